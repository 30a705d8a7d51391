/- The law FifoRoom, for every input. -/
import Derived.Test.YthfohmhipifiaaaGreatZah
import Derived.Test.YthfohmhipifiaaaGreatZad
import Derived.Test.YthfohmhipifiaaaGreatZae
import Derived.StillTail
import Derived.OrdersHeld
import Derived.WideBlind
set_option linter.unusedSimpArgs false
set_option linter.unusedVariables false
/- Calls do what the plain functions say. -/
namespace Go.Proofs.YthfohmhipifiaaaGreat
open Go.IntKind (i64)
open Go.RowKit
namespace Ev
open Mach (oi ok_ite ok_none ok_bind okF okN okH enH en_ite en_none)
set_option linter.unusedVariables false
set_option maxRecDepth 100000
noncomputable def ZlW : Zn → Value
 | .r0 w0 => Value.bool w0
noncomputable def Zlx : Zn → List (Option AObj)
 | .r0 w0 => []

def ZsK : Zx → Nat
 | .h1m0 => 1
 | .h1m1 v4 v5 => 1
 | .h2m0 => 2
 | .h2m1 v2 => 2
 | .h2m2 v2 v3 => 2
 | .h2m3 v2 v3 v4 => 2
section
variable (L0 : List Int) (a1 a2 : Int)
noncomputable def Zua : Zx → List (Nat × Value)
 | .h1m0 => [(0, ms (ZiU .u8) L0), (1, Value.int .u8 a1), (2, Value.int .u8 a2), (7, vi ((1 : Int) + (a2 % 3))), (8, vn), (9, vn), (10, vq)]
 | .h1m1 v4 v5 => [(0, ms (ZiU .u8) L0), (1, Value.int .u8 a1), (2, Value.int .u8 a2), (7, vi ((1 : Int) + (a2 % 3))), (8, vs 0 0 v4.length v4.length), (9, vn), (10, vi (v5 : Int))]
 | .h2m0 => [(1, Value.int .u8 a1), (7, vi ((1 : Int) + (a2 % 3))), (8, vn), (9, vn), (11, vq)]
 | .h2m1 v2 => [(1, Value.int .u8 a1), (7, vi ((1 : Int) + (a2 % 3))), (8, vs 0 0 v2.length v2.length), (9, vn), (11, vq)]
 | .h2m2 v2 v3 => [(1, Value.int .u8 a1), (7, vi ((1 : Int) + (a2 % 3))), (8, vn), (9, vs 0 0 v2.length v2.length), (11, vi (v3 : Int))]
 | .h2m3 v2 v3 v4 => [(1, Value.int .u8 a1), (7, vi ((1 : Int) + (a2 % 3))), (8, vs 0 0 v2.length v2.length), (9, vs 1 0 v3.length v3.length), (11, vi (v4 : Int))]
noncomputable def Zub (L0 : List Int) (a1 a2 : Int) : Zx → List (Option AObj)
 | .h1m0 => []
 | .h1m1 v4 v5 => [some (.cells (Zd RF v4) 25)]
 | .h2m0 => []
 | .h2m1 v2 => [some (.cells (Zd RF v2) 25)]
 | .h2m2 v2 v3 => [some (.cells (Zd RF v2) 25)]
 | .h2m3 v2 v3 v4 => [some (.cells (Zd RF v2) 25), some (.cells (Zd RF v3) 25)]

noncomputable def Zam : Nat → Code × List ZD
 | 1 => ZX [1, 1, 1, 0, 1, 3] (Zaw Tryz.f3) []
 | 2 => ZX [1, 1, 1, 1, 0, 1, 3] (Zaw Tryz.f3) []
 | _ => (.skip, [])
def Zly : Nat → Bool
 | 1 => true
 | 2 => true
 | _ => true
noncomputable def Zci (i : Nat) : List ZD := match Zly i with | true => .rnd i :: (Zam i).2 | false => (Zam i).2

noncomputable def Za1 (N : Nat) : Mach := ⟨Tryz.f3, [], Zx, Zn, ZC L0 a1 a2 N, ZsK, Zam, Zly, Zua L0 a1 a2, Zub L0 a1 a2, ZlW, Zlx⟩

noncomputable abbrev κ8 (a2 : Int) := (vi ((1 : Int) + (a2 % 3)))
theorem ZnL (N : Nat) : (Za1 L0 a1 a2 N).Ok Tryz.prog Zg (.h1m0 : Zx) (ZC L0 a1 a2 N (.h1m0 : Zx)) := by
 show (Za1 L0 a1 a2 N).Ok Tryz.prog Zg (.h1m0 : Zx) (Zca L0 a1 a2 N)
 unfold Zca
 refine oi fun g0 => ?_
 refine oi fun g1 => ?_
 refine oi fun g2 => ?_
 refine oi fun g3 => ?_
 refine ok_ite (fun g4 => ?_) fun g4 => ?_
 ·
  exact okN (Za (oq [1]) [] [(0, 0)] [(0, [.k .u8 (L0.getD 0 0)])] []) [1] [some (ms (ZiU .u8) L0), some (Value.int .u8 a1), some (Value.int .u8 a2), some (κ8 a2), some (vs 1 0 1 1), some (vn), some (vi 1)] (kG (ZiU .u8) L0 (0 + (0 * 1)) 0 0 1 1 <| kB 0 L0.length <| kI 0 (Int.ofNat 0) <| hY g4 Zb) (tC (tC (tC (tC (tC (tC (tC (tE) ⟨Eq.trans (show κP = vi 1 from ci) (by rfl), by rfl⟩)) ⟨Eq.trans (show (vs 0 0 ([(⟨0, 0, 0, (L0.getD 0 0), a2⟩ : RM)] : List RM).length ([(⟨0, 0, 0, (L0.getD 0 0), a2⟩ : RM)] : List RM).length : Value) = vs 0 0 1 1 from (Z0 rfl eqA eqA)) (by rfl), by rfl⟩))))) (bC (o := .cells [Value.int .u8 0, Value.int .u8 0, Value.int .u8 0, Value.int .u8 (L0.getD 0 0), Value.int .u8 a2] 25) (Zae (E := RF) _ (L := ([(⟨0, 0, 0, (L0.getD 0 0), a2⟩ : RM)] : List RM)) _ (show ([Value.int .u8 0, Value.int .u8 0, Value.int .u8 0, Value.int .u8 (L0.getD 0 0), Value.int .u8 a2] : List Value) = Zd RF ([(⟨0, 0, 0, (L0.getD 0 0), a2⟩ : RM)] : List RM) from rfl)) <| bE) (show 1 ∈ Zj (Zci 1) from by decide +kernel)
 exact okH (Zam 2) (Za (oq [0]) [] [] [] []) [] [some (Value.int .u8 a1), some (κ8 a2), some (vn), some (vn), some (vq)] (hN g4 Zb) (tC (tC (tC (tC (tC (tE)))))) bE (show ∀ j ∈ Zj (Zam 2).2, j ∈ Zj (Zci 1) from by decide +kernel)

theorem ZnM (v4 : List RM) (v5 N : Nat) : (Za1 L0 a1 a2 N).Ok Tryz.prog Zg (.h1m1 v4 v5 : Zx) (ZC L0 a1 a2 N (.h1m1 v4 v5 : Zx)) := by
 show (Za1 L0 a1 a2 N).Ok Tryz.prog Zg (.h1m1 v4 v5 : Zx) (Zcb L0 a1 a2 N v4 v5)
 unfold Zcb
 refine oi fun g0 => ?_
 refine oi fun g1 => ?_
 refine oi fun g2 => ?_
 refine oi fun g3 => ?_
 refine ok_ite (fun g4 => ?_) fun g4 => ?_
 ·
  refine ok_ite (fun g5 => ?_) fun g5 => ?_
  ·
   refine oi fun g6 => ?_
   exact okN (Za (oq [1, 3]) [(0, (((v5 + 1) : Nat) : Int))] [(0, v5)] [(0, [.k .u8 (L0.getD v5 0)])] [(0, .ap 1 [Value.int .u8 0, Value.int .u8 0, Value.int .u8 0, Value.int .u8 (L0.getD v5 0), Value.int .u8 a2] (Zd RF (v4 ++ ([(⟨0, 0, 0, (L0.getD v5 0), a2⟩ : RM)] : List RM))))]) [2] [some (ms (ZiU .u8) L0), some (Value.int .u8 a1), some (Value.int .u8 a2), some (κ8 a2), some (vs 2 0 (v4.length + 1) (v4.length + 1)), some (vn), some (vi (((v5 + 1) : Nat) : Int))] (kW ((v5 : Int) + 1) (((v5 + 1) : Nat) : Int) <| kA RF v4 (⟨0, 0, 0, (L0.getD v5 0), a2⟩ : RM) <| kG (ZiU .u8) L0 (0 + (v5 * 1)) v5 0 1 1 <| kB v5 L0.length <| kI (v5 : Int) (Int.ofNat v5) <| hY g5 <| hY g4 Zb) (tC (tC (tC (tC (tC (tC (tC (tE))) ⟨Eq.trans (show (vs 0 0 (v4 ++ ([(⟨0, 0, 0, (L0.getD v5 0), a2⟩ : RM)] : List RM)).length (v4 ++ ([(⟨0, 0, 0, (L0.getD v5 0), a2⟩ : RM)] : List RM)).length : Value) = vs 0 0 (v4.length + 1) (v4.length + 1) from (Z0 rfl eqA eqA)) (by rfl), by rfl⟩))))) (bR <| bE) (show 1 ∈ Zj (Zci 1) from by decide +kernel)
  exact okH (Zam 2) (Za (oq [1, 2]) [] [] [] []) [0] [some (Value.int .u8 a1), some (κ8 a2), some (vs 0 0 v4.length v4.length), some (vn), some (vq)] (hN g5 <| hY g4 Zb) (tC (tC (tC (tC (tC (tE)))))) (bR <| bE) (show ∀ j ∈ Zj (Zam 2).2, j ∈ Zj (Zci 1) from by decide +kernel)
 exact okH (Zam 2) (Za (oq [0]) [] [] [] []) [0] [some (Value.int .u8 a1), some (κ8 a2), some (vs 0 0 v4.length v4.length), some (vn), some (vq)] (hN g4 Zb) (tC (tC (tC (tC (tC (tE)))))) (bR <| bE) (show ∀ j ∈ Zj (Zam 2).2, j ∈ Zj (Zci 1) from by decide +kernel)

noncomputable abbrev κbr := ([ms RB ([(⟨20, 0, 0, 0⟩ : RI)] : List RI), ms RB ([(⟨20, 0, 0, 0⟩ : RI)] : List RI)] : List Value)
noncomputable abbrev κO := (Zd (ZR RB) ([([(⟨20, 0, 0, 0⟩ : RI)] : List RI), ([(⟨20, 0, 0, 0⟩ : RI)] : List RI)] : List (List RI)))
noncomputable abbrev κM := [Value.int .u8 1, Value.int .u8 0, Value.int .u8 0, Value.int .u8 0, Value.int .u8 0]
theorem ZnN (N : Nat) : (Za1 L0 a1 a2 N).Ok Tryz.prog Zg (.h2m0 : Zx) (ZC L0 a1 a2 N (.h2m0 : Zx)) := by
 show (Za1 L0 a1 a2 N).Ok Tryz.prog Zg (.h2m0 : Zx) (Zcc L0 a1 a2 N)
 unfold Zcc
 refine oi fun g0 => ?_
 refine oi fun g1 => ?_
 refine oi fun g2 => ?_
 refine oi fun g3 => ?_
 have w4 := kM a1 5 <| kX ((i64.wrap a1) == a1) true (beq_iff_eq.2 (wrap_i64 ltA)) Zb
 refine ok_ite (fun g4 => ?_) fun g4 => ?_
 ·
  exact okN (Za (oq [1]) [(0, a1), (1, (a1 % 5))] [] [] []) [1] [some (Value.int .u8 a1), some (κ8 a2), some (vn), some (vs 1 0 1 1), some (vi 1)] (hY g4 w4) (tC (tC (tC (tC (tC (tE) ⟨Eq.trans (show κP = vi 1 from ci) (by rfl), by rfl⟩) ⟨Eq.trans (show (vs 0 0 ([(⟨1, 0, 0, 0, 0⟩ : RM)] : List RM).length ([(⟨1, 0, 0, 0, 0⟩ : RM)] : List RM).length : Value) = vs 0 0 1 1 from (Z0 rfl eqA eqA)) (by rfl), by rfl⟩)))) (bC (o := .cells κM 25) (Zae (E := RF) _ (L := ([(⟨1, 0, 0, 0, 0⟩ : RM)] : List RM)) _ (show (κM : List Value) = Zd RF ([(⟨1, 0, 0, 0, 0⟩ : RM)] : List RM) from rfl)) <| bE) (show 2 ∈ Zj (Zci 2) from by decide +kernel)
 refine ok_bind fun z5 c5 => ?_
 cases z5 with
 | r0 =>
  have w6 := kK (tQ (Zr c5) 0) <| hN g4 w4
  refine ok_bind fun z6 c6 => ?_
  cases z6 with
  | r0 =>
   have w7 := kK (tQ (Zr c6) 0) w6
   refine ok_bind fun z7 c7 => ?_
   cases z7 with
   | r0 y7_0 =>
    have w8 := kK (tQ (Zv c7) 0) w7
    refine ok_ite (fun _ => ok_none) (fun g8 => ?_)
    have w9 := kX ((!y7_0)) false nbf w8
    refine ok_bind fun z9 c9 => ?_
    cases z9 with
    | r0 y9_0 y9_1 y9_2 y9_3 =>
     have w10 := kKa (Zf0 c9 [0] 1) <| kX (dP ([ms RB ([(⟨20, 0, 0, 0⟩ : RI)] : List RI), ms RB ([(⟨20, 0, 0, 0⟩ : RI)] : List RI)] = κO)) true (Z1 (show κbr = κO from rfl)) w9
     refine ok_bind fun z10 c10 => ?_
     cases z10 with
     | r0 =>
      exact ok_none
     | r1 y10_0 =>
      have w11 := kK (tQ (Zk c10) 2) w10
      refine ok_bind fun z11 c11 => ?_
      cases z11 with
      | r0 y11_0 =>
       refine oi fun g12 => ?_
       have w13 := kW ((0 : Int) + ((1 : Int) + (a2 % 3))) ((1 : Int) + (a2 % 3)) <| kK (tQ (Zl c11) 6) w11
       refine oi fun g13 => ?_
       have w14 := kT 0 (if (if ((1 : Int) + (a2 % 3)) < 0 then ((1 : Int) + (a2 % 3)) else 0) > 0 then (if ((1 : Int) + (a2 % 3)) < 0 then ((1 : Int) + (a2 % 3)) else 0) else 0) <| kW ((if ((1 : Int) + (a2 % 3)) < 0 then ((1 : Int) + (a2 % 3)) else 0) - 0) (if ((1 : Int) + (a2 % 3)) < 0 then ((1 : Int) + (a2 % 3)) else 0) <| hT g13 w13
       refine ok_ite (fun g14 => ?_) fun g14 => ?_
       ·
        exact okF (Za (oq [0, 6, 17, 19, 21, 23]) [(0, a1), (1, (a1 % 5)), (4, ((1 : Int) + (a2 % 3))), (5, (if ((1 : Int) + (a2 % 3)) < 0 then ((1 : Int) + (a2 % 3)) else 0))] [] [] [(1, (tP (Zr c5)).t), (2, (tP (Zr c6)).t), (3, (tP (Zv c7)).t), (4, (ZF c9 [0] 1).t), (6, (tP (Zk c10)).t), (11, (tP (Zl c11)).t)]) [] (vT) (kY ((0 : Int) ≤ ((1 : Int) + (a2 % 3))) <| hT g14 w14) bE
       exact okF (Za (oq [0, 6, 17, 19, 20]) [(0, a1), (1, (a1 % 5)), (4, ((1 : Int) + (a2 % 3))), (5, (if ((1 : Int) + (a2 % 3)) < 0 then ((1 : Int) + (a2 % 3)) else 0))] [] [] [(1, (tP (Zr c5)).t), (2, (tP (Zr c6)).t), (3, (tP (Zv c7)).t), (4, (ZF c9 [0] 1).t), (6, (tP (Zk c10)).t), (11, (tP (Zl c11)).t)]) [] (vf) (hF g14 w14) bE
      | r1 y11_0 =>
       refine oi fun g12 => ?_
       refine oi fun g13 => ?_
       have w14 := kW ((if ((1 : Int) + (a2 % 3)) < 0 then ((1 : Int) + (a2 % 3)) else 0) - 0) (if ((1 : Int) + (a2 % 3)) < 0 then ((1 : Int) + (a2 % 3)) else 0) <| kW ((0 : Int) + ((1 : Int) + (a2 % 3))) ((1 : Int) + (a2 % 3)) <| kK (tQ (Zl c11) 6) w11
       refine ok_ite (fun g14 => ?_) fun g14 => ?_
       ·
        have w15 := kW ((1 : Int) + (y11_0.length : Int)) (((y11_0.length + 1) : Nat) : Int) <| hT g14 w14
        refine ok_ite (fun g15 => ?_) fun g15 => ?_
        ·
         exact okF (Za (oq [0, 6, 19, 21, 23]) [(0, a1), (1, (a1 % 5)), (4, ((1 : Int) + (a2 % 3))), (5, (if ((1 : Int) + (a2 % 3)) < 0 then ((1 : Int) + (a2 % 3)) else 0)), (6, (((y11_0.length + 1) : Nat) : Int))] [] [] [(1, (tP (Zr c5)).t), (2, (tP (Zr c6)).t), (3, (tP (Zv c7)).t), (4, (ZF c9 [0] 1).t), (6, (tP (Zk c10)).t), (11, (tP (Zl c11)).t)]) [] (vT) (kY ((y11_0.length : Int) ≤ ((1 : Int) + (a2 % 3))) <| hT g15 w15) bE
        exact okF (Za (oq [0, 6, 19, 20]) [(0, a1), (1, (a1 % 5)), (4, ((1 : Int) + (a2 % 3))), (5, (if ((1 : Int) + (a2 % 3)) < 0 then ((1 : Int) + (a2 % 3)) else 0)), (6, (((y11_0.length + 1) : Nat) : Int))] [] [] [(1, (tP (Zr c5)).t), (2, (tP (Zr c6)).t), (3, (tP (Zv c7)).t), (4, (ZF c9 [0] 1).t), (6, (tP (Zk c10)).t), (11, (tP (Zl c11)).t)]) [] (vf) (hF g15 w15) bE
       exact okF (Za (oq [0, 6, 18]) [(0, a1), (1, (a1 % 5)), (4, ((1 : Int) + (a2 % 3))), (5, (if ((1 : Int) + (a2 % 3)) < 0 then ((1 : Int) + (a2 % 3)) else 0))] [] [] [(1, (tP (Zr c5)).t), (2, (tP (Zr c6)).t), (3, (tP (Zv c7)).t), (4, (ZF c9 [0] 1).t), (6, (tP (Zk c10)).t), (11, (tP (Zl c11)).t)]) [] (vf) (hF g14 w14) bE
    | r1 y9_0 y9_1 y9_2 y9_3 y9_4 =>
     have w10 := kKa (Zf1 c9 [0] 1) <| kX (dP ([ms RB ([(⟨20, 0, 0, 0⟩ : RI)] : List RI), ms RB ([(⟨20, 0, 0, 0⟩ : RI)] : List RI)] = κO)) true (Z1 (show κbr = κO from rfl)) w9
     refine ok_bind fun z10 c10 => ?_
     cases z10 with
     | r0 =>
      exact ok_none
     | r1 y10_0 =>
      have w11 := kK (tQ (Zk c10) 2) w10
      refine ok_bind fun z11 c11 => ?_
      cases z11 with
      | r0 y11_0 =>
       refine oi fun g12 => ?_
       refine oi fun g13 => ?_
       have w14 := kW ((0 : Int) + ((1 : Int) + (a2 % 3))) ((1 : Int) + (a2 % 3)) <| kK (tQ (Zl c11) 6) w11
       refine oi fun g14 => ?_
       have w15 := kT 0 (if (if ((1 : Int) + (a2 % 3)) < 0 then ((1 : Int) + (a2 % 3)) else 0) > 0 then (if ((1 : Int) + (a2 % 3)) < 0 then ((1 : Int) + (a2 % 3)) else 0) else 0) <| kW ((if ((1 : Int) + (a2 % 3)) < 0 then ((1 : Int) + (a2 % 3)) else 0) - 0) (if ((1 : Int) + (a2 % 3)) < 0 then ((1 : Int) + (a2 % 3)) else 0) <| hT g14 w14
       refine ok_ite (fun g15 => ?_) fun g15 => ?_
       ·
        exact okF (Za (oq [0, 6, 17, 19, 21, 23]) [(0, a1), (1, (a1 % 5)), (4, ((1 : Int) + (a2 % 3))), (5, (if ((1 : Int) + (a2 % 3)) < 0 then ((1 : Int) + (a2 % 3)) else 0))] [] [] [(1, (tP (Zr c5)).t), (2, (tP (Zr c6)).t), (3, (tP (Zv c7)).t), (4, (ZG c9 [0] 1).t), (6, (tP (Zk c10)).t), (11, (tP (Zl c11)).t)]) [] (vT) (kY ((0 : Int) ≤ ((1 : Int) + (a2 % 3))) <| hT g15 w15) bE
       exact okF (Za (oq [0, 6, 17, 19, 20]) [(0, a1), (1, (a1 % 5)), (4, ((1 : Int) + (a2 % 3))), (5, (if ((1 : Int) + (a2 % 3)) < 0 then ((1 : Int) + (a2 % 3)) else 0))] [] [] [(1, (tP (Zr c5)).t), (2, (tP (Zr c6)).t), (3, (tP (Zv c7)).t), (4, (ZG c9 [0] 1).t), (6, (tP (Zk c10)).t), (11, (tP (Zl c11)).t)]) [] (vf) (hF g15 w15) bE
      | r1 y11_0 =>
       refine oi fun g12 => ?_
       refine oi fun g13 => ?_
       refine oi fun g14 => ?_
       have w15 := kW ((if ((1 : Int) + (a2 % 3)) < 0 then ((1 : Int) + (a2 % 3)) else 0) - 0) (if ((1 : Int) + (a2 % 3)) < 0 then ((1 : Int) + (a2 % 3)) else 0) <| kW ((0 : Int) + ((1 : Int) + (a2 % 3))) ((1 : Int) + (a2 % 3)) <| kK (tQ (Zl c11) 6) w11
       refine ok_ite (fun g15 => ?_) fun g15 => ?_
       ·
        have w16 := kW ((1 : Int) + (y11_0.length : Int)) (((y11_0.length + 1) : Nat) : Int) <| hT g15 w15
        refine ok_ite (fun g16 => ?_) fun g16 => ?_
        ·
         exact okF (Za (oq [0, 6, 19, 21, 23]) [(0, a1), (1, (a1 % 5)), (4, ((1 : Int) + (a2 % 3))), (5, (if ((1 : Int) + (a2 % 3)) < 0 then ((1 : Int) + (a2 % 3)) else 0)), (6, (((y11_0.length + 1) : Nat) : Int))] [] [] [(1, (tP (Zr c5)).t), (2, (tP (Zr c6)).t), (3, (tP (Zv c7)).t), (4, (ZG c9 [0] 1).t), (6, (tP (Zk c10)).t), (11, (tP (Zl c11)).t)]) [] (vT) (kY ((y11_0.length : Int) ≤ ((1 : Int) + (a2 % 3))) <| hT g16 w16) bE
        exact okF (Za (oq [0, 6, 19, 20]) [(0, a1), (1, (a1 % 5)), (4, ((1 : Int) + (a2 % 3))), (5, (if ((1 : Int) + (a2 % 3)) < 0 then ((1 : Int) + (a2 % 3)) else 0)), (6, (((y11_0.length + 1) : Nat) : Int))] [] [] [(1, (tP (Zr c5)).t), (2, (tP (Zr c6)).t), (3, (tP (Zv c7)).t), (4, (ZG c9 [0] 1).t), (6, (tP (Zk c10)).t), (11, (tP (Zl c11)).t)]) [] (vf) (hF g16 w16) bE
       exact okF (Za (oq [0, 6, 18]) [(0, a1), (1, (a1 % 5)), (4, ((1 : Int) + (a2 % 3))), (5, (if ((1 : Int) + (a2 % 3)) < 0 then ((1 : Int) + (a2 % 3)) else 0))] [] [] [(1, (tP (Zr c5)).t), (2, (tP (Zr c6)).t), (3, (tP (Zv c7)).t), (4, (ZG c9 [0] 1).t), (6, (tP (Zk c10)).t), (11, (tP (Zl c11)).t)]) [] (vf) (hF g15 w15) bE

noncomputable abbrev κ1 (y5_0 : List RI) := (Zd (ZR RB) ([y5_0, ([(⟨20, 0, 0, 0⟩ : RI)] : List RI)] : List (List RI)))
theorem ZnO (v2 : List RM) (N : Nat) : (Za1 L0 a1 a2 N).Ok Tryz.prog Zg (.h2m1 v2 : Zx) (ZC L0 a1 a2 N (.h2m1 v2 : Zx)) := by
 show (Za1 L0 a1 a2 N).Ok Tryz.prog Zg (.h2m1 v2 : Zx) (Zcd L0 a1 a2 N v2)
 unfold Zcd
 refine oi fun g0 => ?_
 refine oi fun g1 => ?_
 refine oi fun g2 => ?_
 refine oi fun g3 => ?_
 have w4 := kM a1 5 <| kX ((i64.wrap a1) == a1) true (beq_iff_eq.2 (wrap_i64 ltA)) Zb
 refine ok_ite (fun g4 => ?_) fun g4 => ?_
 ·
  exact okN (Za (oq [1]) [(0, a1), (1, (a1 % 5))] [] [] []) [0, 2] [some (Value.int .u8 a1), some (κ8 a2), some (vs 0 0 v2.length v2.length), some (vs 2 0 1 1), some (vi 1)] (hY g4 w4) (tC (tC (tC (tC (tC (tE) ⟨Eq.trans (show κP = vi 1 from ci) (by rfl), by rfl⟩) ⟨Eq.trans (show (vs 1 0 ([(⟨1, 0, 0, 0, 0⟩ : RM)] : List RM).length ([(⟨1, 0, 0, 0, 0⟩ : RM)] : List RM).length : Value) = vs 1 0 1 1 from (Z0 rfl eqA eqA)) (by rfl), by rfl⟩)))) (bR <| bC (o := .cells κM 25) (Zae (E := RF) _ (L := ([(⟨1, 0, 0, 0, 0⟩ : RM)] : List RM)) _ (show (κM : List Value) = Zd RF ([(⟨1, 0, 0, 0, 0⟩ : RM)] : List RM) from rfl)) <| bE) (show 2 ∈ Zj (Zci 2) from by decide +kernel)
 refine ok_bind fun z5 c5 => ?_
 cases z5 with
 | r0 =>
  exact ok_none
 | r1 y5_0 =>
  have w6 := kK (ZdN c5 [0] 1) <| hN g4 w4
  refine ok_bind fun z6 c6 => ?_
  cases z6 with
  | r0 =>
   have w7 := kK (tQ (Zr c6) 1) w6
   refine ok_bind fun z7 c7 => ?_
   cases z7 with
   | r0 y7_0 =>
    have w8 := kK (tQ (Zv c7) 1) w7
    refine ok_ite (fun _ => ok_none) (fun g8 => ?_)
    have w9 := kX ((!y7_0)) false nbf w8
    refine ok_bind fun z9 c9 => ?_
    cases z9 with
    | r0 y9_0 y9_1 y9_2 y9_3 =>
     have w10 := kKa (Zf0 c9 [1] 2) <| kX (dP ([ms RB y5_0, ms RB ([(⟨20, 0, 0, 0⟩ : RI)] : List RI)] = (κ1 y5_0))) true (Z1 (show ([ms RB y5_0, ms RB ([(⟨20, 0, 0, 0⟩ : RI)] : List RI)] : List Value) = (κ1 y5_0) from rfl)) w9
     refine ok_bind fun z10 c10 => ?_
     cases z10 with
     | r0 =>
      exact ok_none
     | r1 y10_0 =>
      have w11 := kK (tQ (Zk c10) 3) w10
      refine ok_bind fun z11 c11 => ?_
      cases z11 with
      | r0 y11_0 =>
       refine oi fun g12 => ?_
       refine oi fun g13 => ?_
       refine oi fun g14 => ?_
       have w15 := kW ((0 : Int) + ((1 : Int) + (a2 % 3))) ((1 : Int) + (a2 % 3)) <| kK (tQ (Zl c11) 7) w11
       refine oi fun g15 => ?_
       have w16 := kW ((if ((1 : Int) + (a2 % 3)) < (v2.length : Int) then ((1 : Int) + (a2 % 3)) else (v2.length : Int)) - 0) (if ((1 : Int) + (a2 % 3)) < (v2.length : Int) then ((1 : Int) + (a2 % 3)) else (v2.length : Int)) <| hT g15 w15
       refine ok_ite (fun g16 => ?_) fun g16 => ?_
       ·
        refine ok_ite (fun g17 => ?_) fun g17 => ?_
        ·
         exact okF (Za (oq [0, 6, 17, 19, 21, 23]) [(0, a1), (1, (a1 % 5)), (4, ((1 : Int) + (a2 % 3))), (5, (if ((1 : Int) + (a2 % 3)) < (v2.length : Int) then ((1 : Int) + (a2 % 3)) else (v2.length : Int)))] [] [] [(1, (Zm c5 [0] 1).t), (2, (tP (Zr c6)).t), (3, (tP (Zv c7)).t), (4, (ZF c9 [1] 2).t), (6, (tP (Zk c10)).t), (11, (tP (Zl c11)).t)]) [] (vT) (kY ((0 : Int) ≤ ((1 : Int) + (a2 % 3))) <| hT g17 <| hT g16 w16) bE
        exact okF (Za (oq [0, 6, 17, 19, 20]) [(0, a1), (1, (a1 % 5)), (4, ((1 : Int) + (a2 % 3))), (5, (if ((1 : Int) + (a2 % 3)) < (v2.length : Int) then ((1 : Int) + (a2 % 3)) else (v2.length : Int)))] [] [] [(1, (Zm c5 [0] 1).t), (2, (tP (Zr c6)).t), (3, (tP (Zv c7)).t), (4, (ZF c9 [1] 2).t), (6, (tP (Zk c10)).t), (11, (tP (Zl c11)).t)]) [] (vf) (hF g17 <| hT g16 w16) bE
       exact okF (Za (oq [0, 6, 17, 18]) [(0, a1), (1, (a1 % 5)), (4, ((1 : Int) + (a2 % 3))), (5, (if ((1 : Int) + (a2 % 3)) < (v2.length : Int) then ((1 : Int) + (a2 % 3)) else (v2.length : Int)))] [] [] [(1, (Zm c5 [0] 1).t), (2, (tP (Zr c6)).t), (3, (tP (Zv c7)).t), (4, (ZF c9 [1] 2).t), (6, (tP (Zk c10)).t), (11, (tP (Zl c11)).t)]) [] (vf) (hF g16 w16) bE
      | r1 y11_0 =>
       refine oi fun g12 => ?_
       refine oi fun g13 => ?_
       refine oi fun g14 => ?_
       refine oi fun g15 => ?_
       have w16 := kW ((if ((1 : Int) + (a2 % 3)) < (v2.length : Int) then ((1 : Int) + (a2 % 3)) else (v2.length : Int)) - 0) (if ((1 : Int) + (a2 % 3)) < (v2.length : Int) then ((1 : Int) + (a2 % 3)) else (v2.length : Int)) <| kW ((0 : Int) + ((1 : Int) + (a2 % 3))) ((1 : Int) + (a2 % 3)) <| kK (tQ (Zl c11) 7) w11
       refine ok_ite (fun g16 => ?_) fun g16 => ?_
       ·
        have w17 := kW ((1 : Int) + (y11_0.length : Int)) (((y11_0.length + 1) : Nat) : Int) <| hT g16 w16
        refine ok_ite (fun g17 => ?_) fun g17 => ?_
        ·
         exact okF (Za (oq [0, 6, 19, 21, 23]) [(0, a1), (1, (a1 % 5)), (4, ((1 : Int) + (a2 % 3))), (5, (if ((1 : Int) + (a2 % 3)) < (v2.length : Int) then ((1 : Int) + (a2 % 3)) else (v2.length : Int))), (6, (((y11_0.length + 1) : Nat) : Int))] [] [] [(1, (Zm c5 [0] 1).t), (2, (tP (Zr c6)).t), (3, (tP (Zv c7)).t), (4, (ZF c9 [1] 2).t), (6, (tP (Zk c10)).t), (11, (tP (Zl c11)).t)]) [] (vT) (kY ((y11_0.length : Int) ≤ ((1 : Int) + (a2 % 3))) <| hT g17 w17) bE
        exact okF (Za (oq [0, 6, 19, 20]) [(0, a1), (1, (a1 % 5)), (4, ((1 : Int) + (a2 % 3))), (5, (if ((1 : Int) + (a2 % 3)) < (v2.length : Int) then ((1 : Int) + (a2 % 3)) else (v2.length : Int))), (6, (((y11_0.length + 1) : Nat) : Int))] [] [] [(1, (Zm c5 [0] 1).t), (2, (tP (Zr c6)).t), (3, (tP (Zv c7)).t), (4, (ZF c9 [1] 2).t), (6, (tP (Zk c10)).t), (11, (tP (Zl c11)).t)]) [] (vf) (hF g17 w17) bE
       exact okF (Za (oq [0, 6, 18]) [(0, a1), (1, (a1 % 5)), (4, ((1 : Int) + (a2 % 3))), (5, (if ((1 : Int) + (a2 % 3)) < (v2.length : Int) then ((1 : Int) + (a2 % 3)) else (v2.length : Int)))] [] [] [(1, (Zm c5 [0] 1).t), (2, (tP (Zr c6)).t), (3, (tP (Zv c7)).t), (4, (ZF c9 [1] 2).t), (6, (tP (Zk c10)).t), (11, (tP (Zl c11)).t)]) [] (vf) (hF g16 w16) bE
    | r1 y9_0 y9_1 y9_2 y9_3 y9_4 =>
     have w10 := kKa (Zf1 c9 [1] 2) <| kX (dP ([ms RB y5_0, ms RB ([(⟨20, 0, 0, 0⟩ : RI)] : List RI)] = (κ1 y5_0))) true (Z1 (show ([ms RB y5_0, ms RB ([(⟨20, 0, 0, 0⟩ : RI)] : List RI)] : List Value) = (κ1 y5_0) from rfl)) w9
     refine ok_bind fun z10 c10 => ?_
     cases z10 with
     | r0 =>
      exact ok_none
     | r1 y10_0 =>
      have w11 := kK (tQ (Zk c10) 3) w10
      refine ok_bind fun z11 c11 => ?_
      cases z11 with
      | r0 y11_0 =>
       refine oi fun g12 => ?_
       refine oi fun g13 => ?_
       refine oi fun g14 => ?_
       refine oi fun g15 => ?_
       have w16 := kW ((0 : Int) + ((1 : Int) + (a2 % 3))) ((1 : Int) + (a2 % 3)) <| kK (tQ (Zl c11) 7) w11
       refine oi fun g16 => ?_
       have w17 := kW ((if ((1 : Int) + (a2 % 3)) < (v2.length : Int) then ((1 : Int) + (a2 % 3)) else (v2.length : Int)) - 0) (if ((1 : Int) + (a2 % 3)) < (v2.length : Int) then ((1 : Int) + (a2 % 3)) else (v2.length : Int)) <| hT g16 w16
       refine ok_ite (fun g17 => ?_) fun g17 => ?_
       ·
        refine ok_ite (fun g18 => ?_) fun g18 => ?_
        ·
         exact okF (Za (oq [0, 6, 17, 19, 21, 23]) [(0, a1), (1, (a1 % 5)), (4, ((1 : Int) + (a2 % 3))), (5, (if ((1 : Int) + (a2 % 3)) < (v2.length : Int) then ((1 : Int) + (a2 % 3)) else (v2.length : Int)))] [] [] [(1, (Zm c5 [0] 1).t), (2, (tP (Zr c6)).t), (3, (tP (Zv c7)).t), (4, (ZG c9 [1] 2).t), (6, (tP (Zk c10)).t), (11, (tP (Zl c11)).t)]) [] (vT) (kY ((0 : Int) ≤ ((1 : Int) + (a2 % 3))) <| hT g18 <| hT g17 w17) bE
        exact okF (Za (oq [0, 6, 17, 19, 20]) [(0, a1), (1, (a1 % 5)), (4, ((1 : Int) + (a2 % 3))), (5, (if ((1 : Int) + (a2 % 3)) < (v2.length : Int) then ((1 : Int) + (a2 % 3)) else (v2.length : Int)))] [] [] [(1, (Zm c5 [0] 1).t), (2, (tP (Zr c6)).t), (3, (tP (Zv c7)).t), (4, (ZG c9 [1] 2).t), (6, (tP (Zk c10)).t), (11, (tP (Zl c11)).t)]) [] (vf) (hF g18 <| hT g17 w17) bE
       exact okF (Za (oq [0, 6, 17, 18]) [(0, a1), (1, (a1 % 5)), (4, ((1 : Int) + (a2 % 3))), (5, (if ((1 : Int) + (a2 % 3)) < (v2.length : Int) then ((1 : Int) + (a2 % 3)) else (v2.length : Int)))] [] [] [(1, (Zm c5 [0] 1).t), (2, (tP (Zr c6)).t), (3, (tP (Zv c7)).t), (4, (ZG c9 [1] 2).t), (6, (tP (Zk c10)).t), (11, (tP (Zl c11)).t)]) [] (vf) (hF g17 w17) bE
      | r1 y11_0 =>
       refine oi fun g12 => ?_
       refine oi fun g13 => ?_
       refine oi fun g14 => ?_
       refine oi fun g15 => ?_
       refine oi fun g16 => ?_
       have w17 := kW ((if ((1 : Int) + (a2 % 3)) < (v2.length : Int) then ((1 : Int) + (a2 % 3)) else (v2.length : Int)) - 0) (if ((1 : Int) + (a2 % 3)) < (v2.length : Int) then ((1 : Int) + (a2 % 3)) else (v2.length : Int)) <| kW ((0 : Int) + ((1 : Int) + (a2 % 3))) ((1 : Int) + (a2 % 3)) <| kK (tQ (Zl c11) 7) w11
       refine ok_ite (fun g17 => ?_) fun g17 => ?_
       ·
        have w18 := kW ((1 : Int) + (y11_0.length : Int)) (((y11_0.length + 1) : Nat) : Int) <| hT g17 w17
        refine ok_ite (fun g18 => ?_) fun g18 => ?_
        ·
         exact okF (Za (oq [0, 6, 19, 21, 23]) [(0, a1), (1, (a1 % 5)), (4, ((1 : Int) + (a2 % 3))), (5, (if ((1 : Int) + (a2 % 3)) < (v2.length : Int) then ((1 : Int) + (a2 % 3)) else (v2.length : Int))), (6, (((y11_0.length + 1) : Nat) : Int))] [] [] [(1, (Zm c5 [0] 1).t), (2, (tP (Zr c6)).t), (3, (tP (Zv c7)).t), (4, (ZG c9 [1] 2).t), (6, (tP (Zk c10)).t), (11, (tP (Zl c11)).t)]) [] (vT) (kY ((y11_0.length : Int) ≤ ((1 : Int) + (a2 % 3))) <| hT g18 w18) bE
        exact okF (Za (oq [0, 6, 19, 20]) [(0, a1), (1, (a1 % 5)), (4, ((1 : Int) + (a2 % 3))), (5, (if ((1 : Int) + (a2 % 3)) < (v2.length : Int) then ((1 : Int) + (a2 % 3)) else (v2.length : Int))), (6, (((y11_0.length + 1) : Nat) : Int))] [] [] [(1, (Zm c5 [0] 1).t), (2, (tP (Zr c6)).t), (3, (tP (Zv c7)).t), (4, (ZG c9 [1] 2).t), (6, (tP (Zk c10)).t), (11, (tP (Zl c11)).t)]) [] (vf) (hF g18 w18) bE
       exact okF (Za (oq [0, 6, 18]) [(0, a1), (1, (a1 % 5)), (4, ((1 : Int) + (a2 % 3))), (5, (if ((1 : Int) + (a2 % 3)) < (v2.length : Int) then ((1 : Int) + (a2 % 3)) else (v2.length : Int)))] [] [] [(1, (Zm c5 [0] 1).t), (2, (tP (Zr c6)).t), (3, (tP (Zv c7)).t), (4, (ZG c9 [1] 2).t), (6, (tP (Zk c10)).t), (11, (tP (Zl c11)).t)]) [] (vf) (hF g17 w17) bE

noncomputable abbrev κbc (y6_0 : List RI) := [ms RB ([(⟨20, 0, 0, 0⟩ : RI)] : List RI), ms RB y6_0]
noncomputable abbrev κ2 (y6_0 : List RI) := (Zd (ZR RB) ([([(⟨20, 0, 0, 0⟩ : RI)] : List RI), y6_0] : List (List RI)))
theorem ZnP (v2 : List RM) (v3 N : Nat) : (Za1 L0 a1 a2 N).Ok Tryz.prog Zg (.h2m2 v2 v3 : Zx) (ZC L0 a1 a2 N (.h2m2 v2 v3 : Zx)) := by
 show (Za1 L0 a1 a2 N).Ok Tryz.prog Zg (.h2m2 v2 v3 : Zx) (Zce L0 a1 a2 N v2 v3)
 unfold Zce
 refine oi fun g0 => ?_
 refine oi fun g1 => ?_
 refine oi fun g2 => ?_
 refine oi fun g3 => ?_
 have w4 := kM a1 5 <| kX ((i64.wrap a1) == a1) true (beq_iff_eq.2 (wrap_i64 ltA)) Zb
 refine ok_ite (fun g4 => ?_) fun g4 => ?_
 ·
  refine oi fun g5 => ?_
  exact okN (Za (oq [1, 3]) [(0, a1), (1, (a1 % 5)), (2, (((v3 + 1) : Nat) : Int))] [] [] [(1, .ap 1 κM (Zd RF (v2 ++ ([(⟨1, 0, 0, 0, 0⟩ : RM)] : List RM))))]) [2] [some (Value.int .u8 a1), some (κ8 a2), some (vn), some (vs 2 0 (v2.length + 1) (v2.length + 1)), some (κ6 v3)] (kW ((v3 : Int) + 1) (((v3 + 1) : Nat) : Int) <| kA RF v2 (⟨1, 0, 0, 0, 0⟩ : RM) <| kY ((v3 : Int) < 4) <| hY g4 w4) (tC (tC (tC (tC (tC (tE)) ⟨Eq.trans (show (vs 0 0 (v2 ++ ([(⟨1, 0, 0, 0, 0⟩ : RM)] : List RM)).length (v2 ++ ([(⟨1, 0, 0, 0, 0⟩ : RM)] : List RM)).length : Value) = vs 0 0 (v2.length + 1) (v2.length + 1) from (Z0 rfl eqA eqA)) (by rfl), by rfl⟩)))) (bR <| bE) (show 2 ∈ Zj (Zci 2) from by decide +kernel)
 refine ok_bind fun z5 c5 => ?_
 cases z5 with
 | r0 =>
  have w6 := kK (tQ (Zr c5) 1) <| hN g4 w4
  refine ok_bind fun z6 c6 => ?_
  cases z6 with
  | r0 =>
   exact ok_none
  | r1 y6_0 =>
   have w7 := kK (ZdN c6 [0] 1) w6
   refine ok_bind fun z7 c7 => ?_
   cases z7 with
   | r0 y7_0 =>
    have w8 := kK (tQ (Zv c7) 1) w7
    refine ok_ite (fun _ => ok_none) (fun g8 => ?_)
    have w9 := kX ((!y7_0)) false nbf w8
    refine ok_bind fun z9 c9 => ?_
    cases z9 with
    | r0 y9_0 y9_1 y9_2 y9_3 =>
     have w10 := kKa (Zf0 c9 [1] 2) <| kX (dP ((κbc y6_0) = (κ2 y6_0))) true (Z1 (show ((κbc y6_0) : List Value) = (κ2 y6_0) from rfl)) w9
     refine ok_bind fun z10 c10 => ?_
     cases z10 with
     | r0 =>
      exact ok_none
     | r1 y10_0 =>
      have w11 := kK (tQ (Zk c10) 3) w10
      refine ok_bind fun z11 c11 => ?_
      cases z11 with
      | r0 y11_0 =>
       refine oi fun g12 => ?_
       refine oi fun g13 => ?_
       refine oi fun g14 => ?_
       have w15 := kW ((v2.length : Int) + ((1 : Int) + (a2 % 3))) ((v2.length : Int) + ((1 : Int) + (a2 % 3))) <| kK (tQ (Zl c11) 7) w11
       refine oi fun g15 => ?_
       have w16 := kT 0 (if ((if ((v2.length : Int) + ((1 : Int) + (a2 % 3))) < 0 then ((v2.length : Int) + ((1 : Int) + (a2 % 3))) else 0) - (v2.length : Int)) > 0 then ((if ((v2.length : Int) + ((1 : Int) + (a2 % 3))) < 0 then ((v2.length : Int) + ((1 : Int) + (a2 % 3))) else 0) - (v2.length : Int)) else 0) <| kW ((if ((v2.length : Int) + ((1 : Int) + (a2 % 3))) < 0 then ((v2.length : Int) + ((1 : Int) + (a2 % 3))) else 0) - (v2.length : Int)) ((if ((v2.length : Int) + ((1 : Int) + (a2 % 3))) < 0 then ((v2.length : Int) + ((1 : Int) + (a2 % 3))) else 0) - (v2.length : Int)) <| hT g15 w15
       refine ok_ite (fun g16 => ?_) fun g16 => ?_
       ·
        exact okF (Za (oq [0, 6, 17, 19, 21, 23]) [(0, a1), (1, (a1 % 5)), (4, ((v2.length : Int) + ((1 : Int) + (a2 % 3)))), (5, ((if ((v2.length : Int) + ((1 : Int) + (a2 % 3))) < 0 then ((v2.length : Int) + ((1 : Int) + (a2 % 3))) else 0) - (v2.length : Int)))] [] [] [(1, (tP (Zr c5)).t), (2, (Zm c6 [0] 1).t), (3, (tP (Zv c7)).t), (4, (ZF c9 [1] 2).t), (6, (tP (Zk c10)).t), (11, (tP (Zl c11)).t)]) [] (vT) (kY ((0 : Int) ≤ ((1 : Int) + (a2 % 3))) <| hT g16 w16) bE
       exact okF (Za (oq [0, 6, 17, 19, 20]) [(0, a1), (1, (a1 % 5)), (4, ((v2.length : Int) + ((1 : Int) + (a2 % 3)))), (5, ((if ((v2.length : Int) + ((1 : Int) + (a2 % 3))) < 0 then ((v2.length : Int) + ((1 : Int) + (a2 % 3))) else 0) - (v2.length : Int)))] [] [] [(1, (tP (Zr c5)).t), (2, (Zm c6 [0] 1).t), (3, (tP (Zv c7)).t), (4, (ZF c9 [1] 2).t), (6, (tP (Zk c10)).t), (11, (tP (Zl c11)).t)]) [] (vf) (hF g16 w16) bE
      | r1 y11_0 =>
       refine oi fun g12 => ?_
       refine oi fun g13 => ?_
       refine oi fun g14 => ?_
       refine oi fun g15 => ?_
       have w16 := kW ((if ((v2.length : Int) + ((1 : Int) + (a2 % 3))) < 0 then ((v2.length : Int) + ((1 : Int) + (a2 % 3))) else 0) - (v2.length : Int)) ((if ((v2.length : Int) + ((1 : Int) + (a2 % 3))) < 0 then ((v2.length : Int) + ((1 : Int) + (a2 % 3))) else 0) - (v2.length : Int)) <| kW ((v2.length : Int) + ((1 : Int) + (a2 % 3))) ((v2.length : Int) + ((1 : Int) + (a2 % 3))) <| kK (tQ (Zl c11) 7) w11
       refine ok_ite (fun g16 => ?_) fun g16 => ?_
       ·
        have w17 := kW ((1 : Int) + (y11_0.length : Int)) (((y11_0.length + 1) : Nat) : Int) <| hT g16 w16
        refine ok_ite (fun g17 => ?_) fun g17 => ?_
        ·
         exact okF (Za (oq [0, 6, 19, 21, 23]) [(0, a1), (1, (a1 % 5)), (4, ((v2.length : Int) + ((1 : Int) + (a2 % 3)))), (5, ((if ((v2.length : Int) + ((1 : Int) + (a2 % 3))) < 0 then ((v2.length : Int) + ((1 : Int) + (a2 % 3))) else 0) - (v2.length : Int))), (6, (((y11_0.length + 1) : Nat) : Int))] [] [] [(1, (tP (Zr c5)).t), (2, (Zm c6 [0] 1).t), (3, (tP (Zv c7)).t), (4, (ZF c9 [1] 2).t), (6, (tP (Zk c10)).t), (11, (tP (Zl c11)).t)]) [] (vT) (kY ((y11_0.length : Int) ≤ ((1 : Int) + (a2 % 3))) <| hT g17 w17) bE
        exact okF (Za (oq [0, 6, 19, 20]) [(0, a1), (1, (a1 % 5)), (4, ((v2.length : Int) + ((1 : Int) + (a2 % 3)))), (5, ((if ((v2.length : Int) + ((1 : Int) + (a2 % 3))) < 0 then ((v2.length : Int) + ((1 : Int) + (a2 % 3))) else 0) - (v2.length : Int))), (6, (((y11_0.length + 1) : Nat) : Int))] [] [] [(1, (tP (Zr c5)).t), (2, (Zm c6 [0] 1).t), (3, (tP (Zv c7)).t), (4, (ZF c9 [1] 2).t), (6, (tP (Zk c10)).t), (11, (tP (Zl c11)).t)]) [] (vf) (hF g17 w17) bE
       exact okF (Za (oq [0, 6, 18]) [(0, a1), (1, (a1 % 5)), (4, ((v2.length : Int) + ((1 : Int) + (a2 % 3)))), (5, ((if ((v2.length : Int) + ((1 : Int) + (a2 % 3))) < 0 then ((v2.length : Int) + ((1 : Int) + (a2 % 3))) else 0) - (v2.length : Int)))] [] [] [(1, (tP (Zr c5)).t), (2, (Zm c6 [0] 1).t), (3, (tP (Zv c7)).t), (4, (ZF c9 [1] 2).t), (6, (tP (Zk c10)).t), (11, (tP (Zl c11)).t)]) [] (vf) (hF g16 w16) bE
    | r1 y9_0 y9_1 y9_2 y9_3 y9_4 =>
     have w10 := kKa (Zf1 c9 [1] 2) <| kX (dP ((κbc y6_0) = (κ2 y6_0))) true (Z1 (show ((κbc y6_0) : List Value) = (κ2 y6_0) from rfl)) w9
     refine ok_bind fun z10 c10 => ?_
     cases z10 with
     | r0 =>
      exact ok_none
     | r1 y10_0 =>
      have w11 := kK (tQ (Zk c10) 3) w10
      refine ok_bind fun z11 c11 => ?_
      cases z11 with
      | r0 y11_0 =>
       refine oi fun g12 => ?_
       refine oi fun g13 => ?_
       refine oi fun g14 => ?_
       refine oi fun g15 => ?_
       have w16 := kW ((v2.length : Int) + ((1 : Int) + (a2 % 3))) ((v2.length : Int) + ((1 : Int) + (a2 % 3))) <| kK (tQ (Zl c11) 7) w11
       refine oi fun g16 => ?_
       have w17 := kT 0 (if ((if ((v2.length : Int) + ((1 : Int) + (a2 % 3))) < 0 then ((v2.length : Int) + ((1 : Int) + (a2 % 3))) else 0) - (v2.length : Int)) > 0 then ((if ((v2.length : Int) + ((1 : Int) + (a2 % 3))) < 0 then ((v2.length : Int) + ((1 : Int) + (a2 % 3))) else 0) - (v2.length : Int)) else 0) <| kW ((if ((v2.length : Int) + ((1 : Int) + (a2 % 3))) < 0 then ((v2.length : Int) + ((1 : Int) + (a2 % 3))) else 0) - (v2.length : Int)) ((if ((v2.length : Int) + ((1 : Int) + (a2 % 3))) < 0 then ((v2.length : Int) + ((1 : Int) + (a2 % 3))) else 0) - (v2.length : Int)) <| hT g16 w16
       refine ok_ite (fun g17 => ?_) fun g17 => ?_
       ·
        exact okF (Za (oq [0, 6, 17, 19, 21, 23]) [(0, a1), (1, (a1 % 5)), (4, ((v2.length : Int) + ((1 : Int) + (a2 % 3)))), (5, ((if ((v2.length : Int) + ((1 : Int) + (a2 % 3))) < 0 then ((v2.length : Int) + ((1 : Int) + (a2 % 3))) else 0) - (v2.length : Int)))] [] [] [(1, (tP (Zr c5)).t), (2, (Zm c6 [0] 1).t), (3, (tP (Zv c7)).t), (4, (ZG c9 [1] 2).t), (6, (tP (Zk c10)).t), (11, (tP (Zl c11)).t)]) [] (vT) (kY ((0 : Int) ≤ ((1 : Int) + (a2 % 3))) <| hT g17 w17) bE
       exact okF (Za (oq [0, 6, 17, 19, 20]) [(0, a1), (1, (a1 % 5)), (4, ((v2.length : Int) + ((1 : Int) + (a2 % 3)))), (5, ((if ((v2.length : Int) + ((1 : Int) + (a2 % 3))) < 0 then ((v2.length : Int) + ((1 : Int) + (a2 % 3))) else 0) - (v2.length : Int)))] [] [] [(1, (tP (Zr c5)).t), (2, (Zm c6 [0] 1).t), (3, (tP (Zv c7)).t), (4, (ZG c9 [1] 2).t), (6, (tP (Zk c10)).t), (11, (tP (Zl c11)).t)]) [] (vf) (hF g17 w17) bE
      | r1 y11_0 =>
       refine oi fun g12 => ?_
       refine oi fun g13 => ?_
       refine oi fun g14 => ?_
       refine oi fun g15 => ?_
       refine oi fun g16 => ?_
       have w17 := kW ((if ((v2.length : Int) + ((1 : Int) + (a2 % 3))) < 0 then ((v2.length : Int) + ((1 : Int) + (a2 % 3))) else 0) - (v2.length : Int)) ((if ((v2.length : Int) + ((1 : Int) + (a2 % 3))) < 0 then ((v2.length : Int) + ((1 : Int) + (a2 % 3))) else 0) - (v2.length : Int)) <| kW ((v2.length : Int) + ((1 : Int) + (a2 % 3))) ((v2.length : Int) + ((1 : Int) + (a2 % 3))) <| kK (tQ (Zl c11) 7) w11
       refine ok_ite (fun g17 => ?_) fun g17 => ?_
       ·
        have w18 := kW ((1 : Int) + (y11_0.length : Int)) (((y11_0.length + 1) : Nat) : Int) <| hT g17 w17
        refine ok_ite (fun g18 => ?_) fun g18 => ?_
        ·
         exact okF (Za (oq [0, 6, 19, 21, 23]) [(0, a1), (1, (a1 % 5)), (4, ((v2.length : Int) + ((1 : Int) + (a2 % 3)))), (5, ((if ((v2.length : Int) + ((1 : Int) + (a2 % 3))) < 0 then ((v2.length : Int) + ((1 : Int) + (a2 % 3))) else 0) - (v2.length : Int))), (6, (((y11_0.length + 1) : Nat) : Int))] [] [] [(1, (tP (Zr c5)).t), (2, (Zm c6 [0] 1).t), (3, (tP (Zv c7)).t), (4, (ZG c9 [1] 2).t), (6, (tP (Zk c10)).t), (11, (tP (Zl c11)).t)]) [] (vT) (kY ((y11_0.length : Int) ≤ ((1 : Int) + (a2 % 3))) <| hT g18 w18) bE
        exact okF (Za (oq [0, 6, 19, 20]) [(0, a1), (1, (a1 % 5)), (4, ((v2.length : Int) + ((1 : Int) + (a2 % 3)))), (5, ((if ((v2.length : Int) + ((1 : Int) + (a2 % 3))) < 0 then ((v2.length : Int) + ((1 : Int) + (a2 % 3))) else 0) - (v2.length : Int))), (6, (((y11_0.length + 1) : Nat) : Int))] [] [] [(1, (tP (Zr c5)).t), (2, (Zm c6 [0] 1).t), (3, (tP (Zv c7)).t), (4, (ZG c9 [1] 2).t), (6, (tP (Zk c10)).t), (11, (tP (Zl c11)).t)]) [] (vf) (hF g18 w18) bE
       exact okF (Za (oq [0, 6, 18]) [(0, a1), (1, (a1 % 5)), (4, ((v2.length : Int) + ((1 : Int) + (a2 % 3)))), (5, ((if ((v2.length : Int) + ((1 : Int) + (a2 % 3))) < 0 then ((v2.length : Int) + ((1 : Int) + (a2 % 3))) else 0) - (v2.length : Int)))] [] [] [(1, (tP (Zr c5)).t), (2, (Zm c6 [0] 1).t), (3, (tP (Zv c7)).t), (4, (ZG c9 [1] 2).t), (6, (tP (Zk c10)).t), (11, (tP (Zl c11)).t)]) [] (vf) (hF g17 w17) bE

theorem ZnQ (v2 v3 : List RM) (v4 N : Nat) : (Za1 L0 a1 a2 N).Ok Tryz.prog Zg (.h2m3 v2 v3 v4 : Zx) (ZC L0 a1 a2 N (.h2m3 v2 v3 v4 : Zx)) := by
 show (Za1 L0 a1 a2 N).Ok Tryz.prog Zg (.h2m3 v2 v3 v4 : Zx) (Zcf L0 a1 a2 N v2 v3 v4)
 unfold Zcf
 refine oi fun g0 => ?_
 refine oi fun g1 => ?_
 refine oi fun g2 => ?_
 refine oi fun g3 => ?_
 have w4 := kM a1 5 <| kX ((i64.wrap a1) == a1) true (beq_iff_eq.2 (wrap_i64 ltA)) Zb
 refine ok_ite (fun g4 => ?_) fun g4 => ?_
 ·
  refine oi fun g5 => ?_
  exact okN (Za (oq [1, 3]) [(0, a1), (1, (a1 % 5)), (2, (((v4 + 1) : Nat) : Int))] [] [] [(1, .ap 1 κM (Zd RF (v3 ++ ([(⟨1, 0, 0, 0, 0⟩ : RM)] : List RM))))]) [0, 3] [some (Value.int .u8 a1), some (κ8 a2), some (vs 0 0 v2.length v2.length), some (vs 3 0 (v3.length + 1) (v3.length + 1)), some (vi (((v4 + 1) : Nat) : Int))] (kW ((v4 : Int) + 1) (((v4 + 1) : Nat) : Int) <| kA RF v3 (⟨1, 0, 0, 0, 0⟩ : RM) <| kY ((v4 : Int) < 4) <| hY g4 w4) (tC (tC (tC (tC (tC (tE)) ⟨Eq.trans (show (vs 1 0 (v3 ++ ([(⟨1, 0, 0, 0, 0⟩ : RM)] : List RM)).length (v3 ++ ([(⟨1, 0, 0, 0, 0⟩ : RM)] : List RM)).length : Value) = vs 1 0 (v3.length + 1) (v3.length + 1) from (Z0 rfl eqA eqA)) (by rfl), by rfl⟩)))) (bR <| bR <| bE) (show 2 ∈ Zj (Zci 2) from by decide +kernel)
 refine ok_bind fun z5 c5 => ?_
 cases z5 with
 | r0 =>
  exact ok_none
 | r1 y5_0 =>
  have w6 := kK (ZdN c5 [0] 2) <| hN g4 w4
  refine ok_bind fun z6 c6 => ?_
  cases z6 with
  | r0 =>
   exact ok_none
  | r1 y6_0 =>
   have w7 := kK (ZdN c6 [1] 2) w6
   refine ok_bind fun z7 c7 => ?_
   cases z7 with
   | r0 y7_0 =>
    have w8 := kK (tQ (Zv c7) 2) w7
    refine ok_ite (fun _ => ok_none) (fun g8 => ?_)
    have w9 := kX ((!y7_0)) false nbf w8
    refine ok_bind fun z9 c9 => ?_
    cases z9 with
    | r0 y9_0 y9_1 y9_2 y9_3 =>
     have w10 := kKa (Zf0 c9 [2] 3) <| kX (dP ([ms RB y5_0, ms RB y6_0] = (Zd (ZR RB) ([y5_0, y6_0] : List (List RI))))) true (Z1 (show ([ms RB y5_0, ms RB y6_0] : List Value) = (Zd (ZR RB) ([y5_0, y6_0] : List (List RI))) from rfl)) w9
     refine ok_bind fun z10 c10 => ?_
     cases z10 with
     | r0 =>
      exact ok_none
     | r1 y10_0 =>
      have w11 := kK (tQ (Zk c10) 4) w10
      refine ok_bind fun z11 c11 => ?_
      cases z11 with
      | r0 y11_0 =>
       refine oi fun g12 => ?_
       refine oi fun g13 => ?_
       refine oi fun g14 => ?_
       refine oi fun g15 => ?_
       refine oi fun g16 => ?_
       have w17 := kW ((v3.length : Int) + ((1 : Int) + (a2 % 3))) ((v3.length : Int) + ((1 : Int) + (a2 % 3))) <| kK (tQ (Zl c11) 8) w11
       refine oi fun g17 => ?_
       have w18 := kW ((if ((v3.length : Int) + ((1 : Int) + (a2 % 3))) < (v2.length : Int) then ((v3.length : Int) + ((1 : Int) + (a2 % 3))) else (v2.length : Int)) - (v3.length : Int)) ((if ((v3.length : Int) + ((1 : Int) + (a2 % 3))) < (v2.length : Int) then ((v3.length : Int) + ((1 : Int) + (a2 % 3))) else (v2.length : Int)) - (v3.length : Int)) <| hT g17 w17
       refine ok_ite (fun g18 => ?_) fun g18 => ?_
       ·
        refine ok_ite (fun g19 => ?_) fun g19 => ?_
        ·
         exact okF (Za (oq [0, 6, 17, 19, 21, 23]) [(0, a1), (1, (a1 % 5)), (4, ((v3.length : Int) + ((1 : Int) + (a2 % 3)))), (5, ((if ((v3.length : Int) + ((1 : Int) + (a2 % 3))) < (v2.length : Int) then ((v3.length : Int) + ((1 : Int) + (a2 % 3))) else (v2.length : Int)) - (v3.length : Int)))] [] [] [(1, (Zm c5 [0] 2).t), (2, (Zm c6 [1] 2).t), (3, (tP (Zv c7)).t), (4, (ZF c9 [2] 3).t), (6, (tP (Zk c10)).t), (11, (tP (Zl c11)).t)]) [] (vT) (kY ((0 : Int) ≤ ((1 : Int) + (a2 % 3))) <| hT g19 <| hT g18 w18) bE
        exact okF (Za (oq [0, 6, 17, 19, 20]) [(0, a1), (1, (a1 % 5)), (4, ((v3.length : Int) + ((1 : Int) + (a2 % 3)))), (5, ((if ((v3.length : Int) + ((1 : Int) + (a2 % 3))) < (v2.length : Int) then ((v3.length : Int) + ((1 : Int) + (a2 % 3))) else (v2.length : Int)) - (v3.length : Int)))] [] [] [(1, (Zm c5 [0] 2).t), (2, (Zm c6 [1] 2).t), (3, (tP (Zv c7)).t), (4, (ZF c9 [2] 3).t), (6, (tP (Zk c10)).t), (11, (tP (Zl c11)).t)]) [] (vf) (hF g19 <| hT g18 w18) bE
       exact okF (Za (oq [0, 6, 17, 18]) [(0, a1), (1, (a1 % 5)), (4, ((v3.length : Int) + ((1 : Int) + (a2 % 3)))), (5, ((if ((v3.length : Int) + ((1 : Int) + (a2 % 3))) < (v2.length : Int) then ((v3.length : Int) + ((1 : Int) + (a2 % 3))) else (v2.length : Int)) - (v3.length : Int)))] [] [] [(1, (Zm c5 [0] 2).t), (2, (Zm c6 [1] 2).t), (3, (tP (Zv c7)).t), (4, (ZF c9 [2] 3).t), (6, (tP (Zk c10)).t), (11, (tP (Zl c11)).t)]) [] (vf) (hF g18 w18) bE
      | r1 y11_0 =>
       refine oi fun g12 => ?_
       refine oi fun g13 => ?_
       refine oi fun g14 => ?_
       refine oi fun g15 => ?_
       refine oi fun g16 => ?_
       refine oi fun g17 => ?_
       have w18 := kW ((if ((v3.length : Int) + ((1 : Int) + (a2 % 3))) < (v2.length : Int) then ((v3.length : Int) + ((1 : Int) + (a2 % 3))) else (v2.length : Int)) - (v3.length : Int)) ((if ((v3.length : Int) + ((1 : Int) + (a2 % 3))) < (v2.length : Int) then ((v3.length : Int) + ((1 : Int) + (a2 % 3))) else (v2.length : Int)) - (v3.length : Int)) <| kW ((v3.length : Int) + ((1 : Int) + (a2 % 3))) ((v3.length : Int) + ((1 : Int) + (a2 % 3))) <| kK (tQ (Zl c11) 8) w11
       refine ok_ite (fun g18 => ?_) fun g18 => ?_
       ·
        have w19 := kW ((1 : Int) + (y11_0.length : Int)) (((y11_0.length + 1) : Nat) : Int) <| hT g18 w18
        refine ok_ite (fun g19 => ?_) fun g19 => ?_
        ·
         exact okF (Za (oq [0, 6, 19, 21, 23]) [(0, a1), (1, (a1 % 5)), (4, ((v3.length : Int) + ((1 : Int) + (a2 % 3)))), (5, ((if ((v3.length : Int) + ((1 : Int) + (a2 % 3))) < (v2.length : Int) then ((v3.length : Int) + ((1 : Int) + (a2 % 3))) else (v2.length : Int)) - (v3.length : Int))), (6, (((y11_0.length + 1) : Nat) : Int))] [] [] [(1, (Zm c5 [0] 2).t), (2, (Zm c6 [1] 2).t), (3, (tP (Zv c7)).t), (4, (ZF c9 [2] 3).t), (6, (tP (Zk c10)).t), (11, (tP (Zl c11)).t)]) [] (vT) (kY ((y11_0.length : Int) ≤ ((1 : Int) + (a2 % 3))) <| hT g19 w19) bE
        exact okF (Za (oq [0, 6, 19, 20]) [(0, a1), (1, (a1 % 5)), (4, ((v3.length : Int) + ((1 : Int) + (a2 % 3)))), (5, ((if ((v3.length : Int) + ((1 : Int) + (a2 % 3))) < (v2.length : Int) then ((v3.length : Int) + ((1 : Int) + (a2 % 3))) else (v2.length : Int)) - (v3.length : Int))), (6, (((y11_0.length + 1) : Nat) : Int))] [] [] [(1, (Zm c5 [0] 2).t), (2, (Zm c6 [1] 2).t), (3, (tP (Zv c7)).t), (4, (ZF c9 [2] 3).t), (6, (tP (Zk c10)).t), (11, (tP (Zl c11)).t)]) [] (vf) (hF g19 w19) bE
       exact okF (Za (oq [0, 6, 18]) [(0, a1), (1, (a1 % 5)), (4, ((v3.length : Int) + ((1 : Int) + (a2 % 3)))), (5, ((if ((v3.length : Int) + ((1 : Int) + (a2 % 3))) < (v2.length : Int) then ((v3.length : Int) + ((1 : Int) + (a2 % 3))) else (v2.length : Int)) - (v3.length : Int)))] [] [] [(1, (Zm c5 [0] 2).t), (2, (Zm c6 [1] 2).t), (3, (tP (Zv c7)).t), (4, (ZF c9 [2] 3).t), (6, (tP (Zk c10)).t), (11, (tP (Zl c11)).t)]) [] (vf) (hF g18 w18) bE
    | r1 y9_0 y9_1 y9_2 y9_3 y9_4 =>
     have w10 := kKa (Zf1 c9 [2] 3) <| kX (dP ([ms RB y5_0, ms RB y6_0] = (Zd (ZR RB) ([y5_0, y6_0] : List (List RI))))) true (Z1 (show ([ms RB y5_0, ms RB y6_0] : List Value) = (Zd (ZR RB) ([y5_0, y6_0] : List (List RI))) from rfl)) w9
     refine ok_bind fun z10 c10 => ?_
     cases z10 with
     | r0 =>
      exact ok_none
     | r1 y10_0 =>
      have w11 := kK (tQ (Zk c10) 4) w10
      refine ok_bind fun z11 c11 => ?_
      cases z11 with
      | r0 y11_0 =>
       refine oi fun g12 => ?_
       refine oi fun g13 => ?_
       refine oi fun g14 => ?_
       refine oi fun g15 => ?_
       refine oi fun g16 => ?_
       refine oi fun g17 => ?_
       have w18 := kW ((v3.length : Int) + ((1 : Int) + (a2 % 3))) ((v3.length : Int) + ((1 : Int) + (a2 % 3))) <| kK (tQ (Zl c11) 8) w11
       refine oi fun g18 => ?_
       have w19 := kW ((if ((v3.length : Int) + ((1 : Int) + (a2 % 3))) < (v2.length : Int) then ((v3.length : Int) + ((1 : Int) + (a2 % 3))) else (v2.length : Int)) - (v3.length : Int)) ((if ((v3.length : Int) + ((1 : Int) + (a2 % 3))) < (v2.length : Int) then ((v3.length : Int) + ((1 : Int) + (a2 % 3))) else (v2.length : Int)) - (v3.length : Int)) <| hT g18 w18
       refine ok_ite (fun g19 => ?_) fun g19 => ?_
       ·
        refine ok_ite (fun g20 => ?_) fun g20 => ?_
        ·
         exact okF (Za (oq [0, 6, 17, 19, 21, 23]) [(0, a1), (1, (a1 % 5)), (4, ((v3.length : Int) + ((1 : Int) + (a2 % 3)))), (5, ((if ((v3.length : Int) + ((1 : Int) + (a2 % 3))) < (v2.length : Int) then ((v3.length : Int) + ((1 : Int) + (a2 % 3))) else (v2.length : Int)) - (v3.length : Int)))] [] [] [(1, (Zm c5 [0] 2).t), (2, (Zm c6 [1] 2).t), (3, (tP (Zv c7)).t), (4, (ZG c9 [2] 3).t), (6, (tP (Zk c10)).t), (11, (tP (Zl c11)).t)]) [] (vT) (kY ((0 : Int) ≤ ((1 : Int) + (a2 % 3))) <| hT g20 <| hT g19 w19) bE
        exact okF (Za (oq [0, 6, 17, 19, 20]) [(0, a1), (1, (a1 % 5)), (4, ((v3.length : Int) + ((1 : Int) + (a2 % 3)))), (5, ((if ((v3.length : Int) + ((1 : Int) + (a2 % 3))) < (v2.length : Int) then ((v3.length : Int) + ((1 : Int) + (a2 % 3))) else (v2.length : Int)) - (v3.length : Int)))] [] [] [(1, (Zm c5 [0] 2).t), (2, (Zm c6 [1] 2).t), (3, (tP (Zv c7)).t), (4, (ZG c9 [2] 3).t), (6, (tP (Zk c10)).t), (11, (tP (Zl c11)).t)]) [] (vf) (hF g20 <| hT g19 w19) bE
       exact okF (Za (oq [0, 6, 17, 18]) [(0, a1), (1, (a1 % 5)), (4, ((v3.length : Int) + ((1 : Int) + (a2 % 3)))), (5, ((if ((v3.length : Int) + ((1 : Int) + (a2 % 3))) < (v2.length : Int) then ((v3.length : Int) + ((1 : Int) + (a2 % 3))) else (v2.length : Int)) - (v3.length : Int)))] [] [] [(1, (Zm c5 [0] 2).t), (2, (Zm c6 [1] 2).t), (3, (tP (Zv c7)).t), (4, (ZG c9 [2] 3).t), (6, (tP (Zk c10)).t), (11, (tP (Zl c11)).t)]) [] (vf) (hF g19 w19) bE
      | r1 y11_0 =>
       refine oi fun g12 => ?_
       refine oi fun g13 => ?_
       refine oi fun g14 => ?_
       refine oi fun g15 => ?_
       refine oi fun g16 => ?_
       refine oi fun g17 => ?_
       refine oi fun g18 => ?_
       have w19 := kW ((if ((v3.length : Int) + ((1 : Int) + (a2 % 3))) < (v2.length : Int) then ((v3.length : Int) + ((1 : Int) + (a2 % 3))) else (v2.length : Int)) - (v3.length : Int)) ((if ((v3.length : Int) + ((1 : Int) + (a2 % 3))) < (v2.length : Int) then ((v3.length : Int) + ((1 : Int) + (a2 % 3))) else (v2.length : Int)) - (v3.length : Int)) <| kW ((v3.length : Int) + ((1 : Int) + (a2 % 3))) ((v3.length : Int) + ((1 : Int) + (a2 % 3))) <| kK (tQ (Zl c11) 8) w11
       refine ok_ite (fun g19 => ?_) fun g19 => ?_
       ·
        have w20 := kW ((1 : Int) + (y11_0.length : Int)) (((y11_0.length + 1) : Nat) : Int) <| hT g19 w19
        refine ok_ite (fun g20 => ?_) fun g20 => ?_
        ·
         exact okF (Za (oq [0, 6, 19, 21, 23]) [(0, a1), (1, (a1 % 5)), (4, ((v3.length : Int) + ((1 : Int) + (a2 % 3)))), (5, ((if ((v3.length : Int) + ((1 : Int) + (a2 % 3))) < (v2.length : Int) then ((v3.length : Int) + ((1 : Int) + (a2 % 3))) else (v2.length : Int)) - (v3.length : Int))), (6, (((y11_0.length + 1) : Nat) : Int))] [] [] [(1, (Zm c5 [0] 2).t), (2, (Zm c6 [1] 2).t), (3, (tP (Zv c7)).t), (4, (ZG c9 [2] 3).t), (6, (tP (Zk c10)).t), (11, (tP (Zl c11)).t)]) [] (vT) (kY ((y11_0.length : Int) ≤ ((1 : Int) + (a2 % 3))) <| hT g20 w20) bE
        exact okF (Za (oq [0, 6, 19, 20]) [(0, a1), (1, (a1 % 5)), (4, ((v3.length : Int) + ((1 : Int) + (a2 % 3)))), (5, ((if ((v3.length : Int) + ((1 : Int) + (a2 % 3))) < (v2.length : Int) then ((v3.length : Int) + ((1 : Int) + (a2 % 3))) else (v2.length : Int)) - (v3.length : Int))), (6, (((y11_0.length + 1) : Nat) : Int))] [] [] [(1, (Zm c5 [0] 2).t), (2, (Zm c6 [1] 2).t), (3, (tP (Zv c7)).t), (4, (ZG c9 [2] 3).t), (6, (tP (Zk c10)).t), (11, (tP (Zl c11)).t)]) [] (vf) (hF g20 w20) bE
       exact okF (Za (oq [0, 6, 18]) [(0, a1), (1, (a1 % 5)), (4, ((v3.length : Int) + ((1 : Int) + (a2 % 3)))), (5, ((if ((v3.length : Int) + ((1 : Int) + (a2 % 3))) < (v2.length : Int) then ((v3.length : Int) + ((1 : Int) + (a2 % 3))) else (v2.length : Int)) - (v3.length : Int)))] [] [] [(1, (Zm c5 [0] 2).t), (2, (Zm c6 [1] 2).t), (3, (tP (Zv c7)).t), (4, (ZG c9 [2] 3).t), (6, (tP (Zk c10)).t), (11, (tP (Zl c11)).t)]) [] (vf) (hF g19 w19) bE

theorem Zrj (N : Nat) : (Za1 L0 a1 a2 N).Enter Tryz.prog Zg #[ms (ZiU .u8) L0, Value.int .u8 a1, Value.int .u8 a2] (Zep L0 a1 a2 N) := by
 unfold Zep
 refine en_ite (fun g0 => ?_) (fun _ => en_none)
 refine en_ite (fun g1 => ?_) (fun _ => en_none)
 refine en_ite (fun g2 => ?_) (fun _ => en_none)
 refine en_ite (fun g3 => ?_) (fun _ => en_none)
 exact enH (Zam 1) (Za (oq []) [(0, a2), (1, (a2 % 3)), (2, ((1 : Int) + (a2 % 3)))] [] [] []) [] [some (ms (ZiU .u8) L0), some (Value.int .u8 a1), some (Value.int .u8 a2), some (κ8 a2), some (vn), some (vn), some (vq)] (kW ((1 : Int) + (a2 % 3)) ((1 : Int) + (a2 % 3)) <| kM a2 3 <| kX ((i64.wrap a2) == a2) true (beq_iff_eq.2 (wrap_i64 ltA)) Zb) (tC (tC (tC (tC (tC (tC (tC (tE)))))))) bE (show Zj (Zam 1).2 = [] from rfl)

theorem ZoO (N : Nat) (r : Zn) (h : Zjc L0 a1 a2 N = some r) : LSpec Tryz.prog 3 #[ms (ZiU .u8) L0, Value.int .u8 a1, Value.int .u8 a2] [] (ZlW r) (Zlx r) :=
 Mach.spec ZB (Za1 L0 a1 a2 N) Tryz.func3 (by kernel_rfl) (by kernel_rfl) (fun x => by cases x <;> exact Zu _ rfl) (fun r => by cases r <;> exact Zu _ rfl) (fun x => by
  cases x with
  | h1m0 => exact fun _ => (show ¬ (1 ∈ Zj (Zam 1).2) from by decide +kernel)
  | h1m1 _ _ => exact fun _ => (show ¬ (1 ∈ Zj (Zam 1).2) from by decide +kernel)
  | h2m0 => exact fun _ => (show ¬ (2 ∈ Zj (Zam 2).2) from by decide +kernel)
  | h2m1 _ => exact fun _ => (show ¬ (2 ∈ Zj (Zam 2).2) from by decide +kernel)
  | h2m2 _ _ => exact fun _ => (show ¬ (2 ∈ Zj (Zam 2).2) from by decide +kernel)
  | h2m3 _ _ _ => exact fun _ => (show ¬ (2 ∈ Zj (Zam 2).2) from by decide +kernel)
  ) (fun x => (show (Za1 L0 a1 a2 N).Ok Tryz.prog Zg x (ZC L0 a1 a2 N x) from by
  cases x with
  | h1m0 => exact ZnL L0 a1 a2 N
  | h1m1 v4 v5 => exact ZnM L0 a1 a2 v4 v5 N
  | h2m0 => exact ZnN L0 a1 a2 N
  | h2m1 v2 => exact ZnO L0 a1 a2 v2 N
  | h2m2 v2 v3 => exact ZnP L0 a1 a2 v2 v3 N
  | h2m3 v2 v3 v4 => exact ZnQ L0 a1 a2 v2 v3 v4 N
  )) (Zrj L0 a1 a2 N) (n := N) h

end
end Ev
end Go.Proofs.YthfohmhipifiaaaGreat
namespace Go.Proofs.YthfohmhipifiaaaGreat
open Go.RowKit
namespace Ev
section
variable {X R : Type} {step : X → Option (X ⊕ R)} {n : Nat} {x y : X} {r : R}
theorem ZN (h : step x = some (.inl y)) : Zcj step (n + 1) x = Zcj step n y := by simp [Zcj, h]
theorem Zdo (h : step x = some (.inr r)) : Zcj step (n + 1) x = some r := by simp [Zcj, h]
theorem Zk0 : ∀ {n m : Nat} {x : X} {r : R}, n ≤ m → Zcj step n x = some r → Zcj step m x = some r
 | 0, _, _, _, _, h => by cases h
 | n + 1, 0, _, _, h, _ => by omega
 | n + 1, m + 1, x, r, h, e => by
  simp only [Zcj] at e ⊢
  cases hs : step x with
  | none => rw [hs] at e; cases e
  | some y =>
   rw [hs] at e
   cases y with
   | inl y => exact Zk0 (by omega) e
   | inr r' => exact e
theorem Zf3 {o : Option (X ⊕ R)} (h : o = some (.inl x)) : goM step n o = Zcj step n x := by subst h; rfl
end
section
variable {α : Type}
theorem Zz9 {L : List α} {i : Nat} {d : α} (h : L.length ≤ i) : L.getD i d = d := by simp [List.getElem?_eq_none h]
end
theorem ZzW {α : Type} {c : Prop} [Decidable c] {a b r : α} (h : c) (e : a = r) : (if c then a else b) = r := by rw [if_pos h]; exact e
theorem Znj {α : Type} {c : Prop} [Decidable c] {a b r : α} (h : ¬ c) (e : b = r) : (if c then a else b) = r := by rw [if_neg h]; exact e
theorem ZcN {α β : Type} {o : Option α} {a : α} {k : α → Option β} {r : Option β} (h : o = some a) (e : k a = r) : o.bind k = r := by rw [h]; exact e
set_option maxRecDepth 100000
set_option linter.unusedVariables false
theorem Z2y (n : Int) (K : Nat) (h0 : 0 ≤ n) (h1 : n ≤ 255) : ZdJ 1 1 n 0 K = some (.r0 true) := by
 have e : Zdz 2 n 0 K = some (.r0 true) := by
  unfold Zdz
  rw [if_neg (by decide), if_pos rfl, if_pos (by omega), if_pos (by omega)]
 unfold ZdJ
 show ((Zdz 2 n 0 K).bind _) = _
 rw [e]; rfl
def itk {X R : Type} (step : X → Option (X ⊕ R)) : Nat → X → Option X
 | 0, x => some x
 | n + 1, x => match step x with
  | some (.inl y) => itk step n y
  | _ => none
theorem seg {X R : Type} {step : X → Option (X ⊕ R)} : ∀ (k : Nat) {n : Nat} {x y : X}, itk step k x = some y → Zcj step (n + k) x = Zcj step n y
 | 0, _, _, _, h => by cases h; rfl
 | k + 1, n, x, y, h => by
  show Zcj step ((n + k) + 1) x = _
  cases e : step x with
  | none => simp [itk, e] at h
  | some z => cases z with
   | inr r => simp [itk, e] at h
   | inl z => rw [ZN e]; exact seg k (by simpa [itk, e] using h)
theorem wr0 {L : List RI} {K pc : Nat} {n : Int} (hp : pc < L.length) (e : L.getD pc RI.z = ⟨1, 1, n, 0⟩) (hl : pc < 1000) (h0 : 0 ≤ n) (h1 : n ≤ 255) : Zba L K (.h1m0 pc) = some (.inl (.h1m0 (pc + 1))) := by
 have s : ∀ p : Int, ZeH 1 1 n 0 p K = some (.r1 true) := fun _ => rfl
 have a : (pc : Int) < (L.length : Int) := by omega
 have b : (((pc + 1) : Nat) : Int) ≤ (9223372036854775807 : Int) := by omega
 have c : ¬ ¬ (true = true) := fun h => h rfl
 refine Eq.trans (show _ = Zem L K pc from rfl) ?_
 unfold Zem
 rw [if_pos a, e]
 rw [s, Option.bind_some]
 dsimp only
 rw [Z2y n K h0 h1, Option.bind_some]
 dsimp only
 rw [if_neg c, if_neg c, if_pos b]
theorem wr1 {L : List RI} {K pc : Nat} {n : Int} (hp : pc < L.length) (e : L.getD pc RI.z = ⟨1, 1, n, 0⟩) (hl : pc < 1000) (h0 : 0 ≤ n) (h1 : n ≤ 255) : Zba L K (.h1m1 [] pc) = some (.inl (.h1m1 [] (pc + 1))) := by
 have s : ∀ p : Int, ZdA [] 1 1 n 0 p K = some (.r0 [] true) := fun _ => rfl
 have a : (pc : Int) < (L.length : Int) := by omega
 have b : (((pc + 1) : Nat) : Int) ≤ (9223372036854775807 : Int) := by omega
 have c : ¬ ¬ (true = true) := fun h => h rfl
 refine Eq.trans (show _ = Zen L K [] pc from rfl) ?_
 unfold Zen
 rw [if_pos a, e]
 rw [s, Option.bind_some]
 dsimp only
 rw [Z2y n K h0 h1, Option.bind_some]
 dsimp only
 rw [if_neg c, if_neg c, if_pos b]
def pu (n m s : Int) : List RI := [⟨10, 0, 0, 0⟩, ⟨1, 1, n, 0⟩, ⟨1, 2, m, 0⟩, ⟨1, 3, 1, 0⟩, ⟨15, 0, 0, 0⟩, ⟨13, 6, 0, (8 + 0)⟩, ⟨6, 5, 6, 2⟩, ⟨9, 5, (s + 19), 0⟩, ⟨11, 4, 2, 1⟩, ⟨14, 4, 1, 1⟩, ⟨13, 5, 0, ((2 * 0) + 1)⟩, ⟨9, 5, (s + 14), 0⟩, ⟨14, 5, 0, 4⟩, ⟨8, (s + 15), 0, 0⟩, ⟨14, 0, (2 * 0), 4⟩, ⟨14, 0, ((2 * 0) + 1), 4⟩, ⟨4, 6, 6, 3⟩, ⟨14, 0, (8 + 0), 6⟩, ⟨8, (s + 20), 0, 0⟩, ⟨18, 0, 0, 0⟩, ⟨1, 7, 1, 0⟩, ⟨17, 0, 0, 0⟩]
theorem doC (L : List RG) (p : Nat) (n : Int) (K : Nat) (h0 : 0 ≤ n) (h1 : n ≤ 255) (hp : p < 500) : Zbu L p 1 1 n 0 2 1048577 K = (ZeM L 1 1 n K).bind fun r => match r with | .r0 y => some (.r0 y ((p : Int) + 1) 0) := by
 have a : ¬ (p : Int) < 0 := by omega
 have b : ¬ 511 < (p : Int) := by omega
 have c : ¬ ¬ (true = true) := fun h => h rfl
 have m : Zha L 1 1 n 0 2 1048577 K = some (.r0 1 n 0) := rfl
 unfold Zbu
 rw [Z2y n K h0 h1, Option.bind_some]
 dsimp only
 rw [if_neg c, if_pos (by decide), if_pos (by decide), if_neg a, if_neg b, if_neg (by decide), if_neg (by decide), m, Option.bind_some]
 dsimp only
 rw [if_neg (by decide)]
theorem on2 {L : List RI} {L4 L5 v15 v1 : List RG} {K p v2 : Nat} {a2 a3 n : Int} (hp : p < L.length) (e : L.getD p RI.z = ⟨1, 1, n, 0⟩) (hl : p < 500) (hv : v2 < 1000) (h0 : 0 ≤ n) (h1 : n ≤ 255) : Zda L 0 a2 a3 L4 L5 K (.h1m2 v1 v2 p v15) = some (.inl (.h1m2 v1 (v2 + 1) ((p : Int) + 1) (match ZeM v15 1 1 n K with | some (.r0 y) => y | none => []))) := by
 have a : (v2 : Int) ≤ 1048576 := by omega
 have b : ¬ (v2 : Int) = 1048576 := by omega
 have c : ¬ (L.length : Int) ≤ (p : Int) := by omega
 have d : (0 : Int) ≤ (p : Int) := by omega
 have t : ZcA v15 1 1 n 0 K = some (.r0 0 0 false) := rfl
 have x : ZeM v15 1 1 n K = some (.r0 (match ZeM v15 1 1 n K with | some (.r0 y) => y | none => [])) := rfl
 refine Eq.trans (show _ = ZfN L 0 a2 a3 L4 L5 K v1 v2 p v15 from rfl) ?_
 unfold ZfN
 rw [if_pos a, if_pos rfl, if_neg c, if_pos d, Int.toNat_natCast, e]
 dsimp only
 rw [if_neg (by decide), if_pos (by decide), if_pos (by decide), if_neg b, t, Option.bind_some]
 dsimp only
 rw [if_neg (by decide), doC v15 p n K h0 h1 hl, x, Option.bind_some]
 rfl
def bd (m : Int) (n : Nat → Int) : Nat → Nat → List RI
 | 0, _ => [⟨20, 0, 0, 0⟩]
 | p + 1, i => pu (n i) m (23 * (i : Int)) ++ (⟨19, 7, 0, 0⟩ :: bd m n p (i + 1))
theorem Z36 {m : Int} (hm : m = 1 ∨ m = 2 ∨ m = 3) {n : Nat → Int} (h : ∀ i, 0 ≤ n i ∧ n i ≤ 255) {p : Nat} (hp : p = 1 ∨ p = 2 ∨ p = 3 ∨ p = 4) : Zhu (bd m n p 0) 100000 = some (.r0 (-1)) := by
 have st : ∀ i : Nat, i < p → Zba (bd m n p 0) 100000 (if i = 0 then .h1m0 1 else .h1m1 [] (23 * i + 1)) = some (.inl (if i = 0 then .h1m0 2 else .h1m1 [] (23 * i + 2))) := by
  intro i hi
  have hi' : i = 0 ∨ i = 1 ∨ i = 2 ∨ i = 3 := by omega
  obtain ⟨x, y⟩ := h i
  rcases hi' with rfl | rfl | rfl | rfl
  ·exact wr0 (n := n 0) (by rcases hp with rfl | rfl | rfl | rfl <;> exact of_decide_eq_true (by kernel_rfl)) (by rcases hp with rfl | rfl | rfl | rfl <;> rfl) (by omega) x y
  all_goals exact wr1 (by rcases hp with rfl | rfl | rfl | rfl <;> first | omega | exact of_decide_eq_true (by kernel_rfl)) (by rcases hp with rfl | rfl | rfl | rfl <;> first | omega | rfl) (by omega) x y
 have nx : ∀ d i : Nat, i + d + 1 = p → Zcj (Zba (bd m n p 0) 100000) (99998 - 23 * i) (if i = 0 then .h1m0 2 else .h1m1 [] (23 * i + 2)) = some (.r0 (-1)) := by
  intro d
  induction d with
  | zero =>
   intro i hi
   obtain rfl : i = p - 1 := by omega
   rcases hp with rfl | rfl | rfl | rfl <;> rcases hm with rfl | rfl | rfl <;> kernel_rfl
  | succ d ih =>
   intro i hi
   have e : 99998 - 23 * i = (99998 - 23 * (i + 1) + 1) + 22 := by omega
   have sg : itk (Zba (bd m n p 0) 100000) 22 (if i = 0 then .h1m0 2 else .h1m1 [] (23 * i + 2)) = some (if i + 1 = 0 then .h1m0 1 else .h1m1 [] (23 * (i + 1) + 1)) := by
    have hi' : i = 0 ∨ i = 1 ∨ i = 2 := by omega
    rcases hp with rfl | rfl | rfl | rfl <;> rcases hm with rfl | rfl | rfl <;> rcases hi' with rfl | rfl | rfl <;> first | omega | (show _ = _; kernel_rfl)
   rw [e]
   exact (seg 22 sg).trans ((ZN (st (i + 1) (by omega))).trans (ih (i + 1) (by omega)))
 unfold Zhu
 have e : Zh6 (bd m n p 0) 100000 = some (.inl (.h1m0 0)) := by
  rcases hp with rfl | rfl | rfl | rfl <;> rcases hm with rfl | rfl | rfl <;> kernel_rfl
 have s0 : itk (Zba (bd m n p 0) 100000) 1 (.h1m0 0) = some (.h1m0 1) := by
  rcases hp with rfl | rfl | rfl | rfl <;> rcases hm with rfl | rfl | rfl <;> kernel_rfl
 refine (Zf3 e).trans ((seg (n := 99999) 1 s0).trans ?_)
 exact (ZN (n := 99998) (st 0 (by omega))).trans (nx (p - 1) 0 (by omega))
theorem onP {m : Int} (hm : m = 1 ∨ m = 2 ∨ m = 3) {n : Nat → Int} (h : ∀ i, 0 ≤ n i ∧ n i ≤ 255) {p : Nat} (hp : p = 1 ∨ p = 2 ∨ p = 3 ∨ p = 4) (a0 a1 a2 a3 b4 b5 b6 : RG) {i : Nat} (hi : i < p) : ZhK (bd m n p 0) 0 0 ((if i = 0 then 0 else 23 * i - 1 : Nat) : Int) [a0, a1, a2, a3, b4, b5, b6, ⟨1, if i = 0 then 0 else 1⟩] (List.replicate (i - 1) ⟨1, 1⟩) 100000 = some (.r0 0 0 ((23 * i + 4 : Nat) : Int) [⟨2, 1048577⟩, ⟨1, n i⟩, ⟨1, m⟩, ⟨1, 1⟩, b4, b5, b6, ⟨1, if i = 0 then 0 else 1⟩] (List.replicate i ⟨1, 1⟩)) := by
 have ll : 23 * i + 1 < (bd m n p 0).length := by
  have hi' : i = 0 ∨ i = 1 ∨ i = 2 ∨ i = 3 := by omega
  rcases hp with rfl | rfl | rfl | rfl <;> rcases hi' with rfl | rfl | rfl | rfl <;> first | omega | exact of_decide_eq_true (by kernel_rfl)
 have ee : (bd m n p 0).getD (23 * i + 1) RI.z = ⟨1, 1, n i, 0⟩ := by
  have hi' : i = 0 ∨ i = 1 ∨ i = 2 ∨ i = 3 := by omega
  rcases hp with rfl | rfl | rfl | rfl <;> rcases hi' with rfl | rfl | rfl | rfl <;> first | omega | rfl
 have k := @on2 (bd m n p 0) [a0, a1, a2, a3, b4, b5, b6, ⟨1, if i = 0 then 0 else 1⟩] (List.replicate (i - 1) ⟨1, 1⟩) [⟨2, 1048577⟩, a1, a2, a3, b4, b5, b6, ⟨1, if i = 0 then 0 else 1⟩] (List.replicate i ⟨1, 1⟩) 100000 (23 * i + 1) (if i = 0 then 1 else 2) 0 ((if i = 0 then 0 else 23 * i - 1 : Nat) : Int) (n i) ll ee (by omega) (by split <;> omega) (h i).1 (h i).2
 have q : Zcj (Zda (bd m n p 0) 0 0 ((if i = 0 then 0 else 23 * i - 1 : Nat) : Int) [a0, a1, a2, a3, b4, b5, b6, ⟨1, if i = 0 then 0 else 1⟩] (List.replicate (i - 1) ⟨1, 1⟩) 100000) 99997 (.h1m2 (List.replicate i ⟨1, 1⟩) (if i = 0 then 1 else 2) ((23 * i + 1 : Nat) : Int) [⟨2, 1048577⟩, a1, a2, a3, b4, b5, b6, ⟨1, if i = 0 then 0 else 1⟩]) = some (.r0 0 0 ((23 * i + 4 : Nat) : Int) [⟨2, 1048577⟩, ⟨1, n i⟩, ⟨1, m⟩, ⟨1, 1⟩, b4, b5, b6, ⟨1, if i = 0 then 0 else 1⟩] (List.replicate i ⟨1, 1⟩)) := by
  refine (ZN (n := 99996) k).trans ?_
  have hi' : i = 0 ∨ i = 1 ∨ i = 2 ∨ i = 3 := by omega
  rcases hp with rfl | rfl | rfl | rfl <;> rcases hm with rfl | rfl | rfl <;> rcases hi' with rfl | rfl | rfl | rfl <;> first | omega | (show _ = _; kernel_rfl)
 unfold ZhK
 have gi : Zkp (bd m n p 0) 0 0 ((if i = 0 then 0 else 23 * i - 1 : Nat) : Int) [a0, a1, a2, a3, b4, b5, b6, ⟨1, if i = 0 then 0 else 1⟩] (List.replicate (i - 1) ⟨1, 1⟩) 100000 = some (.inl (.h1m0 (List.replicate (i - 1) ⟨1, 1⟩))) := by
  have hi' : i = 0 ∨ i = 1 ∨ i = 2 ∨ i = 3 := by omega
  rcases hi' with rfl | rfl | rfl | rfl <;> (show _ = _; kernel_rfl)
 have sg : itk (Zda (bd m n p 0) 0 0 ((if i = 0 then 0 else 23 * i - 1 : Nat) : Int) [a0, a1, a2, a3, b4, b5, b6, ⟨1, if i = 0 then 0 else 1⟩] (List.replicate (i - 1) ⟨1, 1⟩) 100000) (if i = 0 then 1 else 2) (.h1m0 (List.replicate (i - 1) ⟨1, 1⟩)) = some (.h1m2 (List.replicate i ⟨1, 1⟩) (if i = 0 then 1 else 2) ((23 * i + 1 : Nat) : Int) [⟨2, 1048577⟩, a1, a2, a3, b4, b5, b6, ⟨1, if i = 0 then 0 else 1⟩]) := by
  have hi' : i = 0 ∨ i = 1 ∨ i = 2 ∨ i = 3 := by omega
  rcases hp with rfl | rfl | rfl | rfl <;> rcases hm with rfl | rfl | rfl <;> rcases hi' with rfl | rfl | rfl | rfl <;> first | omega | (show _ = _; kernel_rfl)
 refine (Zf3 gi).trans ?_
 have e : ∀ (S : ZQ → Option (ZQ ⊕ ZH)) (x : ZQ), Zcj S 100000 x = Zcj S ((100000 - (if i = 0 then 1 else 2)) + (if i = 0 then 1 else 2)) x := fun S x => congrArg (fun k => Zcj S k x) (by split <;> omega)
 exact (e _ _).trans ((seg _ sg).trans (Zk0 (by split <;> omega) q))
abbrev rw0 (i : Nat) (a0 a1 a2 a3 b4 b5 b6 : RG) : RL := ⟨0, 0, ((if i = 0 then 0 else 23 * i - 1 : Nat) : Int), a0.a0, a0.a1, a1.a0, a1.a1, a2.a0, a2.a1, a3.a0, a3.a1, b4.a0, b4.a1, b5.a0, b5.a1, b6.a0, b6.a1, 1, if i = 0 then 0 else 1, List.replicate (i - 1) ⟨1, 1⟩⟩
theorem Z0O {m : Int} (hm : m = 1 ∨ m = 2 ∨ m = 3) {n : Nat → Int} (h : ∀ i, 0 ≤ n i ∧ n i ≤ 255) {p : Nat} (hp : p = 1 ∨ p = 2 ∨ p = 3 ∨ p = 4) (a0 a1 a2 a3 b4 b5 b6 : RG) {i : Nat} (hi : i < p) (Q : List RI) (s : RL) (O : List RJ) : ZdP [bd m n p 0, Q] [rw0 i a0 a1 a2 a3 b4 b5 b6, s] O 0 100000 = some (.r1 0 0 ((23 * i + 4 : Nat) : Int) [⟨2, 1048577⟩, ⟨1, n i⟩, ⟨1, m⟩, ⟨1, 1⟩, b4, b5, b6, ⟨1, if i = 0 then 0 else 1⟩] (List.replicate i ⟨1, 1⟩) 2) := by
 unfold ZdP
 rw [if_neg (by decide), if_neg (by show ¬ (2 : Int) ≤ 0; decide), if_neg (by show ¬ ¬ (0 : Int) = 0; decide), if_pos (by show 0 < 2; omega)]
 refine Eq.trans (congrArg (fun o => Option.bind o _) (onP hm h hp a0 a1 a2 a3 b4 b5 b6 hi)) ?_
 have hi' : i = 0 ∨ i = 1 ∨ i = 2 ∨ i = 3 := by omega
 rcases hp with rfl | rfl | rfl | rfl <;> rcases hi' with rfl | rfl | rfl | rfl <;> first | omega | (show _ = _; kernel_rfl)
theorem Z1C {m : Int} (hm : m = 1 ∨ m = 2 ∨ m = 3) {n : Nat → Int} (h : ∀ i, 0 ≤ n i ∧ n i ≤ 255) {p : Nat} (hp : p = 1 ∨ p = 2 ∨ p = 3 ∨ p = 4) : Zd0 (bd m n p 0) 100000 = some (.r0 0) := by
 unfold Zd0
 rw [Z36 hm h hp, Option.bind_some]
 rfl
noncomputable abbrev mtP (p : Nat) : List Int := match ZeX (bd 1 (fun _ => 0) p 0) 100000 with | some (.r1 l) => l | _ => []
theorem Z1D {m : Int} (hm : m = 1 ∨ m = 2 ∨ m = 3) {n : Nat → Int} (h : ∀ i, 0 ≤ n i ∧ n i ≤ 255) {p : Nat} (hp : p = 1 ∨ p = 2 ∨ p = 3 ∨ p = 4) : ZeX (bd m n p 0) 100000 = some (.r1 (mtP p)) := by
 have e : ZfO (bd m n p 0) 100000 = some (.inl .h1m0) := by
  unfold ZfO
  rw [Z1C hm h hp, Option.bind_some]
  rfl
 unfold ZeX
 refine (Zf3 e).trans ?_
 rcases hp with rfl | rfl | rfl | rfl <;> rcases hm with rfl | rfl | rfl <;> (show _ = _; kernel_rfl)
def nd (n : Nat → Int) (t i j k : Nat) : RJ := ⟨2, ((1048594 + k : Nat) : Int), 1, 2, 1, if k < j then 3 else 2, 0, [⟨2, if t ≤ k ∧ k + 1 < i then ((1048595 + k : Nat) : Int) else 0⟩, ⟨1, n k⟩]⟩
def rt (i j : Nat) : RJ := ⟨2, 1048577, 1, 16, 255, 2, 0, [⟨2, if j < i then ((1048594 + j : Nat) : Int) else 0⟩, ⟨2, if j < i then ((1048593 + i : Nat) : Int) else 0⟩, ⟨2, 0⟩, ⟨2, 0⟩, ⟨2, 0⟩, ⟨2, 0⟩, ⟨2, 0⟩, ⟨2, 0⟩, ⟨1, ((i - j : Nat) : Int)⟩, ⟨1, 0⟩, ⟨1, 0⟩, ⟨1, 0⟩, ⟨1, 0⟩, ⟨1, 0⟩, ⟨1, 0⟩, ⟨1, 0⟩]⟩
def obs (n : Nat → Int) (t i j : Nat) : List RJ := rt i j :: (List.range i).map (nd n t i j)
theorem Z37 {m : Int} (hm : m = 1 ∨ m = 2 ∨ m = 3) {n : Nat → Int} (h : ∀ i, 0 ≤ n i ∧ n i ≤ 255) {p : Nat} (hp : p = 1 ∨ p = 2 ∨ p = 3 ∨ p = 4) (b4 b5 b6 : RG) {i : Nat} (hi : i < p) {t : Nat} (ht : t = 0 ∨ t = 1 ∨ t = 2 ∨ t = 3 ∨ t = 4) (hr : ((i - t : Nat) : Int) < m) : ZbD (bd m n p 0) 0 (obs n t i (min i t)) [⟨2, 1048577⟩, ⟨1, n i⟩, ⟨1, m⟩, ⟨1, 1⟩, b4, b5, b6, ⟨1, if i = 0 then 0 else 1⟩] ((23 * i + 4 : Nat) : Int) (List.replicate i ⟨1, 1⟩) 0 0 [⟨2, ((1048594 + i : Nat) : Int)⟩] 100000 = some (.r0 (obs n t (i + 1) (min i t)) [⟨2, 1048577⟩, ⟨1, n i⟩, ⟨1, m⟩, ⟨1, 1⟩, ⟨2, ((1048594 + i : Nat) : Int)⟩, ⟨2, if min i t < i then ((1048593 + i : Nat) : Int) else 0⟩, ⟨1, ((i - min i t + 1 : Nat) : Int)⟩, ⟨1, 1⟩] ((23 * i + 22 : Nat) : Int) (List.replicate i ⟨1, 1⟩) 1 0 0 true) := by
 have e : ∀ (L2 : List RJ) (L3 L5 L8 : List RG) (a4 : Int), ZdL (bd m n p 0) 0 L2 L3 a4 L5 0 0 L8 2097152000 100000 = some (.inl (.h1m0 (mtP p))) := fun L2 L3 L5 L8 a4 => by
  unfold ZdL
  rw [Z1D hm h hp, Option.bind_some]
 unfold ZbD Zfa
 refine Eq.trans (congrArg (fun o => Option.bind o _) (Zf3 (e _ _ _ _ _))) ?_
 have hi' : i = 0 ∨ i = 1 ∨ i = 2 ∨ i = 3 := by omega
 rcases hp with rfl | rfl | rfl | rfl <;> rcases hm with rfl | rfl | rfl <;> rcases hi' with rfl | rfl | rfl | rfl <;> rcases ht with rfl | rfl | rfl | rfl | rfl <;> first | omega | (show _ = _; kernel_rfl)
theorem unitP {m : Int} (hm : m = 1 ∨ m = 2 ∨ m = 3) {n : Nat → Int} (h : ∀ i, 0 ≤ n i ∧ n i ≤ 255) {p : Nat} (hp : p = 1 ∨ p = 2 ∨ p = 3 ∨ p = 4) (b4 b5 b6 : RG) {i : Nat} (hi : i < p) {t : Nat} (ht : t = 0 ∨ t = 1 ∨ t = 2 ∨ t = 3 ∨ t = 4) (hr : ((i - t : Nat) : Int) < m) (Q : List RI) (L1 : List RL) : Zd4 [bd m n p 0, Q] L1 (obs n t i (min i t)) 0 0 0 ((23 * i + 4 : Nat) : Int) [⟨2, 1048577⟩, ⟨1, n i⟩, ⟨1, m⟩, ⟨1, 1⟩, b4, b5, b6, ⟨1, if i = 0 then 0 else 1⟩] (List.replicate i ⟨1, 1⟩) [⟨2, ((1048594 + i : Nat) : Int)⟩] 100000 = some (.r0 (obs n t (i + 1) (min i t)) [⟨2, 1048577⟩, ⟨1, n i⟩, ⟨1, m⟩, ⟨1, 1⟩, ⟨2, ((1048594 + i : Nat) : Int)⟩, ⟨2, if min i t < i then ((1048593 + i : Nat) : Int) else 0⟩, ⟨1, ((i - min i t + 1 : Nat) : Int)⟩, ⟨1, 1⟩] ((23 * i + 22 : Nat) : Int) (List.replicate i ⟨1, 1⟩) 1 0 0 true) := by
 have hi' : i = 0 ∨ i = 1 ∨ i = 2 ∨ i = 3 := by omega
 have ll : ((23 * i + 4 : Nat) : Int).toNat < (([bd m n p 0, Q] : List (List RI)).getD (0 : Int).toNat []).length := by
  rcases hp with rfl | rfl | rfl | rfl <;> rcases hi' with rfl | rfl | rfl | rfl <;> first | omega | exact of_decide_eq_true (by kernel_rfl)
 have ee : ((([bd m n p 0, Q] : List (List RI)).getD (0 : Int).toNat []).getD ((23 * i + 4 : Nat) : Int).toNat RI.z).a0 = 15 := by
  rcases hp with rfl | rfl | rfl | rfl <;> rcases hi' with rfl | rfl | rfl | rfl <;> first | omega | rfl
 unfold Zd4
 rw [if_pos (by decide), if_pos (by show 0 < 2; omega), if_pos (by omega), if_pos ll, if_pos ee]
 refine Eq.trans (congrArg (fun o => Option.bind o _) (Z37 hm h hp b4 b5 b6 hi ht hr)) ?_
 rfl
abbrev prw (n : Nat → Int) (m : Int) (t : Nat) : Nat → RL
 | 0 => ⟨0, 0, 0, 1, 0, 1, 0, 1, 0, 1, 0, 1, 0, 1, 0, 1, 0, 1, 0, []⟩
 | i + 1 => rw0 (i + 1) ⟨2, 1048577⟩ ⟨1, n i⟩ ⟨1, m⟩ ⟨1, 1⟩ ⟨2, ((1048594 + i : Nat) : Int)⟩ ⟨2, if min i t < i then ((1048593 + i : Nat) : Int) else 0⟩ ⟨1, ((i - min i t + 1 : Nat) : Int)⟩
abbrev trw (n : Nat → Int) : Nat → RL
 | 0 => ⟨0, 0, 0, 1, 0, 1, 0, 1, 0, 1, 0, 1, 0, 1, 0, 1, 0, 1, 0, []⟩
 | j + 1 => ⟨0, 0, ((21 * j + 20 : Nat) : Int), 2, 1048577, 1, 0, 1, 0, 1, 1, 2, ((1048594 + j : Nat) : Int), 2, 0, 1, 0, 1, n j, (List.range j).map fun k => ⟨1, n k⟩⟩
set_option maxRecDepth 100000
set_option linter.unusedVariables false
def ta (s : Int) : List RI := [⟨10, 0, 0, 0⟩, ⟨1, 1, 0, 0⟩, ⟨1, 2, 0, 0⟩, ⟨1, 3, 1, 0⟩, ⟨15, 0, 0, 0⟩, ⟨13, 4, 0, 2 * 0⟩, ⟨9, 4, s + 18, 0⟩, ⟨13, 7, 4, 1⟩, ⟨13, 5, 4, 0⟩, ⟨14, 0, 2 * 0, 5⟩, ⟨9, 5, s + 12, 0⟩, ⟨8, s + 13, 0, 0⟩, ⟨14, 0, 2 * 0 + 1, 5⟩, ⟨13, 6, 0, 8 + 0⟩, ⟨5, 6, 6, 3⟩, ⟨14, 0, 8 + 0, 6⟩, ⟨12, 4, 0, 0⟩, ⟨8, s + 19, 0, 0⟩, ⟨18, 0, 0, 0⟩, ⟨17, 0, 0, 0⟩]
def tk : Nat → Nat → List RI
 | 0, _ => [⟨20, 0, 0, 0⟩]
 | t + 1, i => ta (21 * (i : Int)) ++ (⟨19, 7, 0, 0⟩ :: tk t (i + 1))
def bkQ : Option Zeo → Option (Int × Int × Bool)
 | some (.r0 _ _ _ _ u _ e o) => some (u, e, o)
 | none => none
theorem Z38 : ∀ {x : Option Zeo} {u e : Int} {o : Bool}, bkQ x = some (u, e, o) → ∃ O R p E k, x = some (.r0 O R p E u k e o)
 | some (.r0 O R p E u k e o), _, _, _, h => by cases h; exact ⟨O, R, p, E, k, rfl⟩
section
variable {m : Int} (hm : m = 1 ∨ m = 2 ∨ m = 3) {n : Nat → Int} (h : ∀ i, 0 ≤ n i ∧ n i ≤ 255) {p : Nat} (hp : p = 1 ∨ p = 2 ∨ p = 3 ∨ p = 4) {i : Nat} (hi : i < p) {t : Nat} (ht : t = 0 ∨ t = 1 ∨ t = 2 ∨ t = 3 ∨ t = 4)
include hm h hp hi ht
abbrev rgs (n : Nat → Int) (m : Int) (i : Nat) (b4 b5 b6 : RG) : List RG := [⟨2, 1048577⟩, ⟨1, n i⟩, ⟨1, m⟩, ⟨1, 1⟩, b4, b5, b6, ⟨1, if i = 0 then 0 else 1⟩]
theorem Zuc (L2 : List RJ) (L3 L5 L8 : List RG) (a4 : Int) : ZdL (bd m n p 0) 0 L2 L3 a4 L5 0 0 L8 2097152000 100000 = some (.inl (.h1m0 (mtP p))) := by
 have _ := And.intro hi ht
 unfold ZdL
 rw [Z1D hm h hp, Option.bind_some]
theorem Z39 (b4 b5 b6 : RG) (hr : ((i - t : Nat) : Int) < m) : bkQ (ZbD (bd m n p 0) 0 (obs n t i (min i t)) (rgs n m i b4 b5 b6) ((23 * i + 4 : Nat) : Int) (List.replicate i ⟨1, 1⟩) 0 0 [] 100000) = some (1, 0, true) := by
 unfold ZbD Zfa
 refine Eq.trans (congrArg (fun o => bkQ (Option.bind o _)) (Zf3 (Zuc hm h hp hi ht _ _ _ _ _))) ?_
 have hi' : i = 0 ∨ i = 1 ∨ i = 2 ∨ i = 3 := by omega
 rcases hp with rfl | rfl | rfl | rfl <;> rcases hm with rfl | rfl | rfl <;> rcases hi' with rfl | rfl | rfl | rfl <;> rcases ht with rfl | rfl | rfl | rfl | rfl <;> first | omega | (show _ = _; kernel_rfl)
theorem Z3A (b4 b5 b6 : RG) (hr : ((i - t : Nat) : Int) = m) (W : List RG) : bkQ (ZbD (bd m n p 0) 0 (obs n t i (min i t)) (rgs n m i b4 b5 b6) ((23 * i + 4 : Nat) : Int) (List.replicate i ⟨1, 1⟩) 0 0 W 100000) = some (0, 0, false) := by
 unfold ZbD Zfa
 refine Eq.trans (congrArg (fun o => bkQ (Option.bind o _)) (Zf3 (Zuc hm h hp hi ht _ _ _ _ _))) ?_
 have hi' : i = 0 ∨ i = 1 ∨ i = 2 ∨ i = 3 := by omega
 rcases hp with rfl | rfl | rfl | rfl <;> rcases hm with rfl | rfl | rfl <;> rcases hi' with rfl | rfl | rfl | rfl <;> rcases ht with rfl | rfl | rfl | rfl | rfl <;> first | omega | (show _ = _; kernel_rfl)
end
set_option maxRecDepth 100000
set_option linter.unusedVariables false
section
variable {m : Int} (hm : m = 1 ∨ m = 2 ∨ m = 3) {n : Nat → Int} (h : ∀ i, 0 ≤ n i ∧ n i ≤ 255) {p : Nat} (hp : p = 1 ∨ p = 2 ∨ p = 3 ∨ p = 4) {i : Nat} (hi : i < p) {t : Nat} (ht : t = 0 ∨ t = 1 ∨ t = 2 ∨ t = 3 ∨ t = 4)
include hm h hp hi ht
theorem at15 (Q : List RI) : ((23 * i + 4 : Nat) : Int).toNat < (([bd m n p 0, Q] : List (List RI)).getD (0 : Int).toNat []).length ∧ ((([bd m n p 0, Q] : List (List RI)).getD (0 : Int).toNat []).getD ((23 * i + 4 : Nat) : Int).toNat RI.z).a0 = 15 := by
 have _ := And.intro hm (And.intro h ht)
 have hi' : i = 0 ∨ i = 1 ∨ i = 2 ∨ i = 3 := by omega
 refine ⟨?_, ?_⟩
 ·rcases hp with rfl | rfl | rfl | rfl <;> rcases hi' with rfl | rfl | rfl | rfl <;> first | omega | exact of_decide_eq_true (by kernel_rfl)
 ·rcases hp with rfl | rfl | rfl | rfl <;> rcases hi' with rfl | rfl | rfl | rfl <;> first | omega | rfl
theorem Z3c (b4 b5 b6 : RG) (Q : List RI) (L1 : List RL) (W : List RG) {u e : Int} {o : Bool} (hb : bkQ (ZbD (bd m n p 0) 0 (obs n t i (min i t)) (rgs n m i b4 b5 b6) ((23 * i + 4 : Nat) : Int) (List.replicate i ⟨1, 1⟩) 0 0 W 100000) = some (u, e, o)) : ∃ O R q E k, Zd4 [bd m n p 0, Q] L1 (obs n t i (min i t)) 0 0 0 ((23 * i + 4 : Nat) : Int) (rgs n m i b4 b5 b6) (List.replicate i ⟨1, 1⟩) W 100000 = some (.r0 O R q E u k e o) := by
 obtain ⟨O, R, q, E, k, e⟩ := Z38 hb
 obtain ⟨ll, ee⟩ := at15 hm h hp hi ht Q
 refine ⟨O, R, q, E, k, ?_⟩
 unfold Zd4
 rw [if_pos (by decide), if_pos (by show 0 < 2; omega), if_pos (by omega), if_pos ll, if_pos ee]
 refine Eq.trans (congrArg (fun o => Option.bind o _) e) ?_
 rfl
theorem Z27 (a0 a1 a2 a3 b4 b5 b6 : RG) (Q : List RI) (s : RL) (W : List RG) {u : Int} {o b : Bool} (hb : bkQ (ZbD (bd m n p 0) 0 (obs n t i (min i t)) (rgs n m i b4 b5 b6) ((23 * i + 4 : Nat) : Int) (List.replicate i ⟨1, 1⟩) 0 0 W 100000) = some (u, 0, o)) (hu : o = true → ¬ u = (W.length : Int)) (f : Zea [bd m n p 0, Q] [rw0 i a0 a1 a2 a3 b4 b5 b6, s] (obs n t i (min i t)) W 100000 = some (.r0 b)) : ZdM [bd m n p 0, Q] [rw0 i a0 a1 a2 a3 b4 b5 b6, s] (obs n t i (min i t)) 2 0 ((23 * i + 4 : Nat) : Int) 0 0 0 W 0 100000 = some (.r0 [rw0 i a0 a1 a2 a3 b4 b5 b6, s] (obs n t i (min i t)) 200) := by
 obtain ⟨O, R, q, E, k, e⟩ := Z3c hm h hp hi ht b4 b5 b6 Q [rw0 i a0 a1 a2 a3 b4 b5 b6, s] W hb
 unfold ZdM
 rw [Z0O hm h hp a0 a1 a2 a3 b4 b5 b6 hi, Option.bind_some]
 dsimp only
 rw [if_neg (by decide), if_neg (fun c => c rfl), if_neg (by decide), if_neg (by decide), f, Option.bind_some]
 dsimp only
 cases b with
 | false => rw [if_pos (by decide)]
 | true =>
  rw [if_neg (by decide), e, Option.bind_some]
  dsimp only
  cases o with
  | false => rw [if_pos (by decide)]
  | true => rw [if_neg (by decide), if_neg (by decide), if_pos (hu rfl)]
theorem Z2z (L0 : List (List RI)) (L1 : List RL) : Zea L0 L1 (obs n t i (min i t)) [⟨2, ((1048594 + i : Nat) : Int)⟩] 100000 = some (.r0 true) := by
 have _ := And.intro hm h
 have hi' : i = 0 ∨ i = 1 ∨ i = 2 ∨ i = 3 := by omega
 clear hp hi
 rcases hi' with rfl | rfl | rfl | rfl <;> rcases ht with rfl | rfl | rfl | rfl | rfl <;> (show _ = _; kernel_rfl)
theorem Z3B (a0 a1 a2 a3 b4 b5 b6 : RG) (Q : List RI) (s : RL) (hr : ((i - t : Nat) : Int) < m) : ZdM [bd m n p 0, Q] [rw0 i a0 a1 a2 a3 b4 b5 b6, s] (obs n t i (min i t)) 2 0 ((23 * i + 4 : Nat) : Int) 0 0 0 [⟨2, ((1048594 + i : Nat) : Int)⟩] 0 100000 = some (.r0 [prw n m t (i + 1), s] (obs n t (i + 1) (min i t)) 0) := by
 unfold ZdM
 rw [Z0O hm h hp a0 a1 a2 a3 b4 b5 b6 hi, Option.bind_some]
 dsimp only
 rw [if_neg (by decide), if_neg (fun c => c rfl), if_neg (by decide), if_neg (by decide), Z2z hm h hp hi ht, Option.bind_some]
 dsimp only
 rw [if_neg (by decide), unitP hm h hp b4 b5 b6 hi ht hr, Option.bind_some]
 dsimp only
 rw [if_neg (by decide), if_neg (by decide), if_neg (fun c => c rfl)]
 rfl
end
set_option maxRecDepth 100000
set_option linter.unusedVariables false
section
variable {m : Int} (hm : m = 1 ∨ m = 2 ∨ m = 3) {n : Nat → Int} (h : ∀ i, 0 ≤ n i ∧ n i ≤ 255) {p : Nat} (hp : p = 1 ∨ p = 2 ∨ p = 3 ∨ p = 4) {i : Nat} (hi : i < p) {t : Nat} (ht : t = 0 ∨ t = 1 ∨ t = 2 ∨ t = 3 ∨ t = 4)
include hm h hp hi ht
abbrev idn (i k : Nat) : RG := ⟨2, IntKind.i64.wrap (IntKind.i64.wrap (1048594 + (i : Int)) + (k : Int))⟩
section
variable (a0 a1 a2 a3 b4 b5 b6 : RG) (Q : List RI) (s : RL)
theorem ZzX : ZgC [bd m n p 0, Q] [rw0 i a0 a1 a2 a3 b4 b5 b6, s] (obs n t i (min i t)) 0 i 100000 = some (.inl (.h1m0 0 2 ((23 * i + 4 : Nat) : Int) [])) := by
 have _ := ht
 unfold ZgC
 rw [Z0O hm h hp a0 a1 a2 a3 b4 b5 b6 hi, Option.bind_some]
 dsimp only
 rw [if_neg (by decide)]
theorem Znk {k : Nat} (hk : k < 4) (a0 a1 a2 a3 b4 b5 b6 : RG) (Q : List RI) (s : RL) {W : List RG} (hW : W.length < 10) (hd : ZdM [bd m n p 0, Q] [rw0 i a0 a1 a2 a3 b4 b5 b6, s] (obs n t i (min i t)) 2 0 ((23 * i + 4 : Nat) : Int) 0 0 0 W 0 100000 = some (.r0 [rw0 i a0 a1 a2 a3 b4 b5 b6, s] (obs n t i (min i t)) 200)) : Zfo [bd m n p 0, Q] [rw0 i a0 a1 a2 a3 b4 b5 b6, s] (obs n t i (min i t)) 0 i 100000 (.h1m0 k 2 ((23 * i + 4 : Nat) : Int) W) = some (.inl (.h1m0 (k + 1) 2 ((23 * i + 4 : Nat) : Int) (W ++ [idn i k]))) := by
 have _ := And.intro hm (And.intro h (And.intro hp (And.intro hi ht)))
 refine Eq.trans (show _ = Zdc [bd m n p 0, Q] [rw0 i a0 a1 a2 a3 b4 b5 b6, s] (obs n t i (min i t)) 0 i 100000 k 2 ((23 * i + 4 : Nat) : Int) W from rfl) ?_
 unfold Zdc
 rw [if_pos (by omega), hd, Option.bind_some]
 dsimp only
 rw [if_neg (by decide), if_pos (by omega)]
theorem Z1E (hr : ((i - t : Nat) : Int) < m) : Zbt [bd m n p 0, Q] [rw0 i a0 a1 a2 a3 b4 b5 b6, s] (obs n t i (min i t)) 0 i 100000 = some (.r0 [prw n m t (i + 1), s] (obs n t (i + 1) (min i t)) ((i + 1 : Nat) : Int) true) := by
 have hi' : i = 0 ∨ i = 1 ∨ i = 2 ∨ i = 3 := by omega
 have f : ∀ L0 L1, Zea L0 L1 (obs n t i (min i t)) [] 100000 = some (.r0 true) := by
  intro L0 L1
  clear hp hi
  rcases hi' with rfl | rfl | rfl | rfl <;> rcases ht with rfl | rfl | rfl | rfl | rfl <;> (show _ = _; kernel_rfl)
 have e1 : ([] : List RG) ++ [idn i 0] = [⟨2, ((1048594 + i : Nat) : Int)⟩] := by
  rcases hi' with rfl | rfl | rfl | rfl <;> (show _ = _; kernel_rfl)
 unfold Zbt
 refine (Zf3 (ZzX hm h hp hi ht a0 a1 a2 a3 b4 b5 b6 Q s)).trans ?_
 refine (ZN (n := 99999) (Znk hm h hp hi ht (by omega) a0 a1 a2 a3 b4 b5 b6 Q s (by decide) (Z27 hm h hp hi ht a0 a1 a2 a3 b4 b5 b6 Q s [] (Z39 hm h hp hi ht b4 b5 b6 hr) (fun _ => by decide) (f _ _)))).trans ?_
 rw [e1]
 refine Zdo (n := 99998) ?_
 refine Eq.trans (show _ = Zdc [bd m n p 0, Q] [rw0 i a0 a1 a2 a3 b4 b5 b6, s] (obs n t i (min i t)) 0 i 100000 1 2 ((23 * i + 4 : Nat) : Int) [⟨2, ((1048594 + i : Nat) : Int)⟩] from rfl) ?_
 unfold Zdc
 rw [if_pos (by decide), Z3B hm h hp hi ht a0 a1 a2 a3 b4 b5 b6 Q s hr, Option.bind_some]
 dsimp only
 rw [if_pos rfl]
 rcases hi' with rfl | rfl | rfl | rfl <;> (show _ = _; rfl)
theorem Z0P (hr : ((i - t : Nat) : Int) = m) : Zbt [bd m n p 0, Q] [rw0 i a0 a1 a2 a3 b4 b5 b6, s] (obs n t i (min i t)) 0 i 100000 = some (.r0 [rw0 i a0 a1 a2 a3 b4 b5 b6, s] (obs n t i (min i t)) i false) := by
 have hi' : i = 0 ∨ i = 1 ∨ i = 2 ∨ i = 3 := by omega
 have f : ∀ L0 L1 W, (W = [] ∨ W = [idn i 0] ∨ W = [idn i 0, idn i 1] ∨ W = [idn i 0, idn i 1, idn i 2]) → Zea L0 L1 (obs n t i (min i t)) W 100000 = some (.r0 true) := by
  intro L0 L1 W hW
  clear hp hi hr
  rcases hW with rfl | rfl | rfl | rfl <;> rcases hi' with rfl | rfl | rfl | rfl <;> rcases ht with rfl | rfl | rfl | rfl | rfl <;> (show _ = _; kernel_rfl)
 have no : ∀ W, (W = [] ∨ W = [idn i 0] ∨ W = [idn i 0, idn i 1] ∨ W = [idn i 0, idn i 1, idn i 2]) → ZdM [bd m n p 0, Q] [rw0 i a0 a1 a2 a3 b4 b5 b6, s] (obs n t i (min i t)) 2 0 ((23 * i + 4 : Nat) : Int) 0 0 0 W 0 100000 = some (.r0 [rw0 i a0 a1 a2 a3 b4 b5 b6, s] (obs n t i (min i t)) 200) := fun W hW =>
  Z27 hm h hp hi ht a0 a1 a2 a3 b4 b5 b6 Q s W (Z3A hm h hp hi ht b4 b5 b6 hr W) (fun c => by cases c) (f _ _ W hW)
 unfold Zbt
 refine (Zf3 (ZzX hm h hp hi ht a0 a1 a2 a3 b4 b5 b6 Q s)).trans ?_
 refine (ZN (n := 99999) (Znk hm h hp hi ht (by omega) a0 a1 a2 a3 b4 b5 b6 Q s (by decide) (no [] (by simp)))).trans ?_
 refine (ZN (n := 99998) (Znk hm h hp hi ht (by omega) a0 a1 a2 a3 b4 b5 b6 Q s (by show 1 < 10; decide) (no [idn i 0] (by simp)))).trans ?_
 refine (ZN (n := 99997) (Znk hm h hp hi ht (by omega) a0 a1 a2 a3 b4 b5 b6 Q s (by show 2 < 10; decide) (no [idn i 0, idn i 1] (by simp)))).trans ?_
 refine (ZN (n := 99996) (Znk hm h hp hi ht (by omega) a0 a1 a2 a3 b4 b5 b6 Q s (by show 3 < 10; decide) (no [idn i 0, idn i 1, idn i 2] (by simp)))).trans ?_
 exact Zdo (n := 99995) rfl
end
end
theorem Z1F {m : Int} (hm : m = 1 ∨ m = 2 ∨ m = 3) {n : Nat → Int} {p : Nat} (hp : p = 1 ∨ p = 2 ∨ p = 3 ∨ p = 4) (a0 a1 a2 a3 b4 b5 b6 : RG) (Q : List RI) (s : RL) (O : List RJ) (k : Int) : Zbt [bd m n p 0, Q] [rw0 p a0 a1 a2 a3 b4 b5 b6, s] O 0 k 100000 = some (.r0 [rw0 p a0 a1 a2 a3 b4 b5 b6, s] O k false) := by
 rcases hp with rfl | rfl | rfl | rfl <;> rcases hm with rfl | rfl | rfl <;> (show _ = _; kernel_rfl)
theorem ZvA {n : Nat → Int} {t : Nat} (ht : t = 0 ∨ t = 1 ∨ t = 2 ∨ t = 3 ∨ t = 4) (P : List RI) (s : RL) (O : List RJ) (k : Int) : Zbt [P, tk t 0] [s, trw n t] O 1 k 100000 = some (.r0 [s, trw n t] O k false) := by
 rcases ht with rfl | rfl | rfl | rfl | rfl <;> (show _ = _; kernel_rfl)
theorem Z0Q {n : Nat → Int} {t i : Nat} (hi : i < t) (ht : t = 0 ∨ t = 1 ∨ t = 2 ∨ t = 3 ∨ t = 4) (P : List RI) (s : RL) : Zbt [P, tk t 0] [s, trw n i] (obs n t i i) 1 i 100000 = some (.r0 [s, trw n i] (obs n t i i) i false) := by
 have hi' : i = 0 ∨ i = 1 ∨ i = 2 ∨ i = 3 := by omega
 rcases hi' with rfl | rfl | rfl | rfl <;> rcases ht with rfl | rfl | rfl | rfl | rfl <;> first | omega | (show _ = _; kernel_rfl)
theorem Z0R {n : Nat → Int} {t i : Nat} (hi : i < t) (ht : t = 0 ∨ t = 1 ∨ t = 2 ∨ t = 3 ∨ t = 4) (P : List RI) (s : RL) : Zbt [P, tk t 0] [s, trw n i] (obs n t (i + 1) i) 1 ((i + 1 : Nat) : Int) 100000 = some (.r0 [s, trw n (i + 1)] (obs n t (i + 1) (i + 1)) ((i + 1 : Nat) : Int) true) := by
 have hi' : i = 0 ∨ i = 1 ∨ i = 2 ∨ i = 3 := by omega
 rcases hi' with rfl | rfl | rfl | rfl <;> rcases ht with rfl | rfl | rfl | rfl | rfl <;> first | omega | (show _ = _; kernel_rfl)
set_option maxRecDepth 100000
set_option linter.unusedVariables false
def dn (t : Nat) : Nat → List Int
 | 0 => []
 | r + 1 => (dn t r ++ [0]) ++ (if r < t then [1] else [])
theorem Z1G (t : Nat) : ∀ r, (dn t r).length ≤ 2 * r
 | 0 => Nat.le_refl _
 | r + 1 => by
  have := Z1G t r
  simp only [dn, List.length_append, List.length_cons, List.length_nil]
  split <;> simp only [List.length_cons, List.length_nil] <;> omega
theorem Zy7 (n : Nat → Int) (m : Int) (t : Nat) : ∀ i, ∃ a0 a1 a2 a3 b4 b5 b6, prw n m t i = rw0 i a0 a1 a2 a3 b4 b5 b6
 | 0 => ⟨⟨1, 0⟩, ⟨1, 0⟩, ⟨1, 0⟩, ⟨1, 0⟩, ⟨1, 0⟩, ⟨1, 0⟩, ⟨1, 0⟩, rfl⟩
 | i + 1 => ⟨_, _, _, _, _, _, _, rfl⟩
def Z20 : Option (Za5 ⊕ Zbi) → Option (Nat × Nat × RL)
 | some (.inl (.h1m0 k l)) => some (k, l.length, l.getD 1 RL.z)
 | _ => none
theorem Z3d : ∀ {x : Option (Za5 ⊕ Zbi)} {k : Nat} {s : RL}, Z20 x = some (k, 2, s) → ∃ y, x = some (.inl (.h1m0 k [y, s]))
 | some (.inl (.h1m0 k [y, z])), _, _, h => by cases h; exact ⟨y, rfl⟩
 | some (.inl (.h1m0 k [])), _, _, h => by cases h
 | some (.inl (.h1m0 k [_])), _, _, h => by cases h
 | some (.inl (.h1m0 k (_ :: _ :: _ :: _))), _, _, h => by simp [Z20] at h
 | some (.inr _), _, _, h => by cases h
 | none, _, _, h => by cases h
section
variable {m : Int} (hm : m = 1 ∨ m = 2 ∨ m = 3) {n : Nat → Int} (h : ∀ i, 0 ≤ n i ∧ n i ≤ 255) {p : Nat} (hp : p = 1 ∨ p = 2 ∨ p = 3 ∨ p = 4) {t : Nat} (ht : t = 0 ∨ t = 1 ∨ t = 2 ∨ t = 3 ∨ t = 4)
include hm h hp ht
theorem u0 {r : Nat} (hi : r < p) (hr : ((r - t : Nat) : Int) < m) : Zbt [bd m n p 0, tk t 0] [prw n m t r, trw n (min r t)] (obs n t r (min r t)) 0 r 100000 = some (.r0 [prw n m t (r + 1), trw n (min r t)] (obs n t (r + 1) (min r t)) ((r + 1 : Nat) : Int) true) := by
 obtain ⟨a0, a1, a2, a3, b4, b5, b6, e⟩ := Zy7 n m t r
 rw [e]
 exact Z1E hm h hp hi ht a0 a1 a2 a3 b4 b5 b6 _ _ hr
theorem u1 {r : Nat} (hi : r < p) (s : RL) : Zbt [bd m n p 0, tk t 0] [s, trw n (min r t)] (obs n t (r + 1) (min r t)) 1 ((r + 1 : Nat) : Int) 100000 = some (.r0 [s, trw n (min (r + 1) t)] (obs n t (r + 1) (min (r + 1) t)) ((r + 1 : Nat) : Int) (decide (r < t))) := by
 have _ := And.intro hm (And.intro h hp)
 by_cases c : r < t
 ·rw [show min r t = r by omega, show min (r + 1) t = r + 1 by omega, decide_eq_true c]
  exact Z0R c ht _ _
 ·rw [show min r t = t by omega, show min (r + 1) t = t by omega, decide_eq_false c]
  exact ZvA ht _ _ _ _
theorem Z3C {r : Nat} (hr : r = p ∨ r < p ∧ ((r - t : Nat) : Int) = m) : ∃ y, ZdB [bd m n p 0, tk t 0] [prw n m t r, trw n (min r t)] (obs n t r (min r t)) 100000 = some (.r0 y) := by
 obtain ⟨a0, a1, a2, a3, b4, b5, b6, e⟩ := Zy7 n m t r
 have f0 : ∀ (s : RL) (L1 : List RL) (O : List RJ), ∃ y, Zbz [bd m n p 0, tk t 0] L1 O 100000 0 [rw0 r a0 a1 a2 a3 b4 b5 b6, s] = some (.inl (.h1m0 1 [y, s])) := by
  intro s L1 O
  refine Z3d ?_
  rcases hr with rfl | ⟨hi, hf⟩
  ·rcases hp with rfl | rfl | rfl | rfl <;> rcases hm with rfl | rfl | rfl <;> (show _ = _; kernel_rfl)
  ·unfold Zbz
   rw [if_pos (by show 0 < 2; omega), if_pos (by show 0 < 2; omega)]
   refine Eq.trans (congrArg (fun o => Z20 (Option.bind o _)) (onP hm h hp a0 a1 a2 a3 b4 b5 b6 hi)) ?_
   have hi' : r = 0 ∨ r = 1 ∨ r = 2 ∨ r = 3 := by omega
   rcases hp with rfl | rfl | rfl | rfl <;> rcases hi' with rfl | rfl | rfl | rfl <;> first | omega | (show _ = _; kernel_rfl)
 have f1 : ∀ (x : RL) (L1 : List RL) (O : List RJ) (j : Nat), j ≤ t → ∃ k, ((match Zbz [bd m n p 0, tk t 0] L1 O 100000 1 [x, trw n j] with | some (.inl (.h1m0 k l)) => some (k, l.length) | _ => none) = some (2, 2)) ∧ k = 2 := by
  intro x L1 O j hj
  have hj' : j = 0 ∨ j = 1 ∨ j = 2 ∨ j = 3 ∨ j = 4 := by omega
  refine ⟨2, ?_, rfl⟩
  clear f0 hr e h hp hm
  rcases hj' with rfl | rfl | rfl | rfl | rfl <;> rcases ht with rfl | rfl | rfl | rfl | rfl <;> first | omega | (show _ = _; kernel_rfl)
 unfold ZdB
 rw [e]
 obtain ⟨y, f0⟩ := f0 (trw n (min r t)) [rw0 r a0 a1 a2 a3 b4 b5 b6, trw n (min r t)] (obs n t r (min r t))
 obtain ⟨_, f1, _⟩ := f1 y [rw0 r a0 a1 a2 a3 b4 b5 b6, trw n (min r t)] (obs n t r (min r t)) (min r t) (by omega)
 cases hx : Zbz [bd m n p 0, tk t 0] [rw0 r a0 a1 a2 a3 b4 b5 b6, trw n (min r t)] (obs n t r (min r t)) 100000 1 [y, trw n (min r t)] with
 | none => rw [hx] at f1; cases f1
 | some z =>
  cases z with
  | inr z => rw [hx] at f1; cases f1
  | inl z =>
   obtain ⟨k, l⟩ := z
   rw [hx] at f1
   simp only [Option.some.injEq, Prod.mk.injEq] at f1
   obtain ⟨rfl, hl⟩ := f1
   refine ⟨l, ?_⟩
   have s0 : Zdv [bd m n p 0, tk t 0] [rw0 r a0 a1 a2 a3 b4 b5 b6, trw n (min r t)] (obs n t r (min r t)) 100000 (.h1m0 0 [rw0 r a0 a1 a2 a3 b4 b5 b6, trw n (min r t)]) = some (.inl (.h1m0 1 [y, trw n (min r t)])) := f0
   have s1 : Zdv [bd m n p 0, tk t 0] [rw0 r a0 a1 a2 a3 b4 b5 b6, trw n (min r t)] (obs n t r (min r t)) 100000 (.h1m0 1 [y, trw n (min r t)]) = some (.inl (.h1m0 2 l)) := hx
   refine (Zf3 (x := (.h1m0 0 [rw0 r a0 a1 a2 a3 b4 b5 b6, trw n (min r t)] : Za5)) rfl).trans ((ZN (n := 99999) s0).trans ((ZN (n := 99998) s1).trans (Zdo (n := 99997) ?_)))
   refine Eq.trans (show _ = Zbz [bd m n p 0, tk t 0] [rw0 r a0 a1 a2 a3 b4 b5 b6, trw n (min r t)] (obs n t r (min r t)) 100000 2 l from rfl) ?_
   unfold Zbz
   rw [if_neg (by omega)]
theorem rnd2 {r : Nat} (hi : r < p) (hr : ((r - t : Nat) : Int) < m) (D : List Int) (hD : D.length < 99) (s : RL) (k : Nat) (b : Bool) (hb : b = true) (v2 : Int) (hv : v2 = ((r + 1 : Nat) : Int)) (hk : k < 100) : Zcj (Zaa [bd m n p 0, tk t 0] 30 100000) (k + 2) (.h3m1 v2 D r b 1 [bd m n p 0, tk t 0] [s, trw n (min r t)] (obs n t (r + 1) (min r t))) = Zcj (Zaa [bd m n p 0, tk t 0] 30 100000) k (.h2m1 ((r + 1 : Nat) : Int) (D ++ (if r < t then [1] else [])) (r + 1) [bd m n p 0, tk t 0] [s, trw n (min (r + 1) t)] (obs n t (r + 1) (min (r + 1) t))) := by
 subst hb hv
 have l2 : (([bd m n p 0, tk t 0] : List (List RI)).length : Int) = 2 := rfl
 have e1 : Zaa [bd m n p 0, tk t 0] 30 100000 (.h3m1 ((r + 1 : Nat) : Int) D r true 1 [bd m n p 0, tk t 0] [s, trw n (min r t)] (obs n t (r + 1) (min r t))) = some (.inl (.h3m1 ((r + 1 : Nat) : Int) (D ++ (if r < t then [1] else [])) r true 2 [bd m n p 0, tk t 0] [s, trw n (min (r + 1) t)] (obs n t (r + 1) (min (r + 1) t)))) := by
  refine Eq.trans (show _ = Za0 [bd m n p 0, tk t 0] 30 100000 ((r + 1 : Nat) : Int) D r true 1 [bd m n p 0, tk t 0] [s, trw n (min r t)] (obs n t (r + 1) (min r t)) from rfl) ?_
  unfold Za0
  rw [if_pos rfl, l2, if_pos (by decide)]
  refine Eq.trans (congrArg (fun o => Option.bind o _) (u1 hm h hp ht hi s)) ?_
  rw [Option.bind_some]
  dsimp only
  by_cases c : r < t
  ·rw [if_pos (decide_eq_true c), if_pos (by omega), if_pos (by decide), if_pos c]
   rfl
  ·rw [if_neg (by simpa using c), if_pos (by decide), if_neg c, List.append_nil]
 have e2 : ∀ D', Zaa [bd m n p 0, tk t 0] 30 100000 (.h3m1 ((r + 1 : Nat) : Int) D' r true 2 [bd m n p 0, tk t 0] [s, trw n (min (r + 1) t)] (obs n t (r + 1) (min (r + 1) t))) = some (.inl (.h2m1 ((r + 1 : Nat) : Int) D' (r + 1) [bd m n p 0, tk t 0] [s, trw n (min (r + 1) t)] (obs n t (r + 1) (min (r + 1) t)))) := by
  intro D'
  refine Eq.trans (show _ = Za0 [bd m n p 0, tk t 0] 30 100000 ((r + 1 : Nat) : Int) D' r true 2 [bd m n p 0, tk t 0] [s, trw n (min (r + 1) t)] (obs n t (r + 1) (min (r + 1) t)) from rfl) ?_
  unfold Za0
  rw [if_pos rfl, l2, if_neg (by decide), if_pos (by omega)]
 exact (ZN e1).trans (ZN (e2 _))
theorem u0n {r : Nat} (hr : r = p ∨ r < p ∧ ((r - t : Nat) : Int) = m) : Zbt [bd m n p 0, tk t 0] [prw n m t r, trw n (min r t)] (obs n t r (min r t)) 0 r 100000 = some (.r0 [prw n m t r, trw n (min r t)] (obs n t r (min r t)) r false) := by
 obtain ⟨a0, a1, a2, a3, b4, b5, b6, e⟩ := Zy7 n m t r
 rw [e]
 rcases hr with rfl | ⟨hi, hf⟩
 ·exact Z1F hm hp a0 a1 a2 a3 b4 b5 b6 _ _ _ _
 ·exact Z0P hm h hp hi ht a0 a1 a2 a3 b4 b5 b6 _ _ hf
theorem u1n {r : Nat} (s : RL) : Zbt [bd m n p 0, tk t 0] [s, trw n (min r t)] (obs n t r (min r t)) 1 r 100000 = some (.r0 [s, trw n (min r t)] (obs n t r (min r t)) r false) := by
 have _ := And.intro hm (And.intro h hp)
 by_cases c : r < t
 ·rw [show min r t = r by omega]
  exact Z0Q c ht _ _
 ·rw [show min r t = t by omega]
  exact ZvA ht _ _ _ _
theorem rndZ {r : Nat} (h1 : 1 ≤ r) (h9 : r < 9) (hr : r = p ∨ r < p ∧ ((r - t : Nat) : Int) = m) (D : List Int) (k : Nat) : ∃ y, Zcj (Zaa [bd m n p 0, tk t 0] 30 100000) (k + 4) (.h2m1 r D r [bd m n p 0, tk t 0] [prw n m t r, trw n (min r t)] (obs n t r (min r t))) = some (.r1 [bd m n p 0, tk t 0] y (obs n t r (min r t)) D true) := by
 obtain ⟨y, hy⟩ := Z3C hm h hp ht hr
 have l2 : (([bd m n p 0, tk t 0] : List (List RI)).length : Int) = 2 := rfl
 have e0 : Zaa [bd m n p 0, tk t 0] 30 100000 (.h2m1 r D r [bd m n p 0, tk t 0] [prw n m t r, trw n (min r t)] (obs n t r (min r t))) = some (.inl (.h3m1 r D r false 0 [bd m n p 0, tk t 0] [prw n m t r, trw n (min r t)] (obs n t r (min r t)))) := by
  refine Eq.trans (show _ = Zdd [bd m n p 0, tk t 0] 30 100000 r D r [bd m n p 0, tk t 0] [prw n m t r, trw n (min r t)] (obs n t r (min r t)) from rfl) ?_
  unfold Zdd
  rw [if_pos (by omega)]
 have e1 : Zaa [bd m n p 0, tk t 0] 30 100000 (.h3m1 r D r false 0 [bd m n p 0, tk t 0] [prw n m t r, trw n (min r t)] (obs n t r (min r t))) = some (.inl (.h3m1 r D r false 1 [bd m n p 0, tk t 0] [prw n m t r, trw n (min r t)] (obs n t r (min r t)))) := by
  refine Eq.trans (show _ = Za0 [bd m n p 0, tk t 0] 30 100000 r D r false 0 [bd m n p 0, tk t 0] [prw n m t r, trw n (min r t)] (obs n t r (min r t)) from rfl) ?_
  unfold Za0
  rw [if_neg (by decide), l2, if_pos (by decide)]
  refine Eq.trans (congrArg (fun o => Option.bind o _) (u0n hm h hp ht hr)) ?_
  rfl
 have e2 : Zaa [bd m n p 0, tk t 0] 30 100000 (.h3m1 r D r false 1 [bd m n p 0, tk t 0] [prw n m t r, trw n (min r t)] (obs n t r (min r t))) = some (.inl (.h3m1 r D r false 2 [bd m n p 0, tk t 0] [prw n m t r, trw n (min r t)] (obs n t r (min r t)))) := by
  refine Eq.trans (show _ = Za0 [bd m n p 0, tk t 0] 30 100000 r D r false 1 [bd m n p 0, tk t 0] [prw n m t r, trw n (min r t)] (obs n t r (min r t)) from rfl) ?_
  unfold Za0
  rw [if_neg (by decide), l2, if_pos (by decide)]
  refine Eq.trans (congrArg (fun o => Option.bind o _) (u1n hm h hp ht _)) ?_
  rfl
 refine ⟨y, (ZN e0).trans ((ZN e1).trans ((ZN e2).trans (Zdo ?_)))⟩
 refine Eq.trans (show _ = Za0 [bd m n p 0, tk t 0] 30 100000 r D r false 2 [bd m n p 0, tk t 0] [prw n m t r, trw n (min r t)] (obs n t r (min r t)) from rfl) ?_
 unfold Za0
 rw [if_neg (by decide), l2, if_neg (by decide), hy, Option.bind_some]
theorem rounds {R : Nat} (hR : R = p ∨ R < p ∧ ((R - t : Nat) : Int) = m) (hlt : ∀ r, r < R → ((r - t : Nat) : Int) < m) (h9 : R < 9) : ∀ d r : Nat, r + d = R → 1 ≤ r → ∃ y, Zcj (Zaa [bd m n p 0, tk t 0] 30 100000) (4 * d + 4) (.h2m1 r (dn t r) r [bd m n p 0, tk t 0] [prw n m t r, trw n (min r t)] (obs n t r (min r t))) = some (.r1 [bd m n p 0, tk t 0] y (obs n t R (min R t)) (dn t R) true)
 | 0, r, e, h1 => by
  obtain rfl : r = R := by omega
  exact rndZ hm h hp ht h1 h9 hR _ 0
 | d + 1, r, e, h1 => by
  obtain ⟨y, hy⟩ := rounds hR hlt h9 d (r + 1) (by omega) (by omega)
  have hi : r < p := by omega
  have l2 : (([bd m n p 0, tk t 0] : List (List RI)).length : Int) = 2 := rfl
  have hl := Z1G t r
  have e0 : Zaa [bd m n p 0, tk t 0] 30 100000 (.h2m1 r (dn t r) r [bd m n p 0, tk t 0] [prw n m t r, trw n (min r t)] (obs n t r (min r t))) = some (.inl (.h3m1 r (dn t r) r false 0 [bd m n p 0, tk t 0] [prw n m t r, trw n (min r t)] (obs n t r (min r t)))) := by
   refine Eq.trans (show _ = Zdd [bd m n p 0, tk t 0] 30 100000 r (dn t r) r [bd m n p 0, tk t 0] [prw n m t r, trw n (min r t)] (obs n t r (min r t)) from rfl) ?_
   unfold Zdd
   rw [if_pos (by omega)]
  have e1 : Zaa [bd m n p 0, tk t 0] 30 100000 (.h3m1 r (dn t r) r false 0 [bd m n p 0, tk t 0] [prw n m t r, trw n (min r t)] (obs n t r (min r t))) = some (.inl (.h3m1 ((r + 1 : Nat) : Int) (dn t r ++ [0]) r true 1 [bd m n p 0, tk t 0] [prw n m t (r + 1), trw n (min r t)] (obs n t (r + 1) (min r t)))) := by
   refine Eq.trans (show _ = Za0 [bd m n p 0, tk t 0] 30 100000 r (dn t r) r false 0 [bd m n p 0, tk t 0] [prw n m t r, trw n (min r t)] (obs n t r (min r t)) from rfl) ?_
   unfold Za0
   rw [if_neg (by decide), l2, if_pos (by decide)]
   refine Eq.trans (congrArg (fun o => Option.bind o _) (u0 hm h hp ht hi (hlt r (by omega)))) ?_
   rw [Option.bind_some]
   dsimp only
   rw [if_pos rfl, if_pos (by omega), if_pos (by decide)]
   rfl
  refine ⟨y, (ZN (n := 4 * (d + 1) + 3) e0).trans ((ZN (n := 4 * (d + 1) + 2) e1).trans ?_)⟩
  rw [show 4 * (d + 1) + 2 = (4 * d + 4) + 2 by omega]
  refine (rnd2 hm h hp ht hi (hlt r (by omega)) (dn t r ++ [0]) (by rw [List.length_append, List.length_cons, List.length_nil]; omega) _ _ true rfl _ rfl (by omega)).trans ?_
  exact hy
theorem play {R : Nat} (hR : R = p ∨ R < p ∧ ((R - t : Nat) : Int) = m) (hlt : ∀ r, r < R → ((r - t : Nat) : Int) < m) (h1 : 1 ≤ R) (h9 : R < 9) : ∃ y, Zcx [bd m n p 0, tk t 0] 30 100000 = some (.r1 [bd m n p 0, tk t 0] y (obs n t R (min R t)) (dn t R) true) := by
 have nw : Zg8 [bd m n p 0, tk t 0] 100000 = some (.r2 [bd m n p 0, tk t 0] [prw n m t 0, trw n 0] (obs n t 0 0)) := by
  have e1 : Ze0 [bd m n p 0, tk t 0] 100000 .h1m0 = some (.inl (.h1m1 1 [bd m n p 0] [prw n m t 0])) := by
   refine Eq.trans (show _ = Zfm [bd m n p 0, tk t 0] 100000 from rfl) ?_
   unfold Zfm
   rw [if_pos (by show (0 : Int) < 2; decide)]
   refine Eq.trans (congrArg (fun o => Option.bind o _) (Z1C hm h hp)) ?_
   rw [Option.bind_some]
   dsimp only
   rw [if_neg (by decide)]
   rcases hp with rfl | rfl | rfl | rfl <;> (show _ = _; kernel_rfl)
  unfold Zg8
  refine (Zf3 (x := (.h1m0 : ZaS)) rfl).trans ((ZN (n := 99999) e1).trans ?_)
  rcases hp with rfl | rfl | rfl | rfl <;> rcases ht with rfl | rfl | rfl | rfl | rfl <;> (show _ = _; kernel_rfl)
 have hi : 0 < p := by omega
 have l2 : (([bd m n p 0, tk t 0] : List (List RI)).length : Int) = 2 := rfl
 obtain ⟨y, hy⟩ := rounds hm h hp ht hR hlt h9 (R - 1) 1 (by omega) (by omega)
 have e3 : Zaa [bd m n p 0, tk t 0] 30 100000 (.h3m0 0 0 [bd m n p 0, tk t 0] [prw n m t 0, trw n (min 0 t)] (obs n t 0 (min 0 t))) = some (.inl (.h3m1 ((0 + 1 : Nat) : Int) [0] 0 true 1 [bd m n p 0, tk t 0] [prw n m t (0 + 1), trw n (min 0 t)] (obs n t (0 + 1) (min 0 t)))) := by
  refine Eq.trans (show _ = ZeU [bd m n p 0, tk t 0] 30 100000 0 0 [bd m n p 0, tk t 0] [prw n m t 0, trw n (min 0 t)] (obs n t 0 (min 0 t)) from rfl) ?_
  unfold ZeU
  rw [l2, if_pos (by decide)]
  refine Eq.trans (congrArg (fun o => Option.bind o _) (u0 hm h hp ht hi (hlt 0 (by omega)))) ?_
  rfl
 have z : min 0 t = 0 := by omega
 refine ⟨y, ?_⟩
 unfold Zcx
 refine (Zf3 (x := (.h1m0 [bd m n p 0, tk t 0] [prw n m t 0, trw n 0] (obs n t 0 0) : Z4)) ?_).trans ?_
 ·unfold Zi5
  rw [nw, Option.bind_some]
 refine (ZN (n := 99999) (y := (.h2m0 [bd m n p 0, tk t 0] [prw n m t 0, trw n 0] (obs n t 0 0) : Z4)) rfl).trans ?_
 refine (ZN (n := 99998) (y := (.h3m0 0 0 [bd m n p 0, tk t 0] [prw n m t 0, trw n 0] (obs n t 0 0) : Z4)) rfl).trans ?_
 have e3 := e3
 rw [z] at e3
 refine (ZN (n := 99997) e3).trans ?_
 have q := rnd2 hm h hp ht hi (hlt 0 (by omega)) [0] (by decide) (prw n m t (0 + 1)) (4 * (R - 1) + 4) true rfl _ rfl (by omega)
 rw [z] at q
 refine Zk0 (n := (4 * (R - 1) + 4) + 2) (by omega) (q.trans ?_)
 exact hy
end
set_option maxRecDepth 100000
set_option linter.unusedVariables false
def pl (L : List Int) (a : Int) (p : Nat) : List RM := (List.range p).map fun k => ⟨0, 0, 0, L.getD k 0, a⟩
def tl (t : Nat) : List RM := List.replicate t ⟨1, 0, 0, 0, 0⟩
theorem Z1H {a m x s : Int} (h0 : 0 ≤ a) (h1 : a ≤ 255) (hm : 1 + a % 3 = m) (x0 : 0 ≤ x) (x1 : x ≤ 255) (s0 : 0 ≤ s) (s1 : s ≤ 400) : ZdW 0 0 0 x a s 100000 = some (.r0 (pu x m s)) := by
 have f : Zg4 s (0 % 4) x m 100000 = some .r0 := by
  unfold Zg4
  rw [if_pos (by decide), if_pos (by decide), if_pos s0, if_pos s1, if_pos (by omega), if_pos (by omega), if_pos (by omega), if_pos (by omega)]
 unfold ZdW
 rw [if_pos (by decide), if_pos (by decide), if_pos (by decide), if_pos (by decide), if_pos (by decide), if_pos (by decide), if_pos x0, if_pos x1, if_pos h0, if_pos h1, if_pos (by decide), if_neg (by decide), hm]
 refine ZcN f ?_
 rfl
section
variable {L : List Int} (hL : ∀ x ∈ L, 0 ≤ x ∧ x ≤ 255) {a m : Int} (h0 : 0 ≤ a) (h1 : a ≤ 255) (hm : 1 + a % 3 = m)
include hL
theorem nB (i : Nat) : 0 ≤ L.getD i 0 ∧ L.getD i 0 ≤ 255 := by
 by_cases c : i < L.length
 ·rw [List.getD_eq_getElem?_getD, List.getElem?_eq_getElem c, Option.getD_some]
  exact hL _ (List.getElem_mem c)
 ·rw [Zz9 (by omega)]
  exact ⟨by decide, by decide⟩
include h0 h1 hm
theorem Z28 {p : Nat} (hp : p = 1 ∨ p = 2 ∨ p = 3 ∨ p = 4) : ZaB (pl L a p) 100000 = some (.r1 (bd m (fun k => L.getD k 0) p 0)) := by
 have l : (pl L a p).length = p := by simp [pl]
 have e : ∀ k, k < p → (pl L a p).getD k RM.z = ⟨0, 0, 0, L.getD k 0, a⟩ := by
  intro k hk
  rw [List.getD_eq_getElem?_getD, List.getElem?_eq_getElem (by omega), Option.getD_some]
  simp [pl]
 have s0 : Zby (pl L a p) 100000 .h1m0 = some (.inl (.h1m1 (pu (L.getD 0 0) m 0 ++ [⟨19, 7, 0, 0⟩]) 1)) := by
  refine Eq.trans (show _ = ZcX (pl L a p) 100000 from rfl) ?_
  unfold ZcX
  rw [if_pos (by omega), e 0 (by omega)]
  refine ZcN (Z1H h0 h1 hm (nB hL 0).1 (nB hL 0).2 (by decide) (by decide)) ?_
  rfl
 have s1 : ∀ (k : Nat) (v : List RI), k < p → 1 ≤ k → v.length = 23 * k → Zby (pl L a p) 100000 (.h1m1 v k) = some (.inl (.h1m1 ((v ++ pu (L.getD k 0) m (23 * (k : Int))) ++ [⟨19, 7, 0, 0⟩]) (k + 1))) := by
  intro k v hk _ hv
  refine Eq.trans (show _ = ZbI (pl L a p) 100000 v k from rfl) ?_
  unfold ZbI
  rw [if_pos (by omega), if_pos (by omega), e k hk, show (v.length : Int) = 23 * (k : Int) by omega]
  refine ZcN (Z1H h0 h1 hm (nB hL k).1 (nB hL k).2 (by omega) (by omega)) ?_
  exact Znj (by show ¬ (22 : Int) < 1; decide) (Znj (by show ¬ (60 : Int) < 22; decide) (ZzW (by omega) (ZzW (by show v.length + 22 ≤ 100000; omega) rfl)))
 have sZ : ∀ v : List RI, v.length ≤ 100000 → Zby (pl L a p) 100000 (.h1m1 v p) = some (.inr (.r1 (v ++ [⟨20, 0, 0, 0⟩]))) := by
  intro v hv
  refine Eq.trans (show _ = ZbI (pl L a p) 100000 v p from rfl) ?_
  unfold ZbI
  rw [if_neg (by omega), if_pos hv]
 unfold ZaB
 refine (Zf3 (x := (.h1m0 : ZT)) rfl).trans ((ZN (n := 99999) s0).trans ?_)
 have lp : ∀ x s : Int, (pu x m s).length = 22 := fun _ _ => rfl
 rcases hp with rfl | rfl | rfl | rfl
 ·exact Zdo (n := 99998) (sZ _ (by simp [lp]))
 ·refine (ZN (n := 99998) (s1 1 _ (by decide) (by decide) (by simp [lp]))).trans ?_
  exact Zdo (n := 99997) (sZ _ (by simp [lp]))
 ·refine (ZN (n := 99998) (s1 1 _ (by decide) (by decide) (by simp [lp]))).trans ((ZN (n := 99997) (s1 2 _ (by decide) (by decide) (by simp [lp]))).trans ?_)
  exact Zdo (n := 99996) (sZ _ (by simp [lp]))
 ·refine (ZN (n := 99998) (s1 1 _ (by decide) (by decide) (by simp [lp]))).trans ((ZN (n := 99997) (s1 2 _ (by decide) (by decide) (by simp [lp]))).trans ((ZN (n := 99996) (s1 3 _ (by decide) (by decide) (by simp [lp]))).trans ?_))
  exact Zdo (n := 99995) (sZ _ (by simp [lp]))
end
theorem Z29 {t : Nat} (ht : t = 1 ∨ t = 2 ∨ t = 3 ∨ t = 4) : ZaB (tl t) 100000 = some (.r1 (tk t 0)) := by
 rcases ht with rfl | rfl | rfl | rfl <;> (show _ = _; kernel_rfl)
theorem Zud : Zd5 100000 = some (.r0 true) := by kernel_rfl
section
variable {L : List Int} (hL : ∀ x ∈ L, 0 ≤ x ∧ x ≤ 255) {a b : Int} (h0 : 0 ≤ a) (h1 : a ≤ 255) (g0 : 0 ≤ b) (g1 : b ≤ 255) {m : Int} (hm : 1 + a % 3 = m) {t : Nat} (ht : b % 5 = (t : Int))
include hL h0 h1 g0 g1 hm ht
theorem endT {p : Nat} (hp : p = 1 ∨ p = 2 ∨ p = 3 ∨ p = 4) (h : 1 ≤ t) : Zcf L b a 100000 (pl L a p) (tl t) t = some (.inr (.r0 true)) := by
 have m' : m = 1 ∨ m = 2 ∨ m = 3 := by omega
 have t' : t = 0 ∨ t = 1 ∨ t = 2 ∨ t = 3 ∨ t = 4 := by omega
 have n' : t = 1 ∨ t = 2 ∨ t = 3 ∨ t = 4 := by omega
 obtain ⟨y, hy⟩ := play m' (nB hL) hp t' (R := min p (t + m.toNat)) (by omega) (fun r hr => by omega) (by omega) (by omega)
 unfold Zcf
 rw [if_pos g0, if_pos g1, if_pos h0, if_pos h1, if_neg (by omega), hm]
 refine ZcN (Z28 hL h0 h1 hm hp) (ZcN (Z29 n') (ZcN Zud (Znj (fun c => c rfl) (ZcN hy ?_))))
 clear hy
 rcases m' with rfl | rfl | rfl <;> rcases hp with rfl | rfl | rfl | rfl <;> rcases n' with rfl | rfl | rfl | rfl <;> (show _ = _; kernel_rfl)
theorem endZ {p : Nat} (hp : p = 1 ∨ p = 2 ∨ p = 3 ∨ p = 4) (h : t = 0) : Zcd L b a 100000 (pl L a p) = some (.inr (.r0 true)) := by
 have m' : m = 1 ∨ m = 2 ∨ m = 3 := by omega
 have t' : t = 0 ∨ t = 1 ∨ t = 2 ∨ t = 3 ∨ t = 4 := by omega
 obtain ⟨y, hy⟩ := play m' (nB hL) hp t' (R := min p (t + m.toNat)) (by omega) (fun r hr => by omega) (by omega) (by omega)
 subst h
 have pr : Zco 100000 = some .r0 := by kernel_rfl
 unfold Zcd
 rw [if_pos g0, if_pos g1, if_pos h0, if_pos h1, if_neg (by omega), hm]
 refine ZcN (Z28 hL h0 h1 hm hp) (ZcN pr (ZcN Zud (Znj (fun c => c rfl) (ZcN hy ?_))))
 clear hy
 rcases m' with rfl | rfl | rfl <;> rcases hp with rfl | rfl | rfl | rfl <;> (show _ = _; kernel_rfl)
theorem endP (h : 1 ≤ t) : Zce L b a 100000 (tl t) t = some (.inr (.r0 true)) := by
 have m' : m = 1 ∨ m = 2 ∨ m = 3 := by omega
 have n' : t = 1 ∨ t = 2 ∨ t = 3 ∨ t = 4 := by omega
 have pr : Zco 100000 = some .r0 := by kernel_rfl
 have _ := hL
 unfold Zce
 rw [if_pos g0, if_pos g1, if_pos h0, if_pos h1, if_neg (by omega), hm]
 refine ZcN pr (ZcN (Z29 n') (ZcN Zud (Znj (fun c => c rfl) ?_)))
 rcases m' with rfl | rfl | rfl <;> rcases n' with rfl | rfl | rfl | rfl <;> (show _ = _; kernel_rfl)
theorem endN (h : t = 0) : Zcc L b a 100000 = some (.inr (.r0 true)) := by
 have m' : m = 1 ∨ m = 2 ∨ m = 3 := by omega
 have pr : Zco 100000 = some .r0 := by kernel_rfl
 have _ := hL
 subst h
 unfold Zcc
 rw [if_pos g0, if_pos g1, if_pos h0, if_pos h1, if_neg (by omega), hm]
 refine ZcN pr (ZcN pr (ZcN Zud (Znj (fun c => c rfl) ?_)))
 rcases m' with rfl | rfl | rfl <;> (show _ = _; kernel_rfl)
theorem ZzY (t : Nat) : tl t ++ [⟨1, 0, 0, 0, 0⟩] = tl (t + 1) := by
 have _ := And.intro hL (And.intro h0 (And.intro h1 (And.intro g0 (And.intro g1 (And.intro hm ht)))))
 simp [tl, List.replicate_succ']
theorem Z1I {p : Nat} (hp : p = 1 ∨ p = 2 ∨ p = 3 ∨ p = 4) : ∀ d k : Nat, 1 ≤ k → k + d = t → ∀ w, Zcj (ZC L b a 100000) (w + d + 1) (.h2m3 (pl L a p) (tl k) k) = some (.r0 true)
 | 0, k, h, e, w => by
  obtain rfl : k = t := by omega
  exact Zdo (endT hL h0 h1 g0 g1 hm ht hp h)
 | d + 1, k, h, e, w => by
  have s : ZC L b a 100000 (.h2m3 (pl L a p) (tl k) k) = some (.inl (.h2m3 (pl L a p) (tl (k + 1)) (k + 1))) := by
   refine Eq.trans (show _ = Zcf L b a 100000 (pl L a p) (tl k) k from rfl) ?_
   unfold Zcf
   rw [if_pos g0, if_pos g1, if_pos h0, if_pos h1, if_pos (by omega), if_pos (by simp [tl]; omega), ZzY hL h0 h1 g0 g1 hm ht]
  exact (ZN (n := w + d + 1) s).trans (Z1I hp d (k + 1) (by omega) (by omega) w)
theorem Z1J : ∀ d k : Nat, 1 ≤ k → k + d = t → ∀ w, Zcj (ZC L b a 100000) (w + d + 1) (.h2m2 (tl k) k) = some (.r0 true)
 | 0, k, h, e, w => by
  obtain rfl : k = t := by omega
  exact Zdo (endP hL h0 h1 g0 g1 hm ht h)
 | d + 1, k, h, e, w => by
  have s : ZC L b a 100000 (.h2m2 (tl k) k) = some (.inl (.h2m2 (tl (k + 1)) (k + 1))) := by
   refine Eq.trans (show _ = Zce L b a 100000 (tl k) k from rfl) ?_
   unfold Zce
   rw [if_pos g0, if_pos g1, if_pos h0, if_pos h1, if_pos (by omega), if_pos (by simp [tl]; omega), ZzY hL h0 h1 g0 g1 hm ht]
  exact (ZN (n := w + d + 1) s).trans (Z1J d (k + 1) (by omega) (by omega) w)
theorem Z3e {p : Nat} (hp : p = 1 ∨ p = 2 ∨ p = 3 ∨ p = 4) (w : Nat) : Zcj (ZC L b a 100000) (w + 6) (.h2m1 (pl L a p)) = some (.r0 true) := by
 by_cases c : t = 0
 ·exact Zdo (endZ hL h0 h1 g0 g1 hm ht hp c)
 ·have s : ZC L b a 100000 (.h2m1 (pl L a p)) = some (.inl (.h2m3 (pl L a p) (tl 1) 1)) := by
   refine Eq.trans (show _ = Zcd L b a 100000 (pl L a p) from rfl) ?_
   unfold Zcd
   rw [if_pos g0, if_pos g1, if_pos h0, if_pos h1, if_pos (by omega)]
   rfl
  refine (ZN (n := w + 5) s).trans (Zk0 (n := 0 + (t - 1) + 1) (by omega) ?_)
  exact Z1I hL h0 h1 g0 g1 hm ht hp (t - 1) 1 (by omega) (by omega) 0
theorem Z3f (w : Nat) : Zcj (ZC L b a 100000) (w + 6) .h2m0 = some (.r0 true) := by
 by_cases c : t = 0
 ·exact Zdo (endN hL h0 h1 g0 g1 hm ht c)
 ·have s : ZC L b a 100000 .h2m0 = some (.inl (.h2m2 (tl 1) 1)) := by
   refine Eq.trans (show _ = Zcc L b a 100000 from rfl) ?_
   unfold Zcc
   rw [if_pos g0, if_pos g1, if_pos h0, if_pos h1, if_pos (by omega)]
   rfl
  refine (ZN (n := w + 5) s).trans (Zk0 (n := 0 + (t - 1) + 1) (by omega) ?_)
  exact Z1J hL h0 h1 g0 g1 hm ht (t - 1) 1 (by omega) (by omega) 0
theorem Z3g (k : Nat) : pl L a k ++ [⟨0, 0, 0, L.getD k 0, a⟩] = pl L a (k + 1) := by
 have _ := And.intro hL (And.intro h0 (And.intro h1 (And.intro g0 (And.intro g1 (And.intro hm ht)))))
 simp [pl, List.range_succ]
theorem Z2A : ∀ d k : Nat, 1 ≤ k → k + d = min 4 L.length → ∀ w, Zcj (ZC L b a 100000) (w + 7 + d) (.h1m1 (pl L a k) k) = some (.r0 true)
 | 0, k, h, e, w => by
  have s : ZC L b a 100000 (.h1m1 (pl L a k) k) = some (.inl (.h2m1 (pl L a k))) := by
   refine Eq.trans (show _ = Zcb L b a 100000 (pl L a k) k from rfl) ?_
   unfold Zcb
   rw [if_pos g0, if_pos g1, if_pos h0, if_pos h1]
   by_cases c : (k : Int) < (L.length : Int)
   ·rw [if_pos c, if_neg (by omega)]
   ·rw [if_neg c]
  exact (ZN (n := w + 6) s).trans (Z3e hL h0 h1 g0 g1 hm ht (by omega) w)
 | d + 1, k, h, e, w => by
  have s : ZC L b a 100000 (.h1m1 (pl L a k) k) = some (.inl (.h1m1 (pl L a (k + 1)) (k + 1))) := by
   refine Eq.trans (show _ = Zcb L b a 100000 (pl L a k) k from rfl) ?_
   unfold Zcb
   rw [if_pos g0, if_pos g1, if_pos h0, if_pos h1, if_pos (by omega), if_pos (by omega), if_pos (by simp [pl]; omega), Z3g hL h0 h1 g0 g1 hm ht]
  exact (ZN (n := w + 7 + d) s).trans (Z2A d (k + 1) (by omega) (by omega) w)
end
theorem Zy8 (L : List Int) (b a : Int) (hL : ∀ x ∈ L, 0 ≤ x ∧ x ≤ 255) (g0 : 0 ≤ b) (g1 : b ≤ 255) (h0 : 0 ≤ a) (h1 : a ≤ 255) : Zjc L b a 100000 = some (.r0 true) := by
 have hm : 1 + a % 3 = 1 + a % 3 := rfl
 have ht : b % 5 = (((b % 5).toNat : Nat) : Int) := by omega
 have e : Zep L b a 100000 = some (.inl .h1m0) := by
  unfold Zep
  rw [if_pos g0, if_pos g1, if_pos h0, if_pos h1]
 unfold Zjc
 refine (Zf3 e).trans ?_
 by_cases c : (0 : Int) < (L.length : Int)
 ·have s : ZC L b a 100000 .h1m0 = some (.inl (.h1m1 (pl L a 1) 1)) := by
   refine Eq.trans (show _ = Zca L b a 100000 from rfl) ?_
   unfold Zca
   rw [if_pos g0, if_pos g1, if_pos h0, if_pos h1, if_pos c]
   rfl
  refine (ZN (n := 99999) s).trans (Zk0 (n := 0 + 7 + (min 4 L.length - 1)) (by omega) ?_)
  exact Z2A hL h0 h1 g0 g1 hm ht (min 4 L.length - 1) 1 (by omega) (by omega) 0
 ·have s : ZC L b a 100000 .h1m0 = some (.inl .h2m0) := by
   refine Eq.trans (show _ = Zca L b a 100000 from rfl) ?_
   unfold Zca
   rw [if_pos g0, if_pos g1, if_pos h0, if_pos h1, if_neg c]
  exact (ZN (n := 99999) s).trans (Z3f hL h0 h1 g0 g1 hm ht 99993)
end Ev
end Go.Proofs.YthfohmhipifiaaaGreat
/- A region that draws its order, whose first operations only read (and make memory in calls), and whose last ones, in a forced order among themselves, make and write new memory: but these may come up early. -/
namespace Go.Proofs.YthfohmhipifiaaaGreat
open Go.RowKit

section
variable {P : Program}

end
end Go.Proofs.YthfohmhipifiaaaGreat
/- The law FifoRoom, for every input. -/
namespace Go.Proofs.YthfohmhipifiaaaGreat
open Go.ChangeShapes Go.WideShapes Go.ChangeAt Go.RowKit
namespace Ev
namespace FifoRoom
set_option linter.unusedVariables false
def el0R (x : Int) : Prop := (IntKind.u8.min ≤ x ∧ x ≤ IntKind.u8.max)
theorem el0 {H : Type} {enc : TypeId × Value → H} {w : World} {cs : List Value} (hl : cs.length = 1) (h : Trd enc Tryz.prog w 5 cs) : ∃ x : Int, DecL w cs ((ZiU .u8).cel x) ∧ el0R x := by
 have h0 := Z3y (by kernel_rfl : Tryz.prog.cellsOf 5 = 1) hl h
 obtain ⟨x0, e0, b0⟩ := Z3z Tryz.underlying5 (by kernel_rfl) h0
 refine ⟨(x0 : Int), Z2X (by rw [hl, Enc.clen]; rfl) (fun j y hy => ?_), b0⟩
 have := (Z2Y (w := w) (k := 0) e0 .k (Z3x (w := w))) j y hy
 simpa using this
theorem own : ownKnob Tryz.prog.godebug = none := by kernel_rfl
set_option maxRecDepth 100000 in
theorem lifted (os : Os) (started : os.Started) (H : Type) (enc : TypeId × Value → H) :
  ReturnsInHanded {} Tryz.checked os 3 .any (Rows.fifoRoomSpec.pre6 enc Tryz.prog Tryz.f3 Rows.fifoRoomRow.domain false) (Rows.fifoRoomSpec.post enc Tryz.prog Tryz.f3 false true false false) := by
 refine Z1x (C := Tryz.checked) own started (by kernel_rfl) Tryz.func3 rfl rfl Tryz.underlying4 ?_ (by kernel_rfl) (by kernel_rfl)
  (ChangeSpec.witness6 (enc := enc) (C := Tryz.checked) false ⟨#[], #[.slice none 0 0, .int .u8 0, .int .u8 0], []⟩ 8 (by kernel_rfl) (by kernel_rfl) (by kernel_rfl) (by kernel_rfl)) ?_
 ·intro ds hlen
  have hlen : ds.length = 3 := hlen.trans (by kernel_rfl)
  match ds, hlen with
  | [_, _, _], _ => rfl
 intro W base args ds p hval hA hlt hsz
 rw [Tryz.params3] at hA hval
 obtain ⟨v0, vs0, d0, ds0, p0, q0, hargs, rfl, rfl, h0, r0⟩ := trodAll_cons hA
 obtain ⟨v1, vs1, d1, ds1, p1, q1, rfl, rfl, rfl, h1, r1⟩ := trodAll_cons r0
 obtain ⟨v2, vs2, d2, ds2, p2, q2, rfl, rfl, rfl, h2, r2⟩ := trodAll_cons r1
 obtain ⟨rfl, rfl, rfl⟩ := trodAll_nil r2
 obtain rfl : args = #[v0, v1, v2] := by cases args; simp_all
 obtain ⟨a0, l0, c0, rfl⟩ := Go.WideShapes.okWide_slice Tryz.underlying22 (hval 0 22 v0 rfl rfl)
 obtain ⟨L0, u0, e0, D0, n0, m0⟩ := Z15 (E := (ZiU .u8)) (Q := el0R) Tryz.underlying22 (by kernel_rfl) (by decide) (fun _ => el0) (Z2Z h0)
 obtain rfl : u0 = .slice a0 l0 c0 := by have := e0; simp [Value.cells] at this; exact this.symm
 obtain ⟨z1, rfl, w1⟩ := Ztg (k := .u8) (by kernel_rfl) (Zth (by kernel_rfl) (hval 1 5 v1 rfl rfl))
 obtain ⟨z2, rfl, w2⟩ := Ztg (k := .u8) (by kernel_rfl) (Zth (by kernel_rfl) (hval 2 5 v2 rfl rfl))
 exact Z3s (ZoO L0 z1 z2 100000 _ (Zy8 L0 z1 z2 m0 w1.1 w1.2 w2.1 w2.2)) (ZrP (show VR (ιMk W) (ms (ZiU .u8) L0) _ from D0.vr) (ZrP (.atom rfl) (ZrP (.atom rfl) Z2M))) rfl
theorem over : Rows.fifoRoomRow.holds Tryz.pinned (OpenSpec.ofChange Rows.fifoRoomSpec) :=
 OpenClaim.holds_of_wide 3 Tryz.f3 rfl rfl rfl rfl rfl rfl rfl ⟨rfl, rfl, rfl, rfl, rfl⟩ rfl rfl rfl rfl rfl (by kernel_rfl) Tryz.func3 (by kernel_rfl)
  (of_decide_eq_true (by kernel_rfl)) (by unfold Func.isWrapper; first | (rw [if_pos (by decide +kernel)]; kernel_rfl) | (rw [if_neg (by decide +kernel)]; exact ⟨rfl, rfl⟩))
  (fun os started H enc _ => lifted os started H enc)
theorem proved : Rows.FifoRoomSaid := over
#print axioms proved
end FifoRoom
end Ev
end Go.Proofs.YthfohmhipifiaaaGreat
