/- Part 6. -/
import Derived.Test.YthfohmhipifiaaaGreatZae
set_option linter.unusedSimpArgs false
set_option linter.unusedVariables false
/- Calls do what the plain functions say. -/
namespace Go.Proofs.YthfohmhipifiaaaGreat
open Go.RowKit
namespace Ev
open Mach (oi ok_ite ok_bind okF okN enH)
set_option linter.unusedVariables false
set_option maxRecDepth 100000
noncomputable def Zka : ZK → Value
 | .r0 => Value.tuple #[vn, vf]
 | .r1 w1 => Value.tuple #[vs 1 0 w1.length w1.length, vT]
section
variable (L0 : List RM)
noncomputable abbrev κ9 := (AObj.cells (Zd RF L0) 25)
noncomputable def Zj5 : ZK → List (Option AObj)
 | .r0 => [some (κ9 L0)]
 | .r1 w1 => [some (κ9 L0), some (.cells (Zd RB w1) 89)]

noncomputable def ZrY : ZK → Value
 | .r0 => Value.tuple #[vn, vf]
 | .r1 w1 => Value.tuple #[ms RB w1, vT]
noncomputable def ZqC : ZK → List (Option AObj)
 | .r0 => [some (κ9 L0)]
 | .r1 w1 => [some (κ9 L0)]

def ZqD : ZT → Nat
 | .h1m0 => 1
 | .h1m1 v1 v2 => 1
noncomputable def ZrZ : ZT → List (Nat × Value)
 | .h1m0 => [(0, vs 0 0 L0.length L0.length), (4, vn), (5, vq)]
 | .h1m1 v1 v2 => [(0, vs 0 0 L0.length L0.length), (4, vs 1 0 v1.length v1.length), (5, vi (v2 : Int))]
noncomputable def Zsa : ZT → List (Option AObj)
 | .h1m0 => [some (κ9 L0)]
 | .h1m1 v1 v2 => [some (κ9 L0), some (.cells (Zd RB v1) 89)]

noncomputable def ZcE : Nat → Code × List ZD
 | 1 => ZX [1, 1, 0, 1, 3] (Zaw Tryz.f7) []
 | _ => (.skip, [])
def Zkb : Nat → Bool
 | 1 => true
 | _ => true
noncomputable def Zla (i : Nat) : List ZD := match Zkb i with | true => .rnd i :: (ZcE i).2 | false => (ZcE i).2

noncomputable def ZcF (N : Nat) : Mach := ⟨Tryz.f7, [.cells (Zd RF L0) 25], ZT, ZK, Zby L0 N, ZqD, ZcE, Zkb, ZrZ L0, Zsa L0, Zka, Zj5 L0⟩

noncomputable abbrev κP := (vi ((1 : Nat) : Int) : Value)
theorem ZmI (N : Nat) : (ZcF L0 N).Ok Tryz.prog Zg (.h1m0 : ZT) (Zby L0 N (.h1m0 : ZT)) := by
 show (ZcF L0 N).Ok Tryz.prog Zg (.h1m0 : ZT) (ZcX L0 N)
 unfold ZcX
 refine ok_ite (fun g0 => ?_) fun g0 => ?_
 ·
  have w1 := kLn RF L0 0 0 5 <| kB 0 L0.length <| kI 0 (Int.ofNat 0) <| hY g0 Zb
  refine ok_bind fun z1 c1 => ?_
  cases z1 with
  | r0 y1_0 =>
   refine ok_ite (fun g2 => ?_) fun g2 => ?_
   ·
    exact okF (Za (oq [1, 7]) [] [(0, 0)] [(0, (RF.cel (L0.getD 0 RM.z)))] [(0, (tP (ZaD c1)).t)]) [0] (Value.tuple #[vn, vf]) (hY g2 <| kK (tQ (ZaD c1) 1) w1) (bR <| bE)
   refine ok_ite (fun g3 => ?_) fun g3 => ?_
   ·
    exact okF (Za (oq [1, 6, 9]) [] [(0, 0)] [(0, (RF.cel (L0.getD 0 RM.z)))] [(0, (tP (ZaD c1)).t)]) [0] (Value.tuple #[vn, vf]) (kY ((y1_0.length : Int) > 60) <| hN g2 <| kK (tQ (ZaD c1) 1) w1) (bR <| bE)
   exact okN (Za (oq [1, 6, 8]) [] [(0, 0)] [(0, (RF.cel (L0.getD 0 RM.z)))] [(0, (tP (ZaD c1)).t), (1, .ap y1_0.length (Zd RB y1_0) (Zd RB y1_0)), (2, .ap 1 [vi 19, vi 7, vq, vq] (Zd RB (y1_0 ++ ([(⟨19, 7, 0, 0⟩ : RI)] : List RI))))]) [0, 3] [some (vs 0 0 L0.length L0.length), some (vs 3 0 (y1_0.length + 1) (y1_0.length + 1)), some (vi 1)] (kA RB y1_0 (⟨19, 7, 0, 0⟩ : RI) <| kX (dP ((y1_0.length = y1_0.length ∧ ((y1_0.length * 4 = 0 ∧ (Zd RB y1_0) = []) ∨ ∃ c, y1_0.length * 4 ≠ 0 ∧ Zay (code (Zak RB y1_0)) 0 (y1_0.length * 4) = some c ∧ (Zd RB y1_0) = Zw c)) ∧ 0 < y1_0.length ∧ y1_0.length ≤ 100000 ∧ (Zd RB y1_0) = (Zd RB y1_0))) true (Z1 ⟨⟨rfl, (ZdE (E := RB) (L := y1_0) (n := y1_0.length) (size := 4) rfl (by decide) (by omega))⟩, by omega, by omega, rfl⟩) <| kN ((y1_0.length : Int) > 60) <| hN g2 <| kK (tQ (ZaD c1) 1) w1) (tC (tC (tC (tE) ⟨Eq.trans (show κP = vi 1 from ci) (by rfl), by rfl⟩) ⟨Eq.trans (show (vs 1 0 (y1_0 ++ ([(⟨19, 7, 0, 0⟩ : RI)] : List RI)).length (y1_0 ++ ([(⟨19, 7, 0, 0⟩ : RI)] : List RI)).length : Value) = vs 1 0 (y1_0.length + 1) (y1_0.length + 1) from (Z0 rfl eqA eqA)) (by rfl), by rfl⟩)) (bR <| bR <| bE) (show 1 ∈ Zj (Zla 1) from by decide +kernel)
  | r1 =>
   exact okF (Za (oq [1]) [] [(0, 0)] [(0, (RF.cel (L0.getD 0 RM.z)))] [(0, (tP (ZaD c1)).t)]) [0] (Value.tuple #[vn, vf]) (kK (tQ (ZaD c1) 1) w1) (bR <| bE)
 exact okF (Za (oq [0]) [] [] [] []) [0, 2] (Value.tuple #[vs 2 0 1 1, vT]) (hN g0 Zb) (bR <| bC (o := .cells [vi 20, vq, vq, vq] 89) (Zae (E := RB) _ (L := ([(⟨20, 0, 0, 0⟩ : RI)] : List RI)) _ (show ([vi 20, vq, vq, vq] : List Value) = Zd RB ([(⟨20, 0, 0, 0⟩ : RI)] : List RI) from rfl)) <| bE) (hv := ⟨Eq.trans (show (Value.tuple #[vs 1 0 ([(⟨20, 0, 0, 0⟩ : RI)] : List RI).length ([(⟨20, 0, 0, 0⟩ : RI)] : List RI).length, vT] : Value) = Value.tuple #[vs 1 0 1 1, vT] from (Za7 (Zf (Z0 rfl eqA eqA) (cr rfl)))) (by rfl), by rfl⟩)

noncomputable abbrev κbm (v1 : List RI) := (Value.tuple #[vs 1 0 (v1 ++ ([(⟨20, 0, 0, 0⟩ : RI)] : List RI)).length (v1 ++ ([(⟨20, 0, 0, 0⟩ : RI)] : List RI)).length, vT] : Value)
noncomputable abbrev κB (v2 : Nat) := (vi (((v2 + 1) : Nat) : Int))
theorem ZmJ (v1 : List RI) (v2 N : Nat) : (ZcF L0 N).Ok Tryz.prog Zg (.h1m1 v1 v2 : ZT) (Zby L0 N (.h1m1 v1 v2 : ZT)) := by
 show (ZcF L0 N).Ok Tryz.prog Zg (.h1m1 v1 v2 : ZT) (ZbI L0 N v1 v2)
 unfold ZbI
 refine ok_ite (fun g0 => ?_) fun g0 => ?_
 ·
  refine ok_ite (fun g1 => ?_) fun g1 => ?_
  ·
   have w2 := kLn RF L0 v2 0 5 <| kB v2 L0.length <| kI (v2 : Int) (Int.ofNat v2) <| hY g1 <| hY g0 Zb
   refine ok_bind fun z2 c2 => ?_
   cases z2 with
   | r0 y2_0 =>
    refine ok_ite (fun g3 => ?_) fun g3 => ?_
    ·
     exact okF (Za (oq [1, 3, 7]) [] [(0, v2)] [(0, (RF.cel (L0.getD v2 RM.z)))] [(0, (tP (ZaD c2)).t)]) [0] (Value.tuple #[vn, vf]) (hY g3 <| kK (tQ (ZaD c2) 2) w2) (bR <| bE)
    refine ok_ite (fun g4 => ?_) fun g4 => ?_
    ·
     exact okF (Za (oq [1, 3, 6, 9]) [] [(0, v2)] [(0, (RF.cel (L0.getD v2 RM.z)))] [(0, (tP (ZaD c2)).t)]) [0] (Value.tuple #[vn, vf]) (kY ((y2_0.length : Int) > 60) <| hN g3 <| kK (tQ (ZaD c2) 2) w2) (bR <| bE)
    refine oi fun g5 => ?_
    refine oi fun g6 => ?_
    exact okN (Za (oq [1, 3, 6, 8]) [(0, (((v2 + 1) : Nat) : Int))] [(0, v2)] [(0, (RF.cel (L0.getD v2 RM.z)))] [(0, (tP (ZaD c2)).t), (1, .ap y2_0.length (Zd RB y2_0) (Zd RB (v1 ++ y2_0))), (2, .ap 1 [vi 19, vi 7, vq, vq] (Zd RB ((v1 ++ y2_0) ++ ([(⟨19, 7, 0, 0⟩ : RI)] : List RI))))]) [0, 4] [some (vs 0 0 L0.length L0.length), some (vs 4 0 ((v1.length + y2_0.length) + 1) ((v1.length + y2_0.length) + 1)), some (κB v2)] (kW ((v2 : Int) + 1) (((v2 + 1) : Nat) : Int) <| kA' RB (v1 ++ y2_0) (v1.length + y2_0.length) (⟨19, 7, 0, 0⟩ : RI) <| kX (dP ((y2_0.length = y2_0.length ∧ ((y2_0.length * 4 = 0 ∧ (Zd RB y2_0) = []) ∨ ∃ c, y2_0.length * 4 ≠ 0 ∧ Zay (code (Zak RB y2_0)) 0 (y2_0.length * 4) = some c ∧ (Zd RB y2_0) = Zw c)) ∧ 0 < y2_0.length ∧ y2_0.length ≤ 100000 ∧ v1.length < v1.length + y2_0.length ∧ v1.length ≤ 100000 ∧ v1.length * 4 ≤ (List.length (Zd RB v1)) ∧ List.take (v1.length * 4) (Zd RB v1) ++ (Zd RB y2_0) = (Zd RB (v1 ++ y2_0)))) true (Z1 ⟨⟨rfl, (ZdE (E := RB) (L := y2_0) (n := y2_0.length) (size := 4) rfl (by decide) (by omega))⟩, by omega, by omega, ltA, by omega, (Zbf (E := RB) (L := v1) (M := y2_0) (n := v1.length) (show _ = _ * 4 from rfl) (by omega) (R := (v1 ++ y2_0)) (by rw [List.take_of_length_le (by omega)]))⟩) <| kN ((y2_0.length : Int) > 60) <| hN g3 <| kK (tQ (ZaD c2) 2) w2) (tC (tC (tC (tE)) ⟨Eq.trans (show (vs 1 0 ((v1 ++ y2_0) ++ ([(⟨19, 7, 0, 0⟩ : RI)] : List RI)).length ((v1 ++ y2_0) ++ ([(⟨19, 7, 0, 0⟩ : RI)] : List RI)).length : Value) = vs 1 0 ((v1.length + y2_0.length) + 1) ((v1.length + y2_0.length) + 1) from (Z0 rfl eqA eqA)) (by rfl), by rfl⟩)) (bR <| bR <| bE) (show 1 ∈ Zj (Zla 1) from by decide +kernel)
   | r1 =>
    exact okF (Za (oq [1, 3]) [] [(0, v2)] [(0, (RF.cel (L0.getD v2 RM.z)))] [(0, (tP (ZaD c2)).t)]) [0] (Value.tuple #[vn, vf]) (kK (tQ (ZaD c2) 2) w2) (bR <| bE)
  refine oi fun g2 => ?_
  exact okF (Za (oq [1, 2]) [] [] [] [(0, .ap 1 [vi 20, vq, vq, vq] (Zd RB (v1 ++ ([(⟨20, 0, 0, 0⟩ : RI)] : List RI))))]) [0, 3] (Value.tuple #[vs 3 0 (v1.length + 1) (v1.length + 1), vT]) (kA RB v1 (⟨20, 0, 0, 0⟩ : RI) <| hN g1 <| hY g0 Zb) (bR <| bR <| bE) (hv := ⟨Eq.trans (show (κbm v1) = Value.tuple #[vs 1 0 (v1.length + 1) (v1.length + 1), vT] from (Za7 (Zf (Z0 rfl eqA eqA) (cr rfl)))) (by rfl), by rfl⟩)
 refine oi fun g1 => ?_
 exact okF (Za (oq [0]) [] [] [] [(0, .ap 1 [vi 20, vq, vq, vq] (Zd RB (v1 ++ ([(⟨20, 0, 0, 0⟩ : RI)] : List RI))))]) [0, 3] (Value.tuple #[vs 3 0 (v1.length + 1) (v1.length + 1), vT]) (kA RB v1 (⟨20, 0, 0, 0⟩ : RI) <| hN g0 Zb) (bR <| bR <| bE) (hv := ⟨Eq.trans (show (κbm v1) = Value.tuple #[vs 1 0 (v1.length + 1) (v1.length + 1), vT] from (Za7 (Zf (Z0 rfl eqA eqA) (cr rfl)))) (by rfl), by rfl⟩)

theorem Zp3 (N : Nat) : (ZcF L0 N).Enter Tryz.prog Zg #[vs 0 0 L0.length L0.length] (Zho L0 N) := by
 unfold Zho
 exact enH (ZcE 1) (Za (oq []) [] [] [] []) [0] [some (vs 0 0 L0.length L0.length), some (vn), some (vq)] Zb (tC (tC (tC (tE)))) (bR <| bE) (show Zj (ZcE 1).2 = [] from rfl)

theorem ZmK (N : Nat) (r : ZK) (h : ZaB L0 N = some r) : LSpec Tryz.prog 7 #[vs 0 0 L0.length L0.length] [.cells (Zd RF L0) 25] (Zka r) (Zj5 L0 r) :=
 Mach.spec ZB (ZcF L0 N) Tryz.func7 (by kernel_rfl) (by kernel_rfl) (fun x => by cases x <;> exact Zu _ rfl) (fun r => by cases r <;> exact Zu _ rfl) (fun x => by
  cases x with
  | h1m0 => exact fun _ => (show ¬ (1 ∈ Zj (ZcE 1).2) from by decide +kernel)
  | h1m1 _ _ => exact fun _ => (show ¬ (1 ∈ Zj (ZcE 1).2) from by decide +kernel)
  ) (fun x => (show (ZcF L0 N).Ok Tryz.prog Zg x (Zby L0 N x) from by
  cases x with
  | h1m0 => exact ZmI L0 N
  | h1m1 v1 v2 => exact ZmJ L0 v1 v2 N
  )) (Zp3 L0 N) (n := N) h

theorem ZiE (N : Nat) (r : ZK) (h : ZaB L0 N = some r) : LSpec Tryz.prog 7 #[vs 0 0 L0.length L0.length] [.cells (Zd RF L0) 25] (ZrY r) (ZqC L0 r) := by
 have h0 := ZmK L0 N r h
 cases r with
 | r0 => exact h0
 | r1 w1 => exact (LSpec.frzv (E := RB) (L := w1) (post := [some (κ9 L0)]) (v2 := Value.tuple #[ms RB w1, vT]) h0 (show 1 ≤ 1 from by decide) (show 1 < 1000000000 from by decide) ⟨(Zdj _ _ _), trivial⟩ rfl rfl rfl)

end
noncomputable def Zkc {L0 : List RM} {N : Nat} (h : ZaB L0 N = some (.r0)) (ks : List Nat) (n : Nat) : ToldS := ⟨#[vs (nth ks 0) 0 L0.length L0.length], [((nth ks 0), .cells (Zd RF L0) 25)], Value.tuple #[vn, vf], [], 0⟩

theorem ZqE {L0 : List RM} {N : Nat} (h : ZaB L0 N = some (.r0)) (ks : List Nat) (n : Nat) (hk : ks.length = 1 := by rfl) (hnd : ks.Nodup := by decide +kernel) (hlt : ∀ k ∈ ks, k < n := by decide +kernel) : (Zkc (N := N)  h ks n).P Tryz.prog 7 n :=
 match ks, hk, hnd, hlt with
 | [k0], _, hnd, hlt => ZcO (show LSpec Tryz.prog 7 #[vs 0 0 L0.length L0.length] [.cells (Zd RF L0) 25] (Value.tuple #[vn, vf]) [some (κ9 L0)] from ZiE L0 N _ h) _ n [] hnd hlt

noncomputable def Zm {L0 : List RM} {w1 : List RI} {N : Nat} (h : ZaB L0 N = some (.r1 w1)) (ks : List Nat) (n : Nat) : ToldS := ⟨#[vs (nth ks 0) 0 L0.length L0.length], [((nth ks 0), .cells (Zd RF L0) 25)], Value.tuple #[ms RB w1, vT], [], 0⟩

theorem ZdN {L0 : List RM} {w1 : List RI} {N : Nat} (h : ZaB L0 N = some (.r1 w1)) (ks : List Nat) (n : Nat) (hk : ks.length = 1 := by rfl) (hnd : ks.Nodup := by decide +kernel) (hlt : ∀ k ∈ ks, k < n := by decide +kernel) : (Zm (N := N)  h ks n).P Tryz.prog 7 n :=
 match ks, hk, hnd, hlt with
 | [k0], _, hnd, hlt => ZcO (show LSpec Tryz.prog 7 #[vs 0 0 L0.length L0.length] [.cells (Zd RF L0) 25] (Value.tuple #[ms RB w1, vT]) [some (κ9 L0)] from ZiE L0 N _ h) _ n [] hnd hlt

noncomputable def Zp4 : ZbQ → Value
 | .r0 => Value.tuple #[vs 0 0 1 1, vT]
 | .r1 w0 => Value.tuple #[vn, Value.bool w0]
noncomputable def ZnV (a0 a1 a2 a3 a4 : Int) : ZbQ → List (Option AObj)
 | .r0 => [some (.cells (Zd RA ([(⟨a4, 0⟩ : RG)] : List RG)) 176)]
 | .r1 w0 => []

noncomputable def Zrw (a0 a1 a2 a3 a4 : Int) : ZbQ → Value
 | .r0 => Value.tuple #[ms RA ([(⟨a4, 0⟩ : RG)] : List RG), vT]
 | .r1 w0 => Value.tuple #[vn, Value.bool w0]
noncomputable def Zp5 : ZbQ → List (Option AObj)
 | .r0 => []
 | .r1 w0 => []

section
variable (a0 a1 a2 a3 a4 : Int) (N : Nat)
theorem ZvL : Fx Tryz.prog Zg Tryz.f94 [] #[vn, Value.agg #[vi a0, vi a1, vi a2, vi a3], vi a4] (Zp4) (ZnV a0 a1 a2 a3 a4) (ZeH a0 a1 a2 a3 a4 N) := by
 unfold ZeH
 refine Ze (fun g0 => ?_) (fun g0 => ?_)
 ·
  exact fxC (Za (oq [1]) [] [] [] []) [3] (Value.tuple #[vs 3 0 1 1, vT]) (hT g0 Zb) (bC (o := .cells [vi a4, vq] 176) (Zae (E := RA) _ (L := ([(⟨a4, 0⟩ : RG)] : List RG)) _ (show ([vi a4, vq] : List Value) = Zd RA ([(⟨a4, 0⟩ : RG)] : List RG) from rfl)) <| bE)
 refine Ze (fun g1 => ?_) (fun g1 => ?_)
 ·
  exact fxC (Za (oq [0, 3]) [] [] [] []) [] (Value.tuple #[vn, vf]) (hT g1 <| hF g0 Zb) bE
 refine Ze (fun g2 => ?_) (fun g2 => ?_)
 ·
  exact fxC (Za (oq [0, 2, 5]) [] [] [] []) [] (Value.tuple #[vn, vf]) (hT g2 <| hF g1 <| hF g0 Zb) bE
 refine Ze (fun g3 => ?_) (fun g3 => ?_)
 ·
  exact fxC (Za (oq [0, 2, 4, 7]) [] [] [] []) [] (Value.tuple #[vn, vf]) (hT g3 <| hF g2 <| hF g1 <| hF g0 Zb) bE
 by_cases g4 : a0 = 20
 ·
  exact fxC (Za (oq [0, 2, 4, 6, 9]) [] [] [] []) [] (Value.tuple #[vn, vT]) (hT g4 <| hF g3 <| hF g2 <| hF g1 <| hF g0 Zb) bE
 exact fxC (Za (oq [0, 2, 4, 6, 8]) [] [] [] []) [] (Value.tuple #[vn, vT]) (hF g4 <| hF g3 <| hF g2 <| hF g1 <| hF g0 Zb) bE

theorem Zsb (r : ZbQ) (h : ZeH a0 a1 a2 a3 a4 N = some r) : LSpec Tryz.prog 94 #[vn, Value.agg #[vi a0, vi a1, vi a2, vi a3], vi a4] [] (Zp4 r) (ZnV a0 a1 a2 a3 a4 r) :=
 Zax ZB Tryz.func94 (by kernel_rfl) (by kernel_rfl) (fun r => by cases r <;> exact Zu _ rfl) (ZvL a0 a1 a2 a3 a4 N) h

theorem Zts (r : ZbQ) (h : ZeH a0 a1 a2 a3 a4 N = some r) : LSpec Tryz.prog 94 #[vn, Value.agg #[vi a0, vi a1, vi a2, vi a3], vi a4] [] (Zrw a0 a1 a2 a3 a4 r) (Zp5 r) := by
 have h0 := Zsb a0 a1 a2 a3 a4 N r h
 cases r with
 | r0 => exact (LSpec.frzv (E := RA) (L := ([(⟨a4, 0⟩ : RG)] : List RG)) (post := []) (v2 := Value.tuple #[ms RA ([(⟨a4, 0⟩ : RG)] : List RG), vT]) h0 (show 0 ≤ 0 from by decide) (show 0 < 1000000000 from by decide) trivial rfl (Za7 (Zf (Zg1 eqA eqA) (cr rfl))) rfl)
 | r1 _ => exact h0

end
theorem Zcl {a0 a1 a2 a3 a4 : Int} {N : Nat} {r : ZbQ} (h : ZeH a0 a1 a2 a3 a4 N = some r) : LSpec Tryz.prog 94 #[vn, Value.agg #[vi a0, vi a1, vi a2, vi a3], vi a4] [] (Zrw a0 a1 a2 a3 a4 r) (Zp5 r) := Zts a0 a1 a2 a3 a4 N r h

noncomputable def Zn9 : Zal → Value
 | .r0 w0 w1 w2 w3 => Value.tuple #[Value.agg #[vi w0, vi w1, vi w2], Value.bool w3]
noncomputable def Zmj : Zal → List (Option AObj)
 | .r0 w0 w1 w2 w3 => []

noncomputable abbrev κbp := (Value.tuple #[Value.agg #[vi 1, vq, vq], vT])
noncomputable abbrev κbn := (Value.tuple #[Value.agg #[vi 1, vi 1, vi 1], vT])
noncomputable abbrev κbi := (Value.tuple #[Value.agg #[vq, vq, vq], vT])
theorem ZxJ (a0 : Int) (N : Nat) : Fx Tryz.prog Zg Tryz.f121 [] #[vi a0] (Zn9) (Zmj) (Zj4 a0 N) := by
 unfold Zj4
 refine Ze (fun g0 => ?_) (fun g0 => ?_)
 ·
  exact fxC (Za (oq [1]) [] [] [] []) [] (Value.tuple #[Value.agg #[vi 1, vi 2, vq], vT]) (hT g0 Zb) bE
 refine Ze (fun g1 => ?_) (fun g1 => ?_)
 ·
  exact fxC (Za (oq [0, 3]) [] [] [] []) [] κbp (hT g1 <| hF g0 Zb) bE
 have w2 := hF g1 <| hF g0 Zb
 refine Ze (fun g2 => ?_) (fun g2 => ?_)
 ·
  exact fxC (Za (oq [0, 2, 5]) [] [] [] []) [] κbp (hT g2 w2) bE
 refine Ze (fun g3 => ?_) (fun g3 => ?_)
 ·
  exact fxC (Za (oq [0, 2, 4, 7]) [] [] [] []) [] κbp (hT g3 <| hF g2 w2) bE
 have w4 := hF g3 <| hF g2 w2
 refine Ze (fun g4 => ?_) (fun g4 => ?_)
 ·
  exact fxC (Za (oq [0, 2, 4, 6, 9]) [] [] [] []) [] κbp (hT g4 w4) bE
 refine Ze (fun g5 => ?_) (fun g5 => ?_)
 ·
  exact fxC (Za (oq [0, 2, 4, 6, 8, 11]) [] [] [] []) [] (Value.tuple #[Value.agg #[vi 1, vi 1, vq], vT]) (hT g5 <| hF g4 w4) bE
 have w6 := hF g5 <| hF g4 w4
 refine Ze (fun g6 => ?_) (fun g6 => ?_)
 ·
  exact fxC (Za (oq [0, 2, 4, 6, 8, 10, 13]) [] [] [] []) [] κbn (hT g6 w6) bE
 refine Ze (fun g7 => ?_) (fun g7 => ?_)
 ·
  exact fxC (Za (oq [0, 2, 4, 6, 8, 10, 12, 15]) [] [] [] []) [] κbn (hT g7 <| hF g6 w6) bE
 have w8 := hF g7 <| hF g6 w6
 refine Ze (fun g8 => ?_) (fun g8 => ?_)
 ·
  exact fxC (Za (oq [0, 2, 4, 6, 8, 10, 12, 14, 17]) [] [] [] []) [] κbn (hT g8 w8) bE
 refine Ze (fun g9 => ?_) (fun g9 => ?_)
 ·
  exact fxC (Za (oq [0, 2, 4, 6, 8, 10, 12, 14, 16, 19]) [] [] [] []) [] κbn (hT g9 <| hF g8 w8) bE
 refine Ze (fun g10 => ?_) (fun g10 => ?_)
 ·
  exact fxC (Za (oq [0, 2, 4, 6, 8, 10, 12, 14, 16, 18, 21]) [] [] [] []) [] (Value.tuple #[Value.agg #[vi 3, vq, vq], vT]) (hT g10 <| hF g9 <| hF g8 w8) bE
 have w11 := hF g10 <| hF g9 <| hF g8 w8
 refine Ze (fun g11 => ?_) (fun g11 => ?_)
 ·
  exact fxC (Za (oq [0, 2, 4, 6, 8, 10, 12, 14, 16, 18, 20, 23]) [] [] [] []) [] (Value.tuple #[Value.agg #[vi 1, vi 3, vq], vT]) (hT g11 w11) bE
 refine Ze (fun g12 => ?_) (fun g12 => ?_)
 ·
  exact fxC (Za (oq [0, 2, 4, 6, 8, 10, 12, 14, 16, 18, 20, 22, 25]) [] [] [] []) [] (Value.tuple #[Value.agg #[vi 1, vi 5, vi 6], vT]) (hT g12 <| hF g11 w11) bE
 refine Ze (fun g13 => ?_) (fun g13 => ?_)
 ·
  exact fxC (Za (oq [0, 2, 4, 6, 8, 10, 12, 14, 16, 18, 20, 22, 24, 27]) [] [] [] []) [] (Value.tuple #[Value.agg #[vi 1, vi 1, vi 4], vT]) (hT g13 <| hF g12 <| hF g11 w11) bE
 have w14 := hF g13 <| hF g12 <| hF g11 w11
 refine Ze (fun g14 => ?_) (fun g14 => ?_)
 ·
  exact fxC (Za (oq [0, 2, 4, 6, 8, 10, 12, 14, 16, 18, 20, 22, 24, 26, 29]) [] [] [] []) [] (Value.tuple #[Value.agg #[vi 1, vi 4, vi 1], vT]) (hT g14 w14) bE
 refine Ze (fun g15 => ?_) (fun g15 => ?_)
 ·
  exact fxC (Za (oq [0, 2, 4, 6, 8, 10, 12, 14, 16, 18, 20, 22, 24, 26, 28, 31]) [] [] [] []) [] κbi (hT g15 <| hF g14 w14) bE
 refine Ze (fun g16 => ?_) (fun g16 => ?_)
 ·
  exact fxC (Za (oq [0, 2, 4, 6, 8, 10, 12, 14, 16, 18, 20, 22, 24, 26, 28, 30, 33]) [] [] [] []) [] κbi (hT g16 <| hF g15 <| hF g14 w14) bE
 refine Ze (fun g17 => ?_) (fun g17 => ?_)
 ·
  exact fxC (Za (oq [0, 2, 4, 6, 8, 10, 12, 14, 16, 18, 20, 22, 24, 26, 28, 30, 32, 35]) [] [] [] []) [] κbi (hT g17 <| hF g16 <| hF g15 <| hF g14 w14) bE
 refine Ze (fun g18 => ?_) (fun g18 => ?_)
 ·
  exact fxC (Za (oq [0, 2, 4, 6, 8, 10, 12, 14, 16, 18, 20, 22, 24, 26, 28, 30, 32, 34, 37]) [] [] [] []) [] κbi (hT g18 <| hF g17 <| hF g16 <| hF g15 <| hF g14 w14) bE
 refine Ze (fun g19 => ?_) (fun g19 => ?_)
 ·
  exact fxC (Za (oq [0, 2, 4, 6, 8, 10, 12, 14, 16, 18, 20, 22, 24, 26, 28, 30, 32, 34, 36, 39]) [] [] [] []) [] κbi (hT g19 <| hF g18 <| hF g17 <| hF g16 <| hF g15 <| hF g14 w14) bE
 exact fxC (Za (oq [0, 2, 4, 6, 8, 10, 12, 14, 16, 18, 20, 22, 24, 26, 28, 30, 32, 34, 36, 38]) [] [] [] []) [] (Value.tuple #[Value.agg #[vq, vq, vq], vf]) (hF g19 <| hF g18 <| hF g17 <| hF g16 <| hF g15 <| hF g14 w14) bE

theorem Zuw (a0 : Int) (N : Nat) (r : Zal) (h : Zj4 a0 N = some r) : LSpec Tryz.prog 121 #[vi a0] [] (Zn9 r) (Zmj r) :=
 Zax ZB Tryz.func121 (by kernel_rfl) (by kernel_rfl) (fun r => by cases r <;> exact Zu _ rfl) (ZxJ a0 N) h

theorem Zeb {a0 : Int} {N : Nat} {r : Zal} (h : Zj4 a0 N = some r) : LSpec Tryz.prog 121 #[vi a0] [] (Zn9 r) (Zmj r) := Zuw a0 N r h

noncomputable def Zmk : ZV → Value
 | .r0 w0 => Value.bool w0
noncomputable def Zlb : ZV → List (Option AObj)
 | .r0 w0 => []

section
variable (a0 a1 a2 : Int) (N : Nat)
theorem ZvM : Fx Tryz.prog Zg Tryz.f122 [] #[vi a0, vi a1, vi a2] (Zmk) (Zlb) (Zdz a0 a1 a2 N) := by
 unfold Zdz
 refine Ze (fun g0 => ?_) (fun g0 => ?_)
 ·
  refine Ze (fun g1 => ?_) (fun g1 => ?_)
  ·
   refine Ze (fun g2 => ?_) (fun g2 => ?_)
   ·
    exact fxC (Za (oq [1, 3, 5]) [] [] [] []) [] (vT) (hY g2 <| kY (a1 ≥ 0) <| hT g0 Zb) bE
   exact fxC (Za (oq [1, 3, 4]) [] [] [] []) [] (vf) (hN g2 <| kY (a1 ≥ 0) <| hT g0 Zb) bE
  exact fxC (Za (oq [1, 2]) [] [] [] []) [] (vf) (kN (a1 ≥ 0) <| hT g0 Zb) bE
 refine Ze (fun g1 => ?_) (fun g1 => ?_)
 ·
  refine Ze (fun g2 => ?_) (fun g2 => ?_)
  ·
   refine Ze (fun g3 => ?_) (fun g3 => ?_)
   ·
    exact fxC (Za (oq [0, 3, 5, 7]) [] [] [] []) [] (vT) (hY g3 <| kY (a1 ≥ (-1099511627776 : Int)) <| hT g1 <| hF g0 Zb) bE
   exact fxC (Za (oq [0, 3, 5, 6]) [] [] [] []) [] (vf) (hN g3 <| kY (a1 ≥ (-1099511627776 : Int)) <| hT g1 <| hF g0 Zb) bE
  exact fxC (Za (oq [0, 3, 4]) [] [] [] []) [] (vf) (kN (a1 ≥ (-1099511627776 : Int)) <| hT g1 <| hF g0 Zb) bE
 have w2 := hF g1 <| hF g0 Zb
 refine Ze (fun g2 => ?_) (fun g2 => ?_)
 ·
  refine Ze (fun g3 => ?_) (fun g3 => ?_)
  ·
   refine Ze (fun g4 => ?_) (fun g4 => ?_)
   ·
    exact fxC (Za (oq [0, 2, 5, 7, 9]) [] [] [] []) [] (vT) (hY g4 <| kY (a1 ≥ 0) <| hT g2 w2) bE
   exact fxC (Za (oq [0, 2, 5, 7, 8]) [] [] [] []) [] (vf) (hN g4 <| kY (a1 ≥ 0) <| hT g2 w2) bE
  exact fxC (Za (oq [0, 2, 5, 6]) [] [] [] []) [] (vf) (kN (a1 ≥ 0) <| hT g2 w2) bE
 refine Ze (fun g3 => ?_) (fun g3 => ?_)
 ·
  refine Ze (fun g4 => ?_) (fun g4 => ?_)
  ·
   refine Ze (fun g5 => ?_) (fun g5 => ?_)
   ·
    exact fxC (Za (oq [0, 2, 4, 7, 9, 11]) [] [] [] []) [] (vT) (hY g5 <| kY (a1 ≥ 0) <| hT g3 <| hF g2 w2) bE
   exact fxC (Za (oq [0, 2, 4, 7, 9, 10]) [] [] [] []) [] (vf) (hN g5 <| kY (a1 ≥ 0) <| hT g3 <| hF g2 w2) bE
  exact fxC (Za (oq [0, 2, 4, 7, 8]) [] [] [] []) [] (vf) (kN (a1 ≥ 0) <| hT g3 <| hF g2 w2) bE
 refine Ze (fun g4 => ?_) (fun g4 => ?_)
 ·
  refine Ze (fun g5 => ?_) (fun g5 => ?_)
  ·
   refine Ze (fun g6 => ?_) (fun g6 => ?_)
   ·
    exact fxC (Za (oq [0, 2, 4, 6, 9, 11, 13]) [] [] [] []) [] (vT) (hY g6 <| kY (a1 ≥ 1) <| hT g4 <| hF g3 <| hF g2 w2) bE
   exact fxC (Za (oq [0, 2, 4, 6, 9, 11, 12]) [] [] [] []) [] (vf) (hN g6 <| kY (a1 ≥ 1) <| hT g4 <| hF g3 <| hF g2 w2) bE
  exact fxC (Za (oq [0, 2, 4, 6, 9, 10]) [] [] [] []) [] (vf) (kN (a1 ≥ 1) <| hT g4 <| hF g3 <| hF g2 w2) bE
 have w5 := hF g4 <| hF g3 <| hF g2 w2
 refine Ze (fun g5 => ?_) (fun g5 => ?_)
 ·
  refine Ze (fun g6 => ?_) (fun g6 => ?_)
  ·
   refine Ze (fun g7 => ?_) (fun g7 => ?_)
   ·
    refine Ze (fun g8 => ?_) (fun g8 => ?_)
    ·
     have w9 := kS a2 (a2.toNat) .i64 <| kX ((IntKind.u64.wrap a2) == a2) true (beq_iff_eq.2 (Zn1 ltA)) <| kY (a1 ≥ 0) <| hY g7 <| kY (a2 ≥ 1) <| hT g5 w5
     refine Ze (fun g9 => ?_) (fun g9 => ?_)
     ·
      exact fxC (Za (oq [0, 2, 4, 6, 8, 11, 13, 15, 17, 19]) [(0, a2)] [] [] [(0, .sh a2.toNat)]) [] (vT) (hY g9 w9) bE
     exact fxC (Za (oq [0, 2, 4, 6, 8, 11, 13, 15, 17, 18]) [(0, a2)] [] [] [(0, .sh a2.toNat)]) [] (vf) (hN g9 w9) bE
    exact fxC (Za (oq [0, 2, 4, 6, 8, 11, 13, 15, 16]) [] [] [] []) [] (vf) (kN (a1 ≥ 0) <| hY g7 <| kY (a2 ≥ 1) <| hT g5 w5) bE
   exact fxC (Za (oq [0, 2, 4, 6, 8, 11, 13, 14]) [] [] [] []) [] (vf) (hN g7 <| kY (a2 ≥ 1) <| hT g5 w5) bE
  exact fxC (Za (oq [0, 2, 4, 6, 8, 11, 12]) [] [] [] []) [] (vf) (kN (a2 ≥ 1) <| hT g5 w5) bE
 refine Ze (fun g6 => ?_) (fun g6 => ?_)
 ·
  exact fxC (Za (oq [0, 2, 4, 6, 8, 10, 13]) [] [] [] []) [] (vT) (hT g6 <| hF g5 w5) bE
 exact fxC (Za (oq [0, 2, 4, 6, 8, 10, 12]) [] [] [] []) [] (vf) (hF g6 <| hF g5 w5) bE

theorem Ztt (r : ZV) (h : Zdz a0 a1 a2 N = some r) : LSpec Tryz.prog 122 #[vi a0, vi a1, vi a2] [] (Zmk r) (Zlb r) :=
 Zax ZB Tryz.func122 (by kernel_rfl) (by kernel_rfl) (fun r => by cases r <;> exact Zu _ rfl) (ZvM a0 a1 a2 N) h

end
theorem ZaR {a0 a1 a2 : Int} {N : Nat} {r : ZV} (h : Zdz a0 a1 a2 N = some r) : LSpec Tryz.prog 122 #[vi a0, vi a1, vi a2] [] (Zmk r) (Zlb r) := Ztt a0 a1 a2 N r h

noncomputable def Zp6 : ZdX → Value
 | .r0 w0 => Value.bool w0
noncomputable def ZnA : ZdX → List (Option AObj)
 | .r0 w0 => []

section
variable (a0 a1 a2 a3 : Int) (N : Nat)
theorem Zza : Fx Tryz.prog Zg Tryz.f95 [] #[Value.agg #[vi a0, vi a1, vi a2, vi a3]] (Zp6) (ZnA) (ZdJ a0 a1 a2 a3 N) := by
 unfold ZdJ
 refine Zz (fun z0 c0 => ?_)
 cases z0 with
 | r0 y0_0 y0_1 y0_2 y0_3 =>
  refine Ze (fun g1 => ?_) (fun g1 => ?_)
  ·
   subst g1
   refine Zz (fun z2 c2 => ?_)
   cases z2 with
   | r0 y2_0 =>
    refine Ze (fun g3 => ?_) (fun g3 => ?_)
    ·
     subst g3
     have w4 := kK (tQ (ZaR c2) 2) <| kK (tQ (Zeb c0) 1) Zb
     refine Zz (fun z4 c4 => ?_)
     cases z4 with
     | r0 y4_0 =>
      refine Ze (fun g5 => ?_) (fun g5 => ?_)
      ·
       subst g5
       refine Zz (fun z6 c6 => ?_)
       cases z6 with
       | r0 y6_0 =>
        refine Ze (fun g7 => ?_) (fun g7 => ?_)
        ·
         subst g7
         exact fxC (Za (oq []) [] [] [] [(0, (tP (Zeb c0)).t), (2, (tP (ZaR c2)).t), (3, (tP (ZaR c4)).t), (4, (tP (ZaR c6)).t)]) [] (vT) (kK (tQ (ZaR c6) 2) <| kK (tQ (ZaR c4) 2) w4) bE
        obtain rfl : y6_0 = false := by simpa using g7
        exact fxC (Za (oq []) [] [] [] [(0, (tP (Zeb c0)).t), (2, (tP (ZaR c2)).t), (3, (tP (ZaR c4)).t), (4, (tP (ZaR c6)).t)]) [] (vf) (kK (tQ (ZaR c6) 2) <| kK (tQ (ZaR c4) 2) w4) bE
      obtain rfl : y4_0 = false := by simpa using g5
      exact fxC (Za (oq []) [] [] [] [(0, (tP (Zeb c0)).t), (2, (tP (ZaR c2)).t), (3, (tP (ZaR c4)).t)]) [] (vf) (kK (tQ (ZaR c4) 2) w4) bE
    obtain rfl : y2_0 = false := by simpa using g3
    exact fxC (Za (oq []) [] [] [] [(0, (tP (Zeb c0)).t), (2, (tP (ZaR c2)).t)]) [] (vf) (kK (tQ (ZaR c2) 2) <| kK (tQ (Zeb c0) 1) Zb) bE
  obtain rfl : y0_3 = false := by simpa using g1
  exact fxC (Za (oq []) [] [] [] [(0, (tP (Zeb c0)).t)]) [] (vf) (kK (tQ (Zeb c0) 1) Zb) bE

theorem ZvN (r : ZdX) (h : ZdJ a0 a1 a2 a3 N = some r) : LSpec Tryz.prog 95 #[Value.agg #[vi a0, vi a1, vi a2, vi a3]] [] (Zp6 r) (ZnA r) :=
 Zax ZB Tryz.func95 (by kernel_rfl) (by kernel_rfl) (fun r => by cases r <;> exact Zu _ rfl) (Zza a0 a1 a2 a3 N) h

end
theorem ZE {a0 a1 a2 a3 : Int} {N : Nat} {r : ZdX} (h : ZdJ a0 a1 a2 a3 N = some r) : LSpec Tryz.prog 95 #[Value.agg #[vi a0, vi a1, vi a2, vi a3]] [] (Zp6 r) (ZnA r) := ZvN a0 a1 a2 a3 N r h

noncomputable def ZmL : ZY → Value
 | .r0 w0 w1 => Value.tuple #[ms RA w0, Value.bool w1]
 | .r1 w0 => Value.tuple #[vs 0 0 w0.length w0.length, vT]
noncomputable def ZlD : ZY → List (Option AObj)
 | .r0 w0 w1 => []
 | .r1 w0 => [some (.cells (Zd RA w0) 176)]

noncomputable def ZnW : ZY → Value
 | .r0 w0 w1 => Value.tuple #[ms RA w0, Value.bool w1]
 | .r1 w0 => Value.tuple #[ms RA w0, vT]
noncomputable def ZmM : ZY → List (Option AObj)
 | .r0 w0 w1 => []
 | .r1 w0 => []

noncomputable abbrev κbh (L0 : List RG) := (Zd RA (L0.take (L0.length - 1)))
section
variable (L0 : List RG) (a1 a2 a3 a4 a5 : Int) (N : Nat)
theorem Ztu : Fx Tryz.prog Zg Tryz.f94 [] #[ms RA L0, Value.agg #[vi a1, vi a2, vi a3, vi a4], vi a5] (ZmL) (ZlD) (ZdA L0 a1 a2 a3 a4 a5 N) := by
 unfold ZdA
 refine Ze (fun g0 => ?_) (fun g0 => ?_)
 ·
  refine Ze (fun g1 => ?_) (fun g1 => ?_)
  ·
   exact fxC (Za (oq [1, 3]) [] [] [] []) [] (Value.tuple #[ms RA L0, vf]) (kY ((L0.length : Int) ≥ 8) <| hT g0 Zb) bE
  refine Ze (fun g2 => ?_) (fun g2 => ?_)
  ·
   exact fxC (Za (oq [1, 2]) [] [] [] [(0, .ap0)]) [3] (Value.tuple #[vs 3 0 1 1, vT]) (kX (dP (0 = L0.length ∧ ((L0.length * 2 = 0 ∧ ([] : List Value) = []) ∨ ∃ c, L0.length * 2 ≠ 0 ∧ Zay (code (Zak RA L0)) 0 (L0.length * 2) = some c ∧ ([] : List Value) = Zw c))) true (Z1 ⟨by omega, .inl ⟨by omega, rfl⟩⟩) <| kN ((L0.length : Int) ≥ 8) <| hT g0 Zb) (bC (o := .cells [vi a5, vq] 176) (Zae (E := RA) _ (L := ([(⟨a5, 0⟩ : RG)] : List RG)) _ (show ([vi a5, vq] : List Value) = Zd RA ([(⟨a5, 0⟩ : RG)] : List RG) from rfl)) <| bE) (hv := ⟨Eq.trans (show (Value.tuple #[vs 0 0 ([(⟨a5, 0⟩ : RG)] : List RG).length ([(⟨a5, 0⟩ : RG)] : List RG).length, vT] : Value) = Value.tuple #[vs 0 0 1 1, vT] from (Za7 (Zf (Z0 rfl eqA eqA) (cr rfl)))) (by rfl), by rfl⟩)
  exact fxC (Za (oq [1, 2]) [] [] [] [(0, .ap L0.length (Zd RA L0) (Zd RA L0)), (1, .ap 1 [vi a5, vq] (Zd RA (L0 ++ ([(⟨a5, 0⟩ : RG)] : List RG))))]) [4] (Value.tuple #[vs 4 0 ((0 + L0.length) + 1) ((0 + L0.length) + 1), vT]) (kA' RA L0 (0 + L0.length) (⟨a5, 0⟩ : RG) <| kX (dP ((L0.length = L0.length ∧ ((L0.length * 2 = 0 ∧ (Zd RA L0) = []) ∨ ∃ c, L0.length * 2 ≠ 0 ∧ Zay (code (Zak RA L0)) 0 (L0.length * 2) = some c ∧ (Zd RA L0) = Zw c)) ∧ 0 < L0.length ∧ L0.length ≤ 100000 ∧ 0 < 0 + L0.length ∧ 0 ≤ 100000 ∧ 0 * 2 ≤ (List.length []) ∧ List.take (0 * 2) [] ++ (Zd RA L0) = (Zd RA L0))) true (Z1 ⟨⟨rfl, (ZdE (E := RA) (L := L0) (n := L0.length) (size := 2) rfl (by decide) (by omega))⟩, by omega, by omega, ltA, by omega, (Zbf (E := RA) (L := ([] : List RG)) (M := L0) (n := 0) (show _ = _ * 2 from rfl) ltA (R := L0) (by rw [List.take_of_length_le ltA]; rfl))⟩) <| kN ((L0.length : Int) ≥ 8) <| hT g0 Zb) (bR <| bE) (hv := ⟨Eq.trans (show (Value.tuple #[vs 0 0 (L0 ++ ([(⟨a5, 0⟩ : RG)] : List RG)).length (L0 ++ ([(⟨a5, 0⟩ : RG)] : List RG)).length, vT] : Value) = Value.tuple #[vs 0 0 ((0 + L0.length) + 1) ((0 + L0.length) + 1), vT] from (Za7 (Zf (Z0 rfl eqA eqA) (cr rfl)))) (by rfl), by rfl⟩)
 refine Ze (fun g1 => ?_) (fun g1 => ?_)
 ·
  refine Ze (fun g2 => ?_) (fun g2 => ?_)
  ·
   exact fxC (Za (oq [0, 3, 5]) [] [] [] []) [] (Value.tuple #[ms RA L0, vf]) (hT g2 <| hT g1 <| hF g0 Zb) bE
  refine Ze (fun g3 => ?_) (fun _ => Zq)
  have w4 := kG RA L0 ((0 + ((L0.length - 1) * 2)) + 1) (L0.length - 1) 1 1 2 <| kB (L0.length - 1) L0.length <| kI (((L0.length - 1) : Nat) : Int) (Int.ofNat (L0.length - 1)) <| kW ((L0.length : Int) - 1) (((L0.length - 1) : Nat) : Int) <| hF g2 <| hT g1 <| hF g0 Zb
  refine Ze (fun g4 => ?_) (fun g4 => ?_)
  ·
   exact fxC (Za (oq [0, 3, 4, 7]) [(0, (((L0.length - 1) : Nat) : Int))] [(0, (L0.length - 1))] [(1, [.i (L0.getD (L0.length - 1) RG.z).a1])] []) [] (Value.tuple #[ms RA L0, vf]) (hT g4 w4) bE
  have w5 := kC (Z25 (E := RA) (L := L0) (R := (L0.take (L0.length - 1))) (l := 0) (h := (L0.length - 1)) (size := 2) ltA ltA (by decide) (by simp)) <| kI (((L0.length - 1) : Nat) : Int) (Int.ofNat (L0.length - 1)) <| kR 0 <| kW ((L0.length : Int) - 1) (((L0.length - 1) : Nat) : Int) <| hF g4 w4
  refine Ze (fun g5 => ?_) (fun g5 => ?_)
  ·
   exact fxC (Za (oq [0, 3, 4, 6]) [(0, (((L0.length - 1) : Nat) : Int)), (1, (((L0.length - 1) : Nat) : Int)), (2, (((L0.length - 1) : Nat) : Int))] [(0, (L0.length - 1)), (1, (L0.length - 1))] [(1, [.i (L0.getD (L0.length - 1) RG.z).a1]), (2, [.i (L0.getD (L0.length - 1) RG.z).a0])] [(0, .ms 0 (L0.length - 1) (L0.take (L0.length - 1)).length (Zak RA (L0.take (L0.length - 1)))), (1, .ap0)]) [3] (Value.tuple #[vs 3 0 1 1, vT]) (kG RA L0 ((0 + ((L0.length - 1) * 2)) + 0) (L0.length - 1) 0 1 2 <| kB (L0.length - 1) L0.length <| kI (((L0.length - 1) : Nat) : Int) (Int.ofNat (L0.length - 1)) <| kW ((L0.length : Int) - 1) (((L0.length - 1) : Nat) : Int) <| kX (dP (0 = (L0.take (L0.length - 1)).length ∧ (((L0.take (L0.length - 1)).length * 2 = 0 ∧ ([] : List Value) = []) ∨ ∃ c, (L0.take (L0.length - 1)).length * 2 ≠ 0 ∧ Zay (code (Zak RA (L0.take (L0.length - 1)))) 0 ((L0.take (L0.length - 1)).length * 2) = some c ∧ ([] : List Value) = Zw c))) true (Z1 ⟨by omega, .inl ⟨by omega, rfl⟩⟩) w5) (bC (o := .cells [vi (L0.getD (L0.length - 1) RG.z).a0, vi 1] 176) (Zae (E := RA) _ (L := ([(⟨(L0.getD (L0.length - 1) RG.z).a0, 1⟩ : RG)] : List RG)) _ (show ([vi (L0.getD (L0.length - 1) RG.z).a0, vi 1] : List Value) = Zd RA ([(⟨(L0.getD (L0.length - 1) RG.z).a0, 1⟩ : RG)] : List RG) from rfl)) <| bE) (hv := ⟨Eq.trans (show (Value.tuple #[vs 0 0 ([(⟨(L0.getD (L0.length - 1) RG.z).a0, 1⟩ : RG)] : List RG).length ([(⟨(L0.getD (L0.length - 1) RG.z).a0, 1⟩ : RG)] : List RG).length, vT] : Value) = Value.tuple #[vs 0 0 1 1, vT] from (Za7 (Zf (Z0 rfl eqA eqA) (cr rfl)))) (by rfl), by rfl⟩)
  refine Ze (fun g6 => ?_) (fun _ => Zq)
  exact fxC (Za (oq [0, 3, 4, 6]) [(0, (((L0.length - 1) : Nat) : Int)), (1, (((L0.length - 1) : Nat) : Int)), (2, (((L0.length - 1) : Nat) : Int))] [(0, (L0.length - 1)), (1, (L0.length - 1))] [(1, [.i (L0.getD (L0.length - 1) RG.z).a1]), (2, [.i (L0.getD (L0.length - 1) RG.z).a0])] [(0, .ms 0 (L0.length - 1) (L0.take (L0.length - 1)).length (Zak RA (L0.take (L0.length - 1)))), (1, .ap (L0.take (L0.length - 1)).length (κbh L0) (κbh L0)), (2, .ap 1 [vi (L0.getD (L0.length - 1) RG.z).a0, vi 1] (Zd RA ((L0.take (L0.length - 1)) ++ ([(⟨(L0.getD (L0.length - 1) RG.z).a0, 1⟩ : RG)] : List RG))))]) [4] (Value.tuple #[vs 4 0 ((0 + (L0.take (L0.length - 1)).length) + 1) ((0 + (L0.take (L0.length - 1)).length) + 1), vT]) (kA' RA (L0.take (L0.length - 1)) (0 + (L0.take (L0.length - 1)).length) (⟨(L0.getD (L0.length - 1) RG.z).a0, 1⟩ : RG) <| kG RA L0 ((0 + ((L0.length - 1) * 2)) + 0) (L0.length - 1) 0 1 2 <| kB (L0.length - 1) L0.length <| kI (((L0.length - 1) : Nat) : Int) (Int.ofNat (L0.length - 1)) <| kW ((L0.length : Int) - 1) (((L0.length - 1) : Nat) : Int) <| kX (dP (((L0.take (L0.length - 1)).length = (L0.take (L0.length - 1)).length ∧ (((L0.take (L0.length - 1)).length * 2 = 0 ∧ (κbh L0) = []) ∨ ∃ c, (L0.take (L0.length - 1)).length * 2 ≠ 0 ∧ Zay (code (Zak RA (L0.take (L0.length - 1)))) 0 ((L0.take (L0.length - 1)).length * 2) = some c ∧ (κbh L0) = Zw c)) ∧ 0 < (L0.take (L0.length - 1)).length ∧ (L0.take (L0.length - 1)).length ≤ 100000 ∧ 0 < 0 + (L0.take (L0.length - 1)).length ∧ 0 ≤ 100000 ∧ 0 * 2 ≤ (List.length []) ∧ List.take (0 * 2) [] ++ (κbh L0) = (κbh L0))) true (Z1 ⟨⟨rfl, (ZdE (E := RA) (L := (L0.take (L0.length - 1))) (n := (L0.take (L0.length - 1)).length) (size := 2) rfl (by decide) (by omega))⟩, by omega, by omega, ltA, by omega, (Zbf (E := RA) (L := ([] : List RG)) (M := (L0.take (L0.length - 1))) (n := 0) (show _ = _ * 2 from rfl) ltA (R := (L0.take (L0.length - 1))) (by rw [List.take_of_length_le ltA]; rfl))⟩) w5) (bR <| bE) (hv := ⟨Eq.trans (show (Value.tuple #[vs 0 0 ((L0.take (L0.length - 1)) ++ ([(⟨(L0.getD (L0.length - 1) RG.z).a0, 1⟩ : RG)] : List RG)).length ((L0.take (L0.length - 1)) ++ ([(⟨(L0.getD (L0.length - 1) RG.z).a0, 1⟩ : RG)] : List RG)).length, vT] : Value) = Value.tuple #[vs 0 0 ((0 + (L0.take (L0.length - 1)).length) + 1) ((0 + (L0.take (L0.length - 1)).length) + 1), vT] from (Za7 (Zf (Z0 rfl eqA eqA) (cr rfl)))) (by rfl), by rfl⟩)
 refine Ze (fun g2 => ?_) (fun g2 => ?_)
 ·
  refine Ze (fun g3 => ?_) (fun g3 => ?_)
  ·
   exact fxC (Za (oq [0, 2, 5, 7]) [] [] [] []) [] (Value.tuple #[ms RA L0, vf]) (hT g3 <| hT g2 <| hF g1 <| hF g0 Zb) bE
  refine Ze (fun g4 => ?_) (fun _ => Zq)
  exact fxC (Za (oq [0, 2, 5, 6]) [(0, (((L0.length - 1) : Nat) : Int))] [] [] [(0, .ms 0 (L0.length - 1) (L0.take (L0.length - 1)).length (Zak RA (L0.take (L0.length - 1))))]) [] (Value.tuple #[ms RA (L0.take (L0.length - 1)), vT]) (kC (Z25 (E := RA) (L := L0) (R := (L0.take (L0.length - 1))) (l := 0) (h := (L0.length - 1)) (size := 2) ltA ltA (by decide) (by simp)) <| kI (((L0.length - 1) : Nat) : Int) (Int.ofNat (L0.length - 1)) <| kR 0 <| kW ((L0.length : Int) - 1) (((L0.length - 1) : Nat) : Int) <| hF g3 <| hT g2 <| hF g1 <| hF g0 Zb) bE
 refine Ze (fun g3 => ?_) (fun g3 => ?_)
 ·
  refine Ze (fun g4 => ?_) (fun g4 => ?_)
  ·
   exact fxC (Za (oq [0, 2, 4, 7, 9]) [] [] [] []) [] (Value.tuple #[ms RA L0, vT]) (kY ((L0.length : Int) > 0) <| hT g3 <| hF g2 <| hF g1 <| hF g0 Zb) bE
  exact fxC (Za (oq [0, 2, 4, 7, 8]) [] [] [] []) [] (Value.tuple #[ms RA L0, vf]) (kN ((L0.length : Int) > 0) <| hT g3 <| hF g2 <| hF g1 <| hF g0 Zb) bE
 refine Ze (fun g4 => ?_) (fun g4 => ?_)
 ·
  refine Ze (fun g5 => ?_) (fun g5 => ?_)
  ·
   exact fxC (Za (oq [0, 2, 4, 6, 9, 11]) [] [] [] []) [] (Value.tuple #[ms RA L0, vT]) (hT g5 <| hT g4 <| hF g3 <| hF g2 <| hF g1 <| hF g0 Zb) bE
  exact fxC (Za (oq [0, 2, 4, 6, 9, 10]) [] [] [] []) [] (Value.tuple #[ms RA L0, vf]) (hF g5 <| hT g4 <| hF g3 <| hF g2 <| hF g1 <| hF g0 Zb) bE
 exact fxC (Za (oq [0, 2, 4, 6, 8]) [] [] [] []) [] (Value.tuple #[ms RA L0, vT]) (hF g4 <| hF g3 <| hF g2 <| hF g1 <| hF g0 Zb) bE

theorem Zp7 (r : ZY) (h : ZdA L0 a1 a2 a3 a4 a5 N = some r) : LSpec Tryz.prog 94 #[ms RA L0, Value.agg #[vi a1, vi a2, vi a3, vi a4], vi a5] [] (ZmL r) (ZlD r) :=
 Zax ZB Tryz.func94 (by kernel_rfl) (by kernel_rfl) (fun r => by cases r <;> exact Zu _ rfl) (Ztu L0 a1 a2 a3 a4 a5 N) h

theorem ZqF (r : ZY) (h : ZdA L0 a1 a2 a3 a4 a5 N = some r) : LSpec Tryz.prog 94 #[ms RA L0, Value.agg #[vi a1, vi a2, vi a3, vi a4], vi a5] [] (ZnW r) (ZmM r) := by
 have h0 := Zp7 L0 a1 a2 a3 a4 a5 N r h
 cases r with
 | r0 _ _ => exact h0
 | r1 w0 => exact (LSpec.frzv (E := RA) (L := w0) (post := []) (v2 := Value.tuple #[ms RA w0, vT]) h0 (show 0 ≤ 0 from by decide) (show 0 < 1000000000 from by decide) trivial rfl rfl rfl)

end
theorem Zb8 {L0 : List RG} {a1 a2 a3 a4 a5 : Int} {N : Nat} {r : ZY} (h : ZdA L0 a1 a2 a3 a4 a5 N = some r) : LSpec Tryz.prog 94 #[ms RA L0, Value.agg #[vi a1, vi a2, vi a3, vi a4], vi a5] [] (ZnW r) (ZmM r) := ZqF L0 a1 a2 a3 a4 a5 N r h

open Mach (oi ok_ite ok_bind okF okN okH enF enH en_ite)
set_option linter.unusedVariables false
set_option maxRecDepth 100000
noncomputable def Zlc : Zbm → Value
 | .r0 => vn
 | .r1 w0 => ms RA w0
noncomputable def ZjP : Zbm → List (Option AObj)
 | .r0 => []
 | .r1 w0 => []

def ZvO : Zar → Nat
 | .h1m0 v2 => 1
 | .h1m1 v2 v3 => 1
section
variable (L0 : List RI) (a1 : Int)
noncomputable def ZxK : Zar → List (Nat × Value)
 | .h1m0 v2 => [(0, ms RB L0), (1, vi a1), (5, vn), (6, vi (v2 : Int))]
 | .h1m1 v2 v3 => [(0, ms RB L0), (1, vi a1), (5, ms RA v2), (6, vi (v3 : Int))]
noncomputable def ZxL (L0 : List RI) (a1 : Int) : Zar → List (Option AObj)
 | .h1m0 v2 => []
 | .h1m1 v2 v3 => []

noncomputable def Zeq : Nat → Code × List ZD
 | 1 => ZX [1, 1, 0, 1, 3] (Zaw Tryz.f123) []
 | _ => (.skip, [])
def ZnX : Nat → Bool
 | 1 => true
 | _ => true
noncomputable def ZiF (i : Nat) : List ZD := match ZnX i with | true => .rnd i :: (Zeq i).2 | false => (Zeq i).2

noncomputable def Zer (N : Nat) : Mach := ⟨Tryz.f123, [], Zar, Zbm, ZeI L0 a1 N, ZvO, Zeq, ZnX, ZxK L0 a1, ZxL L0 a1, Zlc, ZjP⟩

theorem ZqG (v2 N : Nat) : (Zer L0 a1 N).Ok Tryz.prog Zg (.h1m0 v2 : Zar) (ZeI L0 a1 N (.h1m0 v2 : Zar)) := by
 show (Zer L0 a1 N).Ok Tryz.prog Zg (.h1m0 v2 : Zar) (ZhF L0 a1 N v2)
 unfold ZhF
 refine ok_ite (fun g0 => ?_) fun g0 => ?_
 ·
  refine ok_ite (fun g1 => ?_) fun g1 => ?_
  ·
   have w2 := kG RB L0 (0 + (v2 * 4)) v2 0 4 4 <| kB v2 L0.length <| kI (v2 : Int) (Int.ofNat v2) <| hY g1 <| hY g0 Zb
   refine ok_bind fun z2 c2 => ?_
   cases z2 with
   | r0 =>
    refine oi fun g3 => ?_
    exact okN (Za (oq [1, 3]) [(0, (((v2 + 1) : Nat) : Int))] [(0, v2)] [(0, (RB.cel (L0.getD v2 RI.z)))] [(0, (tP (Zcl c2)).t)]) [] [some (ms RB L0), some (vi a1), some (ms RA ([(⟨(v2 : Int), 0⟩ : RG)] : List RG)), some (κB v2)] (kW ((v2 : Int) + 1) (((v2 + 1) : Nat) : Int) <| kK (tQ (Zcl c2) 0) w2) (tC (tC (tC (tC (tE))))) bE (show 1 ∈ Zj (ZiF 1) from by decide +kernel)
   | r1 y2_0 =>
    refine oi fun g3 => ?_
    exact okN (Za (oq [1, 3]) [(0, (((v2 + 1) : Nat) : Int))] [(0, v2)] [(0, (RB.cel (L0.getD v2 RI.z)))] [(0, (tP (Zcl c2)).t)]) [] [some (ms RB L0), some (vi a1), some (vn), some (κB v2)] (kW ((v2 : Int) + 1) (((v2 + 1) : Nat) : Int) <| kK (tQ (Zcl c2) 0) w2) (tC (tC (tC (tC (tE))))) bE (show 1 ∈ Zj (ZiF 1) from by decide +kernel)
  exact okF (Za (oq [1, 2]) [] [] [] []) [] (vn) (hN g1 <| hY g0 Zb) bE
 exact okF (Za (oq [0]) [] [] [] []) [] (vn) (hN g0 Zb) bE

noncomputable abbrev κ6 (v3 : Nat) := (vi (((v3 + 1) : Nat) : Int))
theorem ZqH (v2 : List RG) (v3 N : Nat) : (Zer L0 a1 N).Ok Tryz.prog Zg (.h1m1 v2 v3 : Zar) (ZeI L0 a1 N (.h1m1 v2 v3 : Zar)) := by
 show (Zer L0 a1 N).Ok Tryz.prog Zg (.h1m1 v2 v3 : Zar) (ZhG L0 a1 N v2 v3)
 unfold ZhG
 refine ok_ite (fun g0 => ?_) fun g0 => ?_
 ·
  refine ok_ite (fun g1 => ?_) fun g1 => ?_
  ·
   have w2 := kG RB L0 (0 + (v3 * 4)) v3 0 4 4 <| kB v3 L0.length <| kI (v3 : Int) (Int.ofNat v3) <| hY g1 <| hY g0 Zb
   refine ok_bind fun z2 c2 => ?_
   cases z2 with
   | r0 y2_0 y2_1 =>
    refine oi fun g3 => ?_
    exact okN (Za (oq [1, 3]) [(0, (((v3 + 1) : Nat) : Int))] [(0, v3)] [(0, (RB.cel (L0.getD v3 RI.z)))] [(0, (tP (Zb8 c2)).t)]) [] [some (ms RB L0), some (vi a1), some (ms RA y2_0), some (κ6 v3)] (kW ((v3 : Int) + 1) (((v3 + 1) : Nat) : Int) <| kK (tQ (Zb8 c2) 0) w2) (tC (tC (tC (tC (tE))))) bE (show 1 ∈ Zj (ZiF 1) from by decide +kernel)
   | r1 y2_0 =>
    refine oi fun g3 => ?_
    exact okN (Za (oq [1, 3]) [(0, (((v3 + 1) : Nat) : Int))] [(0, v3)] [(0, (RB.cel (L0.getD v3 RI.z)))] [(0, (tP (Zb8 c2)).t)]) [] [some (ms RB L0), some (vi a1), some (ms RA y2_0), some (κ6 v3)] (kW ((v3 : Int) + 1) (((v3 + 1) : Nat) : Int) <| kK (tQ (Zb8 c2) 0) w2) (tC (tC (tC (tC (tE))))) bE (show 1 ∈ Zj (ZiF 1) from by decide +kernel)
  exact okF (Za (oq [1, 2]) [] [] [] []) [] (ms RA v2) (hN g1 <| hY g0 Zb) bE
 exact okF (Za (oq [0]) [] [] [] []) [] (ms RA v2) (hN g0 Zb) bE

noncomputable abbrev κn := (vi ((0 : Nat) : Int) : Value)
theorem Zux (N : Nat) : (Zer L0 a1 N).Enter Tryz.prog Zg #[ms RB L0, vi a1] (ZjD L0 a1 N) := by
 unfold ZjD
 exact enH (Zeq 1) (Za (oq []) [] [] [] []) [] [some (ms RB L0), some (vi a1), some (vn), some (vq)] Zb (tC (tC (tC (tC (tE) ⟨Eq.trans (show κn = vq from ci) (by rfl), by rfl⟩)))) bE (show Zj (Zeq 1).2 = [] from rfl)

theorem Zsc (N : Nat) (r : Zbm) (h : Zme L0 a1 N = some r) : LSpec Tryz.prog 123 #[ms RB L0, vi a1] [] (Zlc r) (ZjP r) :=
 Mach.spec ZB (Zer L0 a1 N) Tryz.func123 (by kernel_rfl) (by kernel_rfl) (fun x => by cases x <;> exact Zu _ rfl) (fun r => by cases r <;> exact Zu _ rfl) (fun x => by
  cases x with
  | h1m0 _ => exact fun _ => (show ¬ (1 ∈ Zj (Zeq 1).2) from by decide +kernel)
  | h1m1 _ _ => exact fun _ => (show ¬ (1 ∈ Zj (Zeq 1).2) from by decide +kernel)
  ) (fun x => (show (Zer L0 a1 N).Ok Tryz.prog Zg x (ZeI L0 a1 N x) from by
  cases x with
  | h1m0 v2 => exact ZqG L0 a1 v2 N
  | h1m1 v2 v3 => exact ZqH L0 a1 v2 v3 N
  )) (Zux L0 a1 N) (n := N) h

theorem Ze1 {L0 : List RI} {a1 : Int} {N : Nat} {r : Zbm} (h : Zme L0 a1 N = some r) : LSpec Tryz.prog 123 #[ms RB L0, vi a1] [] (Zlc r) (ZjP r) := Zsc L0 a1 N r h

noncomputable def ZjQ : Zdk → Value
 | .r0 w0 w1 => Value.agg #[vi w0, vi w1]
noncomputable def Zjd : Zdk → List (Option AObj)
 | .r0 w0 w1 => []

theorem Ztv (N : Nat) : Fx Tryz.prog Zg Tryz.f97 [] #[ms RB L0, vi a1] (ZjQ) (Zjd) (ZcY L0 a1 N) := by
 unfold ZcY
 refine Zz (fun z0 c0 => ?_)
 cases z0 with
 | r0 =>
  exact fxC (Za (oq []) [] [] [] [(0, (tP (Ze1 c0)).t)]) [] (Value.agg #[vi (-1 : Int), vq]) (kK (tQ (Ze1 c0) 1) Zb) bE
 | r1 y0_0 =>
  refine Ze (fun g1 => ?_) (fun g1 => ?_)
  ·
   exact fxC (Za (oq [1]) [] [] [] [(0, (tP (Ze1 c0)).t)]) [] (Value.agg #[vi (-1 : Int), vq]) (hT g1 <| kK (tQ (Ze1 c0) 1) Zb) bE
  refine Ze (fun g2 => ?_) (fun _ => Zq)
  exact fxC (Za (oq [0]) [(0, (((y0_0.length - 1) : Nat) : Int))] [(0, (y0_0.length - 1))] [(0, (RA.cel (y0_0.getD (y0_0.length - 1) RG.z)))] [(0, (tP (Ze1 c0)).t)]) [] (Value.agg #[vi (y0_0.getD (y0_0.length - 1) RG.z).a0, vi (y0_0.getD (y0_0.length - 1) RG.z).a1]) (kG RA y0_0 (0 + ((y0_0.length - 1) * 2)) (y0_0.length - 1) 0 2 2 <| kB (y0_0.length - 1) y0_0.length <| kI (((y0_0.length - 1) : Nat) : Int) (Int.ofNat (y0_0.length - 1)) <| kW ((y0_0.length : Int) - 1) (((y0_0.length - 1) : Nat) : Int) <| hF g1 <| kK (tQ (Ze1 c0) 1) Zb) bE

theorem ZqI (N : Nat) (r : Zdk) (h : ZcY L0 a1 N = some r) : LSpec Tryz.prog 97 #[ms RB L0, vi a1] [] (ZjQ r) (Zjd r) :=
 Zax ZB Tryz.func97 (by kernel_rfl) (by kernel_rfl) (fun r => by cases r <;> exact Zu _ rfl) (Ztv L0 a1 N) h

end
theorem Za2 {L0 : List RI} {a1 : Int} {N : Nat} {r : Zdk} (h : ZcY L0 a1 N = some r) : LSpec Tryz.prog 97 #[ms RB L0, vi a1] [] (ZjQ r) (Zjd r) := ZqI L0 a1 N r h

noncomputable def Zld : ZU → Value
 | .r0 w0 => vi w0
noncomputable def ZjR : ZU → List (Option AObj)
 | .r0 w0 => []

def ZvP : ZI → Nat
 | .h1m0 v1 => 1
 | .h1m1 v1 v2 => 1
 | .h2m0 v1 => 2
section
variable (L0 : List RI)
noncomputable def ZxM : ZI → List (Nat × Value)
 | .h1m0 v1 => [(0, ms RB L0), (3, vn), (4, vi (v1 : Int))]
 | .h1m1 v1 v2 => [(0, ms RB L0), (3, ms RA v1), (4, vi (v2 : Int))]
 | .h2m0 v1 => [(0, ms RB L0), (7, vi (v1 : Int))]
noncomputable def ZxN (L0 : List RI) : ZI → List (Option AObj)
 | .h1m0 v1 => []
 | .h1m1 v1 v2 => []
 | .h2m0 v1 => []

noncomputable def ZbM : Nat → Code × List ZD
 | 1 => ZX [1, 1, 1, 0, 1, 3] (Zaw Tryz.f72) []
 | 2 => ZX [1, 1, 1, 1, 1, 0, 1, 3] (Zaw Tryz.f72) []
 | _ => (.skip, [])
def ZnY : Nat → Bool
 | 1 => true
 | 2 => true
 | _ => true
noncomputable def Zde (i : Nat) : List ZD := match ZnY i with | true => .rnd i :: (ZbM i).2 | false => (ZbM i).2

noncomputable def Zdf (N : Nat) : Mach := ⟨Tryz.f72, [], ZI, ZU, Zba L0 N, ZvP, ZbM, ZnY, ZxM L0, ZxN L0, Zld, ZjR⟩

noncomputable abbrev κw (v1 : Nat) := (vi (((v1 + 1) : Nat) : Int))
theorem ZqJ (v1 N : Nat) : (Zdf L0 N).Ok Tryz.prog Zg (.h1m0 v1 : ZI) (Zba L0 N (.h1m0 v1 : ZI)) := by
 show (Zdf L0 N).Ok Tryz.prog Zg (.h1m0 v1 : ZI) (Zem L0 N v1)
 unfold Zem
 refine ok_ite (fun g0 => ?_) fun g0 => ?_
 ·
  have w1 := kG RB L0 (0 + (v1 * 4)) v1 0 4 4 <| kB v1 L0.length <| kI (v1 : Int) (Int.ofNat v1) <| hY g0 Zb
  refine ok_bind fun z1 c1 => ?_
  cases z1 with
  | r0 =>
   have w2 := kG RB L0 (0 + (v1 * 4)) v1 0 4 4 <| kB v1 L0.length <| kI (v1 : Int) (Int.ofNat v1) <| kK (tQ (Zcl c1) 0) w1
   refine ok_bind fun z2 c2 => ?_
   cases z2 with
   | r0 y2_0 =>
    refine ok_ite (fun g3 => ?_) fun g3 => ?_
    ·
     exact okF (Za (oq [1, 3]) [] [(0, v1), (1, v1)] [(0, (RB.cel (L0.getD v1 RI.z))), (1, (RB.cel (L0.getD v1 RI.z)))] [(0, (tP (Zcl c1)).t), (1, (tP (ZE c2)).t)]) [] (vi (v1 : Int)) (kX ((!y2_0)) true nbt <| kK (tQ (ZE c2) 0) w2) bE
    refine oi fun g4 => ?_
    exact okN (Za (oq [1, 2]) [(0, (((v1 + 1) : Nat) : Int))] [(0, v1), (1, v1)] [(0, (RB.cel (L0.getD v1 RI.z))), (1, (RB.cel (L0.getD v1 RI.z)))] [(0, (tP (Zcl c1)).t), (1, (tP (ZE c2)).t)]) [] [some (ms RB L0), some (ms RA ([(⟨(v1 : Int), 0⟩ : RG)] : List RG)), some (κw v1)] (kW ((v1 : Int) + 1) (((v1 + 1) : Nat) : Int) <| kX ((!y2_0)) false nbf <| kK (tQ (ZE c2) 0) w2) (tC (tC (tC (tE)))) bE (show 1 ∈ Zj (Zde 1) from by decide +kernel)
  | r1 y1_0 =>
   have w2 := kG RB L0 (0 + (v1 * 4)) v1 0 4 4 <| kB v1 L0.length <| kI (v1 : Int) (Int.ofNat v1) <| kK (tQ (Zcl c1) 0) w1
   refine ok_bind fun z2 c2 => ?_
   cases z2 with
   | r0 y2_0 =>
    refine ok_ite (fun g3 => ?_) fun g3 => ?_
    ·
     exact okF (Za (oq [1, 3]) [] [(0, v1), (1, v1)] [(0, (RB.cel (L0.getD v1 RI.z))), (1, (RB.cel (L0.getD v1 RI.z)))] [(0, (tP (Zcl c1)).t), (1, (tP (ZE c2)).t)]) [] (vi (v1 : Int)) (kX ((!y2_0)) true nbt <| kK (tQ (ZE c2) 0) w2) bE
    have w4 := kX ((!y2_0)) false nbf <| kK (tQ (ZE c2) 0) w2
    refine ok_ite (fun g4 => ?_) fun g4 => ?_
    ·
     exact okF (Za (oq [1, 2, 5]) [] [(0, v1), (1, v1)] [(0, (RB.cel (L0.getD v1 RI.z))), (1, (RB.cel (L0.getD v1 RI.z)))] [(0, (tP (Zcl c1)).t), (1, (tP (ZE c2)).t)]) [] (vi (v1 : Int)) (kX ((!y1_0)) true nbt w4) bE
    refine oi fun g5 => ?_
    exact okN (Za (oq [1, 2, 4]) [(0, (((v1 + 1) : Nat) : Int))] [(0, v1), (1, v1)] [(0, (RB.cel (L0.getD v1 RI.z))), (1, (RB.cel (L0.getD v1 RI.z)))] [(0, (tP (Zcl c1)).t), (1, (tP (ZE c2)).t)]) [] [some (ms RB L0), some (vn), some (κw v1)] (kW ((v1 : Int) + 1) (((v1 + 1) : Nat) : Int) <| kX ((!y1_0)) false nbf w4) (tC (tC (tC (tE)))) bE (show 1 ∈ Zj (Zde 1) from by decide +kernel)
 exact okH (ZbM 2) (Za (oq [0]) [] [] [] []) [] [some (ms RB L0), some (vq)] (hN g0 Zb) (tC (tC (tE) ⟨Eq.trans (show κn = vq from ci) (by rfl), by rfl⟩)) bE (show ∀ j ∈ Zj (ZbM 2).2, j ∈ Zj (Zde 1) from by decide +kernel)

theorem ZqK (v1 : List RG) (v2 N : Nat) : (Zdf L0 N).Ok Tryz.prog Zg (.h1m1 v1 v2 : ZI) (Zba L0 N (.h1m1 v1 v2 : ZI)) := by
 show (Zdf L0 N).Ok Tryz.prog Zg (.h1m1 v1 v2 : ZI) (Zen L0 N v1 v2)
 unfold Zen
 refine ok_ite (fun g0 => ?_) fun g0 => ?_
 ·
  have w1 := kG RB L0 (0 + (v2 * 4)) v2 0 4 4 <| kB v2 L0.length <| kI (v2 : Int) (Int.ofNat v2) <| hY g0 Zb
  refine ok_bind fun z1 c1 => ?_
  cases z1 with
  | r0 y1_0 y1_1 =>
   have w2 := kG RB L0 (0 + (v2 * 4)) v2 0 4 4 <| kB v2 L0.length <| kI (v2 : Int) (Int.ofNat v2) <| kK (tQ (Zb8 c1) 0) w1
   refine ok_bind fun z2 c2 => ?_
   cases z2 with
   | r0 y2_0 =>
    refine ok_ite (fun g3 => ?_) fun g3 => ?_
    ·
     exact okF (Za (oq [1, 3]) [] [(0, v2), (1, v2)] [(0, (RB.cel (L0.getD v2 RI.z))), (1, (RB.cel (L0.getD v2 RI.z)))] [(0, (tP (Zb8 c1)).t), (1, (tP (ZE c2)).t)]) [] (vi (v2 : Int)) (kX ((!y2_0)) true nbt <| kK (tQ (ZE c2) 0) w2) bE
    have w4 := kX ((!y2_0)) false nbf <| kK (tQ (ZE c2) 0) w2
    refine ok_ite (fun g4 => ?_) fun g4 => ?_
    ·
     exact okF (Za (oq [1, 2, 5]) [] [(0, v2), (1, v2)] [(0, (RB.cel (L0.getD v2 RI.z))), (1, (RB.cel (L0.getD v2 RI.z)))] [(0, (tP (Zb8 c1)).t), (1, (tP (ZE c2)).t)]) [] (vi (v2 : Int)) (kX ((!y1_1)) true nbt w4) bE
    refine oi fun g5 => ?_
    exact okN (Za (oq [1, 2, 4]) [(0, (((v2 + 1) : Nat) : Int))] [(0, v2), (1, v2)] [(0, (RB.cel (L0.getD v2 RI.z))), (1, (RB.cel (L0.getD v2 RI.z)))] [(0, (tP (Zb8 c1)).t), (1, (tP (ZE c2)).t)]) [] [some (ms RB L0), some (ms RA y1_0), some (κB v2)] (kW ((v2 : Int) + 1) (((v2 + 1) : Nat) : Int) <| kX ((!y1_1)) false nbf w4) (tC (tC (tC (tE)))) bE (show 1 ∈ Zj (Zde 1) from by decide +kernel)
  | r1 y1_0 =>
   have w2 := kG RB L0 (0 + (v2 * 4)) v2 0 4 4 <| kB v2 L0.length <| kI (v2 : Int) (Int.ofNat v2) <| kK (tQ (Zb8 c1) 0) w1
   refine ok_bind fun z2 c2 => ?_
   cases z2 with
   | r0 y2_0 =>
    refine ok_ite (fun g3 => ?_) fun g3 => ?_
    ·
     exact okF (Za (oq [1, 3]) [] [(0, v2), (1, v2)] [(0, (RB.cel (L0.getD v2 RI.z))), (1, (RB.cel (L0.getD v2 RI.z)))] [(0, (tP (Zb8 c1)).t), (1, (tP (ZE c2)).t)]) [] (vi (v2 : Int)) (kX ((!y2_0)) true nbt <| kK (tQ (ZE c2) 0) w2) bE
    refine oi fun g4 => ?_
    exact okN (Za (oq [1, 2]) [(0, (((v2 + 1) : Nat) : Int))] [(0, v2), (1, v2)] [(0, (RB.cel (L0.getD v2 RI.z))), (1, (RB.cel (L0.getD v2 RI.z)))] [(0, (tP (Zb8 c1)).t), (1, (tP (ZE c2)).t)]) [] [some (ms RB L0), some (ms RA y1_0), some (κB v2)] (kW ((v2 : Int) + 1) (((v2 + 1) : Nat) : Int) <| kX ((!y2_0)) false nbf <| kK (tQ (ZE c2) 0) w2) (tC (tC (tC (tE)))) bE (show 1 ∈ Zj (Zde 1) from by decide +kernel)
 refine ok_ite (fun g1 => ?_) fun g1 => ?_
 ·
  exact okF (Za (oq [0, 3]) [] [] [] []) [] (vi (L0.length : Int)) (kY ((v1.length : Int) > 0) <| hN g0 Zb) bE
 exact okH (ZbM 2) (Za (oq [0, 2]) [] [] [] []) [] [some (ms RB L0), some (vq)] (kN ((v1.length : Int) > 0) <| hN g0 Zb) (tC (tC (tE) ⟨Eq.trans (show κn = vq from ci) (by rfl), by rfl⟩)) bE (show ∀ j ∈ Zj (ZbM 2).2, j ∈ Zj (Zde 1) from by decide +kernel)

theorem ZqL (v1 N : Nat) : (Zdf L0 N).Ok Tryz.prog Zg (.h2m0 v1 : ZI) (Zba L0 N (.h2m0 v1 : ZI)) := by
 show (Zdf L0 N).Ok Tryz.prog Zg (.h2m0 v1 : ZI) (ZhH L0 N v1)
 unfold ZhH
 refine ok_ite (fun g0 => ?_) fun g0 => ?_
 ·
  have w1 := kG RB L0 (0 + (v1 * 4)) v1 0 4 4 <| kB v1 L0.length <| kI (v1 : Int) (Int.ofNat v1) <| hY g0 Zb
  refine ok_ite (fun g1 => ?_) fun g1 => ?_
  ·
   refine ok_ite (fun g2 => ?_) fun g2 => ?_
   ·
    exact okF (Za (oq [1, 3, 5]) [] [(0, v1)] [(0, (RB.cel (L0.getD v1 RI.z)))] []) [] (vi (v1 : Int)) (kY ((L0.getD v1 RI.z).a1 > (L0.length : Int)) <| hT g1 w1) bE
   refine ok_bind fun z3 c3 => ?_
   cases z3 with
   | r0 y3_0 y3_1 =>
    have w4 := kK (tQ (Za2 c3) 1) <| kN ((L0.getD v1 RI.z).a1 > (L0.length : Int)) <| hT g1 w1
    refine ok_bind fun z4 c4 => ?_
    cases z4 with
    | r0 y4_0 y4_1 =>
     refine ok_ite (fun g5 => ?_) fun g5 => ?_
     ·
      exact okF (Za (oq [1, 3, 4, 7]) [] [(0, v1)] [(0, (RB.cel (L0.getD v1 RI.z)))] [(0, (tP (Za2 c3)).t), (1, (tP (Za2 c4)).t)]) [] (vi (v1 : Int)) (kX ((!((y3_0 == y4_0) && ((y3_1 == y4_1) && true)))) true (by rw [Bool.not_eq_true']; exact Bool.eq_false_iff.2 (by simp only [ne_eq, Bool.and_true, Bool.and_eq_true, beq_iff_eq]; first | omega | (intro hh; simp_all; done) | (intro hh; grind))) <| kK (tQ (Za2 c4) 1) w4) bE
     refine oi fun g6 => ?_
     exact okN (Za (oq [1, 3, 4, 6]) [(0, (((v1 + 1) : Nat) : Int))] [(0, v1)] [(0, (RB.cel (L0.getD v1 RI.z)))] [(0, (tP (Za2 c3)).t), (1, (tP (Za2 c4)).t)]) [] [some (ms RB L0), some (κw v1)] (kW ((v1 : Int) + 1) (((v1 + 1) : Nat) : Int) <| kX ((!((y3_0 == y4_0) && ((y3_1 == y4_1) && true)))) false (by rw [Bool.not_eq_false']; first | (simp only [beq_self_eq_true, Bool.and_self]; done) | (simp only [Bool.and_true, Bool.and_eq_true, beq_iff_eq] <;> first | omega | (simp_all; done) | grind)) <| kK (tQ (Za2 c4) 1) w4) (tC (tC (tE))) bE (show 2 ∈ Zj (Zde 2) from by decide +kernel)
  refine ok_ite (fun g2 => ?_) fun g2 => ?_
  ·
   refine ok_ite (fun g3 => ?_) fun g3 => ?_
   ·
    exact okF (Za (oq [1, 2, 5, 7]) [] [(0, v1)] [(0, (RB.cel (L0.getD v1 RI.z)))] []) [] (vi (v1 : Int)) (kY ((L0.getD v1 RI.z).a2 > (L0.length : Int)) <| hT g2 <| hF g1 w1) bE
   refine ok_bind fun z4 c4 => ?_
   cases z4 with
   | r0 y4_0 y4_1 =>
    have w5 := kK (tQ (Za2 c4) 1) <| kN ((L0.getD v1 RI.z).a2 > (L0.length : Int)) <| hT g2 <| hF g1 w1
    refine ok_bind fun z5 c5 => ?_
    cases z5 with
    | r0 y5_0 y5_1 =>
     refine ok_ite (fun g6 => ?_) fun g6 => ?_
     ·
      exact okF (Za (oq [1, 2, 5, 6, 9]) [] [(0, v1)] [(0, (RB.cel (L0.getD v1 RI.z)))] [(0, (tP (Za2 c4)).t), (1, (tP (Za2 c5)).t)]) [] (vi (v1 : Int)) (kX ((!((y4_0 == y5_0) && ((y4_1 == y5_1) && true)))) true (by rw [Bool.not_eq_true']; exact Bool.eq_false_iff.2 (by simp only [ne_eq, Bool.and_true, Bool.and_eq_true, beq_iff_eq]; first | omega | (intro hh; simp_all; done) | (intro hh; grind))) <| kK (tQ (Za2 c5) 1) w5) bE
     refine oi fun g7 => ?_
     exact okN (Za (oq [1, 2, 5, 6, 8]) [(0, (((v1 + 1) : Nat) : Int))] [(0, v1)] [(0, (RB.cel (L0.getD v1 RI.z)))] [(0, (tP (Za2 c4)).t), (1, (tP (Za2 c5)).t)]) [] [some (ms RB L0), some (κw v1)] (kW ((v1 : Int) + 1) (((v1 + 1) : Nat) : Int) <| kX ((!((y4_0 == y5_0) && ((y4_1 == y5_1) && true)))) false (by rw [Bool.not_eq_false']; first | (simp only [beq_self_eq_true, Bool.and_self]; done) | (simp only [Bool.and_true, Bool.and_eq_true, beq_iff_eq] <;> first | omega | (simp_all; done) | grind)) <| kK (tQ (Za2 c5) 1) w5) (tC (tC (tE))) bE (show 2 ∈ Zj (Zde 2) from by decide +kernel)
  refine oi fun g3 => ?_
  exact okN (Za (oq [1, 2, 4]) [(0, (((v1 + 1) : Nat) : Int))] [(0, v1)] [(0, (RB.cel (L0.getD v1 RI.z)))] []) [] [some (ms RB L0), some (κw v1)] (kW ((v1 : Int) + 1) (((v1 + 1) : Nat) : Int) <| hF g2 <| hF g1 w1) (tC (tC (tE))) bE (show 2 ∈ Zj (Zde 2) from by decide +kernel)
 exact okF (Za (oq [0]) [] [] [] []) [] (vi (-1 : Int)) (hN g0 Zb) bE

theorem Zuy (N : Nat) : (Zdf L0 N).Enter Tryz.prog Zg #[ms RB L0] (Zh6 L0 N) := by
 unfold Zh6
 refine en_ite (fun g0 => ?_) (fun g0 => ?_)
 ·
  exact enF (Za (oq [1]) [] [] [] []) [] (vq) (hY g0 Zb) bE
 refine en_ite (fun g1 => ?_) (fun g1 => ?_)
 ·
  exact enF (Za (oq [0, 3]) [] [] [] []) [] (vq) (kY ((L0.length : Int) > 512) <| hN g0 Zb) bE
 exact enH (ZbM 1) (Za (oq [0, 2]) [] [] [] []) [] [some (ms RB L0), some (vn), some (vq)] (kN ((L0.length : Int) > 512) <| hN g0 Zb) (tC (tC (tC (tE) ⟨Eq.trans (show κn = vq from ci) (by rfl), by rfl⟩))) bE (show Zj (ZbM 1).2 = [] from rfl)

theorem Zsd (N : Nat) (r : ZU) (h : Zhu L0 N = some r) : LSpec Tryz.prog 72 #[ms RB L0] [] (Zld r) (ZjR r) :=
 Mach.spec ZB (Zdf L0 N) Tryz.func72 (by kernel_rfl) (by kernel_rfl) (fun x => by cases x <;> exact Zu _ rfl) (fun r => by cases r <;> exact Zu _ rfl) (fun x => by
  cases x with
  | h1m0 _ => exact fun _ => (show ¬ (1 ∈ Zj (ZbM 1).2) from by decide +kernel)
  | h1m1 _ _ => exact fun _ => (show ¬ (1 ∈ Zj (ZbM 1).2) from by decide +kernel)
  | h2m0 _ => exact fun _ => (show ¬ (2 ∈ Zj (ZbM 2).2) from by decide +kernel)
  ) (fun x => (show (Zdf L0 N).Ok Tryz.prog Zg x (Zba L0 N x) from by
  cases x with
  | h1m0 v1 => exact ZqJ L0 v1 N
  | h1m1 v1 v2 => exact ZqK L0 v1 v2 N
  | h2m0 v1 => exact ZqL L0 v1 N
  )) (Zuy L0 N) (n := N) h

theorem Ze2 {L0 : List RI} {N : Nat} {r : ZU} (h : Zhu L0 N = some r) : LSpec Tryz.prog 72 #[ms RB L0] [] (Zld r) (ZjR r) := Zsd L0 N r h

noncomputable def Zle : Zc2 → Value
 | .r0 w0 => vi w0
noncomputable def ZjS : Zc2 → List (Option AObj)
 | .r0 w0 => []

theorem Zuz (N : Nat) : Fx Tryz.prog Zg Tryz.f41 [] #[ms RB L0] (Zle) (ZjS) (Zd0 L0 N) := by
 unfold Zd0
 refine Zz (fun z0 c0 => ?_)
 cases z0 with
 | r0 y0_0 =>
  have w1 := kK (tQ (Ze2 c0) 0) Zb
  refine Ze (fun g1 => ?_) (fun g1 => ?_)
  ·
   exact fxC (Za (oq [1]) [] [] [] [(0, (tP (Ze2 c0)).t)]) [] (vq) (hY g1 w1) bE
  refine Ze (fun g2 => ?_) (fun g2 => ?_)
  ·
   refine Ze (fun g3 => ?_) (fun g3 => ?_)
   ·
    have w4 := kG RB L0 (0 + ((y0_0).toNat * 4)) ((y0_0).toNat) 0 4 4 <| kB (y0_0).toNat L0.length <| kI y0_0 (Int.ofNat (y0_0).toNat) <| hY g3 <| hY g2 <| hN g1 w1
    refine Ze (fun g4 => ?_) (fun g4 => ?_)
    ·
     exact fxC (Za (oq [0, 3, 5, 7]) [] [(0, (y0_0).toNat)] [(0, (RB.cel (L0.getD (y0_0).toNat RI.z)))] [(0, (tP (Ze2 c0)).t)]) [] (vi 140) (kZ (((L0.getD (y0_0).toNat RI.z).a0 == 15) && (((L0.getD (y0_0).toNat RI.z).a1 == 0) && (((L0.getD (y0_0).toNat RI.z).a2 == 0) && (((L0.getD (y0_0).toNat RI.z).a3 == 0) && true)))) w4) bE
    exact fxC (Za (oq [0, 3, 5, 6]) [] [(0, (y0_0).toNat)] [(0, (RB.cel (L0.getD (y0_0).toNat RI.z)))] [(0, (tP (Ze2 c0)).t)]) [] (vi 120) (kO (((L0.getD (y0_0).toNat RI.z).a0 == 15) && (((L0.getD (y0_0).toNat RI.z).a1 == 0) && (((L0.getD (y0_0).toNat RI.z).a2 == 0) && (((L0.getD (y0_0).toNat RI.z).a3 == 0) && true)))) w4) bE
   exact fxC (Za (oq [0, 3, 4]) [] [] [] [(0, (tP (Ze2 c0)).t)]) [] (vi 120) (hN g3 <| hY g2 <| hN g1 w1) bE
  exact fxC (Za (oq [0, 2]) [] [] [] [(0, (tP (Ze2 c0)).t)]) [] (vi 120) (hN g2 <| hN g1 w1) bE

theorem Zse (N : Nat) (r : Zc2) (h : Zd0 L0 N = some r) : LSpec Tryz.prog 41 #[ms RB L0] [] (Zle r) (ZjS r) :=
 Zax ZB Tryz.func41 (by kernel_rfl) (by kernel_rfl) (fun r => by cases r <;> exact Zu _ rfl) (Zuz L0 N) h

end
theorem Zb2 {L0 : List RI} {N : Nat} {r : Zc2} (h : Zd0 L0 N = some r) : LSpec Tryz.prog 41 #[ms RB L0] [] (Zle r) (ZjS r) := Zse L0 N r h

noncomputable def ZnZ : Zbb → Value
 | .r0 => vn
 | .r1 w0 => vs 0 0 w0.length w0.length
noncomputable def ZmN : Zbb → List (Option AObj)
 | .r0 => []
 | .r1 w0 => [some (.cells (Zd RA w0) 44)]

noncomputable def Zp8 : Zbb → Value
 | .r0 => vn
 | .r1 w0 => ms RA w0
noncomputable def Zoa : Zbb → List (Option AObj)
 | .r0 => []
 | .r1 w0 => []

def ZvQ : Zas → Nat
 | .h1m0 => 1
 | .h1m1 v1 v2 v3 => 1
noncomputable def ZxO (a0 a1 : Int) : Zas → List (Nat × Value)
 | .h1m0 => [(0, vi a0), (1, vi a1), (5, vn), (6, vq)]
 | .h1m1 v1 v2 v3 => [(0, vi a0), (1, vi v1), (5, vs 0 0 v2.length v2.length), (6, vi (v3 : Int))]
noncomputable def ZxP (a0 a1 : Int) : Zas → List (Option AObj)
 | .h1m0 => []
 | .h1m1 v1 v2 v3 => [some (.cells (Zd RA v2) 44)]

noncomputable def Zes : Nat → Code × List ZD
 | 1 => ZX [1, 1, 0, 1, 3] (Zaw Tryz.f98) []
 | _ => (.skip, [])
def Zob : Nat → Bool
 | 1 => true
 | _ => true
noncomputable def ZiG (i : Nat) : List ZD := match Zob i with | true => .rnd i :: (Zes i).2 | false => (Zes i).2

section
variable (a0 a1 : Int) (N : Nat)
noncomputable def Zet : Mach := ⟨Tryz.f98, [], Zas, Zbb, ZeJ a0 a1 N, ZvQ, Zes, Zob, ZxO a0 a1, ZxP a0 a1, ZnZ, ZmN⟩

theorem ZqM : (Zet a0 a1 N).Ok Tryz.prog Zg (.h1m0 : Zas) (ZeJ a0 a1 N (.h1m0 : Zas)) := by
 show (Zet a0 a1 N).Ok Tryz.prog Zg (.h1m0 : Zas) (ZhI a0 a1 N)
 unfold ZhI
 refine oi fun g0 => ?_
 refine oi fun g1 => ?_
 refine ok_ite (fun g2 => ?_) fun g2 => ?_
 ·
  refine ok_ite (fun g3 => ?_) fun g3 => ?_
  ·
   refine oi fun g4 => ?_
   exact okN (Za (oq [1, 3]) [(0, (a1 % 2)), (1, (a1 / 2))] [] [] []) [2] [some (vi a0), some (vi (a1 / 2)), some (vs 2 0 1 1), some (vi 1)] (kV a1 2 <| hT g3 <| kM a1 2 <| hY g2 Zb) (tC (tC (tC (tC (tE) ⟨Eq.trans (show κP = vi 1 from ci) (by rfl), by rfl⟩) ⟨Eq.trans (show (vs 0 0 ([(⟨2, 0⟩ : RG)] : List RG).length ([(⟨2, 0⟩ : RG)] : List RG).length : Value) = vs 0 0 1 1 from (Z0 rfl eqA eqA)) (by rfl), by rfl⟩))) (bC (o := .cells [vi 2, vq] 44) (Zae (E := RA) _ (L := ([(⟨2, 0⟩ : RG)] : List RG)) _ (show ([vi 2, vq] : List Value) = Zd RA ([(⟨2, 0⟩ : RG)] : List RG) from rfl)) <| bE) (show 1 ∈ Zj (ZiG 1) from by decide +kernel)
  refine oi fun g4 => ?_
  exact okN (Za (oq [1, 2]) [(0, (a1 % 2)), (1, (a1 / 2))] [] [] []) [2] [some (vi a0), some (vi (a1 / 2)), some (vs 2 0 1 1), some (vi 1)] (kV a1 2 <| hF g3 <| kM a1 2 <| hY g2 Zb) (tC (tC (tC (tC (tE) ⟨Eq.trans (show κP = vi 1 from ci) (by rfl), by rfl⟩) ⟨Eq.trans (show (vs 0 0 ([(⟨1, 0⟩ : RG)] : List RG).length ([(⟨1, 0⟩ : RG)] : List RG).length : Value) = vs 0 0 1 1 from (Z0 rfl eqA eqA)) (by rfl), by rfl⟩))) (bC (o := .cells [vi 1, vq] 44) (Zae (E := RA) _ (L := ([(⟨1, 0⟩ : RG)] : List RG)) _ (show ([vi 1, vq] : List Value) = Zd RA ([(⟨1, 0⟩ : RG)] : List RG) from rfl)) <| bE) (show 1 ∈ Zj (ZiG 1) from by decide +kernel)
 exact okF (Za (oq [0]) [] [] [] []) [] (vn) (hN g2 Zb) bE

theorem ZqN (a0 a1 v1 : Int) (v2 : List RG) (v3 N : Nat) : (Zet a0 a1 N).Ok Tryz.prog Zg (.h1m1 v1 v2 v3 : Zas) (ZeJ a0 a1 N (.h1m1 v1 v2 v3 : Zas)) := by
 show (Zet a0 a1 N).Ok Tryz.prog Zg (.h1m1 v1 v2 v3 : Zas) (ZhJ a0 a1 N v1 v2 v3)
 unfold ZhJ
 refine oi fun g0 => ?_
 refine oi fun g1 => ?_
 refine ok_ite (fun g2 => ?_) fun g2 => ?_
 ·
  refine ok_ite (fun g3 => ?_) fun g3 => ?_
  ·
   refine oi fun g4 => ?_
   refine oi fun g5 => ?_
   refine oi fun g6 => ?_
   exact okN (Za (oq [1, 3]) [(0, (v1 % 2)), (1, (v1 / 2)), (2, (((v3 + 1) : Nat) : Int))] [] [] [(2, .ap 1 [vi 2, vq] (Zd RA (v2 ++ ([(⟨2, 0⟩ : RG)] : List RG))))]) [3] [some (vi a0), some (vi (v1 / 2)), some (vs 3 0 (v2.length + 1) (v2.length + 1)), some (κ6 v3)] (kW ((v3 : Int) + 1) (((v3 + 1) : Nat) : Int) <| kV v1 2 <| kA RA v2 (⟨2, 0⟩ : RG) <| hT g3 <| kM v1 2 <| hY g2 Zb) (tC (tC (tC (tC (tE)) ⟨Eq.trans (show (vs 0 0 (v2 ++ ([(⟨2, 0⟩ : RG)] : List RG)).length (v2 ++ ([(⟨2, 0⟩ : RG)] : List RG)).length : Value) = vs 0 0 (v2.length + 1) (v2.length + 1) from (Z0 rfl eqA eqA)) (by rfl), by rfl⟩))) (bR <| bE) (show 1 ∈ Zj (ZiG 1) from by decide +kernel)
  refine oi fun g4 => ?_
  refine oi fun g5 => ?_
  refine oi fun g6 => ?_
  exact okN (Za (oq [1, 2]) [(0, (v1 % 2)), (1, (v1 / 2)), (2, (((v3 + 1) : Nat) : Int))] [] [] [(2, .ap 1 [vi 1, vq] (Zd RA (v2 ++ ([(⟨1, 0⟩ : RG)] : List RG))))]) [3] [some (vi a0), some (vi (v1 / 2)), some (vs 3 0 (v2.length + 1) (v2.length + 1)), some (κ6 v3)] (kW ((v3 : Int) + 1) (((v3 + 1) : Nat) : Int) <| kV v1 2 <| kA RA v2 (⟨1, 0⟩ : RG) <| hF g3 <| kM v1 2 <| hY g2 Zb) (tC (tC (tC (tC (tE)) ⟨Eq.trans (show (vs 0 0 (v2 ++ ([(⟨1, 0⟩ : RG)] : List RG)).length (v2 ++ ([(⟨1, 0⟩ : RG)] : List RG)).length : Value) = vs 0 0 (v2.length + 1) (v2.length + 1) from (Z0 rfl eqA eqA)) (by rfl), by rfl⟩))) (bR <| bE) (show 1 ∈ Zj (ZiG 1) from by decide +kernel)
 exact okF (Za (oq [0]) [] [] [] []) [0] (vs 0 0 v2.length v2.length) (hN g2 Zb) (bR <| bE)

theorem Zu0 : (Zet a0 a1 N).Enter Tryz.prog Zg #[vi a0, vi a1] (ZjE a0 a1 N) := by
 unfold ZjE
 exact enH (Zes 1) (Za (oq []) [] [] [] []) [] [some (vi a0), some (vi a1), some (vn), some (vq)] Zb (tC (tC (tC (tC (tE))))) bE (show Zj (Zes 1).2 = [] from rfl)

theorem ZqO (r : Zbb) (h : ZdY a0 a1 N = some r) : LSpec Tryz.prog 98 #[vi a0, vi a1] [] (ZnZ r) (ZmN r) :=
 Mach.spec ZB (Zet a0 a1 N) Tryz.func98 (by kernel_rfl) (by kernel_rfl) (fun x => by cases x <;> exact Zu _ rfl) (fun r => by cases r <;> exact Zu _ rfl) (fun x => by
  cases x with
  | h1m0 => exact fun _ => (show ¬ (1 ∈ Zj (Zes 1).2) from by decide +kernel)
  | h1m1 _ _ _ => exact fun _ => (show ¬ (1 ∈ Zj (Zes 1).2) from by decide +kernel)
  ) (fun x => (show (Zet a0 a1 N).Ok Tryz.prog Zg x (ZeJ a0 a1 N x) from by
  cases x with
  | h1m0 => exact ZqM a0 a1 N
  | h1m1 v1 v2 v3 => exact ZqN a0 a1 v1 v2 v3 N
  )) (Zu0 a0 a1 N) (n := N) h

theorem Zsf (r : Zbb) (h : ZdY a0 a1 N = some r) : LSpec Tryz.prog 98 #[vi a0, vi a1] [] (Zp8 r) (Zoa r) := by
 have h0 := ZqO a0 a1 N r h
 cases r with
 | r0 => exact h0
 | r1 w0 => exact (LSpec.frzv (E := RA) (L := w0) (post := []) (v2 := ms RA w0) h0 (show 0 ≤ 0 from by decide) (show 0 < 1000000000 from by decide) trivial rfl rfl rfl)

end
theorem Zcr {a0 a1 : Int} {N : Nat} {r : Zbb} (h : ZdY a0 a1 N = some r) : LSpec Tryz.prog 98 #[vi a0, vi a1] [] (Zp8 r) (Zoa r) := Zsf a0 a1 N r h

noncomputable def ZjT (a0 a1 a2 a3 a4 a5 : Int) : Zcp → Value
 | .r0 w0 w1 w7 => Value.agg #[vi w0, vi w1, vi a0, vi a2, vi a3, vi a4, vi a5, ms RA w7]
noncomputable def Zje : Zcp → List (Option AObj)
 | .r0 w0 w1 w7 => []

section
variable (a0 a1 a2 a3 a4 a5 : Int) (N : Nat)
theorem Ztw : Fx Tryz.prog Zg Tryz.f73 [] #[vi a0, vi a1, vi a2, vi a3, vi a4, vi a5] (ZjT a0 a1 a2 a3 a4 a5) (Zje) (Zg5 a0 a1 a2 a3 a4 a5 N) := by
 unfold Zg5
 refine Ze (fun g0 => ?_) (fun g0 => ?_)
 ·
  refine Zz (fun z1 c1 => ?_)
  cases z1 with
  | r0 =>
   exact Zq
  | r1 y1_0 =>
   exact fxC (Za (oq [1]) [] [] [] [(3, (tP (Zcr c1)).t)]) [] (Value.agg #[vq, vq, vi a0, vi a2, vi a3, vi a4, vi a5, ms RA y1_0]) (kK (tQ (Zcr c1) 4) <| hY g0 Zb) bE
 refine Ze (fun g1 => ?_) (fun g1 => ?_)
 ·
  refine Zz (fun z2 c2 => ?_)
  cases z2 with
  | r0 =>
   exact Zq
  | r1 y2_0 =>
   exact fxC (Za (oq [0, 3]) [] [] [] [(3, (tP (Zcr c2)).t)]) [] (Value.agg #[vq, vq, vi a0, vi a2, vi a3, vi a4, vi a5, ms RA y2_0]) (kK (tQ (Zcr c2) 4) <| kY (a0 > 1073741824) <| hN g0 Zb) bE
 refine Ze (fun g2 => ?_) (fun g2 => ?_)
 ·
  refine Zz (fun z3 c3 => ?_)
  cases z3 with
  | r0 =>
   exact Zq
  | r1 y3_0 =>
   exact fxC (Za (oq [0, 2, 5]) [] [] [] [(3, (tP (Zcr c3)).t)]) [] (Value.agg #[vq, vq, vi a0, vi a2, vi a3, vi a4, vi a5, ms RA y3_0]) (kK (tQ (Zcr c3) 4) <| hY g2 <| kN (a0 > 1073741824) <| hN g0 Zb) bE
 refine Ze (fun g3 => ?_) (fun g3 => ?_)
 ·
  refine Zz (fun z4 c4 => ?_)
  cases z4 with
  | r0 =>
   exact Zq
  | r1 y4_0 =>
   exact fxC (Za (oq [0, 2, 4, 7]) [] [] [] [(3, (tP (Zcr c4)).t)]) [] (Value.agg #[vq, vq, vi a0, vi a2, vi a3, vi a4, vi a5, ms RA y4_0]) (kK (tQ (Zcr c4) 4) <| kY (a1 ≥ 1048576) <| hN g2 <| kN (a0 > 1073741824) <| hN g0 Zb) bE
 refine Zz (fun z4 c4 => ?_)
 cases z4 with
 | r0 =>
  exact Zq
 | r1 y4_0 =>
  exact fxC (Za (oq [0, 2, 4, 6]) [(0, (a0 * 1048576)), (1, ((a0 * 1048576) + a1))] [] [] [(3, (tP (Zcr c4)).t)]) [] (Value.agg #[vi 2, vi ((a0 * 1048576) + a1), vi a0, vi a2, vi a3, vi a4, vi a5, ms RA y4_0]) (kK (tQ (Zcr c4) 4) <| kW ((a0 * 1048576) + a1) ((a0 * 1048576) + a1) <| kW (a0 * 1048576) (a0 * 1048576) <| kN (a1 ≥ 1048576) <| hN g2 <| kN (a0 > 1073741824) <| hN g0 Zb) bE

theorem ZqP (r : Zcp) (h : Zg5 a0 a1 a2 a3 a4 a5 N = some r) : LSpec Tryz.prog 73 #[vi a0, vi a1, vi a2, vi a3, vi a4, vi a5] [] (ZjT a0 a1 a2 a3 a4 a5 r) (Zje r) :=
 Zax ZB Tryz.func73 (by kernel_rfl) (by kernel_rfl) (fun r => by cases r <;> exact Zu _ rfl) (Ztw a0 a1 a2 a3 a4 a5 N) h

end
theorem ZmO {a0 a1 a2 a3 a4 a5 : Int} {N : Nat} {r : Zcp} (h : Zg5 a0 a1 a2 a3 a4 a5 N = some r) : LSpec Tryz.prog 73 #[vi a0, vi a1, vi a2, vi a3, vi a4, vi a5] [] (ZjT a0 a1 a2 a3 a4 a5 r) (Zje r) := ZqP a0 a1 a2 a3 a4 a5 N r h

noncomputable def Zrx (a0 : Int) : ZcZ → Value
 | .r0 => Value.tuple #[Value.agg #[vq, vn, vn], vi 1]
 | .r1 w1 => Value.tuple #[Value.agg #[vi a0, vs 0 0 w1.length w1.length, vn], vq]
noncomputable def Zp9 : ZcZ → List (Option AObj)
 | .r0 => []
 | .r1 w1 => [some (.cells (Zd Zaz w1) 149)]

noncomputable def Ztx (a0 : Int) : ZcZ → Value
 | .r0 => Value.tuple #[Value.agg #[vq, vn, vn], vi 1]
 | .r1 w1 => Value.tuple #[Value.agg #[vi a0, ms Zaz w1, vn], vq]
noncomputable def Zry : ZcZ → List (Option AObj)
 | .r0 => []
 | .r1 w1 => []

section
variable (a0 : Int) (N : Nat)
theorem ZxQ : Fx Tryz.prog Zg Tryz.f43 [] #[vi a0] (Zrx a0) (Zp9) (Zg6 a0 N) := by
 unfold Zg6
 refine Ze (fun g0 => ?_) (fun g0 => ?_)
 ·
  exact fxC (Za (oq [1]) [] [] [] []) [] (Value.tuple #[Value.agg #[vq, vn, vn], vi 1]) (hY g0 Zb) bE
 refine Ze (fun g1 => ?_) (fun g1 => ?_)
 ·
  exact fxC (Za (oq [0, 3]) [] [] [] []) [] (Value.tuple #[Value.agg #[vq, vn, vn], vi 1]) (kY (a0 > 65536) <| hN g0 Zb) bE
 refine Zz (fun z2 c2 => ?_)
 cases z2 with
 | r0 y2_0 y2_1 y2_2 =>
  exact fxC (Za (oq [0, 2]) [] [] [] [(0, (tP (ZmO c2)).t)]) [1] (Value.tuple #[Value.agg #[vi a0, vs 1 0 1 1, vn], vq]) (kK (tQ (ZmO c2) 1) <| kN (a0 > 65536) <| hN g0 Zb) (bC (o := .cells [vi 1, vi y2_0, vi y2_1, vi 1, vi 16, vi 255, vi 2, vq, ms RA y2_2] 149) (Zae (E := Zaz) _ (L := ([(⟨1, y2_0, y2_1, 1, 16, 255, 2, 0, y2_2⟩ : RK)] : List RK)) _ (show ([vi 1, vi y2_0, vi y2_1, vi 1, vi 16, vi 255, vi 2, vq, ms RA y2_2] : List Value) = Zd Zaz ([(⟨1, y2_0, y2_1, 1, 16, 255, 2, 0, y2_2⟩ : RK)] : List RK) from rfl)) <| bE) (hv := ⟨Eq.trans (show (Value.tuple #[Value.agg #[vi a0, vs 0 0 ([(⟨1, y2_0, y2_1, 1, 16, 255, 2, 0, y2_2⟩ : RK)] : List RK).length ([(⟨1, y2_0, y2_1, 1, 16, 255, 2, 0, y2_2⟩ : RK)] : List RK).length, vn], vq] : Value) = Value.tuple #[Value.agg #[vi a0, vs 0 0 1 1, vn], vq] from (Za7 (Zf (Zb3 (cr (Zf (Z0 rfl eqA eqA) (cr rfl)))) (cr rfl)))) (by rfl), by rfl⟩)

theorem Zty (r : ZcZ) (h : Zg6 a0 N = some r) : LSpec Tryz.prog 43 #[vi a0] [] (Zrx a0 r) (Zp9 r) :=
 Zax ZB Tryz.func43 (by kernel_rfl) (by kernel_rfl) (fun r => by cases r <;> exact Zu _ rfl) (ZxQ a0 N) h

theorem Zu1 (r : ZcZ) (h : Zg6 a0 N = some r) : LSpec Tryz.prog 43 #[vi a0] [] (Ztx a0 r) (Zry r) := by
 have h0 := Zty a0 N r h
 cases r with
 | r0 => exact h0
 | r1 w1 => exact (LSpec.frzv (E := Zaz) (L := w1) (post := []) (v2 := Value.tuple #[Value.agg #[vi a0, ms Zaz w1, vn], vq]) h0 (show 0 ≤ 0 from by decide) (show 0 < 1000000000 from by decide) trivial rfl rfl rfl)

theorem Zcs {a0 : Int} {N : Nat} {r : ZcZ} (h : Zg6 a0 N = some r) : LSpec Tryz.prog 43 #[vi a0] [] (Ztx a0 r) (Zry r) := Zu1 a0 N r h

noncomputable def ZlE : ZaX → Value
 | .r0 => vn
noncomputable def Zlf : ZaX → List (Option AObj)
 | .r0 => []

noncomputable def ZmP : ZaX → Value
 | .r0 => ms RC ([] : List RJ)
noncomputable def ZlF : ZaX → List (Option AObj)
 | .r0 => []

def Ztz : Zbh → Nat
 | .h1m0 => 1
noncomputable def Zu2 (a0 : Int) : Zbh → List (Nat × Value)
 | .h1m0 => [(1, vp 0 0), (3, vn), (4, vq)]
noncomputable def Zu3 (a0 : Int) : Zbh → List (Option AObj)
 | .h1m0 => [some (.cells [vi a0, vn, vn] 113)]

noncomputable def Zhj : Nat → Code × List ZD
 | 1 => ZX [1, 1, 0, 1, 3] (Zaw Tryz.f44) []
 | _ => (.skip, [])
def Zt0 : Nat → Bool
 | 1 => true
 | _ => true
noncomputable def Zfq : Mach := ⟨Tryz.f44, [], Zbh, ZaX, Zfd a0 N, Ztz, Zhj, Zt0, Zu2 a0, Zu3 a0, ZlE, Zlf⟩

theorem ZoC : (Zfq a0 N).Ok Tryz.prog Zg (.h1m0 : Zbh) (Zfd a0 N (.h1m0 : Zbh)) := by
 show (Zfq a0 N).Ok Tryz.prog Zg (.h1m0 : Zbh) (Zg7 a0 N)
 unfold Zg7
 exact okF (Za (oq []) [] [] [] []) [] (vn) Zb bE

theorem Zsg : (Zfq a0 N).Enter Tryz.prog Zg #[Value.agg #[vi a0, vn, vn]] (Zit a0 N) := by
 unfold Zit
 exact enH (Zhj 1) (Za (oq []) [] [] [] []) [0] [some (vp 0 0), some (vn), some (vq)] Zb (tC (tC (tC (tE)))) (bS [vi a0, vn, vn] <| bE) (show Zj (Zhj 1).2 = [] from rfl)

theorem ZoD (r : ZaX) (h : ZfM a0 N = some r) : LSpec Tryz.prog 44 #[Value.agg #[vi a0, vn, vn]] [] (ZlE r) (Zlf r) :=
 Mach.spec ZB (Zfq a0 N) Tryz.func44 (by kernel_rfl) (by kernel_rfl) (fun x => by cases x <;> exact Zu _ rfl) (fun r => by cases r <;> exact Zu _ rfl) (fun x => by
  cases x with
  | h1m0 => exact fun _ => (show ¬ (1 ∈ Zj (Zhj 1).2) from by decide +kernel)
  ) (fun x => (show (Zfq a0 N).Ok Tryz.prog Zg x (Zfd a0 N x) from by
  cases x with
  | h1m0 => exact ZoC a0 N
  )) (Zsg a0 N) (n := N) h

theorem ZpA (r : ZaX) (h : ZfM a0 N = some r) : LSpec Tryz.prog 44 #[Value.agg #[vi a0, vn, vn]] [] (ZmP r) (ZlF r) := by
 have h0 := ZoD a0 N r h
 cases r with
 | r0 => exact (LSpec.nlv (v2 := ms RC ([] : List RJ)) h0 rfl rfl)

end
theorem Zgp {a0 : Int} {N : Nat} {r : ZaX} (h : ZfM a0 N = some r) : LSpec Tryz.prog 44 #[Value.agg #[vi a0, vn, vn]] [] (ZmP r) (ZlF r) := ZpA a0 N r h

open Mach (oi ok_ite ok_bind okF okN enF enH en_ite)
set_option linter.unusedVariables false
set_option maxRecDepth 100000
noncomputable def Zkd : Zaq → Value
 | .r0 => vn
 | .r1 w0 => vs 0 0 w0.length w0.length
noncomputable def Zj6 : Zaq → List (Option AObj)
 | .r0 => []
 | .r1 w0 => [some (.cells (Zd RC w0) 97)]

noncomputable def Zlg : Zaq → Value
 | .r0 => ms RC ([] : List RJ)
 | .r1 w0 => ms RC w0
noncomputable def Zke : Zaq → List (Option AObj)
 | .r0 => []
 | .r1 w0 => []

def ZqQ : ZP → Nat
 | .h1m0 v0 => 1
 | .h1m1 v0 v1 => 1
noncomputable def Zsh (a0 : Int) (L1 : List RK) : ZP → List (Nat × Value)
 | .h1m0 v0 => [(1, vp 0 0), (3, vn), (4, vi (v0 : Int))]
 | .h1m1 v0 v1 => [(1, vp 0 0), (3, vs 1 0 v0.length v0.length), (4, vi (v1 : Int))]
section
variable (a0 : Int) (L1 : List RK)
noncomputable def Zsi : ZP → List (Option AObj)
 | .h1m0 v0 => [some (.cells [vi a0, ms Zaz L1, vn] 113)]
 | .h1m1 v0 v1 => [some (.cells [vi a0, ms Zaz L1, vn] 113), some (.cells (Zd RC v0) 97)]

noncomputable def ZcG : Nat → Code × List ZD
 | 1 => ZX [1, 1, 0, 1, 3] (Zaw Tryz.f44) []
 | _ => (.skip, [])
def Zkf : Nat → Bool
 | 1 => true
 | _ => true
noncomputable def ZfH (i : Nat) : List ZD := match Zkf i with | true => .rnd i :: (ZcG i).2 | false => (ZcG i).2

noncomputable def ZcH (N : Nat) : Mach := ⟨Tryz.f44, [], ZP, Zaq, Zdp a0 L1 N, ZqQ, ZcG, Zkf, Zsh a0 L1, Zsi a0 L1, Zkd, Zj6⟩

theorem ZmQ (v0 N : Nat) : (ZcH a0 L1 N).Ok Tryz.prog Zg (.h1m0 v0 : ZP) (Zdp a0 L1 N (.h1m0 v0 : ZP)) := by
 show (ZcH a0 L1 N).Ok Tryz.prog Zg (.h1m0 v0 : ZP) (ZfC a0 L1 N v0)
 unfold ZfC
 refine ok_ite (fun g0 => ?_) fun g0 => ?_
 ·
  have w1 := kG Zaz L1 ((((0 + (v0 * 9)) + 1) + 2) + 3) v0 6 1 9 <| kB v0 L1.length <| kI (v0 : Int) (Int.ofNat v0) <| hY g0 Zb
  refine ok_ite (fun g1 => ?_) fun g1 => ?_
  ·
   refine oi fun g2 => ?_
   exact okN (Za (oq [1, 3]) [(0, (((v0 + 1) : Nat) : Int))] [(0, v0), (1, v0)] [(2, [.i (L1.getD v0 RK.z).a6]), (4, [.i (L1.getD v0 RK.z).a1, .i (L1.getD v0 RK.z).a2, .i (L1.getD v0 RK.z).a3, .i (L1.getD v0 RK.z).a4, .i (L1.getD v0 RK.z).a5, .i (L1.getD v0 RK.z).a6, .i (L1.getD v0 RK.z).a7, (mc RA (L1.getD v0 RK.z).a8)])] []) [0, 2] [some (vp 0 0), some (vs 2 0 1 1), some (vi (((v0 + 1) : Nat) : Int))] (kW ((v0 : Int) + 1) (((v0 + 1) : Nat) : Int) <| kG Zaz L1 ((0 + (v0 * 9)) + 1) v0 1 8 9 <| kB v0 L1.length <| kI (v0 : Int) (Int.ofNat v0) <| hD g1 w1) (tC (tC (tC (tE)) ⟨Eq.trans (show (vs 1 0 ([(⟨(L1.getD v0 RK.z).a1, (L1.getD v0 RK.z).a2, (L1.getD v0 RK.z).a3, (L1.getD v0 RK.z).a4, (L1.getD v0 RK.z).a5, (L1.getD v0 RK.z).a6, (L1.getD v0 RK.z).a7, (L1.getD v0 RK.z).a8⟩ : RJ)] : List RJ).length ([(⟨(L1.getD v0 RK.z).a1, (L1.getD v0 RK.z).a2, (L1.getD v0 RK.z).a3, (L1.getD v0 RK.z).a4, (L1.getD v0 RK.z).a5, (L1.getD v0 RK.z).a6, (L1.getD v0 RK.z).a7, (L1.getD v0 RK.z).a8⟩ : RJ)] : List RJ).length : Value) = vs 1 0 1 1 from (Z0 rfl eqA eqA)) (by rfl), by rfl⟩)) (bS [vi a0, ms Zaz L1, vn] <| bC (o := .cells [vi (L1.getD v0 RK.z).a1, vi (L1.getD v0 RK.z).a2, vi (L1.getD v0 RK.z).a3, vi (L1.getD v0 RK.z).a4, vi (L1.getD v0 RK.z).a5, vi (L1.getD v0 RK.z).a6, vi (L1.getD v0 RK.z).a7, ms RA (L1.getD v0 RK.z).a8] 97) (Zae (E := RC) _ (L := ([(⟨(L1.getD v0 RK.z).a1, (L1.getD v0 RK.z).a2, (L1.getD v0 RK.z).a3, (L1.getD v0 RK.z).a4, (L1.getD v0 RK.z).a5, (L1.getD v0 RK.z).a6, (L1.getD v0 RK.z).a7, (L1.getD v0 RK.z).a8⟩ : RJ)] : List RJ)) _ (show ([vi (L1.getD v0 RK.z).a1, vi (L1.getD v0 RK.z).a2, vi (L1.getD v0 RK.z).a3, vi (L1.getD v0 RK.z).a4, vi (L1.getD v0 RK.z).a5, vi (L1.getD v0 RK.z).a6, vi (L1.getD v0 RK.z).a7, ms RA (L1.getD v0 RK.z).a8] : List Value) = Zd RC ([(⟨(L1.getD v0 RK.z).a1, (L1.getD v0 RK.z).a2, (L1.getD v0 RK.z).a3, (L1.getD v0 RK.z).a4, (L1.getD v0 RK.z).a5, (L1.getD v0 RK.z).a6, (L1.getD v0 RK.z).a7, (L1.getD v0 RK.z).a8⟩ : RJ)] : List RJ) from rfl)) <| bE) (show 1 ∈ Zj (ZfH 1) from by decide +kernel)
  refine oi fun g2 => ?_
  exact okN (Za (oq [1, 2]) [(0, (((v0 + 1) : Nat) : Int))] [(0, v0)] [(2, [.i (L1.getD v0 RK.z).a6])] []) [0] [some (vp 0 0), some (vn), some (vi (((v0 + 1) : Nat) : Int))] (kW ((v0 : Int) + 1) (((v0 + 1) : Nat) : Int) <| kE ((L1.getD v0 RK.z).a6) 0 w1) (tC (tC (tC (tE)))) (bS [vi a0, ms Zaz L1, vn] <| bE) (show 1 ∈ Zj (ZfH 1) from by decide +kernel)
 exact okF (Za (oq [0]) [] [] [] []) [] (vn) (hN g0 Zb) bE

noncomputable abbrev κbd (v0 : List RJ) := (vs 1 0 v0.length v0.length)
theorem ZmR (v0 : List RJ) (v1 N : Nat) : (ZcH a0 L1 N).Ok Tryz.prog Zg (.h1m1 v0 v1 : ZP) (Zdp a0 L1 N (.h1m1 v0 v1 : ZP)) := by
 show (ZcH a0 L1 N).Ok Tryz.prog Zg (.h1m1 v0 v1 : ZP) (ZfD a0 L1 N v0 v1)
 unfold ZfD
 refine ok_ite (fun g0 => ?_) fun g0 => ?_
 ·
  have w1 := kG Zaz L1 ((((0 + (v1 * 9)) + 1) + 2) + 3) v1 6 1 9 <| kB v1 L1.length <| kI (v1 : Int) (Int.ofNat v1) <| hY g0 Zb
  refine ok_ite (fun g1 => ?_) fun g1 => ?_
  ·
   refine oi fun g2 => ?_
   refine oi fun g3 => ?_
   exact okN (Za (oq [1, 3]) [(0, (((v1 + 1) : Nat) : Int))] [(0, v1), (1, v1)] [(2, [.i (L1.getD v1 RK.z).a6]), (4, [.i (L1.getD v1 RK.z).a1, .i (L1.getD v1 RK.z).a2, .i (L1.getD v1 RK.z).a3, .i (L1.getD v1 RK.z).a4, .i (L1.getD v1 RK.z).a5, .i (L1.getD v1 RK.z).a6, .i (L1.getD v1 RK.z).a7, (mc RA (L1.getD v1 RK.z).a8)])] [(0, .ap 1 [vi (L1.getD v1 RK.z).a1, vi (L1.getD v1 RK.z).a2, vi (L1.getD v1 RK.z).a3, vi (L1.getD v1 RK.z).a4, vi (L1.getD v1 RK.z).a5, vi (L1.getD v1 RK.z).a6, vi (L1.getD v1 RK.z).a7, ms RA (L1.getD v1 RK.z).a8] (Zd RC (v0 ++ ([(⟨(L1.getD v1 RK.z).a1, (L1.getD v1 RK.z).a2, (L1.getD v1 RK.z).a3, (L1.getD v1 RK.z).a4, (L1.getD v1 RK.z).a5, (L1.getD v1 RK.z).a6, (L1.getD v1 RK.z).a7, (L1.getD v1 RK.z).a8⟩ : RJ)] : List RJ))))]) [0, 3] [some (vp 0 0), some (vs 3 0 (v0.length + 1) (v0.length + 1)), some (κw v1)] (kW ((v1 : Int) + 1) (((v1 + 1) : Nat) : Int) <| kA RC v0 (⟨(L1.getD v1 RK.z).a1, (L1.getD v1 RK.z).a2, (L1.getD v1 RK.z).a3, (L1.getD v1 RK.z).a4, (L1.getD v1 RK.z).a5, (L1.getD v1 RK.z).a6, (L1.getD v1 RK.z).a7, (L1.getD v1 RK.z).a8⟩ : RJ) <| kG Zaz L1 ((0 + (v1 * 9)) + 1) v1 1 8 9 <| kB v1 L1.length <| kI (v1 : Int) (Int.ofNat v1) <| hD g1 w1) (tC (tC (tC (tE)) ⟨Eq.trans (show (vs 1 0 (v0 ++ ([(⟨(L1.getD v1 RK.z).a1, (L1.getD v1 RK.z).a2, (L1.getD v1 RK.z).a3, (L1.getD v1 RK.z).a4, (L1.getD v1 RK.z).a5, (L1.getD v1 RK.z).a6, (L1.getD v1 RK.z).a7, (L1.getD v1 RK.z).a8⟩ : RJ)] : List RJ)).length (v0 ++ ([(⟨(L1.getD v1 RK.z).a1, (L1.getD v1 RK.z).a2, (L1.getD v1 RK.z).a3, (L1.getD v1 RK.z).a4, (L1.getD v1 RK.z).a5, (L1.getD v1 RK.z).a6, (L1.getD v1 RK.z).a7, (L1.getD v1 RK.z).a8⟩ : RJ)] : List RJ)).length : Value) = vs 1 0 (v0.length + 1) (v0.length + 1) from (Z0 rfl eqA eqA)) (by rfl), by rfl⟩)) (bS [vi a0, ms Zaz L1, vn] <| bR <| bE) (show 1 ∈ Zj (ZfH 1) from by decide +kernel)
  refine oi fun g2 => ?_
  exact okN (Za (oq [1, 2]) [(0, (((v1 + 1) : Nat) : Int))] [(0, v1)] [(2, [.i (L1.getD v1 RK.z).a6])] []) [0, 1] [some (vp 0 0), some (κbd v0), some (κw v1)] (kW ((v1 : Int) + 1) (((v1 + 1) : Nat) : Int) <| kE ((L1.getD v1 RK.z).a6) 0 w1) (tC (tC (tC (tE)))) (bS [vi a0, ms Zaz L1, vn] <| bR <| bE) (show 1 ∈ Zj (ZfH 1) from by decide +kernel)
 exact okF (Za (oq [0]) [] [] [] []) [1] (κbd v0) (hN g0 Zb) (bR <| bE)

theorem ZpB (N : Nat) : (ZcH a0 L1 N).Enter Tryz.prog Zg #[Value.agg #[vi a0, ms Zaz L1, vn]] (Zhp a0 L1 N) := by
 unfold Zhp
 exact enH (ZcG 1) (Za (oq []) [] [] [] []) [0] [some (vp 0 0), some (vn), some (vq)] Zb (tC (tC (tC (tE) ⟨Eq.trans (show κn = vq from ci) (by rfl), by rfl⟩))) (bS [vi a0, ms Zaz L1, vn] <| bE) (show Zj (ZcG 1).2 = [] from rfl)

theorem ZmS (N : Nat) (r : Zaq) (h : ZeK a0 L1 N = some r) : LSpec Tryz.prog 44 #[Value.agg #[vi a0, ms Zaz L1, vn]] [] (Zkd r) (Zj6 r) :=
 Mach.spec ZB (ZcH a0 L1 N) Tryz.func44 (by kernel_rfl) (by kernel_rfl) (fun x => by cases x <;> exact Zu _ rfl) (fun r => by cases r <;> exact Zu _ rfl) (fun x => by
  cases x with
  | h1m0 _ => exact fun _ => (show ¬ (1 ∈ Zj (ZcG 1).2) from by decide +kernel)
  | h1m1 _ _ => exact fun _ => (show ¬ (1 ∈ Zj (ZcG 1).2) from by decide +kernel)
  ) (fun x => (show (ZcH a0 L1 N).Ok Tryz.prog Zg x (Zdp a0 L1 N x) from by
  cases x with
  | h1m0 v0 => exact ZmQ a0 L1 v0 N
  | h1m1 v0 v1 => exact ZmR a0 L1 v0 v1 N
  )) (ZpB a0 L1 N) (n := N) h

theorem ZnB (N : Nat) (r : Zaq) (h : ZeK a0 L1 N = some r) : LSpec Tryz.prog 44 #[Value.agg #[vi a0, ms Zaz L1, vn]] [] (Zlg r) (Zke r) := by
 have h0 := ZmS a0 L1 N r h
 cases r with
 | r0 => exact (LSpec.nlv (v2 := ms RC ([] : List RJ)) h0 rfl rfl)
 | r1 w0 => exact (LSpec.frzv (E := RC) (L := w0) (post := []) (v2 := ms RC w0) h0 (show 0 ≤ 0 from by decide) (show 0 < 1000000000 from by decide) trivial rfl rfl rfl)

end
theorem ZbZ {a0 : Int} {L1 : List RK} {N : Nat} {r : Zaq} (h : ZeK a0 L1 N = some r) : LSpec Tryz.prog 44 #[Value.agg #[vi a0, ms Zaz L1, vn]] [] (Zlg r) (Zke r) := ZnB a0 L1 N r h

noncomputable def Zrz : Za9 → Value
 | .r0 w1 => Value.tuple #[Value.agg #[vn, vn, vn], vi w1]
 | .r1 w1 => Value.tuple #[Value.agg #[vn, vn, ms RC w1], vq]
 | .r2 w1 w2 w3 => Value.tuple #[Value.agg #[vs 1 0 w1.length w1.length, vs 2 0 w2.length w2.length, ms RC w3], vq]
section
variable (L0 : List (List RI))
noncomputable abbrev κo := (AObj.cells (Zd (ZR RB) L0) 26)
noncomputable def ZpC : Za9 → List (Option AObj)
 | .r0 w1 => [some (κo L0)]
 | .r1 w1 => [some (κo L0)]
 | .r2 w1 w2 w3 => [some (κo L0), some (.cells (Zd (ZR RB) w1) 26), some (.cells (Zd RE w2) 65)]

noncomputable def Z0E : Za9 → Value
 | .r0 w1 => Value.tuple #[Value.agg #[ms (ZR RB) ([] : List (List RI)), ms RE ([] : List RL), ms RC ([] : List RJ)], vi w1]
 | .r1 w1 => Value.tuple #[Value.agg #[ms (ZR RB) ([] : List (List RI)), ms RE ([] : List RL), ms RC w1], vq]
 | .r2 w1 w2 w3 => Value.tuple #[Value.agg #[ms (ZR RB) w1, ms RE w2, ms RC w3], vq]
noncomputable def Zzb : Za9 → List (Option AObj)
 | .r0 w1 => [some (κo L0)]
 | .r1 w1 => [some (κo L0)]
 | .r2 w1 w2 w3 => [some (κo L0)]

def Zzc : ZaS → Nat
 | .h1m0 => 1
 | .h1m1 v1 v2 v3 => 1
noncomputable abbrev κbg := (0, vs 0 0 L0.length L0.length)
noncomputable def Z0F : ZaS → List (Nat × Value)
 | .h1m0 => [(κbg L0), (2, vp 1 0), (4, vp 2 0), (5, vq)]
 | .h1m1 v1 v2 v3 => [(κbg L0), (2, vp 1 0), (4, vp 2 0), (5, vi (v1 : Int))]
noncomputable abbrev κ5 := (AObj.cells [vn, vn, vn] 34)
noncomputable def Z0G : ZaS → List (Option AObj)
 | .h1m0 => [some (κo L0), some κ5, some κ5]
 | .h1m1 v1 v2 v3 => [some (κo L0), some κ5, some (.cells [vs 3 0 v2.length v2.length, vs 4 0 v3.length v3.length, vn] 34), some (.cells (Zd (ZR RB) v2) 26), some (.cells (Zd RE v3) 65)]

noncomputable def ZfI : Nat → Code × List ZD
 | 1 => ZX [1, 1, 1, 0, 1, 3] (Zaw Tryz.f13) []
 | _ => (.skip, [])
def Zr0 : Nat → Bool
 | 1 => true
 | _ => true
noncomputable def Zt1 (i : Nat) : List ZD := match Zr0 i with | true => .rnd i :: (ZfI i).2 | false => (ZfI i).2

noncomputable abbrev κW := [AObj.cells (Zd (ZR RB) L0) 26]
noncomputable def ZfJ (N : Nat) : Mach := ⟨Tryz.f13, (κW L0), ZaS, Za9, Ze0 L0 N, Zzc, ZfI, Zr0, Z0F L0, Z0G L0, Zrz, ZpC L0⟩

noncomputable abbrev κbk := (Zd RE ([(⟨0, 0, 0, 1, 0, 1, 0, 1, 0, 1, 0, 1, 0, 1, 0, 1, 0, 1, 0, ([] : List RG)⟩ : RL)] : List RL))
noncomputable abbrev κR := (vs 0 0 L0.length L0.length)
noncomputable abbrev κg := [vq, vq, vq, vi 1, vq, vi 1, vq, vi 1, vq, vi 1, vq, vi 1, vq, vi 1, vq, vi 1, vq, vi 1, vq, vn]
theorem Zt2 (N : Nat) : (ZfJ L0 N).Ok Tryz.prog Zg (.h1m0 : ZaS) (Ze0 L0 N (.h1m0 : ZaS)) := by
 show (ZfJ L0 N).Ok Tryz.prog Zg (.h1m0 : ZaS) (Zfm L0 N)
 unfold Zfm
 refine ok_ite (fun g0 => ?_) fun g0 => ?_
 ·
  have w1 := kLn (ZR RB) L0 0 0 1 <| kB 0 L0.length <| kI 0 (Int.ofNat 0) <| hY g0 Zb
  refine ok_bind fun z1 c1 => ?_
  cases z1 with
  | r0 y1_0 =>
   refine ok_ite (fun g2 => ?_) fun g2 => ?_
   ·
    exact okF (Za (oq [1, 3]) [] [(0, 0)] [(0, [(mc RB (L0.getD 0 []))])] [(0, (tP (Zb2 c1)).t)]) [0] (Value.tuple #[Value.agg #[vn, vn, vn], vi y1_0]) (hD g2 <| kK (tQ (Zb2 c1) 3) w1) (bR <| bE)
   refine oi fun g3 => ?_
   refine oi fun g4 => ?_
   exact okN (Za (oq [1, 2]) [] [(0, 0), (1, 0)] [(0, [(mc RB (L0.getD 0 []))]), (2, [(mc RB (L0.getD 0 []))])] [(0, (tP (Zb2 c1)).t), (1, .apz (L0.getD 0 []).length (Zd RB (L0.getD 0 [])) (Zd RB (L0.getD 0 [])) (Zak RB (L0.getD 0 []))), (21, .apn 1 κg κg κbk)]) [0, 1, 2, 6, 18] [some (κR L0), some (vp 1 0), some (vp 2 0), some (vi 1)] (kX (dP (List.map (nlV 0) κg = κbk)) true (Z1 (Z31 (E := RE) (x := (⟨0, 0, 0, 1, 0, 1, 0, 1, 0, 1, 0, 1, 0, 1, 0, 1, 0, 1, 0, ([] : List RG)⟩ : RL)) rfl)) <| kX (dP ((1 = 1 ∧ ZO (1 * 20) (List.drop 0 κg) = some κg ∧ Z5 Zbw κg = true) ∧ 0 < 1 ∧ 1 ≤ 100000 ∧ κg = κg)) true (Z1 ⟨⟨rfl, ⟨rfl, rfl⟩⟩, by omega, by omega, rfl⟩) <| kX (dP ((0 + (L0.getD 0 []).length) = (L0.getD 0 []).length ∧ (0 + (L0.getD 0 []).length) = (L0.getD 0 []).length ∧ (Zd RB (L0.getD 0 [])) = Zw (Zak RB (L0.getD 0 [])))) true (Z1 ⟨by omega, by omega, Zir _⟩) <| kX (dP (((L0.getD 0 []).length = (L0.getD 0 []).length ∧ (((L0.getD 0 []).length * 4 = 0 ∧ (Zd RB (L0.getD 0 [])) = []) ∨ ∃ c, (L0.getD 0 []).length * 4 ≠ 0 ∧ Zay (code (Zak RB (L0.getD 0 []))) 0 ((L0.getD 0 []).length * 4) = some c ∧ (Zd RB (L0.getD 0 [])) = Zw c)) ∧ 0 < (L0.getD 0 []).length ∧ (L0.getD 0 []).length ≤ 100000 ∧ 0 < 0 + (L0.getD 0 []).length ∧ 0 ≤ 100000 ∧ 0 * 4 ≤ (List.length []) ∧ List.take (0 * 4) [] ++ (Zd RB (L0.getD 0 [])) = (Zd RB (L0.getD 0 [])))) true (Z1 ⟨⟨rfl, (ZdE (E := RB) (L := (L0.getD 0 [])) (n := (L0.getD 0 []).length) (size := 4) rfl (by decide) (by omega))⟩, by omega, by omega, ltA, by omega, (Zbf (E := RB) (L := ([] : List RI)) (M := (L0.getD 0 [])) (n := 0) (show _ = _ * 4 from rfl) ltA (R := (L0.getD 0 [])) (by rw [List.take_of_length_le ltA]; rfl))⟩) <| kLn (ZR RB) L0 0 0 1 <| kB 0 L0.length <| kI 0 (Int.ofNat 0) <| kE y1_0 0 <| kK (tQ (Zb2 c1) 3) w1) (tC (tC (tC (tC (tE) ⟨Eq.trans (show κP = vi 1 from ci) (by rfl), by rfl⟩)))) (bR <| bS [vn, vn, vn] <| bU2 [vs 6 0 1 1, vs 18 0 1 1, vn] 0 (show (vs 3 0 1 1 : Value) = vs 3 0 ([(L0.getD 0 [])] : List (List RI)).length ([(L0.getD 0 [])] : List (List RI)).length from Z0 rfl eqA eqA) 1 (show (vs 4 0 1 1 : Value) = vs 4 0 ([(⟨0, 0, 0, 1, 0, 1, 0, 1, 0, 1, 0, 1, 0, 1, 0, 1, 0, 1, 0, ([] : List RG)⟩ : RL)] : List RL).length ([(⟨0, 0, 0, 1, 0, 1, 0, 1, 0, 1, 0, 1, 0, 1, 0, 1, 0, 1, 0, ([] : List RG)⟩ : RL)] : List RL).length from Z0 rfl eqA eqA) <| bC (o := .cells [ms RB (L0.getD 0 [])] 26) (Zae (E := (ZR RB)) _ (L := ([(L0.getD 0 [])] : List (List RI))) _ (show ([ms RB (L0.getD 0 [])] : List Value) = Zd (ZR RB) ([(L0.getD 0 [])] : List (List RI)) from rfl)) <| bR <| bE) (show 1 ∈ Zj (Zt1 1) from by decide +kernel)
 refine ok_bind fun z1 c1 => ?_
 cases z1 with
 | r0 =>
  refine ok_bind fun z2 c2 => ?_
  cases z2 with
  | r0 =>
   exact okF (Za (oq [0]) [] [] [] [(0, (tP (Zcs c1)).t), (2, (tP (Zgp c2)).t)]) [0] (Value.tuple #[Value.agg #[vn, vn, ms RC ([] : List RJ)], vq]) (kK (tQ (Zgp c2) 4) <| kK (tQ (Zcs c1) 3) <| hN g0 Zb) (bR <| bE)
 | r1 y1_0 =>
  refine ok_bind fun z2 c2 => ?_
  cases z2 with
  | r0 =>
   exact okF (Za (oq [0]) [] [] [] [(0, (tP (Zcs c1)).t), (2, (tP (ZbZ c2)).t)]) [0] (Value.tuple #[Value.agg #[vn, vn, ms RC ([] : List RJ)], vq]) (kK (tQ (ZbZ c2) 4) <| kK (tQ (Zcs c1) 3) <| hN g0 Zb) (bR <| bE)
  | r1 y2_0 =>
   exact okF (Za (oq [0]) [] [] [] [(0, (tP (Zcs c1)).t), (2, (tP (ZbZ c2)).t)]) [0] (Value.tuple #[Value.agg #[vn, vn, ms RC y2_0], vq]) (kK (tQ (ZbZ c2) 4) <| kK (tQ (Zcs c1) 3) <| hN g0 Zb) (bR <| bE)

noncomputable abbrev κbj (v3 : List RL) := (Zd RE (v3 ++ ([(⟨0, 0, 0, 1, 0, 1, 0, 1, 0, 1, 0, 1, 0, 1, 0, 1, 0, 1, 0, ([] : List RG)⟩ : RL)] : List RL)))
theorem Zt3 (v1 : Nat) (v2 : List (List RI)) (v3 : List RL) (N : Nat) : (ZfJ L0 N).Ok Tryz.prog Zg (.h1m1 v1 v2 v3 : ZaS) (Ze0 L0 N (.h1m1 v1 v2 v3 : ZaS)) := by
 show (ZfJ L0 N).Ok Tryz.prog Zg (.h1m1 v1 v2 v3 : ZaS) (ZiV L0 N v1 v2 v3)
 unfold ZiV
 refine ok_ite (fun g0 => ?_) fun g0 => ?_
 ·
  have w1 := kLn (ZR RB) L0 v1 0 1 <| kB v1 L0.length <| kI (v1 : Int) (Int.ofNat v1) <| hY g0 Zb
  refine ok_bind fun z1 c1 => ?_
  cases z1 with
  | r0 y1_0 =>
   refine ok_ite (fun g2 => ?_) fun g2 => ?_
   ·
    exact okF (Za (oq [1, 3]) [] [(0, v1)] [(0, [(mc RB (L0.getD v1 []))])] [(0, (tP (Zb2 c1)).t)]) [0] (Value.tuple #[Value.agg #[vn, vn, vn], vi y1_0]) (hD g2 <| kK (tQ (Zb2 c1) 5) w1) (bR <| bE)
   refine oi fun g3 => ?_
   refine oi fun g4 => ?_
   refine oi fun g5 => ?_
   refine oi fun g6 => ?_
   refine oi fun g7 => ?_
   exact okN (Za (oq [1, 2]) [(8, (((v1 + 1) : Nat) : Int))] [(0, v1), (1, v1)] [(0, [(mc RB (L0.getD v1 []))]), (2, [(mc RB (L0.getD v1 []))])] [(0, (tP (Zb2 c1)).t), (1, .apz (L0.getD v1 []).length (Zd RB (L0.getD v1 [])) (Zd RB (L0.getD v1 [])) (Zak RB (L0.getD v1 []))), (2, .ap 1 [ms RB (L0.getD v1 [])] (Zd (ZR RB) (v2 ++ ([(L0.getD v1 [])] : List (List RI))))), (21, .apn 1 κg (Zd RE v3 ++ κg) (κbj v3))]) [0, 1, 2, 8, 20] [some (κR L0), some (vp 1 0), some (vp 2 0), some (κw v1)] (kW ((v1 : Int) + 1) (((v1 + 1) : Nat) : Int) <| kX (dP (List.map (nlV 0) (Zd RE v3 ++ κg) = (κbj v3))) true (Z1 (Z30 (E := RE) (fun _ => rfl) (L := v3) (x := (⟨0, 0, 0, 1, 0, 1, 0, 1, 0, 1, 0, 1, 0, 1, 0, 1, 0, 1, 0, ([] : List RG)⟩ : RL)) rfl)) <| kX (dP ((1 = 1 ∧ ZO (1 * 20) (List.drop 0 κg) = some κg ∧ Z5 Zbw κg = true) ∧ 0 < 1 ∧ 1 ≤ 100000 ∧ v3.length < v3.length + 1 ∧ v3.length ≤ 100000 ∧ v3.length * 20 ≤ (List.length (Zd RE v3)) ∧ List.take (v3.length * 20) (Zd RE v3) ++ κg = (Zd RE v3 ++ κg))) true (Z1 ⟨⟨rfl, ⟨rfl, rfl⟩⟩, by omega, by omega, ltA, by omega, (Z32 (E := RE) (L := v3) (L0 := v3) (l := κg) (n := v3.length) (show _ = _ * 20 from rfl) (by omega) (List.take_of_length_le (by omega)))⟩) <| kA (ZR RB) v2 (L0.getD v1 []) <| kX (dP ((0 + (L0.getD v1 []).length) = (L0.getD v1 []).length ∧ (0 + (L0.getD v1 []).length) = (L0.getD v1 []).length ∧ (Zd RB (L0.getD v1 [])) = Zw (Zak RB (L0.getD v1 [])))) true (Z1 ⟨by omega, by omega, Zir _⟩) <| kX (dP (((L0.getD v1 []).length = (L0.getD v1 []).length ∧ (((L0.getD v1 []).length * 4 = 0 ∧ (Zd RB (L0.getD v1 [])) = []) ∨ ∃ c, (L0.getD v1 []).length * 4 ≠ 0 ∧ Zay (code (Zak RB (L0.getD v1 []))) 0 ((L0.getD v1 []).length * 4) = some c ∧ (Zd RB (L0.getD v1 [])) = Zw c)) ∧ 0 < (L0.getD v1 []).length ∧ (L0.getD v1 []).length ≤ 100000 ∧ 0 < 0 + (L0.getD v1 []).length ∧ 0 ≤ 100000 ∧ 0 * 4 ≤ (List.length []) ∧ List.take (0 * 4) [] ++ (Zd RB (L0.getD v1 [])) = (Zd RB (L0.getD v1 [])))) true (Z1 ⟨⟨rfl, (ZdE (E := RB) (L := (L0.getD v1 [])) (n := (L0.getD v1 []).length) (size := 4) rfl (by decide) (by omega))⟩, by omega, by omega, ltA, by omega, (Zbf (E := RB) (L := ([] : List RI)) (M := (L0.getD v1 [])) (n := 0) (show _ = _ * 4 from rfl) ltA (R := (L0.getD v1 [])) (by rw [List.take_of_length_le ltA]; rfl))⟩) <| kLn (ZR RB) L0 v1 0 1 <| kB v1 L0.length <| kI (v1 : Int) (Int.ofNat v1) <| kE y1_0 0 <| kK (tQ (Zb2 c1) 5) w1) (tC (tC (tC (tC (tE))))) (bR <| bS [vn, vn, vn] <| bU2 [vs 8 0 (v2.length + 1) (v2.length + 1), vs 20 0 (v3.length + 1) (v3.length + 1), vn] 0 (show (vs 3 0 (v2.length + 1) (v2.length + 1) : Value) = vs 3 0 (v2 ++ ([(L0.getD v1 [])] : List (List RI))).length (v2 ++ ([(L0.getD v1 [])] : List (List RI))).length from Z0 rfl eqA eqA) 1 (show (vs 4 0 (v3.length + 1) (v3.length + 1) : Value) = vs 4 0 (v3 ++ ([(⟨0, 0, 0, 1, 0, 1, 0, 1, 0, 1, 0, 1, 0, 1, 0, 1, 0, 1, 0, ([] : List RG)⟩ : RL)] : List RL)).length (v3 ++ ([(⟨0, 0, 0, 1, 0, 1, 0, 1, 0, 1, 0, 1, 0, 1, 0, 1, 0, 1, 0, ([] : List RG)⟩ : RL)] : List RL)).length from Z0 rfl eqA eqA) <| bR <| bR <| bE) (show 1 ∈ Zj (Zt1 1) from by decide +kernel)
 refine ok_bind fun z1 c1 => ?_
 cases z1 with
 | r0 =>
  refine ok_bind fun z2 c2 => ?_
  cases z2 with
  | r0 =>
   exact okF (Za (oq [0]) [] [] [] [(0, (tP (Zcs c1)).t), (2, (tP (Zgp c2)).t)]) [0, 3, 4] (Value.tuple #[Value.agg #[vs 3 0 v2.length v2.length, vs 4 0 v3.length v3.length, ms RC ([] : List RJ)], vq]) (kK (tQ (Zgp c2) 6) <| kK (tQ (Zcs c1) 5) <| hN g0 Zb) (bR <| bR <| bR <| bE)
 | r1 y1_0 =>
  refine ok_bind fun z2 c2 => ?_
  cases z2 with
  | r0 =>
   exact okF (Za (oq [0]) [] [] [] [(0, (tP (Zcs c1)).t), (2, (tP (ZbZ c2)).t)]) [0, 3, 4] (Value.tuple #[Value.agg #[vs 3 0 v2.length v2.length, vs 4 0 v3.length v3.length, ms RC ([] : List RJ)], vq]) (kK (tQ (ZbZ c2) 6) <| kK (tQ (Zcs c1) 5) <| hN g0 Zb) (bR <| bR <| bR <| bE)
  | r1 y2_0 =>
   exact okF (Za (oq [0]) [] [] [] [(0, (tP (Zcs c1)).t), (2, (tP (ZbZ c2)).t)]) [0, 3, 4] (Value.tuple #[Value.agg #[vs 3 0 v2.length v2.length, vs 4 0 v3.length v3.length, ms RC y2_0], vq]) (kK (tQ (ZbZ c2) 6) <| kK (tQ (Zcs c1) 5) <| hN g0 Zb) (bR <| bR <| bR <| bE)

theorem ZxR (N : Nat) : (ZfJ L0 N).Enter Tryz.prog Zg #[vs 0 0 L0.length L0.length] (Zmf L0 N) := by
 unfold Zmf
 refine en_ite (fun g0 => ?_) (fun g0 => ?_)
 ·
  exact enF (Za (oq [1]) [] [] [] []) [0] (Value.tuple #[Value.agg #[vn, vn, vn], vi 1]) (hY g0 Zb) (bR <| bE)
 refine en_ite (fun g1 => ?_) (fun g1 => ?_)
 ·
  exact enF (Za (oq [0, 3]) [] [] [] []) [0] (Value.tuple #[Value.agg #[vn, vn, vn], vi 1]) (kY ((L0.length : Int) > 64) <| hN g0 Zb) (bR <| bE)
 exact enH (ZfI 1) (Za (oq [0, 2]) [] [] [] []) [0, 1, 2] [some (κR L0), some (vp 1 0), some (vp 2 0), some (vq)] (kN ((L0.length : Int) > 64) <| hN g0 Zb) (tC (tC (tC (tC (tE))))) (bR <| bS [vn, vn, vn] <| bS [vn, vn, vn] <| bE) (show Zj (ZfI 1).2 = [] from rfl)

theorem Zt4 (N : Nat) (r : Za9) (h : Zg8 L0 N = some r) : LSpec Tryz.prog 13 #[vs 0 0 L0.length L0.length] (κW L0) (Zrz r) (ZpC L0 r) :=
 Mach.spec ZB (ZfJ L0 N) Tryz.func13 (by kernel_rfl) (by kernel_rfl) (fun x => by cases x <;> exact Zu _ rfl) (fun r => by cases r <;> exact Zu _ rfl) (fun x => by
  cases x with
  | h1m0 => exact fun _ => (show ¬ (1 ∈ Zj (ZfI 1).2) from by decide +kernel)
  | h1m1 _ _ _ => exact fun _ => (show ¬ (1 ∈ Zj (ZfI 1).2) from by decide +kernel)
  ) (fun x => (show (ZfJ L0 N).Ok Tryz.prog Zg x (Ze0 L0 N x) from by
  cases x with
  | h1m0 => exact Zt2 L0 N
  | h1m1 v1 v2 v3 => exact Zt3 L0 v1 v2 v3 N
  )) (ZxR L0 N) (n := N) h

theorem Zu4 (N : Nat) (r : Za9) (h : Zg8 L0 N = some r) : LSpec Tryz.prog 13 #[vs 0 0 L0.length L0.length] (κW L0) (Z0E r) (Zzb L0 r) := by
 have h0 := Zt4 L0 N r h
 cases r with
 | r0 w1 => exact (LSpec.nlv (v2 := Value.tuple #[Value.agg #[ms (ZR RB) ([] : List (List RI)), ms RE ([] : List RL), ms RC ([] : List RJ)], vi w1]) h0 rfl rfl)
 | r1 w1 => exact (LSpec.nlv (v2 := Value.tuple #[Value.agg #[ms (ZR RB) ([] : List (List RI)), ms RE ([] : List RL), ms RC w1], vq]) h0 rfl rfl)
 | r2 w1 w2 w3 => exact (LSpec.frzv (E := (ZR RB)) (L := w1) (post := [some (κo L0)]) (v2 := Value.tuple #[Value.agg #[ms (ZR RB) w1, ms RE w2, ms RC w3], vq]) (LSpec.frzv (E := RE) (L := w2) (post := [some (κo L0), some (.cells (Zd (ZR RB) w1) 26)]) (v2 := Value.tuple #[Value.agg #[vs 1 0 w1.length w1.length, ms RE w2, ms RC w3], vq]) h0 (show 1 ≤ 2 from by decide) (show 2 < 1000000000 from by decide) ⟨(Zdj _ _ _), ⟨(Zdj _ _ _), trivial⟩⟩ rfl rfl rfl) (show 1 ≤ 1 from by decide) (show 1 < 1000000000 from by decide) ⟨(Zdj _ _ _), trivial⟩ rfl rfl rfl)

end
noncomputable abbrev κbe (ks : List Nat) (L0 : List (List RI)) := [((nth ks 0), AObj.cells (Zd (ZR RB) L0) 26)]
noncomputable abbrev κX (w1 : List (List RI)) (w2 : List RL) (w3 : List RJ) := #[ms (ZR RB) w1, ms RE w2, ms RC w3]
noncomputable def Zr1 {L0 w1 : List (List RI)} {w2 : List RL} {w3 : List RJ} {N : Nat} (h : Zg8 L0 N = some (.r2 w1 w2 w3)) (ks : List Nat) (n : Nat) : ToldS := ⟨#[vs (nth ks 0) 0 L0.length L0.length], (κbe ks L0), Value.tuple #[Value.agg (κX w1 w2 w3), vq], [], 0⟩

theorem Zzd {L0 w1 : List (List RI)} {w2 : List RL} {w3 : List RJ} {N : Nat} (h : Zg8 L0 N = some (.r2 w1 w2 w3)) (ks : List Nat) (n : Nat) (hk : ks.length = 1 := by rfl) (hnd : ks.Nodup := by decide +kernel) (hlt : ∀ k ∈ ks, k < n := by decide +kernel) : (Zr1 (N := N)  h ks n).P Tryz.prog 13 n :=
 match ks, hk, hnd, hlt with
 | [k0], _, hnd, hlt => ZcO (show LSpec Tryz.prog 13 #[vs 0 0 L0.length L0.length] (κW L0) (Value.tuple #[Value.agg (κX w1 w2 w3), vq]) [some (κo L0)] from Zu4 L0 N _ h) _ n [] hnd hlt

noncomputable def Zml : ZdZ → Value
 | .r0 w0 w1 w2 => Value.tuple #[Value.agg #[vi w0, vi w1], Value.bool w2]
noncomputable def Zlh : ZdZ → List (Option AObj)
 | .r0 w0 w1 w2 => []

section
variable (L0 : List RG) (a1 a2 a3 a4 : Int) (N : Nat)
theorem ZvR : Fx Tryz.prog Zg Tryz.f78 [] #[Value.agg (List.toArray (rv8 L0)), Value.agg #[vi a1, vi a2, vi a3, vi a4]] (Zml) (Zlh) (ZcA L0 a1 a2 a3 a4 N) := by
 unfold ZcA
 refine Ze (fun g0 => ?_) (fun g0 => ?_)
 ·
  exact fxC (Za (oq [1]) [] [] [] []) [] (Value.tuple #[Value.agg #[vq, vq], vf]) (hD g0 Zb) bE
 refine Zz (fun z1 c1 => ?_)
 cases z1 with
 | r0 y1_0 =>
  refine Ze (fun g2 => ?_) (fun g2 => ?_)
  ·
   exact fxC (Za (oq [0, 3]) [] [] [] [(0, (tP (ZE c1)).t)]) [] (Value.tuple #[Value.agg #[vq, vq], vf]) (kX ((!y1_0)) true nbt <| kK (tQ (ZE c1) 3) <| kE a1 19 Zb) bE
  refine Ze (fun g3 => ?_) (fun _ => Zq)
  refine Ze (fun g4 => ?_) (fun _ => Zq)
  exact fxC (Za (oq [0, 2]) [] [(0, a2.toNat)] [(3, [.i (((e8 L0) : List RG).getD a2.toNat RG.z).a0, .i (((e8 L0) : List RG).getD a2.toNat RG.z).a1])] [(0, (tP (ZE c1)).t)]) [] (Value.tuple #[Value.agg #[vi (((e8 L0) : List RG).getD a2.toNat RG.z).a0, vi (((e8 L0) : List RG).getD a2.toNat RG.z).a1], vT]) (kLn RA ((e8 L0) : List RG) (a2.toNat) 0 2 <| kB a2.toNat 8 <| kI a2 (Int.ofNat a2.toNat) <| kX ((!y1_0)) false nbf <| kK (tQ (ZE c1) 3) <| kE a1 19 Zb) bE

theorem Zt5 (r : ZdZ) (h : ZcA L0 a1 a2 a3 a4 N = some r) : LSpec Tryz.prog 78 #[Value.agg (List.toArray (rv8 L0)), Value.agg #[vi a1, vi a2, vi a3, vi a4]] [] (Zml r) (Zlh r) :=
 Zax ZB Tryz.func78 (by kernel_rfl) (by kernel_rfl) (fun r => by cases r <;> exact Zu _ rfl) (ZvR L0 a1 a2 a3 a4 N) h

end
theorem Z2 {L0 : List RG} {a1 a2 a3 a4 : Int} {N : Nat} {r : ZdZ} (h : ZcA L0 a1 a2 a3 a4 N = some r) : LSpec Tryz.prog 78 #[Value.agg (List.toArray (rv8 L0)), Value.agg #[vi a1, vi a2, vi a3, vi a4]] [] (Zml r) (Zlh r) := Zt5 L0 a1 a2 a3 a4 N r h

set_option linter.unusedVariables false
set_option maxRecDepth 100000
noncomputable def Zmm : ZaT → Value
 | .r0 w0 w1 w2 => Value.tuple #[Value.agg #[vi w0, vi w1], vi w2]
noncomputable def Zli : ZaT → List (Option AObj)
 | .r0 w0 w1 w2 => []

noncomputable abbrev κba := (Value.tuple #[Value.agg #[vq, vq], vi 10])
theorem ZvS (L0 : List RG) (a1 a2 a3 a4 a5 a6 : Int) (N : Nat) : Fx Tryz.prog Zg Tryz.f106 [] #[Value.agg (List.toArray (rv8 L0)), Value.agg #[vi a1, vi a2, vi a3, vi a4], Value.agg #[vi a5, vi a6]] (Zmm) (Zli) (Zha L0 a1 a2 a3 a4 a5 a6 N) := by
 unfold Zha
 refine Ze (fun g0 => ?_) (fun g0 => ?_)
 ·
  exact fxC (Za (oq [1]) [] [] [] []) [] (Value.tuple #[Value.agg #[vi 1, vi a3], vq]) (hT g0 Zb) bE
 refine Ze (fun _ => Zq) (fun g1 => ?_)
 refine Ze (fun _ => Zq) (fun g2 => ?_)
 have w3 := hF g2 <| hF g1 <| hF g0 Zb
 refine Ze (fun g3 => ?_) (fun g3 => ?_)
 ·
  refine Ze (fun g4 => ?_) (fun _ => Zq)
  refine Ze (fun g5 => ?_) (fun _ => Zq)
  have w6 := kLn RA ((e8 L0) : List RG) (a3.toNat) 0 2 <| kB a3.toNat 8 <| kI a3 (Int.ofNat a3.toNat) <| hT g3 w3
  refine Ze (fun g6 => ?_) (fun _ => Zq)
  refine Ze (fun g7 => ?_) (fun _ => Zq)
  have w8 := kLn RA ((e8 L0) : List RG) (a4.toNat) 0 2 <| kB a4.toNat 8 <| kI a4 (Int.ofNat a4.toNat) w6
  refine Ze (fun g8 => ?_) (fun g8 => ?_)
  ·
   refine Ze (fun g9 => ?_) (fun g9 => ?_)
   ·
    exact fxC (Za (oq [0, 2, 4, 7, 9, 11]) [] [(0, a3.toNat), (1, a4.toNat)] [(2, [.i (((e8 L0) : List RG).getD a3.toNat RG.z).a0, .i (((e8 L0) : List RG).getD a3.toNat RG.z).a1]), (4, [.i (((e8 L0) : List RG).getD a4.toNat RG.z).a0, .i (((e8 L0) : List RG).getD a4.toNat RG.z).a1])] []) [] (Value.tuple #[Value.agg #[vi 1, vi (IntKind.i64.wrap ((((e8 L0) : List RG).getD a3.toNat RG.z).a1 + (((e8 L0) : List RG).getD a4.toNat RG.z).a1))], vq]) (hT g9 <| hT g8 w8) bE
   exact fxC (Za (oq [0, 2, 4, 7, 9, 10]) [] [(0, a3.toNat), (1, a4.toNat)] [(2, [.i (((e8 L0) : List RG).getD a3.toNat RG.z).a0, .i (((e8 L0) : List RG).getD a3.toNat RG.z).a1]), (4, [.i (((e8 L0) : List RG).getD a4.toNat RG.z).a0, .i (((e8 L0) : List RG).getD a4.toNat RG.z).a1])] []) [] κba (hF g9 <| hT g8 w8) bE
  exact fxC (Za (oq [0, 2, 4, 7, 8]) [] [(0, a3.toNat), (1, a4.toNat)] [(2, [.i (((e8 L0) : List RG).getD a3.toNat RG.z).a0, .i (((e8 L0) : List RG).getD a3.toNat RG.z).a1]), (4, [.i (((e8 L0) : List RG).getD a4.toNat RG.z).a0, .i (((e8 L0) : List RG).getD a4.toNat RG.z).a1])] []) [] κba (hF g8 w8) bE
 refine Ze (fun g4 => ?_) (fun g4 => ?_)
 ·
  refine Ze (fun g5 => ?_) (fun _ => Zq)
  refine Ze (fun g6 => ?_) (fun _ => Zq)
  have w7 := kLn RA ((e8 L0) : List RG) (a3.toNat) 0 2 <| kB a3.toNat 8 <| kI a3 (Int.ofNat a3.toNat) <| hT g4 <| hF g3 w3
  refine Ze (fun g7 => ?_) (fun _ => Zq)
  refine Ze (fun g8 => ?_) (fun _ => Zq)
  have w9 := kLn RA ((e8 L0) : List RG) (a4.toNat) 0 2 <| kB a4.toNat 8 <| kI a4 (Int.ofNat a4.toNat) w7
  refine Ze (fun g9 => ?_) (fun g9 => ?_)
  ·
   refine Ze (fun g10 => ?_) (fun g10 => ?_)
   ·
    exact fxC (Za (oq [0, 2, 4, 6, 9, 11, 13]) [] [(0, a3.toNat), (1, a4.toNat)] [(2, [.i (((e8 L0) : List RG).getD a3.toNat RG.z).a0, .i (((e8 L0) : List RG).getD a3.toNat RG.z).a1]), (4, [.i (((e8 L0) : List RG).getD a4.toNat RG.z).a0, .i (((e8 L0) : List RG).getD a4.toNat RG.z).a1])] []) [] (Value.tuple #[Value.agg #[vi 1, vi (IntKind.i64.wrap ((((e8 L0) : List RG).getD a3.toNat RG.z).a1 - (((e8 L0) : List RG).getD a4.toNat RG.z).a1))], vq]) (hT g10 <| hT g9 w9) bE
   exact fxC (Za (oq [0, 2, 4, 6, 9, 11, 12]) [] [(0, a3.toNat), (1, a4.toNat)] [(2, [.i (((e8 L0) : List RG).getD a3.toNat RG.z).a0, .i (((e8 L0) : List RG).getD a3.toNat RG.z).a1]), (4, [.i (((e8 L0) : List RG).getD a4.toNat RG.z).a0, .i (((e8 L0) : List RG).getD a4.toNat RG.z).a1])] []) [] κba (hF g10 <| hT g9 w9) bE
  exact fxC (Za (oq [0, 2, 4, 6, 9, 10]) [] [(0, a3.toNat), (1, a4.toNat)] [(2, [.i (((e8 L0) : List RG).getD a3.toNat RG.z).a0, .i (((e8 L0) : List RG).getD a3.toNat RG.z).a1]), (4, [.i (((e8 L0) : List RG).getD a4.toNat RG.z).a0, .i (((e8 L0) : List RG).getD a4.toNat RG.z).a1])] []) [] κba (hF g9 w9) bE
 refine Ze (fun g5 => ?_) (fun g5 => ?_)
 ·
  refine Ze (fun g6 => ?_) (fun _ => Zq)
  refine Ze (fun g7 => ?_) (fun _ => Zq)
  have w8 := kLn RA ((e8 L0) : List RG) (a3.toNat) 0 2 <| kB a3.toNat 8 <| kI a3 (Int.ofNat a3.toNat) <| hT g5 <| hF g4 <| hF g3 w3
  refine Ze (fun g8 => ?_) (fun _ => Zq)
  refine Ze (fun g9 => ?_) (fun _ => Zq)
  have w10 := kLn RA ((e8 L0) : List RG) (a4.toNat) 0 2 <| kB a4.toNat 8 <| kI a4 (Int.ofNat a4.toNat) w8
  refine Ze (fun g10 => ?_) (fun g10 => ?_)
  ·
   refine Ze (fun g11 => ?_) (fun g11 => ?_)
   ·
    refine Ze (fun g12 => ?_) (fun g12 => ?_)
    ·
     exact fxC (Za (oq [0, 2, 4, 6, 8, 11, 13, 15, 19]) [] [(0, a3.toNat), (1, a4.toNat)] [(2, [.i (((e8 L0) : List RG).getD a3.toNat RG.z).a0, .i (((e8 L0) : List RG).getD a3.toNat RG.z).a1]), (4, [.i (((e8 L0) : List RG).getD a4.toNat RG.z).a0, .i (((e8 L0) : List RG).getD a4.toNat RG.z).a1])] []) [] (Value.tuple #[Value.agg #[vi 1, vi 1], vq]) (hY g12 <| hT g11 <| hT g10 w10) bE
    exact fxC (Za (oq [0, 2, 4, 6, 8, 11, 13, 15, 18]) [] [(0, a3.toNat), (1, a4.toNat)] [(2, [.i (((e8 L0) : List RG).getD a3.toNat RG.z).a0, .i (((e8 L0) : List RG).getD a3.toNat RG.z).a1]), (4, [.i (((e8 L0) : List RG).getD a4.toNat RG.z).a0, .i (((e8 L0) : List RG).getD a4.toNat RG.z).a1])] []) [] (Value.tuple #[Value.agg #[vi 1, vq], vq]) (hN g12 <| hT g11 <| hT g10 w10) bE
   exact fxC (Za (oq [0, 2, 4, 6, 8, 11, 13, 14]) [] [(0, a3.toNat), (1, a4.toNat)] [(2, [.i (((e8 L0) : List RG).getD a3.toNat RG.z).a0, .i (((e8 L0) : List RG).getD a3.toNat RG.z).a1]), (4, [.i (((e8 L0) : List RG).getD a4.toNat RG.z).a0, .i (((e8 L0) : List RG).getD a4.toNat RG.z).a1])] []) [] κba (hF g11 <| hT g10 w10) bE
  exact fxC (Za (oq [0, 2, 4, 6, 8, 11, 12]) [] [(0, a3.toNat), (1, a4.toNat)] [(2, [.i (((e8 L0) : List RG).getD a3.toNat RG.z).a0, .i (((e8 L0) : List RG).getD a3.toNat RG.z).a1]), (4, [.i (((e8 L0) : List RG).getD a4.toNat RG.z).a0, .i (((e8 L0) : List RG).getD a4.toNat RG.z).a1])] []) [] κba (hF g10 w10) bE
 refine Ze (fun _ => Zq) (fun g6 => ?_)
 exact fxC (Za (oq [0, 2, 4, 6, 8, 10, 12]) [] [] [] []) [] (Value.tuple #[Value.agg #[vi a5, vi a6], vq]) (hF g6 <| hF g5 <| hF g4 <| hF g3 w3) bE

theorem Zt6 (L0 : List RG) (a1 a2 a3 a4 a5 a6 : Int) (N : Nat) (r : ZaT) (h : Zha L0 a1 a2 a3 a4 a5 a6 N = some r) : LSpec Tryz.prog 106 #[Value.agg (List.toArray (rv8 L0)), Value.agg #[vi a1, vi a2, vi a3, vi a4], Value.agg #[vi a5, vi a6]] [] (Zmm r) (Zli r) :=
 Zax ZB Tryz.func106 (by kernel_rfl) (by kernel_rfl) (fun r => by cases r <;> exact Zu _ rfl) (ZvS L0 a1 a2 a3 a4 a5 a6 N) h

theorem ZiH {L0 : List RG} {a1 a2 a3 a4 a5 a6 : Int} {N : Nat} {r : ZaT} (h : Zha L0 a1 a2 a3 a4 a5 a6 N = some r) : LSpec Tryz.prog 106 #[Value.agg (List.toArray (rv8 L0)), Value.agg #[vi a1, vi a2, vi a3, vi a4], Value.agg #[vi a5, vi a6]] [] (Zmm r) (Zli r) := Zt6 L0 a1 a2 a3 a4 a5 a6 N r h

set_option linter.unusedVariables false
set_option maxRecDepth 100000
noncomputable def ZnC : ZeL → Value
 | .r0 w0 => Value.agg (List.toArray (rv8 w0))
noncomputable def Zmn : ZeL → List (Option AObj)
 | .r0 w0 => []

section
variable (L0 : List RG) (a1 a2 a3 : Int)
noncomputable abbrev κd := (((e8 L0) : List RG).set a1.toNat (⟨a2, a3⟩ : RG))
theorem ZxS (N : Nat) : Fx Tryz.prog Zg Tryz.f107 [] #[Value.agg (List.toArray (rv8 L0)), vi a1, Value.agg #[vi a2, vi a3]] (ZnC) (Zmn) (ZeM L0 a1 a2 a3 N) := by
 unfold ZeM
 refine Ze (fun g0 => ?_) (fun g0 => ?_)
 ·
  refine Ze (fun g1 => ?_) (fun g1 => ?_)
  ·
   exact fxC (Za (oq [1, 3]) [] [(0, a1.toNat)] [(1, [.i ((κd L0 a1 a2 a3).getD 0 RG.z).a0, .i ((κd L0 a1 a2 a3).getD 0 RG.z).a1, .i ((κd L0 a1 a2 a3).getD 1 RG.z).a0, .i ((κd L0 a1 a2 a3).getD 1 RG.z).a1, .i ((κd L0 a1 a2 a3).getD 2 RG.z).a0, .i ((κd L0 a1 a2 a3).getD 2 RG.z).a1, .i ((κd L0 a1 a2 a3).getD 3 RG.z).a0, .i ((κd L0 a1 a2 a3).getD 3 RG.z).a1, .i ((κd L0 a1 a2 a3).getD 4 RG.z).a0, .i ((κd L0 a1 a2 a3).getD 4 RG.z).a1, .i ((κd L0 a1 a2 a3).getD 5 RG.z).a0, .i ((κd L0 a1 a2 a3).getD 5 RG.z).a1, .i ((κd L0 a1 a2 a3).getD 6 RG.z).a0, .i ((κd L0 a1 a2 a3).getD 6 RG.z).a1, .i ((κd L0 a1 a2 a3).getD 7 RG.z).a0, .i ((κd L0 a1 a2 a3).getD 7 RG.z).a1])] [(0, .st (Zd RA (κd L0 a1 a2 a3)))]) [] (Value.agg (List.toArray (rv8 (κd L0 a1 a2 a3)))) (kX (Ze8 (ZO 16 (List.drop 0 (Zd RA (κd L0 a1 a2 a3)))) [.i ((κd L0 a1 a2 a3).getD 0 RG.z).a0, .i ((κd L0 a1 a2 a3).getD 0 RG.z).a1, .i ((κd L0 a1 a2 a3).getD 1 RG.z).a0, .i ((κd L0 a1 a2 a3).getD 1 RG.z).a1, .i ((κd L0 a1 a2 a3).getD 2 RG.z).a0, .i ((κd L0 a1 a2 a3).getD 2 RG.z).a1, .i ((κd L0 a1 a2 a3).getD 3 RG.z).a0, .i ((κd L0 a1 a2 a3).getD 3 RG.z).a1, .i ((κd L0 a1 a2 a3).getD 4 RG.z).a0, .i ((κd L0 a1 a2 a3).getD 4 RG.z).a1, .i ((κd L0 a1 a2 a3).getD 5 RG.z).a0, .i ((κd L0 a1 a2 a3).getD 5 RG.z).a1, .i ((κd L0 a1 a2 a3).getD 6 RG.z).a0, .i ((κd L0 a1 a2 a3).getD 6 RG.z).a1, .i ((κd L0 a1 a2 a3).getD 7 RG.z).a0, .i ((κd L0 a1 a2 a3).getD 7 RG.z).a1]) true (ZvJ (E := RA) (L := (κd L0 a1 a2 a3)) (n := 8) (by first | (simp; done) | omega) rfl rfl rfl) <| kC (Zdu (E := RA) (L := ((e8 L0) : List RG)) (i := a1.toNat) (q := 0) (l := [vi a2, vi a3]) (⟨a2, a3⟩ : RG) ltA (show (0 + (a1.toNat * 2)) = a1.toNat * 2 + 0 from by omega) (show 0 + 2 ≤ 2 from by decide) rfl) <| kB a1.toNat 8 <| kI a1 (Int.ofNat a1.toNat) <| hY g1 <| kY (a1 ≥ 0) Zb) bE
  exact fxC (Za (oq [1, 2]) [] [] [] []) [] (Value.agg (List.toArray (rv8 L0))) (hN g1 <| kY (a1 ≥ 0) Zb) bE
 exact fxC (Za (oq [0]) [] [] [] []) [] (Value.agg (List.toArray (rv8 L0))) (kN (a1 ≥ 0) Zb) bE

theorem Zu5 (N : Nat) (r : ZeL) (h : ZeM L0 a1 a2 a3 N = some r) : LSpec Tryz.prog 107 #[Value.agg (List.toArray (rv8 L0)), vi a1, Value.agg #[vi a2, vi a3]] [] (ZnC r) (Zmn r) :=
 Zax ZB Tryz.func107 (by kernel_rfl) (by kernel_rfl) (fun r => by cases r <;> exact Zu _ rfl) (ZxS L0 a1 a2 a3 N) h

theorem Zr2 {L0 : List RG} {a1 a2 a3 : Int} {N : Nat} {r : ZeL} (h : ZeM L0 a1 a2 a3 N = some r) : LSpec Tryz.prog 107 #[Value.agg (List.toArray (rv8 L0)), vi a1, Value.agg #[vi a2, vi a3]] [] (ZnC r) (Zmn r) := Zu5 L0 a1 a2 a3 N r h

noncomputable def ZpD : Zbn → Value
 | .r0 w0 w1 w2 => Value.tuple #[Value.agg (List.toArray (rv8 w0)), vi w1, vi w2]
noncomputable def ZnD : Zbn → List (Option AObj)
 | .r0 w0 w1 w2 => []

noncomputable abbrev κK := #[Value.agg #[vq, vq, vq, vq, vq, vq, vq, vq, vq, vq, vq, vq, vq, vq, vq, vq], vq, vi 100]
noncomputable abbrev κz := #[Value.agg #[vq, vq, vq, vq, vq, vq, vq, vq, vq, vq, vq, vq, vq, vq, vq, vq], vq, vi 5]
noncomputable abbrev κi := (rv8 ([(⟨0, 0⟩ : RG), (⟨0, 0⟩ : RG), (⟨0, 0⟩ : RG), (⟨0, 0⟩ : RG), (⟨0, 0⟩ : RG), (⟨0, 0⟩ : RG), (⟨0, 0⟩ : RG), (⟨0, 0⟩ : RG)] : List RG))
theorem Zze (a4 a5 a6 a7 : Int) (N : Nat) : Fx Tryz.prog Zg Tryz.f79 [] #[Value.agg (List.toArray (rv8 L0)), vi a1, Value.agg #[vi a2, vi a3, vi a4, vi a5], Value.agg #[vi a6, vi a7]] (ZpD) (ZnD) (Zbu L0 a1 a2 a3 a4 a5 a6 a7 N) := by
 unfold Zbu
 refine Zz (fun z0 c0 => ?_)
 cases z0 with
 | r0 y0_0 =>
  have w1 := kK (tQ (ZE c0) 4) Zb
  refine Ze (fun g1 => ?_) (fun g1 => ?_)
  ·
   exact fxC (Za (oq [1]) [] [] [] [(0, (tP (ZE c0)).t)]) [] (Value.tuple κK) (kX ((!y0_0)) true nbt w1) bE (hv := ⟨Eq.trans (show (Value.tuple #[Value.agg (List.toArray κi), vq, vi 100] : Value) = Value.tuple κK from (Za7 (Zf (Zb3 (Zf ci (Zf ci (Zf ci (Zf ci (Zf ci (Zf ci (Zf ci (Zf ci (Zf ci (Zf ci (Zf ci (Zf ci (Zf ci (Zf ci (Zf ci (Zf ci rfl))))))))))))))))) (cr (cr rfl))))) (by rfl), by rfl⟩)
  have w2 := kX ((!y0_0)) false nbf w1
  refine Ze (fun g2 => ?_) (fun g2 => ?_)
  ·
   have w3 := kY (a2 ≥ 1) w2
   refine Ze (fun g3 => ?_) (fun g3 => ?_)
   ·
    refine Ze (fun g4 => ?_) (fun g4 => ?_)
    ·
     exact fxC (Za (oq [0, 3, 5, 9]) [] [] [] [(0, (tP (ZE c0)).t)]) [] (Value.tuple κz) (hY g4 <| hY g3 w3) bE (hv := ⟨Eq.trans (show (Value.tuple #[Value.agg (List.toArray κi), vq, vi 5] : Value) = Value.tuple κz from (Za7 (Zf (Zb3 (Zf ci (Zf ci (Zf ci (Zf ci (Zf ci (Zf ci (Zf ci (Zf ci (Zf ci (Zf ci (Zf ci (Zf ci (Zf ci (Zf ci (Zf ci (Zf ci rfl))))))))))))))))) (cr (cr rfl))))) (by rfl), by rfl⟩)
    refine Ze (fun g5 => ?_) (fun g5 => ?_)
    ·
     exact fxC (Za (oq [0, 3, 5, 8, 11]) [] [] [] [(0, (tP (ZE c0)).t)]) [] (Value.tuple κz) (kY (a1 > 511) <| hN g4 <| hY g3 w3) bE (hv := ⟨Eq.trans (show (Value.tuple #[Value.agg (List.toArray κi), vq, vi 5] : Value) = Value.tuple κz from (Za7 (Zf (Zb3 (Zf ci (Zf ci (Zf ci (Zf ci (Zf ci (Zf ci (Zf ci (Zf ci (Zf ci (Zf ci (Zf ci (Zf ci (Zf ci (Zf ci (Zf ci (Zf ci rfl))))))))))))))))) (cr (cr rfl))))) (by rfl), by rfl⟩)
    have w6 := kF a2 19 <| kN (a1 > 511) <| hN g4 <| hY g3 w3
    refine Ze (fun g6 => ?_) (fun g6 => ?_)
    ·
     exact fxC (Za (oq [0, 3, 5, 8, 10, 12, 15]) [] [] [] [(0, (tP (ZE c0)).t)]) [] (Value.tuple #[Value.agg (List.toArray (rv8 L0)), vi a3, vq]) (hT g6 w6) bE
    refine Ze (fun g7 => ?_) (fun g7 => ?_)
    ·
     refine Ze (fun g8 => ?_) (fun _ => Zq)
     refine Ze (fun g9 => ?_) (fun _ => Zq)
     have w10 := kLn RA ((e8 L0) : List RG) (a3.toNat) 0 2 <| kB a3.toNat 8 <| kI a3 (Int.ofNat a3.toNat) <| hT g7 <| hF g6 w6
     refine Ze (fun g10 => ?_) (fun g10 => ?_)
     ·
      exact fxC (Za (oq [0, 3, 5, 8, 10, 12, 14, 17, 19]) [] [(0, a3.toNat)] [(6, [.i (((e8 L0) : List RG).getD a3.toNat RG.z).a0, .i (((e8 L0) : List RG).getD a3.toNat RG.z).a1])] [(0, (tP (ZE c0)).t)]) [] (Value.tuple #[Value.agg (List.toArray (rv8 L0)), vi a4, vq]) (kZ (((((e8 L0) : List RG).getD a3.toNat RG.z).a0 == 2) && (((((e8 L0) : List RG).getD a3.toNat RG.z).a1 == 0) && true)) w10) bE
     have w11 := kO (((((e8 L0) : List RG).getD a3.toNat RG.z).a0 == 2) && (((((e8 L0) : List RG).getD a3.toNat RG.z).a1 == 0) && true)) w10
     refine Ze (fun g11 => ?_) (fun g11 => ?_)
     ·
      exact fxC (Za (oq [0, 3, 5, 8, 10, 12, 14, 17, 18, 21]) [] [(0, a3.toNat)] [(6, [.i (((e8 L0) : List RG).getD a3.toNat RG.z).a0, .i (((e8 L0) : List RG).getD a3.toNat RG.z).a1])] [(0, (tP (ZE c0)).t)]) [] (Value.tuple #[Value.agg (List.toArray (rv8 L0)), vi a4, vq]) (kZ (((((e8 L0) : List RG).getD a3.toNat RG.z).a0 == 1) && (((((e8 L0) : List RG).getD a3.toNat RG.z).a1 == 0) && true)) w11) bE
     exact fxC (Za (oq [0, 3, 5, 8, 10, 12, 14, 17, 18, 20]) [(0, (a1 + 1))] [(0, a3.toNat)] [(6, [.i (((e8 L0) : List RG).getD a3.toNat RG.z).a0, .i (((e8 L0) : List RG).getD a3.toNat RG.z).a1])] [(0, (tP (ZE c0)).t)]) [] (Value.tuple #[Value.agg (List.toArray (rv8 L0)), vi (a1 + 1), vq]) (kW (a1 + 1) (a1 + 1) <| kO (((((e8 L0) : List RG).getD a3.toNat RG.z).a0 == 1) && (((((e8 L0) : List RG).getD a3.toNat RG.z).a1 == 0) && true)) w11) bE
    refine Zz (fun z8 c8 => ?_)
    cases z8 with
    | r0 y8_0 y8_1 y8_2 =>
     refine Ze (fun g9 => ?_) (fun g9 => ?_)
     ·
      exact fxC (Za (oq [0, 3, 5, 8, 10, 12, 14, 16, 19]) [] [] [] [(0, (tP (ZE c0)).t), (1, (tP (ZiH c8)).t)]) [] (Value.tuple #[Value.agg #[vq, vq, vq, vq, vq, vq, vq, vq, vq, vq, vq, vq, vq, vq, vq, vq], vq, vi y8_2]) (hD g9 <| kK (tQ (ZiH c8) 4) <| hF g7 <| hF g6 w6) bE (hv := ⟨Eq.trans (show (Value.tuple #[Value.agg (List.toArray κi), vq, vi y8_2] : Value) = Value.tuple #[Value.agg #[vq, vq, vq, vq, vq, vq, vq, vq, vq, vq, vq, vq, vq, vq, vq, vq], vq, vi y8_2] from (Za7 (Zf (Zb3 (Zf ci (Zf ci (Zf ci (Zf ci (Zf ci (Zf ci (Zf ci (Zf ci (Zf ci (Zf ci (Zf ci (Zf ci (Zf ci (Zf ci (Zf ci (Zf ci rfl))))))))))))))))) (cr (cr rfl))))) (by rfl), by rfl⟩)
     refine Zz (fun z10 c10 => ?_)
     cases z10 with
     | r0 y10_0 =>
      exact fxC (Za (oq [0, 3, 5, 8, 10, 12, 14, 16, 18]) [(0, (a1 + 1))] [] [] [(0, (tP (ZE c0)).t), (1, (tP (ZiH c8)).t), (3, (tP (Zr2 c10)).t)]) [] (Value.tuple #[Value.agg (List.toArray (rv8 y10_0)), vi (a1 + 1), vq]) (kW (a1 + 1) (a1 + 1) <| kK (tQ (Zr2 c10) 5) <| kE y8_2 0 <| kK (tQ (ZiH c8) 4) <| hF g7 <| hF g6 w6) bE
   refine Ze (fun g4 => ?_) (fun g4 => ?_)
   ·
    refine Ze (fun g5 => ?_) (fun g5 => ?_)
    ·
     exact fxC (Za (oq [0, 3, 4, 7, 11]) [] [] [] [(0, (tP (ZE c0)).t)]) [] (Value.tuple κz) (hY g5 <| hT g4 <| hN g3 w3) bE (hv := ⟨Eq.trans (show (Value.tuple #[Value.agg (List.toArray κi), vq, vi 5] : Value) = Value.tuple κz from (Za7 (Zf (Zb3 (Zf ci (Zf ci (Zf ci (Zf ci (Zf ci (Zf ci (Zf ci (Zf ci (Zf ci (Zf ci (Zf ci (Zf ci (Zf ci (Zf ci (Zf ci (Zf ci rfl))))))))))))))))) (cr (cr rfl))))) (by rfl), by rfl⟩)
    refine Ze (fun g6 => ?_) (fun g6 => ?_)
    ·
     exact fxC (Za (oq [0, 3, 4, 7, 10, 13]) [] [] [] [(0, (tP (ZE c0)).t)]) [] (Value.tuple κz) (kY (a1 > 511) <| hN g5 <| hT g4 <| hN g3 w3) bE (hv := ⟨Eq.trans (show (Value.tuple #[Value.agg (List.toArray κi), vq, vi 5] : Value) = Value.tuple κz from (Za7 (Zf (Zb3 (Zf ci (Zf ci (Zf ci (Zf ci (Zf ci (Zf ci (Zf ci (Zf ci (Zf ci (Zf ci (Zf ci (Zf ci (Zf ci (Zf ci (Zf ci (Zf ci rfl))))))))))))))))) (cr (cr rfl))))) (by rfl), by rfl⟩)
    exact fxC (Za (oq [0, 3, 4, 7, 10, 12, 15]) [(0, (a1 + 1))] [] [] [(0, (tP (ZE c0)).t)]) [] (Value.tuple #[Value.agg (List.toArray (rv8 L0)), vi (a1 + 1), vq]) (kW (a1 + 1) (a1 + 1) <| hT g4 <| kN (a1 > 511) <| hN g5 <| hT g4 <| hN g3 w3) bE
   exact fxC (Za (oq [0, 3, 4, 6]) [] [] [] [(0, (tP (ZE c0)).t)]) [] (Value.tuple κK) (hF g4 <| hN g3 w3) bE (hv := ⟨Eq.trans (show (Value.tuple #[Value.agg (List.toArray κi), vq, vi 100] : Value) = Value.tuple κK from (Za7 (Zf (Zb3 (Zf ci (Zf ci (Zf ci (Zf ci (Zf ci (Zf ci (Zf ci (Zf ci (Zf ci (Zf ci (Zf ci (Zf ci (Zf ci (Zf ci (Zf ci (Zf ci rfl))))))))))))))))) (cr (cr rfl))))) (by rfl), by rfl⟩)
  exact fxC (Za (oq [0, 2, 4]) [] [] [] [(0, (tP (ZE c0)).t)]) [] (Value.tuple κK) (kF a2 19 <| kN (a2 ≥ 1) w2) bE (hv := ⟨Eq.trans (show (Value.tuple #[Value.agg (List.toArray κi), vq, vi 100] : Value) = Value.tuple κK from (Za7 (Zf (Zb3 (Zf ci (Zf ci (Zf ci (Zf ci (Zf ci (Zf ci (Zf ci (Zf ci (Zf ci (Zf ci (Zf ci (Zf ci (Zf ci (Zf ci (Zf ci (Zf ci rfl))))))))))))))))) (cr (cr rfl))))) (by rfl), by rfl⟩)

theorem ZvT (a4 a5 a6 a7 : Int) (N : Nat) (r : Zbn) (h : Zbu L0 a1 a2 a3 a4 a5 a6 a7 N = some r) : LSpec Tryz.prog 79 #[Value.agg (List.toArray (rv8 L0)), vi a1, Value.agg #[vi a2, vi a3, vi a4, vi a5], Value.agg #[vi a6, vi a7]] [] (ZpD r) (ZnD r) :=
 Zax ZB Tryz.func79 (by kernel_rfl) (by kernel_rfl) (fun r => by cases r <;> exact Zu _ rfl) (Zze L0 a1 a2 a3 a4 a5 a6 a7 N) h

end
theorem Z6 {L0 : List RG} {a1 a2 a3 a4 a5 a6 a7 : Int} {N : Nat} {r : Zbn} (h : Zbu L0 a1 a2 a3 a4 a5 a6 a7 N = some r) : LSpec Tryz.prog 79 #[Value.agg (List.toArray (rv8 L0)), vi a1, Value.agg #[vi a2, vi a3, vi a4, vi a5], Value.agg #[vi a6, vi a7]] [] (ZpD r) (ZnD r) := ZvT L0 a1 a2 a3 a4 a5 a6 a7 N r h

open Mach (oi ok_ite ok_none ok_bind okF okN enH en_ite en_none)
set_option linter.unusedVariables false
set_option maxRecDepth 100000
section
variable (a1 a2 a3 : Int) (L4 L5 : List RG)
noncomputable abbrev κF := ([vi a1, vi a2, vi a3] ++ (rv8 L4 ++ [ms RA L5]))
noncomputable def Zt7 (L0 : List RI) (a1 a2 a3 : Int) (L4 L5 : List RG) : ZH → Value
 | .r0 w0 w1 w2 w3 w4 => Value.tuple #[Value.agg (List.toArray ([vi w0, vi w1, vi w2] ++ (rv8 w3 ++ [vs 0 0 w4.length w4.length]))), vT]
 | .r1 w5 => Value.tuple #[Value.agg (List.toArray (κF a1 a2 a3 L4 L5)), Value.bool w5]
noncomputable def Zr3 : ZH → List (Option AObj)
 | .r0 w0 w1 w2 w3 w4 => [some (.cells (Zd RA w4) 44)]
 | .r1 w5 => []

noncomputable def Zv8 (L0 : List RI) (a1 a2 a3 : Int) (L4 L5 : List RG) : ZH → Value
 | .r0 w0 w1 w2 w3 w4 => Value.tuple #[Value.agg (List.toArray ([vi w0, vi w1, vi w2] ++ (rv8 w3 ++ [ms RA w4]))), vT]
 | .r1 w5 => Value.tuple #[Value.agg (List.toArray (κF a1 a2 a3 L4 L5)), Value.bool w5]
noncomputable def Zt8 : ZH → List (Option AObj)
 | .r0 w0 w1 w2 w3 w4 => []
 | .r1 w5 => []

def Z0H : ZQ → Nat
 | .h1m0 v1 => 1
 | .h1m1 v1 v2 v14 v15 v16 v17 => 1
 | .h1m2 v1 v2 v14 v15 => 1
noncomputable def Z1A (L0 : List RI) (a1 a2 a3 : Int) (L4 L5 : List RG) : ZQ → List (Nat × Value)
 | .h1m0 v1 => [(0, ms RB L0), (3, vp 0 0), (4, vp 1 0), (6, vp 2 0), (7, vs 3 0 v1.length v1.length), (8, vq)]
 | .h1m1 v1 v2 v14 v15 v16 v17 => [(0, ms RB L0), (3, vp 0 0), (4, vp 1 0), (6, vp 2 0), (7, vs 3 0 v1.length v1.length), (8, vi (v2 : Int))]
 | .h1m2 v1 v2 v14 v15 => [(0, ms RB L0), (3, vp 0 0), (4, vp 1 0), (6, vp 2 0), (7, vs 3 0 v1.length v1.length), (8, vi (v2 : Int))]
noncomputable abbrev κm (v1 : List RG) := [vs 3 0 v1.length v1.length]
noncomputable abbrev κh := (AObj.cells (ZaM RA 8 [vi a1, vi a2, vi a3] L4 [ms RA L5]) 65)
end
noncomputable abbrev κb := (AObj.cells (ZaM RA 8 [vq, vq, vq] ([(⟨0, 0⟩ : RG), (⟨0, 0⟩ : RG), (⟨0, 0⟩ : RG), (⟨0, 0⟩ : RG), (⟨0, 0⟩ : RG), (⟨0, 0⟩ : RG), (⟨0, 0⟩ : RG), (⟨0, 0⟩ : RG)] : List RG) [vn]) 65)
noncomputable def Z1B (L0 : List RI) (a1 a2 a3 : Int) (L4 L5 : List RG) : ZQ → List (Option AObj)
 | .h1m0 v1 => [some (κh a1 a2 a3 L4 L5), some κb, some (κh a1 a2 a3 L4 L5), some (.cells (Zd RA v1) 44)]
 | .h1m1 v1 v2 v14 v15 v16 v17 => [some (κh a1 a2 a3 L4 L5), some κb, some (.cells (ZaM RA 8 [vi a1, vi a2, vi v14] v15 [vs 4 0 v16 v17]) 65), some (.cells (Zd RA v1) 44), none]
 | .h1m2 v1 v2 v14 v15 => [some (κh a1 a2 a3 L4 L5), some κb, some (.cells (ZaM RA 8 [vi a1, vi a2, vi v14] v15 (κm v1)) 65), some (.cells (Zd RA v1) 44)]

noncomputable def Zec : Nat → Code × List ZD
 | 1 => ZX [1, 1, 1, 0, 1, 3] (Zaw Tryz.f48) []
 | _ => (.skip, [])
def Zt9 : Nat → Bool
 | 1 => true
 | _ => true
noncomputable def Zdm (i : Nat) : List ZD := match Zt9 i with | true => .rnd i :: (Zec i).2 | false => (Zec i).2

section
variable (L0 : List RI) (a1 a2 a3 : Int) (L4 L5 : List RG)
noncomputable def ZeV (N : Nat) : Mach := ⟨Tryz.f48, [], ZQ, ZH, Zda L0 a1 a2 a3 L4 L5 N, Z0H, Zec, Zt9, Z1A L0 a1 a2 a3 L4 L5, Z1B L0 a1 a2 a3 L4 L5, Zt7 L0 a1 a2 a3 L4 L5, Zr3⟩

theorem Zu6 (v1 : List RG) (N : Nat) : (ZeV L0 a1 a2 a3 L4 L5 N).Ok Tryz.prog Zg (.h1m0 v1 : ZQ) (Zda L0 a1 a2 a3 L4 L5 N (.h1m0 v1 : ZQ)) := by
 show (ZeV L0 a1 a2 a3 L4 L5 N).Ok Tryz.prog Zg (.h1m0 v1 : ZQ) (ZjF L0 a1 a2 a3 L4 L5 N v1)
 unfold ZjF
 refine ok_ite (fun g0 => ?_) fun g0 => ?_
 ·
  refine ok_ite (fun g1 => ?_) fun g1 => ?_
  ·
   exact okF (Za (oq [3, 5]) [] [] [] []) [3] (Value.tuple #[Value.agg (List.toArray ([vi 2, vi a2, vi a3] ++ (rv8 L4 ++ (κm v1)))), vT]) (kY (a3 ≥ (L0.length : Int)) <| hT g0 Zb) (bR <| bE)
  have w2 := kN (a3 ≥ (L0.length : Int)) <| hT g0 Zb
  refine oi fun g2 => ?_
  have w3 := kG RB L0 ((0 + (a3.toNat * 4)) + 0) (a3.toNat) 0 1 4 <| kB a3.toNat L0.length <| kI a3 (Int.ofNat a3.toNat) w2
  refine ok_ite (fun g3 => ?_) fun g3 => ?_
  ·
   exact okF (Za (oq [3, 4, 7]) [] [(0, a3.toNat)] [(3, [.i (L0.getD a3.toNat RI.z).a0])] []) [3] (Value.tuple #[Value.agg (List.toArray ([vi 2, vi a2, vi a3] ++ (rv8 L4 ++ (κm v1)))), vT]) (hT g3 w3) (bR <| bE)
  have w4 := kG RB L0 (0 + (a3.toNat * 4)) (a3.toNat) 0 4 4 <| kB a3.toNat L0.length <| kI a3 (Int.ofNat a3.toNat) <| hF g3 w3
  refine ok_ite (fun g4 => ?_) fun g4 => ?_
  ·
   have w5 := kY ((L0.getD a3.toNat RI.z).a0 ≥ 1) w4
   refine ok_ite (fun g5 => ?_) fun g5 => ?_
   ·
    refine ok_bind fun z6 c6 => ?_
    cases z6 with
    | r0 y6_0 y6_1 y6_2 =>
     refine ok_ite (fun g7 => ?_) fun g7 => ?_
     ·
      subst g7
      refine oi fun g8 => ?_
      refine ok_bind fun z9 c9 => ?_
      cases z9 with
      | r0 y9_0 y9_1 y9_2 =>
       refine ok_ite (fun _ => ok_none) (fun g10 => ?_)
       exact okN (Za (oq [3, 4, 6, 9, 11, 24]) [] [(0, a3.toNat), (1, a3.toNat)] [(3, [.i (L0.getD a3.toNat RI.z).a0]), (5, (RB.cel (L0.getD a3.toNat RI.z)))] [(2, (tP (Z2 c6)).t), (4, .ap 1 [vi y6_0, vi y6_1] (Zd RA (v1 ++ ([(⟨y6_0, y6_1⟩ : RG)] : List RG)))), (9, (tP (Z6 c9)).t)]) [0, 1, 2, 7, 3] [some (ms RB L0), some (vp 0 0), some (vp 1 0), some (vp 2 0), some (vs 7 0 (v1.length + 1) (v1.length + 1)), some (vi 1)] (kE y9_2 0 <| kK (tQ (Z6 c9) 12) <| kA RA v1 (⟨y6_0, y6_1⟩ : RG) <| kK (tQ (Z2 c6) 5) <| hY g5 w5) (tC (tC (tC (tC (tC (tC (tE) ⟨Eq.trans (show κP = vi 1 from ci) (by rfl), by rfl⟩) ⟨Eq.trans (show (vs 3 0 (v1 ++ ([(⟨y6_0, y6_1⟩ : RG)] : List RG)).length (v1 ++ ([(⟨y6_0, y6_1⟩ : RG)] : List RG)).length : Value) = vs 3 0 (v1.length + 1) (v1.length + 1) from (Z0 rfl eqA eqA)) (by rfl), by rfl⟩))))) (bM (κh a1 a2 a3 L4 L5) <| bM κb <| bM (.cells (ZaM RA 8 [vi a1, vi a2, vi y9_1] y9_0 (κm v1)) 65) <| bR <| bN <| bE) (show 1 ∈ Zj (Zdm 1) from by decide +kernel)
     obtain rfl : y6_2 = false := by simpa using g7
     refine ok_bind fun z8 c8 => ?_
     cases z8 with
     | r0 y8_0 y8_1 y8_2 =>
      refine ok_ite (fun g9 => ?_) fun g9 => ?_
      ·
       exact okF (Za (oq [3, 4, 6, 9, 11, 25]) [] [(0, a3.toNat), (1, a3.toNat)] [(3, [.i (L0.getD a3.toNat RI.z).a0]), (5, (RB.cel (L0.getD a3.toNat RI.z)))] [(2, (tP (Z2 c6)).t), (8, (tP (Z6 c8)).t)]) [3] (Value.tuple #[Value.agg (List.toArray ([vi 3, vi y8_2, vi a3] ++ (rv8 L4 ++ (κm v1)))), vT]) (hD g9 <| kK (tQ (Z6 c8) 10) <| kK (tQ (Z2 c6) 5) <| hY g5 w5) (bR <| bE)
      exact okN (Za (oq [3, 4, 6, 9, 11, 24]) [] [(0, a3.toNat), (1, a3.toNat)] [(3, [.i (L0.getD a3.toNat RI.z).a0]), (5, (RB.cel (L0.getD a3.toNat RI.z)))] [(2, (tP (Z2 c6)).t), (8, (tP (Z6 c8)).t)]) [0, 1, 2, 3] [some (ms RB L0), some (vp 0 0), some (vp 1 0), some (vp 2 0), some (vs 3 0 v1.length v1.length), some (vi 1)] (kE y8_2 0 <| kK (tQ (Z6 c8) 10) <| kK (tQ (Z2 c6) 5) <| hY g5 w5) (tC (tC (tC (tC (tC (tC (tE) ⟨Eq.trans (show κP = vi 1 from ci) (by rfl), by rfl⟩)))))) (bM (κh a1 a2 a3 L4 L5) <| bM κb <| bM (.cells (ZaM RA 8 [vi a1, vi a2, vi y8_1] y8_0 (κm v1)) 65) <| bR <| bE) (show 1 ∈ Zj (Zdm 1) from by decide +kernel)
   refine ok_ite (fun g6 => ?_) fun g6 => ?_
   ·
    refine ok_bind fun z7 c7 => ?_
    cases z7 with
    | r0 y7_0 y7_1 y7_2 =>
     refine ok_ite (fun g8 => ?_) fun g8 => ?_
     ·
      subst g8
      refine oi fun g9 => ?_
      refine ok_bind fun z10 c10 => ?_
      cases z10 with
      | r0 y10_0 y10_1 y10_2 =>
       refine ok_ite (fun _ => ok_none) (fun g11 => ?_)
       exact okN (Za (oq [3, 4, 6, 9, 10, 13, 26]) [] [(0, a3.toNat), (1, a3.toNat)] [(3, [.i (L0.getD a3.toNat RI.z).a0]), (5, (RB.cel (L0.getD a3.toNat RI.z)))] [(2, (tP (Z2 c7)).t), (4, .ap 1 [vi y7_0, vi y7_1] (Zd RA (v1 ++ ([(⟨y7_0, y7_1⟩ : RG)] : List RG)))), (9, (tP (Z6 c10)).t)]) [0, 1, 2, 7, 3] [some (ms RB L0), some (vp 0 0), some (vp 1 0), some (vp 2 0), some (vs 7 0 (v1.length + 1) (v1.length + 1)), some (vi 1)] (kE y10_2 0 <| kK (tQ (Z6 c10) 12) <| kA RA v1 (⟨y7_0, y7_1⟩ : RG) <| kK (tQ (Z2 c7) 5) <| hT g6 <| hN g5 w5) (tC (tC (tC (tC (tC (tC (tE) ⟨Eq.trans (show κP = vi 1 from ci) (by rfl), by rfl⟩) ⟨Eq.trans (show (vs 3 0 (v1 ++ ([(⟨y7_0, y7_1⟩ : RG)] : List RG)).length (v1 ++ ([(⟨y7_0, y7_1⟩ : RG)] : List RG)).length : Value) = vs 3 0 (v1.length + 1) (v1.length + 1) from (Z0 rfl eqA eqA)) (by rfl), by rfl⟩))))) (bM (κh a1 a2 a3 L4 L5) <| bM κb <| bM (.cells (ZaM RA 8 [vi a1, vi a2, vi y10_1] y10_0 (κm v1)) 65) <| bR <| bN <| bE) (show 1 ∈ Zj (Zdm 1) from by decide +kernel)
     obtain rfl : y7_2 = false := by simpa using g8
     refine ok_bind fun z9 c9 => ?_
     cases z9 with
     | r0 y9_0 y9_1 y9_2 =>
      refine ok_ite (fun g10 => ?_) fun g10 => ?_
      ·
       exact okF (Za (oq [3, 4, 6, 9, 10, 13, 27]) [] [(0, a3.toNat), (1, a3.toNat)] [(3, [.i (L0.getD a3.toNat RI.z).a0]), (5, (RB.cel (L0.getD a3.toNat RI.z)))] [(2, (tP (Z2 c7)).t), (8, (tP (Z6 c9)).t)]) [3] (Value.tuple #[Value.agg (List.toArray ([vi 3, vi y9_2, vi a3] ++ (rv8 L4 ++ (κm v1)))), vT]) (hD g10 <| kK (tQ (Z6 c9) 10) <| kK (tQ (Z2 c7) 5) <| hT g6 <| hN g5 w5) (bR <| bE)
      exact okN (Za (oq [3, 4, 6, 9, 10, 13, 26]) [] [(0, a3.toNat), (1, a3.toNat)] [(3, [.i (L0.getD a3.toNat RI.z).a0]), (5, (RB.cel (L0.getD a3.toNat RI.z)))] [(2, (tP (Z2 c7)).t), (8, (tP (Z6 c9)).t)]) [0, 1, 2, 3] [some (ms RB L0), some (vp 0 0), some (vp 1 0), some (vp 2 0), some (vs 3 0 v1.length v1.length), some (vi 1)] (kE y9_2 0 <| kK (tQ (Z6 c9) 10) <| kK (tQ (Z2 c7) 5) <| hT g6 <| hN g5 w5) (tC (tC (tC (tC (tC (tC (tE) ⟨Eq.trans (show κP = vi 1 from ci) (by rfl), by rfl⟩)))))) (bM (κh a1 a2 a3 L4 L5) <| bM κb <| bM (.cells (ZaM RA 8 [vi a1, vi a2, vi y9_1] y9_0 (κm v1)) 65) <| bR <| bE) (show 1 ∈ Zj (Zdm 1) from by decide +kernel)
   exact okF (Za (oq [3, 4, 6, 9, 10, 12]) [] [(0, a3.toNat), (1, a3.toNat)] [(3, [.i (L0.getD a3.toNat RI.z).a0]), (5, (RB.cel (L0.getD a3.toNat RI.z)))] []) [3] (Value.tuple #[Value.agg (List.toArray ([vi a1, vi a2, vi a3] ++ (rv8 L4 ++ (κm v1)))), vT]) (hF g6 <| hN g5 w5) (bR <| bE)
  exact okF (Za (oq [3, 4, 6, 8, 10]) [] [(0, a3.toNat), (1, a3.toNat)] [(3, [.i (L0.getD a3.toNat RI.z).a0]), (5, (RB.cel (L0.getD a3.toNat RI.z)))] []) [3] (Value.tuple #[Value.agg (List.toArray ([vi a1, vi a2, vi a3] ++ (rv8 L4 ++ (κm v1)))), vT]) (kF ((L0.getD a3.toNat RI.z).a0) 19 <| kN ((L0.getD a3.toNat RI.z).a0 ≥ 1) w4) (bR <| bE)
 exact okF (Za (oq [2]) [] [] [] []) [] (Value.tuple #[Value.agg (List.toArray (κF a1 a2 a3 L4 L5)), vT]) (hF g0 Zb) bE

theorem Zu7 (v1 : List RG) (v2 : Nat) (v14 : Int) (v15 : List RG) (v16 v17 N : Nat) : (ZeV L0 a1 a2 a3 L4 L5 N).Ok Tryz.prog Zg (.h1m1 v1 v2 v14 v15 v16 v17 : ZQ) (Zda L0 a1 a2 a3 L4 L5 N (.h1m1 v1 v2 v14 v15 v16 v17 : ZQ)) := by
 show (ZeV L0 a1 a2 a3 L4 L5 N).Ok Tryz.prog Zg (.h1m1 v1 v2 v14 v15 v16 v17 : ZQ) (ZjG L0 a1 a2 a3 L4 L5 N v1 v2 v14 v15 v16 v17)
 unfold ZjG
 refine oi fun g0 => ?_
 refine oi fun g1 => ?_
 refine ok_ite (fun g2 => ?_) fun g2 => ?_
 ·
  exact okF (Za (oq [1, 3, 5]) [] [] [] []) [3] (Value.tuple #[Value.agg (List.toArray ([vi 2, vi a2, vi v14] ++ (rv8 v15 ++ (κm v1)))), vT]) (kY (v14 ≥ (L0.length : Int)) <| hT g1 <| hY g0 Zb) (bR <| bE)
 have w3 := kN (v14 ≥ (L0.length : Int)) <| hT g1 <| hY g0 Zb
 refine oi fun g3 => ?_
 have w4 := kG RB L0 ((0 + ((v14).toNat * 4)) + 0) ((v14).toNat) 0 1 4 <| kB (v14).toNat L0.length <| kI v14 (Int.ofNat (v14).toNat) w3
 refine ok_ite (fun g4 => ?_) fun g4 => ?_
 ·
  exact okF (Za (oq [1, 3, 4, 7]) [] [(0, (v14).toNat)] [(3, [.i (L0.getD (v14).toNat RI.z).a0])] []) [3] (Value.tuple #[Value.agg (List.toArray ([vi 2, vi a2, vi v14] ++ (rv8 v15 ++ (κm v1)))), vT]) (hT g4 w4) (bR <| bE)
 have w5 := kG RB L0 (0 + ((v14).toNat * 4)) ((v14).toNat) 0 4 4 <| kB (v14).toNat L0.length <| kI v14 (Int.ofNat (v14).toNat) <| hF g4 w4
 refine ok_ite (fun g5 => ?_) fun g5 => ?_
 ·
  have w6 := kY ((L0.getD (v14).toNat RI.z).a0 ≥ 1) w5
  refine ok_ite (fun g6 => ?_) fun g6 => ?_
  ·
   refine ok_ite (fun g7 => ?_) fun g7 => ?_
   ·
    exact okF (Za (oq [1, 3, 4, 6, 9, 11, 15]) [] [(0, (v14).toNat), (1, (v14).toNat)] [(3, [.i (L0.getD (v14).toNat RI.z).a0]), (5, (RB.cel (L0.getD (v14).toNat RI.z)))] []) [] (Value.tuple #[Value.agg (List.toArray (κF a1 a2 a3 L4 L5)), vf]) (hT g7 <| hY g6 w6) bE
   refine ok_bind fun z8 c8 => ?_
   cases z8 with
   | r0 y8_0 y8_1 y8_2 =>
    refine ok_ite (fun g9 => ?_) fun g9 => ?_
    ·
     subst g9
     refine oi fun g10 => ?_
     refine ok_bind fun z11 c11 => ?_
     cases z11 with
     | r0 y11_0 y11_1 y11_2 =>
      refine ok_ite (fun _ => ok_none) (fun g12 => ?_)
      exact okN (Za (oq [1, 3, 4, 6, 9, 11, 14, 24]) [(2, (((v2 + 1) : Nat) : Int))] [(0, (v14).toNat), (1, (v14).toNat)] [(3, [.i (L0.getD (v14).toNat RI.z).a0]), (5, (RB.cel (L0.getD (v14).toNat RI.z)))] [(2, (tP (Z2 c8)).t), (4, .ap 1 [vi y8_0, vi y8_1] (Zd RA (v1 ++ ([(⟨y8_0, y8_1⟩ : RG)] : List RG)))), (9, (tP (Z6 c11)).t)]) [0, 1, 2, 8, 3] [some (ms RB L0), some (vp 0 0), some (vp 1 0), some (vp 2 0), some (vs 8 0 (v1.length + 1) (v1.length + 1)), some (κB v2)] (kW ((v2 : Int) + 1) (((v2 + 1) : Nat) : Int) <| kE y11_2 0 <| kK (tQ (Z6 c11) 13) <| kA RA v1 (⟨y8_0, y8_1⟩ : RG) <| kK (tQ (Z2 c8) 6) <| hF g7 <| hY g6 w6) (tC (tC (tC (tC (tC (tC (tE)) ⟨Eq.trans (show (vs 3 0 (v1 ++ ([(⟨y8_0, y8_1⟩ : RG)] : List RG)).length (v1 ++ ([(⟨y8_0, y8_1⟩ : RG)] : List RG)).length : Value) = vs 3 0 (v1.length + 1) (v1.length + 1) from (Z0 rfl eqA eqA)) (by rfl), by rfl⟩))))) (bM (κh a1 a2 a3 L4 L5) <| bM κb <| bM (.cells (ZaM RA 8 [vi a1, vi a2, vi y11_1] y11_0 (κm v1)) 65) <| bR <| bN <| bE) (show 1 ∈ Zj (Zdm 1) from by decide +kernel)
    obtain rfl : y8_2 = false := by simpa using g9
    refine ok_bind fun z10 c10 => ?_
    cases z10 with
    | r0 y10_0 y10_1 y10_2 =>
     have w11 := kK (tQ (Z6 c10) 11) <| kK (tQ (Z2 c8) 6) <| hF g7 <| hY g6 w6
     refine ok_ite (fun g11 => ?_) fun g11 => ?_
     ·
      exact okF (Za (oq [1, 3, 4, 6, 9, 11, 14, 25]) [] [(0, (v14).toNat), (1, (v14).toNat)] [(3, [.i (L0.getD (v14).toNat RI.z).a0]), (5, (RB.cel (L0.getD (v14).toNat RI.z)))] [(2, (tP (Z2 c8)).t), (8, (tP (Z6 c10)).t)]) [3] (Value.tuple #[Value.agg (List.toArray ([vi 3, vi y10_2, vi v14] ++ (rv8 v15 ++ (κm v1)))), vT]) (hD g11 w11) (bR <| bE)
     exact okN (Za (oq [1, 3, 4, 6, 9, 11, 14, 24]) [(2, (((v2 + 1) : Nat) : Int))] [(0, (v14).toNat), (1, (v14).toNat)] [(3, [.i (L0.getD (v14).toNat RI.z).a0]), (5, (RB.cel (L0.getD (v14).toNat RI.z)))] [(2, (tP (Z2 c8)).t), (8, (tP (Z6 c10)).t)]) [0, 1, 2, 3] [some (ms RB L0), some (vp 0 0), some (vp 1 0), some (vp 2 0), some (vs 3 0 v1.length v1.length), some (κB v2)] (kW ((v2 : Int) + 1) (((v2 + 1) : Nat) : Int) <| kE y10_2 0 w11) (tC (tC (tC (tC (tC (tC (tE))))))) (bM (κh a1 a2 a3 L4 L5) <| bM κb <| bM (.cells (ZaM RA 8 [vi a1, vi a2, vi y10_1] y10_0 (κm v1)) 65) <| bR <| bE) (show 1 ∈ Zj (Zdm 1) from by decide +kernel)
  refine ok_ite (fun g7 => ?_) fun g7 => ?_
  ·
   refine ok_ite (fun g8 => ?_) fun g8 => ?_
   ·
    exact okF (Za (oq [1, 3, 4, 6, 9, 10, 13, 17]) [] [(0, (v14).toNat), (1, (v14).toNat)] [(3, [.i (L0.getD (v14).toNat RI.z).a0]), (5, (RB.cel (L0.getD (v14).toNat RI.z)))] []) [] (Value.tuple #[Value.agg (List.toArray (κF a1 a2 a3 L4 L5)), vf]) (hT g8 <| hT g7 <| hN g6 w6) bE
   refine ok_bind fun z9 c9 => ?_
   cases z9 with
   | r0 y9_0 y9_1 y9_2 =>
    refine ok_ite (fun g10 => ?_) fun g10 => ?_
    ·
     subst g10
     refine oi fun g11 => ?_
     refine ok_bind fun z12 c12 => ?_
     cases z12 with
     | r0 y12_0 y12_1 y12_2 =>
      refine ok_ite (fun _ => ok_none) (fun g13 => ?_)
      exact okN (Za (oq [1, 3, 4, 6, 9, 10, 13, 16, 26]) [(2, (((v2 + 1) : Nat) : Int))] [(0, (v14).toNat), (1, (v14).toNat)] [(3, [.i (L0.getD (v14).toNat RI.z).a0]), (5, (RB.cel (L0.getD (v14).toNat RI.z)))] [(2, (tP (Z2 c9)).t), (4, .ap 1 [vi y9_0, vi y9_1] (Zd RA (v1 ++ ([(⟨y9_0, y9_1⟩ : RG)] : List RG)))), (9, (tP (Z6 c12)).t)]) [0, 1, 2, 8, 3] [some (ms RB L0), some (vp 0 0), some (vp 1 0), some (vp 2 0), some (vs 8 0 (v1.length + 1) (v1.length + 1)), some (κB v2)] (kW ((v2 : Int) + 1) (((v2 + 1) : Nat) : Int) <| kE y12_2 0 <| kK (tQ (Z6 c12) 13) <| kA RA v1 (⟨y9_0, y9_1⟩ : RG) <| kK (tQ (Z2 c9) 6) <| hF g8 <| hT g7 <| hN g6 w6) (tC (tC (tC (tC (tC (tC (tE)) ⟨Eq.trans (show (vs 3 0 (v1 ++ ([(⟨y9_0, y9_1⟩ : RG)] : List RG)).length (v1 ++ ([(⟨y9_0, y9_1⟩ : RG)] : List RG)).length : Value) = vs 3 0 (v1.length + 1) (v1.length + 1) from (Z0 rfl eqA eqA)) (by rfl), by rfl⟩))))) (bM (κh a1 a2 a3 L4 L5) <| bM κb <| bM (.cells (ZaM RA 8 [vi a1, vi a2, vi y12_1] y12_0 (κm v1)) 65) <| bR <| bN <| bE) (show 1 ∈ Zj (Zdm 1) from by decide +kernel)
    obtain rfl : y9_2 = false := by simpa using g10
    refine ok_bind fun z11 c11 => ?_
    cases z11 with
    | r0 y11_0 y11_1 y11_2 =>
     have w12 := kK (tQ (Z6 c11) 11) <| kK (tQ (Z2 c9) 6) <| hF g8 <| hT g7 <| hN g6 w6
     refine ok_ite (fun g12 => ?_) fun g12 => ?_
     ·
      exact okF (Za (oq [1, 3, 4, 6, 9, 10, 13, 16, 27]) [] [(0, (v14).toNat), (1, (v14).toNat)] [(3, [.i (L0.getD (v14).toNat RI.z).a0]), (5, (RB.cel (L0.getD (v14).toNat RI.z)))] [(2, (tP (Z2 c9)).t), (8, (tP (Z6 c11)).t)]) [3] (Value.tuple #[Value.agg (List.toArray ([vi 3, vi y11_2, vi v14] ++ (rv8 v15 ++ (κm v1)))), vT]) (hD g12 w12) (bR <| bE)
     exact okN (Za (oq [1, 3, 4, 6, 9, 10, 13, 16, 26]) [(2, (((v2 + 1) : Nat) : Int))] [(0, (v14).toNat), (1, (v14).toNat)] [(3, [.i (L0.getD (v14).toNat RI.z).a0]), (5, (RB.cel (L0.getD (v14).toNat RI.z)))] [(2, (tP (Z2 c9)).t), (8, (tP (Z6 c11)).t)]) [0, 1, 2, 3] [some (ms RB L0), some (vp 0 0), some (vp 1 0), some (vp 2 0), some (vs 3 0 v1.length v1.length), some (κB v2)] (kW ((v2 : Int) + 1) (((v2 + 1) : Nat) : Int) <| kE y11_2 0 w12) (tC (tC (tC (tC (tC (tC (tE))))))) (bM (κh a1 a2 a3 L4 L5) <| bM κb <| bM (.cells (ZaM RA 8 [vi a1, vi a2, vi y11_1] y11_0 (κm v1)) 65) <| bR <| bE) (show 1 ∈ Zj (Zdm 1) from by decide +kernel)
  exact okF (Za (oq [1, 3, 4, 6, 9, 10, 12]) [] [(0, (v14).toNat), (1, (v14).toNat)] [(3, [.i (L0.getD (v14).toNat RI.z).a0]), (5, (RB.cel (L0.getD (v14).toNat RI.z)))] []) [3] (Value.tuple #[Value.agg (List.toArray ([vi a1, vi a2, vi v14] ++ (rv8 v15 ++ (κm v1)))), vT]) (hF g7 <| hN g6 w6) (bR <| bE)
 exact okF (Za (oq [1, 3, 4, 6, 8, 10]) [] [(0, (v14).toNat), (1, (v14).toNat)] [(3, [.i (L0.getD (v14).toNat RI.z).a0]), (5, (RB.cel (L0.getD (v14).toNat RI.z)))] []) [3] (Value.tuple #[Value.agg (List.toArray ([vi a1, vi a2, vi v14] ++ (rv8 v15 ++ (κm v1)))), vT]) (kF ((L0.getD (v14).toNat RI.z).a0) 19 <| kN ((L0.getD (v14).toNat RI.z).a0 ≥ 1) w5) (bR <| bE)

theorem Zu8 (v1 : List RG) (v2 : Nat) (v14 : Int) (v15 : List RG) (N : Nat) : (ZeV L0 a1 a2 a3 L4 L5 N).Ok Tryz.prog Zg (.h1m2 v1 v2 v14 v15 : ZQ) (Zda L0 a1 a2 a3 L4 L5 N (.h1m2 v1 v2 v14 v15 : ZQ)) := by
 show (ZeV L0 a1 a2 a3 L4 L5 N).Ok Tryz.prog Zg (.h1m2 v1 v2 v14 v15 : ZQ) (ZfN L0 a1 a2 a3 L4 L5 N v1 v2 v14 v15)
 unfold ZfN
 refine ok_ite (fun g0 => ?_) fun g0 => ?_
 ·
  refine ok_ite (fun g1 => ?_) fun g1 => ?_
  ·
   refine ok_ite (fun g2 => ?_) fun g2 => ?_
   ·
    exact okF (Za (oq [1, 3, 5]) [] [] [] []) [3] (Value.tuple #[Value.agg (List.toArray ([vi 2, vi a2, vi v14] ++ (rv8 v15 ++ (κm v1)))), vT]) (kY (v14 ≥ (L0.length : Int)) <| hT g1 <| hY g0 Zb) (bR <| bE)
   have w3 := kN (v14 ≥ (L0.length : Int)) <| hT g1 <| hY g0 Zb
   refine oi fun g3 => ?_
   have w4 := kG RB L0 ((0 + ((v14).toNat * 4)) + 0) ((v14).toNat) 0 1 4 <| kB (v14).toNat L0.length <| kI v14 (Int.ofNat (v14).toNat) w3
   refine ok_ite (fun g4 => ?_) fun g4 => ?_
   ·
    exact okF (Za (oq [1, 3, 4, 7]) [] [(0, (v14).toNat)] [(3, [.i (L0.getD (v14).toNat RI.z).a0])] []) [3] (Value.tuple #[Value.agg (List.toArray ([vi 2, vi a2, vi v14] ++ (rv8 v15 ++ (κm v1)))), vT]) (hT g4 w4) (bR <| bE)
   have w5 := kG RB L0 (0 + ((v14).toNat * 4)) ((v14).toNat) 0 4 4 <| kB (v14).toNat L0.length <| kI v14 (Int.ofNat (v14).toNat) <| hF g4 w4
   refine ok_ite (fun g5 => ?_) fun g5 => ?_
   ·
    have w6 := kY ((L0.getD (v14).toNat RI.z).a0 ≥ 1) w5
    refine ok_ite (fun g6 => ?_) fun g6 => ?_
    ·
     refine ok_ite (fun g7 => ?_) fun g7 => ?_
     ·
      exact okF (Za (oq [1, 3, 4, 6, 9, 11, 15]) [] [(0, (v14).toNat), (1, (v14).toNat)] [(3, [.i (L0.getD (v14).toNat RI.z).a0]), (5, (RB.cel (L0.getD (v14).toNat RI.z)))] []) [] (Value.tuple #[Value.agg (List.toArray (κF a1 a2 a3 L4 L5)), vf]) (hT g7 <| hY g6 w6) bE
     refine ok_bind fun z8 c8 => ?_
     cases z8 with
     | r0 y8_0 y8_1 y8_2 =>
      refine ok_ite (fun g9 => ?_) fun g9 => ?_
      ·
       subst g9
       refine oi fun g10 => ?_
       refine ok_bind fun z11 c11 => ?_
       cases z11 with
       | r0 y11_0 y11_1 y11_2 =>
        refine ok_ite (fun _ => ok_none) (fun g12 => ?_)
        exact okN (Za (oq [1, 3, 4, 6, 9, 11, 14, 24]) [(2, (((v2 + 1) : Nat) : Int))] [(0, (v14).toNat), (1, (v14).toNat)] [(3, [.i (L0.getD (v14).toNat RI.z).a0]), (5, (RB.cel (L0.getD (v14).toNat RI.z)))] [(2, (tP (Z2 c8)).t), (4, .ap 1 [vi y8_0, vi y8_1] (Zd RA (v1 ++ ([(⟨y8_0, y8_1⟩ : RG)] : List RG)))), (9, (tP (Z6 c11)).t)]) [0, 1, 2, 7, 3] [some (ms RB L0), some (vp 0 0), some (vp 1 0), some (vp 2 0), some (vs 7 0 (v1.length + 1) (v1.length + 1)), some (κB v2)] (kW ((v2 : Int) + 1) (((v2 + 1) : Nat) : Int) <| kE y11_2 0 <| kK (tQ (Z6 c11) 12) <| kA RA v1 (⟨y8_0, y8_1⟩ : RG) <| kK (tQ (Z2 c8) 5) <| hF g7 <| hY g6 w6) (tC (tC (tC (tC (tC (tC (tE)) ⟨Eq.trans (show (vs 3 0 (v1 ++ ([(⟨y8_0, y8_1⟩ : RG)] : List RG)).length (v1 ++ ([(⟨y8_0, y8_1⟩ : RG)] : List RG)).length : Value) = vs 3 0 (v1.length + 1) (v1.length + 1) from (Z0 rfl eqA eqA)) (by rfl), by rfl⟩))))) (bM (κh a1 a2 a3 L4 L5) <| bM κb <| bM (.cells (ZaM RA 8 [vi a1, vi a2, vi y11_1] y11_0 (κm v1)) 65) <| bR <| bN <| bE) (show 1 ∈ Zj (Zdm 1) from by decide +kernel)
      obtain rfl : y8_2 = false := by simpa using g9
      refine ok_bind fun z10 c10 => ?_
      cases z10 with
      | r0 y10_0 y10_1 y10_2 =>
       have w11 := kK (tQ (Z6 c10) 10) <| kK (tQ (Z2 c8) 5) <| hF g7 <| hY g6 w6
       refine ok_ite (fun g11 => ?_) fun g11 => ?_
       ·
        exact okF (Za (oq [1, 3, 4, 6, 9, 11, 14, 25]) [] [(0, (v14).toNat), (1, (v14).toNat)] [(3, [.i (L0.getD (v14).toNat RI.z).a0]), (5, (RB.cel (L0.getD (v14).toNat RI.z)))] [(2, (tP (Z2 c8)).t), (8, (tP (Z6 c10)).t)]) [3] (Value.tuple #[Value.agg (List.toArray ([vi 3, vi y10_2, vi v14] ++ (rv8 v15 ++ (κm v1)))), vT]) (hD g11 w11) (bR <| bE)
       exact okN (Za (oq [1, 3, 4, 6, 9, 11, 14, 24]) [(2, (((v2 + 1) : Nat) : Int))] [(0, (v14).toNat), (1, (v14).toNat)] [(3, [.i (L0.getD (v14).toNat RI.z).a0]), (5, (RB.cel (L0.getD (v14).toNat RI.z)))] [(2, (tP (Z2 c8)).t), (8, (tP (Z6 c10)).t)]) [0, 1, 2, 3] [some (ms RB L0), some (vp 0 0), some (vp 1 0), some (vp 2 0), some (vs 3 0 v1.length v1.length), some (κB v2)] (kW ((v2 : Int) + 1) (((v2 + 1) : Nat) : Int) <| kE y10_2 0 w11) (tC (tC (tC (tC (tC (tC (tE))))))) (bM (κh a1 a2 a3 L4 L5) <| bM κb <| bM (.cells (ZaM RA 8 [vi a1, vi a2, vi y10_1] y10_0 (κm v1)) 65) <| bR <| bE) (show 1 ∈ Zj (Zdm 1) from by decide +kernel)
    refine ok_ite (fun g7 => ?_) fun g7 => ?_
    ·
     refine ok_ite (fun g8 => ?_) fun g8 => ?_
     ·
      exact okF (Za (oq [1, 3, 4, 6, 9, 10, 13, 17]) [] [(0, (v14).toNat), (1, (v14).toNat)] [(3, [.i (L0.getD (v14).toNat RI.z).a0]), (5, (RB.cel (L0.getD (v14).toNat RI.z)))] []) [] (Value.tuple #[Value.agg (List.toArray (κF a1 a2 a3 L4 L5)), vf]) (hT g8 <| hT g7 <| hN g6 w6) bE
     refine ok_bind fun z9 c9 => ?_
     cases z9 with
     | r0 y9_0 y9_1 y9_2 =>
      refine ok_ite (fun g10 => ?_) fun g10 => ?_
      ·
       subst g10
       refine oi fun g11 => ?_
       refine ok_bind fun z12 c12 => ?_
       cases z12 with
       | r0 y12_0 y12_1 y12_2 =>
        refine ok_ite (fun _ => ok_none) (fun g13 => ?_)
        exact okN (Za (oq [1, 3, 4, 6, 9, 10, 13, 16, 26]) [(2, (((v2 + 1) : Nat) : Int))] [(0, (v14).toNat), (1, (v14).toNat)] [(3, [.i (L0.getD (v14).toNat RI.z).a0]), (5, (RB.cel (L0.getD (v14).toNat RI.z)))] [(2, (tP (Z2 c9)).t), (4, .ap 1 [vi y9_0, vi y9_1] (Zd RA (v1 ++ ([(⟨y9_0, y9_1⟩ : RG)] : List RG)))), (9, (tP (Z6 c12)).t)]) [0, 1, 2, 7, 3] [some (ms RB L0), some (vp 0 0), some (vp 1 0), some (vp 2 0), some (vs 7 0 (v1.length + 1) (v1.length + 1)), some (κB v2)] (kW ((v2 : Int) + 1) (((v2 + 1) : Nat) : Int) <| kE y12_2 0 <| kK (tQ (Z6 c12) 12) <| kA RA v1 (⟨y9_0, y9_1⟩ : RG) <| kK (tQ (Z2 c9) 5) <| hF g8 <| hT g7 <| hN g6 w6) (tC (tC (tC (tC (tC (tC (tE)) ⟨Eq.trans (show (vs 3 0 (v1 ++ ([(⟨y9_0, y9_1⟩ : RG)] : List RG)).length (v1 ++ ([(⟨y9_0, y9_1⟩ : RG)] : List RG)).length : Value) = vs 3 0 (v1.length + 1) (v1.length + 1) from (Z0 rfl eqA eqA)) (by rfl), by rfl⟩))))) (bM (κh a1 a2 a3 L4 L5) <| bM κb <| bM (.cells (ZaM RA 8 [vi a1, vi a2, vi y12_1] y12_0 (κm v1)) 65) <| bR <| bN <| bE) (show 1 ∈ Zj (Zdm 1) from by decide +kernel)
      obtain rfl : y9_2 = false := by simpa using g10
      refine ok_bind fun z11 c11 => ?_
      cases z11 with
      | r0 y11_0 y11_1 y11_2 =>
       have w12 := kK (tQ (Z6 c11) 10) <| kK (tQ (Z2 c9) 5) <| hF g8 <| hT g7 <| hN g6 w6
       refine ok_ite (fun g12 => ?_) fun g12 => ?_
       ·
        exact okF (Za (oq [1, 3, 4, 6, 9, 10, 13, 16, 27]) [] [(0, (v14).toNat), (1, (v14).toNat)] [(3, [.i (L0.getD (v14).toNat RI.z).a0]), (5, (RB.cel (L0.getD (v14).toNat RI.z)))] [(2, (tP (Z2 c9)).t), (8, (tP (Z6 c11)).t)]) [3] (Value.tuple #[Value.agg (List.toArray ([vi 3, vi y11_2, vi v14] ++ (rv8 v15 ++ (κm v1)))), vT]) (hD g12 w12) (bR <| bE)
       exact okN (Za (oq [1, 3, 4, 6, 9, 10, 13, 16, 26]) [(2, (((v2 + 1) : Nat) : Int))] [(0, (v14).toNat), (1, (v14).toNat)] [(3, [.i (L0.getD (v14).toNat RI.z).a0]), (5, (RB.cel (L0.getD (v14).toNat RI.z)))] [(2, (tP (Z2 c9)).t), (8, (tP (Z6 c11)).t)]) [0, 1, 2, 3] [some (ms RB L0), some (vp 0 0), some (vp 1 0), some (vp 2 0), some (vs 3 0 v1.length v1.length), some (κB v2)] (kW ((v2 : Int) + 1) (((v2 + 1) : Nat) : Int) <| kE y11_2 0 w12) (tC (tC (tC (tC (tC (tC (tE))))))) (bM (κh a1 a2 a3 L4 L5) <| bM κb <| bM (.cells (ZaM RA 8 [vi a1, vi a2, vi y11_1] y11_0 (κm v1)) 65) <| bR <| bE) (show 1 ∈ Zj (Zdm 1) from by decide +kernel)
    exact okF (Za (oq [1, 3, 4, 6, 9, 10, 12]) [] [(0, (v14).toNat), (1, (v14).toNat)] [(3, [.i (L0.getD (v14).toNat RI.z).a0]), (5, (RB.cel (L0.getD (v14).toNat RI.z)))] []) [3] (Value.tuple #[Value.agg (List.toArray ([vi a1, vi a2, vi v14] ++ (rv8 v15 ++ (κm v1)))), vT]) (hF g7 <| hN g6 w6) (bR <| bE)
   exact okF (Za (oq [1, 3, 4, 6, 8, 10]) [] [(0, (v14).toNat), (1, (v14).toNat)] [(3, [.i (L0.getD (v14).toNat RI.z).a0]), (5, (RB.cel (L0.getD (v14).toNat RI.z)))] []) [3] (Value.tuple #[Value.agg (List.toArray ([vi a1, vi a2, vi v14] ++ (rv8 v15 ++ (κm v1)))), vT]) (kF ((L0.getD (v14).toNat RI.z).a0) 19 <| kN ((L0.getD (v14).toNat RI.z).a0 ≥ 1) w5) (bR <| bE)
  exact okF (Za (oq [1, 2]) [] [] [] []) [3] (Value.tuple #[Value.agg (List.toArray ([vi a1, vi a2, vi v14] ++ (rv8 v15 ++ (κm v1)))), vT]) (hF g1 <| hY g0 Zb) (bR <| bE)
 exact okF (Za (oq [0]) [] [] [] []) [3] (Value.tuple #[Value.agg (List.toArray ([vi a1, vi a2, vi v14] ++ (rv8 v15 ++ (κm v1)))), vT]) (hN g0 Zb) (bR <| bE)

theorem Zzf (N : Nat) : (ZeV L0 a1 a2 a3 L4 L5 N).Enter Tryz.prog Zg #[ms RB L0, Value.agg (List.toArray (κF a1 a2 a3 L4 L5))] (Zkp L0 a1 a2 a3 L4 L5 N) := by
 unfold Zkp
 refine en_ite (fun g0 => ?_) (fun g0 => ?_)
 ·
  exact enH (Zec 1) (Za (oq []) [] [] [] [(1, .ap0)]) [0, 1, 2, 3] [some (ms RB L0), some (vp 0 0), some (vp 1 0), some (vp 2 0), some (vs 3 0 0 0), some (vq)] (kX (dP (0 = L5.length ∧ ((L5.length * 2 = 0 ∧ ([] : List Value) = []) ∨ ∃ c, L5.length * 2 ≠ 0 ∧ Zay (code (Zak RA L5)) 0 (L5.length * 2) = some c ∧ ([] : List Value) = Zw c))) true (Z1 ⟨by omega, .inl ⟨by omega, rfl⟩⟩) Zb) (tC (tC (tC (tC (tC (tC (tE)) ⟨Eq.trans (show (vs 3 0 ([] : List RG).length ([] : List RG).length : Value) = vs 3 0 0 0 from (Z0 rfl eqA eqA)) (by rfl), by rfl⟩))))) (bM (κh a1 a2 a3 L4 L5) <| bM κb <| bM (κh a1 a2 a3 L4 L5) <| bC (o := .cells [] 44) (Zae (E := RA) _ (L := ([] : List RG)) _ (show ([] : List Value) = Zd RA ([] : List RG) from rfl)) <| bE) (show Zj (Zec 1).2 = [] from rfl)
 refine en_ite (fun g1 => ?_) (fun _ => en_none)
 exact enH (Zec 1) (Za (oq []) [] [] [] [(1, .ap L5.length (Zd RA L5) (Zd RA L5))]) [0, 1, 2, 4] [some (ms RB L0), some (vp 0 0), some (vp 1 0), some (vp 2 0), some (vs 4 0 (0 + L5.length) (0 + L5.length)), some (vq)] (kX (dP ((L5.length = L5.length ∧ ((L5.length * 2 = 0 ∧ (Zd RA L5) = []) ∨ ∃ c, L5.length * 2 ≠ 0 ∧ Zay (code (Zak RA L5)) 0 (L5.length * 2) = some c ∧ (Zd RA L5) = Zw c)) ∧ 0 < L5.length ∧ L5.length ≤ 100000 ∧ 0 < 0 + L5.length ∧ 0 ≤ 100000 ∧ 0 * 2 ≤ (List.length []) ∧ List.take (0 * 2) [] ++ (Zd RA L5) = (Zd RA L5))) true (Z1 ⟨⟨rfl, (ZdE (E := RA) (L := L5) (n := L5.length) (size := 2) rfl (by decide) (by omega))⟩, by omega, by omega, ltA, by omega, (Zbf (E := RA) (L := ([] : List RG)) (M := L5) (n := 0) (show _ = _ * 2 from rfl) ltA (R := L5) (by rw [List.take_of_length_le ltA]; rfl))⟩) Zb) (tC (tC (tC (tC (tC (tC (tE)) ⟨Eq.trans (show (vs 3 0 L5.length L5.length : Value) = vs 3 0 (0 + L5.length) (0 + L5.length) from (Z0 rfl eqA eqA)) (by rfl), by rfl⟩))))) (bM (κh a1 a2 a3 L4 L5) <| bM κb <| bM (κh a1 a2 a3 L4 L5) <| bR <| bE) (show Zj (Zec 1).2 = [] from rfl)

theorem Zu9 (N : Nat) (r : ZH) (h : ZhK L0 a1 a2 a3 L4 L5 N = some r) : LSpec Tryz.prog 48 #[ms RB L0, Value.agg (List.toArray (κF a1 a2 a3 L4 L5))] [] (Zt7 L0 a1 a2 a3 L4 L5 r) (Zr3 r) :=
 Mach.spec ZB (ZeV L0 a1 a2 a3 L4 L5 N) Tryz.func48 (by kernel_rfl) (by kernel_rfl) (fun x => by cases x <;> exact Zu _ rfl) (fun r => by cases r <;> exact Zu _ rfl) (fun x => by
  cases x with
  | h1m0 _ => exact fun _ => (show ¬ (1 ∈ Zj (Zec 1).2) from by decide +kernel)
  | h1m1 _ _ _ _ _ _ => exact fun _ => (show ¬ (1 ∈ Zj (Zec 1).2) from by decide +kernel)
  | h1m2 _ _ _ _ => exact fun _ => (show ¬ (1 ∈ Zj (Zec 1).2) from by decide +kernel)
  ) (fun x => (show (ZeV L0 a1 a2 a3 L4 L5 N).Ok Tryz.prog Zg x (Zda L0 a1 a2 a3 L4 L5 N x) from by
  cases x with
  | h1m0 v1 => exact Zu6 L0 a1 a2 a3 L4 L5 v1 N
  | h1m1 v1 v2 v14 v15 v16 v17 => exact Zu7 L0 a1 a2 a3 L4 L5 v1 v2 v14 v15 v16 v17 N
  | h1m2 v1 v2 v14 v15 => exact Zu8 L0 a1 a2 a3 L4 L5 v1 v2 v14 v15 N
  )) (Zzf L0 a1 a2 a3 L4 L5 N) (n := N) h

theorem ZvU (N : Nat) (r : ZH) (h : ZhK L0 a1 a2 a3 L4 L5 N = some r) : LSpec Tryz.prog 48 #[ms RB L0, Value.agg (List.toArray (κF a1 a2 a3 L4 L5))] [] (Zv8 L0 a1 a2 a3 L4 L5 r) (Zt8 r) := by
 have h0 := Zu9 L0 a1 a2 a3 L4 L5 N r h
 cases r with
 | r0 w0 w1 w2 w3 w4 => exact (LSpec.frzv (E := RA) (L := w4) (post := []) (v2 := Value.tuple #[Value.agg (List.toArray ([vi w0, vi w1, vi w2] ++ (rv8 w3 ++ [ms RA w4]))), vT]) h0 (show 0 ≤ 0 from by decide) (show 0 < 1000000000 from by decide) trivial rfl rfl rfl)
 | r1 _ => exact h0

end
theorem Zch {L0 : List RI} {a1 a2 a3 : Int} {L4 L5 : List RG} {N : Nat} {r : ZH} (h : ZhK L0 a1 a2 a3 L4 L5 N = some r) : LSpec Tryz.prog 48 #[ms RB L0, Value.agg (List.toArray (κF a1 a2 a3 L4 L5))] [] (Zv8 L0 a1 a2 a3 L4 L5 r) (Zt8 r) := ZvU L0 a1 a2 a3 L4 L5 N r h

open Mach (oi ok_ite ok_bind okF okN enH)
set_option linter.unusedVariables false
set_option maxRecDepth 100000
section
variable (L0 : List (List RI)) (L1 : List RL) (L2 : List RJ)
noncomputable def ZpE (a3 a4 a5 a6 : Int) (L7 L8 : List RG) : Zd1 → Value
 | .r0 => Value.agg #[ms (ZR RB) L0, vs 0 0 L1.length L1.length, ms RC L2]
noncomputable def Zoc (L0 : List (List RI)) (L1 : List RL) (L2 : List RJ) (a3 a4 a5 a6 : Int) (L7 L8 : List RG) : Zd1 → List (Option AObj)
 | .r0 => [some (.cells (Zd RE (L1.set a3.toNat (ZfY L7 a4 a5 a6 L8 : RL))) 65)]

noncomputable def Zr4 (a3 a4 a5 a6 : Int) (L7 L8 : List RG) : Zd1 → Value
 | .r0 => Value.agg #[ms (ZR RB) L0, ms RE (L1.set a3.toNat (ZfY L7 a4 a5 a6 L8 : RL)), ms RC L2]
noncomputable def ZpF : Zd1 → List (Option AObj)
 | .r0 => []

noncomputable abbrev κT (a4 a5 a6 : Int) (L7 L8 : List RG) := ([vi a4, vi a5, vi a6] ++ (rv8 L7 ++ [ms RA L8]))
noncomputable abbrev κf := [ms (ZR RB) L0, ms RE L1, ms RC L2]
noncomputable abbrev κc := #[ms (ZR RB) L0, ms RE L1, ms RC L2]
theorem ZvV (a3 a4 a5 a6 : Int) (L7 L8 : List RG) (N : Nat) : Fx Tryz.prog Zg Tryz.f49 [] #[Value.agg (κc L0 L1 L2), vi a3, Value.agg (List.toArray (κT a4 a5 a6 L7 L8))] (ZpE L0 L1 L2 a3 a4 a5 a6 L7 L8) (Zoc L0 L1 L2 a3 a4 a5 a6 L7 L8) (ZeN L0 L1 L2 a3 a4 a5 a6 L7 L8 N) := by
 unfold ZeN
 refine Ze (fun _ => Zq) (fun g0 => ?_)
 refine Ze (fun g1 => ?_) (fun _ => Zq)
 refine Ze (fun g2 => ?_) (fun _ => Zq)
 refine Ze (fun g3 => ?_) (fun _ => Zq)
 exact fxC (Za (oq []) [] [(0, a3.toNat)] [] [(0, .ap L1.length (Zd RE L1) (Zd RE L1)), (1, .st (Zd RE (L1.set a3.toNat (ZfY L7 a4 a5 a6 L8 : RL))))]) [4] (Value.agg #[ms (ZR RB) L0, vs 4 0 (0 + L1.length) (0 + L1.length), ms RC L2]) (kC (Zdu (E := RE) (L := L1) (i := a3.toNat) (q := 0) (l := [vi a4, vi a5, vi a6, vi (L7.getD 0 RG.z).a0, vi (L7.getD 0 RG.z).a1, vi (L7.getD 1 RG.z).a0, vi (L7.getD 1 RG.z).a1, vi (L7.getD 2 RG.z).a0, vi (L7.getD 2 RG.z).a1, vi (L7.getD 3 RG.z).a0, vi (L7.getD 3 RG.z).a1, vi (L7.getD 4 RG.z).a0, vi (L7.getD 4 RG.z).a1, vi (L7.getD 5 RG.z).a0, vi (L7.getD 5 RG.z).a1, vi (L7.getD 6 RG.z).a0, vi (L7.getD 6 RG.z).a1, vi (L7.getD 7 RG.z).a0, vi (L7.getD 7 RG.z).a1, ms RA L8]) (ZfY L7 a4 a5 a6 L8 : RL) (by omega) (show (0 + (a3.toNat * 20)) = a3.toNat * 20 + 0 from by omega) (show 0 + 20 ≤ 20 from by decide) rfl) <| kB a3.toNat (0 + L1.length) <| kI a3 (Int.ofNat a3.toNat) <| kX (dP ((L1.length = L1.length ∧ ((L1.length * 20 = 0 ∧ (Zd RE L1) = []) ∨ ∃ c, L1.length * 20 ≠ 0 ∧ Zay (code (Zak RE L1)) 0 (L1.length * 20) = some c ∧ (Zd RE L1) = Zw c)) ∧ 0 < L1.length ∧ L1.length ≤ 100000 ∧ 0 < 0 + L1.length ∧ 0 ≤ 100000 ∧ 0 * 20 ≤ (List.length []) ∧ List.take (0 * 20) [] ++ (Zd RE L1) = (Zd RE L1))) true (Z1 ⟨⟨rfl, (ZdE (E := RE) (L := L1) (n := L1.length) (size := 20) rfl (by decide) (by omega))⟩, by omega, by omega, ltA, by omega, (Zbf (E := RE) (L := ([] : List RL)) (M := L1) (n := 0) (show _ = _ * 20 from rfl) ltA (R := L1) (by rw [List.take_of_length_le ltA]; rfl))⟩) Zb) (bR <| bE) (hv := ⟨Eq.trans (show (Value.agg #[ms (ZR RB) L0, vs 0 0 L1.length L1.length, ms RC L2] : Value) = Value.agg #[ms (ZR RB) L0, vs 0 0 (0 + L1.length) (0 + L1.length), ms RC L2] from (Zb3 (cr (Zf (Z0 rfl eqA eqA) (cr rfl))))) (by rfl), by rfl⟩)

theorem Zsj (a3 a4 a5 a6 : Int) (L7 L8 : List RG) (N : Nat) (r : Zd1) (h : ZeN L0 L1 L2 a3 a4 a5 a6 L7 L8 N = some r) : LSpec Tryz.prog 49 #[Value.agg (κc L0 L1 L2), vi a3, Value.agg (List.toArray (κT a4 a5 a6 L7 L8))] [] (ZpE L0 L1 L2 a3 a4 a5 a6 L7 L8 r) (Zoc L0 L1 L2 a3 a4 a5 a6 L7 L8 r) :=
 Zax ZB Tryz.func49 (by kernel_rfl) (by kernel_rfl) (fun r => by cases r <;> exact Zu _ rfl) (ZvV L0 L1 L2 a3 a4 a5 a6 L7 L8 N) h

theorem ZtA (a3 a4 a5 a6 : Int) (L7 L8 : List RG) (N : Nat) (r : Zd1) (h : ZeN L0 L1 L2 a3 a4 a5 a6 L7 L8 N = some r) : LSpec Tryz.prog 49 #[Value.agg (κc L0 L1 L2), vi a3, Value.agg (List.toArray (κT a4 a5 a6 L7 L8))] [] (Zr4 L0 L1 L2 a3 a4 a5 a6 L7 L8 r) (ZpF r) := by
 have h0 := Zsj L0 L1 L2 a3 a4 a5 a6 L7 L8 N r h
 cases r with
 | r0 => exact (LSpec.frzv (E := RE) (L := (L1.set a3.toNat (ZfY L7 a4 a5 a6 L8 : RL))) (post := []) (v2 := Value.agg #[ms (ZR RB) L0, ms RE (L1.set a3.toNat (ZfY L7 a4 a5 a6 L8 : RL)), ms RC L2]) h0 (show 0 ≤ 0 from by decide) (show 0 < 1000000000 from by decide) trivial rfl (Zb3 (cr (Zf (Zg1 eqA eqA) (cr rfl)))) rfl)

theorem Zfr {L0 : List (List RI)} {L1 : List RL} {L2 : List RJ} {a3 a4 a5 a6 : Int} {L7 L8 : List RG} {N : Nat} {r : Zd1} (h : ZeN L0 L1 L2 a3 a4 a5 a6 L7 L8 N = some r) : LSpec Tryz.prog 49 #[Value.agg (κc L0 L1 L2), vi a3, Value.agg (List.toArray (κT a4 a5 a6 L7 L8))] [] (Zr4 L0 L1 L2 a3 a4 a5 a6 L7 L8 r) (ZpF r) := ZtA L0 L1 L2 a3 a4 a5 a6 L7 L8 N r h

noncomputable def ZjU (L0 : List (List RI)) (L1 : List RL) (L2 : List RJ) : Zbi → Value
 | .r0 w1 => Value.agg #[ms (ZR RB) L0, ms RE w1, ms RC L2]
noncomputable def Zjf : Zbi → List (Option AObj)
 | .r0 w1 => []

def ZuA : Za5 → Nat
 | .h1m0 v0 v2 => 1
noncomputable def ZvW (L0 : List (List RI)) (L1 : List RL) (L2 : List RJ) : Za5 → List (Nat × Value)
 | .h1m0 v0 v2 => [(1, vp 0 0), (2, vp 1 0), (3, vi (v0 : Int))]
noncomputable def ZvX (L0 : List (List RI)) (L1 : List RL) (L2 : List RJ) : Za5 → List (Option AObj)
 | .h1m0 v0 v2 => [some (.cells [ms (ZR RB) L0, ms RE v2, ms RC L2] 34), some κ5]

noncomputable def Ze3 : Nat → Code × List ZD
 | 1 => ZX [1, 0, 1, 3] (Zaw Tryz.f17) []
 | _ => (.skip, [])
def ZmT : Nat → Bool
 | 1 => true
 | _ => true
noncomputable def Zod (i : Nat) : List ZD := match ZmT i with | true => .rnd i :: (Ze3 i).2 | false => (Ze3 i).2

noncomputable def ZfQ (N : Nat) : Mach := ⟨Tryz.f17, [], Za5, Zbi, Zdv L0 L1 L2 N, ZuA, Ze3, ZmT, ZvW L0 L1 L2, ZvX L0 L1 L2, ZjU L0 L1 L2, Zjf⟩

theorem ZpG (v0 : Nat) (v2 : List RL) (N : Nat) : (ZfQ L0 L1 L2 N).Ok Tryz.prog Zg (.h1m0 v0 v2 : Za5) (Zdv L0 L1 L2 N (.h1m0 v0 v2 : Za5)) := by
 show (ZfQ L0 L1 L2 N).Ok Tryz.prog Zg (.h1m0 v0 v2 : Za5) (Zbz L0 L1 L2 N v0 v2)
 unfold Zbz
 refine ok_ite (fun g0 => ?_) fun g0 => ?_
 ·
  refine ok_ite (fun g1 => ?_) fun g1 => ?_
  ·
   have w2 := kG RE v2 (0 + (v0 * 20)) v0 0 20 20 <| kB v0 v2.length <| kI (v0 : Int) (Int.ofNat v0) <| kG (ZR RB) L0 (0 + (v0 * 1)) v0 0 1 1 <| kB v0 L0.length <| kI (v0 : Int) (Int.ofNat v0) <| hY g1 <| hY g0 Zb
   refine ok_bind fun z2 c2 => ?_
   cases z2 with
   | r0 y2_0 y2_1 y2_2 y2_3 y2_4 =>
    refine ok_bind fun z3 c3 => ?_
    cases z3 with
    | r0 =>
     refine oi fun g4 => ?_
     exact okN (Za (oq [1, 3]) [(0, (((v0 + 1) : Nat) : Int))] [(0, v0), (1, v0)] [(3, [(mc RB (L0.getD v0 []))]), (5, (RE.cel (v2.getD v0 RL.z)))] [(0, (tP (Zch c2)).t), (2, (tP (Zfr c3)).t)]) [0, 1] [some (vp 0 0), some (vp 1 0), some (vi (((v0 + 1) : Nat) : Int))] (kW ((v0 : Int) + 1) (((v0 + 1) : Nat) : Int) <| kK (tQ (Zfr c3) 3) <| kK (tQ (Zch c2) 2) w2) (tC (tC (tC (tE)))) (bS [ms (ZR RB) L0, ms RE (v2.set ((v0 : Int)).toNat (ZfY y2_3 y2_0 y2_1 y2_2 y2_4 : RL)), ms RC L2] <| bS [vn, vn, vn] <| bE) (show 1 ∈ Zj (Zod 1) from by decide +kernel)
   | r1 y2_0 =>
    refine ok_bind fun z3 c3 => ?_
    cases z3 with
    | r0 =>
     refine oi fun g4 => ?_
     exact okN (Za (oq [1, 3]) [(0, (((v0 + 1) : Nat) : Int))] [(0, v0), (1, v0)] [(3, [(mc RB (L0.getD v0 []))]), (5, (RE.cel (v2.getD v0 RL.z)))] [(0, (tP (Zch c2)).t), (2, (tP (Zfr c3)).t)]) [0, 1] [some (vp 0 0), some (vp 1 0), some (vi (((v0 + 1) : Nat) : Int))] (kW ((v0 : Int) + 1) (((v0 + 1) : Nat) : Int) <| kK (tQ (Zfr c3) 3) <| kK (tQ (Zch c2) 2) w2) (tC (tC (tC (tE)))) (bS [ms (ZR RB) L0, ms RE (v2.set ((v0 : Int)).toNat (⟨(v2.getD v0 RL.z).a0, (v2.getD v0 RL.z).a1, (v2.getD v0 RL.z).a2, (v2.getD v0 RL.z).a3, (v2.getD v0 RL.z).a4, (v2.getD v0 RL.z).a5, (v2.getD v0 RL.z).a6, (v2.getD v0 RL.z).a7, (v2.getD v0 RL.z).a8, (v2.getD v0 RL.z).a9, (v2.getD v0 RL.z).a10, (v2.getD v0 RL.z).a11, (v2.getD v0 RL.z).a12, (v2.getD v0 RL.z).a13, (v2.getD v0 RL.z).a14, (v2.getD v0 RL.z).a15, (v2.getD v0 RL.z).a16, (v2.getD v0 RL.z).a17, (v2.getD v0 RL.z).a18, (v2.getD v0 RL.z).a19⟩ : RL)), ms RC L2] <| bS [vn, vn, vn] <| bE) (show 1 ∈ Zj (Zod 1) from by decide +kernel)
  exact okF (Za (oq [1, 2]) [] [] [] []) [] (Value.agg #[ms (ZR RB) L0, ms RE v2, ms RC L2]) (hN g1 <| hY g0 Zb) bE
 exact okF (Za (oq [0]) [] [] [] []) [] (Value.agg #[ms (ZR RB) L0, ms RE v2, ms RC L2]) (hN g0 Zb) bE

theorem ZtB (N : Nat) : (ZfQ L0 L1 L2 N).Enter Tryz.prog Zg #[Value.agg (κc L0 L1 L2)] (ZiW L0 L1 L2 N) := by
 unfold ZiW
 exact enH (Ze3 1) (Za (oq []) [] [] [] []) [0, 1] [some (vp 0 0), some (vp 1 0), some (vq)] Zb (tC (tC (tC (tE) ⟨Eq.trans (show κn = vq from ci) (by rfl), by rfl⟩))) (bS (κf L0 L1 L2) <| bS [vn, vn, vn] <| bE) (show Zj (Ze3 1).2 = [] from rfl)

theorem ZqR (N : Nat) (r : Zbi) (h : ZdB L0 L1 L2 N = some r) : LSpec Tryz.prog 17 #[Value.agg (κc L0 L1 L2)] [] (ZjU L0 L1 L2 r) (Zjf r) :=
 Mach.spec ZB (ZfQ L0 L1 L2 N) Tryz.func17 (by kernel_rfl) (by kernel_rfl) (fun x => by cases x <;> exact Zu _ rfl) (fun r => by cases r <;> exact Zu _ rfl) (fun x => by
  cases x with
  | h1m0 _ _ => exact fun _ => (show ¬ (1 ∈ Zj (Ze3 1).2) from by decide +kernel)
  ) (fun x => (show (ZfQ L0 L1 L2 N).Ok Tryz.prog Zg x (Zdv L0 L1 L2 N x) from by
  cases x with
  | h1m0 v0 v2 => exact ZpG L0 L1 L2 v0 v2 N
  )) (ZtB L0 L1 L2 N) (n := N) h

theorem ZcM {L0 : List (List RI)} {L1 : List RL} {L2 : List RJ} {N : Nat} {r : Zbi} (h : ZdB L0 L1 L2 N = some r) : LSpec Tryz.prog 17 #[Value.agg (κc L0 L1 L2)] [] (ZjU L0 L1 L2 r) (Zjf r) := ZqR L0 L1 L2 N r h

noncomputable abbrev κH := #[Value.agg #[vq, vq, vq, vq, vq, vq, vq, vq, vq, vq, vq, vq, vq, vq, vq, vq, vq, vq, vq, vn], vq]
noncomputable def ZpH : ZaU → Value
 | .r0 => Value.tuple κH
 | .r1 w0 w1 w2 w3 w4 w5 => Value.tuple #[Value.agg (List.toArray ([vi w0, vi w1, vi w2] ++ (rv8 w3 ++ [ms RA w4]))), vi w5]
noncomputable def Zoe : ZaU → List (Option AObj)
 | .r0 => []
 | .r1 w0 w1 w2 w3 w4 w5 => []

noncomputable abbrev κbs := #[Value.agg #[vq, vq, vq, vq, vq, vq, vq, vq, vq, vq, vq, vq, vq, vq, vq, vq, vq, vq, vq, ms RA ([] : List RG)], vq]
noncomputable def Zr5 : ZaU → Value
 | .r0 => Value.tuple κbs
 | .r1 w0 w1 w2 w3 w4 w5 => Value.tuple #[Value.agg (List.toArray ([vi w0, vi w1, vi w2] ++ (rv8 w3 ++ [ms RA w4]))), vi w5]
noncomputable def ZpI : ZaU → List (Option AObj)
 | .r0 => []
 | .r1 w0 w1 w2 w3 w4 w5 => []

theorem ZvY (a3 : Int) (N : Nat) : Fx Tryz.prog Zg Tryz.f22 [] #[Value.agg (κc L0 L1 L2), vi a3] (ZpH) (Zoe) (ZdP L0 L1 L2 a3 N) := by
 unfold ZdP
 refine Ze (fun g0 => ?_) (fun g0 => ?_)
 ·
  exact fxC (Za (oq [1]) [] [] [] []) [] (Value.tuple κH) (hY g0 Zb) bE
 refine Ze (fun g1 => ?_) (fun g1 => ?_)
 ·
  exact fxC (Za (oq [0, 3]) [] [] [] []) [] (Value.tuple κH) (kY (a3 ≥ (L1.length : Int)) <| hN g0 Zb) bE
 have w2 := kG RE L1 ((0 + (a3.toNat * 20)) + 0) (a3.toNat) 0 1 20 <| kB a3.toNat L1.length <| kI a3 (Int.ofNat a3.toNat) <| kN (a3 ≥ (L1.length : Int)) <| hN g0 Zb
 refine Ze (fun g2 => ?_) (fun g2 => ?_)
 ·
  exact fxC (Za (oq [0, 2, 5]) [] [(0, a3.toNat)] [(2, [.i (L1.getD a3.toNat RL.z).a0])] []) [] (Value.tuple κH) (hD g2 w2) bE
 have w3 := kE ((L1.getD a3.toNat RL.z).a0) 0 w2
 refine Ze (fun g3 => ?_) (fun _ => Zq)
 have w4 := kG RE L1 (0 + (a3.toNat * 20)) (a3.toNat) 0 20 20 <| kB a3.toNat L1.length <| kI a3 (Int.ofNat a3.toNat) <| kG (ZR RB) L0 (0 + (a3.toNat * 1)) (a3.toNat) 0 1 1 <| kB a3.toNat L0.length <| kI a3 (Int.ofNat a3.toNat) w3
 refine Zz (fun z4 c4 => ?_)
 cases z4 with
 | r0 y4_0 y4_1 y4_2 y4_3 y4_4 =>
  refine Ze (fun g5 => ?_) (fun g5 => ?_)
  ·
   exact fxC (Za (oq [0, 2, 4, 9]) [] [(0, a3.toNat), (1, a3.toNat), (2, a3.toNat)] [(2, [.i (L1.getD a3.toNat RL.z).a0]), (4, [(mc RB (L0.getD a3.toNat []))]), (6, (RE.cel (L1.getD a3.toNat RL.z)))] [(0, (tP (Zch c4)).t)]) [] (Value.tuple κH) (hD g5 <| kK (tQ (Zch c4) 2) w4) bE
  have w6 := kG (ZR RB) L0 (0 + (a3.toNat * 1)) (a3.toNat) 0 1 1 <| kB a3.toNat L0.length <| kI a3 (Int.ofNat a3.toNat) <| kE y4_0 0 <| kK (tQ (Zch c4) 2) w4
  refine Ze (fun g6 => ?_) (fun _ => Zq)
  refine Ze (fun g7 => ?_) (fun _ => Zq)
  have w8 := kG RB (L0.getD a3.toNat []) ((0 + ((y4_2).toNat * 4)) + 0) ((y4_2).toNat) 0 1 4 <| kB (y4_2).toNat (L0.getD a3.toNat []).length <| kI y4_2 (Int.ofNat (y4_2).toNat) w6
  refine Ze (fun g8 => ?_) (fun g8 => ?_)
  ·
   exact fxC (Za (oq [0, 2, 4, 8, 11]) [] [(0, a3.toNat), (1, a3.toNat), (2, a3.toNat), (3, a3.toNat), (4, (y4_2).toNat)] [(2, [.i (L1.getD a3.toNat RL.z).a0]), (4, [(mc RB (L0.getD a3.toNat []))]), (6, (RE.cel (L1.getD a3.toNat RL.z))), (9, [(mc RB (L0.getD a3.toNat []))]), (11, [.i ((L0.getD a3.toNat []).getD (y4_2).toNat RI.z).a0])] [(0, (tP (Zch c4)).t)]) [] (Value.tuple #[Value.agg (List.toArray ([vi y4_0, vi y4_1, vi y4_2] ++ (rv8 y4_3 ++ [ms RA y4_4]))), vi 2]) (hT g8 w8) bE
  exact fxC (Za (oq [0, 2, 4, 8, 10]) [] [(0, a3.toNat), (1, a3.toNat), (2, a3.toNat), (3, a3.toNat), (4, (y4_2).toNat)] [(2, [.i (L1.getD a3.toNat RL.z).a0]), (4, [(mc RB (L0.getD a3.toNat []))]), (6, (RE.cel (L1.getD a3.toNat RL.z))), (9, [(mc RB (L0.getD a3.toNat []))]), (11, [.i ((L0.getD a3.toNat []).getD (y4_2).toNat RI.z).a0])] [(0, (tP (Zch c4)).t)]) [] (Value.tuple #[Value.agg (List.toArray ([vi y4_0, vi y4_1, vi y4_2] ++ (rv8 y4_3 ++ [ms RA y4_4]))), vi 1]) (hF g8 w8) bE
 | r1 y4_0 =>
  refine Ze (fun g5 => ?_) (fun g5 => ?_)
  ·
   exact fxC (Za (oq [0, 2, 4, 7]) [] [(0, a3.toNat), (1, a3.toNat), (2, a3.toNat)] [(2, [.i (L1.getD a3.toNat RL.z).a0]), (4, [(mc RB (L0.getD a3.toNat []))]), (6, (RE.cel (L1.getD a3.toNat RL.z)))] [(0, (tP (Zch c4)).t)]) [] (Value.tuple κH) (kX ((!y4_0)) true nbt <| kK (tQ (Zch c4) 2) w4) bE
  have w6 := kG (ZR RB) L0 (0 + (a3.toNat * 1)) (a3.toNat) 0 1 1 <| kB a3.toNat L0.length <| kI a3 (Int.ofNat a3.toNat) <| kE ((L1.getD a3.toNat RL.z).a0) 0 <| kX ((!y4_0)) false nbf <| kK (tQ (Zch c4) 2) w4
  refine Ze (fun g6 => ?_) (fun _ => Zq)
  refine Ze (fun g7 => ?_) (fun _ => Zq)
  have w8 := kG RB (L0.getD a3.toNat []) ((0 + (((L1.getD a3.toNat RL.z).a2).toNat * 4)) + 0) (((L1.getD a3.toNat RL.z).a2).toNat) 0 1 4 <| kB ((L1.getD a3.toNat RL.z).a2).toNat (L0.getD a3.toNat []).length <| kI ((L1.getD a3.toNat RL.z).a2) (Int.ofNat ((L1.getD a3.toNat RL.z).a2).toNat) w6
  refine Ze (fun g8 => ?_) (fun g8 => ?_)
  ·
   exact fxC (Za (oq [0, 2, 4, 6, 8, 11]) [] [(0, a3.toNat), (1, a3.toNat), (2, a3.toNat), (3, a3.toNat), (4, ((L1.getD a3.toNat RL.z).a2).toNat)] [(2, [.i (L1.getD a3.toNat RL.z).a0]), (4, [(mc RB (L0.getD a3.toNat []))]), (6, (RE.cel (L1.getD a3.toNat RL.z))), (9, [(mc RB (L0.getD a3.toNat []))]), (11, [.i ((L0.getD a3.toNat []).getD ((L1.getD a3.toNat RL.z).a2).toNat RI.z).a0])] [(0, (tP (Zch c4)).t)]) [] (Value.tuple #[Value.agg #[vi (L1.getD a3.toNat RL.z).a0, vi (L1.getD a3.toNat RL.z).a1, vi (L1.getD a3.toNat RL.z).a2, vi (L1.getD a3.toNat RL.z).a3, vi (L1.getD a3.toNat RL.z).a4, vi (L1.getD a3.toNat RL.z).a5, vi (L1.getD a3.toNat RL.z).a6, vi (L1.getD a3.toNat RL.z).a7, vi (L1.getD a3.toNat RL.z).a8, vi (L1.getD a3.toNat RL.z).a9, vi (L1.getD a3.toNat RL.z).a10, vi (L1.getD a3.toNat RL.z).a11, vi (L1.getD a3.toNat RL.z).a12, vi (L1.getD a3.toNat RL.z).a13, vi (L1.getD a3.toNat RL.z).a14, vi (L1.getD a3.toNat RL.z).a15, vi (L1.getD a3.toNat RL.z).a16, vi (L1.getD a3.toNat RL.z).a17, vi (L1.getD a3.toNat RL.z).a18, ms RA (L1.getD a3.toNat RL.z).a19], vi 2]) (hT g8 w8) bE (hv := ⟨Eq.trans (show (Value.tuple #[Value.agg (List.toArray ([vi (L1.getD a3.toNat RL.z).a0, vi (L1.getD a3.toNat RL.z).a1, vi (L1.getD a3.toNat RL.z).a2] ++ (rv8 ((Zg2 (L1.getD a3.toNat RL.z)) : List RG) ++ [ms RA (L1.getD a3.toNat RL.z).a19]))), vi 2] : Value) = Value.tuple #[Value.agg #[vi (L1.getD a3.toNat RL.z).a0, vi (L1.getD a3.toNat RL.z).a1, vi (L1.getD a3.toNat RL.z).a2, vi (L1.getD a3.toNat RL.z).a3, vi (L1.getD a3.toNat RL.z).a4, vi (L1.getD a3.toNat RL.z).a5, vi (L1.getD a3.toNat RL.z).a6, vi (L1.getD a3.toNat RL.z).a7, vi (L1.getD a3.toNat RL.z).a8, vi (L1.getD a3.toNat RL.z).a9, vi (L1.getD a3.toNat RL.z).a10, vi (L1.getD a3.toNat RL.z).a11, vi (L1.getD a3.toNat RL.z).a12, vi (L1.getD a3.toNat RL.z).a13, vi (L1.getD a3.toNat RL.z).a14, vi (L1.getD a3.toNat RL.z).a15, vi (L1.getD a3.toNat RL.z).a16, vi (L1.getD a3.toNat RL.z).a17, vi (L1.getD a3.toNat RL.z).a18, ms RA (L1.getD a3.toNat RL.z).a19], vi 2] from (Za7 (Zf (Zb3 (cr (cr (cr (Zf ci (Zf ci (Zf ci (Zf ci (Zf ci (Zf ci (Zf ci (Zf ci (Zf ci (Zf ci (Zf ci (Zf ci (Zf ci (Zf ci (Zf ci (Zf ci (cr rfl))))))))))))))))))))) (cr rfl)))) (by rfl), by rfl⟩)
  exact fxC (Za (oq [0, 2, 4, 6, 8, 10]) [] [(0, a3.toNat), (1, a3.toNat), (2, a3.toNat), (3, a3.toNat), (4, ((L1.getD a3.toNat RL.z).a2).toNat)] [(2, [.i (L1.getD a3.toNat RL.z).a0]), (4, [(mc RB (L0.getD a3.toNat []))]), (6, (RE.cel (L1.getD a3.toNat RL.z))), (9, [(mc RB (L0.getD a3.toNat []))]), (11, [.i ((L0.getD a3.toNat []).getD ((L1.getD a3.toNat RL.z).a2).toNat RI.z).a0])] [(0, (tP (Zch c4)).t)]) [] (Value.tuple #[Value.agg #[vi (L1.getD a3.toNat RL.z).a0, vi (L1.getD a3.toNat RL.z).a1, vi (L1.getD a3.toNat RL.z).a2, vi (L1.getD a3.toNat RL.z).a3, vi (L1.getD a3.toNat RL.z).a4, vi (L1.getD a3.toNat RL.z).a5, vi (L1.getD a3.toNat RL.z).a6, vi (L1.getD a3.toNat RL.z).a7, vi (L1.getD a3.toNat RL.z).a8, vi (L1.getD a3.toNat RL.z).a9, vi (L1.getD a3.toNat RL.z).a10, vi (L1.getD a3.toNat RL.z).a11, vi (L1.getD a3.toNat RL.z).a12, vi (L1.getD a3.toNat RL.z).a13, vi (L1.getD a3.toNat RL.z).a14, vi (L1.getD a3.toNat RL.z).a15, vi (L1.getD a3.toNat RL.z).a16, vi (L1.getD a3.toNat RL.z).a17, vi (L1.getD a3.toNat RL.z).a18, ms RA (L1.getD a3.toNat RL.z).a19], vi 1]) (hF g8 w8) bE (hv := ⟨Eq.trans (show (Value.tuple #[Value.agg (List.toArray ([vi (L1.getD a3.toNat RL.z).a0, vi (L1.getD a3.toNat RL.z).a1, vi (L1.getD a3.toNat RL.z).a2] ++ (rv8 ((Zg2 (L1.getD a3.toNat RL.z)) : List RG) ++ [ms RA (L1.getD a3.toNat RL.z).a19]))), vi 1] : Value) = Value.tuple #[Value.agg #[vi (L1.getD a3.toNat RL.z).a0, vi (L1.getD a3.toNat RL.z).a1, vi (L1.getD a3.toNat RL.z).a2, vi (L1.getD a3.toNat RL.z).a3, vi (L1.getD a3.toNat RL.z).a4, vi (L1.getD a3.toNat RL.z).a5, vi (L1.getD a3.toNat RL.z).a6, vi (L1.getD a3.toNat RL.z).a7, vi (L1.getD a3.toNat RL.z).a8, vi (L1.getD a3.toNat RL.z).a9, vi (L1.getD a3.toNat RL.z).a10, vi (L1.getD a3.toNat RL.z).a11, vi (L1.getD a3.toNat RL.z).a12, vi (L1.getD a3.toNat RL.z).a13, vi (L1.getD a3.toNat RL.z).a14, vi (L1.getD a3.toNat RL.z).a15, vi (L1.getD a3.toNat RL.z).a16, vi (L1.getD a3.toNat RL.z).a17, vi (L1.getD a3.toNat RL.z).a18, ms RA (L1.getD a3.toNat RL.z).a19], vi 1] from (Za7 (Zf (Zb3 (cr (cr (cr (Zf ci (Zf ci (Zf ci (Zf ci (Zf ci (Zf ci (Zf ci (Zf ci (Zf ci (Zf ci (Zf ci (Zf ci (Zf ci (Zf ci (Zf ci (Zf ci (cr rfl))))))))))))))))))))) (cr rfl)))) (by rfl), by rfl⟩)

theorem Zsk (a3 : Int) (N : Nat) (r : ZaU) (h : ZdP L0 L1 L2 a3 N = some r) : LSpec Tryz.prog 22 #[Value.agg (κc L0 L1 L2), vi a3] [] (ZpH r) (Zoe r) :=
 Zax ZB Tryz.func22 (by kernel_rfl) (by kernel_rfl) (fun r => by cases r <;> exact Zu _ rfl) (ZvY L0 L1 L2 a3 N) h

theorem ZtC (a3 : Int) (N : Nat) (r : ZaU) (h : ZdP L0 L1 L2 a3 N = some r) : LSpec Tryz.prog 22 #[Value.agg (κc L0 L1 L2), vi a3] [] (Zr5 r) (ZpI r) := by
 have h0 := Zsk L0 L1 L2 a3 N r h
 cases r with
 | r0 => exact (LSpec.nlv (v2 := Value.tuple κbs) h0 rfl rfl)
 | r1 _ _ _ _ _ _ => exact h0

end
theorem ZaI {L0 : List (List RI)} {L1 : List RL} {L2 : List RJ} {a3 : Int} {N : Nat} {r : ZaU} (h : ZdP L0 L1 L2 a3 N = some r) : LSpec Tryz.prog 22 #[Value.agg (κc L0 L1 L2), vi a3] [] (Zr5 r) (ZpI r) := ZtC L0 L1 L2 a3 N r h

noncomputable def ZpJ : Zdl → Value
 | .r0 w0 => Value.bool w0
noncomputable def ZnE : Zdl → List (Option AObj)
 | .r0 w0 => []

section
variable (a0 a1 : Int) (N : Nat)
theorem Zzg : Fx Tryz.prog Zg Tryz.f100 [] #[Value.agg #[vi a0, vi a1]] (ZpJ) (ZnE) (Za8 a0 a1 N) := by
 unfold Za8
 refine Ze (fun g0 => ?_) (fun g0 => ?_)
 ·
  exact fxC (Za (oq [1]) [] [] [] []) [] (vT) (hT g0 Zb) bE
 refine Ze (fun g1 => ?_) (fun g1 => ?_)
 ·
  refine Ze (fun g2 => ?_) (fun g2 => ?_)
  ·
   exact fxC (Za (oq [0, 3, 5]) [] [] [] []) [] (vT) (hT g2 <| hT g1 <| hF g0 Zb) bE
  refine Ze (fun g3 => ?_) (fun g3 => ?_)
  ·
   have w4 := kY (a1 ≥ 1048576) <| hF g2 <| hT g1 <| hF g0 Zb
   refine Ze (fun g4 => ?_) (fun _ => Zq)
   refine Ze (fun g5 => ?_) (fun g5 => ?_)
   ·
    refine Ze (fun g6 => ?_) (fun g6 => ?_)
    ·
     exact fxC (Za (oq [0, 3, 4, 7, 9, 11]) [(0, (a1 / 1048576)), (1, (a1 % 1048576))] [] [] []) [] (vT) (kY ((a1 % 1048576) ≥ 1) <| kM a1 1048576 <| hY g5 <| kV a1 1048576 w4) bE
    exact fxC (Za (oq [0, 3, 4, 7, 9, 10]) [(0, (a1 / 1048576)), (1, (a1 % 1048576))] [] [] []) [] (vf) (kN ((a1 % 1048576) ≥ 1) <| kM a1 1048576 <| hY g5 <| kV a1 1048576 w4) bE
   exact fxC (Za (oq [0, 3, 4, 7, 8]) [(0, (a1 / 1048576))] [] [] []) [] (vf) (hN g5 <| kV a1 1048576 w4) bE
  exact fxC (Za (oq [0, 3, 4, 6]) [] [] [] []) [] (vf) (kN (a1 ≥ 1048576) <| hF g2 <| hT g1 <| hF g0 Zb) bE
 exact fxC (Za (oq [0, 2]) [] [] [] []) [] (vf) (hF g1 <| hF g0 Zb) bE

theorem ZvZ (r : Zdl) (h : Za8 a0 a1 N = some r) : LSpec Tryz.prog 100 #[Value.agg #[vi a0, vi a1]] [] (ZpJ r) (ZnE r) :=
 Zax ZB Tryz.func100 (by kernel_rfl) (by kernel_rfl) (fun r => by cases r <;> exact Zu _ rfl) (Zzg a0 a1 N) h

end
theorem Zc {a0 a1 : Int} {N : Nat} {r : Zdl} (h : Za8 a0 a1 N = some r) : LSpec Tryz.prog 100 #[Value.agg #[vi a0, vi a1]] [] (ZpJ r) (ZnE r) := ZvZ a0 a1 N r h

noncomputable def ZpK : Zc3 → Value
 | .r0 w1 => Value.bool w1
noncomputable def Zof (L0 : List RG) (n1 n2 : Nat) (a3 a4 : Int) : Zc3 → List (Option AObj)
 | .r0 w1 => [some (.cells (Zd RA L0) 44 true)]

def Zwa : Zb4 → Nat
 | .h1m0 v3 => 1
noncomputable def ZxT (L0 : List RG) (n1 n2 : Nat) (a3 a4 : Int) : Zb4 → List (Nat × Value)
 | .h1m0 v3 => [(0, vs 0 0 n1 n2), (3, vp 1 0), (5, vi (v3 : Int))]
noncomputable def ZxU (L0 : List RG) (n1 n2 : Nat) (a3 a4 : Int) : Zb4 → List (Option AObj)
 | .h1m0 v3 => [some (.cells (Zd RA L0) 44 true), some (.cells [vi a3, vi a4] 44)]

noncomputable def Zfs : Nat → Code × List ZD
 | 1 => ZX [1, 0, 1, 3] (Zaw Tryz.f101) []
 | _ => (.skip, [])
def Zog : Nat → Bool
 | 1 => true
 | _ => true
noncomputable def ZxV (i : Nat) : List ZD := match Zog i with | true => .rnd i :: (Zfs i).2 | false => (Zfs i).2

section
variable (L0 : List RG) (n1 n2 : Nat) (a3 a4 : Int)
noncomputable def ZgK (N : Nat) : Mach := ⟨Tryz.f101, [.cells (Zd RA L0) 44 true], Zb4, Zc3, Zgj L0 n1 n2 a3 a4 N, Zwa, Zfs, Zog, ZxT L0 n1 n2 a3 a4, ZxU L0 n1 n2 a3 a4, ZpK, Zof L0 n1 n2 a3 a4⟩

theorem ZqS (v3 N : Nat) : (ZgK L0 n1 n2 a3 a4 N).Ok Tryz.prog Zg (.h1m0 v3 : Zb4) (Zgj L0 n1 n2 a3 a4 N (.h1m0 v3 : Zb4)) := by
 show (ZgK L0 n1 n2 a3 a4 N).Ok Tryz.prog Zg (.h1m0 v3 : Zb4) (ZhL L0 n1 n2 a3 a4 N v3)
 unfold ZhL
 refine ok_ite (fun g0 => ?_) fun g0 => ?_
 ·
  refine oi fun g1 => ?_
  have w2 := kLn RA L0 v3 0 2 <| kB v3 n1 <| kI (v3 : Int) (Int.ofNat v3) <| hY g0 Zb
  refine ok_ite (fun g2 => ?_) fun g2 => ?_
  ·
   exact okF (Za (oq [1, 3]) [] [(0, v3)] [(0, (RA.cel (L0.getD v3 RG.z)))] []) [0] (vT) (kZ (((L0.getD v3 RG.z).a0 == a3) && (((L0.getD v3 RG.z).a1 == a4) && true)) w2) (bQ <| bE)
  refine oi fun g3 => ?_
  exact okN (Za (oq [1, 2]) [(0, (((v3 + 1) : Nat) : Int))] [(0, v3)] [(0, (RA.cel (L0.getD v3 RG.z)))] []) [0, 1] [some (vs 0 0 n1 n2), some (vp 1 0), some (κ6 v3)] (kW ((v3 : Int) + 1) (((v3 + 1) : Nat) : Int) <| kO (((L0.getD v3 RG.z).a0 == a3) && (((L0.getD v3 RG.z).a1 == a4) && true)) w2) (tC (tC (tC (tE)))) (bQ <| bS [vi a3, vi a4] <| bE) (show 1 ∈ Zj (ZxV 1) from by decide +kernel)
 exact okF (Za (oq [0]) [] [] [] []) [0] (vf) (hN g0 Zb) (bQ <| bE)

theorem ZuB (N : Nat) : (ZgK L0 n1 n2 a3 a4 N).Enter Tryz.prog Zg #[vs 0 0 n1 n2, Value.agg #[vi a3, vi a4]] (ZjH L0 n1 n2 a3 a4 N) := by
 unfold ZjH
 exact enH (Zfs 1) (Za (oq []) [] [] [] []) [0, 1] [some (vs 0 0 n1 n2), some (vp 1 0), some (vq)] Zb (tC (tC (tC (tE) ⟨Eq.trans (show κn = vq from ci) (by rfl), by rfl⟩))) (bQ <| bS [vi a3, vi a4] <| bE) (show Zj (Zfs 1).2 = [] from rfl)

theorem Zsl (N : Nat) (r : Zc3) (h : Zjj L0 n1 n2 a3 a4 N = some r) : LSpec Tryz.prog 101 #[vs 0 0 n1 n2, Value.agg #[vi a3, vi a4]] [.cells (Zd RA L0) 44 true] (ZpK r) (Zof L0 n1 n2 a3 a4 r) :=
 Mach.spec ZB (ZgK L0 n1 n2 a3 a4 N) Tryz.func101 (by kernel_rfl) (by kernel_rfl) (fun x => by cases x <;> exact Zu _ rfl) (fun r => by cases r <;> exact Zu _ rfl) (fun x => by
  cases x with
  | h1m0 _ => exact fun _ => (show ¬ (1 ∈ Zj (Zfs 1).2) from by decide +kernel)
  ) (fun x => (show (ZgK L0 n1 n2 a3 a4 N).Ok Tryz.prog Zg x (Zgj L0 n1 n2 a3 a4 N x) from by
  cases x with
  | h1m0 v3 => exact ZqS L0 n1 n2 a3 a4 v3 N
  )) (ZuB L0 n1 n2 a3 a4 N) (n := N) h

end
noncomputable def ZhA {L0 : List RG} {n1 n2 : Nat} {a3 a4 : Int} {w1 : Bool} {N : Nat} (h : Zjj L0 n1 n2 a3 a4 N = some (.r0 w1)) (ks : List Nat) (n : Nat) : ToldS := ⟨#[vs (nth ks 0) 0 n1 n2, Value.agg #[vi a3, vi a4]], [((nth ks 0), .cells (Zd RA L0) 44 true)], Value.bool w1, [], 0⟩

theorem Zoh {L0 : List RG} {n1 n2 : Nat} {a3 a4 : Int} {w1 : Bool} {N : Nat} (h : Zjj L0 n1 n2 a3 a4 N = some (.r0 w1)) (ks : List Nat) (n : Nat) (hk : ks.length = 1 := by rfl) (hnd : ks.Nodup := by decide +kernel) (hlt : ∀ k ∈ ks, k < n := by decide +kernel) : (ZhA (N := N)  h ks n).P Tryz.prog 101 n :=
 match ks, hk, hnd, hlt with
 | [k0], _, hnd, hlt => ZcO (show LSpec Tryz.prog 101 #[vs 0 0 n1 n2, Value.agg #[vi a3, vi a4]] [.cells (Zd RA L0) 44 true] (Value.bool w1) [some (.cells (Zd RA L0) 44 true)] from Zsl L0 n1 n2 a3 a4 N _ h) _ n [] hnd hlt

noncomputable def Zlj : Zck → Value
 | .r0 w0 => Value.bool w0
noncomputable def ZjV : Zck → List (Option AObj)
 | .r0 w0 => []

def Zwb : Zb5 → Nat
 | .h1m0 v1 => 1
noncomputable def ZxW (L0 : List RJ) (a1 a2 : Int) : Zb5 → List (Nat × Value)
 | .h1m0 v1 => [(0, ms RC L0), (3, vp 0 0), (5, vi (v1 : Int))]
noncomputable def ZxX (L0 : List RJ) (a1 a2 : Int) : Zb5 → List (Option AObj)
 | .h1m0 v1 => [some (.cells [vi a1, vi a2] 44)]

noncomputable def Zft : Nat → Code × List ZD
 | 1 => ZX [1, 0, 1, 3] (Zaw Tryz.f102) []
 | _ => (.skip, [])
def Zoi : Nat → Bool
 | 1 => true
 | _ => true
noncomputable def ZxY (i : Nat) : List ZD := match Zoi i with | true => .rnd i :: (Zft i).2 | false => (Zft i).2

section
variable (L0 : List RJ) (a1 a2 : Int)
noncomputable def ZgL (N : Nat) : Mach := ⟨Tryz.f102, [], Zb5, Zck, Zgk L0 a1 a2 N, Zwb, Zft, Zoi, ZxW L0 a1 a2, ZxX L0 a1 a2, Zlj, ZjV⟩

theorem ZqT (v1 N : Nat) : (ZgL L0 a1 a2 N).Ok Tryz.prog Zg (.h1m0 v1 : Zb5) (Zgk L0 a1 a2 N (.h1m0 v1 : Zb5)) := by
 show (ZgL L0 a1 a2 N).Ok Tryz.prog Zg (.h1m0 v1 : Zb5) (ZhM L0 a1 a2 N v1)
 unfold ZhM
 refine ok_ite (fun g0 => ?_) fun g0 => ?_
 ·
  have w1 := kG RC L0 ((0 + (v1 * 8)) + 0) v1 0 2 8 <| kB v1 L0.length <| kI (v1 : Int) (Int.ofNat v1) <| hY g0 Zb
  refine ok_ite (fun g1 => ?_) fun g1 => ?_
  ·
   exact okF (Za (oq [1, 3]) [] [(0, v1)] [(0, [.i (L0.getD v1 RJ.z).a0, .i (L0.getD v1 RJ.z).a1])] []) [] (vT) (kZ (((L0.getD v1 RJ.z).a0 == a1) && (((L0.getD v1 RJ.z).a1 == a2) && true)) w1) bE
  refine oi fun g2 => ?_
  exact okN (Za (oq [1, 2]) [(0, (((v1 + 1) : Nat) : Int))] [(0, v1)] [(0, [.i (L0.getD v1 RJ.z).a0, .i (L0.getD v1 RJ.z).a1])] []) [0] [some (ms RC L0), some (vp 0 0), some (κw v1)] (kW ((v1 : Int) + 1) (((v1 + 1) : Nat) : Int) <| kO (((L0.getD v1 RJ.z).a0 == a1) && (((L0.getD v1 RJ.z).a1 == a2) && true)) w1) (tC (tC (tC (tE)))) (bS [vi a1, vi a2] <| bE) (show 1 ∈ Zj (ZxY 1) from by decide +kernel)
 exact okF (Za (oq [0]) [] [] [] []) [] (vf) (hN g0 Zb) bE

noncomputable abbrev κt := #[ms RC L0, Value.agg #[vi a1, vi a2]]
theorem ZuC (N : Nat) : (ZgL L0 a1 a2 N).Enter Tryz.prog Zg (κt L0 a1 a2) (ZjI L0 a1 a2 N) := by
 unfold ZjI
 exact enH (Zft 1) (Za (oq []) [] [] [] []) [0] [some (ms RC L0), some (vp 0 0), some (vq)] Zb (tC (tC (tC (tE) ⟨Eq.trans (show κn = vq from ci) (by rfl), by rfl⟩))) (bS [vi a1, vi a2] <| bE) (show Zj (Zft 1).2 = [] from rfl)

theorem Zsm (N : Nat) (r : Zck) (h : Zjk L0 a1 a2 N = some r) : LSpec Tryz.prog 102 (κt L0 a1 a2) [] (Zlj r) (ZjV r) :=
 Mach.spec ZB (ZgL L0 a1 a2 N) Tryz.func102 (by kernel_rfl) (by kernel_rfl) (fun x => by cases x <;> exact Zu _ rfl) (fun r => by cases r <;> exact Zu _ rfl) (fun x => by
  cases x with
  | h1m0 _ => exact fun _ => (show ¬ (1 ∈ Zj (Zft 1).2) from by decide +kernel)
  ) (fun x => (show (ZgL L0 a1 a2 N).Ok Tryz.prog Zg x (Zgk L0 a1 a2 N x) from by
  cases x with
  | h1m0 v1 => exact ZqT L0 a1 a2 v1 N
  )) (ZuC L0 a1 a2 N) (n := N) h

end
theorem Zdn {L0 : List RJ} {a1 a2 : Int} {N : Nat} {r : Zck} (h : Zjk L0 a1 a2 N = some r) : LSpec Tryz.prog 102 (κt L0 a1 a2) [] (Zlj r) (ZjV r) := Zsm L0 a1 a2 N r h

end Ev
end Go.Proofs.YthfohmhipifiaaaGreat
