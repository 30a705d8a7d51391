/- Part 7. -/
import Derived.Test.YthfohmhipifiaaaGreatZaf
set_option linter.unusedSimpArgs false
set_option linter.unusedVariables false
/- Calls do what the plain functions say. -/
namespace Go.Proofs.YthfohmhipifiaaaGreat
open Go.IntKind (i64)
open Go.RowKit
namespace Ev
open Mach (oi ok_ite ok_bind okF okN enF enH en_ite en_none en_bind)
set_option linter.unusedVariables false
set_option maxRecDepth 100000
noncomputable def ZpL : Zbo → Value
 | .r0 w1 => Value.bool w1
noncomputable def Zoj (L0 : List (List RI)) (L1 : List RL) (L2 : List RJ) (L3 : List RG) : Zbo → List (Option AObj)
 | .r0 w1 => [some (.cells (Zd RA L3) 44 true)]

def Zwc : Zb6 → Nat
 | .h1m0 v1 => 1
noncomputable def ZxZ (L0 : List (List RI)) (L1 : List RL) (L2 : List RJ) (L3 : List RG) : Zb6 → List (Nat × Value)
 | .h1m0 v1 => [(1, vs 0 0 L3.length L3.length), (2, vp 1 0), (5, vi (v1 : Int))]
section
variable (L0 : List (List RI)) (L1 : List RL) (L2 : List RJ) (L3 : List RG)
noncomputable def Zya : Zb6 → List (Option AObj)
 | .h1m0 v1 => [some (.cells (Zd RA L3) 44 true), some (.cells (κf L0 L1 L2) 34)]

noncomputable def Zfu : Nat → Code × List ZD
 | 1 => ZX [1, 0, 1, 3] (Zaw Tryz.f75) []
 | _ => (.skip, [])
def Zok : Nat → Bool
 | 1 => true
 | _ => true
noncomputable def Zyb (i : Nat) : List ZD := match Zok i with | true => .rnd i :: (Zfu i).2 | false => (Zfu i).2

noncomputable def ZgM (N : Nat) : Mach := ⟨Tryz.f75, [.cells (Zd RA L3) 44 true], Zb6, Zbo, Zgl L0 L1 L2 L3 N, Zwc, Zfu, Zok, ZxZ L0 L1 L2 L3, Zya L0 L1 L2 L3, ZpL, Zoj L0 L1 L2 L3⟩

theorem ZqU (v1 N : Nat) : (ZgM L0 L1 L2 L3 N).Ok Tryz.prog Zg (.h1m0 v1 : Zb6) (Zgl L0 L1 L2 L3 N (.h1m0 v1 : Zb6)) := by
 show (ZgM L0 L1 L2 L3 N).Ok Tryz.prog Zg (.h1m0 v1 : Zb6) (ZhN L0 L1 L2 L3 N v1)
 unfold ZhN
 refine ok_ite (fun g0 => ?_) fun g0 => ?_
 ·
  have w1 := kL RA L3 v1 0 1 <| kB v1 L3.length <| kI (v1 : Int) (Int.ofNat v1) <| hY g0 Zb
  refine ok_ite (fun g1 => ?_) fun g1 => ?_
  ·
   exact okF (Za (oq [1, 3]) [] [(0, v1)] [(0, [.i (L3.getD v1 RG.z).a0])] []) [0] (vf) (hD g1 w1) (bQ <| bE)
  have w2 := kLn RA L3 v1 0 2 <| kB v1 L3.length <| kI (v1 : Int) (Int.ofNat v1) <| kE ((L3.getD v1 RG.z).a0) 2 w1
  refine ok_bind fun z2 c2 => ?_
  cases z2 with
  | r0 y2_0 =>
   have w3 := kK (tQ (Zc c2) 2) w2
   refine ok_ite (fun g3 => ?_) fun g3 => ?_
   ·
    exact okF (Za (oq [1, 2, 5]) [] [(0, v1), (1, v1)] [(0, [.i (L3.getD v1 RG.z).a0]), (1, (RA.cel (L3.getD v1 RG.z)))] [(0, (tP (Zc c2)).t)]) [0] (vf) (kX ((!y2_0)) true nbt w3) (bQ <| bE)
   have w4 := kL RA L3 v1 1 1 <| kB v1 L3.length <| kI (v1 : Int) (Int.ofNat v1) <| kX ((!y2_0)) false nbf w3
   refine ok_ite (fun g4 => ?_) fun g4 => ?_
   ·
    exact okF (Za (oq [1, 2, 4, 7]) [] [(0, v1), (1, v1), (2, v1)] [(0, [.i (L3.getD v1 RG.z).a0]), (1, (RA.cel (L3.getD v1 RG.z))), (2, [.i (L3.getD v1 RG.z).a1])] [(0, (tP (Zc c2)).t)]) [0] (vf) (hT g4 w4) (bQ <| bE)
   have w5 := kLn RA L3 v1 0 2 <| kB v1 L3.length <| kI (v1 : Int) (Int.ofNat v1) <| kX (dP (0 ≤ v1 ∧ v1 ≤ L3.length)) true (Z1 ⟨ltA, ltA⟩) <| kI (v1 : Int) (Int.ofNat v1) <| kR 0 <| hF g4 w4
   refine ok_bind fun z5 c5 => ?_
   cases z5 with
   | r0 y5_0 =>
    refine ok_ite (fun g6 => ?_) fun g6 => ?_
    ·
     subst g6
     exact okF (Za (oq [1, 2, 4, 6]) [] [(0, v1), (1, v1), (2, v1), (3, v1)] [(0, [.i (L3.getD v1 RG.z).a0]), (1, (RA.cel (L3.getD v1 RG.z))), (2, [.i (L3.getD v1 RG.z).a1]), (3, (RA.cel (L3.getD v1 RG.z)))] [(0, (tP (Zc c2)).t), (1, .sl 0 v1), (2, (ZhA c5 [0] 2).t)]) [0] (vf) (kKb (A := #[Value.slice (some ⟨0, (0 + (0 * 2)), none⟩) (v1 - 0) (L3.length - 0), Value.agg #[vi (L3.getD v1 RG.z).a0, vi (L3.getD v1 RG.z).a1]]) (ZdG (Zf (Z0 eqA rfl rfl) (cr rfl))) (Zoh c5 [0] 2) <| kR (Zd RA L3) w5) (bQ <| bE)
    obtain rfl : y5_0 = false := by simpa using g6
    have w7 := kLn RA L3 v1 0 2 <| kB v1 L3.length <| kI (v1 : Int) (Int.ofNat v1) <| kKb (A := #[Value.slice (some ⟨0, (0 + (0 * 2)), none⟩) (v1 - 0) (L3.length - 0), Value.agg #[vi (L3.getD v1 RG.z).a0, vi (L3.getD v1 RG.z).a1]]) (ZdG (Zf (Z0 eqA rfl rfl) (cr rfl))) (Zoh c5 [0] 2) <| kR (Zd RA L3) w5
    refine ok_bind fun z7 c7 => ?_
    cases z7 with
    | r0 y7_0 =>
     refine ok_ite (fun g8 => ?_) fun g8 => ?_
     ·
      subst g8
      exact okF (Za (oq [1, 2, 4, 6]) [] [(0, v1), (1, v1), (2, v1), (3, v1), (4, v1)] [(0, [.i (L3.getD v1 RG.z).a0]), (1, (RA.cel (L3.getD v1 RG.z))), (2, [.i (L3.getD v1 RG.z).a1]), (3, (RA.cel (L3.getD v1 RG.z))), (5, (RA.cel (L3.getD v1 RG.z)))] [(0, (tP (Zc c2)).t), (1, .sl 0 v1), (2, (ZhA c5 [0] 2).t), (3, (tP (Zdn c7)).t)]) [0] (vf) (kK (tQ (Zdn c7) 2) w7) (bQ <| bE)
     obtain rfl : y7_0 = false := by simpa using g8
     refine oi fun g9 => ?_
     exact okN (Za (oq [1, 2, 4, 6]) [(0, (((v1 + 1) : Nat) : Int))] [(0, v1), (1, v1), (2, v1), (3, v1), (4, v1)] [(0, [.i (L3.getD v1 RG.z).a0]), (1, (RA.cel (L3.getD v1 RG.z))), (2, [.i (L3.getD v1 RG.z).a1]), (3, (RA.cel (L3.getD v1 RG.z))), (5, (RA.cel (L3.getD v1 RG.z)))] [(0, (tP (Zc c2)).t), (1, .sl 0 v1), (2, (ZhA c5 [0] 2).t), (3, (tP (Zdn c7)).t)]) [0, 1] [some (vs 0 0 L3.length L3.length), some (vp 1 0), some (κw v1)] (kW ((v1 : Int) + 1) (((v1 + 1) : Nat) : Int) <| kK (tQ (Zdn c7) 2) w7) (tC (tC (tC (tE)))) (bQ <| bS (κf L0 L1 L2) <| bE) (show 1 ∈ Zj (Zyb 1) from by decide +kernel)
 exact okF (Za (oq [0]) [] [] [] []) [0] (vT) (hN g0 Zb) (bQ <| bE)

theorem ZuD (N : Nat) : (ZgM L0 L1 L2 L3 N).Enter Tryz.prog Zg #[Value.agg (κc L0 L1 L2), vs 0 0 L3.length L3.length] (ZjJ L0 L1 L2 L3 N) := by
 unfold ZjJ
 exact enH (Zfu 1) (Za (oq []) [] [] [] []) [0, 1] [some (vs 0 0 L3.length L3.length), some (vp 1 0), some (vq)] Zb (tC (tC (tC (tE) ⟨Eq.trans (show κn = vq from ci) (by rfl), by rfl⟩))) (bQ <| bS (κf L0 L1 L2) <| bE) (show Zj (Zfu 1).2 = [] from rfl)

theorem Zsn (N : Nat) (r : Zbo) (h : Zea L0 L1 L2 L3 N = some r) : LSpec Tryz.prog 75 #[Value.agg (κc L0 L1 L2), vs 0 0 L3.length L3.length] [.cells (Zd RA L3) 44 true] (ZpL r) (Zoj L0 L1 L2 L3 r) :=
 Mach.spec ZB (ZgM L0 L1 L2 L3 N) Tryz.func75 (by kernel_rfl) (by kernel_rfl) (fun x => by cases x <;> exact Zu _ rfl) (fun r => by cases r <;> exact Zu _ rfl) (fun x => by
  cases x with
  | h1m0 _ => exact fun _ => (show ¬ (1 ∈ Zj (Zfu 1).2) from by decide +kernel)
  ) (fun x => (show (ZgM L0 L1 L2 L3 N).Ok Tryz.prog Zg x (Zgl L0 L1 L2 L3 N x) from by
  cases x with
  | h1m0 v1 => exact ZqU L0 L1 L2 L3 v1 N
  )) (ZuD L0 L1 L2 L3 N) (n := N) h

end
noncomputable def Ze4 {L0 : List (List RI)} {L1 : List RL} {L2 : List RJ} {L3 : List RG} {w1 : Bool} {N : Nat} (h : Zea L0 L1 L2 L3 N = some (.r0 w1)) (ks : List Nat) (n : Nat) : ToldS := ⟨#[Value.agg (κc L0 L1 L2), vs (nth ks 0) 0 L3.length L3.length], [((nth ks 0), .cells (Zd RA L3) 44 true)], Value.bool w1, [], 0⟩

theorem Zwd {L0 : List (List RI)} {L1 : List RL} {L2 : List RJ} {L3 : List RG} {w1 : Bool} {N : Nat} (h : Zea L0 L1 L2 L3 N = some (.r0 w1)) (ks : List Nat) (n : Nat) (hk : ks.length = 1 := by rfl) (hnd : ks.Nodup := by decide +kernel) (hlt : ∀ k ∈ ks, k < n := by decide +kernel) : (Ze4 (N := N)  h ks n).P Tryz.prog 75 n :=
 match ks, hk, hnd, hlt with
 | [k0], _, hnd, hlt => ZcO (show LSpec Tryz.prog 75 #[Value.agg (κc L0 L1 L2), vs 0 0 L3.length L3.length] [.cells (Zd RA L3) 44 true] (Value.bool w1) [some (.cells (Zd RA L3) 44 true)] from Zsn L0 L1 L2 L3 N _ h) _ n [] hnd hlt

noncomputable def Zmo : ZbA → Value
 | .r0 w0 => vi w0
noncomputable def Zlk : ZbA → List (Option AObj)
 | .r0 w0 => []

def Zyc : ZaK → Nat
 | .h1m0 v1 v2 => 1
section
variable (L0 : List RI)
noncomputable def Zzh (a1 : Int) : ZaK → List (Nat × Value)
 | .h1m0 v1 v2 => [(0, ms RB L0), (5, vi (v1 : Int)), (6, vi v2)]
noncomputable def Zzi (L0 : List RI) (a1 : Int) : ZaK → List (Option AObj)
 | .h1m0 v1 v2 => []

noncomputable def Zed : Nat → Code × List ZD
 | 1 => ZX [1, 1, 3, 1, 4, 1, 0, 1, 3] (Zaw Tryz.f148) []
 | _ => (.skip, [])
def ZpM : Nat → Bool
 | 1 => true
 | _ => true
noncomputable def Zhx (i : Nat) : List ZD := match ZpM i with | true => .rnd i :: (Zed i).2 | false => (Zed i).2

noncomputable def Zhy (a1 : Int) (N : Nat) : Mach := ⟨Tryz.f148, [], ZaK, ZbA, Zhb L0 a1 N, Zyc, Zed, ZpM, Zzh L0 a1, Zzi L0 a1, Zmo, Zlk⟩

theorem Zso (a1 : Int) (v1 : Nat) (v2 : Int) (N : Nat) : (Zhy L0 a1 N).Ok Tryz.prog Zg (.h1m0 v1 v2 : ZaK) (Zhb L0 a1 N (.h1m0 v1 v2 : ZaK)) := by
 show (Zhy L0 a1 N).Ok Tryz.prog Zg (.h1m0 v1 v2 : ZaK) (Ziu L0 a1 N v1 v2)
 unfold Ziu
 refine ok_ite (fun g0 => ?_) fun g0 => ?_
 ·
  refine ok_ite (fun g1 => ?_) fun g1 => ?_
  ·
   refine oi fun g2 => ?_
   have w3 := kG RB L0 ((0 + ((v2).toNat * 4)) + 0) ((v2).toNat) 0 1 4 <| kB (v2).toNat L0.length <| kI v2 (Int.ofNat (v2).toNat) <| hT g1 <| hY g0 Zb
   refine ok_ite (fun g3 => ?_) fun g3 => ?_
   ·
    exact okF (Za (oq [1, 3, 5]) [] [(0, (v2).toNat)] [(0, [.i (L0.getD (v2).toNat RI.z).a0])] []) [] (vi v2) (hT g3 w3) bE
   have w4 := kG RB L0 ((0 + ((v2).toNat * 4)) + 0) ((v2).toNat) 0 1 4 <| kB (v2).toNat L0.length <| kI v2 (Int.ofNat (v2).toNat) <| hF g3 w3
   refine ok_ite (fun g4 => ?_) fun g4 => ?_
   ·
    exact okF (Za (oq [1, 3, 4, 7]) [] [(0, (v2).toNat), (1, (v2).toNat)] [(0, [.i (L0.getD (v2).toNat RI.z).a0]), (1, [.i (L0.getD (v2).toNat RI.z).a0])] []) [] (vi v2) (hT g4 w4) bE
   have w5 := kG RB L0 ((0 + ((v2).toNat * 4)) + 0) ((v2).toNat) 0 1 4 <| kB (v2).toNat L0.length <| kI v2 (Int.ofNat (v2).toNat) <| hF g4 w4
   refine ok_ite (fun g5 => ?_) fun g5 => ?_
   ·
    exact okN (Za (oq [1, 3, 4, 6, 9, 10]) [(0, (((v1 + 1) : Nat) : Int))] [(0, (v2).toNat), (1, (v2).toNat), (2, (v2).toNat), (3, (v2).toNat)] [(0, [.i (L0.getD (v2).toNat RI.z).a0]), (1, [.i (L0.getD (v2).toNat RI.z).a0]), (2, [.i (L0.getD (v2).toNat RI.z).a0]), (3, [.i (L0.getD (v2).toNat RI.z).a0])] []) [] [some (ms RB L0), some (κw v1), some (vi (i64.wrap (v2 + 1)))] (hF g3 <| kG RB L0 ((0 + ((v2).toNat * 4)) + 0) ((v2).toNat) 0 1 4 <| kB (v2).toNat L0.length <| kI v2 (Int.ofNat (v2).toNat) <| kW ((v1 : Int) + 1) (((v1 + 1) : Nat) : Int) <| hT g5 w5) (tC (tC (tC (tE)))) bE (show 1 ∈ Zj (Zhx 1) from by decide +kernel)
   exact okN (Za (oq [1, 3, 4, 6, 8, 10]) [] [(0, (v2).toNat), (1, (v2).toNat), (2, (v2).toNat), (3, (v2).toNat)] [(0, [.i (L0.getD (v2).toNat RI.z).a0]), (1, [.i (L0.getD (v2).toNat RI.z).a0]), (2, [.i (L0.getD (v2).toNat RI.z).a0]), (3, [.i (L0.getD (v2).toNat RI.z).a0])] []) [] [some (ms RB L0), some (vi (v1 : Int)), some (vi (i64.wrap (v2 + 1)))] (hF g3 <| kG RB L0 ((0 + ((v2).toNat * 4)) + 0) ((v2).toNat) 0 1 4 <| kB (v2).toNat L0.length <| kI v2 (Int.ofNat (v2).toNat) <| hF g5 w5) (tC (tC (tC (tE)))) bE (show 1 ∈ Zj (Zhx 1) from by decide +kernel)
  refine oi fun g2 => ?_
  have w3 := kG RB L0 ((0 + ((v2).toNat * 4)) + 0) ((v2).toNat) 0 1 4 <| kB (v2).toNat L0.length <| kI v2 (Int.ofNat (v2).toNat) <| hF g1 <| hY g0 Zb
  refine ok_ite (fun g3 => ?_) fun g3 => ?_
  ·
   refine oi fun g4 => ?_
   exact okN (Za (oq [1, 2, 5, 6]) [(0, (((v1 + 1) : Nat) : Int))] [(0, (v2).toNat), (1, (v2).toNat)] [(0, [.i (L0.getD (v2).toNat RI.z).a0]), (1, [.i (L0.getD (v2).toNat RI.z).a0])] []) [] [some (ms RB L0), some (κw v1), some (vi (i64.wrap (v2 + 1)))] (kF ((L0.getD (v2).toNat RI.z).a0) 17 <| kG RB L0 ((0 + ((v2).toNat * 4)) + 0) ((v2).toNat) 0 1 4 <| kB (v2).toNat L0.length <| kI v2 (Int.ofNat (v2).toNat) <| kW ((v1 : Int) + 1) (((v1 + 1) : Nat) : Int) <| hT g3 w3) (tC (tC (tC (tE)))) bE (show 1 ∈ Zj (Zhx 1) from by decide +kernel)
  have w4 := kG RB L0 ((0 + ((v2).toNat * 4)) + 0) ((v2).toNat) 0 1 4 <| kB (v2).toNat L0.length <| kI v2 (Int.ofNat (v2).toNat) <| hF g3 w3
  refine ok_ite (fun g4 => ?_) fun g4 => ?_
  ·
   refine oi fun g5 => ?_
   exact okN (Za (oq [1, 2, 4, 7]) [(0, (((v1 - 1) : Nat) : Int))] [(0, (v2).toNat), (1, (v2).toNat)] [(0, [.i (L0.getD (v2).toNat RI.z).a0]), (1, [.i (L0.getD (v2).toNat RI.z).a0])] []) [] [some (ms RB L0), some (vi (((v1 - 1) : Nat) : Int)), some (vi (i64.wrap (v2 + 1)))] (kW ((v1 : Int) - 1) (((v1 - 1) : Nat) : Int) <| hT g4 w4) (tC (tC (tC (tE)))) bE (show 1 ∈ Zj (Zhx 1) from by decide +kernel)
  exact okN (Za (oq [1, 2, 4, 6]) [] [(0, (v2).toNat), (1, (v2).toNat)] [(0, [.i (L0.getD (v2).toNat RI.z).a0]), (1, [.i (L0.getD (v2).toNat RI.z).a0])] []) [] [some (ms RB L0), some (vi (v1 : Int)), some (vi (i64.wrap (v2 + 1)))] (hF g4 w4) (tC (tC (tC (tE)))) bE (show 1 ∈ Zj (Zhx 1) from by decide +kernel)
 exact okF (Za (oq [0]) [] [] [] []) [] (vi (-1 : Int)) (hN g0 Zb) bE

theorem Zwe (a1 : Int) (N : Nat) : (Zhy L0 a1 N).Enter Tryz.prog Zg #[ms RB L0, vi a1] (ZkR L0 a1 N) := by
 unfold ZkR
 refine en_ite (fun g0 => ?_) (fun _ => en_none)
 refine en_ite (fun g1 => ?_) (fun _ => en_none)
 have w2 := kG RB L0 ((0 + (a1.toNat * 4)) + 0) (a1.toNat) 0 1 4 <| kB a1.toNat L0.length <| kI a1 (Int.ofNat a1.toNat) Zb
 refine en_ite (fun g2 => ?_) (fun g2 => ?_)
 ·
  exact enH (Zed 1) (Za (oq [1]) [] [(0, a1.toNat)] [(0, [.i (L0.getD a1.toNat RI.z).a0])] []) [] [some (ms RB L0), some (vq), some (vi (i64.wrap (a1 + 1)))] (hT g2 w2) (tC (tC (tC (tE)) ⟨Eq.trans (show κn = vq from ci) (by rfl), by rfl⟩)) bE (show Zj (Zed 1).2 = [] from rfl)
 refine en_ite (fun g3 => ?_) (fun g3 => ?_)
 ·
  exact enH (Zed 1) (Za (oq [0, 3]) [] [(0, a1.toNat)] [(0, [.i (L0.getD a1.toNat RI.z).a0])] []) [] [some (ms RB L0), some (vq), some (vi (i64.wrap (a1 + 1)))] (hT g3 <| hF g2 w2) (tC (tC (tC (tE)) ⟨Eq.trans (show κn = vq from ci) (by rfl), by rfl⟩)) bE (show Zj (Zed 1).2 = [] from rfl)
 refine en_ite (fun g4 => ?_) (fun g4 => ?_)
 ·
  refine en_bind (fun z5 c5 => ?_)
  cases z5 with
  | r0 y5_0 y5_1 =>
   exact enF (Za (oq [0, 2, 5]) [] [(0, a1.toNat)] [(0, [.i (L0.getD a1.toNat RI.z).a0])] [(0, (tP (Za2 c5)).t)]) [] (vi y5_0) (kK (tQ (Za2 c5) 0) <| hT g4 <| hF g3 <| hF g2 w2) bE
 exact enF (Za (oq [0, 2, 4]) [] [(0, a1.toNat)] [(0, [.i (L0.getD a1.toNat RI.z).a0])] []) [] (vi (-1 : Int)) (hF g4 <| hF g3 <| hF g2 w2) bE

theorem ZtD (a1 : Int) (N : Nat) (r : ZbA) (h : Zkq L0 a1 N = some r) : LSpec Tryz.prog 148 #[ms RB L0, vi a1] [] (Zmo r) (Zlk r) :=
 Mach.spec ZB (Zhy L0 a1 N) Tryz.func148 (by kernel_rfl) (by kernel_rfl) (fun x => by cases x <;> exact Zu _ rfl) (fun r => by cases r <;> exact Zu _ rfl) (fun x => by
  cases x with
  | h1m0 _ _ => exact fun _ => (show ¬ (1 ∈ Zj (Zed 1).2) from by decide +kernel)
  ) (fun x => (show (Zhy L0 a1 N).Ok Tryz.prog Zg x (Zhb L0 a1 N x) from by
  cases x with
  | h1m0 v1 v2 => exact Zso L0 a1 v1 v2 N
  )) (Zwe L0 a1 N) (n := N) h

theorem ZiI {L0 : List RI} {a1 : Int} {N : Nat} {r : ZbA} (h : Zkq L0 a1 N = some r) : LSpec Tryz.prog 148 #[ms RB L0, vi a1] [] (Zmo r) (Zlk r) := ZtD L0 a1 N r h

noncomputable def Zol : ZaQ → Value
 | .r0 w0 => Value.tuple #[vn, vi w0]
 | .r1 w0 => Value.tuple #[vs 0 0 w0.length w0.length, vq]
noncomputable def ZmU : ZaQ → List (Option AObj)
 | .r0 w0 => []
 | .r1 w0 => [some (.cells (Zd eI w0) 3)]

noncomputable def ZpN : ZaQ → Value
 | .r0 w0 => Value.tuple #[vn, vi w0]
 | .r1 w0 => Value.tuple #[ms eI w0, vq]
noncomputable def Zom : ZaQ → List (Option AObj)
 | .r0 w0 => []
 | .r1 w0 => []

def Zwf : ZaA → Nat
 | .h1m0 => 1
 | .h1m1 v1 v2 => 1
noncomputable def Zyd : ZaA → List (Nat × Value)
 | .h1m0 => [(0, ms RB L0), (5, vn), (6, vq)]
 | .h1m1 v1 v2 => [(0, ms RB L0), (5, vs 0 0 v1.length v1.length), (6, vi (v2 : Int))]
noncomputable def Zye (L0 : List RI) : ZaA → List (Option AObj)
 | .h1m0 => []
 | .h1m1 v1 v2 => [some (.cells (Zd eI v1) 3)]

noncomputable def Zeu : Nat → Code × List ZD
 | 1 => ZX [1, 1, 1, 1, 0, 1, 3] (Zaw Tryz.f136) []
 | _ => (.skip, [])
def Zon : Nat → Bool
 | 1 => true
 | _ => true
noncomputable def ZpO (i : Nat) : List ZD := match Zon i with | true => .rnd i :: (Zeu i).2 | false => (Zeu i).2

noncomputable def Zev (N : Nat) : Mach := ⟨Tryz.f136, [], ZaA, ZaQ, ZeO L0 N, Zwf, Zeu, Zon, Zyd L0, Zye L0, Zol, ZmU⟩

theorem ZqV (N : Nat) : (Zev L0 N).Ok Tryz.prog Zg (.h1m0 : ZaA) (ZeO L0 N (.h1m0 : ZaA)) := by
 show (Zev L0 N).Ok Tryz.prog Zg (.h1m0 : ZaA) (ZhO L0 N)
 unfold ZhO
 refine ok_ite (fun g0 => ?_) fun g0 => ?_
 ·
  refine ok_bind fun z1 c1 => ?_
  cases z1 with
  | r0 y1_0 =>
   exact okN (Za (oq [1]) [] [] [] [(0, (tP (ZiI c1)).t)]) [1] [some (ms RB L0), some (vs 1 0 1 1), some (vi 1)] (kK (tQ (ZiI c1) 0) <| hY g0 Zb) (tC (tC (tC (tE) ⟨Eq.trans (show κP = vi 1 from ci) (by rfl), by rfl⟩) ⟨Eq.trans (show (vs 0 0 ([y1_0] : List Int).length ([y1_0] : List Int).length : Value) = vs 0 0 1 1 from (Z0 rfl eqA eqA)) (by rfl), by rfl⟩)) (bC (o := .cells [vi y1_0] 3) (Zae (E := eI) _ (L := ([y1_0] : List Int)) _ (show ([vi y1_0] : List Value) = Zd eI ([y1_0] : List Int) from rfl)) <| bE) (show 1 ∈ Zj (ZpO 1) from by decide +kernel)
 exact okF (Za (oq [0]) [] [] [] []) [] (Value.tuple #[vn, vq]) (hN g0 Zb) bE

theorem ZqW (v1 : List Int) (v2 N : Nat) : (Zev L0 N).Ok Tryz.prog Zg (.h1m1 v1 v2 : ZaA) (ZeO L0 N (.h1m1 v1 v2 : ZaA)) := by
 show (Zev L0 N).Ok Tryz.prog Zg (.h1m1 v1 v2 : ZaA) (ZhP L0 N v1 v2)
 unfold ZhP
 refine ok_ite (fun g0 => ?_) fun g0 => ?_
 ·
  refine ok_bind fun z1 c1 => ?_
  cases z1 with
  | r0 y1_0 =>
   refine oi fun g2 => ?_
   refine oi fun g3 => ?_
   exact okN (Za (oq [1]) [(0, (((v2 + 1) : Nat) : Int))] [] [] [(0, (tP (ZiI c1)).t), (1, .ap 1 [vi y1_0] (Zd eI (v1 ++ ([y1_0] : List Int))))]) [2] [some (ms RB L0), some (vs 2 0 (v1.length + 1) (v1.length + 1)), some (κB v2)] (kW ((v2 : Int) + 1) (((v2 + 1) : Nat) : Int) <| kA eI v1 y1_0 <| kK (tQ (ZiI c1) 1) <| hY g0 Zb) (tC (tC (tC (tE)) ⟨Eq.trans (show (vs 0 0 (v1 ++ ([y1_0] : List Int)).length (v1 ++ ([y1_0] : List Int)).length : Value) = vs 0 0 (v1.length + 1) (v1.length + 1) from (Z0 rfl eqA eqA)) (by rfl), by rfl⟩)) (bR <| bE) (show 1 ∈ Zj (ZpO 1) from by decide +kernel)
 exact okF (Za (oq [0]) [] [] [] []) [0] (Value.tuple #[vs 0 0 v1.length v1.length, vq]) (hN g0 Zb) (bR <| bE)

theorem ZuE (N : Nat) : (Zev L0 N).Enter Tryz.prog Zg #[ms RB L0] (ZfO L0 N) := by
 unfold ZfO
 refine en_bind (fun z0 c0 => ?_)
 cases z0 with
 | r0 y0_0 =>
  refine en_ite (fun g1 => ?_) (fun g1 => ?_)
  ·
   exact enF (Za (oq [1]) [] [] [] [(0, (tP (Zb2 c0)).t)]) [] (Value.tuple #[vn, vi y0_0]) (hD g1 <| kK (tQ (Zb2 c0) 0) Zb) bE
  exact enH (Zeu 1) (Za (oq [0]) [] [] [] [(0, (tP (Zb2 c0)).t)]) [] [some (ms RB L0), some (vn), some (vq)] (kE y0_0 0 <| kK (tQ (Zb2 c0) 0) Zb) (tC (tC (tC (tE)))) bE (show Zj (Zeu 1).2 = [] from rfl)

theorem ZqX (N : Nat) (r : ZaQ) (h : ZeX L0 N = some r) : LSpec Tryz.prog 136 #[ms RB L0] [] (Zol r) (ZmU r) :=
 Mach.spec ZB (Zev L0 N) Tryz.func136 (by kernel_rfl) (by kernel_rfl) (fun x => by cases x <;> exact Zu _ rfl) (fun r => by cases r <;> exact Zu _ rfl) (fun x => by
  cases x with
  | h1m0 => exact fun _ => (show ¬ (1 ∈ Zj (Zeu 1).2) from by decide +kernel)
  | h1m1 _ _ => exact fun _ => (show ¬ (1 ∈ Zj (Zeu 1).2) from by decide +kernel)
  ) (fun x => (show (Zev L0 N).Ok Tryz.prog Zg x (ZeO L0 N x) from by
  cases x with
  | h1m0 => exact ZqV L0 N
  | h1m1 v1 v2 => exact ZqW L0 v1 v2 N
  )) (ZuE L0 N) (n := N) h

theorem Zsp (N : Nat) (r : ZaQ) (h : ZeX L0 N = some r) : LSpec Tryz.prog 136 #[ms RB L0] [] (ZpN r) (Zom r) := by
 have h0 := ZqX L0 N r h
 cases r with
 | r0 _ => exact h0
 | r1 w0 => exact (LSpec.frzv (E := eI) (L := w0) (post := []) (v2 := Value.tuple #[ms eI w0, vq]) h0 (show 0 ≤ 0 from by decide) (show 0 < 1000000000 from by decide) trivial rfl rfl rfl)

end
theorem Zoo {L0 : List RI} {N : Nat} {r : ZaQ} (h : ZeX L0 N = some r) : LSpec Tryz.prog 136 #[ms RB L0] [] (ZpN r) (Zom r) := Zsp L0 N r h

noncomputable def ZmV : ZbR → Value
 | .r0 w1 => Value.bool w1
noncomputable def ZlG (L0 : List RG) (a1 a2 : Int) : ZbR → List (Option AObj)
 | .r0 w1 => [some (.cells (Zd RA L0) 44 true)]

def ZtE : ZaY → Nat
 | .h1m0 v1 => 1
noncomputable def ZuF (L0 : List RG) (a1 a2 : Int) : ZaY → List (Nat × Value)
 | .h1m0 v1 => [(0, vs 0 0 L0.length L0.length), (3, vp 1 0), (5, vi (v1 : Int))]
section
variable (L0 : List RG) (a1 a2 : Int)
noncomputable def ZuG : ZaY → List (Option AObj)
 | .h1m0 v1 => [some (.cells (Zd RA L0) 44 true), some (.cells [vi a1, vi a2] 44)]

noncomputable def Zeh : Nat → Code × List ZD
 | 1 => ZX [1, 0, 1, 3] (Zaw Tryz.f101) []
 | _ => (.skip, [])
def ZlH : Nat → Bool
 | 1 => true
 | _ => true
noncomputable def ZuH (i : Nat) : List ZD := match ZlH i with | true => .rnd i :: (Zeh i).2 | false => (Zeh i).2

noncomputable def Zfv (N : Nat) : Mach := ⟨Tryz.f101, [.cells (Zd RA L0) 44 true], ZaY, ZbR, Zfe L0 a1 a2 N, ZtE, Zeh, ZlH, ZuF L0 a1 a2, ZuG L0 a1 a2, ZmV, ZlG L0 a1 a2⟩

theorem ZoE (v1 N : Nat) : (Zfv L0 a1 a2 N).Ok Tryz.prog Zg (.h1m0 v1 : ZaY) (Zfe L0 a1 a2 N (.h1m0 v1 : ZaY)) := by
 show (Zfv L0 a1 a2 N).Ok Tryz.prog Zg (.h1m0 v1 : ZaY) (Zg9 L0 a1 a2 N v1)
 unfold Zg9
 refine ok_ite (fun g0 => ?_) fun g0 => ?_
 ·
  have w1 := kLn RA L0 v1 0 2 <| kB v1 L0.length <| kI (v1 : Int) (Int.ofNat v1) <| hY g0 Zb
  refine ok_ite (fun g1 => ?_) fun g1 => ?_
  ·
   exact okF (Za (oq [1, 3]) [] [(0, v1)] [(0, (RA.cel (L0.getD v1 RG.z)))] []) [0] (vT) (kZ (((L0.getD v1 RG.z).a0 == a1) && (((L0.getD v1 RG.z).a1 == a2) && true)) w1) (bQ <| bE)
  refine oi fun g2 => ?_
  exact okN (Za (oq [1, 2]) [(0, (((v1 + 1) : Nat) : Int))] [(0, v1)] [(0, (RA.cel (L0.getD v1 RG.z)))] []) [0, 1] [some (vs 0 0 L0.length L0.length), some (vp 1 0), some (κw v1)] (kW ((v1 : Int) + 1) (((v1 + 1) : Nat) : Int) <| kO (((L0.getD v1 RG.z).a0 == a1) && (((L0.getD v1 RG.z).a1 == a2) && true)) w1) (tC (tC (tC (tE)))) (bQ <| bS [vi a1, vi a2] <| bE) (show 1 ∈ Zj (ZuH 1) from by decide +kernel)
 exact okF (Za (oq [0]) [] [] [] []) [0] (vf) (hN g0 Zb) (bQ <| bE)

noncomputable abbrev κ3 := #[vs 0 0 L0.length L0.length, Value.agg #[vi a1, vi a2]]
theorem Zsq (N : Nat) : (Zfv L0 a1 a2 N).Enter Tryz.prog Zg (κ3 L0 a1 a2) (Ziv L0 a1 a2 N) := by
 unfold Ziv
 exact enH (Zeh 1) (Za (oq []) [] [] [] []) [0, 1] [some (vs 0 0 L0.length L0.length), some (vp 1 0), some (vq)] Zb (tC (tC (tC (tE) ⟨Eq.trans (show κn = vq from ci) (by rfl), by rfl⟩))) (bQ <| bS [vi a1, vi a2] <| bE) (show Zj (Zeh 1).2 = [] from rfl)

theorem ZpP (N : Nat) (r : ZbR) (h : Zh7 L0 a1 a2 N = some r) : LSpec Tryz.prog 101 (κ3 L0 a1 a2) [.cells (Zd RA L0) 44 true] (ZmV r) (ZlG L0 a1 a2 r) :=
 Mach.spec ZB (Zfv L0 a1 a2 N) Tryz.func101 (by kernel_rfl) (by kernel_rfl) (fun x => by cases x <;> exact Zu _ rfl) (fun r => by cases r <;> exact Zu _ rfl) (fun x => by
  cases x with
  | h1m0 _ => exact fun _ => (show ¬ (1 ∈ Zj (Zeh 1).2) from by decide +kernel)
  ) (fun x => (show (Zfv L0 a1 a2 N).Ok Tryz.prog Zg x (Zfe L0 a1 a2 N x) from by
  cases x with
  | h1m0 v1 => exact ZoE L0 a1 a2 v1 N
  )) (Zsq L0 a1 a2 N) (n := N) h

end
noncomputable def Zgq {L0 : List RG} {a1 a2 : Int} {w1 : Bool} {N : Nat} (h : Zh7 L0 a1 a2 N = some (.r0 w1)) (ks : List Nat) (n : Nat) : ToldS := ⟨#[vs (nth ks 0) 0 L0.length L0.length, Value.agg #[vi a1, vi a2]], [((nth ks 0), .cells (Zd RA L0) 44 true)], Value.bool w1, [], 0⟩

theorem ZlI {L0 : List RG} {a1 a2 : Int} {w1 : Bool} {N : Nat} (h : Zh7 L0 a1 a2 N = some (.r0 w1)) (ks : List Nat) (n : Nat) (hk : ks.length = 1 := by rfl) (hnd : ks.Nodup := by decide +kernel) (hlt : ∀ k ∈ ks, k < n := by decide +kernel) : (Zgq (N := N)  h ks n).P Tryz.prog 101 n :=
 match ks, hk, hnd, hlt with
 | [k0], _, hnd, hlt => ZcO (show LSpec Tryz.prog 101 (κ3 L0 a1 a2) [.cells (Zd RA L0) 44 true] (Value.bool w1) [some (.cells (Zd RA L0) 44 true)] from ZpP L0 a1 a2 N _ h) _ n [] hnd hlt

noncomputable def Zr6 : Zc4 → Value
 | .r0 w1 w2 w3 => Value.tuple #[Value.agg #[vi w1, vi w2], vi w3]
noncomputable def ZpQ (L0 : List RJ) (L1 : List RG) (a2 : Int) (L3 : List RG) (a4 a5 : Int) (L6 : List RG) : Zc4 → List (Option AObj)
 | .r0 w1 w2 w3 => [some (.cells (Zd RA L6) 44 true)]

def Zyf : ZbB → Nat
 | .h1m0 v1 => 1
noncomputable def Zzj (L0 : List RJ) (L1 : List RG) (a2 : Int) (L3 : List RG) (a4 a5 : Int) (L6 : List RG) : ZbB → List (Nat × Value)
 | .h1m0 v1 => [(1, vs 0 0 L6.length L6.length), (2, vp 1 0), (4, vp 2 0), (6, vi v1)]
noncomputable abbrev κp (a2 : Int) (L3 : List RG) (a4 a5 : Int) := [vi a2, ms RA L3, vi a4, vi a5]
section
variable (L0 : List RJ) (L1 : List RG) (a2 : Int) (L3 : List RG) (a4 a5 : Int)
noncomputable def Zzk (L6 : List RG) : ZbB → List (Option AObj)
 | .h1m0 v1 => [some (.cells (Zd RA L6) 44 true), some (.cells (ZaM RA 8 [ms RC L0] L1 (κp a2 L3 a4 a5)) 153), some (.cells [vq, vq] 44)]

noncomputable def Zga : Nat → Code × List ZD
 | 1 => ZX [1, 1, 0, 1, 3] (Zaw Tryz.f126) []
 | _ => (.skip, [])
def ZpR : Nat → Bool
 | 1 => true
 | _ => true
noncomputable def Zr7 (i : Nat) : List ZD := match ZpR i with | true => .rnd i :: (Zga i).2 | false => (Zga i).2

noncomputable def Zhz (L6 : List RG) (N : Nat) : Mach := ⟨Tryz.f126, [.cells (Zd RA L6) 44 true], ZbB, Zc4, Zhc L0 L1 a2 L3 a4 a5 L6 N, Zyf, Zga, ZpR, Zzj L0 L1 a2 L3 a4 a5 L6, Zzk L0 L1 a2 L3 a4 a5 L6, Zr6, ZpQ L0 L1 a2 L3 a4 a5 L6⟩

theorem Zsr (L6 : List RG) (v1 : Int) (N : Nat) : (Zhz L0 L1 a2 L3 a4 a5 L6 N).Ok Tryz.prog Zg (.h1m0 v1 : ZbB) (Zhc L0 L1 a2 L3 a4 a5 L6 N (.h1m0 v1 : ZbB)) := by
 show (Zhz L0 L1 a2 L3 a4 a5 L6 N).Ok Tryz.prog Zg (.h1m0 v1 : ZbB) (Ziw L0 L1 a2 L3 a4 a5 L6 N v1)
 unfold Ziw
 refine ok_ite (fun g0 => ?_) fun g0 => ?_
 ·
  refine ok_bind fun z1 c1 => ?_
  cases z1 with
  | r0 y1_0 =>
   refine ok_ite (fun g2 => ?_) fun g2 => ?_
   ·
    have w3 := kX ((!y1_0)) true nbt <| kK (ZlI c1 [0] 4) <| hY g0 Zb
    refine ok_bind fun z3 c3 => ?_
    cases z3 with
    | r0 y3_0 =>
     refine ok_ite (fun g4 => ?_) fun g4 => ?_
     ·
      exact okF (Za (oq [1, 3, 5]) [] [] [] [(1, (Zgq c1 [0] 4).t), (2, (tP (Zdn c3)).t)]) [0] (Value.tuple #[Value.agg #[vi 2, vi (i64.wrap ((1125899907891199 : Int) - v1))], vi (i64.wrap (v1 + 1))]) (kX ((!y3_0)) true nbt <| kK (tQ (Zdn c3) 4) w3) (bQ <| bE)
     exact okN (Za (oq [1, 3, 4]) [] [] [] [(1, (Zgq c1 [0] 4).t), (2, (tP (Zdn c3)).t)]) [0, 1, 2] [some (vs 0 0 L6.length L6.length), some (vp 1 0), some (vp 2 0), some (vi (i64.wrap (v1 + 1)))] (kX ((!y3_0)) false nbf <| kK (tQ (Zdn c3) 4) w3) (tC (tC (tC (tC (tE))))) (bQ <| bM (.cells (ZaM RA 8 [ms RC L0] L1 (κp a2 L3 a4 a5)) 153) <| bS [vq, vq] <| bE) (show 1 ∈ Zj (Zr7 1) from by decide +kernel)
   exact okN (Za (oq [1, 2]) [] [] [] [(1, (Zgq c1 [0] 4).t)]) [0, 1, 2] [some (vs 0 0 L6.length L6.length), some (vp 1 0), some (vp 2 0), some (vi (i64.wrap (v1 + 1)))] (kX ((!y1_0)) false nbf <| kK (ZlI c1 [0] 4) <| hY g0 Zb) (tC (tC (tC (tC (tE))))) (bQ <| bM (.cells (ZaM RA 8 [ms RC L0] L1 (κp a2 L3 a4 a5)) 153) <| bS [vq, vq] <| bE) (show 1 ∈ Zj (Zr7 1) from by decide +kernel)
 exact okF (Za (oq [0]) [] [] [] []) [0] (Value.tuple #[Value.agg #[vi 2, vq], vi a5]) (hN g0 Zb) (bQ <| bE)

noncomputable abbrev κk := ([ms RC L0] ++ (rv8 L1 ++ (κp a2 L3 a4 a5)))
theorem Zwg (L6 : List RG) (N : Nat) : (Zhz L0 L1 a2 L3 a4 a5 L6 N).Enter Tryz.prog Zg #[Value.agg (List.toArray (κk L0 L1 a2 L3 a4 a5)), vs 0 0 L6.length L6.length] (ZkS L0 L1 a2 L3 a4 a5 L6 N) := by
 unfold ZkS
 refine en_ite (fun g0 => ?_) (fun g0 => ?_)
 ·
  refine en_ite (fun g1 => ?_) (fun _ => en_none)
  exact enF (Za (oq [1]) [] [(0, a4.toNat)] [(2, (RA.cel (L6.getD a4.toNat RG.z)))] []) [0] (Value.tuple #[Value.agg #[vi (L6.getD a4.toNat RG.z).a0, vi (L6.getD a4.toNat RG.z).a1], vi a5]) (kLn RA L6 (a4.toNat) 0 2 <| kB a4.toNat L6.length <| kI a4 (Int.ofNat a4.toNat) <| hY g0 Zb) (bQ <| bE)
 exact enH (Zga 1) (Za (oq [0]) [] [] [] []) [0, 1, 2] [some (vs 0 0 L6.length L6.length), some (vp 1 0), some (vp 2 0), some (vi a5)] (hN g0 Zb) (tC (tC (tC (tC (tE))))) (bQ <| bM (.cells (ZaM RA 8 [ms RC L0] L1 (κp a2 L3 a4 a5)) 153) <| bS [vq, vq] <| bE) (show Zj (Zga 1).2 = [] from rfl)

theorem ZtF (L6 : List RG) (N : Nat) (r : Zc4) (h : Zkr L0 L1 a2 L3 a4 a5 L6 N = some r) : LSpec Tryz.prog 126 #[Value.agg (List.toArray (κk L0 L1 a2 L3 a4 a5)), vs 0 0 L6.length L6.length] [.cells (Zd RA L6) 44 true] (Zr6 r) (ZpQ L0 L1 a2 L3 a4 a5 L6 r) :=
 Mach.spec ZB (Zhz L0 L1 a2 L3 a4 a5 L6 N) Tryz.func126 (by kernel_rfl) (by kernel_rfl) (fun x => by cases x <;> exact Zu _ rfl) (fun r => by cases r <;> exact Zu _ rfl) (fun x => by
  cases x with
  | h1m0 _ => exact fun _ => (show ¬ (1 ∈ Zj (Zga 1).2) from by decide +kernel)
  ) (fun x => (show (Zhz L0 L1 a2 L3 a4 a5 L6 N).Ok Tryz.prog Zg x (Zhc L0 L1 a2 L3 a4 a5 L6 N x) from by
  cases x with
  | h1m0 v1 => exact Zsr L0 L1 a2 L3 a4 a5 L6 v1 N
  )) (Zwg L0 L1 a2 L3 a4 a5 L6 N) (n := N) h

end
noncomputable def Zll {L0 : List RJ} {L1 : List RG} {a2 : Int} {L3 : List RG} {a4 a5 : Int} {L6 : List RG} {w1 w2 w3 : Int} {N : Nat} (h : Zkr L0 L1 a2 L3 a4 a5 L6 N = some (.r0 w1 w2 w3)) (ks : List Nat) (n : Nat) : ToldS := ⟨#[Value.agg (List.toArray (κk L0 L1 a2 L3 a4 a5)), vs (nth ks 0) 0 L6.length L6.length], [((nth ks 0), .cells (Zd RA L6) 44 true)], Value.tuple #[Value.agg #[vi w1, vi w2], vi w3], [], 0⟩

theorem ZpS {L0 : List RJ} {L1 : List RG} {a2 : Int} {L3 : List RG} {a4 a5 : Int} {L6 : List RG} {w1 w2 w3 : Int} {N : Nat} (h : Zkr L0 L1 a2 L3 a4 a5 L6 N = some (.r0 w1 w2 w3)) (ks : List Nat) (n : Nat) (hk : ks.length = 1 := by rfl) (hnd : ks.Nodup := by decide +kernel) (hlt : ∀ k ∈ ks, k < n := by decide +kernel) : (Zll (N := N)  h ks n).P Tryz.prog 126 n :=
 match ks, hk, hnd, hlt with
 | [k0], _, hnd, hlt => ZcO (show LSpec Tryz.prog 126 #[Value.agg (List.toArray (κk L0 L1 a2 L3 a4 a5)), vs 0 0 L6.length L6.length] [.cells (Zd RA L6) 44 true] (Value.tuple #[Value.agg #[vi w1, vi w2], vi w3]) [some (.cells (Zd RA L6) 44 true)] from ZtF L0 L1 a2 L3 a4 a5 L6 N _ h) _ n [] hnd hlt

section
variable (a0 a1 a2 : Int)
noncomputable def Zop : Zbp → Value
 | .r0 w2 w7 => Value.agg #[vi a0, vi a1, vi w2, vi 2, vi 1, vi 1, vi a2, vs 0 0 w7.length w7.length]
noncomputable def ZmW : Zbp → List (Option AObj)
 | .r0 w2 w7 => [some (.cells (Zd RA w7) 44)]

noncomputable def ZpT : Zbp → Value
 | .r0 w2 w7 => Value.agg #[vi a0, vi a1, vi w2, vi 2, vi 1, vi 1, vi a2, ms RA w7]
noncomputable def Zoq : Zbp → List (Option AObj)
 | .r0 w2 w7 => []

def Zwh : Zao → Nat
 | .h1m0 v12 => 1
 | .h1m1 v2 v12 v17 => 1
noncomputable def Zyg (a0 a1 a2 : Int) : Zao → List (Nat × Value)
 | .h1m0 v12 => [(1, vi 2), (2, vi 1), (8, vp 0 0), (9, vp 1 0), (10, vq)]
 | .h1m1 v2 v12 v17 => [(1, vi 2), (2, vi 1), (8, vp 0 0), (9, vp 1 0), (10, vi (v2 : Int))]
noncomputable def Zyh : Zao → List (Option AObj)
 | .h1m0 v12 => [some (.cells [vq, vq, vq, vq, vq, vq, vq, vn] 97), some (.cells [vi a0, vi a1, vi v12, vi 2, vi 1, vi 1, vi a2, vn] 97)]
 | .h1m1 v2 v12 v17 => [some (.cells [vq, vq, vq, vq, vq, vq, vq, vn] 97), some (.cells [vi a0, vi a1, vi v12, vi 2, vi 1, vi 1, vi a2, vs 2 0 v17.length v17.length] 97), some (.cells (Zd RA v17) 44)]

noncomputable def Zcm : Nat → Code × List ZD
 | 1 => ZX [1, 1, 0, 1, 3] (Zaw Tryz.f127) []
 | _ => (.skip, [])
def Zor : Nat → Bool
 | 1 => true
 | _ => true
noncomputable def Zlm (i : Nat) : List ZD := match Zor i with | true => .rnd i :: (Zcm i).2 | false => (Zcm i).2

noncomputable def Zew (N : Nat) : Mach := ⟨Tryz.f127, [], Zao, Zbp, ZeP a0 a1 a2 N, Zwh, Zcm, Zor, Zyg a0 a1 a2, Zyh a0 a1 a2, Zop a0 a1 a2, ZmW⟩

theorem ZqY (v12 : Int) (N : Nat) : (Zew a0 a1 a2 N).Ok Tryz.prog Zg (.h1m0 v12 : Zao) (ZeP a0 a1 a2 N (.h1m0 v12 : Zao)) := by
 show (Zew a0 a1 a2 N).Ok Tryz.prog Zg (.h1m0 v12 : Zao) (ZhQ a0 a1 a2 N v12)
 unfold ZhQ
 exact okN (Za (oq []) [] [] [] []) [0, 1, 4] [some (vi 2), some (vi 1), some (vp 0 0), some (vp 1 0), some (vi 1)] Zb (tC (tC (tC (tC (tC (tE) ⟨Eq.trans (show κP = vi 1 from ci) (by rfl), by rfl⟩))))) (bS [vq, vq, vq, vq, vq, vq, vq, vn] <| bU [vi a0, vi a1, vi v12, vi 2, vi 1, vi 1, vi a2, vs 4 0 1 1] 7 (show (vs 2 0 1 1 : Value) = vs 2 0 ([(⟨2, 0⟩ : RG)] : List RG).length ([(⟨2, 0⟩ : RG)] : List RG).length from Z0 rfl eqA eqA) <| bC (o := .cells [vi 2, vq] 44) (Zae (E := RA) _ (L := ([(⟨2, 0⟩ : RG)] : List RG)) _ (show ([vi 2, vq] : List Value) = Zd RA ([(⟨2, 0⟩ : RG)] : List RG) from rfl)) <| bE) (show 1 ∈ Zj (Zlm 1) from by decide +kernel)

theorem ZqZ (v2 : Nat) (v12 : Int) (v17 : List RG) (N : Nat) : (Zew a0 a1 a2 N).Ok Tryz.prog Zg (.h1m1 v2 v12 v17 : Zao) (ZeP a0 a1 a2 N (.h1m1 v2 v12 v17 : Zao)) := by
 show (Zew a0 a1 a2 N).Ok Tryz.prog Zg (.h1m1 v2 v12 v17 : Zao) (ZhR a0 a1 a2 N v2 v12 v17)
 unfold ZhR
 refine ok_ite (fun g0 => ?_) fun g0 => ?_
 ·
  have w1 := kS (v2 : Int) v2 .i64 <| kX ((IntKind.u64.wrap (v2 : Int)) == (v2 : Int)) true (beq_iff_eq.2 (Zn1 ltA)) <| hY g0 Zb
  refine ok_ite (fun g1 => ?_) fun g1 => ?_
  ·
   refine oi fun g2 => ?_
   exact okN (Za (oq [1, 3]) [(0, (v2 : Int)), (3, (((v2 + 1) : Nat) : Int))] [] [] [(0, .sh v2), (3, .ap 1 [vi 2, vq] (Zd RA (v17 ++ ([(⟨2, 0⟩ : RG)] : List RG))))]) [0, 1, 5] [some (vi 2), some (vi 1), some (vp 0 0), some (vp 1 0), some (κB v2)] (kW ((v2 : Int) + 1) (((v2 + 1) : Nat) : Int) <| kA RA v17 (⟨2, 0⟩ : RG) <| hT g1 w1) (tC (tC (tC (tC (tC (tE)))))) (bS [vq, vq, vq, vq, vq, vq, vq, vn] <| bU [vi a0, vi a1, vi v12, vi 2, vi 1, vi 1, vi a2, vs 5 0 (v17.length + 1) (v17.length + 1)] 7 (show (vs 2 0 (v17.length + 1) (v17.length + 1) : Value) = vs 2 0 (v17 ++ ([(⟨2, 0⟩ : RG)] : List RG)).length (v17 ++ ([(⟨2, 0⟩ : RG)] : List RG)).length from Z0 rfl eqA eqA) <| bR <| bE) (show 1 ∈ Zj (Zlm 1) from by decide +kernel)
  refine oi fun g2 => ?_
  exact okN (Za (oq [1, 2]) [(0, (v2 : Int)), (3, (((v2 + 1) : Nat) : Int))] [] [] [(0, .sh v2), (3, .ap 1 [vi 1, vq] (Zd RA (v17 ++ ([(⟨1, 0⟩ : RG)] : List RG))))]) [0, 1, 5] [some (vi 2), some (vi 1), some (vp 0 0), some (vp 1 0), some (κB v2)] (kW ((v2 : Int) + 1) (((v2 + 1) : Nat) : Int) <| kA RA v17 (⟨1, 0⟩ : RG) <| hF g1 w1) (tC (tC (tC (tC (tC (tE)))))) (bS [vq, vq, vq, vq, vq, vq, vq, vn] <| bU [vi a0, vi a1, vi v12, vi 2, vi 1, vi 1, vi a2, vs 5 0 (v17.length + 1) (v17.length + 1)] 7 (show (vs 2 0 (v17.length + 1) (v17.length + 1) : Value) = vs 2 0 (v17 ++ ([(⟨1, 0⟩ : RG)] : List RG)).length (v17 ++ ([(⟨1, 0⟩ : RG)] : List RG)).length from Z0 rfl eqA eqA) <| bR <| bE) (show 1 ∈ Zj (Zlm 1) from by decide +kernel)
 exact okF (Za (oq [0]) [] [] [] []) [2] (Value.agg #[vi a0, vi a1, vi v12, vi 2, vi 1, vi 1, vi a2, vs 2 0 v17.length v17.length]) (hN g0 Zb) (bR <| bE)

noncomputable abbrev κbq := [some (vi 2), some (vi 1), some (vp 1 0), some (vp 4 0), some (vq)]
theorem ZuI (N : Nat) : (Zew a0 a1 a2 N).Enter Tryz.prog Zg #[Value.agg #[vi a0, vi a1], vi 2, vi 1, vi a2] (ZjK a0 a1 a2 N) := by
 unfold ZjK
 refine en_ite (fun g0 => ?_) (fun g0 => ?_)
 ·
  refine en_bind (fun z1 c1 => ?_)
  cases z1 with
  | r0 y1_0 =>
   refine en_ite (fun g2 => ?_) (fun g2 => ?_)
   ·
    exact enH (Zcm 1) (Za (oq [1, 3]) [] [] [] [(0, (tP (Zc c1)).t)]) [1, 4] κbq (kX ((!y1_0)) true nbt <| kK (tQ (Zc c1) 4) <| hT g0 Zb) (tC (tC (tC (tC (tC (tE)))))) (bS [vq, vq, vq, vq, vq, vq, vq, vn] <| bS [vi a0, vi a1, vq, vi 2, vi 1, vi 1, vi a2, vn] <| bE) (show Zj (Zcm 1).2 = [] from rfl)
   exact enH (Zcm 1) (Za (oq [1, 2]) [] [] [] [(0, (tP (Zc c1)).t)]) [1, 4] κbq (kX ((!y1_0)) false nbf <| kK (tQ (Zc c1) 4) <| hT g0 Zb) (tC (tC (tC (tC (tC (tE)))))) (bS [vq, vq, vq, vq, vq, vq, vq, vn] <| bS [vi a0, vi a1, vi (i64.wrap (Int.tdiv a1 1048576)), vi 2, vi 1, vi 1, vi a2, vn] <| bE) (show Zj (Zcm 1).2 = [] from rfl)
 exact enH (Zcm 1) (Za (oq [0]) [] [] [] []) [1, 4] κbq (hF g0 Zb) (tC (tC (tC (tC (tC (tE)))))) (bS [vq, vq, vq, vq, vq, vq, vq, vn] <| bS [vi a0, vi a1, vq, vi 2, vi 1, vi 1, vi a2, vn] <| bE) (show Zj (Zcm 1).2 = [] from rfl)

theorem Zra (N : Nat) (r : Zbp) (h : Zhv a0 a1 a2 N = some r) : LSpec Tryz.prog 127 #[Value.agg #[vi a0, vi a1], vi 2, vi 1, vi a2] [] (Zop a0 a1 a2 r) (ZmW r) :=
 Mach.spec ZB (Zew a0 a1 a2 N) Tryz.func127 (by kernel_rfl) (by kernel_rfl) (fun x => by cases x <;> exact Zu _ rfl) (fun r => by cases r <;> exact Zu _ rfl) (fun x => by
  cases x with
  | h1m0 _ => exact fun _ => (show ¬ (1 ∈ Zj (Zcm 1).2) from by decide +kernel)
  | h1m1 _ _ _ => exact fun _ => (show ¬ (1 ∈ Zj (Zcm 1).2) from by decide +kernel)
  ) (fun x => (show (Zew a0 a1 a2 N).Ok Tryz.prog Zg x (ZeP a0 a1 a2 N x) from by
  cases x with
  | h1m0 v12 => exact ZqY a0 a1 a2 v12 N
  | h1m1 v2 v12 v17 => exact ZqZ a0 a1 a2 v2 v12 v17 N
  )) (ZuI a0 a1 a2 N) (n := N) h

theorem Zss (N : Nat) (r : Zbp) (h : Zhv a0 a1 a2 N = some r) : LSpec Tryz.prog 127 #[Value.agg #[vi a0, vi a1], vi 2, vi 1, vi a2] [] (ZpT a0 a1 a2 r) (Zoq r) := by
 have h0 := Zra a0 a1 a2 N r h
 cases r with
 | r0 w2 w7 => exact (LSpec.frzv (E := RA) (L := w7) (post := []) (v2 := Value.agg #[vi a0, vi a1, vi w2, vi 2, vi 1, vi 1, vi a2, ms RA w7]) h0 (show 0 ≤ 0 from by decide) (show 0 < 1000000000 from by decide) trivial rfl rfl rfl)

end
theorem ZhB {a0 a1 a2 : Int} {N : Nat} {r : Zbp} (h : Zhv a0 a1 a2 N = some r) : LSpec Tryz.prog 127 #[Value.agg #[vi a0, vi a1], vi 2, vi 1, vi a2] [] (ZpT a0 a1 a2 r) (Zoq r) := Zss a0 a1 a2 N r h

end Ev
end Go.Proofs.YthfohmhipifiaaaGreat
namespace Go.Proofs.YthfohmhipifiaaaGreat
open Go.RowKit
namespace Ev
open Mach (oi ok_ite okF okN enF enH en_ite en_bind)
set_option linter.unusedVariables false
set_option maxRecDepth 100000
noncomputable def Zln : Zbq → Value
 | .r0 w0 w1 => Value.tuple #[vi w0, vi w1]
noncomputable def ZjW : Zbq → List (Option AObj)
 | .r0 w0 w1 => []

def Zwi : Zbr → Nat
 | .h1m0 v1 => 1
noncomputable def Zyi (L0 : List RJ) (a1 a2 : Int) : Zbr → List (Nat × Value)
 | .h1m0 v1 => [(0, ms RC L0), (3, vp 0 0), (6, vi (v1 : Int))]
noncomputable def Zyj (L0 : List RJ) (a1 a2 : Int) : Zbr → List (Option AObj)
 | .h1m0 v1 => [some (.cells [vi a1, vi a2] 44)]

noncomputable def Zfw : Nat → Code × List ZD
 | 1 => ZX [1, 1, 1, 0, 1, 3] (Zaw Tryz.f140) []
 | _ => (.skip, [])
def Zos : Nat → Bool
 | 1 => true
 | _ => true
noncomputable def ZpU (i : Nat) : List ZD := match Zos i with | true => .rnd i :: (Zfw i).2 | false => (Zfw i).2

section
variable (L0 : List RJ) (a1 a2 : Int)
noncomputable def ZgN (N : Nat) : Mach := ⟨Tryz.f140, [], Zbr, Zbq, Zgm L0 a1 a2 N, Zwi, Zfw, Zos, Zyi L0 a1 a2, Zyj L0 a1 a2, Zln, ZjW⟩

theorem Zrb (v1 N : Nat) : (ZgN L0 a1 a2 N).Ok Tryz.prog Zg (.h1m0 v1 : Zbr) (Zgm L0 a1 a2 N (.h1m0 v1 : Zbr)) := by
 show (ZgN L0 a1 a2 N).Ok Tryz.prog Zg (.h1m0 v1 : Zbr) (ZhS L0 a1 a2 N v1)
 unfold ZhS
 refine ok_ite (fun g0 => ?_) fun g0 => ?_
 ·
  have w1 := kG RC L0 ((0 + (v1 * 8)) + 0) v1 0 2 8 <| kB v1 L0.length <| kI (v1 : Int) (Int.ofNat v1) <| hY g0 Zb
  refine ok_ite (fun g1 => ?_) fun g1 => ?_
  ·
   have w2 := kG RC L0 (((0 + (v1 * 8)) + 2) + 3) v1 5 1 8 <| kB v1 L0.length <| kI (v1 : Int) (Int.ofNat v1) <| kZ (((L0.getD v1 RJ.z).a0 == a1) && (((L0.getD v1 RJ.z).a1 == a2) && true)) w1
   refine ok_ite (fun g2 => ?_) fun g2 => ?_
   ·
    exact okF (Za (oq [1, 3, 5]) [] [(0, v1), (1, v1)] [(0, [.i (L0.getD v1 RJ.z).a0, .i (L0.getD v1 RJ.z).a1]), (2, [.i (L0.getD v1 RJ.z).a5])] []) [] (Value.tuple #[vi (v1 : Int), vq]) (hD g2 w2) bE
   refine oi fun g3 => ?_
   exact okN (Za (oq [1, 3, 4]) [(0, (((v1 + 1) : Nat) : Int))] [(0, v1), (1, v1)] [(0, [.i (L0.getD v1 RJ.z).a0, .i (L0.getD v1 RJ.z).a1]), (2, [.i (L0.getD v1 RJ.z).a5])] []) [0] [some (ms RC L0), some (vp 0 0), some (κw v1)] (kW ((v1 : Int) + 1) (((v1 + 1) : Nat) : Int) <| kE ((L0.getD v1 RJ.z).a5) 3 w2) (tC (tC (tC (tE)))) (bS [vi a1, vi a2] <| bE) (show 1 ∈ Zj (ZpU 1) from by decide +kernel)
  refine oi fun g2 => ?_
  exact okN (Za (oq [1, 2]) [(0, (((v1 + 1) : Nat) : Int))] [(0, v1)] [(0, [.i (L0.getD v1 RJ.z).a0, .i (L0.getD v1 RJ.z).a1])] []) [0] [some (ms RC L0), some (vp 0 0), some (κw v1)] (kW ((v1 : Int) + 1) (((v1 + 1) : Nat) : Int) <| kO (((L0.getD v1 RJ.z).a0 == a1) && (((L0.getD v1 RJ.z).a1 == a2) && true)) w1) (tC (tC (tC (tE)))) (bS [vi a1, vi a2] <| bE) (show 1 ∈ Zj (ZpU 1) from by decide +kernel)
 exact okF (Za (oq [0]) [] [] [] []) [] (Value.tuple #[vq, vi 21]) (hN g0 Zb) bE

theorem ZuJ (N : Nat) : (ZgN L0 a1 a2 N).Enter Tryz.prog Zg (κt L0 a1 a2) (ZjL L0 a1 a2 N) := by
 unfold ZjL
 refine en_ite (fun g0 => ?_) (fun g0 => ?_)
 ·
  exact enF (Za (oq [1]) [] [] [] []) [] (Value.tuple #[vq, vi 10]) (hD g0 Zb) bE
 refine en_bind (fun z1 c1 => ?_)
 cases z1 with
 | r0 y1_0 =>
  have w2 := kK (tQ (Zc c1) 1) <| kE a1 2 Zb
  refine en_ite (fun g2 => ?_) (fun g2 => ?_)
  ·
   exact enF (Za (oq [0, 3]) [] [] [] [(0, (tP (Zc c1)).t)]) [] (Value.tuple #[vq, vi 10]) (kX ((!y1_0)) true nbt w2) bE
  have w3 := kX ((!y1_0)) false nbf w2
  refine en_ite (fun g3 => ?_) (fun g3 => ?_)
  ·
   exact enF (Za (oq [0, 2, 5]) [] [] [] [(0, (tP (Zc c1)).t)]) [] (Value.tuple #[vq, vi 11]) (hT g3 w3) bE
  exact enH (Zfw 1) (Za (oq [0, 2, 4]) [] [] [] [(0, (tP (Zc c1)).t)]) [0] [some (ms RC L0), some (vp 0 0), some (vq)] (hF g3 w3) (tC (tC (tC (tE) ⟨Eq.trans (show κn = vq from ci) (by rfl), by rfl⟩))) (bS [vi a1, vi a2] <| bE) (show Zj (Zfw 1).2 = [] from rfl)

theorem Zst (N : Nat) (r : Zbq) (h : ZeY L0 a1 a2 N = some r) : LSpec Tryz.prog 140 (κt L0 a1 a2) [] (Zln r) (ZjW r) :=
 Mach.spec ZB (ZgN L0 a1 a2 N) Tryz.func140 (by kernel_rfl) (by kernel_rfl) (fun x => by cases x <;> exact Zu _ rfl) (fun r => by cases r <;> exact Zu _ rfl) (fun x => by
  cases x with
  | h1m0 _ => exact fun _ => (show ¬ (1 ∈ Zj (Zfw 1).2) from by decide +kernel)
  ) (fun x => (show (ZgN L0 a1 a2 N).Ok Tryz.prog Zg x (Zgm L0 a1 a2 N x) from by
  cases x with
  | h1m0 v1 => exact Zrb L0 a1 a2 v1 N
  )) (ZuJ L0 a1 a2 N) (n := N) h

theorem Z9 {L0 : List RJ} {a1 a2 : Int} {N : Nat} {r : Zbq} (h : ZeY L0 a1 a2 N = some r) : LSpec Tryz.prog 140 (κt L0 a1 a2) [] (Zln r) (ZjW r) := Zst L0 a1 a2 N r h

noncomputable def ZnF : ZdQ → Value
 | .r0 w0 w1 w2 => Value.tuple #[Value.agg #[vi w0, vi w1], vi w2]
noncomputable def Zmp : ZdQ → List (Option AObj)
 | .r0 w0 w1 w2 => []

noncomputable abbrev κx (a3 : Int) := #[ms RC L0, Value.agg #[vi a1, vi a2], vi a3]
end
section
variable (L0 : List RJ) (a1 a2 a3 : Int) (N : Nat)
theorem Zyk : Fx Tryz.prog Zg Tryz.f128 [] (κx L0 a1 a2 a3) (ZnF) (Zmp) (Zid L0 a1 a2 a3 N) := by
 unfold Zid
 refine Zz (fun z0 c0 => ?_)
 cases z0 with
 | r0 y0_0 y0_1 =>
  refine Ze (fun g1 => ?_) (fun g1 => ?_)
  ·
   exact fxC (Za (oq [1]) [] [] [] [(0, (tP (Z9 c0)).t)]) [] (Value.tuple #[Value.agg #[vq, vq], vi y0_1]) (hD g1 <| kK (tQ (Z9 c0) 2) Zb) bE
  have w2 := kE y0_1 0 <| kK (tQ (Z9 c0) 2) Zb
  refine Ze (fun g2 => ?_) (fun g2 => ?_)
  ·
   exact fxC (Za (oq [0, 3]) [] [] [] [(0, (tP (Z9 c0)).t)]) [] (Value.tuple #[Value.agg #[vq, vq], vi 22]) (hY g2 w2) bE
  refine Ze (fun g3 => ?_) (fun _ => Zq)
  refine Ze (fun g4 => ?_) (fun _ => Zq)
  have w5 := kG RC L0 ((0 + ((y0_0).toNat * 8)) + 7) ((y0_0).toNat) 7 1 8 <| kB (y0_0).toNat L0.length <| kI y0_0 (Int.ofNat (y0_0).toNat) <| hN g2 w2
  refine Ze (fun g5 => ?_) (fun g5 => ?_)
  ·
   exact fxC (Za (oq [0, 2, 5]) [] [(0, (y0_0).toNat)] [(1, [(mc RA (L0.getD (y0_0).toNat RJ.z).a7)])] [(0, (tP (Z9 c0)).t)]) [] (Value.tuple #[Value.agg #[vq, vq], vi 22]) (kY (a3 ≥ (((L0.getD (y0_0).toNat RJ.z).a7.length : Nat) : Int)) w5) bE
  exact fxC (Za (oq [0, 2, 4]) [] [(0, (y0_0).toNat), (1, (y0_0).toNat), (2, a3.toNat)] [(1, [(mc RA (L0.getD (y0_0).toNat RJ.z).a7)]), (2, [(mc RA (L0.getD (y0_0).toNat RJ.z).a7)]), (3, (RA.cel ((L0.getD (y0_0).toNat RJ.z).a7.getD a3.toNat RG.z)))] [(0, (tP (Z9 c0)).t)]) [] (Value.tuple #[Value.agg #[vi ((L0.getD (y0_0).toNat RJ.z).a7.getD a3.toNat RG.z).a0, vi ((L0.getD (y0_0).toNat RJ.z).a7.getD a3.toNat RG.z).a1], vq]) (kG RA ((L0.getD (y0_0).toNat RJ.z).a7) (0 + (a3.toNat * 2)) (a3.toNat) 0 2 2 <| kB a3.toNat (L0.getD (y0_0).toNat RJ.z).a7.length <| kI a3 (Int.ofNat a3.toNat) <| kG RC L0 ((0 + ((y0_0).toNat * 8)) + 7) ((y0_0).toNat) 7 1 8 <| kB (y0_0).toNat L0.length <| kI y0_0 (Int.ofNat (y0_0).toNat) <| kN (a3 ≥ (((L0.getD (y0_0).toNat RJ.z).a7.length : Nat) : Int)) w5) bE

theorem ZuK (r : ZdQ) (h : Zid L0 a1 a2 a3 N = some r) : LSpec Tryz.prog 128 (κx L0 a1 a2 a3) [] (ZnF r) (Zmp r) :=
 Zax ZB Tryz.func128 (by kernel_rfl) (by kernel_rfl) (fun r => by cases r <;> exact Zu _ rfl) (Zyk L0 a1 a2 a3 N) h

theorem ZaV {L0 : List RJ} {a1 a2 a3 : Int} {N : Nat} {r : ZdQ} (h : Zid L0 a1 a2 a3 N = some r) : LSpec Tryz.prog 128 (κx L0 a1 a2 a3) [] (ZnF r) (Zmp r) := ZuK L0 a1 a2 a3 N r h

noncomputable def ZnG : ZdR → Value
 | .r0 w0 => Value.bool w0
noncomputable def Zmq : ZdR → List (Option AObj)
 | .r0 w0 => []

theorem Zyl : Fx Tryz.prog Zg Tryz.f142 [] (κx L0 a1 a2 a3) (ZnG) (Zmq) (ZeQ L0 a1 a2 a3 N) := by
 unfold ZeQ
 refine Zz (fun z0 c0 => ?_)
 cases z0 with
 | r0 y0_0 y0_1 =>
  refine Ze (fun g1 => ?_) (fun g1 => ?_)
  ·
   refine Ze (fun g2 => ?_) (fun _ => Zq)
   refine Ze (fun g3 => ?_) (fun _ => Zq)
   have w4 := kG RC L0 (((0 + ((y0_0).toNat * 8)) + 2) + 3) ((y0_0).toNat) 5 1 8 <| kB (y0_0).toNat L0.length <| kI y0_0 (Int.ofNat (y0_0).toNat) <| hT g1 <| kK (tQ (Z9 c0) 1) Zb
   refine Ze (fun g4 => ?_) (fun g4 => ?_)
   ·
    have w5 := kG RC L0 (((0 + ((y0_0).toNat * 8)) + 2) + 4) ((y0_0).toNat) 6 1 8 <| kB (y0_0).toNat L0.length <| kI y0_0 (Int.ofNat (y0_0).toNat) <| hT g4 w4
    refine Ze (fun g5 => ?_) (fun g5 => ?_)
    ·
     exact fxC (Za (oq [1, 3, 5]) [] [(0, (y0_0).toNat), (1, (y0_0).toNat)] [(1, [.i (L0.getD (y0_0).toNat RJ.z).a5]), (2, [.i (L0.getD (y0_0).toNat RJ.z).a6])] [(0, (tP (Z9 c0)).t)]) [] (vT) (hT g5 w5) bE
    exact fxC (Za (oq [1, 3, 4]) [] [(0, (y0_0).toNat), (1, (y0_0).toNat)] [(1, [.i (L0.getD (y0_0).toNat RJ.z).a5]), (2, [.i (L0.getD (y0_0).toNat RJ.z).a6])] [(0, (tP (Z9 c0)).t)]) [] (vf) (hF g5 w5) bE
   exact fxC (Za (oq [1, 2]) [] [(0, (y0_0).toNat)] [(1, [.i (L0.getD (y0_0).toNat RJ.z).a5])] [(0, (tP (Z9 c0)).t)]) [] (vf) (hF g4 w4) bE
  exact fxC (Za (oq [0]) [] [] [] [(0, (tP (Z9 c0)).t)]) [] (vf) (hF g1 <| kK (tQ (Z9 c0) 1) Zb) bE

theorem ZuL (r : ZdR) (h : ZeQ L0 a1 a2 a3 N = some r) : LSpec Tryz.prog 142 (κx L0 a1 a2 a3) [] (ZnG r) (Zmq r) :=
 Zax ZB Tryz.func142 (by kernel_rfl) (by kernel_rfl) (fun r => by cases r <;> exact Zu _ rfl) (Zyl L0 a1 a2 a3 N) h

end
theorem ZL {L0 : List RJ} {a1 a2 a3 : Int} {N : Nat} {r : ZdR} (h : ZeQ L0 a1 a2 a3 N = some r) : LSpec Tryz.prog 142 (κx L0 a1 a2 a3) [] (ZnG r) (Zmq r) := ZuL L0 a1 a2 a3 N r h

noncomputable def Zr8 (L0 : List RJ) (a1 a2 a3 a4 a5 a6 a7 a8 : Int) (L9 : List RG) : ZeR → Value
 | .r0 => vs 1 0 L0.length L0.length
section
variable (L0 : List RJ) (a1 a2 a3 a4 a5 a6 a7 a8 : Int) (L9 : List RG)
noncomputable def ZpV : ZeR → List (Option AObj)
 | .r0 => [none, some (.cells (Zd RC (L0.set a1.toNat (⟨a2, a3, a4, a5, a6, a7, a8, L9⟩ : RJ))) 97)]

noncomputable def Z0I : ZeR → Value
 | .r0 => ms RC (L0.set a1.toNat (⟨a2, a3, a4, a5, a6, a7, a8, L9⟩ : RJ))
noncomputable def Zzl : ZeR → List (Option AObj)
 | .r0 => [none]

theorem Zym (N : Nat) : Fx Tryz.prog Zg Tryz.f144 [.cells (Zd RA L9) 44] #[ms RC L0, vi a1, Value.agg #[vi a2, vi a3, vi a4, vi a5, vi a6, vi a7, vi a8, vs 0 0 L9.length L9.length]] (Zr8 L0 a1 a2 a3 a4 a5 a6 a7 a8 L9) (ZpV L0 a1 a2 a3 a4 a5 a6 a7 a8 L9) (Zc0 L0 a1 a2 a3 a4 a5 a6 a7 a8 L9 N) := by
 unfold Zc0
 refine Ze (fun _ => Zq) (fun g0 => ?_)
 refine Ze (fun g1 => ?_) (fun _ => Zq)
 refine Ze (fun g2 => ?_) (fun _ => Zq)
 refine Ze (fun g3 => ?_) (fun _ => Zq)
 exact fxC (Za (oq []) [] [(0, a1.toNat)] [] [(0, .ap L0.length (Zd RC L0) (Zd RC L0)), (1, .stf 0 (Zak RA L9) (Zd RC (L0.set a1.toNat (⟨a2, a3, a4, a5, a6, a7, a8, L9⟩ : RJ))))]) [0, 3] (vs 3 0 (0 + L0.length) (0 + L0.length)) (kC (Zdu (E := RC) (L := L0) (i := a1.toNat) (q := 0) (l := [vi a2, vi a3, vi a4, vi a5, vi a6, vi a7, vi a8, ms RA L9]) (⟨a2, a3, a4, a5, a6, a7, a8, L9⟩ : RJ) (by omega) (show (0 + (a1.toNat * 8)) = a1.toNat * 8 + 0 from by omega) (show 0 + 8 ≤ 8 from by decide) rfl) <| kX (dP ((Zd RA L9) = Zw (Zak RA L9))) true (Z1 (Zir _)) <| kB a1.toNat (0 + L0.length) <| kI a1 (Int.ofNat a1.toNat) <| kX (dP ((L0.length = L0.length ∧ ((L0.length * 8 = 0 ∧ (Zd RC L0) = []) ∨ ∃ c, L0.length * 8 ≠ 0 ∧ Zay (code (Zak RC L0)) 0 (L0.length * 8) = some c ∧ (Zd RC L0) = Zw c)) ∧ 0 < L0.length ∧ L0.length ≤ 100000 ∧ 0 < 0 + L0.length ∧ 0 ≤ 100000 ∧ 0 * 8 ≤ (List.length []) ∧ List.take (0 * 8) [] ++ (Zd RC L0) = (Zd RC L0))) true (Z1 ⟨⟨rfl, (ZdE (E := RC) (L := L0) (n := L0.length) (size := 8) rfl (by decide) (by omega))⟩, by omega, by omega, ltA, by omega, (Zbf (E := RC) (L := ([] : List RJ)) (M := L0) (n := 0) (show _ = _ * 8 from rfl) ltA (R := L0) (by rw [List.take_of_length_le ltA]; rfl))⟩) Zb) (bN <| bR <| bE) (hv := ⟨Eq.trans (show (vs 1 0 L0.length L0.length : Value) = vs 1 0 (0 + L0.length) (0 + L0.length) from (Z0 rfl eqA eqA)) (by rfl), by rfl⟩)

theorem ZtG (N : Nat) (r : ZeR) (h : Zc0 L0 a1 a2 a3 a4 a5 a6 a7 a8 L9 N = some r) : LSpec Tryz.prog 144 #[ms RC L0, vi a1, Value.agg #[vi a2, vi a3, vi a4, vi a5, vi a6, vi a7, vi a8, vs 0 0 L9.length L9.length]] [.cells (Zd RA L9) 44] (Zr8 L0 a1 a2 a3 a4 a5 a6 a7 a8 L9 r) (ZpV L0 a1 a2 a3 a4 a5 a6 a7 a8 L9 r) :=
 Zax ZB Tryz.func144 (by kernel_rfl) (by kernel_rfl) (fun r => by cases r <;> exact Zu _ rfl) (Zym L0 a1 a2 a3 a4 a5 a6 a7 a8 L9 N) h

theorem ZuM (N : Nat) (r : ZeR) (h : Zc0 L0 a1 a2 a3 a4 a5 a6 a7 a8 L9 N = some r) : LSpec Tryz.prog 144 #[ms RC L0, vi a1, Value.agg #[vi a2, vi a3, vi a4, vi a5, vi a6, vi a7, vi a8, vs 0 0 L9.length L9.length]] [.cells (Zd RA L9) 44] (Z0I L0 a1 a2 a3 a4 a5 a6 a7 a8 L9 r) (Zzl r) := by
 have h0 := ZtG L0 a1 a2 a3 a4 a5 a6 a7 a8 L9 N r h
 cases r with
 | r0 => exact (LSpec.frzv (E := RC) (L := (L0.set a1.toNat (⟨a2, a3, a4, a5, a6, a7, a8, L9⟩ : RJ))) (post := [none]) (v2 := ms RC (L0.set a1.toNat (⟨a2, a3, a4, a5, a6, a7, a8, L9⟩ : RJ))) h0 (show 1 ≤ 1 from by decide) (show 1 < 1000000000 from by decide) ⟨trivial, trivial⟩ rfl (Zg1 eqA eqA) rfl)

end
noncomputable def Zd6 {L0 : List RJ} {a1 a2 a3 a4 a5 a6 a7 a8 : Int} {L9 : List RG} {N : Nat} (h : Zc0 L0 a1 a2 a3 a4 a5 a6 a7 a8 L9 N = some (.r0)) (ks : List Nat) (n : Nat) : ToldS := ⟨#[ms RC L0, vi a1, Value.agg #[vi a2, vi a3, vi a4, vi a5, vi a6, vi a7, vi a8, vs (nth ks 0) 0 L9.length L9.length]], [((nth ks 0), .cells (Zd RA L9) 44)], ms RC (L0.set a1.toNat (⟨a2, a3, a4, a5, a6, a7, a8, L9⟩ : RJ)), [((nth ks 0), none)], 0⟩

theorem Zee {L0 : List RJ} {a1 a2 a3 a4 a5 a6 a7 a8 : Int} {L9 : List RG} {N : Nat} (h : Zc0 L0 a1 a2 a3 a4 a5 a6 a7 a8 L9 N = some (.r0)) (ks : List Nat) (n : Nat) (hk : ks.length = 1 := by rfl) (hnd : ks.Nodup := by decide +kernel) (hlt : ∀ k ∈ ks, k < n := by decide +kernel) : (Zd6 (N := N)  h ks n).P Tryz.prog 144 n :=
 match ks, hk, hnd, hlt with
 | [k0], _, hnd, hlt => ZcO (show LSpec Tryz.prog 144 #[ms RC L0, vi a1, Value.agg #[vi a2, vi a3, vi a4, vi a5, vi a6, vi a7, vi a8, vs 0 0 L9.length L9.length]] [.cells (Zd RA L9) 44] (ms RC (L0.set a1.toNat (⟨a2, a3, a4, a5, a6, a7, a8, L9⟩ : RJ))) [none] from ZuM L0 a1 a2 a3 a4 a5 a6 a7 a8 L9 N _ h) _ n [0] hnd hlt

noncomputable def Zmr : Zc5 → Value
 | .r0 w0 w1 w2 w3 w4 w5 w6 w7 => Value.tuple #[Value.agg #[vi w0, vi w1, vi w2, vi w3, vi w4, vi w5, vi w6, ms RA w7], vT]
 | .r1 => Value.tuple #[Value.agg #[vq, vq, vq, vq, vq, vq, vq, vn], vf]
noncomputable def Zlo : Zc5 → List (Option AObj)
 | .r0 w0 w1 w2 w3 w4 w5 w6 w7 => []
 | .r1 => []

def Zyn : ZbS → Nat
 | .h1m0 v1 => 1
noncomputable def Zzm (L0 : List RJ) (a1 a2 : Int) : ZbS → List (Nat × Value)
 | .h1m0 v1 => [(0, ms RC L0), (3, vp 0 0), (4, vp 1 0), (6, vi (v1 : Int))]
noncomputable def Zzn (L0 : List RJ) (a1 a2 : Int) : ZbS → List (Option AObj)
 | .h1m0 v1 => [some (.cells [vi a1, vi a2] 44), some (.cells [vq, vq, vq, vq, vq, vq, vq, vn] 97)]

noncomputable def Zgb : Nat → Code × List ZD
 | 1 => ZX [1, 0, 1, 3] (Zaw Tryz.f150) []
 | _ => (.skip, [])
def ZpW : Nat → Bool
 | 1 => true
 | _ => true
noncomputable def Zzo (i : Nat) : List ZD := match ZpW i with | true => .rnd i :: (Zgb i).2 | false => (Zgb i).2

section
variable (L0 : List RJ) (a1 a2 : Int) (N : Nat)
noncomputable def Zh0 : Mach := ⟨Tryz.f150, [], ZbS, Zc5, Zhd L0 a1 a2 N, Zyn, Zgb, ZpW, Zzm L0 a1 a2, Zzn L0 a1 a2, Zmr, Zlo⟩

theorem Zsu (L0 : List RJ) (a1 a2 : Int) (v1 N : Nat) : (Zh0 L0 a1 a2 N).Ok Tryz.prog Zg (.h1m0 v1 : ZbS) (Zhd L0 a1 a2 N (.h1m0 v1 : ZbS)) := by
 show (Zh0 L0 a1 a2 N).Ok Tryz.prog Zg (.h1m0 v1 : ZbS) (Zix L0 a1 a2 N v1)
 unfold Zix
 refine ok_ite (fun g0 => ?_) fun g0 => ?_
 ·
  have w1 := kG RC L0 ((0 + (v1 * 8)) + 0) v1 0 2 8 <| kB v1 L0.length <| kI (v1 : Int) (Int.ofNat v1) <| hY g0 Zb
  refine ok_ite (fun g1 => ?_) fun g1 => ?_
  ·
   exact okF (Za (oq [1, 3]) [] [(0, v1), (1, v1)] [(0, [.i (L0.getD v1 RJ.z).a0, .i (L0.getD v1 RJ.z).a1]), (2, (RC.cel (L0.getD v1 RJ.z)))] []) [] (Value.tuple #[Value.agg #[vi (L0.getD v1 RJ.z).a0, vi (L0.getD v1 RJ.z).a1, vi (L0.getD v1 RJ.z).a2, vi (L0.getD v1 RJ.z).a3, vi (L0.getD v1 RJ.z).a4, vi (L0.getD v1 RJ.z).a5, vi (L0.getD v1 RJ.z).a6, ms RA (L0.getD v1 RJ.z).a7], vT]) (kG RC L0 (0 + (v1 * 8)) v1 0 8 8 <| kB v1 L0.length <| kI (v1 : Int) (Int.ofNat v1) <| kZ (((L0.getD v1 RJ.z).a0 == a1) && (((L0.getD v1 RJ.z).a1 == a2) && true)) w1) bE
  refine oi fun g2 => ?_
  exact okN (Za (oq [1, 2]) [(0, (((v1 + 1) : Nat) : Int))] [(0, v1)] [(0, [.i (L0.getD v1 RJ.z).a0, .i (L0.getD v1 RJ.z).a1])] []) [0, 1] [some (ms RC L0), some (vp 0 0), some (vp 1 0), some (κw v1)] (kW ((v1 : Int) + 1) (((v1 + 1) : Nat) : Int) <| kO (((L0.getD v1 RJ.z).a0 == a1) && (((L0.getD v1 RJ.z).a1 == a2) && true)) w1) (tC (tC (tC (tC (tE))))) (bS [vi a1, vi a2] <| bS [vq, vq, vq, vq, vq, vq, vq, vn] <| bE) (show 1 ∈ Zj (Zzo 1) from by decide +kernel)
 exact okF (Za (oq [0]) [] [] [] []) [] (Value.tuple #[Value.agg #[vq, vq, vq, vq, vq, vq, vq, vn], vf]) (hN g0 Zb) bE

theorem Zwj : (Zh0 L0 a1 a2 N).Enter Tryz.prog Zg (κt L0 a1 a2) (ZkT L0 a1 a2 N) := by
 unfold ZkT
 exact enH (Zgb 1) (Za (oq []) [] [] [] []) [0, 1] [some (ms RC L0), some (vp 0 0), some (vp 1 0), some (vq)] Zb (tC (tC (tC (tC (tE) ⟨Eq.trans (show κn = vq from ci) (by rfl), by rfl⟩)))) (bS [vi a1, vi a2] <| bS [vq, vq, vq, vq, vq, vq, vq, vn] <| bE) (show Zj (Zgb 1).2 = [] from rfl)

theorem ZtH (r : Zc5) (h : Ziy L0 a1 a2 N = some r) : LSpec Tryz.prog 150 (κt L0 a1 a2) [] (Zmr r) (Zlo r) :=
 Mach.spec ZB (Zh0 L0 a1 a2 N) Tryz.func150 (by kernel_rfl) (by kernel_rfl) (fun x => by cases x <;> exact Zu _ rfl) (fun r => by cases r <;> exact Zu _ rfl) (fun x => by
  cases x with
  | h1m0 _ => exact fun _ => (show ¬ (1 ∈ Zj (Zgb 1).2) from by decide +kernel)
  ) (fun x => (show (Zh0 L0 a1 a2 N).Ok Tryz.prog Zg x (Zhd L0 a1 a2 N x) from by
  cases x with
  | h1m0 v1 => exact Zsu L0 a1 a2 v1 N
  )) (Zwj L0 a1 a2 N) (n := N) h

theorem Z7 {L0 : List RJ} {a1 a2 : Int} {N : Nat} {r : Zc5} (h : Ziy L0 a1 a2 N = some r) : LSpec Tryz.prog 150 (κt L0 a1 a2) [] (Zmr r) (Zlo r) := ZtH L0 a1 a2 N r h

noncomputable def ZpX : ZeS → Value
 | .r0 w0 => Value.bool w0
noncomputable def ZnH : ZeS → List (Option AObj)
 | .r0 w0 => []

theorem Zzp : Fx Tryz.prog Zg Tryz.f151 [] (κt L0 a1 a2) (ZpX) (ZnH) (ZgA L0 a1 a2 N) := by
 unfold ZgA
 refine Zz (fun z0 c0 => ?_)
 cases z0 with
 | r0 y0_0 y0_1 y0_2 y0_3 y0_4 y0_5 y0_6 y0_7 =>
  refine Ze (fun g1 => ?_) (fun g1 => ?_)
  ·
   refine Ze (fun g2 => ?_) (fun g2 => ?_)
   ·
    exact fxC (Za (oq [1, 3]) [] [] [] [(0, (tP (Z7 c0)).t)]) [] (vT) (hD g2 <| hT g1 <| kK (tQ (Z7 c0) 1) Zb) bE
   exact fxC (Za (oq [1, 2]) [] [] [] [(0, (tP (Z7 c0)).t)]) [] (vf) (kE a2 0 <| hT g1 <| kK (tQ (Z7 c0) 1) Zb) bE
  exact fxC (Za (oq [0]) [] [] [] [(0, (tP (Z7 c0)).t)]) [] (vf) (hF g1 <| kK (tQ (Z7 c0) 1) Zb) bE
 | r1 =>
  exact fxC (Za (oq []) [] [] [] [(0, (tP (Z7 c0)).t)]) [] (vf) (kK (tQ (Z7 c0) 1) Zb) bE

theorem Zwk (r : ZeS) (h : ZgA L0 a1 a2 N = some r) : LSpec Tryz.prog 151 (κt L0 a1 a2) [] (ZpX r) (ZnH r) :=
 Zax ZB Tryz.func151 (by kernel_rfl) (by kernel_rfl) (fun r => by cases r <;> exact Zu _ rfl) (Zzp L0 a1 a2 N) h

end
theorem Zab {L0 : List RJ} {a1 a2 : Int} {N : Nat} {r : ZeS} (h : ZgA L0 a1 a2 N = some r) : LSpec Tryz.prog 151 (κt L0 a1 a2) [] (ZpX r) (ZnH r) := Zwk L0 a1 a2 N r h

noncomputable def ZnI : Zd2 → Value
 | .r0 => vf
noncomputable def Zms : Zd2 → List (Option AObj)
 | .r0 => []

def Zzq : ZcB → Nat
 | .h1m0 => 1
noncomputable def Z0J (a0 a1 : Int) : ZcB → List (Nat × Value)
 | .h1m0 => [(0, vn), (3, vp 0 0), (5, vq)]
noncomputable def Z0K (a0 a1 : Int) : ZcB → List (Option AObj)
 | .h1m0 => [some (.cells [vi a0, vi a1] 44)]

noncomputable def Zkt : Nat → Code × List ZD
 | 1 => ZX [1, 0, 1, 3] (Zaw Tryz.f152) []
 | _ => (.skip, [])
def Zzr : Nat → Bool
 | 1 => true
 | _ => true
section
variable (a0 a1 : Int) (N : Nat)
noncomputable def ZiJ : Mach := ⟨Tryz.f152, [], ZcB, Zd2, Zh8 a0 a1 N, Zzq, Zkt, Zzr, Z0J a0 a1, Z0K a0 a1, ZnI, Zms⟩

theorem ZtI : (ZiJ a0 a1 N).Ok Tryz.prog Zg (.h1m0 : ZcB) (Zh8 a0 a1 N (.h1m0 : ZcB)) := by
 show (ZiJ a0 a1 N).Ok Tryz.prog Zg (.h1m0 : ZcB) (ZiX a0 a1 N)
 unfold ZiX
 exact okF (Za (oq []) [] [] [] []) [] (vf) Zb bE

theorem Zyo : (ZiJ a0 a1 N).Enter Tryz.prog Zg #[vn, Value.agg #[vi a0, vi a1]] (Zmg a0 a1 N) := by
 unfold Zmg
 exact enH (Zkt 1) (Za (oq []) [] [] [] []) [0] [some (vn), some (vp 0 0), some (vq)] Zb (tC (tC (tC (tE)))) (bS [vi a0, vi a1] <| bE) (show Zj (Zkt 1).2 = [] from rfl)

theorem ZuN (r : Zd2) (h : ZlA a0 a1 N = some r) : LSpec Tryz.prog 152 #[vn, Value.agg #[vi a0, vi a1]] [] (ZnI r) (Zms r) :=
 Mach.spec ZB (ZiJ a0 a1 N) Tryz.func152 (by kernel_rfl) (by kernel_rfl) (fun x => by cases x <;> exact Zu _ rfl) (fun r => by cases r <;> exact Zu _ rfl) (fun x => by
  cases x with
  | h1m0 => exact fun _ => (show ¬ (1 ∈ Zj (Zkt 1).2) from by decide +kernel)
  ) (fun x => (show (ZiJ a0 a1 N).Ok Tryz.prog Zg x (Zh8 a0 a1 N x) from by
  cases x with
  | h1m0 => exact ZtI a0 a1 N
  )) (Zyo a0 a1 N) (n := N) h

end
theorem Zgc {a0 a1 : Int} {N : Nat} {r : Zd2} (h : ZlA a0 a1 N = some r) : LSpec Tryz.prog 152 #[vn, Value.agg #[vi a0, vi a1]] [] (ZnI r) (Zms r) := ZuN a0 a1 N r h

noncomputable def ZpY : Zc6 → Value
 | .r0 w1 => Value.bool w1
noncomputable def Zot (L0 : List RG) (a1 a2 : Int) : Zc6 → List (Option AObj)
 | .r0 w1 => [some (.cells (Zd RA L0) 44)]

def Zwl : Zb7 → Nat
 | .h1m0 v1 => 1
noncomputable def Zyp (L0 : List RG) (a1 a2 : Int) : Zb7 → List (Nat × Value)
 | .h1m0 v1 => [(0, vs 0 0 L0.length L0.length), (3, vp 1 0), (5, vi (v1 : Int))]
section
variable (L0 : List RG) (a1 a2 : Int)
noncomputable def Zyq : Zb7 → List (Option AObj)
 | .h1m0 v1 => [some (.cells (Zd RA L0) 44), some (.cells [vi a1, vi a2] 44)]

noncomputable def Zfx : Nat → Code × List ZD
 | 1 => ZX [1, 0, 1, 3] (Zaw Tryz.f152) []
 | _ => (.skip, [])
def Zou : Nat → Bool
 | 1 => true
 | _ => true
noncomputable def Zyr (i : Nat) : List ZD := match Zou i with | true => .rnd i :: (Zfx i).2 | false => (Zfx i).2

noncomputable def ZgO (N : Nat) : Mach := ⟨Tryz.f152, [.cells (Zd RA L0) 44], Zb7, Zc6, Zgn L0 a1 a2 N, Zwl, Zfx, Zou, Zyp L0 a1 a2, Zyq L0 a1 a2, ZpY, Zot L0 a1 a2⟩

theorem Zrc (v1 N : Nat) : (ZgO L0 a1 a2 N).Ok Tryz.prog Zg (.h1m0 v1 : Zb7) (Zgn L0 a1 a2 N (.h1m0 v1 : Zb7)) := by
 show (ZgO L0 a1 a2 N).Ok Tryz.prog Zg (.h1m0 v1 : Zb7) (ZhT L0 a1 a2 N v1)
 unfold ZhT
 refine ok_ite (fun g0 => ?_) fun g0 => ?_
 ·
  have w1 := kLn RA L0 v1 0 2 <| kB v1 L0.length <| kI (v1 : Int) (Int.ofNat v1) <| hY g0 Zb
  refine ok_ite (fun g1 => ?_) fun g1 => ?_
  ·
   exact okF (Za (oq [1, 3]) [] [(0, v1)] [(0, (RA.cel (L0.getD v1 RG.z)))] []) [0] (vT) (kZ (((L0.getD v1 RG.z).a0 == a1) && (((L0.getD v1 RG.z).a1 == a2) && true)) w1) (bR <| bE)
  refine oi fun g2 => ?_
  exact okN (Za (oq [1, 2]) [(0, (((v1 + 1) : Nat) : Int))] [(0, v1)] [(0, (RA.cel (L0.getD v1 RG.z)))] []) [0, 1] [some (vs 0 0 L0.length L0.length), some (vp 1 0), some (κw v1)] (kW ((v1 : Int) + 1) (((v1 + 1) : Nat) : Int) <| kO (((L0.getD v1 RG.z).a0 == a1) && (((L0.getD v1 RG.z).a1 == a2) && true)) w1) (tC (tC (tC (tE)))) (bR <| bS [vi a1, vi a2] <| bE) (show 1 ∈ Zj (Zyr 1) from by decide +kernel)
 exact okF (Za (oq [0]) [] [] [] []) [0] (vf) (hN g0 Zb) (bR <| bE)

theorem ZuO (N : Nat) : (ZgO L0 a1 a2 N).Enter Tryz.prog Zg (κ3 L0 a1 a2) (ZjM L0 a1 a2 N) := by
 unfold ZjM
 exact enH (Zfx 1) (Za (oq []) [] [] [] []) [0, 1] [some (vs 0 0 L0.length L0.length), some (vp 1 0), some (vq)] Zb (tC (tC (tC (tE) ⟨Eq.trans (show κn = vq from ci) (by rfl), by rfl⟩))) (bR <| bS [vi a1, vi a2] <| bE) (show Zj (Zfx 1).2 = [] from rfl)

theorem Zsv (N : Nat) (r : Zc6) (h : Zhw L0 a1 a2 N = some r) : LSpec Tryz.prog 152 (κ3 L0 a1 a2) [.cells (Zd RA L0) 44] (ZpY r) (Zot L0 a1 a2 r) :=
 Mach.spec ZB (ZgO L0 a1 a2 N) Tryz.func152 (by kernel_rfl) (by kernel_rfl) (fun x => by cases x <;> exact Zu _ rfl) (fun r => by cases r <;> exact Zu _ rfl) (fun x => by
  cases x with
  | h1m0 _ => exact fun _ => (show ¬ (1 ∈ Zj (Zfx 1).2) from by decide +kernel)
  ) (fun x => (show (ZgO L0 a1 a2 N).Ok Tryz.prog Zg x (Zgn L0 a1 a2 N x) from by
  cases x with
  | h1m0 v1 => exact Zrc L0 a1 a2 v1 N
  )) (ZuO L0 a1 a2 N) (n := N) h

end
noncomputable def Zct {L0 : List RG} {a1 a2 : Int} {w1 : Bool} {N : Nat} (h : Zhw L0 a1 a2 N = some (.r0 w1)) (ks : List Nat) (n : Nat) : ToldS := ⟨#[vs (nth ks 0) 0 L0.length L0.length, Value.agg #[vi a1, vi a2]], [((nth ks 0), .cells (Zd RA L0) 44)], Value.bool w1, [], 0⟩

theorem ZfR {L0 : List RG} {a1 a2 : Int} {w1 : Bool} {N : Nat} (h : Zhw L0 a1 a2 N = some (.r0 w1)) (ks : List Nat) (n : Nat) (hk : ks.length = 1 := by rfl) (hnd : ks.Nodup := by decide +kernel) (hlt : ∀ k ∈ ks, k < n := by decide +kernel) : (Zct (N := N)  h ks n).P Tryz.prog 152 n :=
 match ks, hk, hnd, hlt with
 | [k0], _, hnd, hlt => ZcO (show LSpec Tryz.prog 152 (κ3 L0 a1 a2) [.cells (Zd RA L0) 44] (Value.bool w1) [some (.cells (Zd RA L0) 44)] from Zsv L0 a1 a2 N _ h) _ n [] hnd hlt

open Mach (oi ok_ite ok_bind okF okN enF enH en_ite en_none en_bind)
set_option linter.unusedVariables false
set_option maxRecDepth 100000
noncomputable def ZfS (L0 : List RJ) (L1 : List RG) (a2 a3 : Int) : Z8 → Value
 | .r0 => vs 0 0 L1.length L1.length
 | .r1 w0 => vs 1 0 w0.length w0.length
noncomputable abbrev κS (L1 : List RG) := [some (AObj.cells (Zd RA L1) 44)]
noncomputable def Zfy (L0 : List RJ) (L1 : List RG) (a2 a3 : Int) : Z8 → List (Option AObj)
 | .r0 => (κS L1)
 | .r1 w0 => [none, some (.cells (Zd RA w0) 44)]

def ZuP : Za6 → Nat
 | .h1m0 v1 v3 v4 v5 v6 v7 v8 v9 v10 v11 => 1
noncomputable def Zwm (L0 : List RJ) (L1 : List RG) (a2 a3 : Int) : Za6 → List (Nat × Value)
 | .h1m0 v1 v3 v4 v5 v6 v7 v8 v9 v10 v11 => [(0, ms RC L0), (1, vs 1 0 v1.length v1.length), (3, vT), (9, vp 2 0), (11, vi (v3 : Int))]
noncomputable def Zwn (L0 : List RJ) (L1 : List RG) (a2 a3 : Int) : Za6 → List (Option AObj)
 | .h1m0 v1 v3 v4 v5 v6 v7 v8 v9 v10 v11 => [none, some (.cells (Zd RA v1) 44), some (.cells [vi v4, vi v5, vi v6, vi v7, vi v8, vi v9, vi v10, ms RA v11] 97)]

noncomputable def Ze5 : Nat → Code × List ZD
 | 1 => ZX [1, 1, 1, 1, 0, 1, 3] (Zaw Tryz.f149) []
 | _ => (.skip, [])
def ZmX : Nat → Bool
 | 1 => true
 | _ => true
noncomputable def Zov (i : Nat) : List ZD := match ZmX i with | true => .rnd i :: (Ze5 i).2 | false => (Ze5 i).2

noncomputable def ZmY (L0 : List RJ) (L1 : List RG) (a2 a3 : Int) (k0 n : Nat) : Told := .call [(k0, .cells (Zd RA L1) 44)] (vs k0 0 L1.length L1.length) [] 0
def Zhk (A : Array Value) (L0 : List RJ) (L1 : List RG) (a2 a3 : Int) (k0 n : Nat) : Prop := ZcD Tryz.prog 149 A [(k0, .cells (Zd RA L1) 44)] (vs k0 0 L1.length L1.length) [] n 0

noncomputable abbrev κ0 (L1 : List RG) := [AObj.cells (Zd RA L1) 44]
noncomputable abbrev κy (L0 : List RJ) (L1 : List RG) (a2 a3 : Int) := #[ms RC L0, vs 0 0 L1.length L1.length, Value.agg #[vi a2, vi a3], vT]
section
variable (A : Array Value) (L0 : List RJ) (L1 : List RG) (a2 a3 : Int)
theorem ZlJ (hL : LSpec Tryz.prog 149 (κy L0 L1 a2 a3) (κ0 L1) (vs 0 0 L1.length L1.length) (κS L1)) (k0 n : Nat) (hA : A = #[ms RC L0, vs k0 0 L1.length L1.length, Value.agg #[vi a2, vi a3], vT]) (hnd : ([k0] : List Nat).Nodup) (hlt : ∀ k ∈ ([k0] : List Nat), k < n) : Zhk A L0 L1 a2 a3 k0 n :=
 ZzQ hA (LSpec.callL (show LSpec Tryz.prog 149 (κy L0 L1 a2 a3) (κ0 L1) (vs 0 0 L1.length L1.length) (κS L1) from hL) [k0] n [] rfl hnd hlt (show 1 ≤ 1 from by decide) (show ∀ j ∈ ([] : List Nat), j < 1 from by decide) (by rfl) ⟨(Zdj _ _ _), trivial⟩ (by rfl) ⟨(Zdj _ _ _), trivial⟩ ⟨.inr rfl, trivial⟩ rfl rfl rfl (Zf (Zky rfl (ZkQ _ _ _)) rfl) rfl)

noncomputable def ZmZ (L0 : List RJ) (L1 : List RG) (a2 a3 : Int) (w0 : List RG) (k0 n : Nat) : Told := .call [(k0, .cells (Zd RA L1) 44)] (vs n 0 w0.length w0.length) [(k0, none), (n, some (.cells (Zd RA w0) 44))] 1
def Zhl (A : Array Value) (L0 : List RJ) (L1 : List RG) (a2 a3 : Int) (w0 : List RG) (k0 n : Nat) : Prop := ZcD Tryz.prog 149 A [(k0, .cells (Zd RA L1) 44)] (vs n 0 w0.length w0.length) [(k0, none), (n, some (.cells (Zd RA w0) 44))] n 1

theorem ZlK (w0 : List RG) (hL : LSpec Tryz.prog 149 (κy L0 L1 a2 a3) (κ0 L1) (vs 1 0 w0.length w0.length) [none, some (.cells (Zd RA w0) 44)]) (k0 n : Nat) (hA : A = #[ms RC L0, vs k0 0 L1.length L1.length, Value.agg #[vi a2, vi a3], vT]) (hnd : ([k0] : List Nat).Nodup) (hlt : ∀ k ∈ ([k0] : List Nat), k < n) : Zhl A L0 L1 a2 a3 w0 k0 n :=
 ZzQ hA (LSpec.callL (show LSpec Tryz.prog 149 (κy L0 L1 a2 a3) (κ0 L1) (vs 1 0 w0.length w0.length) [none, some (.cells (Zd RA w0) 44)] from hL) [k0] n [0, 1] rfl hnd hlt (show 1 ≤ 2 from by decide) (show ∀ j ∈ ([0, 1] : List Nat), j < 2 from by decide) (by rfl) ⟨(Zdj _ _ _), trivial⟩ (by rfl) ⟨(Zdj _ _ _), trivial⟩ ⟨.inl (by decide), ⟨(by decide), trivial⟩⟩ rfl rfl rfl (Zf (Zky rfl (ZkQ _ _ _)) rfl) (Zf (Zky rfl rfl) (Zf (Zky rfl (ZzO (ZkQ _ _ _))) rfl)))

end
section
variable (rec : List RJ → List RG → Int → Int → Option Z8)
noncomputable def ZaO (L0 : List RJ) (L1 : List RG) (a2 a3 : Int) (N : Nat) : Mach := ⟨Tryz.f149, (κ0 L1), Za6, Z8, ZfE rec L0 L1 a2 a3 N, ZuP, Ze5, ZmX, Zwm L0 L1 a2 a3, Zwn L0 L1 a2 a3, ZfS L0 L1 a2 a3, Zfy L0 L1 a2 a3⟩

theorem ZpZ (hrec : ∀ (L0 : List RJ) (L1 : List RG) (a2 a3 : Int) (r : Z8), rec L0 L1 a2 a3 = some r → LSpec Tryz.prog 149 (κy L0 L1 a2 a3) (κ0 L1) (ZfS L0 L1 a2 a3 r) (Zfy L0 L1 a2 a3 r)) (L0 : List RJ) (L1 : List RG) (a2 a3 : Int) (v1 : List RG) (v3 : Nat) (v4 v5 v6 v7 v8 v9 v10 : Int) (v11 : List RG) (N : Nat) : (ZaO rec L0 L1 a2 a3 N).Ok Tryz.prog Zg (.h1m0 v1 v3 v4 v5 v6 v7 v8 v9 v10 v11 : Za6) (ZfE rec L0 L1 a2 a3 N (.h1m0 v1 v3 v4 v5 v6 v7 v8 v9 v10 v11 : Za6)) := by
 show (ZaO rec L0 L1 a2 a3 N).Ok Tryz.prog Zg (.h1m0 v1 v3 v4 v5 v6 v7 v8 v9 v10 v11 : Za6) (Zhq rec L0 L1 a2 a3 N v1 v3 v4 v5 v6 v7 v8 v9 v10 v11)
 unfold Zhq
 refine ok_ite (fun g0 => ?_) fun g0 => ?_
 ·
  refine ok_bind fun z1 c1 => ?_
  cases z1 with
  | r0 =>
   refine oi fun g2 => ?_
   exact Mach.ok_next (M := ZaO rec L0 L1 a2 a3 N) (cd := 1000000) (cm := 0) (y := (.h1m0 v1 (v3 + 1) v4 v5 v6 v7 v8 v9 v10 v11 : Za6)) (fu := 4000) (orc := (Za (oq [1]) [(0, (((v3 + 1) : Nat) : Int))] [(0, v3)] [(2, (RA.cel (v11.getD v3 RG.z)))] [(0, (ZmY L0 v1 ((v11.getD v3 RG.z).a0) ((v11.getD v3 RG.z).a1)   1 3))])) (live := [0, 1, 2]) (tv := fun _ => [some (ms RC L0), some (vs 1 0 v1.length v1.length), some (vT), some (vp 2 0), some (κ6 v3)]) (bl := [none, some (.cells (Zd RA v1) 44), some (.cells [vi v4, vi v5, vi v6, vi v7, vi v8, vi v9, vi v10, ms RA v11] 97)]) rfl (show 1 ∈ Zj (Zov 1) from by decide +kernel) (fun gv => by kernel_rfl) (kW ((v3 : Int) + 1) (((v3 + 1) : Nat) : Int) <| kX (dP (Zhk #[ms RC L0, vs 1 0 v1.length v1.length, Value.agg #[vi (v11.getD v3 RG.z).a0, vi (v11.getD v3 RG.z).a1], vT] L0 v1 ((v11.getD v3 RG.z).a0) ((v11.getD v3 RG.z).a1)   1 3)) true (Z1 (ZlJ #[ms RC L0, vs 1 0 v1.length v1.length, Value.agg #[vi (v11.getD v3 RG.z).a0, vi (v11.getD v3 RG.z).a1], vT] L0 v1 ((v11.getD v3 RG.z).a0) ((v11.getD v3 RG.z).a1)   (hrec L0 v1 ((v11.getD v3 RG.z).a0) ((v11.getD v3 RG.z).a1)  _ c1) 1 3 rfl (by decide) (by decide))) <| kR (Zd RA v1) <| kG RA v11 (0 + (v3 * 2)) v3 0 2 2 <| kB v3 v11.length <| kI (v3 : Int) (Int.ofNat v3) <| hY g0 Zb) rfl (by decide +kernel) (by rfl) (fun _ => ⟨rr, ⟨rr, ⟨rr, ⟨rr, ⟨rr, trivial⟩⟩⟩⟩⟩) ⟨(ZdI (E := RA) (α := RG) _ v1 _), ⟨sm, trivial⟩⟩
  | r1 y1_0 =>
   refine oi fun g2 => ?_
   exact Mach.ok_next (M := ZaO rec L0 L1 a2 a3 N) (cd := 1000000) (cm := 0) (y := (.h1m0 y1_0 (v3 + 1) v4 v5 v6 v7 v8 v9 v10 v11 : Za6)) (fu := 4000) (orc := (Za (oq [1]) [(0, (((v3 + 1) : Nat) : Int))] [(0, v3)] [(2, (RA.cel (v11.getD v3 RG.z)))] [(0, (ZmZ L0 v1 ((v11.getD v3 RG.z).a0) ((v11.getD v3 RG.z).a1)  y1_0 1 3))])) (live := [0, 3, 2]) (tv := fun _ => [some (ms RC L0), some (vs 3 0 y1_0.length y1_0.length), some (vT), some (vp 2 0), some (κ6 v3)]) (bl := [none, some (.cells (Zd RA y1_0) 44), some (.cells [vi v4, vi v5, vi v6, vi v7, vi v8, vi v9, vi v10, ms RA v11] 97)]) rfl (show 1 ∈ Zj (Zov 1) from by decide +kernel) (fun gv => by kernel_rfl) (kW ((v3 : Int) + 1) (((v3 + 1) : Nat) : Int) <| kX (dP (Zhl #[ms RC L0, vs 1 0 v1.length v1.length, Value.agg #[vi (v11.getD v3 RG.z).a0, vi (v11.getD v3 RG.z).a1], vT] L0 v1 ((v11.getD v3 RG.z).a0) ((v11.getD v3 RG.z).a1)  y1_0 1 3)) true (Z1 (ZlK #[ms RC L0, vs 1 0 v1.length v1.length, Value.agg #[vi (v11.getD v3 RG.z).a0, vi (v11.getD v3 RG.z).a1], vT] L0 v1 ((v11.getD v3 RG.z).a0) ((v11.getD v3 RG.z).a1)  y1_0 (hrec L0 v1 ((v11.getD v3 RG.z).a0) ((v11.getD v3 RG.z).a1)  _ c1) 1 3 rfl (by decide) (by decide))) <| kR (Zd RA v1) <| kG RA v11 (0 + (v3 * 2)) v3 0 2 2 <| kB v3 v11.length <| kI (v3 : Int) (Int.ofNat v3) <| hY g0 Zb) rfl (by decide +kernel) (by rfl) (fun _ => ⟨rr, ⟨rr, ⟨rr, ⟨rr, ⟨rr, trivial⟩⟩⟩⟩⟩) ⟨(ZdI (E := RA) (α := RG) _ y1_0 _), ⟨sm, trivial⟩⟩
 exact Mach.ok_fin (M := ZaO rec L0 L1 a2 a3 N) (cd := 1000000) (cm := 0) (r := (.r1 v1 : Z8)) (fu := 4000) (orc := (Za [(0, false)] [] [] [] [])) (live := [0, 1]) (u := vs 1 0 v1.length v1.length) (bl := [none, some (.cells (Zd RA v1) 44)]) (ob := [((decide ((v3 : Int) < (v11.length : Int))), false)]) (fun gv => by kernel_rfl) (oN Zb) rfl (by decide) (by rfl) rr ⟨(ZdI (E := RA) (α := RG) _ v1 _), trivial⟩

theorem ZtJ (hrec : ∀ (L0 : List RJ) (L1 : List RG) (a2 a3 : Int) (r : Z8), rec L0 L1 a2 a3 = some r → LSpec Tryz.prog 149 (κy L0 L1 a2 a3) (κ0 L1) (ZfS L0 L1 a2 a3 r) (Zfy L0 L1 a2 a3 r)) (L0 : List RJ) (L1 : List RG) (a2 a3 : Int) (N : Nat) : (ZaO rec L0 L1 a2 a3 N).Enter Tryz.prog Zg (κy L0 L1 a2 a3) (ZiY rec L0 L1 a2 a3 N) := by
 unfold ZiY
 refine en_bind (fun z0 c0 => ?_)
 cases z0 with
 | r0 y0_0 y0_1 y0_2 y0_3 y0_4 y0_5 y0_6 y0_7 =>
  refine en_bind (fun z1 c1 => ?_)
  cases z1 with
  | r0 y1_0 =>
   refine en_ite (fun g2 => ?_) (fun g2 => ?_)
   ·
    exact Mach.en_fin (M := ZaO rec L0 L1 a2 a3 N) (cd := 1000000) (cm := 0) (r := (.r0 : Z8)) (fu := 4000) (orc := (Za [(0, true)] [] [] [] [(0, (tP (Z7 c0)).t), (2, (tP (Zab c1)).t)])) (live := [0]) (u := vs 0 0 L1.length L1.length) (bl := (κS L1)) (ob := [((!y1_0), true), (dP ((tP (Zab c1)).P Tryz.prog 151 3), true), (dP ((tP (Z7 c0)).P Tryz.prog 150 2), true)]) (by kernel_rfl) (ZM nbt <| ZM (Z1 (tQ (Zab c1) 3)) <| ZM (Z1 (tQ (Z7 c0) 2)) Zb) rfl (by decide) (by rfl) rr ⟨(ZdI (E := RA) (α := RG) _ L1 _), trivial⟩
   refine en_bind (fun z3 c3 => ?_)
   cases z3 with
   | r0 y3_0 =>
    refine en_ite (fun g4 => ?_) (fun g4 => ?_)
    ·
     subst g4
     exact Mach.en_fin (M := ZaO rec L0 L1 a2 a3 N) (cd := 1000000) (cm := 0) (r := (.r0 : Z8)) (fu := 4000) (orc := (Za [(0, false)] [] [] [] [(0, (tP (Z7 c0)).t), (2, (tP (Zab c1)).t), (3, (Zct c3 [0] 3).t)])) (live := [0]) (u := vs 0 0 L1.length L1.length) (bl := (κS L1)) (ob := [(dP ((Zct c3 [0] 3).P Tryz.prog 152 3), true), (dS (Zd RA L1), true), ((!y1_0), false), (dP ((tP (Zab c1)).P Tryz.prog 151 3), true), (dP ((tP (Z7 c0)).P Tryz.prog 150 2), true)]) (by kernel_rfl) (ZM (Z1 (ZfR c3 [0] 3)) <| oR <| ZM nbf <| ZM (Z1 (tQ (Zab c1) 3)) <| ZM (Z1 (tQ (Z7 c0) 2)) Zb) rfl (by decide) (by rfl) rr ⟨(ZdI (E := RA) (α := RG) _ L1 _), trivial⟩
    obtain rfl : y3_0 = false := by simpa using g4
    refine en_ite (fun g5 => ?_) (fun g5 => ?_)
    ·
     exact Mach.en_fin (M := ZaO rec L0 L1 a2 a3 N) (cd := 1000000) (cm := 0) (r := (.r0 : Z8)) (fu := 4000) (orc := (Za [(0, false), (1, true)] [] [] [] [(0, (tP (Z7 c0)).t), (2, (tP (Zab c1)).t), (3, (Zct c3 [0] 3).t)])) (live := [0]) (u := vs 0 0 L1.length L1.length) (bl := (κS L1)) (ob := [((y0_5 != 1), true), (dP ((Zct c3 [0] 3).P Tryz.prog 152 3), true), (dS (Zd RA L1), true), ((!y1_0), false), (dP ((tP (Zab c1)).P Tryz.prog 151 3), true), (dP ((tP (Z7 c0)).P Tryz.prog 150 2), true)]) (by kernel_rfl) (oD <| ZM (Z1 (ZfR c3 [0] 3)) <| oR <| ZM nbf <| ZM (Z1 (tQ (Zab c1) 3)) <| ZM (Z1 (tQ (Z7 c0) 2)) Zb) rfl (by decide) (by rfl) rr ⟨(ZdI (E := RA) (α := RG) _ L1 _), trivial⟩
    refine en_ite (fun g6 => ?_) (fun _ => en_none)
    exact Mach.en_head (bK := Ze5 1) (M := ZaO rec L0 L1 a2 a3 N) (cd := 1000000) (cm := 0) (y := (.h1m0 (L1 ++ ([(⟨a2, a3⟩ : RG)] : List RG)) 0 y0_0 y0_1 y0_2 y0_3 y0_4 y0_5 y0_6 y0_7 : Za6)) (fu := 4000) (orc := (Za (oq [0, 2]) [] [] [] [(0, (tP (Z7 c0)).t), (2, (tP (Zab c1)).t), (3, (Zct c3 [0] 3).t), (4, .ap 1 [vi a2, vi a3] (Zd RA (L1 ++ ([(⟨a2, a3⟩ : RG)] : List RG))))])) (live := [0, 4, 2]) (tv := [some (ms RC L0), some (vs 4 0 (L1.length + 1) (L1.length + 1)), some (vT), some (vp 2 0), some (vq)]) (bl := [none, some (.cells (Zd RA (L1 ++ ([(⟨a2, a3⟩ : RG)] : List RG))) 44), some (.cells [vi y0_0, vi y0_1, vi y0_2, vi y0_3, vi y0_4, vi y0_5, vi y0_6, ms RA y0_7] 97)]) rfl rfl (show Zj (Ze5 1).2 = [] from rfl) (by kernel_rfl) (kA RA L1 (⟨a2, a3⟩ : RG) <| kE y0_5 1 <| kK (ZfR c3 [0] 3) <| kX ((!y1_0)) false nbf <| kK (tQ (Zab c1) 3) <| kK (tQ (Z7 c0) 2) Zb) rfl (by decide +kernel) (by rfl) ⟨rr, ⟨⟨Eq.trans (show (vs 1 0 (L1 ++ ([(⟨a2, a3⟩ : RG)] : List RG)).length (L1 ++ ([(⟨a2, a3⟩ : RG)] : List RG)).length : Value) = vs 1 0 (L1.length + 1) (L1.length + 1) from (Z0 rfl eqA eqA)) (by rfl), by rfl⟩, ⟨rr, ⟨rr, ⟨⟨Eq.trans (show κn = vq from ci) (by rfl), by rfl⟩, trivial⟩⟩⟩⟩⟩ ⟨(ZdI (E := RA) (α := RG) _ (L1 ++ ([(⟨a2, a3⟩ : RG)] : List RG)) _), ⟨sm, trivial⟩⟩
 | r1 =>
  refine en_bind (fun z1 c1 => ?_)
  cases z1 with
  | r0 y1_0 =>
   refine en_ite (fun g2 => ?_) (fun g2 => ?_)
   ·
    exact Mach.en_fin (M := ZaO rec L0 L1 a2 a3 N) (cd := 1000000) (cm := 0) (r := (.r0 : Z8)) (fu := 4000) (orc := (Za [(0, true)] [] [] [] [(0, (tP (Z7 c0)).t), (2, (tP (Zab c1)).t)])) (live := [0]) (u := vs 0 0 L1.length L1.length) (bl := (κS L1)) (ob := [((!y1_0), true), (dP ((tP (Zab c1)).P Tryz.prog 151 3), true), (dP ((tP (Z7 c0)).P Tryz.prog 150 2), true)]) (by kernel_rfl) (ZM nbt <| ZM (Z1 (tQ (Zab c1) 3)) <| ZM (Z1 (tQ (Z7 c0) 2)) Zb) rfl (by decide) (by rfl) rr ⟨(ZdI (E := RA) (α := RG) _ L1 _), trivial⟩
   refine en_bind (fun z3 c3 => ?_)
   cases z3 with
   | r0 y3_0 =>
    refine en_ite (fun g4 => ?_) (fun g4 => ?_)
    ·
     subst g4
     exact Mach.en_fin (M := ZaO rec L0 L1 a2 a3 N) (cd := 1000000) (cm := 0) (r := (.r0 : Z8)) (fu := 4000) (orc := (Za [(0, false)] [] [] [] [(0, (tP (Z7 c0)).t), (2, (tP (Zab c1)).t), (3, (Zct c3 [0] 3).t)])) (live := [0]) (u := vs 0 0 L1.length L1.length) (bl := (κS L1)) (ob := [(dP ((Zct c3 [0] 3).P Tryz.prog 152 3), true), (dS (Zd RA L1), true), ((!y1_0), false), (dP ((tP (Zab c1)).P Tryz.prog 151 3), true), (dP ((tP (Z7 c0)).P Tryz.prog 150 2), true)]) (by kernel_rfl) (ZM (Z1 (ZfR c3 [0] 3)) <| oR <| ZM nbf <| ZM (Z1 (tQ (Zab c1) 3)) <| ZM (Z1 (tQ (Z7 c0) 2)) Zb) rfl (by decide) (by rfl) rr ⟨(ZdI (E := RA) (α := RG) _ L1 _), trivial⟩
    obtain rfl : y3_0 = false := by simpa using g4
    exact Mach.en_fin (M := ZaO rec L0 L1 a2 a3 N) (cd := 1000000) (cm := 0) (r := (.r0 : Z8)) (fu := 4000) (orc := (Za [(0, false)] [] [] [] [(0, (tP (Z7 c0)).t), (2, (tP (Zab c1)).t), (3, (Zct c3 [0] 3).t)])) (live := [0]) (u := vs 0 0 L1.length L1.length) (bl := (κS L1)) (ob := [(dP ((Zct c3 [0] 3).P Tryz.prog 152 3), true), (dS (Zd RA L1), true), ((!y1_0), false), (dP ((tP (Zab c1)).P Tryz.prog 151 3), true), (dP ((tP (Z7 c0)).P Tryz.prog 150 2), true)]) (by kernel_rfl) (ZM (Z1 (ZfR c3 [0] 3)) <| oR <| ZM nbf <| ZM (Z1 (tQ (Zab c1) 3)) <| ZM (Z1 (tQ (Z7 c0) 2)) Zb) rfl (by decide) (by rfl) rr ⟨(ZdI (E := RA) (α := RG) _ L1 _), trivial⟩

end
theorem Zqa (N : Nat) : ∀ (n : Nat) (L0 : List RJ) (L1 : List RG) (a2 a3 : Int) (r : Z8), ZcC N n L0 L1 a2 a3 = some r → LSpec Tryz.prog 149 (κy L0 L1 a2 a3) (κ0 L1) (ZfS L0 L1 a2 a3 r) (Zfy L0 L1 a2 a3 r) := by
 intro n
 induction n with
 | zero => intro L0 L1 a2 a3 r h; cases h
 | succ n ih =>
  intro L0 L1 a2 a3 r h
  exact Mach.spec ZB (ZaO (ZcC N n) L0 L1 a2 a3 N) Tryz.func149 (by kernel_rfl) (by kernel_rfl) (fun x => by cases x <;> exact Zu _ rfl) (fun r => by cases r <;> exact Zu _ rfl) (fun x => by
   cases x with
   | h1m0 _ _ _ _ _ _ _ _ _ _ => exact fun _ => (show ¬ (1 ∈ Zj (Ze5 1).2) from by decide +kernel)
   ) (fun x => (show (ZaO (ZcC N n) L0 L1 a2 a3 N).Ok Tryz.prog Zg x (ZfE (ZcC N n) L0 L1 a2 a3 N x) from by
   cases x with
   | h1m0 v1 v3 v4 v5 v6 v7 v8 v9 v10 v11 => exact ZpZ (ZcC N n) ih L0 L1 a2 a3 v1 v3 v4 v5 v6 v7 v8 v9 v10 v11 N
   )) (ZtJ (ZcC N n) ih L0 L1 a2 a3 N) (n := N) h

theorem Zkg (L0 : List RJ) (L1 : List RG) (a2 a3 : Int) (N : Nat) (r : Z8) (h : Ziz L0 L1 a2 a3 N = some r) : LSpec Tryz.prog 149 (κy L0 L1 a2 a3) (κ0 L1) (ZfS L0 L1 a2 a3 r) (Zfy L0 L1 a2 a3 r) :=
 Zqa N N L0 L1 a2 a3 r h

section
variable (A : Array Value) (L0 : List RJ) (L1 : List RG) (a2 a3 : Int)
theorem ZuQ (N : Nat) (h : Ziz L0 L1 a2 a3 N = some (.r0)) (k0 n : Nat) (hA : A = #[ms RC L0, vs k0 0 L1.length L1.length, Value.agg #[vi a2, vi a3], vT]) (hnd : ([k0] : List Nat).Nodup) (hlt : ∀ k ∈ ([k0] : List Nat), k < n) : Zhk A L0 L1 a2 a3 k0 n :=
 ZlJ A L0 L1 a2 a3 (Zkg L0 L1 a2 a3 N _ h) k0 n hA hnd hlt

theorem ZuR (w0 : List RG) (N : Nat) (h : Ziz L0 L1 a2 a3 N = some (.r1 w0)) (k0 n : Nat) (hA : A = #[ms RC L0, vs k0 0 L1.length L1.length, Value.agg #[vi a2, vi a3], vT]) (hnd : ([k0] : List Nat).Nodup) (hlt : ∀ k ∈ ([k0] : List Nat), k < n) : Zhl A L0 L1 a2 a3 w0 k0 n :=
 ZlK A L0 L1 a2 a3 w0 (Zkg L0 L1 a2 a3 N _ h) k0 n hA hnd hlt

end
noncomputable def Zr9 : ZbT → Value
 | .r0 => vn
 | .r1 w0 => vs 0 0 w0.length w0.length
noncomputable def Zqb : ZbT → List (Option AObj)
 | .r0 => []
 | .r1 w0 => [some (.cells (Zd RA w0) 44)]

def Zys : ZbC → Nat
 | .h1m0 v1 v3 v4 v5 v6 v7 v8 v9 v10 v11 => 1
noncomputable def Zzs (L0 : List RJ) (a1 a2 : Int) : ZbC → List (Nat × Value)
 | .h1m0 v1 v3 v4 v5 v6 v7 v8 v9 v10 v11 => [(0, ms RC L0), (1, vs 0 0 v1.length v1.length), (3, vT), (9, vp 1 0), (11, vi (v3 : Int))]
noncomputable def Zzt (L0 : List RJ) (a1 a2 : Int) : ZbC → List (Option AObj)
 | .h1m0 v1 v3 v4 v5 v6 v7 v8 v9 v10 v11 => [some (.cells (Zd RA v1) 44), some (.cells [vi v4, vi v5, vi v6, vi v7, vi v8, vi v9, vi v10, ms RA v11] 97)]

noncomputable def Zgd : Nat → Code × List ZD
 | 1 => ZX [1, 1, 1, 1, 0, 1, 3] (Zaw Tryz.f149) []
 | _ => (.skip, [])
def Zqc : Nat → Bool
 | 1 => true
 | _ => true
noncomputable def ZrA (i : Nat) : List ZD := match Zqc i with | true => .rnd i :: (Zgd i).2 | false => (Zgd i).2

section
variable (L0 : List RJ) (a1 a2 : Int)
noncomputable def Zh1 (N : Nat) : Mach := ⟨Tryz.f149, [], ZbC, ZbT, Zhe L0 a1 a2 N, Zys, Zgd, Zqc, Zzs L0 a1 a2, Zzt L0 a1 a2, Zr9, Zqb⟩

theorem Zsw (v1 : List RG) (v3 : Nat) (v4 v5 v6 v7 v8 v9 v10 : Int) (v11 : List RG) (N : Nat) : (Zh1 L0 a1 a2 N).Ok Tryz.prog Zg (.h1m0 v1 v3 v4 v5 v6 v7 v8 v9 v10 v11 : ZbC) (Zhe L0 a1 a2 N (.h1m0 v1 v3 v4 v5 v6 v7 v8 v9 v10 v11 : ZbC)) := by
 show (Zh1 L0 a1 a2 N).Ok Tryz.prog Zg (.h1m0 v1 v3 v4 v5 v6 v7 v8 v9 v10 v11 : ZbC) (Zi0 L0 a1 a2 N v1 v3 v4 v5 v6 v7 v8 v9 v10 v11)
 unfold Zi0
 refine ok_ite (fun g0 => ?_) fun g0 => ?_
 ·
  have w1 := kG RA v11 (0 + (v3 * 2)) v3 0 2 2 <| kB v3 v11.length <| kI (v3 : Int) (Int.ofNat v3) <| hY g0 Zb
  refine ok_bind fun z1 c1 => ?_
  cases z1 with
  | r0 =>
   refine oi fun g2 => ?_
   exact okN (Za (oq [1]) [(0, (((v3 + 1) : Nat) : Int))] [(0, v3)] [(2, (RA.cel (v11.getD v3 RG.z)))] [(0, (ZmY L0 v1 ((v11.getD v3 RG.z).a0) ((v11.getD v3 RG.z).a1)   0 2))]) [0, 1] [some (ms RC L0), some (vs 0 0 v1.length v1.length), some (vT), some (vp 1 0), some (κ6 v3)] (kW ((v3 : Int) + 1) (((v3 + 1) : Nat) : Int) <| kX (dP (Zhk #[ms RC L0, vs 0 0 v1.length v1.length, Value.agg #[vi (v11.getD v3 RG.z).a0, vi (v11.getD v3 RG.z).a1], vT] L0 v1 ((v11.getD v3 RG.z).a0) ((v11.getD v3 RG.z).a1)   0 2)) true (Z1 (ZuQ #[ms RC L0, vs 0 0 v1.length v1.length, Value.agg #[vi (v11.getD v3 RG.z).a0, vi (v11.getD v3 RG.z).a1], vT] L0 v1 ((v11.getD v3 RG.z).a0) ((v11.getD v3 RG.z).a1)   N c1 0 2 rfl (by decide) (by decide))) <| kR (Zd RA v1) w1) (tC (tC (tC (tC (tC (tE)))))) (bR <| bS [vi v4, vi v5, vi v6, vi v7, vi v8, vi v9, vi v10, ms RA v11] <| bE) (show 1 ∈ Zj (ZrA 1) from by decide +kernel)
  | r1 y1_0 =>
   refine oi fun g2 => ?_
   exact okN (Za (oq [1]) [(0, (((v3 + 1) : Nat) : Int))] [(0, v3)] [(2, (RA.cel (v11.getD v3 RG.z)))] [(0, (ZmZ L0 v1 ((v11.getD v3 RG.z).a0) ((v11.getD v3 RG.z).a1)  y1_0 0 2))]) [2, 1] [some (ms RC L0), some (vs 2 0 y1_0.length y1_0.length), some (vT), some (vp 1 0), some (κ6 v3)] (kW ((v3 : Int) + 1) (((v3 + 1) : Nat) : Int) <| kX (dP (Zhl #[ms RC L0, vs 0 0 v1.length v1.length, Value.agg #[vi (v11.getD v3 RG.z).a0, vi (v11.getD v3 RG.z).a1], vT] L0 v1 ((v11.getD v3 RG.z).a0) ((v11.getD v3 RG.z).a1)  y1_0 0 2)) true (Z1 (ZuR #[ms RC L0, vs 0 0 v1.length v1.length, Value.agg #[vi (v11.getD v3 RG.z).a0, vi (v11.getD v3 RG.z).a1], vT] L0 v1 ((v11.getD v3 RG.z).a0) ((v11.getD v3 RG.z).a1)  y1_0 N c1 0 2 rfl (by decide) (by decide))) <| kR (Zd RA v1) w1) (tC (tC (tC (tC (tC (tE)))))) (bR <| bS [vi v4, vi v5, vi v6, vi v7, vi v8, vi v9, vi v10, ms RA v11] <| bE) (show 1 ∈ Zj (ZrA 1) from by decide +kernel)
 exact okF (Za (oq [0]) [] [] [] []) [0] (vs 0 0 v1.length v1.length) (hN g0 Zb) (bR <| bE)

noncomputable abbrev κ4 := #[ms RC L0, vn, Value.agg #[vi a1, vi a2], vT]
theorem Zwo (N : Nat) : (Zh1 L0 a1 a2 N).Enter Tryz.prog Zg (κ4 L0 a1 a2) (ZkU L0 a1 a2 N) := by
 unfold ZkU
 refine en_bind (fun z0 c0 => ?_)
 cases z0 with
 | r0 y0_0 y0_1 y0_2 y0_3 y0_4 y0_5 y0_6 y0_7 =>
  refine en_bind (fun z1 c1 => ?_)
  cases z1 with
  | r0 y1_0 =>
   have w2 := kK (tQ (Zab c1) 2) <| kK (tQ (Z7 c0) 1) Zb
   refine en_ite (fun g2 => ?_) (fun g2 => ?_)
   ·
    exact enF (Za (oq [1]) [] [] [] [(0, (tP (Z7 c0)).t), (2, (tP (Zab c1)).t)]) [] (vn) (kX ((!y1_0)) true nbt w2) bE
   have w3 := kX ((!y1_0)) false nbf w2
   refine en_bind (fun z3 c3 => ?_)
   cases z3 with
   | r0 =>
    refine en_ite (fun g4 => ?_) (fun g4 => ?_)
    ·
     exact enF (Za (oq [0, 3]) [] [] [] [(0, (tP (Z7 c0)).t), (2, (tP (Zab c1)).t), (3, (tP (Zgc c3)).t)]) [] (vn) (hD g4 <| kK (tQ (Zgc c3) 2) w3) bE
    exact enH (Zgd 1) (Za (oq [0, 2]) [] [] [] [(0, (tP (Z7 c0)).t), (2, (tP (Zab c1)).t), (3, (tP (Zgc c3)).t)]) [3, 1] [some (ms RC L0), some (vs 3 0 1 1), some (vT), some (vp 1 0), some (vq)] (kE y0_5 1 <| kK (tQ (Zgc c3) 2) w3) (tC (tC (tC (tC (tC (tE) ⟨Eq.trans (show κn = vq from ci) (by rfl), by rfl⟩))) ⟨Eq.trans (show (vs 0 0 ([(⟨a1, a2⟩ : RG)] : List RG).length ([(⟨a1, a2⟩ : RG)] : List RG).length : Value) = vs 0 0 1 1 from (Z0 rfl eqA eqA)) (by rfl), by rfl⟩)) (bC (o := .cells [vi a1, vi a2] 44) (Zae (E := RA) _ (L := ([(⟨a1, a2⟩ : RG)] : List RG)) _ (show ([vi a1, vi a2] : List Value) = Zd RA ([(⟨a1, a2⟩ : RG)] : List RG) from rfl)) <| bS [vi y0_0, vi y0_1, vi y0_2, vi y0_3, vi y0_4, vi y0_5, vi y0_6, ms RA y0_7] <| bE) (show Zj (Zgd 1).2 = [] from rfl)
 | r1 =>
  refine en_bind (fun z1 c1 => ?_)
  cases z1 with
  | r0 y1_0 =>
   refine en_ite (fun g2 => ?_) (fun g2 => ?_)
   ·
    exact enF (Za (oq [1]) [] [] [] [(0, (tP (Z7 c0)).t), (2, (tP (Zab c1)).t)]) [] (vn) (kX ((!y1_0)) true nbt <| kK (tQ (Zab c1) 2) <| kK (tQ (Z7 c0) 1) Zb) bE
   refine en_bind (fun z3 c3 => ?_)
   cases z3 with
   | r0 =>
    exact enF (Za (oq [0]) [] [] [] [(0, (tP (Z7 c0)).t), (2, (tP (Zab c1)).t), (3, (tP (Zgc c3)).t)]) [] (vn) (kK (tQ (Zgc c3) 2) <| kX ((!y1_0)) false nbf <| kK (tQ (Zab c1) 2) <| kK (tQ (Z7 c0) 1) Zb) bE

theorem ZlL (N : Nat) (r : ZbT) (h : Zhf L0 a1 a2 N = some r) : LSpec Tryz.prog 149 (κ4 L0 a1 a2) [] (Zr9 r) (Zqb r) :=
 Mach.spec ZB (Zh1 L0 a1 a2 N) Tryz.func149 (by kernel_rfl) (by kernel_rfl) (fun x => by cases x <;> exact Zu _ rfl) (fun r => by cases r <;> exact Zu _ rfl) (fun x => by
  cases x with
  | h1m0 _ _ _ _ _ _ _ _ _ _ => exact fun _ => (show ¬ (1 ∈ Zj (Zgd 1).2) from by decide +kernel)
  ) (fun x => (show (Zh1 L0 a1 a2 N).Ok Tryz.prog Zg x (Zhe L0 a1 a2 N x) from by
  cases x with
  | h1m0 v1 v3 v4 v5 v6 v7 v8 v9 v10 v11 => exact Zsw L0 a1 a2 v1 v3 v4 v5 v6 v7 v8 v9 v10 v11 N
  )) (Zwo L0 a1 a2 N) (n := N) h

noncomputable def Zqd {L0 : List RJ} {a1 a2 : Int} {N : Nat} (h : Zhf L0 a1 a2 N = some (.r0)) (ks : List Nat) (n : Nat) : ToldS := ⟨(κ4 L0 a1 a2), [], vn, [], 0⟩

theorem Zyt {L0 : List RJ} {a1 a2 : Int} {N : Nat} (h : Zhf L0 a1 a2 N = some (.r0)) (ks : List Nat) (n : Nat) (hk : ks.length = 0 := by rfl) (hnd : ks.Nodup := by decide +kernel) (hlt : ∀ k ∈ ks, k < n := by decide +kernel) : (Zqd (N := N)  h ks n).P Tryz.prog 149 n :=
 match ks, hk, hnd, hlt with
 | [], _, hnd, hlt => ZcO (show LSpec Tryz.prog 149 (κ4 L0 a1 a2) [] (vn) [] from ZlL L0 a1 a2 N _ h) _ n [] hnd hlt

noncomputable def Zqe {L0 : List RJ} {a1 a2 : Int} {w0 : List RG} {N : Nat} (h : Zhf L0 a1 a2 N = some (.r1 w0)) (ks : List Nat) (n : Nat) : ToldS := ⟨(κ4 L0 a1 a2), [], vs n 0 w0.length w0.length, [(n, some (.cells (Zd RA w0) 44))], 1⟩

theorem Zyu {L0 : List RJ} {a1 a2 : Int} {w0 : List RG} {N : Nat} (h : Zhf L0 a1 a2 N = some (.r1 w0)) (ks : List Nat) (n : Nat) (hk : ks.length = 0 := by rfl) (hnd : ks.Nodup := by decide +kernel) (hlt : ∀ k ∈ ks, k < n := by decide +kernel) : (Zqe (N := N)  h ks n).P Tryz.prog 149 n :=
 match ks, hk, hnd, hlt with
 | [], _, hnd, hlt => ZcO (show LSpec Tryz.prog 149 (κ4 L0 a1 a2) [] (vs 0 0 w0.length w0.length) [some (.cells (Zd RA w0) 44)] from ZlL L0 a1 a2 N _ h) _ n [0] hnd hlt

noncomputable def ZlM : ZbU → Value
 | .r0 => vn
 | .r1 w0 => vs 0 0 w0.length w0.length
noncomputable def Zlp : ZbU → List (Option AObj)
 | .r0 => []
 | .r1 w0 => [some (.cells (Zd RA w0) 44)]

noncomputable def Zna : ZbU → Value
 | .r0 => ms RA ([] : List RG)
 | .r1 w0 => ms RA w0
noncomputable def ZlN : ZbU → List (Option AObj)
 | .r0 => []
 | .r1 w0 => []

theorem Zsx (N : Nat) : Fx Tryz.prog Zg Tryz.f143 [] (κt L0 a1 a2) (ZlM) (Zlp) (ZdK L0 a1 a2 N) := by
 unfold ZdK
 refine Zz (fun z0 c0 => ?_)
 cases z0 with
 | r0 =>
  exact fxC (Za (oq []) [] [] [] [(0, (Zqd c0 [] 1).t)]) [] (vn) (kK (Zyt c0 [] 1) Zb) bE
 | r1 y0_0 =>
  exact fxC (Za (oq []) [] [] [] [(0, (Zqe c0 [] 1).t)]) [1] (vs 1 0 y0_0.length y0_0.length) (kK (Zyu c0 [] 1) Zb) (bR <| bE)

theorem ZoF (N : Nat) (r : ZbU) (h : ZdK L0 a1 a2 N = some r) : LSpec Tryz.prog 143 (κt L0 a1 a2) [] (ZlM r) (Zlp r) :=
 Zax ZB Tryz.func143 (by kernel_rfl) (by kernel_rfl) (fun r => by cases r <;> exact Zu _ rfl) (Zsx L0 a1 a2 N) h

theorem Zqf (N : Nat) (r : ZbU) (h : ZdK L0 a1 a2 N = some r) : LSpec Tryz.prog 143 (κt L0 a1 a2) [] (Zna r) (ZlN r) := by
 have h0 := ZoF L0 a1 a2 N r h
 cases r with
 | r0 => exact (LSpec.nlv (v2 := ms RA ([] : List RG)) h0 rfl rfl)
 | r1 w0 => exact (LSpec.frzv (E := RA) (L := w0) (post := []) (v2 := ms RA w0) h0 (show 0 ≤ 0 from by decide) (show 0 < 1000000000 from by decide) trivial rfl rfl rfl)

end
theorem Zc1 {L0 : List RJ} {a1 a2 : Int} {N : Nat} {r : ZbU} (h : ZdK L0 a1 a2 N = some r) : LSpec Tryz.prog 143 (κt L0 a1 a2) [] (Zna r) (ZlN r) := Zqf L0 a1 a2 N r h

noncomputable def Zow (L0 : List RJ) (a1 a2 a3 a4 a5 a6 a7 a8 : Int) (L9 : List RG) : Zdb → Value
 | .r0 => vs 0 0 L0.length L0.length
section
variable (L0 : List RJ) (a1 a2 a3 a4 a5 a6 a7 a8 : Int) (L9 : List RG)
noncomputable def Znb : Zdb → List (Option AObj)
 | .r0 => [some (.cells (Zd RC (L0.set a1.toNat (⟨a2, a3, a4, a5, a6, a7, a8, L9⟩ : RJ))) 97)]

noncomputable def Zqg : Zdb → Value
 | .r0 => ms RC (L0.set a1.toNat (⟨a2, a3, a4, a5, a6, a7, a8, L9⟩ : RJ))
noncomputable def Zox : Zdb → List (Option AObj)
 | .r0 => []

theorem ZuS (N : Nat) : Fx Tryz.prog Zg Tryz.f144 [] #[ms RC L0, vi a1, Value.agg #[vi a2, vi a3, vi a4, vi a5, vi a6, vi a7, vi a8, ms RA L9]] (Zow L0 a1 a2 a3 a4 a5 a6 a7 a8 L9) (Znb L0 a1 a2 a3 a4 a5 a6 a7 a8 L9) (ZfZ L0 a1 a2 a3 a4 a5 a6 a7 a8 L9 N) := by
 unfold ZfZ
 refine Ze (fun _ => Zq) (fun g0 => ?_)
 refine Ze (fun g1 => ?_) (fun _ => Zq)
 refine Ze (fun g2 => ?_) (fun _ => Zq)
 refine Ze (fun g3 => ?_) (fun _ => Zq)
 exact fxC (Za (oq []) [] [(0, a1.toNat)] [] [(0, .ap L0.length (Zd RC L0) (Zd RC L0)), (1, .st (Zd RC (L0.set a1.toNat (⟨a2, a3, a4, a5, a6, a7, a8, L9⟩ : RJ))))]) [2] (vs 2 0 (0 + L0.length) (0 + L0.length)) (kC (Zdu (E := RC) (L := L0) (i := a1.toNat) (q := 0) (l := [vi a2, vi a3, vi a4, vi a5, vi a6, vi a7, vi a8, ms RA L9]) (⟨a2, a3, a4, a5, a6, a7, a8, L9⟩ : RJ) (by omega) (show (0 + (a1.toNat * 8)) = a1.toNat * 8 + 0 from by omega) (show 0 + 8 ≤ 8 from by decide) rfl) <| kB a1.toNat (0 + L0.length) <| kI a1 (Int.ofNat a1.toNat) <| kX (dP ((L0.length = L0.length ∧ ((L0.length * 8 = 0 ∧ (Zd RC L0) = []) ∨ ∃ c, L0.length * 8 ≠ 0 ∧ Zay (code (Zak RC L0)) 0 (L0.length * 8) = some c ∧ (Zd RC L0) = Zw c)) ∧ 0 < L0.length ∧ L0.length ≤ 100000 ∧ 0 < 0 + L0.length ∧ 0 ≤ 100000 ∧ 0 * 8 ≤ (List.length []) ∧ List.take (0 * 8) [] ++ (Zd RC L0) = (Zd RC L0))) true (Z1 ⟨⟨rfl, (ZdE (E := RC) (L := L0) (n := L0.length) (size := 8) rfl (by decide) (by omega))⟩, by omega, by omega, ltA, by omega, (Zbf (E := RC) (L := ([] : List RJ)) (M := L0) (n := 0) (show _ = _ * 8 from rfl) ltA (R := L0) (by rw [List.take_of_length_le ltA]; rfl))⟩) Zb) (bR <| bE) (hv := ⟨Eq.trans (show (vs 0 0 L0.length L0.length : Value) = vs 0 0 (0 + L0.length) (0 + L0.length) from (Z0 rfl eqA eqA)) (by rfl), by rfl⟩)

theorem Zrd (N : Nat) (r : Zdb) (h : ZfZ L0 a1 a2 a3 a4 a5 a6 a7 a8 L9 N = some r) : LSpec Tryz.prog 144 #[ms RC L0, vi a1, Value.agg #[vi a2, vi a3, vi a4, vi a5, vi a6, vi a7, vi a8, ms RA L9]] [] (Zow L0 a1 a2 a3 a4 a5 a6 a7 a8 L9 r) (Znb L0 a1 a2 a3 a4 a5 a6 a7 a8 L9 r) :=
 Zax ZB Tryz.func144 (by kernel_rfl) (by kernel_rfl) (fun r => by cases r <;> exact Zu _ rfl) (ZuS L0 a1 a2 a3 a4 a5 a6 a7 a8 L9 N) h

theorem Zsy (N : Nat) (r : Zdb) (h : ZfZ L0 a1 a2 a3 a4 a5 a6 a7 a8 L9 N = some r) : LSpec Tryz.prog 144 #[ms RC L0, vi a1, Value.agg #[vi a2, vi a3, vi a4, vi a5, vi a6, vi a7, vi a8, ms RA L9]] [] (Zqg L0 a1 a2 a3 a4 a5 a6 a7 a8 L9 r) (Zox r) := by
 have h0 := Zrd L0 a1 a2 a3 a4 a5 a6 a7 a8 L9 N r h
 cases r with
 | r0 => exact (LSpec.frzv (E := RC) (L := (L0.set a1.toNat (⟨a2, a3, a4, a5, a6, a7, a8, L9⟩ : RJ))) (post := []) (v2 := ms RC (L0.set a1.toNat (⟨a2, a3, a4, a5, a6, a7, a8, L9⟩ : RJ))) h0 (show 0 ≤ 0 from by decide) (show 0 < 1000000000 from by decide) trivial rfl (Zg1 eqA eqA) rfl)

end
theorem Zoy {L0 : List RJ} {a1 a2 a3 a4 a5 a6 a7 a8 : Int} {L9 : List RG} {N : Nat} {r : Zdb} (h : ZfZ L0 a1 a2 a3 a4 a5 a6 a7 a8 L9 N = some r) : LSpec Tryz.prog 144 #[ms RC L0, vi a1, Value.agg #[vi a2, vi a3, vi a4, vi a5, vi a6, vi a7, vi a8, ms RA L9]] [] (Zqg L0 a1 a2 a3 a4 a5 a6 a7 a8 L9 r) (Zox r) := Zsy L0 a1 a2 a3 a4 a5 a6 a7 a8 L9 N r h

noncomputable def Zlq : Zfn → Value
 | .r0 w0 => ms RC w0
noncomputable def ZjX : Zfn → List (Option AObj)
 | .r0 w0 => []

section
variable (L0 : List RJ) (a1 a2 a3 : Int) (N : Nat)
theorem ZuT : Fx Tryz.prog Zg Tryz.f145 [] (κx L0 a1 a2 a3) (Zlq) (ZjX) (ZeZ L0 a1 a2 a3 N) := by
 unfold ZeZ
 refine Zz (fun z0 c0 => ?_)
 cases z0 with
 | r0 y0_0 y0_1 =>
  refine Ze (fun g1 => ?_) (fun _ => Zq)
  refine Ze (fun g2 => ?_) (fun _ => Zq)
  refine Zz (fun z3 c3 => ?_)
  cases z3 with
  | r0 =>
   exact fxC (Za (oq []) [] [(0, (y0_0).toNat)] [(1, (RC.cel (L0.getD (y0_0).toNat RJ.z)))] [(0, (tP (Z9 c0)).t), (3, (tP (Zoy c3)).t)]) [] (ms RC (L0.set (y0_0).toNat (Zpz (L0.getD (y0_0).toNat RJ.z) a3 : RJ))) (kK (tQ (Zoy c3) 2) <| kG RC L0 (0 + ((y0_0).toNat * 8)) ((y0_0).toNat) 0 8 8 <| kB (y0_0).toNat L0.length <| kI y0_0 (Int.ofNat (y0_0).toNat) <| kK (tQ (Z9 c0) 1) Zb) bE

theorem Zsz (r : Zfn) (h : ZeZ L0 a1 a2 a3 N = some r) : LSpec Tryz.prog 145 (κx L0 a1 a2 a3) [] (Zlq r) (ZjX r) :=
 Zax ZB Tryz.func145 (by kernel_rfl) (by kernel_rfl) (fun r => by cases r <;> exact Zu _ rfl) (ZuT L0 a1 a2 a3 N) h

end
theorem Ze6 {L0 : List RJ} {a1 a2 a3 : Int} {N : Nat} {r : Zfn} (h : ZeZ L0 a1 a2 a3 N = some r) : LSpec Tryz.prog 145 (κx L0 a1 a2 a3) [] (Zlq r) (ZjX r) := Zsz L0 a1 a2 a3 N r h

open Mach (oi ok_ite ok_bind okF okN enF enH en_ite en_none en_bind)
set_option linter.unusedVariables false
set_option maxRecDepth 100000
noncomputable def ZnJ : Zb0 → Value
 | .r0 w0 w1 => Value.tuple #[ms RC w0, vi w1]
noncomputable def Zmt : Zb0 → List (Option AObj)
 | .r0 w0 w1 => []

def Zzu : Zav → Nat
 | .h1m0 v0 => 1
 | .h1m1 v0 v1 v2 => 1
noncomputable def Z0L (L0 : List RJ) (a1 a2 a3 a4 a5 a6 : Int) : Zav → List (Nat × Value)
 | .h1m0 v0 => [(0, ms RC v0), (17, vn), (18, vq)]
 | .h1m1 v0 v1 v2 => [(0, ms RC v0), (17, ms RA v1), (18, vi (v2 : Int))]
noncomputable def Z0M (L0 : List RJ) (a1 a2 a3 a4 a5 a6 : Int) : Zav → List (Option AObj)
 | .h1m0 v0 => []
 | .h1m1 v0 v1 v2 => []

noncomputable def ZaF : Nat → Code × List ZD
 | 1 => ZX [1, 1, 1, 1, 1, 1, 1, 1, 1, 1, 1, 0, 1, 3] (Zaw Tryz.f129) []
 | _ => (.skip, [])
def ZrB : Nat → Bool
 | 1 => true
 | _ => true
noncomputable def Z0N (i : Nat) : List ZD := match ZrB i with | true => .rnd i :: (ZaF i).2 | false => (ZaF i).2

section
variable (L0 : List RJ) (a1 a2 a3 a4 a5 a6 : Int)
noncomputable def ZfK (N : Nat) : Mach := ⟨Tryz.f129, [], Zav, Zb0, ZfP L0 a1 a2 a3 a4 a5 a6 N, Zzu, ZaF, ZrB, Z0L L0 a1 a2 a3 a4 a5 a6, Z0M L0 a1 a2 a3 a4 a5 a6, ZnJ, Zmt⟩

theorem ZtK (v0 : List RJ) (N : Nat) : (ZfK L0 a1 a2 a3 a4 a5 a6 N).Ok Tryz.prog Zg (.h1m0 v0 : Zav) (ZfP L0 a1 a2 a3 a4 a5 a6 N (.h1m0 v0 : Zav)) := by
 show (ZfK L0 a1 a2 a3 a4 a5 a6 N).Ok Tryz.prog Zg (.h1m0 v0 : Zav) (ZiZ L0 a1 a2 a3 a4 a5 a6 N v0)
 unfold ZiZ
 exact okF (Za (oq []) [] [] [] []) [] (Value.tuple #[ms RC v0, vq]) Zb bE

theorem ZtL (v0 : List RJ) (v1 : List RG) (v2 N : Nat) : (ZfK L0 a1 a2 a3 a4 a5 a6 N).Ok Tryz.prog Zg (.h1m1 v0 v1 v2 : Zav) (ZfP L0 a1 a2 a3 a4 a5 a6 N (.h1m1 v0 v1 v2 : Zav)) := by
 show (ZfK L0 a1 a2 a3 a4 a5 a6 N).Ok Tryz.prog Zg (.h1m1 v0 v1 v2 : Zav) (Zja L0 a1 a2 a3 a4 a5 a6 N v0 v1 v2)
 unfold Zja
 refine ok_ite (fun g0 => ?_) fun g0 => ?_
 ·
  refine ok_bind fun z1 c1 => ?_
  cases z1 with
  | r0 y1_0 =>
   refine oi fun g2 => ?_
   exact okN (Za (oq [1]) [(0, (((v2 + 1) : Nat) : Int))] [(0, v2)] [(0, (RA.cel (v1.getD v2 RG.z)))] [(0, (tP (Ze6 c1)).t)]) [] [some (ms RC y1_0), some (ms RA v1), some (κB v2)] (kW ((v2 : Int) + 1) (((v2 + 1) : Nat) : Int) <| kK (tQ (Ze6 c1) 0) <| kG RA v1 (0 + (v2 * 2)) v2 0 2 2 <| kB v2 v1.length <| kI (v2 : Int) (Int.ofNat v2) <| hY g0 Zb) (tC (tC (tC (tE)))) bE (show 1 ∈ Zj (Z0N 1) from by decide +kernel)
 exact okF (Za (oq [0]) [] [] [] []) [] (Value.tuple #[ms RC v0, vq]) (hN g0 Zb) bE

theorem Zyv (N : Nat) : (ZfK L0 a1 a2 a3 a4 a5 a6 N).Enter Tryz.prog Zg #[ms RC L0, vi a1, Value.agg #[vi a2, vi a3], vi a4, Value.agg #[vi a5, vi a6]] (Zmh L0 a1 a2 a3 a4 a5 a6 N) := by
 unfold Zmh
 refine en_ite (fun g0 => ?_) (fun _ => en_none)
 refine en_ite (fun g1 => ?_) (fun _ => en_none)
 refine en_bind (fun z2 c2 => ?_)
 cases z2 with
 | r0 y2_0 y2_1 y2_2 =>
  have w3 := kK (tQ (ZaV c2) 2) Zb
  refine en_ite (fun g3 => ?_) (fun g3 => ?_)
  ·
   exact enF (Za (oq [1]) [] [] [] [(0, (tP (ZaV c2)).t)]) [] (Value.tuple #[ms RC L0, vi y2_2]) (hD g3 w3) bE
  have w4 := kE y2_2 0 w3
  refine en_bind (fun z4 c4 => ?_)
  cases z4 with
  | r0 y4_0 y4_1 =>
   have w5 := kK (tQ (Z9 c4) 3) w4
   refine en_ite (fun g5 => ?_) (fun _ => en_none)
   refine en_ite (fun g6 => ?_) (fun _ => en_none)
   have w7 := kG RC L0 (0 + ((y4_0).toNat * 8)) ((y4_0).toNat) 0 8 8 <| kB (y4_0).toNat L0.length <| kI y4_0 (Int.ofNat (y4_0).toNat) w5
   refine en_bind (fun z7 c7 => ?_)
   cases z7 with
   | r0 y7_0 =>
    refine en_ite (fun g8 => ?_) (fun g8 => ?_)
    ·
     subst g8
     have w9 := kK (tQ (Zc c7) 5) w7
     refine en_ite (fun g9 => ?_) (fun g9 => ?_)
     ·
      have w10 := kS a4 (a4.toNat) .i64 <| kX ((IntKind.u64.wrap a4) == a4) true (beq_iff_eq.2 (Zn1 ltA)) <| hT g9 w9
      refine en_ite (fun g10 => ?_) (fun g10 => ?_)
      ·
       refine en_bind (fun z11 c11 => ?_)
       cases z11 with
       | r0 y11_0 =>
        refine en_ite (fun g12 => ?_) (fun g12 => ?_)
        ·
         subst g12
         refine en_ite (fun _ => en_none) (fun g13 => ?_)
         refine en_ite (fun g14 => ?_) (fun _ => en_none)
         refine en_ite (fun g15 => ?_) (fun _ => en_none)
         refine en_bind (fun z16 c16 => ?_)
         cases z16 with
         | r0 =>
          exact enH (ZaF 1) (Za (oq [0, 3, 5]) [(0, a4)] [(0, (y4_0).toNat), (1, a4.toNat)] [(2, (RC.cel (L0.getD (y4_0).toNat RJ.z)))] [(0, (tP (ZaV c2)).t), (2, (tP (Z9 c4)).t), (4, (tP (Zc c7)).t), (5, .sh a4.toNat), (7, (tP (ZL c11)).t), (8, .ap (L0.getD (y4_0).toNat RJ.z).a7.length (Zd RA (L0.getD (y4_0).toNat RJ.z).a7) (Zd RA (L0.getD (y4_0).toNat RJ.z).a7)), (10, .st (Zd RA ((L0.getD (y4_0).toNat RJ.z).a7.set a4.toNat (⟨a5, a6⟩ : RG)))), (11, (Zd6 c16 [6] 7).t)]) [] [some (ms RC (L0.set (y4_0).toNat (ZaP (L0.getD (y4_0).toNat RJ.z) ((L0.getD (y4_0).toNat RJ.z).a7.set a4.toNat (⟨a5, a6⟩ : RG)) : RJ))), some (vn), some (vq)] (kKb (A := #[ms RC L0, vi y4_0, Value.agg #[vi (L0.getD (y4_0).toNat RJ.z).a0, vi (L0.getD (y4_0).toNat RJ.z).a1, vi (L0.getD (y4_0).toNat RJ.z).a2, vi (L0.getD (y4_0).toNat RJ.z).a3, vi (L0.getD (y4_0).toNat RJ.z).a4, vi (L0.getD (y4_0).toNat RJ.z).a5, vi (L0.getD (y4_0).toNat RJ.z).a6, vs 6 0 (0 + (L0.getD (y4_0).toNat RJ.z).a7.length) (0 + (L0.getD (y4_0).toNat RJ.z).a7.length)]]) (ZdG (cr (cr (Zf (Zb3 (cr4 (cr (cr (cr (Zf (Z0 rfl eqA eqA) rfl)))))) rfl)))) (Zee c16 [6] 7) <| kR (Zd RA ((L0.getD (y4_0).toNat RJ.z).a7.set a4.toNat (⟨a5, a6⟩ : RG))) <| kC (Zdu (E := RA) (L := (L0.getD (y4_0).toNat RJ.z).a7) (i := a4.toNat) (q := 0) (l := [vi a5, vi a6]) (⟨a5, a6⟩ : RG) ltA (show (0 + (a4.toNat * 2)) = a4.toNat * 2 + 0 from by omega) (show 0 + 2 ≤ 2 from by decide) rfl) <| kB a4.toNat (0 + (L0.getD (y4_0).toNat RJ.z).a7.length) <| kI a4 (Int.ofNat a4.toNat) <| kX (dP (((L0.getD (y4_0).toNat RJ.z).a7.length = (L0.getD (y4_0).toNat RJ.z).a7.length ∧ (((L0.getD (y4_0).toNat RJ.z).a7.length * 2 = 0 ∧ (Zd RA (L0.getD (y4_0).toNat RJ.z).a7) = []) ∨ ∃ c, (L0.getD (y4_0).toNat RJ.z).a7.length * 2 ≠ 0 ∧ Zay (code (Zak RA (L0.getD (y4_0).toNat RJ.z).a7)) 0 ((L0.getD (y4_0).toNat RJ.z).a7.length * 2) = some c ∧ (Zd RA (L0.getD (y4_0).toNat RJ.z).a7) = Zw c)) ∧ 0 < (L0.getD (y4_0).toNat RJ.z).a7.length ∧ (L0.getD (y4_0).toNat RJ.z).a7.length ≤ 100000 ∧ 0 < 0 + (L0.getD (y4_0).toNat RJ.z).a7.length ∧ 0 ≤ 100000 ∧ 0 * 2 ≤ (List.length []) ∧ List.take (0 * 2) [] ++ (Zd RA (L0.getD (y4_0).toNat RJ.z).a7) = (Zd RA (L0.getD (y4_0).toNat RJ.z).a7))) true (Z1 ⟨⟨rfl, (ZdE (E := RA) (L := (L0.getD (y4_0).toNat RJ.z).a7) (n := (L0.getD (y4_0).toNat RJ.z).a7.length) (size := 2) rfl (by decide) (by omega))⟩, by omega, by omega, ltA, by omega, (Zbf (E := RA) (L := ([] : List RG)) (M := (L0.getD (y4_0).toNat RJ.z).a7) (n := 0) (show _ = _ * 2 from rfl) ltA (R := (L0.getD (y4_0).toNat RJ.z).a7) (by rw [List.take_of_length_le ltA]; rfl))⟩) <| kK (tQ (ZL c11) 5) <| hT g10 w10) (tC (tC (tC (tE)))) bE (show Zj (ZaF 1).2 = [] from rfl)
        obtain rfl : y11_0 = false := by simpa using g12
        refine en_bind (fun z13 c13 => ?_)
        cases z13 with
        | r0 y13_0 =>
         refine en_ite (fun g14 => ?_) (fun g14 => ?_)
         ·
          subst g14
          refine en_bind (fun z15 c15 => ?_)
          cases z15 with
          | r0 =>
           refine en_ite (fun _ => en_none) (fun g16 => ?_)
           refine en_ite (fun g17 => ?_) (fun _ => en_none)
           refine en_ite (fun g18 => ?_) (fun _ => en_none)
           refine en_bind (fun z19 c19 => ?_)
           cases z19 with
           | r0 =>
            exact enH (ZaF 1) (Za (oq [0, 3, 5]) [(0, a4)] [(0, (y4_0).toNat), (1, a4.toNat)] [(2, (RC.cel (L0.getD (y4_0).toNat RJ.z)))] [(0, (tP (ZaV c2)).t), (2, (tP (Z9 c4)).t), (4, (tP (Zc c7)).t), (5, .sh a4.toNat), (7, (tP (ZL c11)).t), (8, (tP (ZL c13)).t), (9, (tP (Zc1 c15)).t), (10, .ap (L0.getD (y4_0).toNat RJ.z).a7.length (Zd RA (L0.getD (y4_0).toNat RJ.z).a7) (Zd RA (L0.getD (y4_0).toNat RJ.z).a7)), (12, .st (Zd RA ((L0.getD (y4_0).toNat RJ.z).a7.set a4.toNat (⟨a5, a6⟩ : RG)))), (13, (Zd6 c19 [6] 7).t)]) [] [some (ms RC (L0.set (y4_0).toNat (ZaP (L0.getD (y4_0).toNat RJ.z) ((L0.getD (y4_0).toNat RJ.z).a7.set a4.toNat (⟨a5, a6⟩ : RG)) : RJ))), some (ms RA ([] : List RG)), some (vq)] (kKb (A := #[ms RC L0, vi y4_0, Value.agg #[vi (L0.getD (y4_0).toNat RJ.z).a0, vi (L0.getD (y4_0).toNat RJ.z).a1, vi (L0.getD (y4_0).toNat RJ.z).a2, vi (L0.getD (y4_0).toNat RJ.z).a3, vi (L0.getD (y4_0).toNat RJ.z).a4, vi (L0.getD (y4_0).toNat RJ.z).a5, vi (L0.getD (y4_0).toNat RJ.z).a6, vs 6 0 (0 + (L0.getD (y4_0).toNat RJ.z).a7.length) (0 + (L0.getD (y4_0).toNat RJ.z).a7.length)]]) (ZdG (cr (cr (Zf (Zb3 (cr4 (cr (cr (cr (Zf (Z0 rfl eqA eqA) rfl)))))) rfl)))) (Zee c19 [6] 7) <| kR (Zd RA ((L0.getD (y4_0).toNat RJ.z).a7.set a4.toNat (⟨a5, a6⟩ : RG))) <| kC (Zdu (E := RA) (L := (L0.getD (y4_0).toNat RJ.z).a7) (i := a4.toNat) (q := 0) (l := [vi a5, vi a6]) (⟨a5, a6⟩ : RG) ltA (show (0 + (a4.toNat * 2)) = a4.toNat * 2 + 0 from by omega) (show 0 + 2 ≤ 2 from by decide) rfl) <| kB a4.toNat (0 + (L0.getD (y4_0).toNat RJ.z).a7.length) <| kI a4 (Int.ofNat a4.toNat) <| kX (dP (((L0.getD (y4_0).toNat RJ.z).a7.length = (L0.getD (y4_0).toNat RJ.z).a7.length ∧ (((L0.getD (y4_0).toNat RJ.z).a7.length * 2 = 0 ∧ (Zd RA (L0.getD (y4_0).toNat RJ.z).a7) = []) ∨ ∃ c, (L0.getD (y4_0).toNat RJ.z).a7.length * 2 ≠ 0 ∧ Zay (code (Zak RA (L0.getD (y4_0).toNat RJ.z).a7)) 0 ((L0.getD (y4_0).toNat RJ.z).a7.length * 2) = some c ∧ (Zd RA (L0.getD (y4_0).toNat RJ.z).a7) = Zw c)) ∧ 0 < (L0.getD (y4_0).toNat RJ.z).a7.length ∧ (L0.getD (y4_0).toNat RJ.z).a7.length ≤ 100000 ∧ 0 < 0 + (L0.getD (y4_0).toNat RJ.z).a7.length ∧ 0 ≤ 100000 ∧ 0 * 2 ≤ (List.length []) ∧ List.take (0 * 2) [] ++ (Zd RA (L0.getD (y4_0).toNat RJ.z).a7) = (Zd RA (L0.getD (y4_0).toNat RJ.z).a7))) true (Z1 ⟨⟨rfl, (ZdE (E := RA) (L := (L0.getD (y4_0).toNat RJ.z).a7) (n := (L0.getD (y4_0).toNat RJ.z).a7.length) (size := 2) rfl (by decide) (by omega))⟩, by omega, by omega, ltA, by omega, (Zbf (E := RA) (L := ([] : List RG)) (M := (L0.getD (y4_0).toNat RJ.z).a7) (n := 0) (show _ = _ * 2 from rfl) ltA (R := (L0.getD (y4_0).toNat RJ.z).a7) (by rw [List.take_of_length_le ltA]; rfl))⟩) <| kK (tQ (Zc1 c15) 5) <| kK (tQ (ZL c13) 5) <| kK (tQ (ZL c11) 5) <| hT g10 w10) (tC (tC (tC (tE) ⟨Eq.trans (show κn = vq from ci) (by rfl), by rfl⟩))) bE (show Zj (ZaF 1).2 = [] from rfl)
          | r1 y15_0 =>
           refine en_ite (fun _ => en_none) (fun g16 => ?_)
           refine en_ite (fun g17 => ?_) (fun _ => en_none)
           refine en_ite (fun g18 => ?_) (fun _ => en_none)
           refine en_bind (fun z19 c19 => ?_)
           cases z19 with
           | r0 =>
            exact enH (ZaF 1) (Za (oq [0, 3, 5]) [(0, a4)] [(0, (y4_0).toNat), (1, a4.toNat)] [(2, (RC.cel (L0.getD (y4_0).toNat RJ.z)))] [(0, (tP (ZaV c2)).t), (2, (tP (Z9 c4)).t), (4, (tP (Zc c7)).t), (5, .sh a4.toNat), (7, (tP (ZL c11)).t), (8, (tP (ZL c13)).t), (9, (tP (Zc1 c15)).t), (10, .ap (L0.getD (y4_0).toNat RJ.z).a7.length (Zd RA (L0.getD (y4_0).toNat RJ.z).a7) (Zd RA (L0.getD (y4_0).toNat RJ.z).a7)), (12, .st (Zd RA ((L0.getD (y4_0).toNat RJ.z).a7.set a4.toNat (⟨a5, a6⟩ : RG)))), (13, (Zd6 c19 [6] 7).t)]) [] [some (ms RC (L0.set (y4_0).toNat (ZaP (L0.getD (y4_0).toNat RJ.z) ((L0.getD (y4_0).toNat RJ.z).a7.set a4.toNat (⟨a5, a6⟩ : RG)) : RJ))), some (ms RA y15_0), some (vq)] (kKb (A := #[ms RC L0, vi y4_0, Value.agg #[vi (L0.getD (y4_0).toNat RJ.z).a0, vi (L0.getD (y4_0).toNat RJ.z).a1, vi (L0.getD (y4_0).toNat RJ.z).a2, vi (L0.getD (y4_0).toNat RJ.z).a3, vi (L0.getD (y4_0).toNat RJ.z).a4, vi (L0.getD (y4_0).toNat RJ.z).a5, vi (L0.getD (y4_0).toNat RJ.z).a6, vs 6 0 (0 + (L0.getD (y4_0).toNat RJ.z).a7.length) (0 + (L0.getD (y4_0).toNat RJ.z).a7.length)]]) (ZdG (cr (cr (Zf (Zb3 (cr4 (cr (cr (cr (Zf (Z0 rfl eqA eqA) rfl)))))) rfl)))) (Zee c19 [6] 7) <| kR (Zd RA ((L0.getD (y4_0).toNat RJ.z).a7.set a4.toNat (⟨a5, a6⟩ : RG))) <| kC (Zdu (E := RA) (L := (L0.getD (y4_0).toNat RJ.z).a7) (i := a4.toNat) (q := 0) (l := [vi a5, vi a6]) (⟨a5, a6⟩ : RG) ltA (show (0 + (a4.toNat * 2)) = a4.toNat * 2 + 0 from by omega) (show 0 + 2 ≤ 2 from by decide) rfl) <| kB a4.toNat (0 + (L0.getD (y4_0).toNat RJ.z).a7.length) <| kI a4 (Int.ofNat a4.toNat) <| kX (dP (((L0.getD (y4_0).toNat RJ.z).a7.length = (L0.getD (y4_0).toNat RJ.z).a7.length ∧ (((L0.getD (y4_0).toNat RJ.z).a7.length * 2 = 0 ∧ (Zd RA (L0.getD (y4_0).toNat RJ.z).a7) = []) ∨ ∃ c, (L0.getD (y4_0).toNat RJ.z).a7.length * 2 ≠ 0 ∧ Zay (code (Zak RA (L0.getD (y4_0).toNat RJ.z).a7)) 0 ((L0.getD (y4_0).toNat RJ.z).a7.length * 2) = some c ∧ (Zd RA (L0.getD (y4_0).toNat RJ.z).a7) = Zw c)) ∧ 0 < (L0.getD (y4_0).toNat RJ.z).a7.length ∧ (L0.getD (y4_0).toNat RJ.z).a7.length ≤ 100000 ∧ 0 < 0 + (L0.getD (y4_0).toNat RJ.z).a7.length ∧ 0 ≤ 100000 ∧ 0 * 2 ≤ (List.length []) ∧ List.take (0 * 2) [] ++ (Zd RA (L0.getD (y4_0).toNat RJ.z).a7) = (Zd RA (L0.getD (y4_0).toNat RJ.z).a7))) true (Z1 ⟨⟨rfl, (ZdE (E := RA) (L := (L0.getD (y4_0).toNat RJ.z).a7) (n := (L0.getD (y4_0).toNat RJ.z).a7.length) (size := 2) rfl (by decide) (by omega))⟩, by omega, by omega, ltA, by omega, (Zbf (E := RA) (L := ([] : List RG)) (M := (L0.getD (y4_0).toNat RJ.z).a7) (n := 0) (show _ = _ * 2 from rfl) ltA (R := (L0.getD (y4_0).toNat RJ.z).a7) (by rw [List.take_of_length_le ltA]; rfl))⟩) <| kK (tQ (Zc1 c15) 5) <| kK (tQ (ZL c13) 5) <| kK (tQ (ZL c11) 5) <| hT g10 w10) (tC (tC (tC (tE) ⟨Eq.trans (show κn = vq from ci) (by rfl), by rfl⟩))) bE (show Zj (ZaF 1).2 = [] from rfl)
         obtain rfl : y13_0 = false := by simpa using g14
         refine en_ite (fun _ => en_none) (fun g15 => ?_)
         refine en_ite (fun g16 => ?_) (fun _ => en_none)
         refine en_ite (fun g17 => ?_) (fun _ => en_none)
         refine en_bind (fun z18 c18 => ?_)
         cases z18 with
         | r0 =>
          exact enH (ZaF 1) (Za (oq [0, 3, 5]) [(0, a4)] [(0, (y4_0).toNat), (1, a4.toNat)] [(2, (RC.cel (L0.getD (y4_0).toNat RJ.z)))] [(0, (tP (ZaV c2)).t), (2, (tP (Z9 c4)).t), (4, (tP (Zc c7)).t), (5, .sh a4.toNat), (7, (tP (ZL c11)).t), (8, (tP (ZL c13)).t), (9, .ap (L0.getD (y4_0).toNat RJ.z).a7.length (Zd RA (L0.getD (y4_0).toNat RJ.z).a7) (Zd RA (L0.getD (y4_0).toNat RJ.z).a7)), (11, .st (Zd RA ((L0.getD (y4_0).toNat RJ.z).a7.set a4.toNat (⟨a5, a6⟩ : RG)))), (12, (Zd6 c18 [6] 7).t)]) [] [some (ms RC (L0.set (y4_0).toNat (ZaP (L0.getD (y4_0).toNat RJ.z) ((L0.getD (y4_0).toNat RJ.z).a7.set a4.toNat (⟨a5, a6⟩ : RG)) : RJ))), some (vn), some (vq)] (kKb (A := #[ms RC L0, vi y4_0, Value.agg #[vi (L0.getD (y4_0).toNat RJ.z).a0, vi (L0.getD (y4_0).toNat RJ.z).a1, vi (L0.getD (y4_0).toNat RJ.z).a2, vi (L0.getD (y4_0).toNat RJ.z).a3, vi (L0.getD (y4_0).toNat RJ.z).a4, vi (L0.getD (y4_0).toNat RJ.z).a5, vi (L0.getD (y4_0).toNat RJ.z).a6, vs 6 0 (0 + (L0.getD (y4_0).toNat RJ.z).a7.length) (0 + (L0.getD (y4_0).toNat RJ.z).a7.length)]]) (ZdG (cr (cr (Zf (Zb3 (cr4 (cr (cr (cr (Zf (Z0 rfl eqA eqA) rfl)))))) rfl)))) (Zee c18 [6] 7) <| kR (Zd RA ((L0.getD (y4_0).toNat RJ.z).a7.set a4.toNat (⟨a5, a6⟩ : RG))) <| kC (Zdu (E := RA) (L := (L0.getD (y4_0).toNat RJ.z).a7) (i := a4.toNat) (q := 0) (l := [vi a5, vi a6]) (⟨a5, a6⟩ : RG) ltA (show (0 + (a4.toNat * 2)) = a4.toNat * 2 + 0 from by omega) (show 0 + 2 ≤ 2 from by decide) rfl) <| kB a4.toNat (0 + (L0.getD (y4_0).toNat RJ.z).a7.length) <| kI a4 (Int.ofNat a4.toNat) <| kX (dP (((L0.getD (y4_0).toNat RJ.z).a7.length = (L0.getD (y4_0).toNat RJ.z).a7.length ∧ (((L0.getD (y4_0).toNat RJ.z).a7.length * 2 = 0 ∧ (Zd RA (L0.getD (y4_0).toNat RJ.z).a7) = []) ∨ ∃ c, (L0.getD (y4_0).toNat RJ.z).a7.length * 2 ≠ 0 ∧ Zay (code (Zak RA (L0.getD (y4_0).toNat RJ.z).a7)) 0 ((L0.getD (y4_0).toNat RJ.z).a7.length * 2) = some c ∧ (Zd RA (L0.getD (y4_0).toNat RJ.z).a7) = Zw c)) ∧ 0 < (L0.getD (y4_0).toNat RJ.z).a7.length ∧ (L0.getD (y4_0).toNat RJ.z).a7.length ≤ 100000 ∧ 0 < 0 + (L0.getD (y4_0).toNat RJ.z).a7.length ∧ 0 ≤ 100000 ∧ 0 * 2 ≤ (List.length []) ∧ List.take (0 * 2) [] ++ (Zd RA (L0.getD (y4_0).toNat RJ.z).a7) = (Zd RA (L0.getD (y4_0).toNat RJ.z).a7))) true (Z1 ⟨⟨rfl, (ZdE (E := RA) (L := (L0.getD (y4_0).toNat RJ.z).a7) (n := (L0.getD (y4_0).toNat RJ.z).a7.length) (size := 2) rfl (by decide) (by omega))⟩, by omega, by omega, ltA, by omega, (Zbf (E := RA) (L := ([] : List RG)) (M := (L0.getD (y4_0).toNat RJ.z).a7) (n := 0) (show _ = _ * 2 from rfl) ltA (R := (L0.getD (y4_0).toNat RJ.z).a7) (by rw [List.take_of_length_le ltA]; rfl))⟩) <| kK (tQ (ZL c13) 5) <| kK (tQ (ZL c11) 5) <| hT g10 w10) (tC (tC (tC (tE)))) bE (show Zj (ZaF 1).2 = [] from rfl)
      exact enF (Za (oq [0, 3, 4]) [(0, a4)] [(0, (y4_0).toNat)] [(2, (RC.cel (L0.getD (y4_0).toNat RJ.z)))] [(0, (tP (ZaV c2)).t), (2, (tP (Z9 c4)).t), (4, (tP (Zc c7)).t), (5, .sh a4.toNat)]) [] (Value.tuple #[ms RC L0, vi 10]) (hF g10 w10) bE
     have w10 := kS a4 (a4.toNat) .i64 <| kX ((IntKind.u64.wrap a4) == a4) true (beq_iff_eq.2 (Zn1 ltA)) <| hF g9 w9
     refine en_ite (fun g10 => ?_) (fun g10 => ?_)
     ·
      exact enF (Za (oq [0, 2, 5]) [(0, a4)] [(0, (y4_0).toNat)] [(2, (RC.cel (L0.getD (y4_0).toNat RJ.z)))] [(0, (tP (ZaV c2)).t), (2, (tP (Z9 c4)).t), (4, (tP (Zc c7)).t), (5, .sh a4.toNat)]) [] (Value.tuple #[ms RC L0, vi 10]) (hT g10 w10) bE
     refine en_bind (fun z11 c11 => ?_)
     cases z11 with
     | r0 y11_0 =>
      refine en_ite (fun g12 => ?_) (fun g12 => ?_)
      ·
       subst g12
       refine en_ite (fun _ => en_none) (fun g13 => ?_)
       refine en_ite (fun g14 => ?_) (fun _ => en_none)
       refine en_ite (fun g15 => ?_) (fun _ => en_none)
       refine en_bind (fun z16 c16 => ?_)
       cases z16 with
       | r0 =>
        exact enH (ZaF 1) (Za (oq [0, 2, 4]) [(0, a4)] [(0, (y4_0).toNat), (1, a4.toNat)] [(2, (RC.cel (L0.getD (y4_0).toNat RJ.z)))] [(0, (tP (ZaV c2)).t), (2, (tP (Z9 c4)).t), (4, (tP (Zc c7)).t), (5, .sh a4.toNat), (7, (tP (ZL c11)).t), (8, .ap (L0.getD (y4_0).toNat RJ.z).a7.length (Zd RA (L0.getD (y4_0).toNat RJ.z).a7) (Zd RA (L0.getD (y4_0).toNat RJ.z).a7)), (10, .st (Zd RA ((L0.getD (y4_0).toNat RJ.z).a7.set a4.toNat (⟨a5, a6⟩ : RG)))), (11, (Zd6 c16 [6] 7).t)]) [] [some (ms RC (L0.set (y4_0).toNat (ZaP (L0.getD (y4_0).toNat RJ.z) ((L0.getD (y4_0).toNat RJ.z).a7.set a4.toNat (⟨a5, a6⟩ : RG)) : RJ))), some (vn), some (vq)] (kKb (A := #[ms RC L0, vi y4_0, Value.agg #[vi (L0.getD (y4_0).toNat RJ.z).a0, vi (L0.getD (y4_0).toNat RJ.z).a1, vi (L0.getD (y4_0).toNat RJ.z).a2, vi (L0.getD (y4_0).toNat RJ.z).a3, vi (L0.getD (y4_0).toNat RJ.z).a4, vi (L0.getD (y4_0).toNat RJ.z).a5, vi (L0.getD (y4_0).toNat RJ.z).a6, vs 6 0 (0 + (L0.getD (y4_0).toNat RJ.z).a7.length) (0 + (L0.getD (y4_0).toNat RJ.z).a7.length)]]) (ZdG (cr (cr (Zf (Zb3 (cr4 (cr (cr (cr (Zf (Z0 rfl eqA eqA) rfl)))))) rfl)))) (Zee c16 [6] 7) <| kR (Zd RA ((L0.getD (y4_0).toNat RJ.z).a7.set a4.toNat (⟨a5, a6⟩ : RG))) <| kC (Zdu (E := RA) (L := (L0.getD (y4_0).toNat RJ.z).a7) (i := a4.toNat) (q := 0) (l := [vi a5, vi a6]) (⟨a5, a6⟩ : RG) ltA (show (0 + (a4.toNat * 2)) = a4.toNat * 2 + 0 from by omega) (show 0 + 2 ≤ 2 from by decide) rfl) <| kB a4.toNat (0 + (L0.getD (y4_0).toNat RJ.z).a7.length) <| kI a4 (Int.ofNat a4.toNat) <| kX (dP (((L0.getD (y4_0).toNat RJ.z).a7.length = (L0.getD (y4_0).toNat RJ.z).a7.length ∧ (((L0.getD (y4_0).toNat RJ.z).a7.length * 2 = 0 ∧ (Zd RA (L0.getD (y4_0).toNat RJ.z).a7) = []) ∨ ∃ c, (L0.getD (y4_0).toNat RJ.z).a7.length * 2 ≠ 0 ∧ Zay (code (Zak RA (L0.getD (y4_0).toNat RJ.z).a7)) 0 ((L0.getD (y4_0).toNat RJ.z).a7.length * 2) = some c ∧ (Zd RA (L0.getD (y4_0).toNat RJ.z).a7) = Zw c)) ∧ 0 < (L0.getD (y4_0).toNat RJ.z).a7.length ∧ (L0.getD (y4_0).toNat RJ.z).a7.length ≤ 100000 ∧ 0 < 0 + (L0.getD (y4_0).toNat RJ.z).a7.length ∧ 0 ≤ 100000 ∧ 0 * 2 ≤ (List.length []) ∧ List.take (0 * 2) [] ++ (Zd RA (L0.getD (y4_0).toNat RJ.z).a7) = (Zd RA (L0.getD (y4_0).toNat RJ.z).a7))) true (Z1 ⟨⟨rfl, (ZdE (E := RA) (L := (L0.getD (y4_0).toNat RJ.z).a7) (n := (L0.getD (y4_0).toNat RJ.z).a7.length) (size := 2) rfl (by decide) (by omega))⟩, by omega, by omega, ltA, by omega, (Zbf (E := RA) (L := ([] : List RG)) (M := (L0.getD (y4_0).toNat RJ.z).a7) (n := 0) (show _ = _ * 2 from rfl) ltA (R := (L0.getD (y4_0).toNat RJ.z).a7) (by rw [List.take_of_length_le ltA]; rfl))⟩) <| kK (tQ (ZL c11) 5) <| hF g10 w10) (tC (tC (tC (tE)))) bE (show Zj (ZaF 1).2 = [] from rfl)
      obtain rfl : y11_0 = false := by simpa using g12
      refine en_bind (fun z13 c13 => ?_)
      cases z13 with
      | r0 y13_0 =>
       refine en_ite (fun g14 => ?_) (fun g14 => ?_)
       ·
        subst g14
        refine en_bind (fun z15 c15 => ?_)
        cases z15 with
        | r0 =>
         refine en_ite (fun _ => en_none) (fun g16 => ?_)
         refine en_ite (fun g17 => ?_) (fun _ => en_none)
         refine en_ite (fun g18 => ?_) (fun _ => en_none)
         refine en_bind (fun z19 c19 => ?_)
         cases z19 with
         | r0 =>
          exact enH (ZaF 1) (Za (oq [0, 2, 4]) [(0, a4)] [(0, (y4_0).toNat), (1, a4.toNat)] [(2, (RC.cel (L0.getD (y4_0).toNat RJ.z)))] [(0, (tP (ZaV c2)).t), (2, (tP (Z9 c4)).t), (4, (tP (Zc c7)).t), (5, .sh a4.toNat), (7, (tP (ZL c11)).t), (8, (tP (ZL c13)).t), (9, (tP (Zc1 c15)).t), (10, .ap (L0.getD (y4_0).toNat RJ.z).a7.length (Zd RA (L0.getD (y4_0).toNat RJ.z).a7) (Zd RA (L0.getD (y4_0).toNat RJ.z).a7)), (12, .st (Zd RA ((L0.getD (y4_0).toNat RJ.z).a7.set a4.toNat (⟨a5, a6⟩ : RG)))), (13, (Zd6 c19 [6] 7).t)]) [] [some (ms RC (L0.set (y4_0).toNat (ZaP (L0.getD (y4_0).toNat RJ.z) ((L0.getD (y4_0).toNat RJ.z).a7.set a4.toNat (⟨a5, a6⟩ : RG)) : RJ))), some (ms RA ([] : List RG)), some (vq)] (kKb (A := #[ms RC L0, vi y4_0, Value.agg #[vi (L0.getD (y4_0).toNat RJ.z).a0, vi (L0.getD (y4_0).toNat RJ.z).a1, vi (L0.getD (y4_0).toNat RJ.z).a2, vi (L0.getD (y4_0).toNat RJ.z).a3, vi (L0.getD (y4_0).toNat RJ.z).a4, vi (L0.getD (y4_0).toNat RJ.z).a5, vi (L0.getD (y4_0).toNat RJ.z).a6, vs 6 0 (0 + (L0.getD (y4_0).toNat RJ.z).a7.length) (0 + (L0.getD (y4_0).toNat RJ.z).a7.length)]]) (ZdG (cr (cr (Zf (Zb3 (cr4 (cr (cr (cr (Zf (Z0 rfl eqA eqA) rfl)))))) rfl)))) (Zee c19 [6] 7) <| kR (Zd RA ((L0.getD (y4_0).toNat RJ.z).a7.set a4.toNat (⟨a5, a6⟩ : RG))) <| kC (Zdu (E := RA) (L := (L0.getD (y4_0).toNat RJ.z).a7) (i := a4.toNat) (q := 0) (l := [vi a5, vi a6]) (⟨a5, a6⟩ : RG) ltA (show (0 + (a4.toNat * 2)) = a4.toNat * 2 + 0 from by omega) (show 0 + 2 ≤ 2 from by decide) rfl) <| kB a4.toNat (0 + (L0.getD (y4_0).toNat RJ.z).a7.length) <| kI a4 (Int.ofNat a4.toNat) <| kX (dP (((L0.getD (y4_0).toNat RJ.z).a7.length = (L0.getD (y4_0).toNat RJ.z).a7.length ∧ (((L0.getD (y4_0).toNat RJ.z).a7.length * 2 = 0 ∧ (Zd RA (L0.getD (y4_0).toNat RJ.z).a7) = []) ∨ ∃ c, (L0.getD (y4_0).toNat RJ.z).a7.length * 2 ≠ 0 ∧ Zay (code (Zak RA (L0.getD (y4_0).toNat RJ.z).a7)) 0 ((L0.getD (y4_0).toNat RJ.z).a7.length * 2) = some c ∧ (Zd RA (L0.getD (y4_0).toNat RJ.z).a7) = Zw c)) ∧ 0 < (L0.getD (y4_0).toNat RJ.z).a7.length ∧ (L0.getD (y4_0).toNat RJ.z).a7.length ≤ 100000 ∧ 0 < 0 + (L0.getD (y4_0).toNat RJ.z).a7.length ∧ 0 ≤ 100000 ∧ 0 * 2 ≤ (List.length []) ∧ List.take (0 * 2) [] ++ (Zd RA (L0.getD (y4_0).toNat RJ.z).a7) = (Zd RA (L0.getD (y4_0).toNat RJ.z).a7))) true (Z1 ⟨⟨rfl, (ZdE (E := RA) (L := (L0.getD (y4_0).toNat RJ.z).a7) (n := (L0.getD (y4_0).toNat RJ.z).a7.length) (size := 2) rfl (by decide) (by omega))⟩, by omega, by omega, ltA, by omega, (Zbf (E := RA) (L := ([] : List RG)) (M := (L0.getD (y4_0).toNat RJ.z).a7) (n := 0) (show _ = _ * 2 from rfl) ltA (R := (L0.getD (y4_0).toNat RJ.z).a7) (by rw [List.take_of_length_le ltA]; rfl))⟩) <| kK (tQ (Zc1 c15) 5) <| kK (tQ (ZL c13) 5) <| kK (tQ (ZL c11) 5) <| hF g10 w10) (tC (tC (tC (tE) ⟨Eq.trans (show κn = vq from ci) (by rfl), by rfl⟩))) bE (show Zj (ZaF 1).2 = [] from rfl)
        | r1 y15_0 =>
         refine en_ite (fun _ => en_none) (fun g16 => ?_)
         refine en_ite (fun g17 => ?_) (fun _ => en_none)
         refine en_ite (fun g18 => ?_) (fun _ => en_none)
         refine en_bind (fun z19 c19 => ?_)
         cases z19 with
         | r0 =>
          exact enH (ZaF 1) (Za (oq [0, 2, 4]) [(0, a4)] [(0, (y4_0).toNat), (1, a4.toNat)] [(2, (RC.cel (L0.getD (y4_0).toNat RJ.z)))] [(0, (tP (ZaV c2)).t), (2, (tP (Z9 c4)).t), (4, (tP (Zc c7)).t), (5, .sh a4.toNat), (7, (tP (ZL c11)).t), (8, (tP (ZL c13)).t), (9, (tP (Zc1 c15)).t), (10, .ap (L0.getD (y4_0).toNat RJ.z).a7.length (Zd RA (L0.getD (y4_0).toNat RJ.z).a7) (Zd RA (L0.getD (y4_0).toNat RJ.z).a7)), (12, .st (Zd RA ((L0.getD (y4_0).toNat RJ.z).a7.set a4.toNat (⟨a5, a6⟩ : RG)))), (13, (Zd6 c19 [6] 7).t)]) [] [some (ms RC (L0.set (y4_0).toNat (ZaP (L0.getD (y4_0).toNat RJ.z) ((L0.getD (y4_0).toNat RJ.z).a7.set a4.toNat (⟨a5, a6⟩ : RG)) : RJ))), some (ms RA y15_0), some (vq)] (kKb (A := #[ms RC L0, vi y4_0, Value.agg #[vi (L0.getD (y4_0).toNat RJ.z).a0, vi (L0.getD (y4_0).toNat RJ.z).a1, vi (L0.getD (y4_0).toNat RJ.z).a2, vi (L0.getD (y4_0).toNat RJ.z).a3, vi (L0.getD (y4_0).toNat RJ.z).a4, vi (L0.getD (y4_0).toNat RJ.z).a5, vi (L0.getD (y4_0).toNat RJ.z).a6, vs 6 0 (0 + (L0.getD (y4_0).toNat RJ.z).a7.length) (0 + (L0.getD (y4_0).toNat RJ.z).a7.length)]]) (ZdG (cr (cr (Zf (Zb3 (cr4 (cr (cr (cr (Zf (Z0 rfl eqA eqA) rfl)))))) rfl)))) (Zee c19 [6] 7) <| kR (Zd RA ((L0.getD (y4_0).toNat RJ.z).a7.set a4.toNat (⟨a5, a6⟩ : RG))) <| kC (Zdu (E := RA) (L := (L0.getD (y4_0).toNat RJ.z).a7) (i := a4.toNat) (q := 0) (l := [vi a5, vi a6]) (⟨a5, a6⟩ : RG) ltA (show (0 + (a4.toNat * 2)) = a4.toNat * 2 + 0 from by omega) (show 0 + 2 ≤ 2 from by decide) rfl) <| kB a4.toNat (0 + (L0.getD (y4_0).toNat RJ.z).a7.length) <| kI a4 (Int.ofNat a4.toNat) <| kX (dP (((L0.getD (y4_0).toNat RJ.z).a7.length = (L0.getD (y4_0).toNat RJ.z).a7.length ∧ (((L0.getD (y4_0).toNat RJ.z).a7.length * 2 = 0 ∧ (Zd RA (L0.getD (y4_0).toNat RJ.z).a7) = []) ∨ ∃ c, (L0.getD (y4_0).toNat RJ.z).a7.length * 2 ≠ 0 ∧ Zay (code (Zak RA (L0.getD (y4_0).toNat RJ.z).a7)) 0 ((L0.getD (y4_0).toNat RJ.z).a7.length * 2) = some c ∧ (Zd RA (L0.getD (y4_0).toNat RJ.z).a7) = Zw c)) ∧ 0 < (L0.getD (y4_0).toNat RJ.z).a7.length ∧ (L0.getD (y4_0).toNat RJ.z).a7.length ≤ 100000 ∧ 0 < 0 + (L0.getD (y4_0).toNat RJ.z).a7.length ∧ 0 ≤ 100000 ∧ 0 * 2 ≤ (List.length []) ∧ List.take (0 * 2) [] ++ (Zd RA (L0.getD (y4_0).toNat RJ.z).a7) = (Zd RA (L0.getD (y4_0).toNat RJ.z).a7))) true (Z1 ⟨⟨rfl, (ZdE (E := RA) (L := (L0.getD (y4_0).toNat RJ.z).a7) (n := (L0.getD (y4_0).toNat RJ.z).a7.length) (size := 2) rfl (by decide) (by omega))⟩, by omega, by omega, ltA, by omega, (Zbf (E := RA) (L := ([] : List RG)) (M := (L0.getD (y4_0).toNat RJ.z).a7) (n := 0) (show _ = _ * 2 from rfl) ltA (R := (L0.getD (y4_0).toNat RJ.z).a7) (by rw [List.take_of_length_le ltA]; rfl))⟩) <| kK (tQ (Zc1 c15) 5) <| kK (tQ (ZL c13) 5) <| kK (tQ (ZL c11) 5) <| hF g10 w10) (tC (tC (tC (tE) ⟨Eq.trans (show κn = vq from ci) (by rfl), by rfl⟩))) bE (show Zj (ZaF 1).2 = [] from rfl)
       obtain rfl : y13_0 = false := by simpa using g14
       refine en_ite (fun _ => en_none) (fun g15 => ?_)
       refine en_ite (fun g16 => ?_) (fun _ => en_none)
       refine en_ite (fun g17 => ?_) (fun _ => en_none)
       refine en_bind (fun z18 c18 => ?_)
       cases z18 with
       | r0 =>
        exact enH (ZaF 1) (Za (oq [0, 2, 4]) [(0, a4)] [(0, (y4_0).toNat), (1, a4.toNat)] [(2, (RC.cel (L0.getD (y4_0).toNat RJ.z)))] [(0, (tP (ZaV c2)).t), (2, (tP (Z9 c4)).t), (4, (tP (Zc c7)).t), (5, .sh a4.toNat), (7, (tP (ZL c11)).t), (8, (tP (ZL c13)).t), (9, .ap (L0.getD (y4_0).toNat RJ.z).a7.length (Zd RA (L0.getD (y4_0).toNat RJ.z).a7) (Zd RA (L0.getD (y4_0).toNat RJ.z).a7)), (11, .st (Zd RA ((L0.getD (y4_0).toNat RJ.z).a7.set a4.toNat (⟨a5, a6⟩ : RG)))), (12, (Zd6 c18 [6] 7).t)]) [] [some (ms RC (L0.set (y4_0).toNat (ZaP (L0.getD (y4_0).toNat RJ.z) ((L0.getD (y4_0).toNat RJ.z).a7.set a4.toNat (⟨a5, a6⟩ : RG)) : RJ))), some (vn), some (vq)] (kKb (A := #[ms RC L0, vi y4_0, Value.agg #[vi (L0.getD (y4_0).toNat RJ.z).a0, vi (L0.getD (y4_0).toNat RJ.z).a1, vi (L0.getD (y4_0).toNat RJ.z).a2, vi (L0.getD (y4_0).toNat RJ.z).a3, vi (L0.getD (y4_0).toNat RJ.z).a4, vi (L0.getD (y4_0).toNat RJ.z).a5, vi (L0.getD (y4_0).toNat RJ.z).a6, vs 6 0 (0 + (L0.getD (y4_0).toNat RJ.z).a7.length) (0 + (L0.getD (y4_0).toNat RJ.z).a7.length)]]) (ZdG (cr (cr (Zf (Zb3 (cr4 (cr (cr (cr (Zf (Z0 rfl eqA eqA) rfl)))))) rfl)))) (Zee c18 [6] 7) <| kR (Zd RA ((L0.getD (y4_0).toNat RJ.z).a7.set a4.toNat (⟨a5, a6⟩ : RG))) <| kC (Zdu (E := RA) (L := (L0.getD (y4_0).toNat RJ.z).a7) (i := a4.toNat) (q := 0) (l := [vi a5, vi a6]) (⟨a5, a6⟩ : RG) ltA (show (0 + (a4.toNat * 2)) = a4.toNat * 2 + 0 from by omega) (show 0 + 2 ≤ 2 from by decide) rfl) <| kB a4.toNat (0 + (L0.getD (y4_0).toNat RJ.z).a7.length) <| kI a4 (Int.ofNat a4.toNat) <| kX (dP (((L0.getD (y4_0).toNat RJ.z).a7.length = (L0.getD (y4_0).toNat RJ.z).a7.length ∧ (((L0.getD (y4_0).toNat RJ.z).a7.length * 2 = 0 ∧ (Zd RA (L0.getD (y4_0).toNat RJ.z).a7) = []) ∨ ∃ c, (L0.getD (y4_0).toNat RJ.z).a7.length * 2 ≠ 0 ∧ Zay (code (Zak RA (L0.getD (y4_0).toNat RJ.z).a7)) 0 ((L0.getD (y4_0).toNat RJ.z).a7.length * 2) = some c ∧ (Zd RA (L0.getD (y4_0).toNat RJ.z).a7) = Zw c)) ∧ 0 < (L0.getD (y4_0).toNat RJ.z).a7.length ∧ (L0.getD (y4_0).toNat RJ.z).a7.length ≤ 100000 ∧ 0 < 0 + (L0.getD (y4_0).toNat RJ.z).a7.length ∧ 0 ≤ 100000 ∧ 0 * 2 ≤ (List.length []) ∧ List.take (0 * 2) [] ++ (Zd RA (L0.getD (y4_0).toNat RJ.z).a7) = (Zd RA (L0.getD (y4_0).toNat RJ.z).a7))) true (Z1 ⟨⟨rfl, (ZdE (E := RA) (L := (L0.getD (y4_0).toNat RJ.z).a7) (n := (L0.getD (y4_0).toNat RJ.z).a7.length) (size := 2) rfl (by decide) (by omega))⟩, by omega, by omega, ltA, by omega, (Zbf (E := RA) (L := ([] : List RG)) (M := (L0.getD (y4_0).toNat RJ.z).a7) (n := 0) (show _ = _ * 2 from rfl) ltA (R := (L0.getD (y4_0).toNat RJ.z).a7) (by rw [List.take_of_length_le ltA]; rfl))⟩) <| kK (tQ (ZL c13) 5) <| kK (tQ (ZL c11) 5) <| hF g10 w10) (tC (tC (tC (tE)))) bE (show Zj (ZaF 1).2 = [] from rfl)
    obtain rfl : y7_0 = false := by simpa using g8
    exact enF (Za (oq [0]) [] [(0, (y4_0).toNat)] [(2, (RC.cel (L0.getD (y4_0).toNat RJ.z)))] [(0, (tP (ZaV c2)).t), (2, (tP (Z9 c4)).t), (4, (tP (Zc c7)).t)]) [] (Value.tuple #[ms RC L0, vi 10]) (kK (tQ (Zc c7) 5) w7) bE

theorem ZuU (N : Nat) (r : Zb0) (h : Zp0 L0 a1 a2 a3 a4 a5 a6 N = some r) : LSpec Tryz.prog 129 #[ms RC L0, vi a1, Value.agg #[vi a2, vi a3], vi a4, Value.agg #[vi a5, vi a6]] [] (ZnJ r) (Zmt r) :=
 Mach.spec ZB (ZfK L0 a1 a2 a3 a4 a5 a6 N) Tryz.func129 (by kernel_rfl) (by kernel_rfl) (fun x => by cases x <;> exact Zu _ rfl) (fun r => by cases r <;> exact Zu _ rfl) (fun x => by
  cases x with
  | h1m0 _ => exact fun _ => (show ¬ (1 ∈ Zj (ZaF 1).2) from by decide +kernel)
  | h1m1 _ _ _ => exact fun _ => (show ¬ (1 ∈ Zj (ZaF 1).2) from by decide +kernel)
  ) (fun x => (show (ZfK L0 a1 a2 a3 a4 a5 a6 N).Ok Tryz.prog Zg x (ZfP L0 a1 a2 a3 a4 a5 a6 N x) from by
  cases x with
  | h1m0 v0 => exact ZtK L0 a1 a2 a3 a4 a5 a6 v0 N
  | h1m1 v0 v1 v2 => exact ZtL L0 a1 a2 a3 a4 a5 a6 v0 v1 v2 N
  )) (Zyv L0 a1 a2 a3 a4 a5 a6 N) (n := N) h

end
theorem ZrC {L0 : List RJ} {a1 a2 a3 a4 a5 a6 : Int} {N : Nat} {r : Zb0} (h : Zp0 L0 a1 a2 a3 a4 a5 a6 N = some r) : LSpec Tryz.prog 129 #[ms RC L0, vi a1, Value.agg #[vi a2, vi a3], vi a4, Value.agg #[vi a5, vi a6]] [] (ZnJ r) (Zmt r) := ZuU L0 a1 a2 a3 a4 a5 a6 N r h

noncomputable def Zmu : ZcQ → Value
 | .r0 w0 w1 => Value.tuple #[ms RC w0, vi w1]
noncomputable def Zlr : ZcQ → List (Option AObj)
 | .r0 w0 w1 => []

section
variable (L0 : List RJ) (a1 a2 a3 : Int) (b4 : Bool) (N : Nat)
theorem Zwp : Fx Tryz.prog Zg Tryz.f130 [] #[ms RC L0, vi a1, Value.agg #[vi a2, vi a3], Value.bool b4] (Zmu) (Zlr) (Zi1 L0 a1 a2 a3 b4 N) := by
 unfold Zi1
 refine Zz (fun z0 c0 => ?_)
 cases z0 with
 | r0 y0_0 y0_1 =>
  have w1 := kK (tQ (Z9 c0) 1) Zb
  refine Ze (fun g1 => ?_) (fun g1 => ?_)
  ·
   exact fxC (Za (oq [1]) [] [] [] [(0, (tP (Z9 c0)).t)]) [] (Value.tuple #[ms RC L0, vi y0_1]) (hD g1 w1) bE
  refine Ze (fun g2 => ?_) (fun g2 => ?_)
  ·
   exact fxC (Za (oq [0, 11]) [] [] [] [(0, (tP (Z9 c0)).t)]) [] (Value.tuple #[ms RC L0, vi 180]) (kZ ((a2 == 2) && ((a3 == 1048577) && true)) <| kE y0_1 0 w1) bE
  have w3 := kO ((a2 == 2) && ((a3 == 1048577) && true)) <| kE y0_1 0 w1
  refine Ze (fun g3 => ?_) (fun g3 => ?_)
  ·
   refine Zz (fun z4 c4 => ?_)
   cases z4 with
   | r0 y4_0 =>
    have w5 := kK (tQ (ZL c4) 5) <| kX ((!b4)) true nbt w3
    refine Ze (fun g5 => ?_) (fun g5 => ?_)
    ·
     exact fxC (Za (oq [0, 10, 13, 15]) [] [] [] [(0, (tP (Z9 c0)).t), (5, (tP (ZL c4)).t)]) [] (Value.tuple #[ms RC L0, vi 180]) (kX ((!y4_0)) true nbt w5) bE
    refine Zz (fun z6 c6 => ?_)
    cases z6 with
    | r0 y6_0 =>
     exact fxC (Za (oq [0, 10, 13, 14]) [] [] [] [(0, (tP (Z9 c0)).t), (5, (tP (ZL c4)).t), (6, (tP (Ze6 c6)).t)]) [] (Value.tuple #[ms RC y6_0, vq]) (kK (tQ (Ze6 c6) 5) <| kX ((!y4_0)) false nbf w5) bE
  refine Zz (fun z4 c4 => ?_)
  cases z4 with
  | r0 y4_0 =>
   exact fxC (Za (oq [0, 10, 12]) [] [] [] [(0, (tP (Z9 c0)).t), (5, (tP (Ze6 c4)).t)]) [] (Value.tuple #[ms RC y4_0, vq]) (kK (tQ (Ze6 c4) 5) <| kX ((!b4)) false nbf w3) bE

theorem ZtM (r : ZcQ) (h : Zi1 L0 a1 a2 a3 b4 N = some r) : LSpec Tryz.prog 130 #[ms RC L0, vi a1, Value.agg #[vi a2, vi a3], Value.bool b4] [] (Zmu r) (Zlr r) :=
 Zax ZB Tryz.func130 (by kernel_rfl) (by kernel_rfl) (fun r => by cases r <;> exact Zu _ rfl) (Zwp L0 a1 a2 a3 b4 N) h

end
theorem Zqh {L0 : List RJ} {a1 a2 a3 : Int} {b4 : Bool} {N : Nat} {r : ZcQ} (h : Zi1 L0 a1 a2 a3 b4 N = some r) : LSpec Tryz.prog 130 #[ms RC L0, vi a1, Value.agg #[vi a2, vi a3], Value.bool b4] [] (Zmu r) (Zlr r) := ZtM L0 a1 a2 a3 b4 N r h

end Ev
end Go.Proofs.YthfohmhipifiaaaGreat
namespace Go.Proofs.YthfohmhipifiaaaGreat
open Go.IntKind (i64)
open Go.RowKit
namespace Ev
open Mach (oi ok_ite ok_none okF okN enH en_ite en_none)
set_option linter.unusedVariables false
set_option maxRecDepth 100000
noncomputable abbrev κN (a2 : Int) (L3 : List RG) (a4 a5 : Int) := [vi (i64.wrap (a2 + 1)), ms RA L3, vi a4, vi a5]
noncomputable def Znc (L0 : List RJ) (L1 : List RG) (a2 : Int) (L3 : List RG) (a4 a5 a6 a7 a8 a9 a10 : Int) (L11 : List RG) (b12 : Bool) : Zbj → Value
 | .r0 w1 w2 w6 => Value.tuple #[Value.agg (List.toArray ([vs 1 0 w1.length w1.length] ++ (rv8 w2 ++ [vi (i64.wrap (a2 + 1)), ms RA L3, vi (i64.wrap (a4 + 1)), vi w6]))), vq]
 | .r1 w1 w2 w7 => Value.tuple #[Value.agg (List.toArray ([ms RC w1] ++ (rv8 w2 ++ (κN a2 L3 a4 a5)))), vi w7]
noncomputable abbrev κbf (L11 : List RG) := [some (AObj.cells (Zd RA L11) 44 true)]
noncomputable def ZlO (L0 : List RJ) (L1 : List RG) (a2 : Int) (L3 : List RG) (a4 a5 a6 a7 a8 a9 a10 : Int) (L11 : List RG) (b12 : Bool) : Zbj → List (Option AObj)
 | .r0 w1 w2 w6 => [some (.cells (Zd RA L11) 44 true), some (.cells (Zd RC w1) 97)]
 | .r1 w1 w2 w7 => (κbf L11)

noncomputable def Zwq (L0 : List RJ) (L1 : List RG) (a2 : Int) (L3 : List RG) (a4 a5 a6 a7 a8 a9 a10 : Int) (L11 : List RG) (b12 : Bool) : Zbj → Value
 | .r0 w1 w2 w6 => Value.tuple #[Value.agg (List.toArray ([ms RC w1] ++ (rv8 w2 ++ [vi (i64.wrap (a2 + 1)), ms RA L3, vi (i64.wrap (a4 + 1)), vi w6]))), vq]
 | .r1 w1 w2 w7 => Value.tuple #[Value.agg (List.toArray ([ms RC w1] ++ (rv8 w2 ++ (κN a2 L3 a4 a5)))), vi w7]
noncomputable def ZuV (L0 : List RJ) (L1 : List RG) (a2 : Int) (L3 : List RG) (a4 a5 a6 a7 a8 a9 a10 : Int) (L11 : List RG) (b12 : Bool) : Zbj → List (Option AObj)
 | .r0 w1 w2 w6 => (κbf L11)
 | .r1 w1 w2 w7 => (κbf L11)

section
variable (L1 : List RG) (a8 y1_0 y1_1 a2 : Int) (L3 : List RG) (a4 y1_2 : Int)
noncomputable abbrev κu := (rv8 (L1.set a8.toNat (⟨y1_0, y1_1⟩ : RG)) ++ [vi (i64.wrap (a2 + 1)), ms RA L3, vi (i64.wrap (a4 + 1)), vi y1_2])
end
section
variable (L0 : List RJ) (L1 : List RG) (a2 : Int) (L3 : List RG) (a4 a5 a6 a7 a8 a9 a10 : Int) (L11 : List RG) (b12 : Bool) (N : Nat)
theorem ZtN : Fx Tryz.prog Zg Tryz.f104 [.cells (Zd RA L11) 44 true] #[Value.agg (List.toArray (κk L0 L1 a2 L3 a4 a5)), vi a6, Value.agg #[vi a7, vi a8, vi a9, vi a10], vs 0 0 L11.length L11.length, Value.bool b12] (Znc L0 L1 a2 L3 a4 a5 a6 a7 a8 a9 a10 L11 b12) (ZlO L0 L1 a2 L3 a4 a5 a6 a7 a8 a9 a10 L11 b12) (ZaH L0 L1 a2 L3 a4 a5 a6 a7 a8 a9 a10 L11 b12 N) := by
 unfold ZaH
 refine Ze (fun g0 => ?_) (fun g0 => ?_)
 ·
  refine Zz (fun z1 c1 => ?_)
  cases z1 with
  | r0 y1_0 y1_1 y1_2 =>
   refine Ze (fun g2 => ?_) (fun g2 => ?_)
   ·
    refine Ze (fun g3 => ?_) (fun _ => Zq)
    refine Ze (fun g4 => ?_) (fun _ => Zq)
    refine Zz (fun z5 c5 => ?_)
    cases z5 with
    | r0 y5_0 y5_1 =>
     refine Ze (fun g6 => ?_) (fun _ => Zq)
     refine Ze (fun g7 => ?_) (fun _ => Zq)
     refine Ze (fun g8 => ?_) (fun _ => Zq)
     exact fxC (Za (oq [1]) [] [(0, a8.toNat)] [] [(0, (Zll c1 [0] 4).t), (3, .ap0), (4, (tP (ZhB c5)).t), (8, .st (ZaM RA 8 [vs 7 0 1 1] (L1.set a8.toNat (⟨y1_0, y1_1⟩ : RG)) [vi a2, ms RA L3, vi (i64.wrap (a4 + 1)), vi y1_2]))]) [0, 7] (Value.tuple #[Value.agg (List.toArray ([vs 7 0 1 1] ++ (κu L1 a8 y1_0 y1_1 a2 L3 a4 y1_2))), vq]) (kC (Zuq (E := RA) (a := [vs 7 0 1 1]) (b := [vi a2, ms RA L3, vi (i64.wrap (a4 + 1)), vi y1_2]) (L := L1) (n := 8) (p := 1) (i := a8.toNat) (q := 0) (l := [vi y1_0, vi y1_1]) (⟨y1_0, y1_1⟩ : RG) rfl (by omega) (by omega) (show (1 + (a8.toNat * 2)) = 1 + a8.toNat * 2 + 0 from by omega) (show 0 + 2 ≤ 2 from by decide) rfl) <| kB a8.toNat 8 <| kI a8 (Int.ofNat a8.toNat) <| kKb (A := #[Value.agg #[vi y1_0, vi y1_1], vi a9, vi a10, vi a6]) (ZdG (cr (Zf ci (Zf ci (cr rfl))))) (tQ (ZhB c5) 6) <| kX (dP (0 = L0.length ∧ ((L0.length * 8 = 0 ∧ ([] : List Value) = []) ∨ ∃ c, L0.length * 8 ≠ 0 ∧ Zay (code (Zak RC L0)) 0 (L0.length * 8) = some c ∧ ([] : List Value) = Zw c))) true (Z1 ⟨by omega, .inl ⟨by omega, rfl⟩⟩) <| kK (ZpS c1 [0] 4) <| hT g0 Zb) (bQ <| bC (o := .cells [vi y1_0, vi y1_1, vi y5_0, vi 2, vi 1, vi 1, vi a6, ms RA y5_1] 97) (Zae (E := RC) _ (L := ([(⟨y1_0, y1_1, y5_0, 2, 1, 1, a6, y5_1⟩ : RJ)] : List RJ)) _ (show ([vi y1_0, vi y1_1, vi y5_0, vi 2, vi 1, vi 1, vi a6, ms RA y5_1] : List Value) = Zd RC ([(⟨y1_0, y1_1, y5_0, 2, 1, 1, a6, y5_1⟩ : RJ)] : List RJ) from rfl)) <| bE) (hv := ⟨Eq.trans (show (Value.tuple #[Value.agg (List.toArray ([vs 1 0 ([(⟨y1_0, y1_1, y5_0, 2, 1, 1, a6, y5_1⟩ : RJ)] : List RJ).length ([(⟨y1_0, y1_1, y5_0, 2, 1, 1, a6, y5_1⟩ : RJ)] : List RJ).length] ++ (κu L1 a8 y1_0 y1_1 a2 L3 a4 y1_2))), vq] : Value) = Value.tuple #[Value.agg (List.toArray ([vs 1 0 1 1] ++ (κu L1 a8 y1_0 y1_1 a2 L3 a4 y1_2))), vq] from (Za7 (Zf (Zb3 (Zf (Z0 rfl eqA eqA) (cr4 (cr4 (cr4 (cr4 (cr4 rfl))))))) (cr rfl)))) (by rfl), by rfl⟩)
   refine Ze (fun g3 => ?_) (fun _ => Zq)
   refine Ze (fun g4 => ?_) (fun _ => Zq)
   refine Ze (fun g5 => ?_) (fun _ => Zq)
   refine Zz (fun z6 c6 => ?_)
   cases z6 with
   | r0 y6_0 y6_1 =>
    refine Ze (fun g7 => ?_) (fun _ => Zq)
    refine Ze (fun g8 => ?_) (fun _ => Zq)
    refine Ze (fun g9 => ?_) (fun _ => Zq)
    exact fxC (Za (oq [1]) [] [(0, a8.toNat)] [] [(0, (Zll c1 [0] 4).t), (3, .ap L0.length (Zd RC L0) (Zd RC L0)), (4, (tP (ZhB c6)).t), (5, .ap 1 [vi y1_0, vi y1_1, vi y6_0, vi 2, vi 1, vi 1, vi a6, ms RA y6_1] (Zd RC (L0 ++ ([(⟨y1_0, y1_1, y6_0, 2, 1, 1, a6, y6_1⟩ : RJ)] : List RJ)))), (8, .st (ZaM RA 8 [vs 8 0 ((0 + L0.length) + 1) ((0 + L0.length) + 1)] (L1.set a8.toNat (⟨y1_0, y1_1⟩ : RG)) [vi a2, ms RA L3, vi (i64.wrap (a4 + 1)), vi y1_2]))]) [0, 8] (Value.tuple #[Value.agg (List.toArray ([vs 8 0 ((0 + L0.length) + 1) ((0 + L0.length) + 1)] ++ (κu L1 a8 y1_0 y1_1 a2 L3 a4 y1_2))), vq]) (kC (Zuq (E := RA) (a := [vs 8 0 ((0 + L0.length) + 1) ((0 + L0.length) + 1)]) (b := [vi a2, ms RA L3, vi (i64.wrap (a4 + 1)), vi y1_2]) (L := L1) (n := 8) (p := 1) (i := a8.toNat) (q := 0) (l := [vi y1_0, vi y1_1]) (⟨y1_0, y1_1⟩ : RG) rfl (by omega) (by omega) (show (1 + (a8.toNat * 2)) = 1 + a8.toNat * 2 + 0 from by omega) (show 0 + 2 ≤ 2 from by decide) rfl) <| kB a8.toNat 8 <| kI a8 (Int.ofNat a8.toNat) <| kA' RC L0 (0 + L0.length) (⟨y1_0, y1_1, y6_0, 2, 1, 1, a6, y6_1⟩ : RJ) <| kKb (A := #[Value.agg #[vi y1_0, vi y1_1], vi a9, vi a10, vi a6]) (ZdG (cr (Zf ci (Zf ci (cr rfl))))) (tQ (ZhB c6) 7) <| kX (dP ((L0.length = L0.length ∧ ((L0.length * 8 = 0 ∧ (Zd RC L0) = []) ∨ ∃ c, L0.length * 8 ≠ 0 ∧ Zay (code (Zak RC L0)) 0 (L0.length * 8) = some c ∧ (Zd RC L0) = Zw c)) ∧ 0 < L0.length ∧ L0.length ≤ 100000 ∧ 0 < 0 + L0.length ∧ 0 ≤ 100000 ∧ 0 * 8 ≤ (List.length []) ∧ List.take (0 * 8) [] ++ (Zd RC L0) = (Zd RC L0))) true (Z1 ⟨⟨rfl, (ZdE (E := RC) (L := L0) (n := L0.length) (size := 8) rfl (by decide) (by omega))⟩, by omega, by omega, ltA, by omega, (Zbf (E := RC) (L := ([] : List RJ)) (M := L0) (n := 0) (show _ = _ * 8 from rfl) ltA (R := L0) (by rw [List.take_of_length_le ltA]; rfl))⟩) <| kK (ZpS c1 [0] 4) <| hT g0 Zb) (bQ <| bR <| bE) (hv := ⟨Eq.trans (show (Value.tuple #[Value.agg (List.toArray ([vs 1 0 (L0 ++ ([(⟨y1_0, y1_1, y6_0, 2, 1, 1, a6, y6_1⟩ : RJ)] : List RJ)).length (L0 ++ ([(⟨y1_0, y1_1, y6_0, 2, 1, 1, a6, y6_1⟩ : RJ)] : List RJ)).length] ++ (κu L1 a8 y1_0 y1_1 a2 L3 a4 y1_2))), vq] : Value) = Value.tuple #[Value.agg (List.toArray ([vs 1 0 ((0 + L0.length) + 1) ((0 + L0.length) + 1)] ++ (κu L1 a8 y1_0 y1_1 a2 L3 a4 y1_2))), vq] from (Za7 (Zf (Zb3 (Zf (Z0 rfl eqA eqA) (cr4 (cr4 (cr4 (cr4 (cr4 rfl))))))) (cr rfl)))) (by rfl), by rfl⟩)
 refine Ze (fun g1 => ?_) (fun g1 => ?_)
 ·
  refine Ze (fun g2 => ?_) (fun _ => Zq)
  refine Ze (fun g3 => ?_) (fun _ => Zq)
  have w4 := kX (Ze8 (ZO 2 (List.drop (1 + (a9.toNat * 2)) (ZaM RA 8 [ms RC L0] L1 (κp a2 L3 a4 a5)))) [.i (L1.getD a9.toNat RG.z).a0, .i (L1.getD a9.toNat RG.z).a1]) true (Zn8 (E := RA) (L := L1) (n := 8) (p := 1) (i := a9.toNat) (q := 0) rfl (by omega) (show (1 + (a9.toNat * 2)) = 1 + a9.toNat * 2 + 0 from by omega) (show 0 + 2 ≤ 2 from by decide) rfl rfl) <| kB a9.toNat 8 <| kI a9 (Int.ofNat a9.toNat) <| hT g1 <| hF g0 Zb
  refine Zz (fun z4 c4 => ?_)
  cases z4 with
  | r0 y4_0 y4_1 y4_2 =>
   refine Ze (fun g5 => ?_) (fun g5 => ?_)
   ·
    refine Ze (fun g6 => ?_) (fun _ => Zq)
    refine Ze (fun g7 => ?_) (fun _ => Zq)
    refine Ze (fun g8 => ?_) (fun _ => Zq)
    exact fxC (Za (oq [0, 3, 5]) [] [(0, a9.toNat), (1, a8.toNat)] [(3, (RA.cel (L1.getD a9.toNat RG.z)))] [(0, (tP (ZaV c4)).t), (2, .st (ZaM RA 8 [ms RC L0] (L1.set a8.toNat (⟨y4_0, y4_1⟩ : RG)) (κp a2 L3 a4 a5)))]) [0] (Value.tuple #[Value.agg (List.toArray ([ms RC L0] ++ (rv8 (L1.set a8.toNat (⟨y4_0, y4_1⟩ : RG)) ++ (κN a2 L3 a4 a5)))), vi y4_2]) (kC (Zuq (E := RA) (a := [ms RC L0]) (b := (κp a2 L3 a4 a5)) (L := L1) (n := 8) (p := 1) (i := a8.toNat) (q := 0) (l := [vi y4_0, vi y4_1]) (⟨y4_0, y4_1⟩ : RG) rfl (by omega) (by omega) (show (1 + (a8.toNat * 2)) = 1 + a8.toNat * 2 + 0 from by omega) (show 0 + 2 ≤ 2 from by decide) rfl) <| kB a8.toNat 8 <| kI a8 (Int.ofNat a8.toNat) <| hT g5 <| kK (tQ (ZaV c4) 4) w4) (bQ <| bE)
   exact fxC (Za (oq [0, 3, 4]) [] [(0, a9.toNat)] [(3, (RA.cel (L1.getD a9.toNat RG.z)))] [(0, (tP (ZaV c4)).t)]) [0] (Value.tuple #[Value.agg (List.toArray ([ms RC L0] ++ (rv8 L1 ++ (κN a2 L3 a4 a5)))), vi y4_2]) (hF g5 <| kK (tQ (ZaV c4) 4) w4) (bQ <| bE)
 refine Ze (fun g2 => ?_) (fun g2 => ?_)
 ·
  refine Ze (fun g3 => ?_) (fun _ => Zq)
  refine Ze (fun g4 => ?_) (fun _ => Zq)
  refine Ze (fun g5 => ?_) (fun _ => Zq)
  refine Ze (fun g6 => ?_) (fun _ => Zq)
  refine Zz (fun z7 c7 => ?_)
  cases z7 with
  | r0 y7_0 y7_1 =>
   exact fxC (Za (oq [0, 2, 5]) [] [(0, a8.toNat), (1, a10.toNat)] [(3, (RA.cel (L1.getD a8.toNat RG.z))), (6, (RA.cel (L1.getD a10.toNat RG.z)))] [(0, (tP (ZrC c7)).t)]) [0] (Value.tuple #[Value.agg (List.toArray ([ms RC y7_0] ++ (rv8 L1 ++ (κN a2 L3 a4 a5)))), vi y7_1]) (kK (tQ (ZrC c7) 4) <| kX (Ze8 (ZO 2 (List.drop (1 + (a10.toNat * 2)) (ZaM RA 8 [ms RC L0] L1 (κp a2 L3 a4 a5)))) [.i (L1.getD a10.toNat RG.z).a0, .i (L1.getD a10.toNat RG.z).a1]) true (Zn8 (E := RA) (L := L1) (n := 8) (p := 1) (i := a10.toNat) (q := 0) rfl (by omega) (show (1 + (a10.toNat * 2)) = 1 + a10.toNat * 2 + 0 from by omega) (show 0 + 2 ≤ 2 from by decide) rfl rfl) <| kB a10.toNat 8 <| kI a10 (Int.ofNat a10.toNat) <| kX (Ze8 (ZO 2 (List.drop (1 + (a8.toNat * 2)) (ZaM RA 8 [ms RC L0] L1 (κp a2 L3 a4 a5)))) [.i (L1.getD a8.toNat RG.z).a0, .i (L1.getD a8.toNat RG.z).a1]) true (Zn8 (E := RA) (L := L1) (n := 8) (p := 1) (i := a8.toNat) (q := 0) rfl (by omega) (show (1 + (a8.toNat * 2)) = 1 + a8.toNat * 2 + 0 from by omega) (show 0 + 2 ≤ 2 from by decide) rfl rfl) <| kB a8.toNat 8 <| kI a8 (Int.ofNat a8.toNat) <| hT g2 <| hF g1 <| hF g0 Zb) (bQ <| bE)
 refine Ze (fun g3 => ?_) (fun _ => Zq)
 refine Ze (fun g4 => ?_) (fun _ => Zq)
 refine Zz (fun z5 c5 => ?_)
 cases z5 with
 | r0 y5_0 y5_1 =>
  exact fxC (Za (oq [0, 2, 4]) [] [(0, a8.toNat)] [(3, (RA.cel (L1.getD a8.toNat RG.z)))] [(0, (tP (Zqh c5)).t)]) [0] (Value.tuple #[Value.agg (List.toArray ([ms RC y5_0] ++ (rv8 L1 ++ (κN a2 L3 a4 a5)))), vi y5_1]) (kK (tQ (Zqh c5) 4) <| kX (Ze8 (ZO 2 (List.drop (1 + (a8.toNat * 2)) (ZaM RA 8 [ms RC L0] L1 (κp a2 L3 a4 a5)))) [.i (L1.getD a8.toNat RG.z).a0, .i (L1.getD a8.toNat RG.z).a1]) true (Zn8 (E := RA) (L := L1) (n := 8) (p := 1) (i := a8.toNat) (q := 0) rfl (by omega) (show (1 + (a8.toNat * 2)) = 1 + a8.toNat * 2 + 0 from by omega) (show 0 + 2 ≤ 2 from by decide) rfl rfl) <| kB a8.toNat 8 <| kI a8 (Int.ofNat a8.toNat) <| hF g2 <| hF g1 <| hF g0 Zb) (bQ <| bE)

theorem Zqi (r : Zbj) (h : ZaH L0 L1 a2 L3 a4 a5 a6 a7 a8 a9 a10 L11 b12 N = some r) : LSpec Tryz.prog 104 #[Value.agg (List.toArray (κk L0 L1 a2 L3 a4 a5)), vi a6, Value.agg #[vi a7, vi a8, vi a9, vi a10], vs 0 0 L11.length L11.length, Value.bool b12] [.cells (Zd RA L11) 44 true] (Znc L0 L1 a2 L3 a4 a5 a6 a7 a8 a9 a10 L11 b12 r) (ZlO L0 L1 a2 L3 a4 a5 a6 a7 a8 a9 a10 L11 b12 r) :=
 Zax ZB Tryz.func104 (by kernel_rfl) (by kernel_rfl) (fun r => by cases r <;> exact Zu _ rfl) (ZtN L0 L1 a2 L3 a4 a5 a6 a7 a8 a9 a10 L11 b12 N) h

theorem Zkh (r : Zbj) (h : ZaH L0 L1 a2 L3 a4 a5 a6 a7 a8 a9 a10 L11 b12 N = some r) : LSpec Tryz.prog 104 #[Value.agg (List.toArray (κk L0 L1 a2 L3 a4 a5)), vi a6, Value.agg #[vi a7, vi a8, vi a9, vi a10], vs 0 0 L11.length L11.length, Value.bool b12] [.cells (Zd RA L11) 44 true] (Zwq L0 L1 a2 L3 a4 a5 a6 a7 a8 a9 a10 L11 b12 r) (ZuV L0 L1 a2 L3 a4 a5 a6 a7 a8 a9 a10 L11 b12 r) := by
 have h0 := Zqi L0 L1 a2 L3 a4 a5 a6 a7 a8 a9 a10 L11 b12 N r h
 cases r with
 | r0 w1 w2 w6 => exact (LSpec.frzv (E := RC) (L := w1) (post := (κbf L11)) (v2 := Value.tuple #[Value.agg (List.toArray ([ms RC w1] ++ (rv8 w2 ++ [vi (i64.wrap (a2 + 1)), ms RA L3, vi (i64.wrap (a4 + 1)), vi w6]))), vq]) h0 (show 1 ≤ 1 from by decide) (show 1 < 1000000000 from by decide) ⟨(Zdj _ _ _), trivial⟩ rfl rfl rfl)
 | r1 _ _ _ => exact h0

end
noncomputable def ZbX {L0 : List RJ} {L1 : List RG} {a2 : Int} {L3 : List RG} {a4 a5 a6 a7 a8 a9 a10 : Int} {L11 : List RG} {b12 : Bool} {w1 : List RJ} {w2 : List RG} {w6 : Int} {N : Nat} (h : ZaH L0 L1 a2 L3 a4 a5 a6 a7 a8 a9 a10 L11 b12 N = some (.r0 w1 w2 w6)) (ks : List Nat) (n : Nat) : ToldS := ⟨#[Value.agg (List.toArray (κk L0 L1 a2 L3 a4 a5)), vi a6, Value.agg #[vi a7, vi a8, vi a9, vi a10], vs (nth ks 0) 0 L11.length L11.length, Value.bool b12], [((nth ks 0), .cells (Zd RA L11) 44 true)], Value.tuple #[Value.agg (List.toArray ([ms RC w1] ++ (rv8 w2 ++ [vi (i64.wrap (a2 + 1)), ms RA L3, vi (i64.wrap (a4 + 1)), vi w6]))), vq], [], 0⟩

theorem Zcy {L0 : List RJ} {L1 : List RG} {a2 : Int} {L3 : List RG} {a4 a5 a6 a7 a8 a9 a10 : Int} {L11 : List RG} {b12 : Bool} {w1 : List RJ} {w2 : List RG} {w6 : Int} {N : Nat} (h : ZaH L0 L1 a2 L3 a4 a5 a6 a7 a8 a9 a10 L11 b12 N = some (.r0 w1 w2 w6)) (ks : List Nat) (n : Nat) (hk : ks.length = 1 := by rfl) (hnd : ks.Nodup := by decide +kernel) (hlt : ∀ k ∈ ks, k < n := by decide +kernel) : (ZbX (N := N)  h ks n).P Tryz.prog 104 n :=
 match ks, hk, hnd, hlt with
 | [k0], _, hnd, hlt => ZcO (show LSpec Tryz.prog 104 #[Value.agg (List.toArray (κk L0 L1 a2 L3 a4 a5)), vi a6, Value.agg #[vi a7, vi a8, vi a9, vi a10], vs 0 0 L11.length L11.length, Value.bool b12] [.cells (Zd RA L11) 44 true] (Value.tuple #[Value.agg (List.toArray ([ms RC w1] ++ (rv8 w2 ++ [vi (i64.wrap (a2 + 1)), ms RA L3, vi (i64.wrap (a4 + 1)), vi w6]))), vq]) (κbf L11) from Zkh L0 L1 a2 L3 a4 a5 a6 a7 a8 a9 a10 L11 b12 N _ h) _ n [] hnd hlt

noncomputable def Zan {L0 : List RJ} {L1 : List RG} {a2 : Int} {L3 : List RG} {a4 a5 a6 a7 a8 a9 a10 : Int} {L11 : List RG} {b12 : Bool} {w1 : List RJ} {w2 : List RG} {w7 : Int} {N : Nat} (h : ZaH L0 L1 a2 L3 a4 a5 a6 a7 a8 a9 a10 L11 b12 N = some (.r1 w1 w2 w7)) (ks : List Nat) (n : Nat) : ToldS := ⟨#[Value.agg (List.toArray (κk L0 L1 a2 L3 a4 a5)), vi a6, Value.agg #[vi a7, vi a8, vi a9, vi a10], vs (nth ks 0) 0 L11.length L11.length, Value.bool b12], [((nth ks 0), .cells (Zd RA L11) 44 true)], Value.tuple #[Value.agg (List.toArray ([ms RC w1] ++ (rv8 w2 ++ (κN a2 L3 a4 a5)))), vi w7], [], 0⟩

theorem Zau {L0 : List RJ} {L1 : List RG} {a2 : Int} {L3 : List RG} {a4 a5 a6 a7 a8 a9 a10 : Int} {L11 : List RG} {b12 : Bool} {w1 : List RJ} {w2 : List RG} {w7 : Int} {N : Nat} (h : ZaH L0 L1 a2 L3 a4 a5 a6 a7 a8 a9 a10 L11 b12 N = some (.r1 w1 w2 w7)) (ks : List Nat) (n : Nat) (hk : ks.length = 1 := by rfl) (hnd : ks.Nodup := by decide +kernel) (hlt : ∀ k ∈ ks, k < n := by decide +kernel) : (Zan (N := N)  h ks n).P Tryz.prog 104 n :=
 match ks, hk, hnd, hlt with
 | [k0], _, hnd, hlt => ZcO (show LSpec Tryz.prog 104 #[Value.agg (List.toArray (κk L0 L1 a2 L3 a4 a5)), vi a6, Value.agg #[vi a7, vi a8, vi a9, vi a10], vs 0 0 L11.length L11.length, Value.bool b12] [.cells (Zd RA L11) 44 true] (Value.tuple #[Value.agg (List.toArray ([ms RC w1] ++ (rv8 w2 ++ (κN a2 L3 a4 a5)))), vi w7]) (κbf L11) from Zkh L0 L1 a2 L3 a4 a5 a6 a7 a8 a9 a10 L11 b12 N _ h) _ n [] hnd hlt

noncomputable def Zoz (L0 : List RJ) (L1 : List RG) (a2 : Int) (L3 : List RG) (a4 a5 a6 a7 a8 a9 : Int) : Zbs → Value
 | .r0 w1 w2 w3 w6 => Value.tuple #[Value.agg (List.toArray ([ms RC L0] ++ (rv8 w1 ++ [vi w2, vs 0 0 w3.length w3.length, vi a4, vi a5]))), vi w6]
 | .r1 w1 w2 w6 => Value.tuple #[Value.agg (List.toArray ([ms RC L0] ++ (rv8 w1 ++ [vi w2, ms RA L3, vi a4, vi a5]))), vi w6]
noncomputable def Znd : Zbs → List (Option AObj)
 | .r0 w1 w2 w3 w6 => [some (.cells (Zd RA w3) 44)]
 | .r1 w1 w2 w6 => []

noncomputable def Zqj (L0 : List RJ) (L1 : List RG) (a2 : Int) (L3 : List RG) (a4 a5 a6 a7 a8 a9 : Int) : Zbs → Value
 | .r0 w1 w2 w3 w6 => Value.tuple #[Value.agg (List.toArray ([ms RC L0] ++ (rv8 w1 ++ [vi w2, ms RA w3, vi a4, vi a5]))), vi w6]
 | .r1 w1 w2 w6 => Value.tuple #[Value.agg (List.toArray ([ms RC L0] ++ (rv8 w1 ++ [vi w2, ms RA L3, vi a4, vi a5]))), vi w6]
noncomputable def Zo0 : Zbs → List (Option AObj)
 | .r0 w1 w2 w3 w6 => []
 | .r1 w1 w2 w6 => []

section
variable (L0 : List RJ) (L1 : List RG) (a2 : Int) (L3 : List RG) (a4 a5 a6 a7 a8 a9 : Int) (N : Nat)
theorem ZuW : Fx Tryz.prog Zg Tryz.f139 [] #[Value.agg (List.toArray (κk L0 L1 a2 L3 a4 a5)), Value.agg #[vi a6, vi a7, vi a8, vi a9]] (Zoz L0 L1 a2 L3 a4 a5 a6 a7 a8 a9) (Znd) (Zd3 L0 L1 a2 L3 a4 a5 a6 a7 a8 a9 N) := by
 unfold Zd3
 refine Zz (fun z0 c0 => ?_)
 cases z0 with
 | r0 y0_0 y0_1 y0_2 =>
  refine Ze (fun g1 => ?_) (fun g1 => ?_)
  ·
   subst g1
   refine Ze (fun g2 => ?_) (fun g2 => ?_)
   ·
    have w3 := kX (dP (0 = L3.length ∧ ((L3.length * 2 = 0 ∧ ([] : List Value) = []) ∨ ∃ c, L3.length * 2 ≠ 0 ∧ Zay (code (Zak RA L3)) 0 (L3.length * 2) = some c ∧ ([] : List Value) = Zw c))) true (Z1 ⟨by omega, .inl ⟨by omega, rfl⟩⟩) <| kK (tQ (Z2 c0) 3) Zb
    refine Zz (fun z3 c3 => ?_)
    cases z3 with
    | r0 y3_0 y3_1 y3_2 =>
     refine Ze (fun g4 => ?_) (fun g4 => ?_)
     ·
      exact fxC (Za (oq [9]) [] [] [] [(0, (tP (Z2 c0)).t), (2, .ap0), (9, (tP (Z6 c3)).t)]) [6] (Value.tuple #[Value.agg (List.toArray ([ms RC L0] ++ (rv8 L1 ++ [vi a2, vs 6 0 1 1, vi a4, vi a5]))), vi y3_2]) (hD g4 <| kK (tQ (Z6 c3) 11) w3) (bC (o := .cells [vi y0_0, vi y0_1] 44) (Zae (E := RA) _ (L := ([(⟨y0_0, y0_1⟩ : RG)] : List RG)) _ (show ([vi y0_0, vi y0_1] : List Value) = Zd RA ([(⟨y0_0, y0_1⟩ : RG)] : List RG) from rfl)) <| bE) (hv := ⟨Eq.trans (show (Value.tuple #[Value.agg (List.toArray ([ms RC L0] ++ (rv8 L1 ++ [vi a2, vs 0 0 ([(⟨y0_0, y0_1⟩ : RG)] : List RG).length ([(⟨y0_0, y0_1⟩ : RG)] : List RG).length, vi a4, vi a5]))), vi y3_2] : Value) = Value.tuple #[Value.agg (List.toArray ([ms RC L0] ++ (rv8 L1 ++ [vi a2, vs 0 0 1 1, vi a4, vi a5]))), vi y3_2] from (Za7 (Zf (Zb3 (cr4 (cr4 (cr4 (cr4 (cr (cr (Zf (Z0 rfl eqA eqA) (cr (cr rfl)))))))))) (cr rfl)))) (by rfl), by rfl⟩)
     exact fxC (Za (oq [8]) [] [] [] [(0, (tP (Z2 c0)).t), (2, .ap0), (9, (tP (Z6 c3)).t)]) [6] (Value.tuple #[Value.agg (List.toArray ([ms RC L0] ++ (rv8 y3_0 ++ [vi y3_1, vs 6 0 1 1, vi a4, vi a5]))), vq]) (kE y3_2 0 <| kK (tQ (Z6 c3) 11) w3) (bC (o := .cells [vi y0_0, vi y0_1] 44) (Zae (E := RA) _ (L := ([(⟨y0_0, y0_1⟩ : RG)] : List RG)) _ (show ([vi y0_0, vi y0_1] : List Value) = Zd RA ([(⟨y0_0, y0_1⟩ : RG)] : List RG) from rfl)) <| bE) (hv := ⟨Eq.trans (show (Value.tuple #[Value.agg (List.toArray ([ms RC L0] ++ (rv8 y3_0 ++ [vi y3_1, vs 0 0 ([(⟨y0_0, y0_1⟩ : RG)] : List RG).length ([(⟨y0_0, y0_1⟩ : RG)] : List RG).length, vi a4, vi a5]))), vq] : Value) = Value.tuple #[Value.agg (List.toArray ([ms RC L0] ++ (rv8 y3_0 ++ [vi y3_1, vs 0 0 1 1, vi a4, vi a5]))), vq] from (Za7 (Zf (Zb3 (cr4 (cr4 (cr4 (cr4 (cr (cr (Zf (Z0 rfl eqA eqA) (cr (cr rfl)))))))))) (cr rfl)))) (by rfl), by rfl⟩)
   refine Ze (fun g3 => ?_) (fun _ => Zq)
   have w4 := kA' RA L3 (0 + L3.length) (⟨y0_0, y0_1⟩ : RG) <| kX (dP ((L3.length = L3.length ∧ ((L3.length * 2 = 0 ∧ (Zd RA L3) = []) ∨ ∃ c, L3.length * 2 ≠ 0 ∧ Zay (code (Zak RA L3)) 0 (L3.length * 2) = some c ∧ (Zd RA L3) = Zw c)) ∧ 0 < L3.length ∧ L3.length ≤ 100000 ∧ 0 < 0 + L3.length ∧ 0 ≤ 100000 ∧ 0 * 2 ≤ (List.length []) ∧ List.take (0 * 2) [] ++ (Zd RA L3) = (Zd RA L3))) true (Z1 ⟨⟨rfl, (ZdE (E := RA) (L := L3) (n := L3.length) (size := 2) rfl (by decide) (by omega))⟩, by omega, by omega, ltA, by omega, (Zbf (E := RA) (L := ([] : List RG)) (M := L3) (n := 0) (show _ = _ * 2 from rfl) ltA (R := L3) (by rw [List.take_of_length_le ltA]; rfl))⟩) <| kK (tQ (Z2 c0) 3) Zb
   refine Zz (fun z4 c4 => ?_)
   cases z4 with
   | r0 y4_0 y4_1 y4_2 =>
    refine Ze (fun g5 => ?_) (fun g5 => ?_)
    ·
     exact fxC (Za (oq [9]) [] [] [] [(0, (tP (Z2 c0)).t), (2, .ap L3.length (Zd RA L3) (Zd RA L3)), (3, .ap 1 [vi y0_0, vi y0_1] (Zd RA (L3 ++ ([(⟨y0_0, y0_1⟩ : RG)] : List RG)))), (9, (tP (Z6 c4)).t)]) [7] (Value.tuple #[Value.agg (List.toArray ([ms RC L0] ++ (rv8 L1 ++ [vi a2, vs 7 0 ((0 + L3.length) + 1) ((0 + L3.length) + 1), vi a4, vi a5]))), vi y4_2]) (hD g5 <| kK (tQ (Z6 c4) 12) w4) (bR <| bE) (hv := ⟨Eq.trans (show (Value.tuple #[Value.agg (List.toArray ([ms RC L0] ++ (rv8 L1 ++ [vi a2, vs 0 0 (L3 ++ ([(⟨y0_0, y0_1⟩ : RG)] : List RG)).length (L3 ++ ([(⟨y0_0, y0_1⟩ : RG)] : List RG)).length, vi a4, vi a5]))), vi y4_2] : Value) = Value.tuple #[Value.agg (List.toArray ([ms RC L0] ++ (rv8 L1 ++ [vi a2, vs 0 0 ((0 + L3.length) + 1) ((0 + L3.length) + 1), vi a4, vi a5]))), vi y4_2] from (Za7 (Zf (Zb3 (cr4 (cr4 (cr4 (cr4 (cr (cr (Zf (Z0 rfl eqA eqA) (cr (cr rfl)))))))))) (cr rfl)))) (by rfl), by rfl⟩)
    exact fxC (Za (oq [8]) [] [] [] [(0, (tP (Z2 c0)).t), (2, .ap L3.length (Zd RA L3) (Zd RA L3)), (3, .ap 1 [vi y0_0, vi y0_1] (Zd RA (L3 ++ ([(⟨y0_0, y0_1⟩ : RG)] : List RG)))), (9, (tP (Z6 c4)).t)]) [7] (Value.tuple #[Value.agg (List.toArray ([ms RC L0] ++ (rv8 y4_0 ++ [vi y4_1, vs 7 0 ((0 + L3.length) + 1) ((0 + L3.length) + 1), vi a4, vi a5]))), vq]) (kE y4_2 0 <| kK (tQ (Z6 c4) 12) w4) (bR <| bE) (hv := ⟨Eq.trans (show (Value.tuple #[Value.agg (List.toArray ([ms RC L0] ++ (rv8 y4_0 ++ [vi y4_1, vs 0 0 (L3 ++ ([(⟨y0_0, y0_1⟩ : RG)] : List RG)).length (L3 ++ ([(⟨y0_0, y0_1⟩ : RG)] : List RG)).length, vi a4, vi a5]))), vq] : Value) = Value.tuple #[Value.agg (List.toArray ([ms RC L0] ++ (rv8 y4_0 ++ [vi y4_1, vs 0 0 ((0 + L3.length) + 1) ((0 + L3.length) + 1), vi a4, vi a5]))), vq] from (Za7 (Zf (Zb3 (cr4 (cr4 (cr4 (cr4 (cr (cr (Zf (Z0 rfl eqA eqA) (cr (cr rfl)))))))))) (cr rfl)))) (by rfl), by rfl⟩)
  obtain rfl : y0_2 = false := by simpa using g1
  refine Zz (fun z2 c2 => ?_)
  cases z2 with
  | r0 y2_0 y2_1 y2_2 =>
   refine Ze (fun g3 => ?_) (fun g3 => ?_)
   ·
    exact fxC (Za (oq [9]) [] [] [] [(0, (tP (Z2 c0)).t), (6, (tP (Z6 c2)).t)]) [] (Value.tuple #[Value.agg (List.toArray (κk L0 L1 a2 L3 a4 a5)), vi y2_2]) (hD g3 <| kK (tQ (Z6 c2) 8) <| kK (tQ (Z2 c0) 3) Zb) bE
   exact fxC (Za (oq [8]) [] [] [] [(0, (tP (Z2 c0)).t), (6, (tP (Z6 c2)).t)]) [] (Value.tuple #[Value.agg (List.toArray ([ms RC L0] ++ (rv8 y2_0 ++ [vi y2_1, ms RA L3, vi a4, vi a5]))), vq]) (kE y2_2 0 <| kK (tQ (Z6 c2) 8) <| kK (tQ (Z2 c0) 3) Zb) bE

theorem Zre (r : Zbs) (h : Zd3 L0 L1 a2 L3 a4 a5 a6 a7 a8 a9 N = some r) : LSpec Tryz.prog 139 #[Value.agg (List.toArray (κk L0 L1 a2 L3 a4 a5)), Value.agg #[vi a6, vi a7, vi a8, vi a9]] [] (Zoz L0 L1 a2 L3 a4 a5 a6 a7 a8 a9 r) (Znd r) :=
 Zax ZB Tryz.func139 (by kernel_rfl) (by kernel_rfl) (fun r => by cases r <;> exact Zu _ rfl) (ZuW L0 L1 a2 L3 a4 a5 a6 a7 a8 a9 N) h

theorem Zs0 (r : Zbs) (h : Zd3 L0 L1 a2 L3 a4 a5 a6 a7 a8 a9 N = some r) : LSpec Tryz.prog 139 #[Value.agg (List.toArray (κk L0 L1 a2 L3 a4 a5)), Value.agg #[vi a6, vi a7, vi a8, vi a9]] [] (Zqj L0 L1 a2 L3 a4 a5 a6 a7 a8 a9 r) (Zo0 r) := by
 have h0 := Zre L0 L1 a2 L3 a4 a5 a6 a7 a8 a9 N r h
 cases r with
 | r0 w1 w2 w3 w6 => exact (LSpec.frzv (E := RA) (L := w3) (post := []) (v2 := Value.tuple #[Value.agg (List.toArray ([ms RC L0] ++ (rv8 w1 ++ [vi w2, ms RA w3, vi a4, vi a5]))), vi w6]) h0 (show 0 ≤ 0 from by decide) (show 0 < 1000000000 from by decide) trivial rfl rfl rfl)
 | r1 _ _ _ => exact h0

end
theorem ZA {L0 : List RJ} {L1 : List RG} {a2 : Int} {L3 : List RG} {a4 a5 a6 a7 a8 a9 : Int} {N : Nat} {r : Zbs} (h : Zd3 L0 L1 a2 L3 a4 a5 a6 a7 a8 a9 N = some r) : LSpec Tryz.prog 139 #[Value.agg (List.toArray (κk L0 L1 a2 L3 a4 a5)), Value.agg #[vi a6, vi a7, vi a8, vi a9]] [] (Zqj L0 L1 a2 L3 a4 a5 a6 a7 a8 a9 r) (Zo0 r) := Zs0 L0 L1 a2 L3 a4 a5 a6 a7 a8 a9 N r h

noncomputable abbrev κE := #[Value.agg #[vn, vq, vq, vq, vq, vq, vq, vq, vq, vq, vq, vq, vq, vq, vq, vq, vq, vq, vn, vq, vq], vn, vf]
noncomputable def Zls : Zc7 → Value
 | .r0 => Value.tuple κE
noncomputable def ZjY : Zc7 → List (Option AObj)
 | .r0 => []

def Zwr : ZbK → Nat
 | .h1m0 => 1
section
variable (L0 : List RI) (L1 : List Int)
noncomputable def Zyw : ZbK → List (Nat × Value)
 | .h1m0 => [(0, ms RB L0), (1, ms eI L1), (2, vn), (6, vp 0 0), (9, vi (-1 : Int))]
noncomputable abbrev κa := (AObj.cells (ZaM RA 8 [vn] ([(⟨0, 0⟩ : RG), (⟨0, 0⟩ : RG), (⟨0, 0⟩ : RG), (⟨0, 0⟩ : RG), (⟨0, 0⟩ : RG), (⟨0, 0⟩ : RG), (⟨0, 0⟩ : RG), (⟨0, 0⟩ : RG)] : List RG) [vq, vn, vq, vq]) 153)
noncomputable def Zyx (L0 : List RI) (L1 : List Int) : ZbK → List (Option AObj)
 | .h1m0 => [some κa]

noncomputable def ZiK : Nat → Code × List ZD
 | 1 => ZX [1, 0, 1, 3] (Zaw Tryz.f138) []
 | _ => (.skip, [])
def Zws : Nat → Bool
 | 1 => true
 | _ => true
noncomputable def ZgP (N : Nat) : Mach := ⟨Tryz.f138, [], ZbK, Zc7, Zgo L0 L1 N, Zwr, ZiK, Zws, Zyw L0 L1, Zyx L0 L1, Zls, ZjY⟩

theorem Zrf (N : Nat) : (ZgP L0 L1 N).Ok Tryz.prog Zg (.h1m0 : ZbK) (Zgo L0 L1 N (.h1m0 : ZbK)) := by
 show (ZgP L0 L1 N).Ok Tryz.prog Zg (.h1m0 : ZbK) (ZhU L0 L1 N)
 unfold ZhU
 exact okF (Za (oq []) [] [] [] []) [] (Value.tuple κE) Zb bE

theorem ZuX (N : Nat) : (ZgP L0 L1 N).Enter Tryz.prog Zg #[ms RB L0, ms eI L1, vn] (ZjN L0 L1 N) := by
 unfold ZjN
 exact enH (ZiK 1) (Za (oq []) [] [] [] []) [0] [some (ms RB L0), some (ms eI L1), some (vn), some (vp 0 0), some (vi (-1 : Int))] Zb (tC (tC (tC (tC (tC (tE)))))) (bM κa <| bE) (show Zj (ZiK 1).2 = [] from rfl)

theorem Zs1 (N : Nat) (r : Zc7) (h : Zmi L0 L1 N = some r) : LSpec Tryz.prog 138 #[ms RB L0, ms eI L1, vn] [] (Zls r) (ZjY r) :=
 Mach.spec ZB (ZgP L0 L1 N) Tryz.func138 (by kernel_rfl) (by kernel_rfl) (fun x => by cases x <;> exact Zu _ rfl) (fun r => by cases r <;> exact Zu _ rfl) (fun x => by
  cases x with
  | h1m0 => exact fun _ => (show ¬ (1 ∈ Zj (ZiK 1).2) from by decide +kernel)
  ) (fun x => (show (ZgP L0 L1 N).Ok Tryz.prog Zg x (Zgo L0 L1 N x) from by
  cases x with
  | h1m0 => exact Zrf L0 L1 N
  )) (ZuX L0 L1 N) (n := N) h

end
theorem Zo1 {L0 : List RI} {L1 : List Int} {N : Nat} {r : Zc7} (h : Zmi L0 L1 N = some r) : LSpec Tryz.prog 138 #[ms RB L0, ms eI L1, vn] [] (Zls r) (ZjY r) := Zs1 L0 L1 N r h

noncomputable def Zne : Zcw → Value
 | .r0 => Value.tuple κE
noncomputable abbrev κbb (L2 : List R_iiCiiiiiiiiiiiiiiiiiAii) := (Zd Zbx L2)
noncomputable def ZlP (L0 : List RI) (L1 : List Int) (L2 : List R_iiCiiiiiiiiiiiiiiiiiAii) : Zcw → List (Option AObj)
 | .r0 => [some (.cells (κbb L2) 218)]

def ZtO : ZaJ → Nat
 | .h1m0 v3 => 1
section
variable (L0 : List RI) (L1 : List Int) (L2 : List R_iiCiiiiiiiiiiiiiiiiiAii)
noncomputable def ZuY : ZaJ → List (Nat × Value)
 | .h1m0 v3 => [(0, ms RB L0), (1, ms eI L1), (2, vs 0 0 L2.length L2.length), (6, vp 1 0), (9, vi v3)]
noncomputable def ZuZ (L0 : List RI) (L1 : List Int) (L2 : List R_iiCiiiiiiiiiiiiiiiiiAii) : ZaJ → List (Option AObj)
 | .h1m0 v3 => [some (.cells (κbb L2) 218), some κa]

noncomputable def Zei : Nat → Code × List ZD
 | 1 => ZX [1, 0, 1, 3] (Zaw Tryz.f138) []
 | _ => (.skip, [])
def ZlQ : Nat → Bool
 | 1 => true
 | _ => true
noncomputable def Znf (i : Nat) : List ZD := match ZlQ i with | true => .rnd i :: (Zei i).2 | false => (Zei i).2

noncomputable def Zfz (N : Nat) : Mach := ⟨Tryz.f138, [.cells (κbb L2) 218], ZaJ, Zcw, Zff L0 L1 L2 N, ZtO, Zei, ZlQ, ZuY L0 L1 L2, ZuZ L0 L1 L2, Zne, ZlP L0 L1 L2⟩

theorem ZoG (v3 : Int) (N : Nat) : (Zfz L0 L1 L2 N).Ok Tryz.prog Zg (.h1m0 v3 : ZaJ) (Zff L0 L1 L2 N (.h1m0 v3 : ZaJ)) := by
 show (Zfz L0 L1 L2 N).Ok Tryz.prog Zg (.h1m0 v3 : ZaJ) (ZgB L0 L1 L2 N v3)
 unfold ZgB
 refine ok_ite (fun g0 => ?_) fun g0 => ?_
 ·
  refine oi fun g1 => ?_
  have w2 := kL Zbx L2 ((v3).toNat) 0 1 <| kB (v3).toNat L2.length <| kI v3 (Int.ofNat (v3).toNat) <| kY (v3 ≥ 0) Zb
  refine oi fun g2 => ?_
  refine oi fun g3 => ?_
  have w4 := kL Zbx L2 ((v3).toNat) 1 1 <| kB (v3).toNat L2.length <| kI v3 (Int.ofNat (v3).toNat) <| kG eI L1 (0 + (((L2.getD (v3).toNat R_iiCiiiiiiiiiiiiiiiiiAii.z).a0).toNat * 1)) (((L2.getD (v3).toNat R_iiCiiiiiiiiiiiiiiiiiAii.z).a0).toNat) 0 1 1 <| kB ((L2.getD (v3).toNat R_iiCiiiiiiiiiiiiiiiiiAii.z).a0).toNat L1.length <| kI ((L2.getD (v3).toNat R_iiCiiiiiiiiiiiiiiiiiAii.z).a0) (Int.ofNat ((L2.getD (v3).toNat R_iiCiiiiiiiiiiiiiiiiiAii.z).a0).toNat) w2
  refine ok_ite (fun g4 => ?_) fun g4 => ?_
  ·
   refine oi fun g5 => ?_
   refine oi fun g6 => ?_
   refine ok_ite (fun _ => ok_none) (fun g7 => ?_)
   exact okN (Za (oq [1, 3, 4]) [] [(0, (v3).toNat), (1, ((L2.getD (v3).toNat R_iiCiiiiiiiiiiiiiiiiiAii.z).a0).toNat), (2, (v3).toNat), (3, ((L1.getD ((L2.getD (v3).toNat R_iiCiiiiiiiiiiiiiiiiiAii.z).a0).toNat 0)).toNat)] [(0, [.i (L2.getD (v3).toNat R_iiCiiiiiiiiiiiiiiiiiAii.z).a0]), (1, [.i (L1.getD ((L2.getD (v3).toNat R_iiCiiiiiiiiiiiiiiiiiAii.z).a0).toNat 0)]), (2, [.i (L2.getD (v3).toNat R_iiCiiiiiiiiiiiiiiiiiAii.z).a1]), (3, [.i (L0.getD ((L1.getD ((L2.getD (v3).toNat R_iiCiiiiiiiiiiiiiiiiiAii.z).a0).toNat 0)).toNat RI.z).a0])] []) [0, 1] [some (ms RB L0), some (ms eI L1), some (vs 0 0 L2.length L2.length), some (vp 1 0), some (vi (i64.wrap (v3 - 1)))] (hF g7 <| kG RB L0 ((0 + (((L1.getD ((L2.getD (v3).toNat R_iiCiiiiiiiiiiiiiiiiiAii.z).a0).toNat 0)).toNat * 4)) + 0) (((L1.getD ((L2.getD (v3).toNat R_iiCiiiiiiiiiiiiiiiiiAii.z).a0).toNat 0)).toNat) 0 1 4 <| kB ((L1.getD ((L2.getD (v3).toNat R_iiCiiiiiiiiiiiiiiiiiAii.z).a0).toNat 0)).toNat L0.length <| kI (L1.getD ((L2.getD (v3).toNat R_iiCiiiiiiiiiiiiiiiiiAii.z).a0).toNat 0) (Int.ofNat ((L1.getD ((L2.getD (v3).toNat R_iiCiiiiiiiiiiiiiiiiiAii.z).a0).toNat 0)).toNat) <| hT g4 w4) (tC (tC (tC (tC (tC (tE)))))) (bR <| bM κa <| bE) (show 1 ∈ Zj (Znf 1) from by decide +kernel)
  exact okN (Za (oq [1, 2]) [] [(0, (v3).toNat), (1, ((L2.getD (v3).toNat R_iiCiiiiiiiiiiiiiiiiiAii.z).a0).toNat), (2, (v3).toNat)] [(0, [.i (L2.getD (v3).toNat R_iiCiiiiiiiiiiiiiiiiiAii.z).a0]), (1, [.i (L1.getD ((L2.getD (v3).toNat R_iiCiiiiiiiiiiiiiiiiiAii.z).a0).toNat 0)]), (2, [.i (L2.getD (v3).toNat R_iiCiiiiiiiiiiiiiiiiiAii.z).a1])] []) [0, 1] [some (ms RB L0), some (ms eI L1), some (vs 0 0 L2.length L2.length), some (vp 1 0), some (vi (i64.wrap (v3 - 1)))] (hF g4 w4) (tC (tC (tC (tC (tC (tE)))))) (bR <| bM κa <| bE) (show 1 ∈ Zj (Znf 1) from by decide +kernel)
 exact okF (Za (oq [0]) [] [] [] []) [0] (Value.tuple κE) (kN (v3 ≥ 0) Zb) (bR <| bE)

theorem Zs2 (N : Nat) : (Zfz L0 L1 L2 N).Enter Tryz.prog Zg #[ms RB L0, ms eI L1, vs 0 0 L2.length L2.length] (Zi2 L0 L1 L2 N) := by
 unfold Zi2
 refine en_ite (fun g0 => ?_) (fun _ => en_none)
 exact enH (Zei 1) (Za (oq []) [(0, ((L2.length : Int) - 1))] [] [] []) [0, 1] [some (ms RB L0), some (ms eI L1), some (vs 0 0 L2.length L2.length), some (vp 1 0), some (vi ((L2.length : Int) - 1))] (kW ((L2.length : Int) - 1) ((L2.length : Int) - 1) Zb) (tC (tC (tC (tC (tC (tE)))))) (bR <| bM κa <| bE) (show Zj (Zei 1).2 = [] from rfl)

theorem Zqk (N : Nat) (r : Zcw) (h : Zh9 L0 L1 L2 N = some r) : LSpec Tryz.prog 138 #[ms RB L0, ms eI L1, vs 0 0 L2.length L2.length] [.cells (κbb L2) 218] (Zne r) (ZlP L0 L1 L2 r) :=
 Mach.spec ZB (Zfz L0 L1 L2 N) Tryz.func138 (by kernel_rfl) (by kernel_rfl) (fun x => by cases x <;> exact Zu _ rfl) (fun r => by cases r <;> exact Zu _ rfl) (fun x => by
  cases x with
  | h1m0 _ => exact fun _ => (show ¬ (1 ∈ Zj (Zei 1).2) from by decide +kernel)
  ) (fun x => (show (Zfz L0 L1 L2 N).Ok Tryz.prog Zg x (Zff L0 L1 L2 N x) from by
  cases x with
  | h1m0 v3 => exact ZoG L0 L1 L2 v3 N
  )) (Zs2 L0 L1 L2 N) (n := N) h

end
noncomputable def ZlR {L0 : List RI} {L1 : List Int} {L2 : List R_iiCiiiiiiiiiiiiiiiiiAii} {N : Nat} (h : Zh9 L0 L1 L2 N = some (.r0)) (ks : List Nat) (n : Nat) : ToldS := ⟨#[ms RB L0, ms eI L1, vs (nth ks 0) 0 L2.length L2.length], [((nth ks 0), .cells (κbb L2) 218)], Value.tuple κE, [], 0⟩

theorem ZtP {L0 : List RI} {L1 : List Int} {L2 : List R_iiCiiiiiiiiiiiiiiiiiAii} {N : Nat} (h : Zh9 L0 L1 L2 N = some (.r0)) (ks : List Nat) (n : Nat) (hk : ks.length = 1 := by rfl) (hnd : ks.Nodup := by decide +kernel) (hlt : ∀ k ∈ ks, k < n := by decide +kernel) : (ZlR (N := N)  h ks n).P Tryz.prog 138 n :=
 match ks, hk, hnd, hlt with
 | [k0], _, hnd, hlt => ZcO (show LSpec Tryz.prog 138 #[ms RB L0, ms eI L1, vs 0 0 L2.length L2.length] [.cells (κbb L2) 218] (Value.tuple κE) [some (.cells (κbb L2) 218)] from Zqk L0 L1 L2 N _ h) _ n [] hnd hlt

end Ev
end Go.Proofs.YthfohmhipifiaaaGreat
