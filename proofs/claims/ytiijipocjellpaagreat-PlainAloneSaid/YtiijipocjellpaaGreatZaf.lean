/- Part 6. -/
import Derived.Test.YtiijipocjellpaaGreatZae
set_option linter.unusedSimpArgs false
set_option linter.unusedVariables false
/- Calls do what the plain functions say. -/
namespace Go.Proofs.YtiijipocjellpaaGreat
open Go.IntKind (i64)
open Go.RowKit
namespace Ev
set_option linter.unusedVariables false
set_option maxRecDepth 100000
set_option maxHeartbeats 4000000
noncomputable def ZlE (L0 : List RH) (a1 a2 a3 : Int) : Zdg → Value
 | .r0 w1 w2 => Value.agg #[vi w1, vi w2]
noncomputable abbrev κbn (L0 : List RH) := [some (AObj.cells (Zb RB L0) 42)]
noncomputable def ZkG (L0 : List RH) (a1 a2 a3 : Int) : Zdg → List (Option AObj)
 | .r0 w1 w2 => (κbn L0)

noncomputable abbrev κbh (L0 : List RH) := [AObj.cells (Zb RB L0) 42]
theorem Zor (L0 : List RH) (a1 a2 a3 : Int) (N : Nat) : Fx Tryz.prog Zu Tryz.f23 (κbh L0) #[vs 0 0 L0.length L0.length, vi a1, Value.agg #[vi a2, vi a3]] (ZlE L0 a1 a2 a3) (ZkG L0 a1 a2 a3) (ZbN L0 a1 a2 a3 N) := by
 unfold ZbN
 refine Zg (fun g0 => ?_) (fun g0 => ?_)
 ·
  exact fxC (Zj (oq [1]) [] [] [] []) [0] (Value.agg #[vi a2, vi a3]) (hY g0 Zk) (bR <| bE)
 ·
  refine Zg (fun g1 => ?_) (fun g1 => ?_)
  ·
   exact fxC (Zj (oq [0, 3]) [] [] [] []) [0] (Value.agg #[vi a2, vi a3]) (hT g1 <| hN g0 Zk) (bR <| bE)
  ·
   refine Zg (fun g2 => ?_) (fun _ => Zo)
   refine Zg (fun g3 => ?_) (fun _ => Zo)
   exact fxC (Zj (oq [0, 2]) [] [(0, ((Int.tmod a1 (L0.length : Int))).toNat)] [(0, (RB.cel (L0.getD ((Int.tmod a1 (L0.length : Int))).toNat RH.z)))] [(0, .dv)]) [0] (Value.agg #[vi (L0.getD ((Int.tmod a1 (L0.length : Int))).toNat RH.z).a0, vi (L0.getD ((Int.tmod a1 (L0.length : Int))).toNat RH.z).a1]) (kLn RB L0 (((Int.tmod a1 (L0.length : Int))).toNat) 0 2 <| kB ((Int.tmod a1 (L0.length : Int))).toNat L0.length <| kI (Int.tmod a1 (L0.length : Int)) (Int.ofNat ((Int.tmod a1 (L0.length : Int))).toNat) <| kX (dP (i64 = i64 ∧ (L0.length : Int) ≠ 0)) true (Z2 ⟨rfl, by omega⟩) <| hF g1 <| hN g0 Zk) (bR <| bE)

theorem ZmY (L0 : List RH) (a1 a2 a3 : Int) (N : Nat) (r : Zdg) (h : ZbN L0 a1 a2 a3 N = some r) : LSpec Tryz.prog 23 #[vs 0 0 L0.length L0.length, vi a1, Value.agg #[vi a2, vi a3]] (κbh L0) (ZlE L0 a1 a2 a3 r) (ZkG L0 a1 a2 a3 r) :=
 Zbc Zz Tryz.func23 (by kernel_rfl) (by kernel_rfl) (fun r => by cases r <;> exact ZB _ rfl) (Zor L0 a1 a2 a3 N) h

noncomputable def Zdu {L0 : List RH} {a1 a2 a3 w1 w2 : Int} {N : Nat} (h : ZbN L0 a1 a2 a3 N = some (.r0 w1 w2)) (ks : List Nat) (n : Nat) : ToldS := ⟨#[vs (nth ks 0) 0 L0.length L0.length, vi a1, Value.agg #[vi a2, vi a3]], [((nth ks 0), .cells (Zb RB L0) 42)], Value.agg #[vi w1, vi w2], [], 0⟩

theorem ZkH {L0 : List RH} {a1 a2 a3 w1 w2 : Int} {N : Nat} (h : ZbN L0 a1 a2 a3 N = some (.r0 w1 w2)) (ks : List Nat) (n : Nat) (hk : ks.length = 1 := by rfl) (hnd : ks.Nodup := by decide +kernel) (hlt : ∀ k ∈ ks, k < n := by decide +kernel) : (Zdu (N := N)  h ks n).P Tryz.prog 23 n :=
 match ks, hk, hnd, hlt with
 | [k0], _, hnd, hlt => Za3 (show LSpec Tryz.prog 23 #[vs 0 0 L0.length L0.length, vi a1, Value.agg #[vi a2, vi a3]] (κbh L0) (Value.agg #[vi w1, vi w2]) (κbn L0) from ZmY L0 a1 a2 a3 N _ h) _ n [] hnd hlt

noncomputable def ZiI (a0 a1 a2 : Int) (L3 : List RJ) (L4 : List RH) : Zcm → Value
 | .r0 w2 w3 w4 w5 w6 w7 => Value.tuple #[Value.agg #[vi w2, vi w3, vi w4, vi w5, vi w6], Value.bool w7]
noncomputable abbrev κp (a2 : Int) (L3 : List RJ) (L4 : List RH) := (ZG (vi a2) (vs 1 0 L3.length L3.length) (vs 2 0 L4.length L4.length))
noncomputable def Zim (a0 a1 a2 : Int) (L3 : List RJ) (L4 : List RH) : Zcm → List (Option AObj)
 | .r0 w2 w3 w4 w5 w6 w7 => [some (.cells (κp a2 L3 L4) 154), some (.cells (Zb RC L3) 57), some (.cells (Zb RB L4) 42)]

theorem Zmq (a0 a1 a2 : Int) (L3 : List RJ) (L4 : List RH) (N : Nat) : Fx Tryz.prog Zu Tryz.f21 [.cells (κp a2 L3 L4) 154, .cells (Zb RC L3) 57, .cells (Zb RB L4) 42] #[vp 0 0, Value.agg #[vi a0, vi a1]] (ZiI a0 a1 a2 L3 L4) (Zim a0 a1 a2 L3 L4) (ZZ a0 a1 a2 L3 L4 N) := by
 unfold ZZ
 refine Zg (fun g0 => ?_) (fun _ => Zo)
 refine Zg (fun g1 => ?_) (fun g1 => ?_)
 ·
  exact fxC (Zj (oq [3, 7]) [] [] [] []) [0, 1, 2] (Value.tuple #[Value.agg #[vq, vq, vq, vq, vq], vf]) (hD g1 <| kY (a2 > 0) Zk) (bS (κp a2 L3 L4) <| bR <| bR <| bE)
 ·
  refine Zg (fun g2 => ?_) (fun g2 => ?_)
  ·
   refine Zg (fun g3 => ?_) (fun _ => Zo)
   refine Zg (fun g4 => ?_) (fun _ => Zo)
   refine Zg (fun g5 => ?_) (fun _ => Zo)
   refine Zg (fun g6 => ?_) (fun _ => Zo)
   refine Zg (fun g7 => ?_) (fun _ => Zo)
   refine Zg (fun _ => Zo) (fun g8 => ?_)
   refine Zg (fun _ => Zo) (fun g9 => ?_)
   refine Zg (fun _ => Zo) (fun g10 => ?_)
   exact fxC (Zj (oq [3, 6, 9, 11, 13, 15, 17, 19, 21, 26, 28, 31, 33, 35, 37, 39, 42, 44, 47, 49, 51, 53, 55, 58, 60]) [(0, (a1 / 1048576)), (1, (a1 % 1048576)), (2, (a1 / 1048576)), (3, (a1 % 1048576)), (4, (a1 % 1048576)), (5, ((a1 % 1048576) - 1)), (6, (a1 / 1048576)), (7, (a1 % 1048576)), (8, (a1 / 1048576)), (9, ((a1 % 1048576) - 1))] [(0, (((a1 % 1048576) - 1)).toNat), (1, (((a1 % 1048576) - 1)).toNat)] [(15, [.i (L3.getD (((a1 % 1048576) - 1)).toNat RJ.z).a0]), (20, [.i (L3.getD (((a1 % 1048576) - 1)).toNat RJ.z).a3]), (22, (RC.cel (L3.getD (((a1 % 1048576) - 1)).toNat RJ.z)))] []) [0, 1, 2] (Value.tuple #[Value.agg #[vi (L3.getD (((a1 % 1048576) - 1)).toNat RJ.z).a0, vi (L3.getD (((a1 % 1048576) - 1)).toNat RJ.z).a1, vi (L3.getD (((a1 % 1048576) - 1)).toNat RJ.z).a2, vi (L3.getD (((a1 % 1048576) - 1)).toNat RJ.z).a3, vi (L3.getD (((a1 % 1048576) - 1)).toNat RJ.z).a4], vT]) (kLn RC L3 ((((a1 % 1048576) - 1)).toNat) 0 5 <| kB (((a1 % 1048576) - 1)).toNat L3.length <| kI ((a1 % 1048576) - 1) (Int.ofNat (((a1 % 1048576) - 1)).toNat) <| kW ((a1 % 1048576) - 1) ((a1 % 1048576) - 1) <| hF g10 <| kL RC L3 ((((a1 % 1048576) - 1)).toNat) 3 1 <| kE ((L3.getD (((a1 % 1048576) - 1)).toNat RJ.z).a0) (a1 / 1048576) <| kV a1 1048576 <| kY ((a1 % 1048576) ≤ 1048575) <| kY ((a1 % 1048576) ≥ 1) <| hY g6 <| kY ((a1 / 1048576) ≥ 1) <| kM a1 1048576 <| kV a1 1048576 <| kY (a1 > 0) <| kE a0 2 <| kL RC L3 ((((a1 % 1048576) - 1)).toNat) 0 1 <| kB (((a1 % 1048576) - 1)).toNat L3.length <| kI ((a1 % 1048576) - 1) (Int.ofNat (((a1 % 1048576) - 1)).toNat) <| kW ((a1 % 1048576) - 1) ((a1 % 1048576) - 1) <| kN ((a1 % 1048576) > (L3.length : Int)) <| kM a1 1048576 <| kY ((a1 % 1048576) ≤ 1048575) <| kY ((a1 % 1048576) ≥ 1) <| hY g6 <| kY ((a1 / 1048576) ≥ 1) <| kM a1 1048576 <| kV a1 1048576 <| kY (a1 > 0) <| kE a0 2 <| kO ((a0 == 2) && ((a1 == 0) && true)) <| kY ((a1 % 1048576) ≤ 1048575) <| kY ((a1 % 1048576) ≥ 1) <| hY g6 <| kY ((a1 / 1048576) ≥ 1) <| kM a1 1048576 <| kV a1 1048576 <| kY (a1 > 0) <| hD g2 <| kT a0 2 <| kE a0 2 <| kY (a2 > 0) Zk) (bS (κp a2 L3 L4) <| bR <| bR <| bE)
  ·
   exact fxC (Zj (oq [3, 6, 9, 10, 15]) [] [] [] []) [0, 1, 2] (Value.tuple #[Value.agg #[vq, vq, vq, vq, vq], vf]) (kZ ((a0 == 2) && ((a1 == 0) && true)) <| kE a1 0 <| kT a0 2 <| kE a0 2 <| kY (a2 > 0) Zk) (bS (κp a2 L3 L4) <| bR <| bR <| bE)

theorem ZkQ (a0 a1 a2 : Int) (L3 : List RJ) (L4 : List RH) (N : Nat) (r : Zcm) (h : ZZ a0 a1 a2 L3 L4 N = some r) : LSpec Tryz.prog 21 #[vp 0 0, Value.agg #[vi a0, vi a1]] [.cells (κp a2 L3 L4) 154, .cells (Zb RC L3) 57, .cells (Zb RB L4) 42] (ZiI a0 a1 a2 L3 L4 r) (Zim a0 a1 a2 L3 L4 r) :=
 Zbc Zz Tryz.func21 (by kernel_rfl) (by kernel_rfl) (fun r => by cases r <;> exact ZB _ rfl) (Zmq a0 a1 a2 L3 L4 N) h

noncomputable abbrev κbv (ks : List Nat) (a2 : Int) (L3 : List RJ) (L4 : List RH) := [((nth ks 0), AObj.cells (ZG (vi a2) (vs (nth ks 1) 0 L3.length L3.length) (vs (nth ks 2) 0 L4.length L4.length)) 154), ((nth ks 1), AObj.cells (Zb RC L3) 57), ((nth ks 2), AObj.cells (Zb RB L4) 42)]
noncomputable def Zs {a0 a1 a2 : Int} {L3 : List RJ} {L4 : List RH} {w2 w3 w4 w5 w6 : Int} {w7 : Bool} {N : Nat} (h : ZZ a0 a1 a2 L3 L4 N = some (.r0 w2 w3 w4 w5 w6 w7)) (ks : List Nat) (n : Nat) : ToldS := ⟨#[vp (nth ks 0) 0, Value.agg #[vi a0, vi a1]], (κbv ks a2 L3 L4), Value.tuple #[Value.agg #[vi w2, vi w3, vi w4, vi w5, vi w6], Value.bool w7], [], 0⟩

theorem Zat {a0 a1 a2 : Int} {L3 : List RJ} {L4 : List RH} {w2 w3 w4 w5 w6 : Int} {w7 : Bool} {N : Nat} (h : ZZ a0 a1 a2 L3 L4 N = some (.r0 w2 w3 w4 w5 w6 w7)) (ks : List Nat) (n : Nat) (hk : ks.length = 3 := by rfl) (hnd : ks.Nodup := by decide +kernel) (hlt : ∀ k ∈ ks, k < n := by decide +kernel) : (Zs (N := N)  h ks n).P Tryz.prog 21 n :=
 match ks, hk, hnd, hlt with
 | [k0, k1, k2], _, hnd, hlt => Za3 (show LSpec Tryz.prog 21 #[vp 0 0, Value.agg #[vi a0, vi a1]] [.cells (κp a2 L3 L4) 154, .cells (Zb RC L3) 57, .cells (Zb RB L4) 42] (Value.tuple #[Value.agg #[vi w2, vi w3, vi w4, vi w5, vi w6], Value.bool w7]) [some (.cells (κp a2 L3 L4) 154), some (.cells (Zb RC L3) 57), some (.cells (Zb RB L4) 42)] from ZkQ a0 a1 a2 L3 L4 N _ h) _ n [] hnd hlt

noncomputable def ZlF (L0 : List RH) (a1 a2 a3 a4 a5 a6 a7 a8 : Int) : ZdN → Value
 | .r0 w1 w2 => Value.agg #[vi w1, vi w2]
noncomputable def ZkI (L0 : List RH) (a1 a2 a3 a4 a5 a6 a7 a8 : Int) : ZdN → List (Option AObj)
 | .r0 w1 w2 => (κbn L0)

theorem Zos (L0 : List RH) (a1 a2 a3 a4 a5 a6 a7 a8 : Int) (N : Nat) : Fx Tryz.prog Zu Tryz.f25 (κbh L0) #[vs 0 0 L0.length L0.length, Value.agg #[vi a1, vi a2, vi a3, vi a4, vi a5, vi a6, vi a7, vi a8]] (ZlF L0 a1 a2 a3 a4 a5 a6 a7 a8) (ZkI L0 a1 a2 a3 a4 a5 a6 a7 a8) (Zci L0 a1 a2 a3 a4 a5 a6 a7 a8 N) := by
 unfold Zci
 refine Zg (fun g0 => ?_) (fun g0 => ?_)
 ·
  exact fxC (Zj (oq [1]) [] [] [] []) [0] (Value.agg #[vi 1, vi a4]) (hY g0 Zk) (bR <| bE)
 ·
  refine Zcc (fun z1 c1 => ?_)
  cases z1 with
  | r0 y1_0 y1_1 =>
   exact fxC (Zj (oq [0]) [] [] [] [(0, (Zdu c1 [0] 3).t)]) [0] (Value.agg #[vi y1_0, vi y1_1]) (kK (ZkH c1 [0] 3) <| hN g0 Zk) (bR <| bE)

theorem ZmZ (L0 : List RH) (a1 a2 a3 a4 a5 a6 a7 a8 : Int) (N : Nat) (r : ZdN) (h : Zci L0 a1 a2 a3 a4 a5 a6 a7 a8 N = some r) : LSpec Tryz.prog 25 #[vs 0 0 L0.length L0.length, Value.agg #[vi a1, vi a2, vi a3, vi a4, vi a5, vi a6, vi a7, vi a8]] (κbh L0) (ZlF L0 a1 a2 a3 a4 a5 a6 a7 a8 r) (ZkI L0 a1 a2 a3 a4 a5 a6 a7 a8 r) :=
 Zbc Zz Tryz.func25 (by kernel_rfl) (by kernel_rfl) (fun r => by cases r <;> exact ZB _ rfl) (Zos L0 a1 a2 a3 a4 a5 a6 a7 a8 N) h

noncomputable def Zer {L0 : List RH} {a1 a2 a3 a4 a5 a6 a7 a8 w1 w2 : Int} {N : Nat} (h : Zci L0 a1 a2 a3 a4 a5 a6 a7 a8 N = some (.r0 w1 w2)) (ks : List Nat) (n : Nat) : ToldS := ⟨#[vs (nth ks 0) 0 L0.length L0.length, Value.agg #[vi a1, vi a2, vi a3, vi a4, vi a5, vi a6, vi a7, vi a8]], [((nth ks 0), .cells (Zb RB L0) 42)], Value.agg #[vi w1, vi w2], [], 0⟩

theorem ZkJ {L0 : List RH} {a1 a2 a3 a4 a5 a6 a7 a8 w1 w2 : Int} {N : Nat} (h : Zci L0 a1 a2 a3 a4 a5 a6 a7 a8 N = some (.r0 w1 w2)) (ks : List Nat) (n : Nat) (hk : ks.length = 1 := by rfl) (hnd : ks.Nodup := by decide +kernel) (hlt : ∀ k ∈ ks, k < n := by decide +kernel) : (Zer (N := N)  h ks n).P Tryz.prog 25 n :=
 match ks, hk, hnd, hlt with
 | [k0], _, hnd, hlt => Za3 (show LSpec Tryz.prog 25 #[vs 0 0 L0.length L0.length, Value.agg #[vi a1, vi a2, vi a3, vi a4, vi a5, vi a6, vi a7, vi a8]] (κbh L0) (Value.agg #[vi w1, vi w2]) (κbn L0) from ZmZ L0 a1 a2 a3 a4 a5 a6 a7 a8 N _ h) _ n [] hnd hlt

noncomputable def ZoZ (a0 a1 : Int) : Zha → Value
 | .r0 => Value.tuple #[Value.agg #[vi 2, vi ((a0 * 1048576) + a1)], vq]
noncomputable def ZnM (a0 a1 : Int) : Zha → List (Option AObj)
 | .r0 => []

theorem Zrq (a0 a1 : Int) (N : Nat) : Fx Tryz.prog Zu Tryz.f57 [] #[vi a0, vi a1] (ZoZ a0 a1) (ZnM a0 a1) (Zcn a0 a1 N) := by
 unfold Zcn
 refine Zg (fun g0 => ?_) (fun _ => Zo)
 refine Zg (fun g1 => ?_) (fun _ => Zo)
 refine Zg (fun g2 => ?_) (fun _ => Zo)
 refine Zg (fun g3 => ?_) (fun _ => Zo)
 exact fxC (Zj (oq [1, 3, 5, 7]) [(0, (a0 * 1048576)), (1, ((a0 * 1048576) + a1))] [] [] []) [] (Value.tuple #[Value.agg #[vi 2, vi ((a0 * 1048576) + a1)], vq]) (kW ((a0 * 1048576) + a1) ((a0 * 1048576) + a1) <| kW (a0 * 1048576) (a0 * 1048576) <| hY g3 <| kY (a1 ≥ 1) <| hY g1 <| kY (a0 ≥ 1) Zk) bE

theorem Zpj (a0 a1 : Int) (N : Nat) (r : Zha) (h : Zcn a0 a1 N = some r) : LSpec Tryz.prog 57 #[vi a0, vi a1] [] (ZoZ a0 a1 r) (ZnM a0 a1 r) :=
 Zbc Zz Tryz.func57 (by kernel_rfl) (by kernel_rfl) (fun r => by cases r <;> exact ZB _ rfl) (Zrq a0 a1 N) h

noncomputable def Zfh {a0 a1 : Int} {N : Nat} (h : Zcn a0 a1 N = some (.r0)) (ks : List Nat) (n : Nat) : ToldS := ⟨#[vi a0, vi a1], [], Value.tuple #[Value.agg #[vi 2, vi ((a0 * 1048576) + a1)], vq], [], 0⟩

theorem Zgl {a0 a1 : Int} {N : Nat} (h : Zcn a0 a1 N = some (.r0)) (ks : List Nat) (n : Nat) (hk : ks.length = 0 := by rfl) (hnd : ks.Nodup := by decide +kernel) (hlt : ∀ k ∈ ks, k < n := by decide +kernel) : (Zfh (N := N)  h ks n).P Tryz.prog 57 n :=
 match ks, hk, hnd, hlt with
 | [], _, hnd, hlt => Za3 (show LSpec Tryz.prog 57 #[vi a0, vi a1] [] (Value.tuple #[Value.agg #[vi 2, vi ((a0 * 1048576) + a1)], vq]) [] from Zpj a0 a1 N _ h) _ n [] hnd hlt

noncomputable def Zgm (L0 : List RH) (n1 n2 n3 : Nat) : ZaJ → Value
 | .r0 => ms RB ((L0.drop n1).take n2)
noncomputable def Zga (L0 : List RH) (n1 n2 n3 : Nat) : ZaJ → List (Option AObj)
 | .r0 => (κbn L0)

theorem Zfr (L0 : List RH) (n1 n2 n3 N : Nat) (r : ZaJ) (h : Zaa L0 n1 n2 n3 N = some r) : LSpec Tryz.prog 58 #[vs 0 (n1 * 2) n2 n3] (κbh L0) (Zgm L0 n1 n2 n3 r) (Zga L0 n1 n2 n3 r) := by
 unfold Zaa at h
 by_cases h0 : n1 + n2 ≤ L0.length
 · rw [if_pos h0] at h
   by_cases h1 : n2 ≤ 100000
   · rw [if_pos h1] at h
     obtain rfl := (Option.some.inj h).symm
     exact ZsH (E := RB) (L := L0) ZuL rfl h0 (show _ = _ * 2 from by omega) (Nat.le_trans h1 (by decide)) (by show n2 * 16 ≤ _; omega)
   · rw [if_neg h1] at h; cases h
 · rw [if_neg h0] at h; cases h

noncomputable def Zcg {L0 : List RH} {n1 n2 n3 N : Nat} (h : Zaa L0 n1 n2 n3 N = some (.r0)) (ks : List Nat) (n : Nat) : ToldS := ⟨#[vs (nth ks 0) (n1 * 2) n2 n3], [((nth ks 0), .cells (Zb RB L0) 42)], ms RB ((L0.drop n1).take n2), [], 0⟩

theorem Zds {L0 : List RH} {n1 n2 n3 N : Nat} (h : Zaa L0 n1 n2 n3 N = some (.r0)) (ks : List Nat) (n : Nat) (hk : ks.length = 1 := by rfl) (hnd : ks.Nodup := by decide +kernel) (hlt : ∀ k ∈ ks, k < n := by decide +kernel) : (Zcg (N := N)  h ks n).P Tryz.prog 58 n :=
 match ks, hk, hnd, hlt with
 | [k0], _, hnd, hlt => Za3 (show LSpec Tryz.prog 58 #[vs 0 (n1 * 2) n2 n3] (κbh L0) (ms RB ((L0.drop n1).take n2)) (κbn L0) from Zfr L0 n1 n2 n3 N _ h) _ n [] hnd hlt

noncomputable def Ze3 (a0 : Int) (L1 : List RJ) (L2 : List RH) : heap_Heap_ObjectsR → Value
 | .r0 => vn
 | .r1 w2 => vs 3 0 w2.length w2.length
noncomputable abbrev κ7 (L1 : List RJ) := (AObj.cells (Zb RC L1) 57)
noncomputable abbrev κI (L2 : List RH) := (AObj.cells (Zb RB L2) 42)
noncomputable abbrev κc (a0 : Int) (L1 : List RJ) (L2 : List RH) := (ZG (vi a0) (vs 1 0 L1.length L1.length) (vs 2 0 L2.length L2.length))
noncomputable def Zel (a0 : Int) (L1 : List RJ) (L2 : List RH) : heap_Heap_ObjectsR → List (Option AObj)
 | .r0 => [some (.cells (κc a0 L1 L2) 154), some (κ7 L1), some (κI L2)]
 | .r1 w2 => [some (.cells (κc a0 L1 L2) 154), some (κ7 L1), some (κI L2), some (.cells (Zb RD w2) 156)]

noncomputable def ZlG (a0 : Int) (L1 : List RJ) (L2 : List RH) : heap_Heap_ObjectsR → Value
 | .r0 => ms RD ([] : List RL)
 | .r1 w2 => ms RD w2
noncomputable def ZkR (a0 : Int) (L1 : List RJ) (L2 : List RH) : heap_Heap_ObjectsR → List (Option AObj)
 | .r0 => [some (.cells (κc a0 L1 L2) 154), some (κ7 L1), some (κI L2)]
 | .r1 w2 => [some (.cells (κc a0 L1 L2) 154), some (κ7 L1), some (κI L2)]

noncomputable def Zkv (live : List Nat) (r : Out) : Option (Value × List (Option AObj) × List (Bool × Bool)) :=
 match r with
 | some (u, s) => bif Nat.ble s.n 1000000000 then some (u, live.map s.h.get, s.ob) else none
 | none => none
theorem Zrr {P : Program} {ext : FuncId → Option Ext} (F : Fit P ext) {f : FuncId} {fn : Func} {c : Code} (hfn : P.funcs[f]? = some fn) (hb : fn.body = some c) {A : Array Value} {pre : List AObj} {v u : Value} {post : List (Option AObj)} {orc : Orc} {live : List Nat} {bl : List (Option AObj)} {ob : List (Bool × Bool)} (ho : ∀ p ∈ ob, p.1 = p.2) (hv : v = ZF (rho live far) 3 u ∧ ZA 3 u = true) (hbl : Zy (rho live far) bl post) (hev : Zkv live (ZjF P ext 4000 f A ⟨ZcO 0 pre, pre.length, [], orc, []⟩) = some (u, bl, ob)) (hle : post.length ≤ far)
  (hl : live.length = post.length) (hn : live.Nodup) (hk : ZaI pre.length live = true) : LSpec P f A pre v post := by
 intro ι w args' hdm ha he
 unfold Zkv at hev
 split at hev
 · rename_i u' s h1
   obtain ⟨hnn, hev⟩ := Zl hev
   injection hev with hev; simp only [Prod.mk.injEq] at hev; obtain ⟨rfl, rfl, rfl⟩ := hev
   have hg := (Zn9 (fu := 4000) F hfn hb).does A _ u' s h1 ho ι w args' ha (by show Emb P ι (ZcO 0 pre).get w; rw [Zd9]; exact he) ⟨Nat.le_of_ble_eq_true hnn, fun k k1 k2 => by
    cases hk2 : ι k with
    | none => rfl
    | some b => exact absurd (hdm k (by rw [hk2]; simp)) (by have h3 : pre.length ≤ k := k1; have h4 : k < s.n := k2; have h5 : s.n ≤ 1000000000 := Nat.le_of_ble_eq_true hnn; unfold ZJ; omega)⟩
   rcases hg with ⟨_, hc⟩ | ⟨v0, w0, hr, _⟩
   · refine hc.mono ?_
     rintro e w' ⟨v', ι', rfl, g1, _, g3⟩
     exact Zl1 hle hdm ⟨hl, hn, hk, hv, Zd2 hbl⟩ (by have := g1; simp only [Zd9] at this; exact this) g3
   · rw [Zcb hfn (F.go f fn hfn) hb] at hr; cases hr
 · cases hev
def RdG {X R : Type} (Q : X ⊕ R → Prop) (o : Option (X ⊕ R)) : Prop := ∀ o', o = some o' → Q o'
section
variable {X R : Type} {Q : X ⊕ R → Prop}
theorem Zez : RdG Q none := fun _ h => by cases h
theorem ZhI {o : X ⊕ R} (h : Q o) : RdG Q (some o) := fun _ e => by cases e; exact h
theorem ZdP {c : Prop} [Decidable c] {B C : Option (X ⊕ R)} (h1 : c → RdG Q B) (h2 : ¬ c → RdG Q C) : RdG Q (if c then B else C) := by
 by_cases h : c
 · rw [if_pos h]; exact h1 h
 · rw [if_neg h]; exact h2 h
theorem Zmn {Z : Type} {f : Option Z} {g : Z → Option (X ⊕ R)} (h : ∀ z, f = some z → RdG Q (g z)) : RdG Q (f.bind g) := by
 cases hf : f with
 | none => exact Zez
 | some z => exact h z hf
end
noncomputable def Zdn : Nat × Code := match (Tryz.f55).body with
 | some (.seq _ (.block id (.loop cB))) => (id, cB)
 | _ => (0, .skip)
noncomputable def Zdo : Code × Code := match (Tryz.f18).body with
 | some (.seq _ (.seq _ (.seq _ (.seq (.seq _ (.block _ (.rangeFunc _ _ asg body))) _)))) => (asg, body)
 | _ => (.skip, .skip)
noncomputable def ZcA (a0 : Int) (L1 : List RJ) (L2 : List RH) : heap_Heap_ObjectsX → List (Option AObj)
 | .h1m0 v3 => [some (.cells (κc a0 L1 L2) 154), some (κ7 L1), some (κI L2), some (.cells [vp 0 0] 47), some (.cells [vn] 46), none]
 | .h1m1 v3 v5 => [some (.cells (κc a0 L1 L2) 154), some (κ7 L1), some (κI L2), some (.cells [vp 0 0] 47), some (.cells [vs 5 0 v5.length v5.length] 46), some (.cells (Zb RD v5) 156)]
noncomputable def Ze4 (a0 : Int) (L1 : List RJ) (L2 : List RH) : heap_Heap_ObjectsR → List (Option AObj)
 | .r0 => [some (.cells (κc a0 L1 L2) 154), some (κ7 L1), some (κI L2), some (.cells [vp 0 0] 47), some (.cells [vn] 46), none]
 | .r1 v5 => [some (.cells (κc a0 L1 L2) 154), some (κ7 L1), some (κI L2), some (.cells [vp 0 0] 47), some (.cells [vs 5 0 v5.length v5.length] 46), some (.cells (Zb RD v5) 156)]
noncomputable def ZbL : heap_Heap_ObjectsX → List (Nat × Value)
 | .h1m0 v3 => [(0, vp 0 0), (4, vi v3)]
 | .h1m1 v3 v5 => [(0, vp 0 0), (4, vi v3)]
noncomputable def ZbM : List (Nat × Value) := [(1, vp 3 0), (3, vp 4 0), (12, .func (.func 55) #[vp 0 0] #[])]
def Zhb (a0 : Int) (L1 : List RJ) (L2 : List RH) (x : heap_Heap_ObjectsX) (gv gvc : Nat → Value) (ps : Array Tmp) (asg body : Code) (id : Nat) (cB : Code) : heap_Heap_ObjectsX ⊕ heap_Heap_ObjectsR → Prop
 | .inl y => ∃ fu orc live tv bl ob, ZmW live ((ZbL y).map (·.1)) [1] (evI Tryz.prog Zu (Tryz.f55).ntmps ⟨(Tryz.f18).ntmps, tmps (Tryz.f18).ntmps (fun t => ZN t ZbM) gvc, ps, asg, body⟩ fu cB (tmps (Tryz.f55).ntmps (fun t => ZN t (ZbL x)) gv) ⟨ZbT 0 (ZcA a0 L1 L2 x), 6, [], orc, []⟩ [1] none) = some (.normal, tv, bl, ob) ∧ (∀ p ∈ ob, p.1 = p.2) ∧ live.length = 6 ∧ live.Nodup ∧ ZaI 5 live = true ∧ Zb1 (rho live far) tv (ZbL y) ∧ Zy (rho live far) bl (ZcA a0 L1 L2 y)
 | .inr r => ∃ fu orc live bl ob, ZmW live [] [1] (evI Tryz.prog Zu (Tryz.f55).ntmps ⟨(Tryz.f18).ntmps, tmps (Tryz.f18).ntmps (fun t => ZN t ZbM) gvc, ps, asg, body⟩ fu cB (tmps (Tryz.f55).ntmps (fun t => ZN t (ZbL x)) gv) ⟨ZbT 0 (ZcA a0 L1 L2 x), 6, [], orc, []⟩ [1] none) = some (.exit id, [], bl, ob) ∧ (∀ p ∈ ob, p.1 = p.2) ∧ live.length = 6 ∧ live.Nodup ∧ ZaI 5 live = true ∧ Zy (rho live far) bl (Ze4 a0 L1 L2 r)

theorem ZfU (a0 : Int) (L1 : List RJ) (L2 : List RH) (N : Nat) (v3 : Int) (gv gvc : Nat → Value) (ps : Array Tmp) (asg body : Code) (id : Nat) (cB : Code) (hps : ps = #[13]) (hcode : (id, cB) = Zdn) (hab : (asg, body) = Zdo) : RdG (Zhb a0 L1 L2 (.h1m0 v3) gv gvc ps asg body id cB) (ZbO a0 L1 L2 N v3) := by
 subst hps
 simp only [Zdn, Zdo, Prod.mk.injEq] at hcode hab
 obtain ⟨rfl, rfl⟩ := hcode
 obtain ⟨rfl, rfl⟩ := hab
 unfold ZbO
 refine ZdP (fun g0 => ?_) (fun _ => Zez)
 refine ZdP (fun g1 => ?_) (fun _ => Zez)
 refine ZdP (fun g2 => ?_) (fun g2 => ?_)
 ·
  have w3 := kLn RC L1 (((v3 - 1)).toNat) 0 5 <| kB ((v3 - 1)).toNat L1.length <| kI (v3 - 1) (Int.ofNat ((v3 - 1)).toNat) <| kW (v3 - 1) (v3 - 1) <| hY g2 Zk
  refine ZdP (fun g3 => ?_) (fun g3 => ?_)
  ·
   exact ZhI (⟨4000, (Zj (oq [1, 3]) [(0, (v3 - 1)), (1, (v3 - 1))] [(0, ((v3 - 1)).toNat), (1, ((v3 - 1)).toNat)] [(3, (RC.cel (L1.getD ((v3 - 1)).toNat RJ.z))), (6, [.i (L1.getD ((v3 - 1)).toNat RJ.z).a1])] []), (rg 0 5 [900000000]), [some (vp 0 0), some (vi (i64.wrap (v3 + (i64.wrap ((L1.getD ((v3 - 1)).toNat RJ.z).a1 + 1)))))], _, _, by kernel_rfl, (kL RC L1 (((v3 - 1)).toNat) 1 1 <| kB ((v3 - 1)).toNat L1.length <| kI (v3 - 1) (Int.ofNat ((v3 - 1)).toNat) <| kW (v3 - 1) (v3 - 1) <| hT g3 w3), rfl, by decide +kernel, by rfl, (tC (tC (tE))), (bS (κc a0 L1 L2) <| bR <| bR <| bS [vp 0 0] <| bS [vn] <| bN <| bE)⟩)
  ·
   refine Zmn (fun z4 c4 => ?_)
   cases z4 with
   | r0 =>
    refine ZdP (fun g5 => ?_) (fun _ => Zez)
    refine ZdP (fun g6 => ?_) (fun _ => Zez)
    refine Zmn (fun z7 c7 => ?_)
    cases z7 with
    | r0 =>
     exact ZhI (⟨4000, (Zj (oq [1, 2]) [(0, (v3 - 1)), (2, (v3 - 1))] [(0, ((v3 - 1)).toNat), (1, ((v3 - 1)).toNat)] [(3, (RC.cel (L1.getD ((v3 - 1)).toNat RJ.z))), (13, [.i (L1.getD ((v3 - 1)).toNat RJ.z).a1])] [(1, (Zfh c4 [] 7).t), (3, .sl (v3).toNat ((i64.wrap (v3 + (L1.getD ((v3 - 1)).toNat RJ.z).a1))).toNat), (4, (Zcg c7 [2] 8).t)]), (rg 0 5 [9]), [some (vp 0 0), some (vi (i64.wrap (v3 + (i64.wrap ((L1.getD ((v3 - 1)).toNat RJ.z).a1 + 1)))))], _, _, by kernel_rfl, (kL RC L1 (((v3 - 1)).toNat) 1 1 <| kB ((v3 - 1)).toNat L1.length <| kI (v3 - 1) (Int.ofNat ((v3 - 1)).toNat) <| kW (v3 - 1) (v3 - 1) <| kKb (A := #[Value.slice (some ⟨2, (0 + ((v3).toNat * 2)), none⟩) (((i64.wrap (v3 + (L1.getD ((v3 - 1)).toNat RJ.z).a1))).toNat - (v3).toNat) (L2.length - (v3).toNat)]) (Zig (Zh (Z5 eqA rfl rfl) rfl)) (Zds c7 [2] 8) <| kR (Zb RB L2) <| kX (dP ((v3).toNat ≤ ((i64.wrap (v3 + (L1.getD ((v3 - 1)).toNat RJ.z).a1))).toNat ∧ ((i64.wrap (v3 + (L1.getD ((v3 - 1)).toNat RJ.z).a1))).toNat ≤ L2.length)) true (Z2 ⟨ltA, ltA⟩) <| kI (i64.wrap (v3 + (L1.getD ((v3 - 1)).toNat RJ.z).a1)) (Int.ofNat ((i64.wrap (v3 + (L1.getD ((v3 - 1)).toNat RJ.z).a1))).toNat) <| kI v3 (Int.ofNat (v3).toNat) <| kK (Zgl c4 [] 7) <| hF g3 w3), rfl, by decide +kernel, by rfl, (tC (tC (tE))), (bS (κc a0 L1 L2) <| bR <| bR <| bS [vp 0 0] <| bU [vs 9 0 1 1] 0 (show (vs 5 0 1 1 : Value) = vs 5 0 ([(⟨2, (((L1.getD ((v3 - 1)).toNat RJ.z).a0 * 1048576) + v3), (L1.getD ((v3 - 1)).toNat RJ.z).a0, (L1.getD ((v3 - 1)).toNat RJ.z).a1, (L1.getD ((v3 - 1)).toNat RJ.z).a2, (L1.getD ((v3 - 1)).toNat RJ.z).a3, (L1.getD ((v3 - 1)).toNat RJ.z).a4, ((L2.drop (v3).toNat).take (((i64.wrap (v3 + (L1.getD ((v3 - 1)).toNat RJ.z).a1))).toNat - (v3).toNat))⟩ : RL)] : List RL).length ([(⟨2, (((L1.getD ((v3 - 1)).toNat RJ.z).a0 * 1048576) + v3), (L1.getD ((v3 - 1)).toNat RJ.z).a0, (L1.getD ((v3 - 1)).toNat RJ.z).a1, (L1.getD ((v3 - 1)).toNat RJ.z).a2, (L1.getD ((v3 - 1)).toNat RJ.z).a3, (L1.getD ((v3 - 1)).toNat RJ.z).a4, ((L2.drop (v3).toNat).take (((i64.wrap (v3 + (L1.getD ((v3 - 1)).toNat RJ.z).a1))).toNat - (v3).toNat))⟩ : RL)] : List RL).length from Z5 rfl eqA eqA) <| bC (o := .cells [vi 2, vi (((L1.getD ((v3 - 1)).toNat RJ.z).a0 * 1048576) + v3), vi (L1.getD ((v3 - 1)).toNat RJ.z).a0, vi (L1.getD ((v3 - 1)).toNat RJ.z).a1, vi (L1.getD ((v3 - 1)).toNat RJ.z).a2, vi (L1.getD ((v3 - 1)).toNat RJ.z).a3, vi (L1.getD ((v3 - 1)).toNat RJ.z).a4, ms RB ((L2.drop (v3).toNat).take (((i64.wrap (v3 + (L1.getD ((v3 - 1)).toNat RJ.z).a1))).toNat - (v3).toNat))] 156) (Zc5 (E := RD) _ (L := ([(⟨2, (((L1.getD ((v3 - 1)).toNat RJ.z).a0 * 1048576) + v3), (L1.getD ((v3 - 1)).toNat RJ.z).a0, (L1.getD ((v3 - 1)).toNat RJ.z).a1, (L1.getD ((v3 - 1)).toNat RJ.z).a2, (L1.getD ((v3 - 1)).toNat RJ.z).a3, (L1.getD ((v3 - 1)).toNat RJ.z).a4, ((L2.drop (v3).toNat).take (((i64.wrap (v3 + (L1.getD ((v3 - 1)).toNat RJ.z).a1))).toNat - (v3).toNat))⟩ : RL)] : List RL)) _ (show ([vi 2, vi (((L1.getD ((v3 - 1)).toNat RJ.z).a0 * 1048576) + v3), vi (L1.getD ((v3 - 1)).toNat RJ.z).a0, vi (L1.getD ((v3 - 1)).toNat RJ.z).a1, vi (L1.getD ((v3 - 1)).toNat RJ.z).a2, vi (L1.getD ((v3 - 1)).toNat RJ.z).a3, vi (L1.getD ((v3 - 1)).toNat RJ.z).a4, ms RB ((L2.drop (v3).toNat).take (((i64.wrap (v3 + (L1.getD ((v3 - 1)).toNat RJ.z).a1))).toNat - (v3).toNat))] : List Value) = Zb RD ([(⟨2, (((L1.getD ((v3 - 1)).toNat RJ.z).a0 * 1048576) + v3), (L1.getD ((v3 - 1)).toNat RJ.z).a0, (L1.getD ((v3 - 1)).toNat RJ.z).a1, (L1.getD ((v3 - 1)).toNat RJ.z).a2, (L1.getD ((v3 - 1)).toNat RJ.z).a3, (L1.getD ((v3 - 1)).toNat RJ.z).a4, ((L2.drop (v3).toNat).take (((i64.wrap (v3 + (L1.getD ((v3 - 1)).toNat RJ.z).a1))).toNat - (v3).toNat))⟩ : RL)] : List RL) from rfl)) <| bE)⟩)
 ·
  exact ZhI (⟨4000, (Zj (oq [0]) [] [] [] []), (rg 0 5 [900000000]), _, _, by kernel_rfl, (hN g2 Zk), rfl, by decide +kernel, by rfl, (bS (κc a0 L1 L2) <| bR <| bR <| bS [vp 0 0] <| bS [vn] <| bN <| bE)⟩)

theorem ZfV (a0 : Int) (L1 : List RJ) (L2 : List RH) (N : Nat) (v3 : Int) (v5 : List RL) (gv gvc : Nat → Value) (ps : Array Tmp) (asg body : Code) (id : Nat) (cB : Code) (hps : ps = #[13]) (hcode : (id, cB) = Zdn) (hab : (asg, body) = Zdo) : RdG (Zhb a0 L1 L2 (.h1m1 v3 v5) gv gvc ps asg body id cB) (ZaP a0 L1 L2 N v3 v5) := by
 subst hps
 simp only [Zdn, Zdo, Prod.mk.injEq] at hcode hab
 obtain ⟨rfl, rfl⟩ := hcode
 obtain ⟨rfl, rfl⟩ := hab
 unfold ZaP
 refine ZdP (fun g0 => ?_) (fun _ => Zez)
 refine ZdP (fun g1 => ?_) (fun _ => Zez)
 refine ZdP (fun g2 => ?_) (fun g2 => ?_)
 ·
  have w3 := kLn RC L1 (((v3 - 1)).toNat) 0 5 <| kB ((v3 - 1)).toNat L1.length <| kI (v3 - 1) (Int.ofNat ((v3 - 1)).toNat) <| kW (v3 - 1) (v3 - 1) <| hY g2 Zk
  refine ZdP (fun g3 => ?_) (fun g3 => ?_)
  ·
   exact ZhI (⟨4000, (Zj (oq [1, 3]) [(0, (v3 - 1)), (1, (v3 - 1))] [(0, ((v3 - 1)).toNat), (1, ((v3 - 1)).toNat)] [(3, (RC.cel (L1.getD ((v3 - 1)).toNat RJ.z))), (6, [.i (L1.getD ((v3 - 1)).toNat RJ.z).a1])] []), (rg 0 6 []), [some (vp 0 0), some (vi (i64.wrap (v3 + (i64.wrap ((L1.getD ((v3 - 1)).toNat RJ.z).a1 + 1)))))], _, _, by kernel_rfl, (kL RC L1 (((v3 - 1)).toNat) 1 1 <| kB ((v3 - 1)).toNat L1.length <| kI (v3 - 1) (Int.ofNat ((v3 - 1)).toNat) <| kW (v3 - 1) (v3 - 1) <| hT g3 w3), rfl, by decide +kernel, by rfl, (tC (tC (tE))), (bS (κc a0 L1 L2) <| bR <| bR <| bS [vp 0 0] <| bS [vs 5 0 v5.length v5.length] <| bR <| bE)⟩)
  ·
   refine Zmn (fun z4 c4 => ?_)
   cases z4 with
   | r0 =>
    refine ZdP (fun g5 => ?_) (fun _ => Zez)
    refine ZdP (fun g6 => ?_) (fun _ => Zez)
    refine Zmn (fun z7 c7 => ?_)
    cases z7 with
    | r0 =>
     refine ZdP (fun g8 => ?_) (fun _ => Zez)
     exact ZhI (⟨4000, (Zj (oq [1, 2]) [(0, (v3 - 1)), (2, (v3 - 1))] [(0, ((v3 - 1)).toNat), (1, ((v3 - 1)).toNat)] [(3, (RC.cel (L1.getD ((v3 - 1)).toNat RJ.z))), (13, [.i (L1.getD ((v3 - 1)).toNat RJ.z).a1])] [(1, (Zfh c4 [] 7).t), (3, .sl (v3).toNat ((i64.wrap (v3 + (L1.getD ((v3 - 1)).toNat RJ.z).a1))).toNat), (4, (Zcg c7 [2] 8).t), (5, .ap 1 [vi 2, vi (((L1.getD ((v3 - 1)).toNat RJ.z).a0 * 1048576) + v3), vi (L1.getD ((v3 - 1)).toNat RJ.z).a0, vi (L1.getD ((v3 - 1)).toNat RJ.z).a1, vi (L1.getD ((v3 - 1)).toNat RJ.z).a2, vi (L1.getD ((v3 - 1)).toNat RJ.z).a3, vi (L1.getD ((v3 - 1)).toNat RJ.z).a4, ms RB ((L2.drop (v3).toNat).take (((i64.wrap (v3 + (L1.getD ((v3 - 1)).toNat RJ.z).a1))).toNat - (v3).toNat))] (Zb RD (v5 ++ ([(⟨2, (((L1.getD ((v3 - 1)).toNat RJ.z).a0 * 1048576) + v3), (L1.getD ((v3 - 1)).toNat RJ.z).a0, (L1.getD ((v3 - 1)).toNat RJ.z).a1, (L1.getD ((v3 - 1)).toNat RJ.z).a2, (L1.getD ((v3 - 1)).toNat RJ.z).a3, (L1.getD ((v3 - 1)).toNat RJ.z).a4, ((L2.drop (v3).toNat).take (((i64.wrap (v3 + (L1.getD ((v3 - 1)).toNat RJ.z).a1))).toNat - (v3).toNat))⟩ : RL)] : List RL))))]), (rg 0 5 [9]), [some (vp 0 0), some (vi (i64.wrap (v3 + (i64.wrap ((L1.getD ((v3 - 1)).toNat RJ.z).a1 + 1)))))], _, _, by kernel_rfl, (kL RC L1 (((v3 - 1)).toNat) 1 1 <| kB ((v3 - 1)).toNat L1.length <| kI (v3 - 1) (Int.ofNat ((v3 - 1)).toNat) <| kW (v3 - 1) (v3 - 1) <| kA RD v5 (⟨2, (((L1.getD ((v3 - 1)).toNat RJ.z).a0 * 1048576) + v3), (L1.getD ((v3 - 1)).toNat RJ.z).a0, (L1.getD ((v3 - 1)).toNat RJ.z).a1, (L1.getD ((v3 - 1)).toNat RJ.z).a2, (L1.getD ((v3 - 1)).toNat RJ.z).a3, (L1.getD ((v3 - 1)).toNat RJ.z).a4, ((L2.drop (v3).toNat).take (((i64.wrap (v3 + (L1.getD ((v3 - 1)).toNat RJ.z).a1))).toNat - (v3).toNat))⟩ : RL) <| kKb (A := #[Value.slice (some ⟨2, (0 + ((v3).toNat * 2)), none⟩) (((i64.wrap (v3 + (L1.getD ((v3 - 1)).toNat RJ.z).a1))).toNat - (v3).toNat) (L2.length - (v3).toNat)]) (Zig (Zh (Z5 eqA rfl rfl) rfl)) (Zds c7 [2] 8) <| kR (Zb RB L2) <| kX (dP ((v3).toNat ≤ ((i64.wrap (v3 + (L1.getD ((v3 - 1)).toNat RJ.z).a1))).toNat ∧ ((i64.wrap (v3 + (L1.getD ((v3 - 1)).toNat RJ.z).a1))).toNat ≤ L2.length)) true (Z2 ⟨ltA, ltA⟩) <| kI (i64.wrap (v3 + (L1.getD ((v3 - 1)).toNat RJ.z).a1)) (Int.ofNat ((i64.wrap (v3 + (L1.getD ((v3 - 1)).toNat RJ.z).a1))).toNat) <| kI v3 (Int.ofNat (v3).toNat) <| kK (Zgl c4 [] 7) <| hF g3 w3), rfl, by decide +kernel, by rfl, (tC (tC (tE))), (bS (κc a0 L1 L2) <| bR <| bR <| bS [vp 0 0] <| bU [vs 9 0 (v5.length + 1) (v5.length + 1)] 0 (show (vs 5 0 (v5.length + 1) (v5.length + 1) : Value) = vs 5 0 (v5 ++ ([(⟨2, (((L1.getD ((v3 - 1)).toNat RJ.z).a0 * 1048576) + v3), (L1.getD ((v3 - 1)).toNat RJ.z).a0, (L1.getD ((v3 - 1)).toNat RJ.z).a1, (L1.getD ((v3 - 1)).toNat RJ.z).a2, (L1.getD ((v3 - 1)).toNat RJ.z).a3, (L1.getD ((v3 - 1)).toNat RJ.z).a4, ((L2.drop (v3).toNat).take (((i64.wrap (v3 + (L1.getD ((v3 - 1)).toNat RJ.z).a1))).toNat - (v3).toNat))⟩ : RL)] : List RL)).length (v5 ++ ([(⟨2, (((L1.getD ((v3 - 1)).toNat RJ.z).a0 * 1048576) + v3), (L1.getD ((v3 - 1)).toNat RJ.z).a0, (L1.getD ((v3 - 1)).toNat RJ.z).a1, (L1.getD ((v3 - 1)).toNat RJ.z).a2, (L1.getD ((v3 - 1)).toNat RJ.z).a3, (L1.getD ((v3 - 1)).toNat RJ.z).a4, ((L2.drop (v3).toNat).take (((i64.wrap (v3 + (L1.getD ((v3 - 1)).toNat RJ.z).a1))).toNat - (v3).toNat))⟩ : RL)] : List RL)).length from Z5 rfl eqA eqA) <| bR <| bE)⟩)
 ·
  exact ZhI (⟨4000, (Zj (oq [0]) [] [] [] []), (rg 0 6 []), _, _, by kernel_rfl, (hN g2 Zk), rfl, by decide +kernel, by rfl, (bS (κc a0 L1 L2) <| bR <| bR <| bS [vp 0 0] <| bS [vs 5 0 v5.length v5.length] <| bR <| bE)⟩)

theorem Zjh (a0 : Int) (L1 : List RJ) (L2 : List RH) (N : Nat) (g0 : (0 : Int) < a0) (h : Zaw (ZaV a0 L1 L2 N) N (.h1m0 1) = some (.r0)) : LSpec Tryz.prog 18 #[vp 0 0] [.cells (κc a0 L1 L2) 154, .cells (Zb RC L1) 57, .cells (Zb RB L2) 42] (Ze3 a0 L1 L2 (.r0)) (Zel a0 L1 L2 (.r0)) := by
 refine ZnH (cs := [_, _, _]) Zz Tryz.func18 rfl (by kernel_rfl) (ZB _ rfl)
  ZbM [some (.cells (κc a0 L1 L2) 154), some (κ7 L1), some (κI L2), some (.cells [vp 0 0] 47), some (.cells [vn] 46)] (fu1 := 4000) (orc1 := (Zj (oq [3]) [] [] [] [])) (live1 := rg 0 5 []) (tv1 := [some (vp 3 0), some (vp 4 0), some (.func (.func 55) #[vp 0 0] #[])])
  (by kernel_rfl) (kY (a0 > 0) Zk) rfl (by decide +kernel) (by rfl) (tC (tC (tC (tE)))) (bS (κc a0 L1 L2) <| bR <| bR <| bS [vp 0 0] <| bS [vn] <| bE)
  (ZB _ rfl) (show 3 ≤ 5 from by decide) (fun x hx => ZE (p := fun x : Nat × Value => Zd6 5 3 x.2) (l := ZbM) (by kernel_rfl) x hx) (by repeat' (first | exact trivial | apply And.intro | exact ZbD _ _ _ | rfl))
  (gf := 55) (av := #[vp 0 0]) (bv := #[]) (fun gv => by kernel_rfl) rfl Tryz.func55 rfl (by kernel_rfl) rfl
  (ZaV a0 L1 L2 N) ZbL (ZcA a0 L1 L2) (m := 6) (fun x => by cases x <;> rfl) (ZB _ rfl) [1] (Ze4 a0 L1 L2 (.r0)) (ZB _ rfl) (.r0) _ N h
  (fun gv => ⟨4000, Zj [] [] [] [] [], rg 0 5 [900000000], [some (vp 0 0), some (vi 1)], _, _, by kernel_rfl, Zk, rfl, by decide +kernel, by rfl, (tC (tC (tE))), (bS (κc a0 L1 L2) <| bR <| bR <| bS [vp 0 0] <| bS [vn] <| bN <| bE)⟩)
  (fun x o hs gv gvc => by
   cases x with
   | h1m0 v3 =>
    have hq := ZfU a0 L1 L2 N v3 gv gvc _ _ _ _ _ rfl rfl rfl o hs
    cases o with
    | inl y => exact hq
    | inr r' => intro e; subst e; exact hq
   | h1m1 v3 v5 =>
    have hq := ZfV a0 L1 L2 N v3 v5 gv gvc _ _ _ _ _ rfl rfl rfl o hs
    cases o with
    | inl y => exact hq
    | inr r' => intro e; subst e; exact hq) ?_
 intro gv
 exact ⟨4000, Zj [] [] [] [] [], rg 0 3 [], vn, _, _, by kernel_rfl, Zk, rfl, by decide +kernel, by rfl, ⟨by rfl, by rfl⟩, (bS (κc a0 L1 L2) <| bR <| bR <| bE)⟩

theorem Zji (a0 : Int) (L1 : List RJ) (L2 : List RH) (N : Nat) (w19 : List RL) (g0 : (0 : Int) < a0) (h : Zaw (ZaV a0 L1 L2 N) N (.h1m0 1) = some (.r1 w19)) : LSpec Tryz.prog 18 #[vp 0 0] [.cells (κc a0 L1 L2) 154, .cells (Zb RC L1) 57, .cells (Zb RB L2) 42] (Ze3 a0 L1 L2 (.r1 w19)) (Zel a0 L1 L2 (.r1 w19)) := by
 refine ZnH (cs := [_, _, _]) Zz Tryz.func18 rfl (by kernel_rfl) (ZB _ rfl)
  ZbM [some (.cells (κc a0 L1 L2) 154), some (κ7 L1), some (κI L2), some (.cells [vp 0 0] 47), some (.cells [vn] 46)] (fu1 := 4000) (orc1 := (Zj (oq [3]) [] [] [] [])) (live1 := rg 0 5 []) (tv1 := [some (vp 3 0), some (vp 4 0), some (.func (.func 55) #[vp 0 0] #[])])
  (by kernel_rfl) (kY (a0 > 0) Zk) rfl (by decide +kernel) (by rfl) (tC (tC (tC (tE)))) (bS (κc a0 L1 L2) <| bR <| bR <| bS [vp 0 0] <| bS [vn] <| bE)
  (ZB _ rfl) (show 3 ≤ 5 from by decide) (fun x hx => ZE (p := fun x : Nat × Value => Zd6 5 3 x.2) (l := ZbM) (by kernel_rfl) x hx) (by repeat' (first | exact trivial | apply And.intro | exact ZbD _ _ _ | rfl))
  (gf := 55) (av := #[vp 0 0]) (bv := #[]) (fun gv => by kernel_rfl) rfl Tryz.func55 rfl (by kernel_rfl) rfl
  (ZaV a0 L1 L2 N) ZbL (ZcA a0 L1 L2) (m := 6) (fun x => by cases x <;> rfl) (ZB _ rfl) [1] (Ze4 a0 L1 L2 (.r1 w19)) (ZB _ rfl) (.r1 w19) _ N h
  (fun gv => ⟨4000, Zj [] [] [] [] [], rg 0 5 [900000000], [some (vp 0 0), some (vi 1)], _, _, by kernel_rfl, Zk, rfl, by decide +kernel, by rfl, (tC (tC (tE))), (bS (κc a0 L1 L2) <| bR <| bR <| bS [vp 0 0] <| bS [vn] <| bN <| bE)⟩)
  (fun x o hs gv gvc => by
   cases x with
   | h1m0 v3 =>
    have hq := ZfU a0 L1 L2 N v3 gv gvc _ _ _ _ _ rfl rfl rfl o hs
    cases o with
    | inl y => exact hq
    | inr r' => intro e; subst e; exact hq
   | h1m1 v3 v5 =>
    have hq := ZfV a0 L1 L2 N v3 v5 gv gvc _ _ _ _ _ rfl rfl rfl o hs
    cases o with
    | inl y => exact hq
    | inr r' => intro e; subst e; exact hq) ?_
 intro gv
 exact ⟨4000, Zj [] [] [] [] [], rg 0 3 [5], vs 5 0 w19.length w19.length, _, _, by kernel_rfl, Zk, rfl, by decide +kernel, by rfl, ⟨by rfl, by rfl⟩, (bS (κc a0 L1 L2) <| bR <| bR <| bR <| bE)⟩

theorem Zi3 (a0 : Int) (L1 : List RJ) (L2 : List RH) (N : Nat) (r : heap_Heap_ObjectsR) (h : ZaE a0 L1 L2 N = some r) : LSpec Tryz.prog 18 #[vp 0 0] [.cells (κc a0 L1 L2) 154, .cells (Zb RC L1) 57, .cells (Zb RB L2) 42] (Ze3 a0 L1 L2 r) (Zel a0 L1 L2 r) := by
 unfold ZaE Ze2 at h
 by_cases g0 : (0 : Int) < a0
 · rw [if_pos g0] at h
   have h : Zaw (ZaV a0 L1 L2 N) N (.h1m0 1) = some r := h
   cases r with
   | r0 => exact Zjh a0 L1 L2 N g0 h
   | r1 w19 => exact Zji a0 L1 L2 N w19 g0 h
 · rw [if_neg g0] at h
   obtain rfl : heap_Heap_ObjectsR.r0 = r := Option.some.inj h
   exact Zrr Zz Tryz.func18 rfl (orc := (Zj (oq [2]) [] [] [] [])) (live := [0, 1, 2]) (u := (vn)) (kN (a0 > 0) Zk) ⟨by rfl, by rfl⟩ (bS (κc a0 L1 L2) <| bR <| bR <| bE) (by kernel_rfl) (ZB _ rfl) rfl (by decide +kernel) (by rfl)

theorem Zjj (a0 : Int) (L1 : List RJ) (L2 : List RH) (N : Nat) (r : heap_Heap_ObjectsR) (h : ZaE a0 L1 L2 N = some r) : LSpec Tryz.prog 18 #[vp 0 0] [.cells (κc a0 L1 L2) 154, .cells (Zb RC L1) 57, .cells (Zb RB L2) 42] (ZlG a0 L1 L2 r) (ZkR a0 L1 L2 r) := by
 have h0 := Zi3 a0 L1 L2 N r h
 cases r with
 | r0 => exact (LSpec.nlv (v2 := ms RD ([] : List RL)) h0 rfl rfl)
 | r1 w2 => exact (LSpec.frzv (E := RD) (L := w2) (post := [some (.cells (κc a0 L1 L2) 154), some (κ7 L1), some (κI L2)]) (v2 := ms RD w2) h0 (show 3 ≤ 3 from by decide) (show 3 < 1000000000 from by decide) ⟨rfl, ⟨(ZbD _ _ _), ⟨(ZbD _ _ _), trivial⟩⟩⟩ rfl rfl rfl)

noncomputable abbrev κbw (ks : List Nat) (a0 : Int) (L1 : List RJ) (L2 : List RH) := [((nth ks 0), AObj.cells (ZG (vi a0) (vs (nth ks 1) 0 L1.length L1.length) (vs (nth ks 2) 0 L2.length L2.length)) 154), ((nth ks 1), AObj.cells (Zb RC L1) 57), ((nth ks 2), AObj.cells (Zb RB L2) 42)]
noncomputable def Zbo {a0 : Int} {L1 : List RJ} {L2 : List RH} {w2 : List RL} {N : Nat} (h : ZaE a0 L1 L2 N = some (.r1 w2)) (ks : List Nat) (n : Nat) : ToldS := ⟨#[vp (nth ks 0) 0], (κbw ks a0 L1 L2), ms RD w2, [], 0⟩

theorem Zdp {a0 : Int} {L1 : List RJ} {L2 : List RH} {w2 : List RL} {N : Nat} (h : ZaE a0 L1 L2 N = some (.r1 w2)) (ks : List Nat) (n : Nat) (hk : ks.length = 3 := by rfl) (hnd : ks.Nodup := by decide +kernel) (hlt : ∀ k ∈ ks, k < n := by decide +kernel) : (Zbo (N := N)  h ks n).P Tryz.prog 18 n :=
 match ks, hk, hnd, hlt with
 | [k0, k1, k2], _, hnd, hlt => Za3 (show LSpec Tryz.prog 18 #[vp 0 0] [.cells (κc a0 L1 L2) 154, .cells (Zb RC L1) 57, .cells (Zb RB L2) 42] (ms RD w2) [some (.cells (κc a0 L1 L2) 154), some (κ7 L1), some (κI L2)] from Zjj a0 L1 L2 N _ h) _ n [] hnd hlt

end Ev
end Go.Proofs.YtiijipocjellpaaGreat
namespace Go.Proofs.YtiijipocjellpaaGreat
open Go.RowKit
namespace Ev
set_option linter.unusedVariables false
set_option maxRecDepth 100000
set_option maxHeartbeats 4000000
noncomputable abbrev κbC := #[Value.agg #[vq, vq, vq, vq, vq, vq, vq, vn], vf]
noncomputable def Zm8 (L0 : List RL) (a1 a2 : Int) : ZbP → Value
 | .r0 w0 w1 w2 w3 w4 w5 w6 w7 => Value.tuple #[Value.agg #[vi w0, vi w1, vi w2, vi w3, vi w4, vi w5, vi w6, ms RB w7], vT]
 | .r1 => Value.tuple κbC
noncomputable def ZlH (L0 : List RL) (a1 a2 : Int) : ZbP → List (Option AObj)
 | .r0 w0 w1 w2 w3 w4 w5 w6 w7 => []
 | .r1 => []

def Zq5 : Zbk → Nat
 | .h1m0 v1 => 1
noncomputable def Zrs (L0 : List RL) (a1 a2 : Int) : Zbk → List (Nat × Value)
 | .h1m0 v1 => [(0, ms RD L0), (3, vp 0 0), (4, vp 1 0), (6, vi (v1 : Int))]
noncomputable def Zrt (L0 : List RL) (a1 a2 : Int) : Zbk → List (Option AObj)
 | .h1m0 v1 => [some (.cells [vi a1, vi a2] 42), some (.cells [vq, vq, vq, vq, vq, vq, vq, vn] 156)]

noncomputable def Ze0 : Nat → Code × List Zay
 | 1 => Zck [1, 0, 1, 3] (ZcP Tryz.f106) []
 | _ => (.skip, [])
def ZlI : Nat → Bool
 | 1 => true
 | _ => true
noncomputable def Zru (i : Nat) : List Zay := match ZlI i with | true => .rnd i :: (Ze0 i).2 | false => (Ze0 i).2

noncomputable def Zfz (L0 : List RL) (a1 a2 : Int) (N : Nat) : Mach := ⟨Tryz.f106, [], Zbk, ZbP, Zb3 L0 a1 a2 N, Zq5, Ze0, ZlI, Zrs L0 a1 a2, Zrt L0 a1 a2, Zm8 L0 a1 a2, ZlH L0 a1 a2⟩

theorem Zna (L0 : List RL) (a1 a2 : Int) (v1 N : Nat) : (Zfz L0 a1 a2 N).Ok Tryz.prog Zu (.h1m0 v1 : Zbk) (Zb3 L0 a1 a2 N (.h1m0 v1 : Zbk)) := by
 show (Zfz L0 a1 a2 N).Ok Tryz.prog Zu (.h1m0 v1 : Zbk) (Zbr L0 a1 a2 N v1)
 unfold Zbr
 refine Mach.ok_ite (fun g0 => ?_) (fun g0 => ?_)
 ·
  have w1 := kG RD L0 ((0 + (v1 * 8)) + 0) v1 0 2 8 <| kB v1 L0.length <| kI (v1 : Int) (Int.ofNat v1) <| hY g0 Zk
  refine Mach.ok_ite (fun g1 => ?_) (fun g1 => ?_)
  ·
   exact Mach.okF (Zj (oq [1, 3]) [] [(0, v1), (1, v1)] [(0, [.i (L0.getD v1 RL.z).a0, .i (L0.getD v1 RL.z).a1]), (2, (RD.cel (L0.getD v1 RL.z)))] []) [] (Value.tuple #[Value.agg #[vi (L0.getD v1 RL.z).a0, vi (L0.getD v1 RL.z).a1, vi (L0.getD v1 RL.z).a2, vi (L0.getD v1 RL.z).a3, vi (L0.getD v1 RL.z).a4, vi (L0.getD v1 RL.z).a5, vi (L0.getD v1 RL.z).a6, ms RB (L0.getD v1 RL.z).a7], vT]) (kG RD L0 (0 + (v1 * 8)) v1 0 8 8 <| kB v1 L0.length <| kI (v1 : Int) (Int.ofNat v1) <| kZ (((L0.getD v1 RL.z).a0 == a1) && (((L0.getD v1 RL.z).a1 == a2) && true)) w1) bE
  ·
   refine Mach.ok_ite (fun g2 => ?_) (fun _ => Mach.ok_none)
   exact Mach.okN (Zj (oq [1, 2]) [(0, (((v1 + 1) : Nat) : Int))] [(0, v1)] [(0, [.i (L0.getD v1 RL.z).a0, .i (L0.getD v1 RL.z).a1])] []) [0, 1] [some (ms RD L0), some (vp 0 0), some (vp 1 0), some (vi (((v1 + 1) : Nat) : Int))] (kW ((v1 : Int) + 1) (((v1 + 1) : Nat) : Int) <| kO (((L0.getD v1 RL.z).a0 == a1) && (((L0.getD v1 RL.z).a1 == a2) && true)) w1) (tC (tC (tC (tC (tE))))) (bS [vi a1, vi a2] <| bS [vq, vq, vq, vq, vq, vq, vq, vn] <| bE) (show 1 ∈ Zt (Zru 1) from by decide +kernel)
 ·
  exact Mach.okF (Zj (oq [0]) [] [] [] []) [] (Value.tuple κbC) (hN g0 Zk) bE

noncomputable abbrev κbk := (vi ((0 : Nat) : Int) : Value)
noncomputable abbrev κt (L0 : List RL) (a1 a2 : Int) := #[ms RD L0, Value.agg #[vi a1, vi a2]]
theorem Zpk (L0 : List RL) (a1 a2 : Int) (N : Nat) : (Zfz L0 a1 a2 N).Enter Tryz.prog Zu (κt L0 a1 a2) (Zik L0 a1 a2 N) := by
 unfold Zik
 exact Mach.enH (Ze0 1) (Zj (oq []) [] [] [] []) [0, 1] [some (ms RD L0), some (vp 0 0), some (vp 1 0), some (vq)] Zk (tC (tC (tC (tC (tE) ⟨Eq.trans (show κbk = vq from (congrArg (Value.int .i64) (by first | rfl | omega))) (by rfl), by rfl⟩)))) (bS [vi a1, vi a2] <| bS [vq, vq, vq, vq, vq, vq, vq, vn] <| bE) (show Zt (Ze0 1).2 = [] from rfl)

theorem ZiJ (L0 : List RL) (a1 a2 : Int) (N : Nat) (r : ZbP) (h : Zb4 L0 a1 a2 N = some r) : LSpec Tryz.prog 106 (κt L0 a1 a2) [] (Zm8 L0 a1 a2 r) (ZlH L0 a1 a2 r) :=
 Mach.spec Zz (Zfz L0 a1 a2 N) Tryz.func106 (by kernel_rfl) (by kernel_rfl) (fun x => by cases x <;> exact ZB _ rfl) (fun r => by cases r <;> exact ZB _ rfl) (fun x => by
  cases x with
  | h1m0 _ => exact fun _ => (show ¬ (1 ∈ Zt (Ze0 1).2) from by decide +kernel)
  ) (fun x => (show (Zfz L0 a1 a2 N).Ok Tryz.prog Zu x (Zb3 L0 a1 a2 N x) from by
  cases x with
  | h1m0 v1 => exact Zna L0 a1 a2 v1 N
  )) (Zpk L0 a1 a2 N) (n := N) h

noncomputable def ZaN {L0 : List RL} {a1 a2 w0 w1 w2 w3 w4 w5 w6 : Int} {w7 : List RH} {N : Nat} (h : Zb4 L0 a1 a2 N = some (.r0 w0 w1 w2 w3 w4 w5 w6 w7)) (ks : List Nat) (n : Nat) : ToldS := ⟨(κt L0 a1 a2), [], Value.tuple #[Value.agg #[vi w0, vi w1, vi w2, vi w3, vi w4, vi w5, vi w6, ms RB w7], vT], [], 0⟩

theorem ZcB {L0 : List RL} {a1 a2 w0 w1 w2 w3 w4 w5 w6 : Int} {w7 : List RH} {N : Nat} (h : Zb4 L0 a1 a2 N = some (.r0 w0 w1 w2 w3 w4 w5 w6 w7)) (ks : List Nat) (n : Nat) (hk : ks.length = 0 := by rfl) (hnd : ks.Nodup := by decide +kernel) (hlt : ∀ k ∈ ks, k < n := by decide +kernel) : (ZaN (N := N)  h ks n).P Tryz.prog 106 n :=
 match ks, hk, hnd, hlt with
 | [], _, hnd, hlt => Za3 (show LSpec Tryz.prog 106 (κt L0 a1 a2) [] (Value.tuple #[Value.agg #[vi w0, vi w1, vi w2, vi w3, vi w4, vi w5, vi w6, ms RB w7], vT]) [] from ZiJ L0 a1 a2 N _ h) _ n [] hnd hlt

noncomputable def ZbR {L0 : List RL} {a1 a2 : Int} {N : Nat} (h : Zb4 L0 a1 a2 N = some (.r1)) (ks : List Nat) (n : Nat) : ToldS := ⟨(κt L0 a1 a2), [], Value.tuple κbC, [], 0⟩

theorem ZdQ {L0 : List RL} {a1 a2 : Int} {N : Nat} (h : Zb4 L0 a1 a2 N = some (.r1)) (ks : List Nat) (n : Nat) (hk : ks.length = 0 := by rfl) (hnd : ks.Nodup := by decide +kernel) (hlt : ∀ k ∈ ks, k < n := by decide +kernel) : (ZbR (N := N)  h ks n).P Tryz.prog 106 n :=
 match ks, hk, hnd, hlt with
 | [], _, hnd, hlt => Za3 (show LSpec Tryz.prog 106 (κt L0 a1 a2) [] (Value.tuple κbC) [] from ZiJ L0 a1 a2 N _ h) _ n [] hnd hlt

noncomputable def Zpa (L0 : List RL) (a1 a2 : Int) : ZdW → Value
 | .r0 w0 => Value.bool w0
noncomputable def ZnN (L0 : List RL) (a1 a2 : Int) : ZdW → List (Option AObj)
 | .r0 w0 => []

theorem Zrv (L0 : List RL) (a1 a2 : Int) (N : Nat) : Fx Tryz.prog Zu Tryz.f107 [] (κt L0 a1 a2) (Zpa L0 a1 a2) (ZnN L0 a1 a2) (Zcz L0 a1 a2 N) := by
 unfold Zcz
 refine Zcc (fun z0 c0 => ?_)
 cases z0 with
 | r0 y0_0 y0_1 y0_2 y0_3 y0_4 y0_5 y0_6 y0_7 =>
  refine Zg (fun g1 => ?_) (fun g1 => ?_)
  ·
   refine Zg (fun g2 => ?_) (fun g2 => ?_)
   ·
    exact fxC (Zj (oq [1, 3]) [] [] [] [(0, (ZaN c0 [] 1).t)]) [] (vT) (hD g2 <| hT g1 <| kK (ZcB c0 [] 1) Zk) bE
   ·
    exact fxC (Zj (oq [1, 2]) [] [] [] [(0, (ZaN c0 [] 1).t)]) [] (vf) (kE a2 0 <| hT g1 <| kK (ZcB c0 [] 1) Zk) bE
  ·
   exact fxC (Zj (oq [0]) [] [] [] [(0, (ZaN c0 [] 1).t)]) [] (vf) (hF g1 <| kK (ZcB c0 [] 1) Zk) bE
 | r1 =>
  exact fxC (Zj (oq []) [] [] [] [(0, (ZbR c0 [] 1).t)]) [] (vf) (kK (ZdQ c0 [] 1) Zk) bE

theorem Zpl (L0 : List RL) (a1 a2 : Int) (N : Nat) (r : ZdW) (h : Zcz L0 a1 a2 N = some r) : LSpec Tryz.prog 107 (κt L0 a1 a2) [] (Zpa L0 a1 a2 r) (ZnN L0 a1 a2 r) :=
 Zbc Zz Tryz.func107 (by kernel_rfl) (by kernel_rfl) (fun r => by cases r <;> exact ZB _ rfl) (Zrv L0 a1 a2 N) h

noncomputable def Za7 {L0 : List RL} {a1 a2 : Int} {w0 : Bool} {N : Nat} (h : Zcz L0 a1 a2 N = some (.r0 w0)) (ks : List Nat) (n : Nat) : ToldS := ⟨(κt L0 a1 a2), [], Value.bool w0, [], 0⟩

theorem Zc8 {L0 : List RL} {a1 a2 : Int} {w0 : Bool} {N : Nat} (h : Zcz L0 a1 a2 N = some (.r0 w0)) (ks : List Nat) (n : Nat) (hk : ks.length = 0 := by rfl) (hnd : ks.Nodup := by decide +kernel) (hlt : ∀ k ∈ ks, k < n := by decide +kernel) : (Za7 (N := N)  h ks n).P Tryz.prog 107 n :=
 match ks, hk, hnd, hlt with
 | [], _, hnd, hlt => Za3 (show LSpec Tryz.prog 107 (κt L0 a1 a2) [] (Value.bool w0) [] from Zpl L0 a1 a2 N _ h) _ n [] hnd hlt

noncomputable def ZnO (a0 a1 : Int) : ZcR → Value
 | .r0 => vf
noncomputable def Zm9 (a0 a1 : Int) : ZcR → List (Option AObj)
 | .r0 => []

def Zrw : ref16_hasX → Nat
 | .h1m0 => 1
noncomputable def ZsI (a0 a1 : Int) : ref16_hasX → List (Nat × Value)
 | .h1m0 => [(0, vn), (3, vp 0 0), (5, vq)]
noncomputable def ZsJ (a0 a1 : Int) : ref16_hasX → List (Option AObj)
 | .h1m0 => [some (.cells [vi a0, vi a1] 42)]

noncomputable def ZhA : Nat → Code × List Zay
 | 1 => Zck [1, 0, 1, 3] (ZcP Tryz.f108) []
 | _ => (.skip, [])
def Zrx : Nat → Bool
 | 1 => true
 | _ => true
noncomputable def Zgn (a0 a1 : Int) (N : Nat) : Mach := ⟨Tryz.f108, [], ref16_hasX, ZcR, Zf9 a0 a1 N, Zrw, ZhA, Zrx, ZsI a0 a1, ZsJ a0 a1, ZnO a0 a1, Zm9 a0 a1⟩

theorem ZnP (a0 a1 : Int) (N : Nat) : (Zgn a0 a1 N).Ok Tryz.prog Zu (.h1m0 : ref16_hasX) (Zf9 a0 a1 N (.h1m0 : ref16_hasX)) := by
 show (Zgn a0 a1 N).Ok Tryz.prog Zu (.h1m0 : ref16_hasX) (ZgI a0 a1 N)
 unfold ZgI
 exact Mach.okF (Zj (oq []) [] [] [] []) [] (vf) Zk bE

theorem Zq6 (a0 a1 : Int) (N : Nat) : (Zgn a0 a1 N).Enter Tryz.prog Zu #[vn, Value.agg #[vi a0, vi a1]] (Zjf a0 a1 N) := by
 unfold Zjf
 exact Mach.enH (ZhA 1) (Zj (oq []) [] [] [] []) [0] [some (vn), some (vp 0 0), some (vq)] Zk (tC (tC (tC (tE)))) (bS [vi a0, vi a1] <| bE) (show Zt (ZhA 1).2 = [] from rfl)

theorem Zot (a0 a1 : Int) (N : Nat) (r : ZcR) (h : ZeM a0 a1 N = some r) : LSpec Tryz.prog 108 #[vn, Value.agg #[vi a0, vi a1]] [] (ZnO a0 a1 r) (Zm9 a0 a1 r) :=
 Mach.spec Zz (Zgn a0 a1 N) Tryz.func108 (by kernel_rfl) (by kernel_rfl) (fun x => by cases x <;> exact ZB _ rfl) (fun r => by cases r <;> exact ZB _ rfl) (fun x => by
  cases x with
  | h1m0 => exact fun _ => (show ¬ (1 ∈ Zt (ZhA 1).2) from by decide +kernel)
  ) (fun x => (show (Zgn a0 a1 N).Ok Tryz.prog Zu x (Zf9 a0 a1 N x) from by
  cases x with
  | h1m0 => exact ZnP a0 a1 N
  )) (Zq6 a0 a1 N) (n := N) h

noncomputable def ZgL {a0 a1 : Int} {N : Nat} (h : ZeM a0 a1 N = some (.r0)) (ks : List Nat) (n : Nat) : ToldS := ⟨#[vn, Value.agg #[vi a0, vi a1]], [], vf, [], 0⟩

theorem Zjk {a0 a1 : Int} {N : Nat} (h : ZeM a0 a1 N = some (.r0)) (ks : List Nat) (n : Nat) (hk : ks.length = 0 := by rfl) (hnd : ks.Nodup := by decide +kernel) (hlt : ∀ k ∈ ks, k < n := by decide +kernel) : (ZgL (N := N)  h ks n).P Tryz.prog 108 n :=
 match ks, hk, hnd, hlt with
 | [], _, hnd, hlt => Za3 (show LSpec Tryz.prog 108 #[vn, Value.agg #[vi a0, vi a1]] [] (vf) [] from Zot a0 a1 N _ h) _ n [] hnd hlt

noncomputable def ZlJ (L0 : List RH) (a1 a2 : Int) : ZbQ → Value
 | .r0 w1 => Value.bool w1
noncomputable def ZkK (L0 : List RH) (a1 a2 : Int) : ZbQ → List (Option AObj)
 | .r0 w1 => (κbn L0)

def Zpm : ZaW → Nat
 | .h1m0 v1 => 1
noncomputable def Zq7 (L0 : List RH) (a1 a2 : Int) : ZaW → List (Nat × Value)
 | .h1m0 v1 => [(0, vs 0 0 L0.length L0.length), (3, vp 1 0), (5, vi (v1 : Int))]
noncomputable def Zq8 (L0 : List RH) (a1 a2 : Int) : ZaW → List (Option AObj)
 | .h1m0 v1 => [some (.cells (Zb RB L0) 42), some (.cells [vi a1, vi a2] 42)]

noncomputable def ZdR : Nat → Code × List Zay
 | 1 => Zck [1, 0, 1, 3] (ZcP Tryz.f108) []
 | _ => (.skip, [])
def ZkL : Nat → Bool
 | 1 => true
 | _ => true
noncomputable def Zq9 (i : Nat) : List Zay := match ZkL i with | true => .rnd i :: (ZdR i).2 | false => (ZdR i).2

noncomputable def ZeP (L0 : List RH) (a1 a2 : Int) (N : Nat) : Mach := ⟨Tryz.f108, (κbh L0), ZaW, ZbQ, ZbE L0 a1 a2 N, Zpm, ZdR, ZkL, Zq7 L0 a1 a2, Zq8 L0 a1 a2, ZlJ L0 a1 a2, ZkK L0 a1 a2⟩

theorem Zmr (L0 : List RH) (a1 a2 : Int) (v1 N : Nat) : (ZeP L0 a1 a2 N).Ok Tryz.prog Zu (.h1m0 v1 : ZaW) (ZbE L0 a1 a2 N (.h1m0 v1 : ZaW)) := by
 show (ZeP L0 a1 a2 N).Ok Tryz.prog Zu (.h1m0 v1 : ZaW) (Zbe L0 a1 a2 N v1)
 unfold Zbe
 refine Mach.ok_ite (fun g0 => ?_) (fun g0 => ?_)
 ·
  have w1 := kLn RB L0 v1 0 2 <| kB v1 L0.length <| kI (v1 : Int) (Int.ofNat v1) <| hY g0 Zk
  refine Mach.ok_ite (fun g1 => ?_) (fun g1 => ?_)
  ·
   exact Mach.okF (Zj (oq [1, 3]) [] [(0, v1)] [(0, (RB.cel (L0.getD v1 RH.z)))] []) [0] (vT) (kZ (((L0.getD v1 RH.z).a0 == a1) && (((L0.getD v1 RH.z).a1 == a2) && true)) w1) (bR <| bE)
  ·
   refine Mach.ok_ite (fun g2 => ?_) (fun _ => Mach.ok_none)
   exact Mach.okN (Zj (oq [1, 2]) [(0, (((v1 + 1) : Nat) : Int))] [(0, v1)] [(0, (RB.cel (L0.getD v1 RH.z)))] []) [0, 1] [some (vs 0 0 L0.length L0.length), some (vp 1 0), some (vi (((v1 + 1) : Nat) : Int))] (kW ((v1 : Int) + 1) (((v1 + 1) : Nat) : Int) <| kO (((L0.getD v1 RH.z).a0 == a1) && (((L0.getD v1 RH.z).a1 == a2) && true)) w1) (tC (tC (tC (tE)))) (bR <| bS [vi a1, vi a2] <| bE) (show 1 ∈ Zt (Zq9 1) from by decide +kernel)
 ·
  exact Mach.okF (Zj (oq [0]) [] [] [] []) [0] (vf) (hN g0 Zk) (bR <| bE)

theorem Zou (L0 : List RH) (a1 a2 : Int) (N : Nat) : (ZeP L0 a1 a2 N).Enter Tryz.prog Zu #[vs 0 0 L0.length L0.length, Value.agg #[vi a1, vi a2]] (Zhq L0 a1 a2 N) := by
 unfold Zhq
 exact Mach.enH (ZdR 1) (Zj (oq []) [] [] [] []) [0, 1] [some (vs 0 0 L0.length L0.length), some (vp 1 0), some (vq)] Zk (tC (tC (tC (tE) ⟨Eq.trans (show κbk = vq from (congrArg (Value.int .i64) (by first | rfl | omega))) (by rfl), by rfl⟩))) (bR <| bS [vi a1, vi a2] <| bE) (show Zt (ZdR 1).2 = [] from rfl)

theorem Znb (L0 : List RH) (a1 a2 : Int) (N : Nat) (r : ZbQ) (h : ZdA L0 a1 a2 N = some r) : LSpec Tryz.prog 108 #[vs 0 0 L0.length L0.length, Value.agg #[vi a1, vi a2]] (κbh L0) (ZlJ L0 a1 a2 r) (ZkK L0 a1 a2 r) :=
 Mach.spec Zz (ZeP L0 a1 a2 N) Tryz.func108 (by kernel_rfl) (by kernel_rfl) (fun x => by cases x <;> exact ZB _ rfl) (fun r => by cases r <;> exact ZB _ rfl) (fun x => by
  cases x with
  | h1m0 _ => exact fun _ => (show ¬ (1 ∈ Zt (ZdR 1).2) from by decide +kernel)
  ) (fun x => (show (ZeP L0 a1 a2 N).Ok Tryz.prog Zu x (ZbE L0 a1 a2 N x) from by
  cases x with
  | h1m0 v1 => exact Zmr L0 a1 a2 v1 N
  )) (Zou L0 a1 a2 N) (n := N) h

noncomputable def Zbz {L0 : List RH} {a1 a2 : Int} {w1 : Bool} {N : Nat} (h : ZdA L0 a1 a2 N = some (.r0 w1)) (ks : List Nat) (n : Nat) : ToldS := ⟨#[vs (nth ks 0) 0 L0.length L0.length, Value.agg #[vi a1, vi a2]], [((nth ks 0), .cells (Zb RB L0) 42)], Value.bool w1, [], 0⟩

theorem Zes {L0 : List RH} {a1 a2 : Int} {w1 : Bool} {N : Nat} (h : ZdA L0 a1 a2 N = some (.r0 w1)) (ks : List Nat) (n : Nat) (hk : ks.length = 1 := by rfl) (hnd : ks.Nodup := by decide +kernel) (hlt : ∀ k ∈ ks, k < n := by decide +kernel) : (Zbz (N := N)  h ks n).P Tryz.prog 108 n :=
 match ks, hk, hnd, hlt with
 | [k0], _, hnd, hlt => Za3 (show LSpec Tryz.prog 108 #[vs 0 0 L0.length L0.length, Value.agg #[vi a1, vi a2]] (κbh L0) (Value.bool w1) (κbn L0) from Znb L0 a1 a2 N _ h) _ n [] hnd hlt

noncomputable def Zet (L0 : List RL) (L1 : List RH) (a2 a3 : Int) : Zw → Value
 | .r0 => vs 0 0 L1.length L1.length
 | .r1 w0 => vs 1 0 w0.length w0.length
noncomputable abbrev κbg (L1 : List RH) := [some (AObj.cells (Zb RB L1) 42)]
noncomputable def ZdS (L0 : List RL) (L1 : List RH) (a2 a3 : Int) : Zw → List (Option AObj)
 | .r0 => (κbg L1)
 | .r1 w0 => [none, some (.cells (Zb RB w0) 42)]

def Zov : Zak → Nat
 | .h1m0 v1 v3 v4 v5 v6 v7 v8 v9 v10 v11 => 1
noncomputable def Zpn (L0 : List RL) (L1 : List RH) (a2 a3 : Int) : Zak → List (Nat × Value)
 | .h1m0 v1 v3 v4 v5 v6 v7 v8 v9 v10 v11 => [(0, ms RD L0), (1, vs 1 0 v1.length v1.length), (3, vT), (9, vp 2 0), (11, vi (v3 : Int))]
noncomputable abbrev κbz (v1 : List RH) := (AObj.cells (Zb RB v1) 42)
noncomputable def Zpo (L0 : List RL) (L1 : List RH) (a2 a3 : Int) : Zak → List (Option AObj)
 | .h1m0 v1 v3 v4 v5 v6 v7 v8 v9 v10 v11 => [none, some (κbz v1), some (.cells [vi v4, vi v5, vi v6, vi v7, vi v8, vi v9, vi v10, ms RB v11] 156)]

noncomputable def Zdv : Nat → Code × List Zay
 | 1 => Zck [1, 1, 1, 1, 0, 1, 3] (ZcP Tryz.f52) []
 | _ => (.skip, [])
def ZjJ : Nat → Bool
 | 1 => true
 | _ => true
noncomputable def ZkM (i : Nat) : List Zay := match ZjJ i with | true => .rnd i :: (Zdv i).2 | false => (Zdv i).2

noncomputable def ZjK (L0 : List RL) (L1 : List RH) (a2 a3 : Int) (k0 n : Nat) : Zhj := .call [(k0, .cells (Zb RB L1) 42)] (vs k0 0 L1.length L1.length) [] 0
def Zfi (A : Array Value) (L0 : List RL) (L1 : List RH) (a2 a3 : Int) (k0 n : Nat) : Prop := ZbV Tryz.prog 52 A [(k0, .cells (Zb RB L1) 42)] (vs k0 0 L1.length L1.length) [] n 0

noncomputable abbrev κbt (L1 : List RH) := [AObj.cells (Zb RB L1) 42]
noncomputable abbrev κG (L0 : List RL) (L1 : List RH) (a2 a3 : Int) := #[ms RD L0, vs 0 0 L1.length L1.length, Value.agg #[vi a2, vi a3], vT]
theorem ZiK (A : Array Value) (L0 : List RL) (L1 : List RH) (a2 a3 : Int) (hL : LSpec Tryz.prog 52 (κG L0 L1 a2 a3) (κbt L1) (vs 0 0 L1.length L1.length) (κbg L1)) (k0 n : Nat) (hA : A = #[ms RD L0, vs k0 0 L1.length L1.length, Value.agg #[vi a2, vi a3], vT]) (hnd : ([k0] : List Nat).Nodup) (hlt : ∀ k ∈ ([k0] : List Nat), k < n) : Zfi A L0 L1 a2 a3 k0 n :=
 ZrO hA (LSpec.callL (show LSpec Tryz.prog 52 (κG L0 L1 a2 a3) (κbt L1) (vs 0 0 L1.length L1.length) (κbg L1) from hL) [k0] n [] rfl hnd hlt (show 1 ≤ 1 from by decide) (show ∀ j ∈ ([] : List Nat), j < 1 from by decide) (by rfl) ⟨(ZbD _ _ _), trivial⟩ (by rfl) ⟨(ZbD _ _ _), trivial⟩ ⟨.inr rfl, trivial⟩ rfl rfl rfl (Zh (ZfS rfl (ZfJ _ _ _)) rfl) rfl)

noncomputable abbrev κbm (w0 : List RH) := (AObj.cells (Zb RB w0) 42)
noncomputable def ZjL (L0 : List RL) (L1 : List RH) (a2 a3 : Int) (w0 : List RH) (k0 n : Nat) : Zhj := .call [(k0, .cells (Zb RB L1) 42)] (vs n 0 w0.length w0.length) [(k0, none), (n, some (κbm w0))] 1
def Zfj (A : Array Value) (L0 : List RL) (L1 : List RH) (a2 a3 : Int) (w0 : List RH) (k0 n : Nat) : Prop := ZbV Tryz.prog 52 A [(k0, .cells (Zb RB L1) 42)] (vs n 0 w0.length w0.length) [(k0, none), (n, some (κbm w0))] n 1

theorem ZiL (A : Array Value) (L0 : List RL) (L1 : List RH) (a2 a3 : Int) (w0 : List RH) (hL : LSpec Tryz.prog 52 (κG L0 L1 a2 a3) (κbt L1) (vs 1 0 w0.length w0.length) [none, some (κbm w0)]) (k0 n : Nat) (hA : A = #[ms RD L0, vs k0 0 L1.length L1.length, Value.agg #[vi a2, vi a3], vT]) (hnd : ([k0] : List Nat).Nodup) (hlt : ∀ k ∈ ([k0] : List Nat), k < n) : Zfj A L0 L1 a2 a3 w0 k0 n :=
 ZrO hA (LSpec.callL (show LSpec Tryz.prog 52 (κG L0 L1 a2 a3) (κbt L1) (vs 1 0 w0.length w0.length) [none, some (κbm w0)] from hL) [k0] n [0, 1] rfl hnd hlt (show 1 ≤ 2 from by decide) (show ∀ j ∈ ([0, 1] : List Nat), j < 2 from by decide) (by rfl) ⟨(ZbD _ _ _), trivial⟩ (by rfl) ⟨(ZbD _ _ _), trivial⟩ ⟨.inl (by decide), ⟨(by decide), trivial⟩⟩ rfl rfl rfl (Zh (ZfS rfl (ZfJ _ _ _)) rfl) (Zh (ZfS rfl rfl) (Zh (ZfS rfl (Zoo (ZfJ _ _ _))) rfl)))

noncomputable def Za1 (rec : List RL → List RH → Int → Int → Option Zw) (L0 : List RL) (L1 : List RH) (a2 a3 : Int) (N : Nat) : Mach := ⟨Tryz.f52, (κbt L1), Zak, Zw, Zc0 rec L0 L1 a2 a3 N, Zov, Zdv, ZjJ, Zpn L0 L1 a2 a3, Zpo L0 L1 a2 a3, Zet L0 L1 a2 a3, ZdS L0 L1 a2 a3⟩

noncomputable abbrev κbu (v3 : Nat) := (vi (((v3 + 1) : Nat) : Int))
theorem ZlK (rec : List RL → List RH → Int → Int → Option Zw) (hrec : ∀ (L0 : List RL) (L1 : List RH) (a2 a3 : Int) (r : Zw), rec L0 L1 a2 a3 = some r → LSpec Tryz.prog 52 (κG L0 L1 a2 a3) (κbt L1) (Zet L0 L1 a2 a3 r) (ZdS L0 L1 a2 a3 r)) (L0 : List RL) (L1 : List RH) (a2 a3 : Int) (v1 : List RH) (v3 : Nat) (v4 v5 v6 v7 v8 v9 v10 : Int) (v11 : List RH) (N : Nat) : (Za1 rec L0 L1 a2 a3 N).Ok Tryz.prog Zu (.h1m0 v1 v3 v4 v5 v6 v7 v8 v9 v10 v11 : Zak) (Zc0 rec L0 L1 a2 a3 N (.h1m0 v1 v3 v4 v5 v6 v7 v8 v9 v10 v11 : Zak)) := by
 show (Za1 rec L0 L1 a2 a3 N).Ok Tryz.prog Zu (.h1m0 v1 v3 v4 v5 v6 v7 v8 v9 v10 v11 : Zak) (Zb9 rec L0 L1 a2 a3 N v1 v3 v4 v5 v6 v7 v8 v9 v10 v11)
 unfold Zb9
 refine Mach.ok_ite (fun g0 => ?_) (fun g0 => ?_)
 ·
  refine Mach.ok_bind (fun z1 c1 => ?_)
  cases z1 with
  | r0 =>
   refine Mach.ok_ite (fun g2 => ?_) (fun _ => Mach.ok_none)
   exact Mach.ok_next (M := Za1 rec L0 L1 a2 a3 N) (cd := 1000000) (cm := 0) (y := (.h1m0 v1 (v3 + 1) v4 v5 v6 v7 v8 v9 v10 v11 : Zak)) (fu := 4000) (orc := (Zj (oq [1]) [(0, (((v3 + 1) : Nat) : Int))] [(0, v3)] [(2, (RB.cel (v11.getD v3 RH.z)))] [(0, (ZjK L0 v1 ((v11.getD v3 RH.z).a0) ((v11.getD v3 RH.z).a1)   1 3))])) (live := [0, 1, 2]) (tv := fun _ => [some (ms RD L0), some (vs 1 0 v1.length v1.length), some (vT), some (vp 2 0), some (κbu v3)]) (bl := [none, some (κbz v1), some (.cells [vi v4, vi v5, vi v6, vi v7, vi v8, vi v9, vi v10, ms RB v11] 156)]) rfl (show 1 ∈ Zt (ZkM 1) from by decide +kernel) (fun gv => by kernel_rfl) (kW ((v3 : Int) + 1) (((v3 + 1) : Nat) : Int) <| kX (dP (Zfi #[ms RD L0, vs 1 0 v1.length v1.length, Value.agg #[vi (v11.getD v3 RH.z).a0, vi (v11.getD v3 RH.z).a1], vT] L0 v1 ((v11.getD v3 RH.z).a0) ((v11.getD v3 RH.z).a1)   1 3)) true (Z2 (ZiK #[ms RD L0, vs 1 0 v1.length v1.length, Value.agg #[vi (v11.getD v3 RH.z).a0, vi (v11.getD v3 RH.z).a1], vT] L0 v1 ((v11.getD v3 RH.z).a0) ((v11.getD v3 RH.z).a1)   (hrec L0 v1 ((v11.getD v3 RH.z).a0) ((v11.getD v3 RH.z).a1)  _ c1) 1 3 rfl (by decide) (by decide))) <| kR (Zb RB v1) <| kG RB v11 (0 + (v3 * 2)) v3 0 2 2 <| kB v3 v11.length <| kI (v3 : Int) (Int.ofNat v3) <| hY g0 Zk) rfl (by decide +kernel) (by rfl) (fun _ => ⟨rr, ⟨rr, ⟨rr, ⟨rr, ⟨rr, trivial⟩⟩⟩⟩⟩) ⟨(ZcK (E := RB) (α := RH) _ v1 _), ⟨sm, trivial⟩⟩
  | r1 y1_0 =>
   refine Mach.ok_ite (fun g2 => ?_) (fun _ => Mach.ok_none)
   exact Mach.ok_next (M := Za1 rec L0 L1 a2 a3 N) (cd := 1000000) (cm := 0) (y := (.h1m0 y1_0 (v3 + 1) v4 v5 v6 v7 v8 v9 v10 v11 : Zak)) (fu := 4000) (orc := (Zj (oq [1]) [(0, (((v3 + 1) : Nat) : Int))] [(0, v3)] [(2, (RB.cel (v11.getD v3 RH.z)))] [(0, (ZjL L0 v1 ((v11.getD v3 RH.z).a0) ((v11.getD v3 RH.z).a1)  y1_0 1 3))])) (live := [0, 3, 2]) (tv := fun _ => [some (ms RD L0), some (vs 3 0 y1_0.length y1_0.length), some (vT), some (vp 2 0), some (κbu v3)]) (bl := [none, some (.cells (Zb RB y1_0) 42), some (.cells [vi v4, vi v5, vi v6, vi v7, vi v8, vi v9, vi v10, ms RB v11] 156)]) rfl (show 1 ∈ Zt (ZkM 1) from by decide +kernel) (fun gv => by kernel_rfl) (kW ((v3 : Int) + 1) (((v3 + 1) : Nat) : Int) <| kX (dP (Zfj #[ms RD L0, vs 1 0 v1.length v1.length, Value.agg #[vi (v11.getD v3 RH.z).a0, vi (v11.getD v3 RH.z).a1], vT] L0 v1 ((v11.getD v3 RH.z).a0) ((v11.getD v3 RH.z).a1)  y1_0 1 3)) true (Z2 (ZiL #[ms RD L0, vs 1 0 v1.length v1.length, Value.agg #[vi (v11.getD v3 RH.z).a0, vi (v11.getD v3 RH.z).a1], vT] L0 v1 ((v11.getD v3 RH.z).a0) ((v11.getD v3 RH.z).a1)  y1_0 (hrec L0 v1 ((v11.getD v3 RH.z).a0) ((v11.getD v3 RH.z).a1)  _ c1) 1 3 rfl (by decide) (by decide))) <| kR (Zb RB v1) <| kG RB v11 (0 + (v3 * 2)) v3 0 2 2 <| kB v3 v11.length <| kI (v3 : Int) (Int.ofNat v3) <| hY g0 Zk) rfl (by decide +kernel) (by rfl) (fun _ => ⟨rr, ⟨rr, ⟨rr, ⟨rr, ⟨rr, trivial⟩⟩⟩⟩⟩) ⟨(ZcK (E := RB) (α := RH) _ y1_0 _), ⟨sm, trivial⟩⟩
 ·
  exact Mach.ok_fin (M := Za1 rec L0 L1 a2 a3 N) (cd := 1000000) (cm := 0) (r := (.r1 v1 : Zw)) (fu := 4000) (orc := (Zj [(0, false)] [] [] [] [])) (live := [0, 1]) (u := vs 1 0 v1.length v1.length) (bl := [none, some (κbz v1)]) (ob := [((decide ((v3 : Int) < (v11.length : Int))), false)]) (fun gv => by kernel_rfl) (oN Zk) rfl (by decide) (by rfl) rr ⟨(ZcK (E := RB) (α := RH) _ v1 _), trivial⟩

theorem ZnQ (rec : List RL → List RH → Int → Int → Option Zw) (hrec : ∀ (L0 : List RL) (L1 : List RH) (a2 a3 : Int) (r : Zw), rec L0 L1 a2 a3 = some r → LSpec Tryz.prog 52 (κG L0 L1 a2 a3) (κbt L1) (Zet L0 L1 a2 a3 r) (ZdS L0 L1 a2 a3 r)) (L0 : List RL) (L1 : List RH) (a2 a3 : Int) (N : Nat) : (Za1 rec L0 L1 a2 a3 N).Enter Tryz.prog Zu (κG L0 L1 a2 a3) (Zc1 rec L0 L1 a2 a3 N) := by
 unfold Zc1
 refine Mach.en_bind (fun z0 c0 => ?_)
 cases z0 with
 | r0 y0_0 y0_1 y0_2 y0_3 y0_4 y0_5 y0_6 y0_7 =>
  refine Mach.en_bind (fun z1 c1 => ?_)
  cases z1 with
  | r0 y1_0 =>
   refine Mach.en_ite (fun g2 => ?_) (fun g2 => ?_)
   ·
    exact Mach.en_fin (M := Za1 rec L0 L1 a2 a3 N) (cd := 1000000) (cm := 0) (r := (.r0 : Zw)) (fu := 4000) (orc := (Zj [(0, true)] [] [] [] [(0, (ZaN c0 [] 2).t), (2, (Za7 c1 [] 3).t)])) (live := [0]) (u := vs 0 0 L1.length L1.length) (bl := (κbg L1)) (ob := [((!y1_0), true), (dP ((Za7 c1 [] 3).P Tryz.prog 107 3), true), (dP ((ZaN c0 [] 2).P Tryz.prog 106 2), true)]) (by kernel_rfl) (Z9 (Zfx (by first | assumption | simp_all)) <| Z9 (Z2 (Zc8 c1 [] 3)) <| Z9 (Z2 (ZcB c0 [] 2)) Zk) rfl (by decide) (by rfl) rr ⟨(ZcK (E := RB) (α := RH) _ L1 _), trivial⟩
   ·
    refine Mach.en_bind (fun z3 c3 => ?_)
    cases z3 with
    | r0 y3_0 =>
     refine Mach.en_ite (fun g4 => ?_) (fun g4 => ?_)
     ·
      subst g4
      exact Mach.en_fin (M := Za1 rec L0 L1 a2 a3 N) (cd := 1000000) (cm := 0) (r := (.r0 : Zw)) (fu := 4000) (orc := (Zj [(0, false)] [] [] [] [(0, (ZaN c0 [] 2).t), (2, (Za7 c1 [] 3).t), (3, (Zbz c3 [0] 3).t)])) (live := [0]) (u := vs 0 0 L1.length L1.length) (bl := (κbg L1)) (ob := [(dP ((Zbz c3 [0] 3).P Tryz.prog 108 3), true), (dS (Zb RB L1), true), ((!y1_0), false), (dP ((Za7 c1 [] 3).P Tryz.prog 107 3), true), (dP ((ZaN c0 [] 2).P Tryz.prog 106 2), true)]) (by kernel_rfl) (Z9 (Z2 (Zes c3 [0] 3)) <| oR <| Z9 (Zd5 (by first | assumption | exact Decidable.not_not.1 (by assumption) | simp_all)) <| Z9 (Z2 (Zc8 c1 [] 3)) <| Z9 (Z2 (ZcB c0 [] 2)) Zk) rfl (by decide) (by rfl) rr ⟨(ZcK (E := RB) (α := RH) _ L1 _), trivial⟩
     ·
      obtain rfl : y3_0 = false := by simpa using g4
      refine Mach.en_ite (fun g5 => ?_) (fun g5 => ?_)
      ·
       exact Mach.en_fin (M := Za1 rec L0 L1 a2 a3 N) (cd := 1000000) (cm := 0) (r := (.r0 : Zw)) (fu := 4000) (orc := (Zj [(0, false), (1, true)] [] [] [] [(0, (ZaN c0 [] 2).t), (2, (Za7 c1 [] 3).t), (3, (Zbz c3 [0] 3).t)])) (live := [0]) (u := vs 0 0 L1.length L1.length) (bl := (κbg L1)) (ob := [((y0_5 != 1), true), (dP ((Zbz c3 [0] 3).P Tryz.prog 108 3), true), (dS (Zb RB L1), true), ((!y1_0), false), (dP ((Za7 c1 [] 3).P Tryz.prog 107 3), true), (dP ((ZaN c0 [] 2).P Tryz.prog 106 2), true)]) (by kernel_rfl) (oD <| Z9 (Z2 (Zes c3 [0] 3)) <| oR <| Z9 (Zd5 (by first | assumption | exact Decidable.not_not.1 (by assumption) | simp_all)) <| Z9 (Z2 (Zc8 c1 [] 3)) <| Z9 (Z2 (ZcB c0 [] 2)) Zk) rfl (by decide) (by rfl) rr ⟨(ZcK (E := RB) (α := RH) _ L1 _), trivial⟩
      ·
       refine Mach.en_ite (fun g6 => ?_) (fun _ => Mach.en_none)
       exact Mach.en_head (bK := Zdv 1) (M := Za1 rec L0 L1 a2 a3 N) (cd := 1000000) (cm := 0) (y := (.h1m0 (L1 ++ ([(⟨a2, a3⟩ : RH)] : List RH)) 0 y0_0 y0_1 y0_2 y0_3 y0_4 y0_5 y0_6 y0_7 : Zak)) (fu := 4000) (orc := (Zj (oq [0, 2]) [] [] [] [(0, (ZaN c0 [] 2).t), (2, (Za7 c1 [] 3).t), (3, (Zbz c3 [0] 3).t), (4, .ap 1 [vi a2, vi a3] (Zb RB (L1 ++ ([(⟨a2, a3⟩ : RH)] : List RH))))])) (live := [0, 4, 2]) (tv := [some (ms RD L0), some (vs 4 0 (L1.length + 1) (L1.length + 1)), some (vT), some (vp 2 0), some (vq)]) (bl := [none, some (.cells (Zb RB (L1 ++ ([(⟨a2, a3⟩ : RH)] : List RH))) 42), some (.cells [vi y0_0, vi y0_1, vi y0_2, vi y0_3, vi y0_4, vi y0_5, vi y0_6, ms RB y0_7] 156)]) rfl rfl (show Zt (Zdv 1).2 = [] from rfl) (by kernel_rfl) (kA RB L1 (⟨a2, a3⟩ : RH) <| kE y0_5 1 <| kK (Zes c3 [0] 3) <| kX ((!y1_0)) false (Zd5 (by first | assumption | exact Decidable.not_not.1 (by assumption) | simp_all)) <| kK (Zc8 c1 [] 3) <| kK (ZcB c0 [] 2) Zk) rfl (by decide +kernel) (by rfl) ⟨rr, ⟨⟨Eq.trans (show (vs 1 0 (L1 ++ ([(⟨a2, a3⟩ : RH)] : List RH)).length (L1 ++ ([(⟨a2, a3⟩ : RH)] : List RH)).length : Value) = vs 1 0 (L1.length + 1) (L1.length + 1) from (Z5 rfl eqA eqA)) (by rfl), by rfl⟩, ⟨rr, ⟨rr, ⟨⟨Eq.trans (show κbk = vq from (congrArg (Value.int .i64) (by first | rfl | omega))) (by rfl), by rfl⟩, trivial⟩⟩⟩⟩⟩ ⟨(ZcK (E := RB) (α := RH) _ (L1 ++ ([(⟨a2, a3⟩ : RH)] : List RH)) _), ⟨sm, trivial⟩⟩
 | r1 =>
  refine Mach.en_bind (fun z1 c1 => ?_)
  cases z1 with
  | r0 y1_0 =>
   refine Mach.en_ite (fun g2 => ?_) (fun g2 => ?_)
   ·
    exact Mach.en_fin (M := Za1 rec L0 L1 a2 a3 N) (cd := 1000000) (cm := 0) (r := (.r0 : Zw)) (fu := 4000) (orc := (Zj [(0, true)] [] [] [] [(0, (ZbR c0 [] 2).t), (2, (Za7 c1 [] 3).t)])) (live := [0]) (u := vs 0 0 L1.length L1.length) (bl := (κbg L1)) (ob := [((!y1_0), true), (dP ((Za7 c1 [] 3).P Tryz.prog 107 3), true), (dP ((ZbR c0 [] 2).P Tryz.prog 106 2), true)]) (by kernel_rfl) (Z9 (Zfx (by first | assumption | simp_all)) <| Z9 (Z2 (Zc8 c1 [] 3)) <| Z9 (Z2 (ZdQ c0 [] 2)) Zk) rfl (by decide) (by rfl) rr ⟨(ZcK (E := RB) (α := RH) _ L1 _), trivial⟩
   ·
    refine Mach.en_bind (fun z3 c3 => ?_)
    cases z3 with
    | r0 y3_0 =>
     refine Mach.en_ite (fun g4 => ?_) (fun g4 => ?_)
     ·
      subst g4
      exact Mach.en_fin (M := Za1 rec L0 L1 a2 a3 N) (cd := 1000000) (cm := 0) (r := (.r0 : Zw)) (fu := 4000) (orc := (Zj [(0, false)] [] [] [] [(0, (ZbR c0 [] 2).t), (2, (Za7 c1 [] 3).t), (3, (Zbz c3 [0] 3).t)])) (live := [0]) (u := vs 0 0 L1.length L1.length) (bl := (κbg L1)) (ob := [(dP ((Zbz c3 [0] 3).P Tryz.prog 108 3), true), (dS (Zb RB L1), true), ((!y1_0), false), (dP ((Za7 c1 [] 3).P Tryz.prog 107 3), true), (dP ((ZbR c0 [] 2).P Tryz.prog 106 2), true)]) (by kernel_rfl) (Z9 (Z2 (Zes c3 [0] 3)) <| oR <| Z9 (Zd5 (by first | assumption | exact Decidable.not_not.1 (by assumption) | simp_all)) <| Z9 (Z2 (Zc8 c1 [] 3)) <| Z9 (Z2 (ZdQ c0 [] 2)) Zk) rfl (by decide) (by rfl) rr ⟨(ZcK (E := RB) (α := RH) _ L1 _), trivial⟩
     ·
      obtain rfl : y3_0 = false := by simpa using g4
      exact Mach.en_fin (M := Za1 rec L0 L1 a2 a3 N) (cd := 1000000) (cm := 0) (r := (.r0 : Zw)) (fu := 4000) (orc := (Zj [(0, false)] [] [] [] [(0, (ZbR c0 [] 2).t), (2, (Za7 c1 [] 3).t), (3, (Zbz c3 [0] 3).t)])) (live := [0]) (u := vs 0 0 L1.length L1.length) (bl := (κbg L1)) (ob := [(dP ((Zbz c3 [0] 3).P Tryz.prog 108 3), true), (dS (Zb RB L1), true), ((!y1_0), false), (dP ((Za7 c1 [] 3).P Tryz.prog 107 3), true), (dP ((ZbR c0 [] 2).P Tryz.prog 106 2), true)]) (by kernel_rfl) (Z9 (Z2 (Zes c3 [0] 3)) <| oR <| Z9 (Zd5 (by first | assumption | exact Decidable.not_not.1 (by assumption) | simp_all)) <| Z9 (Z2 (Zc8 c1 [] 3)) <| Z9 (Z2 (ZdQ c0 [] 2)) Zk) rfl (by decide) (by rfl) rr ⟨(ZcK (E := RB) (α := RH) _ L1 _), trivial⟩

theorem ZlL (N : Nat) : ∀ (n : Nat) (L0 : List RL) (L1 : List RH) (a2 a3 : Int) (r : Zw), ZaH N n L0 L1 a2 a3 = some r → LSpec Tryz.prog 52 (κG L0 L1 a2 a3) (κbt L1) (Zet L0 L1 a2 a3 r) (ZdS L0 L1 a2 a3 r) := by
 intro n
 induction n with
 | zero => intro L0 L1 a2 a3 r h; cases h
 | succ n ih =>
  intro L0 L1 a2 a3 r h
  exact Mach.spec Zz (Za1 (ZaH N n) L0 L1 a2 a3 N) Tryz.func52 (by kernel_rfl) (by kernel_rfl) (fun x => by cases x <;> exact ZB _ rfl) (fun r => by cases r <;> exact ZB _ rfl) (fun x => by
   cases x with
   | h1m0 _ _ _ _ _ _ _ _ _ _ => exact fun _ => (show ¬ (1 ∈ Zt (Zdv 1).2) from by decide +kernel)
   ) (fun x => (show (Za1 (ZaH N n) L0 L1 a2 a3 N).Ok Tryz.prog Zu x (Zc0 (ZaH N n) L0 L1 a2 a3 N x) from by
   cases x with
   | h1m0 v1 v3 v4 v5 v6 v7 v8 v9 v10 v11 => exact ZlK (ZaH N n) ih L0 L1 a2 a3 v1 v3 v4 v5 v6 v7 v8 v9 v10 v11 N
   )) (ZnQ (ZaH N n) ih L0 L1 a2 a3 N) (n := N) h

theorem Zht (L0 : List RL) (L1 : List RH) (a2 a3 : Int) (N : Nat) (r : Zw) (h : ZeN L0 L1 a2 a3 N = some r) : LSpec Tryz.prog 52 (κG L0 L1 a2 a3) (κbt L1) (Zet L0 L1 a2 a3 r) (ZdS L0 L1 a2 a3 r) :=
 ZlL N N L0 L1 a2 a3 r h

theorem Zow (A : Array Value) (L0 : List RL) (L1 : List RH) (a2 a3 : Int) (N : Nat) (h : ZeN L0 L1 a2 a3 N = some (.r0)) (k0 n : Nat) (hA : A = #[ms RD L0, vs k0 0 L1.length L1.length, Value.agg #[vi a2, vi a3], vT]) (hnd : ([k0] : List Nat).Nodup) (hlt : ∀ k ∈ ([k0] : List Nat), k < n) : Zfi A L0 L1 a2 a3 k0 n :=
 ZiK A L0 L1 a2 a3 (Zht L0 L1 a2 a3 N _ h) k0 n hA hnd hlt

theorem Zox (A : Array Value) (L0 : List RL) (L1 : List RH) (a2 a3 : Int) (w0 : List RH) (N : Nat) (h : ZeN L0 L1 a2 a3 N = some (.r1 w0)) (k0 n : Nat) (hA : A = #[ms RD L0, vs k0 0 L1.length L1.length, Value.agg #[vi a2, vi a3], vT]) (hnd : ([k0] : List Nat).Nodup) (hlt : ∀ k ∈ ([k0] : List Nat), k < n) : Zfj A L0 L1 a2 a3 w0 k0 n :=
 ZiL A L0 L1 a2 a3 w0 (Zht L0 L1 a2 a3 N _ h) k0 n hA hnd hlt

noncomputable def ZmA (L0 : List RL) (a1 a2 : Int) : Zbl → Value
 | .r0 => vn
 | .r1 w0 => vs 0 0 w0.length w0.length
noncomputable def ZlM (L0 : List RL) (a1 a2 : Int) : Zbl → List (Option AObj)
 | .r0 => []
 | .r1 w0 => [some (.cells (Zb RB w0) 42)]

def ZqA : Zba → Nat
 | .h1m0 v1 v3 v4 v5 v6 v7 v8 v9 v10 v11 => 1
noncomputable def Zry (L0 : List RL) (a1 a2 : Int) : Zba → List (Nat × Value)
 | .h1m0 v1 v3 v4 v5 v6 v7 v8 v9 v10 v11 => [(0, ms RD L0), (1, vs 0 0 v1.length v1.length), (3, vT), (9, vp 1 0), (11, vi (v3 : Int))]
noncomputable def Zrz (L0 : List RL) (a1 a2 : Int) : Zba → List (Option AObj)
 | .h1m0 v1 v3 v4 v5 v6 v7 v8 v9 v10 v11 => [some (κbz v1), some (.cells [vi v4, vi v5, vi v6, vi v7, vi v8, vi v9, vi v10, ms RB v11] 156)]

noncomputable def Ze1 : Nat → Code × List Zay
 | 1 => Zck [1, 1, 1, 1, 0, 1, 3] (ZcP Tryz.f52) []
 | _ => (.skip, [])
def ZlN : Nat → Bool
 | 1 => true
 | _ => true
noncomputable def ZmB (i : Nat) : List Zay := match ZlN i with | true => .rnd i :: (Ze1 i).2 | false => (Ze1 i).2

noncomputable def Zf0 (L0 : List RL) (a1 a2 : Int) (N : Nat) : Mach := ⟨Tryz.f52, [], Zba, Zbl, ZdO L0 a1 a2 N, ZqA, Ze1, ZlN, Zry L0 a1 a2, Zrz L0 a1 a2, ZmA L0 a1 a2, ZlM L0 a1 a2⟩

theorem Znc (L0 : List RL) (a1 a2 : Int) (v1 : List RH) (v3 : Nat) (v4 v5 v6 v7 v8 v9 v10 : Int) (v11 : List RH) (N : Nat) : (Zf0 L0 a1 a2 N).Ok Tryz.prog Zu (.h1m0 v1 v3 v4 v5 v6 v7 v8 v9 v10 v11 : Zba) (ZdO L0 a1 a2 N (.h1m0 v1 v3 v4 v5 v6 v7 v8 v9 v10 v11 : Zba)) := by
 show (Zf0 L0 a1 a2 N).Ok Tryz.prog Zu (.h1m0 v1 v3 v4 v5 v6 v7 v8 v9 v10 v11 : Zba) (Zco L0 a1 a2 N v1 v3 v4 v5 v6 v7 v8 v9 v10 v11)
 unfold Zco
 refine Mach.ok_ite (fun g0 => ?_) (fun g0 => ?_)
 ·
  have w1 := kG RB v11 (0 + (v3 * 2)) v3 0 2 2 <| kB v3 v11.length <| kI (v3 : Int) (Int.ofNat v3) <| hY g0 Zk
  refine Mach.ok_bind (fun z1 c1 => ?_)
  cases z1 with
  | r0 =>
   refine Mach.ok_ite (fun g2 => ?_) (fun _ => Mach.ok_none)
   exact Mach.okN (Zj (oq [1]) [(0, (((v3 + 1) : Nat) : Int))] [(0, v3)] [(2, (RB.cel (v11.getD v3 RH.z)))] [(0, (ZjK L0 v1 ((v11.getD v3 RH.z).a0) ((v11.getD v3 RH.z).a1)   0 2))]) [0, 1] [some (ms RD L0), some (vs 0 0 v1.length v1.length), some (vT), some (vp 1 0), some (κbu v3)] (kW ((v3 : Int) + 1) (((v3 + 1) : Nat) : Int) <| kX (dP (Zfi #[ms RD L0, vs 0 0 v1.length v1.length, Value.agg #[vi (v11.getD v3 RH.z).a0, vi (v11.getD v3 RH.z).a1], vT] L0 v1 ((v11.getD v3 RH.z).a0) ((v11.getD v3 RH.z).a1)   0 2)) true (Z2 (Zow #[ms RD L0, vs 0 0 v1.length v1.length, Value.agg #[vi (v11.getD v3 RH.z).a0, vi (v11.getD v3 RH.z).a1], vT] L0 v1 ((v11.getD v3 RH.z).a0) ((v11.getD v3 RH.z).a1)   N c1 0 2 rfl (by decide) (by decide))) <| kR (Zb RB v1) w1) (tC (tC (tC (tC (tC (tE)))))) (bR <| bS [vi v4, vi v5, vi v6, vi v7, vi v8, vi v9, vi v10, ms RB v11] <| bE) (show 1 ∈ Zt (ZmB 1) from by decide +kernel)
  | r1 y1_0 =>
   refine Mach.ok_ite (fun g2 => ?_) (fun _ => Mach.ok_none)
   exact Mach.okN (Zj (oq [1]) [(0, (((v3 + 1) : Nat) : Int))] [(0, v3)] [(2, (RB.cel (v11.getD v3 RH.z)))] [(0, (ZjL L0 v1 ((v11.getD v3 RH.z).a0) ((v11.getD v3 RH.z).a1)  y1_0 0 2))]) [2, 1] [some (ms RD L0), some (vs 2 0 y1_0.length y1_0.length), some (vT), some (vp 1 0), some (κbu v3)] (kW ((v3 : Int) + 1) (((v3 + 1) : Nat) : Int) <| kX (dP (Zfj #[ms RD L0, vs 0 0 v1.length v1.length, Value.agg #[vi (v11.getD v3 RH.z).a0, vi (v11.getD v3 RH.z).a1], vT] L0 v1 ((v11.getD v3 RH.z).a0) ((v11.getD v3 RH.z).a1)  y1_0 0 2)) true (Z2 (Zox #[ms RD L0, vs 0 0 v1.length v1.length, Value.agg #[vi (v11.getD v3 RH.z).a0, vi (v11.getD v3 RH.z).a1], vT] L0 v1 ((v11.getD v3 RH.z).a0) ((v11.getD v3 RH.z).a1)  y1_0 N c1 0 2 rfl (by decide) (by decide))) <| kR (Zb RB v1) w1) (tC (tC (tC (tC (tC (tE)))))) (bR <| bS [vi v4, vi v5, vi v6, vi v7, vi v8, vi v9, vi v10, ms RB v11] <| bE) (show 1 ∈ Zt (ZmB 1) from by decide +kernel)
 ·
  exact Mach.okF (Zj (oq [0]) [] [] [] []) [0] (vs 0 0 v1.length v1.length) (hN g0 Zk) (bR <| bE)

noncomputable abbrev κbf (L0 : List RL) (a1 a2 : Int) := #[ms RD L0, vn, Value.agg #[vi a1, vi a2], vT]
theorem Zpp (L0 : List RL) (a1 a2 : Int) (N : Nat) : (Zf0 L0 a1 a2 N).Enter Tryz.prog Zu (κbf L0 a1 a2) (Zdh L0 a1 a2 N) := by
 unfold Zdh
 refine Mach.en_bind (fun z0 c0 => ?_)
 cases z0 with
 | r0 y0_0 y0_1 y0_2 y0_3 y0_4 y0_5 y0_6 y0_7 =>
  refine Mach.en_bind (fun z1 c1 => ?_)
  cases z1 with
  | r0 y1_0 =>
   have w2 := kK (Zc8 c1 [] 2) <| kK (ZcB c0 [] 1) Zk
   refine Mach.en_ite (fun g2 => ?_) (fun g2 => ?_)
   ·
    exact Mach.enF (Zj (oq [1]) [] [] [] [(0, (ZaN c0 [] 1).t), (2, (Za7 c1 [] 2).t)]) [] (vn) (kX ((!y1_0)) true (Zfx (by first | assumption | simp_all)) w2) bE
   ·
    have w3 := kX ((!y1_0)) false (Zd5 (by first | assumption | exact Decidable.not_not.1 (by assumption) | simp_all)) w2
    refine Mach.en_bind (fun z3 c3 => ?_)
    cases z3 with
    | r0 =>
     refine Mach.en_ite (fun g4 => ?_) (fun g4 => ?_)
     ·
      exact Mach.enF (Zj (oq [0, 3]) [] [] [] [(0, (ZaN c0 [] 1).t), (2, (Za7 c1 [] 2).t), (3, (ZgL c3 [] 2).t)]) [] (vn) (hD g4 <| kK (Zjk c3 [] 2) w3) bE
     ·
      exact Mach.enH (Ze1 1) (Zj (oq [0, 2]) [] [] [] [(0, (ZaN c0 [] 1).t), (2, (Za7 c1 [] 2).t), (3, (ZgL c3 [] 2).t)]) [3, 1] [some (ms RD L0), some (vs 3 0 1 1), some (vT), some (vp 1 0), some (vq)] (kE y0_5 1 <| kK (Zjk c3 [] 2) w3) (tC (tC (tC (tC (tC (tE) ⟨Eq.trans (show κbk = vq from (congrArg (Value.int .i64) (by first | rfl | omega))) (by rfl), by rfl⟩))) ⟨Eq.trans (show (vs 0 0 ([(⟨a1, a2⟩ : RH)] : List RH).length ([(⟨a1, a2⟩ : RH)] : List RH).length : Value) = vs 0 0 1 1 from (Z5 rfl eqA eqA)) (by rfl), by rfl⟩)) (bC (o := .cells [vi a1, vi a2] 42) (Zc5 (E := RB) _ (L := ([(⟨a1, a2⟩ : RH)] : List RH)) _ (show ([vi a1, vi a2] : List Value) = Zb RB ([(⟨a1, a2⟩ : RH)] : List RH) from rfl)) <| bS [vi y0_0, vi y0_1, vi y0_2, vi y0_3, vi y0_4, vi y0_5, vi y0_6, ms RB y0_7] <| bE) (show Zt (Ze1 1).2 = [] from rfl)
 | r1 =>
  refine Mach.en_bind (fun z1 c1 => ?_)
  cases z1 with
  | r0 y1_0 =>
   refine Mach.en_ite (fun g2 => ?_) (fun g2 => ?_)
   ·
    exact Mach.enF (Zj (oq [1]) [] [] [] [(0, (ZbR c0 [] 1).t), (2, (Za7 c1 [] 2).t)]) [] (vn) (kX ((!y1_0)) true (Zfx (by first | assumption | simp_all)) <| kK (Zc8 c1 [] 2) <| kK (ZdQ c0 [] 1) Zk) bE
   ·
    refine Mach.en_bind (fun z3 c3 => ?_)
    cases z3 with
    | r0 =>
     exact Mach.enF (Zj (oq [0]) [] [] [] [(0, (ZbR c0 [] 1).t), (2, (Za7 c1 [] 2).t), (3, (ZgL c3 [] 2).t)]) [] (vn) (kK (Zjk c3 [] 2) <| kX ((!y1_0)) false (Zd5 (by first | assumption | exact Decidable.not_not.1 (by assumption) | simp_all)) <| kK (Zc8 c1 [] 2) <| kK (ZdQ c0 [] 1) Zk) bE

theorem ZiM (L0 : List RL) (a1 a2 : Int) (N : Nat) (r : Zbl) (h : Zfg L0 a1 a2 N = some r) : LSpec Tryz.prog 52 (κbf L0 a1 a2) [] (ZmA L0 a1 a2 r) (ZlM L0 a1 a2 r) :=
 Mach.spec Zz (Zf0 L0 a1 a2 N) Tryz.func52 (by kernel_rfl) (by kernel_rfl) (fun x => by cases x <;> exact ZB _ rfl) (fun r => by cases r <;> exact ZB _ rfl) (fun x => by
  cases x with
  | h1m0 _ _ _ _ _ _ _ _ _ _ => exact fun _ => (show ¬ (1 ∈ Zt (Ze1 1).2) from by decide +kernel)
  ) (fun x => (show (Zf0 L0 a1 a2 N).Ok Tryz.prog Zu x (ZdO L0 a1 a2 N x) from by
  cases x with
  | h1m0 v1 v3 v4 v5 v6 v7 v8 v9 v10 v11 => exact Znc L0 a1 a2 v1 v3 v4 v5 v6 v7 v8 v9 v10 v11 N
  )) (Zpp L0 a1 a2 N) (n := N) h

noncomputable def ZlO {L0 : List RL} {a1 a2 : Int} {N : Nat} (h : Zfg L0 a1 a2 N = some (.r0)) (ks : List Nat) (n : Nat) : ToldS := ⟨(κbf L0 a1 a2), [], vn, [], 0⟩

theorem ZqB {L0 : List RL} {a1 a2 : Int} {N : Nat} (h : Zfg L0 a1 a2 N = some (.r0)) (ks : List Nat) (n : Nat) (hk : ks.length = 0 := by rfl) (hnd : ks.Nodup := by decide +kernel) (hlt : ∀ k ∈ ks, k < n := by decide +kernel) : (ZlO (N := N)  h ks n).P Tryz.prog 52 n :=
 match ks, hk, hnd, hlt with
 | [], _, hnd, hlt => Za3 (show LSpec Tryz.prog 52 (κbf L0 a1 a2) [] (vn) [] from ZiM L0 a1 a2 N _ h) _ n [] hnd hlt

noncomputable def ZlP {L0 : List RL} {a1 a2 : Int} {w0 : List RH} {N : Nat} (h : Zfg L0 a1 a2 N = some (.r1 w0)) (ks : List Nat) (n : Nat) : ToldS := ⟨(κbf L0 a1 a2), [], vs n 0 w0.length w0.length, [(n, some (κbm w0))], 1⟩

theorem ZqC {L0 : List RL} {a1 a2 : Int} {w0 : List RH} {N : Nat} (h : Zfg L0 a1 a2 N = some (.r1 w0)) (ks : List Nat) (n : Nat) (hk : ks.length = 0 := by rfl) (hnd : ks.Nodup := by decide +kernel) (hlt : ∀ k ∈ ks, k < n := by decide +kernel) : (ZlP (N := N)  h ks n).P Tryz.prog 52 n :=
 match ks, hk, hnd, hlt with
 | [], _, hnd, hlt => Za3 (show LSpec Tryz.prog 52 (κbf L0 a1 a2) [] (vs 0 0 w0.length w0.length) [some (κbm w0)] from ZiM L0 a1 a2 N _ h) _ n [0] hnd hlt

end Ev
end Go.Proofs.YtiijipocjellpaaGreat
namespace Go.Proofs.YtiijipocjellpaaGreat
open Go.IntKind (i64)
open Go.RowKit
namespace Ev
set_option linter.unusedVariables false
set_option maxRecDepth 100000
set_option maxHeartbeats 4000000
noncomputable def ZjM (L0 : List RL) (a1 a2 : Int) : ZcZ → Value
 | .r0 => vn
 | .r1 w0 => vs 0 0 w0.length w0.length
noncomputable def ZiN (L0 : List RL) (a1 a2 : Int) : ZcZ → List (Option AObj)
 | .r0 => []
 | .r1 w0 => [some (.cells (Zb RB w0) 42)]

theorem Znd (L0 : List RL) (a1 a2 : Int) (N : Nat) : Fx Tryz.prog Zu Tryz.f16 [] (κt L0 a1 a2) (ZjM L0 a1 a2) (ZiN L0 a1 a2) (Zal L0 a1 a2 N) := by
 unfold Zal
 refine Zcc (fun z0 c0 => ?_)
 cases z0 with
 | r0 =>
  exact fxC (Zj (oq []) [] [] [] [(0, (ZlO c0 [] 1).t)]) [] (vn) (kK (ZqB c0 [] 1) Zk) bE
 | r1 y0_0 =>
  exact fxC (Zj (oq []) [] [] [] [(0, (ZlP c0 [] 1).t)]) [1] (vs 1 0 y0_0.length y0_0.length) (kK (ZqC c0 [] 1) Zk) (bR <| bE)

theorem Zhc (L0 : List RL) (a1 a2 : Int) (N : Nat) (r : ZcZ) (h : Zal L0 a1 a2 N = some r) : LSpec Tryz.prog 16 (κt L0 a1 a2) [] (ZjM L0 a1 a2 r) (ZiN L0 a1 a2 r) :=
 Zbc Zz Tryz.func16 (by kernel_rfl) (by kernel_rfl) (fun r => by cases r <;> exact ZB _ rfl) (Znd L0 a1 a2 N) h

noncomputable def Zgo {L0 : List RL} {a1 a2 : Int} {N : Nat} (h : Zal L0 a1 a2 N = some (.r0)) (ks : List Nat) (n : Nat) : ToldS := ⟨(κt L0 a1 a2), [], vn, [], 0⟩

theorem ZiO {L0 : List RL} {a1 a2 : Int} {N : Nat} (h : Zal L0 a1 a2 N = some (.r0)) (ks : List Nat) (n : Nat) (hk : ks.length = 0 := by rfl) (hnd : ks.Nodup := by decide +kernel) (hlt : ∀ k ∈ ks, k < n := by decide +kernel) : (Zgo (N := N)  h ks n).P Tryz.prog 16 n :=
 match ks, hk, hnd, hlt with
 | [], _, hnd, hlt => Za3 (show LSpec Tryz.prog 16 (κt L0 a1 a2) [] (vn) [] from Zhc L0 a1 a2 N _ h) _ n [] hnd hlt

noncomputable def Zgp {L0 : List RL} {a1 a2 : Int} {w0 : List RH} {N : Nat} (h : Zal L0 a1 a2 N = some (.r1 w0)) (ks : List Nat) (n : Nat) : ToldS := ⟨(κt L0 a1 a2), [], vs n 0 w0.length w0.length, [(n, some (κbm w0))], 1⟩

theorem ZiP {L0 : List RL} {a1 a2 : Int} {w0 : List RH} {N : Nat} (h : Zal L0 a1 a2 N = some (.r1 w0)) (ks : List Nat) (n : Nat) (hk : ks.length = 0 := by rfl) (hnd : ks.Nodup := by decide +kernel) (hlt : ∀ k ∈ ks, k < n := by decide +kernel) : (Zgp (N := N)  h ks n).P Tryz.prog 16 n :=
 match ks, hk, hnd, hlt with
 | [], _, hnd, hlt => Za3 (show LSpec Tryz.prog 16 (κt L0 a1 a2) [] (vs 0 0 w0.length w0.length) [some (κbm w0)] from Zhc L0 a1 a2 N _ h) _ n [0] hnd hlt

noncomputable def Zgy (a0 a1 a2 a3 a4 a5 a6 a7 a8 a9 a10 a11 a12 a13 a14 a15 a16 : Int) (b17 : Bool) (L18 : List RO) (a19 : Int) (b20 b21 : Bool) (a22 a23 a24 a25 a26 a27 a28 : Int) (L29 : List RG) (a30 a31 a32 a33 a34 a35 a36 a37 : Int) (L38 : List RJ) (L39 : List RH) (L40 L41 : List Int) (a42 a43 a44 a45 : Int) (L46 : List Int) (L47 : List RH) (n48 n49 : Nat) : ZbK → Value
 | .r0 w15 => vq
noncomputable abbrev κ3 (L40 L41 : List Int) := [vs 8 0 L40.length L40.length, vs 9 0 L41.length L41.length]
noncomputable abbrev κQ (a37 : Int) (L38 : List RJ) (L39 : List RH) := (ZG (vi a37) (vs 6 0 L38.length L38.length) (vs 7 0 L39.length L39.length))
noncomputable abbrev κD (a28 : Int) (L29 : List RG) (a30 a31 a32 a33 a34 a35 a36 : Int) := (Z1 Zh9 64 [vi a28] L29 [vi a30, vi a31, vi a32, vi a33, vi a34, vi a35, vi a36, vp 2 0, vp 3 0, vp 4 0, vp 5 0])
noncomputable def Zgq (a0 a1 a2 a3 a4 a5 a6 a7 a8 a9 a10 a11 a12 a13 a14 a15 a16 : Int) (b17 : Bool) (L18 : List RO) (a19 : Int) (b20 b21 : Bool) (a22 a23 a24 a25 a26 a27 a28 : Int) (L29 : List RG) (a30 a31 a32 a33 a34 a35 a36 a37 : Int) (L38 : List RJ) (L39 : List RH) (L40 L41 : List Int) (a42 a43 a44 a45 : Int) (L46 : List Int) (L47 : List RH) (n48 n49 : Nat) : ZbK → List (Option AObj)
 | .r0 w15 => [some (.cells (Z1 Zf 1 [] ([(⟨a0, a1, a2, a3, a4, a5, a6, a7, a8, a9, a10, a11, a12, a13, a14, a15⟩ : RO)] : List RO) [vn, vi a16, Value.bool b17, vf, vi a22, vq, vq, vq, vp 1 0, vi a26, (fnV w15)]) 141), some (.cells (κD a28 L29 a30 a31 a32 a33 a34 a35 a36) 132), some (.cells (κQ a37 L38 L39) 154), some (.cells (κ3 L40 L41) 191), some (.cells [vi a42, vi a43, vi a44] 208), some (.cells (Z1 eI 64 [vi a45] L46 []) 211), some (.cells (Zb RC L38) 57), some (.cells (Zb RB L39) 42), some (.cells (Zb eI L40) 188), some (.cells (Zb eI L41) 188), some (.cells (Zb RB L47) 42 true)]

noncomputable abbrev κl (L18 : List RO) (n48 n49 : Nat) (a19 : Int) (b20 b21 : Bool) (a22 a23 a24 a25 a26 a27 a28 : Int) (L29 : List RG) (a30 a31 a32 a33 a34 a35 a36 a37 : Int) (L38 : List RJ) (L39 : List RH) (L40 L41 : List Int) (a42 a43 a44 a45 : Int) (L46 : List Int) (L47 : List RH) := [AObj.cells (Z1 Zf 1 [] L18 [vs 10 (n48 * 2) n49 n49, vi a19, Value.bool b20, Value.bool b21, vi a22, vi a23, vi a24, vi a25, vp 1 0, vi a26, (fnV a27)]) 141, AObj.cells (κD a28 L29 a30 a31 a32 a33 a34 a35 a36) 132, AObj.cells (κQ a37 L38 L39) 154, AObj.cells (κ3 L40 L41) 191, AObj.cells [vi a42, vi a43, vi a44] 208, AObj.cells (Z1 eI 64 [vi a45] L46 []) 211, AObj.cells (Zb RC L38) 57, AObj.cells (Zb RB L39) 42, AObj.cells (Zb eI L40) 188, AObj.cells (Zb eI L41) 188, AObj.cells (Zb RB L47) 42 true]
theorem ZjN (a0 a1 a2 a3 a4 a5 a6 a7 a8 a9 a10 a11 a12 a13 a14 a15 a16 : Int) (b17 : Bool) (L18 : List RO) (a19 : Int) (b20 b21 : Bool) (a22 a23 a24 a25 a26 a27 a28 : Int) (L29 : List RG) (a30 a31 a32 a33 a34 a35 a36 a37 : Int) (L38 : List RJ) (L39 : List RH) (L40 L41 : List Int) (a42 a43 a44 a45 : Int) (L46 : List Int) (L47 : List RH) (n48 n49 N : Nat) : Fx Tryz.prog Zu Tryz.f50 (κl L18 n48 n49 a19 b20 b21 a22 a23 a24 a25 a26 a27 a28 L29 a30 a31 a32 a33 a34 a35 a36 a37 L38 L39 L40 L41 a42 a43 a44 a45 L46 L47) #[vp 0 0, Value.agg #[vi a0, vi a1, vi a2, vi a3, vi a4, vi a5, vi a6, vi a7, vi a8, vi a9, vi a10, vi a11, vi a12, vi a13, vi a14, vi a15, vn, vi a16, Value.bool b17]] (Zgy a0 a1 a2 a3 a4 a5 a6 a7 a8 a9 a10 a11 a12 a13 a14 a15 a16 b17 L18 a19 b20 b21 a22 a23 a24 a25 a26 a27 a28 L29 a30 a31 a32 a33 a34 a35 a36 a37 L38 L39 L40 L41 a42 a43 a44 a45 L46 L47 n48 n49) (Zgq a0 a1 a2 a3 a4 a5 a6 a7 a8 a9 a10 a11 a12 a13 a14 a15 a16 b17 L18 a19 b20 b21 a22 a23 a24 a25 a26 a27 a28 L29 a30 a31 a32 a33 a34 a35 a36 a37 L38 L39 L40 L41 a42 a43 a44 a45 L46 L47 n48 n49) (ZY a0 a1 a2 a3 a4 a5 a6 a7 a8 a9 a10 a11 a12 a13 a14 a15 a16 b17 L18 a19 b20 b21 a22 a23 a24 a25 a26 a27 a28 L29 a30 a31 a32 a33 a34 a35 a36 a37 L38 L39 L40 L41 a42 a43 a44 a45 L46 L47 n48 n49 N) := by
 unfold ZY
 refine Zg (fun g0 => ?_) (fun _ => Zo)
 refine Zg (fun g1 => ?_) (fun _ => Zo)
 ·
  subst g1
  refine Zg (fun g2 => ?_) (fun g2 => ?_)
  ·
   exact fxC (Zj (oq [9]) [] [] [] []) (rg 0 11 []) (vq) (hT g2 Zk) (bM (.cells (Z1 Zf 1 [] ([(⟨a0, a1, a2, a3, a4, a5, a6, a7, a8, a9, a10, a11, a12, a13, a14, a15⟩ : RO)] : List RO) [vn, vi a16, Value.bool b17, vf, vi a22, vq, vq, vq, vp 1 0, vi a26, Value.func (.func 105) #[] #[]]) 141) <| bM (.cells (κD a28 L29 a30 a31 a32 a33 a34 a35 a36) 132) <| bS (κQ a37 L38 L39) <| bS (κ3 L40 L41) <| bS [vi a42, vi a43, vi a44] <| bM (.cells (Z1 eI 64 [vi a45] L46 []) 211) <| bR <| bR <| bR <| bR <| bQ <| bE)
  ·
   exact fxC (Zj (oq [8]) [] [] [] []) (rg 0 11 []) (vq) (hF g2 Zk) (bM (.cells (Z1 Zf 1 [] ([(⟨a0, a1, a2, a3, a4, a5, a6, a7, a8, a9, a10, a11, a12, a13, a14, a15⟩ : RO)] : List RO) [vn, vi a16, Value.bool b17, vf, vi a22, vq, vq, vq, vp 1 0, vi a26, Value.func (.func 104) #[] #[]]) 141) <| bM (.cells (κD a28 L29 a30 a31 a32 a33 a34 a35 a36) 132) <| bS (κQ a37 L38 L39) <| bS (κ3 L40 L41) <| bS [vi a42, vi a43, vi a44] <| bM (.cells (Z1 eI 64 [vi a45] L46 []) 211) <| bR <| bR <| bR <| bR <| bQ <| bE)

theorem Zi4 (a0 a1 a2 a3 a4 a5 a6 a7 a8 a9 a10 a11 a12 a13 a14 a15 a16 : Int) (b17 : Bool) (L18 : List RO) (a19 : Int) (b20 b21 : Bool) (a22 a23 a24 a25 a26 a27 a28 : Int) (L29 : List RG) (a30 a31 a32 a33 a34 a35 a36 a37 : Int) (L38 : List RJ) (L39 : List RH) (L40 L41 : List Int) (a42 a43 a44 a45 : Int) (L46 : List Int) (L47 : List RH) (n48 n49 N : Nat) (r : ZbK) (h : ZY a0 a1 a2 a3 a4 a5 a6 a7 a8 a9 a10 a11 a12 a13 a14 a15 a16 b17 L18 a19 b20 b21 a22 a23 a24 a25 a26 a27 a28 L29 a30 a31 a32 a33 a34 a35 a36 a37 L38 L39 L40 L41 a42 a43 a44 a45 L46 L47 n48 n49 N = some r) : LSpec Tryz.prog 50 #[vp 0 0, Value.agg #[vi a0, vi a1, vi a2, vi a3, vi a4, vi a5, vi a6, vi a7, vi a8, vi a9, vi a10, vi a11, vi a12, vi a13, vi a14, vi a15, vn, vi a16, Value.bool b17]] (κl L18 n48 n49 a19 b20 b21 a22 a23 a24 a25 a26 a27 a28 L29 a30 a31 a32 a33 a34 a35 a36 a37 L38 L39 L40 L41 a42 a43 a44 a45 L46 L47) (Zgy a0 a1 a2 a3 a4 a5 a6 a7 a8 a9 a10 a11 a12 a13 a14 a15 a16 b17 L18 a19 b20 b21 a22 a23 a24 a25 a26 a27 a28 L29 a30 a31 a32 a33 a34 a35 a36 a37 L38 L39 L40 L41 a42 a43 a44 a45 L46 L47 n48 n49 r) (Zgq a0 a1 a2 a3 a4 a5 a6 a7 a8 a9 a10 a11 a12 a13 a14 a15 a16 b17 L18 a19 b20 b21 a22 a23 a24 a25 a26 a27 a28 L29 a30 a31 a32 a33 a34 a35 a36 a37 L38 L39 L40 L41 a42 a43 a44 a45 L46 L47 n48 n49 r) :=
 Zbc Zz Tryz.func50 (by kernel_rfl) (by kernel_rfl) (fun r => by cases r <;> exact ZB _ rfl) (ZjN a0 a1 a2 a3 a4 a5 a6 a7 a8 a9 a10 a11 a12 a13 a14 a15 a16 b17 L18 a19 b20 b21 a22 a23 a24 a25 a26 a27 a28 L29 a30 a31 a32 a33 a34 a35 a36 a37 L38 L39 L40 L41 a42 a43 a44 a45 L46 L47 n48 n49 N) h

noncomputable def Zab {a0 a1 a2 a3 a4 a5 a6 a7 a8 a9 a10 a11 a12 a13 a14 a15 a16 : Int} {b17 : Bool} {L18 : List RO} {a19 : Int} {b20 b21 : Bool} {a22 a23 a24 a25 a26 a27 a28 : Int} {L29 : List RG} {a30 a31 a32 a33 a34 a35 a36 a37 : Int} {L38 : List RJ} {L39 : List RH} {L40 L41 : List Int} {a42 a43 a44 a45 : Int} {L46 : List Int} {L47 : List RH} {n48 n49 : Nat} {w15 : Int} {N : Nat} (h : ZY a0 a1 a2 a3 a4 a5 a6 a7 a8 a9 a10 a11 a12 a13 a14 a15 a16 b17 L18 a19 b20 b21 a22 a23 a24 a25 a26 a27 a28 L29 a30 a31 a32 a33 a34 a35 a36 a37 L38 L39 L40 L41 a42 a43 a44 a45 L46 L47 n48 n49 N = some (.r0 w15)) (ks : List Nat) (n : Nat) : ToldS := ⟨#[vp (nth ks 0) 0, Value.agg #[vi a0, vi a1, vi a2, vi a3, vi a4, vi a5, vi a6, vi a7, vi a8, vi a9, vi a10, vi a11, vi a12, vi a13, vi a14, vi a15, vn, vi a16, Value.bool b17]], [((nth ks 0), .cells (Z1 Zf 1 [] L18 [vs (nth ks 10) (n48 * 2) n49 n49, vi a19, Value.bool b20, Value.bool b21, vi a22, vi a23, vi a24, vi a25, vp (nth ks 1) 0, vi a26, (fnV a27)]) 141), ((nth ks 1), .cells (Z1 Zh9 64 [vi a28] L29 [vi a30, vi a31, vi a32, vi a33, vi a34, vi a35, vi a36, vp (nth ks 2) 0, vp (nth ks 3) 0, vp (nth ks 4) 0, vp (nth ks 5) 0]) 132), ((nth ks 2), .cells (ZG (vi a37) (vs (nth ks 6) 0 L38.length L38.length) (vs (nth ks 7) 0 L39.length L39.length)) 154), ((nth ks 3), .cells [vs (nth ks 8) 0 L40.length L40.length, vs (nth ks 9) 0 L41.length L41.length] 191), ((nth ks 4), .cells [vi a42, vi a43, vi a44] 208), ((nth ks 5), .cells (Z1 eI 64 [vi a45] L46 []) 211), ((nth ks 6), .cells (Zb RC L38) 57), ((nth ks 7), .cells (Zb RB L39) 42), ((nth ks 8), .cells (Zb eI L40) 188), ((nth ks 9), .cells (Zb eI L41) 188), ((nth ks 10), .cells (Zb RB L47) 42 true)], vq, [((nth ks 0), some (.cells (Z1 Zf 1 [] ([(⟨a0, a1, a2, a3, a4, a5, a6, a7, a8, a9, a10, a11, a12, a13, a14, a15⟩ : RO)] : List RO) [vn, vi a16, Value.bool b17, vf, vi a22, vq, vq, vq, vp (nth ks 1) 0, vi a26, (fnV w15)]) 141))], 0⟩

theorem Zem {a0 a1 a2 a3 a4 a5 a6 a7 a8 a9 a10 a11 a12 a13 a14 a15 a16 : Int} {b17 : Bool} {L18 : List RO} {a19 : Int} {b20 b21 : Bool} {a22 a23 a24 a25 a26 a27 a28 : Int} {L29 : List RG} {a30 a31 a32 a33 a34 a35 a36 a37 : Int} {L38 : List RJ} {L39 : List RH} {L40 L41 : List Int} {a42 a43 a44 a45 : Int} {L46 : List Int} {L47 : List RH} {n48 n49 : Nat} {w15 : Int} {N : Nat} (h : ZY a0 a1 a2 a3 a4 a5 a6 a7 a8 a9 a10 a11 a12 a13 a14 a15 a16 b17 L18 a19 b20 b21 a22 a23 a24 a25 a26 a27 a28 L29 a30 a31 a32 a33 a34 a35 a36 a37 L38 L39 L40 L41 a42 a43 a44 a45 L46 L47 n48 n49 N = some (.r0 w15)) (ks : List Nat) (n : Nat) (hk : ks.length = 11 := by rfl) (hnd : ks.Nodup := by decide +kernel) (hlt : ∀ k ∈ ks, k < n := by decide +kernel) : (Zab (N := N)  h ks n).P Tryz.prog 50 n :=
 match ks, hk, hnd, hlt with
 | [k0, k1, k2, k3, k4, k5, k6, k7, k8, k9, k10], _, hnd, hlt => ZlC (show LSpec Tryz.prog 50 #[vp 0 0, Value.agg #[vi a0, vi a1, vi a2, vi a3, vi a4, vi a5, vi a6, vi a7, vi a8, vi a9, vi a10, vi a11, vi a12, vi a13, vi a14, vi a15, vn, vi a16, Value.bool b17]] (κl L18 n48 n49 a19 b20 b21 a22 a23 a24 a25 a26 a27 a28 L29 a30 a31 a32 a33 a34 a35 a36 a37 L38 L39 L40 L41 a42 a43 a44 a45 L46 L47) (vq) [some (.cells (Z1 Zf 1 [] ([(⟨a0, a1, a2, a3, a4, a5, a6, a7, a8, a9, a10, a11, a12, a13, a14, a15⟩ : RO)] : List RO) [vn, vi a16, Value.bool b17, vf, vi a22, vq, vq, vq, vp 1 0, vi a26, (fnV w15)]) 141), some (.cells (κD a28 L29 a30 a31 a32 a33 a34 a35 a36) 132), some (.cells (κQ a37 L38 L39) 154), some (.cells (κ3 L40 L41) 191), some (.cells [vi a42, vi a43, vi a44] 208), some (.cells (Z1 eI 64 [vi a45] L46 []) 211), some (.cells (Zb RC L38) 57), some (.cells (Zb RB L39) 42), some (.cells (Zb eI L40) 188), some (.cells (Zb eI L41) 188), some (.cells (Zb RB L47) 42 true)] from Zi4 a0 a1 a2 a3 a4 a5 a6 a7 a8 a9 a10 a11 a12 a13 a14 a15 a16 b17 L18 a19 b20 b21 a22 a23 a24 a25 a26 a27 a28 L29 a30 a31 a32 a33 a34 a35 a36 a37 L38 L39 L40 L41 a42 a43 a44 a45 L46 L47 n48 n49 N _ h) _ n [0] hnd hlt

noncomputable def ZiQ (a0 a1 a2 a3 : Int) (L4 : List RJ) (L5 : List RH) : Zbs → Value
 | .r0 w2 w3 w4 => Value.tuple #[Value.agg #[vi w2, vi w3], vi w4]
noncomputable abbrev κF (a3 : Int) (L4 : List RJ) (L5 : List RH) := (ZG (vi a3) (vs 1 0 L4.length L4.length) (vs 2 0 L5.length L5.length))
noncomputable def Zin (a0 a1 a2 a3 : Int) (L4 : List RJ) (L5 : List RH) : Zbs → List (Option AObj)
 | .r0 w2 w3 w4 => [some (.cells (κF a3 L4 L5) 154), some (.cells (Zb RC L4) 57), some (.cells (Zb RB L5) 42)]

theorem Zms (a0 a1 a2 a3 : Int) (L4 : List RJ) (L5 : List RH) (N : Nat) : Fx Tryz.prog Zu Tryz.f22 [.cells (κF a3 L4 L5) 154, .cells (Zb RC L4) 57, .cells (Zb RB L5) 42] #[vp 0 0, Value.agg #[vi a0, vi a1], vi a2] (ZiQ a0 a1 a2 a3 L4 L5) (Zin a0 a1 a2 a3 L4 L5) (Zr a0 a1 a2 a3 L4 L5 N) := by
 unfold Zr
 refine Zg (fun g0 => ?_) (fun _ => Zo)
 refine Zg (fun g1 => ?_) (fun g1 => ?_)
 ·
  exact fxC (Zj (oq [3, 7]) [] [] [] []) [0, 1, 2] (Value.tuple #[Value.agg #[vq, vq], vi 10]) (hD g1 <| kY (a3 > 0) Zk) (bS (κF a3 L4 L5) <| bR <| bR <| bE)
 ·
  have w2 := kT a0 2 <| kE a0 2 <| kY (a3 > 0) Zk
  refine Zg (fun g2 => ?_) (fun g2 => ?_)
  ·
   refine Zg (fun g3 => ?_) (fun _ => Zo)
   refine Zg (fun g4 => ?_) (fun _ => Zo)
   have w5 := kM a1 1048576 <| kV a1 1048576 <| kY (a1 > 0) <| hD g2 w2
   refine Zg (fun g5 => ?_) (fun _ => Zo)
   refine Zg (fun g6 => ?_) (fun _ => Zo)
   have w7 := hY g6 <| kY ((a1 / 1048576) ≥ 1) w5
   refine Zg (fun g7 => ?_) (fun _ => Zo)
   have w8 := kM a1 1048576 <| kY ((a1 % 1048576) ≤ 1048575) <| kY ((a1 % 1048576) ≥ 1) <| hY g6 <| kY ((a1 / 1048576) ≥ 1) <| kM a1 1048576 <| kV a1 1048576 <| kY (a1 > 0) <| kE a0 2 <| kO ((a0 == 2) && ((a1 == 0) && true)) <| kY ((a1 % 1048576) ≤ 1048575) <| kY ((a1 % 1048576) ≥ 1) w7
   refine Zg (fun _ => Zo) (fun g8 => ?_)
   have w9 := kV a1 1048576 <| kY ((a1 % 1048576) ≤ 1048575) <| kY ((a1 % 1048576) ≥ 1) <| hY g6 <| kY ((a1 / 1048576) ≥ 1) <| kM a1 1048576 <| kV a1 1048576 <| kY (a1 > 0) <| kE a0 2 <| kL RC L4 ((((a1 % 1048576) - 1)).toNat) 0 1 <| kB (((a1 % 1048576) - 1)).toNat L4.length <| kI ((a1 % 1048576) - 1) (Int.ofNat (((a1 % 1048576) - 1)).toNat) <| kW ((a1 % 1048576) - 1) ((a1 % 1048576) - 1) <| kN ((a1 % 1048576) > (L4.length : Int)) w8
   refine Zg (fun _ => Zo) (fun g9 => ?_)
   have w10 := kL RC L4 ((((a1 % 1048576) - 1)).toNat) 3 1 <| kE ((L4.getD (((a1 % 1048576) - 1)).toNat RJ.z).a0) (a1 / 1048576) w9
   refine Zg (fun _ => Zo) (fun g10 => ?_)
   refine Zg (fun g11 => ?_) (fun g11 => ?_)
   ·
    exact fxC (Zj (oq [3, 6, 9, 11, 13, 15, 17, 19, 21, 26, 28, 31, 33, 35, 37, 39, 42, 44, 47, 49, 51, 53, 55, 58, 60, 65]) [(0, (a1 / 1048576)), (1, (a1 % 1048576)), (2, (a1 / 1048576)), (3, (a1 % 1048576)), (4, (a1 % 1048576)), (5, ((a1 % 1048576) - 1)), (6, (a1 / 1048576)), (7, (a1 % 1048576)), (8, (a1 / 1048576))] [(0, (((a1 % 1048576) - 1)).toNat)] [(16, [.i (L4.getD (((a1 % 1048576) - 1)).toNat RJ.z).a0]), (21, [.i (L4.getD (((a1 % 1048576) - 1)).toNat RJ.z).a3])] []) [0, 1, 2] (Value.tuple #[Value.agg #[vq, vq], vi 22]) (hY g11 <| hF g10 w10) (bS (κF a3 L4 L5) <| bR <| bR <| bE)
   ·
    have w12 := kL RC L4 ((((a1 % 1048576) - 1)).toNat) 1 1 <| kB (((a1 % 1048576) - 1)).toNat L4.length <| kI ((a1 % 1048576) - 1) (Int.ofNat (((a1 % 1048576) - 1)).toNat) <| kW ((a1 % 1048576) - 1) ((a1 % 1048576) - 1) <| hN g11 <| hF g10 w10
    refine Zg (fun g12 => ?_) (fun g12 => ?_)
    ·
     exact fxC (Zj (oq [3, 6, 9, 11, 13, 15, 17, 19, 21, 26, 28, 31, 33, 35, 37, 39, 42, 44, 47, 49, 51, 53, 55, 58, 60, 64, 67]) [(0, (a1 / 1048576)), (1, (a1 % 1048576)), (2, (a1 / 1048576)), (3, (a1 % 1048576)), (4, (a1 % 1048576)), (5, ((a1 % 1048576) - 1)), (6, (a1 / 1048576)), (7, (a1 % 1048576)), (8, (a1 / 1048576)), (9, ((a1 % 1048576) - 1))] [(0, (((a1 % 1048576) - 1)).toNat), (1, (((a1 % 1048576) - 1)).toNat)] [(16, [.i (L4.getD (((a1 % 1048576) - 1)).toNat RJ.z).a0]), (21, [.i (L4.getD (((a1 % 1048576) - 1)).toNat RJ.z).a3]), (23, [.i (L4.getD (((a1 % 1048576) - 1)).toNat RJ.z).a1])] []) [0, 1, 2] (Value.tuple #[Value.agg #[vq, vq], vi 22]) (kY (a2 ≥ (L4.getD (((a1 % 1048576) - 1)).toNat RJ.z).a1) w12) (bS (κF a3 L4 L5) <| bR <| bR <| bE)
    ·
     refine Zg (fun g13 => ?_) (fun _ => Zo)
     refine Zg (fun g14 => ?_) (fun _ => Zo)
     exact fxC (Zj (oq [3, 6, 9, 11, 13, 15, 17, 19, 21, 26, 28, 31, 33, 35, 37, 39, 42, 44, 47, 49, 51, 53, 55, 58, 60, 64, 66]) [(0, (a1 / 1048576)), (1, (a1 % 1048576)), (2, (a1 / 1048576)), (3, (a1 % 1048576)), (4, (a1 % 1048576)), (5, ((a1 % 1048576) - 1)), (6, (a1 / 1048576)), (7, (a1 % 1048576)), (8, (a1 / 1048576)), (9, ((a1 % 1048576) - 1))] [(0, (((a1 % 1048576) - 1)).toNat), (1, (((a1 % 1048576) - 1)).toNat), (2, ((i64.wrap ((a1 % 1048576) + a2))).toNat)] [(16, [.i (L4.getD (((a1 % 1048576) - 1)).toNat RJ.z).a0]), (21, [.i (L4.getD (((a1 % 1048576) - 1)).toNat RJ.z).a3]), (23, [.i (L4.getD (((a1 % 1048576) - 1)).toNat RJ.z).a1]), (25, (RB.cel (L5.getD ((i64.wrap ((a1 % 1048576) + a2))).toNat RH.z)))] []) [0, 1, 2] (Value.tuple #[Value.agg #[vi (L5.getD ((i64.wrap ((a1 % 1048576) + a2))).toNat RH.z).a0, vi (L5.getD ((i64.wrap ((a1 % 1048576) + a2))).toNat RH.z).a1], vq]) (kLn RB L5 (((i64.wrap ((a1 % 1048576) + a2))).toNat) 0 2 <| kB ((i64.wrap ((a1 % 1048576) + a2))).toNat L5.length <| kI (i64.wrap ((a1 % 1048576) + a2)) (Int.ofNat ((i64.wrap ((a1 % 1048576) + a2))).toNat) <| kN (a2 ≥ (L4.getD (((a1 % 1048576) - 1)).toNat RJ.z).a1) w12) (bS (κF a3 L4 L5) <| bR <| bR <| bE)
  ·
   exact fxC (Zj (oq [3, 6, 9, 10, 15]) [] [] [] []) [0, 1, 2] (Value.tuple #[Value.agg #[vq, vq], vi 11]) (kZ ((a0 == 2) && ((a1 == 0) && true)) <| kE a1 0 w2) (bS (κF a3 L4 L5) <| bR <| bR <| bE)

theorem ZkS (a0 a1 a2 a3 : Int) (L4 : List RJ) (L5 : List RH) (N : Nat) (r : Zbs) (h : Zr a0 a1 a2 a3 L4 L5 N = some r) : LSpec Tryz.prog 22 #[vp 0 0, Value.agg #[vi a0, vi a1], vi a2] [.cells (κF a3 L4 L5) 154, .cells (Zb RC L4) 57, .cells (Zb RB L5) 42] (ZiQ a0 a1 a2 a3 L4 L5 r) (Zin a0 a1 a2 a3 L4 L5 r) :=
 Zbc Zz Tryz.func22 (by kernel_rfl) (by kernel_rfl) (fun r => by cases r <;> exact ZB _ rfl) (Zms a0 a1 a2 a3 L4 L5 N) h

noncomputable def Z8 {a0 a1 a2 a3 : Int} {L4 : List RJ} {L5 : List RH} {w2 w3 w4 : Int} {N : Nat} (h : Zr a0 a1 a2 a3 L4 L5 N = some (.r0 w2 w3 w4)) (ks : List Nat) (n : Nat) : ToldS := ⟨#[vp (nth ks 0) 0, Value.agg #[vi a0, vi a1], vi a2], [((nth ks 0), .cells (ZG (vi a3) (vs (nth ks 1) 0 L4.length L4.length) (vs (nth ks 2) 0 L5.length L5.length)) 154), ((nth ks 1), .cells (Zb RC L4) 57), ((nth ks 2), .cells (Zb RB L5) 42)], Value.tuple #[Value.agg #[vi w2, vi w3], vi w4], [], 0⟩

theorem Zau {a0 a1 a2 a3 : Int} {L4 : List RJ} {L5 : List RH} {w2 w3 w4 : Int} {N : Nat} (h : Zr a0 a1 a2 a3 L4 L5 N = some (.r0 w2 w3 w4)) (ks : List Nat) (n : Nat) (hk : ks.length = 3 := by rfl) (hnd : ks.Nodup := by decide +kernel) (hlt : ∀ k ∈ ks, k < n := by decide +kernel) : (Z8 (N := N)  h ks n).P Tryz.prog 22 n :=
 match ks, hk, hnd, hlt with
 | [k0, k1, k2], _, hnd, hlt => Za3 (show LSpec Tryz.prog 22 #[vp 0 0, Value.agg #[vi a0, vi a1], vi a2] [.cells (κF a3 L4 L5) 154, .cells (Zb RC L4) 57, .cells (Zb RB L5) 42] (Value.tuple #[Value.agg #[vi w2, vi w3], vi w4]) [some (.cells (κF a3 L4 L5) 154), some (.cells (Zb RC L4) 57), some (.cells (Zb RB L5) 42)] from ZkS a0 a1 a2 a3 L4 L5 N _ h) _ n [] hnd hlt

end Ev
end Go.Proofs.YtiijipocjellpaaGreat
namespace Go.Proofs.YtiijipocjellpaaGreat
open Go.RowKit
namespace Ev
set_option linter.unusedVariables false
set_option maxRecDepth 100000
set_option maxHeartbeats 4000000
noncomputable def Zio (a0 a1 a2 a3 a4 a5 : Int) (L6 : List RJ) (L7 : List RH) : Zad → Value
 | .r0 w1 w2 => vi w2
noncomputable def Zhu (a0 a1 a2 a3 a4 a5 : Int) (L6 : List RJ) (L7 : List RH) : Zad → List (Option AObj)
 | .r0 w1 w2 => [some (.cells (ZG (vi a5) (vs 1 0 L6.length L6.length) (vs 2 0 w1.length w1.length)) 154), some (.cells (Zb RC L6) 57), some (.cells (Zb RB w1) 42)]

noncomputable abbrev κq (a5 : Int) (L6 : List RJ) (L7 : List RH) := (ZG (vi a5) (vs 1 0 L6.length L6.length) (vs 2 0 L7.length L7.length))
theorem ZlQ (a0 a1 a2 a3 a4 a5 : Int) (L6 : List RJ) (L7 : List RH) (N : Nat) : Fx Tryz.prog Zu Tryz.f99 [.cells (κq a5 L6 L7) 154, .cells (Zb RC L6) 57, .cells (Zb RB L7) 42] #[vp 0 0, Value.agg #[vi a0, vi a1], vi a2, Value.agg #[vi a3, vi a4]] (Zio a0 a1 a2 a3 a4 a5 L6 L7) (Zhu a0 a1 a2 a3 a4 a5 L6 L7) (Zah a0 a1 a2 a3 a4 a5 L6 L7 N) := by
 unfold Zah
 refine Zg (fun g0 => ?_) (fun _ => Zo)
 have w1 := kY (a5 > 0) Zk
 refine Zg (fun g1 => ?_) (fun g1 => ?_)
 ·
  exact fxC (Zj (oq [3, 7]) [] [] [] []) [0, 1, 2] (vi 10) (hD g1 w1) (bS (κq a5 L6 L7) <| bR <| bR <| bE)
 ·
  have w2 := kT a0 2 <| kE a0 2 w1
  refine Zg (fun g2 => ?_) (fun g2 => ?_)
  ·
   refine Zg (fun g3 => ?_) (fun _ => Zo)
   have w4 := kY (a1 > 0) <| hD g2 w2
   refine Zg (fun g4 => ?_) (fun _ => Zo)
   have w5 := kM a1 1048576 <| kV a1 1048576 w4
   refine Zg (fun g5 => ?_) (fun _ => Zo)
   have w6 := kY ((a1 / 1048576) ≥ 1) w5
   refine Zg (fun g6 => ?_) (fun _ => Zo)
   refine Zg (fun g7 => ?_) (fun _ => Zo)
   have w8 := kM a1 1048576 <| kY ((a1 % 1048576) ≤ 1048575) <| kY ((a1 % 1048576) ≥ 1) <| hY g6 <| kY ((a1 / 1048576) ≥ 1) <| kM a1 1048576 <| kV a1 1048576 <| kY (a1 > 0) <| kE a0 2 <| kO ((a0 == 2) && ((a1 == 0) && true)) <| kY ((a1 % 1048576) ≤ 1048575) <| kY ((a1 % 1048576) ≥ 1) <| hY g6 w6
   refine Zg (fun _ => Zo) (fun g8 => ?_)
   have w9 := kV a1 1048576 <| kY ((a1 % 1048576) ≤ 1048575) <| kY ((a1 % 1048576) ≥ 1) <| hY g6 <| kY ((a1 / 1048576) ≥ 1) <| kM a1 1048576 <| kV a1 1048576 <| kY (a1 > 0) <| kE a0 2 <| kL RC L6 ((((a1 % 1048576) - 1)).toNat) 0 1 <| kB (((a1 % 1048576) - 1)).toNat L6.length <| kI ((a1 % 1048576) - 1) (Int.ofNat (((a1 % 1048576) - 1)).toNat) <| kW ((a1 % 1048576) - 1) ((a1 % 1048576) - 1) <| kN ((a1 % 1048576) > (L6.length : Int)) w8
   refine Zg (fun _ => Zo) (fun g9 => ?_)
   have w10 := kL RC L6 ((((a1 % 1048576) - 1)).toNat) 3 1 <| kE ((L6.getD (((a1 % 1048576) - 1)).toNat RJ.z).a0) (a1 / 1048576) w9
   refine Zg (fun _ => Zo) (fun g10 => ?_)
   refine Zg (fun g11 => ?_) (fun g11 => ?_)
   ·
    exact fxC (Zj (oq [3, 6, 9, 11, 13, 15, 17, 19, 21, 26, 28, 31, 33, 35, 37, 39, 42, 44, 47, 49, 51, 53, 55, 58, 60, 65]) [(0, (a1 / 1048576)), (1, (a1 % 1048576)), (2, (a1 / 1048576)), (3, (a1 % 1048576)), (4, (a1 % 1048576)), (5, ((a1 % 1048576) - 1)), (6, (a1 / 1048576)), (7, (a1 % 1048576)), (8, (a1 / 1048576))] [(0, (((a1 % 1048576) - 1)).toNat)] [(16, [.i (L6.getD (((a1 % 1048576) - 1)).toNat RJ.z).a0]), (21, [.i (L6.getD (((a1 % 1048576) - 1)).toNat RJ.z).a3])] []) [0, 1, 2] (vi 22) (hY g11 <| hF g10 w10) (bS (κq a5 L6 L7) <| bR <| bR <| bE)
   ·
    have w12 := kL RC L6 ((((a1 % 1048576) - 1)).toNat) 1 1 <| kB (((a1 % 1048576) - 1)).toNat L6.length <| kI ((a1 % 1048576) - 1) (Int.ofNat (((a1 % 1048576) - 1)).toNat) <| kW ((a1 % 1048576) - 1) ((a1 % 1048576) - 1) <| hN g11 <| hF g10 w10
    refine Zg (fun g12 => ?_) (fun g12 => ?_)
    ·
     exact fxC (Zj (oq [3, 6, 9, 11, 13, 15, 17, 19, 21, 26, 28, 31, 33, 35, 37, 39, 42, 44, 47, 49, 51, 53, 55, 58, 60, 64, 67]) [(0, (a1 / 1048576)), (1, (a1 % 1048576)), (2, (a1 / 1048576)), (3, (a1 % 1048576)), (4, (a1 % 1048576)), (5, ((a1 % 1048576) - 1)), (6, (a1 / 1048576)), (7, (a1 % 1048576)), (8, (a1 / 1048576)), (9, ((a1 % 1048576) - 1))] [(0, (((a1 % 1048576) - 1)).toNat), (1, (((a1 % 1048576) - 1)).toNat)] [(16, [.i (L6.getD (((a1 % 1048576) - 1)).toNat RJ.z).a0]), (21, [.i (L6.getD (((a1 % 1048576) - 1)).toNat RJ.z).a3]), (23, [.i (L6.getD (((a1 % 1048576) - 1)).toNat RJ.z).a1])] []) [0, 1, 2] (vi 22) (kY (a2 ≥ (L6.getD (((a1 % 1048576) - 1)).toNat RJ.z).a1) w12) (bS (κq a5 L6 L7) <| bR <| bR <| bE)
    ·
     have w13 := kL RC L6 ((((a1 % 1048576) - 1)).toNat) 2 1 <| kB (((a1 % 1048576) - 1)).toNat L6.length <| kI ((a1 % 1048576) - 1) (Int.ofNat (((a1 % 1048576) - 1)).toNat) <| kW ((a1 % 1048576) - 1) ((a1 % 1048576) - 1) <| kN (a2 ≥ (L6.getD (((a1 % 1048576) - 1)).toNat RJ.z).a1) w12
     refine Zg (fun g13 => ?_) (fun _ => Zo)
     have w14 := kX ((IntKind.i64.wrap (((BitVec.ofInt IntKind.i64.bits ((L6.getD (((a1 % 1048576) - 1)).toNat RJ.z).a2 / (2 ^ (a2).toNat : Int)) &&& BitVec.ofInt IntKind.i64.bits 1).toNat : Nat) : Int)) == (((L6.getD (((a1 % 1048576) - 1)).toNat RJ.z).a2 / (2 ^ (a2).toNat : Int)) % 2)) true (beq_iff_eq.2 (Zv5 _)) <| kS a2 ((a2).toNat) .i64 w13
     refine Zg (fun g14 => ?_) (fun g14 => ?_)
     ·
      refine Zg (fun g15 => ?_) (fun g15 => ?_)
      ·
       refine Zg (fun g16 => ?_) (fun g16 => ?_)
       ·
        refine Zg (fun g17 => ?_) (fun _ => Zo)
        refine Zg (fun g18 => ?_) (fun _ => Zo)
        refine Zg (fun g19 => ?_) (fun _ => Zo)
        refine Zg (fun g20 => ?_) (fun _ => Zo)
        refine Zg (fun g21 => ?_) (fun _ => Zo)
        refine Zg (fun g22 => ?_) (fun _ => Zo)
        exact fxC (Zj (oq [3, 6, 9, 11, 13, 15, 17, 19, 21, 26, 28, 31, 33, 35, 37, 39, 42, 44, 47, 49, 51, 53, 55, 58, 60, 64, 66, 71, 73, 75, 77, 79, 81, 83, 85, 91]) [(0, (a1 / 1048576)), (1, (a1 % 1048576)), (2, (a1 / 1048576)), (3, (a1 % 1048576)), (4, (a1 % 1048576)), (5, ((a1 % 1048576) - 1)), (6, (a1 / 1048576)), (7, (a1 % 1048576)), (8, (a1 / 1048576)), (9, ((a1 % 1048576) - 1)), (10, ((a1 % 1048576) - 1)), (12, (((L6.getD (((a1 % 1048576) - 1)).toNat RJ.z).a2 / (2 ^ (a2).toNat : Int)) % 2)), (13, (a4 / 1048576)), (14, (a4 % 1048576)), (15, ((a1 % 1048576) + a2))] [(0, (((a1 % 1048576) - 1)).toNat), (1, (((a1 % 1048576) - 1)).toNat), (2, (((a1 % 1048576) - 1)).toNat), (3, (((a1 % 1048576) + a2)).toNat)] [(16, [.i (L6.getD (((a1 % 1048576) - 1)).toNat RJ.z).a0]), (21, [.i (L6.getD (((a1 % 1048576) - 1)).toNat RJ.z).a3]), (23, [.i (L6.getD (((a1 % 1048576) - 1)).toNat RJ.z).a1]), (25, [.i (L6.getD (((a1 % 1048576) - 1)).toNat RJ.z).a2])] [(5, .sh (a2).toNat), (7, .st (Zb RB (L7.set (((a1 % 1048576) + a2)).toNat (⟨a3, a4⟩ : RH))))]) [0, 1, 2] (vq) (kC (ZaO (E := RB) (L := L7) (i := (((a1 % 1048576) + a2)).toNat) (q := 0) (l := [vi a3, vi a4]) (⟨a3, a4⟩ : RH) (by omega) (show (0 + ((((a1 % 1048576) + a2)).toNat * 2)) = (((a1 % 1048576) + a2)).toNat * 2 + 0 from by omega) (show 0 + 2 ≤ 2 from by decide) rfl) <| kB (((a1 % 1048576) + a2)).toNat L7.length <| kI ((a1 % 1048576) + a2) (Int.ofNat (((a1 % 1048576) + a2)).toNat) <| kW ((a1 % 1048576) + a2) ((a1 % 1048576) + a2) <| hT g15 <| kY ((a4 % 1048576) ≤ 1048575) <| kY ((a4 % 1048576) ≥ 1) <| hY g20 <| kY ((a4 / 1048576) ≥ 1) <| kM a4 1048576 <| kV a4 1048576 <| kY (a4 > 0) <| hD g16 <| hT g15 <| hT g14 w14) (bU (κq a5 L6 L7) 2 (show (vs 2 0 L7.length L7.length : Value) = vs 2 0 (L7.set (((a1 % 1048576) + a2)).toNat (⟨a3, a4⟩ : RH)).length (L7.set (((a1 % 1048576) + a2)).toNat (⟨a3, a4⟩ : RH)).length from Z5 rfl eqA eqA) <| bR <| bR <| bE)
       ·
        refine Zg (fun g17 => ?_) (fun _ => Zo)
        exact fxC (Zj (oq [3, 6, 9, 11, 13, 15, 17, 19, 21, 26, 28, 31, 33, 35, 37, 39, 42, 44, 47, 49, 51, 53, 55, 58, 60, 64, 66, 71, 73, 74, 79]) [(0, (a1 / 1048576)), (1, (a1 % 1048576)), (2, (a1 / 1048576)), (3, (a1 % 1048576)), (4, (a1 % 1048576)), (5, ((a1 % 1048576) - 1)), (6, (a1 / 1048576)), (7, (a1 % 1048576)), (8, (a1 / 1048576)), (9, ((a1 % 1048576) - 1)), (10, ((a1 % 1048576) - 1)), (12, (((L6.getD (((a1 % 1048576) - 1)).toNat RJ.z).a2 / (2 ^ (a2).toNat : Int)) % 2)), (13, ((a1 % 1048576) + a2))] [(0, (((a1 % 1048576) - 1)).toNat), (1, (((a1 % 1048576) - 1)).toNat), (2, (((a1 % 1048576) - 1)).toNat), (3, (((a1 % 1048576) + a2)).toNat)] [(16, [.i (L6.getD (((a1 % 1048576) - 1)).toNat RJ.z).a0]), (21, [.i (L6.getD (((a1 % 1048576) - 1)).toNat RJ.z).a3]), (23, [.i (L6.getD (((a1 % 1048576) - 1)).toNat RJ.z).a1]), (25, [.i (L6.getD (((a1 % 1048576) - 1)).toNat RJ.z).a2])] [(5, .sh (a2).toNat), (6, .st (Zb RB (L7.set (((a1 % 1048576) + a2)).toNat (⟨a3, a4⟩ : RH))))]) [0, 1, 2] (vq) (kC (ZaO (E := RB) (L := L7) (i := (((a1 % 1048576) + a2)).toNat) (q := 0) (l := [vi a3, vi a4]) (⟨a3, a4⟩ : RH) (by omega) (show (0 + ((((a1 % 1048576) + a2)).toNat * 2)) = (((a1 % 1048576) + a2)).toNat * 2 + 0 from by omega) (show 0 + 2 ≤ 2 from by decide) rfl) <| kB (((a1 % 1048576) + a2)).toNat L7.length <| kI ((a1 % 1048576) + a2) (Int.ofNat (((a1 % 1048576) + a2)).toNat) <| kW ((a1 % 1048576) + a2) ((a1 % 1048576) + a2) <| hT g15 <| kE a4 0 <| hT g15 <| hT g14 w14) (bU (κq a5 L6 L7) 2 (show (vs 2 0 L7.length L7.length : Value) = vs 2 0 (L7.set (((a1 % 1048576) + a2)).toNat (⟨a3, a4⟩ : RH)).length (L7.set (((a1 % 1048576) + a2)).toNat (⟨a3, a4⟩ : RH)).length from Z5 rfl eqA eqA) <| bR <| bR <| bE)
      ·
       by_cases g16 : a3 = 1
       ·
        exact fxC (Zj (oq [3, 6, 9, 11, 13, 15, 17, 19, 21, 26, 28, 31, 33, 35, 37, 39, 42, 44, 47, 49, 51, 53, 55, 58, 60, 64, 66, 71, 72, 75, 78]) [(0, (a1 / 1048576)), (1, (a1 % 1048576)), (2, (a1 / 1048576)), (3, (a1 % 1048576)), (4, (a1 % 1048576)), (5, ((a1 % 1048576) - 1)), (6, (a1 / 1048576)), (7, (a1 % 1048576)), (8, (a1 / 1048576)), (9, ((a1 % 1048576) - 1)), (10, ((a1 % 1048576) - 1)), (12, (((L6.getD (((a1 % 1048576) - 1)).toNat RJ.z).a2 / (2 ^ (a2).toNat : Int)) % 2))] [(0, (((a1 % 1048576) - 1)).toNat), (1, (((a1 % 1048576) - 1)).toNat), (2, (((a1 % 1048576) - 1)).toNat)] [(16, [.i (L6.getD (((a1 % 1048576) - 1)).toNat RJ.z).a0]), (21, [.i (L6.getD (((a1 % 1048576) - 1)).toNat RJ.z).a3]), (23, [.i (L6.getD (((a1 % 1048576) - 1)).toNat RJ.z).a1]), (25, [.i (L6.getD (((a1 % 1048576) - 1)).toNat RJ.z).a2])] [(5, .sh (a2).toNat)]) [0, 1, 2] (vi 10) (hF g15 <| hT g16 <| hF g15 <| hT g14 w14) (bS (κq a5 L6 L7) <| bR <| bR <| bE)
       ·
        exact fxC (Zj (oq [3, 6, 9, 11, 13, 15, 17, 19, 21, 26, 28, 31, 33, 35, 37, 39, 42, 44, 47, 49, 51, 53, 55, 58, 60, 64, 66, 71, 72, 74]) [(0, (a1 / 1048576)), (1, (a1 % 1048576)), (2, (a1 / 1048576)), (3, (a1 % 1048576)), (4, (a1 % 1048576)), (5, ((a1 % 1048576) - 1)), (6, (a1 / 1048576)), (7, (a1 % 1048576)), (8, (a1 / 1048576)), (9, ((a1 % 1048576) - 1)), (10, ((a1 % 1048576) - 1)), (12, (((L6.getD (((a1 % 1048576) - 1)).toNat RJ.z).a2 / (2 ^ (a2).toNat : Int)) % 2))] [(0, (((a1 % 1048576) - 1)).toNat), (1, (((a1 % 1048576) - 1)).toNat), (2, (((a1 % 1048576) - 1)).toNat)] [(16, [.i (L6.getD (((a1 % 1048576) - 1)).toNat RJ.z).a0]), (21, [.i (L6.getD (((a1 % 1048576) - 1)).toNat RJ.z).a3]), (23, [.i (L6.getD (((a1 % 1048576) - 1)).toNat RJ.z).a1]), (25, [.i (L6.getD (((a1 % 1048576) - 1)).toNat RJ.z).a2])] [(5, .sh (a2).toNat)]) [0, 1, 2] (vi 10) (hF g16 <| hF g15 <| hT g14 w14) (bS (κq a5 L6 L7) <| bR <| bR <| bE)
     ·
      refine Zg (fun g15 => ?_) (fun g15 => ?_)
      ·
       refine Zg (fun g16 => ?_) (fun g16 => ?_)
       ·
        refine Zg (fun g17 => ?_) (fun _ => Zo)
        refine Zg (fun g18 => ?_) (fun _ => Zo)
        refine Zg (fun g19 => ?_) (fun _ => Zo)
        refine Zg (fun g20 => ?_) (fun _ => Zo)
        refine Zg (fun g21 => ?_) (fun _ => Zo)
        exact fxC (Zj (oq [3, 6, 9, 11, 13, 15, 17, 19, 21, 26, 28, 31, 33, 35, 37, 39, 42, 44, 47, 49, 51, 53, 55, 58, 60, 64, 66, 70, 73, 75, 77, 79, 81, 83, 85, 91]) [(0, (a1 / 1048576)), (1, (a1 % 1048576)), (2, (a1 / 1048576)), (3, (a1 % 1048576)), (4, (a1 % 1048576)), (5, ((a1 % 1048576) - 1)), (6, (a1 / 1048576)), (7, (a1 % 1048576)), (8, (a1 / 1048576)), (9, ((a1 % 1048576) - 1)), (10, ((a1 % 1048576) - 1)), (12, (((L6.getD (((a1 % 1048576) - 1)).toNat RJ.z).a2 / (2 ^ (a2).toNat : Int)) % 2)), (13, (a4 / 1048576)), (14, (a4 % 1048576))] [(0, (((a1 % 1048576) - 1)).toNat), (1, (((a1 % 1048576) - 1)).toNat), (2, (((a1 % 1048576) - 1)).toNat)] [(16, [.i (L6.getD (((a1 % 1048576) - 1)).toNat RJ.z).a0]), (21, [.i (L6.getD (((a1 % 1048576) - 1)).toNat RJ.z).a3]), (23, [.i (L6.getD (((a1 % 1048576) - 1)).toNat RJ.z).a1]), (25, [.i (L6.getD (((a1 % 1048576) - 1)).toNat RJ.z).a2])] [(5, .sh (a2).toNat)]) [0, 1, 2] (vi 10) (hT g15 <| kY ((a4 % 1048576) ≤ 1048575) <| kY ((a4 % 1048576) ≥ 1) <| hY g20 <| kY ((a4 / 1048576) ≥ 1) <| kM a4 1048576 <| kV a4 1048576 <| kY (a4 > 0) <| hD g16 <| hT g15 <| hF g14 w14) (bS (κq a5 L6 L7) <| bR <| bR <| bE)
       ·
        exact fxC (Zj (oq [3, 6, 9, 11, 13, 15, 17, 19, 21, 26, 28, 31, 33, 35, 37, 39, 42, 44, 47, 49, 51, 53, 55, 58, 60, 64, 66, 70, 73, 74, 79]) [(0, (a1 / 1048576)), (1, (a1 % 1048576)), (2, (a1 / 1048576)), (3, (a1 % 1048576)), (4, (a1 % 1048576)), (5, ((a1 % 1048576) - 1)), (6, (a1 / 1048576)), (7, (a1 % 1048576)), (8, (a1 / 1048576)), (9, ((a1 % 1048576) - 1)), (10, ((a1 % 1048576) - 1)), (12, (((L6.getD (((a1 % 1048576) - 1)).toNat RJ.z).a2 / (2 ^ (a2).toNat : Int)) % 2))] [(0, (((a1 % 1048576) - 1)).toNat), (1, (((a1 % 1048576) - 1)).toNat), (2, (((a1 % 1048576) - 1)).toNat)] [(16, [.i (L6.getD (((a1 % 1048576) - 1)).toNat RJ.z).a0]), (21, [.i (L6.getD (((a1 % 1048576) - 1)).toNat RJ.z).a3]), (23, [.i (L6.getD (((a1 % 1048576) - 1)).toNat RJ.z).a1]), (25, [.i (L6.getD (((a1 % 1048576) - 1)).toNat RJ.z).a2])] [(5, .sh (a2).toNat)]) [0, 1, 2] (vi 10) (hT g15 <| kE a4 0 <| hT g15 <| hF g14 w14) (bS (κq a5 L6 L7) <| bR <| bR <| bE)
      ·
       refine Zg (fun g16 => ?_) (fun g16 => ?_)
       ·
        refine Zg (fun g17 => ?_) (fun _ => Zo)
        exact fxC (Zj (oq [3, 6, 9, 11, 13, 15, 17, 19, 21, 26, 28, 31, 33, 35, 37, 39, 42, 44, 47, 49, 51, 53, 55, 58, 60, 64, 66, 70, 72, 75, 78]) [(0, (a1 / 1048576)), (1, (a1 % 1048576)), (2, (a1 / 1048576)), (3, (a1 % 1048576)), (4, (a1 % 1048576)), (5, ((a1 % 1048576) - 1)), (6, (a1 / 1048576)), (7, (a1 % 1048576)), (8, (a1 / 1048576)), (9, ((a1 % 1048576) - 1)), (10, ((a1 % 1048576) - 1)), (12, (((L6.getD (((a1 % 1048576) - 1)).toNat RJ.z).a2 / (2 ^ (a2).toNat : Int)) % 2)), (13, ((a1 % 1048576) + a2))] [(0, (((a1 % 1048576) - 1)).toNat), (1, (((a1 % 1048576) - 1)).toNat), (2, (((a1 % 1048576) - 1)).toNat), (3, (((a1 % 1048576) + a2)).toNat)] [(16, [.i (L6.getD (((a1 % 1048576) - 1)).toNat RJ.z).a0]), (21, [.i (L6.getD (((a1 % 1048576) - 1)).toNat RJ.z).a3]), (23, [.i (L6.getD (((a1 % 1048576) - 1)).toNat RJ.z).a1]), (25, [.i (L6.getD (((a1 % 1048576) - 1)).toNat RJ.z).a2])] [(5, .sh (a2).toNat), (6, .st (Zb RB (L7.set (((a1 % 1048576) + a2)).toNat (⟨a3, a4⟩ : RH))))]) [0, 1, 2] (vq) (kC (ZaO (E := RB) (L := L7) (i := (((a1 % 1048576) + a2)).toNat) (q := 0) (l := [vi a3, vi a4]) (⟨a3, a4⟩ : RH) (by omega) (show (0 + ((((a1 % 1048576) + a2)).toNat * 2)) = (((a1 % 1048576) + a2)).toNat * 2 + 0 from by omega) (show 0 + 2 ≤ 2 from by decide) rfl) <| kB (((a1 % 1048576) + a2)).toNat L7.length <| kI ((a1 % 1048576) + a2) (Int.ofNat (((a1 % 1048576) + a2)).toNat) <| kW ((a1 % 1048576) + a2) ((a1 % 1048576) + a2) <| hF g15 <| hT g16 <| hF g15 <| hF g14 w14) (bU (κq a5 L6 L7) 2 (show (vs 2 0 L7.length L7.length : Value) = vs 2 0 (L7.set (((a1 % 1048576) + a2)).toNat (⟨a3, a4⟩ : RH)).length (L7.set (((a1 % 1048576) + a2)).toNat (⟨a3, a4⟩ : RH)).length from Z5 rfl eqA eqA) <| bR <| bR <| bE)
       ·
        exact fxC (Zj (oq [3, 6, 9, 11, 13, 15, 17, 19, 21, 26, 28, 31, 33, 35, 37, 39, 42, 44, 47, 49, 51, 53, 55, 58, 60, 64, 66, 70, 72, 74]) [(0, (a1 / 1048576)), (1, (a1 % 1048576)), (2, (a1 / 1048576)), (3, (a1 % 1048576)), (4, (a1 % 1048576)), (5, ((a1 % 1048576) - 1)), (6, (a1 / 1048576)), (7, (a1 % 1048576)), (8, (a1 / 1048576)), (9, ((a1 % 1048576) - 1)), (10, ((a1 % 1048576) - 1)), (12, (((L6.getD (((a1 % 1048576) - 1)).toNat RJ.z).a2 / (2 ^ (a2).toNat : Int)) % 2))] [(0, (((a1 % 1048576) - 1)).toNat), (1, (((a1 % 1048576) - 1)).toNat), (2, (((a1 % 1048576) - 1)).toNat)] [(16, [.i (L6.getD (((a1 % 1048576) - 1)).toNat RJ.z).a0]), (21, [.i (L6.getD (((a1 % 1048576) - 1)).toNat RJ.z).a3]), (23, [.i (L6.getD (((a1 % 1048576) - 1)).toNat RJ.z).a1]), (25, [.i (L6.getD (((a1 % 1048576) - 1)).toNat RJ.z).a2])] [(5, .sh (a2).toNat)]) [0, 1, 2] (vi 10) (hF g16 <| hF g15 <| hF g14 w14) (bS (κq a5 L6 L7) <| bR <| bR <| bE)
  ·
   exact fxC (Zj (oq [3, 6, 9, 10, 15]) [] [] [] []) [0, 1, 2] (vi 11) (kZ ((a0 == 2) && ((a1 == 0) && true)) <| kE a1 0 w2) (bS (κq a5 L6 L7) <| bR <| bR <| bE)

theorem Zkw (a0 a1 a2 a3 a4 a5 : Int) (L6 : List RJ) (L7 : List RH) (N : Nat) (r : Zad) (h : Zah a0 a1 a2 a3 a4 a5 L6 L7 N = some r) : LSpec Tryz.prog 99 #[vp 0 0, Value.agg #[vi a0, vi a1], vi a2, Value.agg #[vi a3, vi a4]] [.cells (κq a5 L6 L7) 154, .cells (Zb RC L6) 57, .cells (Zb RB L7) 42] (Zio a0 a1 a2 a3 a4 a5 L6 L7 r) (Zhu a0 a1 a2 a3 a4 a5 L6 L7 r) :=
 Zbc Zz Tryz.func99 (by kernel_rfl) (by kernel_rfl) (fun r => by cases r <;> exact ZB _ rfl) (ZlQ a0 a1 a2 a3 a4 a5 L6 L7 N) h

noncomputable def ZcL {a0 a1 a2 a3 a4 a5 : Int} {L6 : List RJ} {L7 w1 : List RH} {w2 : Int} {N : Nat} (h : Zah a0 a1 a2 a3 a4 a5 L6 L7 N = some (.r0 w1 w2)) (ks : List Nat) (n : Nat) : ToldS := ⟨#[vp (nth ks 0) 0, Value.agg #[vi a0, vi a1], vi a2, Value.agg #[vi a3, vi a4]], [((nth ks 0), .cells (ZG (vi a5) (vs (nth ks 1) 0 L6.length L6.length) (vs (nth ks 2) 0 L7.length L7.length)) 154), ((nth ks 1), .cells (Zb RC L6) 57), ((nth ks 2), .cells (Zb RB L7) 42)], vi w2, [((nth ks 0), some (.cells (ZG (vi a5) (vs (nth ks 1) 0 L6.length L6.length) (vs (nth ks 2) 0 w1.length w1.length)) 154)), ((nth ks 2), some (.cells (Zb RB w1) 42))], 0⟩

theorem Zhv {a0 a1 a2 a3 a4 a5 : Int} {L6 : List RJ} {L7 w1 : List RH} {w2 : Int} {N : Nat} (h : Zah a0 a1 a2 a3 a4 a5 L6 L7 N = some (.r0 w1 w2)) (ks : List Nat) (n : Nat) (hk : ks.length = 3 := by rfl) (hnd : ks.Nodup := by decide +kernel) (hlt : ∀ k ∈ ks, k < n := by decide +kernel) : (ZcL (N := N)  h ks n).P Tryz.prog 99 n :=
 match ks, hk, hnd, hlt with
 | [k0, k1, k2], _, hnd, hlt => Za3 (show LSpec Tryz.prog 99 #[vp 0 0, Value.agg #[vi a0, vi a1], vi a2, Value.agg #[vi a3, vi a4]] [.cells (κq a5 L6 L7) 154, .cells (Zb RC L6) 57, .cells (Zb RB L7) 42] (vi w2) [some (.cells (ZG (vi a5) (vs 1 0 L6.length L6.length) (vs 2 0 w1.length w1.length)) 154), some (.cells (Zb RC L6) 57), some (.cells (Zb RB w1) 42)] from Zkw a0 a1 a2 a3 a4 a5 L6 L7 N _ h) _ n [0, 2] hnd hlt

noncomputable abbrev κH (L0 : List RL) := #[ms RD L0, Value.map (some 0)]
noncomputable def ZlR (L0 : List RL) : Zcp → Value
 | .r0 w1 => Value.agg (κH L0)
noncomputable def ZkN (L0 : List RL) : Zcp → List (Option AObj)
 | .r0 w1 => [some (.ro (Zc w1) true)]

def Zpq : ZaX → Nat
 | .h1m0 v1 v3 => 1
noncomputable def ZqD (L0 : List RL) : ZaX → List (Nat × Value)
 | .h1m0 v1 v3 => [(0, ms RD L0), (2, vp 0 0), (3, vp 1 0), (4, vi v1)]
noncomputable def ZqE (L0 : List RL) : ZaX → List (Option AObj)
 | .h1m0 v1 v3 => [some (.cells [vn, Value.map none] 272), some (.cells [ms RD L0, Value.map (some 2)] 272), some (.ro (Zc v3) true)]

noncomputable def ZdT : Nat → Code × List Zay
 | 1 => Zck [1, 1, 0, 1, 3] (ZcP Tryz.f183) []
 | _ => (.skip, [])
def ZkO : Nat → Bool
 | 1 => true
 | _ => true
noncomputable def ZqF (i : Nat) : List Zay := match ZkO i with | true => .rnd i :: (ZdT i).2 | false => (ZdT i).2

noncomputable def ZeQ (L0 : List RL) (N : Nat) : Mach := ⟨Tryz.f183, [], ZaX, Zcp, ZcH L0 N, Zpq, ZdT, ZkO, ZqD L0, ZqE L0, ZlR L0, ZkN L0⟩

theorem Zmt (L0 : List RL) (v1 : Int) (v3 : List RI) (N : Nat) : (ZeQ L0 N).Ok Tryz.prog Zu (.h1m0 v1 v3 : ZaX) (ZcH L0 N (.h1m0 v1 v3 : ZaX)) := by
 show (ZeQ L0 N).Ok Tryz.prog Zu (.h1m0 v1 v3 : ZaX) (ZbW L0 N v1 v3)
 unfold ZbW
 refine Mach.ok_ite (fun g0 => ?_) (fun g0 => ?_)
 ·
  refine Mach.ok_ite (fun g1 => ?_) (fun _ => Mach.ok_none)
  exact Mach.okN (Zj (oq [1]) [] [(0, (v1).toNat)] [(1, [.i (L0.getD (v1).toNat RL.z).a0, .i (L0.getD (v1).toNat RL.z).a1])] [(0, .mp (ZaS (Zaj v3 (L0.getD (v1).toNat RL.z).a0 (L0.getD (v1).toNat RL.z).a1 v1)))]) [0, 1, 2] [some (ms RD L0), some (vp 0 0), some (vp 1 0), some (vi (IntKind.i64.wrap (v1 - 1)))] (kX (dP (putM Tryz.prog 42 (Value.agg #[vi (L0.getD (v1).toNat RL.z).a0, vi (L0.getD (v1).toNat RL.z).a1]) (vi v1) (ZaS v3) = some (ZaS (Zaj v3 (L0.getD (v1).toNat RL.z).a0 (L0.getD (v1).toNat RL.z).a1 v1)))) true (Z2 (ZnK _ _ _ _)) <| kG RD L0 ((0 + ((v1).toNat * 8)) + 0) ((v1).toNat) 0 2 8 <| kB (v1).toNat L0.length <| kI v1 (Int.ofNat (v1).toNat) <| kY (v1 ≥ 0) Zk) (tC (tC (tC (tC (tE))))) (bS [vn, Value.map none] <| bS [ms RD L0, Value.map (some 2)] <| bC (o := .ro (Zc (Zaj v3 (L0.getD (v1).toNat RL.z).a0 (L0.getD (v1).toNat RL.z).a1 v1)) true) (show Zc (Zaj v3 (L0.getD (v1).toNat RL.z).a0 (L0.getD (v1).toNat RL.z).a1 v1) = Zc (Zaj v3 (L0.getD (v1).toNat RL.z).a0 (L0.getD (v1).toNat RL.z).a1 v1) from rfl) <| bE) (show 1 ∈ Zt (ZqF 1) from by decide +kernel)
 ·
  exact Mach.okF (Zj (oq [0]) [] [] [] []) [2] (Value.agg #[ms RD L0, Value.map (some 2)]) (kN (v1 ≥ 0) Zk) (bC (o := .ro (Zc v3) true) (show Zc v3 = Zc v3 from rfl) <| bE)

theorem Zoy (L0 : List RL) (N : Nat) : (ZeQ L0 N).Enter Tryz.prog Zu #[ms RD L0] (ZfA L0 N) := by
 unfold ZfA
 refine Mach.en_ite (fun g0 => ?_) (fun _ => Mach.en_none)
 exact Mach.enH (ZdT 1) (Zj (oq []) [(0, ((L0.length : Int) - 1))] [] [] []) [0, 2, 1] [some (ms RD L0), some (vp 0 0), some (vp 2 0), some (vi ((L0.length : Int) - 1))] (kW ((L0.length : Int) - 1) ((L0.length : Int) - 1) Zk) (tC (tC (tC (tC (tE))))) (bS [vn, Value.map none] <| bS [ms RD L0, Value.map (some 1)] <| bC (o := .ro (Zc ([] : List RI)) true) (show Zc ([] : List RI) = Zc ([] : List RI) from rfl) <| bE) (show Zt (ZdT 1).2 = [] from rfl)

theorem Zne (L0 : List RL) (N : Nat) (r : Zcp) (h : Zfy L0 N = some r) : LSpec Tryz.prog 183 #[ms RD L0] [] (ZlR L0 r) (ZkN L0 r) :=
 Mach.spec Zz (ZeQ L0 N) Tryz.func183 (by kernel_rfl) (by kernel_rfl) (fun x => by cases x <;> exact ZB _ rfl) (fun r => by cases r <;> exact ZB _ rfl) (fun x => by
  cases x with
  | h1m0 _ _ => exact fun _ => (show ¬ (1 ∈ Zt (ZdT 1).2) from by decide +kernel)
  ) (fun x => (show (ZeQ L0 N).Ok Tryz.prog Zu x (ZcH L0 N x) from by
  cases x with
  | h1m0 v1 v3 => exact Zmt L0 v1 v3 N
  )) (Zoy L0 N) (n := N) h

noncomputable def ZfB {L0 : List RL} {w1 : List RI} {N : Nat} (h : Zfy L0 N = some (.r0 w1)) (ks : List Nat) (n : Nat) : ToldS := ⟨#[ms RD L0], [], Value.agg #[ms RD L0, Value.map (some n)], [(n, some (.ro (Zc w1) true))], 1⟩

theorem ZkP {L0 : List RL} {w1 : List RI} {N : Nat} (h : Zfy L0 N = some (.r0 w1)) (ks : List Nat) (n : Nat) (hk : ks.length = 0 := by rfl) (hnd : ks.Nodup := by decide +kernel) (hlt : ∀ k ∈ ks, k < n := by decide +kernel) : (ZfB (N := N)  h ks n).P Tryz.prog 183 n :=
 match ks, hk, hnd, hlt with
 | [], _, hnd, hlt => Za3 (show LSpec Tryz.prog 183 #[ms RD L0] [] (Value.agg (κH L0)) [some (.ro (Zc w1) true)] from Zne L0 N _ h) _ n [0] hnd hlt

noncomputable def Zgz (L0 : List RL) (L1 : List RI) (a2 a3 : Int) : ZaR → Value
 | .r0 w1 w2 => Value.tuple #[vi w1, Value.bool w2]
noncomputable def Zgr (L0 : List RL) (L1 : List RI) (a2 a3 : Int) : ZaR → List (Option AObj)
 | .r0 w1 w2 => [some (.ro (Zc L1) true)]

theorem ZjO (L0 : List RL) (L1 : List RI) (a2 a3 : Int) (N : Nat) : Fx Tryz.prog Zu Tryz.f193 [.ro (Zc L1) true] #[Value.agg (κH L0), Value.agg #[vi a2, vi a3]] (Zgz L0 L1 a2 a3) (Zgr L0 L1 a2 a3) (Zax L0 L1 a2 a3 N) := by
 unfold Zax
 refine Zg (fun g0 => ?_) (fun g0 => ?_)
 ·
  exact fxC (Zj (oq [1]) [] [] [] []) [0] (Value.tuple #[vq, vf]) (hD g0 Zk) (bC (o := .ro (Zc L1) true) (show Zc L1 = Zc L1 from rfl) <| bE)
 ·
  refine Zg (fun g1 => ?_) (fun g1 => ?_)
  ·
   exact fxC (Zj (oq [0, 3]) [] [] [] []) [0] (Value.tuple #[vq, vf]) (kZ ((a2 == 2) && ((a3 == 0) && true)) <| kE a2 2 Zk) (bC (o := .ro (Zc L1) true) (show Zc L1 = Zc L1 from rfl) <| bE)
  ·
   refine Zg (fun g2 => ?_) (fun g2 => ?_)
   ·
    exact fxC (Zj (oq [0, 2]) [] [] [] [(1, .lk (some (vi (Zb2 L1 a2 a3))))]) [0] (Value.tuple #[vi (Zb2 L1 a2 a3), vT]) (kX (dP ((Zcf Tryz.prog 42 (Value.agg #[vi a2, vi a3]) (ZaS L1)).map (Option.map Prod.snd) = some (some (vi (Zb2 L1 a2 a3))))) true (Z2 (ZnI (by assumption))) <| kO ((a2 == 2) && ((a3 == 0) && true)) <| kE a2 2 Zk) (bC (o := .ro (Zc L1) true) (show Zc L1 = Zc L1 from rfl) <| bE)
   ·
    exact fxC (Zj (oq [0, 2]) [] [] [] [(1, .lk (none))]) [0] (Value.tuple #[vq, vf]) (kX (dP ((Zcf Tryz.prog 42 (Value.agg #[vi a2, vi a3]) (ZaS L1)).map (Option.map Prod.snd) = some (none))) true (Z2 (ZnJ (by assumption))) <| kO ((a2 == 2) && ((a3 == 0) && true)) <| kE a2 2 Zk) (bC (o := .ro (Zc L1) true) (show Zc L1 = Zc L1 from rfl) <| bE)

theorem Zi5 (L0 : List RL) (L1 : List RI) (a2 a3 : Int) (N : Nat) (r : ZaR) (h : Zax L0 L1 a2 a3 N = some r) : LSpec Tryz.prog 193 #[Value.agg (κH L0), Value.agg #[vi a2, vi a3]] [.ro (Zc L1) true] (Zgz L0 L1 a2 a3 r) (Zgr L0 L1 a2 a3 r) :=
 Zbc Zz Tryz.func193 (by kernel_rfl) (by kernel_rfl) (fun r => by cases r <;> exact ZB _ rfl) (ZjO L0 L1 a2 a3 N) h

noncomputable abbrev κbl (L0 : List RL) (ks : List Nat) := #[ms RD L0, Value.map (some (nth ks 0))]
noncomputable def ZK {L0 : List RL} {L1 : List RI} {a2 a3 w1 : Int} {w2 : Bool} {N : Nat} (h : Zax L0 L1 a2 a3 N = some (.r0 w1 w2)) (ks : List Nat) (n : Nat) : ToldS := ⟨#[Value.agg (κbl L0 ks), Value.agg #[vi a2, vi a3]], [((nth ks 0), .ro (Zc L1) true)], Value.tuple #[vi w1, Value.bool w2], [], 0⟩

theorem Zen {L0 : List RL} {L1 : List RI} {a2 a3 w1 : Int} {w2 : Bool} {N : Nat} (h : Zax L0 L1 a2 a3 N = some (.r0 w1 w2)) (ks : List Nat) (n : Nat) (hk : ks.length = 1 := by rfl) (hnd : ks.Nodup := by decide +kernel) (hlt : ∀ k ∈ ks, k < n := by decide +kernel) : (ZK (N := N)  h ks n).P Tryz.prog 193 n :=
 match ks, hk, hnd, hlt with
 | [k0], _, hnd, hlt => Za3 (show LSpec Tryz.prog 193 #[Value.agg (κH L0), Value.agg #[vi a2, vi a3]] [.ro (Zc L1) true] (Value.tuple #[vi w1, Value.bool w2]) [some (.ro (Zc L1) true)] from Zi5 L0 L1 a2 a3 N _ h) _ n [] hnd hlt

noncomputable def ZjP (a0 a1 a2 a3 a4 a5 a6 : Int) (L7 : List RH) : Zda → Value
 | .r0 w0 => Value.bool w0
noncomputable def ZiR (a0 a1 a2 a3 a4 a5 a6 : Int) (L7 : List RH) : Zda → List (Option AObj)
 | .r0 w0 => []

theorem Znf (a0 a1 a2 a3 a4 a5 a6 : Int) (L7 : List RH) (N : Nat) : Fx Tryz.prog Zu Tryz.f186 [] #[Value.agg #[vi a0, vi a1, vi a2, vi a3, vi a4, vi a5, vi a6, ms RB L7]] (ZjP a0 a1 a2 a3 a4 a5 a6 L7) (ZiR a0 a1 a2 a3 a4 a5 a6 L7) (ZaT a0 a1 a2 a3 a4 a5 a6 L7 N) := by
 unfold ZaT
 refine Zg (fun g0 => ?_) (fun g0 => ?_)
 ·
  exact fxC (Zj (oq [1]) [] [] [] []) [] (vT) (hT g0 Zk) bE
 ·
  exact fxC (Zj (oq [0]) [] [] [] []) [] (vf) (hF g0 Zk) bE

theorem ZlS (a0 a1 a2 a3 a4 a5 a6 : Int) (L7 : List RH) (N : Nat) (r : Zda) (h : ZaT a0 a1 a2 a3 a4 a5 a6 L7 N = some r) : LSpec Tryz.prog 186 #[Value.agg #[vi a0, vi a1, vi a2, vi a3, vi a4, vi a5, vi a6, ms RB L7]] [] (ZjP a0 a1 a2 a3 a4 a5 a6 L7 r) (ZiR a0 a1 a2 a3 a4 a5 a6 L7 r) :=
 Zbc Zz Tryz.func186 (by kernel_rfl) (by kernel_rfl) (fun r => by cases r <;> exact ZB _ rfl) (Znf a0 a1 a2 a3 a4 a5 a6 L7 N) h

noncomputable def ZbI {a0 a1 a2 a3 a4 a5 a6 : Int} {L7 : List RH} {w0 : Bool} {N : Nat} (h : ZaT a0 a1 a2 a3 a4 a5 a6 L7 N = some (.r0 w0)) (ks : List Nat) (n : Nat) : ToldS := ⟨#[Value.agg #[vi a0, vi a1, vi a2, vi a3, vi a4, vi a5, vi a6, ms RB L7]], [], Value.bool w0, [], 0⟩

theorem ZcI {a0 a1 a2 a3 a4 a5 a6 : Int} {L7 : List RH} {w0 : Bool} {N : Nat} (h : ZaT a0 a1 a2 a3 a4 a5 a6 L7 N = some (.r0 w0)) (ks : List Nat) (n : Nat) (hk : ks.length = 0 := by rfl) (hnd : ks.Nodup := by decide +kernel) (hlt : ∀ k ∈ ks, k < n := by decide +kernel) : (ZbI (N := N)  h ks n).P Tryz.prog 186 n :=
 match ks, hk, hnd, hlt with
 | [], _, hnd, hlt => Za3 (show LSpec Tryz.prog 186 #[Value.agg #[vi a0, vi a1, vi a2, vi a3, vi a4, vi a5, vi a6, ms RB L7]] [] (Value.bool w0) [] from ZlS a0 a1 a2 a3 a4 a5 a6 L7 N _ h) _ n [] hnd hlt

noncomputable def ZfW (a0 a1 : Int) (L2 : List RL) (L3 L4 : List RI) : ZaD → Value
 | .r0 => vtt
 | .r1 w1 w3 w4 => vtt
noncomputable abbrev κU := (AObj.cells [Value.map (some 6)] 270)
noncomputable abbrev κi (L2 : List RL) := [ms RD L2, Value.map (some 5)]
noncomputable def Zf1 (a0 a1 : Int) (L2 : List RL) (L3 L4 : List RI) : ZaD → List (Option AObj)
 | .r0 => [some (.cells (κi L2) 272), some κU, some (.cells [Value.func (.func 186) #[] #[]] 276), some (.cells [vn] 86), some (.cells [vn] 278), some (.ro (Zc L3) true), some (.ro (Zc L4) true)]
 | .r1 w1 w3 w4 => [some (.cells (κi L2) 272), some κU, some (.cells [Value.func (.func 186) #[] #[]] 276), some (.cells [vs 7 0 w3.length w3.length] 86), some (.cells [vs 8 0 w4.length w4.length] 278), some (.ro (Zc L3) true), some (.ro (Zc w1) true), some (.cells (Zb eI w3) 3), some (.cells (Zb RB w4) 281)]

noncomputable abbrev κbi (a0 a1 y0_0 : Int) (L4 : List RI) := (dP (putM Tryz.prog 42 (Value.agg #[vi a0, vi a1]) (vi y0_0) (ZaS L4) = some (ZaS (Zaj L4 a0 a1 y0_0))))
noncomputable abbrev κ0 (a0 a1 : Int) (L4 : List RI) := (Zcf Tryz.prog 42 (Value.agg #[vi a0, vi a1]) (ZaS L4))
noncomputable abbrev κB (a0 a1 : Int) := #[Value.agg #[vi a0, vi a1], vp 0 0, vp 1 0, vp 2 0, vp 3 0, vp 4 0]
theorem Zi6 (a0 a1 : Int) (L2 : List RL) (L3 L4 : List RI) (N : Nat) : Fx Tryz.prog Zu Tryz.f192 [.cells (κi L2) 272, .cells [Value.map (some 6)] 270, .cells [Value.func (.func 186) #[] #[]] 276, .cells [vn] 86, .cells [vn] 278, .ro (Zc L3) true, .ro (Zc L4) true] (κB a0 a1) (ZfW a0 a1 L2 L3 L4) (Zf1 a0 a1 L2 L3 L4) (Zai a0 a1 L2 L3 L4 N) := by
 unfold Zai
 refine Zcc (fun z0 c0 => ?_)
 cases z0 with
 | r0 y0_0 y0_1 =>
  have w1 := kK (Zen c0 [5] 8) Zk
  refine Zg (fun g1 => ?_) (fun g1 => ?_)
  ·
   exact fxC (Zj (oq [1]) [] [] [] [(0, (ZK c0 [5] 8).t)]) (rg 0 7 []) (vtt) (kX ((!y0_1)) true (Zfx (by first | assumption | simp_all)) w1) (bS (κi L2) <| bS [Value.map (some 6)] <| bS [Value.func (.func 186) #[] #[]] <| bS [vn] <| bS [vn] <| bC (o := .ro (Zc L3) true) (show Zc L3 = Zc L3 from rfl) <| bC (o := .ro (Zc L4) true) (show Zc L4 = Zc L4 from rfl) <| bE)
  ·
   have w2 := kX ((!y0_1)) false (Zd5 (by first | assumption | exact Decidable.not_not.1 (by assumption) | simp_all)) w1
   refine Zg (fun g2 => ?_) (fun g2 => ?_)
   ·
    exact fxC (Zj (oq [0]) [] [] [] [(0, (ZK c0 [5] 8).t), (1, .lk (some (vi (Zb2 L4 a0 a1))))]) (rg 0 7 []) (vtt) (kX (dP ((κ0 a0 a1 L4).map (Option.map Prod.snd) = some (some (vi (Zb2 L4 a0 a1))))) true (Z2 (ZnI (by assumption))) w2) (bS (κi L2) <| bS [Value.map (some 6)] <| bS [Value.func (.func 186) #[] #[]] <| bS [vn] <| bS [vn] <| bC (o := .ro (Zc L3) true) (show Zc L3 = Zc L3 from rfl) <| bC (o := .ro (Zc L4) true) (show Zc L4 = Zc L4 from rfl) <| bE)
   ·
    have w3 := kX (dP ((κ0 a0 a1 L4).map (Option.map Prod.snd) = some (none))) true (Z2 (ZnJ (by assumption))) w2
    refine Zg (fun g3 => ?_) (fun _ => Zo)
    refine Zg (fun g4 => ?_) (fun _ => Zo)
    have w5 := kG RD L2 (0 + ((y0_0).toNat * 8)) ((y0_0).toNat) 0 8 8 <| kB (y0_0).toNat L2.length <| kI y0_0 (Int.ofNat (y0_0).toNat) w3
    refine Zcc (fun z5 c5 => ?_)
    cases z5 with
    | r0 y5_0 =>
     refine Zg (fun g6 => ?_) (fun g6 => ?_)
     ·
      exact fxC (Zj (oq [0, 3]) [] [(0, (y0_0).toNat)] [(6, (RD.cel (L2.getD (y0_0).toNat RL.z)))] [(0, (ZK c0 [5] 8).t), (1, .lk (none)), (2, (ZbI c5 [] 8).t)]) (rg 0 7 []) (vtt) (kX ((!y5_0)) true (Zfx (by first | assumption | simp_all)) <| kK (ZcI c5 [] 8) w5) (bS (κi L2) <| bS [Value.map (some 6)] <| bS [Value.func (.func 186) #[] #[]] <| bS [vn] <| bS [vn] <| bC (o := .ro (Zc L3) true) (show Zc L3 = Zc L3 from rfl) <| bC (o := .ro (Zc L4) true) (show Zc L4 = Zc L4 from rfl) <| bE)
     ·
      exact fxC (Zj (oq [0, 2]) [] [(0, (y0_0).toNat)] [(6, (RD.cel (L2.getD (y0_0).toNat RL.z)))] [(0, (ZK c0 [5] 8).t), (1, .lk (none)), (2, (ZbI c5 [] 8).t), (3, .mp (ZaS (Zaj L4 a0 a1 y0_0)))]) (rg 0 7 (9 :: [11])) (vtt) (kX (κbi a0 a1 y0_0 L4) true (Z2 (ZnK _ _ _ _)) <| kX ((!y5_0)) false (Zd5 (by first | assumption | exact Decidable.not_not.1 (by assumption) | simp_all)) <| kK (ZcI c5 [] 8) w5) (bS (κi L2) <| bS [Value.map (some 6)] <| bS [Value.func (.func 186) #[] #[]] <| bU [vs 9 0 1 1] 0 (show (vs 7 0 1 1 : Value) = vs 7 0 ([y0_0] : List Int).length ([y0_0] : List Int).length from Z5 rfl eqA eqA) <| bU [vs 11 0 1 1] 0 (show (vs 8 0 1 1 : Value) = vs 8 0 ([(⟨y0_0, 0⟩ : RH)] : List RH).length ([(⟨y0_0, 0⟩ : RH)] : List RH).length from Z5 rfl eqA eqA) <| bC (o := .ro (Zc L3) true) (show Zc L3 = Zc L3 from rfl) <| bC (o := .ro (Zc (Zaj L4 a0 a1 y0_0)) true) (show Zc (Zaj L4 a0 a1 y0_0) = Zc (Zaj L4 a0 a1 y0_0) from rfl) <| bC (o := .cells [vi y0_0] 3) (Zc5 (E := eI) _ (L := ([y0_0] : List Int)) _ (show ([vi y0_0] : List Value) = Zb eI ([y0_0] : List Int) from rfl)) <| bC (o := .cells [vi y0_0, vq] 281) (Zc5 (E := RB) _ (L := ([(⟨y0_0, 0⟩ : RH)] : List RH)) _ (show ([vi y0_0, vq] : List Value) = Zb RB ([(⟨y0_0, 0⟩ : RH)] : List RH) from rfl)) <| bE)

theorem Ze9 (a0 a1 : Int) (L2 : List RL) (L3 L4 : List RI) (N : Nat) (r : ZaD) (h : Zai a0 a1 L2 L3 L4 N = some r) : LSpec Tryz.prog 192 (κB a0 a1) [.cells (κi L2) 272, .cells [Value.map (some 6)] 270, .cells [Value.func (.func 186) #[] #[]] 276, .cells [vn] 86, .cells [vn] 278, .ro (Zc L3) true, .ro (Zc L4) true] (ZfW a0 a1 L2 L3 L4 r) (Zf1 a0 a1 L2 L3 L4 r) :=
 Zbc Zz Tryz.func192 (by kernel_rfl) (by kernel_rfl) (fun r => by cases r <;> exact ZB _ rfl) (Zi6 a0 a1 L2 L3 L4 N) h

noncomputable abbrev κbb (ks : List Nat) := ((nth ks 1), AObj.cells [Value.map (some (nth ks 6))] 270)
noncomputable abbrev κT (ks : List Nat) (L2 : List RL) := ((nth ks 0), AObj.cells [ms RD L2, Value.map (some (nth ks 5))] 272)
noncomputable abbrev κE (a0 a1 : Int) (ks : List Nat) := #[Value.agg #[vi a0, vi a1], vp (nth ks 0) 0, vp (nth ks 1) 0, vp (nth ks 2) 0, vp (nth ks 3) 0, vp (nth ks 4) 0]
noncomputable def Zf2 {a0 a1 : Int} {L2 : List RL} {L3 L4 : List RI} {N : Nat} (h : Zai a0 a1 L2 L3 L4 N = some (.r0)) (ks : List Nat) (n : Nat) : ToldS := ⟨(κE a0 a1 ks), [(κT ks L2), (κbb ks), ((nth ks 2), .cells [Value.func (.func 186) #[] #[]] 276), ((nth ks 3), .cells [vn] 86), ((nth ks 4), .cells [vn] 278), ((nth ks 5), .ro (Zc L3) true), ((nth ks 6), .ro (Zc L4) true)], vtt, [], 0⟩

theorem Zjl {a0 a1 : Int} {L2 : List RL} {L3 L4 : List RI} {N : Nat} (h : Zai a0 a1 L2 L3 L4 N = some (.r0)) (ks : List Nat) (n : Nat) (hk : ks.length = 7 := by rfl) (hnd : ks.Nodup := by decide +kernel) (hlt : ∀ k ∈ ks, k < n := by decide +kernel) : (Zf2 (N := N)  h ks n).P Tryz.prog 192 n :=
 match ks, hk, hnd, hlt with
 | [k0, k1, k2, k3, k4, k5, k6], _, hnd, hlt => Za3 (show LSpec Tryz.prog 192 (κB a0 a1) [.cells (κi L2) 272, .cells [Value.map (some 6)] 270, .cells [Value.func (.func 186) #[] #[]] 276, .cells [vn] 86, .cells [vn] 278, .ro (Zc L3) true, .ro (Zc L4) true] (vtt) [some (.cells (κi L2) 272), some κU, some (.cells [Value.func (.func 186) #[] #[]] 276), some (.cells [vn] 86), some (.cells [vn] 278), some (.ro (Zc L3) true), some (.ro (Zc L4) true)] from Ze9 a0 a1 L2 L3 L4 N _ h) _ n [] hnd hlt

noncomputable def Zf3 {a0 a1 : Int} {L2 : List RL} {L3 L4 w1 : List RI} {w3 : List Int} {w4 : List RH} {N : Nat} (h : Zai a0 a1 L2 L3 L4 N = some (.r1 w1 w3 w4)) (ks : List Nat) (n : Nat) : ToldS := ⟨(κE a0 a1 ks), [(κT ks L2), (κbb ks), ((nth ks 2), .cells [Value.func (.func 186) #[] #[]] 276), ((nth ks 3), .cells [vn] 86), ((nth ks 4), .cells [vn] 278), ((nth ks 5), .ro (Zc L3) true), ((nth ks 6), .ro (Zc L4) true)], vtt, [((nth ks 3), some (.cells [vs n 0 w3.length w3.length] 86)), ((nth ks 4), some (.cells [vs (n + 1) 0 w4.length w4.length] 278)), ((nth ks 6), some (.ro (Zc w1) true)), (n, some (.cells (Zb eI w3) 3)), ((n + 1), some (.cells (Zb RB w4) 281))], 2⟩

theorem Zjm {a0 a1 : Int} {L2 : List RL} {L3 L4 w1 : List RI} {w3 : List Int} {w4 : List RH} {N : Nat} (h : Zai a0 a1 L2 L3 L4 N = some (.r1 w1 w3 w4)) (ks : List Nat) (n : Nat) (hk : ks.length = 7 := by rfl) (hnd : ks.Nodup := by decide +kernel) (hlt : ∀ k ∈ ks, k < n := by decide +kernel) : (Zf3 (N := N)  h ks n).P Tryz.prog 192 n :=
 match ks, hk, hnd, hlt with
 | [k0, k1, k2, k3, k4, k5, k6], _, hnd, hlt => Za3 (show LSpec Tryz.prog 192 (κB a0 a1) [.cells (κi L2) 272, .cells [Value.map (some 6)] 270, .cells [Value.func (.func 186) #[] #[]] 276, .cells [vn] 86, .cells [vn] 278, .ro (Zc L3) true, .ro (Zc L4) true] (vtt) [some (.cells (κi L2) 272), some κU, some (.cells [Value.func (.func 186) #[] #[]] 276), some (.cells [vs 7 0 w3.length w3.length] 86), some (.cells [vs 8 0 w4.length w4.length] 278), some (.ro (Zc L3) true), some (.ro (Zc w1) true), some (.cells (Zb eI w3) 3), some (.cells (Zb RB w4) 281)] from Ze9 a0 a1 L2 L3 L4 N _ h) _ n [3, 4, 6, 7, 8] hnd hlt

set_option linter.unusedVariables false
set_option maxRecDepth 100000
set_option maxHeartbeats 4000000
noncomputable def Zfn (a0 a1 : Int) (L2 : List RL) (L3 L4 : List RI) (L5 : List Int) (L6 : List RH) : Za2 → Value
 | .r0 => vtt
 | .r1 w1 w3 w4 => vtt
noncomputable abbrev κbq (L6 : List RH) := [vs 8 0 L6.length L6.length]
noncomputable abbrev κL (L5 : List Int) := [vs 7 0 L5.length L5.length]
noncomputable def ZeR (a0 a1 : Int) (L2 : List RL) (L3 L4 : List RI) (L5 : List Int) (L6 : List RH) : Za2 → List (Option AObj)
 | .r0 => [some (.cells (κi L2) 272), some κU, some (.cells [Value.func (.func 186) #[] #[]] 276), some (.cells (κL L5) 86), some (.cells (κbq L6) 278), some (.ro (Zc L3) true), some (.ro (Zc L4) true), some (.cells (Zb eI L5) 3), some (.cells (Zb RB L6) 281)]
 | .r1 w1 w3 w4 => [some (.cells (κi L2) 272), some κU, some (.cells [Value.func (.func 186) #[] #[]] 276), some (.cells [vs 9 0 w3.length w3.length] 86), some (.cells [vs 10 0 w4.length w4.length] 278), some (.ro (Zc L3) true), some (.ro (Zc w1) true), none, none, some (.cells (Zb eI w3) 3), some (.cells (Zb RB w4) 281)]

theorem ZhB (a0 a1 : Int) (L2 : List RL) (L3 L4 : List RI) (L5 : List Int) (L6 : List RH) (N : Nat) : Fx Tryz.prog Zu Tryz.f192 [.cells (κi L2) 272, .cells [Value.map (some 6)] 270, .cells [Value.func (.func 186) #[] #[]] 276, .cells (κL L5) 86, .cells (κbq L6) 278, .ro (Zc L3) true, .ro (Zc L4) true, .cells (Zb eI L5) 3, .cells (Zb RB L6) 281] (κB a0 a1) (Zfn a0 a1 L2 L3 L4 L5 L6) (ZeR a0 a1 L2 L3 L4 L5 L6) (ZH a0 a1 L2 L3 L4 L5 L6 N) := by
 unfold ZH
 refine Zcc (fun z0 c0 => ?_)
 cases z0 with
 | r0 y0_0 y0_1 =>
  have w1 := kK (Zen c0 [5] 10) Zk
  refine Zg (fun g1 => ?_) (fun g1 => ?_)
  ·
   exact fxC (Zj (oq [1]) [] [] [] [(0, (ZK c0 [5] 10).t)]) (rg 0 9 []) (vtt) (kX ((!y0_1)) true (Zfx (by first | assumption | simp_all)) w1) (bS (κi L2) <| bS [Value.map (some 6)] <| bS [Value.func (.func 186) #[] #[]] <| bS (κL L5) <| bS (κbq L6) <| bC (o := .ro (Zc L3) true) (show Zc L3 = Zc L3 from rfl) <| bC (o := .ro (Zc L4) true) (show Zc L4 = Zc L4 from rfl) <| bR <| bR <| bE)
  ·
   have w2 := kX ((!y0_1)) false (Zd5 (by first | assumption | exact Decidable.not_not.1 (by assumption) | simp_all)) w1
   refine Zg (fun g2 => ?_) (fun g2 => ?_)
   ·
    exact fxC (Zj (oq [0]) [] [] [] [(0, (ZK c0 [5] 10).t), (1, .lk (some (vi (Zb2 L4 a0 a1))))]) (rg 0 9 []) (vtt) (kX (dP ((κ0 a0 a1 L4).map (Option.map Prod.snd) = some (some (vi (Zb2 L4 a0 a1))))) true (Z2 (ZnI (by assumption))) w2) (bS (κi L2) <| bS [Value.map (some 6)] <| bS [Value.func (.func 186) #[] #[]] <| bS (κL L5) <| bS (κbq L6) <| bC (o := .ro (Zc L3) true) (show Zc L3 = Zc L3 from rfl) <| bC (o := .ro (Zc L4) true) (show Zc L4 = Zc L4 from rfl) <| bR <| bR <| bE)
   ·
    have w3 := kX (dP ((κ0 a0 a1 L4).map (Option.map Prod.snd) = some (none))) true (Z2 (ZnJ (by assumption))) w2
    refine Zg (fun g3 => ?_) (fun _ => Zo)
    refine Zg (fun g4 => ?_) (fun _ => Zo)
    have w5 := kG RD L2 (0 + ((y0_0).toNat * 8)) ((y0_0).toNat) 0 8 8 <| kB (y0_0).toNat L2.length <| kI y0_0 (Int.ofNat (y0_0).toNat) w3
    refine Zcc (fun z5 c5 => ?_)
    cases z5 with
    | r0 y5_0 =>
     refine Zg (fun g6 => ?_) (fun g6 => ?_)
     ·
      exact fxC (Zj (oq [0, 3]) [] [(0, (y0_0).toNat)] [(6, (RD.cel (L2.getD (y0_0).toNat RL.z)))] [(0, (ZK c0 [5] 10).t), (1, .lk (none)), (2, (ZbI c5 [] 10).t)]) (rg 0 9 []) (vtt) (kX ((!y5_0)) true (Zfx (by first | assumption | simp_all)) <| kK (ZcI c5 [] 10) w5) (bS (κi L2) <| bS [Value.map (some 6)] <| bS [Value.func (.func 186) #[] #[]] <| bS (κL L5) <| bS (κbq L6) <| bC (o := .ro (Zc L3) true) (show Zc L3 = Zc L3 from rfl) <| bC (o := .ro (Zc L4) true) (show Zc L4 = Zc L4 from rfl) <| bR <| bR <| bE)
     ·
      refine Zg (fun g7 => ?_) (fun _ => Zo)
      refine Zg (fun g8 => ?_) (fun _ => Zo)
      exact fxC (Zj (oq [0, 2]) [] [(0, (y0_0).toNat)] [(6, (RD.cel (L2.getD (y0_0).toNat RL.z)))] [(0, (ZK c0 [5] 10).t), (1, .lk (none)), (2, (ZbI c5 [] 10).t), (3, .mp (ZaS (Zaj L4 a0 a1 y0_0))), (4, .ap 1 [vi y0_0] (Zb eI (L5 ++ ([y0_0] : List Int)))), (6, .ap 1 [vi y0_0, vq] (Zb RB (L6 ++ ([(⟨y0_0, 0⟩ : RH)] : List RH))))]) (rg 0 9 (11 :: [13])) (vtt) (kA RB L6 (⟨y0_0, 0⟩ : RH) <| kA eI L5 y0_0 <| kX (κbi a0 a1 y0_0 L4) true (Z2 (ZnK _ _ _ _)) <| kX ((!y5_0)) false (Zd5 (by first | assumption | exact Decidable.not_not.1 (by assumption) | simp_all)) <| kK (ZcI c5 [] 10) w5) (bS (κi L2) <| bS [Value.map (some 6)] <| bS [Value.func (.func 186) #[] #[]] <| bU [vs 11 0 (L5.length + 1) (L5.length + 1)] 0 (show (vs 9 0 (L5.length + 1) (L5.length + 1) : Value) = vs 9 0 (L5 ++ ([y0_0] : List Int)).length (L5 ++ ([y0_0] : List Int)).length from Z5 rfl eqA eqA) <| bU [vs 13 0 (L6.length + 1) (L6.length + 1)] 0 (show (vs 10 0 (L6.length + 1) (L6.length + 1) : Value) = vs 10 0 (L6 ++ ([(⟨y0_0, 0⟩ : RH)] : List RH)).length (L6 ++ ([(⟨y0_0, 0⟩ : RH)] : List RH)).length from Z5 rfl eqA eqA) <| bC (o := .ro (Zc L3) true) (show Zc L3 = Zc L3 from rfl) <| bC (o := .ro (Zc (Zaj L4 a0 a1 y0_0)) true) (show Zc (Zaj L4 a0 a1 y0_0) = Zc (Zaj L4 a0 a1 y0_0) from rfl) <| bN <| bN <| bR <| bR <| bE)

theorem ZdX (a0 a1 : Int) (L2 : List RL) (L3 L4 : List RI) (L5 : List Int) (L6 : List RH) (N : Nat) (r : Za2) (h : ZH a0 a1 L2 L3 L4 L5 L6 N = some r) : LSpec Tryz.prog 192 (κB a0 a1) [.cells (κi L2) 272, .cells [Value.map (some 6)] 270, .cells [Value.func (.func 186) #[] #[]] 276, .cells (κL L5) 86, .cells (κbq L6) 278, .ro (Zc L3) true, .ro (Zc L4) true, .cells (Zb eI L5) 3, .cells (Zb RB L6) 281] (Zfn a0 a1 L2 L3 L4 L5 L6 r) (ZeR a0 a1 L2 L3 L4 L5 L6 r) :=
 Zbc Zz Tryz.func192 (by kernel_rfl) (by kernel_rfl) (fun r => by cases r <;> exact ZB _ rfl) (ZhB a0 a1 L2 L3 L4 L5 L6 N) h

noncomputable abbrev κbj (ks : List Nat) (L5 : List Int) := ((nth ks 3), AObj.cells [vs (nth ks 7) 0 L5.length L5.length] 86)
noncomputable def Zdi {a0 a1 : Int} {L2 : List RL} {L3 L4 : List RI} {L5 : List Int} {L6 : List RH} {N : Nat} (h : ZH a0 a1 L2 L3 L4 L5 L6 N = some (.r0)) (ks : List Nat) (n : Nat) : ToldS := ⟨(κE a0 a1 ks), [(κT ks L2), (κbb ks), ((nth ks 2), .cells [Value.func (.func 186) #[] #[]] 276), (κbj ks L5), ((nth ks 4), .cells [vs (nth ks 8) 0 L6.length L6.length] 278), ((nth ks 5), .ro (Zc L3) true), ((nth ks 6), .ro (Zc L4) true), ((nth ks 7), .cells (Zb eI L5) 3), ((nth ks 8), .cells (Zb RB L6) 281)], vtt, [], 0⟩

theorem ZeS {a0 a1 : Int} {L2 : List RL} {L3 L4 : List RI} {L5 : List Int} {L6 : List RH} {N : Nat} (h : ZH a0 a1 L2 L3 L4 L5 L6 N = some (.r0)) (ks : List Nat) (n : Nat) (hk : ks.length = 9 := by rfl) (hnd : ks.Nodup := by decide +kernel) (hlt : ∀ k ∈ ks, k < n := by decide +kernel) : (Zdi (N := N)  h ks n).P Tryz.prog 192 n :=
 match ks, hk, hnd, hlt with
 | [k0, k1, k2, k3, k4, k5, k6, k7, k8], _, hnd, hlt => Za3 (show LSpec Tryz.prog 192 (κB a0 a1) [.cells (κi L2) 272, .cells [Value.map (some 6)] 270, .cells [Value.func (.func 186) #[] #[]] 276, .cells (κL L5) 86, .cells (κbq L6) 278, .ro (Zc L3) true, .ro (Zc L4) true, .cells (Zb eI L5) 3, .cells (Zb RB L6) 281] (vtt) [some (.cells (κi L2) 272), some κU, some (.cells [Value.func (.func 186) #[] #[]] 276), some (.cells (κL L5) 86), some (.cells (κbq L6) 278), some (.ro (Zc L3) true), some (.ro (Zc L4) true), some (.cells (Zb eI L5) 3), some (.cells (Zb RB L6) 281)] from ZdX a0 a1 L2 L3 L4 L5 L6 N _ h) _ n [] hnd hlt

noncomputable abbrev κbd (ks : List Nat) (n : Nat) (w3 : List Int) (w4 : List RH) (w1 : List RI) := [((nth ks 3), some (AObj.cells [vs n 0 w3.length w3.length] 86)), ((nth ks 4), some (AObj.cells [vs (n + 1) 0 w4.length w4.length] 278)), ((nth ks 6), some (AObj.ro (Zc w1) true)), ((nth ks 7), none), ((nth ks 8), none), (n, some (AObj.cells (Zb eI w3) 3)), ((n + 1), some (AObj.cells (Zb RB w4) 281))]
noncomputable def Zdj {a0 a1 : Int} {L2 : List RL} {L3 L4 : List RI} {L5 : List Int} {L6 : List RH} {w1 : List RI} {w3 : List Int} {w4 : List RH} {N : Nat} (h : ZH a0 a1 L2 L3 L4 L5 L6 N = some (.r1 w1 w3 w4)) (ks : List Nat) (n : Nat) : ToldS := ⟨(κE a0 a1 ks), [(κT ks L2), (κbb ks), ((nth ks 2), .cells [Value.func (.func 186) #[] #[]] 276), (κbj ks L5), ((nth ks 4), .cells [vs (nth ks 8) 0 L6.length L6.length] 278), ((nth ks 5), .ro (Zc L3) true), ((nth ks 6), .ro (Zc L4) true), ((nth ks 7), .cells (Zb eI L5) 3), ((nth ks 8), .cells (Zb RB L6) 281)], vtt, (κbd ks n w3 w4 w1), 2⟩

theorem ZeT {a0 a1 : Int} {L2 : List RL} {L3 L4 : List RI} {L5 : List Int} {L6 : List RH} {w1 : List RI} {w3 : List Int} {w4 : List RH} {N : Nat} (h : ZH a0 a1 L2 L3 L4 L5 L6 N = some (.r1 w1 w3 w4)) (ks : List Nat) (n : Nat) (hk : ks.length = 9 := by rfl) (hnd : ks.Nodup := by decide +kernel) (hlt : ∀ k ∈ ks, k < n := by decide +kernel) : (Zdj (N := N)  h ks n).P Tryz.prog 192 n :=
 match ks, hk, hnd, hlt with
 | [k0, k1, k2, k3, k4, k5, k6, k7, k8], _, hnd, hlt => Za3 (show LSpec Tryz.prog 192 (κB a0 a1) [.cells (κi L2) 272, .cells [Value.map (some 6)] 270, .cells [Value.func (.func 186) #[] #[]] 276, .cells (κL L5) 86, .cells (κbq L6) 278, .ro (Zc L3) true, .ro (Zc L4) true, .cells (Zb eI L5) 3, .cells (Zb RB L6) 281] (vtt) [some (.cells (κi L2) 272), some κU, some (.cells [Value.func (.func 186) #[] #[]] 276), some (.cells [vs 9 0 w3.length w3.length] 86), some (.cells [vs 10 0 w4.length w4.length] 278), some (.ro (Zc L3) true), some (.ro (Zc w1) true), none, none, some (.cells (Zb eI w3) 3), some (.cells (Zb RB w4) 281)] from ZdX a0 a1 L2 L3 L4 L5 L6 N _ h) _ n (3 :: (4 :: (rg 6 5 []))) hnd hlt

noncomputable def Zfo (a0 a1 : Int) (L2 : List RL) (L3 L4 : List RI) (L5 : List Int) (L6 : List RH) (n7 n8 : Nat) : Zan → Value
 | .r0 => vtt
 | .r1 w1 w2 w4 => vtt
 | .r2 w1 w3 w4 => vtt
noncomputable def ZeU (a0 a1 : Int) (L2 : List RL) (L3 L4 : List RI) (L5 : List Int) (L6 : List RH) (n7 n8 : Nat) : Zan → List (Option AObj)
 | .r0 => [some (.cells (κi L2) 272), some κU, some (.cells [Value.func (.func 186) #[] #[]] 276), some (.cells (κL L5) 86), some (.cells [vs 8 0 n7 n8] 278), some (.ro (Zc L3) true), some (.ro (Zc L4) true), some (.cells (Zb eI L5) 3), some (.cells (Zb RB L6) 281)]
 | .r1 w1 w2 w4 => [some (.cells (κi L2) 272), some κU, some (.cells [Value.func (.func 186) #[] #[]] 276), some (.cells [vs 9 0 w4.length w4.length] 86), some (.cells [vs 8 0 (n7 + 1) n8] 278), some (.ro (Zc L3) true), some (.ro (Zc w1) true), none, some (.cells (Zb RB w2) 281), some (.cells (Zb eI w4) 3)]
 | .r2 w1 w3 w4 => [some (.cells (κi L2) 272), some κU, some (.cells [Value.func (.func 186) #[] #[]] 276), some (.cells [vs 9 0 w3.length w3.length] 86), some (.cells [vs 10 0 w4.length w4.length] 278), some (.ro (Zc L3) true), some (.ro (Zc w1) true), none, none, some (.cells (Zb eI w3) 3), some (.cells (Zb RB w4) 281)]

theorem ZhC (a0 a1 : Int) (L2 : List RL) (L3 L4 : List RI) (L5 : List Int) (L6 : List RH) (n7 n8 N : Nat) : Fx Tryz.prog Zu Tryz.f192 [.cells (κi L2) 272, .cells [Value.map (some 6)] 270, .cells [Value.func (.func 186) #[] #[]] 276, .cells (κL L5) 86, .cells [vs 8 0 n7 n8] 278, .ro (Zc L3) true, .ro (Zc L4) true, .cells (Zb eI L5) 3, .cells (Zb RB L6) 281] (κB a0 a1) (Zfo a0 a1 L2 L3 L4 L5 L6 n7 n8) (ZeU a0 a1 L2 L3 L4 L5 L6 n7 n8) (Z4 a0 a1 L2 L3 L4 L5 L6 n7 n8 N) := by
 unfold Z4
 refine Zcc (fun z0 c0 => ?_)
 cases z0 with
 | r0 y0_0 y0_1 =>
  have w1 := kK (Zen c0 [5] 10) Zk
  refine Zg (fun g1 => ?_) (fun g1 => ?_)
  ·
   exact fxC (Zj (oq [1]) [] [] [] [(0, (ZK c0 [5] 10).t)]) (rg 0 9 []) (vtt) (kX ((!y0_1)) true (Zfx (by first | assumption | simp_all)) w1) (bS (κi L2) <| bS [Value.map (some 6)] <| bS [Value.func (.func 186) #[] #[]] <| bS (κL L5) <| bS [vs 8 0 n7 n8] <| bC (o := .ro (Zc L3) true) (show Zc L3 = Zc L3 from rfl) <| bC (o := .ro (Zc L4) true) (show Zc L4 = Zc L4 from rfl) <| bR <| bR <| bE)
  ·
   have w2 := kX ((!y0_1)) false (Zd5 (by first | assumption | exact Decidable.not_not.1 (by assumption) | simp_all)) w1
   refine Zg (fun g2 => ?_) (fun g2 => ?_)
   ·
    exact fxC (Zj (oq [0]) [] [] [] [(0, (ZK c0 [5] 10).t), (1, .lk (some (vi (Zb2 L4 a0 a1))))]) (rg 0 9 []) (vtt) (kX (dP ((κ0 a0 a1 L4).map (Option.map Prod.snd) = some (some (vi (Zb2 L4 a0 a1))))) true (Z2 (ZnI (by assumption))) w2) (bS (κi L2) <| bS [Value.map (some 6)] <| bS [Value.func (.func 186) #[] #[]] <| bS (κL L5) <| bS [vs 8 0 n7 n8] <| bC (o := .ro (Zc L3) true) (show Zc L3 = Zc L3 from rfl) <| bC (o := .ro (Zc L4) true) (show Zc L4 = Zc L4 from rfl) <| bR <| bR <| bE)
   ·
    have w3 := kX (dP ((κ0 a0 a1 L4).map (Option.map Prod.snd) = some (none))) true (Z2 (ZnJ (by assumption))) w2
    refine Zg (fun g3 => ?_) (fun _ => Zo)
    refine Zg (fun g4 => ?_) (fun _ => Zo)
    have w5 := kG RD L2 (0 + ((y0_0).toNat * 8)) ((y0_0).toNat) 0 8 8 <| kB (y0_0).toNat L2.length <| kI y0_0 (Int.ofNat (y0_0).toNat) w3
    refine Zcc (fun z5 c5 => ?_)
    cases z5 with
    | r0 y5_0 =>
     refine Zg (fun g6 => ?_) (fun g6 => ?_)
     ·
      exact fxC (Zj (oq [0, 3]) [] [(0, (y0_0).toNat)] [(6, (RD.cel (L2.getD (y0_0).toNat RL.z)))] [(0, (ZK c0 [5] 10).t), (1, .lk (none)), (2, (ZbI c5 [] 10).t)]) (rg 0 9 []) (vtt) (kX ((!y5_0)) true (Zfx (by first | assumption | simp_all)) <| kK (ZcI c5 [] 10) w5) (bS (κi L2) <| bS [Value.map (some 6)] <| bS [Value.func (.func 186) #[] #[]] <| bS (κL L5) <| bS [vs 8 0 n7 n8] <| bC (o := .ro (Zc L3) true) (show Zc L3 = Zc L3 from rfl) <| bC (o := .ro (Zc L4) true) (show Zc L4 = Zc L4 from rfl) <| bR <| bR <| bE)
     ·
      have w7 := kX (κbi a0 a1 y0_0 L4) true (Z2 (ZnK _ _ _ _)) <| kX ((!y5_0)) false (Zd5 (by first | assumption | exact Decidable.not_not.1 (by assumption) | simp_all)) <| kK (ZcI c5 [] 10) w5
      refine Zg (fun g7 => ?_) (fun _ => Zo)
      refine Zg (fun g8 => ?_) (fun g8 => ?_)
      ·
       refine Zg (fun g9 => ?_) (fun _ => Zo)
       exact fxC (Zj (oq [0, 2]) [] [(0, (y0_0).toNat)] [(6, (RD.cel (L2.getD (y0_0).toNat RL.z)))] [(0, (ZK c0 [5] 10).t), (1, .lk (none)), (2, (ZbI c5 [] 10).t), (3, .mp (ZaS (Zaj L4 a0 a1 y0_0))), (4, .ap 1 [vi y0_0] (Zb eI (L5 ++ ([y0_0] : List Int)))), (6, .api 1 [vi y0_0, vq] (Zb RB (L6.set n7 (⟨y0_0, 0⟩ : RH))))]) (rg 0 9 [11]) (vtt) (kX (dP (((1 = 1 ∧ ZO (1 * 2) (List.drop 0 [vi y0_0, vq]) = some [vi y0_0, vq] ∧ Zq Zcj [vi y0_0, vq] = true) ∧ Zq Zcj [vi y0_0, vq] = true) ∧ 0 < 1 ∧ 1 ≤ 100000 ∧ n7 + 1 ≤ n8 ∧ (0 + n7 * 2 + ([vi y0_0, vq] : List Value).length ≤ ((Zb RB L6) : List Value).length ∧ ZeC (Zb RB L6) (0 + n7 * 2) [vi y0_0, vq] = (Zb RB (L6.set n7 (⟨y0_0, 0⟩ : RH)))))) true (Z2 ⟨⟨⟨rfl, ⟨rfl, rfl⟩⟩, rfl⟩, by omega, by omega, by omega, (ZaO (E := RB) (L := L6) (i := n7) (q := 0) (l := [vi y0_0, vq]) (⟨y0_0, 0⟩ : RH) (by omega) (show 0 + n7 * 2 = n7 * 2 + 0 from by omega) (show 0 + 2 ≤ 2 from by decide) rfl)⟩) <| kA eI L5 y0_0 w7) (bS (κi L2) <| bS [Value.map (some 6)] <| bS [Value.func (.func 186) #[] #[]] <| bU [vs 11 0 (L5.length + 1) (L5.length + 1)] 0 (show (vs 9 0 (L5.length + 1) (L5.length + 1) : Value) = vs 9 0 (L5 ++ ([y0_0] : List Int)).length (L5 ++ ([y0_0] : List Int)).length from Z5 rfl eqA eqA) <| bS [vs 8 0 (n7 + 1) n8] <| bC (o := .ro (Zc L3) true) (show Zc L3 = Zc L3 from rfl) <| bC (o := .ro (Zc (Zaj L4 a0 a1 y0_0)) true) (show Zc (Zaj L4 a0 a1 y0_0) = Zc (Zaj L4 a0 a1 y0_0) from rfl) <| bN <| bR <| bR <| bE)
      ·
       refine Zg (fun g9 => ?_) (fun _ => Zo)
       refine Zg (fun g10 => ?_) (fun _ => Zo)
       exact fxC (Zj (oq [0, 2]) [] [(0, (y0_0).toNat)] [(6, (RD.cel (L2.getD (y0_0).toNat RL.z)))] [(0, (ZK c0 [5] 10).t), (1, .lk (none)), (2, (ZbI c5 [] 10).t), (3, .mp (ZaS (Zaj L4 a0 a1 y0_0))), (4, .ap 1 [vi y0_0] (Zb eI (L5 ++ ([y0_0] : List Int)))), (6, .ap 1 [vi y0_0, vq] (Zb RB ((L6.take n7) ++ ([(⟨y0_0, 0⟩ : RH)] : List RH))))]) (rg 0 9 (11 :: [13])) (vtt) (kX (dP ((1 = 1 ∧ ZO (1 * 2) (List.drop 0 [vi y0_0, vq]) = some [vi y0_0, vq] ∧ Zq Zcj [vi y0_0, vq] = true) ∧ 0 < 1 ∧ 1 ≤ 100000 ∧ n8 < n7 + 1 ∧ n7 ≤ 100000 ∧ n7 * 2 ≤ (List.length (Zb RB L6)) ∧ List.take (n7 * 2) (Zb RB L6) ++ [vi y0_0, vq] = (Zb RB ((L6.take n7) ++ ([(⟨y0_0, 0⟩ : RH)] : List RH))))) true (Z2 ⟨⟨rfl, ⟨rfl, rfl⟩⟩, by omega, by omega, ltA, by omega, (ZfI (E := RB) (L := L6) (M := ([(⟨y0_0, 0⟩ : RH)] : List RH)) (n := n7) (show _ = _ * 2 from rfl) (by omega) (R := ((L6.take n7) ++ ([(⟨y0_0, 0⟩ : RH)] : List RH))) rfl)⟩) <| kA eI L5 y0_0 w7) (bS (κi L2) <| bS [Value.map (some 6)] <| bS [Value.func (.func 186) #[] #[]] <| bU [vs 11 0 (L5.length + 1) (L5.length + 1)] 0 (show (vs 9 0 (L5.length + 1) (L5.length + 1) : Value) = vs 9 0 (L5 ++ ([y0_0] : List Int)).length (L5 ++ ([y0_0] : List Int)).length from Z5 rfl eqA eqA) <| bU [vs 13 0 (n7 + 1) (n7 + 1)] 0 (show (vs 10 0 (n7 + 1) (n7 + 1) : Value) = vs 10 0 ((L6.take n7) ++ ([(⟨y0_0, 0⟩ : RH)] : List RH)).length ((L6.take n7) ++ ([(⟨y0_0, 0⟩ : RH)] : List RH)).length from Z5 rfl eqA eqA) <| bC (o := .ro (Zc L3) true) (show Zc L3 = Zc L3 from rfl) <| bC (o := .ro (Zc (Zaj L4 a0 a1 y0_0)) true) (show Zc (Zaj L4 a0 a1 y0_0) = Zc (Zaj L4 a0 a1 y0_0) from rfl) <| bN <| bN <| bR <| bR <| bE)

theorem ZcC (a0 a1 : Int) (L2 : List RL) (L3 L4 : List RI) (L5 : List Int) (L6 : List RH) (n7 n8 N : Nat) (r : Zan) (h : Z4 a0 a1 L2 L3 L4 L5 L6 n7 n8 N = some r) : LSpec Tryz.prog 192 (κB a0 a1) [.cells (κi L2) 272, .cells [Value.map (some 6)] 270, .cells [Value.func (.func 186) #[] #[]] 276, .cells (κL L5) 86, .cells [vs 8 0 n7 n8] 278, .ro (Zc L3) true, .ro (Zc L4) true, .cells (Zb eI L5) 3, .cells (Zb RB L6) 281] (Zfo a0 a1 L2 L3 L4 L5 L6 n7 n8 r) (ZeU a0 a1 L2 L3 L4 L5 L6 n7 n8 r) :=
 Zbc Zz Tryz.func192 (by kernel_rfl) (by kernel_rfl) (fun r => by cases r <;> exact ZB _ rfl) (ZhC a0 a1 L2 L3 L4 L5 L6 n7 n8 N) h

noncomputable def Zdk {a0 a1 : Int} {L2 : List RL} {L3 L4 : List RI} {L5 : List Int} {L6 : List RH} {n7 n8 N : Nat} (h : Z4 a0 a1 L2 L3 L4 L5 L6 n7 n8 N = some (.r0)) (ks : List Nat) (n : Nat) : ToldS := ⟨(κE a0 a1 ks), [(κT ks L2), (κbb ks), ((nth ks 2), .cells [Value.func (.func 186) #[] #[]] 276), (κbj ks L5), ((nth ks 4), .cells [vs (nth ks 8) 0 n7 n8] 278), ((nth ks 5), .ro (Zc L3) true), ((nth ks 6), .ro (Zc L4) true), ((nth ks 7), .cells (Zb eI L5) 3), ((nth ks 8), .cells (Zb RB L6) 281)], vtt, [], 0⟩

theorem ZeV {a0 a1 : Int} {L2 : List RL} {L3 L4 : List RI} {L5 : List Int} {L6 : List RH} {n7 n8 N : Nat} (h : Z4 a0 a1 L2 L3 L4 L5 L6 n7 n8 N = some (.r0)) (ks : List Nat) (n : Nat) (hk : ks.length = 9 := by rfl) (hnd : ks.Nodup := by decide +kernel) (hlt : ∀ k ∈ ks, k < n := by decide +kernel) : (Zdk (N := N)  h ks n).P Tryz.prog 192 n :=
 match ks, hk, hnd, hlt with
 | [k0, k1, k2, k3, k4, k5, k6, k7, k8], _, hnd, hlt => Za3 (show LSpec Tryz.prog 192 (κB a0 a1) [.cells (κi L2) 272, .cells [Value.map (some 6)] 270, .cells [Value.func (.func 186) #[] #[]] 276, .cells (κL L5) 86, .cells [vs 8 0 n7 n8] 278, .ro (Zc L3) true, .ro (Zc L4) true, .cells (Zb eI L5) 3, .cells (Zb RB L6) 281] (vtt) [some (.cells (κi L2) 272), some κU, some (.cells [Value.func (.func 186) #[] #[]] 276), some (.cells (κL L5) 86), some (.cells [vs 8 0 n7 n8] 278), some (.ro (Zc L3) true), some (.ro (Zc L4) true), some (.cells (Zb eI L5) 3), some (.cells (Zb RB L6) 281)] from ZcC a0 a1 L2 L3 L4 L5 L6 n7 n8 N _ h) _ n [] hnd hlt

noncomputable def Zdl {a0 a1 : Int} {L2 : List RL} {L3 L4 : List RI} {L5 : List Int} {L6 : List RH} {n7 n8 : Nat} {w1 : List RI} {w2 : List RH} {w4 : List Int} {N : Nat} (h : Z4 a0 a1 L2 L3 L4 L5 L6 n7 n8 N = some (.r1 w1 w2 w4)) (ks : List Nat) (n : Nat) : ToldS := ⟨(κE a0 a1 ks), [(κT ks L2), (κbb ks), ((nth ks 2), .cells [Value.func (.func 186) #[] #[]] 276), (κbj ks L5), ((nth ks 4), .cells [vs (nth ks 8) 0 n7 n8] 278), ((nth ks 5), .ro (Zc L3) true), ((nth ks 6), .ro (Zc L4) true), ((nth ks 7), .cells (Zb eI L5) 3), ((nth ks 8), .cells (Zb RB L6) 281)], vtt, [((nth ks 3), some (.cells [vs n 0 w4.length w4.length] 86)), ((nth ks 4), some (.cells [vs (nth ks 8) 0 (n7 + 1) n8] 278)), ((nth ks 6), some (.ro (Zc w1) true)), ((nth ks 7), none), ((nth ks 8), some (.cells (Zb RB w2) 281)), (n, some (.cells (Zb eI w4) 3))], 1⟩

theorem ZeW {a0 a1 : Int} {L2 : List RL} {L3 L4 : List RI} {L5 : List Int} {L6 : List RH} {n7 n8 : Nat} {w1 : List RI} {w2 : List RH} {w4 : List Int} {N : Nat} (h : Z4 a0 a1 L2 L3 L4 L5 L6 n7 n8 N = some (.r1 w1 w2 w4)) (ks : List Nat) (n : Nat) (hk : ks.length = 9 := by rfl) (hnd : ks.Nodup := by decide +kernel) (hlt : ∀ k ∈ ks, k < n := by decide +kernel) : (Zdl (N := N)  h ks n).P Tryz.prog 192 n :=
 match ks, hk, hnd, hlt with
 | [k0, k1, k2, k3, k4, k5, k6, k7, k8], _, hnd, hlt => Za3 (show LSpec Tryz.prog 192 (κB a0 a1) [.cells (κi L2) 272, .cells [Value.map (some 6)] 270, .cells [Value.func (.func 186) #[] #[]] 276, .cells (κL L5) 86, .cells [vs 8 0 n7 n8] 278, .ro (Zc L3) true, .ro (Zc L4) true, .cells (Zb eI L5) 3, .cells (Zb RB L6) 281] (vtt) [some (.cells (κi L2) 272), some κU, some (.cells [Value.func (.func 186) #[] #[]] 276), some (.cells [vs 9 0 w4.length w4.length] 86), some (.cells [vs 8 0 (n7 + 1) n8] 278), some (.ro (Zc L3) true), some (.ro (Zc w1) true), none, some (.cells (Zb RB w2) 281), some (.cells (Zb eI w4) 3)] from ZcC a0 a1 L2 L3 L4 L5 L6 n7 n8 N _ h) _ n (3 :: (4 :: (rg 6 4 []))) hnd hlt

noncomputable def Zdm {a0 a1 : Int} {L2 : List RL} {L3 L4 : List RI} {L5 : List Int} {L6 : List RH} {n7 n8 : Nat} {w1 : List RI} {w3 : List Int} {w4 : List RH} {N : Nat} (h : Z4 a0 a1 L2 L3 L4 L5 L6 n7 n8 N = some (.r2 w1 w3 w4)) (ks : List Nat) (n : Nat) : ToldS := ⟨(κE a0 a1 ks), [(κT ks L2), (κbb ks), ((nth ks 2), .cells [Value.func (.func 186) #[] #[]] 276), (κbj ks L5), ((nth ks 4), .cells [vs (nth ks 8) 0 n7 n8] 278), ((nth ks 5), .ro (Zc L3) true), ((nth ks 6), .ro (Zc L4) true), ((nth ks 7), .cells (Zb eI L5) 3), ((nth ks 8), .cells (Zb RB L6) 281)], vtt, (κbd ks n w3 w4 w1), 2⟩

theorem ZeX {a0 a1 : Int} {L2 : List RL} {L3 L4 : List RI} {L5 : List Int} {L6 : List RH} {n7 n8 : Nat} {w1 : List RI} {w3 : List Int} {w4 : List RH} {N : Nat} (h : Z4 a0 a1 L2 L3 L4 L5 L6 n7 n8 N = some (.r2 w1 w3 w4)) (ks : List Nat) (n : Nat) (hk : ks.length = 9 := by rfl) (hnd : ks.Nodup := by decide +kernel) (hlt : ∀ k ∈ ks, k < n := by decide +kernel) : (Zdm (N := N)  h ks n).P Tryz.prog 192 n :=
 match ks, hk, hnd, hlt with
 | [k0, k1, k2, k3, k4, k5, k6, k7, k8], _, hnd, hlt => Za3 (show LSpec Tryz.prog 192 (κB a0 a1) [.cells (κi L2) 272, .cells [Value.map (some 6)] 270, .cells [Value.func (.func 186) #[] #[]] 276, .cells (κL L5) 86, .cells [vs 8 0 n7 n8] 278, .ro (Zc L3) true, .ro (Zc L4) true, .cells (Zb eI L5) 3, .cells (Zb RB L6) 281] (vtt) [some (.cells (κi L2) 272), some κU, some (.cells [Value.func (.func 186) #[] #[]] 276), some (.cells [vs 9 0 w3.length w3.length] 86), some (.cells [vs 10 0 w4.length w4.length] 278), some (.ro (Zc L3) true), some (.ro (Zc w1) true), none, none, some (.cells (Zb eI w3) 3), some (.cells (Zb RB w4) 281)] from ZcC a0 a1 L2 L3 L4 L5 L6 n7 n8 N _ h) _ n (3 :: (4 :: (rg 6 5 []))) hnd hlt

end Ev
end Go.Proofs.YtiijipocjellpaaGreat
