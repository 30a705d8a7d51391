/- Part 6. -/
import Derived.Test.YtiijipocjellpaaGreatZae
set_option linter.unusedSimpArgs false
set_option linter.unusedVariables false
/- Calls do what the plain functions say. -/
namespace Go.Proofs.YtiijipocjellpaaGreat
open Go.IntKind (i64)
open Go.RowKit
namespace Ev
set_option linter.unusedVariables false
set_option maxRecDepth 100000
set_option maxHeartbeats 4000000
noncomputable def ZhS (b0 : Bool) (a1 a2 a3 a4 a5 a6 a7 a8 a9 : Int) (L10 : List RH) (a11 a12 a13 a14 a15 : Int) (b16 : Bool) (a17 a18 a19 a20 : Int) (b21 : Bool) (a22 a23 a24 a25 a26 a27 : Int) : Zbr → Value
 | .r0 => Value.tuple #[Value.agg (κg b0 a1 a2 a3 a4 a5 a6 a7 a8 a9 L10 a11 a12 a13 a14 a15 b16 a17 a18 a19 a20 b21 a22), vi (170 : Int)]
 | .r1 => Value.tuple #[Value.agg #[vT, vi a1, vi (2 : Int), vq, vi a23, vi a24, vi a26, vi a27, vi a25, vq, vn, vq, vq, vq, vq, vq, vf, vq, vq, vq, vq, vf, vi a22], vq]
noncomputable def Zhk (b0 : Bool) (a1 a2 a3 a4 a5 a6 a7 a8 a9 : Int) (L10 : List RH) (a11 a12 a13 a14 a15 : Int) (b16 : Bool) (a17 a18 a19 a20 : Int) (b21 : Bool) (a22 a23 a24 a25 a26 a27 : Int) : Zbr → List (Option AObj)
 | .r0 => []
 | .r1 => []

noncomputable abbrev κbo (a1 : Int) (a23 : Int) (a24 : Int) (a26 : Int) (a27 : Int) (a25 : Int) (a22 : Int) := #[Value.agg #[vT, vi a1, vi (2 : Int), vq, vi a23, vi a24, vi a26, vi a27, vi a25, vq, ms RB ([] : List RH), vq, vq, vq, vq, vq, vf, vq, vq, vq, vq, vf, vi a22], vq]
noncomputable def Zni (b0 : Bool) (a1 a2 a3 a4 a5 a6 a7 a8 a9 : Int) (L10 : List RH) (a11 a12 a13 a14 a15 : Int) (b16 : Bool) (a17 a18 a19 a20 : Int) (b21 : Bool) (a22 a23 a24 a25 a26 a27 : Int) : Zbr → Value
 | .r0 => Value.tuple #[Value.agg (κg b0 a1 a2 a3 a4 a5 a6 a7 a8 a9 L10 a11 a12 a13 a14 a15 b16 a17 a18 a19 a20 b21 a22), vi (170 : Int)]
 | .r1 => Value.tuple (κbo a1 a23 a24 a26 a27 a25 a22)
noncomputable def ZlZ (b0 : Bool) (a1 a2 a3 a4 a5 a6 a7 a8 a9 : Int) (L10 : List RH) (a11 a12 a13 a14 a15 : Int) (b16 : Bool) (a17 a18 a19 a20 : Int) (b21 : Bool) (a22 a23 a24 a25 a26 a27 : Int) : Zbr → List (Option AObj)
 | .r0 => []
 | .r1 => []

theorem Zls (b0 : Bool) (a1 a2 a3 a4 a5 a6 a7 a8 a9 : Int) (L10 : List RH) (a11 a12 a13 a14 a15 : Int) (b16 : Bool) (a17 a18 a19 a20 : Int) (b21 : Bool) (a22 a23 a24 a25 a26 a27 : Int) (N : Nat) : Fx Tryz.prog Zaa Tryz.f67 [] #[Value.agg (κg b0 a1 a2 a3 a4 a5 a6 a7 a8 a9 L10 a11 a12 a13 a14 a15 b16 a17 a18 a19 a20 b21 a22), Value.agg #[vi a23, vi a24], vi a25, Value.agg #[vi a26, vi a27]] (ZhS b0 a1 a2 a3 a4 a5 a6 a7 a8 a9 L10 a11 a12 a13 a14 a15 b16 a17 a18 a19 a20 b21 a22 a23 a24 a25 a26 a27) (Zhk b0 a1 a2 a3 a4 a5 a6 a7 a8 a9 L10 a11 a12 a13 a14 a15 b16 a17 a18 a19 a20 b21 a22 a23 a24 a25 a26 a27) (Zbj b0 a1 a2 a3 a4 a5 a6 a7 a8 a9 L10 a11 a12 a13 a14 a15 b16 a17 a18 a19 a20 b21 a22 a23 a24 a25 a26 a27 N) := by
 unfold Zbj
 refine Zd (fun g0 => ?_) (fun g0 => ?_)
 ·
  exact fxC (Zh (oq [1]) [] [] [] []) [] (Value.tuple #[Value.agg (κg b0 a1 a2 a3 a4 a5 a6 a7 a8 a9 L10 a11 a12 a13 a14 a15 b16 a17 a18 a19 a20 b21 a22), vi (170 : Int)]) (hD g0 Zs) bE
 ·
  exact fxC (Zh (oq [0]) [] [] [] []) [] (Value.tuple #[Value.agg #[vT, vi a1, vi (2 : Int), vq, vi a23, vi a24, vi a26, vi a27, vi a25, vq, vn, vq, vq, vq, vq, vq, vf, vq, vq, vq, vq, vf, vi a22], vq]) (kE a2 (0 : Int) Zs) bE

theorem ZiS (b0 : Bool) (a1 a2 a3 a4 a5 a6 a7 a8 a9 : Int) (L10 : List RH) (a11 a12 a13 a14 a15 : Int) (b16 : Bool) (a17 a18 a19 a20 : Int) (b21 : Bool) (a22 a23 a24 a25 a26 a27 : Int) (N : Nat) (r : Zbr) (h : Zbj b0 a1 a2 a3 a4 a5 a6 a7 a8 a9 L10 a11 a12 a13 a14 a15 b16 a17 a18 a19 a20 b21 a22 a23 a24 a25 a26 a27 N = some r) : LSpec Tryz.prog 67 #[Value.agg (κg b0 a1 a2 a3 a4 a5 a6 a7 a8 a9 L10 a11 a12 a13 a14 a15 b16 a17 a18 a19 a20 b21 a22), Value.agg #[vi a23, vi a24], vi a25, Value.agg #[vi a26, vi a27]] [] (ZhS b0 a1 a2 a3 a4 a5 a6 a7 a8 a9 L10 a11 a12 a13 a14 a15 b16 a17 a18 a19 a20 b21 a22 a23 a24 a25 a26 a27 r) (Zhk b0 a1 a2 a3 a4 a5 a6 a7 a8 a9 L10 a11 a12 a13 a14 a15 b16 a17 a18 a19 a20 b21 a22 a23 a24 a25 a26 a27 r) :=
 ZaB ZaW Tryz.func67 (by kernel_rfl) (by kernel_rfl) (fun r => by cases r <;> exact ZaP _ rfl) (Zls b0 a1 a2 a3 a4 a5 a6 a7 a8 a9 L10 a11 a12 a13 a14 a15 b16 a17 a18 a19 a20 b21 a22 a23 a24 a25 a26 a27 N) h

theorem ZfO (b0 : Bool) (a1 a2 a3 a4 a5 a6 a7 a8 a9 : Int) (L10 : List RH) (a11 a12 a13 a14 a15 : Int) (b16 : Bool) (a17 a18 a19 a20 : Int) (b21 : Bool) (a22 a23 a24 a25 a26 a27 : Int) (N : Nat) (r : Zbr) (h : Zbj b0 a1 a2 a3 a4 a5 a6 a7 a8 a9 L10 a11 a12 a13 a14 a15 b16 a17 a18 a19 a20 b21 a22 a23 a24 a25 a26 a27 N = some r) : LSpec Tryz.prog 67 #[Value.agg (κg b0 a1 a2 a3 a4 a5 a6 a7 a8 a9 L10 a11 a12 a13 a14 a15 b16 a17 a18 a19 a20 b21 a22), Value.agg #[vi a23, vi a24], vi a25, Value.agg #[vi a26, vi a27]] [] (Zni b0 a1 a2 a3 a4 a5 a6 a7 a8 a9 L10 a11 a12 a13 a14 a15 b16 a17 a18 a19 a20 b21 a22 a23 a24 a25 a26 a27 r) (ZlZ b0 a1 a2 a3 a4 a5 a6 a7 a8 a9 L10 a11 a12 a13 a14 a15 b16 a17 a18 a19 a20 b21 a22 a23 a24 a25 a26 a27 r) := by
 have h0 := ZiS b0 a1 a2 a3 a4 a5 a6 a7 a8 a9 L10 a11 a12 a13 a14 a15 b16 a17 a18 a19 a20 b21 a22 a23 a24 a25 a26 a27 N r h
 cases r with
 | r0 => exact h0
 | r1 => exact (LSpec.nlv (v2 := Value.tuple (κbo a1 a23 a24 a26 a27 a25 a22)) h0 rfl rfl)

noncomputable def Zd8 {b0 : Bool} {a1 : Int} {a2 : Int} {a3 : Int} {a4 : Int} {a5 : Int} {a6 : Int} {a7 : Int} {a8 : Int} {a9 : Int} {L10 : List RH} {a11 : Int} {a12 : Int} {a13 : Int} {a14 : Int} {a15 : Int} {b16 : Bool} {a17 : Int} {a18 : Int} {a19 : Int} {a20 : Int} {b21 : Bool} {a22 : Int} {a23 : Int} {a24 : Int} {a25 : Int} {a26 : Int} {a27 : Int} {N : Nat} (h : Zbj b0 a1 a2 a3 a4 a5 a6 a7 a8 a9 L10 a11 a12 a13 a14 a15 b16 a17 a18 a19 a20 b21 a22 a23 a24 a25 a26 a27 N = some (.r0)) (ks : List Nat) (n : Nat) : ToldS := ⟨#[Value.agg (κg b0 a1 a2 a3 a4 a5 a6 a7 a8 a9 L10 a11 a12 a13 a14 a15 b16 a17 a18 a19 a20 b21 a22), Value.agg #[vi a23, vi a24], vi a25, Value.agg #[vi a26, vi a27]], [], Value.tuple #[Value.agg (κg b0 a1 a2 a3 a4 a5 a6 a7 a8 a9 L10 a11 a12 a13 a14 a15 b16 a17 a18 a19 a20 b21 a22), vi (170 : Int)], [], 0⟩

theorem Zft {b0 : Bool} {a1 : Int} {a2 : Int} {a3 : Int} {a4 : Int} {a5 : Int} {a6 : Int} {a7 : Int} {a8 : Int} {a9 : Int} {L10 : List RH} {a11 : Int} {a12 : Int} {a13 : Int} {a14 : Int} {a15 : Int} {b16 : Bool} {a17 : Int} {a18 : Int} {a19 : Int} {a20 : Int} {b21 : Bool} {a22 : Int} {a23 : Int} {a24 : Int} {a25 : Int} {a26 : Int} {a27 : Int} {N : Nat} (h : Zbj b0 a1 a2 a3 a4 a5 a6 a7 a8 a9 L10 a11 a12 a13 a14 a15 b16 a17 a18 a19 a20 b21 a22 a23 a24 a25 a26 a27 N = some (.r0)) (ks : List Nat) (n : Nat) (hk : ks.length = 0 := by rfl) (hnd : ks.Nodup := by decide +kernel) (hlt : ∀ k ∈ ks, k < n := by decide +kernel) : (Zd8 (N := N)  h ks n).P Tryz.prog 67 n :=
 match ks, hk, hnd, hlt with
 | [], _, hnd, hlt => ZaT (show LSpec Tryz.prog 67 #[Value.agg (κg b0 a1 a2 a3 a4 a5 a6 a7 a8 a9 L10 a11 a12 a13 a14 a15 b16 a17 a18 a19 a20 b21 a22), Value.agg #[vi a23, vi a24], vi a25, Value.agg #[vi a26, vi a27]] [] (Value.tuple #[Value.agg (κg b0 a1 a2 a3 a4 a5 a6 a7 a8 a9 L10 a11 a12 a13 a14 a15 b16 a17 a18 a19 a20 b21 a22), vi (170 : Int)]) [] from ZfO b0 a1 a2 a3 a4 a5 a6 a7 a8 a9 L10 a11 a12 a13 a14 a15 b16 a17 a18 a19 a20 b21 a22 a23 a24 a25 a26 a27 N _ h) _ n [] hnd hlt

noncomputable def Zd9 {b0 : Bool} {a1 : Int} {a2 : Int} {a3 : Int} {a4 : Int} {a5 : Int} {a6 : Int} {a7 : Int} {a8 : Int} {a9 : Int} {L10 : List RH} {a11 : Int} {a12 : Int} {a13 : Int} {a14 : Int} {a15 : Int} {b16 : Bool} {a17 : Int} {a18 : Int} {a19 : Int} {a20 : Int} {b21 : Bool} {a22 : Int} {a23 : Int} {a24 : Int} {a25 : Int} {a26 : Int} {a27 : Int} {N : Nat} (h : Zbj b0 a1 a2 a3 a4 a5 a6 a7 a8 a9 L10 a11 a12 a13 a14 a15 b16 a17 a18 a19 a20 b21 a22 a23 a24 a25 a26 a27 N = some (.r1)) (ks : List Nat) (n : Nat) : ToldS := ⟨#[Value.agg (κg b0 a1 a2 a3 a4 a5 a6 a7 a8 a9 L10 a11 a12 a13 a14 a15 b16 a17 a18 a19 a20 b21 a22), Value.agg #[vi a23, vi a24], vi a25, Value.agg #[vi a26, vi a27]], [], Value.tuple (κbo a1 a23 a24 a26 a27 a25 a22), [], 0⟩

theorem Zfu {b0 : Bool} {a1 : Int} {a2 : Int} {a3 : Int} {a4 : Int} {a5 : Int} {a6 : Int} {a7 : Int} {a8 : Int} {a9 : Int} {L10 : List RH} {a11 : Int} {a12 : Int} {a13 : Int} {a14 : Int} {a15 : Int} {b16 : Bool} {a17 : Int} {a18 : Int} {a19 : Int} {a20 : Int} {b21 : Bool} {a22 : Int} {a23 : Int} {a24 : Int} {a25 : Int} {a26 : Int} {a27 : Int} {N : Nat} (h : Zbj b0 a1 a2 a3 a4 a5 a6 a7 a8 a9 L10 a11 a12 a13 a14 a15 b16 a17 a18 a19 a20 b21 a22 a23 a24 a25 a26 a27 N = some (.r1)) (ks : List Nat) (n : Nat) (hk : ks.length = 0 := by rfl) (hnd : ks.Nodup := by decide +kernel) (hlt : ∀ k ∈ ks, k < n := by decide +kernel) : (Zd9 (N := N)  h ks n).P Tryz.prog 67 n :=
 match ks, hk, hnd, hlt with
 | [], _, hnd, hlt => ZaT (show LSpec Tryz.prog 67 #[Value.agg (κg b0 a1 a2 a3 a4 a5 a6 a7 a8 a9 L10 a11 a12 a13 a14 a15 b16 a17 a18 a19 a20 b21 a22), Value.agg #[vi a23, vi a24], vi a25, Value.agg #[vi a26, vi a27]] [] (Value.tuple (κbo a1 a23 a24 a26 a27 a25 a22)) [] from ZfO b0 a1 a2 a3 a4 a5 a6 a7 a8 a9 L10 a11 a12 a13 a14 a15 b16 a17 a18 a19 a20 b21 a22 a23 a24 a25 a26 a27 N _ h) _ n [] hnd hlt

noncomputable def ZjM (L0 : List RI) (a1 : Int) : Zc6 → Value
 | .r0 w1 w2 w3 => Value.agg #[vi w1, vi w2, vi w3]
noncomputable def ZiT (L0 : List RI) (a1 : Int) : Zc6 → List (Option AObj)
 | .r0 w1 w2 w3 => [some (.cells (Zc RC L0) 81)]

noncomputable abbrev κ3 (L0 : List RI) := #[vs 0 0 L0.length L0.length]
theorem Zma (L0 : List RI) (a1 : Int) (N : Nat) : Fx Tryz.prog Zaa Tryz.f72 [.cells (Zc RC L0) 81] #[Value.agg (κ3 L0), vi a1] (ZjM L0 a1) (ZiT L0 a1) (Zbd L0 a1 N) := by
 unfold Zbd
 refine Zd (fun g0 => ?_) (fun g0 => ?_)
 ·
  refine Zd (fun g1 => ?_) (fun g1 => ?_)
  ·
   exact fxC (Zh (oq [1, 3]) [] [(0, (a1).toNat)] [(3, (RC.cel (L0.getD (a1).toNat RI.z)))] []) [0] (Value.agg #[vi (L0.getD (a1).toNat RI.z).a0, vi (L0.getD (a1).toNat RI.z).a1, vi (L0.getD (a1).toNat RI.z).a2]) (kLn RC L0 ((a1).toNat) 0 3 <| kB (a1).toNat L0.length <| kI a1 (Int.ofNat (a1).toNat) <| hY g1 <| kY (a1 ≥ (0 : Int)) Zs) (bR <| bE)
  ·
   exact fxC (Zh (oq [1, 2]) [] [] [] []) [0] (Value.agg #[vq, vq, vq]) (hN g1 <| kY (a1 ≥ (0 : Int)) Zs) (bR <| bE)
 ·
  exact fxC (Zh (oq [0]) [] [] [] []) [0] (Value.agg #[vq, vq, vq]) (kN (a1 ≥ (0 : Int)) Zs) (bR <| bE)

theorem ZjX (L0 : List RI) (a1 : Int) (N : Nat) (r : Zc6) (h : Zbd L0 a1 N = some r) : LSpec Tryz.prog 72 #[Value.agg (κ3 L0), vi a1] [.cells (Zc RC L0) 81] (ZjM L0 a1 r) (ZiT L0 a1 r) :=
 ZaB ZaW Tryz.func72 (by kernel_rfl) (by kernel_rfl) (fun r => by cases r <;> exact ZaP _ rfl) (Zma L0 a1 N) h

noncomputable def Zat {L0 : List RI} {a1 : Int} {w1 : Int} {w2 : Int} {w3 : Int} {N : Nat} (h : Zbd L0 a1 N = some (.r0 w1 w2 w3)) (ks : List Nat) (n : Nat) : ToldS := ⟨#[Value.agg #[vs (nth ks 0) 0 L0.length L0.length], vi a1], [((nth ks 0), .cells (Zc RC L0) 81)], Value.agg #[vi w1, vi w2, vi w3], [], 0⟩

theorem Zbs {L0 : List RI} {a1 : Int} {w1 : Int} {w2 : Int} {w3 : Int} {N : Nat} (h : Zbd L0 a1 N = some (.r0 w1 w2 w3)) (ks : List Nat) (n : Nat) (hk : ks.length = 1 := by rfl) (hnd : ks.Nodup := by decide +kernel) (hlt : ∀ k ∈ ks, k < n := by decide +kernel) : (Zat (N := N)  h ks n).P Tryz.prog 72 n :=
 match ks, hk, hnd, hlt with
 | [k0], _, hnd, hlt => ZaT (show LSpec Tryz.prog 72 #[Value.agg (κ3 L0), vi a1] [.cells (Zc RC L0) 81] (Value.agg #[vi w1, vi w2, vi w3]) [some (.cells (Zc RC L0) 81)] from ZjX L0 a1 N _ h) _ n [] hnd hlt

noncomputable def ZeF (a0 a1 a2 a3 a4 : Int) (L5 L6 : List Int) : Z2 → Value
 | .r0 w0 w1 w2 => Value.bool w2
noncomputable def Zec (a0 a1 a2 a3 a4 : Int) (L5 L6 : List Int) : Z2 → List (Option AObj)
 | .r0 w0 w1 w2 => [some (.cells [vs 1 0 w0.length w0.length, vs 2 0 w1.length w1.length] 191), some (.cells (Zc eI w0) 188), some (.cells (Zc eI w1) 188)]

noncomputable abbrev κbw (a0 : Int) (L6 : List Int) := (dP (Z3 1 (List.drop ((0 + ((a0).toNat * 1)) + 0) (Zc eI L6)) = some [vi (L6.getD (a0).toNat 0)] ∧ ((0 + ((a0).toNat * 1)) + 0) + 1 ≤ ((Zc eI L6) : List Value).length ∧ Zca (Zc eI L6) ((0 + ((a0).toNat * 1)) + 0) [vi (i64.wrap ((L6.getD (a0).toNat 0) + (1 : Int)))] = (Zc eI (L6.set (a0).toNat (i64.wrap ((L6.getD (a0).toNat 0) + (1 : Int)))))))
noncomputable abbrev κR (L5 : List Int) (L6 : List Int) := [vs 1 0 L5.length L5.length, vs 2 0 L6.length L6.length]
theorem Zhl (a0 a1 a2 a3 a4 : Int) (L5 L6 : List Int) (N : Nat) : Fx Tryz.prog Zaa Tryz.f73 [.cells (κR L5 L6) 191, .cells (Zc eI L5) 188, .cells (Zc eI L6) 188] #[vp 0 0, vi a0, vi a1, Value.agg #[vi a2, vi a3, vi a4]] (ZeF a0 a1 a2 a3 a4 L5 L6) (Zec a0 a1 a2 a3 a4 L5 L6) (Zae a0 a1 a2 a3 a4 L5 L6 N) := by
 unfold Zae
 refine Zd (fun g0 => ?_) (fun g0 => ?_)
 ·
  have w1 := kY (a1 ≥ (0 : Int)) Zs
  refine Zd (fun g1 => ?_) (fun g1 => ?_)
  ·
   have w2 := kW (((4 : Int) * a1) + (0 : Int)) ((4 : Int) * a1) <| kW ((4 : Int) * a1) ((4 : Int) * a1) <| hY g1 w1
   refine Zd (fun g2 => ?_) (fun g2 => ?_)
   ·
    have w3 := kY ((L5.length : Int) > (0 : Int)) w2
    refine Zd (fun g3 => ?_) (fun g3 => ?_)
    ·
     have w4 := kY (a0 ≥ (0 : Int)) w3
     refine Zd (fun g4 => ?_) (fun g4 => ?_)
     ·
      refine Zd (fun g5 => ?_) (fun g5 => ?_)
      ·
       exact fxC (Zh (oq [3, 5, 13, 15, 17, 23]) [(0, ((4 : Int) * a1)), (1, ((4 : Int) * a1))] [] [] []) [0, 1, 2] (vf) (hT g5 <| hY g4 w4) (bS (κR L5 L6) <| bR <| bR <| bE)
      ·
       have w6 := hF g5 <| hF g5 <| hY g4 w4
       refine Zd (fun g6 => ?_) (fun g6 => ?_)
       ·
        refine Zd (fun g7 => ?_) (fun g7 => ?_)
        ·
         refine Zd (fun g8 => ?_) (fun g8 => ?_)
         ·
          refine Zd (fun g9 => ?_) (fun g9 => ?_)
          ·
           have w10 := kX (dP (Z3 1 (List.drop ((0 + ((a0).toNat * 1)) + 0) (Zc eI L5)) = some [vi (L5.getD (a0).toNat 0)])) true (Z5 (Za9 (E := eI) (L := L5) (i := (a0).toNat) (q := 0) (by omega) (show ((0 + ((a0).toNat * 1)) + 0) = (a0).toNat * 1 + 0 from by omega) (show 0 + 1 ≤ 1 from by decide) rfl)) <| kW (((4 : Int) * a3) + a2) (((4 : Int) * a3) + a2) <| kW ((4 : Int) * a3) ((4 : Int) * a3) <| kB (a0).toNat L5.length <| kI a0 (Int.ofNat (a0).toNat) <| kY (a4 ≥ (0 : Int)) <| hY g8 <| kY (a3 ≥ (0 : Int)) <| hT g6 w6
           refine Zd (fun g10 => ?_) (fun g10 => ?_)
           ·
            refine Zd (fun g11 => ?_) (fun _ => Zw)
            exact fxC (Zh (oq [3, 5, 13, 15, 17, 22, 24, 27, 29, 31, 33, 37]) [(0, ((4 : Int) * a1)), (1, ((4 : Int) * a1)), (2, ((4 : Int) * a3)), (3, (((4 : Int) * a3) + a2))] [(0, (a0).toNat), (1, (a0).toNat)] [] [(0, .at (L5.getD (a0).toNat 0) (Zc eI (L5.set (a0).toNat (((4 : Int) * a3) + a2)))), (1, .at (L6.getD (a0).toNat 0) (Zc eI (L6.set (a0).toNat (i64.wrap ((L6.getD (a0).toNat 0) + (1 : Int))))))]) [0, 1, 2] (vT) (kX (κbw a0 L6) true (Z5 ⟨(Za9 (E := eI) (L := L6) (i := (a0).toNat) (q := 0) (by omega) (show ((0 + ((a0).toNat * 1)) + 0) = (a0).toNat * 1 + 0 from by omega) (show 0 + 1 ≤ 1 from by decide) rfl), (ZT (E := eI) (L := L6) (i := (a0).toNat) (q := 0) (l := [vi (i64.wrap ((L6.getD (a0).toNat 0) + (1 : Int)))]) (i64.wrap ((L6.getD (a0).toNat 0) + (1 : Int))) (by omega) (show ((0 + ((a0).toNat * 1)) + 0) = (a0).toNat * 1 + 0 from by omega) (show 0 + 1 ≤ 1 from by decide) rfl)⟩) <| kB (a0).toNat L6.length <| kI a0 (Int.ofNat (a0).toNat) <| kC (ZT (E := eI) (L := L5) (i := (a0).toNat) (q := 0) (l := [vi (((4 : Int) * a3) + a2)]) (((4 : Int) * a3) + a2) (by omega) (show ((0 + ((a0).toNat * 1)) + 0) = (a0).toNat * 1 + 0 from by omega) (show 0 + 1 ≤ 1 from by decide) rfl) <| hT g10 w10) (bU2 (κR L5 L6) 0 (show (vs 1 0 L5.length L5.length : Value) = vs 1 0 (L5.set (a0).toNat (((4 : Int) * a3) + a2)).length (L5.set (a0).toNat (((4 : Int) * a3) + a2)).length from ZN rfl eqA eqA) 1 (show (vs 2 0 L6.length L6.length : Value) = vs 2 0 (L6.set (a0).toNat (i64.wrap ((L6.getD (a0).toNat 0) + (1 : Int)))).length (L6.set (a0).toNat (i64.wrap ((L6.getD (a0).toNat 0) + (1 : Int)))).length from ZN rfl eqA eqA) <| bR <| bR <| bE)
           ·
            exact fxC (Zh (oq [3, 5, 13, 15, 17, 22, 24, 27, 29, 31, 33, 36]) [(0, ((4 : Int) * a1)), (1, ((4 : Int) * a1)), (2, ((4 : Int) * a3)), (3, (((4 : Int) * a3) + a2))] [(0, (a0).toNat)] [] [(0, .at (L5.getD (a0).toNat 0) (Zc eI (L5.set (a0).toNat (((4 : Int) * a3) + a2))))]) [0, 1, 2] (vf) (hF g10 w10) (bS (κR L5 L6) <| bR <| bR <| bE)
          ·
           exact fxC (Zh (oq [3, 5, 13, 15, 17, 22, 24, 27, 29, 31, 32]) [(0, ((4 : Int) * a1)), (1, ((4 : Int) * a1))] [] [] []) [0, 1, 2] (vf) (kN (a4 ≥ (0 : Int)) <| hY g8 <| kY (a3 ≥ (0 : Int)) <| hT g6 w6) (bS (κR L5 L6) <| bR <| bR <| bE)
         ·
          exact fxC (Zh (oq [3, 5, 13, 15, 17, 22, 24, 27, 29, 30]) [(0, ((4 : Int) * a1)), (1, ((4 : Int) * a1))] [] [] []) [0, 1, 2] (vf) (hN g8 <| kY (a3 ≥ (0 : Int)) <| hT g6 w6) (bS (κR L5 L6) <| bR <| bR <| bE)
        ·
         exact fxC (Zh (oq [3, 5, 13, 15, 17, 22, 24, 27, 28]) [(0, ((4 : Int) * a1)), (1, ((4 : Int) * a1))] [] [] []) [0, 1, 2] (vf) (kN (a3 ≥ (0 : Int)) <| hT g6 w6) (bS (κR L5 L6) <| bR <| bR <| bE)
       ·
        refine Zd (fun g7 => ?_) (fun g7 => ?_)
        ·
         refine Zd (fun g8 => ?_) (fun g8 => ?_)
         ·
          have w9 := kY (a3 ≥ (0 : Int)) <| hT g7 <| hF g6 w6
          refine Zd (fun g9 => ?_) (fun g9 => ?_)
          ·
           refine Zd (fun g10 => ?_) (fun g10 => ?_)
           ·
            have w11 := kX (dP (Z3 1 (List.drop ((0 + ((a0).toNat * 1)) + 0) (Zc eI L5)) = some [vi (L5.getD (a0).toNat 0)])) true (Z5 (Za9 (E := eI) (L := L5) (i := (a0).toNat) (q := 0) (by omega) (show ((0 + ((a0).toNat * 1)) + 0) = (a0).toNat * 1 + 0 from by omega) (show 0 + 1 ≤ 1 from by decide) rfl)) <| kW (((4 : Int) * a3) + a2) (((4 : Int) * a3) + a2) <| kW ((4 : Int) * a3) ((4 : Int) * a3) <| kB (a0).toNat L5.length <| kI a0 (Int.ofNat (a0).toNat) <| kY (a4 ≥ (0 : Int)) <| hY g9 w9
            refine Zd (fun g11 => ?_) (fun g11 => ?_)
            ·
             refine Zd (fun g12 => ?_) (fun _ => Zw)
             exact fxC (Zh (oq [3, 5, 13, 15, 17, 22, 24, 26, 29, 31, 33, 35, 39]) [(0, ((4 : Int) * a1)), (1, ((4 : Int) * a1)), (2, ((4 : Int) * a3)), (3, (((4 : Int) * a3) + a2))] [(0, (a0).toNat), (1, (a0).toNat)] [] [(0, .at (L5.getD (a0).toNat 0) (Zc eI (L5.set (a0).toNat (((4 : Int) * a3) + a2)))), (1, .at (L6.getD (a0).toNat 0) (Zc eI (L6.set (a0).toNat (i64.wrap ((L6.getD (a0).toNat 0) + (1 : Int))))))]) [0, 1, 2] (vT) (kX (κbw a0 L6) true (Z5 ⟨(Za9 (E := eI) (L := L6) (i := (a0).toNat) (q := 0) (by omega) (show ((0 + ((a0).toNat * 1)) + 0) = (a0).toNat * 1 + 0 from by omega) (show 0 + 1 ≤ 1 from by decide) rfl), (ZT (E := eI) (L := L6) (i := (a0).toNat) (q := 0) (l := [vi (i64.wrap ((L6.getD (a0).toNat 0) + (1 : Int)))]) (i64.wrap ((L6.getD (a0).toNat 0) + (1 : Int))) (by omega) (show ((0 + ((a0).toNat * 1)) + 0) = (a0).toNat * 1 + 0 from by omega) (show 0 + 1 ≤ 1 from by decide) rfl)⟩) <| kB (a0).toNat L6.length <| kI a0 (Int.ofNat (a0).toNat) <| kC (ZT (E := eI) (L := L5) (i := (a0).toNat) (q := 0) (l := [vi (((4 : Int) * a3) + a2)]) (((4 : Int) * a3) + a2) (by omega) (show ((0 + ((a0).toNat * 1)) + 0) = (a0).toNat * 1 + 0 from by omega) (show 0 + 1 ≤ 1 from by decide) rfl) <| hT g11 w11) (bU2 (κR L5 L6) 0 (show (vs 1 0 L5.length L5.length : Value) = vs 1 0 (L5.set (a0).toNat (((4 : Int) * a3) + a2)).length (L5.set (a0).toNat (((4 : Int) * a3) + a2)).length from ZN rfl eqA eqA) 1 (show (vs 2 0 L6.length L6.length : Value) = vs 2 0 (L6.set (a0).toNat (i64.wrap ((L6.getD (a0).toNat 0) + (1 : Int)))).length (L6.set (a0).toNat (i64.wrap ((L6.getD (a0).toNat 0) + (1 : Int)))).length from ZN rfl eqA eqA) <| bR <| bR <| bE)
            ·
             exact fxC (Zh (oq [3, 5, 13, 15, 17, 22, 24, 26, 29, 31, 33, 35, 38]) [(0, ((4 : Int) * a1)), (1, ((4 : Int) * a1)), (2, ((4 : Int) * a3)), (3, (((4 : Int) * a3) + a2))] [(0, (a0).toNat)] [] [(0, .at (L5.getD (a0).toNat 0) (Zc eI (L5.set (a0).toNat (((4 : Int) * a3) + a2))))]) [0, 1, 2] (vf) (hF g11 w11) (bS (κR L5 L6) <| bR <| bR <| bE)
           ·
            exact fxC (Zh (oq [3, 5, 13, 15, 17, 22, 24, 26, 29, 31, 33, 34]) [(0, ((4 : Int) * a1)), (1, ((4 : Int) * a1))] [] [] []) [0, 1, 2] (vf) (kN (a4 ≥ (0 : Int)) <| hY g9 w9) (bS (κR L5 L6) <| bR <| bR <| bE)
          ·
           exact fxC (Zh (oq [3, 5, 13, 15, 17, 22, 24, 26, 29, 31, 32]) [(0, ((4 : Int) * a1)), (1, ((4 : Int) * a1))] [] [] []) [0, 1, 2] (vf) (hN g9 w9) (bS (κR L5 L6) <| bR <| bR <| bE)
         ·
          exact fxC (Zh (oq [3, 5, 13, 15, 17, 22, 24, 26, 29, 30]) [(0, ((4 : Int) * a1)), (1, ((4 : Int) * a1))] [] [] []) [0, 1, 2] (vf) (kN (a3 ≥ (0 : Int)) <| hT g7 <| hF g6 w6) (bS (κR L5 L6) <| bR <| bR <| bE)
        ·
         exact fxC (Zh (oq [3, 5, 13, 15, 17, 22, 24, 26, 28]) [(0, ((4 : Int) * a1)), (1, ((4 : Int) * a1))] [] [] []) [0, 1, 2] (vf) (hF g7 <| hF g6 w6) (bS (κR L5 L6) <| bR <| bR <| bE)
     ·
      exact fxC (Zh (oq [3, 5, 13, 15, 16]) [(0, ((4 : Int) * a1)), (1, ((4 : Int) * a1))] [] [] []) [0, 1, 2] (vf) (hN g4 w4) (bS (κR L5 L6) <| bR <| bR <| bE)
    ·
     exact fxC (Zh (oq [3, 5, 13, 14]) [(0, ((4 : Int) * a1)), (1, ((4 : Int) * a1))] [] [] []) [0, 1, 2] (vf) (kN (a0 ≥ (0 : Int)) w3) (bS (κR L5 L6) <| bR <| bR <| bE)
   ·
    exact fxC (Zh (oq [3, 5, 12]) [(0, ((4 : Int) * a1)), (1, ((4 : Int) * a1))] [] [] []) [0, 1, 2] (vf) (kN ((L5.length : Int) > (0 : Int)) w2) (bS (κR L5 L6) <| bR <| bR <| bE)
  ·
   by_cases g2 : (0 : Int) < (L5.length : Int)
   ·
    have w3 := kY ((L5.length : Int) > (0 : Int)) <| hN g1 w1
    by_cases g3 : (0 : Int) ≤ a0
    ·
     by_cases g4 : a0 < (L5.length : Int)
     ·
      exact fxC (Zh (oq [3, 4, 11, 13, 15]) [] [] [] []) [0, 1, 2] (vf) (hY g4 <| kY (a0 ≥ (0 : Int)) w3) (bS (κR L5 L6) <| bR <| bR <| bE)
     ·
      exact fxC (Zh (oq [3, 4, 11, 13, 14]) [] [] [] []) [0, 1, 2] (vf) (hN g4 <| kY (a0 ≥ (0 : Int)) w3) (bS (κR L5 L6) <| bR <| bR <| bE)
    ·
     exact fxC (Zh (oq [3, 4, 11, 12]) [] [] [] []) [0, 1, 2] (vf) (kN (a0 ≥ (0 : Int)) w3) (bS (κR L5 L6) <| bR <| bR <| bE)
   ·
    exact fxC (Zh (oq [3, 4, 10]) [] [] [] []) [0, 1, 2] (vf) (kN ((L5.length : Int) > (0 : Int)) <| hN g1 w1) (bS (κR L5 L6) <| bR <| bR <| bE)
 ·
  by_cases g1 : (0 : Int) < (L5.length : Int)
  ·
   have w2 := kY ((L5.length : Int) > (0 : Int)) <| kN (a1 ≥ (0 : Int)) Zs
   by_cases g2 : (0 : Int) ≤ a0
   ·
    by_cases g3 : a0 < (L5.length : Int)
    ·
     exact fxC (Zh (oq [2, 9, 11, 13]) [] [] [] []) [0, 1, 2] (vf) (hY g3 <| kY (a0 ≥ (0 : Int)) w2) (bS (κR L5 L6) <| bR <| bR <| bE)
    ·
     exact fxC (Zh (oq [2, 9, 11, 12]) [] [] [] []) [0, 1, 2] (vf) (hN g3 <| kY (a0 ≥ (0 : Int)) w2) (bS (κR L5 L6) <| bR <| bR <| bE)
   ·
    exact fxC (Zh (oq [2, 9, 10]) [] [] [] []) [0, 1, 2] (vf) (kN (a0 ≥ (0 : Int)) w2) (bS (κR L5 L6) <| bR <| bR <| bE)
  ·
   exact fxC (Zh (oq [2, 8]) [] [] [] []) [0, 1, 2] (vf) (kN ((L5.length : Int) > (0 : Int)) <| kN (a1 ≥ (0 : Int)) Zs) (bS (κR L5 L6) <| bR <| bR <| bE)

theorem Zgp (a0 a1 a2 a3 a4 : Int) (L5 L6 : List Int) (N : Nat) (r : Z2) (h : Zae a0 a1 a2 a3 a4 L5 L6 N = some r) : LSpec Tryz.prog 73 #[vp 0 0, vi a0, vi a1, Value.agg #[vi a2, vi a3, vi a4]] [.cells (κR L5 L6) 191, .cells (Zc eI L5) 188, .cells (Zc eI L6) 188] (ZeF a0 a1 a2 a3 a4 L5 L6 r) (Zec a0 a1 a2 a3 a4 L5 L6 r) :=
 ZaB ZaW Tryz.func73 (by kernel_rfl) (by kernel_rfl) (fun r => by cases r <;> exact ZaP _ rfl) (Zhl a0 a1 a2 a3 a4 L5 L6 N) h

noncomputable def Za6 {a0 : Int} {a1 : Int} {a2 : Int} {a3 : Int} {a4 : Int} {L5 : List Int} {L6 : List Int} {w0 : List Int} {w1 : List Int} {w2 : Bool} {N : Nat} (h : Zae a0 a1 a2 a3 a4 L5 L6 N = some (.r0 w0 w1 w2)) (ks : List Nat) (n : Nat) : ToldS := ⟨#[vp (nth ks 0) 0, vi a0, vi a1, Value.agg #[vi a2, vi a3, vi a4]], [((nth ks 0), .cells [vs (nth ks 1) 0 L5.length L5.length, vs (nth ks 2) 0 L6.length L6.length] 191), ((nth ks 1), .cells (Zc eI L5) 188), ((nth ks 2), .cells (Zc eI L6) 188)], Value.bool w2, [((nth ks 0), some (.cells [vs (nth ks 1) 0 w0.length w0.length, vs (nth ks 2) 0 w1.length w1.length] 191)), ((nth ks 1), some (.cells (Zc eI w0) 188)), ((nth ks 2), some (.cells (Zc eI w1) 188))], 0⟩

theorem ZbN {a0 : Int} {a1 : Int} {a2 : Int} {a3 : Int} {a4 : Int} {L5 : List Int} {L6 : List Int} {w0 : List Int} {w1 : List Int} {w2 : Bool} {N : Nat} (h : Zae a0 a1 a2 a3 a4 L5 L6 N = some (.r0 w0 w1 w2)) (ks : List Nat) (n : Nat) (hk : ks.length = 3 := by rfl) (hnd : ks.Nodup := by decide +kernel) (hlt : ∀ k ∈ ks, k < n := by decide +kernel) : (Za6 (N := N)  h ks n).P Tryz.prog 73 n :=
 match ks, hk, hnd, hlt with
 | [k0, k1, k2], _, hnd, hlt => ZaT (show LSpec Tryz.prog 73 #[vp 0 0, vi a0, vi a1, Value.agg #[vi a2, vi a3, vi a4]] [.cells (κR L5 L6) 191, .cells (Zc eI L5) 188, .cells (Zc eI L6) 188] (Value.bool w2) [some (.cells [vs 1 0 w0.length w0.length, vs 2 0 w1.length w1.length] 191), some (.cells (Zc eI w0) 188), some (.cells (Zc eI w1) 188)] from Zgp a0 a1 a2 a3 a4 L5 L6 N _ h) _ n [0, 1, 2] hnd hlt

noncomputable def ZhT (L0 : List RI) (a1 a2 a3 a4 a5 : Int) : Zad → Value
 | .r0 => Value.tuple #[Value.agg (κ3 L0), vf]
 | .r1 => Value.tuple #[Value.agg #[vs 1 0 L0.length L0.length], vT]
noncomputable abbrev κbr (L0 : List RI) (a1 : Int) (a3 : Int) (a4 : Int) (a2 : Int) := (Zc RC (L0.set (a1).toNat (⟨a3, a4, (i64.wrap ((L0.getD (a1).toNat RI.z).a2 + (1 : Int)))⟩ : RI)))
noncomputable def Zhm (L0 : List RI) (a1 a2 a3 a4 a5 : Int) : Zad → List (Option AObj)
 | .r0 => [some (.cells (Zc RC L0) 81)]
 | .r1 => [some (.cells (Zc RC L0) 81), some (.cells (κbr L0 a1 a3 a4 a2) 81)]

noncomputable abbrev κbe (L0 : List RI) := (dP ((L0.length = L0.length ∧ Z3 (L0.length * 3) (List.drop 0 (Zc RC L0)) = some (Zc RC L0) ∧ Zq ZaR (Zc RC L0) = true) ∧ 0 < L0.length ∧ L0.length ≤ 100000 ∧ 0 < 0 + L0.length ∧ 0 ≤ 100000 ∧ 0 * 3 ≤ (List.length ([] : List Value)) ∧ List.take (0 * 3) [] ++ (Zc RC L0) = (Zc RC L0)))
theorem ZjY (L0 : List RI) (a1 a2 a3 a4 a5 : Int) (N : Nat) : Fx Tryz.prog Zaa Tryz.f74 [.cells (Zc RC L0) 81] #[Value.agg (κ3 L0), vi a1, vi a2, Value.agg #[vi a3, vi a4, vi a5]] (ZhT L0 a1 a2 a3 a4 a5) (Zhm L0 a1 a2 a3 a4 a5) (Za0 L0 a1 a2 a3 a4 a5 N) := by
 unfold Za0
 refine Zd (fun g0 => ?_) (fun g0 => ?_)
 ·
  have w1 := kY (a1 ≥ (0 : Int)) Zs
  refine Zd (fun g1 => ?_) (fun g1 => ?_)
  ·
   have w2 := kL RC L0 ((a1).toNat) 0 1 <| kB (a1).toNat L0.length <| kI a1 (Int.ofNat (a1).toNat) <| hY g1 w1
   refine Zd (fun g2 => ?_) (fun g2 => ?_)
   ·
    exact fxC (Zh (oq [1, 3, 7]) [] [(0, (a1).toNat)] [(3, [.i (L0.getD (a1).toNat RI.z).a0])] []) [0] (Value.tuple #[Value.agg (κ3 L0), vf]) (hD g2 w2) (bR <| bE)
   ·
    have w3 := kL RC L0 ((a1).toNat) 1 1 <| kB (a1).toNat L0.length <| kI a1 (Int.ofNat (a1).toNat) <| kE ((L0.getD (a1).toNat RI.z).a0) (0 : Int) w2
    refine Zd (fun g3 => ?_) (fun g3 => ?_)
    ·
     exact fxC (Zh (oq [1, 3, 6, 9]) [] [(0, (a1).toNat), (1, (a1).toNat)] [(3, [.i (L0.getD (a1).toNat RI.z).a0]), (5, [.i (L0.getD (a1).toNat RI.z).a1])] []) [0] (Value.tuple #[Value.agg (κ3 L0), vf]) (hD g3 w3) (bR <| bE)
    ·
     have w4 := kE ((L0.getD (a1).toNat RI.z).a1) a2 w3
     refine Zd (fun g4 => ?_) (fun g4 => ?_)
     ·
      refine Zd (fun g5 => ?_) (fun g5 => ?_)
      ·
       exact fxC (Zh (oq [1, 3, 6, 8, 11, 13]) [] [(0, (a1).toNat), (1, (a1).toNat)] [(3, [.i (L0.getD (a1).toNat RI.z).a0]), (5, [.i (L0.getD (a1).toNat RI.z).a1])] []) [0] (Value.tuple #[Value.agg (κ3 L0), vf]) (hD g5 <| hD g4 w4) (bR <| bE)
      ·
       have w6 := kT a3 (2 : Int) <| hF g4 <| kF a3 (0 : Int) <| kE a3 (2 : Int) <| hD g4 w4
       refine Zd (fun g6 => ?_) (fun g6 => ?_)
       ·
        refine Zd (fun g7 => ?_) (fun g7 => ?_)
        ·
         refine Zd (fun g8 => ?_) (fun g8 => ?_)
         ·
          refine Zd (fun g9 => ?_) (fun _ => Zw)
          exact fxC (Zh (oq [1, 3, 6, 8, 11, 12, 14, 16, 19, 21, 23, 25]) [] [(0, (a1).toNat), (1, (a1).toNat), (2, (a1).toNat), (3, (a1).toNat)] [(3, [.i (L0.getD (a1).toNat RI.z).a0]), (5, [.i (L0.getD (a1).toNat RI.z).a1]), (14, [.i (L0.getD (a1).toNat RI.z).a2])] [(1, .ap L0.length (Zc RC L0) (Zc RC L0)), (3, .st (κbr L0 a1 a3 a4 a2))]) [0, 10] (Value.tuple #[Value.agg #[vs 10 0 (0 + L0.length) (0 + L0.length)], vT]) (kC (ZT (E := RC) (L := L0) (i := (a1).toNat) (q := 0) (l := [vi a3, vi a4, vi (i64.wrap ((L0.getD (a1).toNat RI.z).a2 + (1 : Int)))]) (⟨a3, a4, (i64.wrap ((L0.getD (a1).toNat RI.z).a2 + (1 : Int)))⟩ : RI) (by omega) (show (0 + ((a1).toNat * 3)) = (a1).toNat * 3 + 0 from by omega) (show 0 + 3 ≤ 3 from by decide) rfl) <| kB (a1).toNat (0 + L0.length) <| kI a1 (Int.ofNat (a1).toNat) <| kX (κbe L0) true (Z5 ⟨⟨rfl, (Zeq (E := RC) (L := L0) (a := 0) (n := L0.length) (by omega) (by show _ = _ * 3; omega) (show _ = _ * 3 from rfl) (by rw [List.drop_zero, List.take_of_length_le (by omega)]))⟩, by omega, by omega, ltA, by omega, (Zd1 (E := RC) (L := ([] : List RI)) (M := L0) (n := 0) (show _ = _ * 3 from rfl) ltA (R := L0) (by rw [List.take_of_length_le ltA]; rfl))⟩) <| kL RC L0 ((a1).toNat) 2 1 <| kB (a1).toNat L0.length <| kI a1 (Int.ofNat (a1).toNat) <| kY (a5 ≥ (0 : Int)) <| hY g7 <| kY (a4 ≥ (0 : Int)) w6) (bR <| bR <| bE) (hv := ⟨Eq.trans (show (Value.tuple #[Value.agg #[vs 1 0 L0.length L0.length], vT] : Value) = Value.tuple #[Value.agg #[vs 1 0 (0 + L0.length) (0 + L0.length)], vT] from (ZeB (Za (Zhb (Za (ZN rfl eqA eqA) rfl)) (Za rfl rfl)))) (by rfl), by rfl⟩)
         ·
          exact fxC (Zh (oq [1, 3, 6, 8, 11, 12, 14, 16, 19, 21, 23, 24]) [] [(0, (a1).toNat), (1, (a1).toNat)] [(3, [.i (L0.getD (a1).toNat RI.z).a0]), (5, [.i (L0.getD (a1).toNat RI.z).a1])] []) [0] (Value.tuple #[Value.agg (κ3 L0), vf]) (kN (a5 ≥ (0 : Int)) <| hY g7 <| kY (a4 ≥ (0 : Int)) w6) (bR <| bE)
        ·
         exact fxC (Zh (oq [1, 3, 6, 8, 11, 12, 14, 16, 19, 21, 22]) [] [(0, (a1).toNat), (1, (a1).toNat)] [(3, [.i (L0.getD (a1).toNat RI.z).a0]), (5, [.i (L0.getD (a1).toNat RI.z).a1])] []) [0] (Value.tuple #[Value.agg (κ3 L0), vf]) (hN g7 <| kY (a4 ≥ (0 : Int)) w6) (bR <| bE)
       ·
        exact fxC (Zh (oq [1, 3, 6, 8, 11, 12, 14, 16, 19, 20]) [] [(0, (a1).toNat), (1, (a1).toNat)] [(3, [.i (L0.getD (a1).toNat RI.z).a0]), (5, [.i (L0.getD (a1).toNat RI.z).a1])] []) [0] (Value.tuple #[Value.agg (κ3 L0), vf]) (kN (a4 ≥ (0 : Int)) w6) (bR <| bE)
     ·
      have w5 := kT a3 (1 : Int) <| kF a3 (0 : Int) <| kE a3 (1 : Int) w4
      refine Zd (fun g5 => ?_) (fun g5 => ?_)
      ·
       refine Zd (fun g6 => ?_) (fun g6 => ?_)
       ·
        refine Zd (fun g7 => ?_) (fun g7 => ?_)
        ·
         refine Zd (fun g8 => ?_) (fun _ => Zw)
         exact fxC (Zh (oq [1, 3, 6, 8, 10, 12, 15, 17, 19, 21]) [] [(0, (a1).toNat), (1, (a1).toNat), (2, (a1).toNat), (3, (a1).toNat)] [(3, [.i (L0.getD (a1).toNat RI.z).a0]), (5, [.i (L0.getD (a1).toNat RI.z).a1]), (13, [.i (L0.getD (a1).toNat RI.z).a2])] [(1, .ap L0.length (Zc RC L0) (Zc RC L0)), (3, .st (κbr L0 a1 a3 a4 a2))]) [0, 10] (Value.tuple #[Value.agg #[vs 10 0 (0 + L0.length) (0 + L0.length)], vT]) (kC (ZT (E := RC) (L := L0) (i := (a1).toNat) (q := 0) (l := [vi a3, vi a4, vi (i64.wrap ((L0.getD (a1).toNat RI.z).a2 + (1 : Int)))]) (⟨a3, a4, (i64.wrap ((L0.getD (a1).toNat RI.z).a2 + (1 : Int)))⟩ : RI) (by omega) (show (0 + ((a1).toNat * 3)) = (a1).toNat * 3 + 0 from by omega) (show 0 + 3 ≤ 3 from by decide) rfl) <| kB (a1).toNat (0 + L0.length) <| kI a1 (Int.ofNat (a1).toNat) <| kX (κbe L0) true (Z5 ⟨⟨rfl, (Zeq (E := RC) (L := L0) (a := 0) (n := L0.length) (by omega) (by show _ = _ * 3; omega) (show _ = _ * 3 from rfl) (by rw [List.drop_zero, List.take_of_length_le (by omega)]))⟩, by omega, by omega, ltA, by omega, (Zd1 (E := RC) (L := ([] : List RI)) (M := L0) (n := 0) (show _ = _ * 3 from rfl) ltA (R := L0) (by rw [List.take_of_length_le ltA]; rfl))⟩) <| kL RC L0 ((a1).toNat) 2 1 <| kB (a1).toNat L0.length <| kI a1 (Int.ofNat (a1).toNat) <| kY (a5 ≥ (0 : Int)) <| hY g6 <| kY (a4 ≥ (0 : Int)) w5) (bR <| bR <| bE) (hv := ⟨Eq.trans (show (Value.tuple #[Value.agg #[vs 1 0 L0.length L0.length], vT] : Value) = Value.tuple #[Value.agg #[vs 1 0 (0 + L0.length) (0 + L0.length)], vT] from (ZeB (Za (Zhb (Za (ZN rfl eqA eqA) rfl)) (Za rfl rfl)))) (by rfl), by rfl⟩)
        ·
         exact fxC (Zh (oq [1, 3, 6, 8, 10, 12, 15, 17, 19, 20]) [] [(0, (a1).toNat), (1, (a1).toNat)] [(3, [.i (L0.getD (a1).toNat RI.z).a0]), (5, [.i (L0.getD (a1).toNat RI.z).a1])] []) [0] (Value.tuple #[Value.agg (κ3 L0), vf]) (kN (a5 ≥ (0 : Int)) <| hY g6 <| kY (a4 ≥ (0 : Int)) w5) (bR <| bE)
       ·
        exact fxC (Zh (oq [1, 3, 6, 8, 10, 12, 15, 17, 18]) [] [(0, (a1).toNat), (1, (a1).toNat)] [(3, [.i (L0.getD (a1).toNat RI.z).a0]), (5, [.i (L0.getD (a1).toNat RI.z).a1])] []) [0] (Value.tuple #[Value.agg (κ3 L0), vf]) (hN g6 <| kY (a4 ≥ (0 : Int)) w5) (bR <| bE)
      ·
       exact fxC (Zh (oq [1, 3, 6, 8, 10, 12, 15, 16]) [] [(0, (a1).toNat), (1, (a1).toNat)] [(3, [.i (L0.getD (a1).toNat RI.z).a0]), (5, [.i (L0.getD (a1).toNat RI.z).a1])] []) [0] (Value.tuple #[Value.agg (κ3 L0), vf]) (kN (a4 ≥ (0 : Int)) w5) (bR <| bE)
  ·
   exact fxC (Zh (oq [1, 2]) [] [] [] []) [0] (Value.tuple #[Value.agg (κ3 L0), vf]) (hN g1 w1) (bR <| bE)
 ·
  exact fxC (Zh (oq [0]) [] [] [] []) [0] (Value.tuple #[Value.agg (κ3 L0), vf]) (kN (a1 ≥ (0 : Int)) Zs) (bR <| bE)

theorem Zfa (L0 : List RI) (a1 a2 a3 a4 a5 : Int) (N : Nat) (r : Zad) (h : Za0 L0 a1 a2 a3 a4 a5 N = some r) : LSpec Tryz.prog 74 #[Value.agg (κ3 L0), vi a1, vi a2, Value.agg #[vi a3, vi a4, vi a5]] [.cells (Zc RC L0) 81] (ZhT L0 a1 a2 a3 a4 a5 r) (Zhm L0 a1 a2 a3 a4 a5 r) :=
 ZaB ZaW Tryz.func74 (by kernel_rfl) (by kernel_rfl) (fun r => by cases r <;> exact ZaP _ rfl) (ZjY L0 a1 a2 a3 a4 a5 N) h

noncomputable def Zdn {L0 : List RI} {a1 : Int} {a2 : Int} {a3 : Int} {a4 : Int} {a5 : Int} {N : Nat} (h : Za0 L0 a1 a2 a3 a4 a5 N = some (.r0)) (ks : List Nat) (n : Nat) : ToldS := ⟨#[Value.agg #[vs (nth ks 0) 0 L0.length L0.length], vi a1, vi a2, Value.agg #[vi a3, vi a4, vi a5]], [((nth ks 0), .cells (Zc RC L0) 81)], Value.tuple #[Value.agg #[vs (nth ks 0) 0 L0.length L0.length], vf], [], 0⟩

theorem ZeG {L0 : List RI} {a1 : Int} {a2 : Int} {a3 : Int} {a4 : Int} {a5 : Int} {N : Nat} (h : Za0 L0 a1 a2 a3 a4 a5 N = some (.r0)) (ks : List Nat) (n : Nat) (hk : ks.length = 1 := by rfl) (hnd : ks.Nodup := by decide +kernel) (hlt : ∀ k ∈ ks, k < n := by decide +kernel) : (Zdn (N := N)  h ks n).P Tryz.prog 74 n :=
 match ks, hk, hnd, hlt with
 | [k0], _, hnd, hlt => ZaT (show LSpec Tryz.prog 74 #[Value.agg (κ3 L0), vi a1, vi a2, Value.agg #[vi a3, vi a4, vi a5]] [.cells (Zc RC L0) 81] (Value.tuple #[Value.agg (κ3 L0), vf]) [some (.cells (Zc RC L0) 81)] from Zfa L0 a1 a2 a3 a4 a5 N _ h) _ n [] hnd hlt

noncomputable def Zdo {L0 : List RI} {a1 : Int} {a2 : Int} {a3 : Int} {a4 : Int} {a5 : Int} {N : Nat} (h : Za0 L0 a1 a2 a3 a4 a5 N = some (.r1)) (ks : List Nat) (n : Nat) : ToldS := ⟨#[Value.agg #[vs (nth ks 0) 0 L0.length L0.length], vi a1, vi a2, Value.agg #[vi a3, vi a4, vi a5]], [((nth ks 0), .cells (Zc RC L0) 81)], Value.tuple #[Value.agg #[vs n 0 L0.length L0.length], vT], [(n, some (.cells (κbr L0 a1 a3 a4 a2) 81))], 1⟩

theorem ZeH {L0 : List RI} {a1 : Int} {a2 : Int} {a3 : Int} {a4 : Int} {a5 : Int} {N : Nat} (h : Za0 L0 a1 a2 a3 a4 a5 N = some (.r1)) (ks : List Nat) (n : Nat) (hk : ks.length = 1 := by rfl) (hnd : ks.Nodup := by decide +kernel) (hlt : ∀ k ∈ ks, k < n := by decide +kernel) : (Zdo (N := N)  h ks n).P Tryz.prog 74 n :=
 match ks, hk, hnd, hlt with
 | [k0], _, hnd, hlt => ZaT (show LSpec Tryz.prog 74 #[Value.agg (κ3 L0), vi a1, vi a2, Value.agg #[vi a3, vi a4, vi a5]] [.cells (Zc RC L0) 81] (Value.tuple #[Value.agg #[vs 1 0 L0.length L0.length], vT]) [some (.cells (Zc RC L0) 81), some (.cells (κbr L0 a1 a3 a4 a2) 81)] from Zfa L0 a1 a2 a3 a4 a5 N _ h) _ n [1] hnd hlt

end Ev
end Go.Proofs.YtiijipocjellpaaGreat
namespace Go.Proofs.YtiijipocjellpaaGreat
open Go.RowKit
namespace Ev
set_option linter.unusedVariables false
set_option maxRecDepth 100000
set_option maxHeartbeats 4000000
noncomputable def ZfP (a0 : Int) (L1 L2 : List Int) : ZZ → Value
 | .r0 w2 w3 w4 => Value.agg #[vi w2, vi w3, vi w4]
noncomputable abbrev κ6 (L1 : List Int) (L2 : List Int) := [vs 1 0 L1.length L1.length, vs 2 0 L2.length L2.length]
noncomputable def Zfb (a0 : Int) (L1 L2 : List Int) : ZZ → List (Option AObj)
 | .r0 w2 w3 w4 => [some (.cells (κ6 L1 L2) 191), some (.cells (Zc eI L1) 188), some (.cells (Zc eI L2) 188)]

noncomputable abbrev κ8 (a0 : Int) (L2 : List Int) := (dP (Z3 1 (List.drop ((0 + ((a0).toNat * 1)) + 0) (Zc eI L2)) = some [vi (L2.getD (a0).toNat 0)]))
theorem Zis (a0 : Int) (L1 L2 : List Int) (N : Nat) : Fx Tryz.prog Zaa Tryz.f32 [.cells (κ6 L1 L2) 191, .cells (Zc eI L1) 188, .cells (Zc eI L2) 188] #[vp 0 0, vi a0] (ZfP a0 L1 L2) (Zfb a0 L1 L2) (ZX a0 L1 L2 N) := by
 unfold ZX
 refine Zd (fun g0 => ?_) (fun g0 => ?_)
 ·
  have w1 := kY ((L1.length : Int) > (0 : Int)) Zs
  refine Zd (fun g1 => ?_) (fun g1 => ?_)
  ·
   have w2 := kY (a0 ≥ (0 : Int)) w1
   refine Zd (fun g2 => ?_) (fun g2 => ?_)
   ·
    have w3 := kX (dP (Z3 1 (List.drop ((0 + ((a0).toNat * 1)) + 0) (Zc eI L1)) = some [vi (L1.getD (a0).toNat 0)])) true (Z5 (Za9 (E := eI) (L := L1) (i := (a0).toNat) (q := 0) (by omega) (show ((0 + ((a0).toNat * 1)) + 0) = (a0).toNat * 1 + 0 from by omega) (show 0 + 1 ≤ 1 from by decide) rfl)) <| kB (a0).toNat L1.length <| kI a0 (Int.ofNat (a0).toNat) <| hY g2 w2
    refine Zd (fun g3 => ?_) (fun g3 => ?_)
    ·
     refine Zd (fun g4 => ?_) (fun _ => Zw)
     exact fxC (Zh (oq [3, 5, 7, 11]) [] [(0, (a0).toNat), (1, (a0).toNat)] [] [(0, .at (L1.getD (a0).toNat 0) []), (3, .at (L2.getD (a0).toNat 0) [])]) [0, 1, 2] (Value.agg #[vq, vq, vi (L2.getD (a0).toNat 0)]) (kX (κ8 a0 L2) true (Z5 (Za9 (E := eI) (L := L2) (i := (a0).toNat) (q := 0) (by omega) (show ((0 + ((a0).toNat * 1)) + 0) = (a0).toNat * 1 + 0 from by omega) (show 0 + 1 ≤ 1 from by decide) rfl)) <| kB (a0).toNat L2.length <| kI a0 (Int.ofNat (a0).toNat) <| hY g3 w3) (bS (κ6 L1 L2) <| bR <| bR <| bE)
    ·
     have w4 := kM (L1.getD (a0).toNat 0) (4 : Int) <| hN g3 w3
     refine Zd (fun g4 => ?_) (fun _ => Zw)
     have w5 := kV (L1.getD (a0).toNat 0) (4 : Int) w4
     refine Zd (fun g5 => ?_) (fun g5 => ?_)
     ·
      refine Zd (fun g6 => ?_) (fun g6 => ?_)
      ·
       refine Zd (fun g7 => ?_) (fun _ => Zw)
       exact fxC (Zh (oq [3, 5, 7, 10, 13, 15, 17]) [(0, ((L1.getD (a0).toNat 0) % (4 : Int))), (1, ((L1.getD (a0).toNat 0) / (4 : Int)))] [(0, (a0).toNat), (1, (a0).toNat)] [] [(0, .at (L1.getD (a0).toNat 0) []), (5, .at (L2.getD (a0).toNat 0) [])]) [0, 1, 2] (Value.agg #[vi ((L1.getD (a0).toNat 0) % (4 : Int)), vi ((L1.getD (a0).toNat 0) / (4 : Int)), vi (L2.getD (a0).toNat 0)]) (kX (κ8 a0 L2) true (Z5 (Za9 (E := eI) (L := L2) (i := (a0).toNat) (q := 0) (by omega) (show ((0 + ((a0).toNat * 1)) + 0) = (a0).toNat * 1 + 0 from by omega) (show 0 + 1 ≤ 1 from by decide) rfl)) <| kB (a0).toNat L2.length <| kI a0 (Int.ofNat (a0).toNat) <| hY g6 <| kY (((L1.getD (a0).toNat 0) / (4 : Int)) ≥ (0 : Int)) <| hT g5 w5) (bS (κ6 L1 L2) <| bR <| bR <| bE)
      ·
       refine Zd (fun g7 => ?_) (fun _ => Zw)
       exact fxC (Zh (oq [3, 5, 7, 10, 13, 15, 16]) [(0, ((L1.getD (a0).toNat 0) % (4 : Int))), (1, ((L1.getD (a0).toNat 0) / (4 : Int)))] [(0, (a0).toNat), (1, (a0).toNat)] [] [(0, .at (L1.getD (a0).toNat 0) []), (5, .at (L2.getD (a0).toNat 0) [])]) [0, 1, 2] (Value.agg #[vq, vq, vi (L2.getD (a0).toNat 0)]) (kX (κ8 a0 L2) true (Z5 (Za9 (E := eI) (L := L2) (i := (a0).toNat) (q := 0) (by omega) (show ((0 + ((a0).toNat * 1)) + 0) = (a0).toNat * 1 + 0 from by omega) (show 0 + 1 ≤ 1 from by decide) rfl)) <| kB (a0).toNat L2.length <| kI a0 (Int.ofNat (a0).toNat) <| hN g6 <| kY (((L1.getD (a0).toNat 0) / (4 : Int)) ≥ (0 : Int)) <| hT g5 w5) (bS (κ6 L1 L2) <| bR <| bR <| bE)
     ·
      refine Zd (fun g6 => ?_) (fun g6 => ?_)
      ·
       refine Zd (fun g7 => ?_) (fun g7 => ?_)
       ·
        refine Zd (fun g8 => ?_) (fun _ => Zw)
        exact fxC (Zh (oq [3, 5, 7, 10, 12, 15, 17, 19]) [(0, ((L1.getD (a0).toNat 0) % (4 : Int))), (1, ((L1.getD (a0).toNat 0) / (4 : Int)))] [(0, (a0).toNat), (1, (a0).toNat)] [] [(0, .at (L1.getD (a0).toNat 0) []), (5, .at (L2.getD (a0).toNat 0) [])]) [0, 1, 2] (Value.agg #[vi ((L1.getD (a0).toNat 0) % (4 : Int)), vi ((L1.getD (a0).toNat 0) / (4 : Int)), vi (L2.getD (a0).toNat 0)]) (kX (κ8 a0 L2) true (Z5 (Za9 (E := eI) (L := L2) (i := (a0).toNat) (q := 0) (by omega) (show ((0 + ((a0).toNat * 1)) + 0) = (a0).toNat * 1 + 0 from by omega) (show 0 + 1 ≤ 1 from by decide) rfl)) <| kB (a0).toNat L2.length <| kI a0 (Int.ofNat (a0).toNat) <| hY g7 <| kY (((L1.getD (a0).toNat 0) / (4 : Int)) ≥ (0 : Int)) <| hT g6 <| hF g5 w5) (bS (κ6 L1 L2) <| bR <| bR <| bE)
       ·
        refine Zd (fun g8 => ?_) (fun _ => Zw)
        exact fxC (Zh (oq [3, 5, 7, 10, 12, 15, 17, 18]) [(0, ((L1.getD (a0).toNat 0) % (4 : Int))), (1, ((L1.getD (a0).toNat 0) / (4 : Int)))] [(0, (a0).toNat), (1, (a0).toNat)] [] [(0, .at (L1.getD (a0).toNat 0) []), (5, .at (L2.getD (a0).toNat 0) [])]) [0, 1, 2] (Value.agg #[vq, vq, vi (L2.getD (a0).toNat 0)]) (kX (κ8 a0 L2) true (Z5 (Za9 (E := eI) (L := L2) (i := (a0).toNat) (q := 0) (by omega) (show ((0 + ((a0).toNat * 1)) + 0) = (a0).toNat * 1 + 0 from by omega) (show 0 + 1 ≤ 1 from by decide) rfl)) <| kB (a0).toNat L2.length <| kI a0 (Int.ofNat (a0).toNat) <| hN g7 <| kY (((L1.getD (a0).toNat 0) / (4 : Int)) ≥ (0 : Int)) <| hT g6 <| hF g5 w5) (bS (κ6 L1 L2) <| bR <| bR <| bE)
      ·
       refine Zd (fun g7 => ?_) (fun g7 => ?_)
       ·
        have w8 := kY (((L1.getD (a0).toNat 0) / (4 : Int)) ≥ (0 : Int)) <| hT g7 <| hF g6 <| hF g5 w5
        refine Zd (fun g8 => ?_) (fun g8 => ?_)
        ·
         refine Zd (fun g9 => ?_) (fun _ => Zw)
         exact fxC (Zh (oq [3, 5, 7, 10, 12, 14, 17, 19, 21]) [(0, ((L1.getD (a0).toNat 0) % (4 : Int))), (1, ((L1.getD (a0).toNat 0) / (4 : Int)))] [(0, (a0).toNat), (1, (a0).toNat)] [] [(0, .at (L1.getD (a0).toNat 0) []), (5, .at (L2.getD (a0).toNat 0) [])]) [0, 1, 2] (Value.agg #[vi ((L1.getD (a0).toNat 0) % (4 : Int)), vi ((L1.getD (a0).toNat 0) / (4 : Int)), vi (L2.getD (a0).toNat 0)]) (kX (κ8 a0 L2) true (Z5 (Za9 (E := eI) (L := L2) (i := (a0).toNat) (q := 0) (by omega) (show ((0 + ((a0).toNat * 1)) + 0) = (a0).toNat * 1 + 0 from by omega) (show 0 + 1 ≤ 1 from by decide) rfl)) <| kB (a0).toNat L2.length <| kI a0 (Int.ofNat (a0).toNat) <| hY g8 w8) (bS (κ6 L1 L2) <| bR <| bR <| bE)
        ·
         refine Zd (fun g9 => ?_) (fun _ => Zw)
         exact fxC (Zh (oq [3, 5, 7, 10, 12, 14, 17, 19, 20]) [(0, ((L1.getD (a0).toNat 0) % (4 : Int))), (1, ((L1.getD (a0).toNat 0) / (4 : Int)))] [(0, (a0).toNat), (1, (a0).toNat)] [] [(0, .at (L1.getD (a0).toNat 0) []), (5, .at (L2.getD (a0).toNat 0) [])]) [0, 1, 2] (Value.agg #[vq, vq, vi (L2.getD (a0).toNat 0)]) (kX (κ8 a0 L2) true (Z5 (Za9 (E := eI) (L := L2) (i := (a0).toNat) (q := 0) (by omega) (show ((0 + ((a0).toNat * 1)) + 0) = (a0).toNat * 1 + 0 from by omega) (show 0 + 1 ≤ 1 from by decide) rfl)) <| kB (a0).toNat L2.length <| kI a0 (Int.ofNat (a0).toNat) <| hN g8 w8) (bS (κ6 L1 L2) <| bR <| bR <| bE)
       ·
        refine Zd (fun g8 => ?_) (fun _ => Zw)
        exact fxC (Zh (oq [3, 5, 7, 10, 12, 14, 16]) [(0, ((L1.getD (a0).toNat 0) % (4 : Int))), (1, ((L1.getD (a0).toNat 0) / (4 : Int)))] [(0, (a0).toNat), (1, (a0).toNat)] [] [(0, .at (L1.getD (a0).toNat 0) []), (5, .at (L2.getD (a0).toNat 0) [])]) [0, 1, 2] (Value.agg #[vq, vq, vi (L2.getD (a0).toNat 0)]) (kX (κ8 a0 L2) true (Z5 (Za9 (E := eI) (L := L2) (i := (a0).toNat) (q := 0) (by omega) (show ((0 + ((a0).toNat * 1)) + 0) = (a0).toNat * 1 + 0 from by omega) (show 0 + 1 ≤ 1 from by decide) rfl)) <| kB (a0).toNat L2.length <| kI a0 (Int.ofNat (a0).toNat) <| hF g7 <| hF g6 <| hF g5 w5) (bS (κ6 L1 L2) <| bR <| bR <| bE)
   ·
    exact fxC (Zh (oq [3, 5, 6]) [] [] [] []) [0, 1, 2] (Value.agg #[vq, vq, vq]) (hN g2 w2) (bS (κ6 L1 L2) <| bR <| bR <| bE)
  ·
   exact fxC (Zh (oq [3, 4]) [] [] [] []) [0, 1, 2] (Value.agg #[vq, vq, vq]) (kN (a0 ≥ (0 : Int)) w1) (bS (κ6 L1 L2) <| bR <| bR <| bE)
 ·
  exact fxC (Zh (oq [2]) [] [] [] []) [0, 1, 2] (Value.agg #[vq, vq, vq]) (kN ((L1.length : Int) > (0 : Int)) Zs) (bS (κ6 L1 L2) <| bR <| bR <| bE)

theorem Zhn (a0 : Int) (L1 L2 : List Int) (N : Nat) (r : ZZ) (h : ZX a0 L1 L2 N = some r) : LSpec Tryz.prog 32 #[vp 0 0, vi a0] [.cells (κ6 L1 L2) 191, .cells (Zc eI L1) 188, .cells (Zc eI L2) 188] (ZfP a0 L1 L2 r) (Zfb a0 L1 L2 r) :=
 ZaB ZaW Tryz.func32 (by kernel_rfl) (by kernel_rfl) (fun r => by cases r <;> exact ZaP _ rfl) (Zis a0 L1 L2 N) h

noncomputable def Z1 {a0 : Int} {L1 : List Int} {L2 : List Int} {w2 : Int} {w3 : Int} {w4 : Int} {N : Nat} (h : ZX a0 L1 L2 N = some (.r0 w2 w3 w4)) (ks : List Nat) (n : Nat) : ToldS := ⟨#[vp (nth ks 0) 0, vi a0], [((nth ks 0), .cells [vs (nth ks 1) 0 L1.length L1.length, vs (nth ks 2) 0 L2.length L2.length] 191), ((nth ks 1), .cells (Zc eI L1) 188), ((nth ks 2), .cells (Zc eI L2) 188)], Value.agg #[vi w2, vi w3, vi w4], [], 0⟩

theorem ZF {a0 : Int} {L1 : List Int} {L2 : List Int} {w2 : Int} {w3 : Int} {w4 : Int} {N : Nat} (h : ZX a0 L1 L2 N = some (.r0 w2 w3 w4)) (ks : List Nat) (n : Nat) (hk : ks.length = 3 := by rfl) (hnd : ks.Nodup := by decide +kernel) (hlt : ∀ k ∈ ks, k < n := by decide +kernel) : (Z1 (N := N)  h ks n).P Tryz.prog 32 n :=
 match ks, hk, hnd, hlt with
 | [k0, k1, k2], _, hnd, hlt => ZaT (show LSpec Tryz.prog 32 #[vp 0 0, vi a0] [.cells (κ6 L1 L2) 191, .cells (Zc eI L1) 188, .cells (Zc eI L2) 188] (Value.agg #[vi w2, vi w3, vi w4]) [some (.cells (κ6 L1 L2) 191), some (.cells (Zc eI L1) 188), some (.cells (Zc eI L2) 188)] from Zhn a0 L1 L2 N _ h) _ n [] hnd hlt

noncomputable def Zfc (a0 a1 : Int) (L2 L3 : List Int) : Zan → Value
 | .r0 w0 w2 => vi w2
noncomputable def ZeI (a0 a1 : Int) (L2 L3 : List Int) : Zan → List (Option AObj)
 | .r0 w0 w2 => [some (.cells [vs 1 0 w0.length w0.length, vs 2 0 L3.length L3.length] 191), some (.cells (Zc eI w0) 188), some (.cells (Zc eI L3) 188)]

noncomputable abbrev κbp (L2 : List Int) (L3 : List Int) := [vs 1 0 L2.length L2.length, vs 2 0 L3.length L3.length]
theorem ZhD (a0 a1 : Int) (L2 L3 : List Int) (N : Nat) : Fx Tryz.prog Zaa Tryz.f75 [.cells (κbp L2 L3) 191, .cells (Zc eI L2) 188, .cells (Zc eI L3) 188] #[vp 0 0, vi a0, vi a1] (Zfc a0 a1 L2 L3) (ZeI a0 a1 L2 L3) (Zak a0 a1 L2 L3 N) := by
 unfold Zak
 refine Zd (fun g0 => ?_) (fun g0 => ?_)
 ·
  have w1 := kY ((L2.length : Int) > (0 : Int)) <| kY ((L2.length : Int) > (0 : Int)) Zs
  refine Zd (fun g1 => ?_) (fun g1 => ?_)
  ·
   refine Zd (fun g2 => ?_) (fun g2 => ?_)
   ·
    refine Zd (fun g3 => ?_) (fun g3 => ?_)
    ·
     have w4 := kY (a1 ≥ (0 : Int)) <| hY g2 <| kY (a0 ≥ (0 : Int)) w1
     refine Zd (fun g4 => ?_) (fun g4 => ?_)
     ·
      have w5 := kW (((4 : Int) * a1) + (0 : Int)) ((4 : Int) * a1) <| kW ((4 : Int) * a1) ((4 : Int) * a1) <| hY g4 w4
      refine ZY (fun z5 c5 => ?_)
      cases z5 with
      | r0 y5_0 y5_1 y5_2 =>
       refine Zd (fun g6 => ?_) (fun g6 => ?_)
       ·
        exact fxC (Zh (oq [3, 9, 11, 13, 19, 21, 29]) [(0, ((4 : Int) * a1)), (1, ((4 : Int) * a1))] [] [] [(0, (Z1 c5 [0, 1, 2] 6).t)]) [0, 1, 2] (vi (30 : Int)) (hT g6 <| kK (ZF c5 [0, 1, 2] 6) w5) (bS (κbp L2 L3) <| bR <| bR <| bE)
       ·
        exact fxC (Zh (oq [3, 9, 11, 13, 19, 21, 28]) [(0, ((4 : Int) * a1)), (1, ((4 : Int) * a1))] [(0, (a0).toNat)] [] [(0, (Z1 c5 [0, 1, 2] 6).t), (1, .at (L2.getD (a0).toNat 0) (Zc eI (L2.set (a0).toNat ((4 : Int) * a1))))]) [0, 1, 2] (vq) (kX (dP (Z3 1 (List.drop ((0 + ((a0).toNat * 1)) + 0) (Zc eI L2)) = some [vi (L2.getD (a0).toNat 0)] ∧ ((0 + ((a0).toNat * 1)) + 0) + 1 ≤ ((Zc eI L2) : List Value).length ∧ Zca (Zc eI L2) ((0 + ((a0).toNat * 1)) + 0) [vi ((4 : Int) * a1)] = (Zc eI (L2.set (a0).toNat ((4 : Int) * a1))))) true (Z5 ⟨(Za9 (E := eI) (L := L2) (i := (a0).toNat) (q := 0) (by omega) (show ((0 + ((a0).toNat * 1)) + 0) = (a0).toNat * 1 + 0 from by omega) (show 0 + 1 ≤ 1 from by decide) rfl), (ZT (E := eI) (L := L2) (i := (a0).toNat) (q := 0) (l := [vi ((4 : Int) * a1)]) ((4 : Int) * a1) (by omega) (show ((0 + ((a0).toNat * 1)) + 0) = (a0).toNat * 1 + 0 from by omega) (show 0 + 1 ≤ 1 from by decide) rfl)⟩) <| kB (a0).toNat L2.length <| kI a0 (Int.ofNat (a0).toNat) <| hF g6 <| kK (ZF c5 [0, 1, 2] 6) w5) (bU (κbp L2 L3) 0 (show (vs 1 0 L2.length L2.length : Value) = vs 1 0 (L2.set (a0).toNat ((4 : Int) * a1)).length (L2.set (a0).toNat ((4 : Int) * a1)).length from ZN rfl eqA eqA) <| bR <| bR <| bE)
     ·
      exact fxC (Zh (oq [3, 9, 11, 13, 19, 20]) [] [] [] []) [0, 1, 2] (vi (30 : Int)) (hN g4 w4) (bS (κbp L2 L3) <| bR <| bR <| bE)
    ·
     exact fxC (Zh (oq [3, 9, 11, 13, 18]) [] [] [] []) [0, 1, 2] (vi (30 : Int)) (kN (a1 ≥ (0 : Int)) <| hY g2 <| kY (a0 ≥ (0 : Int)) w1) (bS (κbp L2 L3) <| bR <| bR <| bE)
   ·
    exact fxC (Zh (oq [3, 9, 11, 12]) [] [] [] []) [0, 1, 2] (vi (5 : Int)) (hN g2 <| kY (a0 ≥ (0 : Int)) w1) (bS (κbp L2 L3) <| bR <| bR <| bE)
  ·
   exact fxC (Zh (oq [3, 9, 10]) [] [] [] []) [0, 1, 2] (vi (5 : Int)) (kN (a0 ≥ (0 : Int)) w1) (bS (κbp L2 L3) <| bR <| bR <| bE)
 ·
  exact fxC (Zh (oq [2]) [] [] [] []) [0, 1, 2] (vi (4 : Int)) (kN ((L2.length : Int) > (0 : Int)) Zs) (bS (κbp L2 L3) <| bR <| bR <| bE)

theorem Zg6 (a0 a1 : Int) (L2 L3 : List Int) (N : Nat) (r : Zan) (h : Zak a0 a1 L2 L3 N = some r) : LSpec Tryz.prog 75 #[vp 0 0, vi a0, vi a1] [.cells (κbp L2 L3) 191, .cells (Zc eI L2) 188, .cells (Zc eI L3) 188] (Zfc a0 a1 L2 L3 r) (ZeI a0 a1 L2 L3 r) :=
 ZaB ZaW Tryz.func75 (by kernel_rfl) (by kernel_rfl) (fun r => by cases r <;> exact ZaP _ rfl) (ZhD a0 a1 L2 L3 N) h

noncomputable def Zbe {a0 : Int} {a1 : Int} {L2 : List Int} {L3 : List Int} {w0 : List Int} {w2 : Int} {N : Nat} (h : Zak a0 a1 L2 L3 N = some (.r0 w0 w2)) (ks : List Nat) (n : Nat) : ToldS := ⟨#[vp (nth ks 0) 0, vi a0, vi a1], [((nth ks 0), .cells [vs (nth ks 1) 0 L2.length L2.length, vs (nth ks 2) 0 L3.length L3.length] 191), ((nth ks 1), .cells (Zc eI L2) 188), ((nth ks 2), .cells (Zc eI L3) 188)], vi w2, [((nth ks 0), some (.cells [vs (nth ks 1) 0 w0.length w0.length, vs (nth ks 2) 0 L3.length L3.length] 191)), ((nth ks 1), some (.cells (Zc eI w0) 188))], 0⟩

theorem ZcR {a0 : Int} {a1 : Int} {L2 : List Int} {L3 : List Int} {w0 : List Int} {w2 : Int} {N : Nat} (h : Zak a0 a1 L2 L3 N = some (.r0 w0 w2)) (ks : List Nat) (n : Nat) (hk : ks.length = 3 := by rfl) (hnd : ks.Nodup := by decide +kernel) (hlt : ∀ k ∈ ks, k < n := by decide +kernel) : (Zbe (N := N)  h ks n).P Tryz.prog 75 n :=
 match ks, hk, hnd, hlt with
 | [k0, k1, k2], _, hnd, hlt => ZaT (show LSpec Tryz.prog 75 #[vp 0 0, vi a0, vi a1] [.cells (κbp L2 L3) 191, .cells (Zc eI L2) 188, .cells (Zc eI L3) 188] (vi w2) [some (.cells [vs 1 0 w0.length w0.length, vs 2 0 L3.length L3.length] 191), some (.cells (Zc eI w0) 188), some (.cells (Zc eI L3) 188)] from Zg6 a0 a1 L2 L3 N _ h) _ n [0, 1] hnd hlt

noncomputable def ZiU (L0 : List RI) (a1 a2 : Int) : ZaU → Value
 | .r0 w1 => Value.tuple #[Value.agg (κ3 L0), vi w1]
 | .r1 => Value.tuple #[Value.agg #[vs 1 0 L0.length L0.length], vq]
noncomputable def ZhU (L0 : List RI) (a1 a2 : Int) : ZaU → List (Option AObj)
 | .r0 w1 => [some (.cells (Zc RC L0) 81)]
 | .r1 => [some (.cells (Zc RC L0) 81), some (.cells (Zc RC (L0.set (a1).toNat (⟨(0 : Int), a2, (L0.getD (a1).toNat RI.z).a2⟩ : RI))) 81)]

theorem Zlt (L0 : List RI) (a1 a2 : Int) (N : Nat) : Fx Tryz.prog Zaa Tryz.f76 [.cells (Zc RC L0) 81] #[Value.agg (κ3 L0), vi a1, vi a2] (ZiU L0 a1 a2) (ZhU L0 a1 a2) (ZaA L0 a1 a2 N) := by
 unfold ZaA
 refine Zd (fun g0 => ?_) (fun g0 => ?_)
 ·
  refine Zd (fun g1 => ?_) (fun g1 => ?_)
  ·
   have w2 := kL RC L0 ((a1).toNat) 0 1 <| kB (a1).toNat L0.length <| kI a1 (Int.ofNat (a1).toNat) <| kL RC L0 ((a1).toNat) 2 1 <| kB (a1).toNat L0.length <| kI a1 (Int.ofNat (a1).toNat) <| hY g1 <| kY (a1 ≥ (0 : Int)) Zs
   refine Zd (fun g2 => ?_) (fun g2 => ?_)
   ·
    exact fxC (Zh (oq [1, 3, 7]) [] [(0, (a1).toNat), (1, (a1).toNat)] [(3, [.i (L0.getD (a1).toNat RI.z).a2]), (5, [.i (L0.getD (a1).toNat RI.z).a0])] []) [0] (Value.tuple #[Value.agg (κ3 L0), vi (30 : Int)]) (hT g2 w2) (bR <| bE)
   ·
    refine Zd (fun g3 => ?_) (fun g3 => ?_)
    ·
     refine Zd (fun g4 => ?_) (fun g4 => ?_)
     ·
      refine Zd (fun g5 => ?_) (fun g5 => ?_)
      ·
       refine Zd (fun g6 => ?_) (fun _ => Zw)
       exact fxC (Zh (oq [1, 3, 6, 11, 13, 15]) [] [(0, (a1).toNat), (1, (a1).toNat), (2, (a1).toNat)] [(3, [.i (L0.getD (a1).toNat RI.z).a2]), (5, [.i (L0.getD (a1).toNat RI.z).a0])] [(1, .ap L0.length (Zc RC L0) (Zc RC L0)), (3, .st (Zc RC (L0.set (a1).toNat (⟨(0 : Int), a2, (L0.getD (a1).toNat RI.z).a2⟩ : RI))))]) [0, 10] (Value.tuple #[Value.agg #[vs 10 0 (0 + L0.length) (0 + L0.length)], vq]) (kC (ZT (E := RC) (L := L0) (i := (a1).toNat) (q := 0) (l := [vq, vi a2, vi (L0.getD (a1).toNat RI.z).a2]) (⟨(0 : Int), a2, (L0.getD (a1).toNat RI.z).a2⟩ : RI) (by omega) (show (0 + ((a1).toNat * 3)) = (a1).toNat * 3 + 0 from by omega) (show 0 + 3 ≤ 3 from by decide) rfl) <| kB (a1).toNat (0 + L0.length) <| kI a1 (Int.ofNat (a1).toNat) <| kX (κbe L0) true (Z5 ⟨⟨rfl, (Zeq (E := RC) (L := L0) (a := 0) (n := L0.length) (by omega) (by show _ = _ * 3; omega) (show _ = _ * 3 from rfl) (by rw [List.drop_zero, List.take_of_length_le (by omega)]))⟩, by omega, by omega, ltA, by omega, (Zd1 (E := RC) (L := ([] : List RI)) (M := L0) (n := 0) (show _ = _ * 3 from rfl) ltA (R := L0) (by rw [List.take_of_length_le ltA]; rfl))⟩) <| kY ((L0.getD (a1).toNat RI.z).a2 ≥ (0 : Int)) <| hY g4 <| kY (a2 ≥ (0 : Int)) <| hF g2 w2) (bR <| bR <| bE) (hv := ⟨Eq.trans (show (Value.tuple #[Value.agg #[vs 1 0 L0.length L0.length], vq] : Value) = Value.tuple #[Value.agg #[vs 1 0 (0 + L0.length) (0 + L0.length)], vq] from (ZeB (Za (Zhb (Za (ZN rfl eqA eqA) rfl)) (Za rfl rfl)))) (by rfl), by rfl⟩)
      ·
       exact fxC (Zh (oq [1, 3, 6, 11, 13, 14]) [] [(0, (a1).toNat), (1, (a1).toNat)] [(3, [.i (L0.getD (a1).toNat RI.z).a2]), (5, [.i (L0.getD (a1).toNat RI.z).a0])] []) [0] (Value.tuple #[Value.agg (κ3 L0), vi (30 : Int)]) (kN ((L0.getD (a1).toNat RI.z).a2 ≥ (0 : Int)) <| hY g4 <| kY (a2 ≥ (0 : Int)) <| hF g2 w2) (bR <| bE)
     ·
      exact fxC (Zh (oq [1, 3, 6, 11, 12]) [] [(0, (a1).toNat), (1, (a1).toNat)] [(3, [.i (L0.getD (a1).toNat RI.z).a2]), (5, [.i (L0.getD (a1).toNat RI.z).a0])] []) [0] (Value.tuple #[Value.agg (κ3 L0), vi (30 : Int)]) (hN g4 <| kY (a2 ≥ (0 : Int)) <| hF g2 w2) (bR <| bE)
    ·
     exact fxC (Zh (oq [1, 3, 6, 10]) [] [(0, (a1).toNat), (1, (a1).toNat)] [(3, [.i (L0.getD (a1).toNat RI.z).a2]), (5, [.i (L0.getD (a1).toNat RI.z).a0])] []) [0] (Value.tuple #[Value.agg (κ3 L0), vi (30 : Int)]) (kN (a2 ≥ (0 : Int)) <| hF g2 w2) (bR <| bE)
  ·
   exact fxC (Zh (oq [1, 2]) [] [] [] []) [0] (Value.tuple #[Value.agg (κ3 L0), vi (5 : Int)]) (hN g1 <| kY (a1 ≥ (0 : Int)) Zs) (bR <| bE)
 ·
  exact fxC (Zh (oq [0]) [] [] [] []) [0] (Value.tuple #[Value.agg (κ3 L0), vi (5 : Int)]) (kN (a1 ≥ (0 : Int)) Zs) (bR <| bE)

theorem ZfQ (L0 : List RI) (a1 a2 : Int) (N : Nat) (r : ZaU) (h : ZaA L0 a1 a2 N = some r) : LSpec Tryz.prog 76 #[Value.agg (κ3 L0), vi a1, vi a2] [.cells (Zc RC L0) 81] (ZiU L0 a1 a2 r) (ZhU L0 a1 a2 r) :=
 ZaB ZaW Tryz.func76 (by kernel_rfl) (by kernel_rfl) (fun r => by cases r <;> exact ZaP _ rfl) (Zlt L0 a1 a2 N) h

noncomputable def ZdA {L0 : List RI} {a1 : Int} {a2 : Int} {w1 : Int} {N : Nat} (h : ZaA L0 a1 a2 N = some (.r0 w1)) (ks : List Nat) (n : Nat) : ToldS := ⟨#[Value.agg #[vs (nth ks 0) 0 L0.length L0.length], vi a1, vi a2], [((nth ks 0), .cells (Zc RC L0) 81)], Value.tuple #[Value.agg #[vs (nth ks 0) 0 L0.length L0.length], vi w1], [], 0⟩

theorem Zfv {L0 : List RI} {a1 : Int} {a2 : Int} {w1 : Int} {N : Nat} (h : ZaA L0 a1 a2 N = some (.r0 w1)) (ks : List Nat) (n : Nat) (hk : ks.length = 1 := by rfl) (hnd : ks.Nodup := by decide +kernel) (hlt : ∀ k ∈ ks, k < n := by decide +kernel) : (ZdA (N := N)  h ks n).P Tryz.prog 76 n :=
 match ks, hk, hnd, hlt with
 | [k0], _, hnd, hlt => ZaT (show LSpec Tryz.prog 76 #[Value.agg (κ3 L0), vi a1, vi a2] [.cells (Zc RC L0) 81] (Value.tuple #[Value.agg (κ3 L0), vi w1]) [some (.cells (Zc RC L0) 81)] from ZfQ L0 a1 a2 N _ h) _ n [] hnd hlt

noncomputable def ZdB {L0 : List RI} {a1 : Int} {a2 : Int} {N : Nat} (h : ZaA L0 a1 a2 N = some (.r1)) (ks : List Nat) (n : Nat) : ToldS := ⟨#[Value.agg #[vs (nth ks 0) 0 L0.length L0.length], vi a1, vi a2], [((nth ks 0), .cells (Zc RC L0) 81)], Value.tuple #[Value.agg #[vs n 0 L0.length L0.length], vq], [(n, some (.cells (Zc RC (L0.set (a1).toNat (⟨(0 : Int), a2, (L0.getD (a1).toNat RI.z).a2⟩ : RI))) 81))], 1⟩

theorem Zfw {L0 : List RI} {a1 : Int} {a2 : Int} {N : Nat} (h : ZaA L0 a1 a2 N = some (.r1)) (ks : List Nat) (n : Nat) (hk : ks.length = 1 := by rfl) (hnd : ks.Nodup := by decide +kernel) (hlt : ∀ k ∈ ks, k < n := by decide +kernel) : (ZdB (N := N)  h ks n).P Tryz.prog 76 n :=
 match ks, hk, hnd, hlt with
 | [k0], _, hnd, hlt => ZaT (show LSpec Tryz.prog 76 #[Value.agg (κ3 L0), vi a1, vi a2] [.cells (Zc RC L0) 81] (Value.tuple #[Value.agg #[vs 1 0 L0.length L0.length], vq]) [some (.cells (Zc RC L0) 81), some (.cells (Zc RC (L0.set (a1).toNat (⟨(0 : Int), a2, (L0.getD (a1).toNat RI.z).a2⟩ : RI))) 81)] from ZfQ L0 a1 a2 N _ h) _ n [1] hnd hlt

noncomputable def Zfd (a0 a1 a2 : Int) (L3 : List RJ) (L4 : List RH) : ZW → Value
 | .r0 w2 w3 w4 w5 w6 w7 => Value.tuple #[Value.agg #[vi w2, vi w3, vi w4, vi w5, vi w6], Value.bool w7]
noncomputable abbrev κF (a2 : Int) (L3 : List RJ) (L4 : List RH) := [vi a2, vs 1 0 L3.length L3.length, vs 2 0 L4.length L4.length, vn, vn, vn, vn, vn, vn, vn, vn, vn, vn, vn, vn, vn, vn, vn, vn, vn]
noncomputable def ZeJ (a0 a1 a2 : Int) (L3 : List RJ) (L4 : List RH) : ZW → List (Option AObj)
 | .r0 w2 w3 w4 w5 w6 w7 => [some (.cells (κF a2 L3 L4) 154), some (.cells (Zc RD L3) 57), some (.cells (Zc RB L4) 42)]

noncomputable abbrev κ7 := (Value.tuple #[Value.agg #[vq, vq, vq, vq, vq], vf])
theorem ZhE (a0 a1 a2 : Int) (L3 : List RJ) (L4 : List RH) (N : Nat) : Fx Tryz.prog Zaa Tryz.f21 [.cells (κF a2 L3 L4) 154, .cells (Zc RD L3) 57, .cells (Zc RB L4) 42] #[vp 0 0, Value.agg #[vi a0, vi a1]] (Zfd a0 a1 a2 L3 L4) (ZeJ a0 a1 a2 L3 L4) (Zab a0 a1 a2 L3 L4 N) := by
 unfold Zab
 refine Zd (fun g0 => ?_) (fun g0 => ?_)
 ·
  have w1 := kY (a2 > (0 : Int)) Zs
  refine Zd (fun g1 => ?_) (fun g1 => ?_)
  ·
   exact fxC (Zh (oq [3, 7]) [] [] [] []) [0, 1, 2] κ7 (hD g1 w1) (bS (κF a2 L3 L4) <| bR <| bR <| bE)
  ·
   have w2 := kT a0 (2 : Int) <| kE a0 (2 : Int) w1
   refine Zd (fun g2 => ?_) (fun g2 => ?_)
   ·
    refine Zd (fun g3 => ?_) (fun g3 => ?_)
    ·
     have w4 := kY (a1 > (0 : Int)) <| hD g2 w2
     refine Zd (fun g4 => ?_) (fun _ => Zw)
     have w5 := kM a1 (1048576 : Int) <| kV a1 (1048576 : Int) w4
     refine Zd (fun g5 => ?_) (fun g5 => ?_)
     ·
      have w6 := kY ((a1 / (1048576 : Int)) ≥ (1 : Int)) w5
      refine Zd (fun g6 => ?_) (fun g6 => ?_)
      ·
       refine Zd (fun g7 => ?_) (fun g7 => ?_)
       ·
        have w8 := kM a1 (1048576 : Int) <| kY ((a1 % (1048576 : Int)) ≤ (1048575 : Int)) <| kY ((a1 % (1048576 : Int)) ≥ (1 : Int)) <| hY g6 <| kY ((a1 / (1048576 : Int)) ≥ (1 : Int)) <| kM a1 (1048576 : Int) <| kV a1 (1048576 : Int) <| kY (a1 > (0 : Int)) <| kE a0 (2 : Int) <| kO ((a0 == (2 : Int)) && ((a1 == (0 : Int)) && true)) <| kY ((a1 % (1048576 : Int)) ≤ (1048575 : Int)) <| kY ((a1 % (1048576 : Int)) ≥ (1 : Int)) <| hY g6 w6
        refine Zd (fun g8 => ?_) (fun g8 => ?_)
        ·
         exact fxC (Zh (oq [3, 6, 9, 11, 13, 15, 17, 19, 21, 26, 28, 31, 33, 35, 37, 39, 43]) [(0, (a1 / (1048576 : Int))), (1, (a1 % (1048576 : Int))), (2, (a1 / (1048576 : Int))), (3, (a1 % (1048576 : Int))), (4, (a1 % (1048576 : Int)))] [] [] []) [0, 1, 2] κ7 (kY ((a1 % (1048576 : Int)) > (L3.length : Int)) w8) (bS (κF a2 L3 L4) <| bR <| bR <| bE)
        ·
         have w9 := kV a1 (1048576 : Int) <| kY ((a1 % (1048576 : Int)) ≤ (1048575 : Int)) <| kY ((a1 % (1048576 : Int)) ≥ (1 : Int)) <| hY g6 <| kY ((a1 / (1048576 : Int)) ≥ (1 : Int)) <| kM a1 (1048576 : Int) <| kV a1 (1048576 : Int) <| kY (a1 > (0 : Int)) <| kE a0 (2 : Int) <| kL RD L3 ((((a1 % (1048576 : Int)) - (1 : Int))).toNat) 0 1 <| kB (((a1 % (1048576 : Int)) - (1 : Int))).toNat L3.length <| kI ((a1 % (1048576 : Int)) - (1 : Int)) (Int.ofNat (((a1 % (1048576 : Int)) - (1 : Int))).toNat) <| kW ((a1 % (1048576 : Int)) - (1 : Int)) ((a1 % (1048576 : Int)) - (1 : Int)) <| kN ((a1 % (1048576 : Int)) > (L3.length : Int)) w8
         refine Zd (fun g9 => ?_) (fun g9 => ?_)
         ·
          exact fxC (Zh (oq [3, 6, 9, 11, 13, 15, 17, 19, 21, 26, 28, 31, 33, 35, 37, 39, 42, 44, 47, 49, 51, 53, 55, 59]) [(0, (a1 / (1048576 : Int))), (1, (a1 % (1048576 : Int))), (2, (a1 / (1048576 : Int))), (3, (a1 % (1048576 : Int))), (4, (a1 % (1048576 : Int))), (5, ((a1 % (1048576 : Int)) - (1 : Int))), (6, (a1 / (1048576 : Int))), (7, (a1 % (1048576 : Int))), (8, (a1 / (1048576 : Int)))] [(0, (((a1 % (1048576 : Int)) - (1 : Int))).toNat)] [(15, [.i (L3.getD (((a1 % (1048576 : Int)) - (1 : Int))).toNat RJ.z).a0])] []) [0, 1, 2] κ7 (hD g9 w9) (bS (κF a2 L3 L4) <| bR <| bR <| bE)
         ·
          have w10 := kL RD L3 ((((a1 % (1048576 : Int)) - (1 : Int))).toNat) 3 1 <| kE ((L3.getD (((a1 % (1048576 : Int)) - (1 : Int))).toNat RJ.z).a0) (a1 / (1048576 : Int)) w9
          refine Zd (fun g10 => ?_) (fun g10 => ?_)
          ·
           exact fxC (Zh (oq [3, 6, 9, 11, 13, 15, 17, 19, 21, 26, 28, 31, 33, 35, 37, 39, 42, 44, 47, 49, 51, 53, 55, 58, 61]) [(0, (a1 / (1048576 : Int))), (1, (a1 % (1048576 : Int))), (2, (a1 / (1048576 : Int))), (3, (a1 % (1048576 : Int))), (4, (a1 % (1048576 : Int))), (5, ((a1 % (1048576 : Int)) - (1 : Int))), (6, (a1 / (1048576 : Int))), (7, (a1 % (1048576 : Int))), (8, (a1 / (1048576 : Int)))] [(0, (((a1 % (1048576 : Int)) - (1 : Int))).toNat)] [(15, [.i (L3.getD (((a1 % (1048576 : Int)) - (1 : Int))).toNat RJ.z).a0]), (20, [.i (L3.getD (((a1 % (1048576 : Int)) - (1 : Int))).toNat RJ.z).a3])] []) [0, 1, 2] κ7 (hT g10 w10) (bS (κF a2 L3 L4) <| bR <| bR <| bE)
          ·
           exact fxC (Zh (oq [3, 6, 9, 11, 13, 15, 17, 19, 21, 26, 28, 31, 33, 35, 37, 39, 42, 44, 47, 49, 51, 53, 55, 58, 60]) [(0, (a1 / (1048576 : Int))), (1, (a1 % (1048576 : Int))), (2, (a1 / (1048576 : Int))), (3, (a1 % (1048576 : Int))), (4, (a1 % (1048576 : Int))), (5, ((a1 % (1048576 : Int)) - (1 : Int))), (6, (a1 / (1048576 : Int))), (7, (a1 % (1048576 : Int))), (8, (a1 / (1048576 : Int))), (9, ((a1 % (1048576 : Int)) - (1 : Int)))] [(0, (((a1 % (1048576 : Int)) - (1 : Int))).toNat), (1, (((a1 % (1048576 : Int)) - (1 : Int))).toNat)] [(15, [.i (L3.getD (((a1 % (1048576 : Int)) - (1 : Int))).toNat RJ.z).a0]), (20, [.i (L3.getD (((a1 % (1048576 : Int)) - (1 : Int))).toNat RJ.z).a3]), (22, (RD.cel (L3.getD (((a1 % (1048576 : Int)) - (1 : Int))).toNat RJ.z)))] []) [0, 1, 2] (Value.tuple #[Value.agg #[vi (L3.getD (((a1 % (1048576 : Int)) - (1 : Int))).toNat RJ.z).a0, vi (L3.getD (((a1 % (1048576 : Int)) - (1 : Int))).toNat RJ.z).a1, vi (L3.getD (((a1 % (1048576 : Int)) - (1 : Int))).toNat RJ.z).a2, vi (L3.getD (((a1 % (1048576 : Int)) - (1 : Int))).toNat RJ.z).a3, vi (L3.getD (((a1 % (1048576 : Int)) - (1 : Int))).toNat RJ.z).a4], vT]) (kLn RD L3 ((((a1 % (1048576 : Int)) - (1 : Int))).toNat) 0 5 <| kB (((a1 % (1048576 : Int)) - (1 : Int))).toNat L3.length <| kI ((a1 % (1048576 : Int)) - (1 : Int)) (Int.ofNat (((a1 % (1048576 : Int)) - (1 : Int))).toNat) <| kW ((a1 % (1048576 : Int)) - (1 : Int)) ((a1 % (1048576 : Int)) - (1 : Int)) <| hF g10 w10) (bS (κF a2 L3 L4) <| bR <| bR <| bE)
       ·
        exact fxC (Zh (oq [3, 6, 9, 11, 13, 15, 17, 18]) [(0, (a1 / (1048576 : Int))), (1, (a1 % (1048576 : Int)))] [] [] []) [0, 1, 2] κ7 (kN ((a1 % (1048576 : Int)) ≥ (1 : Int)) <| hY g6 w6) (bS (κF a2 L3 L4) <| bR <| bR <| bE)
      ·
       exact fxC (Zh (oq [3, 6, 9, 11, 13, 15, 16]) [(0, (a1 / (1048576 : Int))), (1, (a1 % (1048576 : Int)))] [] [] []) [0, 1, 2] κ7 (hN g6 w6) (bS (κF a2 L3 L4) <| bR <| bR <| bE)
     ·
      exact fxC (Zh (oq [3, 6, 9, 11, 13, 14]) [(0, (a1 / (1048576 : Int))), (1, (a1 % (1048576 : Int)))] [] [] []) [0, 1, 2] κ7 (kN ((a1 / (1048576 : Int)) ≥ (1 : Int)) w5) (bS (κF a2 L3 L4) <| bR <| bR <| bE)
    ·
     exact fxC (Zh (oq [3, 6, 9, 11, 12]) [] [] [] []) [0, 1, 2] κ7 (kN (a1 > (0 : Int)) <| hD g2 w2) (bS (κF a2 L3 L4) <| bR <| bR <| bE)
   ·
    exact fxC (Zh (oq [3, 6, 9, 10, 15]) [] [] [] []) [0, 1, 2] κ7 (kZ ((a0 == (2 : Int)) && ((a1 == (0 : Int)) && true)) <| kE a1 (0 : Int) w2) (bS (κF a2 L3 L4) <| bR <| bR <| bE)
 ·
  exact fxC (Zh (oq [2]) [] [] [] []) [0, 1, 2] κ7 (kN (a2 > (0 : Int)) Zs) (bS (κF a2 L3 L4) <| bR <| bR <| bE)

theorem Zg7 (a0 a1 a2 : Int) (L3 : List RJ) (L4 : List RH) (N : Nat) (r : ZW) (h : Zab a0 a1 a2 L3 L4 N = some r) : LSpec Tryz.prog 21 #[vp 0 0, Value.agg #[vi a0, vi a1]] [.cells (κF a2 L3 L4) 154, .cells (Zc RD L3) 57, .cells (Zc RB L4) 42] (Zfd a0 a1 a2 L3 L4 r) (ZeJ a0 a1 a2 L3 L4 r) :=
 ZaB ZaW Tryz.func21 (by kernel_rfl) (by kernel_rfl) (fun r => by cases r <;> exact ZaP _ rfl) (ZhE a0 a1 a2 L3 L4 N) h

noncomputable def Z4 {a0 : Int} {a1 : Int} {a2 : Int} {L3 : List RJ} {L4 : List RH} {w2 : Int} {w3 : Int} {w4 : Int} {w5 : Int} {w6 : Int} {w7 : Bool} {N : Nat} (h : Zab a0 a1 a2 L3 L4 N = some (.r0 w2 w3 w4 w5 w6 w7)) (ks : List Nat) (n : Nat) : ToldS := ⟨#[vp (nth ks 0) 0, Value.agg #[vi a0, vi a1]], [((nth ks 0), .cells [vi a2, vs (nth ks 1) 0 L3.length L3.length, vs (nth ks 2) 0 L4.length L4.length, vn, vn, vn, vn, vn, vn, vn, vn, vn, vn, vn, vn, vn, vn, vn, vn, vn] 154), ((nth ks 1), .cells (Zc RD L3) 57), ((nth ks 2), .cells (Zc RB L4) 42)], Value.tuple #[Value.agg #[vi w2, vi w3, vi w4, vi w5, vi w6], Value.bool w7], [], 0⟩

theorem Zaq {a0 : Int} {a1 : Int} {a2 : Int} {L3 : List RJ} {L4 : List RH} {w2 : Int} {w3 : Int} {w4 : Int} {w5 : Int} {w6 : Int} {w7 : Bool} {N : Nat} (h : Zab a0 a1 a2 L3 L4 N = some (.r0 w2 w3 w4 w5 w6 w7)) (ks : List Nat) (n : Nat) (hk : ks.length = 3 := by rfl) (hnd : ks.Nodup := by decide +kernel) (hlt : ∀ k ∈ ks, k < n := by decide +kernel) : (Z4 (N := N)  h ks n).P Tryz.prog 21 n :=
 match ks, hk, hnd, hlt with
 | [k0, k1, k2], _, hnd, hlt => ZaT (show LSpec Tryz.prog 21 #[vp 0 0, Value.agg #[vi a0, vi a1]] [.cells (κF a2 L3 L4) 154, .cells (Zc RD L3) 57, .cells (Zc RB L4) 42] (Value.tuple #[Value.agg #[vi w2, vi w3, vi w4, vi w5, vi w6], Value.bool w7]) [some (.cells (κF a2 L3 L4) 154), some (.cells (Zc RD L3) 57), some (.cells (Zc RB L4) 42)] from Zg7 a0 a1 a2 L3 L4 N _ h) _ n [] hnd hlt

end Ev
end Go.Proofs.YtiijipocjellpaaGreat
namespace Go.Proofs.YtiijipocjellpaaGreat
open Go.IntKind (i64)
open Go.RowKit
namespace Ev
set_option linter.unusedVariables false
set_option maxRecDepth 100000
set_option maxHeartbeats 4000000
noncomputable def Zfe (a0 a1 a2 a3 : Int) (L4 : List RJ) (L5 : List RH) : ZE → Value
 | .r0 w2 w3 w4 => Value.tuple #[Value.agg #[vi w2, vi w3], vi w4]
noncomputable abbrev κz (a3 : Int) (L4 : List RJ) (L5 : List RH) := [vi a3, vs 1 0 L4.length L4.length, vs 2 0 L5.length L5.length, vn, vn, vn, vn, vn, vn, vn, vn, vn, vn, vn, vn, vn, vn, vn, vn, vn]
noncomputable def ZeK (a0 a1 a2 a3 : Int) (L4 : List RJ) (L5 : List RH) : ZE → List (Option AObj)
 | .r0 w2 w3 w4 => [some (.cells (κz a3 L4 L5) 154), some (.cells (Zc RD L4) 57), some (.cells (Zc RB L5) 42)]

noncomputable abbrev κbt := (Value.tuple #[Value.agg #[vq, vq], vi (10 : Int)])
theorem ZhF (a0 a1 a2 a3 : Int) (L4 : List RJ) (L5 : List RH) (N : Nat) : Fx Tryz.prog Zaa Tryz.f22 [.cells (κz a3 L4 L5) 154, .cells (Zc RD L4) 57, .cells (Zc RB L5) 42] #[vp 0 0, Value.agg #[vi a0, vi a1], vi a2] (Zfe a0 a1 a2 a3 L4 L5) (ZeK a0 a1 a2 a3 L4 L5) (Zal a0 a1 a2 a3 L4 L5 N) := by
 unfold Zal
 refine Zd (fun g0 => ?_) (fun g0 => ?_)
 ·
  have w1 := kY (a3 > (0 : Int)) Zs
  refine Zd (fun g1 => ?_) (fun g1 => ?_)
  ·
   exact fxC (Zh (oq [3, 7]) [] [] [] []) [0, 1, 2] κbt (hD g1 w1) (bS (κz a3 L4 L5) <| bR <| bR <| bE)
  ·
   have w2 := kT a0 (2 : Int) <| kE a0 (2 : Int) w1
   refine Zd (fun g2 => ?_) (fun g2 => ?_)
   ·
    refine Zd (fun g3 => ?_) (fun g3 => ?_)
    ·
     have w4 := kY (a1 > (0 : Int)) <| hD g2 w2
     refine Zd (fun g4 => ?_) (fun _ => Zw)
     have w5 := kM a1 (1048576 : Int) <| kV a1 (1048576 : Int) w4
     refine Zd (fun g5 => ?_) (fun g5 => ?_)
     ·
      have w6 := kY ((a1 / (1048576 : Int)) ≥ (1 : Int)) w5
      refine Zd (fun g6 => ?_) (fun g6 => ?_)
      ·
       refine Zd (fun g7 => ?_) (fun g7 => ?_)
       ·
        have w8 := kM a1 (1048576 : Int) <| kY ((a1 % (1048576 : Int)) ≤ (1048575 : Int)) <| kY ((a1 % (1048576 : Int)) ≥ (1 : Int)) <| hY g6 <| kY ((a1 / (1048576 : Int)) ≥ (1 : Int)) <| kM a1 (1048576 : Int) <| kV a1 (1048576 : Int) <| kY (a1 > (0 : Int)) <| kE a0 (2 : Int) <| kO ((a0 == (2 : Int)) && ((a1 == (0 : Int)) && true)) <| kY ((a1 % (1048576 : Int)) ≤ (1048575 : Int)) <| kY ((a1 % (1048576 : Int)) ≥ (1 : Int)) <| hY g6 w6
        refine Zd (fun g8 => ?_) (fun g8 => ?_)
        ·
         exact fxC (Zh (oq [3, 6, 9, 11, 13, 15, 17, 19, 21, 26, 28, 31, 33, 35, 37, 39, 43]) [(0, (a1 / (1048576 : Int))), (1, (a1 % (1048576 : Int))), (2, (a1 / (1048576 : Int))), (3, (a1 % (1048576 : Int))), (4, (a1 % (1048576 : Int)))] [] [] []) [0, 1, 2] (Value.tuple #[Value.agg #[vq, vq], vi (21 : Int)]) (kY ((a1 % (1048576 : Int)) > (L4.length : Int)) w8) (bS (κz a3 L4 L5) <| bR <| bR <| bE)
        ·
         have w9 := kV a1 (1048576 : Int) <| kY ((a1 % (1048576 : Int)) ≤ (1048575 : Int)) <| kY ((a1 % (1048576 : Int)) ≥ (1 : Int)) <| hY g6 <| kY ((a1 / (1048576 : Int)) ≥ (1 : Int)) <| kM a1 (1048576 : Int) <| kV a1 (1048576 : Int) <| kY (a1 > (0 : Int)) <| kE a0 (2 : Int) <| kL RD L4 ((((a1 % (1048576 : Int)) - (1 : Int))).toNat) 0 1 <| kB (((a1 % (1048576 : Int)) - (1 : Int))).toNat L4.length <| kI ((a1 % (1048576 : Int)) - (1 : Int)) (Int.ofNat (((a1 % (1048576 : Int)) - (1 : Int))).toNat) <| kW ((a1 % (1048576 : Int)) - (1 : Int)) ((a1 % (1048576 : Int)) - (1 : Int)) <| kN ((a1 % (1048576 : Int)) > (L4.length : Int)) w8
         refine Zd (fun g9 => ?_) (fun g9 => ?_)
         ·
          exact fxC (Zh (oq [3, 6, 9, 11, 13, 15, 17, 19, 21, 26, 28, 31, 33, 35, 37, 39, 42, 44, 47, 49, 51, 53, 55, 59]) [(0, (a1 / (1048576 : Int))), (1, (a1 % (1048576 : Int))), (2, (a1 / (1048576 : Int))), (3, (a1 % (1048576 : Int))), (4, (a1 % (1048576 : Int))), (5, ((a1 % (1048576 : Int)) - (1 : Int))), (6, (a1 / (1048576 : Int))), (7, (a1 % (1048576 : Int))), (8, (a1 / (1048576 : Int)))] [(0, (((a1 % (1048576 : Int)) - (1 : Int))).toNat)] [(16, [.i (L4.getD (((a1 % (1048576 : Int)) - (1 : Int))).toNat RJ.z).a0])] []) [0, 1, 2] (Value.tuple #[Value.agg #[vq, vq], vi (21 : Int)]) (hD g9 w9) (bS (κz a3 L4 L5) <| bR <| bR <| bE)
         ·
          have w10 := kL RD L4 ((((a1 % (1048576 : Int)) - (1 : Int))).toNat) 3 1 <| kE ((L4.getD (((a1 % (1048576 : Int)) - (1 : Int))).toNat RJ.z).a0) (a1 / (1048576 : Int)) w9
          refine Zd (fun g10 => ?_) (fun g10 => ?_)
          ·
           exact fxC (Zh (oq [3, 6, 9, 11, 13, 15, 17, 19, 21, 26, 28, 31, 33, 35, 37, 39, 42, 44, 47, 49, 51, 53, 55, 58, 61]) [(0, (a1 / (1048576 : Int))), (1, (a1 % (1048576 : Int))), (2, (a1 / (1048576 : Int))), (3, (a1 % (1048576 : Int))), (4, (a1 % (1048576 : Int))), (5, ((a1 % (1048576 : Int)) - (1 : Int))), (6, (a1 / (1048576 : Int))), (7, (a1 % (1048576 : Int))), (8, (a1 / (1048576 : Int)))] [(0, (((a1 % (1048576 : Int)) - (1 : Int))).toNat)] [(16, [.i (L4.getD (((a1 % (1048576 : Int)) - (1 : Int))).toNat RJ.z).a0]), (21, [.i (L4.getD (((a1 % (1048576 : Int)) - (1 : Int))).toNat RJ.z).a3])] []) [0, 1, 2] (Value.tuple #[Value.agg #[vq, vq], vi (21 : Int)]) (hT g10 w10) (bS (κz a3 L4 L5) <| bR <| bR <| bE)
          ·
           refine Zd (fun g11 => ?_) (fun g11 => ?_)
           ·
            exact fxC (Zh (oq [3, 6, 9, 11, 13, 15, 17, 19, 21, 26, 28, 31, 33, 35, 37, 39, 42, 44, 47, 49, 51, 53, 55, 58, 60, 65]) [(0, (a1 / (1048576 : Int))), (1, (a1 % (1048576 : Int))), (2, (a1 / (1048576 : Int))), (3, (a1 % (1048576 : Int))), (4, (a1 % (1048576 : Int))), (5, ((a1 % (1048576 : Int)) - (1 : Int))), (6, (a1 / (1048576 : Int))), (7, (a1 % (1048576 : Int))), (8, (a1 / (1048576 : Int)))] [(0, (((a1 % (1048576 : Int)) - (1 : Int))).toNat)] [(16, [.i (L4.getD (((a1 % (1048576 : Int)) - (1 : Int))).toNat RJ.z).a0]), (21, [.i (L4.getD (((a1 % (1048576 : Int)) - (1 : Int))).toNat RJ.z).a3])] []) [0, 1, 2] (Value.tuple #[Value.agg #[vq, vq], vi (22 : Int)]) (hY g11 <| hF g10 w10) (bS (κz a3 L4 L5) <| bR <| bR <| bE)
           ·
            have w12 := kL RD L4 ((((a1 % (1048576 : Int)) - (1 : Int))).toNat) 1 1 <| kB (((a1 % (1048576 : Int)) - (1 : Int))).toNat L4.length <| kI ((a1 % (1048576 : Int)) - (1 : Int)) (Int.ofNat (((a1 % (1048576 : Int)) - (1 : Int))).toNat) <| kW ((a1 % (1048576 : Int)) - (1 : Int)) ((a1 % (1048576 : Int)) - (1 : Int)) <| hN g11 <| hF g10 w10
            refine Zd (fun g12 => ?_) (fun g12 => ?_)
            ·
             exact fxC (Zh (oq [3, 6, 9, 11, 13, 15, 17, 19, 21, 26, 28, 31, 33, 35, 37, 39, 42, 44, 47, 49, 51, 53, 55, 58, 60, 64, 67]) [(0, (a1 / (1048576 : Int))), (1, (a1 % (1048576 : Int))), (2, (a1 / (1048576 : Int))), (3, (a1 % (1048576 : Int))), (4, (a1 % (1048576 : Int))), (5, ((a1 % (1048576 : Int)) - (1 : Int))), (6, (a1 / (1048576 : Int))), (7, (a1 % (1048576 : Int))), (8, (a1 / (1048576 : Int))), (9, ((a1 % (1048576 : Int)) - (1 : Int)))] [(0, (((a1 % (1048576 : Int)) - (1 : Int))).toNat), (1, (((a1 % (1048576 : Int)) - (1 : Int))).toNat)] [(16, [.i (L4.getD (((a1 % (1048576 : Int)) - (1 : Int))).toNat RJ.z).a0]), (21, [.i (L4.getD (((a1 % (1048576 : Int)) - (1 : Int))).toNat RJ.z).a3]), (23, [.i (L4.getD (((a1 % (1048576 : Int)) - (1 : Int))).toNat RJ.z).a1])] []) [0, 1, 2] (Value.tuple #[Value.agg #[vq, vq], vi (22 : Int)]) (kY (a2 ≥ (L4.getD (((a1 % (1048576 : Int)) - (1 : Int))).toNat RJ.z).a1) w12) (bS (κz a3 L4 L5) <| bR <| bR <| bE)
            ·
             refine Zd (fun g13 => ?_) (fun _ => Zw)
             refine Zd (fun g14 => ?_) (fun _ => Zw)
             exact fxC (Zh (oq [3, 6, 9, 11, 13, 15, 17, 19, 21, 26, 28, 31, 33, 35, 37, 39, 42, 44, 47, 49, 51, 53, 55, 58, 60, 64, 66]) [(0, (a1 / (1048576 : Int))), (1, (a1 % (1048576 : Int))), (2, (a1 / (1048576 : Int))), (3, (a1 % (1048576 : Int))), (4, (a1 % (1048576 : Int))), (5, ((a1 % (1048576 : Int)) - (1 : Int))), (6, (a1 / (1048576 : Int))), (7, (a1 % (1048576 : Int))), (8, (a1 / (1048576 : Int))), (9, ((a1 % (1048576 : Int)) - (1 : Int)))] [(0, (((a1 % (1048576 : Int)) - (1 : Int))).toNat), (1, (((a1 % (1048576 : Int)) - (1 : Int))).toNat), (2, ((i64.wrap ((a1 % (1048576 : Int)) + a2))).toNat)] [(16, [.i (L4.getD (((a1 % (1048576 : Int)) - (1 : Int))).toNat RJ.z).a0]), (21, [.i (L4.getD (((a1 % (1048576 : Int)) - (1 : Int))).toNat RJ.z).a3]), (23, [.i (L4.getD (((a1 % (1048576 : Int)) - (1 : Int))).toNat RJ.z).a1]), (25, (RB.cel (L5.getD ((i64.wrap ((a1 % (1048576 : Int)) + a2))).toNat RH.z)))] []) [0, 1, 2] (Value.tuple #[Value.agg #[vi (L5.getD ((i64.wrap ((a1 % (1048576 : Int)) + a2))).toNat RH.z).a0, vi (L5.getD ((i64.wrap ((a1 % (1048576 : Int)) + a2))).toNat RH.z).a1], vq]) (kLn RB L5 (((i64.wrap ((a1 % (1048576 : Int)) + a2))).toNat) 0 2 <| kB ((i64.wrap ((a1 % (1048576 : Int)) + a2))).toNat L5.length <| kI (i64.wrap ((a1 % (1048576 : Int)) + a2)) (Int.ofNat ((i64.wrap ((a1 % (1048576 : Int)) + a2))).toNat) <| kN (a2 ≥ (L4.getD (((a1 % (1048576 : Int)) - (1 : Int))).toNat RJ.z).a1) w12) (bS (κz a3 L4 L5) <| bR <| bR <| bE)
       ·
        exact fxC (Zh (oq [3, 6, 9, 11, 13, 15, 17, 18]) [(0, (a1 / (1048576 : Int))), (1, (a1 % (1048576 : Int)))] [] [] []) [0, 1, 2] κbt (kN ((a1 % (1048576 : Int)) ≥ (1 : Int)) <| hY g6 w6) (bS (κz a3 L4 L5) <| bR <| bR <| bE)
      ·
       exact fxC (Zh (oq [3, 6, 9, 11, 13, 15, 16]) [(0, (a1 / (1048576 : Int))), (1, (a1 % (1048576 : Int)))] [] [] []) [0, 1, 2] κbt (hN g6 w6) (bS (κz a3 L4 L5) <| bR <| bR <| bE)
     ·
      exact fxC (Zh (oq [3, 6, 9, 11, 13, 14]) [(0, (a1 / (1048576 : Int))), (1, (a1 % (1048576 : Int)))] [] [] []) [0, 1, 2] κbt (kN ((a1 / (1048576 : Int)) ≥ (1 : Int)) w5) (bS (κz a3 L4 L5) <| bR <| bR <| bE)
    ·
     exact fxC (Zh (oq [3, 6, 9, 11, 12]) [] [] [] []) [0, 1, 2] κbt (kN (a1 > (0 : Int)) <| hD g2 w2) (bS (κz a3 L4 L5) <| bR <| bR <| bE)
   ·
    exact fxC (Zh (oq [3, 6, 9, 10, 15]) [] [] [] []) [0, 1, 2] (Value.tuple #[Value.agg #[vq, vq], vi (11 : Int)]) (kZ ((a0 == (2 : Int)) && ((a1 == (0 : Int)) && true)) <| kE a1 (0 : Int) w2) (bS (κz a3 L4 L5) <| bR <| bR <| bE)
 ·
  exact fxC (Zh (oq [2]) [] [] [] []) [0, 1, 2] (Value.tuple #[Value.agg #[vq, vq], vi (4 : Int)]) (kN (a3 > (0 : Int)) Zs) (bS (κz a3 L4 L5) <| bR <| bR <| bE)

theorem Zg8 (a0 a1 a2 a3 : Int) (L4 : List RJ) (L5 : List RH) (N : Nat) (r : ZE) (h : Zal a0 a1 a2 a3 L4 L5 N = some r) : LSpec Tryz.prog 22 #[vp 0 0, Value.agg #[vi a0, vi a1], vi a2] [.cells (κz a3 L4 L5) 154, .cells (Zc RD L4) 57, .cells (Zc RB L5) 42] (Zfe a0 a1 a2 a3 L4 L5 r) (ZeK a0 a1 a2 a3 L4 L5 r) :=
 ZaB ZaW Tryz.func22 (by kernel_rfl) (by kernel_rfl) (fun r => by cases r <;> exact ZaP _ rfl) (ZhF a0 a1 a2 a3 L4 L5 N) h

noncomputable def Zy {a0 : Int} {a1 : Int} {a2 : Int} {a3 : Int} {L4 : List RJ} {L5 : List RH} {w2 : Int} {w3 : Int} {w4 : Int} {N : Nat} (h : Zal a0 a1 a2 a3 L4 L5 N = some (.r0 w2 w3 w4)) (ks : List Nat) (n : Nat) : ToldS := ⟨#[vp (nth ks 0) 0, Value.agg #[vi a0, vi a1], vi a2], [((nth ks 0), .cells [vi a3, vs (nth ks 1) 0 L4.length L4.length, vs (nth ks 2) 0 L5.length L5.length, vn, vn, vn, vn, vn, vn, vn, vn, vn, vn, vn, vn, vn, vn, vn, vn, vn] 154), ((nth ks 1), .cells (Zc RD L4) 57), ((nth ks 2), .cells (Zc RB L5) 42)], Value.tuple #[Value.agg #[vi w2, vi w3], vi w4], [], 0⟩

theorem Zb5 {a0 : Int} {a1 : Int} {a2 : Int} {a3 : Int} {L4 : List RJ} {L5 : List RH} {w2 : Int} {w3 : Int} {w4 : Int} {N : Nat} (h : Zal a0 a1 a2 a3 L4 L5 N = some (.r0 w2 w3 w4)) (ks : List Nat) (n : Nat) (hk : ks.length = 3 := by rfl) (hnd : ks.Nodup := by decide +kernel) (hlt : ∀ k ∈ ks, k < n := by decide +kernel) : (Zy (N := N)  h ks n).P Tryz.prog 22 n :=
 match ks, hk, hnd, hlt with
 | [k0, k1, k2], _, hnd, hlt => ZaT (show LSpec Tryz.prog 22 #[vp 0 0, Value.agg #[vi a0, vi a1], vi a2] [.cells (κz a3 L4 L5) 154, .cells (Zc RD L4) 57, .cells (Zc RB L5) 42] (Value.tuple #[Value.agg #[vi w2, vi w3], vi w4]) [some (.cells (κz a3 L4 L5) 154), some (.cells (Zc RD L4) 57), some (.cells (Zc RB L5) 42)] from Zg8 a0 a1 a2 a3 L4 L5 N _ h) _ n [] hnd hlt

end Ev
end Go.Proofs.YtiijipocjellpaaGreat
namespace Go.Proofs.YtiijipocjellpaaGreat
open Go.RowKit
namespace Ev
set_option linter.unusedVariables false
set_option maxRecDepth 100000
set_option maxHeartbeats 4000000
noncomputable def ZeL (a0 a1 a2 a3 a4 a5 : Int) (L6 : List RJ) (L7 : List RH) : Zv → Value
 | .r0 w1 w2 => vi w2
noncomputable def Zed (a0 a1 a2 a3 a4 a5 : Int) (L6 : List RJ) (L7 : List RH) : Zv → List (Option AObj)
 | .r0 w1 w2 => [some (.cells [vi a5, vs 1 0 L6.length L6.length, vs 2 0 w1.length w1.length, vn, vn, vn, vn, vn, vn, vn, vn, vn, vn, vn, vn, vn, vn, vn, vn, vn] 154), some (.cells (Zc RD L6) 57), some (.cells (Zc RB w1) 42)]

noncomputable abbrev κl (a5 : Int) (L6 : List RJ) (L7 : List RH) := [vi a5, vs 1 0 L6.length L6.length, vs 2 0 L7.length L7.length, vn, vn, vn, vn, vn, vn, vn, vn, vn, vn, vn, vn, vn, vn, vn, vn, vn]
theorem Zho (a0 a1 a2 a3 a4 a5 : Int) (L6 : List RJ) (L7 : List RH) (N : Nat) : Fx Tryz.prog Zaa Tryz.f99 [.cells (κl a5 L6 L7) 154, .cells (Zc RD L6) 57, .cells (Zc RB L7) 42] #[vp 0 0, Value.agg #[vi a0, vi a1], vi a2, Value.agg #[vi a3, vi a4]] (ZeL a0 a1 a2 a3 a4 a5 L6 L7) (Zed a0 a1 a2 a3 a4 a5 L6 L7) (Za1 a0 a1 a2 a3 a4 a5 L6 L7 N) := by
 unfold Za1
 refine Zd (fun g0 => ?_) (fun g0 => ?_)
 ·
  have w1 := kY (a5 > (0 : Int)) Zs
  refine Zd (fun g1 => ?_) (fun g1 => ?_)
  ·
   exact fxC (Zh (oq [3, 7]) [] [] [] []) [0, 1, 2] (vi (10 : Int)) (hD g1 w1) (bS (κl a5 L6 L7) <| bR <| bR <| bE)
  ·
   have w2 := kT a0 (2 : Int) <| kE a0 (2 : Int) w1
   refine Zd (fun g2 => ?_) (fun g2 => ?_)
   ·
    refine Zd (fun g3 => ?_) (fun g3 => ?_)
    ·
     have w4 := kY (a1 > (0 : Int)) <| hD g2 w2
     refine Zd (fun g4 => ?_) (fun _ => Zw)
     have w5 := kM a1 (1048576 : Int) <| kV a1 (1048576 : Int) w4
     refine Zd (fun g5 => ?_) (fun g5 => ?_)
     ·
      have w6 := kY ((a1 / (1048576 : Int)) ≥ (1 : Int)) w5
      refine Zd (fun g6 => ?_) (fun g6 => ?_)
      ·
       refine Zd (fun g7 => ?_) (fun g7 => ?_)
       ·
        have w8 := kM a1 (1048576 : Int) <| kY ((a1 % (1048576 : Int)) ≤ (1048575 : Int)) <| kY ((a1 % (1048576 : Int)) ≥ (1 : Int)) <| hY g6 <| kY ((a1 / (1048576 : Int)) ≥ (1 : Int)) <| kM a1 (1048576 : Int) <| kV a1 (1048576 : Int) <| kY (a1 > (0 : Int)) <| kE a0 (2 : Int) <| kO ((a0 == (2 : Int)) && ((a1 == (0 : Int)) && true)) <| kY ((a1 % (1048576 : Int)) ≤ (1048575 : Int)) <| kY ((a1 % (1048576 : Int)) ≥ (1 : Int)) <| hY g6 w6
        refine Zd (fun g8 => ?_) (fun g8 => ?_)
        ·
         exact fxC (Zh (oq [3, 6, 9, 11, 13, 15, 17, 19, 21, 26, 28, 31, 33, 35, 37, 39, 43]) [(0, (a1 / (1048576 : Int))), (1, (a1 % (1048576 : Int))), (2, (a1 / (1048576 : Int))), (3, (a1 % (1048576 : Int))), (4, (a1 % (1048576 : Int)))] [] [] []) [0, 1, 2] (vi (21 : Int)) (kY ((a1 % (1048576 : Int)) > (L6.length : Int)) w8) (bS (κl a5 L6 L7) <| bR <| bR <| bE)
        ·
         have w9 := kV a1 (1048576 : Int) <| kY ((a1 % (1048576 : Int)) ≤ (1048575 : Int)) <| kY ((a1 % (1048576 : Int)) ≥ (1 : Int)) <| hY g6 <| kY ((a1 / (1048576 : Int)) ≥ (1 : Int)) <| kM a1 (1048576 : Int) <| kV a1 (1048576 : Int) <| kY (a1 > (0 : Int)) <| kE a0 (2 : Int) <| kL RD L6 ((((a1 % (1048576 : Int)) - (1 : Int))).toNat) 0 1 <| kB (((a1 % (1048576 : Int)) - (1 : Int))).toNat L6.length <| kI ((a1 % (1048576 : Int)) - (1 : Int)) (Int.ofNat (((a1 % (1048576 : Int)) - (1 : Int))).toNat) <| kW ((a1 % (1048576 : Int)) - (1 : Int)) ((a1 % (1048576 : Int)) - (1 : Int)) <| kN ((a1 % (1048576 : Int)) > (L6.length : Int)) w8
         refine Zd (fun g9 => ?_) (fun g9 => ?_)
         ·
          exact fxC (Zh (oq [3, 6, 9, 11, 13, 15, 17, 19, 21, 26, 28, 31, 33, 35, 37, 39, 42, 44, 47, 49, 51, 53, 55, 59]) [(0, (a1 / (1048576 : Int))), (1, (a1 % (1048576 : Int))), (2, (a1 / (1048576 : Int))), (3, (a1 % (1048576 : Int))), (4, (a1 % (1048576 : Int))), (5, ((a1 % (1048576 : Int)) - (1 : Int))), (6, (a1 / (1048576 : Int))), (7, (a1 % (1048576 : Int))), (8, (a1 / (1048576 : Int)))] [(0, (((a1 % (1048576 : Int)) - (1 : Int))).toNat)] [(16, [.i (L6.getD (((a1 % (1048576 : Int)) - (1 : Int))).toNat RJ.z).a0])] []) [0, 1, 2] (vi (21 : Int)) (hD g9 w9) (bS (κl a5 L6 L7) <| bR <| bR <| bE)
         ·
          have w10 := kL RD L6 ((((a1 % (1048576 : Int)) - (1 : Int))).toNat) 3 1 <| kE ((L6.getD (((a1 % (1048576 : Int)) - (1 : Int))).toNat RJ.z).a0) (a1 / (1048576 : Int)) w9
          refine Zd (fun g10 => ?_) (fun g10 => ?_)
          ·
           exact fxC (Zh (oq [3, 6, 9, 11, 13, 15, 17, 19, 21, 26, 28, 31, 33, 35, 37, 39, 42, 44, 47, 49, 51, 53, 55, 58, 61]) [(0, (a1 / (1048576 : Int))), (1, (a1 % (1048576 : Int))), (2, (a1 / (1048576 : Int))), (3, (a1 % (1048576 : Int))), (4, (a1 % (1048576 : Int))), (5, ((a1 % (1048576 : Int)) - (1 : Int))), (6, (a1 / (1048576 : Int))), (7, (a1 % (1048576 : Int))), (8, (a1 / (1048576 : Int)))] [(0, (((a1 % (1048576 : Int)) - (1 : Int))).toNat)] [(16, [.i (L6.getD (((a1 % (1048576 : Int)) - (1 : Int))).toNat RJ.z).a0]), (21, [.i (L6.getD (((a1 % (1048576 : Int)) - (1 : Int))).toNat RJ.z).a3])] []) [0, 1, 2] (vi (21 : Int)) (hT g10 w10) (bS (κl a5 L6 L7) <| bR <| bR <| bE)
          ·
           refine Zd (fun g11 => ?_) (fun g11 => ?_)
           ·
            exact fxC (Zh (oq [3, 6, 9, 11, 13, 15, 17, 19, 21, 26, 28, 31, 33, 35, 37, 39, 42, 44, 47, 49, 51, 53, 55, 58, 60, 65]) [(0, (a1 / (1048576 : Int))), (1, (a1 % (1048576 : Int))), (2, (a1 / (1048576 : Int))), (3, (a1 % (1048576 : Int))), (4, (a1 % (1048576 : Int))), (5, ((a1 % (1048576 : Int)) - (1 : Int))), (6, (a1 / (1048576 : Int))), (7, (a1 % (1048576 : Int))), (8, (a1 / (1048576 : Int)))] [(0, (((a1 % (1048576 : Int)) - (1 : Int))).toNat)] [(16, [.i (L6.getD (((a1 % (1048576 : Int)) - (1 : Int))).toNat RJ.z).a0]), (21, [.i (L6.getD (((a1 % (1048576 : Int)) - (1 : Int))).toNat RJ.z).a3])] []) [0, 1, 2] (vi (22 : Int)) (hY g11 <| hF g10 w10) (bS (κl a5 L6 L7) <| bR <| bR <| bE)
           ·
            have w12 := kL RD L6 ((((a1 % (1048576 : Int)) - (1 : Int))).toNat) 1 1 <| kB (((a1 % (1048576 : Int)) - (1 : Int))).toNat L6.length <| kI ((a1 % (1048576 : Int)) - (1 : Int)) (Int.ofNat (((a1 % (1048576 : Int)) - (1 : Int))).toNat) <| kW ((a1 % (1048576 : Int)) - (1 : Int)) ((a1 % (1048576 : Int)) - (1 : Int)) <| hN g11 <| hF g10 w10
            refine Zd (fun g12 => ?_) (fun g12 => ?_)
            ·
             exact fxC (Zh (oq [3, 6, 9, 11, 13, 15, 17, 19, 21, 26, 28, 31, 33, 35, 37, 39, 42, 44, 47, 49, 51, 53, 55, 58, 60, 64, 67]) [(0, (a1 / (1048576 : Int))), (1, (a1 % (1048576 : Int))), (2, (a1 / (1048576 : Int))), (3, (a1 % (1048576 : Int))), (4, (a1 % (1048576 : Int))), (5, ((a1 % (1048576 : Int)) - (1 : Int))), (6, (a1 / (1048576 : Int))), (7, (a1 % (1048576 : Int))), (8, (a1 / (1048576 : Int))), (9, ((a1 % (1048576 : Int)) - (1 : Int)))] [(0, (((a1 % (1048576 : Int)) - (1 : Int))).toNat), (1, (((a1 % (1048576 : Int)) - (1 : Int))).toNat)] [(16, [.i (L6.getD (((a1 % (1048576 : Int)) - (1 : Int))).toNat RJ.z).a0]), (21, [.i (L6.getD (((a1 % (1048576 : Int)) - (1 : Int))).toNat RJ.z).a3]), (23, [.i (L6.getD (((a1 % (1048576 : Int)) - (1 : Int))).toNat RJ.z).a1])] []) [0, 1, 2] (vi (22 : Int)) (kY (a2 ≥ (L6.getD (((a1 % (1048576 : Int)) - (1 : Int))).toNat RJ.z).a1) w12) (bS (κl a5 L6 L7) <| bR <| bR <| bE)
            ·
             have w13 := kL RD L6 ((((a1 % (1048576 : Int)) - (1 : Int))).toNat) 2 1 <| kB (((a1 % (1048576 : Int)) - (1 : Int))).toNat L6.length <| kI ((a1 % (1048576 : Int)) - (1 : Int)) (Int.ofNat (((a1 % (1048576 : Int)) - (1 : Int))).toNat) <| kW ((a1 % (1048576 : Int)) - (1 : Int)) ((a1 % (1048576 : Int)) - (1 : Int)) <| kN (a2 ≥ (L6.getD (((a1 % (1048576 : Int)) - (1 : Int))).toNat RJ.z).a1) w12
             refine Zd (fun g13 => ?_) (fun _ => Zw)
             have w14 := kX ((IntKind.i64.wrap (((BitVec.ofInt IntKind.i64.bits ((L6.getD (((a1 % (1048576 : Int)) - (1 : Int))).toNat RJ.z).a2 / (2 ^ (a2).toNat : Int)) &&& BitVec.ofInt IntKind.i64.bits (1 : Int)).toNat : Nat) : Int)) == (((L6.getD (((a1 % (1048576 : Int)) - (1 : Int))).toNat RJ.z).a2 / (2 ^ (a2).toNat : Int)) % (2 : Int))) true (beq_iff_eq.2 (Zpe _)) <| kS a2 ((a2).toNat) .i64 w13
             refine Zd (fun g14 => ?_) (fun g14 => ?_)
             ·
              refine Zd (fun g15 => ?_) (fun g15 => ?_)
              ·
               refine Zd (fun g16 => ?_) (fun g16 => ?_)
               ·
                have w17 := hD g16 <| hT g15 <| hT g14 w14
                refine Zd (fun g17 => ?_) (fun g17 => ?_)
                ·
                 refine Zd (fun g18 => ?_) (fun _ => Zw)
                 have w19 := kM a4 (1048576 : Int) <| kV a4 (1048576 : Int) <| kY (a4 > (0 : Int)) w17
                 refine Zd (fun g19 => ?_) (fun g19 => ?_)
                 ·
                  refine Zd (fun g20 => ?_) (fun g20 => ?_)
                  ·
                   refine Zd (fun g21 => ?_) (fun g21 => ?_)
                   ·
                    refine Zd (fun g22 => ?_) (fun _ => Zw)
                    exact fxC (Zh (oq [3, 6, 9, 11, 13, 15, 17, 19, 21, 26, 28, 31, 33, 35, 37, 39, 42, 44, 47, 49, 51, 53, 55, 58, 60, 64, 66, 71, 73, 75, 77, 79, 81, 83, 85, 91]) [(0, (a1 / (1048576 : Int))), (1, (a1 % (1048576 : Int))), (2, (a1 / (1048576 : Int))), (3, (a1 % (1048576 : Int))), (4, (a1 % (1048576 : Int))), (5, ((a1 % (1048576 : Int)) - (1 : Int))), (6, (a1 / (1048576 : Int))), (7, (a1 % (1048576 : Int))), (8, (a1 / (1048576 : Int))), (9, ((a1 % (1048576 : Int)) - (1 : Int))), (10, ((a1 % (1048576 : Int)) - (1 : Int))), (12, (((L6.getD (((a1 % (1048576 : Int)) - (1 : Int))).toNat RJ.z).a2 / (2 ^ (a2).toNat : Int)) % (2 : Int))), (13, (a4 / (1048576 : Int))), (14, (a4 % (1048576 : Int))), (15, ((a1 % (1048576 : Int)) + a2))] [(0, (((a1 % (1048576 : Int)) - (1 : Int))).toNat), (1, (((a1 % (1048576 : Int)) - (1 : Int))).toNat), (2, (((a1 % (1048576 : Int)) - (1 : Int))).toNat), (3, (((a1 % (1048576 : Int)) + a2)).toNat)] [(16, [.i (L6.getD (((a1 % (1048576 : Int)) - (1 : Int))).toNat RJ.z).a0]), (21, [.i (L6.getD (((a1 % (1048576 : Int)) - (1 : Int))).toNat RJ.z).a3]), (23, [.i (L6.getD (((a1 % (1048576 : Int)) - (1 : Int))).toNat RJ.z).a1]), (25, [.i (L6.getD (((a1 % (1048576 : Int)) - (1 : Int))).toNat RJ.z).a2])] [(5, .sh (a2).toNat), (7, .st (Zc RB (L7.set (((a1 % (1048576 : Int)) + a2)).toNat (⟨a3, a4⟩ : RH))))]) [0, 1, 2] (vq) (kC (ZT (E := RB) (L := L7) (i := (((a1 % (1048576 : Int)) + a2)).toNat) (q := 0) (l := [vi a3, vi a4]) (⟨a3, a4⟩ : RH) (by omega) (show (0 + ((((a1 % (1048576 : Int)) + a2)).toNat * 2)) = (((a1 % (1048576 : Int)) + a2)).toNat * 2 + 0 from by omega) (show 0 + 2 ≤ 2 from by decide) rfl) <| kB (((a1 % (1048576 : Int)) + a2)).toNat L7.length <| kI ((a1 % (1048576 : Int)) + a2) (Int.ofNat (((a1 % (1048576 : Int)) + a2)).toNat) <| kW ((a1 % (1048576 : Int)) + a2) ((a1 % (1048576 : Int)) + a2) <| hT g15 <| kY ((a4 % (1048576 : Int)) ≤ (1048575 : Int)) <| kY ((a4 % (1048576 : Int)) ≥ (1 : Int)) <| hY g20 <| kY ((a4 / (1048576 : Int)) ≥ (1 : Int)) w19) (bU (κl a5 L6 L7) 2 (show (vs 2 0 L7.length L7.length : Value) = vs 2 0 (L7.set (((a1 % (1048576 : Int)) + a2)).toNat (⟨a3, a4⟩ : RH)).length (L7.set (((a1 % (1048576 : Int)) + a2)).toNat (⟨a3, a4⟩ : RH)).length from ZN rfl eqA eqA) <| bR <| bR <| bE)
                   ·
                    exact fxC (Zh (oq [3, 6, 9, 11, 13, 15, 17, 19, 21, 26, 28, 31, 33, 35, 37, 39, 42, 44, 47, 49, 51, 53, 55, 58, 60, 64, 66, 71, 73, 75, 77, 79, 81, 82]) [(0, (a1 / (1048576 : Int))), (1, (a1 % (1048576 : Int))), (2, (a1 / (1048576 : Int))), (3, (a1 % (1048576 : Int))), (4, (a1 % (1048576 : Int))), (5, ((a1 % (1048576 : Int)) - (1 : Int))), (6, (a1 / (1048576 : Int))), (7, (a1 % (1048576 : Int))), (8, (a1 / (1048576 : Int))), (9, ((a1 % (1048576 : Int)) - (1 : Int))), (10, ((a1 % (1048576 : Int)) - (1 : Int))), (12, (((L6.getD (((a1 % (1048576 : Int)) - (1 : Int))).toNat RJ.z).a2 / (2 ^ (a2).toNat : Int)) % (2 : Int))), (13, (a4 / (1048576 : Int))), (14, (a4 % (1048576 : Int)))] [(0, (((a1 % (1048576 : Int)) - (1 : Int))).toNat), (1, (((a1 % (1048576 : Int)) - (1 : Int))).toNat), (2, (((a1 % (1048576 : Int)) - (1 : Int))).toNat)] [(16, [.i (L6.getD (((a1 % (1048576 : Int)) - (1 : Int))).toNat RJ.z).a0]), (21, [.i (L6.getD (((a1 % (1048576 : Int)) - (1 : Int))).toNat RJ.z).a3]), (23, [.i (L6.getD (((a1 % (1048576 : Int)) - (1 : Int))).toNat RJ.z).a1]), (25, [.i (L6.getD (((a1 % (1048576 : Int)) - (1 : Int))).toNat RJ.z).a2])] [(5, .sh (a2).toNat)]) [0, 1, 2] (vi (10 : Int)) (kN ((a4 % (1048576 : Int)) ≥ (1 : Int)) <| hY g20 <| kY ((a4 / (1048576 : Int)) ≥ (1 : Int)) w19) (bS (κl a5 L6 L7) <| bR <| bR <| bE)
                  ·
                   exact fxC (Zh (oq [3, 6, 9, 11, 13, 15, 17, 19, 21, 26, 28, 31, 33, 35, 37, 39, 42, 44, 47, 49, 51, 53, 55, 58, 60, 64, 66, 71, 73, 75, 77, 79, 80]) [(0, (a1 / (1048576 : Int))), (1, (a1 % (1048576 : Int))), (2, (a1 / (1048576 : Int))), (3, (a1 % (1048576 : Int))), (4, (a1 % (1048576 : Int))), (5, ((a1 % (1048576 : Int)) - (1 : Int))), (6, (a1 / (1048576 : Int))), (7, (a1 % (1048576 : Int))), (8, (a1 / (1048576 : Int))), (9, ((a1 % (1048576 : Int)) - (1 : Int))), (10, ((a1 % (1048576 : Int)) - (1 : Int))), (12, (((L6.getD (((a1 % (1048576 : Int)) - (1 : Int))).toNat RJ.z).a2 / (2 ^ (a2).toNat : Int)) % (2 : Int))), (13, (a4 / (1048576 : Int))), (14, (a4 % (1048576 : Int)))] [(0, (((a1 % (1048576 : Int)) - (1 : Int))).toNat), (1, (((a1 % (1048576 : Int)) - (1 : Int))).toNat), (2, (((a1 % (1048576 : Int)) - (1 : Int))).toNat)] [(16, [.i (L6.getD (((a1 % (1048576 : Int)) - (1 : Int))).toNat RJ.z).a0]), (21, [.i (L6.getD (((a1 % (1048576 : Int)) - (1 : Int))).toNat RJ.z).a3]), (23, [.i (L6.getD (((a1 % (1048576 : Int)) - (1 : Int))).toNat RJ.z).a1]), (25, [.i (L6.getD (((a1 % (1048576 : Int)) - (1 : Int))).toNat RJ.z).a2])] [(5, .sh (a2).toNat)]) [0, 1, 2] (vi (10 : Int)) (hN g20 <| kY ((a4 / (1048576 : Int)) ≥ (1 : Int)) w19) (bS (κl a5 L6 L7) <| bR <| bR <| bE)
                 ·
                  exact fxC (Zh (oq [3, 6, 9, 11, 13, 15, 17, 19, 21, 26, 28, 31, 33, 35, 37, 39, 42, 44, 47, 49, 51, 53, 55, 58, 60, 64, 66, 71, 73, 75, 77, 78]) [(0, (a1 / (1048576 : Int))), (1, (a1 % (1048576 : Int))), (2, (a1 / (1048576 : Int))), (3, (a1 % (1048576 : Int))), (4, (a1 % (1048576 : Int))), (5, ((a1 % (1048576 : Int)) - (1 : Int))), (6, (a1 / (1048576 : Int))), (7, (a1 % (1048576 : Int))), (8, (a1 / (1048576 : Int))), (9, ((a1 % (1048576 : Int)) - (1 : Int))), (10, ((a1 % (1048576 : Int)) - (1 : Int))), (12, (((L6.getD (((a1 % (1048576 : Int)) - (1 : Int))).toNat RJ.z).a2 / (2 ^ (a2).toNat : Int)) % (2 : Int))), (13, (a4 / (1048576 : Int))), (14, (a4 % (1048576 : Int)))] [(0, (((a1 % (1048576 : Int)) - (1 : Int))).toNat), (1, (((a1 % (1048576 : Int)) - (1 : Int))).toNat), (2, (((a1 % (1048576 : Int)) - (1 : Int))).toNat)] [(16, [.i (L6.getD (((a1 % (1048576 : Int)) - (1 : Int))).toNat RJ.z).a0]), (21, [.i (L6.getD (((a1 % (1048576 : Int)) - (1 : Int))).toNat RJ.z).a3]), (23, [.i (L6.getD (((a1 % (1048576 : Int)) - (1 : Int))).toNat RJ.z).a1]), (25, [.i (L6.getD (((a1 % (1048576 : Int)) - (1 : Int))).toNat RJ.z).a2])] [(5, .sh (a2).toNat)]) [0, 1, 2] (vi (10 : Int)) (kN ((a4 / (1048576 : Int)) ≥ (1 : Int)) w19) (bS (κl a5 L6 L7) <| bR <| bR <| bE)
                ·
                 exact fxC (Zh (oq [3, 6, 9, 11, 13, 15, 17, 19, 21, 26, 28, 31, 33, 35, 37, 39, 42, 44, 47, 49, 51, 53, 55, 58, 60, 64, 66, 71, 73, 75, 76]) [(0, (a1 / (1048576 : Int))), (1, (a1 % (1048576 : Int))), (2, (a1 / (1048576 : Int))), (3, (a1 % (1048576 : Int))), (4, (a1 % (1048576 : Int))), (5, ((a1 % (1048576 : Int)) - (1 : Int))), (6, (a1 / (1048576 : Int))), (7, (a1 % (1048576 : Int))), (8, (a1 / (1048576 : Int))), (9, ((a1 % (1048576 : Int)) - (1 : Int))), (10, ((a1 % (1048576 : Int)) - (1 : Int))), (12, (((L6.getD (((a1 % (1048576 : Int)) - (1 : Int))).toNat RJ.z).a2 / (2 ^ (a2).toNat : Int)) % (2 : Int)))] [(0, (((a1 % (1048576 : Int)) - (1 : Int))).toNat), (1, (((a1 % (1048576 : Int)) - (1 : Int))).toNat), (2, (((a1 % (1048576 : Int)) - (1 : Int))).toNat)] [(16, [.i (L6.getD (((a1 % (1048576 : Int)) - (1 : Int))).toNat RJ.z).a0]), (21, [.i (L6.getD (((a1 % (1048576 : Int)) - (1 : Int))).toNat RJ.z).a3]), (23, [.i (L6.getD (((a1 % (1048576 : Int)) - (1 : Int))).toNat RJ.z).a1]), (25, [.i (L6.getD (((a1 % (1048576 : Int)) - (1 : Int))).toNat RJ.z).a2])] [(5, .sh (a2).toNat)]) [0, 1, 2] (vi (10 : Int)) (kN (a4 > (0 : Int)) w17) (bS (κl a5 L6 L7) <| bR <| bR <| bE)
               ·
                refine Zd (fun g17 => ?_) (fun _ => Zw)
                exact fxC (Zh (oq [3, 6, 9, 11, 13, 15, 17, 19, 21, 26, 28, 31, 33, 35, 37, 39, 42, 44, 47, 49, 51, 53, 55, 58, 60, 64, 66, 71, 73, 74, 79]) [(0, (a1 / (1048576 : Int))), (1, (a1 % (1048576 : Int))), (2, (a1 / (1048576 : Int))), (3, (a1 % (1048576 : Int))), (4, (a1 % (1048576 : Int))), (5, ((a1 % (1048576 : Int)) - (1 : Int))), (6, (a1 / (1048576 : Int))), (7, (a1 % (1048576 : Int))), (8, (a1 / (1048576 : Int))), (9, ((a1 % (1048576 : Int)) - (1 : Int))), (10, ((a1 % (1048576 : Int)) - (1 : Int))), (12, (((L6.getD (((a1 % (1048576 : Int)) - (1 : Int))).toNat RJ.z).a2 / (2 ^ (a2).toNat : Int)) % (2 : Int))), (13, ((a1 % (1048576 : Int)) + a2))] [(0, (((a1 % (1048576 : Int)) - (1 : Int))).toNat), (1, (((a1 % (1048576 : Int)) - (1 : Int))).toNat), (2, (((a1 % (1048576 : Int)) - (1 : Int))).toNat), (3, (((a1 % (1048576 : Int)) + a2)).toNat)] [(16, [.i (L6.getD (((a1 % (1048576 : Int)) - (1 : Int))).toNat RJ.z).a0]), (21, [.i (L6.getD (((a1 % (1048576 : Int)) - (1 : Int))).toNat RJ.z).a3]), (23, [.i (L6.getD (((a1 % (1048576 : Int)) - (1 : Int))).toNat RJ.z).a1]), (25, [.i (L6.getD (((a1 % (1048576 : Int)) - (1 : Int))).toNat RJ.z).a2])] [(5, .sh (a2).toNat), (6, .st (Zc RB (L7.set (((a1 % (1048576 : Int)) + a2)).toNat (⟨a3, a4⟩ : RH))))]) [0, 1, 2] (vq) (kC (ZT (E := RB) (L := L7) (i := (((a1 % (1048576 : Int)) + a2)).toNat) (q := 0) (l := [vi a3, vi a4]) (⟨a3, a4⟩ : RH) (by omega) (show (0 + ((((a1 % (1048576 : Int)) + a2)).toNat * 2)) = (((a1 % (1048576 : Int)) + a2)).toNat * 2 + 0 from by omega) (show 0 + 2 ≤ 2 from by decide) rfl) <| kB (((a1 % (1048576 : Int)) + a2)).toNat L7.length <| kI ((a1 % (1048576 : Int)) + a2) (Int.ofNat (((a1 % (1048576 : Int)) + a2)).toNat) <| kW ((a1 % (1048576 : Int)) + a2) ((a1 % (1048576 : Int)) + a2) <| hT g15 <| kE a4 (0 : Int) <| hT g15 <| hT g14 w14) (bU (κl a5 L6 L7) 2 (show (vs 2 0 L7.length L7.length : Value) = vs 2 0 (L7.set (((a1 % (1048576 : Int)) + a2)).toNat (⟨a3, a4⟩ : RH)).length (L7.set (((a1 % (1048576 : Int)) + a2)).toNat (⟨a3, a4⟩ : RH)).length from ZN rfl eqA eqA) <| bR <| bR <| bE)
              ·
               by_cases g16 : a3 = (1 : Int)
               ·
                exact fxC (Zh (oq [3, 6, 9, 11, 13, 15, 17, 19, 21, 26, 28, 31, 33, 35, 37, 39, 42, 44, 47, 49, 51, 53, 55, 58, 60, 64, 66, 71, 72, 75, 78]) [(0, (a1 / (1048576 : Int))), (1, (a1 % (1048576 : Int))), (2, (a1 / (1048576 : Int))), (3, (a1 % (1048576 : Int))), (4, (a1 % (1048576 : Int))), (5, ((a1 % (1048576 : Int)) - (1 : Int))), (6, (a1 / (1048576 : Int))), (7, (a1 % (1048576 : Int))), (8, (a1 / (1048576 : Int))), (9, ((a1 % (1048576 : Int)) - (1 : Int))), (10, ((a1 % (1048576 : Int)) - (1 : Int))), (12, (((L6.getD (((a1 % (1048576 : Int)) - (1 : Int))).toNat RJ.z).a2 / (2 ^ (a2).toNat : Int)) % (2 : Int)))] [(0, (((a1 % (1048576 : Int)) - (1 : Int))).toNat), (1, (((a1 % (1048576 : Int)) - (1 : Int))).toNat), (2, (((a1 % (1048576 : Int)) - (1 : Int))).toNat)] [(16, [.i (L6.getD (((a1 % (1048576 : Int)) - (1 : Int))).toNat RJ.z).a0]), (21, [.i (L6.getD (((a1 % (1048576 : Int)) - (1 : Int))).toNat RJ.z).a3]), (23, [.i (L6.getD (((a1 % (1048576 : Int)) - (1 : Int))).toNat RJ.z).a1]), (25, [.i (L6.getD (((a1 % (1048576 : Int)) - (1 : Int))).toNat RJ.z).a2])] [(5, .sh (a2).toNat)]) [0, 1, 2] (vi (10 : Int)) (hF g15 <| hT g16 <| hF g15 <| hT g14 w14) (bS (κl a5 L6 L7) <| bR <| bR <| bE)
               ·
                exact fxC (Zh (oq [3, 6, 9, 11, 13, 15, 17, 19, 21, 26, 28, 31, 33, 35, 37, 39, 42, 44, 47, 49, 51, 53, 55, 58, 60, 64, 66, 71, 72, 74]) [(0, (a1 / (1048576 : Int))), (1, (a1 % (1048576 : Int))), (2, (a1 / (1048576 : Int))), (3, (a1 % (1048576 : Int))), (4, (a1 % (1048576 : Int))), (5, ((a1 % (1048576 : Int)) - (1 : Int))), (6, (a1 / (1048576 : Int))), (7, (a1 % (1048576 : Int))), (8, (a1 / (1048576 : Int))), (9, ((a1 % (1048576 : Int)) - (1 : Int))), (10, ((a1 % (1048576 : Int)) - (1 : Int))), (12, (((L6.getD (((a1 % (1048576 : Int)) - (1 : Int))).toNat RJ.z).a2 / (2 ^ (a2).toNat : Int)) % (2 : Int)))] [(0, (((a1 % (1048576 : Int)) - (1 : Int))).toNat), (1, (((a1 % (1048576 : Int)) - (1 : Int))).toNat), (2, (((a1 % (1048576 : Int)) - (1 : Int))).toNat)] [(16, [.i (L6.getD (((a1 % (1048576 : Int)) - (1 : Int))).toNat RJ.z).a0]), (21, [.i (L6.getD (((a1 % (1048576 : Int)) - (1 : Int))).toNat RJ.z).a3]), (23, [.i (L6.getD (((a1 % (1048576 : Int)) - (1 : Int))).toNat RJ.z).a1]), (25, [.i (L6.getD (((a1 % (1048576 : Int)) - (1 : Int))).toNat RJ.z).a2])] [(5, .sh (a2).toNat)]) [0, 1, 2] (vi (10 : Int)) (hF g16 <| hF g15 <| hT g14 w14) (bS (κl a5 L6 L7) <| bR <| bR <| bE)
             ·
              refine Zd (fun g15 => ?_) (fun g15 => ?_)
              ·
               refine Zd (fun g16 => ?_) (fun g16 => ?_)
               ·
                have w17 := hD g16 <| hT g15 <| hF g14 w14
                refine Zd (fun g17 => ?_) (fun g17 => ?_)
                ·
                 refine Zd (fun g18 => ?_) (fun _ => Zw)
                 have w19 := kM a4 (1048576 : Int) <| kV a4 (1048576 : Int) <| kY (a4 > (0 : Int)) w17
                 by_cases g19 : (1 : Int) ≤ (a4 / (1048576 : Int))
                 ·
                  by_cases g20 : (a4 / (1048576 : Int)) ≤ (1073741824 : Int)
                  ·
                   by_cases g21 : (1 : Int) ≤ (a4 % (1048576 : Int))
                   ·
                    exact fxC (Zh (oq [3, 6, 9, 11, 13, 15, 17, 19, 21, 26, 28, 31, 33, 35, 37, 39, 42, 44, 47, 49, 51, 53, 55, 58, 60, 64, 66, 70, 73, 75, 77, 79, 81, 83, 85, 91]) [(0, (a1 / (1048576 : Int))), (1, (a1 % (1048576 : Int))), (2, (a1 / (1048576 : Int))), (3, (a1 % (1048576 : Int))), (4, (a1 % (1048576 : Int))), (5, ((a1 % (1048576 : Int)) - (1 : Int))), (6, (a1 / (1048576 : Int))), (7, (a1 % (1048576 : Int))), (8, (a1 / (1048576 : Int))), (9, ((a1 % (1048576 : Int)) - (1 : Int))), (10, ((a1 % (1048576 : Int)) - (1 : Int))), (12, (((L6.getD (((a1 % (1048576 : Int)) - (1 : Int))).toNat RJ.z).a2 / (2 ^ (a2).toNat : Int)) % (2 : Int))), (13, (a4 / (1048576 : Int))), (14, (a4 % (1048576 : Int)))] [(0, (((a1 % (1048576 : Int)) - (1 : Int))).toNat), (1, (((a1 % (1048576 : Int)) - (1 : Int))).toNat), (2, (((a1 % (1048576 : Int)) - (1 : Int))).toNat)] [(16, [.i (L6.getD (((a1 % (1048576 : Int)) - (1 : Int))).toNat RJ.z).a0]), (21, [.i (L6.getD (((a1 % (1048576 : Int)) - (1 : Int))).toNat RJ.z).a3]), (23, [.i (L6.getD (((a1 % (1048576 : Int)) - (1 : Int))).toNat RJ.z).a1]), (25, [.i (L6.getD (((a1 % (1048576 : Int)) - (1 : Int))).toNat RJ.z).a2])] [(5, .sh (a2).toNat)]) [0, 1, 2] (vi (10 : Int)) (hT g15 <| kY ((a4 % (1048576 : Int)) ≤ (1048575 : Int)) <| kY ((a4 % (1048576 : Int)) ≥ (1 : Int)) <| hY g20 <| kY ((a4 / (1048576 : Int)) ≥ (1 : Int)) w19) (bS (κl a5 L6 L7) <| bR <| bR <| bE)
                   ·
                    exact fxC (Zh (oq [3, 6, 9, 11, 13, 15, 17, 19, 21, 26, 28, 31, 33, 35, 37, 39, 42, 44, 47, 49, 51, 53, 55, 58, 60, 64, 66, 70, 73, 75, 77, 79, 81, 82]) [(0, (a1 / (1048576 : Int))), (1, (a1 % (1048576 : Int))), (2, (a1 / (1048576 : Int))), (3, (a1 % (1048576 : Int))), (4, (a1 % (1048576 : Int))), (5, ((a1 % (1048576 : Int)) - (1 : Int))), (6, (a1 / (1048576 : Int))), (7, (a1 % (1048576 : Int))), (8, (a1 / (1048576 : Int))), (9, ((a1 % (1048576 : Int)) - (1 : Int))), (10, ((a1 % (1048576 : Int)) - (1 : Int))), (12, (((L6.getD (((a1 % (1048576 : Int)) - (1 : Int))).toNat RJ.z).a2 / (2 ^ (a2).toNat : Int)) % (2 : Int))), (13, (a4 / (1048576 : Int))), (14, (a4 % (1048576 : Int)))] [(0, (((a1 % (1048576 : Int)) - (1 : Int))).toNat), (1, (((a1 % (1048576 : Int)) - (1 : Int))).toNat), (2, (((a1 % (1048576 : Int)) - (1 : Int))).toNat)] [(16, [.i (L6.getD (((a1 % (1048576 : Int)) - (1 : Int))).toNat RJ.z).a0]), (21, [.i (L6.getD (((a1 % (1048576 : Int)) - (1 : Int))).toNat RJ.z).a3]), (23, [.i (L6.getD (((a1 % (1048576 : Int)) - (1 : Int))).toNat RJ.z).a1]), (25, [.i (L6.getD (((a1 % (1048576 : Int)) - (1 : Int))).toNat RJ.z).a2])] [(5, .sh (a2).toNat)]) [0, 1, 2] (vi (10 : Int)) (kN ((a4 % (1048576 : Int)) ≥ (1 : Int)) <| hY g20 <| kY ((a4 / (1048576 : Int)) ≥ (1 : Int)) w19) (bS (κl a5 L6 L7) <| bR <| bR <| bE)
                  ·
                   exact fxC (Zh (oq [3, 6, 9, 11, 13, 15, 17, 19, 21, 26, 28, 31, 33, 35, 37, 39, 42, 44, 47, 49, 51, 53, 55, 58, 60, 64, 66, 70, 73, 75, 77, 79, 80]) [(0, (a1 / (1048576 : Int))), (1, (a1 % (1048576 : Int))), (2, (a1 / (1048576 : Int))), (3, (a1 % (1048576 : Int))), (4, (a1 % (1048576 : Int))), (5, ((a1 % (1048576 : Int)) - (1 : Int))), (6, (a1 / (1048576 : Int))), (7, (a1 % (1048576 : Int))), (8, (a1 / (1048576 : Int))), (9, ((a1 % (1048576 : Int)) - (1 : Int))), (10, ((a1 % (1048576 : Int)) - (1 : Int))), (12, (((L6.getD (((a1 % (1048576 : Int)) - (1 : Int))).toNat RJ.z).a2 / (2 ^ (a2).toNat : Int)) % (2 : Int))), (13, (a4 / (1048576 : Int))), (14, (a4 % (1048576 : Int)))] [(0, (((a1 % (1048576 : Int)) - (1 : Int))).toNat), (1, (((a1 % (1048576 : Int)) - (1 : Int))).toNat), (2, (((a1 % (1048576 : Int)) - (1 : Int))).toNat)] [(16, [.i (L6.getD (((a1 % (1048576 : Int)) - (1 : Int))).toNat RJ.z).a0]), (21, [.i (L6.getD (((a1 % (1048576 : Int)) - (1 : Int))).toNat RJ.z).a3]), (23, [.i (L6.getD (((a1 % (1048576 : Int)) - (1 : Int))).toNat RJ.z).a1]), (25, [.i (L6.getD (((a1 % (1048576 : Int)) - (1 : Int))).toNat RJ.z).a2])] [(5, .sh (a2).toNat)]) [0, 1, 2] (vi (10 : Int)) (hN g20 <| kY ((a4 / (1048576 : Int)) ≥ (1 : Int)) w19) (bS (κl a5 L6 L7) <| bR <| bR <| bE)
                 ·
                  exact fxC (Zh (oq [3, 6, 9, 11, 13, 15, 17, 19, 21, 26, 28, 31, 33, 35, 37, 39, 42, 44, 47, 49, 51, 53, 55, 58, 60, 64, 66, 70, 73, 75, 77, 78]) [(0, (a1 / (1048576 : Int))), (1, (a1 % (1048576 : Int))), (2, (a1 / (1048576 : Int))), (3, (a1 % (1048576 : Int))), (4, (a1 % (1048576 : Int))), (5, ((a1 % (1048576 : Int)) - (1 : Int))), (6, (a1 / (1048576 : Int))), (7, (a1 % (1048576 : Int))), (8, (a1 / (1048576 : Int))), (9, ((a1 % (1048576 : Int)) - (1 : Int))), (10, ((a1 % (1048576 : Int)) - (1 : Int))), (12, (((L6.getD (((a1 % (1048576 : Int)) - (1 : Int))).toNat RJ.z).a2 / (2 ^ (a2).toNat : Int)) % (2 : Int))), (13, (a4 / (1048576 : Int))), (14, (a4 % (1048576 : Int)))] [(0, (((a1 % (1048576 : Int)) - (1 : Int))).toNat), (1, (((a1 % (1048576 : Int)) - (1 : Int))).toNat), (2, (((a1 % (1048576 : Int)) - (1 : Int))).toNat)] [(16, [.i (L6.getD (((a1 % (1048576 : Int)) - (1 : Int))).toNat RJ.z).a0]), (21, [.i (L6.getD (((a1 % (1048576 : Int)) - (1 : Int))).toNat RJ.z).a3]), (23, [.i (L6.getD (((a1 % (1048576 : Int)) - (1 : Int))).toNat RJ.z).a1]), (25, [.i (L6.getD (((a1 % (1048576 : Int)) - (1 : Int))).toNat RJ.z).a2])] [(5, .sh (a2).toNat)]) [0, 1, 2] (vi (10 : Int)) (kN ((a4 / (1048576 : Int)) ≥ (1 : Int)) w19) (bS (κl a5 L6 L7) <| bR <| bR <| bE)
                ·
                 exact fxC (Zh (oq [3, 6, 9, 11, 13, 15, 17, 19, 21, 26, 28, 31, 33, 35, 37, 39, 42, 44, 47, 49, 51, 53, 55, 58, 60, 64, 66, 70, 73, 75, 76]) [(0, (a1 / (1048576 : Int))), (1, (a1 % (1048576 : Int))), (2, (a1 / (1048576 : Int))), (3, (a1 % (1048576 : Int))), (4, (a1 % (1048576 : Int))), (5, ((a1 % (1048576 : Int)) - (1 : Int))), (6, (a1 / (1048576 : Int))), (7, (a1 % (1048576 : Int))), (8, (a1 / (1048576 : Int))), (9, ((a1 % (1048576 : Int)) - (1 : Int))), (10, ((a1 % (1048576 : Int)) - (1 : Int))), (12, (((L6.getD (((a1 % (1048576 : Int)) - (1 : Int))).toNat RJ.z).a2 / (2 ^ (a2).toNat : Int)) % (2 : Int)))] [(0, (((a1 % (1048576 : Int)) - (1 : Int))).toNat), (1, (((a1 % (1048576 : Int)) - (1 : Int))).toNat), (2, (((a1 % (1048576 : Int)) - (1 : Int))).toNat)] [(16, [.i (L6.getD (((a1 % (1048576 : Int)) - (1 : Int))).toNat RJ.z).a0]), (21, [.i (L6.getD (((a1 % (1048576 : Int)) - (1 : Int))).toNat RJ.z).a3]), (23, [.i (L6.getD (((a1 % (1048576 : Int)) - (1 : Int))).toNat RJ.z).a1]), (25, [.i (L6.getD (((a1 % (1048576 : Int)) - (1 : Int))).toNat RJ.z).a2])] [(5, .sh (a2).toNat)]) [0, 1, 2] (vi (10 : Int)) (kN (a4 > (0 : Int)) w17) (bS (κl a5 L6 L7) <| bR <| bR <| bE)
               ·
                exact fxC (Zh (oq [3, 6, 9, 11, 13, 15, 17, 19, 21, 26, 28, 31, 33, 35, 37, 39, 42, 44, 47, 49, 51, 53, 55, 58, 60, 64, 66, 70, 73, 74, 79]) [(0, (a1 / (1048576 : Int))), (1, (a1 % (1048576 : Int))), (2, (a1 / (1048576 : Int))), (3, (a1 % (1048576 : Int))), (4, (a1 % (1048576 : Int))), (5, ((a1 % (1048576 : Int)) - (1 : Int))), (6, (a1 / (1048576 : Int))), (7, (a1 % (1048576 : Int))), (8, (a1 / (1048576 : Int))), (9, ((a1 % (1048576 : Int)) - (1 : Int))), (10, ((a1 % (1048576 : Int)) - (1 : Int))), (12, (((L6.getD (((a1 % (1048576 : Int)) - (1 : Int))).toNat RJ.z).a2 / (2 ^ (a2).toNat : Int)) % (2 : Int)))] [(0, (((a1 % (1048576 : Int)) - (1 : Int))).toNat), (1, (((a1 % (1048576 : Int)) - (1 : Int))).toNat), (2, (((a1 % (1048576 : Int)) - (1 : Int))).toNat)] [(16, [.i (L6.getD (((a1 % (1048576 : Int)) - (1 : Int))).toNat RJ.z).a0]), (21, [.i (L6.getD (((a1 % (1048576 : Int)) - (1 : Int))).toNat RJ.z).a3]), (23, [.i (L6.getD (((a1 % (1048576 : Int)) - (1 : Int))).toNat RJ.z).a1]), (25, [.i (L6.getD (((a1 % (1048576 : Int)) - (1 : Int))).toNat RJ.z).a2])] [(5, .sh (a2).toNat)]) [0, 1, 2] (vi (10 : Int)) (hT g15 <| kE a4 (0 : Int) <| hT g15 <| hF g14 w14) (bS (κl a5 L6 L7) <| bR <| bR <| bE)
              ·
               refine Zd (fun g16 => ?_) (fun g16 => ?_)
               ·
                refine Zd (fun g17 => ?_) (fun _ => Zw)
                exact fxC (Zh (oq [3, 6, 9, 11, 13, 15, 17, 19, 21, 26, 28, 31, 33, 35, 37, 39, 42, 44, 47, 49, 51, 53, 55, 58, 60, 64, 66, 70, 72, 75, 78]) [(0, (a1 / (1048576 : Int))), (1, (a1 % (1048576 : Int))), (2, (a1 / (1048576 : Int))), (3, (a1 % (1048576 : Int))), (4, (a1 % (1048576 : Int))), (5, ((a1 % (1048576 : Int)) - (1 : Int))), (6, (a1 / (1048576 : Int))), (7, (a1 % (1048576 : Int))), (8, (a1 / (1048576 : Int))), (9, ((a1 % (1048576 : Int)) - (1 : Int))), (10, ((a1 % (1048576 : Int)) - (1 : Int))), (12, (((L6.getD (((a1 % (1048576 : Int)) - (1 : Int))).toNat RJ.z).a2 / (2 ^ (a2).toNat : Int)) % (2 : Int))), (13, ((a1 % (1048576 : Int)) + a2))] [(0, (((a1 % (1048576 : Int)) - (1 : Int))).toNat), (1, (((a1 % (1048576 : Int)) - (1 : Int))).toNat), (2, (((a1 % (1048576 : Int)) - (1 : Int))).toNat), (3, (((a1 % (1048576 : Int)) + a2)).toNat)] [(16, [.i (L6.getD (((a1 % (1048576 : Int)) - (1 : Int))).toNat RJ.z).a0]), (21, [.i (L6.getD (((a1 % (1048576 : Int)) - (1 : Int))).toNat RJ.z).a3]), (23, [.i (L6.getD (((a1 % (1048576 : Int)) - (1 : Int))).toNat RJ.z).a1]), (25, [.i (L6.getD (((a1 % (1048576 : Int)) - (1 : Int))).toNat RJ.z).a2])] [(5, .sh (a2).toNat), (6, .st (Zc RB (L7.set (((a1 % (1048576 : Int)) + a2)).toNat (⟨a3, a4⟩ : RH))))]) [0, 1, 2] (vq) (kC (ZT (E := RB) (L := L7) (i := (((a1 % (1048576 : Int)) + a2)).toNat) (q := 0) (l := [vi a3, vi a4]) (⟨a3, a4⟩ : RH) (by omega) (show (0 + ((((a1 % (1048576 : Int)) + a2)).toNat * 2)) = (((a1 % (1048576 : Int)) + a2)).toNat * 2 + 0 from by omega) (show 0 + 2 ≤ 2 from by decide) rfl) <| kB (((a1 % (1048576 : Int)) + a2)).toNat L7.length <| kI ((a1 % (1048576 : Int)) + a2) (Int.ofNat (((a1 % (1048576 : Int)) + a2)).toNat) <| kW ((a1 % (1048576 : Int)) + a2) ((a1 % (1048576 : Int)) + a2) <| hF g15 <| hT g16 <| hF g15 <| hF g14 w14) (bU (κl a5 L6 L7) 2 (show (vs 2 0 L7.length L7.length : Value) = vs 2 0 (L7.set (((a1 % (1048576 : Int)) + a2)).toNat (⟨a3, a4⟩ : RH)).length (L7.set (((a1 % (1048576 : Int)) + a2)).toNat (⟨a3, a4⟩ : RH)).length from ZN rfl eqA eqA) <| bR <| bR <| bE)
               ·
                exact fxC (Zh (oq [3, 6, 9, 11, 13, 15, 17, 19, 21, 26, 28, 31, 33, 35, 37, 39, 42, 44, 47, 49, 51, 53, 55, 58, 60, 64, 66, 70, 72, 74]) [(0, (a1 / (1048576 : Int))), (1, (a1 % (1048576 : Int))), (2, (a1 / (1048576 : Int))), (3, (a1 % (1048576 : Int))), (4, (a1 % (1048576 : Int))), (5, ((a1 % (1048576 : Int)) - (1 : Int))), (6, (a1 / (1048576 : Int))), (7, (a1 % (1048576 : Int))), (8, (a1 / (1048576 : Int))), (9, ((a1 % (1048576 : Int)) - (1 : Int))), (10, ((a1 % (1048576 : Int)) - (1 : Int))), (12, (((L6.getD (((a1 % (1048576 : Int)) - (1 : Int))).toNat RJ.z).a2 / (2 ^ (a2).toNat : Int)) % (2 : Int)))] [(0, (((a1 % (1048576 : Int)) - (1 : Int))).toNat), (1, (((a1 % (1048576 : Int)) - (1 : Int))).toNat), (2, (((a1 % (1048576 : Int)) - (1 : Int))).toNat)] [(16, [.i (L6.getD (((a1 % (1048576 : Int)) - (1 : Int))).toNat RJ.z).a0]), (21, [.i (L6.getD (((a1 % (1048576 : Int)) - (1 : Int))).toNat RJ.z).a3]), (23, [.i (L6.getD (((a1 % (1048576 : Int)) - (1 : Int))).toNat RJ.z).a1]), (25, [.i (L6.getD (((a1 % (1048576 : Int)) - (1 : Int))).toNat RJ.z).a2])] [(5, .sh (a2).toNat)]) [0, 1, 2] (vi (10 : Int)) (hF g16 <| hF g15 <| hF g14 w14) (bS (κl a5 L6 L7) <| bR <| bR <| bE)
       ·
        exact fxC (Zh (oq [3, 6, 9, 11, 13, 15, 17, 18]) [(0, (a1 / (1048576 : Int))), (1, (a1 % (1048576 : Int)))] [] [] []) [0, 1, 2] (vi (10 : Int)) (kN ((a1 % (1048576 : Int)) ≥ (1 : Int)) <| hY g6 w6) (bS (κl a5 L6 L7) <| bR <| bR <| bE)
      ·
       exact fxC (Zh (oq [3, 6, 9, 11, 13, 15, 16]) [(0, (a1 / (1048576 : Int))), (1, (a1 % (1048576 : Int)))] [] [] []) [0, 1, 2] (vi (10 : Int)) (hN g6 w6) (bS (κl a5 L6 L7) <| bR <| bR <| bE)
     ·
      exact fxC (Zh (oq [3, 6, 9, 11, 13, 14]) [(0, (a1 / (1048576 : Int))), (1, (a1 % (1048576 : Int)))] [] [] []) [0, 1, 2] (vi (10 : Int)) (kN ((a1 / (1048576 : Int)) ≥ (1 : Int)) w5) (bS (κl a5 L6 L7) <| bR <| bR <| bE)
    ·
     exact fxC (Zh (oq [3, 6, 9, 11, 12]) [] [] [] []) [0, 1, 2] (vi (10 : Int)) (kN (a1 > (0 : Int)) <| hD g2 w2) (bS (κl a5 L6 L7) <| bR <| bR <| bE)
   ·
    exact fxC (Zh (oq [3, 6, 9, 10, 15]) [] [] [] []) [0, 1, 2] (vi (11 : Int)) (kZ ((a0 == (2 : Int)) && ((a1 == (0 : Int)) && true)) <| kE a1 (0 : Int) w2) (bS (κl a5 L6 L7) <| bR <| bR <| bE)
 ·
  exact fxC (Zh (oq [2]) [] [] [] []) [0, 1, 2] (vi (4 : Int)) (kN (a5 > (0 : Int)) Zs) (bS (κl a5 L6 L7) <| bR <| bR <| bE)

theorem Zgq (a0 a1 a2 a3 a4 a5 : Int) (L6 : List RJ) (L7 : List RH) (N : Nat) (r : Zv) (h : Za1 a0 a1 a2 a3 a4 a5 L6 L7 N = some r) : LSpec Tryz.prog 99 #[vp 0 0, Value.agg #[vi a0, vi a1], vi a2, Value.agg #[vi a3, vi a4]] [.cells (κl a5 L6 L7) 154, .cells (Zc RD L6) 57, .cells (Zc RB L7) 42] (ZeL a0 a1 a2 a3 a4 a5 L6 L7 r) (Zed a0 a1 a2 a3 a4 a5 L6 L7 r) :=
 ZaB ZaW Tryz.func99 (by kernel_rfl) (by kernel_rfl) (fun r => by cases r <;> exact ZaP _ rfl) (Zho a0 a1 a2 a3 a4 a5 L6 L7 N) h

noncomputable def Zbn {a0 : Int} {a1 : Int} {a2 : Int} {a3 : Int} {a4 : Int} {a5 : Int} {L6 : List RJ} {L7 : List RH} {w1 : List RH} {w2 : Int} {N : Nat} (h : Za1 a0 a1 a2 a3 a4 a5 L6 L7 N = some (.r0 w1 w2)) (ks : List Nat) (n : Nat) : ToldS := ⟨#[vp (nth ks 0) 0, Value.agg #[vi a0, vi a1], vi a2, Value.agg #[vi a3, vi a4]], [((nth ks 0), .cells [vi a5, vs (nth ks 1) 0 L6.length L6.length, vs (nth ks 2) 0 L7.length L7.length, vn, vn, vn, vn, vn, vn, vn, vn, vn, vn, vn, vn, vn, vn, vn, vn, vn] 154), ((nth ks 1), .cells (Zc RD L6) 57), ((nth ks 2), .cells (Zc RB L7) 42)], vi w2, [((nth ks 0), some (.cells [vi a5, vs (nth ks 1) 0 L6.length L6.length, vs (nth ks 2) 0 w1.length w1.length, vn, vn, vn, vn, vn, vn, vn, vn, vn, vn, vn, vn, vn, vn, vn, vn, vn] 154)), ((nth ks 2), some (.cells (Zc RB w1) 42))], 0⟩

theorem Zee {a0 : Int} {a1 : Int} {a2 : Int} {a3 : Int} {a4 : Int} {a5 : Int} {L6 : List RJ} {L7 : List RH} {w1 : List RH} {w2 : Int} {N : Nat} (h : Za1 a0 a1 a2 a3 a4 a5 L6 L7 N = some (.r0 w1 w2)) (ks : List Nat) (n : Nat) (hk : ks.length = 3 := by rfl) (hnd : ks.Nodup := by decide +kernel) (hlt : ∀ k ∈ ks, k < n := by decide +kernel) : (Zbn (N := N)  h ks n).P Tryz.prog 99 n :=
 match ks, hk, hnd, hlt with
 | [k0, k1, k2], _, hnd, hlt => ZaT (show LSpec Tryz.prog 99 #[vp 0 0, Value.agg #[vi a0, vi a1], vi a2, Value.agg #[vi a3, vi a4]] [.cells (κl a5 L6 L7) 154, .cells (Zc RD L6) 57, .cells (Zc RB L7) 42] (vi w2) [some (.cells [vi a5, vs 1 0 L6.length L6.length, vs 2 0 w1.length w1.length, vn, vn, vn, vn, vn, vn, vn, vn, vn, vn, vn, vn, vn, vn, vn, vn, vn] 154), some (.cells (Zc RD L6) 57), some (.cells (Zc RB w1) 42)] from Zgq a0 a1 a2 a3 a4 a5 L6 L7 N _ h) _ n [0, 2] hnd hlt

end Ev
end Go.Proofs.YtiijipocjellpaaGreat
namespace Go.Proofs.YtiijipocjellpaaGreat
open Go.IntKind (i64)
open Go.RowKit
namespace Ev
set_option linter.unusedVariables false
set_option maxRecDepth 100000
set_option maxHeartbeats 4000000
noncomputable def ZdU (a0 : Int) (L1 : List RL) (a2 : Int) (b3 b4 : Bool) (a5 a6 a7 a8 a9 a10 a11 : Int) (L12 : List RG) (a13 a14 a15 a16 a17 a18 a19 a20 : Int) (L21 : List RJ) (L22 : List RH) (L23 L24 : List Int) (a25 a26 a27 a28 : Int) (L29 : List Int) : Zr → Value
 | .r0 w1 w2 w3 w4 w5 w6 w7 w8 w10 w11 w12 w13 w14 w15 w16 w17 w18 w20 w32 => Value.tuple #[Value.agg #[vi w4, vi w5, vi w6, vi w7, vi w8, vq], Value.bool w10]
noncomputable abbrev κY (a28 : Int) (L29 : List Int) := (AObj.cells (Zl eI 64 [vi a28] L29 []) 211)
noncomputable abbrev κq (a11 : Int) (L12 : List RG) (a13 : Int) (a14 : Int) (a15 : Int) (a16 : Int) (a17 : Int) (a18 : Int) (a19 : Int) := (Zl Zdl 64 [vi a11] L12 [vi a13, vi a14, vi a15, vi a16, vi a17, vi a18, vi a19, vp 2 0, vp 3 0, vp 4 0, vp 5 0])
noncomputable def Zds (a0 : Int) (L1 : List RL) (a2 : Int) (b3 b4 : Bool) (a5 a6 a7 a8 a9 a10 a11 : Int) (L12 : List RG) (a13 a14 a15 a16 a17 a18 a19 a20 : Int) (L21 : List RJ) (L22 : List RH) (L23 L24 : List Int) (a25 a26 a27 a28 : Int) (L29 : List Int) : Zr → List (Option AObj)
 | .r0 w1 w2 w3 w4 w5 w6 w7 w8 w10 w11 w12 w13 w14 w15 w16 w17 w18 w20 w32 => [some (.cells (Zl Ze 1 [] w11 [vn, vi w12, Value.bool w13, Value.bool w14, vi w15, vi w16, vi w17, vi w18, vp 1 0, vi a9, (fnV w20)]) 141), some (.cells (κq a11 L12 a13 a14 a15 a16 a17 a18 a19) 132), some (.cells [vi a20, vs 6 0 L21.length L21.length, vs 7 0 w1.length w1.length, vn, vn, vn, vn, vn, vn, vn, vn, vn, vn, vn, vn, vn, vn, vn, vn, vn] 154), some (.cells [vs 8 0 w2.length w2.length, vs 9 0 w3.length w3.length] 191), some (.cells [vi a25, vi w32, vi a27] 208), some (κY a28 L29), some (.cells (Zc RD L21) 57), some (.cells (Zc RB w1) 42), some (.cells (Zc eI w2) 188), some (.cells (Zc eI w3) 188)]

noncomputable abbrev κP (L23 : List Int) (L24 : List Int) := [vs 8 0 L23.length L23.length, vs 9 0 L24.length L24.length]
noncomputable abbrev κr (a20 : Int) (L21 : List RJ) (L22 : List RH) := [vi a20, vs 6 0 L21.length L21.length, vs 7 0 L22.length L22.length, vn, vn, vn, vn, vn, vn, vn, vn, vn, vn, vn, vn, vn, vn, vn, vn, vn]
theorem Zgr (a0 : Int) (L1 : List RL) (a2 : Int) (b3 b4 : Bool) (a5 a6 a7 a8 a9 a10 a11 : Int) (L12 : List RG) (a13 a14 a15 a16 a17 a18 a19 a20 : Int) (L21 : List RJ) (L22 : List RH) (L23 L24 : List Int) (a25 a26 a27 a28 : Int) (L29 : List Int) (N : Nat) : Fx Tryz.prog Zaa Tryz.f20 [.cells (Zl Ze 1 [] L1 [vn, vi a2, Value.bool b3, Value.bool b4, vi a5, vi a6, vi a7, vi a8, vp 1 0, vi a9, (fnV a10)]) 141, .cells (κq a11 L12 a13 a14 a15 a16 a17 a18 a19) 132, .cells (κr a20 L21 L22) 154, .cells (κP L23 L24) 191, .cells [vi a25, vi a26, vi a27] 208, .cells (Zl eI 64 [vi a28] L29 []) 211, .cells (Zc RD L21) 57, .cells (Zc RB L22) 42, .cells (Zc eI L23) 188, .cells (Zc eI L24) 188] #[vp 0 0, vi a0] (ZdU a0 L1 a2 b3 b4 a5 a6 a7 a8 a9 a10 a11 L12 a13 a14 a15 a16 a17 a18 a19 a20 L21 L22 L23 L24 a25 a26 a27 a28 L29) (Zds a0 L1 a2 b3 b4 a5 a6 a7 a8 a9 a10 a11 L12 a13 a14 a15 a16 a17 a18 a19 a20 L21 L22 L23 L24 a25 a26 a27 a28 L29) (Zz a0 L1 a2 b3 b4 a5 a6 a7 a8 a9 a10 a11 L12 a13 a14 a15 a16 a17 a18 a19 a20 L21 L22 L23 L24 a25 a26 a27 a28 L29 N) := by
 unfold Zz
 refine Zd (fun g0 => ?_) (fun _ => Zw)
 refine Zd (fun g1 => ?_) (fun _ => Zw)
 refine Zd (fun g2 => ?_) (fun _ => Zw)
 refine Zd (fun g3 => ?_) (fun _ => Zw)
 refine Zd (fun g4 => ?_) (fun _ => Zw)
 refine Zd (fun g5 => ?_) (fun _ => Zw)
 refine Zd (fun g6 => ?_) (fun _ => ?_)
 ·
  subst g6
  exact fxC (Zh (oq []) [] [] [] []) (rg 0 10 []) (Value.tuple #[Value.agg #[vq, vq, vq, vq, vq, vq], vf]) Zs (bM (.cells (Zl Ze 1 [] L1 [vn, vi a2, Value.bool b3, Value.bool b4, vi a5, vi a6, vi a7, vi a8, vp 1 0, vi a9, Value.nilFunc]) 141) <| bM (.cells (κq a11 L12 a13 a14 a15 a16 a17 a18 a19) 132) <| bS (κr a20 L21 L22) <| bS (κP L23 L24) <| bS [vi a25, vi a26, vi a27] <| bM (κY a28 L29) <| bR <| bR <| bR <| bR <| bE)
 ·
  refine Zd (fun g6 => ?_) (fun _ => ?_)
  ·
   subst g6
   have w7 := kY (a11 > (0 : Int)) <| kF ((L1.getD 0 RL.z).a0) (3 : Int) <| kO (((L1.getD 0 RL.z).a1 == (2 : Int)) && (((L1.getD 0 RL.z).a2 == (0 : Int)) && true)) <| kY (((L1.getD 0 RL.z).a2 % (1048576 : Int)) ≤ (1048575 : Int)) <| kY (((L1.getD 0 RL.z).a2 % (1048576 : Int)) ≥ (1 : Int)) <| kY (((L1.getD 0 RL.z).a2 / (1048576 : Int)) ≤ (1073741824 : Int)) <| kY (((L1.getD 0 RL.z).a2 / (1048576 : Int)) ≥ (1 : Int)) <| kM ((L1.getD 0 RL.z).a2) (1048576 : Int) <| kV ((L1.getD 0 RL.z).a2) (1048576 : Int) <| kY ((L1.getD 0 RL.z).a2 > (0 : Int)) <| kD ((L1.getD 0 RL.z).a2) (0 : Int) <| kT ((L1.getD 0 RL.z).a1) (2 : Int) <| kE ((L1.getD 0 RL.z).a1) (2 : Int) Zs
   refine ZY (fun z7 c7 => ?_)
   cases z7 with
   | r0 y7_0 y7_1 y7_2 y7_3 y7_4 y7_5 =>
    refine Zd (fun g8 => ?_) (fun g8 => ?_)
    ·
     subst g8
     refine Zd (fun _ => Zw) (fun g9 => ?_)
     have w10 := kY (a11 > (0 : Int)) <| kX (dP (i64 = i64 ∧ (L23.length : Int) ≠ 0)) true (Z5 ⟨rfl, by omega⟩) <| kM ((L1.getD 0 RL.z).a2) (1048576 : Int) <| kY (((L1.getD 0 RL.z).a2 % (1048576 : Int)) ≤ (1048575 : Int)) <| kY (((L1.getD 0 RL.z).a2 % (1048576 : Int)) ≥ (1 : Int)) <| kY (((L1.getD 0 RL.z).a2 / (1048576 : Int)) ≤ (1073741824 : Int)) <| kY (((L1.getD 0 RL.z).a2 / (1048576 : Int)) ≥ (1 : Int)) <| kM ((L1.getD 0 RL.z).a2) (1048576 : Int) <| kV ((L1.getD 0 RL.z).a2) (1048576 : Int) <| kY ((L1.getD 0 RL.z).a2 > (0 : Int)) <| kE ((L1.getD 0 RL.z).a1) (2 : Int) <| kY ((L23.length : Int) > (0 : Int)) <| kY (a11 > (0 : Int)) <| hF g9 <| kK (Zaq c7 [2, 6, 7] 16) w7
     refine ZY (fun z10 c10 => ?_)
     cases z10 with
     | r0 y10_0 y10_1 y10_2 y10_3 y10_4 y10_5 =>
      refine Zd (fun g11 => ?_) (fun g11 => ?_)
      ·
       subst g11
       refine Zd (fun _ => Zw) (fun g12 => ?_)
       exact fxC (Zh (oq [8, 11, 13, 15, 17, 19, 21, 23, 28, 30, 37, 40, 45, 51, 54, 57, 59, 61, 63, 65, 71, 74]) [(0, ((L1.getD 0 RL.z).a2 / (1048576 : Int))), (1, ((L1.getD 0 RL.z).a2 % (1048576 : Int))), (2, ((L1.getD 0 RL.z).a2 / (1048576 : Int))), (3, ((L1.getD 0 RL.z).a2 % (1048576 : Int))), (4, ((L1.getD 0 RL.z).a2 % (1048576 : Int)))] [] [] [(2, (Z4 c7 [2, 6, 7] 16).t), (6, .dv), (9, (Z4 c10 [2, 6, 7] 20).t)]) (rg 0 10 []) (Value.tuple #[Value.agg #[vi (2 : Int), vi a9, vq, vq, vq, vq], vf]) (hF g12 <| kK (Zaq c10 [2, 6, 7] 20) w10) (bM (.cells (Zl Ze 1 [] ([(⟨(L1.getD 0 RL.z).a0, (L1.getD 0 RL.z).a1, (L1.getD 0 RL.z).a2, (L1.getD 0 RL.z).a3, (L1.getD 0 RL.z).a4, (L1.getD 0 RL.z).a5, (L1.getD 0 RL.z).a6, (L1.getD 0 RL.z).a7, (Int.tmod ((L1.getD 0 RL.z).a2 % (1048576 : Int)) (L23.length : Int)), (L1.getD 0 RL.z).a9, (L1.getD 0 RL.z).a10, (L1.getD 0 RL.z).a11, (L1.getD 0 RL.z).a12, (L1.getD 0 RL.z).a13, (L1.getD 0 RL.z).a14, (L1.getD 0 RL.z).a15⟩ : RL)] : List RL) [vn, vi a2, Value.bool b3, Value.bool b4, vi a5, vi a6, vi a7, vi a8, vp 1 0, vi a9, Value.func (.func 160) #[] #[]]) 141) <| bM (.cells (κq a11 L12 a13 a14 a15 a16 a17 a18 a19) 132) <| bS (κr a20 L21 L22) <| bS (κP L23 L24) <| bS [vi a25, vi a26, vi a27] <| bM (κY a28 L29) <| bR <| bR <| bR <| bR <| bE)
      ·
       obtain rfl : y10_5 = false := by simpa using g11
       exact fxC (Zh (oq [8, 11, 13, 15, 17, 19, 21, 23, 28, 30, 37, 40, 45, 51, 54, 57, 59, 61, 63, 65, 71]) [(0, ((L1.getD 0 RL.z).a2 / (1048576 : Int))), (1, ((L1.getD 0 RL.z).a2 % (1048576 : Int))), (2, ((L1.getD 0 RL.z).a2 / (1048576 : Int))), (3, ((L1.getD 0 RL.z).a2 % (1048576 : Int))), (4, ((L1.getD 0 RL.z).a2 % (1048576 : Int)))] [] [] [(2, (Z4 c7 [2, 6, 7] 16).t), (6, .dv), (9, (Z4 c10 [2, 6, 7] 20).t)]) (rg 0 10 []) (Value.tuple #[Value.agg #[vi (2 : Int), vi a9, vq, vq, vq, vq], vf]) (kK (Zaq c10 [2, 6, 7] 20) w10) (bM (.cells (Zl Ze 1 [] ([(⟨(L1.getD 0 RL.z).a0, (L1.getD 0 RL.z).a1, (L1.getD 0 RL.z).a2, (L1.getD 0 RL.z).a3, (L1.getD 0 RL.z).a4, (L1.getD 0 RL.z).a5, (L1.getD 0 RL.z).a6, (L1.getD 0 RL.z).a7, (Int.tmod ((L1.getD 0 RL.z).a2 % (1048576 : Int)) (L23.length : Int)), (L1.getD 0 RL.z).a9, (L1.getD 0 RL.z).a10, (L1.getD 0 RL.z).a11, (L1.getD 0 RL.z).a12, (L1.getD 0 RL.z).a13, (L1.getD 0 RL.z).a14, (L1.getD 0 RL.z).a15⟩ : RL)] : List RL) [vn, vi a2, Value.bool b3, Value.bool b4, vi a5, vi a6, vi a7, vi a8, vp 1 0, vi a9, Value.func (.func 160) #[] #[]]) 141) <| bM (.cells (κq a11 L12 a13 a14 a15 a16 a17 a18 a19) 132) <| bS (κr a20 L21 L22) <| bS (κP L23 L24) <| bS [vi a25, vi a26, vi a27] <| bM (κY a28 L29) <| bR <| bR <| bR <| bR <| bE)
    ·
     obtain rfl : y7_5 = false := by simpa using g8
     have w9 := kY (a11 > (0 : Int)) <| kX (dP (i64 = i64 ∧ (L23.length : Int) ≠ 0)) true (Z5 ⟨rfl, by omega⟩) <| kM ((L1.getD 0 RL.z).a2) (1048576 : Int) <| kY (((L1.getD 0 RL.z).a2 % (1048576 : Int)) ≤ (1048575 : Int)) <| kY (((L1.getD 0 RL.z).a2 % (1048576 : Int)) ≥ (1 : Int)) <| kY (((L1.getD 0 RL.z).a2 / (1048576 : Int)) ≤ (1073741824 : Int)) <| kY (((L1.getD 0 RL.z).a2 / (1048576 : Int)) ≥ (1 : Int)) <| kM ((L1.getD 0 RL.z).a2) (1048576 : Int) <| kV ((L1.getD 0 RL.z).a2) (1048576 : Int) <| kY ((L1.getD 0 RL.z).a2 > (0 : Int)) <| kE ((L1.getD 0 RL.z).a1) (2 : Int) <| kY ((L23.length : Int) > (0 : Int)) <| kY (a11 > (0 : Int)) <| kK (Zaq c7 [2, 6, 7] 16) w7
     refine ZY (fun z9 c9 => ?_)
     cases z9 with
     | r0 y9_0 y9_1 y9_2 y9_3 y9_4 y9_5 =>
      refine Zd (fun g10 => ?_) (fun g10 => ?_)
      ·
       subst g10
       refine Zd (fun _ => Zw) (fun g11 => ?_)
       exact fxC (Zh (oq [8, 11, 13, 15, 17, 19, 21, 23, 28, 30, 37, 43, 49, 52, 55, 57, 59, 61, 63, 69, 72]) [(0, ((L1.getD 0 RL.z).a2 / (1048576 : Int))), (1, ((L1.getD 0 RL.z).a2 % (1048576 : Int))), (2, ((L1.getD 0 RL.z).a2 / (1048576 : Int))), (3, ((L1.getD 0 RL.z).a2 % (1048576 : Int))), (4, ((L1.getD 0 RL.z).a2 % (1048576 : Int)))] [] [] [(2, (Z4 c7 [2, 6, 7] 16).t), (6, .dv), (9, (Z4 c9 [2, 6, 7] 20).t)]) (rg 0 10 []) (Value.tuple #[Value.agg #[vi (2 : Int), vi a9, vq, vq, vq, vq], vf]) (hF g11 <| kK (Zaq c9 [2, 6, 7] 20) w9) (bM (.cells (Zl Ze 1 [] ([(⟨(L1.getD 0 RL.z).a0, (L1.getD 0 RL.z).a1, (L1.getD 0 RL.z).a2, (L1.getD 0 RL.z).a3, (L1.getD 0 RL.z).a4, (L1.getD 0 RL.z).a5, (L1.getD 0 RL.z).a6, (L1.getD 0 RL.z).a7, (Int.tmod ((L1.getD 0 RL.z).a2 % (1048576 : Int)) (L23.length : Int)), (L1.getD 0 RL.z).a9, (L1.getD 0 RL.z).a10, (L1.getD 0 RL.z).a11, (L1.getD 0 RL.z).a12, (L1.getD 0 RL.z).a13, (L1.getD 0 RL.z).a14, (L1.getD 0 RL.z).a15⟩ : RL)] : List RL) [vn, vi a2, Value.bool b3, Value.bool b4, vi a5, vi a6, vi a7, vi a8, vp 1 0, vi a9, Value.func (.func 160) #[] #[]]) 141) <| bM (.cells (κq a11 L12 a13 a14 a15 a16 a17 a18 a19) 132) <| bS (κr a20 L21 L22) <| bS (κP L23 L24) <| bS [vi a25, vi a26, vi a27] <| bM (κY a28 L29) <| bR <| bR <| bR <| bR <| bE)
      ·
       obtain rfl : y9_5 = false := by simpa using g10
       exact fxC (Zh (oq [8, 11, 13, 15, 17, 19, 21, 23, 28, 30, 37, 43, 49, 52, 55, 57, 59, 61, 63, 69]) [(0, ((L1.getD 0 RL.z).a2 / (1048576 : Int))), (1, ((L1.getD 0 RL.z).a2 % (1048576 : Int))), (2, ((L1.getD 0 RL.z).a2 / (1048576 : Int))), (3, ((L1.getD 0 RL.z).a2 % (1048576 : Int))), (4, ((L1.getD 0 RL.z).a2 % (1048576 : Int)))] [] [] [(2, (Z4 c7 [2, 6, 7] 16).t), (6, .dv), (9, (Z4 c9 [2, 6, 7] 20).t)]) (rg 0 10 []) (Value.tuple #[Value.agg #[vi (2 : Int), vi a9, vq, vq, vq, vq], vf]) (kK (Zaq c9 [2, 6, 7] 20) w9) (bM (.cells (Zl Ze 1 [] ([(⟨(L1.getD 0 RL.z).a0, (L1.getD 0 RL.z).a1, (L1.getD 0 RL.z).a2, (L1.getD 0 RL.z).a3, (L1.getD 0 RL.z).a4, (L1.getD 0 RL.z).a5, (L1.getD 0 RL.z).a6, (L1.getD 0 RL.z).a7, (Int.tmod ((L1.getD 0 RL.z).a2 % (1048576 : Int)) (L23.length : Int)), (L1.getD 0 RL.z).a9, (L1.getD 0 RL.z).a10, (L1.getD 0 RL.z).a11, (L1.getD 0 RL.z).a12, (L1.getD 0 RL.z).a13, (L1.getD 0 RL.z).a14, (L1.getD 0 RL.z).a15⟩ : RL)] : List RL) [vn, vi a2, Value.bool b3, Value.bool b4, vi a5, vi a6, vi a7, vi a8, vp 1 0, vi a9, Value.func (.func 160) #[] #[]]) 141) <| bM (.cells (κq a11 L12 a13 a14 a15 a16 a17 a18 a19) 132) <| bS (κr a20 L21 L22) <| bS (κP L23 L24) <| bS [vi a25, vi a26, vi a27] <| bM (κY a28 L29) <| bR <| bR <| bR <| bR <| bE)
  ·
   refine Zd (fun g6 => ?_) (fun _ => ?_)
   ·
    subst g6
    refine ZY (fun z7 c7 => ?_)
    cases z7 with
    | r0 y7_0 y7_1 y7_2 =>
     have w8 := kK (ZF c7 [3, 8, 9] 12) <| kY (a11 > (0 : Int)) Zs
     refine Zd (fun g8 => ?_) (fun g8 => ?_)
     ·
      exact fxC (Zh (oq [11, 15]) [] [] [] [(0, (Z1 c7 [3, 8, 9] 12).t)]) (rg 0 10 []) (Value.tuple #[Value.agg #[vi (14 : Int), vi a9, vq, vq, vq, vq], vf]) (hD g8 w8) (bM (.cells (Zl Ze 1 [] ([(⟨(L1.getD 0 RL.z).a0, (L1.getD 0 RL.z).a1, (L1.getD 0 RL.z).a2, (L1.getD 0 RL.z).a3, (L1.getD 0 RL.z).a4, (L1.getD 0 RL.z).a5, (L1.getD 0 RL.z).a6, (L1.getD 0 RL.z).a7, (L1.getD 0 RL.z).a8, y7_0, y7_1, y7_2, (L1.getD 0 RL.z).a12, (L1.getD 0 RL.z).a13, (L1.getD 0 RL.z).a14, (L1.getD 0 RL.z).a15⟩ : RL)] : List RL) [vn, vi a2, Value.bool b3, Value.bool b4, vi a5, vi a6, vi a7, vi a8, vp 1 0, vi a9, Value.func (.func 160) #[] #[]]) 141) <| bM (.cells (κq a11 L12 a13 a14 a15 a16 a17 a18 a19) 132) <| bS (κr a20 L21 L22) <| bS (κP L23 L24) <| bS [vi a25, vi a26, vi a27] <| bM (κY a28 L29) <| bR <| bR <| bR <| bR <| bE)
     ·
      refine Zd (fun g9 => ?_) (fun g9 => ?_)
      ·
       exact fxC (Zh (oq [11, 14, 17]) [] [] [] [(0, (Z1 c7 [3, 8, 9] 12).t)]) (rg 0 10 []) (Value.tuple #[Value.agg #[vi (3 : Int), vi a9, vq, vq, vq, vq], vf]) (hT g9 <| kE y7_0 (0 : Int) w8) (bM (.cells (Zl Ze 1 [] ([(⟨(L1.getD 0 RL.z).a0, (L1.getD 0 RL.z).a1, (L1.getD 0 RL.z).a2, (L1.getD 0 RL.z).a3, (L1.getD 0 RL.z).a4, (L1.getD 0 RL.z).a5, (L1.getD 0 RL.z).a6, (L1.getD 0 RL.z).a7, (L1.getD 0 RL.z).a8, y7_0, y7_1, y7_2, (L1.getD 0 RL.z).a12, (L1.getD 0 RL.z).a13, (L1.getD 0 RL.z).a14, (L1.getD 0 RL.z).a15⟩ : RL)] : List RL) [vn, vi a2, Value.bool b3, Value.bool b4, vi a5, vi a6, vi a7, vi a8, vp 1 0, vi a9, Value.func (.func 182) #[] #[]]) 141) <| bM (.cells (κq a11 L12 a13 a14 a15 a16 a17 a18 a19) 132) <| bS (κr a20 L21 L22) <| bS (κP L23 L24) <| bS [vi a25, vi a26, vi a27] <| bM (κY a28 L29) <| bR <| bR <| bR <| bR <| bE)
      ·
       exact fxC (Zh (oq [11, 14, 16]) [] [] [] [(0, (Z1 c7 [3, 8, 9] 12).t)]) (rg 0 10 []) (Value.tuple #[Value.agg #[vi (3 : Int), vi a9, vq, vq, vq, vq], vf]) (hF g9 <| kE y7_0 (0 : Int) w8) (bM (.cells (Zl Ze 1 [] ([(⟨(L1.getD 0 RL.z).a0, (L1.getD 0 RL.z).a1, (L1.getD 0 RL.z).a2, (L1.getD 0 RL.z).a3, (L1.getD 0 RL.z).a4, (L1.getD 0 RL.z).a5, (L1.getD 0 RL.z).a6, (L1.getD 0 RL.z).a7, (L1.getD 0 RL.z).a8, y7_0, y7_1, y7_2, (L1.getD 0 RL.z).a12, (L1.getD 0 RL.z).a13, (L1.getD 0 RL.z).a14, (L1.getD 0 RL.z).a15⟩ : RL)] : List RL) [vn, vi a2, Value.bool b3, Value.bool b4, vi a5, vi a6, vi a7, vi a8, vp 1 0, vi a9, Value.func (.func 181) #[] #[]]) 141) <| bM (.cells (κq a11 L12 a13 a14 a15 a16 a17 a18 a19) 132) <| bS (κr a20 L21 L22) <| bS (κP L23 L24) <| bS [vi a25, vi a26, vi a27] <| bM (κY a28 L29) <| bR <| bR <| bR <| bR <| bE)
   ·
    refine Zd (fun g6 => ?_) (fun _ => ?_)
    ·
     subst g6
     refine ZY (fun z7 c7 => ?_)
     cases z7 with
     | r0 y7_0 y7_1 y7_2 y7_3 y7_4 y7_5 =>
      refine Zd (fun g8 => ?_) (fun g8 => ?_)
      ·
       subst g8
       refine Zd (fun _ => Zw) (fun g9 => ?_)
       refine ZY (fun z10 c10 => ?_)
       cases z10 with
       | r0 y10_0 y10_1 y10_2 =>
        exact fxC (Zh (oq [11, 14, 19, 22]) [] [] [] [(0, (Z4 c7 [2, 6, 7] 13).t), (2, (Zy c10 [2, 6, 7] 14).t)]) (rg 0 10 []) (Value.tuple #[Value.agg #[vi (4 : Int), vi a9, vi (L1.getD 0 RL.z).a1, vi (L1.getD 0 RL.z).a2, vi (L1.getD 0 RL.z).a3, vq], vf]) (kF ((L1.getD 0 RL.z).a0) (3 : Int) <| kK (Zb5 c10 [2, 6, 7] 14) <| kY (a11 > (0 : Int)) <| hF g9 <| kK (Zaq c7 [2, 6, 7] 13) <| kY (a11 > (0 : Int)) Zs) (bM (.cells (Zl Ze 1 [] ([(⟨(L1.getD 0 RL.z).a0, (L1.getD 0 RL.z).a1, (L1.getD 0 RL.z).a2, (L1.getD 0 RL.z).a3, (L1.getD 0 RL.z).a4, (L1.getD 0 RL.z).a5, (L1.getD 0 RL.z).a6, (L1.getD 0 RL.z).a7, (L1.getD 0 RL.z).a8, (L1.getD 0 RL.z).a9, (L1.getD 0 RL.z).a10, (L1.getD 0 RL.z).a11, y10_0, y10_1, y10_2, (L1.getD 0 RL.z).a15⟩ : RL)] : List RL) [vn, vi a2, Value.bool b3, Value.bool b4, vi a0, vi a6, vi a7, vi a8, vp 1 0, vi a9, Value.func (.func 190) #[] #[]]) 141) <| bM (.cells (κq a11 L12 a13 a14 a15 a16 a17 a18 a19) 132) <| bS (κr a20 L21 L22) <| bS (κP L23 L24) <| bS [vi a25, vi a26, vi a27] <| bM (κY a28 L29) <| bR <| bR <| bR <| bR <| bE)
      ·
       obtain rfl : y7_5 = false := by simpa using g8
       refine ZY (fun z9 c9 => ?_)
       cases z9 with
       | r0 y9_0 y9_1 y9_2 =>
        exact fxC (Zh (oq [11, 17, 20]) [] [] [] [(0, (Z4 c7 [2, 6, 7] 13).t), (2, (Zy c9 [2, 6, 7] 14).t)]) (rg 0 10 []) (Value.tuple #[Value.agg #[vi (4 : Int), vi a9, vi (L1.getD 0 RL.z).a1, vi (L1.getD 0 RL.z).a2, vi (L1.getD 0 RL.z).a3, vq], vf]) (kF ((L1.getD 0 RL.z).a0) (3 : Int) <| kK (Zb5 c9 [2, 6, 7] 14) <| kY (a11 > (0 : Int)) <| kK (Zaq c7 [2, 6, 7] 13) <| kY (a11 > (0 : Int)) Zs) (bM (.cells (Zl Ze 1 [] ([(⟨(L1.getD 0 RL.z).a0, (L1.getD 0 RL.z).a1, (L1.getD 0 RL.z).a2, (L1.getD 0 RL.z).a3, (L1.getD 0 RL.z).a4, (L1.getD 0 RL.z).a5, (L1.getD 0 RL.z).a6, (L1.getD 0 RL.z).a7, (L1.getD 0 RL.z).a8, (L1.getD 0 RL.z).a9, (L1.getD 0 RL.z).a10, (L1.getD 0 RL.z).a11, y9_0, y9_1, y9_2, (L1.getD 0 RL.z).a15⟩ : RL)] : List RL) [vn, vi a2, Value.bool b3, Value.bool b4, vi a0, vi a6, vi a7, vi a8, vp 1 0, vi a9, Value.func (.func 190) #[] #[]]) 141) <| bM (.cells (κq a11 L12 a13 a14 a15 a16 a17 a18 a19) 132) <| bS (κr a20 L21 L22) <| bS (κP L23 L24) <| bS [vi a25, vi a26, vi a27] <| bM (κY a28 L29) <| bR <| bR <| bR <| bR <| bE)
    ·
     refine Zd (fun g6 => ?_) (fun _ => ?_)
     ·
      subst g6
      refine ZY (fun z7 c7 => ?_)
      cases z7 with
      | r0 y7_0 y7_1 y7_2 =>
       have w8 := kK (ZF c7 [3, 8, 9] 12) <| kY (a11 > (0 : Int)) Zs
       refine Zd (fun g8 => ?_) (fun g8 => ?_)
       ·
        exact fxC (Zh (oq [11, 15]) [] [] [] [(0, (Z1 c7 [3, 8, 9] 12).t)]) (rg 0 10 []) (Value.tuple #[Value.agg #[vi (3 : Int), vi a9, vq, vq, vq, vq], vf]) (kX ((!((y7_0 == (L1.getD 0 RL.z).a9) && ((y7_1 == (L1.getD 0 RL.z).a10) && ((y7_2 == (L1.getD 0 RL.z).a11) && true))))) true (by rw [Bool.not_eq_true']; exact Bool.eq_false_iff.2 (by simp only [ne_eq, Bool.and_true, Bool.and_eq_true, beq_iff_eq]; first | omega | (intro hh; simp_all; done) | (intro hh; grind))) w8) (bM (.cells (Zl Ze 1 [] L1 [vn, vi a2, Value.bool b3, Value.bool b4, vi a5, vi a6, vi a7, vi a8, vp 1 0, vi a9, Value.func (.func 160) #[] #[]]) 141) <| bM (.cells (κq a11 L12 a13 a14 a15 a16 a17 a18 a19) 132) <| bS (κr a20 L21 L22) <| bS (κP L23 L24) <| bS [vi a25, vi a26, vi a27] <| bM (κY a28 L29) <| bR <| bR <| bR <| bR <| bE)
       ·
        have w9 := kX ((!((y7_0 == (L1.getD 0 RL.z).a9) && ((y7_1 == (L1.getD 0 RL.z).a10) && ((y7_2 == (L1.getD 0 RL.z).a11) && true))))) false (by rw [Bool.not_eq_false']; first | (simp only [beq_self_eq_true, Bool.and_self]; done) | (simp only [Bool.and_true, Bool.and_eq_true, beq_iff_eq] <;> first | omega | (simp_all; done) | grind)) w8
        refine Zd (fun g9 => ?_) (fun g9 => ?_)
        ·
         exact fxC (Zh (oq [11, 14, 17]) [] [] [] [(0, (Z1 c7 [3, 8, 9] 12).t)]) (rg 0 10 []) (Value.tuple #[Value.agg #[vi (3 : Int), vi a9, vq, vq, vq, vq], vT]) (hD g9 w9) (bM (.cells (Zl Ze 1 [] L1 [vn, vi a2, Value.bool b3, vT, vi a5, vq, vq, vi (L1.getD 0 RL.z).a14, vp 1 0, vi a9, Value.nilFunc]) 141) <| bM (.cells (κq a11 L12 a13 a14 a15 a16 a17 a18 a19) 132) <| bS (κr a20 L21 L22) <| bS (κP L23 L24) <| bS [vi a25, vi a26, vi a27] <| bM (κY a28 L29) <| bR <| bR <| bR <| bR <| bE)
        ·
         exact fxC (Zh (oq [11, 14, 16]) [] [] [] [(0, (Z1 c7 [3, 8, 9] 12).t)]) (rg 0 10 []) (Value.tuple #[Value.agg #[vi (3 : Int), vi a9, vq, vq, vq, vq], vT]) (kE ((L1.getD 0 RL.z).a14) (0 : Int) w9) (bM (.cells (Zl Ze 1 [] L1 [vn, vi a2, Value.bool b3, vT, vi a5, vi (L1.getD 0 RL.z).a12, vi (L1.getD 0 RL.z).a13, vi (L1.getD 0 RL.z).a14, vp 1 0, vi a9, Value.nilFunc]) 141) <| bM (.cells (κq a11 L12 a13 a14 a15 a16 a17 a18 a19) 132) <| bS (κr a20 L21 L22) <| bS (κP L23 L24) <| bS [vi a25, vi a26, vi a27] <| bM (κY a28 L29) <| bR <| bR <| bR <| bR <| bE)
     ·
      refine Zd (fun g6 => ?_) (fun _ => ?_)
      ·
       subst g6
       refine ZY (fun z7 c7 => ?_)
       cases z7 with
       | r0 y7_0 y7_1 y7_2 =>
        refine Zd (fun g8 => ?_) (fun g8 => ?_)
        ·
         subst g8
         exact fxC (Zh (oq [11]) [] [] [] [(1, (Za6 c7 [3, 8, 9] 12).t)]) (rg 0 10 []) (Value.tuple #[Value.agg #[vi (6 : Int), vi a9, vq, vq, vq, vq], vf]) (kK (ZbN c7 [3, 8, 9] 12) <| kY (a11 > (0 : Int)) Zs) (bM (.cells (Zl Ze 1 [] L1 [vn, vi a2, Value.bool b3, Value.bool b4, vi a5, vi a6, vi a7, vi a8, vp 1 0, vi a9, Value.func (.func 191) #[] #[]]) 141) <| bM (.cells (κq a11 L12 a13 a14 a15 a16 a17 a18 a19) 132) <| bS (κr a20 L21 L22) <| bS [vs 8 0 y7_0.length y7_0.length, vs 9 0 y7_1.length y7_1.length] <| bS [vi a25, vi a26, vi a27] <| bM (κY a28 L29) <| bR <| bR <| bR <| bR <| bE)
        ·
         obtain rfl : y7_2 = false := by simpa using g8
         exact fxC (Zh (oq [11]) [] [] [] [(1, (Za6 c7 [3, 8, 9] 12).t)]) (rg 0 10 []) (Value.tuple #[Value.agg #[vi (6 : Int), vi a9, vq, vq, vq, vq], vf]) (kK (ZbN c7 [3, 8, 9] 12) <| kY (a11 > (0 : Int)) Zs) (bM (.cells (Zl Ze 1 [] L1 [vn, vi a2, Value.bool b3, Value.bool b4, vi a5, vi a6, vi a7, vi a8, vp 1 0, vi a9, Value.func (.func 160) #[] #[]]) 141) <| bM (.cells (κq a11 L12 a13 a14 a15 a16 a17 a18 a19) 132) <| bS (κr a20 L21 L22) <| bS [vs 8 0 y7_0.length y7_0.length, vs 9 0 y7_1.length y7_1.length] <| bS [vi a25, vi a26, vi a27] <| bM (κY a28 L29) <| bR <| bR <| bR <| bR <| bE)
      ·
       refine Zd (fun g6 => ?_) (fun _ => ?_)
       ·
        subst g6
        have w7 := kY (a11 > (0 : Int)) Zs
        refine ZY (fun z7 c7 => ?_)
        cases z7 with
        | r0 y7_0 y7_1 y7_2 y7_3 y7_4 y7_5 =>
         refine Zd (fun g8 => ?_) (fun g8 => ?_)
         ·
          subst g8
          have w9 := kK (Zaq c7 [2, 6, 7] 13) w7
          refine Zd (fun _ => Zw) (fun g9 => ?_)
          refine ZY (fun z10 c10 => ?_)
          cases z10 with
          | r0 y10_0 y10_1 y10_2 =>
           have w11 := kK (Zb5 c10 [2, 6, 7] 14) <| kY (a11 > (0 : Int)) <| hF g9 w9
           refine Zd (fun g11 => ?_) (fun g11 => ?_)
           ·
            have w12 := kY (a25 > (0 : Int)) <| kY (a25 > (0 : Int)) <| kY (a11 > (0 : Int)) <| hT g11 w11
            refine Zd (fun g12 => ?_) (fun g12 => ?_)
            ·
             exact fxC (Zh (oq [11, 14, 19, 23, 27, 33, 39, 43]) [] [] [] [(0, (Z4 c7 [2, 6, 7] 13).t), (2, (Zy c10 [2, 6, 7] 14).t)]) (rg 0 10 []) (Value.tuple #[Value.agg #[vi (5 : Int), vi a9, vi (L1.getD 0 RL.z).a1, vi (L1.getD 0 RL.z).a2, vi (L1.getD 0 RL.z).a3, vq], vf]) (hT g12 w12) (bM (.cells (Zl Ze 1 [] ([(⟨(L1.getD 0 RL.z).a0, (L1.getD 0 RL.z).a1, (L1.getD 0 RL.z).a2, (L1.getD 0 RL.z).a3, (L1.getD 0 RL.z).a4, (L1.getD 0 RL.z).a5, (L1.getD 0 RL.z).a6, (L1.getD 0 RL.z).a7, (L1.getD 0 RL.z).a8, (L1.getD 0 RL.z).a9, (L1.getD 0 RL.z).a10, (L1.getD 0 RL.z).a11, y10_0, y10_1, (40 : Int), (L1.getD 0 RL.z).a15⟩ : RL)] : List RL) [vn, vi (L1.getD 0 RL.z).a10, vf, vT, vi a0, vq, vq, vi (40 : Int), vp 1 0, vi a9, Value.func (.func 196) #[] #[]]) 141) <| bM (.cells (κq a11 L12 a13 a14 a15 a16 a17 a18 a19) 132) <| bS (κr a20 L21 L22) <| bS (κP L23 L24) <| bS [vi a25, vi a26, vi a27] <| bM (κY a28 L29) <| bR <| bR <| bR <| bR <| bE)
            ·
             refine ZY (fun z13 c13 => ?_)
             cases z13 with
             | r0 y13_0 y13_1 =>
              have w14 := kK (Zee c13 [2, 6, 7] 14) <| kY (a11 > (0 : Int)) <| hT g11 <| hF g12 w12
              refine Zd (fun g14 => ?_) (fun g14 => ?_)
              ·
               exact fxC (Zh (oq [11, 14, 19, 23, 27, 33, 39, 42, 45, 49, 53]) [] [] [] [(0, (Z4 c7 [2, 6, 7] 13).t), (2, (Zy c10 [2, 6, 7] 14).t), (7, (Zbn c13 [2, 6, 7] 14).t)]) (rg 0 10 []) (Value.tuple #[Value.agg #[vi (5 : Int), vi a9, vi (L1.getD 0 RL.z).a1, vi (L1.getD 0 RL.z).a2, vi (L1.getD 0 RL.z).a3, vq], vf]) (hT g14 w14) (bM (.cells (Zl Ze 1 [] ([(⟨(L1.getD 0 RL.z).a0, (L1.getD 0 RL.z).a1, (L1.getD 0 RL.z).a2, (L1.getD 0 RL.z).a3, (L1.getD 0 RL.z).a4, (L1.getD 0 RL.z).a5, (L1.getD 0 RL.z).a6, (L1.getD 0 RL.z).a7, (L1.getD 0 RL.z).a8, (L1.getD 0 RL.z).a9, (L1.getD 0 RL.z).a10, (L1.getD 0 RL.z).a11, y10_0, y10_1, y13_1, (L1.getD 0 RL.z).a15⟩ : RL)] : List RL) [vn, vi a2, vT, Value.bool b4, vi a5, vi a6, vi a7, vi a8, vp 1 0, vi a9, Value.func (.func 195) #[] #[]]) 141) <| bM (.cells (κq a11 L12 a13 a14 a15 a16 a17 a18 a19) 132) <| bS [vi a20, vs 6 0 L21.length L21.length, vs 7 0 y13_0.length y13_0.length, vn, vn, vn, vn, vn, vn, vn, vn, vn, vn, vn, vn, vn, vn, vn, vn, vn] <| bS (κP L23 L24) <| bS [vi a25, vi a26, vi a27] <| bM (κY a28 L29) <| bR <| bR <| bR <| bR <| bE)
              ·
               exact fxC (Zh (oq [11, 14, 19, 23, 27, 33, 39, 42, 45, 49, 52, 59]) [] [] [] [(0, (Z4 c7 [2, 6, 7] 13).t), (2, (Zy c10 [2, 6, 7] 14).t), (7, (Zbn c13 [2, 6, 7] 14).t)]) (rg 0 10 []) (Value.tuple #[Value.agg #[vi (5 : Int), vi a9, vi (L1.getD 0 RL.z).a1, vi (L1.getD 0 RL.z).a2, vi (L1.getD 0 RL.z).a3, vq], vf]) (hD g14 <| hF g14 w14) (bM (.cells (Zl Ze 1 [] ([(⟨(L1.getD 0 RL.z).a0, (L1.getD 0 RL.z).a1, (L1.getD 0 RL.z).a2, (L1.getD 0 RL.z).a3, (L1.getD 0 RL.z).a4, (L1.getD 0 RL.z).a5, (L1.getD 0 RL.z).a6, (L1.getD 0 RL.z).a7, (L1.getD 0 RL.z).a8, (L1.getD 0 RL.z).a9, (L1.getD 0 RL.z).a10, (L1.getD 0 RL.z).a11, y10_0, y10_1, y13_1, (L1.getD 0 RL.z).a15⟩ : RL)] : List RL) [vn, vi (L1.getD 0 RL.z).a10, vf, vT, vi a0, vq, vq, vi y13_1, vp 1 0, vi a9, Value.func (.func 196) #[] #[]]) 141) <| bM (.cells (κq a11 L12 a13 a14 a15 a16 a17 a18 a19) 132) <| bS [vi a20, vs 6 0 L21.length L21.length, vs 7 0 y13_0.length y13_0.length, vn, vn, vn, vn, vn, vn, vn, vn, vn, vn, vn, vn, vn, vn, vn, vn, vn] <| bS (κP L23 L24) <| bS [vi a25, vi a26, vi a27] <| bM (κY a28 L29) <| bR <| bR <| bR <| bR <| bE)
           ·
            exact fxC (Zh (oq [11, 14, 19, 22, 24, 26, 33]) [] [] [] [(0, (Z4 c7 [2, 6, 7] 13).t), (2, (Zy c10 [2, 6, 7] 14).t)]) (rg 0 10 []) (Value.tuple #[Value.agg #[vi (5 : Int), vi a9, vi (L1.getD 0 RL.z).a1, vi (L1.getD 0 RL.z).a2, vi (L1.getD 0 RL.z).a3, vq], vf]) (hD g11 <| hF g11 <| hF g11 <| hF g11 w11) (bM (.cells (Zl Ze 1 [] ([(⟨(L1.getD 0 RL.z).a0, (L1.getD 0 RL.z).a1, (L1.getD 0 RL.z).a2, (L1.getD 0 RL.z).a3, (L1.getD 0 RL.z).a4, (L1.getD 0 RL.z).a5, (L1.getD 0 RL.z).a6, (L1.getD 0 RL.z).a7, (L1.getD 0 RL.z).a8, (L1.getD 0 RL.z).a9, (L1.getD 0 RL.z).a10, (L1.getD 0 RL.z).a11, y10_0, y10_1, y10_2, (L1.getD 0 RL.z).a15⟩ : RL)] : List RL) [vn, vi (L1.getD 0 RL.z).a10, vf, vT, vi a0, vq, vq, vi y10_2, vp 1 0, vi a9, Value.func (.func 196) #[] #[]]) 141) <| bM (.cells (κq a11 L12 a13 a14 a15 a16 a17 a18 a19) 132) <| bS (κr a20 L21 L22) <| bS (κP L23 L24) <| bS [vi a25, vi a26, vi a27] <| bM (κY a28 L29) <| bR <| bR <| bR <| bR <| bE)
         ·
          obtain rfl : y7_5 = false := by simpa using g8
          have w9 := kY (a11 > (0 : Int)) <| kK (Zaq c7 [2, 6, 7] 13) w7
          refine ZY (fun z9 c9 => ?_)
          cases z9 with
          | r0 y9_0 y9_1 y9_2 =>
           have w10 := kK (Zb5 c9 [2, 6, 7] 14) w9
           refine Zd (fun g10 => ?_) (fun g10 => ?_)
           ·
            have w11 := kY (a25 > (0 : Int)) <| kY (a25 > (0 : Int)) <| kY (a11 > (0 : Int)) <| hT g10 w10
            refine Zd (fun g11 => ?_) (fun g11 => ?_)
            ·
             exact fxC (Zh (oq [11, 17, 21, 25, 31, 37, 41]) [] [] [] [(0, (Z4 c7 [2, 6, 7] 13).t), (2, (Zy c9 [2, 6, 7] 14).t)]) (rg 0 10 []) (Value.tuple #[Value.agg #[vi (5 : Int), vi a9, vi (L1.getD 0 RL.z).a1, vi (L1.getD 0 RL.z).a2, vi (L1.getD 0 RL.z).a3, vq], vf]) (hT g11 w11) (bM (.cells (Zl Ze 1 [] ([(⟨(L1.getD 0 RL.z).a0, (L1.getD 0 RL.z).a1, (L1.getD 0 RL.z).a2, (L1.getD 0 RL.z).a3, (L1.getD 0 RL.z).a4, (L1.getD 0 RL.z).a5, (L1.getD 0 RL.z).a6, (L1.getD 0 RL.z).a7, (L1.getD 0 RL.z).a8, (L1.getD 0 RL.z).a9, (L1.getD 0 RL.z).a10, (L1.getD 0 RL.z).a11, y9_0, y9_1, (40 : Int), (L1.getD 0 RL.z).a15⟩ : RL)] : List RL) [vn, vi (L1.getD 0 RL.z).a10, vf, vT, vi a0, vq, vq, vi (40 : Int), vp 1 0, vi a9, Value.func (.func 196) #[] #[]]) 141) <| bM (.cells (κq a11 L12 a13 a14 a15 a16 a17 a18 a19) 132) <| bS (κr a20 L21 L22) <| bS (κP L23 L24) <| bS [vi a25, vi a26, vi a27] <| bM (κY a28 L29) <| bR <| bR <| bR <| bR <| bE)
            ·
             refine ZY (fun z12 c12 => ?_)
             cases z12 with
             | r0 y12_0 y12_1 =>
              have w13 := kK (Zee c12 [2, 6, 7] 14) <| kY (a11 > (0 : Int)) <| hT g10 <| hF g11 w11
              refine Zd (fun g13 => ?_) (fun g13 => ?_)
              ·
               exact fxC (Zh (oq [11, 17, 21, 25, 31, 37, 40, 43, 47, 51]) [] [] [] [(0, (Z4 c7 [2, 6, 7] 13).t), (2, (Zy c9 [2, 6, 7] 14).t), (7, (Zbn c12 [2, 6, 7] 14).t)]) (rg 0 10 []) (Value.tuple #[Value.agg #[vi (5 : Int), vi a9, vi (L1.getD 0 RL.z).a1, vi (L1.getD 0 RL.z).a2, vi (L1.getD 0 RL.z).a3, vq], vf]) (hT g13 w13) (bM (.cells (Zl Ze 1 [] ([(⟨(L1.getD 0 RL.z).a0, (L1.getD 0 RL.z).a1, (L1.getD 0 RL.z).a2, (L1.getD 0 RL.z).a3, (L1.getD 0 RL.z).a4, (L1.getD 0 RL.z).a5, (L1.getD 0 RL.z).a6, (L1.getD 0 RL.z).a7, (L1.getD 0 RL.z).a8, (L1.getD 0 RL.z).a9, (L1.getD 0 RL.z).a10, (L1.getD 0 RL.z).a11, y9_0, y9_1, y12_1, (L1.getD 0 RL.z).a15⟩ : RL)] : List RL) [vn, vi a2, vT, Value.bool b4, vi a5, vi a6, vi a7, vi a8, vp 1 0, vi a9, Value.func (.func 195) #[] #[]]) 141) <| bM (.cells (κq a11 L12 a13 a14 a15 a16 a17 a18 a19) 132) <| bS [vi a20, vs 6 0 L21.length L21.length, vs 7 0 y12_0.length y12_0.length, vn, vn, vn, vn, vn, vn, vn, vn, vn, vn, vn, vn, vn, vn, vn, vn, vn] <| bS (κP L23 L24) <| bS [vi a25, vi a26, vi a27] <| bM (κY a28 L29) <| bR <| bR <| bR <| bR <| bE)
              ·
               exact fxC (Zh (oq [11, 17, 21, 25, 31, 37, 40, 43, 47, 50, 57]) [] [] [] [(0, (Z4 c7 [2, 6, 7] 13).t), (2, (Zy c9 [2, 6, 7] 14).t), (7, (Zbn c12 [2, 6, 7] 14).t)]) (rg 0 10 []) (Value.tuple #[Value.agg #[vi (5 : Int), vi a9, vi (L1.getD 0 RL.z).a1, vi (L1.getD 0 RL.z).a2, vi (L1.getD 0 RL.z).a3, vq], vf]) (hD g13 <| hF g13 w13) (bM (.cells (Zl Ze 1 [] ([(⟨(L1.getD 0 RL.z).a0, (L1.getD 0 RL.z).a1, (L1.getD 0 RL.z).a2, (L1.getD 0 RL.z).a3, (L1.getD 0 RL.z).a4, (L1.getD 0 RL.z).a5, (L1.getD 0 RL.z).a6, (L1.getD 0 RL.z).a7, (L1.getD 0 RL.z).a8, (L1.getD 0 RL.z).a9, (L1.getD 0 RL.z).a10, (L1.getD 0 RL.z).a11, y9_0, y9_1, y12_1, (L1.getD 0 RL.z).a15⟩ : RL)] : List RL) [vn, vi (L1.getD 0 RL.z).a10, vf, vT, vi a0, vq, vq, vi y12_1, vp 1 0, vi a9, Value.func (.func 196) #[] #[]]) 141) <| bM (.cells (κq a11 L12 a13 a14 a15 a16 a17 a18 a19) 132) <| bS [vi a20, vs 6 0 L21.length L21.length, vs 7 0 y12_0.length y12_0.length, vn, vn, vn, vn, vn, vn, vn, vn, vn, vn, vn, vn, vn, vn, vn, vn, vn] <| bS (κP L23 L24) <| bS [vi a25, vi a26, vi a27] <| bM (κY a28 L29) <| bR <| bR <| bR <| bR <| bE)
           ·
            exact fxC (Zh (oq [11, 17, 20, 22, 24, 31]) [] [] [] [(0, (Z4 c7 [2, 6, 7] 13).t), (2, (Zy c9 [2, 6, 7] 14).t)]) (rg 0 10 []) (Value.tuple #[Value.agg #[vi (5 : Int), vi a9, vi (L1.getD 0 RL.z).a1, vi (L1.getD 0 RL.z).a2, vi (L1.getD 0 RL.z).a3, vq], vf]) (hD g10 <| hF g10 <| hF g10 <| hF g10 w10) (bM (.cells (Zl Ze 1 [] ([(⟨(L1.getD 0 RL.z).a0, (L1.getD 0 RL.z).a1, (L1.getD 0 RL.z).a2, (L1.getD 0 RL.z).a3, (L1.getD 0 RL.z).a4, (L1.getD 0 RL.z).a5, (L1.getD 0 RL.z).a6, (L1.getD 0 RL.z).a7, (L1.getD 0 RL.z).a8, (L1.getD 0 RL.z).a9, (L1.getD 0 RL.z).a10, (L1.getD 0 RL.z).a11, y9_0, y9_1, y9_2, (L1.getD 0 RL.z).a15⟩ : RL)] : List RL) [vn, vi (L1.getD 0 RL.z).a10, vf, vT, vi a0, vq, vq, vi y9_2, vp 1 0, vi a9, Value.func (.func 196) #[] #[]]) 141) <| bM (.cells (κq a11 L12 a13 a14 a15 a16 a17 a18 a19) 132) <| bS (κr a20 L21 L22) <| bS (κP L23 L24) <| bS [vi a25, vi a26, vi a27] <| bM (κY a28 L29) <| bR <| bR <| bR <| bR <| bE)
       ·
        refine Zd (fun g6 => ?_) (fun _ => ?_)
        ·
         subst g6
         exact fxC (Zh (oq [11, 17]) [] [] [] []) (rg 0 10 []) (Value.tuple #[Value.agg #[vi (8 : Int), vi a9, vq, vq, vq, vq], vf]) (kY (a25 > (0 : Int)) <| kY (a11 > (0 : Int)) Zs) (bM (.cells (Zl Ze 1 [] L1 [vn, vi (i64.wrap (a26 + (1 : Int))), Value.bool b3, vT, vi a0, vq, vq, vq, vp 1 0, vi a9, Value.func (.func 196) #[] #[]]) 141) <| bM (.cells (κq a11 L12 a13 a14 a15 a16 a17 a18 a19) 132) <| bS (κr a20 L21 L22) <| bS (κP L23 L24) <| bS [vi a25, vi (i64.wrap (a26 + (1 : Int))), vi a27] <| bM (κY a28 L29) <| bR <| bR <| bR <| bR <| bE)
        ·
         refine Zd (fun g6 => ?_) (fun _ => Zw)
         ·
          subst g6
          refine ZY (fun z7 c7 => ?_)
          cases z7 with
          | r0 y7_0 y7_1 =>
           exact fxC (Zh (oq [11]) [] [] [] [(0, (Zbe c7 [3, 8, 9] 12).t)]) (rg 0 10 []) (Value.tuple #[Value.agg #[vi (7 : Int), vi a9, vq, vq, vq, vq], vT]) (kK (ZcR c7 [3, 8, 9] 12) <| kY (a11 > (0 : Int)) Zs) (bM (.cells (Zl Ze 1 [] L1 [vn, vi a2, Value.bool b3, Value.bool b4, vi a5, vi a6, vi a7, vi a8, vp 1 0, vi a9, Value.nilFunc]) 141) <| bM (.cells (κq a11 L12 a13 a14 a15 a16 a17 a18 a19) 132) <| bS (κr a20 L21 L22) <| bS [vs 8 0 y7_0.length y7_0.length, vs 9 0 L24.length L24.length] <| bS [vi a25, vi a26, vi a27] <| bM (κY a28 L29) <| bR <| bR <| bR <| bR <| bE)

theorem Zfx (a0 : Int) (L1 : List RL) (a2 : Int) (b3 b4 : Bool) (a5 a6 a7 a8 a9 a10 a11 : Int) (L12 : List RG) (a13 a14 a15 a16 a17 a18 a19 a20 : Int) (L21 : List RJ) (L22 : List RH) (L23 L24 : List Int) (a25 a26 a27 a28 : Int) (L29 : List Int) (N : Nat) (r : Zr) (h : Zz a0 L1 a2 b3 b4 a5 a6 a7 a8 a9 a10 a11 L12 a13 a14 a15 a16 a17 a18 a19 a20 L21 L22 L23 L24 a25 a26 a27 a28 L29 N = some r) : LSpec Tryz.prog 20 #[vp 0 0, vi a0] [.cells (Zl Ze 1 [] L1 [vn, vi a2, Value.bool b3, Value.bool b4, vi a5, vi a6, vi a7, vi a8, vp 1 0, vi a9, (fnV a10)]) 141, .cells (κq a11 L12 a13 a14 a15 a16 a17 a18 a19) 132, .cells (κr a20 L21 L22) 154, .cells (κP L23 L24) 191, .cells [vi a25, vi a26, vi a27] 208, .cells (Zl eI 64 [vi a28] L29 []) 211, .cells (Zc RD L21) 57, .cells (Zc RB L22) 42, .cells (Zc eI L23) 188, .cells (Zc eI L24) 188] (ZdU a0 L1 a2 b3 b4 a5 a6 a7 a8 a9 a10 a11 L12 a13 a14 a15 a16 a17 a18 a19 a20 L21 L22 L23 L24 a25 a26 a27 a28 L29 r) (Zds a0 L1 a2 b3 b4 a5 a6 a7 a8 a9 a10 a11 L12 a13 a14 a15 a16 a17 a18 a19 a20 L21 L22 L23 L24 a25 a26 a27 a28 L29 r) :=
 ZaB ZaW Tryz.func20 (by kernel_rfl) (by kernel_rfl) (fun r => by cases r <;> exact ZaP _ rfl) (Zgr a0 L1 a2 b3 b4 a5 a6 a7 a8 a9 a10 a11 L12 a13 a14 a15 a16 a17 a18 a19 a20 L21 L22 L23 L24 a25 a26 a27 a28 L29 N) h

noncomputable def Zb7 {a0 : Int} {L1 : List RL} {a2 : Int} {b3 : Bool} {b4 : Bool} {a5 : Int} {a6 : Int} {a7 : Int} {a8 : Int} {a9 : Int} {a10 : Int} {a11 : Int} {L12 : List RG} {a13 : Int} {a14 : Int} {a15 : Int} {a16 : Int} {a17 : Int} {a18 : Int} {a19 : Int} {a20 : Int} {L21 : List RJ} {L22 : List RH} {L23 : List Int} {L24 : List Int} {a25 : Int} {a26 : Int} {a27 : Int} {a28 : Int} {L29 : List Int} {w1 : List RH} {w2 : List Int} {w3 : List Int} {w4 : Int} {w5 : Int} {w6 : Int} {w7 : Int} {w8 : Int} {w10 : Bool} {w11 : List RL} {w12 : Int} {w13 : Bool} {w14 : Bool} {w15 : Int} {w16 : Int} {w17 : Int} {w18 : Int} {w20 : Int} {w32 : Int} {N : Nat} (h : Zz a0 L1 a2 b3 b4 a5 a6 a7 a8 a9 a10 a11 L12 a13 a14 a15 a16 a17 a18 a19 a20 L21 L22 L23 L24 a25 a26 a27 a28 L29 N = some (.r0 w1 w2 w3 w4 w5 w6 w7 w8 w10 w11 w12 w13 w14 w15 w16 w17 w18 w20 w32)) (ks : List Nat) (n : Nat) : ToldS := ⟨#[vp (nth ks 0) 0, vi a0], [((nth ks 0), .cells (Zl Ze 1 [] L1 [vn, vi a2, Value.bool b3, Value.bool b4, vi a5, vi a6, vi a7, vi a8, vp (nth ks 1) 0, vi a9, (fnV a10)]) 141), ((nth ks 1), .cells (Zl Zdl 64 [vi a11] L12 [vi a13, vi a14, vi a15, vi a16, vi a17, vi a18, vi a19, vp (nth ks 2) 0, vp (nth ks 3) 0, vp (nth ks 4) 0, vp (nth ks 5) 0]) 132), ((nth ks 2), .cells [vi a20, vs (nth ks 6) 0 L21.length L21.length, vs (nth ks 7) 0 L22.length L22.length, vn, vn, vn, vn, vn, vn, vn, vn, vn, vn, vn, vn, vn, vn, vn, vn, vn] 154), ((nth ks 3), .cells [vs (nth ks 8) 0 L23.length L23.length, vs (nth ks 9) 0 L24.length L24.length] 191), ((nth ks 4), .cells [vi a25, vi a26, vi a27] 208), ((nth ks 5), .cells (Zl eI 64 [vi a28] L29 []) 211), ((nth ks 6), .cells (Zc RD L21) 57), ((nth ks 7), .cells (Zc RB L22) 42), ((nth ks 8), .cells (Zc eI L23) 188), ((nth ks 9), .cells (Zc eI L24) 188)], Value.tuple #[Value.agg #[vi w4, vi w5, vi w6, vi w7, vi w8, vq], Value.bool w10], [((nth ks 0), some (.cells (Zl Ze 1 [] w11 [vn, vi w12, Value.bool w13, Value.bool w14, vi w15, vi w16, vi w17, vi w18, vp (nth ks 1) 0, vi a9, (fnV w20)]) 141)), ((nth ks 2), some (.cells [vi a20, vs (nth ks 6) 0 L21.length L21.length, vs (nth ks 7) 0 w1.length w1.length, vn, vn, vn, vn, vn, vn, vn, vn, vn, vn, vn, vn, vn, vn, vn, vn, vn] 154)), ((nth ks 3), some (.cells [vs (nth ks 8) 0 w2.length w2.length, vs (nth ks 9) 0 w3.length w3.length] 191)), ((nth ks 4), some (.cells [vi a25, vi w32, vi a27] 208)), ((nth ks 7), some (.cells (Zc RB w1) 42)), ((nth ks 8), some (.cells (Zc eI w2) 188)), ((nth ks 9), some (.cells (Zc eI w3) 188))], 0⟩

theorem Zcs {a0 : Int} {L1 : List RL} {a2 : Int} {b3 : Bool} {b4 : Bool} {a5 : Int} {a6 : Int} {a7 : Int} {a8 : Int} {a9 : Int} {a10 : Int} {a11 : Int} {L12 : List RG} {a13 : Int} {a14 : Int} {a15 : Int} {a16 : Int} {a17 : Int} {a18 : Int} {a19 : Int} {a20 : Int} {L21 : List RJ} {L22 : List RH} {L23 : List Int} {L24 : List Int} {a25 : Int} {a26 : Int} {a27 : Int} {a28 : Int} {L29 : List Int} {w1 : List RH} {w2 : List Int} {w3 : List Int} {w4 : Int} {w5 : Int} {w6 : Int} {w7 : Int} {w8 : Int} {w10 : Bool} {w11 : List RL} {w12 : Int} {w13 : Bool} {w14 : Bool} {w15 : Int} {w16 : Int} {w17 : Int} {w18 : Int} {w20 : Int} {w32 : Int} {N : Nat} (h : Zz a0 L1 a2 b3 b4 a5 a6 a7 a8 a9 a10 a11 L12 a13 a14 a15 a16 a17 a18 a19 a20 L21 L22 L23 L24 a25 a26 a27 a28 L29 N = some (.r0 w1 w2 w3 w4 w5 w6 w7 w8 w10 w11 w12 w13 w14 w15 w16 w17 w18 w20 w32)) (ks : List Nat) (n : Nat) (hk : ks.length = 10 := by rfl) (hnd : ks.Nodup := by decide +kernel) (hlt : ∀ k ∈ ks, k < n := by decide +kernel) : (Zb7 (N := N)  h ks n).P Tryz.prog 20 n :=
 match ks, hk, hnd, hlt with
 | [k0, k1, k2, k3, k4, k5, k6, k7, k8, k9], _, hnd, hlt => ZnR (show LSpec Tryz.prog 20 #[vp 0 0, vi a0] [.cells (Zl Ze 1 [] L1 [vn, vi a2, Value.bool b3, Value.bool b4, vi a5, vi a6, vi a7, vi a8, vp 1 0, vi a9, (fnV a10)]) 141, .cells (κq a11 L12 a13 a14 a15 a16 a17 a18 a19) 132, .cells (κr a20 L21 L22) 154, .cells (κP L23 L24) 191, .cells [vi a25, vi a26, vi a27] 208, .cells (Zl eI 64 [vi a28] L29 []) 211, .cells (Zc RD L21) 57, .cells (Zc RB L22) 42, .cells (Zc eI L23) 188, .cells (Zc eI L24) 188] (Value.tuple #[Value.agg #[vi w4, vi w5, vi w6, vi w7, vi w8, vq], Value.bool w10]) [some (.cells (Zl Ze 1 [] w11 [vn, vi w12, Value.bool w13, Value.bool w14, vi w15, vi w16, vi w17, vi w18, vp 1 0, vi a9, (fnV w20)]) 141), some (.cells (κq a11 L12 a13 a14 a15 a16 a17 a18 a19) 132), some (.cells [vi a20, vs 6 0 L21.length L21.length, vs 7 0 w1.length w1.length, vn, vn, vn, vn, vn, vn, vn, vn, vn, vn, vn, vn, vn, vn, vn, vn, vn] 154), some (.cells [vs 8 0 w2.length w2.length, vs 9 0 w3.length w3.length] 191), some (.cells [vi a25, vi w32, vi a27] 208), some (κY a28 L29), some (.cells (Zc RD L21) 57), some (.cells (Zc RB w1) 42), some (.cells (Zc eI w2) 188), some (.cells (Zc eI w3) 188)] from Zfx a0 L1 a2 b3 b4 a5 a6 a7 a8 a9 a10 a11 L12 a13 a14 a15 a16 a17 a18 a19 a20 L21 L22 L23 L24 a25 a26 a27 a28 L29 N _ h) _ n [0, 2, 3, 4, 7, 8, 9] hnd hlt

end Ev
end Go.Proofs.YtiijipocjellpaaGreat
namespace Go.Proofs.YtiijipocjellpaaGreat
open Go.RowKit
namespace Ev
set_option linter.unusedVariables false
set_option maxRecDepth 100000
set_option maxHeartbeats 4000000
noncomputable def ZhV (a0 a1 a2 : Int) (L3 : List RH) : ZaF → Value
 | .r0 w1 w2 w3 w4 w6 => Value.tuple #[Value.agg #[vi w1, vi w2, vi w3, vi w4, vq], Value.bool w6]
noncomputable abbrev κL (L3 : List RH) := [vi (1 : Int), vi (2 : Int), vi (1048577 : Int), vi (1 : Int), vi (16 : Int), vi (255 : Int), vi (2 : Int), vq, vs 1 0 L3.length L3.length]
noncomputable def Zhp (a0 a1 a2 : Int) (L3 : List RH) : ZaF → List (Option AObj)
 | .r0 w1 w2 w3 w4 w6 => [some (.cells (κL L3) 204), some (.cells (Zc RB L3) 42)]

theorem ZjZ (a0 a1 a2 : Int) (L3 : List RH) (N : Nat) : Fx Tryz.prog Zaa Tryz.f146 [.cells (κL L3) 204, .cells (Zc RB L3) 42] #[Value.agg #[vi a0, vs 0 0 1 1, vn], Value.agg #[vi a1, vi a2]] (ZhV a0 a1 a2 L3) (Zhp a0 a1 a2 L3) (Za2 a0 a1 a2 L3 N) := by
 unfold Za2
 refine Zd (fun g0 => ?_) (fun g0 => ?_)
 ·
  exact fxC (Zh (oq [1]) [] [] [] []) [0, 1] κ7 (hD g0 Zs) (bS (κL L3) <| bR <| bE)
 ·
  have w1 := kT a1 (2 : Int) <| kF a1 (1 : Int) <| kE a1 (2 : Int) Zs
  refine Zd (fun g1 => ?_) (fun g1 => ?_)
  ·
   exact fxC (Zh (oq [0, 2, 5, 7, 11]) [] [] [] []) [0, 1] κ7 (hT g1 <| hT g1 w1) (bS (κL L3) <| bR <| bE)
  ·
   refine Zd (fun g2 => ?_) (fun g2 => ?_)
   ·
    have w3 := kY (a2 ≥ (1048576 : Int)) <| hF g1 w1
    refine Zd (fun g3 => ?_) (fun _ => Zw)
    refine Zd (fun g4 => ?_) (fun g4 => ?_)
    ·
     have w5 := kM a2 (1048576 : Int) <| hY g4 <| kV a2 (1048576 : Int) w3
     refine Zd (fun g5 => ?_) (fun g5 => ?_)
     ·
      refine Zd (fun g6 => ?_) (fun g6 => ?_)
      ·
       exact fxC (Zh (oq [0, 2, 5, 6, 9, 11, 13, 16, 21]) [(0, (a2 / (1048576 : Int))), (1, (a2 % (1048576 : Int)))] [] [] []) [0, 1] (Value.tuple #[Value.agg #[vi (1 : Int), vi (16 : Int), vi (255 : Int), vi (2 : Int), vq], vT]) (kZ (((2 : Int) == a1) && (((1048577 : Int) == a2) && true)) <| hF g1 <| kY ((a2 % (1048576 : Int)) ≥ (1 : Int)) w5) (bS (κL L3) <| bR <| bE)
      ·
       exact fxC (Zh (oq [0, 2, 5, 6, 9, 11, 13, 16, 20]) [(0, (a2 / (1048576 : Int))), (1, (a2 % (1048576 : Int)))] [] [] []) [0, 1] κ7 (kO (((2 : Int) == a1) && (((1048577 : Int) == a2) && true)) <| hF g1 <| kY ((a2 % (1048576 : Int)) ≥ (1 : Int)) w5) (bS (κL L3) <| bR <| bE)
     ·
      exact fxC (Zh (oq [0, 2, 5, 6, 9, 11, 12]) [(0, (a2 / (1048576 : Int))), (1, (a2 % (1048576 : Int)))] [] [] []) [0, 1] κ7 (kN ((a2 % (1048576 : Int)) ≥ (1 : Int)) w5) (bS (κL L3) <| bR <| bE)
    ·
     exact fxC (Zh (oq [0, 2, 5, 6, 9, 10]) [(0, (a2 / (1048576 : Int)))] [] [] []) [0, 1] κ7 (hN g4 <| kV a2 (1048576 : Int) w3) (bS (κL L3) <| bR <| bE)
   ·
    exact fxC (Zh (oq [0, 2, 5, 6, 8]) [] [] [] []) [0, 1] κ7 (kN (a2 ≥ (1048576 : Int)) <| hF g1 w1) (bS (κL L3) <| bR <| bE)

theorem ZiV (a0 a1 a2 : Int) (L3 : List RH) (N : Nat) (r : ZaF) (h : Za2 a0 a1 a2 L3 N = some r) : LSpec Tryz.prog 146 #[Value.agg #[vi a0, vs 0 0 1 1, vn], Value.agg #[vi a1, vi a2]] [.cells (κL L3) 204, .cells (Zc RB L3) 42] (ZhV a0 a1 a2 L3 r) (Zhp a0 a1 a2 L3 r) :=
 ZaB ZaW Tryz.func146 (by kernel_rfl) (by kernel_rfl) (fun r => by cases r <;> exact ZaP _ rfl) (ZjZ a0 a1 a2 L3 N) h

noncomputable def Z6 {a0 : Int} {a1 : Int} {a2 : Int} {L3 : List RH} {w1 : Int} {w2 : Int} {w3 : Int} {w4 : Int} {w6 : Bool} {N : Nat} (h : Za2 a0 a1 a2 L3 N = some (.r0 w1 w2 w3 w4 w6)) (ks : List Nat) (n : Nat) : ToldS := ⟨#[Value.agg #[vi a0, vs (nth ks 0) 0 1 1, vn], Value.agg #[vi a1, vi a2]], [((nth ks 0), .cells [vi (1 : Int), vi (2 : Int), vi (1048577 : Int), vi (1 : Int), vi (16 : Int), vi (255 : Int), vi (2 : Int), vq, vs (nth ks 1) 0 L3.length L3.length] 204), ((nth ks 1), .cells (Zc RB L3) 42)], Value.tuple #[Value.agg #[vi w1, vi w2, vi w3, vi w4, vq], Value.bool w6], [], 0⟩

theorem Zao {a0 : Int} {a1 : Int} {a2 : Int} {L3 : List RH} {w1 : Int} {w2 : Int} {w3 : Int} {w4 : Int} {w6 : Bool} {N : Nat} (h : Za2 a0 a1 a2 L3 N = some (.r0 w1 w2 w3 w4 w6)) (ks : List Nat) (n : Nat) (hk : ks.length = 2 := by rfl) (hnd : ks.Nodup := by decide +kernel) (hlt : ∀ k ∈ ks, k < n := by decide +kernel) : (Z6 (N := N)  h ks n).P Tryz.prog 146 n :=
 match ks, hk, hnd, hlt with
 | [k0, k1], _, hnd, hlt => ZaT (show LSpec Tryz.prog 146 #[Value.agg #[vi a0, vs 0 0 1 1, vn], Value.agg #[vi a1, vi a2]] [.cells (κL L3) 204, .cells (Zc RB L3) 42] (Value.tuple #[Value.agg #[vi w1, vi w2, vi w3, vi w4, vq], Value.bool w6]) [some (.cells (κL L3) 204), some (.cells (Zc RB L3) 42)] from ZiV a0 a1 a2 L3 N _ h) _ n [] hnd hlt

noncomputable def ZhW (a0 a1 a2 a3 : Int) (L4 : List RH) : Zay → Value
 | .r0 w1 w2 w3 => Value.tuple #[Value.agg #[vi w1, vi w2], vi w3]
noncomputable abbrev κI (L4 : List RH) := [vi (1 : Int), vi (2 : Int), vi (1048577 : Int), vi (1 : Int), vi (16 : Int), vi (255 : Int), vi (2 : Int), vq, vs 1 0 L4.length L4.length]
noncomputable def Zhq (a0 a1 a2 a3 : Int) (L4 : List RH) : Zay → List (Option AObj)
 | .r0 w1 w2 w3 => [some (.cells (κI L4) 204), some (.cells (Zc RB L4) 42)]

theorem Zka (a0 a1 a2 a3 : Int) (L4 : List RH) (N : Nat) : Fx Tryz.prog Zaa Tryz.f175 [.cells (κI L4) 204, .cells (Zc RB L4) 42] #[Value.agg #[vi a0, vs 0 0 1 1, vn], Value.agg #[vi a1, vi a2], vi a3] (ZhW a0 a1 a2 a3 L4) (Zhq a0 a1 a2 a3 L4) (ZaV a0 a1 a2 a3 L4 N) := by
 unfold ZaV
 refine Zd (fun g0 => ?_) (fun g0 => ?_)
 ·
  exact fxC (Zh (oq [1]) [] [] [] []) [0, 1] κbt (hD g0 Zs) (bS (κI L4) <| bR <| bE)
 ·
  have w1 := kT a1 (2 : Int) <| kF a1 (1 : Int) <| kE a1 (2 : Int) Zs
  refine Zd (fun g1 => ?_) (fun g1 => ?_)
  ·
   exact fxC (Zh (oq [0, 2, 5, 7, 11]) [] [] [] []) [0, 1] (Value.tuple #[Value.agg #[vq, vq], vi (11 : Int)]) (hT g1 <| hT g1 w1) (bS (κI L4) <| bR <| bE)
  ·
   refine Zd (fun g2 => ?_) (fun g2 => ?_)
   ·
    have w3 := kY (a2 ≥ (1048576 : Int)) <| hF g1 w1
    refine Zd (fun g3 => ?_) (fun _ => Zw)
    refine Zd (fun g4 => ?_) (fun g4 => ?_)
    ·
     have w5 := kM a2 (1048576 : Int) <| hY g4 <| kV a2 (1048576 : Int) w3
     refine Zd (fun g5 => ?_) (fun g5 => ?_)
     ·
      have w6 := hF g1 <| kY ((a2 % (1048576 : Int)) ≥ (1 : Int)) w5
      refine Zd (fun g6 => ?_) (fun g6 => ?_)
      ·
       have w7 := kZ (((2 : Int) == a1) && (((1048577 : Int) == a2) && true)) w6
       refine Zd (fun g7 => ?_) (fun g7 => ?_)
       ·
        exact fxC (Zh (oq [0, 2, 5, 6, 9, 11, 13, 16, 21, 27]) [(0, (a2 / (1048576 : Int))), (1, (a2 % (1048576 : Int)))] [] [] []) [0, 1] (Value.tuple #[Value.agg #[vq, vq], vi (22 : Int)]) (hY g7 w7) (bS (κI L4) <| bR <| bE)
       ·
        refine Zd (fun g8 => ?_) (fun g8 => ?_)
        ·
         exact fxC (Zh (oq [0, 2, 5, 6, 9, 11, 13, 16, 21, 26, 29]) [(0, (a2 / (1048576 : Int))), (1, (a2 % (1048576 : Int)))] [] [] []) [0, 1] (Value.tuple #[Value.agg #[vq, vq], vi (22 : Int)]) (kY (a3 ≥ (16 : Int)) <| hN g7 w7) (bS (κI L4) <| bR <| bE)
        ·
         refine Zd (fun g9 => ?_) (fun _ => Zw)
         exact fxC (Zh (oq [0, 2, 5, 6, 9, 11, 13, 16, 21, 26, 28]) [(0, (a2 / (1048576 : Int))), (1, (a2 % (1048576 : Int)))] [(4, (a3).toNat)] [(20, (RB.cel (L4.getD (a3).toNat RH.z)))] []) [0, 1] (Value.tuple #[Value.agg #[vi (L4.getD (a3).toNat RH.z).a0, vi (L4.getD (a3).toNat RH.z).a1], vq]) (kLn RB L4 ((a3).toNat) 0 2 <| kB (a3).toNat L4.length <| kI a3 (Int.ofNat (a3).toNat) <| kN (a3 ≥ (16 : Int)) <| hN g7 w7) (bS (κI L4) <| bR <| bE)
      ·
       exact fxC (Zh (oq [0, 2, 5, 6, 9, 11, 13, 16, 20]) [(0, (a2 / (1048576 : Int))), (1, (a2 % (1048576 : Int)))] [] [] []) [0, 1] (Value.tuple #[Value.agg #[vq, vq], vi (21 : Int)]) (kO (((2 : Int) == a1) && (((1048577 : Int) == a2) && true)) w6) (bS (κI L4) <| bR <| bE)
     ·
      exact fxC (Zh (oq [0, 2, 5, 6, 9, 11, 12]) [(0, (a2 / (1048576 : Int))), (1, (a2 % (1048576 : Int)))] [] [] []) [0, 1] κbt (kN ((a2 % (1048576 : Int)) ≥ (1 : Int)) w5) (bS (κI L4) <| bR <| bE)
    ·
     exact fxC (Zh (oq [0, 2, 5, 6, 9, 10]) [(0, (a2 / (1048576 : Int)))] [] [] []) [0, 1] κbt (hN g4 <| kV a2 (1048576 : Int) w3) (bS (κI L4) <| bR <| bE)
   ·
    exact fxC (Zh (oq [0, 2, 5, 6, 8]) [] [] [] []) [0, 1] κbt (kN (a2 ≥ (1048576 : Int)) <| hF g1 w1) (bS (κI L4) <| bR <| bE)

theorem ZiW (a0 a1 a2 a3 : Int) (L4 : List RH) (N : Nat) (r : Zay) (h : ZaV a0 a1 a2 a3 L4 N = some r) : LSpec Tryz.prog 175 #[Value.agg #[vi a0, vs 0 0 1 1, vn], Value.agg #[vi a1, vi a2], vi a3] [.cells (κI L4) 204, .cells (Zc RB L4) 42] (ZhW a0 a1 a2 a3 L4 r) (Zhq a0 a1 a2 a3 L4 r) :=
 ZaB ZaW Tryz.func175 (by kernel_rfl) (by kernel_rfl) (fun r => by cases r <;> exact ZaP _ rfl) (Zka a0 a1 a2 a3 L4 N) h

noncomputable def Zau {a0 : Int} {a1 : Int} {a2 : Int} {a3 : Int} {L4 : List RH} {w1 : Int} {w2 : Int} {w3 : Int} {N : Nat} (h : ZaV a0 a1 a2 a3 L4 N = some (.r0 w1 w2 w3)) (ks : List Nat) (n : Nat) : ToldS := ⟨#[Value.agg #[vi a0, vs (nth ks 0) 0 1 1, vn], Value.agg #[vi a1, vi a2], vi a3], [((nth ks 0), .cells [vi (1 : Int), vi (2 : Int), vi (1048577 : Int), vi (1 : Int), vi (16 : Int), vi (255 : Int), vi (2 : Int), vq, vs (nth ks 1) 0 L4.length L4.length] 204), ((nth ks 1), .cells (Zc RB L4) 42)], Value.tuple #[Value.agg #[vi w1, vi w2], vi w3], [], 0⟩

theorem Zdp {a0 : Int} {a1 : Int} {a2 : Int} {a3 : Int} {L4 : List RH} {w1 : Int} {w2 : Int} {w3 : Int} {N : Nat} (h : ZaV a0 a1 a2 a3 L4 N = some (.r0 w1 w2 w3)) (ks : List Nat) (n : Nat) (hk : ks.length = 2 := by rfl) (hnd : ks.Nodup := by decide +kernel) (hlt : ∀ k ∈ ks, k < n := by decide +kernel) : (Zau (N := N)  h ks n).P Tryz.prog 175 n :=
 match ks, hk, hnd, hlt with
 | [k0, k1], _, hnd, hlt => ZaT (show LSpec Tryz.prog 175 #[Value.agg #[vi a0, vs 0 0 1 1, vn], Value.agg #[vi a1, vi a2], vi a3] [.cells (κI L4) 204, .cells (Zc RB L4) 42] (Value.tuple #[Value.agg #[vi w1, vi w2], vi w3]) [some (.cells (κI L4) 204), some (.cells (Zc RB L4) 42)] from ZiW a0 a1 a2 a3 L4 N _ h) _ n [] hnd hlt

noncomputable def Zhr (a0 a1 a2 a3 a4 a5 : Int) (L6 : List RH) : ZB → Value
 | .r0 w2 => Value.tuple #[Value.agg #[vi a0, vs 0 0 1 1, vn], vi w2]
 | .r1 => Value.tuple #[Value.agg #[vi a0, vs 2 0 1 1, vn], vq]
noncomputable abbrev κn (L6 : List RH) := [vi (1 : Int), vi (2 : Int), vi (1048577 : Int), vi (1 : Int), vi (16 : Int), vi (255 : Int), vi (2 : Int), vq, vs 1 0 L6.length L6.length]
noncomputable def Zg4 (a0 a1 a2 a3 a4 a5 : Int) (L6 : List RH) : ZB → List (Option AObj)
 | .r0 w2 => [some (.cells (κn L6) 204), some (.cells (Zc RB L6) 42)]
 | .r1 => [some (.cells (κn L6) 204), some (.cells (Zc RB L6) 42), some (.cells [vi (1 : Int), vi (2 : Int), vi (1048577 : Int), vi (1 : Int), vi (16 : Int), vi (255 : Int), vi (2 : Int), vq, vs 3 0 L6.length L6.length] 204), some (.cells (Zc RB (L6.set (a3).toNat (⟨a4, a5⟩ : RH))) 42)]

noncomputable abbrev κbz (L6 : List RH) := [vi (1 : Int), vi (2 : Int), vi (1048577 : Int), vi (1 : Int), vi (16 : Int), vi (255 : Int), vi (2 : Int), vq, vs 13 0 (0 + L6.length) (0 + L6.length)]
noncomputable abbrev κbf (L6 : List RH) := (dP ((L6.length = L6.length ∧ Z3 (L6.length * 2) (List.drop 0 (Zc RB L6)) = some (Zc RB L6) ∧ Zq ZaR (Zc RB L6) = true) ∧ 0 < L6.length ∧ L6.length ≤ 100000 ∧ 0 < 0 + L6.length ∧ 0 ≤ 100000 ∧ 0 * 2 ≤ (List.length ([] : List Value)) ∧ List.take (0 * 2) [] ++ (Zc RB L6) = (Zc RB L6)))
noncomputable abbrev κba (a0 : Int) := (Value.tuple #[Value.agg #[vi a0, vs 0 0 1 1, vn], vi (10 : Int)])
theorem Zjq (a0 a1 a2 a3 a4 a5 : Int) (L6 : List RH) (N : Nat) : Fx Tryz.prog Zaa Tryz.f101 [.cells (κn L6) 204, .cells (Zc RB L6) 42] #[Value.agg #[vi a0, vs 0 0 1 1, vn], Value.agg #[vi a1, vi a2], vi a3, Value.agg #[vi a4, vi a5]] (Zhr a0 a1 a2 a3 a4 a5 L6) (Zg4 a0 a1 a2 a3 a4 a5 L6) (ZaG a0 a1 a2 a3 a4 a5 L6 N) := by
 unfold ZaG
 refine Zd (fun g0 => ?_) (fun g0 => ?_)
 ·
  exact fxC (Zh (oq [1]) [] [] [] []) [0, 1] (κba a0) (hD g0 Zs) (bS (κn L6) <| bR <| bE)
 ·
  have w1 := kT a1 (2 : Int) <| kF a1 (1 : Int) <| kE a1 (2 : Int) Zs
  refine Zd (fun g1 => ?_) (fun g1 => ?_)
  ·
   exact fxC (Zh (oq [0, 2, 5, 7, 11]) [] [] [] []) [0, 1] (Value.tuple #[Value.agg #[vi a0, vs 0 0 1 1, vn], vi (11 : Int)]) (hT g1 <| hT g1 w1) (bS (κn L6) <| bR <| bE)
  ·
   refine Zd (fun g2 => ?_) (fun g2 => ?_)
   ·
    have w3 := kY (a2 ≥ (1048576 : Int)) <| hF g1 w1
    refine Zd (fun g3 => ?_) (fun _ => Zw)
    have w4 := kV a2 (1048576 : Int) w3
    refine Zd (fun g4 => ?_) (fun g4 => ?_)
    ·
     have w5 := kM a2 (1048576 : Int) <| hY g4 w4
     refine Zd (fun g5 => ?_) (fun g5 => ?_)
     ·
      have w6 := hF g1 <| kY ((a2 % (1048576 : Int)) ≥ (1 : Int)) w5
      refine Zd (fun g6 => ?_) (fun g6 => ?_)
      ·
       have w7 := kZ (((2 : Int) == a1) && (((1048577 : Int) == a2) && true)) w6
       refine Zd (fun g7 => ?_) (fun g7 => ?_)
       ·
        exact fxC (Zh (oq [0, 2, 5, 6, 9, 11, 13, 16, 21, 27]) [(0, (a2 / (1048576 : Int))), (1, (a2 % (1048576 : Int)))] [] [] []) [0, 1] (Value.tuple #[Value.agg #[vi a0, vs 0 0 1 1, vn], vi (22 : Int)]) (hY g7 w7) (bS (κn L6) <| bR <| bE)
       ·
        refine Zd (fun g8 => ?_) (fun g8 => ?_)
        ·
         exact fxC (Zh (oq [0, 2, 5, 6, 9, 11, 13, 16, 21, 26, 29]) [(0, (a2 / (1048576 : Int))), (1, (a2 % (1048576 : Int)))] [] [] []) [0, 1] (Value.tuple #[Value.agg #[vi a0, vs 0 0 1 1, vn], vi (22 : Int)]) (kY (a3 ≥ (16 : Int)) <| hN g7 w7) (bS (κn L6) <| bR <| bE)
        ·
         have w9 := kN (a3 ≥ (16 : Int)) <| hN g7 w7
         refine Zd (fun g9 => ?_) (fun g9 => ?_)
         ·
          have w10 := kS a3 ((a3).toNat) .i64 <| kX ((IntKind.u64.wrap a3) == a3) true (beq_iff_eq.2 (Zik ltA)) <| kF a4 (2 : Int) <| hT g9 w9
          refine Zd (fun g10 => ?_) (fun g10 => ?_)
          ·
           exact fxC (Zh (oq [0, 2, 5, 6, 9, 11, 13, 16, 21, 26, 28, 31, 32, 35]) [(0, (a2 / (1048576 : Int))), (1, (a2 % (1048576 : Int))), (2, a3)] [] [] [(2, .sh (a3).toNat)]) [0, 1] (κba a0) (hT g10 w10) (bS (κn L6) <| bR <| bE)
          ·
           refine Zd (fun _ => Zw) (fun g11 => ?_)
           refine Zd (fun g12 => ?_) (fun _ => Zw)
           refine Zd (fun g13 => ?_) (fun _ => Zw)
           exact fxC (Zh (oq [0, 2, 5, 6, 9, 11, 13, 16, 21, 26, 28, 31, 32, 34]) [(0, (a2 / (1048576 : Int))), (1, (a2 % (1048576 : Int))), (2, a3)] [(3, (a3).toNat)] [] [(2, .sh (a3).toNat), (4, .ap L6.length (Zc RB L6) (Zc RB L6)), (5, .st (Zc RB (L6.set (a3).toNat (⟨a4, a5⟩ : RH))))]) [0, 1, 18, 13] (Value.tuple #[Value.agg #[vi a0, vs 18 0 1 1, vn], vq]) (kC (ZT (E := RB) (L := L6) (i := (a3).toNat) (q := 0) (l := [vi a4, vi a5]) (⟨a4, a5⟩ : RH) (by omega) (show (0 + ((a3).toNat * 2)) = (a3).toNat * 2 + 0 from by omega) (show 0 + 2 ≤ 2 from by decide) rfl) <| kB (a3).toNat (0 + L6.length) <| kI a3 (Int.ofNat (a3).toNat) <| kX (κbf L6) true (Z5 ⟨⟨rfl, (Zeq (E := RB) (L := L6) (a := 0) (n := L6.length) (by omega) (by show _ = _ * 2; omega) (show _ = _ * 2 from rfl) (by rw [List.drop_zero, List.take_of_length_le (by omega)]))⟩, by omega, by omega, ltA, by omega, (Zd1 (E := RB) (L := ([] : List RH)) (M := L6) (n := 0) (show _ = _ * 2 from rfl) ltA (R := L6) (by rw [List.take_of_length_le ltA]; rfl))⟩) <| hF g10 w10) (bS (κn L6) <| bR <| bU (κbz L6) 8 (show (vs 3 0 (0 + L6.length) (0 + L6.length) : Value) = vs 3 0 L6.length L6.length from ZN rfl eqA eqA) <| bR <| bE)
         ·
          refine Zd (fun g10 => ?_) (fun g10 => ?_)
          ·
           refine Zd (fun g11 => ?_) (fun g11 => ?_)
           ·
            have w12 := kS a3 ((a3).toNat) .i64 <| kX ((IntKind.u64.wrap a3) == a3) true (beq_iff_eq.2 (Zik ltA)) <| hT g10 <| hT g11 <| hT g10 <| hF g9 w9
            refine Zd (fun g12 => ?_) (fun g12 => ?_)
            ·
             refine Zd (fun _ => Zw) (fun g13 => ?_)
             refine Zd (fun g14 => ?_) (fun _ => Zw)
             refine Zd (fun g15 => ?_) (fun _ => Zw)
             exact fxC (Zh (oq [0, 2, 5, 6, 9, 11, 13, 16, 21, 26, 28, 30, 33, 35, 37, 39]) [(0, (a2 / (1048576 : Int))), (1, (a2 % (1048576 : Int))), (2, a3)] [(3, (a3).toNat)] [] [(2, .sh (a3).toNat), (4, .ap L6.length (Zc RB L6) (Zc RB L6)), (5, .st (Zc RB (L6.set (a3).toNat (⟨a4, a5⟩ : RH))))]) [0, 1, 18, 13] (Value.tuple #[Value.agg #[vi a0, vs 18 0 1 1, vn], vq]) (kC (ZT (E := RB) (L := L6) (i := (a3).toNat) (q := 0) (l := [vi a4, vi a5]) (⟨a4, a5⟩ : RH) (by omega) (show (0 + ((a3).toNat * 2)) = (a3).toNat * 2 + 0 from by omega) (show 0 + 2 ≤ 2 from by decide) rfl) <| kB (a3).toNat (0 + L6.length) <| kI a3 (Int.ofNat (a3).toNat) <| kX (κbf L6) true (Z5 ⟨⟨rfl, (Zeq (E := RB) (L := L6) (a := 0) (n := L6.length) (by omega) (by show _ = _ * 2; omega) (show _ = _ * 2 from rfl) (by rw [List.drop_zero, List.take_of_length_le (by omega)]))⟩, by omega, by omega, ltA, by omega, (Zd1 (E := RB) (L := ([] : List RH)) (M := L6) (n := 0) (show _ = _ * 2 from rfl) ltA (R := L6) (by rw [List.take_of_length_le ltA]; rfl))⟩) <| hT g12 w12) (bS (κn L6) <| bR <| bU (κbz L6) 8 (show (vs 3 0 (0 + L6.length) (0 + L6.length) : Value) = vs 3 0 L6.length L6.length from ZN rfl eqA eqA) <| bR <| bE)
            ·
             exact fxC (Zh (oq [0, 2, 5, 6, 9, 11, 13, 16, 21, 26, 28, 30, 33, 35, 37, 38]) [(0, (a2 / (1048576 : Int))), (1, (a2 % (1048576 : Int))), (2, a3)] [] [] [(2, .sh (a3).toNat)]) [0, 1] (κba a0) (hF g12 w12) (bS (κn L6) <| bR <| bE)
           ·
            have w12 := hF g11 <| hT g10 <| hF g9 w9
            refine Zd (fun g12 => ?_) (fun g12 => ?_)
            ·
             refine Zd (fun g13 => ?_) (fun _ => Zw)
             have w14 := kV a5 (1048576 : Int) <| kY (a5 ≥ (1048576 : Int)) w12
             refine Zd (fun g14 => ?_) (fun g14 => ?_)
             ·
              refine Zd (fun g15 => ?_) (fun g15 => ?_)
              ·
               have w16 := kS a3 ((a3).toNat) .i64 <| kX ((IntKind.u64.wrap a3) == a3) true (beq_iff_eq.2 (Zik ltA)) <| hT g10 <| kY ((a5 % (1048576 : Int)) ≥ (1 : Int)) <| kM a5 (1048576 : Int) <| hY g14 w14
               refine Zd (fun g16 => ?_) (fun g16 => ?_)
               ·
                refine Zd (fun _ => Zw) (fun g17 => ?_)
                refine Zd (fun g18 => ?_) (fun _ => Zw)
                refine Zd (fun g19 => ?_) (fun _ => Zw)
                exact fxC (Zh (oq [0, 2, 5, 6, 9, 11, 13, 16, 21, 26, 28, 30, 33, 34, 37, 39, 41, 43, 45]) [(0, (a2 / (1048576 : Int))), (1, (a2 % (1048576 : Int))), (2, (a5 / (1048576 : Int))), (3, (a5 % (1048576 : Int))), (4, a3)] [(3, (a3).toNat)] [] [(3, .sh (a3).toNat), (5, .ap L6.length (Zc RB L6) (Zc RB L6)), (6, .st (Zc RB (L6.set (a3).toNat (⟨a4, a5⟩ : RH))))]) [0, 1, 18, 13] (Value.tuple #[Value.agg #[vi a0, vs 18 0 1 1, vn], vq]) (kC (ZT (E := RB) (L := L6) (i := (a3).toNat) (q := 0) (l := [vi a4, vi a5]) (⟨a4, a5⟩ : RH) (by omega) (show (0 + ((a3).toNat * 2)) = (a3).toNat * 2 + 0 from by omega) (show 0 + 2 ≤ 2 from by decide) rfl) <| kB (a3).toNat (0 + L6.length) <| kI a3 (Int.ofNat (a3).toNat) <| kX (κbf L6) true (Z5 ⟨⟨rfl, (Zeq (E := RB) (L := L6) (a := 0) (n := L6.length) (by omega) (by show _ = _ * 2; omega) (show _ = _ * 2 from rfl) (by rw [List.drop_zero, List.take_of_length_le (by omega)]))⟩, by omega, by omega, ltA, by omega, (Zd1 (E := RB) (L := ([] : List RH)) (M := L6) (n := 0) (show _ = _ * 2 from rfl) ltA (R := L6) (by rw [List.take_of_length_le ltA]; rfl))⟩) <| hT g16 w16) (bS (κn L6) <| bR <| bU (κbz L6) 8 (show (vs 3 0 (0 + L6.length) (0 + L6.length) : Value) = vs 3 0 L6.length L6.length from ZN rfl eqA eqA) <| bR <| bE)
               ·
                exact fxC (Zh (oq [0, 2, 5, 6, 9, 11, 13, 16, 21, 26, 28, 30, 33, 34, 37, 39, 41, 43, 44]) [(0, (a2 / (1048576 : Int))), (1, (a2 % (1048576 : Int))), (2, (a5 / (1048576 : Int))), (3, (a5 % (1048576 : Int))), (4, a3)] [] [] [(3, .sh (a3).toNat)]) [0, 1] (κba a0) (hF g16 w16) (bS (κn L6) <| bR <| bE)
              ·
               exact fxC (Zh (oq [0, 2, 5, 6, 9, 11, 13, 16, 21, 26, 28, 30, 33, 34, 37, 39, 40]) [(0, (a2 / (1048576 : Int))), (1, (a2 % (1048576 : Int))), (2, (a5 / (1048576 : Int))), (3, (a5 % (1048576 : Int)))] [] [] []) [0, 1] (κba a0) (kN ((a5 % (1048576 : Int)) ≥ (1 : Int)) <| kM a5 (1048576 : Int) <| hY g14 w14) (bS (κn L6) <| bR <| bE)
             ·
              exact fxC (Zh (oq [0, 2, 5, 6, 9, 11, 13, 16, 21, 26, 28, 30, 33, 34, 37, 38]) [(0, (a2 / (1048576 : Int))), (1, (a2 % (1048576 : Int))), (2, (a5 / (1048576 : Int)))] [] [] []) [0, 1] (κba a0) (hN g14 w14) (bS (κn L6) <| bR <| bE)
            ·
             exact fxC (Zh (oq [0, 2, 5, 6, 9, 11, 13, 16, 21, 26, 28, 30, 33, 34, 36]) [(0, (a2 / (1048576 : Int))), (1, (a2 % (1048576 : Int)))] [] [] []) [0, 1] (κba a0) (kN (a5 ≥ (1048576 : Int)) w12) (bS (κn L6) <| bR <| bE)
          ·
           exact fxC (Zh (oq [0, 2, 5, 6, 9, 11, 13, 16, 21, 26, 28, 30, 32]) [(0, (a2 / (1048576 : Int))), (1, (a2 % (1048576 : Int)))] [] [] []) [0, 1] (κba a0) (hF g10 <| hF g9 w9) (bS (κn L6) <| bR <| bE)
      ·
       exact fxC (Zh (oq [0, 2, 5, 6, 9, 11, 13, 16, 20]) [(0, (a2 / (1048576 : Int))), (1, (a2 % (1048576 : Int)))] [] [] []) [0, 1] (Value.tuple #[Value.agg #[vi a0, vs 0 0 1 1, vn], vi (21 : Int)]) (kO (((2 : Int) == a1) && (((1048577 : Int) == a2) && true)) w6) (bS (κn L6) <| bR <| bE)
     ·
      exact fxC (Zh (oq [0, 2, 5, 6, 9, 11, 12]) [(0, (a2 / (1048576 : Int))), (1, (a2 % (1048576 : Int)))] [] [] []) [0, 1] (κba a0) (kN ((a2 % (1048576 : Int)) ≥ (1 : Int)) w5) (bS (κn L6) <| bR <| bE)
    ·
     exact fxC (Zh (oq [0, 2, 5, 6, 9, 10]) [(0, (a2 / (1048576 : Int)))] [] [] []) [0, 1] (κba a0) (hN g4 w4) (bS (κn L6) <| bR <| bE)
   ·
    exact fxC (Zh (oq [0, 2, 5, 6, 8]) [] [] [] []) [0, 1] (κba a0) (kN (a2 ≥ (1048576 : Int)) <| hF g1 w1) (bS (κn L6) <| bR <| bE)

theorem ZeM (a0 a1 a2 a3 a4 a5 : Int) (L6 : List RH) (N : Nat) (r : ZB) (h : ZaG a0 a1 a2 a3 a4 a5 L6 N = some r) : LSpec Tryz.prog 101 #[Value.agg #[vi a0, vs 0 0 1 1, vn], Value.agg #[vi a1, vi a2], vi a3, Value.agg #[vi a4, vi a5]] [.cells (κn L6) 204, .cells (Zc RB L6) 42] (Zhr a0 a1 a2 a3 a4 a5 L6 r) (Zg4 a0 a1 a2 a3 a4 a5 L6 r) :=
 ZaB ZaW Tryz.func101 (by kernel_rfl) (by kernel_rfl) (fun r => by cases r <;> exact ZaP _ rfl) (Zjq a0 a1 a2 a3 a4 a5 L6 N) h

noncomputable def Zcl {a0 : Int} {a1 : Int} {a2 : Int} {a3 : Int} {a4 : Int} {a5 : Int} {L6 : List RH} {w2 : Int} {N : Nat} (h : ZaG a0 a1 a2 a3 a4 a5 L6 N = some (.r0 w2)) (ks : List Nat) (n : Nat) : ToldS := ⟨#[Value.agg #[vi a0, vs (nth ks 0) 0 1 1, vn], Value.agg #[vi a1, vi a2], vi a3, Value.agg #[vi a4, vi a5]], [((nth ks 0), .cells [vi (1 : Int), vi (2 : Int), vi (1048577 : Int), vi (1 : Int), vi (16 : Int), vi (255 : Int), vi (2 : Int), vq, vs (nth ks 1) 0 L6.length L6.length] 204), ((nth ks 1), .cells (Zc RB L6) 42)], Value.tuple #[Value.agg #[vi a0, vs (nth ks 0) 0 1 1, vn], vi w2], [], 0⟩

theorem ZcK {a0 : Int} {a1 : Int} {a2 : Int} {a3 : Int} {a4 : Int} {a5 : Int} {L6 : List RH} {w2 : Int} {N : Nat} (h : ZaG a0 a1 a2 a3 a4 a5 L6 N = some (.r0 w2)) (ks : List Nat) (n : Nat) (hk : ks.length = 2 := by rfl) (hnd : ks.Nodup := by decide +kernel) (hlt : ∀ k ∈ ks, k < n := by decide +kernel) : (Zcl (N := N)  h ks n).P Tryz.prog 101 n :=
 match ks, hk, hnd, hlt with
 | [k0, k1], _, hnd, hlt => ZaT (show LSpec Tryz.prog 101 #[Value.agg #[vi a0, vs 0 0 1 1, vn], Value.agg #[vi a1, vi a2], vi a3, Value.agg #[vi a4, vi a5]] [.cells (κn L6) 204, .cells (Zc RB L6) 42] (Value.tuple #[Value.agg #[vi a0, vs 0 0 1 1, vn], vi w2]) [some (.cells (κn L6) 204), some (.cells (Zc RB L6) 42)] from ZeM a0 a1 a2 a3 a4 a5 L6 N _ h) _ n [] hnd hlt

noncomputable def Zeb {a0 : Int} {a1 : Int} {a2 : Int} {a3 : Int} {a4 : Int} {a5 : Int} {L6 : List RH} {N : Nat} (h : ZaG a0 a1 a2 a3 a4 a5 L6 N = some (.r1)) (ks : List Nat) (n : Nat) : ToldS := ⟨#[Value.agg #[vi a0, vs (nth ks 0) 0 1 1, vn], Value.agg #[vi a1, vi a2], vi a3, Value.agg #[vi a4, vi a5]], [((nth ks 0), .cells [vi (1 : Int), vi (2 : Int), vi (1048577 : Int), vi (1 : Int), vi (16 : Int), vi (255 : Int), vi (2 : Int), vq, vs (nth ks 1) 0 L6.length L6.length] 204), ((nth ks 1), .cells (Zc RB L6) 42)], Value.tuple #[Value.agg #[vi a0, vs n 0 1 1, vn], vq], [(n, some (.cells [vi (1 : Int), vi (2 : Int), vi (1048577 : Int), vi (1 : Int), vi (16 : Int), vi (255 : Int), vi (2 : Int), vq, vs (n + 1) 0 L6.length L6.length] 204)), ((n + 1), some (.cells (Zc RB (L6.set (a3).toNat (⟨a4, a5⟩ : RH))) 42))], 2⟩

theorem Zg5 {a0 : Int} {a1 : Int} {a2 : Int} {a3 : Int} {a4 : Int} {a5 : Int} {L6 : List RH} {N : Nat} (h : ZaG a0 a1 a2 a3 a4 a5 L6 N = some (.r1)) (ks : List Nat) (n : Nat) (hk : ks.length = 2 := by rfl) (hnd : ks.Nodup := by decide +kernel) (hlt : ∀ k ∈ ks, k < n := by decide +kernel) : (Zeb (N := N)  h ks n).P Tryz.prog 101 n :=
 match ks, hk, hnd, hlt with
 | [k0, k1], _, hnd, hlt => ZaT (show LSpec Tryz.prog 101 #[Value.agg #[vi a0, vs 0 0 1 1, vn], Value.agg #[vi a1, vi a2], vi a3, Value.agg #[vi a4, vi a5]] [.cells (κn L6) 204, .cells (Zc RB L6) 42] (Value.tuple #[Value.agg #[vi a0, vs 2 0 1 1, vn], vq]) [some (.cells (κn L6) 204), some (.cells (Zc RB L6) 42), some (.cells [vi (1 : Int), vi (2 : Int), vi (1048577 : Int), vi (1 : Int), vi (16 : Int), vi (255 : Int), vi (2 : Int), vq, vs 3 0 L6.length L6.length] 204), some (.cells (Zc RB (L6.set (a3).toNat (⟨a4, a5⟩ : RH))) 42)] from ZeM a0 a1 a2 a3 a4 a5 L6 N _ h) _ n [2, 3] hnd hlt

end Ev
end Go.Proofs.YtiijipocjellpaaGreat
