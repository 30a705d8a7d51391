/- Part 6. -/
import Derived.Test.YtiijipocjellpaaGreatZae
set_option linter.unusedSimpArgs false
set_option linter.unusedVariables false
/- Calls do what the plain functions say. -/
namespace Go.Proofs.YtiijipocjellpaaGreat
open Go.IntKind (i64)
open Go.RowKit
namespace Ev
set_option linter.unusedVariables false
set_option maxRecDepth 100000
set_option maxHeartbeats 4000000
noncomputable def Zgs (a0 a1 a2 a3 a4 a5 a6 a7 a8 a9 a10 a11 a12 a13 a14 a15 a16 : Int) (b17 : Bool) (L18 : List RK) (a19 : Int) (b20 b21 : Bool) (a22 a23 a24 a25 a26 a27 a28 : Int) (L29 : List RF) (a30 a31 a32 a33 a34 a35 a36 a37 : Int) (L38 : List RI) (L39 : List RG) (L40 L41 : List Int) (a42 a43 a44 a45 : Int) (L46 : List Int) : Zb7 → Value
 | .r0 w14 => vq
noncomputable abbrev κE (a37 : Int) (L38 : List RI) (L39 : List RG) := [vi a37, vs 6 0 L38.length L38.length, vs 7 0 L39.length L39.length, vn, vn, vn, vn, vn, vn, vn, vn, vn, vn, vn, vn, vn, vn, vn, vn, vn]
noncomputable def Zgf (a0 a1 a2 a3 a4 a5 a6 a7 a8 a9 a10 a11 a12 a13 a14 a15 a16 : Int) (b17 : Bool) (L18 : List RK) (a19 : Int) (b20 b21 : Bool) (a22 a23 a24 a25 a26 a27 a28 : Int) (L29 : List RF) (a30 a31 a32 a33 a34 a35 a36 a37 : Int) (L38 : List RI) (L39 : List RG) (L40 L41 : List Int) (a42 a43 a44 a45 : Int) (L46 : List Int) : Zb7 → List (Option AObj)
 | .r0 w14 => [some (.cells (Zr Zd 1 [] ([(⟨a0, a1, a2, a3, a4, a5, a6, a7, a8, a9, a10, a11, a12, a13, a14, a15⟩ : RK)] : List RK) [vn, vi a16, Value.bool b17, vf, vi a22, vq, vq, vq, vp 1 0, vi a26, (fnV w14)]) 141), some (.cells (Zr Zc9 64 [vi a28] L29 [vi a30, vi a31, vi a32, vi a33, vi a34, vi a35, vi a36, vp 2 0, vp 3 0, vp 4 0, vp 5 0]) 132), some (.cells (κE a37 L38 L39) 154), some (.cells [vs 8 0 L40.length L40.length, vs 9 0 L41.length L41.length] 191), some (.cells [vi a42, vi a43, vi a44] 208), some (.cells (Zr eI 64 [vi a45] L46 []) 211), some (.cells (Za RC L38) 57), some (.cells (Za RB L39) 42), some (.cells (Za eI L40) 188), some (.cells (Za eI L41) 188)]

noncomputable abbrev κt (L18 : List RK) (a19 : Int) (b20 : Bool) (b21 : Bool) (a22 : Int) (a23 : Int) (a24 : Int) (a25 : Int) (a26 : Int) (a27 : Int) (a28 : Int) (L29 : List RF) (a30 : Int) (a31 : Int) (a32 : Int) (a33 : Int) (a34 : Int) (a35 : Int) (a36 : Int) (a37 : Int) (L38 : List RI) (L39 : List RG) (L40 : List Int) (L41 : List Int) (a42 : Int) (a43 : Int) (a44 : Int) (a45 : Int) (L46 : List Int) := [AObj.cells (Zr Zd 1 [] L18 [vn, vi a19, Value.bool b20, Value.bool b21, vi a22, vi a23, vi a24, vi a25, vp 1 0, vi a26, (fnV a27)]) 141, AObj.cells (Zr Zc9 64 [vi a28] L29 [vi a30, vi a31, vi a32, vi a33, vi a34, vi a35, vi a36, vp 2 0, vp 3 0, vp 4 0, vp 5 0]) 132, AObj.cells (κE a37 L38 L39) 154, AObj.cells [vs 8 0 L40.length L40.length, vs 9 0 L41.length L41.length] 191, AObj.cells [vi a42, vi a43, vi a44] 208, AObj.cells (Zr eI 64 [vi a45] L46 []) 211, AObj.cells (Za RC L38) 57, AObj.cells (Za RB L39) 42, AObj.cells (Za eI L40) 188, AObj.cells (Za eI L41) 188]
theorem Zj0 (a0 a1 a2 a3 a4 a5 a6 a7 a8 a9 a10 a11 a12 a13 a14 a15 a16 : Int) (b17 : Bool) (L18 : List RK) (a19 : Int) (b20 b21 : Bool) (a22 a23 a24 a25 a26 a27 a28 : Int) (L29 : List RF) (a30 a31 a32 a33 a34 a35 a36 a37 : Int) (L38 : List RI) (L39 : List RG) (L40 L41 : List Int) (a42 a43 a44 a45 : Int) (L46 : List Int) (N : Nat) : Fx Tryz.prog Zs Tryz.f50 (κt L18 a19 b20 b21 a22 a23 a24 a25 a26 a27 a28 L29 a30 a31 a32 a33 a34 a35 a36 a37 L38 L39 L40 L41 a42 a43 a44 a45 L46) #[vp 0 0, Value.agg #[vi a0, vi a1, vi a2, vi a3, vi a4, vi a5, vi a6, vi a7, vi a8, vi a9, vi a10, vi a11, vi a12, vi a13, vi a14, vi a15, vn, vi a16, Value.bool b17]] (Zgs a0 a1 a2 a3 a4 a5 a6 a7 a8 a9 a10 a11 a12 a13 a14 a15 a16 b17 L18 a19 b20 b21 a22 a23 a24 a25 a26 a27 a28 L29 a30 a31 a32 a33 a34 a35 a36 a37 L38 L39 L40 L41 a42 a43 a44 a45 L46) (Zgf a0 a1 a2 a3 a4 a5 a6 a7 a8 a9 a10 a11 a12 a13 a14 a15 a16 b17 L18 a19 b20 b21 a22 a23 a24 a25 a26 a27 a28 L29 a30 a31 a32 a33 a34 a35 a36 a37 L38 L39 L40 L41 a42 a43 a44 a45 L46) (Zab a0 a1 a2 a3 a4 a5 a6 a7 a8 a9 a10 a11 a12 a13 a14 a15 a16 b17 L18 a19 b20 b21 a22 a23 a24 a25 a26 a27 a28 L29 a30 a31 a32 a33 a34 a35 a36 a37 L38 L39 L40 L41 a42 a43 a44 a45 L46 N) := by
 unfold Zab
 refine Zf (fun g0 => ?_) (fun _ => Zj)
 refine Zf (fun g1 => ?_) (fun _ => Zj)
 ·
  subst g1
  refine Zf (fun g2 => ?_) (fun g2 => ?_)
  ·
   exact fxC (Zh (oq [9]) [] [] [] []) (rg 0 10 []) (vq) (hT g2 Zi) (bM (.cells (Zr Zd 1 [] ([(⟨a0, a1, a2, a3, a4, a5, a6, a7, a8, a9, a10, a11, a12, a13, a14, a15⟩ : RK)] : List RK) [vn, vi a16, Value.bool b17, vf, vi a22, vq, vq, vq, vp 1 0, vi a26, Value.func (.func 105) #[] #[]]) 141) <| bM (.cells (Zr Zc9 64 [vi a28] L29 [vi a30, vi a31, vi a32, vi a33, vi a34, vi a35, vi a36, vp 2 0, vp 3 0, vp 4 0, vp 5 0]) 132) <| bS (κE a37 L38 L39) <| bS [vs 8 0 L40.length L40.length, vs 9 0 L41.length L41.length] <| bS [vi a42, vi a43, vi a44] <| bM (.cells (Zr eI 64 [vi a45] L46 []) 211) <| bR <| bR <| bR <| bR <| bE)
  ·
   exact fxC (Zh (oq [8]) [] [] [] []) (rg 0 10 []) (vq) (hF g2 Zi) (bM (.cells (Zr Zd 1 [] ([(⟨a0, a1, a2, a3, a4, a5, a6, a7, a8, a9, a10, a11, a12, a13, a14, a15⟩ : RK)] : List RK) [vn, vi a16, Value.bool b17, vf, vi a22, vq, vq, vq, vp 1 0, vi a26, Value.func (.func 104) #[] #[]]) 141) <| bM (.cells (Zr Zc9 64 [vi a28] L29 [vi a30, vi a31, vi a32, vi a33, vi a34, vi a35, vi a36, vp 2 0, vp 3 0, vp 4 0, vp 5 0]) 132) <| bS (κE a37 L38 L39) <| bS [vs 8 0 L40.length L40.length, vs 9 0 L41.length L41.length] <| bS [vi a42, vi a43, vi a44] <| bM (.cells (Zr eI 64 [vi a45] L46 []) 211) <| bR <| bR <| bR <| bR <| bE)

theorem Zim (a0 a1 a2 a3 a4 a5 a6 a7 a8 a9 a10 a11 a12 a13 a14 a15 a16 : Int) (b17 : Bool) (L18 : List RK) (a19 : Int) (b20 b21 : Bool) (a22 a23 a24 a25 a26 a27 a28 : Int) (L29 : List RF) (a30 a31 a32 a33 a34 a35 a36 a37 : Int) (L38 : List RI) (L39 : List RG) (L40 L41 : List Int) (a42 a43 a44 a45 : Int) (L46 : List Int) (N : Nat) (r : Zb7) (h : Zab a0 a1 a2 a3 a4 a5 a6 a7 a8 a9 a10 a11 a12 a13 a14 a15 a16 b17 L18 a19 b20 b21 a22 a23 a24 a25 a26 a27 a28 L29 a30 a31 a32 a33 a34 a35 a36 a37 L38 L39 L40 L41 a42 a43 a44 a45 L46 N = some r) : LSpec Tryz.prog 50 #[vp 0 0, Value.agg #[vi a0, vi a1, vi a2, vi a3, vi a4, vi a5, vi a6, vi a7, vi a8, vi a9, vi a10, vi a11, vi a12, vi a13, vi a14, vi a15, vn, vi a16, Value.bool b17]] (κt L18 a19 b20 b21 a22 a23 a24 a25 a26 a27 a28 L29 a30 a31 a32 a33 a34 a35 a36 a37 L38 L39 L40 L41 a42 a43 a44 a45 L46) (Zgs a0 a1 a2 a3 a4 a5 a6 a7 a8 a9 a10 a11 a12 a13 a14 a15 a16 b17 L18 a19 b20 b21 a22 a23 a24 a25 a26 a27 a28 L29 a30 a31 a32 a33 a34 a35 a36 a37 L38 L39 L40 L41 a42 a43 a44 a45 L46 r) (Zgf a0 a1 a2 a3 a4 a5 a6 a7 a8 a9 a10 a11 a12 a13 a14 a15 a16 b17 L18 a19 b20 b21 a22 a23 a24 a25 a26 a27 a28 L29 a30 a31 a32 a33 a34 a35 a36 a37 L38 L39 L40 L41 a42 a43 a44 a45 L46 r) :=
 Zbh Zau Tryz.func50 (by kernel_rfl) (by kernel_rfl) (fun r => by cases r <;> exact ZG _ rfl) (Zj0 a0 a1 a2 a3 a4 a5 a6 a7 a8 a9 a10 a11 a12 a13 a14 a15 a16 b17 L18 a19 b20 b21 a22 a23 a24 a25 a26 a27 a28 L29 a30 a31 a32 a33 a34 a35 a36 a37 L38 L39 L40 L41 a42 a43 a44 a45 L46 N) h

noncomputable def Zai {a0 : Int} {a1 : Int} {a2 : Int} {a3 : Int} {a4 : Int} {a5 : Int} {a6 : Int} {a7 : Int} {a8 : Int} {a9 : Int} {a10 : Int} {a11 : Int} {a12 : Int} {a13 : Int} {a14 : Int} {a15 : Int} {a16 : Int} {b17 : Bool} {L18 : List RK} {a19 : Int} {b20 : Bool} {b21 : Bool} {a22 : Int} {a23 : Int} {a24 : Int} {a25 : Int} {a26 : Int} {a27 : Int} {a28 : Int} {L29 : List RF} {a30 : Int} {a31 : Int} {a32 : Int} {a33 : Int} {a34 : Int} {a35 : Int} {a36 : Int} {a37 : Int} {L38 : List RI} {L39 : List RG} {L40 : List Int} {L41 : List Int} {a42 : Int} {a43 : Int} {a44 : Int} {a45 : Int} {L46 : List Int} {w14 : Int} {N : Nat} (h : Zab a0 a1 a2 a3 a4 a5 a6 a7 a8 a9 a10 a11 a12 a13 a14 a15 a16 b17 L18 a19 b20 b21 a22 a23 a24 a25 a26 a27 a28 L29 a30 a31 a32 a33 a34 a35 a36 a37 L38 L39 L40 L41 a42 a43 a44 a45 L46 N = some (.r0 w14)) (ks : List Nat) (n : Nat) : ToldS := ⟨#[vp (nth ks 0) 0, Value.agg #[vi a0, vi a1, vi a2, vi a3, vi a4, vi a5, vi a6, vi a7, vi a8, vi a9, vi a10, vi a11, vi a12, vi a13, vi a14, vi a15, vn, vi a16, Value.bool b17]], [((nth ks 0), .cells (Zr Zd 1 [] L18 [vn, vi a19, Value.bool b20, Value.bool b21, vi a22, vi a23, vi a24, vi a25, vp (nth ks 1) 0, vi a26, (fnV a27)]) 141), ((nth ks 1), .cells (Zr Zc9 64 [vi a28] L29 [vi a30, vi a31, vi a32, vi a33, vi a34, vi a35, vi a36, vp (nth ks 2) 0, vp (nth ks 3) 0, vp (nth ks 4) 0, vp (nth ks 5) 0]) 132), ((nth ks 2), .cells [vi a37, vs (nth ks 6) 0 L38.length L38.length, vs (nth ks 7) 0 L39.length L39.length, vn, vn, vn, vn, vn, vn, vn, vn, vn, vn, vn, vn, vn, vn, vn, vn, vn] 154), ((nth ks 3), .cells [vs (nth ks 8) 0 L40.length L40.length, vs (nth ks 9) 0 L41.length L41.length] 191), ((nth ks 4), .cells [vi a42, vi a43, vi a44] 208), ((nth ks 5), .cells (Zr eI 64 [vi a45] L46 []) 211), ((nth ks 6), .cells (Za RC L38) 57), ((nth ks 7), .cells (Za RB L39) 42), ((nth ks 8), .cells (Za eI L40) 188), ((nth ks 9), .cells (Za eI L41) 188)], vq, [((nth ks 0), some (.cells (Zr Zd 1 [] ([(⟨a0, a1, a2, a3, a4, a5, a6, a7, a8, a9, a10, a11, a12, a13, a14, a15⟩ : RK)] : List RK) [vn, vi a16, Value.bool b17, vf, vi a22, vq, vq, vq, vp (nth ks 1) 0, vi a26, (fnV w14)]) 141))], 0⟩

theorem Zbe {a0 : Int} {a1 : Int} {a2 : Int} {a3 : Int} {a4 : Int} {a5 : Int} {a6 : Int} {a7 : Int} {a8 : Int} {a9 : Int} {a10 : Int} {a11 : Int} {a12 : Int} {a13 : Int} {a14 : Int} {a15 : Int} {a16 : Int} {b17 : Bool} {L18 : List RK} {a19 : Int} {b20 : Bool} {b21 : Bool} {a22 : Int} {a23 : Int} {a24 : Int} {a25 : Int} {a26 : Int} {a27 : Int} {a28 : Int} {L29 : List RF} {a30 : Int} {a31 : Int} {a32 : Int} {a33 : Int} {a34 : Int} {a35 : Int} {a36 : Int} {a37 : Int} {L38 : List RI} {L39 : List RG} {L40 : List Int} {L41 : List Int} {a42 : Int} {a43 : Int} {a44 : Int} {a45 : Int} {L46 : List Int} {w14 : Int} {N : Nat} (h : Zab a0 a1 a2 a3 a4 a5 a6 a7 a8 a9 a10 a11 a12 a13 a14 a15 a16 b17 L18 a19 b20 b21 a22 a23 a24 a25 a26 a27 a28 L29 a30 a31 a32 a33 a34 a35 a36 a37 L38 L39 L40 L41 a42 a43 a44 a45 L46 N = some (.r0 w14)) (ks : List Nat) (n : Nat) (hk : ks.length = 10 := by rfl) (hnd : ks.Nodup := by decide +kernel) (hlt : ∀ k ∈ ks, k < n := by decide +kernel) : (Zai (N := N)  h ks n).P Tryz.prog 50 n :=
 match ks, hk, hnd, hlt with
 | [k0, k1, k2, k3, k4, k5, k6, k7, k8, k9], _, hnd, hlt => Zjz (show LSpec Tryz.prog 50 #[vp 0 0, Value.agg #[vi a0, vi a1, vi a2, vi a3, vi a4, vi a5, vi a6, vi a7, vi a8, vi a9, vi a10, vi a11, vi a12, vi a13, vi a14, vi a15, vn, vi a16, Value.bool b17]] (κt L18 a19 b20 b21 a22 a23 a24 a25 a26 a27 a28 L29 a30 a31 a32 a33 a34 a35 a36 a37 L38 L39 L40 L41 a42 a43 a44 a45 L46) (vq) [some (.cells (Zr Zd 1 [] ([(⟨a0, a1, a2, a3, a4, a5, a6, a7, a8, a9, a10, a11, a12, a13, a14, a15⟩ : RK)] : List RK) [vn, vi a16, Value.bool b17, vf, vi a22, vq, vq, vq, vp 1 0, vi a26, (fnV w14)]) 141), some (.cells (Zr Zc9 64 [vi a28] L29 [vi a30, vi a31, vi a32, vi a33, vi a34, vi a35, vi a36, vp 2 0, vp 3 0, vp 4 0, vp 5 0]) 132), some (.cells (κE a37 L38 L39) 154), some (.cells [vs 8 0 L40.length L40.length, vs 9 0 L41.length L41.length] 191), some (.cells [vi a42, vi a43, vi a44] 208), some (.cells (Zr eI 64 [vi a45] L46 []) 211), some (.cells (Za RC L38) 57), some (.cells (Za RB L39) 42), some (.cells (Za eI L40) 188), some (.cells (Za eI L41) 188)] from Zim a0 a1 a2 a3 a4 a5 a6 a7 a8 a9 a10 a11 a12 a13 a14 a15 a16 b17 L18 a19 b20 b21 a22 a23 a24 a25 a26 a27 a28 L29 a30 a31 a32 a33 a34 a35 a36 a37 L38 L39 L40 L41 a42 a43 a44 a45 L46 N _ h) _ n [0] hnd hlt

noncomputable def Zi8 (a0 a1 a2 : Int) (L3 : List RI) (L4 : List RG) : Zdw → Value
 | .r0 => Value.tuple #[Value.agg #[vi (L3.getD (((a1 % (1048576 : Int)) - (1 : Int))).toNat RI.z).a0, vi (L3.getD (((a1 % (1048576 : Int)) - (1 : Int))).toNat RI.z).a1, vi (L3.getD (((a1 % (1048576 : Int)) - (1 : Int))).toNat RI.z).a2, vi (L3.getD (((a1 % (1048576 : Int)) - (1 : Int))).toNat RI.z).a3, vi (L3.getD (((a1 % (1048576 : Int)) - (1 : Int))).toNat RI.z).a4], vT]
noncomputable abbrev κu (a2 : Int) (L3 : List RI) (L4 : List RG) := [vi a2, vs 1 0 L3.length L3.length, vs 2 0 L4.length L4.length, vn, vn, vn, vn, vn, vn, vn, vn, vn, vn, vn, vn, vn, vn, vn, vn, vn]
noncomputable def ZhU (a0 a1 a2 : Int) (L3 : List RI) (L4 : List RG) : Zdw → List (Option AObj)
 | .r0 => [some (.cells (κu a2 L3 L4) 154), some (.cells (Za RC L3) 57), some (.cells (Za RB L4) 42)]

theorem ZlM (a0 a1 a2 : Int) (L3 : List RI) (L4 : List RG) (N : Nat) : Fx Tryz.prog Zs Tryz.f21 [.cells (κu a2 L3 L4) 154, .cells (Za RC L3) 57, .cells (Za RB L4) 42] #[vp 0 0, Value.agg #[vi a0, vi a1]] (Zi8 a0 a1 a2 L3 L4) (ZhU a0 a1 a2 L3 L4) (ZX a0 a1 a2 L3 L4 N) := by
 unfold ZX
 refine Zf (fun g0 => ?_) (fun _ => Zj)
 refine Zf (fun _ => Zj) (fun g1 => ?_)
 refine Zf (fun g2 => ?_) (fun _ => Zj)
 refine Zf (fun g3 => ?_) (fun _ => Zj)
 refine Zf (fun g4 => ?_) (fun _ => Zj)
 refine Zf (fun g5 => ?_) (fun _ => Zj)
 refine Zf (fun g6 => ?_) (fun _ => Zj)
 refine Zf (fun g7 => ?_) (fun _ => Zj)
 refine Zf (fun _ => Zj) (fun g8 => ?_)
 refine Zf (fun _ => Zj) (fun g9 => ?_)
 refine Zf (fun _ => Zj) (fun g10 => ?_)
 exact fxC (Zh (oq [3, 6, 9, 11, 13, 15, 17, 19, 21, 26, 28, 31, 33, 35, 37, 39, 42, 44, 47, 49, 51, 53, 55, 58, 60]) [(0, (a1 / (1048576 : Int))), (1, (a1 % (1048576 : Int))), (2, (a1 / (1048576 : Int))), (3, (a1 % (1048576 : Int))), (4, (a1 % (1048576 : Int))), (5, ((a1 % (1048576 : Int)) - (1 : Int))), (6, (a1 / (1048576 : Int))), (7, (a1 % (1048576 : Int))), (8, (a1 / (1048576 : Int))), (9, ((a1 % (1048576 : Int)) - (1 : Int)))] [(0, (((a1 % (1048576 : Int)) - (1 : Int))).toNat), (1, (((a1 % (1048576 : Int)) - (1 : Int))).toNat)] [(15, [.i (L3.getD (((a1 % (1048576 : Int)) - (1 : Int))).toNat RI.z).a0]), (20, [.i (L3.getD (((a1 % (1048576 : Int)) - (1 : Int))).toNat RI.z).a3]), (22, (RC.cel (L3.getD (((a1 % (1048576 : Int)) - (1 : Int))).toNat RI.z)))] []) [0, 1, 2] (Value.tuple #[Value.agg #[vi (L3.getD (((a1 % (1048576 : Int)) - (1 : Int))).toNat RI.z).a0, vi (L3.getD (((a1 % (1048576 : Int)) - (1 : Int))).toNat RI.z).a1, vi (L3.getD (((a1 % (1048576 : Int)) - (1 : Int))).toNat RI.z).a2, vi (L3.getD (((a1 % (1048576 : Int)) - (1 : Int))).toNat RI.z).a3, vi (L3.getD (((a1 % (1048576 : Int)) - (1 : Int))).toNat RI.z).a4], vT]) (kLn RC L3 ((((a1 % (1048576 : Int)) - (1 : Int))).toNat) 0 5 <| kB (((a1 % (1048576 : Int)) - (1 : Int))).toNat L3.length <| kI ((a1 % (1048576 : Int)) - (1 : Int)) (Int.ofNat (((a1 % (1048576 : Int)) - (1 : Int))).toNat) <| kW ((a1 % (1048576 : Int)) - (1 : Int)) ((a1 % (1048576 : Int)) - (1 : Int)) <| hF g10 <| kL RC L3 ((((a1 % (1048576 : Int)) - (1 : Int))).toNat) 3 1 <| kE ((L3.getD (((a1 % (1048576 : Int)) - (1 : Int))).toNat RI.z).a0) (a1 / (1048576 : Int)) <| kV a1 (1048576 : Int) <| kY ((a1 % (1048576 : Int)) ≤ (1048575 : Int)) <| kY ((a1 % (1048576 : Int)) ≥ (1 : Int)) <| hY g6 <| kY ((a1 / (1048576 : Int)) ≥ (1 : Int)) <| kM a1 (1048576 : Int) <| kV a1 (1048576 : Int) <| kY (a1 > (0 : Int)) <| kE a0 (2 : Int) <| kL RC L3 ((((a1 % (1048576 : Int)) - (1 : Int))).toNat) 0 1 <| kB (((a1 % (1048576 : Int)) - (1 : Int))).toNat L3.length <| kI ((a1 % (1048576 : Int)) - (1 : Int)) (Int.ofNat (((a1 % (1048576 : Int)) - (1 : Int))).toNat) <| kW ((a1 % (1048576 : Int)) - (1 : Int)) ((a1 % (1048576 : Int)) - (1 : Int)) <| kN ((a1 % (1048576 : Int)) > (L3.length : Int)) <| kM a1 (1048576 : Int) <| kY ((a1 % (1048576 : Int)) ≤ (1048575 : Int)) <| kY ((a1 % (1048576 : Int)) ≥ (1 : Int)) <| hY g6 <| kY ((a1 / (1048576 : Int)) ≥ (1 : Int)) <| kM a1 (1048576 : Int) <| kV a1 (1048576 : Int) <| kY (a1 > (0 : Int)) <| kE a0 (2 : Int) <| kO ((a0 == (2 : Int)) && ((a1 == (0 : Int)) && true)) <| kY ((a1 % (1048576 : Int)) ≤ (1048575 : Int)) <| kY ((a1 % (1048576 : Int)) ≥ (1 : Int)) <| hY g6 <| kY ((a1 / (1048576 : Int)) ≥ (1 : Int)) <| kM a1 (1048576 : Int) <| kV a1 (1048576 : Int) <| kY (a1 > (0 : Int)) <| hD g2 <| kT a0 (2 : Int) <| kE a0 (2 : Int) <| kY (a2 > (0 : Int)) Zi) (bS (κu a2 L3 L4) <| bR <| bR <| bE)

theorem Zk0 (a0 a1 a2 : Int) (L3 : List RI) (L4 : List RG) (N : Nat) (r : Zdw) (h : ZX a0 a1 a2 L3 L4 N = some r) : LSpec Tryz.prog 21 #[vp 0 0, Value.agg #[vi a0, vi a1]] [.cells (κu a2 L3 L4) 154, .cells (Za RC L3) 57, .cells (Za RB L4) 42] (Zi8 a0 a1 a2 L3 L4 r) (ZhU a0 a1 a2 L3 L4 r) :=
 Zbh Zau Tryz.func21 (by kernel_rfl) (by kernel_rfl) (fun r => by cases r <;> exact ZG _ rfl) (ZlM a0 a1 a2 L3 L4 N) h

noncomputable def Zz {a0 : Int} {a1 : Int} {a2 : Int} {L3 : List RI} {L4 : List RG} {N : Nat} (h : ZX a0 a1 a2 L3 L4 N = some (.r0)) (ks : List Nat) (n : Nat) : ToldS := ⟨#[vp (nth ks 0) 0, Value.agg #[vi a0, vi a1]], [((nth ks 0), .cells [vi a2, vs (nth ks 1) 0 L3.length L3.length, vs (nth ks 2) 0 L4.length L4.length, vn, vn, vn, vn, vn, vn, vn, vn, vn, vn, vn, vn, vn, vn, vn, vn, vn] 154), ((nth ks 1), .cells (Za RC L3) 57), ((nth ks 2), .cells (Za RB L4) 42)], Value.tuple #[Value.agg #[vi (L3.getD (((a1 % (1048576 : Int)) - (1 : Int))).toNat RI.z).a0, vi (L3.getD (((a1 % (1048576 : Int)) - (1 : Int))).toNat RI.z).a1, vi (L3.getD (((a1 % (1048576 : Int)) - (1 : Int))).toNat RI.z).a2, vi (L3.getD (((a1 % (1048576 : Int)) - (1 : Int))).toNat RI.z).a3, vi (L3.getD (((a1 % (1048576 : Int)) - (1 : Int))).toNat RI.z).a4], vT], [], 0⟩

theorem Zbf {a0 : Int} {a1 : Int} {a2 : Int} {L3 : List RI} {L4 : List RG} {N : Nat} (h : ZX a0 a1 a2 L3 L4 N = some (.r0)) (ks : List Nat) (n : Nat) (hk : ks.length = 3 := by rfl) (hnd : ks.Nodup := by decide +kernel) (hlt : ∀ k ∈ ks, k < n := by decide +kernel) : (Zz (N := N)  h ks n).P Tryz.prog 21 n :=
 match ks, hk, hnd, hlt with
 | [k0, k1, k2], _, hnd, hlt => Za7 (show LSpec Tryz.prog 21 #[vp 0 0, Value.agg #[vi a0, vi a1]] [.cells (κu a2 L3 L4) 154, .cells (Za RC L3) 57, .cells (Za RB L4) 42] (Value.tuple #[Value.agg #[vi (L3.getD (((a1 % (1048576 : Int)) - (1 : Int))).toNat RI.z).a0, vi (L3.getD (((a1 % (1048576 : Int)) - (1 : Int))).toNat RI.z).a1, vi (L3.getD (((a1 % (1048576 : Int)) - (1 : Int))).toNat RI.z).a2, vi (L3.getD (((a1 % (1048576 : Int)) - (1 : Int))).toNat RI.z).a3, vi (L3.getD (((a1 % (1048576 : Int)) - (1 : Int))).toNat RI.z).a4], vT]) [some (.cells (κu a2 L3 L4) 154), some (.cells (Za RC L3) 57), some (.cells (Za RB L4) 42)] from Zk0 a0 a1 a2 L3 L4 N _ h) _ n [] hnd hlt

noncomputable abbrev κV (L5 : List RG) (a1 : Int) (a2 : Int) (a0 : Int) := #[Value.agg #[vi (L5.getD ((i64.wrap ((a1 % (1048576 : Int)) + a2))).toNat RG.z).a0, vi (L5.getD ((i64.wrap ((a1 % (1048576 : Int)) + a2))).toNat RG.z).a1], vq]
noncomputable def Zi9 (a0 a1 a2 a3 : Int) (L4 : List RI) (L5 : List RG) : Zdx → Value
 | .r0 => Value.tuple (κV L5 a1 a2 a0)
noncomputable abbrev κM (a3 : Int) (L4 : List RI) (L5 : List RG) := [vi a3, vs 1 0 L4.length L4.length, vs 2 0 L5.length L5.length, vn, vn, vn, vn, vn, vn, vn, vn, vn, vn, vn, vn, vn, vn, vn, vn, vn]
noncomputable def ZhV (a0 a1 a2 a3 : Int) (L4 : List RI) (L5 : List RG) : Zdx → List (Option AObj)
 | .r0 => [some (.cells (κM a3 L4 L5) 154), some (.cells (Za RC L4) 57), some (.cells (Za RB L5) 42)]

theorem ZlN (a0 a1 a2 a3 : Int) (L4 : List RI) (L5 : List RG) (N : Nat) : Fx Tryz.prog Zs Tryz.f22 [.cells (κM a3 L4 L5) 154, .cells (Za RC L4) 57, .cells (Za RB L5) 42] #[vp 0 0, Value.agg #[vi a0, vi a1], vi a2] (Zi9 a0 a1 a2 a3 L4 L5) (ZhV a0 a1 a2 a3 L4 L5) (Zaj a0 a1 a2 a3 L4 L5 N) := by
 unfold Zaj
 refine Zf (fun g0 => ?_) (fun _ => Zj)
 refine Zf (fun _ => Zj) (fun g1 => ?_)
 refine Zf (fun g2 => ?_) (fun _ => Zj)
 refine Zf (fun g3 => ?_) (fun _ => Zj)
 refine Zf (fun g4 => ?_) (fun _ => Zj)
 refine Zf (fun g5 => ?_) (fun _ => Zj)
 refine Zf (fun g6 => ?_) (fun _ => Zj)
 refine Zf (fun g7 => ?_) (fun _ => Zj)
 refine Zf (fun _ => Zj) (fun g8 => ?_)
 refine Zf (fun _ => Zj) (fun g9 => ?_)
 refine Zf (fun _ => Zj) (fun g10 => ?_)
 refine Zf (fun _ => Zj) (fun g11 => ?_)
 refine Zf (fun _ => Zj) (fun g12 => ?_)
 refine Zf (fun g13 => ?_) (fun _ => Zj)
 refine Zf (fun g14 => ?_) (fun _ => Zj)
 exact fxC (Zh (oq [3, 6, 9, 11, 13, 15, 17, 19, 21, 26, 28, 31, 33, 35, 37, 39, 42, 44, 47, 49, 51, 53, 55, 58, 60, 64, 66]) [(0, (a1 / (1048576 : Int))), (1, (a1 % (1048576 : Int))), (2, (a1 / (1048576 : Int))), (3, (a1 % (1048576 : Int))), (4, (a1 % (1048576 : Int))), (5, ((a1 % (1048576 : Int)) - (1 : Int))), (6, (a1 / (1048576 : Int))), (7, (a1 % (1048576 : Int))), (8, (a1 / (1048576 : Int))), (9, ((a1 % (1048576 : Int)) - (1 : Int)))] [(0, (((a1 % (1048576 : Int)) - (1 : Int))).toNat), (1, (((a1 % (1048576 : Int)) - (1 : Int))).toNat), (2, ((i64.wrap ((a1 % (1048576 : Int)) + a2))).toNat)] [(16, [.i (L4.getD (((a1 % (1048576 : Int)) - (1 : Int))).toNat RI.z).a0]), (21, [.i (L4.getD (((a1 % (1048576 : Int)) - (1 : Int))).toNat RI.z).a3]), (23, [.i (L4.getD (((a1 % (1048576 : Int)) - (1 : Int))).toNat RI.z).a1]), (25, (RB.cel (L5.getD ((i64.wrap ((a1 % (1048576 : Int)) + a2))).toNat RG.z)))] []) [0, 1, 2] (Value.tuple (κV L5 a1 a2 a0)) (kLn RB L5 (((i64.wrap ((a1 % (1048576 : Int)) + a2))).toNat) 0 2 <| kB ((i64.wrap ((a1 % (1048576 : Int)) + a2))).toNat L5.length <| kI (i64.wrap ((a1 % (1048576 : Int)) + a2)) (Int.ofNat ((i64.wrap ((a1 % (1048576 : Int)) + a2))).toNat) <| kN (a2 ≥ (L4.getD (((a1 % (1048576 : Int)) - (1 : Int))).toNat RI.z).a1) <| kL RC L4 ((((a1 % (1048576 : Int)) - (1 : Int))).toNat) 1 1 <| kB (((a1 % (1048576 : Int)) - (1 : Int))).toNat L4.length <| kI ((a1 % (1048576 : Int)) - (1 : Int)) (Int.ofNat (((a1 % (1048576 : Int)) - (1 : Int))).toNat) <| kW ((a1 % (1048576 : Int)) - (1 : Int)) ((a1 % (1048576 : Int)) - (1 : Int)) <| hN g11 <| hF g10 <| kL RC L4 ((((a1 % (1048576 : Int)) - (1 : Int))).toNat) 3 1 <| kE ((L4.getD (((a1 % (1048576 : Int)) - (1 : Int))).toNat RI.z).a0) (a1 / (1048576 : Int)) <| kV a1 (1048576 : Int) <| kY ((a1 % (1048576 : Int)) ≤ (1048575 : Int)) <| kY ((a1 % (1048576 : Int)) ≥ (1 : Int)) <| hY g6 <| kY ((a1 / (1048576 : Int)) ≥ (1 : Int)) <| kM a1 (1048576 : Int) <| kV a1 (1048576 : Int) <| kY (a1 > (0 : Int)) <| kE a0 (2 : Int) <| kL RC L4 ((((a1 % (1048576 : Int)) - (1 : Int))).toNat) 0 1 <| kB (((a1 % (1048576 : Int)) - (1 : Int))).toNat L4.length <| kI ((a1 % (1048576 : Int)) - (1 : Int)) (Int.ofNat (((a1 % (1048576 : Int)) - (1 : Int))).toNat) <| kW ((a1 % (1048576 : Int)) - (1 : Int)) ((a1 % (1048576 : Int)) - (1 : Int)) <| kN ((a1 % (1048576 : Int)) > (L4.length : Int)) <| kM a1 (1048576 : Int) <| kY ((a1 % (1048576 : Int)) ≤ (1048575 : Int)) <| kY ((a1 % (1048576 : Int)) ≥ (1 : Int)) <| hY g6 <| kY ((a1 / (1048576 : Int)) ≥ (1 : Int)) <| kM a1 (1048576 : Int) <| kV a1 (1048576 : Int) <| kY (a1 > (0 : Int)) <| kE a0 (2 : Int) <| kO ((a0 == (2 : Int)) && ((a1 == (0 : Int)) && true)) <| kY ((a1 % (1048576 : Int)) ≤ (1048575 : Int)) <| kY ((a1 % (1048576 : Int)) ≥ (1 : Int)) <| hY g6 <| kY ((a1 / (1048576 : Int)) ≥ (1 : Int)) <| kM a1 (1048576 : Int) <| kV a1 (1048576 : Int) <| kY (a1 > (0 : Int)) <| hD g2 <| kT a0 (2 : Int) <| kE a0 (2 : Int) <| kY (a3 > (0 : Int)) Zi) (bS (κM a3 L4 L5) <| bR <| bR <| bE)

theorem Zk1 (a0 a1 a2 a3 : Int) (L4 : List RI) (L5 : List RG) (N : Nat) (r : Zdx) (h : Zaj a0 a1 a2 a3 L4 L5 N = some r) : LSpec Tryz.prog 22 #[vp 0 0, Value.agg #[vi a0, vi a1], vi a2] [.cells (κM a3 L4 L5) 154, .cells (Za RC L4) 57, .cells (Za RB L5) 42] (Zi9 a0 a1 a2 a3 L4 L5 r) (ZhV a0 a1 a2 a3 L4 L5 r) :=
 Zbh Zau Tryz.func22 (by kernel_rfl) (by kernel_rfl) (fun r => by cases r <;> exact ZG _ rfl) (ZlN a0 a1 a2 a3 L4 L5 N) h

noncomputable def Z0 {a0 : Int} {a1 : Int} {a2 : Int} {a3 : Int} {L4 : List RI} {L5 : List RG} {N : Nat} (h : Zaj a0 a1 a2 a3 L4 L5 N = some (.r0)) (ks : List Nat) (n : Nat) : ToldS := ⟨#[vp (nth ks 0) 0, Value.agg #[vi a0, vi a1], vi a2], [((nth ks 0), .cells [vi a3, vs (nth ks 1) 0 L4.length L4.length, vs (nth ks 2) 0 L5.length L5.length, vn, vn, vn, vn, vn, vn, vn, vn, vn, vn, vn, vn, vn, vn, vn, vn, vn] 154), ((nth ks 1), .cells (Za RC L4) 57), ((nth ks 2), .cells (Za RB L5) 42)], Value.tuple (κV L5 a1 a2 a0), [], 0⟩

theorem ZbP {a0 : Int} {a1 : Int} {a2 : Int} {a3 : Int} {L4 : List RI} {L5 : List RG} {N : Nat} (h : Zaj a0 a1 a2 a3 L4 L5 N = some (.r0)) (ks : List Nat) (n : Nat) (hk : ks.length = 3 := by rfl) (hnd : ks.Nodup := by decide +kernel) (hlt : ∀ k ∈ ks, k < n := by decide +kernel) : (Z0 (N := N)  h ks n).P Tryz.prog 22 n :=
 match ks, hk, hnd, hlt with
 | [k0, k1, k2], _, hnd, hlt => Za7 (show LSpec Tryz.prog 22 #[vp 0 0, Value.agg #[vi a0, vi a1], vi a2] [.cells (κM a3 L4 L5) 154, .cells (Za RC L4) 57, .cells (Za RB L5) 42] (Value.tuple (κV L5 a1 a2 a0)) [some (.cells (κM a3 L4 L5) 154), some (.cells (Za RC L4) 57), some (.cells (Za RB L5) 42)] from Zk1 a0 a1 a2 a3 L4 L5 N _ h) _ n [] hnd hlt

noncomputable def ZhW (a0 a1 a2 a3 a4 a5 : Int) (L6 : List RI) (L7 : List RG) : ZcW → Value
 | .r0 => vq
noncomputable abbrev κN (a5 : Int) (L6 : List RI) (L7 : List RG) := [vi a5, vs 1 0 L6.length L6.length, vs 2 0 L7.length L7.length, vn, vn, vn, vn, vn, vn, vn, vn, vn, vn, vn, vn, vn, vn, vn, vn, vn]
noncomputable def Zhf (a0 a1 a2 a3 a4 a5 : Int) (L6 : List RI) (L7 : List RG) : ZcW → List (Option AObj)
 | .r0 => [some (.cells (κN a5 L6 L7) 154), some (.cells (Za RC L6) 57), some (.cells (Za RB (L7.set (((a1 % (1048576 : Int)) + a2)).toNat (⟨a3, a4⟩ : RG))) 42)]

theorem Zlk (a0 a1 a2 a3 a4 a5 : Int) (L6 : List RI) (L7 : List RG) (N : Nat) : Fx Tryz.prog Zs Tryz.f99 [.cells (κN a5 L6 L7) 154, .cells (Za RC L6) 57, .cells (Za RB L7) 42] #[vp 0 0, Value.agg #[vi a0, vi a1], vi a2, Value.agg #[vi a3, vi a4]] (ZhW a0 a1 a2 a3 a4 a5 L6 L7) (Zhf a0 a1 a2 a3 a4 a5 L6 L7) (ZaE a0 a1 a2 a3 a4 a5 L6 L7 N) := by
 unfold ZaE
 refine Zf (fun g0 => ?_) (fun _ => Zj)
 refine Zf (fun _ => Zj) (fun g1 => ?_)
 refine Zf (fun g2 => ?_) (fun _ => Zj)
 refine Zf (fun g3 => ?_) (fun _ => Zj)
 refine Zf (fun g4 => ?_) (fun _ => Zj)
 refine Zf (fun g5 => ?_) (fun _ => Zj)
 refine Zf (fun g6 => ?_) (fun _ => Zj)
 refine Zf (fun g7 => ?_) (fun _ => Zj)
 refine Zf (fun _ => Zj) (fun g8 => ?_)
 refine Zf (fun _ => Zj) (fun g9 => ?_)
 refine Zf (fun _ => Zj) (fun g10 => ?_)
 refine Zf (fun _ => Zj) (fun g11 => ?_)
 refine Zf (fun _ => Zj) (fun g12 => ?_)
 refine Zf (fun g13 => ?_) (fun _ => Zj)
 refine Zf (fun g14 => ?_) (fun _ => Zj)
 refine Zf (fun g15 => ?_) (fun _ => Zj)
 refine Zf (fun g16 => ?_) (fun _ => Zj)
 refine Zf (fun g17 => ?_) (fun _ => Zj)
 refine Zf (fun g18 => ?_) (fun _ => Zj)
 refine Zf (fun g19 => ?_) (fun _ => Zj)
 refine Zf (fun g20 => ?_) (fun _ => Zj)
 refine Zf (fun g21 => ?_) (fun _ => Zj)
 refine Zf (fun g22 => ?_) (fun _ => Zj)
 exact fxC (Zh (oq [3, 6, 9, 11, 13, 15, 17, 19, 21, 26, 28, 31, 33, 35, 37, 39, 42, 44, 47, 49, 51, 53, 55, 58, 60, 64, 66, 71, 73, 75, 77, 79, 81, 83, 85, 91]) [(0, (a1 / (1048576 : Int))), (1, (a1 % (1048576 : Int))), (2, (a1 / (1048576 : Int))), (3, (a1 % (1048576 : Int))), (4, (a1 % (1048576 : Int))), (5, ((a1 % (1048576 : Int)) - (1 : Int))), (6, (a1 / (1048576 : Int))), (7, (a1 % (1048576 : Int))), (8, (a1 / (1048576 : Int))), (9, ((a1 % (1048576 : Int)) - (1 : Int))), (10, ((a1 % (1048576 : Int)) - (1 : Int))), (12, (((L6.getD (((a1 % (1048576 : Int)) - (1 : Int))).toNat RI.z).a2 / (2 ^ (a2).toNat : Int)) % (2 : Int))), (13, (a4 / (1048576 : Int))), (14, (a4 % (1048576 : Int))), (15, ((a1 % (1048576 : Int)) + a2))] [(0, (((a1 % (1048576 : Int)) - (1 : Int))).toNat), (1, (((a1 % (1048576 : Int)) - (1 : Int))).toNat), (2, (((a1 % (1048576 : Int)) - (1 : Int))).toNat), (3, (((a1 % (1048576 : Int)) + a2)).toNat)] [(16, [.i (L6.getD (((a1 % (1048576 : Int)) - (1 : Int))).toNat RI.z).a0]), (21, [.i (L6.getD (((a1 % (1048576 : Int)) - (1 : Int))).toNat RI.z).a3]), (23, [.i (L6.getD (((a1 % (1048576 : Int)) - (1 : Int))).toNat RI.z).a1]), (25, [.i (L6.getD (((a1 % (1048576 : Int)) - (1 : Int))).toNat RI.z).a2])] [(5, .sh (a2).toNat), (7, .st (Za RB (L7.set (((a1 % (1048576 : Int)) + a2)).toNat (⟨a3, a4⟩ : RG))))]) [0, 1, 2] (vq) (kC (Zcq (E := RB) (L := L7) (i := (((a1 % (1048576 : Int)) + a2)).toNat) (q := 0) (l := [vi a3, vi a4]) (⟨a3, a4⟩ : RG) (by omega) (show (0 + ((((a1 % (1048576 : Int)) + a2)).toNat * 2)) = (((a1 % (1048576 : Int)) + a2)).toNat * 2 + 0 from by omega) (show 0 + 2 ≤ 2 from by decide) rfl) <| kB (((a1 % (1048576 : Int)) + a2)).toNat L7.length <| kI ((a1 % (1048576 : Int)) + a2) (Int.ofNat (((a1 % (1048576 : Int)) + a2)).toNat) <| kW ((a1 % (1048576 : Int)) + a2) ((a1 % (1048576 : Int)) + a2) <| hT g15 <| kY ((a4 % (1048576 : Int)) ≤ (1048575 : Int)) <| kY ((a4 % (1048576 : Int)) ≥ (1 : Int)) <| hY g20 <| kY ((a4 / (1048576 : Int)) ≥ (1 : Int)) <| kM a4 (1048576 : Int) <| kV a4 (1048576 : Int) <| kY (a4 > (0 : Int)) <| hD g16 <| hT g15 <| hT g14 <| kX ((i64.wrap (((BitVec.ofInt i64.bits ((L6.getD (((a1 % (1048576 : Int)) - (1 : Int))).toNat RI.z).a2 / (2 ^ (a2).toNat : Int)) &&& BitVec.ofInt i64.bits (1 : Int)).toNat : Nat) : Int)) == (((L6.getD (((a1 % (1048576 : Int)) - (1 : Int))).toNat RI.z).a2 / (2 ^ (a2).toNat : Int)) % (2 : Int))) true (beq_iff_eq.2 (Zuq _)) <| kS a2 ((a2).toNat) .i64 <| kL RC L6 ((((a1 % (1048576 : Int)) - (1 : Int))).toNat) 2 1 <| kB (((a1 % (1048576 : Int)) - (1 : Int))).toNat L6.length <| kI ((a1 % (1048576 : Int)) - (1 : Int)) (Int.ofNat (((a1 % (1048576 : Int)) - (1 : Int))).toNat) <| kW ((a1 % (1048576 : Int)) - (1 : Int)) ((a1 % (1048576 : Int)) - (1 : Int)) <| kN (a2 ≥ (L6.getD (((a1 % (1048576 : Int)) - (1 : Int))).toNat RI.z).a1) <| kL RC L6 ((((a1 % (1048576 : Int)) - (1 : Int))).toNat) 1 1 <| kB (((a1 % (1048576 : Int)) - (1 : Int))).toNat L6.length <| kI ((a1 % (1048576 : Int)) - (1 : Int)) (Int.ofNat (((a1 % (1048576 : Int)) - (1 : Int))).toNat) <| kW ((a1 % (1048576 : Int)) - (1 : Int)) ((a1 % (1048576 : Int)) - (1 : Int)) <| hN g11 <| hF g10 <| kL RC L6 ((((a1 % (1048576 : Int)) - (1 : Int))).toNat) 3 1 <| kE ((L6.getD (((a1 % (1048576 : Int)) - (1 : Int))).toNat RI.z).a0) (a1 / (1048576 : Int)) <| kV a1 (1048576 : Int) <| kY ((a1 % (1048576 : Int)) ≤ (1048575 : Int)) <| kY ((a1 % (1048576 : Int)) ≥ (1 : Int)) <| hY g6 <| kY ((a1 / (1048576 : Int)) ≥ (1 : Int)) <| kM a1 (1048576 : Int) <| kV a1 (1048576 : Int) <| kY (a1 > (0 : Int)) <| kE a0 (2 : Int) <| kL RC L6 ((((a1 % (1048576 : Int)) - (1 : Int))).toNat) 0 1 <| kB (((a1 % (1048576 : Int)) - (1 : Int))).toNat L6.length <| kI ((a1 % (1048576 : Int)) - (1 : Int)) (Int.ofNat (((a1 % (1048576 : Int)) - (1 : Int))).toNat) <| kW ((a1 % (1048576 : Int)) - (1 : Int)) ((a1 % (1048576 : Int)) - (1 : Int)) <| kN ((a1 % (1048576 : Int)) > (L6.length : Int)) <| kM a1 (1048576 : Int) <| kY ((a1 % (1048576 : Int)) ≤ (1048575 : Int)) <| kY ((a1 % (1048576 : Int)) ≥ (1 : Int)) <| hY g6 <| kY ((a1 / (1048576 : Int)) ≥ (1 : Int)) <| kM a1 (1048576 : Int) <| kV a1 (1048576 : Int) <| kY (a1 > (0 : Int)) <| kE a0 (2 : Int) <| kO ((a0 == (2 : Int)) && ((a1 == (0 : Int)) && true)) <| kY ((a1 % (1048576 : Int)) ≤ (1048575 : Int)) <| kY ((a1 % (1048576 : Int)) ≥ (1 : Int)) <| hY g6 <| kY ((a1 / (1048576 : Int)) ≥ (1 : Int)) <| kM a1 (1048576 : Int) <| kV a1 (1048576 : Int) <| kY (a1 > (0 : Int)) <| hD g2 <| kT a0 (2 : Int) <| kE a0 (2 : Int) <| kY (a5 > (0 : Int)) Zi) (bS (κN a5 L6 L7) <| bR <| bR <| bE)

theorem Zka (a0 a1 a2 a3 a4 a5 : Int) (L6 : List RI) (L7 : List RG) (N : Nat) (r : ZcW) (h : ZaE a0 a1 a2 a3 a4 a5 L6 L7 N = some r) : LSpec Tryz.prog 99 #[vp 0 0, Value.agg #[vi a0, vi a1], vi a2, Value.agg #[vi a3, vi a4]] [.cells (κN a5 L6 L7) 154, .cells (Za RC L6) 57, .cells (Za RB L7) 42] (ZhW a0 a1 a2 a3 a4 a5 L6 L7 r) (Zhf a0 a1 a2 a3 a4 a5 L6 L7 r) :=
 Zbh Zau Tryz.func99 (by kernel_rfl) (by kernel_rfl) (fun r => by cases r <;> exact ZG _ rfl) (Zlk a0 a1 a2 a3 a4 a5 L6 L7 N) h

noncomputable def Zfh {a0 : Int} {a1 : Int} {a2 : Int} {a3 : Int} {a4 : Int} {a5 : Int} {L6 : List RI} {L7 : List RG} {N : Nat} (h : ZaE a0 a1 a2 a3 a4 a5 L6 L7 N = some (.r0)) (ks : List Nat) (n : Nat) : ToldS := ⟨#[vp (nth ks 0) 0, Value.agg #[vi a0, vi a1], vi a2, Value.agg #[vi a3, vi a4]], [((nth ks 0), .cells [vi a5, vs (nth ks 1) 0 L6.length L6.length, vs (nth ks 2) 0 L7.length L7.length, vn, vn, vn, vn, vn, vn, vn, vn, vn, vn, vn, vn, vn, vn, vn, vn, vn] 154), ((nth ks 1), .cells (Za RC L6) 57), ((nth ks 2), .cells (Za RB L7) 42)], vq, [((nth ks 2), some (.cells (Za RB (L7.set (((a1 % (1048576 : Int)) + a2)).toNat (⟨a3, a4⟩ : RG))) 42))], 0⟩

theorem Zhg {a0 : Int} {a1 : Int} {a2 : Int} {a3 : Int} {a4 : Int} {a5 : Int} {L6 : List RI} {L7 : List RG} {N : Nat} (h : ZaE a0 a1 a2 a3 a4 a5 L6 L7 N = some (.r0)) (ks : List Nat) (n : Nat) (hk : ks.length = 3 := by rfl) (hnd : ks.Nodup := by decide +kernel) (hlt : ∀ k ∈ ks, k < n := by decide +kernel) : (Zfh (N := N)  h ks n).P Tryz.prog 99 n :=
 match ks, hk, hnd, hlt with
 | [k0, k1, k2], _, hnd, hlt => Za7 (show LSpec Tryz.prog 99 #[vp 0 0, Value.agg #[vi a0, vi a1], vi a2, Value.agg #[vi a3, vi a4]] [.cells (κN a5 L6 L7) 154, .cells (Za RC L6) 57, .cells (Za RB L7) 42] (vq) [some (.cells (κN a5 L6 L7) 154), some (.cells (Za RC L6) 57), some (.cells (Za RB (L7.set (((a1 % (1048576 : Int)) + a2)).toNat (⟨a3, a4⟩ : RG))) 42)] from Zka a0 a1 a2 a3 a4 a5 L6 L7 N _ h) _ n [2] hnd hlt

noncomputable def Zor (a0 a1 : Int) : Zdy → Value
 | .r0 w0 w1 w2 => Value.tuple #[Value.agg #[vi w0, vi w1], vi w2]
noncomputable def Znl (a0 a1 : Int) : Zdy → List (Option AObj)
 | .r0 w0 w1 w2 => []

theorem Zq6 (a0 a1 : Int) (N : Nat) : Fx Tryz.prog Zs Tryz.f57 [] #[vi a0, vi a1] (Zor a0 a1) (Znl a0 a1) (Zcd a0 a1 N) := by
 unfold Zcd
 refine Zf (fun g0 => ?_) (fun g0 => ?_)
 ·
  refine Zf (fun g1 => ?_) (fun g1 => ?_)
  ·
   refine Zf (fun g2 => ?_) (fun g2 => ?_)
   ·
    refine Zf (fun g3 => ?_) (fun g3 => ?_)
    ·
     exact fxC (Zh (oq [1, 3, 5, 7]) [(0, (a0 * (1048576 : Int))), (1, ((a0 * (1048576 : Int)) + a1))] [] [] []) [] (Value.tuple #[Value.agg #[vi (2 : Int), vi ((a0 * (1048576 : Int)) + a1)], vq]) (kW ((a0 * (1048576 : Int)) + a1) ((a0 * (1048576 : Int)) + a1) <| kW (a0 * (1048576 : Int)) (a0 * (1048576 : Int)) <| hY g3 <| kY (a1 ≥ (1 : Int)) <| hY g1 <| kY (a0 ≥ (1 : Int)) Zi) bE
    ·
     exact fxC (Zh (oq [1, 3, 5, 6]) [] [] [] []) [] (Value.tuple #[Value.agg #[vq, vq], vi (1 : Int)]) (hN g3 <| kY (a1 ≥ (1 : Int)) <| hY g1 <| kY (a0 ≥ (1 : Int)) Zi) bE
   ·
    exact fxC (Zh (oq [1, 3, 4]) [] [] [] []) [] (Value.tuple #[Value.agg #[vq, vq], vi (1 : Int)]) (kN (a1 ≥ (1 : Int)) <| hY g1 <| kY (a0 ≥ (1 : Int)) Zi) bE
  ·
   exact fxC (Zh (oq [1, 2]) [] [] [] []) [] (Value.tuple #[Value.agg #[vq, vq], vi (1 : Int)]) (hN g1 <| kY (a0 ≥ (1 : Int)) Zi) bE
 ·
  exact fxC (Zh (oq [0]) [] [] [] []) [] (Value.tuple #[Value.agg #[vq, vq], vi (1 : Int)]) (kN (a0 ≥ (1 : Int)) Zi) bE

theorem Zo4 (a0 a1 : Int) (N : Nat) (r : Zdy) (h : Zcd a0 a1 N = some r) : LSpec Tryz.prog 57 #[vi a0, vi a1] [] (Zor a0 a1 r) (Znl a0 a1 r) :=
 Zbh Zau Tryz.func57 (by kernel_rfl) (by kernel_rfl) (fun r => by cases r <;> exact ZG _ rfl) (Zq6 a0 a1 N) h

noncomputable def Zhu {a0 : Int} {a1 : Int} {w0 : Int} {w1 : Int} {w2 : Int} {N : Nat} (h : Zcd a0 a1 N = some (.r0 w0 w1 w2)) (ks : List Nat) (n : Nat) : ToldS := ⟨#[vi a0, vi a1], [], Value.tuple #[Value.agg #[vi w0, vi w1], vi w2], [], 0⟩

theorem Zkb {a0 : Int} {a1 : Int} {w0 : Int} {w1 : Int} {w2 : Int} {N : Nat} (h : Zcd a0 a1 N = some (.r0 w0 w1 w2)) (ks : List Nat) (n : Nat) (hk : ks.length = 0 := by rfl) (hnd : ks.Nodup := by decide +kernel) (hlt : ∀ k ∈ ks, k < n := by decide +kernel) : (Zhu (N := N)  h ks n).P Tryz.prog 57 n :=
 match ks, hk, hnd, hlt with
 | [], _, hnd, hlt => Za7 (show LSpec Tryz.prog 57 #[vi a0, vi a1] [] (Value.tuple #[Value.agg #[vi w0, vi w1], vi w2]) [] from Zo4 a0 a1 N _ h) _ n [] hnd hlt

noncomputable def Zgg (L0 : List RG) (n1 n2 n3 : Nat) : ZaF → Value
 | .r0 => ms RB ((L0.drop n1).take n2)
noncomputable def ZfU (L0 : List RG) (n1 n2 n3 : Nat) : ZaF → List (Option AObj)
 | .r0 => [some (.cells (Za RB L0) 42)]

theorem Zfi (L0 : List RG) (n1 n2 n3 N : Nat) (r : ZaF) (h : ZE L0 n1 n2 n3 N = some r) : LSpec Tryz.prog 58 #[vs 0 (n1 * 2) n2 n3] [.cells (Za RB L0) 42] (Zgg L0 n1 n2 n3 r) (ZfU L0 n1 n2 n3 r) := by
 unfold ZE at h
 by_cases h0 : n1 + n2 ≤ L0.length
 · rw [if_pos h0] at h
   by_cases h1 : n2 ≤ 100000
   · rw [if_pos h1] at h
     obtain rfl := (Option.some.inj h).symm
     exact ZrS (E := RB) (L := L0) ZtE rfl h0 (show _ = _ * 2 from by omega) (Nat.le_trans h1 (by decide)) (by show n2 * 16 ≤ _; omega)
   · rw [if_neg h1] at h; cases h
 · rw [if_neg h0] at h; cases h

noncomputable def ZbX {L0 : List RG} {n1 : Nat} {n2 : Nat} {n3 : Nat} {N : Nat} (h : ZE L0 n1 n2 n3 N = some (.r0)) (ks : List Nat) (n : Nat) : ToldS := ⟨#[vs (nth ks 0) (n1 * 2) n2 n3], [((nth ks 0), .cells (Za RB L0) 42)], ms RB ((L0.drop n1).take n2), [], 0⟩

theorem Zdk {L0 : List RG} {n1 : Nat} {n2 : Nat} {n3 : Nat} {N : Nat} (h : ZE L0 n1 n2 n3 N = some (.r0)) (ks : List Nat) (n : Nat) (hk : ks.length = 1 := by rfl) (hnd : ks.Nodup := by decide +kernel) (hlt : ∀ k ∈ ks, k < n := by decide +kernel) : (ZbX (N := N)  h ks n).P Tryz.prog 58 n :=
 match ks, hk, hnd, hlt with
 | [k0], _, hnd, hlt => Za7 (show LSpec Tryz.prog 58 #[vs 0 (n1 * 2) n2 n3] [.cells (Za RB L0) 42] (ms RB ((L0.drop n1).take n2)) [some (.cells (Za RB L0) 42)] from Zfi L0 n1 n2 n3 N _ h) _ n [] hnd hlt

set_option linter.unusedVariables false
set_option maxRecDepth 100000
set_option maxHeartbeats 4000000
noncomputable def Zew (a0 : Int) (L1 : List RI) (L2 : List RG) : heap_Heap_ObjectsR → Value
 | .r0 => vn
 | .r1 w2 => vs 3 0 w2.length w2.length
noncomputable abbrev κK (L2 : List RG) := (AObj.cells (Za RB L2) 42)
noncomputable abbrev κc (a0 : Int) (L1 : List RI) (L2 : List RG) := [vi a0, vs 1 0 L1.length L1.length, vs 2 0 L2.length L2.length, vn, vn, vn, vn, vn, vn, vn, vn, vn, vn, vn, vn, vn, vn, vn, vn, vn]
noncomputable def Zeg (a0 : Int) (L1 : List RI) (L2 : List RG) : heap_Heap_ObjectsR → List (Option AObj)
 | .r0 => [some (.cells (κc a0 L1 L2) 154), some (.cells (Za RC L1) 57), some (κK L2)]
 | .r1 w2 => [some (.cells (κc a0 L1 L2) 154), some (.cells (Za RC L1) 57), some (κK L2), some (.cells (Za RD w2) 156)]

noncomputable def Zll (a0 : Int) (L1 : List RI) (L2 : List RG) : heap_Heap_ObjectsR → Value
 | .r0 => ms RD ([] : List RJ)
 | .r1 w2 => ms RD w2
noncomputable def Zk2 (a0 : Int) (L1 : List RI) (L2 : List RG) : heap_Heap_ObjectsR → List (Option AObj)
 | .r0 => [some (.cells (κc a0 L1 L2) 154), some (.cells (Za RC L1) 57), some (κK L2)]
 | .r1 w2 => [some (.cells (κc a0 L1 L2) 154), some (.cells (Za RC L1) 57), some (κK L2)]

noncomputable def Zmz (live : List Nat) (r : Out) : Option (Value × List (Option AObj) × List (Bool × Bool)) :=
 match r with
 | some (u, s) => bif Nat.ble s.n 1000000000 then some (u, live.map s.h.get, s.ob) else none
 | none => none
theorem Zq7 {P : Program} {ext : FuncId → Option Ext} (F : Fit P ext) {f : FuncId} {fn : Func} {c : Code} (hfn : P.funcs[f]? = some fn) (hb : fn.body = some c) {A : Array Value} {pre : List AObj} {v u : Value} {post : List (Option AObj)} {orc : Orc} {live : List Nat} {bl : List (Option AObj)} {ob : List (Bool × Bool)} (ho : ∀ p ∈ ob, p.1 = p.2) (hv : v = ZO (rho live far) 3 u ∧ ZK 3 u = true) (hbl : Z6 (rho live far) bl post) (hev : Zmz live (Zjx P ext 4000 f A ⟨Zd8 0 pre, pre.length, [], orc, []⟩) = some (u, bl, ob)) (hle : post.length ≤ far)
  (hl : live.length = post.length) (hn : live.Nodup) (hk : ZaX pre.length live = true) : LSpec P f A pre v post := by
 intro ι w args' hdm ha he
 unfold Zmz at hev
 split at hev
 · rename_i u' s h1
   obtain ⟨hnn, hev⟩ := Zl hev
   injection hev with hev; simp only [Prod.mk.injEq] at hev; obtain ⟨rfl, rfl, rfl⟩ := hev
   have hg := (ZmZ (fu := 4000) F hfn hb).does A _ u' s h1 ho ι w args' ha (by show Emb P ι (Zd8 0 pre).get w; rw [ZeE]; exact he) ⟨Nat.le_of_ble_eq_true hnn, fun k k1 k2 => by
    cases hk2 : ι k with
    | none => rfl
    | some b => exact absurd (hdm k (by rw [hk2]; simp)) (by have h3 : pre.length ≤ k := k1; have h4 : k < s.n := k2; have h5 : s.n ≤ 1000000000 := Nat.le_of_ble_eq_true hnn; unfold ZW; omega)⟩
   rcases hg with ⟨_, hc⟩ | ⟨v0, w0, hr, _⟩
   · refine hc.mono ?_
     rintro e w' ⟨v', ι', rfl, g1, _, g3⟩
     exact ZkZ hle hdm ⟨hl, hn, hk, hv, ZdS hbl⟩ (by have := g1; simp only [ZeE] at this; exact this) g3
   · rw [ZbU hfn (F.go f fn hfn) hb] at hr; cases hr
 · cases hev
def RdG {X R : Type} (Q : X ⊕ R → Prop) (o : Option (X ⊕ R)) : Prop := ∀ o', o = some o' → Q o'
section
variable {X R : Type} {Q : X ⊕ R → Prop}
theorem Zer : RdG Q none := fun _ h => by cases h
theorem Zh3 {o : X ⊕ R} (h : Q o) : RdG Q (some o) := fun _ e => by cases e; exact h
theorem ZdL {c : Prop} [Decidable c] {B C : Option (X ⊕ R)} (h1 : c → RdG Q B) (h2 : ¬ c → RdG Q C) : RdG Q (if c then B else C) := by
 by_cases h : c
 · rw [if_pos h]; exact h1 h
 · rw [if_neg h]; exact h2 h
theorem ZlI {Z : Type} {f : Option Z} {g : Z → Option (X ⊕ R)} (h : ∀ z, f = some z → RdG Q (g z)) : RdG Q (f.bind g) := by
 cases hf : f with
 | none => exact Zer
 | some z => exact h z hf
end
noncomputable def Zdd : Nat × Code := match (Tryz.f55).body with
 | some (.seq _ (.block id (.loop cB))) => (id, cB)
 | _ => (0, .skip)
noncomputable def Zde : Code × Code := match (Tryz.f18).body with
 | some (.seq _ (.seq _ (.seq _ (.seq (.seq _ (.block _ (.rangeFunc _ _ asg body))) _)))) => (asg, body)
 | _ => (.skip, .skip)
noncomputable def Zc1 (a0 : Int) (L1 : List RI) (L2 : List RG) : heap_Heap_ObjectsX → List (Option AObj)
 | .h1m0 v3 => [some (.cells (κc a0 L1 L2) 154), some (.cells (Za RC L1) 57), some (κK L2), some (.cells [vp 0 0] 47), some (.cells [vn] 46), none]
 | .h1m1 v3 v5 => [some (.cells (κc a0 L1 L2) 154), some (.cells (Za RC L1) 57), some (κK L2), some (.cells [vp 0 0] 47), some (.cells [vs 5 0 v5.length v5.length] 46), some (.cells (Za RD v5) 156)]
noncomputable def Zex (a0 : Int) (L1 : List RI) (L2 : List RG) : heap_Heap_ObjectsR → List (Option AObj)
 | .r0 => [some (.cells (κc a0 L1 L2) 154), some (.cells (Za RC L1) 57), some (κK L2), some (.cells [vp 0 0] 47), some (.cells [vn] 46), none]
 | .r1 v5 => [some (.cells (κc a0 L1 L2) 154), some (.cells (Za RC L1) 57), some (κK L2), some (.cells [vp 0 0] 47), some (.cells [vs 5 0 v5.length v5.length] 46), some (.cells (Za RD v5) 156)]
noncomputable def Zb8 : heap_Heap_ObjectsX → List (Nat × Value)
 | .h1m0 v3 => [(0, vp 0 0), (4, vi v3)]
 | .h1m1 v3 v5 => [(0, vp 0 0), (4, vi v3)]
noncomputable def Zb9 : List (Nat × Value) := [(1, vp 3 0), (3, vp 4 0), (12, .func (.func 55) #[vp 0 0] #[])]
def ZgR (a0 : Int) (L1 : List RI) (L2 : List RG) (x : heap_Heap_ObjectsX) (gv gvc : Nat → Value) (ps : Array Tmp) (asg body : Code) (id : Nat) (cB : Code) : heap_Heap_ObjectsX ⊕ heap_Heap_ObjectsR → Prop
 | .inl y => ∃ fu orc live tv bl ob, Zmx live ((Zb8 y).map (·.1)) [1] (evI Tryz.prog Zs (Tryz.f55).ntmps ⟨(Tryz.f18).ntmps, tmps (Tryz.f18).ntmps (fun t => ZQ t Zb9) gvc, ps, asg, body⟩ fu cB (tmps (Tryz.f55).ntmps (fun t => ZQ t (Zb8 x)) gv) ⟨ZbK 0 (Zc1 a0 L1 L2 x), 6, [], orc, []⟩ [1] none) = some (.normal, tv, bl, ob) ∧ (∀ p ∈ ob, p.1 = p.2) ∧ live.length = 6 ∧ live.Nodup ∧ ZaX 5 live = true ∧ Zci (rho live far) tv (Zb8 y) ∧ Z6 (rho live far) bl (Zc1 a0 L1 L2 y)
 | .inr r => ∃ fu orc live bl ob, Zmx live [] [1] (evI Tryz.prog Zs (Tryz.f55).ntmps ⟨(Tryz.f18).ntmps, tmps (Tryz.f18).ntmps (fun t => ZQ t Zb9) gvc, ps, asg, body⟩ fu cB (tmps (Tryz.f55).ntmps (fun t => ZQ t (Zb8 x)) gv) ⟨ZbK 0 (Zc1 a0 L1 L2 x), 6, [], orc, []⟩ [1] none) = some (.exit id, [], bl, ob) ∧ (∀ p ∈ ob, p.1 = p.2) ∧ live.length = 6 ∧ live.Nodup ∧ ZaX 5 live = true ∧ Z6 (rho live far) bl (Zex a0 L1 L2 r)

theorem ZfL (a0 : Int) (L1 : List RI) (L2 : List RG) (N : Nat) (v3 : Int) (gv gvc : Nat → Value) (ps : Array Tmp) (asg body : Code) (id : Nat) (cB : Code) (hps : ps = #[13]) (hcode : (id, cB) = Zdd) (hab : (asg, body) = Zde) : RdG (ZgR a0 L1 L2 (.h1m0 v3) gv gvc ps asg body id cB) (ZbC a0 L1 L2 N v3) := by
 subst hps
 simp only [Zdd, Zde, Prod.mk.injEq] at hcode hab
 obtain ⟨rfl, rfl⟩ := hcode
 obtain ⟨rfl, rfl⟩ := hab
 unfold ZbC
 refine ZdL (fun g0 => ?_) (fun _ => Zer)
 refine ZdL (fun g1 => ?_) (fun _ => Zer)
 refine ZdL (fun g2 => ?_) (fun g2 => ?_)
 ·
  have w3 := kLn RC L1 (((v3 - (1 : Int))).toNat) 0 5 <| kB ((v3 - (1 : Int))).toNat L1.length <| kI (v3 - (1 : Int)) (Int.ofNat ((v3 - (1 : Int))).toNat) <| kW (v3 - (1 : Int)) (v3 - (1 : Int)) <| hY g2 Zi
  refine ZdL (fun g3 => ?_) (fun g3 => ?_)
  ·
   exact Zh3 (⟨4000, (Zh (oq [1, 3]) [(0, (v3 - (1 : Int))), (1, (v3 - (1 : Int)))] [(0, ((v3 - (1 : Int))).toNat), (1, ((v3 - (1 : Int))).toNat)] [(3, (RC.cel (L1.getD ((v3 - (1 : Int))).toNat RI.z))), (6, [.i (L1.getD ((v3 - (1 : Int))).toNat RI.z).a1])] []), (rg 0 5 [900000000]), [some (vp 0 0), some (vi (i64.wrap (v3 + (i64.wrap ((L1.getD ((v3 - (1 : Int))).toNat RI.z).a1 + (1 : Int))))))], _, _, by kernel_rfl, (kL RC L1 (((v3 - (1 : Int))).toNat) 1 1 <| kB ((v3 - (1 : Int))).toNat L1.length <| kI (v3 - (1 : Int)) (Int.ofNat ((v3 - (1 : Int))).toNat) <| kW (v3 - (1 : Int)) (v3 - (1 : Int)) <| hT g3 w3), rfl, by decide +kernel, by rfl, (tC (tC (tE))), (bS (κc a0 L1 L2) <| bR <| bR <| bS [vp 0 0] <| bS [vn] <| bN <| bE)⟩)
  ·
   refine ZlI (fun z4 c4 => ?_)
   cases z4 with
   | r0 y4_0 y4_1 y4_2 =>
    refine ZdL (fun g5 => ?_) (fun _ => Zer)
    refine ZdL (fun g6 => ?_) (fun _ => Zer)
    refine ZlI (fun z7 c7 => ?_)
    cases z7 with
    | r0 =>
     exact Zh3 (⟨4000, (Zh (oq [1, 2]) [(0, (v3 - (1 : Int))), (2, (v3 - (1 : Int)))] [(0, ((v3 - (1 : Int))).toNat), (1, ((v3 - (1 : Int))).toNat)] [(3, (RC.cel (L1.getD ((v3 - (1 : Int))).toNat RI.z))), (13, [.i (L1.getD ((v3 - (1 : Int))).toNat RI.z).a1])] [(1, (Zhu c4 [] 7).t), (3, .sl (v3).toNat ((i64.wrap (v3 + (L1.getD ((v3 - (1 : Int))).toNat RI.z).a1))).toNat), (4, (ZbX c7 [2] 8).t)]), (rg 0 5 [9]), [some (vp 0 0), some (vi (i64.wrap (v3 + (i64.wrap ((L1.getD ((v3 - (1 : Int))).toNat RI.z).a1 + (1 : Int))))))], _, _, by kernel_rfl, (kL RC L1 (((v3 - (1 : Int))).toNat) 1 1 <| kB ((v3 - (1 : Int))).toNat L1.length <| kI (v3 - (1 : Int)) (Int.ofNat ((v3 - (1 : Int))).toNat) <| kW (v3 - (1 : Int)) (v3 - (1 : Int)) <| kKb (A := #[Value.slice (some ⟨2, (0 + ((v3).toNat * 2)), none⟩) (((i64.wrap (v3 + (L1.getD ((v3 - (1 : Int))).toNat RI.z).a1))).toNat - (v3).toNat) (L2.length - (v3).toNat)]) (ZjV (Zg (Z3 eqA rfl rfl) rfl)) (Zdk c7 [2] 8) <| kR (Za RB L2) <| kX (dP ((v3).toNat ≤ ((i64.wrap (v3 + (L1.getD ((v3 - (1 : Int))).toNat RI.z).a1))).toNat ∧ ((i64.wrap (v3 + (L1.getD ((v3 - (1 : Int))).toNat RI.z).a1))).toNat ≤ L2.length)) true (Zv ⟨ltA, ltA⟩) <| kI (i64.wrap (v3 + (L1.getD ((v3 - (1 : Int))).toNat RI.z).a1)) (Int.ofNat ((i64.wrap (v3 + (L1.getD ((v3 - (1 : Int))).toNat RI.z).a1))).toNat) <| kI v3 (Int.ofNat (v3).toNat) <| kK (Zkb c4 [] 7) <| hF g3 w3), rfl, by decide +kernel, by rfl, (tC (tC (tE))), (bS (κc a0 L1 L2) <| bR <| bR <| bS [vp 0 0] <| bU [vs 9 0 1 1] 0 (show (vs 5 0 1 1 : Value) = vs 5 0 ([(⟨y4_0, y4_1, (L1.getD ((v3 - (1 : Int))).toNat RI.z).a0, (L1.getD ((v3 - (1 : Int))).toNat RI.z).a1, (L1.getD ((v3 - (1 : Int))).toNat RI.z).a2, (L1.getD ((v3 - (1 : Int))).toNat RI.z).a3, (L1.getD ((v3 - (1 : Int))).toNat RI.z).a4, ((L2.drop (v3).toNat).take (((i64.wrap (v3 + (L1.getD ((v3 - (1 : Int))).toNat RI.z).a1))).toNat - (v3).toNat))⟩ : RJ)] : List RJ).length ([(⟨y4_0, y4_1, (L1.getD ((v3 - (1 : Int))).toNat RI.z).a0, (L1.getD ((v3 - (1 : Int))).toNat RI.z).a1, (L1.getD ((v3 - (1 : Int))).toNat RI.z).a2, (L1.getD ((v3 - (1 : Int))).toNat RI.z).a3, (L1.getD ((v3 - (1 : Int))).toNat RI.z).a4, ((L2.drop (v3).toNat).take (((i64.wrap (v3 + (L1.getD ((v3 - (1 : Int))).toNat RI.z).a1))).toNat - (v3).toNat))⟩ : RJ)] : List RJ).length from Z3 rfl eqA eqA) <| bC (o := .cells [vi y4_0, vi y4_1, vi (L1.getD ((v3 - (1 : Int))).toNat RI.z).a0, vi (L1.getD ((v3 - (1 : Int))).toNat RI.z).a1, vi (L1.getD ((v3 - (1 : Int))).toNat RI.z).a2, vi (L1.getD ((v3 - (1 : Int))).toNat RI.z).a3, vi (L1.getD ((v3 - (1 : Int))).toNat RI.z).a4, ms RB ((L2.drop (v3).toNat).take (((i64.wrap (v3 + (L1.getD ((v3 - (1 : Int))).toNat RI.z).a1))).toNat - (v3).toNat))] 156) (Zcc (E := RD) _ (L := ([(⟨y4_0, y4_1, (L1.getD ((v3 - (1 : Int))).toNat RI.z).a0, (L1.getD ((v3 - (1 : Int))).toNat RI.z).a1, (L1.getD ((v3 - (1 : Int))).toNat RI.z).a2, (L1.getD ((v3 - (1 : Int))).toNat RI.z).a3, (L1.getD ((v3 - (1 : Int))).toNat RI.z).a4, ((L2.drop (v3).toNat).take (((i64.wrap (v3 + (L1.getD ((v3 - (1 : Int))).toNat RI.z).a1))).toNat - (v3).toNat))⟩ : RJ)] : List RJ)) _ (show ([vi y4_0, vi y4_1, vi (L1.getD ((v3 - (1 : Int))).toNat RI.z).a0, vi (L1.getD ((v3 - (1 : Int))).toNat RI.z).a1, vi (L1.getD ((v3 - (1 : Int))).toNat RI.z).a2, vi (L1.getD ((v3 - (1 : Int))).toNat RI.z).a3, vi (L1.getD ((v3 - (1 : Int))).toNat RI.z).a4, ms RB ((L2.drop (v3).toNat).take (((i64.wrap (v3 + (L1.getD ((v3 - (1 : Int))).toNat RI.z).a1))).toNat - (v3).toNat))] : List Value) = Za RD ([(⟨y4_0, y4_1, (L1.getD ((v3 - (1 : Int))).toNat RI.z).a0, (L1.getD ((v3 - (1 : Int))).toNat RI.z).a1, (L1.getD ((v3 - (1 : Int))).toNat RI.z).a2, (L1.getD ((v3 - (1 : Int))).toNat RI.z).a3, (L1.getD ((v3 - (1 : Int))).toNat RI.z).a4, ((L2.drop (v3).toNat).take (((i64.wrap (v3 + (L1.getD ((v3 - (1 : Int))).toNat RI.z).a1))).toNat - (v3).toNat))⟩ : RJ)] : List RJ) from rfl)) <| bE)⟩)
 ·
  exact Zh3 (⟨4000, (Zh (oq [0]) [] [] [] []), (rg 0 5 [900000000]), _, _, by kernel_rfl, (hN g2 Zi), rfl, by decide +kernel, by rfl, (bS (κc a0 L1 L2) <| bR <| bR <| bS [vp 0 0] <| bS [vn] <| bN <| bE)⟩)

theorem ZfM (a0 : Int) (L1 : List RI) (L2 : List RG) (N : Nat) (v3 : Int) (v5 : List RJ) (gv gvc : Nat → Value) (ps : Array Tmp) (asg body : Code) (id : Nat) (cB : Code) (hps : ps = #[13]) (hcode : (id, cB) = Zdd) (hab : (asg, body) = Zde) : RdG (ZgR a0 L1 L2 (.h1m1 v3 v5) gv gvc ps asg body id cB) (ZaJ a0 L1 L2 N v3 v5) := by
 subst hps
 simp only [Zdd, Zde, Prod.mk.injEq] at hcode hab
 obtain ⟨rfl, rfl⟩ := hcode
 obtain ⟨rfl, rfl⟩ := hab
 unfold ZaJ
 refine ZdL (fun g0 => ?_) (fun _ => Zer)
 refine ZdL (fun g1 => ?_) (fun _ => Zer)
 refine ZdL (fun g2 => ?_) (fun g2 => ?_)
 ·
  have w3 := kLn RC L1 (((v3 - (1 : Int))).toNat) 0 5 <| kB ((v3 - (1 : Int))).toNat L1.length <| kI (v3 - (1 : Int)) (Int.ofNat ((v3 - (1 : Int))).toNat) <| kW (v3 - (1 : Int)) (v3 - (1 : Int)) <| hY g2 Zi
  refine ZdL (fun g3 => ?_) (fun g3 => ?_)
  ·
   exact Zh3 (⟨4000, (Zh (oq [1, 3]) [(0, (v3 - (1 : Int))), (1, (v3 - (1 : Int)))] [(0, ((v3 - (1 : Int))).toNat), (1, ((v3 - (1 : Int))).toNat)] [(3, (RC.cel (L1.getD ((v3 - (1 : Int))).toNat RI.z))), (6, [.i (L1.getD ((v3 - (1 : Int))).toNat RI.z).a1])] []), (rg 0 6 []), [some (vp 0 0), some (vi (i64.wrap (v3 + (i64.wrap ((L1.getD ((v3 - (1 : Int))).toNat RI.z).a1 + (1 : Int))))))], _, _, by kernel_rfl, (kL RC L1 (((v3 - (1 : Int))).toNat) 1 1 <| kB ((v3 - (1 : Int))).toNat L1.length <| kI (v3 - (1 : Int)) (Int.ofNat ((v3 - (1 : Int))).toNat) <| kW (v3 - (1 : Int)) (v3 - (1 : Int)) <| hT g3 w3), rfl, by decide +kernel, by rfl, (tC (tC (tE))), (bS (κc a0 L1 L2) <| bR <| bR <| bS [vp 0 0] <| bS [vs 5 0 v5.length v5.length] <| bR <| bE)⟩)
  ·
   refine ZlI (fun z4 c4 => ?_)
   cases z4 with
   | r0 y4_0 y4_1 y4_2 =>
    refine ZdL (fun g5 => ?_) (fun _ => Zer)
    refine ZdL (fun g6 => ?_) (fun _ => Zer)
    refine ZlI (fun z7 c7 => ?_)
    cases z7 with
    | r0 =>
     refine ZdL (fun g8 => ?_) (fun _ => Zer)
     exact Zh3 (⟨4000, (Zh (oq [1, 2]) [(0, (v3 - (1 : Int))), (2, (v3 - (1 : Int)))] [(0, ((v3 - (1 : Int))).toNat), (1, ((v3 - (1 : Int))).toNat)] [(3, (RC.cel (L1.getD ((v3 - (1 : Int))).toNat RI.z))), (13, [.i (L1.getD ((v3 - (1 : Int))).toNat RI.z).a1])] [(1, (Zhu c4 [] 7).t), (3, .sl (v3).toNat ((i64.wrap (v3 + (L1.getD ((v3 - (1 : Int))).toNat RI.z).a1))).toNat), (4, (ZbX c7 [2] 8).t), (5, .ap 1 [vi y4_0, vi y4_1, vi (L1.getD ((v3 - (1 : Int))).toNat RI.z).a0, vi (L1.getD ((v3 - (1 : Int))).toNat RI.z).a1, vi (L1.getD ((v3 - (1 : Int))).toNat RI.z).a2, vi (L1.getD ((v3 - (1 : Int))).toNat RI.z).a3, vi (L1.getD ((v3 - (1 : Int))).toNat RI.z).a4, ms RB ((L2.drop (v3).toNat).take (((i64.wrap (v3 + (L1.getD ((v3 - (1 : Int))).toNat RI.z).a1))).toNat - (v3).toNat))] (Za RD (v5 ++ ([(⟨y4_0, y4_1, (L1.getD ((v3 - (1 : Int))).toNat RI.z).a0, (L1.getD ((v3 - (1 : Int))).toNat RI.z).a1, (L1.getD ((v3 - (1 : Int))).toNat RI.z).a2, (L1.getD ((v3 - (1 : Int))).toNat RI.z).a3, (L1.getD ((v3 - (1 : Int))).toNat RI.z).a4, ((L2.drop (v3).toNat).take (((i64.wrap (v3 + (L1.getD ((v3 - (1 : Int))).toNat RI.z).a1))).toNat - (v3).toNat))⟩ : RJ)] : List RJ))))]), (rg 0 5 [9]), [some (vp 0 0), some (vi (i64.wrap (v3 + (i64.wrap ((L1.getD ((v3 - (1 : Int))).toNat RI.z).a1 + (1 : Int))))))], _, _, by kernel_rfl, (kL RC L1 (((v3 - (1 : Int))).toNat) 1 1 <| kB ((v3 - (1 : Int))).toNat L1.length <| kI (v3 - (1 : Int)) (Int.ofNat ((v3 - (1 : Int))).toNat) <| kW (v3 - (1 : Int)) (v3 - (1 : Int)) <| kA RD v5 (⟨y4_0, y4_1, (L1.getD ((v3 - (1 : Int))).toNat RI.z).a0, (L1.getD ((v3 - (1 : Int))).toNat RI.z).a1, (L1.getD ((v3 - (1 : Int))).toNat RI.z).a2, (L1.getD ((v3 - (1 : Int))).toNat RI.z).a3, (L1.getD ((v3 - (1 : Int))).toNat RI.z).a4, ((L2.drop (v3).toNat).take (((i64.wrap (v3 + (L1.getD ((v3 - (1 : Int))).toNat RI.z).a1))).toNat - (v3).toNat))⟩ : RJ) <| kKb (A := #[Value.slice (some ⟨2, (0 + ((v3).toNat * 2)), none⟩) (((i64.wrap (v3 + (L1.getD ((v3 - (1 : Int))).toNat RI.z).a1))).toNat - (v3).toNat) (L2.length - (v3).toNat)]) (ZjV (Zg (Z3 eqA rfl rfl) rfl)) (Zdk c7 [2] 8) <| kR (Za RB L2) <| kX (dP ((v3).toNat ≤ ((i64.wrap (v3 + (L1.getD ((v3 - (1 : Int))).toNat RI.z).a1))).toNat ∧ ((i64.wrap (v3 + (L1.getD ((v3 - (1 : Int))).toNat RI.z).a1))).toNat ≤ L2.length)) true (Zv ⟨ltA, ltA⟩) <| kI (i64.wrap (v3 + (L1.getD ((v3 - (1 : Int))).toNat RI.z).a1)) (Int.ofNat ((i64.wrap (v3 + (L1.getD ((v3 - (1 : Int))).toNat RI.z).a1))).toNat) <| kI v3 (Int.ofNat (v3).toNat) <| kK (Zkb c4 [] 7) <| hF g3 w3), rfl, by decide +kernel, by rfl, (tC (tC (tE))), (bS (κc a0 L1 L2) <| bR <| bR <| bS [vp 0 0] <| bU [vs 9 0 (v5.length + 1) (v5.length + 1)] 0 (show (vs 5 0 (v5.length + 1) (v5.length + 1) : Value) = vs 5 0 (v5 ++ ([(⟨y4_0, y4_1, (L1.getD ((v3 - (1 : Int))).toNat RI.z).a0, (L1.getD ((v3 - (1 : Int))).toNat RI.z).a1, (L1.getD ((v3 - (1 : Int))).toNat RI.z).a2, (L1.getD ((v3 - (1 : Int))).toNat RI.z).a3, (L1.getD ((v3 - (1 : Int))).toNat RI.z).a4, ((L2.drop (v3).toNat).take (((i64.wrap (v3 + (L1.getD ((v3 - (1 : Int))).toNat RI.z).a1))).toNat - (v3).toNat))⟩ : RJ)] : List RJ)).length (v5 ++ ([(⟨y4_0, y4_1, (L1.getD ((v3 - (1 : Int))).toNat RI.z).a0, (L1.getD ((v3 - (1 : Int))).toNat RI.z).a1, (L1.getD ((v3 - (1 : Int))).toNat RI.z).a2, (L1.getD ((v3 - (1 : Int))).toNat RI.z).a3, (L1.getD ((v3 - (1 : Int))).toNat RI.z).a4, ((L2.drop (v3).toNat).take (((i64.wrap (v3 + (L1.getD ((v3 - (1 : Int))).toNat RI.z).a1))).toNat - (v3).toNat))⟩ : RJ)] : List RJ)).length from Z3 rfl eqA eqA) <| bR <| bE)⟩)
 ·
  exact Zh3 (⟨4000, (Zh (oq [0]) [] [] [] []), (rg 0 6 []), _, _, by kernel_rfl, (hN g2 Zi), rfl, by decide +kernel, by rfl, (bS (κc a0 L1 L2) <| bR <| bR <| bS [vp 0 0] <| bS [vs 5 0 v5.length v5.length] <| bR <| bE)⟩)

theorem ZiS (a0 : Int) (L1 : List RI) (L2 : List RG) (N : Nat) (g0 : (0 : Int) < a0) (h : Za4 (ZaS a0 L1 L2 N) N (.h1m0 (1 : Int)) = some (.r0)) : LSpec Tryz.prog 18 #[vp 0 0] [.cells (κc a0 L1 L2) 154, .cells (Za RC L1) 57, .cells (Za RB L2) 42] (Zew a0 L1 L2 (.r0)) (Zeg a0 L1 L2 (.r0)) := by
 refine Zng (cs := [_, _, _]) Zau Tryz.func18 rfl (by kernel_rfl) (ZG _ rfl)
  Zb9 [some (.cells (κc a0 L1 L2) 154), some (.cells (Za RC L1) 57), some (κK L2), some (.cells [vp 0 0] 47), some (.cells [vn] 46)] (fu1 := 4000) (orc1 := (Zh (oq [3]) [] [] [] [])) (live1 := rg 0 5 []) (tv1 := [some (vp 3 0), some (vp 4 0), some (.func (.func 55) #[vp 0 0] #[])])
  (by kernel_rfl) (kY (a0 > (0 : Int)) Zi) rfl (by decide +kernel) (by rfl) (tC (tC (tC (tE)))) (bS (κc a0 L1 L2) <| bR <| bR <| bS [vp 0 0] <| bS [vn] <| bE)
  (ZG _ rfl) (show 3 ≤ 5 from by decide) (fun x hx => ZJ (p := fun x : Nat × Value => Zdv 5 3 x.2) (l := Zb9) (by kernel_rfl) x hx) (by repeat' (first | exact trivial | apply And.intro | exact Zb3 _ _ _ | rfl))
  (gf := 55) (av := #[vp 0 0]) (bv := #[]) (fun gv => by kernel_rfl) rfl Tryz.func55 rfl (by kernel_rfl) rfl
  (ZaS a0 L1 L2 N) Zb8 (Zc1 a0 L1 L2) (m := 6) (fun x => by cases x <;> rfl) (ZG _ rfl) [1] (Zex a0 L1 L2 (.r0)) (ZG _ rfl) (.r0) _ N h
  (fun gv => ⟨4000, Zh [] [] [] [] [], rg 0 5 [900000000], [some (vp 0 0), some (vi (1 : Int))], _, _, by kernel_rfl, Zi, rfl, by decide +kernel, by rfl, (tC (tC (tE))), (bS (κc a0 L1 L2) <| bR <| bR <| bS [vp 0 0] <| bS [vn] <| bN <| bE)⟩)
  (fun x o hs gv gvc => by
   cases x with
   | h1m0 v3 =>
    have hq := ZfL a0 L1 L2 N v3 gv gvc _ _ _ _ _ rfl rfl rfl o hs
    cases o with
    | inl y => exact hq
    | inr r' => intro e; subst e; exact hq
   | h1m1 v3 v5 =>
    have hq := ZfM a0 L1 L2 N v3 v5 gv gvc _ _ _ _ _ rfl rfl rfl o hs
    cases o with
    | inl y => exact hq
    | inr r' => intro e; subst e; exact hq) ?_
 intro gv
 exact ⟨4000, Zh [] [] [] [] [], rg 0 3 [], vn, _, _, by kernel_rfl, Zi, rfl, by decide +kernel, by rfl, ⟨by rfl, by rfl⟩, (bS (κc a0 L1 L2) <| bR <| bR <| bE)⟩

theorem ZiT (a0 : Int) (L1 : List RI) (L2 : List RG) (N : Nat) (w19 : List RJ) (g0 : (0 : Int) < a0) (h : Za4 (ZaS a0 L1 L2 N) N (.h1m0 (1 : Int)) = some (.r1 w19)) : LSpec Tryz.prog 18 #[vp 0 0] [.cells (κc a0 L1 L2) 154, .cells (Za RC L1) 57, .cells (Za RB L2) 42] (Zew a0 L1 L2 (.r1 w19)) (Zeg a0 L1 L2 (.r1 w19)) := by
 refine Zng (cs := [_, _, _]) Zau Tryz.func18 rfl (by kernel_rfl) (ZG _ rfl)
  Zb9 [some (.cells (κc a0 L1 L2) 154), some (.cells (Za RC L1) 57), some (κK L2), some (.cells [vp 0 0] 47), some (.cells [vn] 46)] (fu1 := 4000) (orc1 := (Zh (oq [3]) [] [] [] [])) (live1 := rg 0 5 []) (tv1 := [some (vp 3 0), some (vp 4 0), some (.func (.func 55) #[vp 0 0] #[])])
  (by kernel_rfl) (kY (a0 > (0 : Int)) Zi) rfl (by decide +kernel) (by rfl) (tC (tC (tC (tE)))) (bS (κc a0 L1 L2) <| bR <| bR <| bS [vp 0 0] <| bS [vn] <| bE)
  (ZG _ rfl) (show 3 ≤ 5 from by decide) (fun x hx => ZJ (p := fun x : Nat × Value => Zdv 5 3 x.2) (l := Zb9) (by kernel_rfl) x hx) (by repeat' (first | exact trivial | apply And.intro | exact Zb3 _ _ _ | rfl))
  (gf := 55) (av := #[vp 0 0]) (bv := #[]) (fun gv => by kernel_rfl) rfl Tryz.func55 rfl (by kernel_rfl) rfl
  (ZaS a0 L1 L2 N) Zb8 (Zc1 a0 L1 L2) (m := 6) (fun x => by cases x <;> rfl) (ZG _ rfl) [1] (Zex a0 L1 L2 (.r1 w19)) (ZG _ rfl) (.r1 w19) _ N h
  (fun gv => ⟨4000, Zh [] [] [] [] [], rg 0 5 [900000000], [some (vp 0 0), some (vi (1 : Int))], _, _, by kernel_rfl, Zi, rfl, by decide +kernel, by rfl, (tC (tC (tE))), (bS (κc a0 L1 L2) <| bR <| bR <| bS [vp 0 0] <| bS [vn] <| bN <| bE)⟩)
  (fun x o hs gv gvc => by
   cases x with
   | h1m0 v3 =>
    have hq := ZfL a0 L1 L2 N v3 gv gvc _ _ _ _ _ rfl rfl rfl o hs
    cases o with
    | inl y => exact hq
    | inr r' => intro e; subst e; exact hq
   | h1m1 v3 v5 =>
    have hq := ZfM a0 L1 L2 N v3 v5 gv gvc _ _ _ _ _ rfl rfl rfl o hs
    cases o with
    | inl y => exact hq
    | inr r' => intro e; subst e; exact hq) ?_
 intro gv
 exact ⟨4000, Zh [] [] [] [] [], rg 0 3 [5], vs 5 0 w19.length w19.length, _, _, by kernel_rfl, Zi, rfl, by decide +kernel, by rfl, ⟨by rfl, by rfl⟩, (bS (κc a0 L1 L2) <| bR <| bR <| bR <| bE)⟩

theorem Zin (a0 : Int) (L1 : List RI) (L2 : List RG) (N : Nat) (r : heap_Heap_ObjectsR) (h : Zas a0 L1 L2 N = some r) : LSpec Tryz.prog 18 #[vp 0 0] [.cells (κc a0 L1 L2) 154, .cells (Za RC L1) 57, .cells (Za RB L2) 42] (Zew a0 L1 L2 r) (Zeg a0 L1 L2 r) := by
 unfold Zas Zev at h
 by_cases g0 : (0 : Int) < a0
 · rw [if_pos g0] at h
   have h : Za4 (ZaS a0 L1 L2 N) N (.h1m0 (1 : Int)) = some r := h
   cases r with
   | r0 => exact ZiS a0 L1 L2 N g0 h
   | r1 w19 => exact ZiT a0 L1 L2 N w19 g0 h
 · rw [if_neg g0] at h
   obtain rfl : heap_Heap_ObjectsR.r0 = r := Option.some.inj h
   exact Zq7 Zau Tryz.func18 rfl (orc := (Zh (oq [2]) [] [] [] [])) (live := [0, 1, 2]) (u := (vn)) (kN (a0 > (0 : Int)) Zi) ⟨by rfl, by rfl⟩ (bS (κc a0 L1 L2) <| bR <| bR <| bE) (by kernel_rfl) (ZG _ rfl) rfl (by decide +kernel) (by rfl)

theorem Zfs (a0 : Int) (L1 : List RI) (L2 : List RG) (N : Nat) (r : heap_Heap_ObjectsR) (h : Zas a0 L1 L2 N = some r) : LSpec Tryz.prog 18 #[vp 0 0] [.cells (κc a0 L1 L2) 154, .cells (Za RC L1) 57, .cells (Za RB L2) 42] (Zll a0 L1 L2 r) (Zk2 a0 L1 L2 r) := by
 have h0 := Zin a0 L1 L2 N r h
 cases r with
 | r0 => exact (LSpec.nlv (v2 := ms RD ([] : List RJ)) h0 rfl rfl)
 | r1 w2 => exact (LSpec.frzv (E := RD) (L := w2) (post := [some (.cells (κc a0 L1 L2) 154), some (.cells (Za RC L1) 57), some (κK L2)]) (v2 := ms RD w2) h0 (show 3 ≤ 3 from by decide) (show 3 < 1000000000 from by decide) ⟨rfl, ⟨(Zb3 _ _ _), ⟨(Zb3 _ _ _), trivial⟩⟩⟩ rfl rfl rfl)

noncomputable def Zck {a0 : Int} {L1 : List RI} {L2 : List RG} {N : Nat} (h : Zas a0 L1 L2 N = some (.r0)) (ks : List Nat) (n : Nat) : ToldS := ⟨#[vp (nth ks 0) 0], [((nth ks 0), .cells [vi a0, vs (nth ks 1) 0 L1.length L1.length, vs (nth ks 2) 0 L2.length L2.length, vn, vn, vn, vn, vn, vn, vn, vn, vn, vn, vn, vn, vn, vn, vn, vn, vn] 154), ((nth ks 1), .cells (Za RC L1) 57), ((nth ks 2), .cells (Za RB L2) 42)], ms RD ([] : List RJ), [], 0⟩

theorem Zdf {a0 : Int} {L1 : List RI} {L2 : List RG} {N : Nat} (h : Zas a0 L1 L2 N = some (.r0)) (ks : List Nat) (n : Nat) (hk : ks.length = 3 := by rfl) (hnd : ks.Nodup := by decide +kernel) (hlt : ∀ k ∈ ks, k < n := by decide +kernel) : (Zck (N := N)  h ks n).P Tryz.prog 18 n :=
 match ks, hk, hnd, hlt with
 | [k0, k1, k2], _, hnd, hlt => Za7 (show LSpec Tryz.prog 18 #[vp 0 0] [.cells (κc a0 L1 L2) 154, .cells (Za RC L1) 57, .cells (Za RB L2) 42] (ms RD ([] : List RJ)) [some (.cells (κc a0 L1 L2) 154), some (.cells (Za RC L1) 57), some (κK L2)] from Zfs a0 L1 L2 N _ h) _ n [] hnd hlt

noncomputable def Zcl {a0 : Int} {L1 : List RI} {L2 : List RG} {w2 : List RJ} {N : Nat} (h : Zas a0 L1 L2 N = some (.r1 w2)) (ks : List Nat) (n : Nat) : ToldS := ⟨#[vp (nth ks 0) 0], [((nth ks 0), .cells [vi a0, vs (nth ks 1) 0 L1.length L1.length, vs (nth ks 2) 0 L2.length L2.length, vn, vn, vn, vn, vn, vn, vn, vn, vn, vn, vn, vn, vn, vn, vn, vn, vn] 154), ((nth ks 1), .cells (Za RC L1) 57), ((nth ks 2), .cells (Za RB L2) 42)], ms RD w2, [], 0⟩

theorem Zdg {a0 : Int} {L1 : List RI} {L2 : List RG} {w2 : List RJ} {N : Nat} (h : Zas a0 L1 L2 N = some (.r1 w2)) (ks : List Nat) (n : Nat) (hk : ks.length = 3 := by rfl) (hnd : ks.Nodup := by decide +kernel) (hlt : ∀ k ∈ ks, k < n := by decide +kernel) : (Zcl (N := N)  h ks n).P Tryz.prog 18 n :=
 match ks, hk, hnd, hlt with
 | [k0, k1, k2], _, hnd, hlt => Za7 (show LSpec Tryz.prog 18 #[vp 0 0] [.cells (κc a0 L1 L2) 154, .cells (Za RC L1) 57, .cells (Za RB L2) 42] (ms RD w2) [some (.cells (κc a0 L1 L2) 154), some (.cells (Za RC L1) 57), some (κK L2)] from Zfs a0 L1 L2 N _ h) _ n [] hnd hlt

noncomputable abbrev κR (L0 : List RJ) := #[ms RD L0, Value.map (some 0)]
noncomputable def Zlm (L0 : List RJ) : Zce → Value
 | .r0 w1 => Value.agg (κR L0)
noncomputable def Zkt (L0 : List RJ) : Zce → List (Option AObj)
 | .r0 w1 => [some (.ro (Zc w1) true)]

def Zo5 : ZaT → Nat
 | .h1m0 v1 v3 => 1
noncomputable def ZpR (L0 : List RJ) : ZaT → List (Nat × Value)
 | .h1m0 v1 v3 => [(0, ms RD L0), (2, vp 0 0), (3, vp 1 0), (4, vi v1)]
noncomputable def ZpS (L0 : List RJ) : ZaT → List (Option AObj)
 | .h1m0 v1 v3 => [some (.cells [vn, Value.map none] 272), some (.cells [ms RD L0, Value.map (some 2)] 272), some (.ro (Zc v3) true)]

noncomputable def ZdM : Nat → Code × List ZaI
 | 1 => ZbB [1, 1, 0, 1, 3] (ZcG Tryz.f183) []
 | _ => (.skip, [])
def Zku : Nat → Bool
 | 1 => true
 | _ => true
noncomputable def ZpT (i : Nat) : List ZaI := match Zku i with | true => .rnd i :: (ZdM i).2 | false => (ZdM i).2

noncomputable def ZeJ (L0 : List RJ) (N : Nat) : Mach := ⟨Tryz.f183, [], ZaT, Zce, Zc8 L0 N, Zo5, ZdM, Zku, ZpR L0, ZpS L0, Zlm L0, Zkt L0⟩

theorem ZlO (L0 : List RJ) (v1 : Int) (v3 : List RH) (N : Nat) : (ZeJ L0 N).Ok Tryz.prog Zs (.h1m0 v1 v3 : ZaT) (Zc8 L0 N (.h1m0 v1 v3 : ZaT)) := by
 show (ZeJ L0 N).Ok Tryz.prog Zs (.h1m0 v1 v3 : ZaT) (ZbO L0 N v1 v3)
 unfold ZbO
 refine Mach.ok_ite (fun g0 => ?_) (fun g0 => ?_)
 ·
  refine Mach.ok_ite (fun g1 => ?_) (fun _ => Mach.ok_none)
  exact Mach.okN (Zh (oq [1]) [] [(0, (v1).toNat)] [(1, [.i (L0.getD (v1).toNat RJ.z).a0, .i (L0.getD (v1).toNat RJ.z).a1])] [(0, .mp (ZaA (Zae v3 (L0.getD (v1).toNat RJ.z).a0 (L0.getD (v1).toNat RJ.z).a1 v1)))]) [0, 1, 2] [some (ms RD L0), some (vp 0 0), some (vp 1 0), some (vi (i64.wrap (v1 - (1 : Int))))] (kX (dP (putM Tryz.prog 42 (Value.agg #[vi (L0.getD (v1).toNat RJ.z).a0, vi (L0.getD (v1).toNat RJ.z).a1]) (vi v1) (ZaA v3) = some (ZaA (Zae v3 (L0.getD (v1).toNat RJ.z).a0 (L0.getD (v1).toNat RJ.z).a1 v1)))) true (Zv (Znj _ _ _ _)) <| kG RD L0 ((0 + ((v1).toNat * 8)) + 0) ((v1).toNat) 0 2 8 <| kB (v1).toNat L0.length <| kI v1 (Int.ofNat (v1).toNat) <| kY (v1 ≥ (0 : Int)) Zi) (tC (tC (tC (tC (tE))))) (bS [vn, Value.map none] <| bS [ms RD L0, Value.map (some 2)] <| bC (o := .ro (Zc (Zae v3 (L0.getD (v1).toNat RJ.z).a0 (L0.getD (v1).toNat RJ.z).a1 v1)) true) (show Zc (Zae v3 (L0.getD (v1).toNat RJ.z).a0 (L0.getD (v1).toNat RJ.z).a1 v1) = Zc (Zae v3 (L0.getD (v1).toNat RJ.z).a0 (L0.getD (v1).toNat RJ.z).a1 v1) from rfl) <| bE) (show 1 ∈ Zt (ZpT 1) from by decide +kernel)
 ·
  exact Mach.okF (Zh (oq [0]) [] [] [] []) [2] (Value.agg #[ms RD L0, Value.map (some 2)]) (kN (v1 ≥ (0 : Int)) Zi) (bC (o := .ro (Zc v3) true) (show Zc v3 = Zc v3 from rfl) <| bE)

theorem ZnC (L0 : List RJ) (N : Nat) : (ZeJ L0 N).Enter Tryz.prog Zs #[ms RD L0] (Zf2 L0 N) := by
 unfold Zf2
 refine Mach.en_ite (fun g0 => ?_) (fun _ => Mach.en_none)
 exact Mach.enH (ZdM 1) (Zh (oq []) [(0, ((L0.length : Int) - (1 : Int)))] [] [] []) [0, 2, 1] [some (ms RD L0), some (vp 0 0), some (vp 2 0), some (vi ((L0.length : Int) - (1 : Int)))] (kW ((L0.length : Int) - (1 : Int)) ((L0.length : Int) - (1 : Int)) Zi) (tC (tC (tC (tC (tE))))) (bS [vn, Value.map none] <| bS [ms RD L0, Value.map (some 1)] <| bC (o := .ro (Zc ([] : List RH)) true) (show Zc ([] : List RH) = Zc ([] : List RH) from rfl) <| bE) (show Zt (ZdM 1).2 = [] from rfl)

theorem Zm0 (L0 : List RJ) (N : Nat) (r : Zce) (h : Zfr L0 N = some r) : LSpec Tryz.prog 183 #[ms RD L0] [] (Zlm L0 r) (Zkt L0 r) :=
 Mach.spec Zau (ZeJ L0 N) Tryz.func183 (by kernel_rfl) (by kernel_rfl) (fun x => by cases x <;> exact ZG _ rfl) (fun r => by cases r <;> exact ZG _ rfl) (fun x => by
  cases x with
  | h1m0 _ _ => exact fun _ => (show ¬ (1 ∈ Zt (ZdM 1).2) from by decide +kernel)
  ) (fun x => (show (ZeJ L0 N).Ok Tryz.prog Zs x (Zc8 L0 N x) from by
  cases x with
  | h1m0 v1 v3 => exact ZlO L0 v1 v3 N
  )) (ZnC L0 N) (n := N) h

noncomputable def Zf4 {L0 : List RJ} {w1 : List RH} {N : Nat} (h : Zfr L0 N = some (.r0 w1)) (ks : List Nat) (n : Nat) : ToldS := ⟨#[ms RD L0], [], Value.agg #[ms RD L0, Value.map (some n)], [(n, some (.ro (Zc w1) true))], 1⟩

theorem Zkv {L0 : List RJ} {w1 : List RH} {N : Nat} (h : Zfr L0 N = some (.r0 w1)) (ks : List Nat) (n : Nat) (hk : ks.length = 0 := by rfl) (hnd : ks.Nodup := by decide +kernel) (hlt : ∀ k ∈ ks, k < n := by decide +kernel) : (Zf4 (N := N)  h ks n).P Tryz.prog 183 n :=
 match ks, hk, hnd, hlt with
 | [], _, hnd, hlt => Za7 (show LSpec Tryz.prog 183 #[ms RD L0] [] (Value.agg (κR L0)) [some (.ro (Zc w1) true)] from Zm0 L0 N _ h) _ n [0] hnd hlt

noncomputable def Zgt (L0 : List RJ) (L1 : List RH) (a2 a3 : Int) : ZaO → Value
 | .r0 w1 w2 => Value.tuple #[vi w1, Value.bool w2]
noncomputable def Zgh (L0 : List RJ) (L1 : List RH) (a2 a3 : Int) : ZaO → List (Option AObj)
 | .r0 w1 w2 => [some (.ro (Zc L1) true)]

theorem Zj1 (L0 : List RJ) (L1 : List RH) (a2 a3 : Int) (N : Nat) : Fx Tryz.prog Zs Tryz.f193 [.ro (Zc L1) true] #[Value.agg (κR L0), Value.agg #[vi a2, vi a3]] (Zgt L0 L1 a2 a3) (Zgh L0 L1 a2 a3) (Zat L0 L1 a2 a3 N) := by
 unfold Zat
 refine Zf (fun g0 => ?_) (fun g0 => ?_)
 ·
  exact fxC (Zh (oq [1]) [] [] [] []) [0] (Value.tuple #[vq, vf]) (hD g0 Zi) (bC (o := .ro (Zc L1) true) (show Zc L1 = Zc L1 from rfl) <| bE)
 ·
  refine Zf (fun g1 => ?_) (fun g1 => ?_)
  ·
   exact fxC (Zh (oq [0, 3]) [] [] [] []) [0] (Value.tuple #[vq, vf]) (kZ ((a2 == (2 : Int)) && ((a3 == (0 : Int)) && true)) <| kE a2 (2 : Int) Zi) (bC (o := .ro (Zc L1) true) (show Zc L1 = Zc L1 from rfl) <| bE)
  ·
   refine Zf (fun g2 => ?_) (fun g2 => ?_)
   ·
    exact fxC (Zh (oq [0, 2]) [] [] [] [(1, .lk (some (vi (Zbt L1 a2 a3))))]) [0] (Value.tuple #[vi (Zbt L1 a2 a3), vT]) (kX (dP ((ZbW Tryz.prog 42 (Value.agg #[vi a2, vi a3]) (ZaA L1)).map (Option.map Prod.snd) = some (some (vi (Zbt L1 a2 a3))))) true (Zv (Znh (by assumption))) <| kO ((a2 == (2 : Int)) && ((a3 == (0 : Int)) && true)) <| kE a2 (2 : Int) Zi) (bC (o := .ro (Zc L1) true) (show Zc L1 = Zc L1 from rfl) <| bE)
   ·
    exact fxC (Zh (oq [0, 2]) [] [] [] [(1, .lk (none))]) [0] (Value.tuple #[vq, vf]) (kX (dP ((ZbW Tryz.prog 42 (Value.agg #[vi a2, vi a3]) (ZaA L1)).map (Option.map Prod.snd) = some (none))) true (Zv (Zni (by assumption))) <| kO ((a2 == (2 : Int)) && ((a3 == (0 : Int)) && true)) <| kE a2 (2 : Int) Zi) (bC (o := .ro (Zc L1) true) (show Zc L1 = Zc L1 from rfl) <| bE)

theorem Zio (L0 : List RJ) (L1 : List RH) (a2 a3 : Int) (N : Nat) (r : ZaO) (h : Zat L0 L1 a2 a3 N = some r) : LSpec Tryz.prog 193 #[Value.agg (κR L0), Value.agg #[vi a2, vi a3]] [.ro (Zc L1) true] (Zgt L0 L1 a2 a3 r) (Zgh L0 L1 a2 a3 r) :=
 Zbh Zau Tryz.func193 (by kernel_rfl) (by kernel_rfl) (fun r => by cases r <;> exact ZG _ rfl) (Zj1 L0 L1 a2 a3 N) h

noncomputable def ZI {L0 : List RJ} {L1 : List RH} {a2 : Int} {a3 : Int} {w1 : Int} {w2 : Bool} {N : Nat} (h : Zat L0 L1 a2 a3 N = some (.r0 w1 w2)) (ks : List Nat) (n : Nat) : ToldS := ⟨#[Value.agg #[ms RD L0, Value.map (some (nth ks 0))], Value.agg #[vi a2, vi a3]], [((nth ks 0), .ro (Zc L1) true)], Value.tuple #[vi w1, Value.bool w2], [], 0⟩

theorem Zeh {L0 : List RJ} {L1 : List RH} {a2 : Int} {a3 : Int} {w1 : Int} {w2 : Bool} {N : Nat} (h : Zat L0 L1 a2 a3 N = some (.r0 w1 w2)) (ks : List Nat) (n : Nat) (hk : ks.length = 1 := by rfl) (hnd : ks.Nodup := by decide +kernel) (hlt : ∀ k ∈ ks, k < n := by decide +kernel) : (ZI (N := N)  h ks n).P Tryz.prog 193 n :=
 match ks, hk, hnd, hlt with
 | [k0], _, hnd, hlt => Za7 (show LSpec Tryz.prog 193 #[Value.agg (κR L0), Value.agg #[vi a2, vi a3]] [.ro (Zc L1) true] (Value.tuple #[vi w1, Value.bool w2]) [some (.ro (Zc L1) true)] from Zio L0 L1 a2 a3 N _ h) _ n [] hnd hlt

noncomputable def Zj2 (a0 a1 a2 a3 a4 a5 a6 : Int) (L7 : List RG) : ZcQ → Value
 | .r0 w0 => Value.bool w0
noncomputable def ZiA (a0 a1 a2 a3 a4 a5 a6 : Int) (L7 : List RG) : ZcQ → List (Option AObj)
 | .r0 w0 => []

theorem Zm1 (a0 a1 a2 a3 a4 a5 a6 : Int) (L7 : List RG) (N : Nat) : Fx Tryz.prog Zs Tryz.f186 [] #[Value.agg #[vi a0, vi a1, vi a2, vi a3, vi a4, vi a5, vi a6, ms RB L7]] (Zj2 a0 a1 a2 a3 a4 a5 a6 L7) (ZiA a0 a1 a2 a3 a4 a5 a6 L7) (ZaQ a0 a1 a2 a3 a4 a5 a6 L7 N) := by
 unfold ZaQ
 refine Zf (fun g0 => ?_) (fun g0 => ?_)
 ·
  exact fxC (Zh (oq [1]) [] [] [] []) [] (vT) (hT g0 Zi) bE
 ·
  exact fxC (Zh (oq [0]) [] [] [] []) [] (vf) (hF g0 Zi) bE

theorem Zln (a0 a1 a2 a3 a4 a5 a6 : Int) (L7 : List RG) (N : Nat) (r : ZcQ) (h : ZaQ a0 a1 a2 a3 a4 a5 a6 L7 N = some r) : LSpec Tryz.prog 186 #[Value.agg #[vi a0, vi a1, vi a2, vi a3, vi a4, vi a5, vi a6, ms RB L7]] [] (Zj2 a0 a1 a2 a3 a4 a5 a6 L7 r) (ZiA a0 a1 a2 a3 a4 a5 a6 L7 r) :=
 Zbh Zau Tryz.func186 (by kernel_rfl) (by kernel_rfl) (fun r => by cases r <;> exact ZG _ rfl) (Zm1 a0 a1 a2 a3 a4 a5 a6 L7 N) h

noncomputable def Zb5 {a0 : Int} {a1 : Int} {a2 : Int} {a3 : Int} {a4 : Int} {a5 : Int} {a6 : Int} {L7 : List RG} {w0 : Bool} {N : Nat} (h : ZaQ a0 a1 a2 a3 a4 a5 a6 L7 N = some (.r0 w0)) (ks : List Nat) (n : Nat) : ToldS := ⟨#[Value.agg #[vi a0, vi a1, vi a2, vi a3, vi a4, vi a5, vi a6, ms RB L7]], [], Value.bool w0, [], 0⟩

theorem ZcA {a0 : Int} {a1 : Int} {a2 : Int} {a3 : Int} {a4 : Int} {a5 : Int} {a6 : Int} {L7 : List RG} {w0 : Bool} {N : Nat} (h : ZaQ a0 a1 a2 a3 a4 a5 a6 L7 N = some (.r0 w0)) (ks : List Nat) (n : Nat) (hk : ks.length = 0 := by rfl) (hnd : ks.Nodup := by decide +kernel) (hlt : ∀ k ∈ ks, k < n := by decide +kernel) : (Zb5 (N := N)  h ks n).P Tryz.prog 186 n :=
 match ks, hk, hnd, hlt with
 | [], _, hnd, hlt => Za7 (show LSpec Tryz.prog 186 #[Value.agg #[vi a0, vi a1, vi a2, vi a3, vi a4, vi a5, vi a6, ms RB L7]] [] (Value.bool w0) [] from Zln a0 a1 a2 a3 a4 a5 a6 L7 N _ h) _ n [] hnd hlt

noncomputable def ZfN (a0 a1 : Int) (L2 : List RJ) (L3 L4 : List RH) : ZaB → Value
 | .r0 => vtt
 | .r1 w1 w3 w4 => vtt
noncomputable abbrev κ7 := (AObj.cells [Value.map (some 6)] 270)
noncomputable abbrev κo (L2 : List RJ) := [ms RD L2, Value.map (some 5)]
noncomputable def Zft (a0 a1 : Int) (L2 : List RJ) (L3 L4 : List RH) : ZaB → List (Option AObj)
 | .r0 => [some (.cells (κo L2) 272), some κ7, some (.cells [Value.func (.func 186) #[] #[]] 276), some (.cells [vn] 86), some (.cells [vn] 278), some (.ro (Zc L3) true), some (.ro (Zc L4) true)]
 | .r1 w1 w3 w4 => [some (.cells (κo L2) 272), some κ7, some (.cells [Value.func (.func 186) #[] #[]] 276), some (.cells [vs 7 0 w3.length w3.length] 86), some (.cells [vs 8 0 w4.length w4.length] 278), some (.ro (Zc L3) true), some (.ro (Zc w1) true), some (.cells (Za eI w3) 3), some (.cells (Za RB w4) 281)]

noncomputable abbrev κbc (a0 : Int) (a1 : Int) (L4 : List RH) := (ZbW Tryz.prog 42 (Value.agg #[vi a0, vi a1]) (ZaA L4))
noncomputable abbrev κF (a0 : Int) (a1 : Int) := #[Value.agg #[vi a0, vi a1], vp 0 0, vp 1 0, vp 2 0, vp 3 0, vp 4 0]
theorem Zip (a0 a1 : Int) (L2 : List RJ) (L3 L4 : List RH) (N : Nat) : Fx Tryz.prog Zs Tryz.f192 [.cells (κo L2) 272, .cells [Value.map (some 6)] 270, .cells [Value.func (.func 186) #[] #[]] 276, .cells [vn] 86, .cells [vn] 278, .ro (Zc L3) true, .ro (Zc L4) true] (κF a0 a1) (ZfN a0 a1 L2 L3 L4) (Zft a0 a1 L2 L3 L4) (Zah a0 a1 L2 L3 L4 N) := by
 unfold Zah
 refine Zaa (fun z0 c0 => ?_)
 cases z0 with
 | r0 y0_0 y0_1 =>
  have w1 := kK (Zeh c0 [5] 8) Zi
  refine Zf (fun g1 => ?_) (fun g1 => ?_)
  ·
   exact fxC (Zh (oq [1]) [] [] [] [(0, (ZI c0 [5] 8).t)]) (rg 0 7 []) (vtt) (kX ((!y0_1)) true (Zfq (by first | assumption | simp_all)) w1) (bS (κo L2) <| bS [Value.map (some 6)] <| bS [Value.func (.func 186) #[] #[]] <| bS [vn] <| bS [vn] <| bC (o := .ro (Zc L3) true) (show Zc L3 = Zc L3 from rfl) <| bC (o := .ro (Zc L4) true) (show Zc L4 = Zc L4 from rfl) <| bE)
  ·
   have w2 := kX ((!y0_1)) false (ZdJ (by first | assumption | exact Decidable.not_not.1 (by assumption) | simp_all)) w1
   refine Zf (fun g2 => ?_) (fun g2 => ?_)
   ·
    exact fxC (Zh (oq [0]) [] [] [] [(0, (ZI c0 [5] 8).t), (1, .lk (some (vi (Zbt L4 a0 a1))))]) (rg 0 7 []) (vtt) (kX (dP ((κbc a0 a1 L4).map (Option.map Prod.snd) = some (some (vi (Zbt L4 a0 a1))))) true (Zv (Znh (by assumption))) w2) (bS (κo L2) <| bS [Value.map (some 6)] <| bS [Value.func (.func 186) #[] #[]] <| bS [vn] <| bS [vn] <| bC (o := .ro (Zc L3) true) (show Zc L3 = Zc L3 from rfl) <| bC (o := .ro (Zc L4) true) (show Zc L4 = Zc L4 from rfl) <| bE)
   ·
    have w3 := kX (dP ((κbc a0 a1 L4).map (Option.map Prod.snd) = some (none))) true (Zv (Zni (by assumption))) w2
    refine Zf (fun g3 => ?_) (fun _ => Zj)
    refine Zf (fun g4 => ?_) (fun _ => Zj)
    have w5 := kG RD L2 (0 + ((y0_0).toNat * 8)) ((y0_0).toNat) 0 8 8 <| kB (y0_0).toNat L2.length <| kI y0_0 (Int.ofNat (y0_0).toNat) w3
    refine Zaa (fun z5 c5 => ?_)
    cases z5 with
    | r0 y5_0 =>
     refine Zf (fun g6 => ?_) (fun g6 => ?_)
     ·
      exact fxC (Zh (oq [0, 3]) [] [(0, (y0_0).toNat)] [(6, (RD.cel (L2.getD (y0_0).toNat RJ.z)))] [(0, (ZI c0 [5] 8).t), (1, .lk (none)), (2, (Zb5 c5 [] 8).t)]) (rg 0 7 []) (vtt) (kX ((!y5_0)) true (Zfq (by first | assumption | simp_all)) <| kK (ZcA c5 [] 8) w5) (bS (κo L2) <| bS [Value.map (some 6)] <| bS [Value.func (.func 186) #[] #[]] <| bS [vn] <| bS [vn] <| bC (o := .ro (Zc L3) true) (show Zc L3 = Zc L3 from rfl) <| bC (o := .ro (Zc L4) true) (show Zc L4 = Zc L4 from rfl) <| bE)
     ·
      exact fxC (Zh (oq [0, 2]) [] [(0, (y0_0).toNat)] [(6, (RD.cel (L2.getD (y0_0).toNat RJ.z)))] [(0, (ZI c0 [5] 8).t), (1, .lk (none)), (2, (Zb5 c5 [] 8).t), (3, .mp (ZaA (Zae L4 a0 a1 y0_0)))]) (rg 0 7 (9 :: [11])) (vtt) (kX (dP (putM Tryz.prog 42 (Value.agg #[vi a0, vi a1]) (vi y0_0) (ZaA L4) = some (ZaA (Zae L4 a0 a1 y0_0)))) true (Zv (Znj _ _ _ _)) <| kX ((!y5_0)) false (ZdJ (by first | assumption | exact Decidable.not_not.1 (by assumption) | simp_all)) <| kK (ZcA c5 [] 8) w5) (bS (κo L2) <| bS [Value.map (some 6)] <| bS [Value.func (.func 186) #[] #[]] <| bU [vs 9 0 1 1] 0 (show (vs 7 0 1 1 : Value) = vs 7 0 ([y0_0] : List Int).length ([y0_0] : List Int).length from Z3 rfl eqA eqA) <| bU [vs 11 0 1 1] 0 (show (vs 8 0 1 1 : Value) = vs 8 0 ([(⟨y0_0, (0 : Int)⟩ : RG)] : List RG).length ([(⟨y0_0, (0 : Int)⟩ : RG)] : List RG).length from Z3 rfl eqA eqA) <| bC (o := .ro (Zc L3) true) (show Zc L3 = Zc L3 from rfl) <| bC (o := .ro (Zc (Zae L4 a0 a1 y0_0)) true) (show Zc (Zae L4 a0 a1 y0_0) = Zc (Zae L4 a0 a1 y0_0) from rfl) <| bC (o := .cells [vi y0_0] 3) (Zcc (E := eI) _ (L := ([y0_0] : List Int)) _ (show ([vi y0_0] : List Value) = Za eI ([y0_0] : List Int) from rfl)) <| bC (o := .cells [vi y0_0, vq] 281) (Zcc (E := RB) _ (L := ([(⟨y0_0, (0 : Int)⟩ : RG)] : List RG)) _ (show ([vi y0_0, vq] : List Value) = Za RB ([(⟨y0_0, (0 : Int)⟩ : RG)] : List RG) from rfl)) <| bE)

theorem Ze1 (a0 a1 : Int) (L2 : List RJ) (L3 L4 : List RH) (N : Nat) (r : ZaB) (h : Zah a0 a1 L2 L3 L4 N = some r) : LSpec Tryz.prog 192 (κF a0 a1) [.cells (κo L2) 272, .cells [Value.map (some 6)] 270, .cells [Value.func (.func 186) #[] #[]] 276, .cells [vn] 86, .cells [vn] 278, .ro (Zc L3) true, .ro (Zc L4) true] (ZfN a0 a1 L2 L3 L4 r) (Zft a0 a1 L2 L3 L4 r) :=
 Zbh Zau Tryz.func192 (by kernel_rfl) (by kernel_rfl) (fun r => by cases r <;> exact ZG _ rfl) (Zip a0 a1 L2 L3 L4 N) h

noncomputable abbrev κbf (ks : List Nat) := ((nth ks 1), AObj.cells [Value.map (some (nth ks 6))] 270)
noncomputable abbrev κ5 (ks : List Nat) (L2 : List RJ) := ((nth ks 0), AObj.cells [ms RD L2, Value.map (some (nth ks 5))] 272)
noncomputable abbrev κJ (a0 : Int) (a1 : Int) (ks : List Nat) := #[Value.agg #[vi a0, vi a1], vp (nth ks 0) 0, vp (nth ks 1) 0, vp (nth ks 2) 0, vp (nth ks 3) 0, vp (nth ks 4) 0]
noncomputable def Zfu {a0 : Int} {a1 : Int} {L2 : List RJ} {L3 : List RH} {L4 : List RH} {N : Nat} (h : Zah a0 a1 L2 L3 L4 N = some (.r0)) (ks : List Nat) (n : Nat) : ToldS := ⟨(κJ a0 a1 ks), [(κ5 ks L2), (κbf ks), ((nth ks 2), .cells [Value.func (.func 186) #[] #[]] 276), ((nth ks 3), .cells [vn] 86), ((nth ks 4), .cells [vn] 278), ((nth ks 5), .ro (Zc L3) true), ((nth ks 6), .ro (Zc L4) true)], vtt, [], 0⟩

theorem ZiU {a0 : Int} {a1 : Int} {L2 : List RJ} {L3 : List RH} {L4 : List RH} {N : Nat} (h : Zah a0 a1 L2 L3 L4 N = some (.r0)) (ks : List Nat) (n : Nat) (hk : ks.length = 7 := by rfl) (hnd : ks.Nodup := by decide +kernel) (hlt : ∀ k ∈ ks, k < n := by decide +kernel) : (Zfu (N := N)  h ks n).P Tryz.prog 192 n :=
 match ks, hk, hnd, hlt with
 | [k0, k1, k2, k3, k4, k5, k6], _, hnd, hlt => Za7 (show LSpec Tryz.prog 192 (κF a0 a1) [.cells (κo L2) 272, .cells [Value.map (some 6)] 270, .cells [Value.func (.func 186) #[] #[]] 276, .cells [vn] 86, .cells [vn] 278, .ro (Zc L3) true, .ro (Zc L4) true] (vtt) [some (.cells (κo L2) 272), some κ7, some (.cells [Value.func (.func 186) #[] #[]] 276), some (.cells [vn] 86), some (.cells [vn] 278), some (.ro (Zc L3) true), some (.ro (Zc L4) true)] from Ze1 a0 a1 L2 L3 L4 N _ h) _ n [] hnd hlt

noncomputable def Zfv {a0 : Int} {a1 : Int} {L2 : List RJ} {L3 : List RH} {L4 : List RH} {w1 : List RH} {w3 : List Int} {w4 : List RG} {N : Nat} (h : Zah a0 a1 L2 L3 L4 N = some (.r1 w1 w3 w4)) (ks : List Nat) (n : Nat) : ToldS := ⟨(κJ a0 a1 ks), [(κ5 ks L2), (κbf ks), ((nth ks 2), .cells [Value.func (.func 186) #[] #[]] 276), ((nth ks 3), .cells [vn] 86), ((nth ks 4), .cells [vn] 278), ((nth ks 5), .ro (Zc L3) true), ((nth ks 6), .ro (Zc L4) true)], vtt, [((nth ks 3), some (.cells [vs n 0 w3.length w3.length] 86)), ((nth ks 4), some (.cells [vs (n + 1) 0 w4.length w4.length] 278)), ((nth ks 6), some (.ro (Zc w1) true)), (n, some (.cells (Za eI w3) 3)), ((n + 1), some (.cells (Za RB w4) 281))], 2⟩

theorem ZiV {a0 : Int} {a1 : Int} {L2 : List RJ} {L3 : List RH} {L4 : List RH} {w1 : List RH} {w3 : List Int} {w4 : List RG} {N : Nat} (h : Zah a0 a1 L2 L3 L4 N = some (.r1 w1 w3 w4)) (ks : List Nat) (n : Nat) (hk : ks.length = 7 := by rfl) (hnd : ks.Nodup := by decide +kernel) (hlt : ∀ k ∈ ks, k < n := by decide +kernel) : (Zfv (N := N)  h ks n).P Tryz.prog 192 n :=
 match ks, hk, hnd, hlt with
 | [k0, k1, k2, k3, k4, k5, k6], _, hnd, hlt => Za7 (show LSpec Tryz.prog 192 (κF a0 a1) [.cells (κo L2) 272, .cells [Value.map (some 6)] 270, .cells [Value.func (.func 186) #[] #[]] 276, .cells [vn] 86, .cells [vn] 278, .ro (Zc L3) true, .ro (Zc L4) true] (vtt) [some (.cells (κo L2) 272), some κ7, some (.cells [Value.func (.func 186) #[] #[]] 276), some (.cells [vs 7 0 w3.length w3.length] 86), some (.cells [vs 8 0 w4.length w4.length] 278), some (.ro (Zc L3) true), some (.ro (Zc w1) true), some (.cells (Za eI w3) 3), some (.cells (Za RB w4) 281)] from Ze1 a0 a1 L2 L3 L4 N _ h) _ n [3, 4, 6, 7, 8] hnd hlt

end Ev
end Go.Proofs.YtiijipocjellpaaGreat
namespace Go.Proofs.YtiijipocjellpaaGreat
open Go.RowKit
namespace Ev
set_option linter.unusedVariables false
set_option maxRecDepth 100000
set_option maxHeartbeats 4000000
noncomputable def Zfd (a0 a1 : Int) (L2 : List RJ) (L3 L4 : List RH) (L5 : List Int) (L6 : List RG) : Zay → Value
 | .r0 => vtt
 | .r1 w1 w3 w4 => vtt
noncomputable abbrev κ0 (L5 : List Int) := [vs 7 0 L5.length L5.length]
noncomputable def ZeK (a0 a1 : Int) (L2 : List RJ) (L3 L4 : List RH) (L5 : List Int) (L6 : List RG) : Zay → List (Option AObj)
 | .r0 => [some (.cells (κo L2) 272), some κ7, some (.cells [Value.func (.func 186) #[] #[]] 276), some (.cells (κ0 L5) 86), some (.cells [vs 8 0 L6.length L6.length] 278), some (.ro (Zc L3) true), some (.ro (Zc L4) true), some (.cells (Za eI L5) 3), some (.cells (Za RB L6) 281)]
 | .r1 w1 w3 w4 => [some (.cells (κo L2) 272), some κ7, some (.cells [Value.func (.func 186) #[] #[]] 276), some (.cells [vs 9 0 w3.length w3.length] 86), some (.cells [vs 10 0 w4.length w4.length] 278), some (.ro (Zc L3) true), some (.ro (Zc w1) true), none, none, some (.cells (Za eI w3) 3), some (.cells (Za RB w4) 281)]

theorem Zhv (a0 a1 : Int) (L2 : List RJ) (L3 L4 : List RH) (L5 : List Int) (L6 : List RG) (N : Nat) : Fx Tryz.prog Zs Tryz.f192 [.cells (κo L2) 272, .cells [Value.map (some 6)] 270, .cells [Value.func (.func 186) #[] #[]] 276, .cells (κ0 L5) 86, .cells [vs 8 0 L6.length L6.length] 278, .ro (Zc L3) true, .ro (Zc L4) true, .cells (Za eI L5) 3, .cells (Za RB L6) 281] (κF a0 a1) (Zfd a0 a1 L2 L3 L4 L5 L6) (ZeK a0 a1 L2 L3 L4 L5 L6) (ZF a0 a1 L2 L3 L4 L5 L6 N) := by
 unfold ZF
 refine Zaa (fun z0 c0 => ?_)
 cases z0 with
 | r0 y0_0 y0_1 =>
  have w1 := kK (Zeh c0 [5] 10) Zi
  refine Zf (fun g1 => ?_) (fun g1 => ?_)
  ·
   exact fxC (Zh (oq [1]) [] [] [] [(0, (ZI c0 [5] 10).t)]) (rg 0 9 []) (vtt) (kX ((!y0_1)) true (Zfq (by first | assumption | simp_all)) w1) (bS (κo L2) <| bS [Value.map (some 6)] <| bS [Value.func (.func 186) #[] #[]] <| bS (κ0 L5) <| bS [vs 8 0 L6.length L6.length] <| bC (o := .ro (Zc L3) true) (show Zc L3 = Zc L3 from rfl) <| bC (o := .ro (Zc L4) true) (show Zc L4 = Zc L4 from rfl) <| bR <| bR <| bE)
  ·
   have w2 := kX ((!y0_1)) false (ZdJ (by first | assumption | exact Decidable.not_not.1 (by assumption) | simp_all)) w1
   refine Zf (fun g2 => ?_) (fun g2 => ?_)
   ·
    exact fxC (Zh (oq [0]) [] [] [] [(0, (ZI c0 [5] 10).t), (1, .lk (some (vi (Zbt L4 a0 a1))))]) (rg 0 9 []) (vtt) (kX (dP ((κbc a0 a1 L4).map (Option.map Prod.snd) = some (some (vi (Zbt L4 a0 a1))))) true (Zv (Znh (by assumption))) w2) (bS (κo L2) <| bS [Value.map (some 6)] <| bS [Value.func (.func 186) #[] #[]] <| bS (κ0 L5) <| bS [vs 8 0 L6.length L6.length] <| bC (o := .ro (Zc L3) true) (show Zc L3 = Zc L3 from rfl) <| bC (o := .ro (Zc L4) true) (show Zc L4 = Zc L4 from rfl) <| bR <| bR <| bE)
   ·
    have w3 := kX (dP ((κbc a0 a1 L4).map (Option.map Prod.snd) = some (none))) true (Zv (Zni (by assumption))) w2
    refine Zf (fun g3 => ?_) (fun _ => Zj)
    refine Zf (fun g4 => ?_) (fun _ => Zj)
    have w5 := kG RD L2 (0 + ((y0_0).toNat * 8)) ((y0_0).toNat) 0 8 8 <| kB (y0_0).toNat L2.length <| kI y0_0 (Int.ofNat (y0_0).toNat) w3
    refine Zaa (fun z5 c5 => ?_)
    cases z5 with
    | r0 y5_0 =>
     refine Zf (fun g6 => ?_) (fun g6 => ?_)
     ·
      exact fxC (Zh (oq [0, 3]) [] [(0, (y0_0).toNat)] [(6, (RD.cel (L2.getD (y0_0).toNat RJ.z)))] [(0, (ZI c0 [5] 10).t), (1, .lk (none)), (2, (Zb5 c5 [] 10).t)]) (rg 0 9 []) (vtt) (kX ((!y5_0)) true (Zfq (by first | assumption | simp_all)) <| kK (ZcA c5 [] 10) w5) (bS (κo L2) <| bS [Value.map (some 6)] <| bS [Value.func (.func 186) #[] #[]] <| bS (κ0 L5) <| bS [vs 8 0 L6.length L6.length] <| bC (o := .ro (Zc L3) true) (show Zc L3 = Zc L3 from rfl) <| bC (o := .ro (Zc L4) true) (show Zc L4 = Zc L4 from rfl) <| bR <| bR <| bE)
     ·
      refine Zf (fun g7 => ?_) (fun _ => Zj)
      refine Zf (fun g8 => ?_) (fun _ => Zj)
      exact fxC (Zh (oq [0, 2]) [] [(0, (y0_0).toNat)] [(6, (RD.cel (L2.getD (y0_0).toNat RJ.z)))] [(0, (ZI c0 [5] 10).t), (1, .lk (none)), (2, (Zb5 c5 [] 10).t), (3, .mp (ZaA (Zae L4 a0 a1 y0_0))), (4, .ap 1 [vi y0_0] (Za eI (L5 ++ ([y0_0] : List Int)))), (6, .ap 1 [vi y0_0, vq] (Za RB (L6 ++ ([(⟨y0_0, (0 : Int)⟩ : RG)] : List RG))))]) (rg 0 9 (11 :: [13])) (vtt) (kA RB L6 (⟨y0_0, (0 : Int)⟩ : RG) <| kA eI L5 y0_0 <| kX (dP (putM Tryz.prog 42 (Value.agg #[vi a0, vi a1]) (vi y0_0) (ZaA L4) = some (ZaA (Zae L4 a0 a1 y0_0)))) true (Zv (Znj _ _ _ _)) <| kX ((!y5_0)) false (ZdJ (by first | assumption | exact Decidable.not_not.1 (by assumption) | simp_all)) <| kK (ZcA c5 [] 10) w5) (bS (κo L2) <| bS [Value.map (some 6)] <| bS [Value.func (.func 186) #[] #[]] <| bU [vs 11 0 (L5.length + 1) (L5.length + 1)] 0 (show (vs 9 0 (L5.length + 1) (L5.length + 1) : Value) = vs 9 0 (L5 ++ ([y0_0] : List Int)).length (L5 ++ ([y0_0] : List Int)).length from Z3 rfl eqA eqA) <| bU [vs 13 0 (L6.length + 1) (L6.length + 1)] 0 (show (vs 10 0 (L6.length + 1) (L6.length + 1) : Value) = vs 10 0 (L6 ++ ([(⟨y0_0, (0 : Int)⟩ : RG)] : List RG)).length (L6 ++ ([(⟨y0_0, (0 : Int)⟩ : RG)] : List RG)).length from Z3 rfl eqA eqA) <| bC (o := .ro (Zc L3) true) (show Zc L3 = Zc L3 from rfl) <| bC (o := .ro (Zc (Zae L4 a0 a1 y0_0)) true) (show Zc (Zae L4 a0 a1 y0_0) = Zc (Zae L4 a0 a1 y0_0) from rfl) <| bN <| bN <| bR <| bR <| bE)

theorem ZdU (a0 a1 : Int) (L2 : List RJ) (L3 L4 : List RH) (L5 : List Int) (L6 : List RG) (N : Nat) (r : Zay) (h : ZF a0 a1 L2 L3 L4 L5 L6 N = some r) : LSpec Tryz.prog 192 (κF a0 a1) [.cells (κo L2) 272, .cells [Value.map (some 6)] 270, .cells [Value.func (.func 186) #[] #[]] 276, .cells (κ0 L5) 86, .cells [vs 8 0 L6.length L6.length] 278, .ro (Zc L3) true, .ro (Zc L4) true, .cells (Za eI L5) 3, .cells (Za RB L6) 281] (Zfd a0 a1 L2 L3 L4 L5 L6 r) (ZeK a0 a1 L2 L3 L4 L5 L6 r) :=
 Zbh Zau Tryz.func192 (by kernel_rfl) (by kernel_rfl) (fun r => by cases r <;> exact ZG _ rfl) (Zhv a0 a1 L2 L3 L4 L5 L6 N) h

noncomputable def ZcX {a0 : Int} {a1 : Int} {L2 : List RJ} {L3 : List RH} {L4 : List RH} {L5 : List Int} {L6 : List RG} {N : Nat} (h : ZF a0 a1 L2 L3 L4 L5 L6 N = some (.r0)) (ks : List Nat) (n : Nat) : ToldS := ⟨(κJ a0 a1 ks), [(κ5 ks L2), (κbf ks), ((nth ks 2), .cells [Value.func (.func 186) #[] #[]] 276), ((nth ks 3), .cells [vs (nth ks 7) 0 L5.length L5.length] 86), ((nth ks 4), .cells [vs (nth ks 8) 0 L6.length L6.length] 278), ((nth ks 5), .ro (Zc L3) true), ((nth ks 6), .ro (Zc L4) true), ((nth ks 7), .cells (Za eI L5) 3), ((nth ks 8), .cells (Za RB L6) 281)], vtt, [], 0⟩

theorem ZeL {a0 : Int} {a1 : Int} {L2 : List RJ} {L3 : List RH} {L4 : List RH} {L5 : List Int} {L6 : List RG} {N : Nat} (h : ZF a0 a1 L2 L3 L4 L5 L6 N = some (.r0)) (ks : List Nat) (n : Nat) (hk : ks.length = 9 := by rfl) (hnd : ks.Nodup := by decide +kernel) (hlt : ∀ k ∈ ks, k < n := by decide +kernel) : (ZcX (N := N)  h ks n).P Tryz.prog 192 n :=
 match ks, hk, hnd, hlt with
 | [k0, k1, k2, k3, k4, k5, k6, k7, k8], _, hnd, hlt => Za7 (show LSpec Tryz.prog 192 (κF a0 a1) [.cells (κo L2) 272, .cells [Value.map (some 6)] 270, .cells [Value.func (.func 186) #[] #[]] 276, .cells (κ0 L5) 86, .cells [vs 8 0 L6.length L6.length] 278, .ro (Zc L3) true, .ro (Zc L4) true, .cells (Za eI L5) 3, .cells (Za RB L6) 281] (vtt) [some (.cells (κo L2) 272), some κ7, some (.cells [Value.func (.func 186) #[] #[]] 276), some (.cells (κ0 L5) 86), some (.cells [vs 8 0 L6.length L6.length] 278), some (.ro (Zc L3) true), some (.ro (Zc L4) true), some (.cells (Za eI L5) 3), some (.cells (Za RB L6) 281)] from ZdU a0 a1 L2 L3 L4 L5 L6 N _ h) _ n [] hnd hlt

noncomputable def ZcY {a0 : Int} {a1 : Int} {L2 : List RJ} {L3 : List RH} {L4 : List RH} {L5 : List Int} {L6 : List RG} {w1 : List RH} {w3 : List Int} {w4 : List RG} {N : Nat} (h : ZF a0 a1 L2 L3 L4 L5 L6 N = some (.r1 w1 w3 w4)) (ks : List Nat) (n : Nat) : ToldS := ⟨(κJ a0 a1 ks), [(κ5 ks L2), (κbf ks), ((nth ks 2), .cells [Value.func (.func 186) #[] #[]] 276), ((nth ks 3), .cells [vs (nth ks 7) 0 L5.length L5.length] 86), ((nth ks 4), .cells [vs (nth ks 8) 0 L6.length L6.length] 278), ((nth ks 5), .ro (Zc L3) true), ((nth ks 6), .ro (Zc L4) true), ((nth ks 7), .cells (Za eI L5) 3), ((nth ks 8), .cells (Za RB L6) 281)], vtt, [((nth ks 3), some (.cells [vs n 0 w3.length w3.length] 86)), ((nth ks 4), some (.cells [vs (n + 1) 0 w4.length w4.length] 278)), ((nth ks 6), some (.ro (Zc w1) true)), ((nth ks 7), none), ((nth ks 8), none), (n, some (.cells (Za eI w3) 3)), ((n + 1), some (.cells (Za RB w4) 281))], 2⟩

theorem ZeM {a0 : Int} {a1 : Int} {L2 : List RJ} {L3 : List RH} {L4 : List RH} {L5 : List Int} {L6 : List RG} {w1 : List RH} {w3 : List Int} {w4 : List RG} {N : Nat} (h : ZF a0 a1 L2 L3 L4 L5 L6 N = some (.r1 w1 w3 w4)) (ks : List Nat) (n : Nat) (hk : ks.length = 9 := by rfl) (hnd : ks.Nodup := by decide +kernel) (hlt : ∀ k ∈ ks, k < n := by decide +kernel) : (ZcY (N := N)  h ks n).P Tryz.prog 192 n :=
 match ks, hk, hnd, hlt with
 | [k0, k1, k2, k3, k4, k5, k6, k7, k8], _, hnd, hlt => Za7 (show LSpec Tryz.prog 192 (κF a0 a1) [.cells (κo L2) 272, .cells [Value.map (some 6)] 270, .cells [Value.func (.func 186) #[] #[]] 276, .cells (κ0 L5) 86, .cells [vs 8 0 L6.length L6.length] 278, .ro (Zc L3) true, .ro (Zc L4) true, .cells (Za eI L5) 3, .cells (Za RB L6) 281] (vtt) [some (.cells (κo L2) 272), some κ7, some (.cells [Value.func (.func 186) #[] #[]] 276), some (.cells [vs 9 0 w3.length w3.length] 86), some (.cells [vs 10 0 w4.length w4.length] 278), some (.ro (Zc L3) true), some (.ro (Zc w1) true), none, none, some (.cells (Za eI w3) 3), some (.cells (Za RB w4) 281)] from ZdU a0 a1 L2 L3 L4 L5 L6 N _ h) _ n (3 :: (4 :: (rg 6 5 []))) hnd hlt

noncomputable def Zfe (a0 a1 : Int) (L2 : List RJ) (L3 L4 : List RH) (L5 : List Int) (L6 : List RG) (n7 n8 : Nat) : Zal → Value
 | .r0 => vtt
 | .r1 w1 w2 w4 => vtt
 | .r2 w1 w3 w4 => vtt
noncomputable def ZeN (a0 a1 : Int) (L2 : List RJ) (L3 L4 : List RH) (L5 : List Int) (L6 : List RG) (n7 n8 : Nat) : Zal → List (Option AObj)
 | .r0 => [some (.cells (κo L2) 272), some κ7, some (.cells [Value.func (.func 186) #[] #[]] 276), some (.cells (κ0 L5) 86), some (.cells [vs 8 0 n7 n8] 278), some (.ro (Zc L3) true), some (.ro (Zc L4) true), some (.cells (Za eI L5) 3), some (.cells (Za RB L6) 281)]
 | .r1 w1 w2 w4 => [some (.cells (κo L2) 272), some κ7, some (.cells [Value.func (.func 186) #[] #[]] 276), some (.cells [vs 9 0 w4.length w4.length] 86), some (.cells [vs 8 0 (n7 + 1) n8] 278), some (.ro (Zc L3) true), some (.ro (Zc w1) true), none, some (.cells (Za RB w2) 281), some (.cells (Za eI w4) 3)]
 | .r2 w1 w3 w4 => [some (.cells (κo L2) 272), some κ7, some (.cells [Value.func (.func 186) #[] #[]] 276), some (.cells [vs 9 0 w3.length w3.length] 86), some (.cells [vs 10 0 w4.length w4.length] 278), some (.ro (Zc L3) true), some (.ro (Zc w1) true), none, none, some (.cells (Za eI w3) 3), some (.cells (Za RB w4) 281)]

theorem Zhw (a0 a1 : Int) (L2 : List RJ) (L3 L4 : List RH) (L5 : List Int) (L6 : List RG) (n7 n8 N : Nat) : Fx Tryz.prog Zs Tryz.f192 [.cells (κo L2) 272, .cells [Value.map (some 6)] 270, .cells [Value.func (.func 186) #[] #[]] 276, .cells (κ0 L5) 86, .cells [vs 8 0 n7 n8] 278, .ro (Zc L3) true, .ro (Zc L4) true, .cells (Za eI L5) 3, .cells (Za RB L6) 281] (κF a0 a1) (Zfe a0 a1 L2 L3 L4 L5 L6 n7 n8) (ZeN a0 a1 L2 L3 L4 L5 L6 n7 n8) (Z4 a0 a1 L2 L3 L4 L5 L6 n7 n8 N) := by
 unfold Z4
 refine Zaa (fun z0 c0 => ?_)
 cases z0 with
 | r0 y0_0 y0_1 =>
  have w1 := kK (Zeh c0 [5] 10) Zi
  refine Zf (fun g1 => ?_) (fun g1 => ?_)
  ·
   exact fxC (Zh (oq [1]) [] [] [] [(0, (ZI c0 [5] 10).t)]) (rg 0 9 []) (vtt) (kX ((!y0_1)) true (Zfq (by first | assumption | simp_all)) w1) (bS (κo L2) <| bS [Value.map (some 6)] <| bS [Value.func (.func 186) #[] #[]] <| bS (κ0 L5) <| bS [vs 8 0 n7 n8] <| bC (o := .ro (Zc L3) true) (show Zc L3 = Zc L3 from rfl) <| bC (o := .ro (Zc L4) true) (show Zc L4 = Zc L4 from rfl) <| bR <| bR <| bE)
  ·
   have w2 := kX ((!y0_1)) false (ZdJ (by first | assumption | exact Decidable.not_not.1 (by assumption) | simp_all)) w1
   refine Zf (fun g2 => ?_) (fun g2 => ?_)
   ·
    exact fxC (Zh (oq [0]) [] [] [] [(0, (ZI c0 [5] 10).t), (1, .lk (some (vi (Zbt L4 a0 a1))))]) (rg 0 9 []) (vtt) (kX (dP ((κbc a0 a1 L4).map (Option.map Prod.snd) = some (some (vi (Zbt L4 a0 a1))))) true (Zv (Znh (by assumption))) w2) (bS (κo L2) <| bS [Value.map (some 6)] <| bS [Value.func (.func 186) #[] #[]] <| bS (κ0 L5) <| bS [vs 8 0 n7 n8] <| bC (o := .ro (Zc L3) true) (show Zc L3 = Zc L3 from rfl) <| bC (o := .ro (Zc L4) true) (show Zc L4 = Zc L4 from rfl) <| bR <| bR <| bE)
   ·
    have w3 := kX (dP ((κbc a0 a1 L4).map (Option.map Prod.snd) = some (none))) true (Zv (Zni (by assumption))) w2
    refine Zf (fun g3 => ?_) (fun _ => Zj)
    refine Zf (fun g4 => ?_) (fun _ => Zj)
    have w5 := kG RD L2 (0 + ((y0_0).toNat * 8)) ((y0_0).toNat) 0 8 8 <| kB (y0_0).toNat L2.length <| kI y0_0 (Int.ofNat (y0_0).toNat) w3
    refine Zaa (fun z5 c5 => ?_)
    cases z5 with
    | r0 y5_0 =>
     refine Zf (fun g6 => ?_) (fun g6 => ?_)
     ·
      exact fxC (Zh (oq [0, 3]) [] [(0, (y0_0).toNat)] [(6, (RD.cel (L2.getD (y0_0).toNat RJ.z)))] [(0, (ZI c0 [5] 10).t), (1, .lk (none)), (2, (Zb5 c5 [] 10).t)]) (rg 0 9 []) (vtt) (kX ((!y5_0)) true (Zfq (by first | assumption | simp_all)) <| kK (ZcA c5 [] 10) w5) (bS (κo L2) <| bS [Value.map (some 6)] <| bS [Value.func (.func 186) #[] #[]] <| bS (κ0 L5) <| bS [vs 8 0 n7 n8] <| bC (o := .ro (Zc L3) true) (show Zc L3 = Zc L3 from rfl) <| bC (o := .ro (Zc L4) true) (show Zc L4 = Zc L4 from rfl) <| bR <| bR <| bE)
     ·
      have w7 := kX (dP (putM Tryz.prog 42 (Value.agg #[vi a0, vi a1]) (vi y0_0) (ZaA L4) = some (ZaA (Zae L4 a0 a1 y0_0)))) true (Zv (Znj _ _ _ _)) <| kX ((!y5_0)) false (ZdJ (by first | assumption | exact Decidable.not_not.1 (by assumption) | simp_all)) <| kK (ZcA c5 [] 10) w5
      refine Zf (fun g7 => ?_) (fun _ => Zj)
      refine Zf (fun g8 => ?_) (fun g8 => ?_)
      ·
       refine Zf (fun g9 => ?_) (fun _ => Zj)
       exact fxC (Zh (oq [0, 2]) [] [(0, (y0_0).toNat)] [(6, (RD.cel (L2.getD (y0_0).toNat RJ.z)))] [(0, (ZI c0 [5] 10).t), (1, .lk (none)), (2, (Zb5 c5 [] 10).t), (3, .mp (ZaA (Zae L4 a0 a1 y0_0))), (4, .ap 1 [vi y0_0] (Za eI (L5 ++ ([y0_0] : List Int)))), (6, .api 1 [vi y0_0, vq] (Za RB (L6.set n7 (⟨y0_0, (0 : Int)⟩ : RG))))]) (rg 0 9 [11]) (vtt) (kX (dP (((1 = 1 ∧ ZL (1 * 2) (List.drop 0 [vi y0_0, vq]) = some [vi y0_0, vq] ∧ Zp Zca [vi y0_0, vq] = true) ∧ Zp Zca [vi y0_0, vq] = true) ∧ 0 < 1 ∧ 1 ≤ 100000 ∧ n7 + 1 ≤ n8 ∧ (0 + n7 * 2 + ([vi y0_0, vq] : List Value).length ≤ ((Za RB L6) : List Value).length ∧ Ze5 (Za RB L6) (0 + n7 * 2) [vi y0_0, vq] = (Za RB (L6.set n7 (⟨y0_0, (0 : Int)⟩ : RG)))))) true (Zv ⟨⟨⟨rfl, ⟨rfl, rfl⟩⟩, rfl⟩, by omega, by omega, by omega, (Zcq (E := RB) (L := L6) (i := n7) (q := 0) (l := [vi y0_0, vq]) (⟨y0_0, (0 : Int)⟩ : RG) (by omega) (show 0 + n7 * 2 = n7 * 2 + 0 from by omega) (show 0 + 2 ≤ 2 from by decide) rfl)⟩) <| kA eI L5 y0_0 w7) (bS (κo L2) <| bS [Value.map (some 6)] <| bS [Value.func (.func 186) #[] #[]] <| bU [vs 11 0 (L5.length + 1) (L5.length + 1)] 0 (show (vs 9 0 (L5.length + 1) (L5.length + 1) : Value) = vs 9 0 (L5 ++ ([y0_0] : List Int)).length (L5 ++ ([y0_0] : List Int)).length from Z3 rfl eqA eqA) <| bS [vs 8 0 (n7 + 1) n8] <| bC (o := .ro (Zc L3) true) (show Zc L3 = Zc L3 from rfl) <| bC (o := .ro (Zc (Zae L4 a0 a1 y0_0)) true) (show Zc (Zae L4 a0 a1 y0_0) = Zc (Zae L4 a0 a1 y0_0) from rfl) <| bN <| bR <| bR <| bE)
      ·
       refine Zf (fun g9 => ?_) (fun _ => Zj)
       refine Zf (fun g10 => ?_) (fun _ => Zj)
       exact fxC (Zh (oq [0, 2]) [] [(0, (y0_0).toNat)] [(6, (RD.cel (L2.getD (y0_0).toNat RJ.z)))] [(0, (ZI c0 [5] 10).t), (1, .lk (none)), (2, (Zb5 c5 [] 10).t), (3, .mp (ZaA (Zae L4 a0 a1 y0_0))), (4, .ap 1 [vi y0_0] (Za eI (L5 ++ ([y0_0] : List Int)))), (6, .ap 1 [vi y0_0, vq] (Za RB ((L6.take n7) ++ ([(⟨y0_0, (0 : Int)⟩ : RG)] : List RG))))]) (rg 0 9 (11 :: [13])) (vtt) (kX (dP ((1 = 1 ∧ ZL (1 * 2) (List.drop 0 [vi y0_0, vq]) = some [vi y0_0, vq] ∧ Zp Zca [vi y0_0, vq] = true) ∧ 0 < 1 ∧ 1 ≤ 100000 ∧ n8 < n7 + 1 ∧ n7 ≤ 100000 ∧ n7 * 2 ≤ (List.length (Za RB L6)) ∧ List.take (n7 * 2) (Za RB L6) ++ [vi y0_0, vq] = (Za RB ((L6.take n7) ++ ([(⟨y0_0, (0 : Int)⟩ : RG)] : List RG))))) true (Zv ⟨⟨rfl, ⟨rfl, rfl⟩⟩, by omega, by omega, ltA, by omega, (Zmt (E := RB) (L := L6) (M := ([(⟨y0_0, (0 : Int)⟩ : RG)] : List RG)) (n := n7) (show _ = _ * 2 from rfl) (by omega) (R := ((L6.take n7) ++ ([(⟨y0_0, (0 : Int)⟩ : RG)] : List RG))) rfl)⟩) <| kA eI L5 y0_0 w7) (bS (κo L2) <| bS [Value.map (some 6)] <| bS [Value.func (.func 186) #[] #[]] <| bU [vs 11 0 (L5.length + 1) (L5.length + 1)] 0 (show (vs 9 0 (L5.length + 1) (L5.length + 1) : Value) = vs 9 0 (L5 ++ ([y0_0] : List Int)).length (L5 ++ ([y0_0] : List Int)).length from Z3 rfl eqA eqA) <| bU [vs 13 0 (n7 + 1) (n7 + 1)] 0 (show (vs 10 0 (n7 + 1) (n7 + 1) : Value) = vs 10 0 ((L6.take n7) ++ ([(⟨y0_0, (0 : Int)⟩ : RG)] : List RG)).length ((L6.take n7) ++ ([(⟨y0_0, (0 : Int)⟩ : RG)] : List RG)).length from Z3 rfl eqA eqA) <| bC (o := .ro (Zc L3) true) (show Zc L3 = Zc L3 from rfl) <| bC (o := .ro (Zc (Zae L4 a0 a1 y0_0)) true) (show Zc (Zae L4 a0 a1 y0_0) = Zc (Zae L4 a0 a1 y0_0) from rfl) <| bN <| bN <| bR <| bR <| bE)

theorem Zc2 (a0 a1 : Int) (L2 : List RJ) (L3 L4 : List RH) (L5 : List Int) (L6 : List RG) (n7 n8 N : Nat) (r : Zal) (h : Z4 a0 a1 L2 L3 L4 L5 L6 n7 n8 N = some r) : LSpec Tryz.prog 192 (κF a0 a1) [.cells (κo L2) 272, .cells [Value.map (some 6)] 270, .cells [Value.func (.func 186) #[] #[]] 276, .cells (κ0 L5) 86, .cells [vs 8 0 n7 n8] 278, .ro (Zc L3) true, .ro (Zc L4) true, .cells (Za eI L5) 3, .cells (Za RB L6) 281] (Zfe a0 a1 L2 L3 L4 L5 L6 n7 n8 r) (ZeN a0 a1 L2 L3 L4 L5 L6 n7 n8 r) :=
 Zbh Zau Tryz.func192 (by kernel_rfl) (by kernel_rfl) (fun r => by cases r <;> exact ZG _ rfl) (Zhw a0 a1 L2 L3 L4 L5 L6 n7 n8 N) h

noncomputable def ZcZ {a0 : Int} {a1 : Int} {L2 : List RJ} {L3 : List RH} {L4 : List RH} {L5 : List Int} {L6 : List RG} {n7 : Nat} {n8 : Nat} {N : Nat} (h : Z4 a0 a1 L2 L3 L4 L5 L6 n7 n8 N = some (.r0)) (ks : List Nat) (n : Nat) : ToldS := ⟨(κJ a0 a1 ks), [(κ5 ks L2), (κbf ks), ((nth ks 2), .cells [Value.func (.func 186) #[] #[]] 276), ((nth ks 3), .cells [vs (nth ks 7) 0 L5.length L5.length] 86), ((nth ks 4), .cells [vs (nth ks 8) 0 n7 n8] 278), ((nth ks 5), .ro (Zc L3) true), ((nth ks 6), .ro (Zc L4) true), ((nth ks 7), .cells (Za eI L5) 3), ((nth ks 8), .cells (Za RB L6) 281)], vtt, [], 0⟩

theorem ZeO {a0 : Int} {a1 : Int} {L2 : List RJ} {L3 : List RH} {L4 : List RH} {L5 : List Int} {L6 : List RG} {n7 : Nat} {n8 : Nat} {N : Nat} (h : Z4 a0 a1 L2 L3 L4 L5 L6 n7 n8 N = some (.r0)) (ks : List Nat) (n : Nat) (hk : ks.length = 9 := by rfl) (hnd : ks.Nodup := by decide +kernel) (hlt : ∀ k ∈ ks, k < n := by decide +kernel) : (ZcZ (N := N)  h ks n).P Tryz.prog 192 n :=
 match ks, hk, hnd, hlt with
 | [k0, k1, k2, k3, k4, k5, k6, k7, k8], _, hnd, hlt => Za7 (show LSpec Tryz.prog 192 (κF a0 a1) [.cells (κo L2) 272, .cells [Value.map (some 6)] 270, .cells [Value.func (.func 186) #[] #[]] 276, .cells (κ0 L5) 86, .cells [vs 8 0 n7 n8] 278, .ro (Zc L3) true, .ro (Zc L4) true, .cells (Za eI L5) 3, .cells (Za RB L6) 281] (vtt) [some (.cells (κo L2) 272), some κ7, some (.cells [Value.func (.func 186) #[] #[]] 276), some (.cells (κ0 L5) 86), some (.cells [vs 8 0 n7 n8] 278), some (.ro (Zc L3) true), some (.ro (Zc L4) true), some (.cells (Za eI L5) 3), some (.cells (Za RB L6) 281)] from Zc2 a0 a1 L2 L3 L4 L5 L6 n7 n8 N _ h) _ n [] hnd hlt

noncomputable def Zda {a0 : Int} {a1 : Int} {L2 : List RJ} {L3 : List RH} {L4 : List RH} {L5 : List Int} {L6 : List RG} {n7 : Nat} {n8 : Nat} {w1 : List RH} {w2 : List RG} {w4 : List Int} {N : Nat} (h : Z4 a0 a1 L2 L3 L4 L5 L6 n7 n8 N = some (.r1 w1 w2 w4)) (ks : List Nat) (n : Nat) : ToldS := ⟨(κJ a0 a1 ks), [(κ5 ks L2), (κbf ks), ((nth ks 2), .cells [Value.func (.func 186) #[] #[]] 276), ((nth ks 3), .cells [vs (nth ks 7) 0 L5.length L5.length] 86), ((nth ks 4), .cells [vs (nth ks 8) 0 n7 n8] 278), ((nth ks 5), .ro (Zc L3) true), ((nth ks 6), .ro (Zc L4) true), ((nth ks 7), .cells (Za eI L5) 3), ((nth ks 8), .cells (Za RB L6) 281)], vtt, [((nth ks 3), some (.cells [vs n 0 w4.length w4.length] 86)), ((nth ks 4), some (.cells [vs (nth ks 8) 0 (n7 + 1) n8] 278)), ((nth ks 6), some (.ro (Zc w1) true)), ((nth ks 7), none), ((nth ks 8), some (.cells (Za RB w2) 281)), (n, some (.cells (Za eI w4) 3))], 1⟩

theorem ZeP {a0 : Int} {a1 : Int} {L2 : List RJ} {L3 : List RH} {L4 : List RH} {L5 : List Int} {L6 : List RG} {n7 : Nat} {n8 : Nat} {w1 : List RH} {w2 : List RG} {w4 : List Int} {N : Nat} (h : Z4 a0 a1 L2 L3 L4 L5 L6 n7 n8 N = some (.r1 w1 w2 w4)) (ks : List Nat) (n : Nat) (hk : ks.length = 9 := by rfl) (hnd : ks.Nodup := by decide +kernel) (hlt : ∀ k ∈ ks, k < n := by decide +kernel) : (Zda (N := N)  h ks n).P Tryz.prog 192 n :=
 match ks, hk, hnd, hlt with
 | [k0, k1, k2, k3, k4, k5, k6, k7, k8], _, hnd, hlt => Za7 (show LSpec Tryz.prog 192 (κF a0 a1) [.cells (κo L2) 272, .cells [Value.map (some 6)] 270, .cells [Value.func (.func 186) #[] #[]] 276, .cells (κ0 L5) 86, .cells [vs 8 0 n7 n8] 278, .ro (Zc L3) true, .ro (Zc L4) true, .cells (Za eI L5) 3, .cells (Za RB L6) 281] (vtt) [some (.cells (κo L2) 272), some κ7, some (.cells [Value.func (.func 186) #[] #[]] 276), some (.cells [vs 9 0 w4.length w4.length] 86), some (.cells [vs 8 0 (n7 + 1) n8] 278), some (.ro (Zc L3) true), some (.ro (Zc w1) true), none, some (.cells (Za RB w2) 281), some (.cells (Za eI w4) 3)] from Zc2 a0 a1 L2 L3 L4 L5 L6 n7 n8 N _ h) _ n (3 :: (4 :: (rg 6 4 []))) hnd hlt

noncomputable def Zdb {a0 : Int} {a1 : Int} {L2 : List RJ} {L3 : List RH} {L4 : List RH} {L5 : List Int} {L6 : List RG} {n7 : Nat} {n8 : Nat} {w1 : List RH} {w3 : List Int} {w4 : List RG} {N : Nat} (h : Z4 a0 a1 L2 L3 L4 L5 L6 n7 n8 N = some (.r2 w1 w3 w4)) (ks : List Nat) (n : Nat) : ToldS := ⟨(κJ a0 a1 ks), [(κ5 ks L2), (κbf ks), ((nth ks 2), .cells [Value.func (.func 186) #[] #[]] 276), ((nth ks 3), .cells [vs (nth ks 7) 0 L5.length L5.length] 86), ((nth ks 4), .cells [vs (nth ks 8) 0 n7 n8] 278), ((nth ks 5), .ro (Zc L3) true), ((nth ks 6), .ro (Zc L4) true), ((nth ks 7), .cells (Za eI L5) 3), ((nth ks 8), .cells (Za RB L6) 281)], vtt, [((nth ks 3), some (.cells [vs n 0 w3.length w3.length] 86)), ((nth ks 4), some (.cells [vs (n + 1) 0 w4.length w4.length] 278)), ((nth ks 6), some (.ro (Zc w1) true)), ((nth ks 7), none), ((nth ks 8), none), (n, some (.cells (Za eI w3) 3)), ((n + 1), some (.cells (Za RB w4) 281))], 2⟩

theorem ZeQ {a0 : Int} {a1 : Int} {L2 : List RJ} {L3 : List RH} {L4 : List RH} {L5 : List Int} {L6 : List RG} {n7 : Nat} {n8 : Nat} {w1 : List RH} {w3 : List Int} {w4 : List RG} {N : Nat} (h : Z4 a0 a1 L2 L3 L4 L5 L6 n7 n8 N = some (.r2 w1 w3 w4)) (ks : List Nat) (n : Nat) (hk : ks.length = 9 := by rfl) (hnd : ks.Nodup := by decide +kernel) (hlt : ∀ k ∈ ks, k < n := by decide +kernel) : (Zdb (N := N)  h ks n).P Tryz.prog 192 n :=
 match ks, hk, hnd, hlt with
 | [k0, k1, k2, k3, k4, k5, k6, k7, k8], _, hnd, hlt => Za7 (show LSpec Tryz.prog 192 (κF a0 a1) [.cells (κo L2) 272, .cells [Value.map (some 6)] 270, .cells [Value.func (.func 186) #[] #[]] 276, .cells (κ0 L5) 86, .cells [vs 8 0 n7 n8] 278, .ro (Zc L3) true, .ro (Zc L4) true, .cells (Za eI L5) 3, .cells (Za RB L6) 281] (vtt) [some (.cells (κo L2) 272), some κ7, some (.cells [Value.func (.func 186) #[] #[]] 276), some (.cells [vs 9 0 w3.length w3.length] 86), some (.cells [vs 10 0 w4.length w4.length] 278), some (.ro (Zc L3) true), some (.ro (Zc w1) true), none, none, some (.cells (Za eI w3) 3), some (.cells (Za RB w4) 281)] from Zc2 a0 a1 L2 L3 L4 L5 L6 n7 n8 N _ h) _ n (3 :: (4 :: (rg 6 5 []))) hnd hlt

end Ev
end Go.Proofs.YtiijipocjellpaaGreat
namespace Go.Proofs.YtiijipocjellpaaGreat
open Go.IntKind (i64)
open Go.RowKit
namespace Ev
set_option linter.unusedVariables false
set_option maxRecDepth 100000
set_option maxHeartbeats 4000000
noncomputable def Zgu (L0 : List RJ) (L1 : List RH) (L2 : List RG) : ZC → Value
 | .r0 => vn
 | .r1 w2 => vs 2 0 w2.length w2.length
noncomputable def Zgi (L0 : List RJ) (L1 : List RH) (L2 : List RG) : ZC → List (Option AObj)
 | .r0 => [some (.ro (Zc L1) true), some (κK L2)]
 | .r1 w2 => [some (.ro (Zc L1) true), some (κK L2), some (.cells (Za eI w2) 3)]

def Zkc : graph_objects_walkX → Nat
 | .h1m0 v3 => 1
 | .h1m1 v3 v5 v6 v7 => 1
 | .h1m2 v3 v5 v6 v7 v8 v9 => 1
 | .h2m0 v3 => 2
 | .h2m1 v3 v5 v6 v7 => 2
 | .h2m2 v3 v5 v6 v7 v8 v9 => 2
noncomputable abbrev κC := #[vp 2 0, vp 5 0, vp 6 0, vp 3 0, vp 4 0]
noncomputable def Zk3 (L0 : List RJ) (L1 : List RH) (L2 : List RG) : graph_objects_walkX → List (Nat × Value)
 | .h1m0 v3 => [(3, vp 2 0), (7, vp 3 0), (9, vp 4 0), (10, Value.func (.func 192) #[] κC), (19, vs 1 0 L2.length L2.length), (20, vi (L2.length : Int)), (21, vi (v3 : Int))]
 | .h1m1 v3 v5 v6 v7 => [(3, vp 2 0), (7, vp 3 0), (9, vp 4 0), (10, Value.func (.func 192) #[] κC), (19, vs 1 0 L2.length L2.length), (20, vi (L2.length : Int)), (21, vi (v3 : Int))]
 | .h1m2 v3 v5 v6 v7 v8 v9 => [(3, vp 2 0), (7, vp 3 0), (9, vp 4 0), (10, Value.func (.func 192) #[] κC), (19, vs 1 0 L2.length L2.length), (20, vi (L2.length : Int)), (21, vi (v3 : Int))]
 | .h2m0 v3 => [(3, vp 2 0), (7, vp 3 0), (9, vp 4 0), (10, Value.func (.func 192) #[] κC), (19, vs 1 0 L2.length L2.length), (20, vi (L2.length : Int)), (21, vi (v3 : Int))]
 | .h2m1 v3 v5 v6 v7 => [(3, vp 2 0), (7, vp 3 0), (9, vp 4 0), (10, Value.func (.func 192) #[] κC), (19, vs 1 0 L2.length L2.length), (20, vi (L2.length : Int)), (21, vi (v3 : Int))]
 | .h2m2 v3 v5 v6 v7 v8 v9 => [(3, vp 2 0), (7, vp 3 0), (9, vp 4 0), (10, Value.func (.func 192) #[] κC), (19, vs 1 0 L2.length L2.length), (20, vi (L2.length : Int)), (21, vi (v3 : Int))]
noncomputable abbrev κv (L0 : List RJ) := [ms RD L0, Value.map (some 0)]
noncomputable def Zk4 (L0 : List RJ) (L1 : List RH) (L2 : List RG) : graph_objects_walkX → List (Option AObj)
 | .h1m0 v3 => [some (.ro (Zc L1) true), some (κK L2), some (.cells (κv L0) 272), some (.cells [vn] 86), some (.cells [vn] 278), some (.cells [Value.map (some 7)] 270), some (.cells [Value.func (.func 186) #[] #[]] 276), some (.ro (Zc ([] : List RH)) true)]
 | .h1m1 v3 v5 v6 v7 => [some (.ro (Zc L1) true), some (κK L2), some (.cells (κv L0) 272), some (.cells [vs 7 0 v5.length v5.length] 86), some (.cells [vs 8 0 v6.length v6.length] 278), some (.cells [Value.map (some 9)] 270), some (.cells [Value.func (.func 186) #[] #[]] 276), some (.cells (Za eI v5) 3), some (.cells (Za RB v6) 281), some (.ro (Zc v7) true)]
 | .h1m2 v3 v5 v6 v7 v8 v9 => [some (.ro (Zc L1) true), some (κK L2), some (.cells (κv L0) 272), some (.cells [vs 7 0 v5.length v5.length] 86), some (.cells [vs 8 0 v7 v8] 278), some (.cells [Value.map (some 9)] 270), some (.cells [Value.func (.func 186) #[] #[]] 276), some (.cells (Za eI v5) 3), some (.cells (Za RB v6) 281), some (.ro (Zc v9) true)]
 | .h2m0 v3 => [some (.ro (Zc L1) true), some (κK L2), some (.cells (κv L0) 272), some (.cells [vn] 86), some (.cells [vn] 278), some (.cells [Value.map (some 7)] 270), some (.cells [Value.func (.func 186) #[] #[]] 276), some (.ro (Zc ([] : List RH)) true)]
 | .h2m1 v3 v5 v6 v7 => [some (.ro (Zc L1) true), some (κK L2), some (.cells (κv L0) 272), some (.cells [vs 7 0 v5.length v5.length] 86), some (.cells [vs 8 0 v6.length v6.length] 278), some (.cells [Value.map (some 9)] 270), some (.cells [Value.func (.func 186) #[] #[]] 276), some (.cells (Za eI v5) 3), some (.cells (Za RB v6) 281), some (.ro (Zc v7) true)]
 | .h2m2 v3 v5 v6 v7 v8 v9 => [some (.ro (Zc L1) true), some (κK L2), some (.cells (κv L0) 272), some (.cells [vs 7 0 v5.length v5.length] 86), some (.cells [vs 8 0 v7 v8] 278), some (.cells [Value.map (some 9)] 270), some (.cells [Value.func (.func 186) #[] #[]] 276), some (.cells (Za eI v5) 3), some (.cells (Za RB v6) 281), some (.ro (Zc v9) true)]

noncomputable def Zu : Nat → Code × List ZaI
 | 1 => ZbB [1, 1, 1, 1, 1, 0, 1, 3] (ZcG Tryz.f185) []
 | 2 => ZbB [1, 1, 1, 1, 1, 0, 1, 3, 7, 1, 1, 0, 3, 1, 1, 3] (ZcG Tryz.f185) []
 | _ => (.skip, [])
def Zgj : Nat → Bool
 | 1 => true
 | 2 => true
 | _ => true
noncomputable def ZD (i : Nat) : List ZaI := match Zgj i with | true => .rnd i :: (Zu i).2 | false => (Zu i).2

noncomputable def ZH (L0 : List RJ) (L1 : List RH) (L2 : List RG) (N : Nat) : Mach := ⟨Tryz.f185, [.ro (Zc L1) true, .cells (Za RB L2) 42], graph_objects_walkX, ZC, Zaf L0 L1 L2 N, Zkc, Zu, Zgj, Zk3 L0 L1 L2, Zk4 L0 L1 L2, Zgu L0 L1 L2, Zgi L0 L1 L2⟩

noncomputable abbrev κ3 (L2 : List RG) := (vs 1 0 L2.length L2.length)
noncomputable abbrev κZ (L2 : List RG) := (vi (L2.length : Int))
theorem ZhX (L0 : List RJ) (L1 : List RH) (L2 : List RG) (v3 N : Nat) : (ZH L0 L1 L2 N).Ok Tryz.prog Zs (.h1m0 v3 : graph_objects_walkX) (Zaf L0 L1 L2 N (.h1m0 v3 : graph_objects_walkX)) := by
 show (ZH L0 L1 L2 N).Ok Tryz.prog Zs (.h1m0 v3 : graph_objects_walkX) (Zam L0 L1 L2 N v3)
 unfold Zam
 refine Mach.ok_ite (fun g0 => ?_) (fun g0 => ?_)
 ·
  have w1 := kLn RB L2 v3 0 2 <| kB v3 L2.length <| kI (v3 : Int) (Int.ofNat v3) <| hY g0 Zi
  refine Mach.ok_bind (fun z1 c1 => ?_)
  cases z1 with
  | r0 =>
   exact Mach.okH (Zu 2) (Zh (oq [1]) [] [(0, v3)] [(0, (RB.cel (L2.getD v3 RG.z)))] [(1, (Zfu c1 [2, 5, 6, 3, 4, 0, 7] 9).t)]) (rg 0 8 []) [some (vp 2 0), some (vp 3 0), some (vp 4 0), some (Value.func (.func 192) #[] κC), some (κ3 L2), some (κZ L2), some (vi (v3 : Int))] (kK (ZiU c1 [2, 5, 6, 3, 4, 0, 7] 9) w1) (tC (tC (tC (tC (tC (tC (tC (tE)))))))) (bC (o := .ro (Zc L1) true) (show Zc L1 = Zc L1 from rfl) <| bR <| bS (κv L0) <| bS [vn] <| bS [vn] <| bS [Value.map (some 7)] <| bS [Value.func (.func 186) #[] #[]] <| bC (o := .ro (Zc ([] : List RH)) true) (show Zc ([] : List RH) = Zc ([] : List RH) from rfl) <| bE) (show ∀ j ∈ Zt (Zu 2).2, j ∈ Zt (ZD 1) from by decide +kernel)
  | r1 y1_0 y1_1 y1_2 =>
   exact Mach.okH (Zu 2) (Zh (oq [1]) [] [(0, v3)] [(0, (RB.cel (L2.getD v3 RG.z)))] [(1, (Zfv c1 [2, 5, 6, 3, 4, 0, 7] 9).t)]) (rg 0 7 (9 :: (10 :: [7]))) [some (vp 2 0), some (vp 3 0), some (vp 4 0), some (Value.func (.func 192) #[] κC), some (κ3 L2), some (κZ L2), some (vi (v3 : Int))] (kK (ZiV c1 [2, 5, 6, 3, 4, 0, 7] 9) w1) (tC (tC (tC (tC (tC (tC (tC (tE)))))))) (bC (o := .ro (Zc L1) true) (show Zc L1 = Zc L1 from rfl) <| bR <| bS (κv L0) <| bS [vs 9 0 y1_1.length y1_1.length] <| bS [vs 10 0 y1_2.length y1_2.length] <| bS [Value.map (some 7)] <| bS [Value.func (.func 186) #[] #[]] <| bR <| bR <| bC (o := .ro (Zc y1_0) true) (show Zc y1_0 = Zc y1_0 from rfl) <| bE) (show ∀ j ∈ Zt (Zu 2).2, j ∈ Zt (ZD 1) from by decide +kernel)
 ·
  exact Mach.okF (Zh (oq [0]) [] [] [] []) [0, 1] (vn) (hN g0 Zi) (bC (o := .ro (Zc L1) true) (show Zc L1 = Zc L1 from rfl) <| bR <| bE)

theorem ZhY (L0 : List RJ) (L1 : List RH) (L2 : List RG) (v3 : Nat) (v5 : List Int) (v6 : List RG) (v7 : List RH) (N : Nat) : (ZH L0 L1 L2 N).Ok Tryz.prog Zs (.h1m1 v3 v5 v6 v7 : graph_objects_walkX) (Zaf L0 L1 L2 N (.h1m1 v3 v5 v6 v7 : graph_objects_walkX)) := by
 show (ZH L0 L1 L2 N).Ok Tryz.prog Zs (.h1m1 v3 v5 v6 v7 : graph_objects_walkX) (Zan L0 L1 L2 N v3 v5 v6 v7)
 unfold Zan
 refine Mach.ok_ite (fun g0 => ?_) (fun g0 => ?_)
 ·
  have w1 := kLn RB L2 v3 0 2 <| kB v3 L2.length <| kI (v3 : Int) (Int.ofNat v3) <| hY g0 Zi
  refine Mach.ok_bind (fun z1 c1 => ?_)
  cases z1 with
  | r0 =>
   exact Mach.okH (Zu 2) (Zh (oq [1]) [] [(0, v3)] [(0, (RB.cel (L2.getD v3 RG.z)))] [(1, (ZcX c1 [2, 5, 6, 3, 4, 0, 9, 7, 8] 11).t)]) (rg 0 10 []) [some (vp 2 0), some (vp 3 0), some (vp 4 0), some (Value.func (.func 192) #[] κC), some (κ3 L2), some (κZ L2), some (vi (v3 : Int))] (kK (ZeL c1 [2, 5, 6, 3, 4, 0, 9, 7, 8] 11) w1) (tC (tC (tC (tC (tC (tC (tC (tE)))))))) (bC (o := .ro (Zc L1) true) (show Zc L1 = Zc L1 from rfl) <| bR <| bS (κv L0) <| bS [vs 7 0 v5.length v5.length] <| bS [vs 8 0 v6.length v6.length] <| bS [Value.map (some 9)] <| bS [Value.func (.func 186) #[] #[]] <| bR <| bR <| bC (o := .ro (Zc v7) true) (show Zc v7 = Zc v7 from rfl) <| bE) (show ∀ j ∈ Zt (Zu 2).2, j ∈ Zt (ZD 1) from by decide +kernel)
  | r1 y1_0 y1_1 y1_2 =>
   exact Mach.okH (Zu 2) (Zh (oq [1]) [] [(0, v3)] [(0, (RB.cel (L2.getD v3 RG.z)))] [(1, (ZcY c1 [2, 5, 6, 3, 4, 0, 9, 7, 8] 11).t)]) (rg 0 7 (11 :: (12 :: [9]))) [some (vp 2 0), some (vp 3 0), some (vp 4 0), some (Value.func (.func 192) #[] κC), some (κ3 L2), some (κZ L2), some (vi (v3 : Int))] (kK (ZeM c1 [2, 5, 6, 3, 4, 0, 9, 7, 8] 11) w1) (tC (tC (tC (tC (tC (tC (tC (tE)))))))) (bC (o := .ro (Zc L1) true) (show Zc L1 = Zc L1 from rfl) <| bR <| bS (κv L0) <| bS [vs 11 0 y1_1.length y1_1.length] <| bS [vs 12 0 y1_2.length y1_2.length] <| bS [Value.map (some 9)] <| bS [Value.func (.func 186) #[] #[]] <| bR <| bR <| bC (o := .ro (Zc y1_0) true) (show Zc y1_0 = Zc y1_0 from rfl) <| bE) (show ∀ j ∈ Zt (Zu 2).2, j ∈ Zt (ZD 1) from by decide +kernel)
 ·
  exact Mach.okF (Zh (oq [0]) [] [] [] []) [0, 1, 7] (vs 7 0 v5.length v5.length) (hN g0 Zi) (bC (o := .ro (Zc L1) true) (show Zc L1 = Zc L1 from rfl) <| bR <| bR <| bE)

theorem ZhZ (L0 : List RJ) (L1 : List RH) (L2 : List RG) (v3 : Nat) (v5 : List Int) (v6 : List RG) (v7 v8 : Nat) (v9 : List RH) (N : Nat) : (ZH L0 L1 L2 N).Ok Tryz.prog Zs (.h1m2 v3 v5 v6 v7 v8 v9 : graph_objects_walkX) (Zaf L0 L1 L2 N (.h1m2 v3 v5 v6 v7 v8 v9 : graph_objects_walkX)) := by
 show (ZH L0 L1 L2 N).Ok Tryz.prog Zs (.h1m2 v3 v5 v6 v7 v8 v9 : graph_objects_walkX) (ZT L0 L1 L2 N v3 v5 v6 v7 v8 v9)
 unfold ZT
 refine Mach.ok_ite (fun g0 => ?_) (fun g0 => ?_)
 ·
  have w1 := kLn RB L2 v3 0 2 <| kB v3 L2.length <| kI (v3 : Int) (Int.ofNat v3) <| hY g0 Zi
  refine Mach.ok_bind (fun z1 c1 => ?_)
  cases z1 with
  | r0 =>
   exact Mach.okH (Zu 2) (Zh (oq [1]) [] [(0, v3)] [(0, (RB.cel (L2.getD v3 RG.z)))] [(1, (ZcZ c1 [2, 5, 6, 3, 4, 0, 9, 7, 8] 11).t)]) (rg 0 10 []) [some (vp 2 0), some (vp 3 0), some (vp 4 0), some (Value.func (.func 192) #[] κC), some (κ3 L2), some (κZ L2), some (vi (v3 : Int))] (kK (ZeO c1 [2, 5, 6, 3, 4, 0, 9, 7, 8] 11) w1) (tC (tC (tC (tC (tC (tC (tC (tE)))))))) (bC (o := .ro (Zc L1) true) (show Zc L1 = Zc L1 from rfl) <| bR <| bS (κv L0) <| bS [vs 7 0 v5.length v5.length] <| bS [vs 8 0 v7 v8] <| bS [Value.map (some 9)] <| bS [Value.func (.func 186) #[] #[]] <| bR <| bR <| bC (o := .ro (Zc v9) true) (show Zc v9 = Zc v9 from rfl) <| bE) (show ∀ j ∈ Zt (Zu 2).2, j ∈ Zt (ZD 1) from by decide +kernel)
  | r1 y1_0 y1_1 y1_2 =>
   exact Mach.okH (Zu 2) (Zh (oq [1]) [] [(0, v3)] [(0, (RB.cel (L2.getD v3 RG.z)))] [(1, (Zda c1 [2, 5, 6, 3, 4, 0, 9, 7, 8] 11).t)]) (rg 0 7 (11 :: (8 :: [9]))) [some (vp 2 0), some (vp 3 0), some (vp 4 0), some (Value.func (.func 192) #[] κC), some (κ3 L2), some (κZ L2), some (vi (v3 : Int))] (kK (ZeP c1 [2, 5, 6, 3, 4, 0, 9, 7, 8] 11) w1) (tC (tC (tC (tC (tC (tC (tC (tE)))))))) (bC (o := .ro (Zc L1) true) (show Zc L1 = Zc L1 from rfl) <| bR <| bS (κv L0) <| bS [vs 11 0 y1_2.length y1_2.length] <| bS [vs 8 0 (v7 + 1) v8] <| bS [Value.map (some 9)] <| bS [Value.func (.func 186) #[] #[]] <| bR <| bR <| bC (o := .ro (Zc y1_0) true) (show Zc y1_0 = Zc y1_0 from rfl) <| bE) (show ∀ j ∈ Zt (Zu 2).2, j ∈ Zt (ZD 1) from by decide +kernel)
  | r2 y1_0 y1_1 y1_2 =>
   exact Mach.okH (Zu 2) (Zh (oq [1]) [] [(0, v3)] [(0, (RB.cel (L2.getD v3 RG.z)))] [(1, (Zdb c1 [2, 5, 6, 3, 4, 0, 9, 7, 8] 11).t)]) (rg 0 7 (11 :: (12 :: [9]))) [some (vp 2 0), some (vp 3 0), some (vp 4 0), some (Value.func (.func 192) #[] κC), some (κ3 L2), some (κZ L2), some (vi (v3 : Int))] (kK (ZeQ c1 [2, 5, 6, 3, 4, 0, 9, 7, 8] 11) w1) (tC (tC (tC (tC (tC (tC (tC (tE)))))))) (bC (o := .ro (Zc L1) true) (show Zc L1 = Zc L1 from rfl) <| bR <| bS (κv L0) <| bS [vs 11 0 y1_1.length y1_1.length] <| bS [vs 12 0 y1_2.length y1_2.length] <| bS [Value.map (some 9)] <| bS [Value.func (.func 186) #[] #[]] <| bR <| bR <| bC (o := .ro (Zc y1_0) true) (show Zc y1_0 = Zc y1_0 from rfl) <| bE) (show ∀ j ∈ Zt (Zu 2).2, j ∈ Zt (ZD 1) from by decide +kernel)
 ·
  exact Mach.okF (Zh (oq [0]) [] [] [] []) [0, 1, 7] (vs 7 0 v5.length v5.length) (hN g0 Zi) (bC (o := .ro (Zc L1) true) (show Zc L1 = Zc L1 from rfl) <| bR <| bR <| bE)

noncomputable abbrev κ4 (v3 : Nat) := (vi (((v3 + 1) : Nat) : Int))
theorem Zia (L0 : List RJ) (L1 : List RH) (L2 : List RG) (v3 N : Nat) : (ZH L0 L1 L2 N).Ok Tryz.prog Zs (.h2m0 v3 : graph_objects_walkX) (Zaf L0 L1 L2 N (.h2m0 v3 : graph_objects_walkX)) := by
 show (ZH L0 L1 L2 N).Ok Tryz.prog Zs (.h2m0 v3 : graph_objects_walkX) (Zby L0 L1 L2 N v3)
 unfold Zby
 refine Mach.ok_ite (fun g0 => ?_) (fun _ => Mach.ok_none)
 exact Mach.okN (Zh (oq []) [(0, (((v3 + 1) : Nat) : Int))] [] [] []) (rg 0 8 []) [some (vp 2 0), some (vp 3 0), some (vp 4 0), some (Value.func (.func 192) #[] κC), some (κ3 L2), some (κZ L2), some (κ4 v3)] (kW ((v3 : Int) + (1 : Int)) (((v3 + 1) : Nat) : Int) Zi) (tC (tC (tC (tC (tC (tC (tC (tE)))))))) (bC (o := .ro (Zc L1) true) (show Zc L1 = Zc L1 from rfl) <| bR <| bS (κv L0) <| bS [vn] <| bS [vn] <| bS [Value.map (some 7)] <| bS [Value.func (.func 186) #[] #[]] <| bC (o := .ro (Zc ([] : List RH)) true) (show Zc ([] : List RH) = Zc ([] : List RH) from rfl) <| bE) (show 1 ∈ Zt (ZD 2) from by decide +kernel)

theorem Zib (L0 : List RJ) (L1 : List RH) (L2 : List RG) (v3 : Nat) (v5 : List Int) (v6 : List RG) (v7 : List RH) (N : Nat) : (ZH L0 L1 L2 N).Ok Tryz.prog Zs (.h2m1 v3 v5 v6 v7 : graph_objects_walkX) (Zaf L0 L1 L2 N (.h2m1 v3 v5 v6 v7 : graph_objects_walkX)) := by
 show (ZH L0 L1 L2 N).Ok Tryz.prog Zs (.h2m1 v3 v5 v6 v7 : graph_objects_walkX) (Zao L0 L1 L2 N v3 v5 v6 v7)
 unfold Zao
 refine Mach.ok_ite (fun g0 => ?_) (fun g0 => ?_)
 ·
  have w1 := kY ((v6.length : Int) > (0 : Int)) Zi
  refine Mach.ok_ite (fun g1 => ?_) (fun _ => Mach.ok_none)
  have w2 := kL RB v6 (v6.length - 1) 0 1 <| kB (v6.length - 1) v6.length <| kI (((v6.length - 1) : Nat) : Int) (Int.ofNat (v6.length - 1)) <| kW ((v6.length : Int) - (1 : Int)) (((v6.length - 1) : Nat) : Int) w1
  refine Mach.ok_ite (fun g2 => ?_) (fun _ => Mach.ok_none)
  refine Mach.ok_ite (fun g3 => ?_) (fun _ => Mach.ok_none)
  have w4 := kL RB v6 (v6.length - 1) 1 1 <| kG RD L0 ((0 + (((v6.getD (v6.length - 1) RG.z).a0).toNat * 8)) + 7) (((v6.getD (v6.length - 1) RG.z).a0).toNat) 7 1 8 <| kB ((v6.getD (v6.length - 1) RG.z).a0).toNat L0.length <| kI ((v6.getD (v6.length - 1) RG.z).a0) (Int.ofNat ((v6.getD (v6.length - 1) RG.z).a0).toNat) w2
  refine Mach.ok_ite (fun g4 => ?_) (fun g4 => ?_)
  ·
   exact Mach.okN (Zh (oq [1, 3]) [(0, (((v6.length - 1) : Nat) : Int)), (1, (((v6.length - 1) : Nat) : Int))] [(0, (v6.length - 1)), (1, ((v6.getD (v6.length - 1) RG.z).a0).toNat)] [(4, [.i (v6.getD (v6.length - 1) RG.z).a0]), (5, [(mc RB (L0.getD ((v6.getD (v6.length - 1) RG.z).a0).toNat RJ.z).a7)]), (6, [.i (v6.getD (v6.length - 1) RG.z).a1])] [(0, .sl 0 (v6.length - 1))]) (rg 0 10 []) [some (vp 2 0), some (vp 3 0), some (vp 4 0), some (Value.func (.func 192) #[] κC), some (κ3 L2), some (κZ L2), some (vi (v3 : Int))] (kX (dP (0 ≤ (v6.length - 1) ∧ (v6.length - 1) ≤ v6.length)) true (Zv ⟨ltA, ltA⟩) <| kI (((v6.length - 1) : Nat) : Int) (Int.ofNat (v6.length - 1)) <| kR 0 <| kW ((v6.length : Int) - (1 : Int)) (((v6.length - 1) : Nat) : Int) <| hT g4 w4) (tC (tC (tC (tC (tC (tC (tC (tE)))))))) (bC (o := .ro (Zc L1) true) (show Zc L1 = Zc L1 from rfl) <| bR <| bS (κv L0) <| bS [vs 7 0 v5.length v5.length] <| bU [Value.slice (some ⟨8, (0 + (0 * 2)), none⟩) ((v6.length - 1) - 0) (v6.length - 0)] 0 (show (Value.slice (some ⟨8, (0 + (0 * 2)), none⟩) ((v6.length - 1) - 0) (v6.length - 0) : Value) = vs 8 0 ((v6.length - 1) - 0) (v6.length - 0) from Z3 rfl eqA eqA) <| bS [Value.map (some 9)] <| bS [Value.func (.func 186) #[] #[]] <| bR <| bR <| bC (o := .ro (Zc v7) true) (show Zc v7 = Zc v7 from rfl) <| bE) (show 2 ∈ Zt (ZD 2) from by decide +kernel)
  ·
   have w5 := kX (ZeU (ZL 1 (List.drop ((0 + ((v6.length - 1) * 2)) + 1) (Za RB (v6.set (v6.length - 1) (⟨(v6.getD (v6.length - 1) RG.z).a0, (i64.wrap ((v6.getD (v6.length - 1) RG.z).a1 + (1 : Int)))⟩ : RG))))) [.i (i64.wrap ((v6.getD (v6.length - 1) RG.z).a1 + (1 : Int)))]) true (Zlh (E := RB) (L := (v6.set (v6.length - 1) (⟨(v6.getD (v6.length - 1) RG.z).a0, (i64.wrap ((v6.getD (v6.length - 1) RG.z).a1 + (1 : Int)))⟩ : RG))) (i := (v6.length - 1)) (q := 1) ltA (show ((0 + ((v6.length - 1) * 2)) + 1) = (v6.length - 1) * 2 + 1 from by omega) (show 1 + 1 ≤ 2 from by decide) rfl (by rw [Zol ltA]; first | done | rfl)) <| kC (Zcq (E := RB) (L := v6) (i := (v6.length - 1)) (q := 1) (l := [vi (i64.wrap ((v6.getD (v6.length - 1) RG.z).a1 + (1 : Int)))]) (⟨(v6.getD (v6.length - 1) RG.z).a0, (i64.wrap ((v6.getD (v6.length - 1) RG.z).a1 + (1 : Int)))⟩ : RG) (by omega) (show ((0 + ((v6.length - 1) * 2)) + 1) = (v6.length - 1) * 2 + 1 from by omega) (show 1 + 1 ≤ 2 from by decide) rfl) <| kL RB v6 (v6.length - 1) 1 1 <| hF g4 w4
   refine Mach.ok_ite (fun g5 => ?_) (fun _ => Mach.ok_none)
   refine Mach.ok_ite (fun g6 => ?_) (fun _ => Mach.ok_none)
   have w7 := kG RB ((L0.getD ((v6.getD (v6.length - 1) RG.z).a0).toNat RJ.z).a7) (0 + (((i64.wrap ((i64.wrap ((v6.getD (v6.length - 1) RG.z).a1 + (1 : Int))) - (1 : Int)))).toNat * 2)) (((i64.wrap ((i64.wrap ((v6.getD (v6.length - 1) RG.z).a1 + (1 : Int))) - (1 : Int)))).toNat) 0 2 2 <| kB ((i64.wrap ((i64.wrap ((v6.getD (v6.length - 1) RG.z).a1 + (1 : Int))) - (1 : Int)))).toNat (L0.getD ((v6.getD (v6.length - 1) RG.z).a0).toNat RJ.z).a7.length <| kI (i64.wrap ((i64.wrap ((v6.getD (v6.length - 1) RG.z).a1 + (1 : Int))) - (1 : Int))) (Int.ofNat ((i64.wrap ((i64.wrap ((v6.getD (v6.length - 1) RG.z).a1 + (1 : Int))) - (1 : Int)))).toNat) w5
   refine Mach.ok_bind (fun z7 c7 => ?_)
   cases z7 with
   | r0 =>
    exact Mach.okN (Zh (oq [1, 2]) [(0, (((v6.length - 1) : Nat) : Int))] [(0, (v6.length - 1)), (1, ((v6.getD (v6.length - 1) RG.z).a0).toNat), (2, ((i64.wrap ((i64.wrap ((v6.getD (v6.length - 1) RG.z).a1 + (1 : Int))) - (1 : Int)))).toNat)] [(4, [.i (v6.getD (v6.length - 1) RG.z).a0]), (5, [(mc RB (L0.getD ((v6.getD (v6.length - 1) RG.z).a0).toNat RJ.z).a7)]), (6, [.i (v6.getD (v6.length - 1) RG.z).a1]), (7, [.i (v6.getD (v6.length - 1) RG.z).a1]), (8, [.i (i64.wrap ((v6.getD (v6.length - 1) RG.z).a1 + (1 : Int)))]), (9, (RB.cel ((L0.getD ((v6.getD (v6.length - 1) RG.z).a0).toNat RJ.z).a7.getD ((i64.wrap ((i64.wrap ((v6.getD (v6.length - 1) RG.z).a1 + (1 : Int))) - (1 : Int)))).toNat RG.z)))] [(0, .st (Za RB (v6.set (v6.length - 1) (⟨(v6.getD (v6.length - 1) RG.z).a0, (i64.wrap ((v6.getD (v6.length - 1) RG.z).a1 + (1 : Int)))⟩ : RG)))), (1, (ZcX c7 [2, 5, 6, 3, 4, 0, 9, 7, 8] 10).t)]) (rg 0 10 []) [some (vp 2 0), some (vp 3 0), some (vp 4 0), some (Value.func (.func 192) #[] κC), some (κ3 L2), some (κZ L2), some (vi (v3 : Int))] (kKa (ZeL c7 [2, 5, 6, 3, 4, 0, 9, 7, 8] 10) <| kR (κv L0) <| kR [Value.map (some 9)] <| kR ([Value.func (.func 186) #[] #[]]) <| kR [vs 7 0 v5.length v5.length] <| kU [vs 8 0 (v6.set (v6.length - 1) (⟨(v6.getD (v6.length - 1) RG.z).a0, (i64.wrap ((v6.getD (v6.length - 1) RG.z).a1 + (1 : Int)))⟩ : RG)).length (v6.set (v6.length - 1) (⟨(v6.getD (v6.length - 1) RG.z).a0, (i64.wrap ((v6.getD (v6.length - 1) RG.z).a1 + (1 : Int)))⟩ : RG)).length] 0 (show (vs 8 0 v6.length v6.length : Value) = vs 8 0 (v6.set (v6.length - 1) (⟨(v6.getD (v6.length - 1) RG.z).a0, (i64.wrap ((v6.getD (v6.length - 1) RG.z).a1 + (1 : Int)))⟩ : RG)).length (v6.set (v6.length - 1) (⟨(v6.getD (v6.length - 1) RG.z).a0, (i64.wrap ((v6.getD (v6.length - 1) RG.z).a1 + (1 : Int)))⟩ : RG)).length from Z3 rfl eqA eqA) <| kX (dS (Zc L1)) true (Zv (congrArg Zc (by first | rfl | simp))) <| kX (dS (Zc v7)) true (Zv (congrArg Zc (by first | rfl | simp))) <| kR (Za eI v5) <| kR (Za RB (v6.set (v6.length - 1) (⟨(v6.getD (v6.length - 1) RG.z).a0, (i64.wrap ((v6.getD (v6.length - 1) RG.z).a1 + (1 : Int)))⟩ : RG))) w7) (tC (tC (tC (tC (tC (tC (tC (tE)))))))) (bC (o := .ro (Zc L1) true) (show Zc L1 = Zc L1 from rfl) <| bR <| bS (κv L0) <| bS [vs 7 0 v5.length v5.length] <| bU [vs 8 0 v6.length v6.length] 0 (show (vs 8 0 v6.length v6.length : Value) = vs 8 0 (v6.set (v6.length - 1) (⟨(v6.getD (v6.length - 1) RG.z).a0, (i64.wrap ((v6.getD (v6.length - 1) RG.z).a1 + (1 : Int)))⟩ : RG)).length (v6.set (v6.length - 1) (⟨(v6.getD (v6.length - 1) RG.z).a0, (i64.wrap ((v6.getD (v6.length - 1) RG.z).a1 + (1 : Int)))⟩ : RG)).length from Z3 rfl eqA eqA) <| bS [Value.map (some 9)] <| bS [Value.func (.func 186) #[] #[]] <| bR <| bR <| bC (o := .ro (Zc v7) true) (show Zc v7 = Zc v7 from rfl) <| bE) (show 2 ∈ Zt (ZD 2) from by decide +kernel)
   | r1 y7_0 y7_1 y7_2 =>
    exact Mach.okN (Zh (oq [1, 2]) [(0, (((v6.length - 1) : Nat) : Int))] [(0, (v6.length - 1)), (1, ((v6.getD (v6.length - 1) RG.z).a0).toNat), (2, ((i64.wrap ((i64.wrap ((v6.getD (v6.length - 1) RG.z).a1 + (1 : Int))) - (1 : Int)))).toNat)] [(4, [.i (v6.getD (v6.length - 1) RG.z).a0]), (5, [(mc RB (L0.getD ((v6.getD (v6.length - 1) RG.z).a0).toNat RJ.z).a7)]), (6, [.i (v6.getD (v6.length - 1) RG.z).a1]), (7, [.i (v6.getD (v6.length - 1) RG.z).a1]), (8, [.i (i64.wrap ((v6.getD (v6.length - 1) RG.z).a1 + (1 : Int)))]), (9, (RB.cel ((L0.getD ((v6.getD (v6.length - 1) RG.z).a0).toNat RJ.z).a7.getD ((i64.wrap ((i64.wrap ((v6.getD (v6.length - 1) RG.z).a1 + (1 : Int))) - (1 : Int)))).toNat RG.z)))] [(0, .st (Za RB (v6.set (v6.length - 1) (⟨(v6.getD (v6.length - 1) RG.z).a0, (i64.wrap ((v6.getD (v6.length - 1) RG.z).a1 + (1 : Int)))⟩ : RG)))), (1, (ZcY c7 [2, 5, 6, 3, 4, 0, 9, 7, 8] 10).t)]) (rg 0 7 (10 :: (11 :: [9]))) [some (vp 2 0), some (vp 3 0), some (vp 4 0), some (Value.func (.func 192) #[] κC), some (κ3 L2), some (κZ L2), some (vi (v3 : Int))] (kKa (ZeM c7 [2, 5, 6, 3, 4, 0, 9, 7, 8] 10) <| kR (κv L0) <| kR [Value.map (some 9)] <| kR ([Value.func (.func 186) #[] #[]]) <| kR [vs 7 0 v5.length v5.length] <| kU [vs 8 0 (v6.set (v6.length - 1) (⟨(v6.getD (v6.length - 1) RG.z).a0, (i64.wrap ((v6.getD (v6.length - 1) RG.z).a1 + (1 : Int)))⟩ : RG)).length (v6.set (v6.length - 1) (⟨(v6.getD (v6.length - 1) RG.z).a0, (i64.wrap ((v6.getD (v6.length - 1) RG.z).a1 + (1 : Int)))⟩ : RG)).length] 0 (show (vs 8 0 v6.length v6.length : Value) = vs 8 0 (v6.set (v6.length - 1) (⟨(v6.getD (v6.length - 1) RG.z).a0, (i64.wrap ((v6.getD (v6.length - 1) RG.z).a1 + (1 : Int)))⟩ : RG)).length (v6.set (v6.length - 1) (⟨(v6.getD (v6.length - 1) RG.z).a0, (i64.wrap ((v6.getD (v6.length - 1) RG.z).a1 + (1 : Int)))⟩ : RG)).length from Z3 rfl eqA eqA) <| kX (dS (Zc L1)) true (Zv (congrArg Zc (by first | rfl | simp))) <| kX (dS (Zc v7)) true (Zv (congrArg Zc (by first | rfl | simp))) <| kR (Za eI v5) <| kR (Za RB (v6.set (v6.length - 1) (⟨(v6.getD (v6.length - 1) RG.z).a0, (i64.wrap ((v6.getD (v6.length - 1) RG.z).a1 + (1 : Int)))⟩ : RG))) w7) (tC (tC (tC (tC (tC (tC (tC (tE)))))))) (bC (o := .ro (Zc L1) true) (show Zc L1 = Zc L1 from rfl) <| bR <| bS (κv L0) <| bS [vs 10 0 y7_1.length y7_1.length] <| bS [vs 11 0 y7_2.length y7_2.length] <| bS [Value.map (some 9)] <| bS [Value.func (.func 186) #[] #[]] <| bR <| bR <| bC (o := .ro (Zc y7_0) true) (show Zc y7_0 = Zc y7_0 from rfl) <| bE) (show 2 ∈ Zt (ZD 2) from by decide +kernel)
 ·
  refine Mach.ok_ite (fun g1 => ?_) (fun _ => Mach.ok_none)
  exact Mach.okN (Zh (oq [0]) [(0, (((v3 + 1) : Nat) : Int))] [] [] []) (rg 0 10 []) [some (vp 2 0), some (vp 3 0), some (vp 4 0), some (Value.func (.func 192) #[] κC), some (κ3 L2), some (κZ L2), some (κ4 v3)] (kW ((v3 : Int) + (1 : Int)) (((v3 + 1) : Nat) : Int) <| kN ((v6.length : Int) > (0 : Int)) Zi) (tC (tC (tC (tC (tC (tC (tC (tE)))))))) (bC (o := .ro (Zc L1) true) (show Zc L1 = Zc L1 from rfl) <| bR <| bS (κv L0) <| bS [vs 7 0 v5.length v5.length] <| bS [vs 8 0 v6.length v6.length] <| bS [Value.map (some 9)] <| bS [Value.func (.func 186) #[] #[]] <| bR <| bR <| bC (o := .ro (Zc v7) true) (show Zc v7 = Zc v7 from rfl) <| bE) (show 1 ∈ Zt (ZD 2) from by decide +kernel)

theorem Zic (L0 : List RJ) (L1 : List RH) (L2 : List RG) (v3 : Nat) (v5 : List Int) (v6 : List RG) (v7 v8 : Nat) (v9 : List RH) (N : Nat) : (ZH L0 L1 L2 N).Ok Tryz.prog Zs (.h2m2 v3 v5 v6 v7 v8 v9 : graph_objects_walkX) (Zaf L0 L1 L2 N (.h2m2 v3 v5 v6 v7 v8 v9 : graph_objects_walkX)) := by
 show (ZH L0 L1 L2 N).Ok Tryz.prog Zs (.h2m2 v3 v5 v6 v7 v8 v9 : graph_objects_walkX) (Zap L0 L1 L2 N v3 v5 v6 v7 v8 v9)
 unfold Zap
 refine Mach.ok_ite (fun g0 => ?_) (fun g0 => ?_)
 ·
  have w1 := kY ((v7 : Int) > (0 : Int)) Zi
  refine Mach.ok_ite (fun g1 => ?_) (fun _ => Mach.ok_none)
  have w2 := kB (v7 - 1) v7 <| kI (((v7 - 1) : Nat) : Int) (Int.ofNat (v7 - 1)) <| kW ((v7 : Int) - (1 : Int)) (((v7 - 1) : Nat) : Int) w1
  refine Mach.ok_ite (fun g2 => ?_) (fun _ => Mach.ok_none)
  refine Mach.ok_ite (fun g3 => ?_) (fun _ => Mach.ok_none)
  refine Mach.ok_ite (fun g4 => ?_) (fun _ => Mach.ok_none)
  have w5 := kL RB v6 (v7 - 1) 1 1 <| kG RD L0 ((0 + (((v6.getD (v7 - 1) RG.z).a0).toNat * 8)) + 7) (((v6.getD (v7 - 1) RG.z).a0).toNat) 7 1 8 <| kB ((v6.getD (v7 - 1) RG.z).a0).toNat L0.length <| kI ((v6.getD (v7 - 1) RG.z).a0) (Int.ofNat ((v6.getD (v7 - 1) RG.z).a0).toNat) <| kL RB v6 (v7 - 1) 0 1 w2
  refine Mach.ok_ite (fun g5 => ?_) (fun g5 => ?_)
  ·
   refine Mach.ok_ite (fun g6 => ?_) (fun _ => Mach.ok_none)
   exact Mach.okN (Zh (oq [1, 3]) [(0, (((v7 - 1) : Nat) : Int)), (1, (((v7 - 1) : Nat) : Int))] [(0, (v7 - 1)), (1, ((v6.getD (v7 - 1) RG.z).a0).toNat)] [(4, [.i (v6.getD (v7 - 1) RG.z).a0]), (5, [(mc RB (L0.getD ((v6.getD (v7 - 1) RG.z).a0).toNat RJ.z).a7)]), (6, [.i (v6.getD (v7 - 1) RG.z).a1])] [(0, .sl 0 (v7 - 1))]) (rg 0 10 []) [some (vp 2 0), some (vp 3 0), some (vp 4 0), some (Value.func (.func 192) #[] κC), some (κ3 L2), some (κZ L2), some (vi (v3 : Int))] (kX (dP (0 ≤ (v7 - 1) ∧ (v7 - 1) ≤ v8)) true (Zv ⟨ltA, ltA⟩) <| kI (((v7 - 1) : Nat) : Int) (Int.ofNat (v7 - 1)) <| kR 0 <| kW ((v7 : Int) - (1 : Int)) (((v7 - 1) : Nat) : Int) <| hT g5 w5) (tC (tC (tC (tC (tC (tC (tC (tE)))))))) (bC (o := .ro (Zc L1) true) (show Zc L1 = Zc L1 from rfl) <| bR <| bS (κv L0) <| bS [vs 7 0 v5.length v5.length] <| bU [Value.slice (some ⟨8, (0 + (0 * 2)), none⟩) ((v7 - 1) - 0) (v8 - 0)] 0 (show (Value.slice (some ⟨8, (0 + (0 * 2)), none⟩) ((v7 - 1) - 0) (v8 - 0) : Value) = vs 8 0 ((v7 - 1) - 0) (v8 - 0) from Z3 rfl eqA eqA) <| bS [Value.map (some 9)] <| bS [Value.func (.func 186) #[] #[]] <| bR <| bR <| bC (o := .ro (Zc v9) true) (show Zc v9 = Zc v9 from rfl) <| bE) (show 2 ∈ Zt (ZD 2) from by decide +kernel)
  ·
   have w6 := kX (ZeU (ZL 1 (List.drop ((0 + ((v7 - 1) * 2)) + 1) (Za RB (v6.set (v7 - 1) (⟨(v6.getD (v7 - 1) RG.z).a0, (i64.wrap ((v6.getD (v7 - 1) RG.z).a1 + (1 : Int)))⟩ : RG))))) [.i (i64.wrap ((v6.getD (v7 - 1) RG.z).a1 + (1 : Int)))]) true (Zlh (E := RB) (L := (v6.set (v7 - 1) (⟨(v6.getD (v7 - 1) RG.z).a0, (i64.wrap ((v6.getD (v7 - 1) RG.z).a1 + (1 : Int)))⟩ : RG))) (i := (v7 - 1)) (q := 1) ltA (show ((0 + ((v7 - 1) * 2)) + 1) = (v7 - 1) * 2 + 1 from by omega) (show 1 + 1 ≤ 2 from by decide) rfl (by rw [Zol ltA]; first | done | rfl)) <| kC (Zcq (E := RB) (L := v6) (i := (v7 - 1)) (q := 1) (l := [vi (i64.wrap ((v6.getD (v7 - 1) RG.z).a1 + (1 : Int)))]) (⟨(v6.getD (v7 - 1) RG.z).a0, (i64.wrap ((v6.getD (v7 - 1) RG.z).a1 + (1 : Int)))⟩ : RG) (by omega) (show ((0 + ((v7 - 1) * 2)) + 1) = (v7 - 1) * 2 + 1 from by omega) (show 1 + 1 ≤ 2 from by decide) rfl) <| kL RB v6 (v7 - 1) 1 1 <| hF g5 w5
   refine Mach.ok_ite (fun g6 => ?_) (fun _ => Mach.ok_none)
   refine Mach.ok_ite (fun g7 => ?_) (fun _ => Mach.ok_none)
   have w8 := kG RB ((L0.getD ((v6.getD (v7 - 1) RG.z).a0).toNat RJ.z).a7) (0 + (((i64.wrap ((i64.wrap ((v6.getD (v7 - 1) RG.z).a1 + (1 : Int))) - (1 : Int)))).toNat * 2)) (((i64.wrap ((i64.wrap ((v6.getD (v7 - 1) RG.z).a1 + (1 : Int))) - (1 : Int)))).toNat) 0 2 2 <| kB ((i64.wrap ((i64.wrap ((v6.getD (v7 - 1) RG.z).a1 + (1 : Int))) - (1 : Int)))).toNat (L0.getD ((v6.getD (v7 - 1) RG.z).a0).toNat RJ.z).a7.length <| kI (i64.wrap ((i64.wrap ((v6.getD (v7 - 1) RG.z).a1 + (1 : Int))) - (1 : Int))) (Int.ofNat ((i64.wrap ((i64.wrap ((v6.getD (v7 - 1) RG.z).a1 + (1 : Int))) - (1 : Int)))).toNat) w6
   refine Mach.ok_bind (fun z8 c8 => ?_)
   cases z8 with
   | r0 =>
    exact Mach.okN (Zh (oq [1, 2]) [(0, (((v7 - 1) : Nat) : Int))] [(0, (v7 - 1)), (1, ((v6.getD (v7 - 1) RG.z).a0).toNat), (2, ((i64.wrap ((i64.wrap ((v6.getD (v7 - 1) RG.z).a1 + (1 : Int))) - (1 : Int)))).toNat)] [(4, [.i (v6.getD (v7 - 1) RG.z).a0]), (5, [(mc RB (L0.getD ((v6.getD (v7 - 1) RG.z).a0).toNat RJ.z).a7)]), (6, [.i (v6.getD (v7 - 1) RG.z).a1]), (7, [.i (v6.getD (v7 - 1) RG.z).a1]), (8, [.i (i64.wrap ((v6.getD (v7 - 1) RG.z).a1 + (1 : Int)))]), (9, (RB.cel ((L0.getD ((v6.getD (v7 - 1) RG.z).a0).toNat RJ.z).a7.getD ((i64.wrap ((i64.wrap ((v6.getD (v7 - 1) RG.z).a1 + (1 : Int))) - (1 : Int)))).toNat RG.z)))] [(0, .st (Za RB (v6.set (v7 - 1) (⟨(v6.getD (v7 - 1) RG.z).a0, (i64.wrap ((v6.getD (v7 - 1) RG.z).a1 + (1 : Int)))⟩ : RG)))), (1, (ZcZ c8 [2, 5, 6, 3, 4, 0, 9, 7, 8] 10).t)]) (rg 0 10 []) [some (vp 2 0), some (vp 3 0), some (vp 4 0), some (Value.func (.func 192) #[] κC), some (κ3 L2), some (κZ L2), some (vi (v3 : Int))] (kK (ZeO c8 [2, 5, 6, 3, 4, 0, 9, 7, 8] 10) w8) (tC (tC (tC (tC (tC (tC (tC (tE)))))))) (bC (o := .ro (Zc L1) true) (show Zc L1 = Zc L1 from rfl) <| bR <| bS (κv L0) <| bS [vs 7 0 v5.length v5.length] <| bS [vs 8 0 v7 v8] <| bS [Value.map (some 9)] <| bS [Value.func (.func 186) #[] #[]] <| bR <| bR <| bC (o := .ro (Zc v9) true) (show Zc v9 = Zc v9 from rfl) <| bE) (show 2 ∈ Zt (ZD 2) from by decide +kernel)
   | r1 y8_0 y8_1 y8_2 =>
    exact Mach.okN (Zh (oq [1, 2]) [(0, (((v7 - 1) : Nat) : Int))] [(0, (v7 - 1)), (1, ((v6.getD (v7 - 1) RG.z).a0).toNat), (2, ((i64.wrap ((i64.wrap ((v6.getD (v7 - 1) RG.z).a1 + (1 : Int))) - (1 : Int)))).toNat)] [(4, [.i (v6.getD (v7 - 1) RG.z).a0]), (5, [(mc RB (L0.getD ((v6.getD (v7 - 1) RG.z).a0).toNat RJ.z).a7)]), (6, [.i (v6.getD (v7 - 1) RG.z).a1]), (7, [.i (v6.getD (v7 - 1) RG.z).a1]), (8, [.i (i64.wrap ((v6.getD (v7 - 1) RG.z).a1 + (1 : Int)))]), (9, (RB.cel ((L0.getD ((v6.getD (v7 - 1) RG.z).a0).toNat RJ.z).a7.getD ((i64.wrap ((i64.wrap ((v6.getD (v7 - 1) RG.z).a1 + (1 : Int))) - (1 : Int)))).toNat RG.z)))] [(0, .st (Za RB (v6.set (v7 - 1) (⟨(v6.getD (v7 - 1) RG.z).a0, (i64.wrap ((v6.getD (v7 - 1) RG.z).a1 + (1 : Int)))⟩ : RG)))), (1, (Zda c8 [2, 5, 6, 3, 4, 0, 9, 7, 8] 10).t)]) (rg 0 7 (10 :: (8 :: [9]))) [some (vp 2 0), some (vp 3 0), some (vp 4 0), some (Value.func (.func 192) #[] κC), some (κ3 L2), some (κZ L2), some (vi (v3 : Int))] (kK (ZeP c8 [2, 5, 6, 3, 4, 0, 9, 7, 8] 10) w8) (tC (tC (tC (tC (tC (tC (tC (tE)))))))) (bC (o := .ro (Zc L1) true) (show Zc L1 = Zc L1 from rfl) <| bR <| bS (κv L0) <| bS [vs 10 0 y8_2.length y8_2.length] <| bS [vs 8 0 (v7 + 1) v8] <| bS [Value.map (some 9)] <| bS [Value.func (.func 186) #[] #[]] <| bR <| bR <| bC (o := .ro (Zc y8_0) true) (show Zc y8_0 = Zc y8_0 from rfl) <| bE) (show 2 ∈ Zt (ZD 2) from by decide +kernel)
   | r2 y8_0 y8_1 y8_2 =>
    exact Mach.okN (Zh (oq [1, 2]) [(0, (((v7 - 1) : Nat) : Int))] [(0, (v7 - 1)), (1, ((v6.getD (v7 - 1) RG.z).a0).toNat), (2, ((i64.wrap ((i64.wrap ((v6.getD (v7 - 1) RG.z).a1 + (1 : Int))) - (1 : Int)))).toNat)] [(4, [.i (v6.getD (v7 - 1) RG.z).a0]), (5, [(mc RB (L0.getD ((v6.getD (v7 - 1) RG.z).a0).toNat RJ.z).a7)]), (6, [.i (v6.getD (v7 - 1) RG.z).a1]), (7, [.i (v6.getD (v7 - 1) RG.z).a1]), (8, [.i (i64.wrap ((v6.getD (v7 - 1) RG.z).a1 + (1 : Int)))]), (9, (RB.cel ((L0.getD ((v6.getD (v7 - 1) RG.z).a0).toNat RJ.z).a7.getD ((i64.wrap ((i64.wrap ((v6.getD (v7 - 1) RG.z).a1 + (1 : Int))) - (1 : Int)))).toNat RG.z)))] [(0, .st (Za RB (v6.set (v7 - 1) (⟨(v6.getD (v7 - 1) RG.z).a0, (i64.wrap ((v6.getD (v7 - 1) RG.z).a1 + (1 : Int)))⟩ : RG)))), (1, (Zdb c8 [2, 5, 6, 3, 4, 0, 9, 7, 8] 10).t)]) (rg 0 7 (10 :: (11 :: [9]))) [some (vp 2 0), some (vp 3 0), some (vp 4 0), some (Value.func (.func 192) #[] κC), some (κ3 L2), some (κZ L2), some (vi (v3 : Int))] (kK (ZeQ c8 [2, 5, 6, 3, 4, 0, 9, 7, 8] 10) w8) (tC (tC (tC (tC (tC (tC (tC (tE)))))))) (bC (o := .ro (Zc L1) true) (show Zc L1 = Zc L1 from rfl) <| bR <| bS (κv L0) <| bS [vs 10 0 y8_1.length y8_1.length] <| bS [vs 11 0 y8_2.length y8_2.length] <| bS [Value.map (some 9)] <| bS [Value.func (.func 186) #[] #[]] <| bR <| bR <| bC (o := .ro (Zc y8_0) true) (show Zc y8_0 = Zc y8_0 from rfl) <| bE) (show 2 ∈ Zt (ZD 2) from by decide +kernel)
 ·
  refine Mach.ok_ite (fun g1 => ?_) (fun _ => Mach.ok_none)
  exact Mach.okN (Zh (oq [0]) [(0, (((v3 + 1) : Nat) : Int))] [] [] []) (rg 0 10 []) [some (vp 2 0), some (vp 3 0), some (vp 4 0), some (Value.func (.func 192) #[] κC), some (κ3 L2), some (κZ L2), some (κ4 v3)] (kW ((v3 : Int) + (1 : Int)) (((v3 + 1) : Nat) : Int) <| kN ((v7 : Int) > (0 : Int)) Zi) (tC (tC (tC (tC (tC (tC (tC (tE)))))))) (bC (o := .ro (Zc L1) true) (show Zc L1 = Zc L1 from rfl) <| bR <| bS (κv L0) <| bS [vs 7 0 v5.length v5.length] <| bS [vs 8 0 v7 v8] <| bS [Value.map (some 9)] <| bS [Value.func (.func 186) #[] #[]] <| bR <| bR <| bC (o := .ro (Zc v9) true) (show Zc v9 = Zc v9 from rfl) <| bE) (show 1 ∈ Zt (ZD 2) from by decide +kernel)

noncomputable abbrev κ9 := (vi ((0 : Nat) : Int) : Value)
theorem Zj3 (L0 : List RJ) (L1 : List RH) (L2 : List RG) (N : Nat) : (ZH L0 L1 L2 N).Enter Tryz.prog Zs #[Value.agg (κR L0), vs 1 0 L2.length L2.length, Value.func (.func 186) #[] #[]] (Zee L0 L1 L2 N) := by
 unfold Zee
 exact Mach.enH (Zu 1) (Zh (oq []) [] [] [] []) [0, 1, 2, 4, 7, 6, 3, 5] [some (vp 2 0), some (vp 4 0), some (vp 7 0), some (Value.func (.func 192) #[] #[vp 2 0, vp 6 0, vp 3 0, vp 4 0, vp 7 0]), some (κ3 L2), some (κZ L2), some (vq)] Zi (tC (tC (tC (tC (tC (tC (tC (tE) ⟨Eq.trans (show κ9 = vq from (congrArg (Value.int .i64) (by first | rfl | omega))) (by rfl), by rfl⟩))))))) (bC (o := .ro (Zc L1) true) (show Zc L1 = Zc L1 from rfl) <| bR <| bS (κv L0) <| bS [vn] <| bS [vn] <| bS [Value.map (some 5)] <| bS [Value.func (.func 186) #[] #[]] <| bC (o := .ro (Zc ([] : List RH)) true) (show Zc ([] : List RH) = Zc ([] : List RH) from rfl) <| bE) (show Zt (Zu 1).2 = [] from rfl)

theorem Zff (L0 : List RJ) (L1 : List RH) (L2 : List RG) (N : Nat) (r : ZC) (h : Zbq L0 L1 L2 N = some r) : LSpec Tryz.prog 185 #[Value.agg (κR L0), vs 1 0 L2.length L2.length, Value.func (.func 186) #[] #[]] [.ro (Zc L1) true, .cells (Za RB L2) 42] (Zgu L0 L1 L2 r) (Zgi L0 L1 L2 r) :=
 Mach.spec Zau (ZH L0 L1 L2 N) Tryz.func185 (by kernel_rfl) (by kernel_rfl) (fun x => by cases x <;> exact ZG _ rfl) (fun r => by cases r <;> exact ZG _ rfl) (fun x => by
  cases x with
  | h1m0 _ => exact fun _ => (show ¬ (1 ∈ Zt (Zu 1).2) from by decide +kernel)
  | h1m1 _ _ _ _ => exact fun _ => (show ¬ (1 ∈ Zt (Zu 1).2) from by decide +kernel)
  | h1m2 _ _ _ _ _ _ => exact fun _ => (show ¬ (1 ∈ Zt (Zu 1).2) from by decide +kernel)
  | h2m0 _ => exact fun _ => (show ¬ (2 ∈ Zt (Zu 2).2) from by decide +kernel)
  | h2m1 _ _ _ _ => exact fun _ => (show ¬ (2 ∈ Zt (Zu 2).2) from by decide +kernel)
  | h2m2 _ _ _ _ _ _ => exact fun _ => (show ¬ (2 ∈ Zt (Zu 2).2) from by decide +kernel)
  ) (fun x => (show (ZH L0 L1 L2 N).Ok Tryz.prog Zs x (Zaf L0 L1 L2 N x) from by
  cases x with
  | h1m0 v3 => exact ZhX L0 L1 L2 v3 N
  | h1m1 v3 v5 v6 v7 => exact ZhY L0 L1 L2 v3 v5 v6 v7 N
  | h1m2 v3 v5 v6 v7 v8 v9 => exact ZhZ L0 L1 L2 v3 v5 v6 v7 v8 v9 N
  | h2m0 v3 => exact Zia L0 L1 L2 v3 N
  | h2m1 v3 v5 v6 v7 => exact Zib L0 L1 L2 v3 v5 v6 v7 N
  | h2m2 v3 v5 v6 v7 v8 v9 => exact Zic L0 L1 L2 v3 v5 v6 v7 v8 v9 N
  )) (Zj3 L0 L1 L2 N) (n := N) h

noncomputable def Zgk {L0 : List RJ} {L1 : List RH} {L2 : List RG} {N : Nat} (h : Zbq L0 L1 L2 N = some (.r0)) (ks : List Nat) (n : Nat) : ToldS := ⟨#[Value.agg #[ms RD L0, Value.map (some (nth ks 0))], vs (nth ks 1) 0 L2.length L2.length, Value.func (.func 186) #[] #[]], [((nth ks 0), .ro (Zc L1) true), ((nth ks 1), .cells (Za RB L2) 42)], vn, [], 0⟩

theorem Zkd {L0 : List RJ} {L1 : List RH} {L2 : List RG} {N : Nat} (h : Zbq L0 L1 L2 N = some (.r0)) (ks : List Nat) (n : Nat) (hk : ks.length = 2 := by rfl) (hnd : ks.Nodup := by decide +kernel) (hlt : ∀ k ∈ ks, k < n := by decide +kernel) : (Zgk (N := N)  h ks n).P Tryz.prog 185 n :=
 match ks, hk, hnd, hlt with
 | [k0, k1], _, hnd, hlt => Za7 (show LSpec Tryz.prog 185 #[Value.agg (κR L0), vs 1 0 L2.length L2.length, Value.func (.func 186) #[] #[]] [.ro (Zc L1) true, .cells (Za RB L2) 42] (vn) [some (.ro (Zc L1) true), some (κK L2)] from Zff L0 L1 L2 N _ h) _ n [] hnd hlt

noncomputable def Zei {L0 : List RJ} {L1 : List RH} {L2 : List RG} {w2 : List Int} {N : Nat} (h : Zbq L0 L1 L2 N = some (.r1 w2)) (ks : List Nat) (n : Nat) : ToldS := ⟨#[Value.agg #[ms RD L0, Value.map (some (nth ks 0))], vs (nth ks 1) 0 L2.length L2.length, Value.func (.func 186) #[] #[]], [((nth ks 0), .ro (Zc L1) true), ((nth ks 1), .cells (Za RB L2) 42)], vs n 0 w2.length w2.length, [(n, some (.cells (Za eI w2) 3))], 1⟩

theorem Zke {L0 : List RJ} {L1 : List RH} {L2 : List RG} {w2 : List Int} {N : Nat} (h : Zbq L0 L1 L2 N = some (.r1 w2)) (ks : List Nat) (n : Nat) (hk : ks.length = 2 := by rfl) (hnd : ks.Nodup := by decide +kernel) (hlt : ∀ k ∈ ks, k < n := by decide +kernel) : (Zei (N := N)  h ks n).P Tryz.prog 185 n :=
 match ks, hk, hnd, hlt with
 | [k0, k1], _, hnd, hlt => Za7 (show LSpec Tryz.prog 185 #[Value.agg (κR L0), vs 1 0 L2.length L2.length, Value.func (.func 186) #[] #[]] [.ro (Zc L1) true, .cells (Za RB L2) 42] (vs 2 0 w2.length w2.length) [some (.ro (Zc L1) true), some (κK L2), some (.cells (Za eI w2) 3)] from Zff L0 L1 L2 N _ h) _ n [2] hnd hlt

noncomputable def Zgv (L0 : List RJ) (L1 : List RH) : Za8 → Value
 | .r0 => vn
noncomputable def Zgl (L0 : List RJ) (L1 : List RH) : Za8 → List (Option AObj)
 | .r0 => [some (.ro (Zc L1) true)]

def Zkf : graph_objects_refsX → Nat
 | .h1m0 => 1
noncomputable def Zk5 (L0 : List RJ) (L1 : List RH) : graph_objects_refsX → List (Nat × Value)
 | .h1m0 => [(2, vp 1 0), (5, vn), (8, vn), (9, vq), (10, vq)]
noncomputable def Zk6 (L0 : List RJ) (L1 : List RH) : graph_objects_refsX → List (Option AObj)
 | .h1m0 => [some (.ro (Zc L1) true), some (.cells (κv L0) 272)]

noncomputable def Zdh : Nat → Code × List ZaI
 | 1 => ZbB [1, 1, 0, 1, 3] (ZcG Tryz.f184) []
 | _ => (.skip, [])
def Zkg : Nat → Bool
 | 1 => true
 | _ => true
noncomputable def Zcm (L0 : List RJ) (L1 : List RH) (N : Nat) : Mach := ⟨Tryz.f184, [.ro (Zc L1) true], graph_objects_refsX, Za8, Zcx L0 L1 N, Zkf, Zdh, Zkg, Zk5 L0 L1, Zk6 L0 L1, Zgv L0 L1, Zgl L0 L1⟩

theorem Zid (L0 : List RJ) (L1 : List RH) (N : Nat) : (Zcm L0 L1 N).Ok Tryz.prog Zs (.h1m0 : graph_objects_refsX) (Zcx L0 L1 N (.h1m0 : graph_objects_refsX)) := by
 show (Zcm L0 L1 N).Ok Tryz.prog Zs (.h1m0 : graph_objects_refsX) (Zdl L0 L1 N)
 unfold Zdl
 exact Mach.okF (Zh (oq []) [] [] [] []) [0] (vn) Zi (bC (o := .ro (Zc L1) true) (show Zc L1 = Zc L1 from rfl) <| bE)

theorem Zj4 (L0 : List RJ) (L1 : List RH) (N : Nat) : (Zcm L0 L1 N).Enter Tryz.prog Zs #[Value.agg (κR L0), vn] (Zef L0 L1 N) := by
 unfold Zef
 exact Mach.enH (Zdh 1) (Zh (oq []) [] [] [] []) [0, 1] [some (vp 1 0), some (vn), some (vn), some (vq), some (vq)] Zi (tC (tC (tC (tC (tC (tE)))))) (bC (o := .ro (Zc L1) true) (show Zc L1 = Zc L1 from rfl) <| bS (κv L0) <| bE) (show Zt (Zdh 1).2 = [] from rfl)

theorem Ziq (L0 : List RJ) (L1 : List RH) (N : Nat) (r : Za8) (h : Zc0 L0 L1 N = some r) : LSpec Tryz.prog 184 #[Value.agg (κR L0), vn] [.ro (Zc L1) true] (Zgv L0 L1 r) (Zgl L0 L1 r) :=
 Mach.spec Zau (Zcm L0 L1 N) Tryz.func184 (by kernel_rfl) (by kernel_rfl) (fun x => by cases x <;> exact ZG _ rfl) (fun r => by cases r <;> exact ZG _ rfl) (fun x => by
  cases x with
  | h1m0 => exact fun _ => (show ¬ (1 ∈ Zt (Zdh 1).2) from by decide +kernel)
  ) (fun x => (show (Zcm L0 L1 N).Ok Tryz.prog Zs x (Zcx L0 L1 N x) from by
  cases x with
  | h1m0 => exact Zid L0 L1 N
  )) (Zj4 L0 L1 N) (n := N) h

noncomputable def Zgm {L0 : List RJ} {L1 : List RH} {N : Nat} (h : Zc0 L0 L1 N = some (.r0)) (ks : List Nat) (n : Nat) : ToldS := ⟨#[Value.agg #[ms RD L0, Value.map (some (nth ks 0))], vn], [((nth ks 0), .ro (Zc L1) true)], vn, [], 0⟩

theorem Zkh {L0 : List RJ} {L1 : List RH} {N : Nat} (h : Zc0 L0 L1 N = some (.r0)) (ks : List Nat) (n : Nat) (hk : ks.length = 1 := by rfl) (hnd : ks.Nodup := by decide +kernel) (hlt : ∀ k ∈ ks, k < n := by decide +kernel) : (Zgm (N := N)  h ks n).P Tryz.prog 184 n :=
 match ks, hk, hnd, hlt with
 | [k0], _, hnd, hlt => Za7 (show LSpec Tryz.prog 184 #[Value.agg (κR L0), vn] [.ro (Zc L1) true] (vn) [some (.ro (Zc L1) true)] from Ziq L0 L1 N _ h) _ n [] hnd hlt

end Ev
end Go.Proofs.YtiijipocjellpaaGreat
namespace Go.Proofs.YtiijipocjellpaaGreat
open Go.RowKit
namespace Ev
set_option linter.unusedVariables false
set_option maxRecDepth 100000
set_option maxHeartbeats 4000000
noncomputable def ZfO (L0 : List RJ) (L1 : List RH) (L2 : List Int) : Zac → Value
 | .r0 => vn
 | .r1 w2 => vs 2 0 w2.length w2.length
noncomputable def Zfw (L0 : List RJ) (L1 : List RH) (L2 : List Int) : Zac → List (Option AObj)
 | .r0 => [some (.ro (Zc L1) true), some (.cells (Za eI L2) 3)]
 | .r1 w2 => [some (.ro (Zc L1) true), some (.cells (Za eI L2) 3), some (.cells (Za RB w2) 42)]

def ZiW : Z1 → Nat
 | .h1m0 => 1
 | .h1m1 v2 v4 => 1
noncomputable def Zj5 (L0 : List RJ) (L1 : List RH) (L2 : List Int) : Z1 → List (Nat × Value)
 | .h1m0 => [(2, vp 2 0), (5, vn), (8, vs 1 0 L2.length L2.length), (9, vi (L2.length : Int)), (10, vq)]
 | .h1m1 v2 v4 => [(2, vp 2 0), (5, vs 3 0 v2.length v2.length), (8, vs 1 0 L2.length L2.length), (9, vi (L2.length : Int)), (10, vi (v4 : Int))]
noncomputable def Zj6 (L0 : List RJ) (L1 : List RH) (L2 : List Int) : Z1 → List (Option AObj)
 | .h1m0 => [some (.ro (Zc L1) true), some (.cells (Za eI L2) 3), some (.cells (κv L0) 272)]
 | .h1m1 v2 v4 => [some (.ro (Zc L1) true), some (.cells (Za eI L2) 3), some (.cells (κv L0) 272), some (.cells (Za RB v2) 42)]

noncomputable def ZaV : Nat → Code × List ZaI
 | 1 => ZbB [1, 1, 0, 1, 3] (ZcG Tryz.f184) []
 | _ => (.skip, [])
def Zfx : Nat → Bool
 | 1 => true
 | _ => true
noncomputable def ZfP (i : Nat) : List ZaI := match Zfx i with | true => .rnd i :: (ZaV i).2 | false => (ZaV i).2

noncomputable def ZaW (L0 : List RJ) (L1 : List RH) (L2 : List Int) (N : Nat) : Mach := ⟨Tryz.f184, [.ro (Zc L1) true, .cells (Za eI L2) 3], Z1, Zac, Za5 L0 L1 L2 N, ZiW, ZaV, Zfx, Zj5 L0 L1 L2, Zj6 L0 L1 L2, ZfO L0 L1 L2, Zfw L0 L1 L2⟩

theorem Zhc (L0 : List RJ) (L1 : List RH) (L2 : List Int) (N : Nat) : (ZaW L0 L1 L2 N).Ok Tryz.prog Zs (.h1m0 : Z1) (Za5 L0 L1 L2 N (.h1m0 : Z1)) := by
 show (ZaW L0 L1 L2 N).Ok Tryz.prog Zs (.h1m0 : Z1) (Zaz L0 L1 L2 N)
 unfold Zaz
 refine Mach.ok_ite (fun g0 => ?_) (fun g0 => ?_)
 ·
  refine Mach.ok_ite (fun g1 => ?_) (fun _ => Mach.ok_none)
  refine Mach.ok_ite (fun g2 => ?_) (fun _ => Mach.ok_none)
  exact Mach.okN (Zh (oq [1]) [] [(0, 0), (1, ((L2.getD 0 0)).toNat)] [(0, [.i (L2.getD 0 0)]), (2, [.i (L0.getD ((L2.getD 0 0)).toNat RJ.z).a0, .i (L0.getD ((L2.getD 0 0)).toNat RJ.z).a1])] []) [0, 1, 2, 4] [some (vp 2 0), some (vs 4 0 1 1), some (vs 1 0 L2.length L2.length), some (vi (L2.length : Int)), some (vi (1 : Int))] (kG RD L0 ((0 + (((L2.getD 0 0)).toNat * 8)) + 0) (((L2.getD 0 0)).toNat) 0 2 8 <| kB ((L2.getD 0 0)).toNat L0.length <| kI (L2.getD 0 0) (Int.ofNat ((L2.getD 0 0)).toNat) <| kLn eI L2 0 0 1 <| kB 0 L2.length <| kI (0 : Int) (Int.ofNat 0) <| hY g0 Zi) (tC (tC (tC (tC (tC (tE) ⟨Eq.trans (show (vi ((1 : Nat) : Int) : Value) = vi (1 : Int) from (congrArg (Value.int .i64) (by first | rfl | omega))) (by rfl), by rfl⟩))) ⟨Eq.trans (show (vs 3 0 ([(⟨(L0.getD ((L2.getD 0 0)).toNat RJ.z).a0, (L0.getD ((L2.getD 0 0)).toNat RJ.z).a1⟩ : RG)] : List RG).length ([(⟨(L0.getD ((L2.getD 0 0)).toNat RJ.z).a0, (L0.getD ((L2.getD 0 0)).toNat RJ.z).a1⟩ : RG)] : List RG).length : Value) = vs 3 0 1 1 from (Z3 rfl eqA eqA)) (by rfl), by rfl⟩)) (bC (o := .ro (Zc L1) true) (show Zc L1 = Zc L1 from rfl) <| bR <| bS (κv L0) <| bC (o := .cells [vi (L0.getD ((L2.getD 0 0)).toNat RJ.z).a0, vi (L0.getD ((L2.getD 0 0)).toNat RJ.z).a1] 42) (Zcc (E := RB) _ (L := ([(⟨(L0.getD ((L2.getD 0 0)).toNat RJ.z).a0, (L0.getD ((L2.getD 0 0)).toNat RJ.z).a1⟩ : RG)] : List RG)) _ (show ([vi (L0.getD ((L2.getD 0 0)).toNat RJ.z).a0, vi (L0.getD ((L2.getD 0 0)).toNat RJ.z).a1] : List Value) = Za RB ([(⟨(L0.getD ((L2.getD 0 0)).toNat RJ.z).a0, (L0.getD ((L2.getD 0 0)).toNat RJ.z).a1⟩ : RG)] : List RG) from rfl)) <| bE) (show 1 ∈ Zt (ZfP 1) from by decide +kernel)
 ·
  exact Mach.okF (Zh (oq [0]) [] [] [] []) [0, 1] (vn) (hN g0 Zi) (bC (o := .ro (Zc L1) true) (show Zc L1 = Zc L1 from rfl) <| bR <| bE)

theorem Zhd (L0 : List RJ) (L1 : List RH) (L2 : List Int) (v2 : List RG) (v4 N : Nat) : (ZaW L0 L1 L2 N).Ok Tryz.prog Zs (.h1m1 v2 v4 : Z1) (Za5 L0 L1 L2 N (.h1m1 v2 v4 : Z1)) := by
 show (ZaW L0 L1 L2 N).Ok Tryz.prog Zs (.h1m1 v2 v4 : Z1) (Za0 L0 L1 L2 N v2 v4)
 unfold Za0
 refine Mach.ok_ite (fun g0 => ?_) (fun g0 => ?_)
 ·
  refine Mach.ok_ite (fun g1 => ?_) (fun _ => Mach.ok_none)
  refine Mach.ok_ite (fun g2 => ?_) (fun _ => Mach.ok_none)
  refine Mach.ok_ite (fun g3 => ?_) (fun _ => Mach.ok_none)
  refine Mach.ok_ite (fun g4 => ?_) (fun _ => Mach.ok_none)
  exact Mach.okN (Zh (oq [1]) [(0, (((v4 + 1) : Nat) : Int))] [(0, v4), (1, ((L2.getD v4 0)).toNat)] [(0, [.i (L2.getD v4 0)]), (2, [.i (L0.getD ((L2.getD v4 0)).toNat RJ.z).a0, .i (L0.getD ((L2.getD v4 0)).toNat RJ.z).a1])] [(0, .ap 1 [vi (L0.getD ((L2.getD v4 0)).toNat RJ.z).a0, vi (L0.getD ((L2.getD v4 0)).toNat RJ.z).a1] (Za RB (v2 ++ ([(⟨(L0.getD ((L2.getD v4 0)).toNat RJ.z).a0, (L0.getD ((L2.getD v4 0)).toNat RJ.z).a1⟩ : RG)] : List RG))))]) [0, 1, 2, 5] [some (vp 2 0), some (vs 5 0 (v2.length + 1) (v2.length + 1)), some (vs 1 0 L2.length L2.length), some (vi (L2.length : Int)), some (vi (((v4 + 1) : Nat) : Int))] (kW ((v4 : Int) + (1 : Int)) (((v4 + 1) : Nat) : Int) <| kA RB v2 (⟨(L0.getD ((L2.getD v4 0)).toNat RJ.z).a0, (L0.getD ((L2.getD v4 0)).toNat RJ.z).a1⟩ : RG) <| kG RD L0 ((0 + (((L2.getD v4 0)).toNat * 8)) + 0) (((L2.getD v4 0)).toNat) 0 2 8 <| kB ((L2.getD v4 0)).toNat L0.length <| kI (L2.getD v4 0) (Int.ofNat ((L2.getD v4 0)).toNat) <| kLn eI L2 v4 0 1 <| kB v4 L2.length <| kI (v4 : Int) (Int.ofNat v4) <| hY g0 Zi) (tC (tC (tC (tC (tC (tE)))) ⟨Eq.trans (show (vs 3 0 (v2 ++ ([(⟨(L0.getD ((L2.getD v4 0)).toNat RJ.z).a0, (L0.getD ((L2.getD v4 0)).toNat RJ.z).a1⟩ : RG)] : List RG)).length (v2 ++ ([(⟨(L0.getD ((L2.getD v4 0)).toNat RJ.z).a0, (L0.getD ((L2.getD v4 0)).toNat RJ.z).a1⟩ : RG)] : List RG)).length : Value) = vs 3 0 (v2.length + 1) (v2.length + 1) from (Z3 rfl eqA eqA)) (by rfl), by rfl⟩)) (bC (o := .ro (Zc L1) true) (show Zc L1 = Zc L1 from rfl) <| bR <| bS (κv L0) <| bR <| bE) (show 1 ∈ Zt (ZfP 1) from by decide +kernel)
 ·
  exact Mach.okF (Zh (oq [0]) [] [] [] []) [0, 1, 3] (vs 3 0 v2.length v2.length) (hN g0 Zi) (bC (o := .ro (Zc L1) true) (show Zc L1 = Zc L1 from rfl) <| bR <| bR <| bE)

theorem Zir (L0 : List RJ) (L1 : List RH) (L2 : List Int) (N : Nat) : (ZaW L0 L1 L2 N).Enter Tryz.prog Zs #[Value.agg (κR L0), vs 1 0 L2.length L2.length] (Zd3 L0 L1 L2 N) := by
 unfold Zd3
 exact Mach.enH (ZaV 1) (Zh (oq []) [] [] [] []) [0, 1, 2] [some (vp 2 0), some (vn), some (vs 1 0 L2.length L2.length), some (vi (L2.length : Int)), some (vq)] Zi (tC (tC (tC (tC (tC (tE)))))) (bC (o := .ro (Zc L1) true) (show Zc L1 = Zc L1 from rfl) <| bR <| bS (κv L0) <| bE) (show Zt (ZaV 1).2 = [] from rfl)

theorem Ze2 (L0 : List RJ) (L1 : List RH) (L2 : List Int) (N : Nat) (r : Zac) (h : Za1 L0 L1 L2 N = some r) : LSpec Tryz.prog 184 #[Value.agg (κR L0), vs 1 0 L2.length L2.length] [.ro (Zc L1) true, .cells (Za eI L2) 3] (ZfO L0 L1 L2 r) (Zfw L0 L1 L2 r) :=
 Mach.spec Zau (ZaW L0 L1 L2 N) Tryz.func184 (by kernel_rfl) (by kernel_rfl) (fun x => by cases x <;> exact ZG _ rfl) (fun r => by cases r <;> exact ZG _ rfl) (fun x => by
  cases x with
  | h1m0 => exact fun _ => (show ¬ (1 ∈ Zt (ZaV 1).2) from by decide +kernel)
  | h1m1 _ _ => exact fun _ => (show ¬ (1 ∈ Zt (ZaV 1).2) from by decide +kernel)
  ) (fun x => (show (ZaW L0 L1 L2 N).Ok Tryz.prog Zs x (Za5 L0 L1 L2 N x) from by
  cases x with
  | h1m0 => exact Zhc L0 L1 L2 N
  | h1m1 v2 v4 => exact Zhd L0 L1 L2 v2 v4 N
  )) (Zir L0 L1 L2 N) (n := N) h

noncomputable def Zfy {L0 : List RJ} {L1 : List RH} {L2 : List Int} {N : Nat} (h : Za1 L0 L1 L2 N = some (.r0)) (ks : List Nat) (n : Nat) : ToldS := ⟨#[Value.agg #[ms RD L0, Value.map (some (nth ks 0))], vs (nth ks 1) 0 L2.length L2.length], [((nth ks 0), .ro (Zc L1) true), ((nth ks 1), .cells (Za eI L2) 3)], vn, [], 0⟩

theorem ZiX {L0 : List RJ} {L1 : List RH} {L2 : List Int} {N : Nat} (h : Za1 L0 L1 L2 N = some (.r0)) (ks : List Nat) (n : Nat) (hk : ks.length = 2 := by rfl) (hnd : ks.Nodup := by decide +kernel) (hlt : ∀ k ∈ ks, k < n := by decide +kernel) : (Zfy (N := N)  h ks n).P Tryz.prog 184 n :=
 match ks, hk, hnd, hlt with
 | [k0, k1], _, hnd, hlt => Za7 (show LSpec Tryz.prog 184 #[Value.agg (κR L0), vs 1 0 L2.length L2.length] [.ro (Zc L1) true, .cells (Za eI L2) 3] (vn) [some (.ro (Zc L1) true), some (.cells (Za eI L2) 3)] from Ze2 L0 L1 L2 N _ h) _ n [] hnd hlt

noncomputable def Zfz {L0 : List RJ} {L1 : List RH} {L2 : List Int} {w2 : List RG} {N : Nat} (h : Za1 L0 L1 L2 N = some (.r1 w2)) (ks : List Nat) (n : Nat) : ToldS := ⟨#[Value.agg #[ms RD L0, Value.map (some (nth ks 0))], vs (nth ks 1) 0 L2.length L2.length], [((nth ks 0), .ro (Zc L1) true), ((nth ks 1), .cells (Za eI L2) 3)], vs n 0 w2.length w2.length, [(n, some (.cells (Za RB w2) 42))], 1⟩

theorem ZiY {L0 : List RJ} {L1 : List RH} {L2 : List Int} {w2 : List RG} {N : Nat} (h : Za1 L0 L1 L2 N = some (.r1 w2)) (ks : List Nat) (n : Nat) (hk : ks.length = 2 := by rfl) (hnd : ks.Nodup := by decide +kernel) (hlt : ∀ k ∈ ks, k < n := by decide +kernel) : (Zfz (N := N)  h ks n).P Tryz.prog 184 n :=
 match ks, hk, hnd, hlt with
 | [k0, k1], _, hnd, hlt => Za7 (show LSpec Tryz.prog 184 #[Value.agg (κR L0), vs 1 0 L2.length L2.length] [.ro (Zc L1) true, .cells (Za eI L2) 3] (vs 2 0 w2.length w2.length) [some (.ro (Zc L1) true), some (.cells (Za eI L2) 3), some (.cells (Za RB w2) 42)] from Ze2 L0 L1 L2 N _ h) _ n [2] hnd hlt

noncomputable def Zj7 (L0 : List RJ) (a1 a2 : Int) : Zcr → Value
 | .r0 => vn
 | .r1 w0 => vs 0 0 w0.length w0.length
noncomputable def ZiB (L0 : List RJ) (a1 a2 : Int) : Zcr → List (Option AObj)
 | .r0 => []
 | .r1 w0 => [some (.cells (Za RB w0) 42)]

noncomputable abbrev κA (L0 : List RJ) (a1 : Int) (a2 : Int) := #[ms RD L0, Value.agg #[vi a1, vi a2]]
theorem Zm2 (L0 : List RJ) (a1 a2 : Int) (N : Nat) : Fx Tryz.prog Zs Tryz.f161 [] (κA L0 a1 a2) (Zj7 L0 a1 a2) (ZiB L0 a1 a2) (Zaw L0 a1 a2 N) := by
 unfold Zaw
 refine Zaa (fun z0 c0 => ?_)
 cases z0 with
 | r0 y0_0 =>
  refine Zaa (fun z1 c1 => ?_)
  cases z1 with
  | r0 =>
   refine Zaa (fun z2 c2 => ?_)
   cases z2 with
   | r0 =>
    exact fxC (Zh (oq []) [] [] [] [(0, (Zf4 c0 [] 1).t), (2, (Zgk c1 [1, 3] 4).t), (3, (Zgm c2 [1] 4).t)]) [] (vn) (kK (Zkh c2 [1] 4) <| kKa (Zkd c1 [1, 3] 4) <| kX (dS (Zc y0_0)) true (Zv (congrArg Zc (by first | rfl | simp))) <| kX (dP ([vi a1, vi a2] = (Za RB ([(⟨a1, a2⟩ : RG)] : List RG)))) true (Zv (show ([vi a1, vi a2] : List Value) = (Za RB ([(⟨a1, a2⟩ : RG)] : List RG)) from rfl)) <| kK (Zkv c0 [] 1) Zi) bE
  | r1 y1_0 =>
   have w2 := kKa (Zke c1 [1, 3] 4) <| kX (dS (Zc y0_0)) true (Zv (congrArg Zc (by first | rfl | simp))) <| kX (dP ([vi a1, vi a2] = (Za RB ([(⟨a1, a2⟩ : RG)] : List RG)))) true (Zv (show ([vi a1, vi a2] : List Value) = (Za RB ([(⟨a1, a2⟩ : RG)] : List RG)) from rfl)) <| kK (Zkv c0 [] 1) Zi
   refine Zaa (fun z2 c2 => ?_)
   cases z2 with
   | r0 =>
    exact fxC (Zh (oq []) [] [] [] [(0, (Zf4 c0 [] 1).t), (2, (Zei c1 [1, 3] 4).t), (3, (Zfy c2 [1, 4] 5).t)]) [] (vn) (kK (ZiX c2 [1, 4] 5) w2) bE
   | r1 y2_0 =>
    exact fxC (Zh (oq []) [] [] [] [(0, (Zf4 c0 [] 1).t), (2, (Zei c1 [1, 3] 4).t), (3, (Zfz c2 [1, 4] 5).t)]) [5] (vs 5 0 y2_0.length y2_0.length) (kK (ZiY c2 [1, 4] 5) w2) (bR <| bE)

theorem Zlo (L0 : List RJ) (a1 a2 : Int) (N : Nat) (r : Zcr) (h : Zaw L0 a1 a2 N = some r) : LSpec Tryz.prog 161 (κA L0 a1 a2) [] (Zj7 L0 a1 a2 r) (ZiB L0 a1 a2 r) :=
 Zbh Zau Tryz.func161 (by kernel_rfl) (by kernel_rfl) (fun r => by cases r <;> exact ZG _ rfl) (Zm2 L0 a1 a2 N) h

noncomputable def Zdz {L0 : List RJ} {a1 : Int} {a2 : Int} {w0 : List RG} {N : Nat} (h : Zaw L0 a1 a2 N = some (.r1 w0)) (ks : List Nat) (n : Nat) : ToldS := ⟨(κA L0 a1 a2), [], vs n 0 w0.length w0.length, [(n, some (.cells (Za RB w0) 42))], 1⟩

theorem Ze3 {L0 : List RJ} {a1 : Int} {a2 : Int} {w0 : List RG} {N : Nat} (h : Zaw L0 a1 a2 N = some (.r1 w0)) (ks : List Nat) (n : Nat) (hk : ks.length = 0 := by rfl) (hnd : ks.Nodup := by decide +kernel) (hlt : ∀ k ∈ ks, k < n := by decide +kernel) : (Zdz (N := N)  h ks n).P Tryz.prog 161 n :=
 match ks, hk, hnd, hlt with
 | [], _, hnd, hlt => Za7 (show LSpec Tryz.prog 161 (κA L0 a1 a2) [] (vs 0 0 w0.length w0.length) [some (.cells (Za RB w0) 42)] from Zlo L0 a1 a2 N _ h) _ n [0] hnd hlt

noncomputable def Zie (a0 a1 : Int) (L2 : List RI) (L3 : List RG) : Zbc → Value
 | .r0 w4 => Value.tuple #[Value.agg #[vq, vq], vi w4]
 | .r1 w0 w1 w2 => Value.tuple #[Value.agg #[vi w0, vi w1], vi w2]
noncomputable abbrev κW (L3 : List RG) (L2 : List RI) := (Za RB (((L3 ++ (List.replicate 3 (⟨(0 : Int), (0 : Int)⟩ : RG))).set (L2.length + 1) (⟨(2 : Int), (0 : Int)⟩ : RG)).set (L2.length + 2) (⟨(2 : Int), (0 : Int)⟩ : RG)))
noncomputable abbrev κT (L2 : List RI) (a0 : Int) := (Za RC ((L2 ++ (List.replicate 3 (⟨(0 : Int), (0 : Int), (0 : Int), (0 : Int), (0 : Int)⟩ : RI))).set L2.length (⟨(1 : Int), (2 : Int), (3 : Int), (1 : Int), a0⟩ : RI)))
noncomputable abbrev κQ (a1 : Int) (L2 : List RI) (L3 : List RG) (a0 : Int) := [some (AObj.cells [vi a1, vs 3 0 (L2.length + 3) (L2.length + 3), vs 4 0 (L3.length + 3) (L3.length + 3), vn, vn, vn, vn, vn, vn, vn, vn, vn, vn, vn, vn, vn, vn, vn, vn, vn] 154), none, none, some (AObj.cells (κT L2 a0) 57), some (AObj.cells (κW L3 L2) 42)]
noncomputable abbrev κw (a1 : Int) (L2 : List RI) (L3 : List RG) := [vi a1, vs 1 0 L2.length L2.length, vs 2 0 L3.length L3.length, vn, vn, vn, vn, vn, vn, vn, vn, vn, vn, vn, vn, vn, vn, vn, vn, vn]
noncomputable def Zhh (a0 a1 : Int) (L2 : List RI) (L3 : List RG) : Zbc → List (Option AObj)
 | .r0 w4 => [some (.cells (κw a1 L2 L3) 154), some (.cells (Za RC L2) 57), some (.cells (Za RB L3) 42)]
 | .r1 w0 w1 w2 => (κQ a1 L2 L3 a0)

theorem Zlp (a0 a1 : Int) (L2 : List RI) (L3 : List RG) (N : Nat) : Fx Tryz.prog Zs Tryz.f163 [.cells (κw a1 L2 L3) 154, .cells (Za RC L2) 57, .cells (Za RB L3) 42] #[vp 0 0, vi (2 : Int), vi (3 : Int), vi a0] (Zie a0 a1 L2 L3) (Zhh a0 a1 L2 L3) (ZaY a0 a1 L2 L3 N) := by
 unfold ZaY
 refine Zf (fun g0 => ?_) (fun g0 => ?_)
 ·
  refine Zf (fun g1 => ?_) (fun g1 => ?_)
  ·
   exact fxC (Zh (oq [3, 15]) [] [] [] []) [0, 1, 2] (Value.tuple #[Value.agg #[vq, vq], vi (1 : Int)]) (hY g1 <| kY (a1 > (0 : Int)) Zi) (bS (κw a1 L2 L3) <| bR <| bR <| bE)
  ·
   refine Zf (fun g2 => ?_) (fun g2 => ?_)
   ·
    exact fxC (Zh (oq [3, 14, 17]) [] [] [] []) [0, 1, 2] (Value.tuple #[Value.agg #[vq, vq], vi (1 : Int)]) (kY (a0 ≥ (64 : Int)) <| hN g1 <| kY (a1 > (0 : Int)) Zi) (bS (κw a1 L2 L3) <| bR <| bR <| bE)
   ·
    refine Zf (fun g3 => ?_) (fun _ => Zj)
    have w4 := kW ((L2.length : Int) + (2 : Int)) (((L2.length + 2) : Nat) : Int) <| kY (a1 > (0 : Int)) <| kN (a0 ≥ (64 : Int)) <| hN g1 <| kY (a1 > (0 : Int)) Zi
    refine Zf (fun g4 => ?_) (fun _ => Zj)
    have w5 := kW ((((L2.length + 2) : Nat) : Int) + (1 : Int)) (((L2.length + 3) : Nat) : Int) w4
    refine Zf (fun g5 => ?_) (fun g5 => ?_)
    ·
     exact fxC (Zh (oq [3, 14, 16, 23, 27]) [(1, (((L2.length + 2) : Nat) : Int)), (2, (((L2.length + 3) : Nat) : Int))] [] [] []) [0, 1, 2] (Value.tuple #[Value.agg #[vq, vq], vi (20 : Int)]) (kY ((((L2.length + 3) : Nat) : Int) > a1) w5) (bS (κw a1 L2 L3) <| bR <| bR <| bE)
    ·
     refine Zf (fun g6 => ?_) (fun _ => Zj)
     refine Zf (fun g7 => ?_) (fun _ => Zj)
     refine Zf (fun g8 => ?_) (fun _ => Zj)
     refine Zf (fun g9 => ?_) (fun _ => Zj)
     refine Zaa (fun z10 c10 => ?_)
     cases z10 with
     | r0 y10_0 y10_1 y10_2 =>
      exact fxC (Zh (oq [3, 14, 16, 23, 26]) [(1, (((L2.length + 2) : Nat) : Int)), (2, (((L2.length + 3) : Nat) : Int)), (3, (((L2.length + 1) : Nat) : Int)), (6, (L2.length : Int)), (9, (((L2.length + 1) : Nat) : Int)), (13, (((L2.length + 2) : Nat) : Int))] [(1, L2.length), (2, (L2.length + 1)), (3, (L2.length + 2))] [] [(2, .ap 3 (Za RC (List.replicate 3 (⟨(0 : Int), (0 : Int), (0 : Int), (0 : Int), (0 : Int)⟩ : RI))) (Za RC (L2 ++ (List.replicate 3 (⟨(0 : Int), (0 : Int), (0 : Int), (0 : Int), (0 : Int)⟩ : RI))))), (4, .ap 3 (Za RB (List.replicate 3 (⟨(0 : Int), (0 : Int)⟩ : RG))) (Za RB (L3 ++ (List.replicate 3 (⟨(0 : Int), (0 : Int)⟩ : RG))))), (6, .st (κT L2 a0)), (9, .st (Za RB ((L3 ++ (List.replicate 3 (⟨(0 : Int), (0 : Int)⟩ : RG))).set (L2.length + 1) (⟨(2 : Int), (0 : Int)⟩ : RG)))), (12, .st (κW L3 L2)), (13, (Zhu c10 [] 11).t)]) [0, 1, 2, 6, 7] (Value.tuple #[Value.agg #[vi y10_0, vi y10_1], vi y10_2]) (kK (Zkb c10 [] 11) <| kC (Zcq (E := RB) (L := ((L3 ++ (List.replicate 3 (⟨(0 : Int), (0 : Int)⟩ : RG))).set (L2.length + 1) (⟨(2 : Int), (0 : Int)⟩ : RG))) (i := (L2.length + 2)) (q := 0) (l := [vi (2 : Int), vq]) (⟨(2 : Int), (0 : Int)⟩ : RG) ltA (show (0 + ((L2.length + 2) * 2)) = (L2.length + 2) * 2 + 0 from by omega) (show 0 + 2 ≤ 2 from by decide) rfl) <| kB (L2.length + 2) (L3.length + 3) <| kI (((L2.length + 2) : Nat) : Int) (Int.ofNat (L2.length + 2)) <| kW ((((L2.length + 1) : Nat) : Int) + (1 : Int)) (((L2.length + 2) : Nat) : Int) <| kC (Zcq (E := RB) (L := (L3 ++ (List.replicate 3 (⟨(0 : Int), (0 : Int)⟩ : RG)))) (i := (L2.length + 1)) (q := 0) (l := [vi (2 : Int), vq]) (⟨(2 : Int), (0 : Int)⟩ : RG) ltA (show (0 + ((L2.length + 1) * 2)) = (L2.length + 1) * 2 + 0 from by omega) (show 0 + 2 ≤ 2 from by decide) rfl) <| kB (L2.length + 1) (L3.length + 3) <| kI (((L2.length + 1) : Nat) : Int) (Int.ofNat (L2.length + 1)) <| kW ((((L2.length + 1) : Nat) : Int) + (0 : Int)) (((L2.length + 1) : Nat) : Int) <| kC (Zcq (E := RC) (L := (L2 ++ (List.replicate 3 (⟨(0 : Int), (0 : Int), (0 : Int), (0 : Int), (0 : Int)⟩ : RI)))) (i := L2.length) (q := 0) (l := [vi (1 : Int), vi (2 : Int), vi (3 : Int), vi (1 : Int), vi a0]) (⟨(1 : Int), (2 : Int), (3 : Int), (1 : Int), a0⟩ : RI) ltA (show (0 + (L2.length * 5)) = L2.length * 5 + 0 from by omega) (show 0 + 5 ≤ 5 from by decide) rfl) <| kB L2.length (L2.length + 3) <| kI (L2.length : Int) (Int.ofNat L2.length) <| kW ((((L2.length + 1) : Nat) : Int) - (1 : Int)) (L2.length : Int) <| kX (dP (((3 : Int) = Int.ofNat 3 ∧ 0 < 3 ∧ 3 ≤ 100000 ∧ 0 < 2 ∧ (Za RB (List.replicate 3 (⟨(0 : Int), (0 : Int)⟩ : RG))) = Ev.rep [vq, vq] (3 * 2)) ∧ 0 < 3 ∧ 3 ≤ 100000 ∧ L3.length < L3.length + 3 ∧ L3.length ≤ 100000 ∧ L3.length * 2 ≤ (List.length (Za RB L3)) ∧ List.take (L3.length * 2) (Za RB L3) ++ (Za RB (List.replicate 3 (⟨(0 : Int), (0 : Int)⟩ : RG))) = (Za RB (L3 ++ (List.replicate 3 (⟨(0 : Int), (0 : Int)⟩ : RG)))))) true (Zv ⟨⟨by first | rfl | exact Zna (by omega), ltA, ltA, by decide, (ZpK (E := RB) (⟨(0 : Int), (0 : Int)⟩ : RG) 3 (by decide) rfl rfl).symm⟩, ltA, ltA, ltA, by omega, (Zmt (E := RB) (L := L3) (M := (List.replicate 3 (⟨(0 : Int), (0 : Int)⟩ : RG))) (n := L3.length) (show _ = _ * 2 from rfl) (by omega) (R := (L3 ++ (List.replicate 3 (⟨(0 : Int), (0 : Int)⟩ : RG)))) (by rw [List.take_of_length_le (by omega)]))⟩) <| kX (dP (((3 : Int) = Int.ofNat 3 ∧ 0 < 3 ∧ 3 ≤ 100000 ∧ 0 < 5 ∧ (Za RC (List.replicate 3 (⟨(0 : Int), (0 : Int), (0 : Int), (0 : Int), (0 : Int)⟩ : RI))) = Ev.rep [vq, vq, vq, vq, vq] (3 * 5)) ∧ 0 < 3 ∧ 3 ≤ 100000 ∧ L2.length < L2.length + 3 ∧ L2.length ≤ 100000 ∧ L2.length * 5 ≤ (List.length (Za RC L2)) ∧ List.take (L2.length * 5) (Za RC L2) ++ (Za RC (List.replicate 3 (⟨(0 : Int), (0 : Int), (0 : Int), (0 : Int), (0 : Int)⟩ : RI))) = (Za RC (L2 ++ (List.replicate 3 (⟨(0 : Int), (0 : Int), (0 : Int), (0 : Int), (0 : Int)⟩ : RI)))))) true (Zv ⟨⟨by first | rfl | exact Zna (by omega), ltA, ltA, by decide, (ZpK (E := RC) (⟨(0 : Int), (0 : Int), (0 : Int), (0 : Int), (0 : Int)⟩ : RI) 3 (by decide) rfl rfl).symm⟩, ltA, ltA, ltA, by omega, (Zmt (E := RC) (L := L2) (M := (List.replicate 3 (⟨(0 : Int), (0 : Int), (0 : Int), (0 : Int), (0 : Int)⟩ : RI))) (n := L2.length) (show _ = _ * 5 from rfl) (by omega) (R := (L2 ++ (List.replicate 3 (⟨(0 : Int), (0 : Int), (0 : Int), (0 : Int), (0 : Int)⟩ : RI)))) (by rw [List.take_of_length_le (by omega)]))⟩) <| kW ((L2.length : Int) + (1 : Int)) (((L2.length + 1) : Nat) : Int) <| kN ((((L2.length + 3) : Nat) : Int) > a1) w5) (bS [vi a1, vs 6 0 (L2.length + 3) (L2.length + 3), vs 7 0 (L3.length + 3) (L3.length + 3), vn, vn, vn, vn, vn, vn, vn, vn, vn, vn, vn, vn, vn, vn, vn, vn, vn] <| bN <| bN <| bR <| bR <| bE)
 ·
  exact fxC (Zh (oq [2]) [] [] [] []) [0, 1, 2] (Value.tuple #[Value.agg #[vq, vq], vi (4 : Int)]) (kN (a1 > (0 : Int)) Zi) (bS (κw a1 L2 L3) <| bR <| bR <| bE)

theorem Zgn (a0 a1 : Int) (L2 : List RI) (L3 : List RG) (N : Nat) (r : Zbc) (h : ZaY a0 a1 L2 L3 N = some r) : LSpec Tryz.prog 163 #[vp 0 0, vi (2 : Int), vi (3 : Int), vi a0] [.cells (κw a1 L2 L3) 154, .cells (Za RC L2) 57, .cells (Za RB L3) 42] (Zie a0 a1 L2 L3 r) (Zhh a0 a1 L2 L3 r) :=
 Zbh Zau Tryz.func163 (by kernel_rfl) (by kernel_rfl) (fun r => by cases r <;> exact ZG _ rfl) (Zlp a0 a1 L2 L3 N) h

noncomputable def Zfj {a0 : Int} {a1 : Int} {L2 : List RI} {L3 : List RG} {w4 : Int} {N : Nat} (h : ZaY a0 a1 L2 L3 N = some (.r0 w4)) (ks : List Nat) (n : Nat) : ToldS := ⟨#[vp (nth ks 0) 0, vi (2 : Int), vi (3 : Int), vi a0], [((nth ks 0), .cells [vi a1, vs (nth ks 1) 0 L2.length L2.length, vs (nth ks 2) 0 L3.length L3.length, vn, vn, vn, vn, vn, vn, vn, vn, vn, vn, vn, vn, vn, vn, vn, vn, vn] 154), ((nth ks 1), .cells (Za RC L2) 57), ((nth ks 2), .cells (Za RB L3) 42)], Value.tuple #[Value.agg #[vq, vq], vi w4], [], 0⟩

theorem ZlP {a0 : Int} {a1 : Int} {L2 : List RI} {L3 : List RG} {w4 : Int} {N : Nat} (h : ZaY a0 a1 L2 L3 N = some (.r0 w4)) (ks : List Nat) (n : Nat) (hk : ks.length = 3 := by rfl) (hnd : ks.Nodup := by decide +kernel) (hlt : ∀ k ∈ ks, k < n := by decide +kernel) : (Zfj (N := N)  h ks n).P Tryz.prog 163 n :=
 match ks, hk, hnd, hlt with
 | [k0, k1, k2], _, hnd, hlt => Za7 (show LSpec Tryz.prog 163 #[vp 0 0, vi (2 : Int), vi (3 : Int), vi a0] [.cells (κw a1 L2 L3) 154, .cells (Za RC L2) 57, .cells (Za RB L3) 42] (Value.tuple #[Value.agg #[vq, vq], vi w4]) [some (.cells (κw a1 L2 L3) 154), some (.cells (Za RC L2) 57), some (.cells (Za RB L3) 42)] from Zgn a0 a1 L2 L3 N _ h) _ n [] hnd hlt

noncomputable def Zfk {a0 : Int} {a1 : Int} {L2 : List RI} {L3 : List RG} {w0 : Int} {w1 : Int} {w2 : Int} {N : Nat} (h : ZaY a0 a1 L2 L3 N = some (.r1 w0 w1 w2)) (ks : List Nat) (n : Nat) : ToldS := ⟨#[vp (nth ks 0) 0, vi (2 : Int), vi (3 : Int), vi a0], [((nth ks 0), .cells [vi a1, vs (nth ks 1) 0 L2.length L2.length, vs (nth ks 2) 0 L3.length L3.length, vn, vn, vn, vn, vn, vn, vn, vn, vn, vn, vn, vn, vn, vn, vn, vn, vn] 154), ((nth ks 1), .cells (Za RC L2) 57), ((nth ks 2), .cells (Za RB L3) 42)], Value.tuple #[Value.agg #[vi w0, vi w1], vi w2], [((nth ks 0), some (.cells [vi a1, vs n 0 (L2.length + 3) (L2.length + 3), vs (n + 1) 0 (L3.length + 3) (L3.length + 3), vn, vn, vn, vn, vn, vn, vn, vn, vn, vn, vn, vn, vn, vn, vn, vn, vn] 154)), ((nth ks 1), none), ((nth ks 2), none), (n, some (.cells (κT L2 a0) 57)), ((n + 1), some (.cells (κW L3 L2) 42))], 2⟩

theorem ZlQ {a0 : Int} {a1 : Int} {L2 : List RI} {L3 : List RG} {w0 : Int} {w1 : Int} {w2 : Int} {N : Nat} (h : ZaY a0 a1 L2 L3 N = some (.r1 w0 w1 w2)) (ks : List Nat) (n : Nat) (hk : ks.length = 3 := by rfl) (hnd : ks.Nodup := by decide +kernel) (hlt : ∀ k ∈ ks, k < n := by decide +kernel) : (Zfk (N := N)  h ks n).P Tryz.prog 163 n :=
 match ks, hk, hnd, hlt with
 | [k0, k1, k2], _, hnd, hlt => Za7 (show LSpec Tryz.prog 163 #[vp 0 0, vi (2 : Int), vi (3 : Int), vi a0] [.cells (κw a1 L2 L3) 154, .cells (Za RC L2) 57, .cells (Za RB L3) 42] (Value.tuple #[Value.agg #[vi w0, vi w1], vi w2]) (κQ a1 L2 L3 a0) from Zgn a0 a1 L2 L3 N _ h) _ n [0, 1, 2, 3, 4] hnd hlt

end Ev
end Go.Proofs.YtiijipocjellpaaGreat
