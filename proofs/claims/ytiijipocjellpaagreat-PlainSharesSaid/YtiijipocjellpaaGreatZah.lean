/- Part 8. -/
import Derived.Test.YtiijipocjellpaaGreatZag
import Derived.Test.YtiijipocjellpaaGreatZad
import Derived.Test.YtiijipocjellpaaGreatZae
import Derived.Test.YtiijipocjellpaaGreatZac
import Derived.StillTail
import Derived.OrdersHeld
import Derived.WideBlind
set_option linter.unusedSimpArgs false
set_option linter.unusedVariables false
/- Calls do what the plain functions say. -/
namespace Go.Proofs.YtiijipocjellpaaGreat
open Go.IntKind (i64)
open Go.RowKit
namespace Ev
set_option linter.unusedVariables false
set_option maxRecDepth 100000
set_option maxHeartbeats 4000000
noncomputable def ZgT (L0 : List Int) (a1 : Int) : Zo → Value
 | .r0 w0 => Value.bool w0
noncomputable def Zgy (L0 : List Int) (a1 : Int) : Zo → List (Option AObj)
 | .r0 w0 => []

def Zk9 : law18_PlainSharesX → Nat
 | .h1m0 => 1
 | .h1m1 v2 v3 v4 v14 v17 v18 v19 v20 v21 v23 v25 v26 => 1
 | .h2m0 v1 v2 v3 v13 v16 v17 v18 v19 v20 v22 v24 v25 => 2
 | .h3m0 v0 v1 v2 v3 v13 v16 v17 v18 v19 v20 v22 v24 v25 => 3
 | .h3m1 v0 v1 v2 v3 v13 v14 v17 v18 v19 v20 v21 v25 v26 => 3
 | .h3m2 v0 v1 v2 v3 v13 v14 v15 v16 v17 v18 v19 v20 v21 v22 v23 v25 v27 v28 v29 v30 v32 => 3
 | .h4m0 v0 v1 v2 v3 v4 v5 v15 v18 v19 v20 v21 v22 v24 v26 v27 => 4
 | .h4m1 v0 v1 v2 v3 v4 v5 v15 v16 v17 v18 v19 v20 v21 v22 v23 v24 v25 v27 v29 v30 v31 v32 v34 => 4
noncomputable def Zl3 (L0 : List Int) (a1 : Int) : law18_PlainSharesX → List (Nat × Value)
 | .h1m0 => [(0, ms (Zeu .u8) L0), (1, Value.int .u8 a1), (5, vp 0 0), (7, vp 1 0), (9, vn), (10, vq), (11, vq)]
 | .h1m1 v2 v3 v4 v14 v17 v18 v19 v20 v21 v23 v25 v26 => [(0, ms (Zeu .u8) L0), (1, Value.int .u8 a1), (5, vp 0 0), (7, vp 1 0), (9, vs 2 0 v2.length v2.length), (10, vi (v3 : Int)), (11, vi (v4 : Int))]
 | .h2m0 v1 v2 v3 v13 v16 v17 v18 v19 v20 v22 v24 v25 => [(0, ms (Zeu .u8) L0), (5, vp 0 0), (7, vp 1 0), (9, vs 2 0 v1.length v1.length), (10, vi (v2 : Int)), (12, vi (v3 : Int))]
 | .h3m0 v0 v1 v2 v3 v13 v16 v17 v18 v19 v20 v22 v24 v25 => [(5, vp 0 0), (7, vp 1 0), (9, vs 2 0 v0.length v0.length), (10, vi (v1 : Int)), (13, vs 3 0 v2.length v2.length), (14, vi (v3 : Int))]
 | .h3m1 v0 v1 v2 v3 v13 v14 v17 v18 v19 v20 v21 v25 v26 => [(5, vp 0 0), (7, vp 1 0), (9, vs 2 0 v0.length v0.length), (10, vi (v1 : Int)), (13, vs 3 0 v2.length v2.length), (14, vi (v3 : Int))]
 | .h3m2 v0 v1 v2 v3 v13 v14 v15 v16 v17 v18 v19 v20 v21 v22 v23 v25 v27 v28 v29 v30 v32 => [(5, vp 0 0), (7, vp 1 0), (9, vs 2 0 v0.length v0.length), (10, vi (v1 : Int)), (13, vs 3 0 v2.length v2.length), (14, vi (v3 : Int))]
 | .h4m0 v0 v1 v2 v3 v4 v5 v15 v18 v19 v20 v21 v22 v24 v26 v27 => [(5, vp 0 0), (7, vp 1 0), (9, vs 2 0 v0.length v0.length), (10, vi (v1 : Int)), (13, vs 3 0 v2.length v2.length), (14, vi (v3 : Int)), (16, Value.bool v4), (17, vi (v5 : Int))]
 | .h4m1 v0 v1 v2 v3 v4 v5 v15 v16 v17 v18 v19 v20 v21 v22 v23 v24 v25 v27 v29 v30 v31 v32 v34 => [(5, vp 0 0), (7, vp 1 0), (9, vs 2 0 v0.length v0.length), (10, vi (v1 : Int)), (13, vs 3 0 v2.length v2.length), (14, vi (v3 : Int)), (16, Value.bool v4), (17, vi (v5 : Int))]
noncomputable abbrev κbg := (Zr Zd 1 [] ([(⟨(0 : Int), (0 : Int), (0 : Int), (0 : Int), (0 : Int), (0 : Int), (0 : Int), (0 : Int), (0 : Int), (0 : Int), (0 : Int), (0 : Int), (0 : Int), (0 : Int), (0 : Int), (0 : Int)⟩ : RK)] : List RK) [vn, vq, vf, vf, vq, vq, vq, vq, vp 0 0, vq, Value.nilFunc])
noncomputable abbrev κbe := [vi (300 : Int), vs 6 0 17 17, vs 7 0 17 17, vn, vn, vn, vn, vn, vn, vn, vn, vn, vn, vn, vn, vn, vn, vn, vn, vn]
noncomputable abbrev κ2 := [vs 9 0 5 5, vs 10 0 5 5]
noncomputable abbrev κz := (Zr Zc9 64 [vi (1 : Int)] (List.replicate 64 (⟨(0 : Int), false, false⟩ : RF)) [vi (300 : Int), vi (5 : Int), vi (50 : Int), vi (50 : Int), vi (1000 : Int), vi (1 : Int), vq, vp 2 0, vp 3 0, vp 4 0, vp 5 0])
noncomputable abbrev κx := [vi (1000 : Int), vq, vq]
noncomputable abbrev κm := (Za RB ([(⟨(0 : Int), (0 : Int)⟩ : RG), (⟨(2 : Int), (0 : Int)⟩ : RG), (⟨(2 : Int), (0 : Int)⟩ : RG), (⟨(2 : Int), (0 : Int)⟩ : RG), (⟨(2 : Int), (0 : Int)⟩ : RG), (⟨(2 : Int), (0 : Int)⟩ : RG), (⟨(2 : Int), (0 : Int)⟩ : RG), (⟨(2 : Int), (0 : Int)⟩ : RG), (⟨(2 : Int), (0 : Int)⟩ : RG), (⟨(1 : Int), (0 : Int)⟩ : RG), (⟨(1 : Int), (0 : Int)⟩ : RG), (⟨(1 : Int), (0 : Int)⟩ : RG), (⟨(1 : Int), (0 : Int)⟩ : RG), (⟨(1 : Int), (0 : Int)⟩ : RG), (⟨(1 : Int), (0 : Int)⟩ : RG), (⟨(1 : Int), (0 : Int)⟩ : RG), (⟨(1 : Int), (0 : Int)⟩ : RG)] : List RG))
noncomputable abbrev κg := (Zr eI 64 [vi (1 : Int)] (List.replicate 64 (0 : Int)) [])
noncomputable abbrev κe := (Za eI ([(0 : Int), (0 : Int), (0 : Int), (0 : Int), (0 : Int)] : List Int))
noncomputable abbrev κd := ((⟨(1 : Int), (16 : Int), (255 : Int), (2 : Int), (0 : Int)⟩ : RI) :: List.replicate 16 (⟨(0 : Int), (0 : Int), (0 : Int), (0 : Int), (0 : Int)⟩ : RI))
noncomputable abbrev κb := (Zr Zc9 64 [vi (1 : Int)] (List.replicate 64 (⟨(0 : Int), false, false⟩ : RF)) [vi (300 : Int), vi (5 : Int), vi (50 : Int), vi (50 : Int), vi (1000 : Int), vi (1 : Int), vq, vp 3 0, vp 4 0, vp 5 0, vp 6 0])
noncomputable abbrev κa := (Zr Zc9 64 [vi (1 : Int)] (List.replicate 64 (⟨(0 : Int), false, false⟩ : RF)) [vi (300 : Int), vi (5 : Int), vi (50 : Int), vi (50 : Int), vi (1000 : Int), vi (1 : Int), vq, vp 4 0, vp 5 0, vp 6 0, vp 7 0])
noncomputable def Zl4 (L0 : List Int) (a1 : Int) : law18_PlainSharesX → List (Option AObj)
 | .h1m0 => [some (.cells κz 132), some (.cells κbg 141), some (.cells κbe 154), some (.cells [vs 8 0 5 5, vs 9 0 5 5] 191), some (.cells κx 208), some (.cells κg 211), some (.cells (Za RC κd) 57), some (.cells κm 42), some (.cells κe 188), some (.cells κe 188)]
 | .h1m1 v2 v3 v4 v14 v17 v18 v19 v20 v21 v23 v25 v26 => [some (.cells κb 132), some (.cells (Zr Zd 1 [] v14 [vn, vq, vf, Value.bool v17, vi v18, vi v19, vi v20, vi v21, vp 0 0, vq, (fnV v23)]) 141), some (.cells (Za RB v2) 42), some (.cells [vi (300 : Int), vs 7 0 v25.length v25.length, vs 8 0 v26.length v26.length, vn, vn, vn, vn, vn, vn, vn, vn, vn, vn, vn, vn, vn, vn, vn, vn, vn] 154), some (.cells κ2 191), some (.cells κx 208), some (.cells κg 211), some (.cells (Za RC v25) 57), some (.cells (Za RB v26) 42), some (.cells κe 188), some (.cells κe 188)]
 | .h2m0 v1 v2 v3 v13 v16 v17 v18 v19 v20 v22 v24 v25 => [some (.cells κb 132), some (.cells (Zr Zd 1 [] v13 [vn, vq, vf, Value.bool v16, vi v17, vi v18, vi v19, vi v20, vp 0 0, vq, (fnV v22)]) 141), some (.cells (Za RB v1) 42), some (.cells [vi (300 : Int), vs 7 0 v24.length v24.length, vs 8 0 v25.length v25.length, vn, vn, vn, vn, vn, vn, vn, vn, vn, vn, vn, vn, vn, vn, vn, vn, vn] 154), some (.cells κ2 191), some (.cells κx 208), some (.cells κg 211), some (.cells (Za RC v24) 57), some (.cells (Za RB v25) 42), some (.cells κe 188), some (.cells κe 188)]
 | .h3m0 v0 v1 v2 v3 v13 v16 v17 v18 v19 v20 v22 v24 v25 => [some (.cells κa 132), some (.cells (Zr Zd 1 [] v13 [vn, vq, vf, Value.bool v16, vi v17, vi v18, vi v19, vi v20, vp 0 0, vq, (fnV v22)]) 141), some (.cells (Za RB v0) 42), some (.cells (Za RB v2) 42), some (.cells [vi (300 : Int), vs 8 0 v24.length v24.length, vs 9 0 v25.length v25.length, vn, vn, vn, vn, vn, vn, vn, vn, vn, vn, vn, vn, vn, vn, vn, vn, vn] 154), some (.cells [vs 10 0 5 5, vs 11 0 5 5] 191), some (.cells κx 208), some (.cells κg 211), some (.cells (Za RC v24) 57), some (.cells (Za RB v25) 42), some (.cells κe 188), some (.cells κe 188)]
 | .h3m1 v0 v1 v2 v3 v13 v14 v17 v18 v19 v20 v21 v25 v26 => [some (.cells κa 132), some (.cells (Zr Zd 1 [] v13 [vs 8 0 v14.length v14.length, vq, vf, Value.bool v17, vi v18, vi v19, vi v20, vi v21, vp 0 0, vq, Value.func (.func 162) #[] #[]]) 141), some (.cells (Za RB v0) 42), some (.cells (Za RB v2) 42), some (.cells [vi (300 : Int), vs 9 0 v25.length v25.length, vs 10 0 v26.length v26.length, vn, vn, vn, vn, vn, vn, vn, vn, vn, vn, vn, vn, vn, vn, vn, vn, vn] 154), some (.cells [vs 11 0 5 5, vs 12 0 5 5] 191), some (.cells κx 208), some (.cells κg 211), some (.cells (Za RB v14) 42), some (.cells (Za RC v25) 57), some (.cells (Za RB v26) 42), some (.cells κe 188), some (.cells κe 188)]
 | .h3m2 v0 v1 v2 v3 v13 v14 v15 v16 v17 v18 v19 v20 v21 v22 v23 v25 v27 v28 v29 v30 v32 => [some (.cells κa 132), some (.cells (Zr Zd 1 [] v13 [vs 8 (v15 * 2) v16 v16, vi v17, Value.bool v18, Value.bool v19, vi v20, vi v21, vi v22, vi v23, vp 0 0, vq, (fnV v25)]) 141), some (.cells (Za RB v0) 42), some (.cells (Za RB v2) 42), some (.cells [vi (300 : Int), vs 9 0 v27.length v27.length, vs 10 0 v28.length v28.length, vn, vn, vn, vn, vn, vn, vn, vn, vn, vn, vn, vn, vn, vn, vn, vn, vn] 154), some (.cells [vs 11 0 v29.length v29.length, vs 12 0 v30.length v30.length] 191), some (.cells [vi (1000 : Int), vi v32, vq] 208), some (.cells κg 211), some (.cells (Za RB v14) 42), some (.cells (Za RC v27) 57), some (.cells (Za RB v28) 42), some (.cells (Za eI v29) 188), some (.cells (Za eI v30) 188)]
 | .h4m0 v0 v1 v2 v3 v4 v5 v15 v18 v19 v20 v21 v22 v24 v26 v27 => [some (.cells κa 132), some (.cells (Zr Zd 1 [] v15 [vn, vq, vf, Value.bool v18, vi v19, vi v20, vi v21, vi v22, vp 0 0, vq, (fnV v24)]) 141), some (.cells (Za RB v0) 42), some (.cells (Za RB v2) 42), some (.cells [vi (300 : Int), vs 8 0 v26.length v26.length, vs 9 0 v27.length v27.length, vn, vn, vn, vn, vn, vn, vn, vn, vn, vn, vn, vn, vn, vn, vn, vn, vn] 154), some (.cells [vs 10 0 5 5, vs 11 0 5 5] 191), some (.cells κx 208), some (.cells κg 211), some (.cells (Za RC v26) 57), some (.cells (Za RB v27) 42), some (.cells κe 188), some (.cells κe 188)]
 | .h4m1 v0 v1 v2 v3 v4 v5 v15 v16 v17 v18 v19 v20 v21 v22 v23 v24 v25 v27 v29 v30 v31 v32 v34 => [some (.cells κa 132), some (.cells (Zr Zd 1 [] v15 [vs 8 (v17 * 2) v18 v18, vi v19, Value.bool v20, Value.bool v21, vi v22, vi v23, vi v24, vi v25, vp 0 0, vq, (fnV v27)]) 141), some (.cells (Za RB v0) 42), some (.cells (Za RB v2) 42), some (.cells [vi (300 : Int), vs 9 0 v29.length v29.length, vs 10 0 v30.length v30.length, vn, vn, vn, vn, vn, vn, vn, vn, vn, vn, vn, vn, vn, vn, vn, vn, vn] 154), some (.cells [vs 11 0 v31.length v31.length, vs 12 0 v32.length v32.length] 191), some (.cells [vi (1000 : Int), vi v34, vq] 208), some (.cells κg 211), some (.cells (Za RB v16) 42), some (.cells (Za RC v29) 57), some (.cells (Za RB v30) 42), some (.cells (Za eI v31) 188), some (.cells (Za eI v32) 188)]

noncomputable def Zq : Nat → Code × List ZaI
 | 1 => ZbB [1, 1, 1, 1, 1, 1, 0, 1, 3] (ZcG Tryz.f3) []
 | 2 => ZbB [1, 1, 1, 1, 1, 1, 1, 0, 1, 3] (ZcG Tryz.f3) []
 | 3 => ZbB [1, 1, 1, 1, 1, 1, 1, 1, 1, 1, 0, 1, 3] (ZcG Tryz.f3) []
 | 4 => ZbB [1, 1, 1, 1, 1, 1, 1, 1, 1, 1, 0, 1, 3, 9, 1, 0, 3, 1, 1, 0, 1, 4, 1, 3] (ZcG Tryz.f3) []
 | _ => (.skip, [])
def Zgz : Nat → Bool
 | 1 => true
 | 2 => true
 | 3 => true
 | 4 => true
 | _ => true
noncomputable def Zx (i : Nat) : List ZaI := match Zgz i with | true => .rnd i :: (Zq i).2 | false => (Zq i).2

noncomputable def Z7 (L0 : List Int) (a1 : Int) (N : Nat) : Mach := ⟨Tryz.f3, [], law18_PlainSharesX, Zo, ZU L0 a1 N, Zk9, Zq, Zgz, Zl3 L0 a1, Zl4 L0 a1, ZgT L0 a1, Zgy L0 a1⟩

noncomputable abbrev κO := (([(⟨(0 : Int), (0 : Int)⟩ : RG), (⟨(2 : Int), (0 : Int)⟩ : RG), (⟨(2 : Int), (0 : Int)⟩ : RG), (⟨(2 : Int), (0 : Int)⟩ : RG), (⟨(2 : Int), (0 : Int)⟩ : RG), (⟨(2 : Int), (0 : Int)⟩ : RG), (⟨(2 : Int), (0 : Int)⟩ : RG), (⟨(2 : Int), (0 : Int)⟩ : RG), (⟨(2 : Int), (0 : Int)⟩ : RG), (⟨(1 : Int), (0 : Int)⟩ : RG), (⟨(1 : Int), (0 : Int)⟩ : RG), (⟨(1 : Int), (0 : Int)⟩ : RG), (⟨(1 : Int), (0 : Int)⟩ : RG), (⟨(1 : Int), (0 : Int)⟩ : RG), (⟨(1 : Int), (0 : Int)⟩ : RG), (⟨(1 : Int), (0 : Int)⟩ : RG), (⟨(1 : Int), (0 : Int)⟩ : RG)] : List RG) ++ (List.replicate 3 (⟨(0 : Int), (0 : Int)⟩ : RG)))
noncomputable abbrev κI := (dP ([vs 8 0 5 5, vs 9 0 5 5] = [vs 8 0 ([(0 : Int), (0 : Int), (0 : Int), (0 : Int), (0 : Int)] : List Int).length ([(0 : Int), (0 : Int), (0 : Int), (0 : Int), (0 : Int)] : List Int).length, vs 9 0 ([(0 : Int), (0 : Int), (0 : Int), (0 : Int), (0 : Int)] : List Int).length ([(0 : Int), (0 : Int), (0 : Int), (0 : Int), (0 : Int)] : List Int).length]))
noncomputable abbrev κl := (([(⟨(0 : Int), (0 : Int)⟩ : RG), (⟨(2 : Int), (0 : Int)⟩ : RG), (⟨(2 : Int), (0 : Int)⟩ : RG), (⟨(2 : Int), (0 : Int)⟩ : RG), (⟨(2 : Int), (0 : Int)⟩ : RG), (⟨(2 : Int), (0 : Int)⟩ : RG), (⟨(2 : Int), (0 : Int)⟩ : RG), (⟨(2 : Int), (0 : Int)⟩ : RG), (⟨(2 : Int), (0 : Int)⟩ : RG), (⟨(1 : Int), (0 : Int)⟩ : RG), (⟨(1 : Int), (0 : Int)⟩ : RG), (⟨(1 : Int), (0 : Int)⟩ : RG), (⟨(1 : Int), (0 : Int)⟩ : RG), (⟨(1 : Int), (0 : Int)⟩ : RG), (⟨(1 : Int), (0 : Int)⟩ : RG), (⟨(1 : Int), (0 : Int)⟩ : RG), (⟨(1 : Int), (0 : Int)⟩ : RG)] : List RG).length + 3)
theorem Zis (L0 : List Int) (a1 : Int) (N : Nat) : (Z7 L0 a1 N).Ok Tryz.prog Zs (.h1m0 : law18_PlainSharesX) (ZU L0 a1 N (.h1m0 : law18_PlainSharesX)) := by
 show (Z7 L0 a1 N).Ok Tryz.prog Zs (.h1m0 : law18_PlainSharesX) (ZbF L0 a1 N)
 unfold ZbF
 refine Mach.ok_ite (fun g0 => ?_) (fun _ => Mach.ok_none)
 refine Mach.ok_ite (fun g1 => ?_) (fun _ => Mach.ok_none)
 refine Mach.ok_ite (fun g2 => ?_) (fun _ => Mach.ok_none)
 have w3 := kY ((0 : Int) < ((1 : Int) + (a1 % (8 : Int)))) <| kW ((1 : Int) + (a1 % (8 : Int))) ((1 : Int) + (a1 % (8 : Int))) <| kM a1 (8 : Int) <| kX ((i64.wrap a1) == a1) true (beq_iff_eq.2 (wrap_i64 ltA)) Zi
 refine Mach.ok_bind (fun z3 c3 => ?_)
 cases z3 with
 | r0 y3_0 =>
  have w4 := kKa (Zbe c3 (1 :: (0 :: (rg 2 8 []))) 10) <| kR κbg <| kR κz <| kX (dP (κbe = [vi (300 : Int), vs 6 0 κd.length κd.length, vs 7 0 ([(⟨(0 : Int), (0 : Int)⟩ : RG), (⟨(2 : Int), (0 : Int)⟩ : RG), (⟨(2 : Int), (0 : Int)⟩ : RG), (⟨(2 : Int), (0 : Int)⟩ : RG), (⟨(2 : Int), (0 : Int)⟩ : RG), (⟨(2 : Int), (0 : Int)⟩ : RG), (⟨(2 : Int), (0 : Int)⟩ : RG), (⟨(2 : Int), (0 : Int)⟩ : RG), (⟨(2 : Int), (0 : Int)⟩ : RG), (⟨(1 : Int), (0 : Int)⟩ : RG), (⟨(1 : Int), (0 : Int)⟩ : RG), (⟨(1 : Int), (0 : Int)⟩ : RG), (⟨(1 : Int), (0 : Int)⟩ : RG), (⟨(1 : Int), (0 : Int)⟩ : RG), (⟨(1 : Int), (0 : Int)⟩ : RG), (⟨(1 : Int), (0 : Int)⟩ : RG), (⟨(1 : Int), (0 : Int)⟩ : RG)] : List RG).length ([(⟨(0 : Int), (0 : Int)⟩ : RG), (⟨(2 : Int), (0 : Int)⟩ : RG), (⟨(2 : Int), (0 : Int)⟩ : RG), (⟨(2 : Int), (0 : Int)⟩ : RG), (⟨(2 : Int), (0 : Int)⟩ : RG), (⟨(2 : Int), (0 : Int)⟩ : RG), (⟨(2 : Int), (0 : Int)⟩ : RG), (⟨(2 : Int), (0 : Int)⟩ : RG), (⟨(2 : Int), (0 : Int)⟩ : RG), (⟨(1 : Int), (0 : Int)⟩ : RG), (⟨(1 : Int), (0 : Int)⟩ : RG), (⟨(1 : Int), (0 : Int)⟩ : RG), (⟨(1 : Int), (0 : Int)⟩ : RG), (⟨(1 : Int), (0 : Int)⟩ : RG), (⟨(1 : Int), (0 : Int)⟩ : RG), (⟨(1 : Int), (0 : Int)⟩ : RG), (⟨(1 : Int), (0 : Int)⟩ : RG)] : List RG).length, vn, vn, vn, vn, vn, vn, vn, vn, vn, vn, vn, vn, vn, vn, vn, vn, vn])) true (Zv rfl) <| kX κI true (Zv rfl) <| kR κx <| kR κg <| kR (Za RC κd) <| kR κm <| kR κe <| kR κe w3
  refine Mach.ok_bind (fun z4 c4 => ?_)
  cases z4 with
  | r0 y4_0 y4_1 y4_2 y4_3 y4_4 y4_5 y4_6 y4_7 y4_8 y4_9 y4_10 y4_11 y4_12 y4_13 =>
   refine Mach.ok_ite (fun g5 => ?_) (fun g5 => ?_)
   ·
    subst g5
    refine Mach.ok_ite (fun _ => Mach.ok_none) (fun g6 => ?_)
    exact Mach.okN (Zh (oq [1, 10]) [(0, a1), (1, (a1 % (8 : Int))), (2, ((1 : Int) + (a1 % (8 : Int))))] [] [] [(1, (Zai c3 (1 :: (0 :: (rg 2 8 []))) 10).t), (2, (Zaq c4 (1 :: (0 :: (rg 2 8 []))) 10).t)]) (0 :: (1 :: (15 :: (rg 2 8 [])))) [some (ms (Zeu .u8) L0), some (Value.int .u8 a1), some (vp 0 0), some (vp 1 0), some (vs 15 0 1 1), some (vi (1 : Int)), some (vi (1 : Int))] (kE y4_12 (0 : Int) <| kKa (Zcn c4 (1 :: (0 :: (rg 2 8 []))) 10) <| kR (Zr Zd 1 [] ([(⟨(2 : Int), (0 : Int), (0 : Int), (0 : Int), (0 : Int), (0 : Int), (2 : Int), (3 : Int), (0 : Int), (0 : Int), (0 : Int), (0 : Int), (0 : Int), (0 : Int), (0 : Int), (0 : Int)⟩ : RK)] : List RK) [vn, vq, vf, vf, vq, vq, vq, vq, vp 0 0, vq, (fnV y3_0)]) <| kR κz <| kX (dP (κbe = [vi (300 : Int), vs 6 0 κd.length κd.length, vs 7 0 ([(⟨(0 : Int), (0 : Int)⟩ : RG), (⟨(2 : Int), (0 : Int)⟩ : RG), (⟨(2 : Int), (0 : Int)⟩ : RG), (⟨(2 : Int), (0 : Int)⟩ : RG), (⟨(2 : Int), (0 : Int)⟩ : RG), (⟨(2 : Int), (0 : Int)⟩ : RG), (⟨(2 : Int), (0 : Int)⟩ : RG), (⟨(2 : Int), (0 : Int)⟩ : RG), (⟨(2 : Int), (0 : Int)⟩ : RG), (⟨(1 : Int), (0 : Int)⟩ : RG), (⟨(1 : Int), (0 : Int)⟩ : RG), (⟨(1 : Int), (0 : Int)⟩ : RG), (⟨(1 : Int), (0 : Int)⟩ : RG), (⟨(1 : Int), (0 : Int)⟩ : RG), (⟨(1 : Int), (0 : Int)⟩ : RG), (⟨(1 : Int), (0 : Int)⟩ : RG), (⟨(1 : Int), (0 : Int)⟩ : RG)] : List RG).length ([(⟨(0 : Int), (0 : Int)⟩ : RG), (⟨(2 : Int), (0 : Int)⟩ : RG), (⟨(2 : Int), (0 : Int)⟩ : RG), (⟨(2 : Int), (0 : Int)⟩ : RG), (⟨(2 : Int), (0 : Int)⟩ : RG), (⟨(2 : Int), (0 : Int)⟩ : RG), (⟨(2 : Int), (0 : Int)⟩ : RG), (⟨(2 : Int), (0 : Int)⟩ : RG), (⟨(2 : Int), (0 : Int)⟩ : RG), (⟨(1 : Int), (0 : Int)⟩ : RG), (⟨(1 : Int), (0 : Int)⟩ : RG), (⟨(1 : Int), (0 : Int)⟩ : RG), (⟨(1 : Int), (0 : Int)⟩ : RG), (⟨(1 : Int), (0 : Int)⟩ : RG), (⟨(1 : Int), (0 : Int)⟩ : RG), (⟨(1 : Int), (0 : Int)⟩ : RG), (⟨(1 : Int), (0 : Int)⟩ : RG)] : List RG).length, vn, vn, vn, vn, vn, vn, vn, vn, vn, vn, vn, vn, vn, vn, vn, vn, vn])) true (Zv rfl) <| kX κI true (Zv rfl) <| kR κx <| kR κg <| kR (Za RC κd) <| kR κm <| kR κe <| kR κe w4) (tC (tC (tC (tC (tC (tC (tC (tE) ⟨Eq.trans (show (vi ((1 : Nat) : Int) : Value) = vi (1 : Int) from (congrArg (Value.int .i64) (by first | rfl | omega))) (by rfl), by rfl⟩) ⟨Eq.trans (show (vi ((1 : Nat) : Int) : Value) = vi (1 : Int) from (congrArg (Value.int .i64) (by first | rfl | omega))) (by rfl), by rfl⟩) ⟨Eq.trans (show (vs 2 0 ([(⟨y4_10, y4_11⟩ : RG)] : List RG).length ([(⟨y4_10, y4_11⟩ : RG)] : List RG).length : Value) = vs 2 0 1 1 from (Z3 rfl eqA eqA)) (by rfl), by rfl⟩))))) (bM (.cells κz 132) <| bMf [] y4_7 [vn, vq, vf, Value.bool y4_8, vi y4_9, vi y4_10, vi y4_11, vi y4_12, vp 0 0, vq, (fnV y4_13)] <| bC (o := .cells [vi y4_10, vi y4_11] 42) (Zcc (E := RB) _ (L := ([(⟨y4_10, y4_11⟩ : RG)] : List RG)) _ (show ([vi y4_10, vi y4_11] : List Value) = Za RB ([(⟨y4_10, y4_11⟩ : RG)] : List RG) from rfl)) <| bS [vi (300 : Int), vs 6 0 κd.length κd.length, vs 7 0 y4_0.length y4_0.length, vn, vn, vn, vn, vn, vn, vn, vn, vn, vn, vn, vn, vn, vn, vn, vn, vn] <| bS [vs 8 0 5 5, vs 9 0 5 5] <| bS κx <| bM (.cells κg 211) <| bR <| bR <| bR <| bR <| bE) (show 1 ∈ Zt (Zx 1) from by decide +kernel)
   ·
    obtain rfl : y4_6 = false := by simpa using g5
    exact Mach.ok_none
  | r1 _ =>
   exact Mach.ok_none
  | r2 y4_0 y4_1 y4_2 y4_3 y4_4 =>
   refine Mach.ok_ite (fun _ => Mach.ok_none) (fun g5 => ?_)
   exact Mach.okN (Zh (oq [1, 10]) [(0, a1), (1, (a1 % (8 : Int))), (2, ((1 : Int) + (a1 % (8 : Int))))] [] [] [(1, (Zai c3 (1 :: (0 :: (rg 2 8 []))) 10).t), (2, (ZaP c4 (1 :: (0 :: (rg 2 8 []))) 10).t)]) (0 :: (1 :: (17 :: (rg 2 4 (10 :: (11 :: (8 :: [9]))))))) [some (ms (Zeu .u8) L0), some (Value.int .u8 a1), some (vp 0 0), some (vp 1 0), some (vs 17 0 1 1), some (vi (1 : Int)), some (vi (1 : Int))] (kE y4_4 (0 : Int) <| kKa (Zdi c4 (1 :: (0 :: (rg 2 8 []))) 10) <| kR (Zr Zd 1 [] ([(⟨(2 : Int), (0 : Int), (0 : Int), (0 : Int), (0 : Int), (0 : Int), (2 : Int), (3 : Int), (0 : Int), (0 : Int), (0 : Int), (0 : Int), (0 : Int), (0 : Int), (0 : Int), (0 : Int)⟩ : RK)] : List RK) [vn, vq, vf, vf, vq, vq, vq, vq, vp 0 0, vq, (fnV y3_0)]) <| kR κz <| kX (dP (κbe = [vi (300 : Int), vs 6 0 κd.length κd.length, vs 7 0 ([(⟨(0 : Int), (0 : Int)⟩ : RG), (⟨(2 : Int), (0 : Int)⟩ : RG), (⟨(2 : Int), (0 : Int)⟩ : RG), (⟨(2 : Int), (0 : Int)⟩ : RG), (⟨(2 : Int), (0 : Int)⟩ : RG), (⟨(2 : Int), (0 : Int)⟩ : RG), (⟨(2 : Int), (0 : Int)⟩ : RG), (⟨(2 : Int), (0 : Int)⟩ : RG), (⟨(2 : Int), (0 : Int)⟩ : RG), (⟨(1 : Int), (0 : Int)⟩ : RG), (⟨(1 : Int), (0 : Int)⟩ : RG), (⟨(1 : Int), (0 : Int)⟩ : RG), (⟨(1 : Int), (0 : Int)⟩ : RG), (⟨(1 : Int), (0 : Int)⟩ : RG), (⟨(1 : Int), (0 : Int)⟩ : RG), (⟨(1 : Int), (0 : Int)⟩ : RG), (⟨(1 : Int), (0 : Int)⟩ : RG)] : List RG).length ([(⟨(0 : Int), (0 : Int)⟩ : RG), (⟨(2 : Int), (0 : Int)⟩ : RG), (⟨(2 : Int), (0 : Int)⟩ : RG), (⟨(2 : Int), (0 : Int)⟩ : RG), (⟨(2 : Int), (0 : Int)⟩ : RG), (⟨(2 : Int), (0 : Int)⟩ : RG), (⟨(2 : Int), (0 : Int)⟩ : RG), (⟨(2 : Int), (0 : Int)⟩ : RG), (⟨(2 : Int), (0 : Int)⟩ : RG), (⟨(1 : Int), (0 : Int)⟩ : RG), (⟨(1 : Int), (0 : Int)⟩ : RG), (⟨(1 : Int), (0 : Int)⟩ : RG), (⟨(1 : Int), (0 : Int)⟩ : RG), (⟨(1 : Int), (0 : Int)⟩ : RG), (⟨(1 : Int), (0 : Int)⟩ : RG), (⟨(1 : Int), (0 : Int)⟩ : RG), (⟨(1 : Int), (0 : Int)⟩ : RG)] : List RG).length, vn, vn, vn, vn, vn, vn, vn, vn, vn, vn, vn, vn, vn, vn, vn, vn, vn])) true (Zv rfl) <| kX κI true (Zv rfl) <| kR κx <| kR κg <| kR (Za RC κd) <| kR κm <| kR κe <| kR κe w4) (tC (tC (tC (tC (tC (tC (tC (tE) ⟨Eq.trans (show (vi ((1 : Nat) : Int) : Value) = vi (1 : Int) from (congrArg (Value.int .i64) (by first | rfl | omega))) (by rfl), by rfl⟩) ⟨Eq.trans (show (vi ((1 : Nat) : Int) : Value) = vi (1 : Int) from (congrArg (Value.int .i64) (by first | rfl | omega))) (by rfl), by rfl⟩) ⟨Eq.trans (show (vs 2 0 ([(⟨y4_2, y4_3⟩ : RG)] : List RG).length ([(⟨y4_2, y4_3⟩ : RG)] : List RG).length : Value) = vs 2 0 1 1 from (Z3 rfl eqA eqA)) (by rfl), by rfl⟩))))) (bM (.cells κz 132) <| bM (.cells (Zr Zd 1 [] ([(⟨(2 : Int), (0 : Int), (0 : Int), (0 : Int), (0 : Int), (0 : Int), (2 : Int), (3 : Int), (0 : Int), (0 : Int), (0 : Int), (0 : Int), (0 : Int), (0 : Int), (0 : Int), (0 : Int)⟩ : RK)] : List RK) [vn, vq, vf, vT, vi (1 : Int), vi y4_2, vi y4_3, vi y4_4, vp 0 0, vq, Value.nilFunc]) 141) <| bC (o := .cells [vi y4_2, vi y4_3] 42) (Zcc (E := RB) _ (L := ([(⟨y4_2, y4_3⟩ : RG)] : List RG)) _ (show ([vi y4_2, vi y4_3] : List Value) = Za RB ([(⟨y4_2, y4_3⟩ : RG)] : List RG) from rfl)) <| bU2 [vi (300 : Int), vs 10 0 (κd.length + 3) (κd.length + 3), vs 11 0 κl κl, vn, vn, vn, vn, vn, vn, vn, vn, vn, vn, vn, vn, vn, vn, vn, vn, vn] 1 (show (vs 7 0 (κd.length + 3) (κd.length + 3) : Value) = vs 7 0 ((κd ++ (List.replicate 3 (⟨(0 : Int), (0 : Int), (0 : Int), (0 : Int), (0 : Int)⟩ : RI))).set κd.length (⟨(1 : Int), (2 : Int), (3 : Int), (1 : Int), (0 : Int)⟩ : RI)).length ((κd ++ (List.replicate 3 (⟨(0 : Int), (0 : Int), (0 : Int), (0 : Int), (0 : Int)⟩ : RI))).set κd.length (⟨(1 : Int), (2 : Int), (3 : Int), (1 : Int), (0 : Int)⟩ : RI)).length from Z3 rfl eqA eqA) 2 (show (vs 8 0 κl κl : Value) = vs 8 0 ((κO.set (κd.length + 1) (⟨(2 : Int), (0 : Int)⟩ : RG)).set (κd.length + 2) (⟨(2 : Int), (0 : Int)⟩ : RG)).length ((κO.set (κd.length + 1) (⟨(2 : Int), (0 : Int)⟩ : RG)).set (κd.length + 2) (⟨(2 : Int), (0 : Int)⟩ : RG)).length from Z3 rfl eqA eqA) <| bS [vs 8 0 5 5, vs 9 0 5 5] <| bS κx <| bM (.cells κg 211) <| bR <| bR <| bR <| bR <| bE) (show 1 ∈ Zt (Zx 1) from by decide +kernel)

noncomputable abbrev κ6 (v25 : List RI) (v26 : List RG) := [vi (300 : Int), vs 7 0 v25.length v25.length, vs 8 0 v26.length v26.length, vn, vn, vn, vn, vn, vn, vn, vn, vn, vn, vn, vn, vn, vn, vn, vn, vn]
noncomputable abbrev κf := (dP (κ2 = [vs 9 0 ([(0 : Int), (0 : Int), (0 : Int), (0 : Int), (0 : Int)] : List Int).length ([(0 : Int), (0 : Int), (0 : Int), (0 : Int), (0 : Int)] : List Int).length, vs 10 0 ([(0 : Int), (0 : Int), (0 : Int), (0 : Int), (0 : Int)] : List Int).length ([(0 : Int), (0 : Int), (0 : Int), (0 : Int), (0 : Int)] : List Int).length]))
theorem Zit (L0 : List Int) (a1 : Int) (v2 : List RG) (v3 v4 : Nat) (v14 : List RK) (v17 : Bool) (v18 v19 v20 v21 v23 : Int) (v25 : List RI) (v26 : List RG) (N : Nat) : (Z7 L0 a1 N).Ok Tryz.prog Zs (.h1m1 v2 v3 v4 v14 v17 v18 v19 v20 v21 v23 v25 v26 : law18_PlainSharesX) (ZU L0 a1 N (.h1m1 v2 v3 v4 v14 v17 v18 v19 v20 v21 v23 v25 v26 : law18_PlainSharesX)) := by
 show (Z7 L0 a1 N).Ok Tryz.prog Zs (.h1m1 v2 v3 v4 v14 v17 v18 v19 v20 v21 v23 v25 v26 : law18_PlainSharesX) (ZaK L0 a1 N v2 v3 v4 v14 v17 v18 v19 v20 v21 v23 v25 v26)
 unfold ZaK
 refine Mach.ok_ite (fun g0 => ?_) (fun _ => Mach.ok_none)
 refine Mach.ok_ite (fun g1 => ?_) (fun _ => Mach.ok_none)
 have w2 := kX ((i64.wrap a1) == a1) true (beq_iff_eq.2 (wrap_i64 ltA)) Zi
 refine Mach.ok_ite (fun g2 => ?_) (fun _ => Mach.ok_none)
 have w3 := kW ((1 : Int) + (a1 % (8 : Int))) ((1 : Int) + (a1 % (8 : Int))) <| kM a1 (8 : Int) w2
 refine Mach.ok_ite (fun g3 => ?_) (fun g3 => ?_)
 ·
  refine Mach.ok_bind (fun z4 c4 => ?_)
  cases z4 with
  | r0 y4_0 =>
   have w5 := kKa (Zbe c4 (1 :: (0 :: (rg 3 8 []))) 11) <| kR (Zr Zd 1 [] v14 [vn, vq, vf, Value.bool v17, vi v18, vi v19, vi v20, vi v21, vp 0 0, vq, (fnV v23)]) <| kR κb <| kR (κ6 v25 v26) <| kX κf true (Zv rfl) <| kR κx <| kR κg <| kR (Za RC v25) <| kR (Za RB v26) <| kR κe <| kR κe <| hY g3 w3
   refine Mach.ok_ite (fun g5 => ?_) (fun _ => Mach.ok_none)
   refine Mach.ok_bind (fun z6 c6 => ?_)
   cases z6 with
   | r0 y6_0 y6_1 y6_2 y6_3 y6_4 y6_5 y6_6 y6_7 y6_8 y6_9 y6_10 y6_11 y6_12 y6_13 =>
    refine Mach.ok_ite (fun g7 => ?_) (fun g7 => ?_)
    ·
     subst g7
     refine Mach.ok_ite (fun _ => Mach.ok_none) (fun g8 => ?_)
     refine Mach.ok_ite (fun g9 => ?_) (fun _ => Mach.ok_none)
     exact Mach.okN (Zh (oq [1, 10]) [(0, a1), (1, (a1 % (8 : Int))), (2, ((1 : Int) + (a1 % (8 : Int)))), (3, (((v3 + 1) : Nat) : Int)), (4, (((v4 + 1) : Nat) : Int))] [] [] [(1, (Zai c4 (1 :: (0 :: (rg 3 8 []))) 11).t), (2, (Zaq c6 (1 :: (0 :: (rg 3 8 []))) 11).t), (7, .ap 1 [vi y6_10, vi y6_11] (Za RB (v2 ++ ([(⟨y6_10, y6_11⟩ : RG)] : List RG))))]) (0 :: (1 :: (16 :: (rg 3 8 [])))) [some (ms (Zeu .u8) L0), some (Value.int .u8 a1), some (vp 0 0), some (vp 1 0), some (vs 16 0 (v2.length + 1) (v2.length + 1)), some (κ4 v3), some (vi (((v4 + 1) : Nat) : Int))] (kW ((v4 : Int) + (1 : Int)) (((v4 + 1) : Nat) : Int) <| kA RB v2 (⟨y6_10, y6_11⟩ : RG) <| kE y6_12 (0 : Int) <| kKa (Zcn c6 (1 :: (0 :: (rg 3 8 []))) 11) <| kR (Zr Zd 1 [] ([(⟨(2 : Int), (0 : Int), (0 : Int), (0 : Int), (0 : Int), (0 : Int), (2 : Int), (3 : Int), (0 : Int), (0 : Int), (0 : Int), (0 : Int), (0 : Int), (0 : Int), (0 : Int), (0 : Int)⟩ : RK)] : List RK) [vn, vq, vf, vf, vi v18, vq, vq, vq, vp 0 0, vq, (fnV y4_0)]) <| kR κb <| kR (κ6 v25 v26) <| kX κf true (Zv rfl) <| kR κx <| kR κg <| kR (Za RC v25) <| kR (Za RB v26) <| kR κe <| kR κe <| kW ((v3 : Int) + (1 : Int)) (((v3 + 1) : Nat) : Int) w5) (tC (tC (tC (tC (tC (tC (tC (tE))) ⟨Eq.trans (show (vs 2 0 (v2 ++ ([(⟨y6_10, y6_11⟩ : RG)] : List RG)).length (v2 ++ ([(⟨y6_10, y6_11⟩ : RG)] : List RG)).length : Value) = vs 2 0 (v2.length + 1) (v2.length + 1) from (Z3 rfl eqA eqA)) (by rfl), by rfl⟩))))) (bM (.cells κb 132) <| bMf [] y6_7 [vn, vq, vf, Value.bool y6_8, vi y6_9, vi y6_10, vi y6_11, vi y6_12, vp 0 0, vq, (fnV y6_13)] <| bR <| bS [vi (300 : Int), vs 7 0 v25.length v25.length, vs 8 0 y6_0.length y6_0.length, vn, vn, vn, vn, vn, vn, vn, vn, vn, vn, vn, vn, vn, vn, vn, vn, vn] <| bS κ2 <| bS κx <| bM (.cells κg 211) <| bR <| bR <| bR <| bR <| bE) (show 1 ∈ Zt (Zx 1) from by decide +kernel)
    ·
     obtain rfl : y6_6 = false := by simpa using g7
     exact Mach.ok_none
   | r1 _ =>
    exact Mach.ok_none
   | r2 y6_0 y6_1 y6_2 y6_3 y6_4 =>
    refine Mach.ok_ite (fun _ => Mach.ok_none) (fun g7 => ?_)
    refine Mach.ok_ite (fun g8 => ?_) (fun _ => Mach.ok_none)
    exact Mach.okN (Zh (oq [1, 10]) [(0, a1), (1, (a1 % (8 : Int))), (2, ((1 : Int) + (a1 % (8 : Int)))), (3, (((v3 + 1) : Nat) : Int)), (4, (((v4 + 1) : Nat) : Int))] [] [] [(1, (Zai c4 (1 :: (0 :: (rg 3 8 []))) 11).t), (2, (ZaP c6 (1 :: (0 :: (rg 3 8 []))) 11).t), (7, .ap 1 [vi y6_2, vi y6_3] (Za RB (v2 ++ ([(⟨y6_2, y6_3⟩ : RG)] : List RG))))]) (0 :: (1 :: (18 :: (rg 3 4 (11 :: (12 :: (9 :: [10]))))))) [some (ms (Zeu .u8) L0), some (Value.int .u8 a1), some (vp 0 0), some (vp 1 0), some (vs 18 0 (v2.length + 1) (v2.length + 1)), some (κ4 v3), some (vi (((v4 + 1) : Nat) : Int))] (kW ((v4 : Int) + (1 : Int)) (((v4 + 1) : Nat) : Int) <| kA RB v2 (⟨y6_2, y6_3⟩ : RG) <| kE y6_4 (0 : Int) <| kKa (Zdi c6 (1 :: (0 :: (rg 3 8 []))) 11) <| kR (Zr Zd 1 [] ([(⟨(2 : Int), (0 : Int), (0 : Int), (0 : Int), (0 : Int), (0 : Int), (2 : Int), (3 : Int), (0 : Int), (0 : Int), (0 : Int), (0 : Int), (0 : Int), (0 : Int), (0 : Int), (0 : Int)⟩ : RK)] : List RK) [vn, vq, vf, vf, vi v18, vq, vq, vq, vp 0 0, vq, (fnV y4_0)]) <| kR κb <| kR (κ6 v25 v26) <| kX κf true (Zv rfl) <| kR κx <| kR κg <| kR (Za RC v25) <| kR (Za RB v26) <| kR κe <| kR κe <| kW ((v3 : Int) + (1 : Int)) (((v3 + 1) : Nat) : Int) w5) (tC (tC (tC (tC (tC (tC (tC (tE))) ⟨Eq.trans (show (vs 2 0 (v2 ++ ([(⟨y6_2, y6_3⟩ : RG)] : List RG)).length (v2 ++ ([(⟨y6_2, y6_3⟩ : RG)] : List RG)).length : Value) = vs 2 0 (v2.length + 1) (v2.length + 1) from (Z3 rfl eqA eqA)) (by rfl), by rfl⟩))))) (bM (.cells κb 132) <| bM (.cells (Zr Zd 1 [] ([(⟨(2 : Int), (0 : Int), (0 : Int), (0 : Int), (0 : Int), (0 : Int), (2 : Int), (3 : Int), (0 : Int), (0 : Int), (0 : Int), (0 : Int), (0 : Int), (0 : Int), (0 : Int), (0 : Int)⟩ : RK)] : List RK) [vn, vq, vf, vT, vi (((v3 + 1) : Nat) : Int), vi y6_2, vi y6_3, vi y6_4, vp 0 0, vq, Value.nilFunc]) 141) <| bR <| bU2 [vi (300 : Int), vs 11 0 (v25.length + 3) (v25.length + 3), vs 12 0 (v26.length + 3) (v26.length + 3), vn, vn, vn, vn, vn, vn, vn, vn, vn, vn, vn, vn, vn, vn, vn, vn, vn] 1 (show (vs 7 0 (v25.length + 3) (v25.length + 3) : Value) = vs 7 0 ((v25 ++ (List.replicate 3 (⟨(0 : Int), (0 : Int), (0 : Int), (0 : Int), (0 : Int)⟩ : RI))).set v25.length (⟨(1 : Int), (2 : Int), (3 : Int), (1 : Int), (0 : Int)⟩ : RI)).length ((v25 ++ (List.replicate 3 (⟨(0 : Int), (0 : Int), (0 : Int), (0 : Int), (0 : Int)⟩ : RI))).set v25.length (⟨(1 : Int), (2 : Int), (3 : Int), (1 : Int), (0 : Int)⟩ : RI)).length from Z3 rfl eqA eqA) 2 (show (vs 8 0 (v26.length + 3) (v26.length + 3) : Value) = vs 8 0 (((v26 ++ (List.replicate 3 (⟨(0 : Int), (0 : Int)⟩ : RG))).set (v25.length + 1) (⟨(2 : Int), (0 : Int)⟩ : RG)).set (v25.length + 2) (⟨(2 : Int), (0 : Int)⟩ : RG)).length (((v26 ++ (List.replicate 3 (⟨(0 : Int), (0 : Int)⟩ : RG))).set (v25.length + 1) (⟨(2 : Int), (0 : Int)⟩ : RG)).set (v25.length + 2) (⟨(2 : Int), (0 : Int)⟩ : RG)).length from Z3 rfl eqA eqA) <| bS κ2 <| bS κx <| bM (.cells κg 211) <| bR <| bR <| bR <| bR <| bE) (show 1 ∈ Zt (Zx 1) from by decide +kernel)
 ·
  exact Mach.okH (Zq 2) (Zh (oq [0]) [(0, a1), (1, (a1 % (8 : Int))), (2, ((1 : Int) + (a1 % (8 : Int))))] [] [] []) (rg 0 11 []) [some (ms (Zeu .u8) L0), some (vp 0 0), some (vp 1 0), some (vs 2 0 v2.length v2.length), some (vi (v3 : Int)), some (vq)] (hN g3 w3) (tC (tC (tC (tC (tC (tC (tE) ⟨Eq.trans (show κ9 = vq from (congrArg (Value.int .i64) (by first | rfl | omega))) (by rfl), by rfl⟩)))))) (bM (.cells κb 132) <| bMf [] v14 [vn, vq, vf, Value.bool v17, vi v18, vi v19, vi v20, vi v21, vp 0 0, vq, (fnV v23)] <| bR <| bS (κ6 v25 v26) <| bS κ2 <| bS κx <| bM (.cells κg 211) <| bR <| bR <| bR <| bR <| bE) (show ∀ j ∈ Zt (Zq 2).2, j ∈ Zt (Zx 1) from by decide +kernel)

noncomputable abbrev κB (v13 : List RK) (v16 : Bool) (v17 : Int) (v18 : Int) (v19 : Int) (v20 : Int) (v22 : Int) := (Zr Zd 1 [] v13 [vn, vq, vf, Value.bool v16, vi v17, vi v18, vi v19, vi v20, vp 0 0, vq, (fnV v22)])
noncomputable abbrev κr (v24 : List RI) (v25 : List RG) := [vi (300 : Int), vs 7 0 v24.length v24.length, vs 8 0 v25.length v25.length, vn, vn, vn, vn, vn, vn, vn, vn, vn, vn, vn, vn, vn, vn, vn, vn, vn]
theorem Ziu (L0 : List Int) (a1 : Int) (v1 : List RG) (v2 v3 : Nat) (v13 : List RK) (v16 : Bool) (v17 v18 v19 v20 v22 : Int) (v24 : List RI) (v25 : List RG) (N : Nat) : (Z7 L0 a1 N).Ok Tryz.prog Zs (.h2m0 v1 v2 v3 v13 v16 v17 v18 v19 v20 v22 v24 v25 : law18_PlainSharesX) (ZU L0 a1 N (.h2m0 v1 v2 v3 v13 v16 v17 v18 v19 v20 v22 v24 v25 : law18_PlainSharesX)) := by
 show (Z7 L0 a1 N).Ok Tryz.prog Zs (.h2m0 v1 v2 v3 v13 v16 v17 v18 v19 v20 v22 v24 v25 : law18_PlainSharesX) (ZaL L0 a1 N v1 v2 v3 v13 v16 v17 v18 v19 v20 v22 v24 v25)
 unfold ZaL
 refine Mach.ok_ite (fun g0 => ?_) (fun g0 => ?_)
 ·
  refine Mach.ok_ite (fun g1 => ?_) (fun g1 => ?_)
  ·
   refine Mach.ok_ite (fun g2 => ?_) (fun _ => Mach.ok_none)
   have w3 := kX (dP (i64 = i64 ∧ (v1.length : Int) ≠ 0)) true (Zv ⟨rfl, by omega⟩) <| kV (v3 : Int) (2 : Int) <| hY g1 <| hY g0 Zi
   refine Mach.ok_ite (fun g3 => ?_) (fun _ => Mach.ok_none)
   refine Mach.ok_ite (fun g4 => ?_) (fun _ => Mach.ok_none)
   have w5 := kG (Zeu .u8) L0 (0 + (v3 * 1)) v3 0 1 1 <| kB v3 L0.length <| kI (v3 : Int) (Int.ofNat v3) <| kM (v3 : Int) (2 : Int) <| kLn RB v1 (((Int.tmod ((v3 : Int) / (2 : Int)) (v1.length : Int))).toNat) 0 2 <| kB ((Int.tmod ((v3 : Int) / (2 : Int)) (v1.length : Int))).toNat v1.length <| kI (Int.tmod ((v3 : Int) / (2 : Int)) (v1.length : Int)) (Int.ofNat ((Int.tmod ((v3 : Int) / (2 : Int)) (v1.length : Int))).toNat) w3
   refine Mach.ok_ite (fun g5 => ?_) (fun _ => Mach.ok_none)
   refine Mach.ok_ite (fun g6 => ?_) (fun _ => Mach.ok_none)
   have w7 := kX (dP (i64 = i64 ∧ (v1.length : Int) ≠ 0)) true (Zv ⟨rfl, by omega⟩) <| kX ((i64.wrap (L0.getD v3 0)) == (L0.getD v3 0)) true (beq_iff_eq.2 (wrap_i64 ltA)) w5
   refine Mach.ok_ite (fun g7 => ?_) (fun _ => Mach.ok_none)
   refine Mach.ok_ite (fun g8 => ?_) (fun _ => Mach.ok_none)
   have w9 := kLn RB v1 (((Int.tmod (L0.getD v3 0) (v1.length : Int))).toNat) 0 2 <| kB ((Int.tmod (L0.getD v3 0) (v1.length : Int))).toNat v1.length <| kI (Int.tmod (L0.getD v3 0) (v1.length : Int)) (Int.ofNat ((Int.tmod (L0.getD v3 0) (v1.length : Int))).toNat) w7
   refine Mach.ok_bind (fun z9 c9 => ?_)
   cases z9 with
   | r0 y9_0 =>
    have w10 := kKa (Zbe c9 (1 :: (0 :: (rg 3 8 []))) 13) <| kR (κB v13 v16 v17 v18 v19 v20 v22) <| kR κb <| kR (κr v24 v25) <| kX κf true (Zv rfl) <| kR κx <| kR κg <| kR (Za RC v24) <| kR (Za RB v25) <| kR κe <| kR κe w9
    refine Mach.ok_ite (fun g10 => ?_) (fun _ => Mach.ok_none)
    refine Mach.ok_bind (fun z11 c11 => ?_)
    cases z11 with
    | r0 y11_0 y11_1 y11_2 y11_3 y11_4 y11_5 y11_6 y11_7 y11_8 y11_9 y11_10 y11_11 y11_12 y11_13 =>
     refine Mach.ok_ite (fun g12 => ?_) (fun g12 => ?_)
     ·
      subst g12
      refine Mach.ok_ite (fun _ => Mach.ok_none) (fun g13 => ?_)
      exact Mach.okN (Zh (oq [1, 3, 12]) [(0, ((v3 : Int) / (2 : Int))), (2, ((v3 : Int) % (2 : Int))), (3, (L0.getD v3 0)), (5, (((v2 + 1) : Nat) : Int)), (6, (((v3 + 1) : Nat) : Int))] [(0, ((Int.tmod ((v3 : Int) / (2 : Int)) (v1.length : Int))).toNat), (1, v3), (2, ((Int.tmod (L0.getD v3 0) (v1.length : Int))).toNat)] [(0, (RB.cel (v1.getD ((Int.tmod ((v3 : Int) / (2 : Int)) (v1.length : Int))).toNat RG.z))), (1, [.k .u8 (L0.getD v3 0)]), (2, (RB.cel (v1.getD ((Int.tmod (L0.getD v3 0) (v1.length : Int))).toNat RG.z)))] [(0, .dv), (2, .dv), (3, (Zai c9 (1 :: (0 :: (rg 3 8 []))) 13).t), (4, (Zaq c11 (1 :: (0 :: (rg 3 8 []))) 13).t)]) (rg 0 11 []) [some (ms (Zeu .u8) L0), some (vp 0 0), some (vp 1 0), some (vs 2 0 v1.length v1.length), some (vi (((v2 + 1) : Nat) : Int)), some (κ4 v3)] (kW ((v3 : Int) + (1 : Int)) (((v3 + 1) : Nat) : Int) <| kE y11_12 (0 : Int) <| kKa (Zcn c11 (1 :: (0 :: (rg 3 8 []))) 13) <| kR (Zr Zd 1 [] ([(⟨(1 : Int), (v1.getD ((Int.tmod ((v3 : Int) / (2 : Int)) (v1.length : Int))).toNat RG.z).a0, (v1.getD ((Int.tmod ((v3 : Int) / (2 : Int)) (v1.length : Int))).toNat RG.z).a1, ((v3 : Int) % (2 : Int)), (v1.getD ((Int.tmod (L0.getD v3 0) (v1.length : Int))).toNat RG.z).a0, (v1.getD ((Int.tmod (L0.getD v3 0) (v1.length : Int))).toNat RG.z).a1, (0 : Int), (0 : Int), (0 : Int), (0 : Int), (0 : Int), (0 : Int), (0 : Int), (0 : Int), (0 : Int), (0 : Int)⟩ : RK)] : List RK) [vn, vq, vf, vf, vi v17, vq, vq, vq, vp 0 0, vq, (fnV y9_0)]) <| kR κb <| kR (κr v24 v25) <| kX κf true (Zv rfl) <| kR κx <| kR κg <| kR (Za RC v24) <| kR (Za RB v25) <| kR κe <| kR κe <| kW ((v2 : Int) + (1 : Int)) (((v2 + 1) : Nat) : Int) w10) (tC (tC (tC (tC (tC (tC (tE))))))) (bM (.cells κb 132) <| bMf [] y11_7 [vn, vq, vf, Value.bool y11_8, vi y11_9, vi y11_10, vi y11_11, vi y11_12, vp 0 0, vq, (fnV y11_13)] <| bR <| bS [vi (300 : Int), vs 7 0 v24.length v24.length, vs 8 0 y11_0.length y11_0.length, vn, vn, vn, vn, vn, vn, vn, vn, vn, vn, vn, vn, vn, vn, vn, vn, vn] <| bS κ2 <| bS κx <| bM (.cells κg 211) <| bR <| bR <| bR <| bR <| bE) (show 2 ∈ Zt (Zx 2) from by decide +kernel)
     ·
      obtain rfl : y11_6 = false := by simpa using g12
      exact Mach.ok_none
    | r1 _ =>
     exact Mach.ok_none
    | r2 y11_0 y11_1 y11_2 y11_3 y11_4 =>
     refine Mach.ok_ite (fun _ => Mach.ok_none) (fun g12 => ?_)
     exact Mach.okN (Zh (oq [1, 3, 12]) [(0, ((v3 : Int) / (2 : Int))), (2, ((v3 : Int) % (2 : Int))), (3, (L0.getD v3 0)), (5, (((v2 + 1) : Nat) : Int)), (6, (((v3 + 1) : Nat) : Int))] [(0, ((Int.tmod ((v3 : Int) / (2 : Int)) (v1.length : Int))).toNat), (1, v3), (2, ((Int.tmod (L0.getD v3 0) (v1.length : Int))).toNat)] [(0, (RB.cel (v1.getD ((Int.tmod ((v3 : Int) / (2 : Int)) (v1.length : Int))).toNat RG.z))), (1, [.k .u8 (L0.getD v3 0)]), (2, (RB.cel (v1.getD ((Int.tmod (L0.getD v3 0) (v1.length : Int))).toNat RG.z)))] [(0, .dv), (2, .dv), (3, (Zai c9 (1 :: (0 :: (rg 3 8 []))) 13).t), (4, (ZaP c11 (1 :: (0 :: (rg 3 8 []))) 13).t)]) (rg 0 7 (13 :: (14 :: (9 :: [10])))) [some (ms (Zeu .u8) L0), some (vp 0 0), some (vp 1 0), some (vs 2 0 v1.length v1.length), some (vi (((v2 + 1) : Nat) : Int)), some (κ4 v3)] (kW ((v3 : Int) + (1 : Int)) (((v3 + 1) : Nat) : Int) <| kE y11_4 (0 : Int) <| kKa (Zdi c11 (1 :: (0 :: (rg 3 8 []))) 13) <| kR (Zr Zd 1 [] ([(⟨(1 : Int), (v1.getD ((Int.tmod ((v3 : Int) / (2 : Int)) (v1.length : Int))).toNat RG.z).a0, (v1.getD ((Int.tmod ((v3 : Int) / (2 : Int)) (v1.length : Int))).toNat RG.z).a1, ((v3 : Int) % (2 : Int)), (v1.getD ((Int.tmod (L0.getD v3 0) (v1.length : Int))).toNat RG.z).a0, (v1.getD ((Int.tmod (L0.getD v3 0) (v1.length : Int))).toNat RG.z).a1, (0 : Int), (0 : Int), (0 : Int), (0 : Int), (0 : Int), (0 : Int), (0 : Int), (0 : Int), (0 : Int), (0 : Int)⟩ : RK)] : List RK) [vn, vq, vf, vf, vi v17, vq, vq, vq, vp 0 0, vq, (fnV y9_0)]) <| kR κb <| kR (κr v24 v25) <| kX κf true (Zv rfl) <| kR κx <| kR κg <| kR (Za RC v24) <| kR (Za RB v25) <| kR κe <| kR κe <| kW ((v2 : Int) + (1 : Int)) (((v2 + 1) : Nat) : Int) w10) (tC (tC (tC (tC (tC (tC (tE))))))) (bM (.cells κb 132) <| bM (.cells (Zr Zd 1 [] ([(⟨(1 : Int), (v1.getD ((Int.tmod ((v3 : Int) / (2 : Int)) (v1.length : Int))).toNat RG.z).a0, (v1.getD ((Int.tmod ((v3 : Int) / (2 : Int)) (v1.length : Int))).toNat RG.z).a1, ((v3 : Int) % (2 : Int)), (v1.getD ((Int.tmod (L0.getD v3 0) (v1.length : Int))).toNat RG.z).a0, (v1.getD ((Int.tmod (L0.getD v3 0) (v1.length : Int))).toNat RG.z).a1, (0 : Int), (0 : Int), (0 : Int), (0 : Int), (0 : Int), (0 : Int), (0 : Int), (0 : Int), (0 : Int), (0 : Int)⟩ : RK)] : List RK) [vn, vq, vf, vT, vi (((v2 + 1) : Nat) : Int), vi y11_2, vi y11_3, vi y11_4, vp 0 0, vq, Value.nilFunc]) 141) <| bR <| bU2 [vi (300 : Int), vs 13 0 (v24.length + 3) (v24.length + 3), vs 14 0 (v25.length + 3) (v25.length + 3), vn, vn, vn, vn, vn, vn, vn, vn, vn, vn, vn, vn, vn, vn, vn, vn, vn] 1 (show (vs 7 0 (v24.length + 3) (v24.length + 3) : Value) = vs 7 0 ((v24 ++ (List.replicate 3 (⟨(0 : Int), (0 : Int), (0 : Int), (0 : Int), (0 : Int)⟩ : RI))).set v24.length (⟨(1 : Int), (2 : Int), (3 : Int), (1 : Int), (0 : Int)⟩ : RI)).length ((v24 ++ (List.replicate 3 (⟨(0 : Int), (0 : Int), (0 : Int), (0 : Int), (0 : Int)⟩ : RI))).set v24.length (⟨(1 : Int), (2 : Int), (3 : Int), (1 : Int), (0 : Int)⟩ : RI)).length from Z3 rfl eqA eqA) 2 (show (vs 8 0 (v25.length + 3) (v25.length + 3) : Value) = vs 8 0 (((v25 ++ (List.replicate 3 (⟨(0 : Int), (0 : Int)⟩ : RG))).set (v24.length + 1) (⟨(2 : Int), (0 : Int)⟩ : RG)).set (v24.length + 2) (⟨(2 : Int), (0 : Int)⟩ : RG)).length (((v25 ++ (List.replicate 3 (⟨(0 : Int), (0 : Int)⟩ : RG))).set (v24.length + 1) (⟨(2 : Int), (0 : Int)⟩ : RG)).set (v24.length + 2) (⟨(2 : Int), (0 : Int)⟩ : RG)).length from Z3 rfl eqA eqA) <| bS κ2 <| bS κx <| bM (.cells κg 211) <| bR <| bR <| bR <| bR <| bE) (show 2 ∈ Zt (Zx 2) from by decide +kernel)
  ·
   refine Mach.ok_bind (fun z2 c2 => ?_)
   cases z2 with
   | r0 =>
    refine Mach.ok_ite (fun g3 => ?_) (fun _ => Mach.ok_none)
    refine Mach.ok_bind (fun z4 c4 => ?_)
    cases z4 with
    | r0 =>
     exact Mach.ok_none
    | r1 y4_0 =>
     refine Mach.ok_bind (fun z5 c5 => ?_)
     cases z5 with
     | r0 y5_0 =>
      exact Mach.okH (Zq 3) (Zh (oq [1, 2]) [] [(0, 0), (1, 0)] [(2, (RB.cel (v1.getD 0 RG.z))), (4, (RB.cel (v1.getD 0 RG.z)))] [(0, (Zck c2 [3, 7, 8] 11).t), (1, (Zd0 c4 [] 11).t), (6, (Zai c5 (1 :: (0 :: (rg 3 8 []))) 18).t)]) (0 :: (1 :: (2 :: (11 :: (rg 3 8 []))))) [some (vp 0 0), some (vp 1 0), some (vs 2 0 v1.length v1.length), some (vi (v2 : Int)), some (vs 11 0 y4_0.length y4_0.length), some (vq)] (kKa (Zbe c5 (1 :: (0 :: (rg 3 8 []))) 18) <| kR (κB v13 v16 v17 v18 v19 v20 v22) <| kR κb <| kR (κr v24 v25) <| kX κf true (Zv rfl) <| kR κx <| kR κg <| kR (Za RC v24) <| kR (Za RB v25) <| kR κe <| kR κe <| kLn RB v1 0 0 2 <| kB 0 v1.length <| kI (0 : Int) (Int.ofNat 0) <| kK (Ze4 c4 [] 11) <| kLn RB v1 0 0 2 <| kB 0 v1.length <| kI (0 : Int) (Int.ofNat 0) <| kK (Zdf c2 [3, 7, 8] 11) <| hN g1 <| hY g0 Zi) (tC (tC (tC (tC (tC (tC (tE) ⟨Eq.trans (show κ9 = vq from (congrArg (Value.int .i64) (by first | rfl | omega))) (by rfl), by rfl⟩)))))) (bM (.cells κb 132) <| bMf [] ([(⟨(1 : Int), (2 : Int), (1048577 : Int), (0 : Int), (v1.getD 0 RG.z).a0, (v1.getD 0 RG.z).a1, (0 : Int), (0 : Int), (0 : Int), (0 : Int), (0 : Int), (0 : Int), (0 : Int), (0 : Int), (0 : Int), (0 : Int)⟩ : RK)] : List RK) [vn, vq, vf, vf, vi v17, vq, vq, vq, vp 0 0, vq, (fnV y5_0)] <| bR <| bR <| bS (κr v24 v25) <| bS κ2 <| bS κx <| bM (.cells κg 211) <| bR <| bR <| bR <| bR <| bE) (show ∀ j ∈ Zt (Zq 3).2, j ∈ Zt (Zx 2) from by decide +kernel)
   | r1 y2_0 =>
    refine Mach.ok_ite (fun g3 => ?_) (fun _ => Mach.ok_none)
    refine Mach.ok_bind (fun z4 c4 => ?_)
    cases z4 with
    | r0 =>
     exact Mach.ok_none
    | r1 y4_0 =>
     refine Mach.ok_bind (fun z5 c5 => ?_)
     cases z5 with
     | r0 y5_0 =>
      exact Mach.okH (Zq 3) (Zh (oq [1, 2]) [] [(0, 0), (1, 0)] [(2, (RB.cel (v1.getD 0 RG.z))), (4, (RB.cel (v1.getD 0 RG.z)))] [(0, (Zcl c2 [3, 7, 8] 11).t), (1, (Zd0 c4 [] 11).t), (6, (Zai c5 (1 :: (0 :: (rg 3 8 []))) 18).t)]) (0 :: (1 :: (2 :: (11 :: (rg 3 8 []))))) [some (vp 0 0), some (vp 1 0), some (vs 2 0 v1.length v1.length), some (vi (v2 : Int)), some (vs 11 0 y4_0.length y4_0.length), some (vq)] (kKa (Zbe c5 (1 :: (0 :: (rg 3 8 []))) 18) <| kR (κB v13 v16 v17 v18 v19 v20 v22) <| kR κb <| kR (κr v24 v25) <| kX κf true (Zv rfl) <| kR κx <| kR κg <| kR (Za RC v24) <| kR (Za RB v25) <| kR κe <| kR κe <| kLn RB v1 0 0 2 <| kB 0 v1.length <| kI (0 : Int) (Int.ofNat 0) <| kK (Ze4 c4 [] 11) <| kLn RB v1 0 0 2 <| kB 0 v1.length <| kI (0 : Int) (Int.ofNat 0) <| kK (Zdg c2 [3, 7, 8] 11) <| hN g1 <| hY g0 Zi) (tC (tC (tC (tC (tC (tC (tE) ⟨Eq.trans (show κ9 = vq from (congrArg (Value.int .i64) (by first | rfl | omega))) (by rfl), by rfl⟩)))))) (bM (.cells κb 132) <| bMf [] ([(⟨(1 : Int), (2 : Int), (1048577 : Int), (0 : Int), (v1.getD 0 RG.z).a0, (v1.getD 0 RG.z).a1, (0 : Int), (0 : Int), (0 : Int), (0 : Int), (0 : Int), (0 : Int), (0 : Int), (0 : Int), (0 : Int), (0 : Int)⟩ : RK)] : List RK) [vn, vq, vf, vf, vi v17, vq, vq, vq, vp 0 0, vq, (fnV y5_0)] <| bR <| bR <| bS (κr v24 v25) <| bS κ2 <| bS κx <| bM (.cells κg 211) <| bR <| bR <| bR <| bR <| bE) (show ∀ j ∈ Zt (Zq 3).2, j ∈ Zt (Zx 2) from by decide +kernel)
 ·
  refine Mach.ok_bind (fun z1 c1 => ?_)
  cases z1 with
  | r0 =>
   refine Mach.ok_ite (fun g2 => ?_) (fun _ => Mach.ok_none)
   refine Mach.ok_bind (fun z3 c3 => ?_)
   cases z3 with
   | r0 =>
    exact Mach.ok_none
   | r1 y3_0 =>
    refine Mach.ok_bind (fun z4 c4 => ?_)
    cases z4 with
    | r0 y4_0 =>
     exact Mach.okH (Zq 3) (Zh (oq [0]) [] [(0, 0), (1, 0)] [(2, (RB.cel (v1.getD 0 RG.z))), (4, (RB.cel (v1.getD 0 RG.z)))] [(0, (Zck c1 [3, 7, 8] 11).t), (1, (Zd0 c3 [] 11).t), (6, (Zai c4 (1 :: (0 :: (rg 3 8 []))) 18).t)]) (0 :: (1 :: (2 :: (11 :: (rg 3 8 []))))) [some (vp 0 0), some (vp 1 0), some (vs 2 0 v1.length v1.length), some (vi (v2 : Int)), some (vs 11 0 y3_0.length y3_0.length), some (vq)] (kKa (Zbe c4 (1 :: (0 :: (rg 3 8 []))) 18) <| kR (κB v13 v16 v17 v18 v19 v20 v22) <| kR κb <| kR (κr v24 v25) <| kX κf true (Zv rfl) <| kR κx <| kR κg <| kR (Za RC v24) <| kR (Za RB v25) <| kR κe <| kR κe <| kLn RB v1 0 0 2 <| kB 0 v1.length <| kI (0 : Int) (Int.ofNat 0) <| kK (Ze4 c3 [] 11) <| kLn RB v1 0 0 2 <| kB 0 v1.length <| kI (0 : Int) (Int.ofNat 0) <| kK (Zdf c1 [3, 7, 8] 11) <| hN g0 Zi) (tC (tC (tC (tC (tC (tC (tE) ⟨Eq.trans (show κ9 = vq from (congrArg (Value.int .i64) (by first | rfl | omega))) (by rfl), by rfl⟩)))))) (bM (.cells κb 132) <| bMf [] ([(⟨(1 : Int), (2 : Int), (1048577 : Int), (0 : Int), (v1.getD 0 RG.z).a0, (v1.getD 0 RG.z).a1, (0 : Int), (0 : Int), (0 : Int), (0 : Int), (0 : Int), (0 : Int), (0 : Int), (0 : Int), (0 : Int), (0 : Int)⟩ : RK)] : List RK) [vn, vq, vf, vf, vi v17, vq, vq, vq, vp 0 0, vq, (fnV y4_0)] <| bR <| bR <| bS (κr v24 v25) <| bS κ2 <| bS κx <| bM (.cells κg 211) <| bR <| bR <| bR <| bR <| bE) (show ∀ j ∈ Zt (Zq 3).2, j ∈ Zt (Zx 2) from by decide +kernel)
  | r1 y1_0 =>
   refine Mach.ok_ite (fun g2 => ?_) (fun _ => Mach.ok_none)
   refine Mach.ok_bind (fun z3 c3 => ?_)
   cases z3 with
   | r0 =>
    exact Mach.ok_none
   | r1 y3_0 =>
    refine Mach.ok_bind (fun z4 c4 => ?_)
    cases z4 with
    | r0 y4_0 =>
     exact Mach.okH (Zq 3) (Zh (oq [0]) [] [(0, 0), (1, 0)] [(2, (RB.cel (v1.getD 0 RG.z))), (4, (RB.cel (v1.getD 0 RG.z)))] [(0, (Zcl c1 [3, 7, 8] 11).t), (1, (Zd0 c3 [] 11).t), (6, (Zai c4 (1 :: (0 :: (rg 3 8 []))) 18).t)]) (0 :: (1 :: (2 :: (11 :: (rg 3 8 []))))) [some (vp 0 0), some (vp 1 0), some (vs 2 0 v1.length v1.length), some (vi (v2 : Int)), some (vs 11 0 y3_0.length y3_0.length), some (vq)] (kKa (Zbe c4 (1 :: (0 :: (rg 3 8 []))) 18) <| kR (κB v13 v16 v17 v18 v19 v20 v22) <| kR κb <| kR (κr v24 v25) <| kX κf true (Zv rfl) <| kR κx <| kR κg <| kR (Za RC v24) <| kR (Za RB v25) <| kR κe <| kR κe <| kLn RB v1 0 0 2 <| kB 0 v1.length <| kI (0 : Int) (Int.ofNat 0) <| kK (Ze4 c3 [] 11) <| kLn RB v1 0 0 2 <| kB 0 v1.length <| kI (0 : Int) (Int.ofNat 0) <| kK (Zdg c1 [3, 7, 8] 11) <| hN g0 Zi) (tC (tC (tC (tC (tC (tC (tE) ⟨Eq.trans (show κ9 = vq from (congrArg (Value.int .i64) (by first | rfl | omega))) (by rfl), by rfl⟩)))))) (bM (.cells κb 132) <| bMf [] ([(⟨(1 : Int), (2 : Int), (1048577 : Int), (0 : Int), (v1.getD 0 RG.z).a0, (v1.getD 0 RG.z).a1, (0 : Int), (0 : Int), (0 : Int), (0 : Int), (0 : Int), (0 : Int), (0 : Int), (0 : Int), (0 : Int), (0 : Int)⟩ : RK)] : List RK) [vn, vq, vf, vf, vi v17, vq, vq, vq, vp 0 0, vq, (fnV y4_0)] <| bR <| bR <| bS (κr v24 v25) <| bS κ2 <| bS κx <| bM (.cells κg 211) <| bR <| bR <| bR <| bR <| bE) (show ∀ j ∈ Zt (Zq 3).2, j ∈ Zt (Zx 2) from by decide +kernel)

noncomputable abbrev κY (v0 : List RG) (v1 : Nat) (v2 : List RG) (v3 : Nat) := [some (vp 0 0), some (vp 1 0), some (vs 2 0 v0.length v0.length), some (vi (((v1 + 1) : Nat) : Int)), some (vs 3 0 v2.length v2.length), some (κ4 v3)]
noncomputable abbrev κS (v24 : List RI) (v25 : List RG) := [vi (300 : Int), vs 8 0 v24.length v24.length, vs 9 0 v25.length v25.length, vn, vn, vn, vn, vn, vn, vn, vn, vn, vn, vn, vn, vn, vn, vn, vn, vn]
noncomputable abbrev κy := (dP ([vs 10 0 5 5, vs 11 0 5 5] = [vs 10 0 ([(0 : Int), (0 : Int), (0 : Int), (0 : Int), (0 : Int)] : List Int).length ([(0 : Int), (0 : Int), (0 : Int), (0 : Int), (0 : Int)] : List Int).length, vs 11 0 ([(0 : Int), (0 : Int), (0 : Int), (0 : Int), (0 : Int)] : List Int).length ([(0 : Int), (0 : Int), (0 : Int), (0 : Int), (0 : Int)] : List Int).length]))
theorem Ziv (L0 : List Int) (a1 : Int) (v0 : List RG) (v1 : Nat) (v2 : List RG) (v3 : Nat) (v13 : List RK) (v16 : Bool) (v17 v18 v19 v20 v22 : Int) (v24 : List RI) (v25 : List RG) (N : Nat) : (Z7 L0 a1 N).Ok Tryz.prog Zs (.h3m0 v0 v1 v2 v3 v13 v16 v17 v18 v19 v20 v22 v24 v25 : law18_PlainSharesX) (ZU L0 a1 N (.h3m0 v0 v1 v2 v3 v13 v16 v17 v18 v19 v20 v22 v24 v25 : law18_PlainSharesX)) := by
 show (Z7 L0 a1 N).Ok Tryz.prog Zs (.h3m0 v0 v1 v2 v3 v13 v16 v17 v18 v19 v20 v22 v24 v25 : law18_PlainSharesX) (ZbG L0 a1 N v0 v1 v2 v3 v13 v16 v17 v18 v19 v20 v22 v24 v25)
 unfold ZbG
 refine Mach.ok_ite (fun g0 => ?_) (fun _ => Mach.ok_none)
 refine Mach.ok_ite (fun g1 => ?_) (fun _ => Mach.ok_none)
 have w2 := kW ((v1 : Int) + (1 : Int)) (((v1 + 1) : Nat) : Int) <| hY g0 Zi
 refine Mach.ok_bind (fun z2 c2 => ?_)
 cases z2 with
 | r0 y2_0 y2_1 y2_2 y2_3 y2_4 y2_5 y2_6 y2_7 y2_8 y2_9 y2_10 y2_11 y2_12 y2_13 =>
  refine Mach.ok_ite (fun g3 => ?_) (fun g3 => ?_)
  ·
   subst g3
   have w4 := kKa (Zcn c2 (1 :: (0 :: (rg 4 8 []))) 12) <| kR (κB v13 v16 v17 v18 v19 v20 v22) <| kR κa <| kR (κS v24 v25) <| kX κy true (Zv rfl) <| kR κx <| kR κg <| kR (Za RC v24) <| kR (Za RB v25) <| kR κe <| kR κe w2
   refine Mach.ok_ite (fun g4 => ?_) (fun g4 => ?_)
   ·
    exact Mach.okH (Zq 4) (Zh (oq [1, 3]) [(0, (((v1 + 1) : Nat) : Int))] [] [] [(0, (Zaq c2 (1 :: (0 :: (rg 4 8 []))) 12).t)]) (rg 0 12 []) [some (vp 0 0), some (vp 1 0), some (vs 2 0 v0.length v0.length), some (vi (((v1 + 1) : Nat) : Int)), some (vs 3 0 v2.length v2.length), some (vi (v3 : Int)), some (vT), some (vq)] (hT g4 w4) (tC (tC (tC (tC (tC (tC (tC (tC (tE) ⟨Eq.trans (show κ9 = vq from (congrArg (Value.int .i64) (by first | rfl | omega))) (by rfl), by rfl⟩)))))))) (bM (.cells κa 132) <| bMf [] y2_7 [vn, vq, vf, Value.bool y2_8, vi y2_9, vi y2_10, vi y2_11, vi y2_12, vp 0 0, vq, (fnV y2_13)] <| bR <| bR <| bS [vi (300 : Int), vs 8 0 v24.length v24.length, vs 9 0 y2_0.length y2_0.length, vn, vn, vn, vn, vn, vn, vn, vn, vn, vn, vn, vn, vn, vn, vn, vn, vn] <| bS [vs 10 0 5 5, vs 11 0 5 5] <| bS κx <| bM (.cells κg 211) <| bR <| bR <| bR <| bR <| bE) (show ∀ j ∈ Zt (Zq 4).2, j ∈ Zt (Zx 3) from by decide +kernel)
   ·
    refine Mach.ok_bind (fun z5 c5 => ?_)
    cases z5 with
    | r0 =>
     have w6 := kK (ZbP c5 [4, 8, 9] 17) <| hF g4 w4
     refine Mach.ok_ite (fun g6 => ?_) (fun g6 => ?_)
     ·
      refine Mach.ok_ite (fun g7 => ?_) (fun _ => Mach.ok_none)
      have w8 := kLn RB v0 0 0 2 <| kB 0 v0.length <| kI (0 : Int) (Int.ofNat 0) <| hT g6 w6
      refine Mach.ok_ite (fun g8 => ?_) (fun g8 => ?_)
      ·
       have w9 := kZ (((y2_0.getD ((i64.wrap (((1048577 : Int) % (1048576 : Int)) + (0 : Int)))).toNat RG.z).a0 == (v0.getD 0 RG.z).a0) && (((y2_0.getD ((i64.wrap (((1048577 : Int) % (1048576 : Int)) + (0 : Int)))).toNat RG.z).a1 == (v0.getD 0 RG.z).a1) && true)) w8
       refine Mach.ok_ite (fun g9 => ?_) (fun g9 => ?_)
       ·
        exact Mach.okF (Zh (oq [1, 2, 25, 29, 31]) [(0, (((v1 + 1) : Nat) : Int))] [(0, 0)] [(7, (RB.cel (v0.getD 0 RG.z)))] [(0, (Zaq c2 (1 :: (0 :: (rg 4 8 []))) 12).t), (6, (Z0 c5 [4, 8, 9] 17).t)]) [] (vT) (kY ((v2.length : Int) > (0 : Int)) w9) bE
       ·
        exact Mach.okF (Zh (oq [1, 2, 25, 29, 30]) [(0, (((v1 + 1) : Nat) : Int))] [(0, 0)] [(7, (RB.cel (v0.getD 0 RG.z)))] [(0, (Zaq c2 (1 :: (0 :: (rg 4 8 []))) 12).t), (6, (Z0 c5 [4, 8, 9] 17).t)]) [] (vf) (kN ((v2.length : Int) > (0 : Int)) w9) bE
      ·
       exact Mach.okF (Zh (oq [1, 2, 25, 28]) [(0, (((v1 + 1) : Nat) : Int))] [(0, 0)] [(7, (RB.cel (v0.getD 0 RG.z)))] [(0, (Zaq c2 (1 :: (0 :: (rg 4 8 []))) 12).t), (6, (Z0 c5 [4, 8, 9] 17).t)]) [] (vf) (kO (((y2_0.getD ((i64.wrap (((1048577 : Int) % (1048576 : Int)) + (0 : Int)))).toNat RG.z).a0 == (v0.getD 0 RG.z).a0) && (((y2_0.getD ((i64.wrap (((1048577 : Int) % (1048576 : Int)) + (0 : Int)))).toNat RG.z).a1 == (v0.getD 0 RG.z).a1) && true)) w8) bE
     ·
      exact Mach.okF (Zh (oq [1, 2, 24]) [(0, (((v1 + 1) : Nat) : Int))] [] [] [(0, (Zaq c2 (1 :: (0 :: (rg 4 8 []))) 12).t), (6, (Z0 c5 [4, 8, 9] 17).t)]) [] (vf) (hF g6 w6) bE
  ·
   obtain rfl : y2_6 = false := by simpa using g3
   have w4 := kKa (Zcn c2 (1 :: (0 :: (rg 4 8 []))) 12) <| kR (κB v13 v16 v17 v18 v19 v20 v22) <| kR κa <| kR (κS v24 v25) <| kX κy true (Zv rfl) <| kR κx <| kR κg <| kR (Za RC v24) <| kR (Za RB v25) <| kR κe <| kR κe w2
   refine Mach.ok_ite (fun g4 => ?_) (fun g4 => ?_)
   ·
    exact Mach.okH (Zq 4) (Zh (oq [1, 3]) [(0, (((v1 + 1) : Nat) : Int))] [] [] [(0, (Zaq c2 (1 :: (0 :: (rg 4 8 []))) 12).t)]) (rg 0 12 []) [some (vp 0 0), some (vp 1 0), some (vs 2 0 v0.length v0.length), some (vi (((v1 + 1) : Nat) : Int)), some (vs 3 0 v2.length v2.length), some (vi (v3 : Int)), some (vf), some (vq)] (hT g4 w4) (tC (tC (tC (tC (tC (tC (tC (tC (tE) ⟨Eq.trans (show κ9 = vq from (congrArg (Value.int .i64) (by first | rfl | omega))) (by rfl), by rfl⟩)))))))) (bM (.cells κa 132) <| bMf [] y2_7 [vn, vq, vf, Value.bool y2_8, vi y2_9, vi y2_10, vi y2_11, vi y2_12, vp 0 0, vq, (fnV y2_13)] <| bR <| bR <| bS [vi (300 : Int), vs 8 0 v24.length v24.length, vs 9 0 y2_0.length y2_0.length, vn, vn, vn, vn, vn, vn, vn, vn, vn, vn, vn, vn, vn, vn, vn, vn, vn] <| bS [vs 10 0 5 5, vs 11 0 5 5] <| bS κx <| bM (.cells κg 211) <| bR <| bR <| bR <| bR <| bE) (show ∀ j ∈ Zt (Zq 4).2, j ∈ Zt (Zx 3) from by decide +kernel)
   ·
    exact Mach.okN (Zh (oq [1, 2]) [(0, (((v1 + 1) : Nat) : Int)), (1, (((v3 + 1) : Nat) : Int))] [] [] [(0, (Zaq c2 (1 :: (0 :: (rg 4 8 []))) 12).t)]) (rg 0 12 []) (κY v0 v1 v2 v3) (kW ((v3 : Int) + (1 : Int)) (((v3 + 1) : Nat) : Int) <| hF g4 w4) (tC (tC (tC (tC (tC (tC (tE))))))) (bM (.cells κa 132) <| bMf [] y2_7 [vn, vq, vf, Value.bool y2_8, vi y2_9, vi y2_10, vi y2_11, vi y2_12, vp 0 0, vq, (fnV y2_13)] <| bR <| bR <| bS [vi (300 : Int), vs 8 0 v24.length v24.length, vs 9 0 y2_0.length y2_0.length, vn, vn, vn, vn, vn, vn, vn, vn, vn, vn, vn, vn, vn, vn, vn, vn, vn] <| bS [vs 10 0 5 5, vs 11 0 5 5] <| bS κx <| bM (.cells κg 211) <| bR <| bR <| bR <| bR <| bE) (show 3 ∈ Zt (Zx 3) from by decide +kernel)
 | r1 y2_0 =>
  exact Mach.okN (Zh (oq [1]) [(0, (((v1 + 1) : Nat) : Int)), (1, (((v3 + 1) : Nat) : Int))] [] [] [(0, (Zgx c2 (1 :: (0 :: (rg 4 8 []))) 12).t)]) (rg 0 8 (12 :: (rg 8 4 []))) (κY v0 v1 v2 v3) (kW ((v3 : Int) + (1 : Int)) (((v3 + 1) : Nat) : Int) <| kKa (Zk7 c2 (1 :: (0 :: (rg 4 8 []))) 12) <| kR (κB v13 v16 v17 v18 v19 v20 v22) <| kR κa <| kR (κS v24 v25) <| kX κy true (Zv rfl) <| kR κx <| kR κg <| kR (Za RC v24) <| kR (Za RB v25) <| kR κe <| kR κe w2) (tC (tC (tC (tC (tC (tC (tE))))))) (bM (.cells κa 132) <| bM (.cells (Zr Zd 1 [] ([(⟨(v13.getD 0 RK.z).a0, (v13.getD 0 RK.z).a1, (v13.getD 0 RK.z).a2, (v13.getD 0 RK.z).a3, (v13.getD 0 RK.z).a4, (v13.getD 0 RK.z).a5, (v13.getD 0 RK.z).a6, (v13.getD 0 RK.z).a7, (Int.tmod ((v13.getD 0 RK.z).a2 % (1048576 : Int)) ((([(0 : Int), (0 : Int), (0 : Int), (0 : Int), (0 : Int)] : List Int).length : Nat) : Int)), (v13.getD 0 RK.z).a9, (v13.getD 0 RK.z).a10, (v13.getD 0 RK.z).a11, (v13.getD 0 RK.z).a12, (v13.getD 0 RK.z).a13, (v13.getD 0 RK.z).a14, (v13.getD 0 RK.z).a15⟩ : RK)] : List RK) [vs 12 0 y2_0.length y2_0.length, vq, vf, Value.bool v16, vi v17, vi v18, vi v19, vi v20, vp 0 0, vq, Value.func (.func 162) #[] #[]]) 141) <| bR <| bR <| bS (κS v24 v25) <| bS [vs 10 0 5 5, vs 11 0 5 5] <| bS κx <| bM (.cells κg 211) <| bR <| bR <| bR <| bR <| bR <| bE) (show 3 ∈ Zt (Zx 3) from by decide +kernel)
 | r2 y2_0 y2_1 y2_2 y2_3 y2_4 =>
  have w3 := kKa (Zdi c2 (1 :: (0 :: (rg 4 8 []))) 12) <| kR (κB v13 v16 v17 v18 v19 v20 v22) <| kR κa <| kR (κS v24 v25) <| kX κy true (Zv rfl) <| kR κx <| kR κg <| kR (Za RC v24) <| kR (Za RB v25) <| kR κe <| kR κe w2
  refine Mach.ok_bind (fun z3 c3 => ?_)
  cases z3 with
  | r0 =>
   have w4 := kKa (ZbP c3 [4, 12, 13] 19) <| kX (dP ([vi (300 : Int), vs 12 0 (v24.length + 3) (v24.length + 3), vs 13 0 (v25.length + 3) (v25.length + 3), vn, vn, vn, vn, vn, vn, vn, vn, vn, vn, vn, vn, vn, vn, vn, vn, vn] = [vi (300 : Int), vs 12 0 ((v24 ++ (List.replicate 3 (⟨(0 : Int), (0 : Int), (0 : Int), (0 : Int), (0 : Int)⟩ : RI))).set v24.length (⟨(1 : Int), (2 : Int), (3 : Int), (1 : Int), (0 : Int)⟩ : RI)).length ((v24 ++ (List.replicate 3 (⟨(0 : Int), (0 : Int), (0 : Int), (0 : Int), (0 : Int)⟩ : RI))).set v24.length (⟨(1 : Int), (2 : Int), (3 : Int), (1 : Int), (0 : Int)⟩ : RI)).length, vs 13 0 (((v25 ++ (List.replicate 3 (⟨(0 : Int), (0 : Int)⟩ : RG))).set (v24.length + 1) (⟨(2 : Int), (0 : Int)⟩ : RG)).set (v24.length + 2) (⟨(2 : Int), (0 : Int)⟩ : RG)).length (((v25 ++ (List.replicate 3 (⟨(0 : Int), (0 : Int)⟩ : RG))).set (v24.length + 1) (⟨(2 : Int), (0 : Int)⟩ : RG)).set (v24.length + 2) (⟨(2 : Int), (0 : Int)⟩ : RG)).length, vn, vn, vn, vn, vn, vn, vn, vn, vn, vn, vn, vn, vn, vn, vn, vn, vn])) true (Zv (Zg rfl (Zg (Z3 rfl eqA eqA) (Zg (Z3 rfl eqA eqA) (Zg rfl (Zg rfl (Zg rfl (Zg rfl (Zg rfl (Zg rfl (Zg rfl (Zg rfl (Zg rfl (Zg rfl (Zg rfl (Zg rfl (Zg rfl (Zg rfl (Zg rfl (Zg rfl (Zg rfl rfl))))))))))))))))))))) <| kR (Za RC ((v24 ++ (List.replicate 3 (⟨(0 : Int), (0 : Int), (0 : Int), (0 : Int), (0 : Int)⟩ : RI))).set v24.length (⟨(1 : Int), (2 : Int), (3 : Int), (1 : Int), (0 : Int)⟩ : RI))) <| kR (Za RB (((v25 ++ (List.replicate 3 (⟨(0 : Int), (0 : Int)⟩ : RG))).set (v24.length + 1) (⟨(2 : Int), (0 : Int)⟩ : RG)).set (v24.length + 2) (⟨(2 : Int), (0 : Int)⟩ : RG))) w3
   refine Mach.ok_ite (fun g4 => ?_) (fun g4 => ?_)
   ·
    refine Mach.ok_ite (fun g5 => ?_) (fun _ => Mach.ok_none)
    have w6 := kLn RB v0 0 0 2 <| kB 0 v0.length <| kI (0 : Int) (Int.ofNat 0) <| hT g4 w4
    refine Mach.ok_ite (fun g6 => ?_) (fun g6 => ?_)
    ·
     have w7 := kZ ((((((v25 ++ (List.replicate 3 (⟨(0 : Int), (0 : Int)⟩ : RG))).set (v24.length + 1) (⟨(2 : Int), (0 : Int)⟩ : RG)).set (v24.length + 2) (⟨(2 : Int), (0 : Int)⟩ : RG)).getD ((i64.wrap (((1048577 : Int) % (1048576 : Int)) + (0 : Int)))).toNat RG.z).a0 == (v0.getD 0 RG.z).a0) && ((((((v25 ++ (List.replicate 3 (⟨(0 : Int), (0 : Int)⟩ : RG))).set (v24.length + 1) (⟨(2 : Int), (0 : Int)⟩ : RG)).set (v24.length + 2) (⟨(2 : Int), (0 : Int)⟩ : RG)).getD ((i64.wrap (((1048577 : Int) % (1048576 : Int)) + (0 : Int)))).toNat RG.z).a1 == (v0.getD 0 RG.z).a1) && true)) w6
     refine Mach.ok_ite (fun g7 => ?_) (fun g7 => ?_)
     ·
      exact Mach.okF (Zh (oq [1, 25, 29, 31]) [(0, (((v1 + 1) : Nat) : Int))] [(0, 0)] [(7, (RB.cel (v0.getD 0 RG.z)))] [(0, (ZaP c2 (1 :: (0 :: (rg 4 8 []))) 12).t), (6, (Z0 c3 [4, 12, 13] 19).t)]) [] (vT) (kY ((v2.length : Int) > (0 : Int)) w7) bE
     ·
      exact Mach.okF (Zh (oq [1, 25, 29, 30]) [(0, (((v1 + 1) : Nat) : Int))] [(0, 0)] [(7, (RB.cel (v0.getD 0 RG.z)))] [(0, (ZaP c2 (1 :: (0 :: (rg 4 8 []))) 12).t), (6, (Z0 c3 [4, 12, 13] 19).t)]) [] (vf) (kN ((v2.length : Int) > (0 : Int)) w7) bE
    ·
     exact Mach.okF (Zh (oq [1, 25, 28]) [(0, (((v1 + 1) : Nat) : Int))] [(0, 0)] [(7, (RB.cel (v0.getD 0 RG.z)))] [(0, (ZaP c2 (1 :: (0 :: (rg 4 8 []))) 12).t), (6, (Z0 c3 [4, 12, 13] 19).t)]) [] (vf) (kO ((((((v25 ++ (List.replicate 3 (⟨(0 : Int), (0 : Int)⟩ : RG))).set (v24.length + 1) (⟨(2 : Int), (0 : Int)⟩ : RG)).set (v24.length + 2) (⟨(2 : Int), (0 : Int)⟩ : RG)).getD ((i64.wrap (((1048577 : Int) % (1048576 : Int)) + (0 : Int)))).toNat RG.z).a0 == (v0.getD 0 RG.z).a0) && ((((((v25 ++ (List.replicate 3 (⟨(0 : Int), (0 : Int)⟩ : RG))).set (v24.length + 1) (⟨(2 : Int), (0 : Int)⟩ : RG)).set (v24.length + 2) (⟨(2 : Int), (0 : Int)⟩ : RG)).getD ((i64.wrap (((1048577 : Int) % (1048576 : Int)) + (0 : Int)))).toNat RG.z).a1 == (v0.getD 0 RG.z).a1) && true)) w6) bE
   ·
    exact Mach.okF (Zh (oq [1, 24]) [(0, (((v1 + 1) : Nat) : Int))] [] [] [(0, (ZaP c2 (1 :: (0 :: (rg 4 8 []))) 12).t), (6, (Z0 c3 [4, 12, 13] 19).t)]) [] (vf) (hF g4 w4) bE

theorem Ziw (L0 : List Int) (a1 : Int) (v0 : List RG) (v1 : Nat) (v2 : List RG) (v3 : Nat) (v13 : List RK) (v14 : List RG) (v17 : Bool) (v18 v19 v20 v21 : Int) (v25 : List RI) (v26 : List RG) (N : Nat) : (Z7 L0 a1 N).Ok Tryz.prog Zs (.h3m1 v0 v1 v2 v3 v13 v14 v17 v18 v19 v20 v21 v25 v26 : law18_PlainSharesX) (ZU L0 a1 N (.h3m1 v0 v1 v2 v3 v13 v14 v17 v18 v19 v20 v21 v25 v26 : law18_PlainSharesX)) := by
 show (Z7 L0 a1 N).Ok Tryz.prog Zs (.h3m1 v0 v1 v2 v3 v13 v14 v17 v18 v19 v20 v21 v25 v26 : law18_PlainSharesX) (ZbH L0 a1 N v0 v1 v2 v3 v13 v14 v17 v18 v19 v20 v21 v25 v26)
 unfold ZbH
 refine Mach.ok_ite (fun g0 => ?_) (fun _ => Mach.ok_none)
 refine Mach.ok_ite (fun g1 => ?_) (fun _ => Mach.ok_none)
 refine Mach.ok_bind (fun z2 c2 => ?_)
 cases z2 with
 | r0 y2_0 y2_1 =>
  exact Mach.okN (Zh (oq [1]) [(0, (((v1 + 1) : Nat) : Int)), (1, (((v3 + 1) : Nat) : Int))] [] [] [(0, (ZfR c2 (1 :: (8 :: (0 :: (rg 4 4 (rg 9 4 []))))) 13).t)]) (rg 0 13 []) (κY v0 v1 v2 v3) (kW ((v3 : Int) + (1 : Int)) (((v3 + 1) : Nat) : Int) <| kKa (ZjC c2 (1 :: (8 :: (0 :: (rg 4 4 (rg 9 4 []))))) 13) <| kR (Zr Zd 1 [] v13 [vs 8 0 v14.length v14.length, vq, vf, Value.bool v17, vi v18, vi v19, vi v20, vi v21, vp 0 0, vq, Value.func (.func 162) #[] #[]]) <| kR (Za RB v14) <| kR κa <| kR [vi (300 : Int), vs 9 0 v25.length v25.length, vs 10 0 v26.length v26.length, vn, vn, vn, vn, vn, vn, vn, vn, vn, vn, vn, vn, vn, vn, vn, vn, vn] <| kX (dP ([vs 11 0 5 5, vs 12 0 5 5] = [vs 11 0 ([(0 : Int), (0 : Int), (0 : Int), (0 : Int), (0 : Int)] : List Int).length ([(0 : Int), (0 : Int), (0 : Int), (0 : Int), (0 : Int)] : List Int).length, vs 12 0 ([(0 : Int), (0 : Int), (0 : Int), (0 : Int), (0 : Int)] : List Int).length ([(0 : Int), (0 : Int), (0 : Int), (0 : Int), (0 : Int)] : List Int).length])) true (Zv rfl) <| kR κx <| kR κg <| kR (Za RC v25) <| kR (Za RB v26) <| kR κe <| kR κe <| kW ((v1 : Int) + (1 : Int)) (((v1 + 1) : Nat) : Int) <| hY g0 Zi) (tC (tC (tC (tC (tC (tC (tE))))))) (bM (.cells κa 132) <| bMf [] v13 [vs 8 2 (v14.length - 1) (v14.length - 1), vq, vf, Value.bool v17, vi v18, vi v19, vi v20, vi v21, vp 0 0, vq, (fnV y2_1)] <| bR <| bR <| bS [vi (300 : Int), vs 9 0 y2_0.length y2_0.length, vs 10 0 v26.length v26.length, vn, vn, vn, vn, vn, vn, vn, vn, vn, vn, vn, vn, vn, vn, vn, vn, vn] <| bU2 [vs 11 0 5 5, vs 12 0 5 5] 0 (show (vs 11 0 5 5 : Value) = vs 11 0 ([(0 : Int), (0 : Int), (0 : Int), (0 : Int), (0 : Int)] : List Int).length ([(0 : Int), (0 : Int), (0 : Int), (0 : Int), (0 : Int)] : List Int).length from Z3 rfl eqA eqA) 1 (show (vs 12 0 5 5 : Value) = vs 12 0 ([(0 : Int), (0 : Int), (0 : Int), (0 : Int), (0 : Int)] : List Int).length ([(0 : Int), (0 : Int), (0 : Int), (0 : Int), (0 : Int)] : List Int).length from Z3 rfl eqA eqA) <| bS κx <| bM (.cells κg 211) <| bR <| bR <| bR <| bR <| bR <| bE) (show 3 ∈ Zt (Zx 3) from by decide +kernel)

theorem Zix (L0 : List Int) (a1 : Int) (v0 : List RG) (v1 : Nat) (v2 : List RG) (v3 : Nat) (v13 : List RK) (v14 : List RG) (v15 v16 : Nat) (v17 : Int) (v18 v19 : Bool) (v20 v21 v22 v23 v25 : Int) (v27 : List RI) (v28 : List RG) (v29 v30 : List Int) (v32 : Int) (N : Nat) : (Z7 L0 a1 N).Ok Tryz.prog Zs (.h3m2 v0 v1 v2 v3 v13 v14 v15 v16 v17 v18 v19 v20 v21 v22 v23 v25 v27 v28 v29 v30 v32 : law18_PlainSharesX) (ZU L0 a1 N (.h3m2 v0 v1 v2 v3 v13 v14 v15 v16 v17 v18 v19 v20 v21 v22 v23 v25 v27 v28 v29 v30 v32 : law18_PlainSharesX)) := by
 show (Z7 L0 a1 N).Ok Tryz.prog Zs (.h3m2 v0 v1 v2 v3 v13 v14 v15 v16 v17 v18 v19 v20 v21 v22 v23 v25 v27 v28 v29 v30 v32 : law18_PlainSharesX) (ZA L0 a1 N v0 v1 v2 v3 v13 v14 v15 v16 v17 v18 v19 v20 v21 v22 v23 v25 v27 v28 v29 v30 v32)
 unfold ZA
 refine Mach.ok_ite (fun g0 => ?_) (fun _ => Mach.ok_none)
 refine Mach.ok_ite (fun g1 => ?_) (fun _ => Mach.ok_none)
 have w2 := kW ((v1 : Int) + (1 : Int)) (((v1 + 1) : Nat) : Int) <| hY g0 Zi
 refine Mach.ok_bind (fun z2 c2 => ?_)
 cases z2 with
 | r0 y2_0 y2_1 y2_2 y2_3 y2_4 y2_5 y2_6 y2_7 y2_8 y2_9 y2_10 y2_11 y2_12 y2_13 y2_14 y2_15 y2_16 y2_17 y2_18 y2_19 y2_20 =>
  refine Mach.ok_ite (fun g3 => ?_) (fun g3 => ?_)
  ·
   subst g3
   have w4 := kK (ZdQ c2 (1 :: (8 :: (0 :: (rg 4 4 (rg 9 4 []))))) 13) w2
   refine Mach.ok_ite (fun g4 => ?_) (fun g4 => ?_)
   ·
    exact Mach.okH (Zq 4) (Zh (oq [1, 3]) [(0, (((v1 + 1) : Nat) : Int))] [] [] [(0, (ZaC c2 (1 :: (8 :: (0 :: (rg 4 4 (rg 9 4 []))))) 13).t)]) (rg 0 13 []) [some (vp 0 0), some (vp 1 0), some (vs 2 0 v0.length v0.length), some (vi (((v1 + 1) : Nat) : Int)), some (vs 3 0 v2.length v2.length), some (vi (v3 : Int)), some (vT), some (vq)] (hT g4 w4) (tC (tC (tC (tC (tC (tC (tC (tC (tE) ⟨Eq.trans (show κ9 = vq from (congrArg (Value.int .i64) (by first | rfl | omega))) (by rfl), by rfl⟩)))))))) (bM (.cells κa 132) <| bMf [] y2_9 [vs 8 (y2_10 * 2) y2_11 y2_11, vi y2_12, Value.bool y2_13, Value.bool y2_14, vi y2_15, vi y2_16, vi y2_17, vi y2_18, vp 0 0, vq, (fnV y2_19)] <| bR <| bR <| bS [vi (300 : Int), vs 9 0 y2_0.length y2_0.length, vs 10 0 y2_1.length y2_1.length, vn, vn, vn, vn, vn, vn, vn, vn, vn, vn, vn, vn, vn, vn, vn, vn, vn] <| bS [vs 11 0 y2_2.length y2_2.length, vs 12 0 y2_3.length y2_3.length] <| bS [vi (1000 : Int), vi y2_20, vq] <| bM (.cells κg 211) <| bR <| bR <| bR <| bR <| bR <| bE) (show ∀ j ∈ Zt (Zq 4).2, j ∈ Zt (Zx 3) from by decide +kernel)
   ·
    refine Mach.ok_bind (fun z5 c5 => ?_)
    cases z5 with
    | r0 =>
     have w6 := kK (ZbP c5 [4, 9, 10] 18) <| hF g4 w4
     refine Mach.ok_ite (fun g6 => ?_) (fun g6 => ?_)
     ·
      refine Mach.ok_ite (fun g7 => ?_) (fun _ => Mach.ok_none)
      have w8 := kLn RB v0 0 0 2 <| kB 0 v0.length <| kI (0 : Int) (Int.ofNat 0) <| hT g6 w6
      refine Mach.ok_ite (fun g8 => ?_) (fun g8 => ?_)
      ·
       have w9 := kZ (((y2_1.getD ((i64.wrap (((1048577 : Int) % (1048576 : Int)) + (0 : Int)))).toNat RG.z).a0 == (v0.getD 0 RG.z).a0) && (((y2_1.getD ((i64.wrap (((1048577 : Int) % (1048576 : Int)) + (0 : Int)))).toNat RG.z).a1 == (v0.getD 0 RG.z).a1) && true)) w8
       refine Mach.ok_ite (fun g9 => ?_) (fun g9 => ?_)
       ·
        exact Mach.okF (Zh (oq [1, 2, 25, 29, 31]) [(0, (((v1 + 1) : Nat) : Int))] [(0, 0)] [(7, (RB.cel (v0.getD 0 RG.z)))] [(0, (ZaC c2 (1 :: (8 :: (0 :: (rg 4 4 (rg 9 4 []))))) 13).t), (6, (Z0 c5 [4, 9, 10] 18).t)]) [] (vT) (kY ((v2.length : Int) > (0 : Int)) w9) bE
       ·
        exact Mach.okF (Zh (oq [1, 2, 25, 29, 30]) [(0, (((v1 + 1) : Nat) : Int))] [(0, 0)] [(7, (RB.cel (v0.getD 0 RG.z)))] [(0, (ZaC c2 (1 :: (8 :: (0 :: (rg 4 4 (rg 9 4 []))))) 13).t), (6, (Z0 c5 [4, 9, 10] 18).t)]) [] (vf) (kN ((v2.length : Int) > (0 : Int)) w9) bE
      ·
       exact Mach.okF (Zh (oq [1, 2, 25, 28]) [(0, (((v1 + 1) : Nat) : Int))] [(0, 0)] [(7, (RB.cel (v0.getD 0 RG.z)))] [(0, (ZaC c2 (1 :: (8 :: (0 :: (rg 4 4 (rg 9 4 []))))) 13).t), (6, (Z0 c5 [4, 9, 10] 18).t)]) [] (vf) (kO (((y2_1.getD ((i64.wrap (((1048577 : Int) % (1048576 : Int)) + (0 : Int)))).toNat RG.z).a0 == (v0.getD 0 RG.z).a0) && (((y2_1.getD ((i64.wrap (((1048577 : Int) % (1048576 : Int)) + (0 : Int)))).toNat RG.z).a1 == (v0.getD 0 RG.z).a1) && true)) w8) bE
     ·
      exact Mach.okF (Zh (oq [1, 2, 24]) [(0, (((v1 + 1) : Nat) : Int))] [] [] [(0, (ZaC c2 (1 :: (8 :: (0 :: (rg 4 4 (rg 9 4 []))))) 13).t), (6, (Z0 c5 [4, 9, 10] 18).t)]) [] (vf) (hF g6 w6) bE
  ·
   obtain rfl : y2_8 = false := by simpa using g3
   refine Mach.ok_ite (fun g4 => ?_) (fun g4 => ?_)
   ·
    exact Mach.okH (Zq 4) (Zh (oq [1, 3]) [(0, (((v1 + 1) : Nat) : Int))] [] [] [(0, (ZaC c2 (1 :: (8 :: (0 :: (rg 4 4 (rg 9 4 []))))) 13).t)]) (rg 0 13 []) [some (vp 0 0), some (vp 1 0), some (vs 2 0 v0.length v0.length), some (vi (((v1 + 1) : Nat) : Int)), some (vs 3 0 v2.length v2.length), some (vi (v3 : Int)), some (vf), some (vq)] (hT g4 <| kK (ZdQ c2 (1 :: (8 :: (0 :: (rg 4 4 (rg 9 4 []))))) 13) w2) (tC (tC (tC (tC (tC (tC (tC (tC (tE) ⟨Eq.trans (show κ9 = vq from (congrArg (Value.int .i64) (by first | rfl | omega))) (by rfl), by rfl⟩)))))))) (bM (.cells κa 132) <| bMf [] y2_9 [vs 8 (y2_10 * 2) y2_11 y2_11, vi y2_12, Value.bool y2_13, Value.bool y2_14, vi y2_15, vi y2_16, vi y2_17, vi y2_18, vp 0 0, vq, (fnV y2_19)] <| bR <| bR <| bS [vi (300 : Int), vs 9 0 y2_0.length y2_0.length, vs 10 0 y2_1.length y2_1.length, vn, vn, vn, vn, vn, vn, vn, vn, vn, vn, vn, vn, vn, vn, vn, vn, vn] <| bS [vs 11 0 y2_2.length y2_2.length, vs 12 0 y2_3.length y2_3.length] <| bS [vi (1000 : Int), vi y2_20, vq] <| bM (.cells κg 211) <| bR <| bR <| bR <| bR <| bR <| bE) (show ∀ j ∈ Zt (Zq 4).2, j ∈ Zt (Zx 3) from by decide +kernel)
   ·
    exact Mach.okN (Zh (oq [1, 2]) [(0, (((v1 + 1) : Nat) : Int)), (1, (((v3 + 1) : Nat) : Int))] [] [] [(0, (ZaC c2 (1 :: (8 :: (0 :: (rg 4 4 (rg 9 4 []))))) 13).t)]) (rg 0 13 []) (κY v0 v1 v2 v3) (kW ((v3 : Int) + (1 : Int)) (((v3 + 1) : Nat) : Int) <| hF g4 <| kK (ZdQ c2 (1 :: (8 :: (0 :: (rg 4 4 (rg 9 4 []))))) 13) w2) (tC (tC (tC (tC (tC (tC (tE))))))) (bM (.cells κa 132) <| bMf [] y2_9 [vs 8 (y2_10 * 2) y2_11 y2_11, vi y2_12, Value.bool y2_13, Value.bool y2_14, vi y2_15, vi y2_16, vi y2_17, vi y2_18, vp 0 0, vq, (fnV y2_19)] <| bR <| bR <| bS [vi (300 : Int), vs 9 0 y2_0.length y2_0.length, vs 10 0 y2_1.length y2_1.length, vn, vn, vn, vn, vn, vn, vn, vn, vn, vn, vn, vn, vn, vn, vn, vn, vn] <| bS [vs 11 0 y2_2.length y2_2.length, vs 12 0 y2_3.length y2_3.length] <| bS [vi (1000 : Int), vi y2_20, vq] <| bM (.cells κg 211) <| bR <| bR <| bR <| bR <| bR <| bE) (show 3 ∈ Zt (Zx 3) from by decide +kernel)

theorem Ziy (L0 : List Int) (a1 : Int) (v0 : List RG) (v1 : Nat) (v2 : List RG) (v3 : Nat) (v4 : Bool) (v5 : Nat) (v15 : List RK) (v18 : Bool) (v19 v20 v21 v22 v24 : Int) (v26 : List RI) (v27 : List RG) (N : Nat) : (Z7 L0 a1 N).Ok Tryz.prog Zs (.h4m0 v0 v1 v2 v3 v4 v5 v15 v18 v19 v20 v21 v22 v24 v26 v27 : law18_PlainSharesX) (ZU L0 a1 N (.h4m0 v0 v1 v2 v3 v4 v5 v15 v18 v19 v20 v21 v22 v24 v26 v27 : law18_PlainSharesX)) := by
 show (Z7 L0 a1 N).Ok Tryz.prog Zs (.h4m0 v0 v1 v2 v3 v4 v5 v15 v18 v19 v20 v21 v22 v24 v26 v27 : law18_PlainSharesX) (Zd5 L0 a1 N v0 v1 v2 v3 v4 v5 v15 v18 v19 v20 v21 v22 v24 v26 v27)
 unfold Zd5
 refine Mach.ok_ite (fun g0 => ?_) (fun g0 => ?_)
 ·
  subst g0
  refine Mach.ok_ite (fun g1 => ?_) (fun g1 => ?_)
  ·
   refine Mach.ok_bind (fun z2 c2 => ?_)
   cases z2 with
   | r0 =>
    refine Mach.ok_ite (fun _ => Mach.ok_none) (fun g3 => ?_)
    refine Mach.ok_ite (fun g4 => ?_) (fun _ => Mach.ok_none)
    exact Mach.okN (Zh (oq [1, 10]) [(0, (((v5 + 1) : Nat) : Int))] [(0, v5)] [(2, (RB.cel (v2.getD v5 RG.z)))] [(0, (Zz c2 [4, 8, 9] 12).t)]) (rg 0 12 []) [some (vp 0 0), some (vp 1 0), some (vs 2 0 v0.length v0.length), some (vi (v1 : Int)), some (vs 3 0 v2.length v2.length), some (vi (v3 : Int)), some (vT), some (vi (((v5 + 1) : Nat) : Int))] (kW ((v5 : Int) + (1 : Int)) (((v5 + 1) : Nat) : Int) <| kE ((v26.getD ((((v2.getD v5 RG.z).a1 % (1048576 : Int)) - (1 : Int))).toNat RI.z).a3) (2 : Int) <| kK (Zbf c2 [4, 8, 9] 12) <| kLn RB v2 v5 0 2 <| kB v5 v2.length <| kI (v5 : Int) (Int.ofNat v5) <| hY g1 Zi) (tC (tC (tC (tC (tC (tC (tC (tC (tE))))))))) (bM (.cells κa 132) <| bMf [] v15 [vn, vq, vf, Value.bool v18, vi v19, vi v20, vi v21, vi v22, vp 0 0, vq, (fnV v24)] <| bR <| bR <| bS [vi (300 : Int), vs 8 0 v26.length v26.length, vs 9 0 v27.length v27.length, vn, vn, vn, vn, vn, vn, vn, vn, vn, vn, vn, vn, vn, vn, vn, vn, vn] <| bS [vs 10 0 5 5, vs 11 0 5 5] <| bS κx <| bM (.cells κg 211) <| bR <| bR <| bR <| bR <| bE) (show 4 ∈ Zt (Zx 4) from by decide +kernel)
  ·
   refine Mach.ok_bind (fun z2 c2 => ?_)
   cases z2 with
   | r0 =>
    have w3 := kK (ZbP c2 [4, 8, 9] 16) <| hN g1 Zi
    refine Mach.ok_ite (fun g3 => ?_) (fun g3 => ?_)
    ·
     refine Mach.ok_ite (fun g4 => ?_) (fun _ => Mach.ok_none)
     have w5 := kLn RB v0 0 0 2 <| kB 0 v0.length <| kI (0 : Int) (Int.ofNat 0) <| hT g3 w3
     refine Mach.ok_ite (fun g5 => ?_) (fun g5 => ?_)
     ·
      have w6 := kZ (((v27.getD ((i64.wrap (((1048577 : Int) % (1048576 : Int)) + (0 : Int)))).toNat RG.z).a0 == (v0.getD 0 RG.z).a0) && (((v27.getD ((i64.wrap (((1048577 : Int) % (1048576 : Int)) + (0 : Int)))).toNat RG.z).a1 == (v0.getD 0 RG.z).a1) && true)) w5
      refine Mach.ok_ite (fun g6 => ?_) (fun g6 => ?_)
      ·
       exact Mach.okF (Zh (oq [0, 23, 27, 29]) [] [(0, 0)] [(6, (RB.cel (v0.getD 0 RG.z)))] [(4, (Z0 c2 [4, 8, 9] 16).t)]) [] (vT) (kY ((v2.length : Int) > (0 : Int)) w6) bE
      ·
       exact Mach.okF (Zh (oq [0, 23, 27, 28]) [] [(0, 0)] [(6, (RB.cel (v0.getD 0 RG.z)))] [(4, (Z0 c2 [4, 8, 9] 16).t)]) [] (vf) (kN ((v2.length : Int) > (0 : Int)) w6) bE
     ·
      exact Mach.okF (Zh (oq [0, 23, 26]) [] [(0, 0)] [(6, (RB.cel (v0.getD 0 RG.z)))] [(4, (Z0 c2 [4, 8, 9] 16).t)]) [] (vf) (kO (((v27.getD ((i64.wrap (((1048577 : Int) % (1048576 : Int)) + (0 : Int)))).toNat RG.z).a0 == (v0.getD 0 RG.z).a0) && (((v27.getD ((i64.wrap (((1048577 : Int) % (1048576 : Int)) + (0 : Int)))).toNat RG.z).a1 == (v0.getD 0 RG.z).a1) && true)) w5) bE
    ·
     exact Mach.okF (Zh (oq [0, 22]) [] [] [] [(4, (Z0 c2 [4, 8, 9] 16).t)]) [] (vf) (hF g3 w3) bE
 ·
  obtain rfl : v4 = false := by simpa using g0
  refine Mach.ok_ite (fun g1 => ?_) (fun g1 => ?_)
  ·
   refine Mach.ok_bind (fun z2 c2 => ?_)
   cases z2 with
   | r0 =>
    refine Mach.ok_ite (fun _ => Mach.ok_none) (fun g3 => ?_)
    refine Mach.ok_ite (fun g4 => ?_) (fun _ => Mach.ok_none)
    exact Mach.okN (Zh (oq [1, 10]) [(0, (((v5 + 1) : Nat) : Int))] [(0, v5)] [(2, (RB.cel (v2.getD v5 RG.z)))] [(0, (Zz c2 [4, 8, 9] 12).t)]) (rg 0 12 []) [some (vp 0 0), some (vp 1 0), some (vs 2 0 v0.length v0.length), some (vi (v1 : Int)), some (vs 3 0 v2.length v2.length), some (vi (v3 : Int)), some (vf), some (vi (((v5 + 1) : Nat) : Int))] (kW ((v5 : Int) + (1 : Int)) (((v5 + 1) : Nat) : Int) <| kE ((v26.getD ((((v2.getD v5 RG.z).a1 % (1048576 : Int)) - (1 : Int))).toNat RI.z).a3) (2 : Int) <| kK (Zbf c2 [4, 8, 9] 12) <| kLn RB v2 v5 0 2 <| kB v5 v2.length <| kI (v5 : Int) (Int.ofNat v5) <| hY g1 Zi) (tC (tC (tC (tC (tC (tC (tC (tC (tE))))))))) (bM (.cells κa 132) <| bMf [] v15 [vn, vq, vf, Value.bool v18, vi v19, vi v20, vi v21, vi v22, vp 0 0, vq, (fnV v24)] <| bR <| bR <| bS [vi (300 : Int), vs 8 0 v26.length v26.length, vs 9 0 v27.length v27.length, vn, vn, vn, vn, vn, vn, vn, vn, vn, vn, vn, vn, vn, vn, vn, vn, vn] <| bS [vs 10 0 5 5, vs 11 0 5 5] <| bS κx <| bM (.cells κg 211) <| bR <| bR <| bR <| bR <| bE) (show 4 ∈ Zt (Zx 4) from by decide +kernel)
  ·
   refine Mach.ok_ite (fun g2 => ?_) (fun _ => Mach.ok_none)
   exact Mach.okN (Zh (oq [0]) [(0, (((v3 + 1) : Nat) : Int))] [] [] []) (rg 0 12 []) [some (vp 0 0), some (vp 1 0), some (vs 2 0 v0.length v0.length), some (vi (v1 : Int)), some (vs 3 0 v2.length v2.length), some (κ4 v3)] (kW ((v3 : Int) + (1 : Int)) (((v3 + 1) : Nat) : Int) <| hN g1 Zi) (tC (tC (tC (tC (tC (tC (tE))))))) (bM (.cells κa 132) <| bMf [] v15 [vn, vq, vf, Value.bool v18, vi v19, vi v20, vi v21, vi v22, vp 0 0, vq, (fnV v24)] <| bR <| bR <| bS [vi (300 : Int), vs 8 0 v26.length v26.length, vs 9 0 v27.length v27.length, vn, vn, vn, vn, vn, vn, vn, vn, vn, vn, vn, vn, vn, vn, vn, vn, vn] <| bS [vs 10 0 5 5, vs 11 0 5 5] <| bS κx <| bM (.cells κg 211) <| bR <| bR <| bR <| bR <| bE) (show 3 ∈ Zt (Zx 4) from by decide +kernel)

theorem Ziz (L0 : List Int) (a1 : Int) (v0 : List RG) (v1 : Nat) (v2 : List RG) (v3 : Nat) (v4 : Bool) (v5 : Nat) (v15 : List RK) (v16 : List RG) (v17 v18 : Nat) (v19 : Int) (v20 v21 : Bool) (v22 v23 v24 v25 v27 : Int) (v29 : List RI) (v30 : List RG) (v31 v32 : List Int) (v34 : Int) (N : Nat) : (Z7 L0 a1 N).Ok Tryz.prog Zs (.h4m1 v0 v1 v2 v3 v4 v5 v15 v16 v17 v18 v19 v20 v21 v22 v23 v24 v25 v27 v29 v30 v31 v32 v34 : law18_PlainSharesX) (ZU L0 a1 N (.h4m1 v0 v1 v2 v3 v4 v5 v15 v16 v17 v18 v19 v20 v21 v22 v23 v24 v25 v27 v29 v30 v31 v32 v34 : law18_PlainSharesX)) := by
 show (Z7 L0 a1 N).Ok Tryz.prog Zs (.h4m1 v0 v1 v2 v3 v4 v5 v15 v16 v17 v18 v19 v20 v21 v22 v23 v24 v25 v27 v29 v30 v31 v32 v34 : law18_PlainSharesX) (ZaM L0 a1 N v0 v1 v2 v3 v4 v5 v15 v16 v17 v18 v19 v20 v21 v22 v23 v24 v25 v27 v29 v30 v31 v32 v34)
 unfold ZaM
 refine Mach.ok_ite (fun g0 => ?_) (fun g0 => ?_)
 ·
  subst g0
  refine Mach.ok_ite (fun g1 => ?_) (fun g1 => ?_)
  ·
   refine Mach.ok_bind (fun z2 c2 => ?_)
   cases z2 with
   | r0 =>
    refine Mach.ok_ite (fun _ => Mach.ok_none) (fun g3 => ?_)
    refine Mach.ok_ite (fun g4 => ?_) (fun _ => Mach.ok_none)
    exact Mach.okN (Zh (oq [1, 10]) [(0, (((v5 + 1) : Nat) : Int))] [(0, v5)] [(2, (RB.cel (v2.getD v5 RG.z)))] [(0, (Zz c2 [4, 9, 10] 13).t)]) (rg 0 13 []) [some (vp 0 0), some (vp 1 0), some (vs 2 0 v0.length v0.length), some (vi (v1 : Int)), some (vs 3 0 v2.length v2.length), some (vi (v3 : Int)), some (vT), some (vi (((v5 + 1) : Nat) : Int))] (kW ((v5 : Int) + (1 : Int)) (((v5 + 1) : Nat) : Int) <| kE ((v29.getD ((((v2.getD v5 RG.z).a1 % (1048576 : Int)) - (1 : Int))).toNat RI.z).a3) (2 : Int) <| kK (Zbf c2 [4, 9, 10] 13) <| kLn RB v2 v5 0 2 <| kB v5 v2.length <| kI (v5 : Int) (Int.ofNat v5) <| hY g1 Zi) (tC (tC (tC (tC (tC (tC (tC (tC (tE))))))))) (bM (.cells κa 132) <| bMf [] v15 [vs 8 (v17 * 2) v18 v18, vi v19, Value.bool v20, Value.bool v21, vi v22, vi v23, vi v24, vi v25, vp 0 0, vq, (fnV v27)] <| bR <| bR <| bS [vi (300 : Int), vs 9 0 v29.length v29.length, vs 10 0 v30.length v30.length, vn, vn, vn, vn, vn, vn, vn, vn, vn, vn, vn, vn, vn, vn, vn, vn, vn] <| bS [vs 11 0 v31.length v31.length, vs 12 0 v32.length v32.length] <| bS [vi (1000 : Int), vi v34, vq] <| bM (.cells κg 211) <| bR <| bR <| bR <| bR <| bR <| bE) (show 4 ∈ Zt (Zx 4) from by decide +kernel)
  ·
   refine Mach.ok_bind (fun z2 c2 => ?_)
   cases z2 with
   | r0 =>
    have w3 := kK (ZbP c2 [4, 9, 10] 17) <| hN g1 Zi
    refine Mach.ok_ite (fun g3 => ?_) (fun g3 => ?_)
    ·
     refine Mach.ok_ite (fun g4 => ?_) (fun _ => Mach.ok_none)
     have w5 := kLn RB v0 0 0 2 <| kB 0 v0.length <| kI (0 : Int) (Int.ofNat 0) <| hT g3 w3
     refine Mach.ok_ite (fun g5 => ?_) (fun g5 => ?_)
     ·
      have w6 := kZ (((v30.getD ((i64.wrap (((1048577 : Int) % (1048576 : Int)) + (0 : Int)))).toNat RG.z).a0 == (v0.getD 0 RG.z).a0) && (((v30.getD ((i64.wrap (((1048577 : Int) % (1048576 : Int)) + (0 : Int)))).toNat RG.z).a1 == (v0.getD 0 RG.z).a1) && true)) w5
      refine Mach.ok_ite (fun g6 => ?_) (fun g6 => ?_)
      ·
       exact Mach.okF (Zh (oq [0, 23, 27, 29]) [] [(0, 0)] [(6, (RB.cel (v0.getD 0 RG.z)))] [(4, (Z0 c2 [4, 9, 10] 17).t)]) [] (vT) (kY ((v2.length : Int) > (0 : Int)) w6) bE
      ·
       exact Mach.okF (Zh (oq [0, 23, 27, 28]) [] [(0, 0)] [(6, (RB.cel (v0.getD 0 RG.z)))] [(4, (Z0 c2 [4, 9, 10] 17).t)]) [] (vf) (kN ((v2.length : Int) > (0 : Int)) w6) bE
     ·
      exact Mach.okF (Zh (oq [0, 23, 26]) [] [(0, 0)] [(6, (RB.cel (v0.getD 0 RG.z)))] [(4, (Z0 c2 [4, 9, 10] 17).t)]) [] (vf) (kO (((v30.getD ((i64.wrap (((1048577 : Int) % (1048576 : Int)) + (0 : Int)))).toNat RG.z).a0 == (v0.getD 0 RG.z).a0) && (((v30.getD ((i64.wrap (((1048577 : Int) % (1048576 : Int)) + (0 : Int)))).toNat RG.z).a1 == (v0.getD 0 RG.z).a1) && true)) w5) bE
    ·
     exact Mach.okF (Zh (oq [0, 22]) [] [] [] [(4, (Z0 c2 [4, 9, 10] 17).t)]) [] (vf) (hF g3 w3) bE
 ·
  obtain rfl : v4 = false := by simpa using g0
  refine Mach.ok_ite (fun g1 => ?_) (fun g1 => ?_)
  ·
   refine Mach.ok_bind (fun z2 c2 => ?_)
   cases z2 with
   | r0 =>
    refine Mach.ok_ite (fun _ => Mach.ok_none) (fun g3 => ?_)
    refine Mach.ok_ite (fun g4 => ?_) (fun _ => Mach.ok_none)
    exact Mach.okN (Zh (oq [1, 10]) [(0, (((v5 + 1) : Nat) : Int))] [(0, v5)] [(2, (RB.cel (v2.getD v5 RG.z)))] [(0, (Zz c2 [4, 9, 10] 13).t)]) (rg 0 13 []) [some (vp 0 0), some (vp 1 0), some (vs 2 0 v0.length v0.length), some (vi (v1 : Int)), some (vs 3 0 v2.length v2.length), some (vi (v3 : Int)), some (vf), some (vi (((v5 + 1) : Nat) : Int))] (kW ((v5 : Int) + (1 : Int)) (((v5 + 1) : Nat) : Int) <| kE ((v29.getD ((((v2.getD v5 RG.z).a1 % (1048576 : Int)) - (1 : Int))).toNat RI.z).a3) (2 : Int) <| kK (Zbf c2 [4, 9, 10] 13) <| kLn RB v2 v5 0 2 <| kB v5 v2.length <| kI (v5 : Int) (Int.ofNat v5) <| hY g1 Zi) (tC (tC (tC (tC (tC (tC (tC (tC (tE))))))))) (bM (.cells κa 132) <| bMf [] v15 [vs 8 (v17 * 2) v18 v18, vi v19, Value.bool v20, Value.bool v21, vi v22, vi v23, vi v24, vi v25, vp 0 0, vq, (fnV v27)] <| bR <| bR <| bS [vi (300 : Int), vs 9 0 v29.length v29.length, vs 10 0 v30.length v30.length, vn, vn, vn, vn, vn, vn, vn, vn, vn, vn, vn, vn, vn, vn, vn, vn, vn] <| bS [vs 11 0 v31.length v31.length, vs 12 0 v32.length v32.length] <| bS [vi (1000 : Int), vi v34, vq] <| bM (.cells κg 211) <| bR <| bR <| bR <| bR <| bR <| bE) (show 4 ∈ Zt (Zx 4) from by decide +kernel)
  ·
   refine Mach.ok_ite (fun g2 => ?_) (fun _ => Mach.ok_none)
   exact Mach.okN (Zh (oq [0]) [(0, (((v3 + 1) : Nat) : Int))] [] [] []) (rg 0 13 []) [some (vp 0 0), some (vp 1 0), some (vs 2 0 v0.length v0.length), some (vi (v1 : Int)), some (vs 3 0 v2.length v2.length), some (κ4 v3)] (kW ((v3 : Int) + (1 : Int)) (((v3 + 1) : Nat) : Int) <| hN g1 Zi) (tC (tC (tC (tC (tC (tC (tE))))))) (bM (.cells κa 132) <| bMf [] v15 [vs 8 (v17 * 2) v18 v18, vi v19, Value.bool v20, Value.bool v21, vi v22, vi v23, vi v24, vi v25, vp 0 0, vq, (fnV v27)] <| bR <| bR <| bS [vi (300 : Int), vs 9 0 v29.length v29.length, vs 10 0 v30.length v30.length, vn, vn, vn, vn, vn, vn, vn, vn, vn, vn, vn, vn, vn, vn, vn, vn, vn] <| bS [vs 11 0 v31.length v31.length, vs 12 0 v32.length v32.length] <| bS [vi (1000 : Int), vi v34, vq] <| bM (.cells κg 211) <| bR <| bR <| bR <| bR <| bR <| bE) (show 3 ∈ Zt (Zx 4) from by decide +kernel)

noncomputable abbrev κbh := [vq, vq, vi (2 : Int), vq, vi (2 : Int), vq, vi (2 : Int), vq, vi (2 : Int), vq, vi (2 : Int), vq, vi (2 : Int), vq, vi (2 : Int), vq, vi (2 : Int), vq, vi (1 : Int), vq, vi (1 : Int), vq, vi (1 : Int), vq, vi (1 : Int), vq, vi (1 : Int), vq, vi (1 : Int), vq, vi (1 : Int), vq, vi (1 : Int), vq]
noncomputable abbrev κbb := [vi (1 : Int), vi (16 : Int), vi (255 : Int), vi (2 : Int), vq, vq, vq, vq, vq, vq, vq, vq, vq, vq, vq, vq, vq, vq, vq, vq, vq, vq, vq, vq, vq, vq, vq, vq, vq, vq, vq, vq, vq, vq, vq, vq, vq, vq, vq, vq, vq, vq, vq, vq, vq, vq, vq, vq, vq, vq, vq, vq, vq, vq, vq, vq, vq, vq, vq, vq, vq, vq, vq, vq, vq, vq, vq, vq, vq, vq, vq, vq, vq, vq, vq, vq, vq, vq, vq, vq, vq, vq, vq, vq, vq]
theorem Zkl (L0 : List Int) (a1 : Int) (N : Nat) : (Z7 L0 a1 N).Enter Tryz.prog Zs #[ms (Zeu .u8) L0, Value.int .u8 a1] (Zdc L0 a1 N) := by
 unfold Zdc
 refine Mach.en_ite (fun g0 => ?_) (fun _ => Mach.en_none)
 refine Mach.en_ite (fun g1 => ?_) (fun _ => Mach.en_none)
 exact Mach.enH (Zq 1) (Zh (oq []) [] [] [] []) [29, 30, 2, 25, 26, 27, 4, 5, 23, 24] [some (ms (Zeu .u8) L0), some (Value.int .u8 a1), some (vp 29 0), some (vp 30 0), some (vn), some (vq), some (vq)] Zi (tC (tC (tC (tC (tC (tC (tC (tE)))))))) (bM (.cells (Zr Zc9 64 [vi (1 : Int)] (List.replicate 64 (⟨(0 : Int), false, false⟩ : RF)) [vi (300 : Int), vi (5 : Int), vi (50 : Int), vi (50 : Int), vi (1000 : Int), vi (1 : Int), vq, vp 2 0, vp 25 0, vp 26 0, vp 27 0]) 132) <| bM (.cells (Zr Zd 1 [] ([(⟨(0 : Int), (0 : Int), (0 : Int), (0 : Int), (0 : Int), (0 : Int), (0 : Int), (0 : Int), (0 : Int), (0 : Int), (0 : Int), (0 : Int), (0 : Int), (0 : Int), (0 : Int), (0 : Int)⟩ : RK)] : List RK) [vn, vq, vf, vf, vq, vq, vq, vq, vp 29 0, vq, Value.nilFunc]) 141) <| bS [vi (300 : Int), vs 4 0 17 17, vs 5 0 17 17, vn, vn, vn, vn, vn, vn, vn, vn, vn, vn, vn, vn, vn, vn, vn, vn, vn] <| bS [vs 23 0 5 5, vs 24 0 5 5] <| bS κx <| bM (.cells κg 211) <| bC (o := .cells κbb 57) (Zcc (E := RC) _ (L := κd) _ (show (κbb : List Value) = Za RC κd from rfl)) <| bC (o := .cells κbh 42) (Zcc (E := RB) _ (L := ([(⟨(0 : Int), (0 : Int)⟩ : RG), (⟨(2 : Int), (0 : Int)⟩ : RG), (⟨(2 : Int), (0 : Int)⟩ : RG), (⟨(2 : Int), (0 : Int)⟩ : RG), (⟨(2 : Int), (0 : Int)⟩ : RG), (⟨(2 : Int), (0 : Int)⟩ : RG), (⟨(2 : Int), (0 : Int)⟩ : RG), (⟨(2 : Int), (0 : Int)⟩ : RG), (⟨(2 : Int), (0 : Int)⟩ : RG), (⟨(1 : Int), (0 : Int)⟩ : RG), (⟨(1 : Int), (0 : Int)⟩ : RG), (⟨(1 : Int), (0 : Int)⟩ : RG), (⟨(1 : Int), (0 : Int)⟩ : RG), (⟨(1 : Int), (0 : Int)⟩ : RG), (⟨(1 : Int), (0 : Int)⟩ : RG), (⟨(1 : Int), (0 : Int)⟩ : RG), (⟨(1 : Int), (0 : Int)⟩ : RG)] : List RG)) _ (show (κbh : List Value) = Za RB ([(⟨(0 : Int), (0 : Int)⟩ : RG), (⟨(2 : Int), (0 : Int)⟩ : RG), (⟨(2 : Int), (0 : Int)⟩ : RG), (⟨(2 : Int), (0 : Int)⟩ : RG), (⟨(2 : Int), (0 : Int)⟩ : RG), (⟨(2 : Int), (0 : Int)⟩ : RG), (⟨(2 : Int), (0 : Int)⟩ : RG), (⟨(2 : Int), (0 : Int)⟩ : RG), (⟨(2 : Int), (0 : Int)⟩ : RG), (⟨(1 : Int), (0 : Int)⟩ : RG), (⟨(1 : Int), (0 : Int)⟩ : RG), (⟨(1 : Int), (0 : Int)⟩ : RG), (⟨(1 : Int), (0 : Int)⟩ : RG), (⟨(1 : Int), (0 : Int)⟩ : RG), (⟨(1 : Int), (0 : Int)⟩ : RG), (⟨(1 : Int), (0 : Int)⟩ : RG), (⟨(1 : Int), (0 : Int)⟩ : RG)] : List RG) from rfl)) <| bC (o := .cells [vq, vq, vq, vq, vq] 188) (Zcc (E := eI) _ (L := ([(0 : Int), (0 : Int), (0 : Int), (0 : Int), (0 : Int)] : List Int)) _ (show ([vq, vq, vq, vq, vq] : List Value) = Za eI ([(0 : Int), (0 : Int), (0 : Int), (0 : Int), (0 : Int)] : List Int) from rfl)) <| bC (o := .cells [vq, vq, vq, vq, vq] 188) (Zcc (E := eI) _ (L := ([(0 : Int), (0 : Int), (0 : Int), (0 : Int), (0 : Int)] : List Int)) _ (show ([vq, vq, vq, vq, vq] : List Value) = Za eI ([(0 : Int), (0 : Int), (0 : Int), (0 : Int), (0 : Int)] : List Int) from rfl)) <| bE) (show Zt (Zq 1).2 = [] from rfl)

theorem Zjc (L0 : List Int) (a1 : Int) (N : Nat) (r : Zo) (h : Zhe L0 a1 N = some r) : LSpec Tryz.prog 3 #[ms (Zeu .u8) L0, Value.int .u8 a1] [] (ZgT L0 a1 r) (Zgy L0 a1 r) :=
 Mach.spec Zau (Z7 L0 a1 N) Tryz.func3 (by kernel_rfl) (by kernel_rfl) (fun x => by cases x <;> exact ZG _ rfl) (fun r => by cases r <;> exact ZG _ rfl) (fun x => by
  cases x with
  | h1m0 => exact fun _ => (show ¬ (1 ∈ Zt (Zq 1).2) from by decide +kernel)
  | h1m1 _ _ _ _ _ _ _ _ _ _ _ _ => exact fun _ => (show ¬ (1 ∈ Zt (Zq 1).2) from by decide +kernel)
  | h2m0 _ _ _ _ _ _ _ _ _ _ _ _ => exact fun _ => (show ¬ (2 ∈ Zt (Zq 2).2) from by decide +kernel)
  | h3m0 _ _ _ _ _ _ _ _ _ _ _ _ _ => exact fun _ => (show ¬ (3 ∈ Zt (Zq 3).2) from by decide +kernel)
  | h3m1 _ _ _ _ _ _ _ _ _ _ _ _ _ => exact fun _ => (show ¬ (3 ∈ Zt (Zq 3).2) from by decide +kernel)
  | h3m2 _ _ _ _ _ _ _ _ _ _ _ _ _ _ _ _ _ _ _ _ _ => exact fun _ => (show ¬ (3 ∈ Zt (Zq 3).2) from by decide +kernel)
  | h4m0 _ _ _ _ _ _ _ _ _ _ _ _ _ _ _ => exact fun _ => (show ¬ (4 ∈ Zt (Zq 4).2) from by decide +kernel)
  | h4m1 _ _ _ _ _ _ _ _ _ _ _ _ _ _ _ _ _ _ _ _ _ _ _ => exact fun _ => (show ¬ (4 ∈ Zt (Zq 4).2) from by decide +kernel)
  ) (fun x => (show (Z7 L0 a1 N).Ok Tryz.prog Zs x (ZU L0 a1 N x) from by
  cases x with
  | h1m0 => exact Zis L0 a1 N
  | h1m1 v2 v3 v4 v14 v17 v18 v19 v20 v21 v23 v25 v26 => exact Zit L0 a1 v2 v3 v4 v14 v17 v18 v19 v20 v21 v23 v25 v26 N
  | h2m0 v1 v2 v3 v13 v16 v17 v18 v19 v20 v22 v24 v25 => exact Ziu L0 a1 v1 v2 v3 v13 v16 v17 v18 v19 v20 v22 v24 v25 N
  | h3m0 v0 v1 v2 v3 v13 v16 v17 v18 v19 v20 v22 v24 v25 => exact Ziv L0 a1 v0 v1 v2 v3 v13 v16 v17 v18 v19 v20 v22 v24 v25 N
  | h3m1 v0 v1 v2 v3 v13 v14 v17 v18 v19 v20 v21 v25 v26 => exact Ziw L0 a1 v0 v1 v2 v3 v13 v14 v17 v18 v19 v20 v21 v25 v26 N
  | h3m2 v0 v1 v2 v3 v13 v14 v15 v16 v17 v18 v19 v20 v21 v22 v23 v25 v27 v28 v29 v30 v32 => exact Zix L0 a1 v0 v1 v2 v3 v13 v14 v15 v16 v17 v18 v19 v20 v21 v22 v23 v25 v27 v28 v29 v30 v32 N
  | h4m0 v0 v1 v2 v3 v4 v5 v15 v18 v19 v20 v21 v22 v24 v26 v27 => exact Ziy L0 a1 v0 v1 v2 v3 v4 v5 v15 v18 v19 v20 v21 v22 v24 v26 v27 N
  | h4m1 v0 v1 v2 v3 v4 v5 v15 v16 v17 v18 v19 v20 v21 v22 v23 v24 v25 v27 v29 v30 v31 v32 v34 => exact Ziz L0 a1 v0 v1 v2 v3 v4 v5 v15 v16 v17 v18 v19 v20 v21 v22 v23 v24 v25 v27 v29 v30 v31 v32 v34 N
  )) (Zkl L0 a1 N) (n := N) h

end Ev
end Go.Proofs.YtiijipocjellpaaGreat
namespace Go.Proofs.YtiijipocjellpaaGreat
open Go.RowKit
namespace Ev
section
variable {X R : Type} {step : X → Option (X ⊕ R)} {n : Nat} {x y : X} {r : R}
theorem Zad (h : step x = some (.inl y)) : Za4 step (n + 1) x = Za4 step n y := by simp [Za4, h]
theorem Zb6 (h : step x = some (.inr r)) : Za4 step (n + 1) x = some r := by simp [Za4, h]
theorem ZeS {o : Option (X ⊕ R)} (h : o = some (.inl x)) : goM step n o = Za4 step n x := by subst h; rfl
theorem Zu7 {o : Option (X ⊕ R)} (h : o = some (.inr r)) : goM step n o = some r := by subst h; rfl
end
section
variable {α : Type}
theorem ZsJ {L : List α} {i : Nat} (h : i < L.length) (d : α) : L.take i ++ [L.getD i d] = L.take (i + 1) := by
 rw [List.take_succ_eq_append_getElem h, List.getD_eq_getElem?_getD, List.getElem?_eq_getElem h, Option.getD_some]
theorem Zem {L : List α} {i : Nat} {v d : α} (h : i < L.length) : (L.set i v).getD i d = v := by simp [h]
theorem Zd7 {L : List α} {i j : Nat} {v d : α} (h : i ≠ j) : (L.set i v).getD j d = L.getD j d := by simp [List.getElem?_set_ne h]
theorem Zm9 {L : List α} {i j : Nat} {v d : α} (h : i < L.length) : (L.set i v).getD j d = if j = i then v else L.getD j d := by
 by_cases e : j = i
 ·subst e; rw [if_pos rfl, Zem h]
 ·rw [if_neg e, Zd7 (fun h => e h.symm)]
theorem Zkz {L M : List α} {i : Nat} {d : α} (h : i < L.length) : (L ++ M).getD i d = L.getD i d := by simp [List.getElem?_append_left h]
theorem ZqG {L : List α} {i : Nat} {d : α} (h : L.length ≤ i) : L.getD i d = d := by simp [List.getElem?_eq_none h]
end
theorem Zb {α : Type} {c : Prop} [Decidable c] {a b r : α} (h : c) (e : a = r) : (if c then a else b) = r := by rw [if_pos h]; exact e
theorem Zm {α : Type} {c : Prop} [Decidable c] {a b r : α} (h : ¬ c) (e : b = r) : (if c then a else b) = r := by rw [if_neg h]; exact e
theorem Zn {α β : Type} {o : Option α} {a : α} {k : α → Option β} {r : Option β} (h : o = some a) (e : k a = r) : o.bind k = r := by rw [h]; exact e
theorem w64 {x : Int} (h1 : -9223372036854775808 ≤ x) (h2 : x ≤ 9223372036854775807) : IntKind.i64.wrap x = x := wrap_i64 ⟨h1, h2⟩
namespace Pg
set_option linter.unusedVariables false
set_option linter.unusedSimpArgs false
abbrev Ob := RJ
def Zdj (L : List Ob) (k l : Int) (j : Nat) : Prop := (L.getD j RJ.z).a0 = k ∧ (L.getD j RJ.z).a1 = l
instance (L : List Ob) (k l : Int) (j : Nat) : Decidable (Zdj L k l j) := by unfold Zdj; infer_instance
theorem ZnI (a b v k l : Int) : ∀ M : List RH, Zbb (Zae M a b v) k l = ((k == a && l == b) || Zbb M k l)
 | [] => by simp [Zae, Zbb]
 | x :: M => by
  unfold Zae
  by_cases h : (a == x.a0 && b == x.a1) = true
  ·rw [if_pos h]
   simp only [Bool.and_eq_true, beq_iff_eq] at h
   simp [Zbb, h.1, h.2]
  ·rw [if_neg h]
   have ih := ZnI a b v k l M
   unfold Zbb at ih ⊢
   rw [List.any_cons, List.any_cons, ih]
   cases (k == x.a0 && l == x.a1) <;> cases (k == a && l == b) <;> rfl
theorem Zrh (a b v k l : Int) : ∀ M : List RH, Zbt (Zae M a b v) k l = if k = a ∧ l = b then v else Zbt M k l
 | [] => by
  by_cases h : k = a ∧ l = b
  ·rw [if_pos h]; simp [Zae, Zbt, h.1, h.2]
  ·rw [if_neg h]
   have h' : (k == a && l == b) = false := by cases e : (k == a && l == b) with
    | false => rfl
    | true => simp only [Bool.and_eq_true, beq_iff_eq] at e; exact absurd e h
   simp [Zae, Zbt, h']
 | x :: M => by
  unfold Zae
  by_cases h : (a == x.a0 && b == x.a1) = true
  ·rw [if_pos h]
   simp only [Bool.and_eq_true, beq_iff_eq] at h
   by_cases hk : k = a ∧ l = b
   ·rw [if_pos hk]; simp [Zbt, hk.1, hk.2]
   ·rw [if_neg hk]
    have h' : (k == a && l == b) = false := by cases e : (k == a && l == b) with
     | false => rfl
     | true => simp only [Bool.and_eq_true, beq_iff_eq] at e; exact absurd e hk
    have h'' : (k == x.a0 && l == x.a1) = false := by rw [← h.1, ← h.2]; exact h'
    simp only [Zbt, List.find?_cons, h', h'']
  ·rw [if_neg h]
   have ih := Zrh a b v k l M
   cases e : (k == x.a0 && l == x.a1) with
   | true =>
    have hk : ¬ (k = a ∧ l = b) := fun q => by rw [q.1, q.2] at e; exact h e
    rw [if_neg hk]
    simp only [Zbt, List.find?_cons, e]
   | false =>
    simp only [Zbt, List.find?_cons, e] at ih ⊢
    exact ih
def MI (L : List Ob) (i : Nat) (M : List RH) : Prop := ∀ k l, (∃ j, i ≤ j ∧ j < L.length ∧ Zdj L k l j ∧ (∀ q, i ≤ q → q < j → ¬ Zdj L k l q) ∧ Zbb M k l = true ∧ Zbt M k l = (j : Int)) ∨ ((∀ q, i ≤ q → q < L.length → ¬ Zdj L k l q) ∧ Zbb M k l = false)
theorem Zvg (L : List Ob) : MI L L.length [] := fun k l => .inr ⟨fun q h1 h2 => by omega, rfl⟩
theorem Zvh {L : List Ob} {i : Nat} {M : List RH} (hi : i < L.length) (h : MI L (i + 1) M) : MI L i (Zae M (L.getD i RJ.z).a0 (L.getD i RJ.z).a1 (i : Int)) := by
 intro k l
 rw [ZnI, Zrh]
 by_cases hk : Zdj L k l i
 ·refine .inl ⟨i, Nat.le_refl _, hi, hk, fun q h1 h2 => by omega, ?_, if_pos ⟨hk.1.symm, hk.2.symm⟩⟩
  rw [hk.1, hk.2]; simp
 ·have hn : ¬ (k = (L.getD i RJ.z).a0 ∧ l = (L.getD i RJ.z).a1) := fun q => hk ⟨q.1.symm, q.2.symm⟩
  have hb : (k == (L.getD i RJ.z).a0 && l == (L.getD i RJ.z).a1) = false := by
   cases e : (k == (L.getD i RJ.z).a0 && l == (L.getD i RJ.z).a1) with
   | false => rfl
   | true => simp only [Bool.and_eq_true, beq_iff_eq] at e; exact absurd e hn
  rw [if_neg hn, hb, Bool.false_or]
  rcases h k l with ⟨j, h1, h2, h3, h4, h5, h6⟩ | ⟨h1, h2⟩
  ·refine .inl ⟨j, by omega, h2, h3, fun q q1 q2 => ?_, h5, h6⟩
   by_cases e : q = i
   ·subst e; exact hk
   ·exact h4 q (by omega) q2
  ·refine .inr ⟨fun q q1 q2 => ?_, h2⟩
   by_cases e : q = i
   ·subst e; exact hk
   ·exact h1 q (by omega) q2
theorem built {L : List Ob} {N : Nat} (hL : L.length ≤ 1000) : ∀ i f M, i ≤ L.length → MI L i M → ∃ M', MI L 0 M' ∧ Za4 (Zc8 L N) (f + i) (.h1m0 ((i : Int) - 1) M) = Za4 (Zc8 L N) f (.h1m0 (-1) M')
 | 0, f, M, _, h => ⟨M, h, rfl⟩
 | i + 1, f, M, hi, h => by
  obtain ⟨M', h1, h2⟩ := built (N := N) hL i f _ (by omega) (Zvh (by omega) h)
  refine ⟨M', h1, (Zad (n := f + i) ?_).trans h2⟩
  show ZbO L N _ _ = _
  unfold ZbO
  have e : (((i + 1 : Nat) : Int) - 1) = (i : Int) := by omega
  rw [e]
  have ew : IntKind.i64.wrap ((i : Int) - 1) = (i : Int) - 1 := w64 (by omega) (by omega)
  refine Zb (by omega) (Zb (by show i < L.length; omega) ?_)
  rw [ew]; rfl
theorem ZtF {L : List Ob} {N : Nat} (hL : L.length ≤ 1000) (hN : 2000 ≤ N) : ∃ M, MI L 0 M ∧ Zfr L N = some (.r0 M) := by
 obtain ⟨n, rfl⟩ : ∃ n, N = (n + 1) + L.length := ⟨N - L.length - 1, by omega⟩
 obtain ⟨M, hM, hb⟩ := built (N := (n + 1) + L.length) hL L.length (n + 1) [] (Nat.le_refl _) (Zvg L)
 refine ⟨M, hM, (ZeS (x := .h1m0 ((L.length : Int) - 1) []) (by unfold Zf2; exact Zb (by omega) rfl)).trans (hb.trans (Zb6 ?_))⟩
 show ZbO L ((n + 1) + L.length) (-1) M = _
 unfold ZbO
 exact Zm (by omega) rfl
def ZbY (L : List Ob) (k l : Int) (j : Nat) : Prop := (k = 2 ∧ ¬ l = 0) ∧ j < L.length ∧ Zdj L k l j ∧ ∀ q, q < j → ¬ Zdj L k l q
theorem ZfT {L : List Ob} {k l : Int} {i j : Nat} (h : ZbY L k l i) (h' : ZbY L k l j) : i = j := by
 rcases Nat.lt_trichotomy i j with e | e | e
 ·exact absurd h.2.2.1 (h'.2.2.2 i e)
 ·exact e
 ·exact absurd h'.2.2.1 (h.2.2.2 j e)
theorem ZnJ {L : List Ob} {Mx : List RH} (h : MI L 0 Mx) (k l : Int) (N : Nat) : (∃ j, ZbY L k l j ∧ Zat L Mx k l N = some (.r0 (j : Int) true)) ∨ ((∀ j, ¬ ZbY L k l j) ∧ ∃ y, Zat L Mx k l N = some (.r0 y false)) := by
 unfold Zat
 by_cases hk : k = 2
 ·rw [if_neg (fun q => q hk)]
  by_cases hl : l = 0
  ·rw [if_pos ⟨hk, hl⟩]
   exact .inr ⟨fun j q => q.1.2 hl, _, rfl⟩
  ·rw [if_neg (fun q => hl q.2)]
   rcases h k l with ⟨j, h1, h2, h3, h4, h5, h6⟩ | ⟨h1, h2⟩
   ·rw [if_pos h5, h6]
    exact .inl ⟨j, ⟨⟨hk, hl⟩, h2, h3, fun q hq => h4 q (by omega) hq⟩, rfl⟩
   ·rw [if_neg (by rw [h2]; simp)]
    exact .inr ⟨fun j q => h1 j (by omega) q.2.1 q.2.2.1, _, rfl⟩
 ·rw [if_pos hk]
  exact .inr ⟨fun j q => hk q.1.1, _, rfl⟩
end Pg
namespace Pg
set_option linter.unusedVariables false
set_option linter.unusedSimpArgs false
abbrev ob (L : List Ob) (j : Nat) : Ob := L.getD j RJ.z
abbrev fd (L : List Ob) (j q : Nat) : RG := (ob L j).a7.getD q RG.z
def ZbZ (L : List Ob) (O : List Int) : Nat → Nat
 | 0 => 0
 | n + 1 => (if (n : Int) ∈ O then 0 else (ob L n).a7.length + 2) + ZbZ L O n
def Zbx (L : List Ob) : List RG → Nat
 | [] => 0
 | e :: S => ((ob L e.a0.toNat).a7.length + 1 - e.a1.toNat) + Zbx L S
theorem ZgA (L : List Ob) : ∀ S S', Zbx L (S ++ S') = Zbx L S + Zbx L S'
 | [], S' => by simp [Zbx]
 | e :: S, S' => by simp only [List.cons_append, Zbx, ZgA L S S']; omega
theorem Zri {L : List Ob} {O : List Int} {j : Nat} : ∀ n, n ≤ j → ZbZ L (O ++ [(j : Int)]) n = ZbZ L O n
 | 0, _ => rfl
 | n + 1, h => by
  have e : ((n : Int) ∈ O ++ [(j : Int)]) ↔ (n : Int) ∈ O := by
   rw [List.mem_append, List.mem_singleton]
   exact ⟨fun q => q.elim id (fun q => by omega), .inl⟩
  have ih := Zri (L := L) (O := O) (j := j) n (by omega)
  simp only [ZbZ, e, ih]
theorem Zrj {L : List Ob} {O : List Int} {j : Nat} (hj : ¬ (j : Int) ∈ O) : ∀ n, j < n → ZbZ L (O ++ [(j : Int)]) n + ((ob L j).a7.length + 2) = ZbZ L O n
 | 0, h => by omega
 | n + 1, h => by
  by_cases e : n = j
  ·subst e
   have h1 : (n : Int) ∈ O ++ [(n : Int)] := by simp
   have ih := Zri (L := L) (O := O) (j := n) n (Nat.le_refl _)
   simp only [ZbZ, h1, hj, if_true, if_false, ih]
   omega
  ·have e' : ((n : Int) ∈ O ++ [(j : Int)]) ↔ (n : Int) ∈ O := by
    rw [List.mem_append, List.mem_singleton]
    exact ⟨fun q => q.elim id (fun q => by omega), .inl⟩
   have ih := Zrj (L := L) hj n (by omega)
   simp only [ZbZ, e']
   omega
def Gen (L : List Ob) (may : Ob → Prop) (R : List RG) (T : Nat → Prop) : Prop := (∀ q j', q < R.length → ZbY L (R.getD q RG.z).a0 (R.getD q RG.z).a1 j' → may (ob L j') → T j') ∧ ∀ j q j', T j → q < (ob L j).a7.length → ZbY L (fd L j q).a0 (fd L j q).a1 j' → may (ob L j') → T j'
structure Inv (L : List Ob) (may : Ob → Prop) (R : List RG) (B v : Nat) (M : List RH) (O : List Int) (S : List RG) : Prop where
 o : ∀ x ∈ O, ∃ j : Nat, x = (j : Int) ∧ ZbY L (ob L j).a0 (ob L j).a1 j
 m : ∀ k l, Zbb M k l = true ↔ ∃ j : Nat, (j : Int) ∈ O ∧ Zdj L k l j
 s : ∀ e ∈ S, ∃ j f : Nat, e = ⟨(j : Int), (f : Int)⟩ ∧ (j : Int) ∈ O ∧ f ≤ (ob L j).a7.length
 c : ∀ j : Nat, (j : Int) ∈ O → ∀ q, q < (ob L j).a7.length → ∀ j', ZbY L (fd L j q).a0 (fd L j q).a1 j' → may (ob L j') → (j' : Int) ∈ O ∨ ∃ f : Nat, (⟨(j : Int), (f : Int)⟩ : RG) ∈ S ∧ f ≤ q
 r : ∀ q, q < v → q < R.length → ∀ j', ZbY L (R.getD q RG.z).a0 (R.getD q RG.z).a1 j' → may (ob L j') → (j' : Int) ∈ O
 g : ∀ T, Gen L may R T → ∀ j : Nat, (j : Int) ∈ O → T j
 b : O.length + ZbZ L O L.length + Zbx L S ≤ B
 l : S.length ≤ O.length
theorem inv_0 {L : List Ob} {may : Ob → Prop} {R : List RG} {B : Nat} (h : ZbZ L [] L.length ≤ B) : Inv L may R B 0 [] [] [] :=
 ⟨(fun x h => by cases h), (fun k l => ⟨(fun h => by cases h), (fun ⟨j, h, _⟩ => by cases h)⟩), (fun e h => by cases h), (fun j h => by cases h), (fun q h => by omega), (fun T _ j h => by cases h), (by show 0 + ZbZ L [] L.length + 0 ≤ B; omega), Nat.le_refl _⟩
def Zkm (L : List Ob) (may : Ob → Prop) (M : List RH) (O : List Int) (S : List RG) (k l : Int) (M' : List RH) (O' : List Int) (S' : List RG) : Prop :=
 (∃ j : Nat, ZbY L k l j ∧ ¬ Zbb M k l = true ∧ may (ob L j) ∧ M' = Zae M k l (j : Int) ∧ O' = O ++ [(j : Int)] ∧ S' = S ++ [⟨(j : Int), 0⟩]) ∨ ((∀ j, ZbY L k l j → Zbb M k l = true ∨ ¬ may (ob L j)) ∧ M' = M ∧ O' = O ∧ S' = S)
theorem ZsK {L : List Ob} {may : Ob → Prop} {R : List RG} {B v : Nat} {M : List RH} {O : List Int} {S : List RG} (I : Inv L may R B v M O S) {k l : Int} {j : Nat} (h : ZbY L k l j) : Zbb M k l = true ↔ (j : Int) ∈ O := by
 rw [I.m]
 constructor
 ·rintro ⟨i, h1, h2⟩
  obtain ⟨i', e, hi⟩ := I.o _ h1
  obtain rfl : i = i' := by omega
  have hi' : ZbY L k l i := by rw [← h2.1, ← h2.2]; exact hi
  rw [ZfT h hi']; exact h1
 ·exact fun h1 => ⟨j, h1, h.2.2.1⟩
theorem Zot {L : List Ob} {may : Ob → Prop} {R : List RG} {B v : Nat} {M M' : List RH} {O O' : List Int} {S S' : List RG} (I : Inv L may R B v M O S) {k l : Int}
  (hT : ∀ T, Gen L may R T → ∀ j, ZbY L k l j → may (ob L j) → T j) (E : Zkm L may M O S k l M' O' S') : Inv L may R B v M' O' S' ∧ (∀ j', ZbY L k l j' → may (ob L j') → (j' : Int) ∈ O') ∧ (∀ x ∈ O, x ∈ O') ∧ O'.length + ZbZ L O' L.length + Zbx L S' ≤ O.length + ZbZ L O L.length + Zbx L S ∧ (O' ≠ O → ZbZ L O' L.length + Zbx L S' < ZbZ L O L.length + Zbx L S) := by
 rcases E with ⟨j, he, hm, hy, rfl, rfl, rfl⟩ | ⟨hn, rfl, rfl, rfl⟩
 ·have hj : ¬ (j : Int) ∈ O := fun q => hm ((ZsK I he).2 q)
  have hk : (ob L j).a0 = k ∧ (ob L j).a1 = l := he.2.2.1
  have hr := Zrj (L := L) hj L.length he.2.1
  have hs : Zbx L (S ++ [⟨(j : Int), 0⟩]) = Zbx L S + ((ob L j).a7.length + 1) := by
   rw [ZgA]; simp [Zbx]
  have hb := I.b
  refine ⟨⟨fun x hx => ?_, fun a b => ?_, fun e hx => ?_, fun i hi q hq j' h1 h2 => ?_, fun q h1 h2 j' h3 h4 => ?_, fun T hT' i hi => ?_, ?_, ?_⟩, fun j' h1 h2 => ?_, fun x hx => List.mem_append_left _ hx, ?_, fun _ => ?_⟩
  ·rcases List.mem_append.1 hx with hx | hx
   ·exact I.o x hx
   ·rw [List.mem_singleton] at hx
    exact ⟨j, hx, by rw [hk.1, hk.2]; exact he⟩
  ·rw [ZnI]
   simp only [Bool.or_eq_true, Bool.and_eq_true, beq_iff_eq]
   constructor
   ·rintro (⟨rfl, rfl⟩ | h)
    ·exact ⟨j, by simp, hk⟩
    ·obtain ⟨i, h1, h2⟩ := (I.m a b).1 h
     exact ⟨i, List.mem_append_left _ h1, h2⟩
   ·rintro ⟨i, h1, h2⟩
    rcases List.mem_append.1 h1 with h1 | h1
    ·exact .inr ((I.m a b).2 ⟨i, h1, h2⟩)
    ·rw [List.mem_singleton] at h1
     obtain rfl : i = j := by omega
     exact .inl ⟨h2.1.symm.trans hk.1, h2.2.symm.trans hk.2⟩
  ·rcases List.mem_append.1 hx with hx | hx
   ·obtain ⟨i, f, h1, h2, h3⟩ := I.s e hx
    exact ⟨i, f, h1, List.mem_append_left _ h2, h3⟩
   ·rw [List.mem_singleton] at hx
    exact ⟨j, 0, hx, by simp, Nat.zero_le _⟩
  ·rcases List.mem_append.1 hi with hi | hi
   ·rcases I.c i hi q hq j' h1 h2 with h | ⟨f, h3, h4⟩
    ·exact .inl (List.mem_append_left _ h)
    ·exact .inr ⟨f, List.mem_append_left _ h3, h4⟩
   ·rw [List.mem_singleton] at hi
    obtain rfl : i = j := by omega
    exact .inr ⟨0, by simp, Nat.zero_le _⟩
  ·exact List.mem_append_left _ (I.r q h1 h2 j' h3 h4)
  ·rcases List.mem_append.1 hi with hi | hi
   ·exact I.g T hT' i hi
   ·rw [List.mem_singleton] at hi
    obtain rfl : i = j := by omega
    exact hT T hT' i he hy
  ·rw [hs, List.length_append, List.length_singleton]; omega
  ·have := I.l
   rw [List.length_append, List.length_append, List.length_singleton, List.length_singleton]; omega
  ·rw [ZfT h1 he]; simp
  ·rw [hs, List.length_append, List.length_singleton]; omega
  ·rw [hs]; omega
 ·refine ⟨I, fun j' h1 h2 => ?_, fun x hx => hx, Nat.le_refl _, fun q => absurd rfl q⟩
  rcases hn j' h1 with h | h
  ·exact (ZsK I h1).1 h
  ·exact absurd h2 h
theorem Zu8 {L : List Ob} {may : Ob → Prop} {R : List RG} {B v : Nat} {M : List RH} {O : List Int} {S : List RG} {j : Nat} (I : Inv L may R B v M O (S ++ [⟨(j : Int), ((ob L j).a7.length : Int)⟩])) : Inv L may R B v M O S := by
 have hb := I.b
 have hl := I.l
 rw [ZgA] at hb
 rw [List.length_append] at hl
 refine ⟨I.o, I.m, fun e he => I.s e (List.mem_append_left _ he), fun i hi q hq j' h1 h2 => ?_, I.r, I.g, by omega, by omega⟩
 rcases I.c i hi q hq j' h1 h2 with h | ⟨f, h3, h4⟩
 ·exact .inl h
 ·rcases List.mem_append.1 h3 with h3 | h3
  ·exact .inr ⟨f, h3, h4⟩
  ·rw [List.mem_singleton] at h3
   injection h3 with e1 e2
   obtain rfl : i = j := by omega
   omega
theorem ZtG {L : List Ob} {may : Ob → Prop} {R : List RG} {B v : Nat} {M : List RH} {O : List Int} {S S' : List RG} {j f : Nat} (hf : f < (ob L j).a7.length) (I : Inv L may R B v M O (S ++ ⟨(j : Int), (f : Int)⟩ :: S'))
  (h : ∀ j', ZbY L (fd L j f).a0 (fd L j f).a1 j' → may (ob L j') → (j' : Int) ∈ O) : Inv L may R B v M O (S ++ ⟨(j : Int), ((f + 1 : Nat) : Int)⟩ :: S') ∧ Zbx L (S ++ ⟨(j : Int), ((f + 1 : Nat) : Int)⟩ :: S') + 1 = Zbx L (S ++ ⟨(j : Int), (f : Int)⟩ :: S') := by
 have hs : Zbx L (S ++ ⟨(j : Int), ((f + 1 : Nat) : Int)⟩ :: S') + 1 = Zbx L (S ++ ⟨(j : Int), (f : Int)⟩ :: S') := by
  rw [ZgA, ZgA]
  have e : ∀ g : Nat, Zbx L (⟨(j : Int), (g : Int)⟩ :: S') = ((ob L j).a7.length + 1 - g) + Zbx L S' := fun g => rfl
  rw [e, e]; omega
 have hb := I.b
 have hl := I.l
 rw [List.length_append, List.length_cons] at hl
 refine ⟨⟨I.o, I.m, fun e he => ?_, fun i hi q hq j' h1 h2 => ?_, I.r, I.g, by omega, by rw [List.length_append, List.length_cons]; omega⟩, hs⟩
 ·rcases List.mem_append.1 he with he | he
  ·exact I.s e (List.mem_append_left _ he)
  ·rcases List.mem_cons.1 he with he | he
   ·obtain ⟨i, g, h1, h2, h3⟩ := I.s ⟨(j : Int), (f : Int)⟩ (by simp)
    injection h1 with e1 e2
    obtain rfl : i = j := by omega
    exact ⟨i, f + 1, he, h2, hf⟩
   ·exact I.s e (List.mem_append_right _ (List.mem_cons_of_mem _ he))
 ·rcases I.c i hi q hq j' h1 h2 with h' | ⟨g, h3, h4⟩
  ·exact .inl h'
  ·rcases List.mem_append.1 h3 with h3 | h3
   ·exact .inr ⟨g, List.mem_append_left _ h3, h4⟩
   ·rcases List.mem_cons.1 h3 with h3 | h3
    ·injection h3 with e1 e2
     obtain rfl : i = j := by omega
     obtain rfl : g = f := by omega
     by_cases e : q = g
     ·subst e; exact .inl (h j' h1 h2)
     ·exact .inr ⟨g + 1, by simp, by omega⟩
    ·exact .inr ⟨g, List.mem_append_right _ (List.mem_cons_of_mem _ h3), h4⟩
theorem ZtH {α : Type} {s S0 : List α} {e d : α} {n : Nat} (h : s.take n = S0 ++ [e]) (hn : n ≤ s.length) : n = S0.length + 1 ∧ s.getD (n - 1) d = e ∧ s.take (n - 1) = S0 ∧ ∀ e', (s.set (n - 1) e').take n = S0 ++ [e'] := by
 have hl : n = S0.length + 1 := by
  have := congrArg List.length h
  simp at this; omega
 obtain ⟨t, rfl⟩ : ∃ t, s = S0 ++ e :: t := ⟨s.drop n, by
  have h2 : s = s.take n ++ s.drop n := (List.take_append_drop n s).symm
  rw [h] at h2
  simpa using h2⟩
 subst hl
 refine ⟨rfl, by simp, by simp, fun e' => ?_⟩
 have h5 : S0.take (S0.length + 1) = S0 := List.take_of_length_le (by omega)
 simp [List.take_append, h5]
theorem Zqc {α : Type} {s : List α} {e : α} {n : Nat} (hn : n < s.length) : (s.set n e).take (n + 1) = s.take n ++ [e] := by
 have h1 : s.set n e = s.take n ++ e :: s.drop (n + 1) := List.set_eq_take_append_cons_drop.trans (if_pos hn)
 rw [h1]
 have h2 : (s.take n).length = n := by simp; omega
 rw [List.take_append, List.take_of_length_le (by omega), h2]
 simp
end Pg
end Ev
end Go.Proofs.YtiijipocjellpaaGreat
namespace Go.Proofs.YtiijipocjellpaaGreat
open Go.IntKind (i64)
open Go.RowKit
namespace Ev
namespace Pg
set_option linter.unusedVariables false
set_option linter.unusedSimpArgs false
namespace P3
def may3 (x : Ob) : Prop := x.a5 = 1
theorem ZoN {a b c d e f g : Int} {l : List RG} {N : Nat} (h : f = 1) : ZaQ a b c d e f g l N = some (.r0 true) := by unfold ZaQ; exact Zb h rfl
theorem ZrV {a b c d e f g : Int} {l : List RG} {N : Nat} (h : ¬ f = 1) : ZaQ a b c d e f g l N = some (.r0 false) := by unfold ZaQ; exact Zm h rfl
section
variable {L : List Ob} {Mx : List RH} {R : List RG} {N B v : Nat}
theorem e0 (hM : MI L 0 Mx) (k l : Int) : (∃ j : Nat, ZbY L k l j ∧ may3 (ob L j) ∧ Zah k l L Mx [] N = some (.r1 (Zae [] k l (j : Int)) [(j : Int)] [⟨(j : Int), 0⟩])) ∨ ((∀ j, ZbY L k l j → Zbb [] k l = true ∨ ¬ may3 (ob L j)) ∧ Zah k l L Mx [] N = some .r0) := by
 unfold Zah
 rcases ZnJ hM k l N with ⟨j, h1, h2⟩ | ⟨h1, y, h2⟩
 ·by_cases hy : may3 (ob L j)
  ·refine .inl ⟨j, h1, hy, Zn h2 (Zm (by simp) (Zm (by simp [Zbb]) (Zb (by omega) (Zb h1.2.1 (Zn (ZoN hy) (Zm (by simp) rfl))))))⟩
  ·refine .inr ⟨fun i hi => .inr (by rw [ZfT hi h1]; exact hy), Zn h2 (Zm (by simp) (Zm (by simp [Zbb]) (Zb (by omega) (Zb h1.2.1 (Zn (ZrV hy) (Zb (by simp) rfl))))))⟩
 ·exact .inr ⟨fun j hj => absurd hj (h1 j), Zn h2 (Zb (by simp) rfl)⟩
theorem e1 (hM : MI L 0 Mx) (k l : Int) (M : List RH) (O : List Int) (S : List RG) (hO : O.length ≤ 100000) (hS : S.length ≤ 100000) : (∃ j : Nat, ZbY L k l j ∧ ¬ Zbb M k l = true ∧ may3 (ob L j) ∧ ZF k l L Mx M O S N = some (.r1 (Zae M k l (j : Int)) (O ++ [(j : Int)]) (S ++ [⟨(j : Int), 0⟩]))) ∨ ((∀ j, ZbY L k l j → Zbb M k l = true ∨ ¬ may3 (ob L j)) ∧ ZF k l L Mx M O S N = some .r0) := by
 unfold ZF
 rcases ZnJ hM k l N with ⟨j, h1, h2⟩ | ⟨h1, y, h2⟩
 ·by_cases hm : Zbb M k l = true
  ·exact .inr ⟨fun i hi => .inl hm, Zn h2 (Zm (by simp) (Zb hm rfl))⟩
  by_cases hy : may3 (ob L j)
  ·refine .inl ⟨j, h1, hm, hy, Zn h2 (Zm (by simp) (Zm hm (Zb (by omega) (Zb h1.2.1 (Zn (ZoN hy) (Zm (by simp) (Zb (by omega) (Zb (by omega) rfl))))))))⟩
  ·refine .inr ⟨fun i hi => .inr (by rw [ZfT hi h1]; exact hy), Zn h2 (Zm (by simp) (Zm hm (Zb (by omega) (Zb h1.2.1 (Zn (ZrV hy) (Zb (by simp) rfl))))))⟩
 ·exact .inr ⟨fun j hj => absurd hj (h1 j), Zn h2 (Zb (by simp) rfl)⟩
theorem e2 (hM : MI L 0 Mx) (k l : Int) (M : List RH) (O : List Int) (s : List RG) (n : Nat) (hO : O.length ≤ 100000) (hn : n ≤ s.length) (h1n : n ≤ 100000) : (∃ j : Nat, ZbY L k l j ∧ ¬ Zbb M k l = true ∧ may3 (ob L j) ∧ ((n < s.length ∧ Z4 k l L Mx M O s n s.length N = some (.r1 (Zae M k l (j : Int)) (s.set n ⟨(j : Int), 0⟩) (O ++ [(j : Int)]))) ∨ Z4 k l L Mx M O s n s.length N = some (.r2 (Zae M k l (j : Int)) (O ++ [(j : Int)]) (s.take n ++ [⟨(j : Int), 0⟩])))) ∨ ((∀ j, ZbY L k l j → Zbb M k l = true ∨ ¬ may3 (ob L j)) ∧ Z4 k l L Mx M O s n s.length N = some .r0) := by
 unfold Z4
 rcases ZnJ hM k l N with ⟨j, h1, h2⟩ | ⟨h1, y, h2⟩
 ·by_cases hm : Zbb M k l = true
  ·exact .inr ⟨fun i hi => .inl hm, Zn h2 (Zm (by simp) (Zb hm rfl))⟩
  by_cases hy : may3 (ob L j)
  ·refine .inl ⟨j, h1, hm, hy, ?_⟩
   by_cases hc : n + 1 ≤ s.length
   ·exact .inl ⟨hc, Zn h2 (Zm (by simp) (Zm hm (Zb (by omega) (Zb h1.2.1 (Zn (ZoN hy) (Zm (by simp) (Zb (by omega) (Zb hc (Zb (by omega) rfl)))))))))⟩
   ·exact .inr (Zn h2 (Zm (by simp) (Zm hm (Zb (by omega) (Zb h1.2.1 (Zn (ZoN hy) (Zm (by simp) (Zb (by omega) (Zm hc (Zb h1n (Zb hn rfl)))))))))))
  ·refine .inr ⟨fun i hi => .inr (by rw [ZfT hi h1]; exact hy), Zn h2 (Zm (by simp) (Zm hm (Zb (by omega) (Zb h1.2.1 (Zn (ZrV hy) (Zb (by simp) rfl))))))⟩
 ·exact .inr ⟨fun j hj => absurd hj (h1 j), Zn h2 (Zb (by simp) rfl)⟩
def St (ph v : Nat) (M : List RH) (O : List Int) (S : List RG) : graph_objects_walkX → Prop
 | .h1m0 v' => ph = 1 ∧ v' = v ∧ M = [] ∧ O = [] ∧ S = []
 | .h1m1 v' O' s M' => ph = 1 ∧ v' = v ∧ M' = M ∧ O' = O ∧ s = S
 | .h1m2 v' O' s n c M' => ph = 1 ∧ v' = v ∧ M' = M ∧ O' = O ∧ s.take n = S ∧ n ≤ s.length ∧ c = s.length
 | .h2m0 v' => ph = 2 ∧ v' = v ∧ M = [] ∧ O = [] ∧ S = []
 | .h2m1 v' O' s M' => ph = 2 ∧ v' = v ∧ M' = M ∧ O' = O ∧ s = S
 | .h2m2 v' O' s n c M' => ph = 2 ∧ v' = v ∧ M' = M ∧ O' = O ∧ s.take n = S ∧ n ≤ s.length ∧ c = s.length
def outO : ZC → List Int
 | .r0 => []
 | .r1 l => l
abbrev stp (L : List Ob) (Mx : List RH) (R : List RG) (N : Nat) := Zaf L Mx R N
theorem ZsL {M : List RH} {O : List Int} {S : List RG} {x : graph_objects_walkX} (hM : MI L 0 Mx) (hx : St 1 v M O S x) (hv : v < R.length) (hO : O.length ≤ 100000) (hS : S.length ≤ 100000) :
  ∃ y M' O' S', stp L Mx R N x = some (.inl y) ∧ St 2 v M' O' S' y ∧ Zkm L may3 M O S (R.getD v RG.z).a0 (R.getD v RG.z).a1 M' O' S' := by
 cases x with
 | h1m0 v' =>
  obtain ⟨_, rfl, rfl, rfl, rfl⟩ := hx
  rcases e0 (N := N) hM (R.getD v' RG.z).a0 (R.getD v' RG.z).a1 with ⟨j, h1, h2, h3⟩ | ⟨h1, h2⟩
  ·refine ⟨.h2m1 v' _ _ _, _, _, _, ?_, ⟨rfl, rfl, rfl, rfl, rfl⟩, .inl ⟨j, h1, by simp [Zbb], h2, rfl, rfl, rfl⟩⟩
   show Zam L Mx R N v' = _
   unfold Zam
   exact Zb (by omega) (Zn h3 rfl)
  ·refine ⟨.h2m0 v', _, _, _, ?_, ⟨rfl, rfl, rfl, rfl, rfl⟩, .inr ⟨h1, rfl, rfl, rfl⟩⟩
   show Zam L Mx R N v' = _
   unfold Zam
   exact Zb (by omega) (Zn h2 rfl)
 | h1m1 v' O' s M' =>
  obtain ⟨_, rfl, rfl, rfl, rfl⟩ := hx
  rcases e1 (N := N) hM (R.getD v' RG.z).a0 (R.getD v' RG.z).a1 M' O' s hO hS with ⟨j, h1, hm, h2, h3⟩ | ⟨h1, h2⟩
  ·refine ⟨.h2m1 v' _ _ _, _, _, _, ?_, ⟨rfl, rfl, rfl, rfl, rfl⟩, .inl ⟨j, h1, hm, h2, rfl, rfl, rfl⟩⟩
   show Zan L Mx R N v' _ _ _ = _
   unfold Zan
   exact Zb (by omega) (Zn h3 rfl)
  ·refine ⟨.h2m1 v' _ _ _, _, _, _, ?_, ⟨rfl, rfl, rfl, rfl, rfl⟩, .inr ⟨h1, rfl, rfl, rfl⟩⟩
   show Zan L Mx R N v' _ _ _ = _
   unfold Zan
   exact Zb (by omega) (Zn h2 rfl)
 | h1m2 v' O' s n c M' =>
  obtain ⟨_, rfl, rfl, rfl, rfl, hn, rfl⟩ := hx
  have hn' : n ≤ 100000 := by rw [List.length_take] at hS; omega
  rcases e2 (N := N) hM (R.getD v' RG.z).a0 (R.getD v' RG.z).a1 M' O' s n hO hn hn' with ⟨j, h1, hm, h2, ⟨hc, h3⟩ | h3⟩ | ⟨h1, h2⟩
  ·refine ⟨.h2m2 v' _ _ (n + 1) s.length _, _, _, _, ?_, ⟨rfl, rfl, rfl, rfl, Zqc hc, by simp; omega, by simp⟩, .inl ⟨j, h1, hm, h2, rfl, rfl, rfl⟩⟩
   show ZT L Mx R N v' _ _ _ _ _ = _
   unfold ZT
   exact Zb (by omega) (Zn h3 rfl)
  ·refine ⟨.h2m1 v' _ _ _, _, _, _, ?_, ⟨rfl, rfl, rfl, rfl, rfl⟩, .inl ⟨j, h1, hm, h2, rfl, rfl, rfl⟩⟩
   show ZT L Mx R N v' _ _ _ _ _ = _
   unfold ZT
   exact Zb (by omega) (Zn h3 rfl)
  ·refine ⟨.h2m2 v' _ _ _ _ _, _, _, _, ?_, ⟨rfl, rfl, rfl, rfl, rfl, hn, rfl⟩, .inr ⟨h1, rfl, rfl, rfl⟩⟩
   show ZT L Mx R N v' _ _ _ _ _ = _
   unfold ZT
   exact Zb (by omega) (Zn h2 rfl)
 | h2m0 v' => exact absurd hx.1 (by decide)
 | h2m1 v' O' s M' => exact absurd hx.1 (by decide)
 | h2m2 v' O' s n c M' => exact absurd hx.1 (by decide)
theorem ZtI {M : List RH} {O : List Int} {S : List RG} {x : graph_objects_walkX} (hx : St 1 v M O S x) (hv : ¬ v < R.length) :
  ∃ r, stp L Mx R N x = some (.inr r) ∧ outO r = O := by
 cases x with
 | h1m0 v' =>
  obtain ⟨_, rfl, rfl, rfl, rfl⟩ := hx
  refine ⟨.r0, ?_, rfl⟩
  show Zam L Mx R N v' = _
  unfold Zam
  exact Zm (by omega) rfl
 | h1m1 v' O' s M' =>
  obtain ⟨_, rfl, rfl, rfl, rfl⟩ := hx
  refine ⟨.r1 O', ?_, rfl⟩
  show Zan L Mx R N v' _ _ _ = _
  unfold Zan
  exact Zm (by omega) rfl
 | h1m2 v' O' s n c M' =>
  obtain ⟨_, rfl, rfl, rfl, rfl, hn, rfl⟩ := hx
  refine ⟨.r1 O', ?_, rfl⟩
  show ZT L Mx R N v' _ _ _ _ _ = _
  unfold ZT
  exact Zm (by omega) rfl
 | h2m0 v' => exact absurd hx.1 (by decide)
 | h2m1 v' O' s M' => exact absurd hx.1 (by decide)
 | h2m2 v' O' s n c M' => exact absurd hx.1 (by decide)
theorem ZsM {M : List RH} {O : List Int} {x : graph_objects_walkX} (hx : St 2 v M O [] x) (hv : v < 100000) :
  ∃ y, stp L Mx R N x = some (.inl y) ∧ St 1 (v + 1) M O [] y := by
 cases x with
 | h1m0 v' => exact absurd hx.1 (by decide)
 | h1m1 v' O' s M' => exact absurd hx.1 (by decide)
 | h1m2 v' O' s n c M' => exact absurd hx.1 (by decide)
 | h2m0 v' =>
  obtain ⟨_, rfl, rfl, rfl, _⟩ := hx
  refine ⟨.h1m0 (v' + 1), ?_, ⟨rfl, rfl, rfl, rfl, rfl⟩⟩
  show Zby L Mx R N v' = _
  unfold Zby
  exact Zb (by omega) rfl
 | h2m1 v' O' s M' =>
  obtain ⟨_, rfl, rfl, rfl, rfl⟩ := hx
  refine ⟨.h1m1 (v' + 1) O' [] M', ?_, ⟨rfl, rfl, rfl, rfl, rfl⟩⟩
  show Zao L Mx R N v' _ _ _ = _
  unfold Zao
  exact Zm (by simp) (Zb (by omega) rfl)
 | h2m2 v' O' s n c M' =>
  obtain ⟨_, rfl, rfl, rfl, hs, hn, rfl⟩ := hx
  have hn0 : n = 0 := by
   have := congrArg List.length hs
   simp at this
   rcases this with h | h
   ·exact h
   ·subst h; simpa using hn
  refine ⟨.h1m2 (v' + 1) O' s n s.length M', ?_, ⟨rfl, rfl, rfl, rfl, hs, hn, rfl⟩⟩
  show Zap L Mx R N v' _ _ _ _ _ = _
  unfold Zap
  exact Zm (by omega) (Zb (by omega) rfl)
theorem wf {f : Nat} (h : f < 100000) : i64.wrap ((f : Int) + 1) = ((f + 1 : Nat) : Int) ∧ i64.wrap (((f + 1 : Nat) : Int) - 1) = (f : Int) := ⟨(w64 (by omega) (by omega)).trans (by omega), (w64 (by omega) (by omega)).trans (by omega)⟩
theorem ZtJ {M : List RH} {O : List Int} {S : List RG} {j f : Nat} {x : graph_objects_walkX} (hM : MI L 0 Mx) (hx : St 2 v M O (S ++ [⟨(j : Int), (f : Int)⟩]) x) (hj : j < L.length) (hf : f ≤ (ob L j).a7.length) (hF : (ob L j).a7.length ≤ 1000) (hO : O.length ≤ 1000) (hS : S.length ≤ 1000) :
  (f = (ob L j).a7.length → ∃ y, stp L Mx R N x = some (.inl y) ∧ St 2 v M O S y) ∧
  (f < (ob L j).a7.length → ∃ y M' O' S', stp L Mx R N x = some (.inl y) ∧ St 2 v M' O' S' y ∧ Zkm L may3 M O (S ++ [⟨(j : Int), ((f + 1 : Nat) : Int)⟩]) (fd L j f).a0 (fd L j f).a1 M' O' S') := by
 obtain ⟨w1, w2⟩ := wf (show f < 100000 by omega)
 have ej : ((j : Int)).toNat = j := rfl
 have ef : ((f : Int)).toNat = f := rfl
 cases x with
 | h1m0 v' => exact absurd hx.1 (by decide)
 | h1m1 v' O' s M' => exact absurd hx.1 (by decide)
 | h1m2 v' O' s n c M' => exact absurd hx.1 (by decide)
 | h2m0 v' => exact absurd hx.2.2.2.2 (by simp)
 | h2m1 v' O' s M' =>
  obtain ⟨_, rfl, rfl, rfl, hs⟩ := hx
  subst hs
  have hl : (S ++ [(⟨(j : Int), (f : Int)⟩ : RG)]).length = S.length + 1 := by simp
  have hl' : (S ++ [(⟨(j : Int), (f : Int)⟩ : RG)]).length - 1 = S.length := by simp
  have hg : (S ++ [(⟨(j : Int), (f : Int)⟩ : RG)]).getD S.length RG.z = ⟨(j : Int), (f : Int)⟩ := by simp
  have hset : ∀ e : RG, (S ++ [(⟨(j : Int), (f : Int)⟩ : RG)]).set S.length e = S ++ [e] := fun e => by simp
  constructor
  ·intro hfe
   refine ⟨.h2m2 v' O' (S ++ [⟨(j : Int), (f : Int)⟩]) S.length (S.length + 1) M', ?_, ⟨rfl, rfl, rfl, rfl, by simp, by simp, by simp⟩⟩
   show Zao L Mx R N v' _ _ _ = _
   unfold Zao
   rw [hl', hg, hl]
   exact Zb (by omega) (Zb (by omega) (Zb (by show (0 : Int) ≤ (j : Int); omega) (Zb hj (Zb (by show (f : Int) = (((ob L j).a7.length : Nat) : Int); omega) rfl))))
  ·intro hfl
   have hsz : (S ++ [(⟨(j : Int), ((f + 1 : Nat) : Int)⟩ : RG)]).length ≤ 100000 := by simp; omega
   have hstep : ∀ z, ((ZF (fd L j f).a0 (fd L j f).a1 L Mx M' O' (S ++ [⟨(j : Int), ((f + 1 : Nat) : Int)⟩]) N).bind fun r => match r with
     | .r0 => some (.inl (graph_objects_walkX.h2m1 v' O' (S ++ [⟨(j : Int), ((f + 1 : Nat) : Int)⟩]) M'))
     | .r1 y0 y1 y2 => some (.inl (graph_objects_walkX.h2m1 v' y1 y2 y0))) = z → stp L Mx R N (.h2m1 v' O' (S ++ [⟨(j : Int), (f : Int)⟩]) M') = z := by
    intro z hz
    show Zao L Mx R N v' _ _ _ = _
    unfold Zao
    rw [hl', hg, hl]
    refine Zb (by omega) (Zb (by omega) (Zb (by show (0 : Int) ≤ (j : Int); omega) (Zb hj (Zm (by show ¬ (f : Int) = (((ob L j).a7.length : Nat) : Int); omega) ?_))))
    show (if (0 : Int) ≤ i64.wrap (i64.wrap ((f : Int) + 1) - 1) then _ else _) = z
    rw [w1, w2]
    refine Zb (by omega) (Zb hfl ?_)
    rw [hset]
    exact hz
   rcases e1 (N := N) hM (fd L j f).a0 (fd L j f).a1 M' O' (S ++ [⟨(j : Int), ((f + 1 : Nat) : Int)⟩]) (by omega) hsz with ⟨i, h1, hm, h2, h3⟩ | ⟨h1, h2⟩
   ·exact ⟨.h2m1 v' _ _ _, _, _, _, hstep _ (Zn h3 rfl), ⟨rfl, rfl, rfl, rfl, rfl⟩, .inl ⟨i, h1, hm, h2, rfl, rfl, rfl⟩⟩
   ·exact ⟨.h2m1 v' _ _ _, _, _, _, hstep _ (Zn h2 rfl), ⟨rfl, rfl, rfl, rfl, rfl⟩, .inr ⟨h1, rfl, rfl, rfl⟩⟩
 | h2m2 v' O' s n c M' =>
  obtain ⟨_, rfl, rfl, rfl, hs, hn, rfl⟩ := hx
  obtain ⟨t1, t2, t3, t4⟩ := ZtH (d := RG.z) hs hn
  constructor
  ·intro hfe
   refine ⟨.h2m2 v' O' s (n - 1) s.length M', ?_, ⟨rfl, rfl, rfl, rfl, t3, by omega, rfl⟩⟩
   show Zap L Mx R N v' _ _ _ _ _ = _
   unfold Zap
   rw [t2]
   exact Zb (by omega) (Zb (by omega) (Zb (by omega) (Zb (by show (0 : Int) ≤ (j : Int); omega) (Zb hj (Zb (by show (f : Int) = (((ob L j).a7.length : Nat) : Int); omega) (Zb (by omega) rfl))))))
  ·intro hfl
   have hstep : ∀ z, ((Z4 (fd L j f).a0 (fd L j f).a1 L Mx M' O' (s.set (n - 1) ⟨(j : Int), ((f + 1 : Nat) : Int)⟩) n s.length N).bind fun r => match r with
     | .r0 => some (.inl (graph_objects_walkX.h2m2 v' O' (s.set (n - 1) ⟨(j : Int), ((f + 1 : Nat) : Int)⟩) n s.length M'))
     | .r1 y0 y1 y2 => some (.inl (graph_objects_walkX.h2m2 v' y2 y1 (n + 1) s.length y0))
     | .r2 y0 y1 y2 => some (.inl (graph_objects_walkX.h2m1 v' y1 y2 y0))) = z → stp L Mx R N (.h2m2 v' O' s n s.length M') = z := by
    intro z hz
    show Zap L Mx R N v' _ _ _ _ _ = _
    unfold Zap
    rw [t2]
    refine Zb (by omega) (Zb (by omega) (Zb (by omega) (Zb (by show (0 : Int) ≤ (j : Int); omega) (Zb hj (Zm (by show ¬ (f : Int) = (((ob L j).a7.length : Nat) : Int); omega) ?_)))))
    show (if (0 : Int) ≤ i64.wrap (i64.wrap ((f : Int) + 1) - 1) then _ else _) = z
    rw [w1, w2]
    exact Zb (by omega) (Zb hfl hz)
   have hsl : (s.set (n - 1) (⟨(j : Int), ((f + 1 : Nat) : Int)⟩ : RG)).length = s.length := by simp
   have he := e2 (N := N) hM (fd L j f).a0 (fd L j f).a1 M' O' (s.set (n - 1) ⟨(j : Int), ((f + 1 : Nat) : Int)⟩) n (by omega) (by omega) (by omega)
   rw [hsl] at he
   rcases he with ⟨i, h1, hm, h2, ⟨hc, h3⟩ | h3⟩ | ⟨h1, h2⟩
   ·exact ⟨.h2m2 v' _ _ (n + 1) s.length _, _, _, _, hstep _ (Zn h3 rfl), ⟨rfl, rfl, rfl, rfl, (Zqc (by omega)).trans (by rw [t4]), by simp; omega, by simp⟩, .inl ⟨i, h1, hm, h2, rfl, rfl, rfl⟩⟩
   ·exact ⟨.h2m1 v' _ _ _, _, _, _, hstep _ (Zn h3 rfl), ⟨rfl, rfl, rfl, rfl, by rw [t4]⟩, .inl ⟨i, h1, hm, h2, rfl, rfl, rfl⟩⟩
   ·exact ⟨.h2m2 v' _ _ n _ _, _, _, _, hstep _ (Zn h2 rfl), ⟨rfl, rfl, rfl, rfl, t4 _, by simp; omega, by simp⟩, .inr ⟨h1, rfl, rfl, rfl⟩⟩
structure Met (L : List Ob) (R : List RG) (O : List Int) : Prop where
 o : ∀ x ∈ O, ∃ j : Nat, x = (j : Int) ∧ ZbY L (ob L j).a0 (ob L j).a1 j
 c : ∀ j : Nat, (j : Int) ∈ O → ∀ q, q < (ob L j).a7.length → ∀ j', ZbY L (fd L j q).a0 (fd L j q).a1 j' → may3 (ob L j') → (j' : Int) ∈ O
 r : ∀ q, q < R.length → ∀ j', ZbY L (R.getD q RG.z).a0 (R.getD q RG.z).a1 j' → may3 (ob L j') → (j' : Int) ∈ O
 g : ∀ T, Gen L may3 R T → ∀ j : Nat, (j : Int) ∈ O → T j
 b : O.length ≤ 50
theorem goes (hM : MI L 0 Mx) (hF : ∀ j, (ob L j).a7.length ≤ 1000) (hR : R.length ≤ 1000) : ∀ d ph v M O S x f, Inv L may3 R 50 v M O S → St ph v M O S x → (ph = 1 ∨ v < R.length) → v ≤ R.length → ZbZ L O L.length + Zbx L S + 2 * (R.length - v) + (2 - ph) ≤ d → (ph = 1 ∨ ph = 2) → (ph = 1 → S = []) → (ph = 2 → ∀ j', ZbY L (R.getD v RG.z).a0 (R.getD v RG.z).a1 j' → may3 (ob L j') → (j' : Int) ∈ O) → d < f → ∃ r, Za4 (stp L Mx R N) f x = some r ∧ Met L R (outO r) := by
 intro d
 induction d using Nat.strongRecOn with
 | ind d ih =>
  intro ph v M O S x f I hx hp hv hd hph hS hcur hf
  obtain ⟨f, rfl⟩ : ∃ j, f = j + 1 := ⟨f - 1, by omega⟩
  have hb := I.b
  have hl := I.l
  rcases hph with rfl | rfl
  ·by_cases h : v < R.length
   ·obtain ⟨y, M', O', S', h1, h2, h3⟩ := ZsL (N := N) hM hx h (by omega) (by omega)
    obtain ⟨I', k1, k2, k3, k4⟩ := Zot I (fun T hT j hj hy => hT.1 v j h hj hy) h3
    have hO : ZbZ L O' L.length + Zbx L S' ≤ ZbZ L O L.length + Zbx L S := by
     by_cases e : O' = O
     ·subst e; omega
     ·have := k4 e; omega
    obtain ⟨r, q1, q2⟩ := ih (ZbZ L O' L.length + Zbx L S' + 2 * (R.length - v)) (by omega) 2 v M' O' S' y f I' h2 (.inr h) hv (by omega) (.inr rfl) (fun q => by omega) (fun _ => k1) (by omega)
    exact ⟨r, (Zad h1).trans q1, q2⟩
   ·obtain ⟨r, h1, h2⟩ := ZtI (L := L) (Mx := Mx) (N := N) hx h
    refine ⟨r, Zb6 h1, ?_⟩
    rw [h2]
    obtain rfl := hS rfl
    refine ⟨I.o, fun j hj q hq j' h3 h4 => ?_, fun q hq j' h3 h4 => I.r q (by omega) hq j' h3 h4, I.g, by omega⟩
    rcases I.c j hj q hq j' h3 h4 with h5 | ⟨_, h5, _⟩
    ·exact h5
    ·cases h5
  ·have hv' : v < R.length := hp.elim (fun q => by omega) id
   rcases List.eq_nil_or_concat S with rfl | ⟨S0, e, rfl⟩
   ·obtain ⟨y, h1, h2⟩ := ZsM (L := L) (Mx := Mx) (R := R) (N := N) hx (by omega)
    have I' : Inv L may3 R 50 (v + 1) M O [] := by
     refine ⟨I.o, I.m, I.s, I.c, fun q h3 h4 j' h5 h6 => ?_, I.g, I.b, I.l⟩
     by_cases hq : q < v
     ·exact I.r q hq h4 j' h5 h6
     ·obtain rfl : q = v := by omega
      exact hcur rfl j' h5 h6
    obtain ⟨r, q1, q2⟩ := ih (ZbZ L O L.length + Zbx L [] + 2 * (R.length - (v + 1)) + 1) (by omega) 1 (v + 1) M O [] y f I' h2 (.inl rfl) (by omega) (by omega) (.inl rfl) (fun _ => rfl) (fun q => by omega) (by omega)
    exact ⟨r, (Zad h1).trans q1, q2⟩
   ·rw [List.concat_eq_append] at I hx hd hb hl
    obtain ⟨j, g, rfl, hj, hg⟩ := I.s e (by simp)
    have hjl : j < L.length := by
     obtain ⟨i, e1, e2⟩ := I.o _ hj
     obtain rfl : i = j := by omega
     exact e2.2.1
    rw [List.length_append, List.length_singleton] at hl
    obtain ⟨p1, p2⟩ := ZtJ (N := N) hM hx hjl hg (hF j) (by omega) (by omega)
    by_cases h : g = (ob L j).a7.length
    ·obtain ⟨y, h1, h2⟩ := p1 h
     have hs : Zbx L (S0 ++ [⟨(j : Int), (g : Int)⟩]) = Zbx L S0 + 1 := by
      rw [ZgA]
      show Zbx L S0 + (((ob L j).a7.length + 1 - g) + 0) = _
      omega
     subst h
     obtain ⟨r, q1, q2⟩ := ih (ZbZ L O L.length + Zbx L S0 + 2 * (R.length - v)) (by omega) 2 v M O S0 y f (Zu8 I) h2 (.inr hv') hv (by omega) (.inr rfl) (fun q => by omega) hcur (by omega)
     exact ⟨r, (Zad h1).trans q1, q2⟩
    ·have hlt : g < (ob L j).a7.length := by omega
     obtain ⟨y, M', O', S', h1, h2, h3⟩ := p2 hlt
     have hT : ∀ T, Gen L may3 R T → ∀ j', ZbY L (fd L j g).a0 (fd L j g).a1 j' → may3 (ob L j') → T j' := fun T hT j' he hy => hT.2 j g j' (I.g T hT j hj) hlt he hy
     have fin : ∀ tl : List RG, S' = S0 ++ ⟨(j : Int), ((g + 1 : Nat) : Int)⟩ :: tl → Zkm L may3 M O (S0 ++ [⟨(j : Int), (g : Int)⟩]) (fd L j g).a0 (fd L j g).a1 M' O' (S0 ++ ⟨(j : Int), (g : Int)⟩ :: tl) → ∃ r, Za4 (stp L Mx R N) (f + 1) x = some r ∧ Met L R (outO r) := by
      intro tl hS' E
      obtain ⟨I1, k1, k2, k3, k4⟩ := Zot I hT E
      obtain ⟨I2, hs⟩ := ZtG hlt I1 k1
      rw [← hS'] at I2 hs
      have hm : ZbZ L O' L.length + Zbx L S' < ZbZ L O L.length + Zbx L (S0 ++ [⟨(j : Int), (g : Int)⟩]) := by
       by_cases e : O' = O
       ·subst e; omega
       ·have := k4 e; omega
      obtain ⟨r, q1, q2⟩ := ih (ZbZ L O' L.length + Zbx L S' + 2 * (R.length - v)) (by omega) 2 v M' O' S' y f I2 h2 (.inr hv') hv (by omega) (.inr rfl) (fun q => by omega) (fun _ j' e1 e2 => k2 _ (hcur rfl j' e1 e2)) (by omega)
      exact ⟨r, (Zad h1).trans q1, q2⟩
     rcases h3 with ⟨i, a1, a2, a3, rfl, rfl, rfl⟩ | ⟨a1, rfl, rfl, rfl⟩
     ·exact fin [⟨(i : Int), 0⟩] (by simp) (.inl ⟨i, a1, a2, a3, rfl, rfl, by simp⟩)
     ·exact fin [] rfl (.inr ⟨a1, rfl, rfl, rfl⟩)
theorem walk_is (hM : MI L 0 Mx) (hF : ∀ j, (ob L j).a7.length ≤ 1000) (hR : R.length ≤ 1000) (hB : ZbZ L [] L.length ≤ 50) (hN : 10000 ≤ N) : ∃ r, Zbq L Mx R N = some r ∧ Met L R (outO r) := by
 refine (fun ⟨r, h1, h2⟩ => ⟨r, (ZeS (x := graph_objects_walkX.h1m0 0) rfl).trans h1, h2⟩) (goes (N := N) hM hF hR (ZbZ L [] L.length + Zbx L [] + 2 * (R.length - 0) + (2 - 1)) 1 0 [] [] [] (.h1m0 0) N (inv_0 hB) ⟨rfl, rfl, rfl, rfl, rfl⟩ (.inl rfl) (Nat.zero_le _) (by omega) (.inl rfl) (fun _ => rfl) (fun q => by omega) (by simp only [Zbx]; omega))
end
end P3
end Pg
end Ev
end Go.Proofs.YtiijipocjellpaaGreat
namespace Go.Proofs.YtiijipocjellpaaGreat
open Go.RowKit
namespace Ev
namespace Pg
set_option linter.unusedVariables false
set_option linter.unusedSimpArgs false
def rf (L : List Ob) (O : List Int) : List RG := O.map fun x => ⟨(ob L x.toNat).a0, (ob L x.toNat).a1⟩
theorem Zu9 {L : List Ob} {Mx : List RH} {N : Nat} {O : List Int} (h : ∀ x ∈ O, ∃ j : Nat, x = (j : Int) ∧ j < L.length) (hO : O.length ≤ 1000) : ∀ d i f, i + d = O.length → 1 ≤ i → d < f → Za4 (Za5 L Mx O N) f (.h1m1 ((rf L O).take i) i) = some (.r1 (rf L O)) := by
 have hl : (rf L O).length = O.length := by simp [rf]
 intro d
 induction d with
 | zero =>
  intro i f hi h1 hf
  obtain ⟨f, rfl⟩ : ∃ j, f = j + 1 := ⟨f - 1, by omega⟩
  refine Zb6 ?_
  show Za0 L Mx O N _ i = _
  unfold Za0
  rw [List.take_of_length_le (by omega)]
  exact Zm (by omega) rfl
 | succ d ih =>
  intro i f hi h1 hf
  obtain ⟨f, rfl⟩ : ∃ j, f = j + 1 := ⟨f - 1, by omega⟩
  have hil : i < O.length := by omega
  obtain ⟨j, e, hj⟩ := h (O.getD i 0) (by rw [show O.getD i 0 = O[i] by simp [hil]]; exact List.getElem_mem hil)
  refine (Zad ?_).trans (ih (i + 1) f (by omega) (by omega) (by omega))
  show Za0 L Mx O N _ i = _
  unfold Za0
  have ht : (rf L O).take i ++ [(⟨(ob L (O.getD i 0).toNat).a0, (ob L (O.getD i 0).toNat).a1⟩ : RG)] = (rf L O).take (i + 1) := by
   have hil' : i < (rf L O).length := by omega
   rw [← ZsJ hil' RG.z]
   congr 2
   simp [rf, hil]
  rw [← ht]
  exact Zb (by omega) (Zb (by omega) (Zb (by rw [e]; exact hj) (Zb (by rw [List.length_take]; omega) (Zb (by omega) rfl))))
theorem ZuA {L : List Ob} {Mx : List RH} {N : Nat} {O : List Int} (h : ∀ x ∈ O, ∃ j : Nat, x = (j : Int) ∧ j < L.length) (hO : O.length ≤ 1000) (hN : 2000 ≤ N) : (O = [] ∧ Za1 L Mx O N = some .r0) ∨ (O ≠ [] ∧ Za1 L Mx O N = some (.r1 (rf L O))) := by
 obtain ⟨n, rfl⟩ : ∃ n, N = n + 1 := ⟨N - 1, by omega⟩
 have hg : Za1 L Mx O (n + 1) = Za4 (Za5 L Mx O (n + 1)) (n + 1) .h1m0 := ZeS rfl
 rw [hg]
 cases O with
 | nil =>
  refine .inl ⟨rfl, Zb6 ?_⟩
  show Zaz L Mx [] (n + 1) = _
  unfold Zaz
  exact Zm (by simp) rfl
 | cons x O =>
  obtain ⟨j, e, hj⟩ := h x (by simp)
  refine .inr ⟨by simp, (Zad (y := .h1m1 ((rf L (x :: O)).take 1) 1) ?_).trans (Zu9 h hO O.length 1 n (by simp; omega) (Nat.le_refl _) (by simp at hO; omega))⟩
  show Zaz L Mx (x :: O) (n + 1) = _
  unfold Zaz
  exact Zb (by rw [List.length_cons]; omega) (Zb (by show (0 : Int) ≤ x; omega) (Zb (by show x.toNat < L.length; rw [e]; exact hj) rfl))
theorem refs2 (L : List Ob) (Mx : List RH) : Zc0 L Mx 100000 = some .r0 := by
 refine (ZeS (x := graph_objects_refsX.h1m0) rfl).trans ?_
 exact Zb6 (n := 99999) rfl
theorem ZuB {L : List Ob} (hl : L.length ≤ 1000) (hF : ∀ j, (ob L j).a7.length ≤ 1000) (hB : ZbZ L [] L.length ≤ 50) (a b : Int) : ∃ O, P3.Met L [⟨a, b⟩] O ∧ ((O = [] ∧ Zaw L a b 100000 = some .r0) ∨ (O ≠ [] ∧ Zaw L a b 100000 = some (.r1 (rf L O)))) := by
 obtain ⟨Mx, hM, hi⟩ := ZtF (L := L) (N := 100000) (by omega) (by decide)
 obtain ⟨r, h1, h2⟩ := P3.walk_is (R := [⟨a, b⟩]) (N := 100000) hM hF (by simp) hB (by decide)
 have ho : ∀ x ∈ P3.outO r, ∃ j : Nat, x = (j : Int) ∧ j < L.length := fun x hx => by
  obtain ⟨j, e1, e2⟩ := h2.o x hx
  exact ⟨j, e1, e2.2.1⟩
 refine ⟨P3.outO r, h2, ?_⟩
 unfold Zaw
 cases r with
 | r0 => exact .inl ⟨rfl, Zn hi (Zn h1 (Zn (refs2 L Mx) rfl))⟩
 | r1 O =>
  rcases ZuA (Mx := Mx) (N := 100000) ho (by have := h2.b; omega) (by decide) with ⟨e, q⟩ | ⟨e, q⟩
  ·exact .inl ⟨e, Zn hi (Zn h1 (Zn q rfl))⟩
  ·exact .inr ⟨e, Zn hi (Zn h1 (Zn q rfl))⟩
end Pg
namespace Pg
set_option linter.unusedVariables false
set_option linter.unusedSimpArgs false
def kf (L : List Ob) (j : Nat) : RG := ⟨(ob L j).a0, (ob L j).a1⟩
open Classical in
noncomputable def left (L : List Ob) (M : List RG) : Nat → Nat
 | 0 => 0
 | n + 1 => (if kf L n ∈ M then 0 else 1) + left L M n
theorem ZnK (L : List Ob) (M : List RG) : ∀ n, left L M n ≤ n
 | 0 => Nat.le_refl _
 | n + 1 => by
  have := ZnK L M n
  simp only [left]; split <;> omega
theorem Zl5 {L : List Ob} {M M' : List RG} (h : ∀ x ∈ M, x ∈ M') : ∀ n, left L M' n ≤ left L M n
 | 0 => Nat.le_refl _
 | n + 1 => by
  have ih := Zl5 (L := L) h n
  simp only [left]
  by_cases e : kf L n ∈ M
  ·rw [if_pos e, if_pos (h _ e)]; omega
  ·rw [if_neg e]; split <;> omega
theorem Zqd {L : List Ob} {M : List RG} {v : RG} (hv : ¬ v ∈ M) {j : Nat} (hj : kf L j = v) : ∀ n, j < n → left L (M ++ [v]) n + 1 ≤ left L M n
 | 0, h => by omega
 | n + 1, h => by
  have hm : ∀ x ∈ M, x ∈ M ++ [v] := fun x hx => List.mem_append_left _ hx
  simp only [left]
  by_cases e : n = j
  ·subst e
   rw [if_pos (by rw [hj]; simp), if_neg (by rw [hj]; exact hv)]
   have := Zl5 (L := L) hm n
   omega
  ·have ih := Zqd hv hj n (by omega)
   by_cases e : kf L n ∈ M
   ·rw [if_pos e, if_pos (hm _ e)]; omega
   ·rw [if_neg e]; split <;> omega
def fO (x : Ob) : ZbD := .r0 x.a0 x.a1 x.a2 x.a3 x.a4 x.a5 x.a6 x.a7
theorem ZtK {L : List Ob} {a b : Int} {N : Nat} (hl : L.length ≤ 1000) : ∀ d i f, i + d = L.length → (∀ q, q < i → ¬ Zdj L a b q) → d < f →
  (∃ j, j < L.length ∧ Zdj L a b j ∧ (∀ q, q < j → ¬ Zdj L a b q) ∧ Za4 (Zbu L a b N) f (.h1m0 i) = some (fO (ob L j))) ∨ ((∀ q, q < L.length → ¬ Zdj L a b q) ∧ Za4 (Zbu L a b N) f (.h1m0 i) = some .r1) := by
 intro d
 induction d with
 | zero =>
  intro i f hi hq hf
  obtain ⟨f, rfl⟩ : ∃ j, f = j + 1 := ⟨f - 1, by omega⟩
  refine .inr ⟨fun q h => hq q (by omega), Zb6 ?_⟩
  show Zbm L a b N i = _
  unfold Zbm
  exact Zm (by omega) rfl
 | succ d ih =>
  intro i f hi hq hf
  obtain ⟨f, rfl⟩ : ∃ j, f = j + 1 := ⟨f - 1, by omega⟩
  by_cases h : Zdj L a b i
  ·refine .inl ⟨i, by omega, h, hq, Zb6 ?_⟩
   show Zbm L a b N i = _
   unfold Zbm
   exact Zb (by omega) (Zb h rfl)
  ·have e : Za4 (Zbu L a b N) (f + 1) (.h1m0 i) = Za4 (Zbu L a b N) f (.h1m0 (i + 1)) := by
    refine Zad ?_
    show Zbm L a b N i = _
    unfold Zbm
    exact Zb (by omega) (Zm h (Zb (by omega) rfl))
   rw [e]
   exact ih (i + 1) f (by omega) (fun q hq' => by
    by_cases e : q = i
    ·subst e; exact h
    ·exact hq q (by omega)) (by omega)
theorem ZtW {L : List Ob} {a b : Int} {N : Nat} (hl : L.length ≤ 1000) (hN : 2000 ≤ N) :
  (∃ j, j < L.length ∧ Zdj L a b j ∧ (∀ q, q < j → ¬ Zdj L a b q) ∧ Zbv L a b N = some (fO (ob L j))) ∨ ((∀ q, q < L.length → ¬ Zdj L a b q) ∧ Zbv L a b N = some .r1) := by
 have e : Zbv L a b N = Za4 (Zbu L a b N) N (.h1m0 0) := ZeS rfl
 rw [e]
 exact ZtK hl L.length 0 N (by omega) (fun q h => by omega) (by omega)
theorem ZuC {M : List RG} {a b : Int} {N : Nat} (hl : M.length ≤ 1000) : ∀ d i f, i + d = M.length → (∀ q, q < i → ¬ M.getD q RG.z = ⟨a, b⟩) → d < f →
  ∃ y, Za4 (Zb4 M a b N) f (.h1m0 i) = some (.r0 y) ∧ (y = true ↔ (⟨a, b⟩ : RG) ∈ M) := by
 intro d
 induction d with
 | zero =>
  intro i f hi hq hf
  obtain ⟨f, rfl⟩ : ∃ j, f = j + 1 := ⟨f - 1, by omega⟩
  refine ⟨false, Zb6 ?_, ⟨fun h => by simp at h, fun h => ?_⟩⟩
  ·show Zbd M a b N i = _
   unfold Zbd
   exact Zm (by omega) rfl
  ·obtain ⟨q, h1, h2⟩ := List.getElem_of_mem h
   exact absurd (by simp [h1, h2]) (hq q (by omega))
 | succ d ih =>
  intro i f hi hq hf
  obtain ⟨f, rfl⟩ : ∃ j, f = j + 1 := ⟨f - 1, by omega⟩
  by_cases h : (M.getD i RG.z).a0 = a ∧ (M.getD i RG.z).a1 = b
  ·refine ⟨true, Zb6 ?_, ⟨fun _ => ?_, fun _ => rfl⟩⟩
   ·show Zbd M a b N i = _
    unfold Zbd
    exact Zb (by omega) (Zb h rfl)
   ·rw [← h.1, ← h.2]
    have hi' : i < M.length := by omega
    have : M.getD i RG.z = M[i] := by simp [hi']
    rw [this]
    exact List.getElem_mem hi'
  ·have e : Za4 (Zb4 M a b N) (f + 1) (.h1m0 i) = Za4 (Zb4 M a b N) f (.h1m0 (i + 1)) := by
    refine Zad ?_
    show Zbd M a b N i = _
    unfold Zbd
    exact Zb (by omega) (Zm h (Zb (by omega) rfl))
   rw [e]
   exact ih (i + 1) f (by omega) (fun q hq' => by
    by_cases e : q = i
    ·subst e; exact fun e' => h (by rw [e']; exact ⟨rfl, rfl⟩)
    ·exact hq q (by omega)) (by omega)
theorem dhas {M : List RG} {a b : Int} {N : Nat} (hl : M.length ≤ 1000) (hN : 2000 ≤ N) : ∃ y, Zd4 M a b N = some (.r0 y) ∧ (y = true ↔ (⟨a, b⟩ : RG) ∈ M) := by
 have e : Zd4 M a b N = Za4 (Zb4 M a b N) N (.h1m0 0) := ZeS rfl
 rw [e]
 exact ZuC hl M.length 0 N (by omega) (fun q h => by omega) (by omega)
def V (L : List Ob) (O : List Int) (a b : Int) : Prop := ∀ j', ZbY L a b j' → P3.may3 (ob L j') → (j' : Int) ∈ O
def D (L : List Ob) (O : List Int) (M : List RG) : Prop := ∀ x ∈ M, ∃ j : Nat, (j : Int) ∈ O ∧ x = kf L j
def Cl (L : List Ob) (O : List Int) : Prop := ∀ j : Nat, (j : Int) ∈ O → ∀ q, q < (ob L j).a7.length → V L O (fd L j q).a0 (fd L j q).a1
def Zmz (M : List RG) : Zw → List RG
 | .r0 => M
 | .r1 l => l
structure Zny (L : List Ob) (O : List Int) (M M' : List RG) : Prop where
 d : D L O M'
 s : ∀ x ∈ M, x ∈ M'
 b : M'.length + left L M' L.length ≤ M.length + left L M L.length
section
variable {L : List Ob} {O : List Int} {N : Nat}
theorem is_y {a b : Int} {j : Nat} (hf : Zbv L a b N = some (fO (ob L j))) : ∃ y, Zcs L a b N = some (.r0 y) ∧ (y = true ↔ (a = 2 ∧ ¬ b = 0)) := by
 unfold Zcs
 by_cases h2 : a = 2
 ·by_cases h0 : b = 0
  ·exact ⟨false, Zn hf (Zb h2 (Zm (by simp [h0]) rfl)), by simp [h0]⟩
  ·exact ⟨true, Zn hf (Zb h2 (Zb h0 rfl)), by simp [h2, h0]⟩
 ·exact ⟨false, Zn hf (Zm h2 rfl), by simp [h2]⟩
theorem is_n {a b : Int} (hf : Zbv L a b N = some .r1) : Zcs L a b N = some (.r0 false) := by
 unfold Zcs
 exact Zn hf rfl
theorem ZsN {M : List RG} {a b : Int} {j : Nat} (hD : D L O M) (hj : (j : Int) ∈ O) (hk : kf L j = ⟨a, b⟩) : D L O (M ++ [⟨a, b⟩]) := by
 intro x hx
 rcases List.mem_append.1 hx with hx | hx
 ·exact hD x hx
 ·rw [List.mem_singleton] at hx
  exact ⟨j, hj, hx.trans hk.symm⟩
theorem in2 (hl : L.length ≤ 1000) (hN : 2000 ≤ N) (rec : List RJ → List RG → Int → Int → Option Zw) {M : List RG} {a b : Int} (hV : V L O a b) (hM : M.length ≤ 1000) :
  Zcu rec L M a b N = some (.inr .r0) ∨ ∃ j : Nat, (j : Int) ∈ O ∧ j < L.length ∧ kf L j = ⟨a, b⟩ ∧ ¬ (⟨a, b⟩ : RG) ∈ M ∧ Zcu rec L M a b N = some (.inl (.h1m0 (M ++ [⟨a, b⟩]) 0 (ob L j).a0 (ob L j).a1 (ob L j).a2 (ob L j).a3 (ob L j).a4 (ob L j).a5 (ob L j).a6 (ob L j).a7)) := by
 unfold Zcu
 rcases ZtW (a := a) (b := b) hl hN with ⟨j, h1, h2, h3, h4⟩ | ⟨h1, h2⟩
 ·obtain ⟨y, i1, i2⟩ := is_y h4
  by_cases hy : y = true
  ·obtain ⟨z, g1, g2⟩ := dhas (a := a) (b := b) hM hN
   by_cases hz : z = true
   ·exact .inl ((Zn h4 (Zn i1 (Zm (by simp [hy]) (Zn g1 (Zb hz rfl))))))
   ·by_cases hp : (ob L j).a5 = 1
    ·refine .inr ⟨j, hV j ⟨i2.1 hy, h1, h2, h3⟩ hp, h1, ?_, fun q => hz (g2.2 q), (Zn h4 (Zn i1 (Zm (by simp [hy]) (Zn g1 (Zm hz (Zm (fun q => q hp) (Zb (by omega) rfl)))))))⟩
     obtain ⟨k1, k2⟩ := h2
     unfold kf
     rw [← k1, ← k2]
    ·exact .inl ((Zn h4 (Zn i1 (Zm (by simp [hy]) (Zn g1 (Zm hz (Zb hp rfl)))))))
  ·exact .inl ((Zn h4 (Zn i1 (Zb (by simp [hy]) rfl))))
 ·exact .inl ((Zn h2 (Zn (is_n h2) (Zb (by simp) rfl))))
theorem loop2 (hC : Cl L O) (hF : ∀ j, (ob L j).a7.length ≤ 1000) {n : Nat} {rec : List RJ → List RG → Int → Int → Option Zw}
  (hrec : ∀ M a b, D L O M → V L O a b → M.length + left L M L.length ≤ 1000 → left L M L.length < n → ∃ r, rec L M a b = some r ∧ Zny L O M (Zmz M r))
  {M0 : List RG} {a b : Int} {j : Nat} (hj : (j : Int) ∈ O) : ∀ d q M f, q + d = (ob L j).a7.length → D L O M → M.length + left L M L.length ≤ 1000 → left L M L.length < n → d < f →
  ∃ M', Za4 (Zct rec L M0 a b N) f (.h1m0 M q (ob L j).a0 (ob L j).a1 (ob L j).a2 (ob L j).a3 (ob L j).a4 (ob L j).a5 (ob L j).a6 (ob L j).a7) = some (.r1 M') ∧ Zny L O M M' := by
 have hf' := hF j
 intro d
 induction d with
 | zero =>
  intro q M f hq hD hb hn hf
  obtain ⟨f, rfl⟩ : ∃ j, f = j + 1 := ⟨f - 1, by omega⟩
  refine ⟨M, Zb6 ?_, ⟨hD, fun x hx => hx, Nat.le_refl _⟩⟩
  show Zbz rec L M0 a b N M q _ _ _ _ _ _ _ _ = _
  unfold Zbz
  exact Zm (by omega) rfl
 | succ d ih =>
  intro q M f hq hD hb hn hf
  obtain ⟨f, rfl⟩ : ∃ j, f = j + 1 := ⟨f - 1, by omega⟩
  obtain ⟨r, h1, h2⟩ := hrec M (fd L j q).a0 (fd L j q).a1 hD (hC j hj q (by omega)) hb hn
  have hm := Zl5 (L := L) h2.s L.length
  obtain ⟨M', h3, h4⟩ := ih (q + 1) (Zmz M r) f (by omega) h2.d (by have := h2.b; omega) (by omega) (by omega)
  refine ⟨M', (Zad ?_).trans h3, ⟨h4.d, fun x hx => h4.s x (h2.s x hx), by have := h2.b; have := h4.b; omega⟩⟩
  show Zbz rec L M0 a b N M q _ _ _ _ _ _ _ _ = _
  unfold Zbz
  cases r with
  | r0 => exact Zb (by omega) (Zn h1 (Zb (by omega) rfl))
  | r1 l => exact Zb (by omega) (Zn h1 (Zb (by omega) rfl))
theorem walk2 (hl : L.length ≤ 1000) (hN : 2000 ≤ N) (hC : Cl L O) (hF : ∀ j, (ob L j).a7.length ≤ 1000) : ∀ n M a b, D L O M → V L O a b → M.length + left L M L.length ≤ 1000 → left L M L.length < n → ∃ r, ZaD N n L M a b = some r ∧ Zny L O M (Zmz M r) := by
 intro n
 induction n with
 | zero => intro M a b _ _ _ h; omega
 | succ n ih =>
  intro M a b hD hV hb hn
  show ∃ r, goM (Zct (ZaD N n) L M a b N) N (Zcu (ZaD N n) L M a b N) = some r ∧ _
  rcases in2 hl hN (ZaD N n) hV (by omega : M.length ≤ 1000) with h | ⟨j, h1, h2, h3, h4, h5⟩
  ·exact ⟨.r0, Zu7 h, ⟨hD, fun x hx => hx, Nat.le_refl _⟩⟩
  ·have ha := Zqd h4 h3 L.length h2
   have hs : (M ++ [(⟨a, b⟩ : RG)]).length = M.length + 1 := by simp
   have hf' := hF j
   obtain ⟨M', g1, g2⟩ := loop2 (N := N) (M0 := M) (a := a) (b := b) hC hF ih h1 (ob L j).a7.length 0 (M ++ [⟨a, b⟩]) N (by omega) (ZsN hD h1 h3) (by omega) (by omega) (by omega)
   exact ⟨.r1 M', (ZeS h5).trans g1, ⟨g2.d, fun x hx => g2.s x (List.mem_append_left _ hx), by have := g2.b; show M'.length + left L M' L.length ≤ _; omega⟩⟩
theorem loop1 (hl : L.length ≤ 900) (hN : 2000 ≤ N) (hC : Cl L O) (hF : ∀ j, (ob L j).a7.length ≤ 1000)
  {a b : Int} {j : Nat} (hj : (j : Int) ∈ O) : ∀ d q M f, q + d = (ob L j).a7.length → D L O M → M.length + left L M L.length ≤ 1000 → d < f →
  ∃ M', Za4 (ZdK L a b N) f (.h1m0 M q (ob L j).a0 (ob L j).a1 (ob L j).a2 (ob L j).a3 (ob L j).a4 (ob L j).a5 (ob L j).a6 (ob L j).a7) = some (.r1 M') ∧ Zny L O M M' := by
 have hf' := hF j
 intro d
 induction d with
 | zero =>
  intro q M f hq hD hb hf
  obtain ⟨f, rfl⟩ : ∃ j, f = j + 1 := ⟨f - 1, by omega⟩
  refine ⟨M, Zb6 ?_, ⟨hD, fun x hx => hx, Nat.le_refl _⟩⟩
  show Zcf L a b N M q _ _ _ _ _ _ _ _ = _
  unfold Zcf
  exact Zm (by omega) rfl
 | succ d ih =>
  intro q M f hq hD hb hf
  obtain ⟨f, rfl⟩ : ∃ j, f = j + 1 := ⟨f - 1, by omega⟩
  have hn := ZnK L M L.length
  obtain ⟨r, h1, h2⟩ := walk2 (by omega) hN hC hF N M (fd L j q).a0 (fd L j q).a1 hD (hC j hj q (by omega)) hb (by omega)
  obtain ⟨M', h3, h4⟩ := ih (q + 1) (Zmz M r) f (by omega) h2.d (by have := h2.b; omega) (by omega)
  refine ⟨M', (Zad ?_).trans h3, ⟨h4.d, fun x hx => h4.s x (h2.s x hx), by have := h2.b; have := h4.b; omega⟩⟩
  show Zcf L a b N M q _ _ _ _ _ _ _ _ = _
  unfold Zcf
  have h1' : ZeH L M (fd L j q).a0 (fd L j q).a1 N = some r := h1
  cases r with
  | r0 => exact Zb (by omega) (Zn h1' (Zb (by omega) rfl))
  | r1 l => exact Zb (by omega) (Zn h1' (Zb (by omega) rfl))
theorem dclos (hl : L.length ≤ 900) (hN : 2000 ≤ N) (hC : Cl L O) (hF : ∀ j, (ob L j).a7.length ≤ 1000) {a b : Int} {j : Nat} (he : ZbY L a b j) (hp : P3.may3 (ob L j)) (hj : (j : Int) ∈ O) :
  ∃ C, ZaR L a b N = some (.r1 C) ∧ D L O C ∧ C ≠ [] ∧ C.length ≤ 1000 := by
 have hk : kf L j = ⟨a, b⟩ := by
  obtain ⟨k1, k2⟩ := he.2.2.1
  unfold kf
  rw [← k1, ← k2]
 have hin : ZeI L a b N = some (.inl (.h1m0 [⟨a, b⟩] 0 (ob L j).a0 (ob L j).a1 (ob L j).a2 (ob L j).a3 (ob L j).a4 (ob L j).a5 (ob L j).a6 (ob L j).a7)) := by
  unfold ZeI
  rcases ZtW (a := a) (b := b) (by omega : L.length ≤ 1000) hN with ⟨i, h1, h2, h3, h4⟩ | ⟨h1, h2⟩
  ·obtain rfl : i = j := ZfT ⟨he.1, h1, h2, h3⟩ he
   obtain ⟨y, i1, i2⟩ := is_y h4
   have hy : y = true := i2.2 he.1
   have hh : ZfK a b N = some .r0 := (ZeS (x := ref16_hasX.h1m0) rfl).trans (by
    obtain ⟨n, rfl⟩ : ∃ n, N = n + 1 := ⟨N - 1, by omega⟩
    exact Zb6 rfl)
   exact (Zn h4 (Zn i1 (Zm (by simp [hy]) (Zn hh (Zm (fun q => q hp) rfl)))))
  ·exact absurd he.2.2.1 (h1 j he.2.1)
 have hb : ([(⟨a, b⟩ : RG)] : List RG).length + left L [⟨a, b⟩] L.length ≤ 1000 := by
  have := ZnK L [⟨a, b⟩] L.length
  simp only [List.length_singleton]; omega
 have hf' := hF j
 obtain ⟨M', g1, g2⟩ := loop1 (N := N) (a := a) (b := b) hl hN hC hF hj (ob L j).a7.length 0 [⟨a, b⟩] N (by omega) (ZsN (M := []) (fun x hx => by cases hx) hj hk) hb (by omega)
 refine ⟨M', ?_, g2.d, fun e => ?_, by have := g2.b; omega⟩
 ·unfold ZaR
  exact Zn ((ZeS hin).trans g1) rfl
 ·have := g2.s ⟨a, b⟩ (by simp)
  rw [e] at this
  cases this
end
end Pg
namespace Ps
open Pg
set_option linter.unusedVariables false
set_option linter.unusedSimpArgs false
def rr (k : Nat) : Int := 1048594 + 3 * (k : Int)
theorem ZjE (k : Nat) (h : k < 8) : rr k / 1048576 = 1 := by unfold rr; omega
theorem ZgU (k : Nat) (h : k < 8) : rr k % 1048576 = 18 + 3 * (k : Int) := by unfold rr; omega
theorem ZlJ (k : Nat) : ((18 + 3 * (k : Int)) - 1).toNat = 17 + 3 * k := by omega
theorem Zvi {j k : Nat} (h : rr j = rr k) : j = k := by unfold rr at h; omega
abbrev zz : RG := RG.z
abbrev zh : RI := RI.z
structure Mem (n : Nat) (H : List RI) (V : List RG) : Prop where
 n8 : n ≤ 8
 hl : H.length = 17 + 3 * n
 vl : V.length = 17 + 3 * n
 root : H.getD 0 zh = ⟨1, 16, 255, 2, 0⟩
 obj : ∀ k, k < n → ∃ s, (s = 1 ∨ s = 2) ∧ H.getD (17 + 3 * k) zh = ⟨1, 2, 3, s, 0⟩
 fld : ∀ k, k < n → ∀ j, j < 2 → ∃ x, V.getD (18 + 3 * k + j) zz = ⟨2, x⟩ ∧ (x = 0 ∨ ∃ m, m < n ∧ x = rr m)
def stt (H : List RI) (k : Nat) : Int := (H.getD (17 + 3 * k) zh).a3
variable {n k : Nat} {H : List RI} {V : List RG} {N : Nat}
theorem Mem.obj' (m : Mem n H V) (h : k < n) : H.getD (17 + 3 * k) zh = ⟨1, 2, 3, stt H k, 0⟩ ∧ (stt H k = 1 ∨ stt H k = 2) := by
 obtain ⟨s, h1, h2⟩ := m.obj k h
 have e : stt H k = s := by unfold stt; rw [h2]
 rw [e]; exact ⟨h2, h1⟩
theorem Zou (m : Mem n H V) : ZX 2 1048577 300 H V N = some .r0 := by
 have hl := m.hl
 have e : H.getD ((1048577 : Int) % 1048576 - 1).toNat RI.z = ⟨1, 16, 255, 2, 0⟩ := m.root
 unfold ZX
 rw [e]
 exact Zb (by decide) <| Zm (by decide) <| Zb (by decide) <| Zb (by decide) <| Zb (by decide) <| Zb (by decide) <| Zb (by decide) <| Zb (by decide) <| Zm (by omega) <| Zm (by decide) <| Zm (by decide) rfl
theorem ZmA (m : Mem n H V) (h : k < n) : ZX 2 (rr k) 300 H V N = some .r0 := by
 have hl := m.hl
 have n8 := m.n8
 obtain ⟨e, es⟩ := m.obj' h
 have e0 : ¬ rr k = 0 ∧ 0 < rr k := by unfold rr; omega
 unfold ZX
 rw [ZjE k (by omega), ZgU k (by omega), ZlJ, e]
 exact Zb (by decide) <| Zm (by decide) <| Zb e0.1 <| Zb e0.2 <| Zb (by decide) <| Zb (by decide) <| Zb (by decide) <| Zb (by omega) <| Zm (by omega) <| Zm (fun q => q rfl) <| Zm (by show ¬ stt H k = 0; omega) rfl
theorem hst (m : Mem n H V) (h : k < n) : H.getD (rr k % 1048576 - 1).toNat zh = ⟨1, 2, 3, stt H k, 0⟩ := by
 have n8 := m.n8
 rw [ZgU k (by omega), ZlJ]; exact (m.obj' h).1
theorem ZtL (m : Mem n H V) (h : k < n) : (H.getD (rr k % 1048576 - 1).toNat zh).a3 = stt H k := by rw [hst m h]
theorem hst4 (m : Mem n H V) (h : k < n) : (H.getD (rr k % 1048576 - 1).toNat zh).a4 = 0 := by rw [hst m h]
theorem hro (m : Mem n H V) : (H.getD ((1048577 : Int) % 1048576 - 1).toNat zh).a3 = 2 := by
 have e : H.getD ((1048577 : Int) % 1048576 - 1).toNat zh = ⟨1, 16, 255, 2, 0⟩ := m.root
 rw [e]
theorem Zov (m : Mem n H V) : Zaj 2 1048577 0 300 H V N = some .r0 := by
 have hl := m.hl
 have vl := m.vl
 have e : H.getD ((1048577 : Int) % 1048576 - 1).toNat RI.z = ⟨1, 16, 255, 2, 0⟩ := m.root
 have ew : IntKind.i64.wrap ((1048577 : Int) % 1048576 + 0) = 1 := w64 (by decide) (by decide)
 unfold Zaj
 rw [e, ew]
 exact Zb (by decide) <| Zm (by decide) <| Zb (by decide) <| Zb (by decide) <| Zb (by decide) <| Zb (by decide) <| Zb (by decide) <| Zb (by decide) <| Zm (by omega) <| Zm (by decide) <| Zm (by decide) <| Zm (by decide) <| Zm (by decide) <| Zb (by decide) <| Zb (by show 1 < V.length; omega) rfl
theorem ZtM (m : Mem n H V) (h : k < n) {f : Int} (f0 : 0 ≤ f) (f1 : f < 2) : Zaj 2 (rr k) f 300 H V N = some .r0 := by
 have hl := m.hl
 have vl := m.vl
 have n8 := m.n8
 obtain ⟨e, es⟩ := m.obj' h
 have e0 : ¬ rr k = 0 ∧ 0 < rr k := by unfold rr; omega
 have ew : IntKind.i64.wrap ((18 + 3 * (k : Int)) + f) = 18 + 3 * (k : Int) + f := w64 (by omega) (by omega)
 unfold Zaj
 rw [ZjE k (by omega), ZgU k (by omega), ZlJ, e, ew]
 exact Zb (by decide) <| Zm (by decide) <| Zb e0.1 <| Zb e0.2 <| Zb (by decide) <| Zb (by decide) <| Zb (by decide) <| Zb (by omega) <| Zm (by omega) <| Zm (fun q => q rfl) <| Zm (by show ¬ stt H k = 0; omega) <| Zm (by omega) <| Zm (by show ¬ (2 : Int) ≤ f; omega) <| Zb (by omega) <| Zb (by omega) rfl
theorem ZrW (m : Mem n H V) {j : Nat} (hj : j < 8) : ZaE 2 1048577 0 2 (rr j) 300 H V N = some .r0 := by
 have hl := m.hl
 have vl := m.vl
 have e : H.getD ((1048577 : Int) % 1048576 - 1).toNat RI.z = ⟨1, 16, 255, 2, 0⟩ := m.root
 have e0 : ¬ rr j = 0 ∧ 0 < rr j := by unfold rr; omega
 unfold ZaE
 rw [e, ZjE j hj, ZgU j hj]
 exact Zb (by decide) <| Zm (by decide) <| Zb (by decide) <| Zb (by decide) <| Zb (by decide) <| Zb (by decide) <| Zb (by decide) <| Zb (by decide) <| Zm (by omega) <| Zm (by decide) <| Zm (by decide) <| Zm (by decide) <| Zm (by decide) <| Zb (by decide) <| Zb (by decide) <| Zb (by decide) <| Zb e0.1 <| Zb e0.2 <| Zb (by decide) <| Zb (by decide) <| Zb (by decide) <| Zb (by omega) <| Zb (by show 1 < V.length; omega) rfl
theorem ZsO (m : Mem n H V) (h : k < n) {f : Nat} (f1 : f < 2) {j : Nat} (hj : j < 8) : ZaE 2 (rr k) (f : Int) 2 (rr j) 300 H V N = some .r0 := by
 have hl := m.hl
 have vl := m.vl
 have n8 := m.n8
 obtain ⟨e, es⟩ := m.obj' h
 have ek : ¬ rr k = 0 ∧ 0 < rr k := by unfold rr; omega
 have e0 : ¬ rr j = 0 ∧ 0 < rr j := by unfold rr; omega
 have ei : (18 + 3 * (k : Int) + (f : Int)).toNat = 18 + 3 * k + f := by omega
 have eb : ((3 : Int) / 2 ^ ((f : Int)).toNat) % 2 = 1 := by
  rcases (by omega : f = 0 ∨ f = 1) with rfl | rfl <;> decide
 unfold ZaE
 rw [ZjE k (by omega), ZgU k (by omega), ZlJ, e, ZjE j hj, ZgU j hj, ei]
 exact Zb (by decide) <| Zm (by decide) <| Zb ek.1 <| Zb ek.2 <| Zb (by decide) <| Zb (by decide) <| Zb (by decide) <| Zb (by omega) <| Zm (by omega) <| Zm (fun q => q rfl) <| Zm (by show ¬ stt H k = 0; omega) <| Zm (by omega) <| Zm (by show ¬ (2 : Int) ≤ f; omega) <| Zb (by omega) <| Zb eb <| Zb (by decide) <| Zb e0.1 <| Zb e0.2 <| Zb (by decide) <| Zb (by decide) <| Zb (by decide) <| Zb (by omega) <| Zb (by omega) rfl
def shr (H : List RI) (k : Nat) : List RI := if stt H k = 1 then H.set (17 + 3 * k) ⟨1, 2, 3, 2, 0⟩ else H
theorem Zow (m : Mem n H V) (h : k < n) : Zbn 2 (rr k) 300 H V N = some (.r0 (shr H k)) := by
 have hl := m.hl
 have n8 := m.n8
 obtain ⟨e, es⟩ := m.obj' h
 have e0 : ¬ rr k = 0 ∧ 0 < rr k := by unfold rr; omega
 unfold Zbn shr
 rw [ZjE k (by omega), ZgU k (by omega), ZlJ, e]
 refine Zb (by decide) <| Zm (by decide) <| Zb e0.1 <| Zb e0.2 <| Zb (by decide) <| Zb (by decide) <| Zb (by decide) <| Zb (by omega) <| Zm (by omega) <| Zm (fun q => q rfl) <| Zm (by show ¬ stt H k = 0; omega) ?_
 by_cases hs : stt H k = 1
 ·simp only [if_pos hs]
 ·simp only [if_neg hs]
theorem ZuD (m : Mem n H V) (h : k < n) {s : Int} {j : Nat} (hj : j < n) : stt (H.set (17 + 3 * k) ⟨1, 2, 3, s, 0⟩) j = if j = k then s else stt H j := by
 have hl := m.hl
 unfold stt
 rw [Zm9 (by omega)]
 by_cases e : j = k
 ·subst e; rw [if_pos rfl, if_pos rfl]
 ·rw [if_neg (by omega), if_neg e]
theorem Mem.shr (m : Mem n H V) (h : k < n) : Mem n (shr H k) V ∧ (∀ j, j < n → stt (Ps.shr H k) j = if j = k then 2 else stt H j) := by
 have hl := m.hl
 obtain ⟨e, es⟩ := m.obj' h
 unfold Ps.shr
 by_cases hs : stt H k = 1
 ·rw [if_pos hs]
  refine ⟨⟨m.n8, by rw [List.length_set]; exact m.hl, m.vl, by rw [Zd7 (by omega)]; exact m.root, fun j hj => ?_, m.fld⟩, fun j hj => ZuD m h hj⟩
  rw [Zm9 (by omega)]
  by_cases ej : 17 + 3 * j = 17 + 3 * k
  ·exact ⟨2, .inr rfl, if_pos ej⟩
  ·obtain ⟨s, h1, h2⟩ := m.obj j hj
   exact ⟨s, h1, (if_neg ej).trans h2⟩
 ·rw [if_neg hs]
  refine ⟨m, fun j hj => ?_⟩
  by_cases ej : j = k
  ·subst ej; rw [if_pos rfl]; omega
  ·rw [if_neg ej]
theorem Mem.store (m : Mem n H V) (h : k < n) {f : Nat} (f1 : f < 2) {j : Nat} (hj : j < n) : Mem n H (V.set (18 + 3 * k + f) ⟨2, rr j⟩) := by
 have vl := m.vl
 refine ⟨m.n8, m.hl, by rw [List.length_set]; exact m.vl, m.root, m.obj, fun i hi q hq => ?_⟩
 rw [Zm9 (by omega)]
 by_cases e : 18 + 3 * i + q = 18 + 3 * k + f
 ·exact ⟨rr j, if_pos e, .inr ⟨j, hj, rfl⟩⟩
 ·obtain ⟨x, h1, h2⟩ := m.fld i hi q hq
  exact ⟨x, (if_neg e).trans h1, h2⟩
theorem Mem.storeR (m : Mem n H V) {v : RG} : Mem n H (V.set 1 v) := by
 refine ⟨m.n8, m.hl, by rw [List.length_set]; exact m.vl, m.root, m.obj, fun i hi q hq => ?_⟩
 rw [Zd7 (by omega)]
 exact m.fld i hi q hq
theorem ZtN (m : Mem n H V) (h : n < 8) : ZaY 0 300 H V N = some (.r1 2 (rr n) 0) := by
 have hl := m.hl
 have vl := m.vl
 have hv : Zcd 1 ((H.length + 1 : Nat) : Int) N = some (.r0 2 (rr n) 0) := by
  unfold Zcd
  exact Zb (by decide) <| Zb (by decide) <| Zb (by omega) <| Zb (by omega) (by
   have : (1 * 1048576 + ((H.length + 1 : Nat) : Int)) = rr n := by unfold rr; omega
   rw [this])
 unfold ZaY
 exact Zb (by decide) <| Zm (by decide) <| Zm (by decide) <| Zb (by omega) <| Zb (by omega) <| Zm (by omega) <| Zb (by omega) <| Zb (by omega) <| Zb (by omega) <| Zb (by omega) <| Zn hv rfl
def ZgB (H : List RI) : List RI := (H ++ List.replicate 3 (⟨0, 0, 0, 0, 0⟩ : RI)).set H.length ⟨1, 2, 3, 1, 0⟩
def Zkn (H : List RI) (V : List RG) : List RG := ((V ++ List.replicate 3 (⟨0, 0⟩ : RG)).set (H.length + 1) ⟨2, 0⟩).set (H.length + 2) ⟨2, 0⟩
theorem Mem.new (m : Mem n H V) (h : n < 8) : Mem (n + 1) (ZgB H) (Zkn H V) ∧ (∀ j, j < n → stt (ZgB H) j = stt H j) ∧ stt (ZgB H) n = 1 := by
 have hl := m.hl
 have vl := m.vl
 have h1 : (ZgB H).length = 17 + 3 * (n + 1) := by unfold ZgB; simp; omega
 have h2 : (Zkn H V).length = 17 + 3 * (n + 1) := by unfold Zkn; simp; omega
 have gh : ∀ i, (ZgB H).getD i zh = if i = 17 + 3 * n then ⟨1, 2, 3, 1, 0⟩ else if i < 17 + 3 * n then H.getD i zh else (ZgB H).getD i zh := by
  intro i
  by_cases e : i = 17 + 3 * n
  ·rw [if_pos e]; unfold ZgB; rw [e, ← hl, Zem (by simp)]
  ·rw [if_neg e]
   by_cases e' : i < 17 + 3 * n
   ·rw [if_pos e']; unfold ZgB; rw [Zd7 (by omega), Zkz (by omega)]
   ·rw [if_neg e']
 have gv : ∀ i, i < 17 + 3 * n → (Zkn H V).getD i zz = V.getD i zz := by
  intro i e
  unfold Zkn
  rw [Zd7 (by omega), Zd7 (by omega), Zkz (by omega)]
 have gn : ∀ q, q < 2 → (Zkn H V).getD (18 + 3 * n + q) zz = ⟨2, 0⟩ := by
  intro q hq
  unfold Zkn
  by_cases e : q = 1
  ·rw [show 18 + 3 * n + q = H.length + 2 by omega]
   exact Zem (by simp; omega)
  ·rw [show 18 + 3 * n + q = H.length + 1 by omega, Zd7 (by omega)]
   exact Zem (by simp; omega)
 refine ⟨⟨by omega, h1, h2, by rw [gh, if_neg (by omega), if_pos (by omega)]; exact m.root, fun j hj => ?_, fun j hj q hq => ?_⟩, fun j hj => ?_, ?_⟩
 ·rw [gh]
  by_cases e : j = n
  ·exact ⟨1, .inl rfl, by rw [if_pos (by omega)]⟩
  ·obtain ⟨s, a1, a2⟩ := m.obj j (by omega)
   exact ⟨s, a1, by rw [if_neg (by omega), if_pos (by omega)]; exact a2⟩
 ·by_cases e : j = n
  ·subst e; exact ⟨0, gn q hq, .inl rfl⟩
  ·obtain ⟨x, a1, a2⟩ := m.fld j (by omega) q hq
   refine ⟨x, by rw [gv _ (by omega)]; exact a1, a2.imp id fun ⟨p, b1, b2⟩ => ⟨p, by omega, b2⟩⟩
 ·unfold stt; rw [gh, if_neg (by omega), if_pos (by omega)]
 ·unfold stt; rw [gh, if_pos (by omega)]
end Ps
end Ev
end Go.Proofs.YtiijipocjellpaaGreat
namespace Go.Proofs.YtiijipocjellpaaGreat
open Go.IntKind (i64)
open Go.RowKit
namespace Ev
namespace Ps
open Pg
set_option linter.unusedVariables false
set_option linter.unusedSimpArgs false
def rob (V : List RG) : Pg.Ob := ⟨2, 1048577, 1, 16, 255, 2, 0, (V.drop 1).take 16⟩
def obk (H : List RI) (V : List RG) (k : Nat) : Pg.Ob := ⟨2, rr k, 1, 2, 3, stt H k, 0, (V.drop (18 + 3 * k)).take 2⟩
def ZbJ (H : List RI) (V : List RG) (n : Nat) : List Pg.Ob := rob V :: (List.range n).map (obk H V)
variable {n k : Nat} {H : List RI} {V : List RG} {N : Nat}
theorem ZgC : (ZbJ H V n).length = n + 1 := by simp [ZbJ]
theorem ZsP (k : Nat) : ZbJ H V k ++ [obk H V k] = ZbJ H V (k + 1) := by simp [ZbJ, List.range_succ]
theorem Zvj (m : Mem n H V) : ∀ d k f, k + d = n → d < f → Za4 (ZaS 300 H V N) f (.h1m1 (18 + 3 * (k : Int)) (ZbJ H V k)) = some (.r1 (ZbJ H V n)) := by
 have hl := m.hl
 have vl := m.vl
 have n8 := m.n8
 intro d
 induction d with
 | zero =>
  intro k f hk hf
  obtain ⟨f, rfl⟩ : ∃ j, f = j + 1 := ⟨f - 1, by omega⟩
  obtain rfl : k = n := by omega
  refine Zb6 ?_
  show ZaJ 300 H V N _ _ = _
  unfold ZaJ
  exact Zb (by omega) (Zb (by omega) (Zm (by omega) rfl))
 | succ d ih =>
  intro k f hk hf
  obtain ⟨f, rfl⟩ : ∃ j, f = j + 1 := ⟨f - 1, by omega⟩
  obtain ⟨e, es⟩ := m.obj' (show k < n by omega)
  refine (Zad ?_).trans (ih (k + 1) f (by omega) (by omega))
  show ZaJ 300 H V N _ _ = _
  unfold ZaJ
  rw [ZlJ, e]
  have w1 : i64.wrap ((2 : Int) + 1) = 3 := w64 (by decide) (by decide)
  have w2 : i64.wrap (18 + 3 * (k : Int) + 3) = 18 + 3 * ((k + 1 : Nat) : Int) := (w64 (by omega) (by omega)).trans (by omega)
  have w3 : i64.wrap (18 + 3 * (k : Int) + 2) = 20 + 3 * (k : Int) := (w64 (by omega) (by omega)).trans (by omega)
  have hv : Zcd 1 (18 + 3 * (k : Int)) N = some (.r0 2 (rr k) 0) := by
   unfold Zcd
   exact Zb (by decide) <| Zb (by decide) <| Zb (by omega) <| Zb (by omega) (by
    have : (1 * 1048576 + (18 + 3 * (k : Int))) = rr k := by unfold rr; omega
    rw [this])
  have t1 : (18 + 3 * (k : Int)).toNat = 18 + 3 * k := by omega
  have t2 : (20 + 3 * (k : Int)).toNat - (18 + 3 * k) = 2 := by omega
  show (if (1 : Int) ≤ 18 + 3 * (k : Int) then _ else _) = _
  have hc : ZE V (18 + 3 * k) 2 (V.length - (18 + 3 * k)) N = some .r0 := by
   unfold ZE
   exact Zb (by omega) (Zb (by omega) rfl)
  refine Zb (by omega) <| Zb (by omega) <| Zb (by omega) <| Zm (by show ¬ stt H k = 0; omega) <| Zn hv ?_
  show (if 18 + 3 * (k : Int) ≤ i64.wrap (18 + 3 * (k : Int) + 2) then _ else _) = _
  rw [w3]
  refine Zb (by omega) <| Zb (by omega) ?_
  rw [t1, t2]
  refine Zn hc (Zb (by rw [ZgC]; omega) ?_)
  show some (Sum.inl (heap_Heap_ObjectsX.h1m1 (i64.wrap (18 + 3 * (k : Int) + i64.wrap (2 + 1))) (ZbJ H V k ++ [obk H V k]))) = _
  rw [w1, w2, ZsP]
theorem Zrk (m : Mem n H V) (hN : 100 ≤ N) : Zas 300 H V N = some (.r1 (ZbJ H V n)) := by
 have hl := m.hl
 have vl := m.vl
 have n8 := m.n8
 obtain ⟨f, rfl⟩ : ∃ j, N = j + 1 := ⟨N - 1, by omega⟩
 refine (ZeS (x := heap_Heap_ObjectsX.h1m0 1) (by unfold Zev; exact Zb (by decide) rfl)).trans ((Zad (y := .h1m1 (18 + 3 * ((0 : Nat) : Int)) (ZbJ H V 0)) ?_).trans (Zvj m n 0 f (by omega) (by omega)))
 show ZbC 300 H V (f + 1) 1 = _
 unfold ZbC
 have e : H.getD ((1 : Int) - 1).toNat RI.z = ⟨1, 16, 255, 2, 0⟩ := m.root
 have w1 : i64.wrap ((16 : Int) + 1) = 17 := w64 (by decide) (by decide)
 have w2 : i64.wrap ((1 : Int) + 17) = 18 := w64 (by decide) (by decide)
 have w3 : i64.wrap ((1 : Int) + 16) = 17 := w64 (by decide) (by decide)
 have hv : Zcd 1 1 (f + 1) = some (.r0 2 1048577 0) := by
  unfold Zcd
  exact Zb (by decide) <| Zb (by decide) <| Zb (by decide) <| Zb (by decide) rfl
 have hc : ZE V 1 16 (V.length - 1) (f + 1) = some .r0 := by
  unfold ZE
  exact Zb (by omega) (Zb (by omega) rfl)
 rw [e]
 refine Zb (by omega) <| Zb (by omega) <| Zb (by omega) <| Zm (by decide) <| Zn hv ?_
 show (if (1 : Int) ≤ i64.wrap (1 + 16) then _ else _) = _
 rw [w3]
 refine Zb (by omega) <| Zb (by omega) <| Zn hc ?_
 show some (Sum.inl (heap_Heap_ObjectsX.h1m1 (i64.wrap (1 + i64.wrap (16 + 1))) _)) = _
 rw [w1, w2]
 rfl
theorem ob0 : ob (ZbJ H V n) 0 = rob V := rfl
theorem obS (h : k < n) : ob (ZbJ H V n) (k + 1) = obk H V k := by simp [ob, ZbJ, h]
theorem Zvk {j : Nat} (h : n < j) : ob (ZbJ H V n) j = RJ.z := by
 unfold ob; exact ZqG (by rw [ZgC]; omega)
theorem Znq (m : Mem n H V) : ∀ j, (ob (ZbJ H V n) j).a7.length ≤ 16 ∧ (0 < j → (ob (ZbJ H V n) j).a7.length ≤ 2) := by
 intro j
 have vl := m.vl
 cases j with
 | zero => rw [ob0]; refine ⟨?_, fun h => by omega⟩; simp only [rob, List.length_take]; omega
 | succ k =>
  by_cases h : k < n
  ·rw [obS h]
   have : (obk H V k).a7.length ≤ 2 := by simp only [obk, List.length_take]; omega
   exact ⟨by omega, fun _ => this⟩
  ·rw [Zvk (by omega)]
   exact ⟨by simp [RJ.z], fun _ => by simp [RJ.z]⟩
theorem ZsQ (m : Mem n H V) : ∀ j, ZbZ (ZbJ H V n) [] (j + 1) ≤ 18 + 4 * j
 | 0 => by
  have := (Znq m 0).1
  simp only [ZbZ, List.not_mem_nil, if_false]; omega
 | j + 1 => by
  have ih := ZsQ m j
  have := (Znq m (j + 1)).2 (by omega)
  rw [ZbZ]
  simp only [List.not_mem_nil, if_false]; omega
theorem Znr (h : k < n) : ZbY (ZbJ H V n) 2 (rr k) (k + 1) := by
 have e0 : ¬ rr k = 0 := by unfold rr; omega
 refine ⟨⟨rfl, e0⟩, by rw [ZgC]; omega, ?_, fun q hq => ?_⟩
 ·have : (ZbJ H V n).getD (k + 1) RJ.z = obk H V k := obS h
  unfold Zdj; rw [this]; exact ⟨rfl, rfl⟩
 ·cases q with
  | zero => intro e; have := e.2; rw [show (ZbJ H V n).getD 0 RJ.z = rob V from rfl] at this; unfold rob rr at this; simp at this; omega
  | succ i =>
   intro e
   have := e.2
   rw [show (ZbJ H V n).getD (i + 1) RJ.z = obk H V i from obS (by omega)] at this
   have := Zvi this
   omega
theorem fd_is (m : Mem n H V) (h : k < n) {q : Nat} (hq : q < 2) : fd (ZbJ H V n) (k + 1) q = V.getD (18 + 3 * k + q) zz := by
 unfold fd
 rw [obS h]
 simp [obk, hq]
def rfk (k : Nat) : RG := ⟨2, rr k⟩
theorem clos (m : Mem n H V) {s : Nat} (hs : s < n) (hp : stt H s = 1) : ∃ ks : List Nat, ks ≠ [] ∧ ks.length ≤ 50 ∧ (∀ k ∈ ks, k < n) ∧ Zaw (ZbJ H V n) 2 (rr s) 100000 = some (.r1 (ks.map rfk)) ∧
  ∃ C, ZaR (ZbJ H V n) 2 (rr s) 100000 = some (.r1 C) ∧ C ≠ [] ∧ C.length ≤ 1000 ∧ ∀ x ∈ C, ∃ k ∈ ks, x = rfk k := by
 have n8 := m.n8
 have hF : ∀ j, (ob (ZbJ H V n) j).a7.length ≤ 1000 := fun j => by have := (Znq m j).1; omega
 obtain ⟨O, hO, hc⟩ := ZuB (L := ZbJ H V n) (by rw [ZgC]; omega) hF (by rw [ZgC]; have := ZsQ m n; omega) 2 (rr s)
 have hT : ∀ j : Nat, (j : Int) ∈ O → ∃ k, k < n ∧ j = k + 1 := hO.g (fun j => ∃ k, k < n ∧ j = k + 1) ⟨fun q j' hq he _ => by
  obtain rfl : q = 0 := by simpa using hq
  exact ⟨s, hs, ZfT he (Znr hs)⟩, fun j q j' ⟨k, hk, ej⟩ hq he _ => by
  subst ej
  have hq2 : q < 2 := by have := (Znq m (k + 1)).2 (by omega); omega
  obtain ⟨x, e1, e2⟩ := m.fld k hk q hq2
  rw [fd_is m hk hq2, e1] at he
  rcases e2 with rfl | ⟨p, hp, rfl⟩
  ·exact absurd rfl he.1.2
  ·exact ⟨p, hp, ZfT he (Znr hp)⟩⟩
 have hx : ∀ x ∈ O, ∃ k, k < n ∧ x = ((k + 1 : Nat) : Int) := fun x hx => by
  obtain ⟨j, e, _⟩ := hO.o x hx
  subst e
  obtain ⟨k, hk, rfl⟩ := hT j hx
  exact ⟨k, hk, rfl⟩
 have hst : ((s + 1 : Nat) : Int) ∈ O := hO.r 0 (by simp) (s + 1) (Znr hs) (by rw [obS hs]; exact hp)
 have hne : O ≠ [] := fun e => by rw [e] at hst; cases hst
 have hr : rf (ZbJ H V n) O = (O.map fun x => x.toNat - 1).map rfk := by
  unfold rf
  rw [List.map_map]
  refine List.map_congr_left fun x h => ?_
  obtain ⟨k, hk, rfl⟩ := hx x h
  show (⟨(ob (ZbJ H V n) (k + 1)).a0, (ob (ZbJ H V n) (k + 1)).a1⟩ : RG) = rfk (((k + 1 : Nat) : Int).toNat - 1)
  rw [obS hk, show (((k + 1 : Nat) : Int).toNat - 1) = k by omega]
  rfl
 refine ⟨O.map fun x => x.toNat - 1, by simpa using hne, by rw [List.length_map]; exact hO.b, fun k hk => ?_, ?_, ?_⟩
 ·obtain ⟨x, h1, rfl⟩ := List.mem_map.1 hk
  obtain ⟨i, hi, rfl⟩ := hx x h1
  omega
 ·rcases hc with ⟨e, _⟩ | ⟨_, e⟩
  ·exact absurd e hne
  ·rw [e, hr]
 ·obtain ⟨C, h1, h2, h3, h3'⟩ := dclos (L := ZbJ H V n) (O := O) (N := 100000) (by rw [ZgC]; omega) (by decide) (fun j hj q hq j' h4 h5 => hO.c j hj q hq j' h4 h5) hF (Znr hs) (by rw [obS hs]; exact hp) hst
  refine ⟨C, h1, h3, h3', fun x h => ?_⟩
  obtain ⟨j, h4, h5⟩ := h2 x h
  obtain ⟨k, hk, rfl⟩ := hT j h4
  refine ⟨k, List.mem_map.2 ⟨_, h4, by omega⟩, ?_⟩
  rw [h5]; unfold kf; rw [obS hk]; rfl
end Ps
namespace Ps
open Pg
set_option linter.unusedVariables false
set_option linter.unusedSimpArgs false
abbrev RM := RK
abbrev Z5 : List Int := [(0 : Int), (0 : Int), (0 : Int), (0 : Int), (0 : Int)]
abbrev T64 : List RF := List.replicate 64 (⟨(0 : Int), false, false⟩ : RF)
abbrev I64 : List Int := List.replicate 64 (0 : Int)
abbrev stp (now : Int) (L : List RM) (ver : Int) (wr ce : Bool) (mo r0 r1 er p : Int) (H : List RI) (V : List RG) (N : Nat) := Z8 now L ver wr ce mo r0 r1 er 0 p 1 T64 300 5 50 50 1000 1 0 300 H V Z5 Z5 1000 0 0 1 I64 N
abbrev stp2 (now : Int) (L : List RM) (M : List RG) (ver : Int) (wr ce : Bool) (mo r0 r1 er p : Int) (H : List RI) (V : List RG) (N : Nat) := Za9 now L M ver wr ce mo r0 r1 er 0 p 1 T64 300 5 50 50 1000 1 0 300 H V Z5 Z5 1000 0 0 1 I64 N
abbrev ZnL (now : Int) (L : List RM) (M : List RG) (i c : Nat) (ver : Int) (wr ce : Bool) (mo r0 r1 er p : Int) (H : List RI) (V : List RG) (W K : List Int) (clk : Int) (N : Nat) := Z2 now L M i c ver wr ce mo r0 r1 er 0 p 1 T64 300 5 50 50 1000 1 0 300 H V W K 1000 clk 0 1 I64 N
abbrev sta (k rk rn f vk vn a b : Int) (L : List RM) (ver : Int) (wr ce : Bool) (mo r0 r1 er p : Int) (H : List RI) (V : List RG) (N : Nat) := Zab k rk rn f vk vn a b 0 0 0 0 0 0 0 0 0 false L ver wr ce mo r0 r1 er 0 p 1 T64 300 5 50 50 1000 1 0 300 H V Z5 Z5 1000 0 0 1 I64 N
variable {n k : Nat} {H : List RI} {V : List RG} {N : Nat} {L : List RM} {now ver mo r0 r1 er : Int} {wr ce : Bool}
theorem d1 : (1 : Int) ≤ 1 := by decide
theorem d2 : (1 : Int) ≤ 2 := by decide
theorem d3 : ¬ (1 : Int) = 2 := by decide
theorem Zqe {f a b rk rn vk vn : Int} : sta 2 rk rn f vk vn a b L ver wr ce mo r0 r1 er 0 H V N = some (.r0 2) := rfl
theorem ZnM {f a b rk rn vk vn : Int} : sta 1 rk rn f vk vn a b L ver wr ce mo r0 r1 er 0 H V N = some (.r0 1) := rfl
theorem Zrl (m : Mem n H V) (h : n < 8) : stp now [⟨2, 0, 0, 0, 0, 0, 2, 3, 0, 0, 0, 0, 0, 0, 0, 0⟩] ver wr ce mo r0 r1 er 2 H V N = some (.r2 2 (rr n) 2 (rr n) 0) := by
 have ha := ZtN (N := N) m h
 show Z8 _ _ _ _ _ _ _ _ _ _ _ _ _ _ _ _ _ _ _ _ _ _ _ _ _ _ _ _ _ _ _ = _
 unfold Z8
 exact Zb (by decide) <| Zb (by decide) <| Zb (by decide) <| Zb (by decide) <| Zb (by decide) <| Zb (by decide) <| Zb (by decide) <| Zb (by decide) <| Zm (by decide) <| Zm (by decide) <| Zb (by decide) <| Zb (by decide) <| Zb (by decide) <| Zn ha (Zm (by decide) rfl)
abbrev XO (k f j : Nat) : RM := ⟨1, 2, rr k, (f : Int), 2, rr j, 0, 0, 0, 0, 0, 0, 0, 0, 0, 0⟩
theorem s_own (m : Mem n H V) (h : k < n) (hp : stt H k = 1) {f j : Nat} (hf : f < 2) (hj : j < 8) : stp now [XO k f j] ver wr ce mo r0 r1 er 1 H V N = some (.r0 (V.set (18 + 3 * k + f) ⟨2, rr j⟩) 5 0 2 (rr k) (f : Int) true [XO k f j] true now 0 0 0 0) := by
 have n8 := m.n8
 have hh := ZmA (N := N) m h
 have hl := ZtM (N := N) m h (f := (f : Int)) (by omega) (by omega)
 have hs := ZsO (N := N) m h hf hj
 have hr : (1048577 : Int) ≤ rr k ∧ rr k ≤ 1114111 := by unfold rr; omega
 have h3 := ZtL m h
 have h4 := hst4 m h
 rw [hp] at h3
 have ei : (rr k % 1048576 + (f : Int)).toNat = 18 + 3 * k + f := by rw [ZgU k (by omega)]; omega
 show Z8 _ _ _ _ _ _ _ _ _ _ _ _ _ _ _ _ _ _ _ _ _ _ _ _ _ _ _ _ _ _ _ = _
 unfold Z8
 refine Zb d1 <| Zb d2 <| Zb (by decide) <| Zb (by decide) <| Zb (by decide) <| Zb (by decide) <| Zb (.inr ⟨rfl, rfl, hr.1, hr.2⟩) <| Zb (.inl d3) <| Zm (by decide) <| Zb (by decide) <| Zn hh <| Zb h3 <| Zb h4 <| Zn hh <| Zn hl <| Zn hs ?_
 show some (plain_Access_StepR.r0 (V.set (rr k % 1048576 + (f : Int)).toNat ⟨2, rr j⟩) 5 0 2 (rr k) (f : Int) true [XO k f j] true now 0 0 0 0) = _
 rw [ei]
abbrev XR (k : Nat) : RM := ⟨1, 2, 1048577, 0, 2, rr k, 0, 0, 0, 0, 0, 0, 0, 0, 0, 0⟩
theorem d5 : (1048577 : Int) ≤ 1048577 := by decide
theorem d6 : (1048577 : Int) ≤ 1114111 := by decide
theorem Zvl (m : Mem n H V) (h : k < n) (hp : stt H k = 1) {M : List RG} (hc : Zaw (ZbJ H V n) 2 (rr k) N = some (.r1 M)) (hN : 100 ≤ N) : stp now [XR k] ver wr ce mo r0 r1 er 1 H V N = some (.r1 M) := by
 have hr := Zou (N := N) m
 have hh := ZmA (N := N) m h
 have ho := Zrk (N := N) m hN
 have h3 := ZtL m h
 have h4 := hst4 m h
 rw [hp] at h3
 have hr2 : ¬ (H.getD ((1048577 : Int) % 1048576 - 1).toNat zh).a3 = 1 := by rw [hro m]; decide
 show Z8 _ _ _ _ _ _ _ _ _ _ _ _ _ _ _ _ _ _ _ _ _ _ _ _ _ _ _ _ _ _ _ = _
 unfold Z8
 exact Zb d1 <| Zb d2 <| Zb (by decide) <| Zb (by decide) <| Zb (by decide) <| Zb (by decide) <| Zb (.inr ⟨rfl, rfl, d5, d6⟩) <| Zb (.inl d3) <| Zm (by decide) <| Zb (by decide) <| Zn hr <| Zm hr2 <| Zn hh <| Zb h3 <| Zb h4 <| Zn ho <| Zn hc rfl
abbrev XA : RM := ⟨1, 2, 1048577, 0, 2, rr 0, 0, 0, 1, 0, 0, 0, 0, 0, 0, 0⟩
def nxt (c : Nat) : Int := if (c : Int) = 0 then 4 else 3
theorem ZuE (m : Mem n H V) {ks : List Nat} (hk : ∀ x ∈ ks, x < n) (h0 : 0 < ks.length) : stp2 now [XA] (ks.map rfk) ver wr ce mo r0 r1 er 3 H V N = some (.r0 (shr H (ks.getD 0 0)) (nxt (ks.length - 1))) := by
 have hg : (ks.map rfk).getD 0 RG.z = rfk (ks.getD 0 0) := by simp [h0]
 have hm : ks.getD 0 0 < n := hk _ (by rw [show ks.getD 0 0 = ks[0] by simp [h0]]; exact List.getElem_mem h0)
 have hs := Zow (N := N) m hm
 show Za9 _ _ _ _ _ _ _ _ _ _ _ _ _ _ _ _ _ _ _ _ _ _ _ _ _ _ _ _ _ _ _ _ = _
 unfold Za9 nxt
 rw [hg, List.length_map]
 refine Zb (by decide) <| Zb (by decide) <| Zb (by decide) <| Zb (by decide) <| Zb (by decide) <| Zb (by decide) <| Zb (by decide) <| Zb h0 <| Zn hs ?_
 by_cases e : ((ks.length - 1 : Nat) : Int) = 0
 ·simp only [if_pos e]
 ·simp only [if_neg e]
theorem ZuF (m : Mem n H V) {ks : List Nat} (hk : ∀ x ∈ ks, x < n) {i c : Nat} (hc : 0 < c) (hi : i < ks.length) {W K : List Int} (hW : 0 < W.length) {clk : Int} : ZnL now [XA] (ks.map rfk) i c ver wr ce mo r0 r1 er 3 H V W K clk N = some (.r0 (shr H (ks.getD i 0)) V W K 11 2 (rr (ks.getD i 0)) 0 false [XA] (i + 1) (c - 1) ver wr ce mo r0 r1 er (nxt (c - 1)) clk) := by
 have hg : (ks.map rfk).getD i RG.z = rfk (ks.getD i 0) := by simp [hi]
 have hm : ks.getD i 0 < n := hk _ (by rw [show ks.getD i 0 = ks[i] by simp [hi]]; exact List.getElem_mem hi)
 have hs := Zow (N := N) m hm
 show Z2 _ _ _ _ _ _ _ _ _ _ _ _ _ _ _ _ _ _ _ _ _ _ _ _ _ _ _ _ _ _ _ _ _ _ = _
 unfold Z2 nxt
 rw [hg, List.length_map]
 refine Zb (by decide) <| Zb (by decide) <| Zb (by decide) <| Zb hW <| Zb (by decide) <| Zb (by decide) <| Zb (by decide) <| Zb hc <| Zb hi <| Zn hs ?_
 by_cases e : ((c - 1 : Nat) : Int) = 0
 ·simp only [if_pos e]; rfl
 ·simp only [if_neg e]; rfl
theorem at0 : ZbL 1 Z5 Z5 N = some (.r0 0 0 0) := rfl
theorem Zvm {M : List RG} {i c : Nat} {clk : Int} : ZnL now [XA] M i c ver wr ce mo r0 r1 er 4 H V Z5 Z5 clk N = some (.r0 H V Z5 Z5 3 0 0 0 false [XA] i c ver wr ce mo r0 r1 er 7 clk) := by
 show Z2 _ _ _ _ _ _ _ _ _ _ _ _ _ _ _ _ _ _ _ _ _ _ _ _ _ _ _ _ _ _ _ _ _ _ = _
 unfold Z2
 exact Zb (by decide) <| Zb (by decide) <| Zb (by decide) <| Zb (by decide) <| Zb (by decide) <| Zb (by decide) <| Zm (by decide) <| Zb (by decide) <| Zn at0 <| Zm (by decide) <| Zb (by decide) rfl
abbrev W2 : List Int := [(0 : Int), (2 : Int), (0 : Int), (0 : Int), (0 : Int)]
abbrev K1 : List Int := [(0 : Int), (1 : Int), (0 : Int), (0 : Int), (0 : Int)]
theorem take0 : Zbo 1 0 2 0 0 Z5 Z5 N = some (.r0 W2 K1 true) := by
 have hk : i64.wrap ((0 : Int) + 1) = 1 := w64 (by decide) (by decide)
 have e : Zbo 1 0 2 0 0 Z5 Z5 N = some (.r0 (Z5.set 1 (4 * 0 + 2)) (Z5.set 1 (i64.wrap ((0 : Int) + 1))) true) := by
  unfold Zbo
  exact Zb (by decide) <| Zb (by decide) <| Zb (by decide) <| Zb (by decide) <| Zb (by decide) <| Zm (by decide) <| Zm (by decide) <| Zb (by decide) <| Zb (by decide) <| Zb (by decide) <| Zb (by decide) <| Zb (by decide) <| Zb (by decide) rfl
 rw [e, hk]; rfl
theorem ZuG {M : List RG} {i c : Nat} {clk : Int} : ZnL now [XA] M i c ver wr ce mo r0 r1 er 7 H V Z5 Z5 clk N = some (.r0 H V W2 K1 6 0 0 0 false [XA] i c ver wr ce mo r0 r1 er 8 clk) := by
 show Z2 _ _ _ _ _ _ _ _ _ _ _ _ _ _ _ _ _ _ _ _ _ _ _ _ _ _ _ _ _ _ _ _ _ _ = _
 unfold Z2
 exact Zb (by decide) <| Zb (by decide) <| Zb (by decide) <| Zb (by decide) <| Zb (by decide) <| Zb (by decide) <| Zm (by decide) <| Zm (by decide) <| Zb (by decide) <| Zn take0 <| Zb rfl rfl
theorem ZtO (m : Mem n H V) {M : List RG} {i c : Nat} : ∃ X : RM, X.a0 = 1 ∧ X.a8 = 1 ∧ ZnL now [XA] M i c ver wr ce mo r0 r1 er 8 H V W2 K1 0 N = some (.r0 H (V.set 1 ⟨2, rr 0⟩) W2 K1 5 2 1048577 0 false [X] i c ver true ce mo r0 r1 er 9 0) := by
 have hh := Zou (N := N) m
 have hl := Zov (N := N) m
 have hs := ZrW (N := N) m (j := 0) (by decide)
 have hw : i64.wrap ((1000 : Int) - 0) = 1000 := w64 (by decide) (by decide)
 have hr2 : ¬ (H.getD ((1048577 : Int) % 1048576 - 1).toNat zh).a3 = 3 := by rw [hro m]; decide
 have e1 : ((1048577 : Int) % 1048576 + 0).toNat = 1 := by decide
 refine ⟨⟨1, 2, 1048577, 0, 2, rr 0, 0, 0, 1, 0, 0, 0, (V.getD (i64.wrap ((1048577 : Int) % 1048576 + 0)).toNat zz).a0, (V.getD (i64.wrap ((1048577 : Int) % 1048576 + 0)).toNat zz).a1, 0, 0⟩, rfl, rfl, ?_⟩
 show Z2 _ _ _ _ _ _ _ _ _ _ _ _ _ _ _ _ _ _ _ _ _ _ _ _ _ _ _ _ _ _ _ _ _ _ = _
 unfold Z2
 rw [hw]
 refine Zb (by decide) <| Zb (by decide) <| Zb (by decide) <| Zb (by decide) <| Zb (by decide) <| Zb (by decide) <| Zm (by decide) <| Zm (by decide) <| Zm (by decide) <| Zb (by decide) <| Zn hh <| Zm hr2 <| Zn hl <| Zm (by decide) <| Zn hs ?_
 show some (plain_Access_Step_3R.r0 H (V.set ((1048577 : Int) % 1048576 + 0).toNat ⟨2, rr 0⟩) W2 K1 5 2 1048577 0 false [⟨1, 2, 1048577, 0, 2, rr 0, 0, 0, 1, 0, 0, 0, (V.getD (i64.wrap ((1048577 : Int) % 1048576 + 0)).toNat zz).a0, (V.getD (i64.wrap ((1048577 : Int) % 1048576 + 0)).toNat zz).a1, 0, 0⟩] i c ver true ce mo r0 r1 er 9 0) = _
 rw [e1]
theorem ZtP {X : RM} (h0 : X.a0 = 1) {M : List RG} {i c : Nat} {W K : List Int} (hW : 0 < W.length) : ZnL now [X] M i c ver wr ce mo r0 r1 er 9 H V W K 0 N = some (.r0 H V W K 8 0 0 0 false [X] i c 1 wr true now 0 0 0 10 1) := by
 have hw : i64.wrap ((0 : Int) + 1) = 1 := w64 (by decide) (by decide)
 show Z2 _ _ _ _ _ _ _ _ _ _ _ _ _ _ _ _ _ _ _ _ _ _ _ _ _ _ _ _ _ _ _ _ _ _ = _
 unfold Z2
 rw [hw]
 exact Zb (by show (1 : Int) ≤ X.a0; omega) <| Zb (by show X.a0 ≤ (2 : Int); omega) <| Zb (by decide) <| Zb hW <| Zb (by decide) <| Zb (by decide) <| Zm (by decide) <| Zm (by decide) <| Zm (by decide) <| Zm (by decide) <| Zb (by decide) rfl
theorem let1 : ZbV 1 1 W2 K1 N = some (.r0 [0, 4, 0, 0, 0] 0) := by
 have ha : ZbL 1 W2 K1 N = some (.r0 2 0 1) := rfl
 unfold ZbV
 exact Zb (by decide) <| Zb (by decide) <| Zb (by decide) <| Zb (by decide) <| Zb (by decide) <| Zn ha <| Zm (by decide) rfl
theorem Zvn {X : RM} (h0 : X.a0 = 1) (h8 : X.a8 = 1) {M : List RG} {i c : Nat} : ZnL now [X] M i c 1 wr ce mo r0 r1 er 10 H V W2 K1 1 N = some (.r0 H V [0, 4, 0, 0, 0] K1 7 0 0 0 true [X] i c 1 wr ce mo r0 r1 er 0 1) := by
 show Z2 _ _ _ _ _ _ _ _ _ _ _ _ _ _ _ _ _ _ _ _ _ _ _ _ _ _ _ _ _ _ _ _ _ _ = _
 unfold Z2
 have hx : ([X].getD 0 RK.z) = X := rfl
 rw [hx, h8]
 exact Zb (by omega) <| Zb (by omega) <| Zb (by decide) <| Zb (by decide) <| Zb (by decide) <| Zb (by decide) <| Zm (by decide) <| Zm (by decide) <| Zm (by decide) <| Zm (by decide) <| Zm (by decide) <| Zb (by decide) <| Zn let1 rfl
end Ps
end Ev
end Go.Proofs.YtiijipocjellpaaGreat
namespace Go.Proofs.YtiijipocjellpaaGreat
open Go.RowKit
namespace Ev
namespace Ps
open Pg
set_option linter.unusedVariables false
set_option linter.unusedSimpArgs false
variable {L0 : List Int} {a1 : Int} {n : Nat} {H : List RI} {V : List RG} {N : Nat} {ver mo r0 r1 er : Int} {wr ce : Bool} {v0 C M : List RG} {nw v3 i c : Nat} {X : RM} {ks : List Nat}
abbrev LS (L0 : List Int) (a1 : Int) (N : Nat) := ZU L0 a1 N
structure Z (n : Nat) (v0 C : List RG) (ks : List Nat) : Prop where
 v : 0 < v0.length
 g : v0.getD 0 RG.z = rfk 0
 n0 : C ≠ []
 l : C.length ≤ 1000
 c : ∀ x ∈ C, ∃ k ∈ ks, x = rfk k
 k : ∀ x ∈ ks, x < n
theorem p_let (z : Z n v0 C ks) (m : Mem n H V) (h3 : v3 < 60) (hn : nw ≤ 1000) (h0 : X.a0 = 1) (h8 : X.a8 = 1) (hv : V.getD 1 zz = ⟨2, rr 0⟩) (f : Nat) :
  Za4 (LS L0 a1 N) (f + 1) (.h3m2 v0 nw C v3 [X] M i c 1 wr ce mo 0 0 0 10 H V W2 K1 1) = some (.r0 true) := by
 refine Zb6 ?_
 show ZA L0 a1 N v0 nw C v3 [X] M i c 1 wr ce mo 0 0 0 10 H V W2 K1 1 = _
 unfold ZA
 have hl : 0 < C.length := List.length_pos_iff.2 z.n0
 refine Zb (by omega) <| Zb (by omega) <| Zn (Zvn h0 h8) <| Zb rfl <| Zm (by decide) <| Zn (Zov m) <| Zb rfl <| Zb z.v <| Zb ?_ <| Zb (by omega) rfl
 show (V.getD (IntKind.i64.wrap ((1048577 : Int) % 1048576 + 0)).toNat zz).a0 = (v0.getD 0 zz).a0 ∧ (V.getD (IntKind.i64.wrap ((1048577 : Int) % 1048576 + 0)).toNat zz).a1 = (v0.getD 0 zz).a1
 rw [show (IntKind.i64.wrap ((1048577 : Int) % 1048576 + 0)).toNat = 1 by rw [w64 (by decide) (by decide)]; decide, hv, z.g]; exact ⟨rfl, rfl⟩
theorem ZuH (z : Z n v0 C ks) (m : Mem n H V) (h3 : v3 < 59) (hn : nw ≤ 900) (h0 : X.a0 = 1) (h8 : X.a8 = 1) (hv : V.getD 1 zz = ⟨2, rr 0⟩) (f : Nat) :
  Za4 (LS L0 a1 N) (f + 2) (.h3m2 v0 nw C v3 [X] M i c ver wr ce mo r0 r1 er 9 H V W2 K1 0) = some (.r0 true) := by
 refine (Zad (n := f + 1) ?_).trans (p_let (L0 := L0) (a1 := a1) (N := N) (M := M) (i := i) (c := c) (wr := wr) (ce := true) (mo := (((nw + 1) : Nat) : Int)) z m (show v3 + 1 < 60 by omega) (show nw + 1 ≤ 1000 by omega) h0 h8 hv f)
 show ZA L0 a1 N v0 nw C v3 [X] M i c ver wr ce mo r0 r1 er 9 H V W2 K1 0 = _
 unfold ZA
 exact Zb (by omega) <| Zb (by omega) <| Zn (ZtP h0 (by decide)) <| Zm (by decide) <| Zm (by decide) rfl
theorem Zvo (z : Z n v0 C ks) (m : Mem n H V) (hs : ∀ k ∈ ks, stt H k = 2) (h3 : v3 < 58) (hn : nw ≤ 900) (h0 : X.a0 = 1) (h8 : X.a8 = 1) (hv : V.getD 1 zz = ⟨2, rr 0⟩) : ∀ (d q f : Nat), q + d = C.length → d + 2 < f →
  Za4 (LS L0 a1 N) f (.h4m1 v0 nw C v3 false q [X] M i c ver wr ce mo r0 r1 er 9 H V W2 K1 0) = some (.r0 true) := by
 have hl := z.l
 intro d
 induction d with
 | zero =>
  intro q f hq hf
  obtain ⟨f, rfl⟩ : ∃ j, f = j + 3 := ⟨f - 3, by omega⟩
  refine (Zad (n := f + 2) ?_).trans (ZuH (L0 := L0) (a1 := a1) (N := N) (M := M) (i := i) (c := c) (ver := ver) (wr := wr) (ce := ce) (mo := mo) (r0 := r0) (r1 := r1) (er := er) z m (show v3 + 1 < 59 by omega) (show nw ≤ 900 by omega) h0 h8 hv f)
  show ZaM L0 a1 N v0 nw C v3 false q [X] M i c ver wr ce mo r0 r1 er 9 H V W2 K1 0 = _
  unfold ZaM
  exact Zm (by decide) <| Zm (by omega) <| Zb (by omega) rfl
 | succ d ih =>
  intro q f hq hf
  obtain ⟨f, rfl⟩ : ∃ j, f = j + 1 := ⟨f - 1, by omega⟩
  refine (Zad ?_).trans (ih (q + 1) f (by omega) (by omega))
  have hq' : q < C.length := by omega
  obtain ⟨k, hk, e⟩ := z.c (C.getD q RG.z) (by rw [show C.getD q RG.z = C[q] by simp [hq']]; exact List.getElem_mem hq')
  have hh := ZmA (N := N) m (z.k k hk)
  have hh3 := ZtL m (z.k k hk)
  rw [hs k hk] at hh3
  show ZaM L0 a1 N v0 nw C v3 false q [X] M i c ver wr ce mo r0 r1 er 9 H V W2 K1 0 = _
  unfold ZaM
  rw [e]
  exact Zm (by decide) <| Zb (by omega) <| Zn hh <| Zm (fun q => q hh3) <| Zb (by omega) rfl
theorem p_ask (z : Z n v0 C ks) (m : Mem n H V) (hs : ∀ k ∈ ks, stt H k = 2) (h3 : v3 < 55) (hn : nw ≤ 800) (f : Nat) (hf : 1010 < f) :
  Za4 (LS L0 a1 N) f (.h3m2 v0 nw C v3 [XA] M i c ver wr ce mo r0 r1 er 4 H V Z5 Z5 0) = some (.r0 true) := by
 obtain ⟨f, rfl⟩ : ∃ j, f = j + 3 := ⟨f - 3, by omega⟩
 obtain ⟨Y, y0, y8, hw⟩ := ZtO (N := N) (now := (((nw + 2 + 1) : Nat) : Int)) (ver := ver) (wr := wr) (ce := ce) (mo := mo) (r0 := r0) (r1 := r1) (er := er) (M := M) (i := i) (c := c) m
 have vl := m.vl
 have hl := z.l
 refine (Zad (n := f + 2) (y := .h3m2 v0 (nw + 1) C (v3 + 1) [XA] M i c ver wr ce mo r0 r1 er 7 H V Z5 Z5 0) ?_).trans <| (Zad (n := f + 1) (y := .h3m2 v0 (nw + 2) C (v3 + 2) [XA] M i c ver wr ce mo r0 r1 er 8 H V W2 K1 0) ?_).trans <| (Zad (n := f) (y := .h4m1 v0 (nw + 3) C (v3 + 2) false 0 [Y] M i c ver true ce mo r0 r1 er 9 H (V.set 1 ⟨2, rr 0⟩) W2 K1 0) ?_).trans <| Zvo (L0 := L0) (a1 := a1) (N := N) z m.storeR hs (by omega) (by omega) y0 y8 (Zem (by omega)) C.length 0 f (by omega) (by omega)
 ·show ZA L0 a1 N v0 nw C v3 [XA] M i c ver wr ce mo r0 r1 er 4 H V Z5 Z5 0 = _
  unfold ZA
  exact Zb (by omega) <| Zb (by omega) <| Zn Zvm <| Zm (by decide) <| Zm (by decide) rfl
 ·show ZA L0 a1 N v0 (nw + 1) C (v3 + 1) [XA] M i c ver wr ce mo r0 r1 er 7 H V Z5 Z5 0 = _
  unfold ZA
  exact Zb (by omega) <| Zb (by omega) <| Zn ZuG <| Zm (by decide) <| Zm (by decide) rfl
 ·show ZA L0 a1 N v0 (nw + 2) C (v3 + 2) [XA] M i c ver wr ce mo r0 r1 er 8 H V W2 K1 0 = _
  unfold ZA
  exact Zb (by omega) <| Zb (by omega) <| Zn hw <| Zm (by decide) <| Zb (by decide) rfl
theorem ZuI (z : Z n v0 C ks) (hk : ks.length ≤ 50) {b : Nat} (hb : b ≤ 100) : ∀ (d i : Nat) (H : List RI) (f : Nat), i + d = ks.length → 1 ≤ i → Mem n H V → (∀ j, j < i → stt H (ks.getD j 0) = 2) → 1010 + d < f →
  Za4 (LS L0 a1 N) f (.h3m2 v0 (b + i) C (1 + i) [XA] (ks.map rfk) i (ks.length - i) ver wr ce mo r0 r1 er (nxt (ks.length - i)) H V Z5 Z5 0) = some (.r0 true) := by
 intro d
 induction d with
 | zero =>
  intro i H f hi h1 m hs hf
  have e : nxt (ks.length - i) = 4 := by unfold nxt; rw [if_pos (by omega)]
  rw [e]
  refine p_ask z m (fun k hk => ?_) (by omega) (by omega) f (by omega)
  obtain ⟨j, h2, h4⟩ := List.getElem_of_mem hk
  have := hs j (by omega)
  rw [show ks.getD j 0 = k by simp [h2, h4]] at this
  exact this
 | succ d ih =>
  intro i H f hi h1 m hs hf
  obtain ⟨f, rfl⟩ : ∃ j, f = j + 1 := ⟨f - 1, by omega⟩
  have e : nxt (ks.length - i) = 3 := by unfold nxt; rw [if_neg (by omega)]
  rw [e]
  have hil : i < ks.length := by omega
  have hm : ks.getD i 0 < n := z.k _ (by rw [show ks.getD i 0 = ks[i] by simp [hil]]; exact List.getElem_mem hil)
  obtain ⟨m', hs'⟩ := m.shr hm
  refine (Zad (y := .h3m2 v0 (b + (i + 1)) C (1 + (i + 1)) [XA] (ks.map rfk) (i + 1) (ks.length - (i + 1)) ver wr ce mo r0 r1 er (nxt (ks.length - (i + 1))) (Ps.shr H (ks.getD i 0)) V Z5 Z5 0) ?_).trans (ih (i + 1) _ f (by omega) (by omega) m' (fun j hj => ?_) (by omega))
  ·show ZA L0 a1 N v0 (b + i) C (1 + i) [XA] (ks.map rfk) i (ks.length - i) ver wr ce mo r0 r1 er 3 H V Z5 Z5 0 = _
   unfold ZA
   exact Zb (by omega) <| Zb (by omega) <| Zn (ZuF m z.k (by omega) hil (by decide)) <| Zm (by decide) <| Zm (by decide) rfl
  ·have hj' : j < ks.length := by omega
   have hjm : ks.getD j 0 < n := z.k _ (by rw [show ks.getD j 0 = ks[j] by simp [hj']]; exact List.getElem_mem hj')
   rw [hs' _ hjm]
   by_cases e : ks.getD j 0 = ks.getD i 0
   ·rw [if_pos e]
   ·rw [if_neg e]
    exact hs j (by
     by_cases e' : j = i
     ·subst e'; exact absurd rfl e
     ·omega)
theorem t5 : Int.tmod ((1048577 : Int) % 1048576) ((5 : Nat) : Int) = 1 := by decide
theorem Zvp (m : Mem n H V) (h0 : 0 < n) (hp : ∀ k, k < n → stt H k = 1) (hv : v0 = (List.range n).map rfk) (hne : ks ≠ []) (hlen : ks.length ≤ 50) (hk : ∀ k ∈ ks, k < n) (hc : Zaw (ZbJ H V n) 2 (rr 0) 100000 = some (.r1 (ks.map rfk))) (hC : C ≠ []) (hCl : C.length ≤ 1000) (hCk : ∀ x ∈ C, ∃ k ∈ ks, x = rfk k) (hn : nw ≤ 90) (f : Nat) (hf : 2000 < f) :
  Za4 (LS L0 a1 100000) f (.h3m0 v0 nw C 0 [XR 0] ce mo r0 r1 er 1 H V) = some (.r0 true) := by
 obtain ⟨f, rfl⟩ : ∃ j, f = j + 2 := ⟨f - 2, by omega⟩
 have hpos : 0 < ks.length := List.length_pos_iff.2 hne
 have z : Z n v0 C ks := by
  subst hv
  exact ⟨by simp; omega, by simp [h0], hC, hCl, hCk, hk⟩
 have hm : ks.getD 0 0 < n := hk _ (by rw [show ks.getD 0 0 = ks[0] by simp [hpos]]; exact List.getElem_mem hpos)
 obtain ⟨m', hs'⟩ := m.shr hm
 refine (Zad (n := f + 1) (y := .h3m1 v0 (nw + 1) C 1 [XA] (ks.map rfk) ce mo r0 r1 er H V) ?_).trans <| (Zad (n := f) (y := .h3m2 v0 (nw + 1 + 1) C (1 + 1) [XA] (ks.map rfk) 1 (ks.length - 1) 0 false ce mo r0 r1 er (nxt (ks.length - 1)) (Ps.shr H (ks.getD 0 0)) V Z5 Z5 0) ?_).trans <| ZuI (b := nw + 1) z hlen (by omega) (ks.length - 1) 1 _ f (by omega) (by omega) m' (fun j hj => ?_) (by omega)
 ·show ZbG L0 a1 100000 v0 nw C 0 [XR 0] ce mo r0 r1 er 1 H V = _
  unfold ZbG
  refine Zb (by decide) <| Zb (by omega) <| Zn (Zvl m h0 (hp 0 h0) hc (by decide)) ?_
  show some (Sum.inl (law18_PlainSharesX.h3m1 v0 (nw + 1) C (0 + 1) [⟨1, 2, 1048577, 0, 2, rr 0, 0, 0, Int.tmod ((1048577 : Int) % 1048576) ((5 : Nat) : Int), 0, 0, 0, 0, 0, 0, 0⟩] (ks.map rfk) ce mo r0 r1 er H V)) = _
  rw [t5]
 ·show ZbH L0 a1 100000 v0 (nw + 1) C 1 [XA] (ks.map rfk) ce mo r0 r1 er H V = _
  unfold ZbH
  refine Zb (by decide) <| Zb (by omega) <| Zn (ZuE m hk hpos) ?_
  rw [List.length_map]
 ·obtain rfl : j = 0 := by omega
  rw [hs' _ hm, if_pos rfl]
end Ps
namespace Ps
open Pg
set_option linter.unusedVariables false
set_option linter.unusedSimpArgs false
variable {L0 : List Int} {a1 : Int} {n : Nat} {H : List RI} {V : List RG} {N : Nat} {ver mo r0 r1 er : Int} {wr ce : Bool} {v0 C M : List RG} {nw v3 i c k : Nat} {L : List RM}
def rfs (n : Nat) : List RG := (List.range n).map rfk
theorem ZlK : (rfs n).length = n := by simp [rfs]
theorem ZnN (h : k < n) : (rfs n).getD k RG.z = rfk k := by simp [rfs, h]
theorem ZtQ : rfs n ++ [rfk n] = rfs (n + 1) := by simp [rfs, List.range_succ]
def All1 (H : List RI) (n : Nat) : Prop := ∀ k, k < n → stt H k = 1
theorem All1.new (m : Mem n H V) (h : n < 8) (a : All1 H n) : All1 (ZgB H) (n + 1) := by
 obtain ⟨_, h1, h2⟩ := m.new h
 intro k hk
 by_cases e : k = n
 ·subst e; exact h2
 ·rw [h1 k (by omega)]; exact a k (by omega)
theorem ZsR (m : Mem n H V) (a : All1 H n) (h0 : 0 < n) (hv : ¬ (v3 < L0.length ∧ v3 < 16)) (hn : nw ≤ 90) (f : Nat) (hf : 2002 < f) :
  Za4 (LS L0 a1 100000) f (.h2m0 (rfs n) nw v3 L ce mo r0 r1 er 0 H V) = some (.r0 true) := by
 obtain ⟨f, rfl⟩ : ∃ j, f = j + 1 := ⟨f - 1, by omega⟩
 obtain ⟨ks, k1, k2, k3, k4, C, c1, c2, c3, c4⟩ := clos m h0 (a 0 h0)
 refine (Zad (y := .h3m0 (rfs n) nw C 0 [XR 0] false mo 0 0 0 1 H V) ?_).trans (Zvp m h0 a rfl k1 k2 k3 k4 c2 c3 c4 hn f (by omega))
 have ho := Zrk (N := 100000) m (by decide)
 have hg : (rfs n).getD 0 RG.z = rfk 0 := ZnN h0
 show ZaL L0 a1 100000 (rfs n) nw v3 L ce mo r0 r1 er 0 H V = _
 unfold ZaL
 rw [hg]
 by_cases e : v3 < L0.length
 ·exact Zb (by omega) <| Zm (by omega) <| Zn ho <| Zb (by rw [ZlK]; exact h0) <| Zn c1 <| Zn ZnM rfl
 ·exact Zm (by omega) <| Zn ho <| Zb (by rw [ZlK]; exact h0) <| Zn c1 <| Zn ZnM rfl
theorem tm {x : Int} (h : 0 ≤ x) (hn : 0 < n) : 0 ≤ Int.tmod x (n : Int) ∧ (Int.tmod x (n : Int)).toNat < n := by
 have e : Int.tmod x (n : Int) = x % (n : Int) := Int.tmod_eq_emod_of_nonneg h
 have h1 := Int.emod_nonneg x (show (n : Int) ≠ 0 by omega)
 have h2 := Int.emod_lt_of_pos x (show (0 : Int) < n by omega)
 rw [e]; omega
theorem h2_go (hb : ∀ x ∈ L0, 0 ≤ x ∧ x ≤ 255) (h0 : 0 < n) : ∀ (d v3 nw : Nat) (L : List RM) (ce : Bool) (mo r0 r1 er : Int) (V : List RG) (f : Nat), v3 + d = 16 → nw ≤ 10 + v3 → Mem n H V → All1 H n → 2002 + d < f →
  Za4 (LS L0 a1 100000) f (.h2m0 (rfs n) nw v3 L ce mo r0 r1 er 0 H V) = some (.r0 true) := by
 intro d
 induction d with
 | zero =>
  intro v3 nw L ce mo r0 r1 er V f hd hn m a hf
  exact ZsR m a h0 (by omega) (by omega) f (by omega)
 | succ d ih =>
  intro v3 nw L ce mo r0 r1 er V f hd hn m a hf
  by_cases hv : v3 < L0.length
  ·obtain ⟨f, rfl⟩ : ∃ j, f = j + 1 := ⟨f - 1, by omega⟩
   have hx := hb (L0.getD v3 0) (by rw [show L0.getD v3 0 = L0[v3] by simp [hv]]; exact List.getElem_mem hv)
   have n8 := m.n8
   obtain ⟨i1, i2⟩ := tm (n := n) (x := (v3 : Int) / 2) (by omega) h0
   obtain ⟨j1, j2⟩ := tm (n := n) (x := L0.getD v3 0) hx.1 h0
   have hf2 : (v3 : Int) % 2 = ((v3 % 2 : Nat) : Int) := by omega
   refine (Zad (y := .h2m0 (rfs n) (nw + 1) (v3 + 1) [XO (Int.tmod ((v3 : Int) / 2) (n : Int)).toNat (v3 % 2) (Int.tmod (L0.getD v3 0) (n : Int)).toNat] true (((nw + 1 : Nat) : Int)) 0 0 0 0 H (V.set (18 + 3 * (Int.tmod ((v3 : Int) / 2) (n : Int)).toNat + v3 % 2) ⟨2, rr (Int.tmod (L0.getD v3 0) (n : Int)).toNat⟩)) ?_).trans (ih (v3 + 1) (nw + 1) _ _ _ _ _ _ _ f (by omega) (by omega) (m.store i2 (by omega) j2) a (by omega))
   have hs := s_own (N := 100000) (now := (((nw + 1) : Nat) : Int)) (ver := 0) (wr := false) (ce := false) (mo := mo) (r0 := 0) (r1 := 0) (er := 0) m i2 (a _ i2) (f := v3 % 2) (by omega) (j := (Int.tmod (L0.getD v3 0) (n : Int)).toNat) (by omega)
   show ZaL L0 a1 100000 (rfs n) nw v3 L ce mo r0 r1 er 0 H V = _
   unfold ZaL
   rw [ZlK, ZnN i2, ZnN j2, hf2]
   refine Zb (by omega) <| Zb (by omega) <| Zb (by omega) <| Zb i1 <| Zb i2 <| Zb (by omega) <| Zb (by omega) <| Zb j1 <| Zb j2 <| Zn ZnM <| Zb (by omega) <| Zn hs <| Zb rfl <| Zm (by decide) rfl
  ·exact ZsR m a h0 (by omega) (by omega) f (by omega)
theorem h1_go (hb : ∀ x ∈ L0, 0 ≤ x ∧ x ≤ 255) (ha : 0 ≤ a1 ∧ a1 ≤ 255) : ∀ (d k : Nat) (L : List RM) (ce : Bool) (mo r0 r1 er : Int) (H : List RI) (V : List RG) (f : Nat), (k : Int) + d = 1 + a1 % 8 → 1 ≤ k → Mem k H V → All1 H k → 3000 + d < f →
  Za4 (LS L0 a1 100000) f (.h1m1 (rfs k) k k L ce mo r0 r1 er 0 H V) = some (.r0 true) := by
 intro d
 induction d with
 | zero =>
  intro k L ce mo r0 r1 er H V f hd h1 m a hf
  obtain ⟨f, rfl⟩ : ∃ j, f = j + 1 := ⟨f - 1, by omega⟩
  have n8 := m.n8
  refine (Zad (y := .h2m0 (rfs k) k 0 L ce mo r0 r1 er 0 H V) ?_).trans (h2_go hb h1 16 0 k L ce mo r0 r1 er V f (by omega) (by omega) m a (by omega))
  show ZaK L0 a1 100000 (rfs k) k k L ce mo r0 r1 er 0 H V = _
  unfold ZaK
  exact Zb (by omega) <| Zb (by omega) <| Zb (by omega) <| Zm (by omega) rfl
 | succ d ih =>
  intro k L ce mo r0 r1 er H V f hd h1 m a hf
  obtain ⟨f, rfl⟩ : ∃ j, f = j + 1 := ⟨f - 1, by omega⟩
  have hk : k < 8 := by omega
  obtain ⟨m', _, _⟩ := m.new hk
  refine (Zad (y := .h1m1 (rfs (k + 1)) (k + 1) (k + 1) [⟨2, 0, 0, 0, 0, 0, 2, 3, 0, 0, 0, 0, 0, 0, 0, 0⟩] true (((k + 1 : Nat) : Int)) 2 (rr k) 0 0 (ZgB H) (Zkn H V)) ?_).trans (ih (k + 1) _ _ _ _ _ _ _ _ f (by omega) (by omega) m' (All1.new m hk a) (by omega))
  show ZaK L0 a1 100000 (rfs k) k k L ce mo r0 r1 er 0 H V = _
  unfold ZaK
  rw [← ZtQ]
  refine Zb (by omega) <| Zb (by omega) <| Zb (by omega) <| Zb (by omega) <| Zn Zqe <| Zb (by omega) <| Zn (Zrl m hk) <| Zm (by decide) <| Zb (by rw [ZlK]; omega) rfl
abbrev HD : List RI := (⟨(1 : Int), (16 : Int), (255 : Int), (2 : Int), (0 : Int)⟩ : RI) :: List.replicate 16 (⟨(0 : Int), (0 : Int), (0 : Int), (0 : Int), (0 : Int)⟩ : RI)
abbrev VD : List RG := [(⟨(0 : Int), (0 : Int)⟩ : RG), (⟨(2 : Int), (0 : Int)⟩ : RG), (⟨(2 : Int), (0 : Int)⟩ : RG), (⟨(2 : Int), (0 : Int)⟩ : RG), (⟨(2 : Int), (0 : Int)⟩ : RG), (⟨(2 : Int), (0 : Int)⟩ : RG), (⟨(2 : Int), (0 : Int)⟩ : RG), (⟨(2 : Int), (0 : Int)⟩ : RG), (⟨(2 : Int), (0 : Int)⟩ : RG), (⟨(1 : Int), (0 : Int)⟩ : RG), (⟨(1 : Int), (0 : Int)⟩ : RG), (⟨(1 : Int), (0 : Int)⟩ : RG), (⟨(1 : Int), (0 : Int)⟩ : RG), (⟨(1 : Int), (0 : Int)⟩ : RG), (⟨(1 : Int), (0 : Int)⟩ : RG), (⟨(1 : Int), (0 : Int)⟩ : RG), (⟨(1 : Int), (0 : Int)⟩ : RG)]
theorem mem0 : Mem 0 HD VD := ⟨by decide, by simp, by simp, rfl, fun k h => by omega, fun k h => by omega⟩
theorem runs (L0 : List Int) (a1 : Int) (hb : ∀ x ∈ L0, 0 ≤ x ∧ x ≤ 255) (ha : 0 ≤ a1 ∧ a1 ≤ 255) : Zhe L0 a1 100000 = some (.r0 true) := by
 obtain ⟨m', _, _⟩ := mem0.new (by decide)
 have a' : All1 (ZgB HD) 1 := All1.new mem0 (by decide) (fun k h => by omega)
 obtain ⟨d, hd⟩ : ∃ d : Nat, ((1 : Nat) : Int) + (d : Int) = 1 + a1 % 8 := ⟨(a1 % 8).toNat, by omega⟩
 refine (ZeS (x := law18_PlainSharesX.h1m0) (by unfold Zdc; exact Zb ha.1 (Zb ha.2 rfl))).trans ((Zad (n := 99999) (y := .h1m1 (rfs 1) 1 1 [⟨2, 0, 0, 0, 0, 0, 2, 3, 0, 0, 0, 0, 0, 0, 0, 0⟩] true 1 2 (rr 0) 0 0 (ZgB HD) (Zkn HD VD)) ?_).trans (h1_go hb ha d 1 _ _ _ _ _ _ _ _ 99999 hd (by omega) m' a' (by omega)))
 show ZbF L0 a1 100000 = _
 unfold ZbF
 exact Zb (by omega) <| Zb (by omega) <| Zb (by omega) <| Zn Zqe <| Zn (Zrl mem0 (by decide)) <| Zm (by decide) rfl
end Ps
end Ev
end Go.Proofs.YtiijipocjellpaaGreat
/- A region that draws its order, whose first operations only read (and make memory in calls), and whose last ones, in a forced order among themselves, make and write new memory: but these may come up early. -/
namespace Go.Proofs.YtiijipocjellpaaGreat
open Go.RowKit

section
variable {P : Program}

def Calm (P : Program) (W : World) (o : Oper) (a : Act) (v : Value) : Prop :=
 ∀ w, Below W.heap.size W w → o.quietAt P a (fun w' => Below w.heap.size w w') w v

def YieldsC (P : Program) (ops : Array Oper) (W : World) (o : Oper) (v : Value) (a : Act) : Prop :=
 (Region.wanted o (yielded ops a.tmps) = true ∧ Calm P W o a v) ∨ (Region.wanted o (yielded ops a.tmps) = false ∧ v = undef)
theorem Zox {a b c : World} (h : Below a.heap.size a b) (k : Below b.heap.size b c) : Below a.heap.size a c := h.trans (k.mono h.size)

def Closed (md : Region.Mode) (ops : Array Oper) (listed : Array Bool) : Prop :=
 ∀ j oj, ops[j]? = some oj → listed.getD j false = true → ∀ e ∈ oj.after, Region.binds md e = true → listed.getD e.on false = true
def Zqf (md : Region.Mode) (ops : Array Oper) : Nat → Nat → Nat → Bool
 | 0, _, _ => false
 | f + 1, t, i => Region.waitsFor md ops t i || (List.range ops.size).any fun k => Region.waitsFor md ops t k && Zqf md ops f k i
theorem Closed.waits {md : Region.Mode} {ops : Array Oper} {listed : Array Bool} (h : Closed md ops listed) : ∀ (f t i : Nat), listed.getD t false = true → Zqf md ops f t i = true → listed.getD i false = true
 | 0, _, _, _, hw => by cases hw
 | f + 1, t, i, ht, hw => by
  simp only [Zqf, Bool.or_eq_true, List.any_eq_true, Bool.and_eq_true] at hw
  rcases hw with hw | ⟨k, _, hw, hr⟩
  ·obtain ⟨o, ho, e, he, hb, rfl⟩ := Region.waitsFor_spec hw
   exact h t o ho ht e he hb
  ·obtain ⟨o, ho, e, he, hb, rfl⟩ := Region.waitsFor_spec hw
   exact h.waits f e.on i (h t o ho ht e he hb) hr

theorem YieldsC.wpOp {ops : Array Oper} {W : World} {i : Nat} {o : Oper} {v : Value} {a : Act} {w : World} (hi : ops[i]? = some o) (hy : YieldsC P ops W o v a) (hb : Below W.heap.size W w)
  {K : Act → World → Prop} {Q : Exit → Act → World → Prop} (h : ∀ w', Below w.heap.size w w' → K (a.put o.dst v) w') : wpOp P ops Q i K a w := by
 unfold Go.wpOp
 simp only [hi]
 rcases hy with ⟨hw, hv⟩ | ⟨hw, rfl⟩
 ·simp only [hw, if_true]
  exact .inl (Oper.wp_of_quiet (C := fun w' => Below w.heap.size w w') (K := fun a' => a' = a.put o.dst v) (Below.refl _ _) (fun a' w' hw' ha => by subst ha; exact h w' hw')
   ⟨v, fun w1 hw1 => by
    have h1 := hv w1 (Zox hb hw1)
    unfold Oper.quietAt at h1 ⊢
    generalize (execOp a.eval o).run P w1 = r at *
    cases r with
    | ok n w' =>
     cases n <;> simp only [Oper.quietUpon] at h1 ⊢
     case value u => exact h1
     case skip => exact h1
     case enter f args => exact ⟨h1.1, h1.2.mono fun e w2 ⟨he, hb2⟩ => ⟨he, Zox hw1 hb2⟩⟩
    | halt x w' => simp only [Oper.quietUpon] at h1, rfl⟩)
 ·simp only [hw, Bool.false_eq_true, if_false]
  exact h w (Below.refl _ _)

end
theorem Has.grown {W W' : World} {b : Nat} {cs : List Value} {g : Nat} (h : Has W b cs) (hg : W.grownBy W' (some g)) (hne : b ≠ g) : Has W' b cs := by
 have e : W'.heap[b]? = W.heap[b]? := hg.block b h.1 (fun e => hne (by injection e))
 exact ⟨Nat.lt_of_lt_of_le h.1 hg.size, fun i v hi => ⟨(World.cell?_of_block (a := ⟨b, i, none⟩) e).trans (h.2 i v hi).1, (World.frozen?_of_block (a := ⟨b, i, none⟩) e).trans (h.2 i v hi).2⟩⟩
end Go.Proofs.YtiijipocjellpaaGreat
