/- Part 4. -/
import Derived.Test.YtaajdoclloamlaaGreatZac
/- Calls do what the plain functions say. -/
namespace Go.Proofs.YtaajdoclloamlaaGreat
open Go.RowKit
namespace Ev
set_option linter.unusedVariables false
set_option maxRecDepth 100000
theorem Zrs  (N : Nat) : (Zg  N).Ok Tryz.prog ZE (.h1m4 : Zd) (Zz  N (.h1m4 : Zd)) := by
 show (Zg  N).Ok Tryz.prog ZE (.h1m4 : Zd) (Zh7  N)
 unfold Zh7
 exact Mach.ok_next (M := Zg  N) (cd := 1000000) (cm := 0) (y := (.h1m5 : Zd)) (fu := 4000) (orc := (Zl [] [] [] [] [])) (live := [0, 38, 2, 3, 4, 5, 6, 7, 8, 9, 10, 11, 12, 13, 14, 15, 16, 17, 18, 19]) (tv := fun _ => [some (vp 0 0), some (vi 5)]) (bl := [some (.cells [vs 38 0 5 5, vn, vp 2 0, vs 3 0 1 1] 92), some (hccl), some (hca), some (ZaV), some (hcx), some (ZaU), some (Zb1), some (hcc), some (hcw), some (hcf), some (hcm), some (hch), some (hch), some (hcb), some (hci), some (hcbp), some (hcj), some (Zgx), some (Ze6), some (Zbn)]) (ob := []) rfl (show 1 ∈ ZJ (ZF 1) from by decide +kernel) (fun gv => by kernel_rfl) Zf rfl (by decide) (by rfl) (fun _ => ⟨rr, ⟨rr, trivial⟩⟩) ⟨⟨rfl, ⟨[], by rfl⟩, by rfl⟩, ⟨⟨rfl, ⟨[], by rfl⟩, by rfl⟩, ⟨⟨rfl, ⟨[], by rfl⟩, by rfl⟩, ⟨⟨rfl, ⟨[], by rfl⟩, by rfl⟩, ⟨⟨rfl, ⟨[], by rfl⟩, by rfl⟩, ⟨⟨rfl, ⟨[], by rfl⟩, by rfl⟩, ⟨⟨rfl, ⟨[], by rfl⟩, by rfl⟩, ⟨⟨rfl, ⟨[], by rfl⟩, by rfl⟩, ⟨⟨rfl, ⟨[], by rfl⟩, by rfl⟩, ⟨⟨rfl, ⟨[], by rfl⟩, by rfl⟩, ⟨⟨rfl, ⟨[], by rfl⟩, by rfl⟩, ⟨⟨rfl, ⟨[], by rfl⟩, by rfl⟩, ⟨⟨rfl, ⟨[], by rfl⟩, by rfl⟩, ⟨⟨rfl, ⟨[], by rfl⟩, by rfl⟩, ⟨⟨rfl, ⟨[], by rfl⟩, by rfl⟩, ⟨⟨rfl, ⟨[], by rfl⟩, by rfl⟩, ⟨⟨rfl, ⟨[], by rfl⟩, by rfl⟩, ⟨⟨rfl, ⟨[], by rfl⟩, by rfl⟩, ⟨⟨rfl, ⟨[], by rfl⟩, by rfl⟩, ⟨⟨rfl, ⟨[], by rfl⟩, by rfl⟩, trivial⟩⟩⟩⟩⟩⟩⟩⟩⟩⟩⟩⟩⟩⟩⟩⟩⟩⟩⟩⟩

theorem Zrt  (N : Nat) : (Zg  N).Ok Tryz.prog ZE (.h1m5 : Zd) (Zz  N (.h1m5 : Zd)) := by
 show (Zg  N).Ok Tryz.prog ZE (.h1m5 : Zd) (Zh8  N)
 unfold Zh8
 exact Mach.ok_next (M := Zg  N) (cd := 1000000) (cm := 0) (y := (.h1m6 : Zd)) (fu := 4000) (orc := (Zl [] [] [] [] [])) (live := [0, 64, 2, 3, 4, 5, 6, 7, 8, 9, 10, 11, 12, 13, 14, 15, 16, 17, 18, 19]) (tv := fun _ => [some (vp 0 0), some (vi 6)]) (bl := [some (.cells [vs 64 0 6 6, vn, vp 2 0, vs 3 0 1 1] 92), some (hcck), some (hca), some (ZaV), some (hcx), some (ZaU), some (Zb1), some (hcc), some (hcw), some (hcf), some (hcm), some (hch), some (hch), some (hcb), some (hci), some (.cells [vT, vf, vq, vi 4, vi 5, vq, vn, vn, vn, vi 2, vi 1048577, vi 5, vq, vq, vq, vq, vq, vq, vq, Value.func (.func 194) #[vp 15 0] #[], Value.func (.func 195) #[vp 15 0] #[], Value.func (.func 195) #[vp 15 0] #[], vi 1, vq, vq, vq, vf, vq, vq, vq, vn, vq, Value.nilFunc, vq, vq, vq, vn, vq, vq, vq, vp 2 0, vq, Value.func (.func 242) #[vp 15 0] #[], vq, vT, vi 1, vp 17 0, vp 18 0, vp 19 0, vn, vq, vq, vq] 226), some (hcj), some (Zgx), some (Ze6), some (Zbn)]) (ob := []) rfl (show 1 ∈ ZJ (ZF 1) from by decide +kernel) (fun gv => by kernel_rfl) Zf rfl (by decide) (by rfl) (fun _ => ⟨rr, ⟨rr, trivial⟩⟩) ⟨⟨rfl, ⟨[], by rfl⟩, by rfl⟩, ⟨⟨rfl, ⟨[], by rfl⟩, by rfl⟩, ⟨⟨rfl, ⟨[], by rfl⟩, by rfl⟩, ⟨⟨rfl, ⟨[], by rfl⟩, by rfl⟩, ⟨⟨rfl, ⟨[], by rfl⟩, by rfl⟩, ⟨⟨rfl, ⟨[], by rfl⟩, by rfl⟩, ⟨⟨rfl, ⟨[], by rfl⟩, by rfl⟩, ⟨⟨rfl, ⟨[], by rfl⟩, by rfl⟩, ⟨⟨rfl, ⟨[], by rfl⟩, by rfl⟩, ⟨⟨rfl, ⟨[], by rfl⟩, by rfl⟩, ⟨⟨rfl, ⟨[], by rfl⟩, by rfl⟩, ⟨⟨rfl, ⟨[], by rfl⟩, by rfl⟩, ⟨⟨rfl, ⟨[], by rfl⟩, by rfl⟩, ⟨⟨rfl, ⟨[], by rfl⟩, by rfl⟩, ⟨⟨rfl, ⟨[], by rfl⟩, by rfl⟩, ⟨⟨rfl, ⟨[], by rfl⟩, by rfl⟩, ⟨⟨rfl, ⟨[], by rfl⟩, by rfl⟩, ⟨⟨rfl, ⟨[], by rfl⟩, by rfl⟩, ⟨⟨rfl, ⟨[], by rfl⟩, by rfl⟩, ⟨⟨rfl, ⟨[], by rfl⟩, by rfl⟩, trivial⟩⟩⟩⟩⟩⟩⟩⟩⟩⟩⟩⟩⟩⟩⟩⟩⟩⟩⟩⟩

theorem Zru  (N : Nat) : (Zg  N).Ok Tryz.prog ZE (.h1m6 : Zd) (Zz  N (.h1m6 : Zd)) := by
 show (Zg  N).Ok Tryz.prog ZE (.h1m6 : Zd) (Zh9  N)
 unfold Zh9
 exact Mach.ok_next (M := Zg  N) (cd := 1000000) (cm := 0) (y := (.h1m7 : Zd)) (fu := 4000) (orc := (Zl [] [] [] [] [])) (live := [0, 44, 2, 3, 4, 5, 6, 7, 8, 9, 10, 11, 12, 13, 14, 15, 16, 17, 18, 19]) (tv := fun _ => [some (vp 0 0), some (vi 7)]) (bl := [some (.cells [vs 44 0 7 7, vn, vp 2 0, vs 3 0 1 1] 92), some (hccj), some (hca), some (ZaV), some (hcx), some (ZaU), some (Zb1), some (hcc), some (hcw), some (hcf), some (hcm), some (hch), some (hch), some (hcb), some (hci), some (.cells [vT, vf, vq, vi 4, vi 5, vq, vn, vn, vn, vi 2, vi 1048577, vi 5, vq, vq, vq, vq, vq, vq, vq, Value.func (.func 194) #[vp 15 0] #[], Value.func (.func 195) #[vp 15 0] #[], Value.func (.func 195) #[vp 15 0] #[], vi 1, vq, vq, vq, vf, vq, vq, vq, vn, vq, Value.nilFunc, vq, vq, vq, vn, vq, vq, vq, vp 2 0, vq, Value.func (.func 195) #[vp 15 0] #[], vq, vT, vi 1, vp 17 0, vp 18 0, vp 19 0, vn, vq, vq, vq] 226), some (hcj), some (Zgx), some (Ze6), some (Zbn)]) (ob := []) rfl (show 1 ∈ ZJ (ZF 1) from by decide +kernel) (fun gv => by kernel_rfl) Zf rfl (by decide) (by rfl) (fun _ => ⟨rr, ⟨rr, trivial⟩⟩) ⟨⟨rfl, ⟨[], by rfl⟩, by rfl⟩, ⟨⟨rfl, ⟨[], by rfl⟩, by rfl⟩, ⟨⟨rfl, ⟨[], by rfl⟩, by rfl⟩, ⟨⟨rfl, ⟨[], by rfl⟩, by rfl⟩, ⟨⟨rfl, ⟨[], by rfl⟩, by rfl⟩, ⟨⟨rfl, ⟨[], by rfl⟩, by rfl⟩, ⟨⟨rfl, ⟨[], by rfl⟩, by rfl⟩, ⟨⟨rfl, ⟨[], by rfl⟩, by rfl⟩, ⟨⟨rfl, ⟨[], by rfl⟩, by rfl⟩, ⟨⟨rfl, ⟨[], by rfl⟩, by rfl⟩, ⟨⟨rfl, ⟨[], by rfl⟩, by rfl⟩, ⟨⟨rfl, ⟨[], by rfl⟩, by rfl⟩, ⟨⟨rfl, ⟨[], by rfl⟩, by rfl⟩, ⟨⟨rfl, ⟨[], by rfl⟩, by rfl⟩, ⟨⟨rfl, ⟨[], by rfl⟩, by rfl⟩, ⟨⟨rfl, ⟨[], by rfl⟩, by rfl⟩, ⟨⟨rfl, ⟨[], by rfl⟩, by rfl⟩, ⟨⟨rfl, ⟨[], by rfl⟩, by rfl⟩, ⟨⟨rfl, ⟨[], by rfl⟩, by rfl⟩, ⟨⟨rfl, ⟨[], by rfl⟩, by rfl⟩, trivial⟩⟩⟩⟩⟩⟩⟩⟩⟩⟩⟩⟩⟩⟩⟩⟩⟩⟩⟩⟩

theorem Zrv  (N : Nat) : (Zg  N).Ok Tryz.prog ZE (.h1m7 : Zd) (Zz  N (.h1m7 : Zd)) := by
 show (Zg  N).Ok Tryz.prog ZE (.h1m7 : Zd) (ZhA  N)
 unfold ZhA
 exact Mach.ok_next (M := Zg  N) (cd := 1000000) (cm := 0) (y := (.h1m8 : Zd)) (fu := 4000) (orc := (Zl [] [] [] [] [])) (live := [0, 62, 2, 3, 4, 5, 6, 7, 8, 9, 10, 11, 12, 13, 14, 15, 16, 17, 18, 19]) (tv := fun _ => [some (vp 0 0), some (vi 8)]) (bl := [some (.cells [vs 62 0 8 8, vn, vp 2 0, vs 3 0 1 1] 92), some (hccf), some (hca), some (ZaV), some (hcx), some (ZaU), some (Zb1), some (hcc), some (hcw), some (hcf), some (hcm), some (hch), some (hch), some (hcb), some (hci), some (.cells [vT, vf, vq, vi 4, vi 5, vq, vn, vn, vn, vi 2, vi 1048577, vi 5, vq, vq, vq, vq, vq, vq, vq, Value.func (.func 194) #[vp 15 0] #[], Value.func (.func 195) #[vp 15 0] #[], Value.func (.func 195) #[vp 15 0] #[], vi 1, vq, vq, vq, vf, vi 2, vq, vq, vn, vq, Value.nilFunc, vq, vq, vq, vn, vq, vq, vq, vp 2 0, vq, Value.func (.func 245) #[vp 15 0] #[], vq, vT, vi 1, vp 17 0, vp 18 0, vp 19 0, vn, vq, vq, vq] 226), some (hcj), some (Zgx), some (Ze6), some (Zbn)]) (ob := []) rfl (show 1 ∈ ZJ (ZF 1) from by decide +kernel) (fun gv => by kernel_rfl) Zf rfl (by decide) (by rfl) (fun _ => ⟨rr, ⟨rr, trivial⟩⟩) ⟨⟨rfl, ⟨[], by rfl⟩, by rfl⟩, ⟨⟨rfl, ⟨[], by rfl⟩, by rfl⟩, ⟨⟨rfl, ⟨[], by rfl⟩, by rfl⟩, ⟨⟨rfl, ⟨[], by rfl⟩, by rfl⟩, ⟨⟨rfl, ⟨[], by rfl⟩, by rfl⟩, ⟨⟨rfl, ⟨[], by rfl⟩, by rfl⟩, ⟨⟨rfl, ⟨[], by rfl⟩, by rfl⟩, ⟨⟨rfl, ⟨[], by rfl⟩, by rfl⟩, ⟨⟨rfl, ⟨[], by rfl⟩, by rfl⟩, ⟨⟨rfl, ⟨[], by rfl⟩, by rfl⟩, ⟨⟨rfl, ⟨[], by rfl⟩, by rfl⟩, ⟨⟨rfl, ⟨[], by rfl⟩, by rfl⟩, ⟨⟨rfl, ⟨[], by rfl⟩, by rfl⟩, ⟨⟨rfl, ⟨[], by rfl⟩, by rfl⟩, ⟨⟨rfl, ⟨[], by rfl⟩, by rfl⟩, ⟨⟨rfl, ⟨[], by rfl⟩, by rfl⟩, ⟨⟨rfl, ⟨[], by rfl⟩, by rfl⟩, ⟨⟨rfl, ⟨[], by rfl⟩, by rfl⟩, ⟨⟨rfl, ⟨[], by rfl⟩, by rfl⟩, ⟨⟨rfl, ⟨[], by rfl⟩, by rfl⟩, trivial⟩⟩⟩⟩⟩⟩⟩⟩⟩⟩⟩⟩⟩⟩⟩⟩⟩⟩⟩⟩

theorem Zrw  (N : Nat) : (Zg  N).Ok Tryz.prog ZE (.h1m8 : Zd) (Zz  N (.h1m8 : Zd)) := by
 show (Zg  N).Ok Tryz.prog ZE (.h1m8 : Zd) (ZhB  N)
 unfold ZhB
 exact Mach.ok_next (M := Zg  N) (cd := 1000000) (cm := 0) (y := (.h1m9 : Zd)) (fu := 4000) (orc := (Zl [(68, true)] [] [] [] [])) (live := [0, 63, 2, 3, 4, 5, 6, 7, 8, 9, 10, 11, 12, 13, 14, 15, 16, 48, 17, 18, 19, 38, 36]) (tv := fun _ => [some (vp 0 0), some (vi 9)]) (bl := [some (.cells [vs 63 0 9 9, vn, vp 2 0, vs 3 0 1 1] 92), some (hcbz), some (hca), some (ZaV), some (hcx), some (ZaU), some (Zb1), some (hcc), some (hcbw), some (hcf), some (hcm), some (hch), some (hch), some (hcb), some (hci), some (.cells [vT, vf, vq, vi 4, vi 5, vq, vs 48 0 1 1, vn, vn, vi 2, vi 1048577, vi 5, vq, vq, vq, vq, vq, vq, vq, Value.func (.func 194) #[vp 15 0] #[], Value.func (.func 195) #[vp 15 0] #[], Value.func (.func 195) #[vp 15 0] #[], vi 1, vq, vq, vq, vf, vi 2, vq, vq, vn, vq, Value.nilFunc, vq, vq, vq, vn, vq, vq, vq, vp 2 0, vq, Value.nilFunc, vq, vT, vi 1, vp 17 0, vp 18 0, vp 19 0, vn, vi 2, vq, vq] 226), some (hcj), some (Zhk), some (.cells [vi 64, vs 38 0 1 1, Value.int .u32 (1 : Int), Value.int .i32 (0 : Int), Value.int .u32 (0 : Int), Value.map (some 36)] 254), some (Ze6), some (Zbn), some (Zab), some (.ro (ZG ([(⟨(1 : Int), (0 : Int)⟩ : R_ii)] : List R_ii)) true)]) (ob := [(((0 : Int) == (0 : Int)), true)]) rfl (show 1 ∈ ZJ (ZF 1) from by decide +kernel) (fun gv => by kernel_rfl) (oT Zf) rfl (by decide) (by rfl) (fun _ => ⟨rr, ⟨rr, trivial⟩⟩) ⟨⟨rfl, ⟨[], by rfl⟩, by rfl⟩, ⟨⟨rfl, ⟨[], by rfl⟩, by rfl⟩, ⟨⟨rfl, ⟨[], by rfl⟩, by rfl⟩, ⟨⟨rfl, ⟨[], by rfl⟩, by rfl⟩, ⟨⟨rfl, ⟨[], by rfl⟩, by rfl⟩, ⟨⟨rfl, ⟨[], by rfl⟩, by rfl⟩, ⟨⟨rfl, ⟨[], by rfl⟩, by rfl⟩, ⟨⟨rfl, ⟨[], by rfl⟩, by rfl⟩, ⟨⟨rfl, ⟨[], by rfl⟩, by rfl⟩, ⟨⟨rfl, ⟨[], by rfl⟩, by rfl⟩, ⟨⟨rfl, ⟨[], by rfl⟩, by rfl⟩, ⟨⟨rfl, ⟨[], by rfl⟩, by rfl⟩, ⟨⟨rfl, ⟨[], by rfl⟩, by rfl⟩, ⟨⟨rfl, ⟨[], by rfl⟩, by rfl⟩, ⟨⟨rfl, ⟨[], by rfl⟩, by rfl⟩, ⟨⟨rfl, ⟨[], by rfl⟩, by rfl⟩, ⟨⟨rfl, ⟨[], by rfl⟩, by rfl⟩, ⟨⟨rfl, ⟨[], by rfl⟩, by rfl⟩, ⟨⟨rfl, ⟨[], by rfl⟩, by rfl⟩, ⟨⟨rfl, ⟨[], by rfl⟩, by rfl⟩, ⟨⟨rfl, ⟨[], by rfl⟩, by rfl⟩, ⟨⟨rfl, ⟨[], by rfl⟩, by rfl⟩, ⟨(show ZG ([(⟨(1 : Int), (0 : Int)⟩ : R_ii)] : List R_ii) = ZG ([(⟨(1 : Int), (0 : Int)⟩ : R_ii)] : List R_ii) from rfl), trivial⟩⟩⟩⟩⟩⟩⟩⟩⟩⟩⟩⟩⟩⟩⟩⟩⟩⟩⟩⟩⟩⟩⟩

theorem Zrx  (N : Nat) : (Zg  N).Ok Tryz.prog ZE (.h1m9 : Zd) (Zz  N (.h1m9 : Zd)) := by
 show (Zg  N).Ok Tryz.prog ZE (.h1m9 : Zd) (ZhC  N)
 unfold ZhC
 exact Mach.ok_next (M := Zg  N) (cd := 1000000) (cm := 0) (y := (.h1m10 : Zd)) (fu := 4000) (orc := (Zl [] [] [] [] [])) (live := [0, 62, 2, 3, 4, 5, 6, 7, 8, 9, 10, 11, 12, 13, 14, 15, 16, 17, 18, 19, 20, 21, 22]) (tv := fun _ => [some (vp 0 0), some (vi 10)]) (bl := [some (.cells [vs 62 0 10 10, vn, vp 2 0, vs 3 0 1 1] 92), some (hcbr), some (hca), some (ZaV), some (hcx), some (ZaU), some (Zb1), some (hcc), some (hcbv), some (hcf), some (hcm), some (hch), some (hch), some (hcb), some (hci), some (.cells [vT, vf, vq, vi 4, vi 5, vq, vs 17 0 1 1, vn, vn, vi 2, vi 1048577, vi 5, vq, vq, vq, vq, vq, vq, vq, Value.func (.func 194) #[vp 15 0] #[], Value.func (.func 195) #[vp 15 0] #[], Value.func (.func 195) #[vp 15 0] #[], vi 1, vq, vq, vq, vf, vi 2, vq, vq, vn, vq, Value.nilFunc, vq, vq, vq, vn, vq, vq, vq, vp 2 0, vq, Value.nilFunc, vq, vT, vi 1, vp 18 0, vp 19 0, vp 20 0, vn, vi 2, vq, vq] 226), some (hcj), some (Zhk), some (Zws), some (Ze6), some (Zbn), some (Zab), some (.ro (ZG ([(⟨(1 : Int), (0 : Int)⟩ : R_ii)] : List R_ii)) true)]) (ob := []) rfl (show 1 ∈ ZJ (ZF 1) from by decide +kernel) (fun gv => by kernel_rfl) Zf rfl (by decide) (by rfl) (fun _ => ⟨rr, ⟨rr, trivial⟩⟩) ⟨⟨rfl, ⟨[], by rfl⟩, by rfl⟩, ⟨⟨rfl, ⟨[], by rfl⟩, by rfl⟩, ⟨⟨rfl, ⟨[], by rfl⟩, by rfl⟩, ⟨⟨rfl, ⟨[], by rfl⟩, by rfl⟩, ⟨⟨rfl, ⟨[], by rfl⟩, by rfl⟩, ⟨⟨rfl, ⟨[], by rfl⟩, by rfl⟩, ⟨⟨rfl, ⟨[], by rfl⟩, by rfl⟩, ⟨⟨rfl, ⟨[], by rfl⟩, by rfl⟩, ⟨⟨rfl, ⟨[], by rfl⟩, by rfl⟩, ⟨⟨rfl, ⟨[], by rfl⟩, by rfl⟩, ⟨⟨rfl, ⟨[], by rfl⟩, by rfl⟩, ⟨⟨rfl, ⟨[], by rfl⟩, by rfl⟩, ⟨⟨rfl, ⟨[], by rfl⟩, by rfl⟩, ⟨⟨rfl, ⟨[], by rfl⟩, by rfl⟩, ⟨⟨rfl, ⟨[], by rfl⟩, by rfl⟩, ⟨⟨rfl, ⟨[], by rfl⟩, by rfl⟩, ⟨⟨rfl, ⟨[], by rfl⟩, by rfl⟩, ⟨⟨rfl, ⟨[], by rfl⟩, by rfl⟩, ⟨⟨rfl, ⟨[], by rfl⟩, by rfl⟩, ⟨⟨rfl, ⟨[], by rfl⟩, by rfl⟩, ⟨⟨rfl, ⟨[], by rfl⟩, by rfl⟩, ⟨⟨rfl, ⟨[], by rfl⟩, by rfl⟩, ⟨(show ZG ([(⟨(1 : Int), (0 : Int)⟩ : R_ii)] : List R_ii) = ZG ([(⟨(1 : Int), (0 : Int)⟩ : R_ii)] : List R_ii) from rfl), trivial⟩⟩⟩⟩⟩⟩⟩⟩⟩⟩⟩⟩⟩⟩⟩⟩⟩⟩⟩⟩⟩⟩⟩

theorem Zq4  (N : Nat) : (Zg  N).Ok Tryz.prog ZE (.h1m10 : Zd) (Zz  N (.h1m10 : Zd)) := by
 show (Zg  N).Ok Tryz.prog ZE (.h1m10 : Zd) (ZgP  N)
 unfold ZgP
 exact Mach.ok_next (M := Zg  N) (cd := 1000000) (cm := 0) (y := (.h1m11 : Zd)) (fu := 4000) (orc := (Zl [] [] [] [] [])) (live := [0, 67, 2, 3, 4, 5, 6, 7, 8, 38, 39, 11, 12, 13, 14, 15, 16, 17, 52, 18, 19, 20, 21, 22]) (tv := fun _ => [some (vp 0 0), some (vi 11)]) (bl := [some (.cells [vs 67 0 11 11, vn, vp 2 0, vs 3 0 1 1] 92), some (hcbo), some (hca), some (ZaV), some (.cells [vi 400, vs 38 0 21 21, vs 39 0 21 21, vn, vn, vn, vn, vn, vn, vn, vn, vn, vn, vn, vn, vn, vn, vn, vn, vn] 189), some (ZaU), some (Zb1), some (hcc), some (hcbs), some (hce), some (hcci), some (hch), some (hch), some (hcb), some (hci), some (.cells [vT, vf, vq, vi 4, vi 5, vq, vs 17 0 1 1, vs 52 0 1 1, vn, vq, vq, vq, vq, vq, vi 3, vi 1, vq, vq, vq, Value.nilFunc, Value.nilFunc, Value.nilFunc, vq, vq, vq, vq, vf, vq, vq, vq, vn, vq, Value.nilFunc, vq, vq, vq, vn, vq, vq, vq, vp 2 0, vq, Value.nilFunc, vq, vT, vi 1, vp 18 0, vp 19 0, vp 20 0, vn, vi 2, vi 1048594, vq] 226), some (hcj), some (Zhk), some (Zaa), some (Zws), some (Ze6), some (Zbn), some (Zab), some (.ro (ZG ([(⟨(1 : Int), (0 : Int)⟩ : R_ii)] : List R_ii)) true)]) (ob := []) rfl (show 1 ∈ ZJ (ZF 1) from by decide +kernel) (fun gv => by kernel_rfl) Zf rfl (by decide) (by rfl) (fun _ => ⟨rr, ⟨rr, trivial⟩⟩) ⟨⟨rfl, ⟨[], by rfl⟩, by rfl⟩, ⟨⟨rfl, ⟨[], by rfl⟩, by rfl⟩, ⟨⟨rfl, ⟨[], by rfl⟩, by rfl⟩, ⟨⟨rfl, ⟨[], by rfl⟩, by rfl⟩, ⟨⟨rfl, ⟨[], by rfl⟩, by rfl⟩, ⟨⟨rfl, ⟨[], by rfl⟩, by rfl⟩, ⟨⟨rfl, ⟨[], by rfl⟩, by rfl⟩, ⟨⟨rfl, ⟨[], by rfl⟩, by rfl⟩, ⟨⟨rfl, ⟨[], by rfl⟩, by rfl⟩, ⟨⟨rfl, ⟨[], by rfl⟩, by rfl⟩, ⟨⟨rfl, ⟨[], by rfl⟩, by rfl⟩, ⟨⟨rfl, ⟨[], by rfl⟩, by rfl⟩, ⟨⟨rfl, ⟨[], by rfl⟩, by rfl⟩, ⟨⟨rfl, ⟨[], by rfl⟩, by rfl⟩, ⟨⟨rfl, ⟨[], by rfl⟩, by rfl⟩, ⟨⟨rfl, ⟨[], by rfl⟩, by rfl⟩, ⟨⟨rfl, ⟨[], by rfl⟩, by rfl⟩, ⟨⟨rfl, ⟨[], by rfl⟩, by rfl⟩, ⟨⟨rfl, ⟨[], by rfl⟩, by rfl⟩, ⟨⟨rfl, ⟨[], by rfl⟩, by rfl⟩, ⟨⟨rfl, ⟨[], by rfl⟩, by rfl⟩, ⟨⟨rfl, ⟨[], by rfl⟩, by rfl⟩, ⟨⟨rfl, ⟨[], by rfl⟩, by rfl⟩, ⟨(show ZG ([(⟨(1 : Int), (0 : Int)⟩ : R_ii)] : List R_ii) = ZG ([(⟨(1 : Int), (0 : Int)⟩ : R_ii)] : List R_ii) from rfl), trivial⟩⟩⟩⟩⟩⟩⟩⟩⟩⟩⟩⟩⟩⟩⟩⟩⟩⟩⟩⟩⟩⟩⟩⟩

theorem Zq5  (N : Nat) : (Zg  N).Ok Tryz.prog ZE (.h1m11 : Zd) (Zz  N (.h1m11 : Zd)) := by
 show (Zg  N).Ok Tryz.prog ZE (.h1m11 : Zd) (ZgQ  N)
 unfold ZgQ
 exact Mach.ok_next (M := Zg  N) (cd := 1000000) (cm := 0) (y := (.h1m12 : Zd)) (fu := 4000) (orc := (Zl [] [] [] [] [])) (live := [0, 102, 2, 3, 4, 5, 6, 7, 8, 9, 10, 11, 12, 13, 14, 15, 16, 17, 18, 19, 20, 21, 22, 23, 91]) (tv := fun _ => [some (vp 0 0), some (vi 12)]) (bl := [some (.cells [vs 102 0 12 12, vn, vp 2 0, vs 3 0 1 1] 92), some (hcbl), some (hca), some (ZaV), some (hcp), some (ZaU), some (Zb1), some (hcc), some (hcbt), some (hce), some (hcch), some (hch), some (hch), some (hcb), some (hci), some (.cells [vT, vf, vq, vi 4, vi 5, vq, vs 17 0 1 1, vs 18 0 1 1, vn, vi 2, vi 1048594, vi 1, vi 1, vi 13, vq, vq, vq, vq, vq, Value.func (.func 197) #[vp 15 0] #[], Value.func (.func 197) #[vp 15 0] #[], Value.func (.func 192) #[vp 15 0] #[], vq, vq, vq, vq, vf, vq, vq, vq, vn, vq, Value.nilFunc, vq, vq, vq, vn, vq, vq, vq, vp 2 0, vq, Value.nilFunc, vq, vT, vi 1, vp 19 0, vp 20 0, vp 21 0, vn, vi 2, vi 1048594, vq] 226), some (hcj), some (Zhk), some (Zaa), some (hct), some (.cells [vi 64, vs 91 0 1 1] 257), some (Zbn), some (Zab), some (.ro (ZG ([(⟨(1 : Int), (0 : Int)⟩ : R_ii)] : List R_ii)) true), some (.cells [vi 2, vi 1048594, vi 1, vi 1, vq, vf, vq] 365)]) (ob := []) rfl (show 1 ∈ ZJ (ZF 1) from by decide +kernel) (fun gv => by kernel_rfl) Zf rfl (by decide) (by rfl) (fun _ => ⟨rr, ⟨rr, trivial⟩⟩) ⟨⟨rfl, ⟨[], by rfl⟩, by rfl⟩, ⟨⟨rfl, ⟨[], by rfl⟩, by rfl⟩, ⟨⟨rfl, ⟨[], by rfl⟩, by rfl⟩, ⟨⟨rfl, ⟨[], by rfl⟩, by rfl⟩, ⟨⟨rfl, ⟨[], by rfl⟩, by rfl⟩, ⟨⟨rfl, ⟨[], by rfl⟩, by rfl⟩, ⟨⟨rfl, ⟨[], by rfl⟩, by rfl⟩, ⟨⟨rfl, ⟨[], by rfl⟩, by rfl⟩, ⟨⟨rfl, ⟨[], by rfl⟩, by rfl⟩, ⟨⟨rfl, ⟨[], by rfl⟩, by rfl⟩, ⟨⟨rfl, ⟨[], by rfl⟩, by rfl⟩, ⟨⟨rfl, ⟨[], by rfl⟩, by rfl⟩, ⟨⟨rfl, ⟨[], by rfl⟩, by rfl⟩, ⟨⟨rfl, ⟨[], by rfl⟩, by rfl⟩, ⟨⟨rfl, ⟨[], by rfl⟩, by rfl⟩, ⟨⟨rfl, ⟨[], by rfl⟩, by rfl⟩, ⟨⟨rfl, ⟨[], by rfl⟩, by rfl⟩, ⟨⟨rfl, ⟨[], by rfl⟩, by rfl⟩, ⟨⟨rfl, ⟨[], by rfl⟩, by rfl⟩, ⟨⟨rfl, ⟨[], by rfl⟩, by rfl⟩, ⟨⟨rfl, ⟨[], by rfl⟩, by rfl⟩, ⟨⟨rfl, ⟨[], by rfl⟩, by rfl⟩, ⟨⟨rfl, ⟨[], by rfl⟩, by rfl⟩, ⟨(show ZG ([(⟨(1 : Int), (0 : Int)⟩ : R_ii)] : List R_ii) = ZG ([(⟨(1 : Int), (0 : Int)⟩ : R_ii)] : List R_ii) from rfl), ⟨⟨rfl, ⟨[], by rfl⟩, by rfl⟩, trivial⟩⟩⟩⟩⟩⟩⟩⟩⟩⟩⟩⟩⟩⟩⟩⟩⟩⟩⟩⟩⟩⟩⟩⟩⟩

theorem Zq6  (N : Nat) : (Zg  N).Ok Tryz.prog ZE (.h1m12 : Zd) (Zz  N (.h1m12 : Zd)) := by
 show (Zg  N).Ok Tryz.prog ZE (.h1m12 : Zd) (ZgR  N)
 unfold ZgR
 exact Mach.ok_next (M := Zg  N) (cd := 1000000) (cm := 0) (y := (.h1m13 : Zd)) (fu := 4000) (orc := (Zl [] [] [] [] [])) (live := [0, 103, 2, 3, 4, 5, 6, 7, 8, 9, 10, 11, 12, 13, 14, 15, 16, 17, 18, 19, 20, 21, 22, 23, 92]) (tv := fun _ => [some (vp 0 0), some (vi 13)]) (bl := [some (.cells [vs 103 0 13 13, vn, vp 2 0, vs 3 0 1 1] 92), some (hcbj), some (hca), some (ZaV), some (hcp), some (ZaU), some (Zb1), some (hcc), some (hcu), some (hce), some (hck), some (hch), some (hch), some (hcb), some (hci), some (.cells [vT, vf, vq, vi 4, vi 5, vq, vs 17 0 1 1, vs 18 0 1 1, vn, vi 2, vi 1048594, vi 2, vi 1, vi 7, vq, vq, vq, vq, vq, Value.func (.func 197) #[vp 15 0] #[], Value.func (.func 197) #[vp 15 0] #[], Value.func (.func 192) #[vp 15 0] #[], vq, vq, vq, vq, vf, vq, vq, vq, vn, vq, Value.nilFunc, vq, vq, vq, vn, vq, vq, vq, vp 2 0, vq, Value.nilFunc, vq, vT, vi 1, vp 19 0, vp 20 0, vp 21 0, vn, vi 2, vi 1048594, vq] 226), some (hcj), some (Zhk), some (Zaa), some (hct), some (.cells [vi 64, vs 92 0 2 2] 257), some (Zbn), some (Zab), some (.ro (ZG ([(⟨(1 : Int), (0 : Int)⟩ : R_ii)] : List R_ii)) true), some (Zno)]) (ob := []) rfl (show 1 ∈ ZJ (ZF 1) from by decide +kernel) (fun gv => by kernel_rfl) Zf rfl (by decide) (by rfl) (fun _ => ⟨rr, ⟨rr, trivial⟩⟩) ⟨⟨rfl, ⟨[], by rfl⟩, by rfl⟩, ⟨⟨rfl, ⟨[], by rfl⟩, by rfl⟩, ⟨⟨rfl, ⟨[], by rfl⟩, by rfl⟩, ⟨⟨rfl, ⟨[], by rfl⟩, by rfl⟩, ⟨⟨rfl, ⟨[], by rfl⟩, by rfl⟩, ⟨⟨rfl, ⟨[], by rfl⟩, by rfl⟩, ⟨⟨rfl, ⟨[], by rfl⟩, by rfl⟩, ⟨⟨rfl, ⟨[], by rfl⟩, by rfl⟩, ⟨⟨rfl, ⟨[], by rfl⟩, by rfl⟩, ⟨⟨rfl, ⟨[], by rfl⟩, by rfl⟩, ⟨⟨rfl, ⟨[], by rfl⟩, by rfl⟩, ⟨⟨rfl, ⟨[], by rfl⟩, by rfl⟩, ⟨⟨rfl, ⟨[], by rfl⟩, by rfl⟩, ⟨⟨rfl, ⟨[], by rfl⟩, by rfl⟩, ⟨⟨rfl, ⟨[], by rfl⟩, by rfl⟩, ⟨⟨rfl, ⟨[], by rfl⟩, by rfl⟩, ⟨⟨rfl, ⟨[], by rfl⟩, by rfl⟩, ⟨⟨rfl, ⟨[], by rfl⟩, by rfl⟩, ⟨⟨rfl, ⟨[], by rfl⟩, by rfl⟩, ⟨⟨rfl, ⟨[], by rfl⟩, by rfl⟩, ⟨⟨rfl, ⟨[], by rfl⟩, by rfl⟩, ⟨⟨rfl, ⟨[], by rfl⟩, by rfl⟩, ⟨⟨rfl, ⟨[], by rfl⟩, by rfl⟩, ⟨(show ZG ([(⟨(1 : Int), (0 : Int)⟩ : R_ii)] : List R_ii) = ZG ([(⟨(1 : Int), (0 : Int)⟩ : R_ii)] : List R_ii) from rfl), ⟨⟨rfl, ⟨[], by rfl⟩, by rfl⟩, trivial⟩⟩⟩⟩⟩⟩⟩⟩⟩⟩⟩⟩⟩⟩⟩⟩⟩⟩⟩⟩⟩⟩⟩⟩⟩

theorem Zq7  (N : Nat) : (Zg  N).Ok Tryz.prog ZE (.h1m13 : Zd) (Zz  N (.h1m13 : Zd)) := by
 show (Zg  N).Ok Tryz.prog ZE (.h1m13 : Zd) (ZgS  N)
 unfold ZgS
 exact Mach.ok_next (M := Zg  N) (cd := 1000000) (cm := 0) (y := (.h1m14 : Zd)) (fu := 4000) (orc := (Zl [] [] [] [] [])) (live := [0, 69, 2, 3, 4, 5, 6, 7, 8, 9, 10, 11, 12, 13, 14, 15, 16, 17, 18, 19, 20, 21, 22, 23, 24]) (tv := fun _ => [some (vp 0 0), some (vi 14)]) (bl := [some (.cells [vs 69 0 14 14, vn, vp 2 0, vs 3 0 1 1] 92), some (hcbg), some (hca), some (ZaV), some (hcp), some (ZaU), some (Zb1), some (hcc), some (hcu), some (hce), some (hck), some (hch), some (hch), some (hcb), some (hci), some (.cells [vT, vf, vq, vi 4, vi 5, vq, vs 17 0 1 1, vs 18 0 1 1, vn, vi 2, vi 1048577, vi 5, vq, vq, vq, vq, vq, vq, vq, Value.func (.func 194) #[vp 15 0] #[], Value.func (.func 195) #[vp 15 0] #[], Value.func (.func 195) #[vp 15 0] #[], vi 1, vq, vq, vq, vf, vq, vq, vq, vn, vq, Value.nilFunc, vq, vq, vq, vn, vq, vq, vq, vp 2 0, vq, Value.func (.func 242) #[vp 15 0] #[], vq, vT, vi 1, vp 19 0, vp 20 0, vp 21 0, vn, vi 2, vi 1048594, vq] 226), some (hcj), some (Zhk), some (Zaa), some (hct), some (ZoF), some (Zbn), some (Zab), some (.ro (ZG ([(⟨(1 : Int), (0 : Int)⟩ : R_ii)] : List R_ii)) true), some (Zno)]) (ob := []) rfl (show 1 ∈ ZJ (ZF 1) from by decide +kernel) (fun gv => by kernel_rfl) Zf rfl (by decide) (by rfl) (fun _ => ⟨rr, ⟨rr, trivial⟩⟩) ⟨⟨rfl, ⟨[], by rfl⟩, by rfl⟩, ⟨⟨rfl, ⟨[], by rfl⟩, by rfl⟩, ⟨⟨rfl, ⟨[], by rfl⟩, by rfl⟩, ⟨⟨rfl, ⟨[], by rfl⟩, by rfl⟩, ⟨⟨rfl, ⟨[], by rfl⟩, by rfl⟩, ⟨⟨rfl, ⟨[], by rfl⟩, by rfl⟩, ⟨⟨rfl, ⟨[], by rfl⟩, by rfl⟩, ⟨⟨rfl, ⟨[], by rfl⟩, by rfl⟩, ⟨⟨rfl, ⟨[], by rfl⟩, by rfl⟩, ⟨⟨rfl, ⟨[], by rfl⟩, by rfl⟩, ⟨⟨rfl, ⟨[], by rfl⟩, by rfl⟩, ⟨⟨rfl, ⟨[], by rfl⟩, by rfl⟩, ⟨⟨rfl, ⟨[], by rfl⟩, by rfl⟩, ⟨⟨rfl, ⟨[], by rfl⟩, by rfl⟩, ⟨⟨rfl, ⟨[], by rfl⟩, by rfl⟩, ⟨⟨rfl, ⟨[], by rfl⟩, by rfl⟩, ⟨⟨rfl, ⟨[], by rfl⟩, by rfl⟩, ⟨⟨rfl, ⟨[], by rfl⟩, by rfl⟩, ⟨⟨rfl, ⟨[], by rfl⟩, by rfl⟩, ⟨⟨rfl, ⟨[], by rfl⟩, by rfl⟩, ⟨⟨rfl, ⟨[], by rfl⟩, by rfl⟩, ⟨⟨rfl, ⟨[], by rfl⟩, by rfl⟩, ⟨⟨rfl, ⟨[], by rfl⟩, by rfl⟩, ⟨(show ZG ([(⟨(1 : Int), (0 : Int)⟩ : R_ii)] : List R_ii) = ZG ([(⟨(1 : Int), (0 : Int)⟩ : R_ii)] : List R_ii) from rfl), ⟨⟨rfl, ⟨[], by rfl⟩, by rfl⟩, trivial⟩⟩⟩⟩⟩⟩⟩⟩⟩⟩⟩⟩⟩⟩⟩⟩⟩⟩⟩⟩⟩⟩⟩⟩⟩

theorem Zq8  (N : Nat) : (Zg  N).Ok Tryz.prog ZE (.h1m14 : Zd) (Zz  N (.h1m14 : Zd)) := by
 show (Zg  N).Ok Tryz.prog ZE (.h1m14 : Zd) (ZgT  N)
 unfold ZgT
 exact Mach.ok_next (M := Zg  N) (cd := 1000000) (cm := 0) (y := (.h1m15 : Zd)) (fu := 4000) (orc := (Zl [] [] [] [] [])) (live := [0, 49, 2, 3, 4, 5, 6, 7, 8, 9, 10, 11, 12, 13, 14, 15, 16, 17, 18, 19, 20, 21, 22, 23, 24]) (tv := fun _ => [some (vp 0 0), some (vi 15)]) (bl := [some (.cells [vs 49 0 15 15, vn, vp 2 0, vs 3 0 1 1] 92), some (hcbf), some (hca), some (ZaV), some (hcp), some (ZaU), some (Zb1), some (hcc), some (hcu), some (hce), some (hck), some (hch), some (hch), some (hcb), some (hci), some (.cells [vT, vf, vq, vi 4, vi 5, vq, vs 17 0 1 1, vs 18 0 1 1, vn, vi 2, vi 1048577, vi 5, vq, vq, vq, vq, vq, vq, vq, Value.func (.func 194) #[vp 15 0] #[], Value.func (.func 195) #[vp 15 0] #[], Value.func (.func 195) #[vp 15 0] #[], vi 1, vq, vq, vq, vf, vq, vq, vq, vn, vq, Value.nilFunc, vq, vq, vq, vn, vq, vq, vq, vp 2 0, vq, Value.func (.func 195) #[vp 15 0] #[], vq, vT, vi 1, vp 19 0, vp 20 0, vp 21 0, vn, vi 2, vi 1048594, vq] 226), some (hcj), some (Zhk), some (Zaa), some (hct), some (ZoF), some (Zbn), some (Zab), some (.ro (ZG ([(⟨(1 : Int), (0 : Int)⟩ : R_ii)] : List R_ii)) true), some (Zno)]) (ob := []) rfl (show 1 ∈ ZJ (ZF 1) from by decide +kernel) (fun gv => by kernel_rfl) Zf rfl (by decide) (by rfl) (fun _ => ⟨rr, ⟨rr, trivial⟩⟩) ⟨⟨rfl, ⟨[], by rfl⟩, by rfl⟩, ⟨⟨rfl, ⟨[], by rfl⟩, by rfl⟩, ⟨⟨rfl, ⟨[], by rfl⟩, by rfl⟩, ⟨⟨rfl, ⟨[], by rfl⟩, by rfl⟩, ⟨⟨rfl, ⟨[], by rfl⟩, by rfl⟩, ⟨⟨rfl, ⟨[], by rfl⟩, by rfl⟩, ⟨⟨rfl, ⟨[], by rfl⟩, by rfl⟩, ⟨⟨rfl, ⟨[], by rfl⟩, by rfl⟩, ⟨⟨rfl, ⟨[], by rfl⟩, by rfl⟩, ⟨⟨rfl, ⟨[], by rfl⟩, by rfl⟩, ⟨⟨rfl, ⟨[], by rfl⟩, by rfl⟩, ⟨⟨rfl, ⟨[], by rfl⟩, by rfl⟩, ⟨⟨rfl, ⟨[], by rfl⟩, by rfl⟩, ⟨⟨rfl, ⟨[], by rfl⟩, by rfl⟩, ⟨⟨rfl, ⟨[], by rfl⟩, by rfl⟩, ⟨⟨rfl, ⟨[], by rfl⟩, by rfl⟩, ⟨⟨rfl, ⟨[], by rfl⟩, by rfl⟩, ⟨⟨rfl, ⟨[], by rfl⟩, by rfl⟩, ⟨⟨rfl, ⟨[], by rfl⟩, by rfl⟩, ⟨⟨rfl, ⟨[], by rfl⟩, by rfl⟩, ⟨⟨rfl, ⟨[], by rfl⟩, by rfl⟩, ⟨⟨rfl, ⟨[], by rfl⟩, by rfl⟩, ⟨⟨rfl, ⟨[], by rfl⟩, by rfl⟩, ⟨(show ZG ([(⟨(1 : Int), (0 : Int)⟩ : R_ii)] : List R_ii) = ZG ([(⟨(1 : Int), (0 : Int)⟩ : R_ii)] : List R_ii) from rfl), ⟨⟨rfl, ⟨[], by rfl⟩, by rfl⟩, trivial⟩⟩⟩⟩⟩⟩⟩⟩⟩⟩⟩⟩⟩⟩⟩⟩⟩⟩⟩⟩⟩⟩⟩⟩⟩

theorem Zq9  (N : Nat) : (Zg  N).Ok Tryz.prog ZE (.h1m15 : Zd) (Zz  N (.h1m15 : Zd)) := by
 show (Zg  N).Ok Tryz.prog ZE (.h1m15 : Zd) (ZgU  N)
 unfold ZgU
 exact Mach.ok_next (M := Zg  N) (cd := 1000000) (cm := 0) (y := (.h1m16 : Zd)) (fu := 4000) (orc := (Zl [] [] [] [] [])) (live := [0, 67, 2, 3, 4, 5, 6, 7, 8, 9, 10, 11, 12, 13, 14, 15, 16, 17, 18, 19, 20, 21, 22, 23, 24]) (tv := fun _ => [some (vp 0 0), some (vi 16)]) (bl := [some (.cells [vs 67 0 16 16, vn, vp 2 0, vs 3 0 1 1] 92), some (hcbd), some (hca), some (ZaV), some (hcp), some (ZaU), some (Zb1), some (hcc), some (hcu), some (hce), some (hck), some (hch), some (hch), some (hcb), some (hci), some (.cells [vT, vf, vq, vi 4, vi 5, vq, vs 17 0 1 1, vs 18 0 1 1, vn, vi 2, vi 1048577, vi 5, vq, vq, vq, vq, vq, vq, vq, Value.func (.func 194) #[vp 15 0] #[], Value.func (.func 195) #[vp 15 0] #[], Value.func (.func 195) #[vp 15 0] #[], vi 1, vq, vq, vq, vf, vi 2, vq, vq, vn, vq, Value.nilFunc, vq, vq, vq, vn, vq, vq, vq, vp 2 0, vq, Value.func (.func 245) #[vp 15 0] #[], vq, vT, vi 1, vp 19 0, vp 20 0, vp 21 0, vn, vi 2, vi 1048594, vq] 226), some (hcj), some (Zhk), some (Zaa), some (hct), some (ZoF), some (Zbn), some (Zab), some (.ro (ZG ([(⟨(1 : Int), (0 : Int)⟩ : R_ii)] : List R_ii)) true), some (Zno)]) (ob := []) rfl (show 1 ∈ ZJ (ZF 1) from by decide +kernel) (fun gv => by kernel_rfl) Zf rfl (by decide) (by rfl) (fun _ => ⟨rr, ⟨rr, trivial⟩⟩) ⟨⟨rfl, ⟨[], by rfl⟩, by rfl⟩, ⟨⟨rfl, ⟨[], by rfl⟩, by rfl⟩, ⟨⟨rfl, ⟨[], by rfl⟩, by rfl⟩, ⟨⟨rfl, ⟨[], by rfl⟩, by rfl⟩, ⟨⟨rfl, ⟨[], by rfl⟩, by rfl⟩, ⟨⟨rfl, ⟨[], by rfl⟩, by rfl⟩, ⟨⟨rfl, ⟨[], by rfl⟩, by rfl⟩, ⟨⟨rfl, ⟨[], by rfl⟩, by rfl⟩, ⟨⟨rfl, ⟨[], by rfl⟩, by rfl⟩, ⟨⟨rfl, ⟨[], by rfl⟩, by rfl⟩, ⟨⟨rfl, ⟨[], by rfl⟩, by rfl⟩, ⟨⟨rfl, ⟨[], by rfl⟩, by rfl⟩, ⟨⟨rfl, ⟨[], by rfl⟩, by rfl⟩, ⟨⟨rfl, ⟨[], by rfl⟩, by rfl⟩, ⟨⟨rfl, ⟨[], by rfl⟩, by rfl⟩, ⟨⟨rfl, ⟨[], by rfl⟩, by rfl⟩, ⟨⟨rfl, ⟨[], by rfl⟩, by rfl⟩, ⟨⟨rfl, ⟨[], by rfl⟩, by rfl⟩, ⟨⟨rfl, ⟨[], by rfl⟩, by rfl⟩, ⟨⟨rfl, ⟨[], by rfl⟩, by rfl⟩, ⟨⟨rfl, ⟨[], by rfl⟩, by rfl⟩, ⟨⟨rfl, ⟨[], by rfl⟩, by rfl⟩, ⟨⟨rfl, ⟨[], by rfl⟩, by rfl⟩, ⟨(show ZG ([(⟨(1 : Int), (0 : Int)⟩ : R_ii)] : List R_ii) = ZG ([(⟨(1 : Int), (0 : Int)⟩ : R_ii)] : List R_ii) from rfl), ⟨⟨rfl, ⟨[], by rfl⟩, by rfl⟩, trivial⟩⟩⟩⟩⟩⟩⟩⟩⟩⟩⟩⟩⟩⟩⟩⟩⟩⟩⟩⟩⟩⟩⟩⟩⟩

theorem ZqA  (N : Nat) : (Zg  N).Ok Tryz.prog ZE (.h1m16 : Zd) (Zz  N (.h1m16 : Zd)) := by
 show (Zg  N).Ok Tryz.prog ZE (.h1m16 : Zd) (ZgV  N)
 unfold ZgV
 exact Mach.ok_next (M := Zg  N) (cd := 1000000) (cm := 0) (y := (.h1m17 : Zd)) (fu := 4000) (orc := (Zl [] [] [] [] [])) (live := [0, 67, 2, 3, 4, 5, 6, 7, 8, 9, 10, 11, 12, 13, 14, 15, 16, 52, 18, 19, 20, 21, 22, 23, 24]) (tv := fun _ => [some (vp 0 0), some (vi 17)]) (bl := [some (.cells [vs 67 0 17 17, vn, vp 2 0, vs 3 0 1 1] 92), some (hcbc), some (hca), some (ZaV), some (hcp), some (ZaU), some (Zb1), some (hcc), some (hcbu), some (hce), some (hck), some (hch), some (hch), some (hcb), some (hci), some (.cells [vT, vf, vq, vi 4, vi 5, vq, vs 52 0 2 2, vs 18 0 1 1, vn, vi 2, vi 1048577, vi 5, vq, vq, vq, vq, vq, vq, vq, Value.func (.func 194) #[vp 15 0] #[], Value.func (.func 195) #[vp 15 0] #[], Value.func (.func 195) #[vp 15 0] #[], vi 1, vq, vq, vq, vf, vi 2, vq, vq, vn, vq, Value.nilFunc, vq, vq, vq, vn, vq, vq, vq, vp 2 0, vq, Value.nilFunc, vq, vT, vi 1, vp 19 0, vp 20 0, vp 21 0, vn, vi 2, vq, vq] 226), some (hcj), some (hcv), some (Zaa), some (hct), some (ZoF), some (Zbn), some (Zab), some (.ro (ZG ([(⟨(1 : Int), (0 : Int)⟩ : R_ii)] : List R_ii)) true), some (Zno)]) (ob := []) rfl (show 1 ∈ ZJ (ZF 1) from by decide +kernel) (fun gv => by kernel_rfl) Zf rfl (by decide) (by rfl) (fun _ => ⟨rr, ⟨rr, trivial⟩⟩) ⟨⟨rfl, ⟨[], by rfl⟩, by rfl⟩, ⟨⟨rfl, ⟨[], by rfl⟩, by rfl⟩, ⟨⟨rfl, ⟨[], by rfl⟩, by rfl⟩, ⟨⟨rfl, ⟨[], by rfl⟩, by rfl⟩, ⟨⟨rfl, ⟨[], by rfl⟩, by rfl⟩, ⟨⟨rfl, ⟨[], by rfl⟩, by rfl⟩, ⟨⟨rfl, ⟨[], by rfl⟩, by rfl⟩, ⟨⟨rfl, ⟨[], by rfl⟩, by rfl⟩, ⟨⟨rfl, ⟨[], by rfl⟩, by rfl⟩, ⟨⟨rfl, ⟨[], by rfl⟩, by rfl⟩, ⟨⟨rfl, ⟨[], by rfl⟩, by rfl⟩, ⟨⟨rfl, ⟨[], by rfl⟩, by rfl⟩, ⟨⟨rfl, ⟨[], by rfl⟩, by rfl⟩, ⟨⟨rfl, ⟨[], by rfl⟩, by rfl⟩, ⟨⟨rfl, ⟨[], by rfl⟩, by rfl⟩, ⟨⟨rfl, ⟨[], by rfl⟩, by rfl⟩, ⟨⟨rfl, ⟨[], by rfl⟩, by rfl⟩, ⟨⟨rfl, ⟨[], by rfl⟩, by rfl⟩, ⟨⟨rfl, ⟨[], by rfl⟩, by rfl⟩, ⟨⟨rfl, ⟨[], by rfl⟩, by rfl⟩, ⟨⟨rfl, ⟨[], by rfl⟩, by rfl⟩, ⟨⟨rfl, ⟨[], by rfl⟩, by rfl⟩, ⟨⟨rfl, ⟨[], by rfl⟩, by rfl⟩, ⟨(show ZG ([(⟨(1 : Int), (0 : Int)⟩ : R_ii)] : List R_ii) = ZG ([(⟨(1 : Int), (0 : Int)⟩ : R_ii)] : List R_ii) from rfl), ⟨⟨rfl, ⟨[], by rfl⟩, by rfl⟩, trivial⟩⟩⟩⟩⟩⟩⟩⟩⟩⟩⟩⟩⟩⟩⟩⟩⟩⟩⟩⟩⟩⟩⟩⟩⟩

theorem ZqB  (N : Nat) : (Zg  N).Ok Tryz.prog ZE (.h1m17 : Zd) (Zz  N (.h1m17 : Zd)) := by
 show (Zg  N).Ok Tryz.prog ZE (.h1m17 : Zd) (ZgW  N)
 unfold ZgW
 exact Mach.ok_next (M := Zg  N) (cd := 1000000) (cm := 0) (y := (.h1m18 : Zd)) (fu := 4000) (orc := (Zl [] [] [] [] [])) (live := [0, 103, 2, 3, 4, 5, 6, 7, 8, 9, 10, 11, 12, 13, 14, 15, 16, 17, 18, 19, 20, 21, 22, 23, 92]) (tv := fun _ => [some (vp 0 0), some (vi 18)]) (bl := [some (.cells [vs 103 0 18 18, vn, vp 2 0, vs 3 0 1 1] 92), some (hcba), some (hca), some (ZaV), some (hcp), some (ZaU), some (Zb1), some (hcc), some (hcq), some (hce), some (hck), some (hch), some (hch), some (hcb), some (hci), some (.cells [vT, vf, vq, vi 4, vi 5, vq, vs 17 0 2 2, vs 18 0 1 1, vn, vi 2, vi 1048594, vq, vi 2, vq, vq, vq, vq, vq, vq, Value.func (.func 197) #[vp 15 0] #[], Value.func (.func 197) #[vp 15 0] #[], Value.func (.func 192) #[vp 15 0] #[], vq, vq, vq, vq, vf, vq, vq, vq, vn, vq, Value.nilFunc, vq, vq, vq, vn, vq, vq, vq, vp 2 0, vq, Value.nilFunc, vq, vT, vi 1, vp 19 0, vp 20 0, vp 21 0, vn, vi 2, vq, vq] 226), some (hcj), some (hcv), some (Zaa), some (hct), some (.cells [vi 64, vs 92 0 3 3] 257), some (Zbn), some (Zab), some (.ro (ZG ([(⟨(1 : Int), (0 : Int)⟩ : R_ii)] : List R_ii)) true), some (Zwr)]) (ob := []) rfl (show 1 ∈ ZJ (ZF 1) from by decide +kernel) (fun gv => by kernel_rfl) Zf rfl (by decide) (by rfl) (fun _ => ⟨rr, ⟨rr, trivial⟩⟩) ⟨⟨rfl, ⟨[], by rfl⟩, by rfl⟩, ⟨⟨rfl, ⟨[], by rfl⟩, by rfl⟩, ⟨⟨rfl, ⟨[], by rfl⟩, by rfl⟩, ⟨⟨rfl, ⟨[], by rfl⟩, by rfl⟩, ⟨⟨rfl, ⟨[], by rfl⟩, by rfl⟩, ⟨⟨rfl, ⟨[], by rfl⟩, by rfl⟩, ⟨⟨rfl, ⟨[], by rfl⟩, by rfl⟩, ⟨⟨rfl, ⟨[], by rfl⟩, by rfl⟩, ⟨⟨rfl, ⟨[], by rfl⟩, by rfl⟩, ⟨⟨rfl, ⟨[], by rfl⟩, by rfl⟩, ⟨⟨rfl, ⟨[], by rfl⟩, by rfl⟩, ⟨⟨rfl, ⟨[], by rfl⟩, by rfl⟩, ⟨⟨rfl, ⟨[], by rfl⟩, by rfl⟩, ⟨⟨rfl, ⟨[], by rfl⟩, by rfl⟩, ⟨⟨rfl, ⟨[], by rfl⟩, by rfl⟩, ⟨⟨rfl, ⟨[], by rfl⟩, by rfl⟩, ⟨⟨rfl, ⟨[], by rfl⟩, by rfl⟩, ⟨⟨rfl, ⟨[], by rfl⟩, by rfl⟩, ⟨⟨rfl, ⟨[], by rfl⟩, by rfl⟩, ⟨⟨rfl, ⟨[], by rfl⟩, by rfl⟩, ⟨⟨rfl, ⟨[], by rfl⟩, by rfl⟩, ⟨⟨rfl, ⟨[], by rfl⟩, by rfl⟩, ⟨⟨rfl, ⟨[], by rfl⟩, by rfl⟩, ⟨(show ZG ([(⟨(1 : Int), (0 : Int)⟩ : R_ii)] : List R_ii) = ZG ([(⟨(1 : Int), (0 : Int)⟩ : R_ii)] : List R_ii) from rfl), ⟨⟨rfl, ⟨[], by rfl⟩, by rfl⟩, trivial⟩⟩⟩⟩⟩⟩⟩⟩⟩⟩⟩⟩⟩⟩⟩⟩⟩⟩⟩⟩⟩⟩⟩⟩⟩

theorem ZqC  (N : Nat) : (Zg  N).Ok Tryz.prog ZE (.h1m18 : Zd) (Zz  N (.h1m18 : Zd)) := by
 show (Zg  N).Ok Tryz.prog ZE (.h1m18 : Zd) (ZgX  N)
 unfold ZgX
 exact Mach.ok_next (M := Zg  N) (cd := 1000000) (cm := 0) (y := (.h1m19 : Zd)) (fu := 4000) (orc := (Zl [] [] [] [] [])) (live := [0, 128, 2, 3, 4, 5, 6, 7, 8, 9, 10, 11, 12, 13, 14, 15, 16, 17, 18, 116, 19, 20, 21, 22, 23, 24]) (tv := fun _ => [some (vp 0 0), some (vi 19)]) (bl := [some (.cells [vs 128 0 19 19, vn, vp 2 0, vs 3 0 1 1] 92), some (hcay), some (hca), some (ZaV), some (hcp), some (ZaU), some (Zb1), some (hcc), some (hcq), some (hce), some (hck), some (hch), some (hch), some (hcb), some (hci), some (.cells [vT, vf, vq, vi 4, vi 5, vq, vs 17 0 2 2, vs 18 0 1 1, vn, vi 2, vi 1048577, vi 5, vi 2, vi 1048594, vq, vq, vq, vq, vq, Value.func (.func 197) #[vp 15 0] #[], Value.func (.func 197) #[vp 15 0] #[], Value.func (.func 192) #[vp 15 0] #[], vi 1, vq, vq, vq, vf, vq, vq, vq, vs 116 0 1 1, vq, Value.nilFunc, vq, vq, vq, vn, vq, vq, vq, vp 2 0, vq, Value.func (.func 253) #[vp 15 0] #[], vq, vT, vi 1, vp 19 0, vp 20 0, vp 21 0, vn, vi 2, vq, vq] 226), some (hcj), some (hcv), some (Zaa), some (Zaa), some (hct), some (.cells [vi 64, vs 24 0 3 3] 257), some (Zbn), some (Zab), some (.ro (ZG ([(⟨(1 : Int), (0 : Int)⟩ : R_ii)] : List R_ii)) true), some (Zwr)]) (ob := []) rfl (show 1 ∈ ZJ (ZF 1) from by decide +kernel) (fun gv => by kernel_rfl) Zf rfl (by decide) (by rfl) (fun _ => ⟨rr, ⟨rr, trivial⟩⟩) ⟨⟨rfl, ⟨[], by rfl⟩, by rfl⟩, ⟨⟨rfl, ⟨[], by rfl⟩, by rfl⟩, ⟨⟨rfl, ⟨[], by rfl⟩, by rfl⟩, ⟨⟨rfl, ⟨[], by rfl⟩, by rfl⟩, ⟨⟨rfl, ⟨[], by rfl⟩, by rfl⟩, ⟨⟨rfl, ⟨[], by rfl⟩, by rfl⟩, ⟨⟨rfl, ⟨[], by rfl⟩, by rfl⟩, ⟨⟨rfl, ⟨[], by rfl⟩, by rfl⟩, ⟨⟨rfl, ⟨[], by rfl⟩, by rfl⟩, ⟨⟨rfl, ⟨[], by rfl⟩, by rfl⟩, ⟨⟨rfl, ⟨[], by rfl⟩, by rfl⟩, ⟨⟨rfl, ⟨[], by rfl⟩, by rfl⟩, ⟨⟨rfl, ⟨[], by rfl⟩, by rfl⟩, ⟨⟨rfl, ⟨[], by rfl⟩, by rfl⟩, ⟨⟨rfl, ⟨[], by rfl⟩, by rfl⟩, ⟨⟨rfl, ⟨[], by rfl⟩, by rfl⟩, ⟨⟨rfl, ⟨[], by rfl⟩, by rfl⟩, ⟨⟨rfl, ⟨[], by rfl⟩, by rfl⟩, ⟨⟨rfl, ⟨[], by rfl⟩, by rfl⟩, ⟨⟨rfl, ⟨[], by rfl⟩, by rfl⟩, ⟨⟨rfl, ⟨[], by rfl⟩, by rfl⟩, ⟨⟨rfl, ⟨[], by rfl⟩, by rfl⟩, ⟨⟨rfl, ⟨[], by rfl⟩, by rfl⟩, ⟨⟨rfl, ⟨[], by rfl⟩, by rfl⟩, ⟨(show ZG ([(⟨(1 : Int), (0 : Int)⟩ : R_ii)] : List R_ii) = ZG ([(⟨(1 : Int), (0 : Int)⟩ : R_ii)] : List R_ii) from rfl), ⟨⟨rfl, ⟨[], by rfl⟩, by rfl⟩, trivial⟩⟩⟩⟩⟩⟩⟩⟩⟩⟩⟩⟩⟩⟩⟩⟩⟩⟩⟩⟩⟩⟩⟩⟩⟩⟩

theorem ZqD  (N : Nat) : (Zg  N).Ok Tryz.prog ZE (.h1m19 : Zd) (Zz  N (.h1m19 : Zd)) := by
 show (Zg  N).Ok Tryz.prog ZE (.h1m19 : Zd) (ZgY  N)
 unfold ZgY
 exact Mach.ok_next (M := Zg  N) (cd := 1000000) (cm := 0) (y := (.h1m20 : Zd)) (fu := 4000) (orc := (Zl [] [] [] [] [])) (live := [0, 70, 2, 3, 4, 5, 6, 7, 8, 9, 10, 11, 12, 13, 14, 15, 16, 17, 18, 19, 20, 21, 22, 23, 24, 53]) (tv := fun _ => [some (vp 0 0), some (vi 20)]) (bl := [some (.cells [vs 70 0 20 20, vn, vp 2 0, vs 3 0 1 1] 92), some (hcax), some (hca), some (ZaV), some (hcp), some (ZaU), some (Zb1), some (hcc), some (hcq), some (hcd), some (hck), some (hch), some (hch), some (hcb), some (hci), some (.cells [vT, vf, vq, vi 4, vi 5, vq, vs 17 0 2 2, vs 18 0 1 1, vn, vi 2, vi 1048577, vi 5, vi 2, vi 1048594, vq, vq, vq, vq, vq, Value.func (.func 197) #[vp 15 0] #[], Value.func (.func 197) #[vp 15 0] #[], Value.func (.func 192) #[vp 15 0] #[], vi 1, vq, vq, vq, vf, vq, vq, vq, vs 19 2 0 0, vq, Value.nilFunc, vq, vq, vq, vn, vq, vq, vq, vp 2 0, vq, Value.func (.func 242) #[vp 15 0] #[], vq, vT, vi 1, vp 20 0, vp 21 0, vp 22 0, vn, vi 2, vq, vq] 226), some (hcj), some (hcv), some (Zaa), some (Zaa), some (Znn), some (.cells [vi 64, vs 53 0 4 4] 257), some (Zbn), some (Zab), some (.ro (ZG ([(⟨(1 : Int), (0 : Int)⟩ : R_ii)] : List R_ii)) true), some (Zt3)]) (ob := []) rfl (show 1 ∈ ZJ (ZF 1) from by decide +kernel) (fun gv => by kernel_rfl) Zf rfl (by decide) (by rfl) (fun _ => ⟨rr, ⟨rr, trivial⟩⟩) ⟨⟨rfl, ⟨[], by rfl⟩, by rfl⟩, ⟨⟨rfl, ⟨[], by rfl⟩, by rfl⟩, ⟨⟨rfl, ⟨[], by rfl⟩, by rfl⟩, ⟨⟨rfl, ⟨[], by rfl⟩, by rfl⟩, ⟨⟨rfl, ⟨[], by rfl⟩, by rfl⟩, ⟨⟨rfl, ⟨[], by rfl⟩, by rfl⟩, ⟨⟨rfl, ⟨[], by rfl⟩, by rfl⟩, ⟨⟨rfl, ⟨[], by rfl⟩, by rfl⟩, ⟨⟨rfl, ⟨[], by rfl⟩, by rfl⟩, ⟨⟨rfl, ⟨[], by rfl⟩, by rfl⟩, ⟨⟨rfl, ⟨[], by rfl⟩, by rfl⟩, ⟨⟨rfl, ⟨[], by rfl⟩, by rfl⟩, ⟨⟨rfl, ⟨[], by rfl⟩, by rfl⟩, ⟨⟨rfl, ⟨[], by rfl⟩, by rfl⟩, ⟨⟨rfl, ⟨[], by rfl⟩, by rfl⟩, ⟨⟨rfl, ⟨[], by rfl⟩, by rfl⟩, ⟨⟨rfl, ⟨[], by rfl⟩, by rfl⟩, ⟨⟨rfl, ⟨[], by rfl⟩, by rfl⟩, ⟨⟨rfl, ⟨[], by rfl⟩, by rfl⟩, ⟨⟨rfl, ⟨[], by rfl⟩, by rfl⟩, ⟨⟨rfl, ⟨[], by rfl⟩, by rfl⟩, ⟨⟨rfl, ⟨[], by rfl⟩, by rfl⟩, ⟨⟨rfl, ⟨[], by rfl⟩, by rfl⟩, ⟨⟨rfl, ⟨[], by rfl⟩, by rfl⟩, ⟨(show ZG ([(⟨(1 : Int), (0 : Int)⟩ : R_ii)] : List R_ii) = ZG ([(⟨(1 : Int), (0 : Int)⟩ : R_ii)] : List R_ii) from rfl), ⟨⟨rfl, ⟨[], by rfl⟩, by rfl⟩, trivial⟩⟩⟩⟩⟩⟩⟩⟩⟩⟩⟩⟩⟩⟩⟩⟩⟩⟩⟩⟩⟩⟩⟩⟩⟩⟩

theorem ZqE  (N : Nat) : (Zg  N).Ok Tryz.prog ZE (.h1m20 : Zd) (Zz  N (.h1m20 : Zd)) := by
 show (Zg  N).Ok Tryz.prog ZE (.h1m20 : Zd) (ZgZ  N)
 unfold ZgZ
 exact Mach.ok_next (M := Zg  N) (cd := 1000000) (cm := 0) (y := (.h1m21 : Zd)) (fu := 4000) (orc := (Zl [] [] [] [] [])) (live := [0, 50, 2, 3, 4, 5, 6, 7, 8, 9, 10, 11, 12, 13, 14, 15, 16, 17, 18, 19, 20, 21, 22, 23, 24, 25]) (tv := fun _ => [some (vp 0 0), some (vi 21)]) (bl := [some (.cells [vs 50 0 21 21, vn, vp 2 0, vs 3 0 1 1] 92), some (hcat), some (hca), some (ZaV), some (hcp), some (ZaU), some (Zb1), some (hcc), some (hcq), some (hcd), some (hck), some (hch), some (hch), some (hcb), some (hci), some (.cells [vT, vf, vq, vi 4, vi 5, vq, vs 17 0 2 2, vs 18 0 1 1, vn, vi 2, vi 1048577, vi 5, vi 2, vi 1048594, vq, vq, vq, vq, vq, Value.func (.func 197) #[vp 15 0] #[], Value.func (.func 197) #[vp 15 0] #[], Value.func (.func 192) #[vp 15 0] #[], vi 1, vq, vq, vq, vf, vq, vq, vq, vs 19 2 0 0, vq, Value.nilFunc, vq, vq, vq, vn, vq, vq, vq, vp 2 0, vq, Value.func (.func 192) #[vp 15 0] #[], vq, vT, vi 1, vp 20 0, vp 21 0, vp 22 0, vn, vi 2, vq, vq] 226), some (hcj), some (hcv), some (Zaa), some (Zaa), some (Znn), some (ZuX), some (Zbn), some (Zab), some (.ro (ZG ([(⟨(1 : Int), (0 : Int)⟩ : R_ii)] : List R_ii)) true), some (Zt3)]) (ob := []) rfl (show 1 ∈ ZJ (ZF 1) from by decide +kernel) (fun gv => by kernel_rfl) Zf rfl (by decide) (by rfl) (fun _ => ⟨rr, ⟨rr, trivial⟩⟩) ⟨⟨rfl, ⟨[], by rfl⟩, by rfl⟩, ⟨⟨rfl, ⟨[], by rfl⟩, by rfl⟩, ⟨⟨rfl, ⟨[], by rfl⟩, by rfl⟩, ⟨⟨rfl, ⟨[], by rfl⟩, by rfl⟩, ⟨⟨rfl, ⟨[], by rfl⟩, by rfl⟩, ⟨⟨rfl, ⟨[], by rfl⟩, by rfl⟩, ⟨⟨rfl, ⟨[], by rfl⟩, by rfl⟩, ⟨⟨rfl, ⟨[], by rfl⟩, by rfl⟩, ⟨⟨rfl, ⟨[], by rfl⟩, by rfl⟩, ⟨⟨rfl, ⟨[], by rfl⟩, by rfl⟩, ⟨⟨rfl, ⟨[], by rfl⟩, by rfl⟩, ⟨⟨rfl, ⟨[], by rfl⟩, by rfl⟩, ⟨⟨rfl, ⟨[], by rfl⟩, by rfl⟩, ⟨⟨rfl, ⟨[], by rfl⟩, by rfl⟩, ⟨⟨rfl, ⟨[], by rfl⟩, by rfl⟩, ⟨⟨rfl, ⟨[], by rfl⟩, by rfl⟩, ⟨⟨rfl, ⟨[], by rfl⟩, by rfl⟩, ⟨⟨rfl, ⟨[], by rfl⟩, by rfl⟩, ⟨⟨rfl, ⟨[], by rfl⟩, by rfl⟩, ⟨⟨rfl, ⟨[], by rfl⟩, by rfl⟩, ⟨⟨rfl, ⟨[], by rfl⟩, by rfl⟩, ⟨⟨rfl, ⟨[], by rfl⟩, by rfl⟩, ⟨⟨rfl, ⟨[], by rfl⟩, by rfl⟩, ⟨⟨rfl, ⟨[], by rfl⟩, by rfl⟩, ⟨(show ZG ([(⟨(1 : Int), (0 : Int)⟩ : R_ii)] : List R_ii) = ZG ([(⟨(1 : Int), (0 : Int)⟩ : R_ii)] : List R_ii) from rfl), ⟨⟨rfl, ⟨[], by rfl⟩, by rfl⟩, trivial⟩⟩⟩⟩⟩⟩⟩⟩⟩⟩⟩⟩⟩⟩⟩⟩⟩⟩⟩⟩⟩⟩⟩⟩⟩⟩

theorem ZqF  (N : Nat) : (Zg  N).Ok Tryz.prog ZE (.h1m21 : Zd) (Zz  N (.h1m21 : Zd)) := by
 show (Zg  N).Ok Tryz.prog ZE (.h1m21 : Zd) (Zha  N)
 unfold Zha
 exact Mach.ok_next (M := Zg  N) (cd := 1000000) (cm := 0) (y := (.h1m22 : Zd)) (fu := 4000) (orc := (Zl [(65, true)] [] [] [] [])) (live := [0, 54, 2, 3, 4, 5, 6, 7, 8, 9, 10, 11, 12, 13, 14, 15, 16, 17, 18, 19, 20, 21, 22, 23, 24, 25, 42]) (tv := fun _ => [some (vp 0 0), some (vi 22)]) (bl := [some (.cells [vs 54 0 22 22, vn, vp 2 0, vs 3 0 1 1] 92), some (hcas), some (hca), some (ZaV), some (hcp), some (ZaU), some (Zb1), some (hcc), some (hcq), some (hcd), some (hck), some (ZdO), some (ZdO), some (hcb), some (hci), some (.cells [vT, vf, vq, vi 4, vi 5, vq, vs 17 0 2 2, vs 18 0 1 1, vn, vi 2, vi 1048577, vi 5, vi 2, vi 1048594, vq, vq, vq, vq, vq, Value.func (.func 197) #[vp 15 0] #[], Value.func (.func 197) #[vp 15 0] #[], Value.func (.func 192) #[vp 15 0] #[], vi 1, vq, vq, vq, vf, vq, vq, vq, vs 19 2 0 0, vq, Value.nilFunc, vq, vq, vq, vn, vq, vq, vq, vp 2 0, vq, Value.func (.func 197) #[vp 15 0] #[], vq, vT, vi 1, vp 20 0, vp 21 0, vp 22 0, vn, vi 2, vq, vq] 226), some (hcj), some (hcv), some (Zaa), some (Zaa), some (Znn), some (ZuX), some (.cells [vT, vs 42 0 1 1] 261), some (Zab), some (.ro (ZG ([(⟨(1 : Int), (0 : Int)⟩ : R_ii)] : List R_ii)) true), some (Zt3), some (Zab)]) (ob := [(((0 : Int) == (0 : Int)), true)]) rfl (show 1 ∈ ZJ (ZF 1) from by decide +kernel) (fun gv => by kernel_rfl) (oT Zf) rfl (by decide) (by rfl) (fun _ => ⟨rr, ⟨rr, trivial⟩⟩) ⟨⟨rfl, ⟨[], by rfl⟩, by rfl⟩, ⟨⟨rfl, ⟨[], by rfl⟩, by rfl⟩, ⟨⟨rfl, ⟨[], by rfl⟩, by rfl⟩, ⟨⟨rfl, ⟨[], by rfl⟩, by rfl⟩, ⟨⟨rfl, ⟨[], by rfl⟩, by rfl⟩, ⟨⟨rfl, ⟨[], by rfl⟩, by rfl⟩, ⟨⟨rfl, ⟨[], by rfl⟩, by rfl⟩, ⟨⟨rfl, ⟨[], by rfl⟩, by rfl⟩, ⟨⟨rfl, ⟨[], by rfl⟩, by rfl⟩, ⟨⟨rfl, ⟨[], by rfl⟩, by rfl⟩, ⟨⟨rfl, ⟨[], by rfl⟩, by rfl⟩, ⟨⟨rfl, ⟨[], by rfl⟩, by rfl⟩, ⟨⟨rfl, ⟨[], by rfl⟩, by rfl⟩, ⟨⟨rfl, ⟨[], by rfl⟩, by rfl⟩, ⟨⟨rfl, ⟨[], by rfl⟩, by rfl⟩, ⟨⟨rfl, ⟨[], by rfl⟩, by rfl⟩, ⟨⟨rfl, ⟨[], by rfl⟩, by rfl⟩, ⟨⟨rfl, ⟨[], by rfl⟩, by rfl⟩, ⟨⟨rfl, ⟨[], by rfl⟩, by rfl⟩, ⟨⟨rfl, ⟨[], by rfl⟩, by rfl⟩, ⟨⟨rfl, ⟨[], by rfl⟩, by rfl⟩, ⟨⟨rfl, ⟨[], by rfl⟩, by rfl⟩, ⟨⟨rfl, ⟨[], by rfl⟩, by rfl⟩, ⟨⟨rfl, ⟨[], by rfl⟩, by rfl⟩, ⟨(show ZG ([(⟨(1 : Int), (0 : Int)⟩ : R_ii)] : List R_ii) = ZG ([(⟨(1 : Int), (0 : Int)⟩ : R_ii)] : List R_ii) from rfl), ⟨⟨rfl, ⟨[], by rfl⟩, by rfl⟩, ⟨⟨rfl, ⟨[], by rfl⟩, by rfl⟩, trivial⟩⟩⟩⟩⟩⟩⟩⟩⟩⟩⟩⟩⟩⟩⟩⟩⟩⟩⟩⟩⟩⟩⟩⟩⟩⟩⟩

theorem ZqG  (N : Nat) : (Zg  N).Ok Tryz.prog ZE (.h1m22 : Zd) (Zz  N (.h1m22 : Zd)) := by
 show (Zg  N).Ok Tryz.prog ZE (.h1m22 : Zd) (Zhb  N)
 unfold Zhb
 exact Mach.ok_next (M := Zg  N) (cd := 1000000) (cm := 0) (y := (.h1m23 : Zd)) (fu := 4000) (orc := (Zl [] [] [] [] [])) (live := [0, 85, 2, 3, 4, 5, 6, 7, 8, 9, 10, 11, 12, 13, 14, 15, 16, 17, 18, 19, 20, 21, 22, 23, 24, 74, 26]) (tv := fun _ => [some (vp 0 0), some (vi 23)]) (bl := [some (.cells [vs 85 0 23 23, vn, vp 2 0, vs 3 0 1 1] 92), some (hcao), some (hca), some (ZaV), some (hcp), some (ZaU), some (Zb1), some (hcc), some (ZuW), some (hcd), some (hcn), some (ZdO), some (ZdO), some (hcb), some (hci), some (.cells [vT, vf, vq, vi 4, vi 5, vq, vs 17 0 2 2, vs 18 0 1 1, vn, vi 2, vi 1048577, vi 5, vi 2, vi 1048594, vq, vq, vq, vq, vq, Value.func (.func 197) #[vp 15 0] #[], Value.func (.func 197) #[vp 15 0] #[], Value.func (.func 192) #[vp 15 0] #[], vi 1, vq, vq, vq, vf, vq, vq, vq, vs 19 2 0 0, vq, Value.nilFunc, vq, vq, vq, vn, vq, vq, vq, vp 2 0, vq, Value.nilFunc, vq, vT, vi 1, vp 20 0, vp 21 0, vp 22 0, vn, vi 2, vq, vq] 226), some (hcj), some (hcv), some (Zaa), some (Zaa), some (Znn), some (.cells [vi 64, vs 74 0 5 5] 257), some (Zwt), some (Zab), some (.ro (ZG ([(⟨(1 : Int), (0 : Int)⟩ : R_ii)] : List R_ii)) true), some (hco), some (Zab)]) (ob := []) rfl (show 1 ∈ ZJ (ZF 1) from by decide +kernel) (fun gv => by kernel_rfl) Zf rfl (by decide) (by rfl) (fun _ => ⟨rr, ⟨rr, trivial⟩⟩) ⟨⟨rfl, ⟨[], by rfl⟩, by rfl⟩, ⟨⟨rfl, ⟨[], by rfl⟩, by rfl⟩, ⟨⟨rfl, ⟨[], by rfl⟩, by rfl⟩, ⟨⟨rfl, ⟨[], by rfl⟩, by rfl⟩, ⟨⟨rfl, ⟨[], by rfl⟩, by rfl⟩, ⟨⟨rfl, ⟨[], by rfl⟩, by rfl⟩, ⟨⟨rfl, ⟨[], by rfl⟩, by rfl⟩, ⟨⟨rfl, ⟨[], by rfl⟩, by rfl⟩, ⟨⟨rfl, ⟨[], by rfl⟩, by rfl⟩, ⟨⟨rfl, ⟨[], by rfl⟩, by rfl⟩, ⟨⟨rfl, ⟨[], by rfl⟩, by rfl⟩, ⟨⟨rfl, ⟨[], by rfl⟩, by rfl⟩, ⟨⟨rfl, ⟨[], by rfl⟩, by rfl⟩, ⟨⟨rfl, ⟨[], by rfl⟩, by rfl⟩, ⟨⟨rfl, ⟨[], by rfl⟩, by rfl⟩, ⟨⟨rfl, ⟨[], by rfl⟩, by rfl⟩, ⟨⟨rfl, ⟨[], by rfl⟩, by rfl⟩, ⟨⟨rfl, ⟨[], by rfl⟩, by rfl⟩, ⟨⟨rfl, ⟨[], by rfl⟩, by rfl⟩, ⟨⟨rfl, ⟨[], by rfl⟩, by rfl⟩, ⟨⟨rfl, ⟨[], by rfl⟩, by rfl⟩, ⟨⟨rfl, ⟨[], by rfl⟩, by rfl⟩, ⟨⟨rfl, ⟨[], by rfl⟩, by rfl⟩, ⟨⟨rfl, ⟨[], by rfl⟩, by rfl⟩, ⟨(show ZG ([(⟨(1 : Int), (0 : Int)⟩ : R_ii)] : List R_ii) = ZG ([(⟨(1 : Int), (0 : Int)⟩ : R_ii)] : List R_ii) from rfl), ⟨⟨rfl, ⟨[], by rfl⟩, by rfl⟩, ⟨⟨rfl, ⟨[], by rfl⟩, by rfl⟩, trivial⟩⟩⟩⟩⟩⟩⟩⟩⟩⟩⟩⟩⟩⟩⟩⟩⟩⟩⟩⟩⟩⟩⟩⟩⟩⟩⟩

theorem ZqH  (N : Nat) : (Zg  N).Ok Tryz.prog ZE (.h1m23 : Zd) (Zz  N (.h1m23 : Zd)) := by
 show (Zg  N).Ok Tryz.prog ZE (.h1m23 : Zd) (Zhc  N)
 unfold Zhc
 exact Mach.ok_next (M := Zg  N) (cd := 1000000) (cm := 0) (y := (.h1m24 : Zd)) (fu := 4000) (orc := (Zl [] [] [] [] [])) (live := [0, 49, 2, 3, 4, 5, 6, 7, 8, 9, 10, 11, 12, 13, 14, 15, 16, 17, 18, 20, 21, 22, 23, 24, 25, 26]) (tv := fun _ => [some (vp 0 0), some (vi 24)]) (bl := [some (.cells [vs 49 0 24 24, vn, vp 2 0, vs 3 0 1 1] 92), some (hcam), some (hcr), some (ZaV), some (hcp), some (ZaU), some (Ziz), some (hcc), some (ZuW), some (hcd), some (hcn), some (ZdO), some (ZdO), some (hcb), some (hci), some (.cells [vT, vf, vq, vi 4, vi 5, vi 24, vs 17 0 2 2, vs 18 0 1 1, vn, vq, vq, vq, vq, vq, vq, vq, vq, vq, vq, Value.nilFunc, Value.nilFunc, Value.nilFunc, vq, vq, vq, vq, vf, vq, vq, vq, vn, vq, Value.func (.func 228) #[vp 15 0] #[], vq, vq, vi 1, vn, vq, vq, vq, vp 2 0, vq, Value.func (.func 229) #[vp 15 0] #[], vq, vT, vi 1, vp 20 0, vp 21 0, vp 22 0, vn, vi 2, vq, vq] 226), some (hcj), some (hcv), some (Zaa), some (Znn), some (.cells [vi 64, vs 25 0 5 5] 257), some (Zwt), some (Zab), some (.ro (ZG ([(⟨(1 : Int), (0 : Int)⟩ : R_ii)] : List R_ii)) true), some (hco), some (Zab)]) (ob := []) rfl (show 1 ∈ ZJ (ZF 1) from by decide +kernel) (fun gv => by kernel_rfl) Zf rfl (by decide) (by rfl) (fun _ => ⟨rr, ⟨rr, trivial⟩⟩) ⟨⟨rfl, ⟨[], by rfl⟩, by rfl⟩, ⟨⟨rfl, ⟨[], by rfl⟩, by rfl⟩, ⟨⟨rfl, ⟨[], by rfl⟩, by rfl⟩, ⟨⟨rfl, ⟨[], by rfl⟩, by rfl⟩, ⟨⟨rfl, ⟨[], by rfl⟩, by rfl⟩, ⟨⟨rfl, ⟨[], by rfl⟩, by rfl⟩, ⟨⟨rfl, ⟨[], by rfl⟩, by rfl⟩, ⟨⟨rfl, ⟨[], by rfl⟩, by rfl⟩, ⟨⟨rfl, ⟨[], by rfl⟩, by rfl⟩, ⟨⟨rfl, ⟨[], by rfl⟩, by rfl⟩, ⟨⟨rfl, ⟨[], by rfl⟩, by rfl⟩, ⟨⟨rfl, ⟨[], by rfl⟩, by rfl⟩, ⟨⟨rfl, ⟨[], by rfl⟩, by rfl⟩, ⟨⟨rfl, ⟨[], by rfl⟩, by rfl⟩, ⟨⟨rfl, ⟨[], by rfl⟩, by rfl⟩, ⟨⟨rfl, ⟨[], by rfl⟩, by rfl⟩, ⟨⟨rfl, ⟨[], by rfl⟩, by rfl⟩, ⟨⟨rfl, ⟨[], by rfl⟩, by rfl⟩, ⟨⟨rfl, ⟨[], by rfl⟩, by rfl⟩, ⟨⟨rfl, ⟨[], by rfl⟩, by rfl⟩, ⟨⟨rfl, ⟨[], by rfl⟩, by rfl⟩, ⟨⟨rfl, ⟨[], by rfl⟩, by rfl⟩, ⟨⟨rfl, ⟨[], by rfl⟩, by rfl⟩, ⟨(show ZG ([(⟨(1 : Int), (0 : Int)⟩ : R_ii)] : List R_ii) = ZG ([(⟨(1 : Int), (0 : Int)⟩ : R_ii)] : List R_ii) from rfl), ⟨⟨rfl, ⟨[], by rfl⟩, by rfl⟩, ⟨⟨rfl, ⟨[], by rfl⟩, by rfl⟩, trivial⟩⟩⟩⟩⟩⟩⟩⟩⟩⟩⟩⟩⟩⟩⟩⟩⟩⟩⟩⟩⟩⟩⟩⟩⟩⟩

theorem ZqI  (N : Nat) : (Zg  N).Ok Tryz.prog ZE (.h1m24 : Zd) (Zz  N (.h1m24 : Zd)) := by
 show (Zg  N).Ok Tryz.prog ZE (.h1m24 : Zd) (Zhd  N)
 unfold Zhd
 exact Mach.ok_next (M := Zg  N) (cd := 1000000) (cm := 0) (y := (.h1m25 : Zd)) (fu := 4000) (orc := (Zl [] [] [] [] [])) (live := [0, 60, 63, 2, 3, 51, 4, 5, 6, 7, 8, 9, 10, 11, 12, 13, 14, 15, 16, 17, 18, 19, 20, 21, 22, 23, 24, 25]) (tv := fun _ => [some (vp 0 0), some (vi 25)]) (bl := [some (.cells [vs 60 0 25 25, vs 63 0 1 1, vp 2 0, vs 3 0 1 1] 92), some (Zt2), some (.cells [vi 2, vq, vi 3, vi 4, vi 24, vi 25, vs 51 0 1 1, vq] 100), some (hcr), some (ZaV), some (Zaa), some (hcp), some (ZaU), some (Ziz), some (hcc), some (ZuW), some (hcd), some (hcn), some (ZdO), some (ZdO), some (hcb), some (hci), some (.cells [vT, vT, vq, vi 4, vi 5, vi 24, vs 17 0 2 2, vs 18 0 1 1, vn, vq, vq, vq, vq, vq, vq, vq, vq, vq, vq, Value.nilFunc, Value.nilFunc, Value.nilFunc, vq, vq, vq, vq, vf, vq, vq, vq, vn, vi 1, Value.func (.func 228) #[vp 15 0] #[], vq, vq, vi 1, vn, vq, vq, vq, vp 2 0, vq, Value.func (.func 280) #[vp 15 0] #[], vq, vT, vi 1, vp 19 0, vp 20 0, vp 21 0, vn, vi 2, vq, vq] 226), some (hcj), some (hcv), some (Zaa), some (hct), some (.cells [vi 64, vs 24 0 5 5] 257), some (.cells [vT, vs 25 0 1 1] 261), some (Zab), some (.ro (ZG ([(⟨(1 : Int), (0 : Int)⟩ : R_ii)] : List R_ii)) true), some (hco), some (Zab)]) (ob := []) rfl (show 1 ∈ ZJ (ZF 1) from by decide +kernel) (fun gv => by kernel_rfl) Zf rfl (by decide) (by rfl) (fun _ => ⟨rr, ⟨rr, trivial⟩⟩) ⟨⟨rfl, ⟨[], by rfl⟩, by rfl⟩, ⟨⟨rfl, ⟨[], by rfl⟩, by rfl⟩, ⟨⟨rfl, ⟨[], by rfl⟩, by rfl⟩, ⟨⟨rfl, ⟨[], by rfl⟩, by rfl⟩, ⟨⟨rfl, ⟨[], by rfl⟩, by rfl⟩, ⟨⟨rfl, ⟨[], by rfl⟩, by rfl⟩, ⟨⟨rfl, ⟨[], by rfl⟩, by rfl⟩, ⟨⟨rfl, ⟨[], by rfl⟩, by rfl⟩, ⟨⟨rfl, ⟨[], by rfl⟩, by rfl⟩, ⟨⟨rfl, ⟨[], by rfl⟩, by rfl⟩, ⟨⟨rfl, ⟨[], by rfl⟩, by rfl⟩, ⟨⟨rfl, ⟨[], by rfl⟩, by rfl⟩, ⟨⟨rfl, ⟨[], by rfl⟩, by rfl⟩, ⟨⟨rfl, ⟨[], by rfl⟩, by rfl⟩, ⟨⟨rfl, ⟨[], by rfl⟩, by rfl⟩, ⟨⟨rfl, ⟨[], by rfl⟩, by rfl⟩, ⟨⟨rfl, ⟨[], by rfl⟩, by rfl⟩, ⟨⟨rfl, ⟨[], by rfl⟩, by rfl⟩, ⟨⟨rfl, ⟨[], by rfl⟩, by rfl⟩, ⟨⟨rfl, ⟨[], by rfl⟩, by rfl⟩, ⟨⟨rfl, ⟨[], by rfl⟩, by rfl⟩, ⟨⟨rfl, ⟨[], by rfl⟩, by rfl⟩, ⟨⟨rfl, ⟨[], by rfl⟩, by rfl⟩, ⟨⟨rfl, ⟨[], by rfl⟩, by rfl⟩, ⟨⟨rfl, ⟨[], by rfl⟩, by rfl⟩, ⟨(show ZG ([(⟨(1 : Int), (0 : Int)⟩ : R_ii)] : List R_ii) = ZG ([(⟨(1 : Int), (0 : Int)⟩ : R_ii)] : List R_ii) from rfl), ⟨⟨rfl, ⟨[], by rfl⟩, by rfl⟩, ⟨⟨rfl, ⟨[], by rfl⟩, by rfl⟩, trivial⟩⟩⟩⟩⟩⟩⟩⟩⟩⟩⟩⟩⟩⟩⟩⟩⟩⟩⟩⟩⟩⟩⟩⟩⟩⟩⟩⟩

theorem ZqJ  (N : Nat) : (Zg  N).Ok Tryz.prog ZE (.h1m25 : Zd) (Zz  N (.h1m25 : Zd)) := by
 show (Zg  N).Ok Tryz.prog ZE (.h1m25 : Zd) (Zhe  N)
 unfold Zhe
 exact Mach.ok_next (M := Zg  N) (cd := 1000000) (cm := 0) (y := (.h1m26 : Zd)) (fu := 4000) (orc := (Zl [] [] [] [] [])) (live := [0, 59, 2, 3, 4, 5, 6, 7, 8, 9, 10, 11, 12, 13, 14, 15, 16, 17, 18, 19, 20, 21, 22, 23, 24, 25, 26, 27]) (tv := fun _ => [some (vp 0 0), some (vi 26)]) (bl := [some (.cells [vs 59 0 26 26, vs 2 0 1 1, vp 3 0, vs 4 0 1 1] 92), some (hcak), some (Zli), some (hcs), some (Zlk), some (Zaa), some (Zlh), some (Zlj), some (Ziz), some (hcc), some (Zsk), some (hcd), some (hcn), some (Znp), some (ZdO), some (hcb), some (hci), some (.cells [vT, vT, vq, vi 4, vi 5, vi 24, vs 19 0 2 2, vs 20 0 1 1, vn, vq, vq, vq, vq, vq, vq, vq, vq, vq, vq, Value.nilFunc, Value.nilFunc, Value.nilFunc, vq, vq, vq, vq, vf, vq, vq, vq, vn, vi 1, Value.func (.func 228) #[vp 17 0] #[], vq, vq, vi 1, vn, vq, vq, vq, vp 3 0, vq, Value.func (.func 325) #[vp 17 0] #[], vq, vT, vi 1, vp 21 0, vp 22 0, vp 23 0, vn, vi 2, vq, vq] 226), some (Zjj), some (hcv), some (Zaa), some (ZoE), some (ZoG), some (Zq2), some (Zab), some (.ro (ZG ([(⟨(1 : Int), (0 : Int)⟩ : R_ii)] : List R_ii)) true), some (hco), some (Zab)]) (ob := []) rfl (show 1 ∈ ZJ (ZF 1) from by decide +kernel) (fun gv => by kernel_rfl) Zf rfl (by decide) (by rfl) (fun _ => ⟨rr, ⟨rr, trivial⟩⟩) ⟨⟨rfl, ⟨[], by rfl⟩, by rfl⟩, ⟨⟨rfl, ⟨[], by rfl⟩, by rfl⟩, ⟨⟨rfl, ⟨[], by rfl⟩, by rfl⟩, ⟨⟨rfl, ⟨[], by rfl⟩, by rfl⟩, ⟨⟨rfl, ⟨[], by rfl⟩, by rfl⟩, ⟨⟨rfl, ⟨[], by rfl⟩, by rfl⟩, ⟨⟨rfl, ⟨[], by rfl⟩, by rfl⟩, ⟨⟨rfl, ⟨[], by rfl⟩, by rfl⟩, ⟨⟨rfl, ⟨[], by rfl⟩, by rfl⟩, ⟨⟨rfl, ⟨[], by rfl⟩, by rfl⟩, ⟨⟨rfl, ⟨[], by rfl⟩, by rfl⟩, ⟨⟨rfl, ⟨[], by rfl⟩, by rfl⟩, ⟨⟨rfl, ⟨[], by rfl⟩, by rfl⟩, ⟨⟨rfl, ⟨[], by rfl⟩, by rfl⟩, ⟨⟨rfl, ⟨[], by rfl⟩, by rfl⟩, ⟨⟨rfl, ⟨[], by rfl⟩, by rfl⟩, ⟨⟨rfl, ⟨[], by rfl⟩, by rfl⟩, ⟨⟨rfl, ⟨[], by rfl⟩, by rfl⟩, ⟨⟨rfl, ⟨[], by rfl⟩, by rfl⟩, ⟨⟨rfl, ⟨[], by rfl⟩, by rfl⟩, ⟨⟨rfl, ⟨[], by rfl⟩, by rfl⟩, ⟨⟨rfl, ⟨[], by rfl⟩, by rfl⟩, ⟨⟨rfl, ⟨[], by rfl⟩, by rfl⟩, ⟨⟨rfl, ⟨[], by rfl⟩, by rfl⟩, ⟨⟨rfl, ⟨[], by rfl⟩, by rfl⟩, ⟨(show ZG ([(⟨(1 : Int), (0 : Int)⟩ : R_ii)] : List R_ii) = ZG ([(⟨(1 : Int), (0 : Int)⟩ : R_ii)] : List R_ii) from rfl), ⟨⟨rfl, ⟨[], by rfl⟩, by rfl⟩, ⟨⟨rfl, ⟨[], by rfl⟩, by rfl⟩, trivial⟩⟩⟩⟩⟩⟩⟩⟩⟩⟩⟩⟩⟩⟩⟩⟩⟩⟩⟩⟩⟩⟩⟩⟩⟩⟩⟩⟩

theorem ZqK  (N : Nat) : (Zg  N).Ok Tryz.prog ZE (.h1m26 : Zd) (Zz  N (.h1m26 : Zd)) := by
 show (Zg  N).Ok Tryz.prog ZE (.h1m26 : Zd) (Zhf  N)
 unfold Zhf
 exact Mach.ok_next (M := Zg  N) (cd := 1000000) (cm := 0) (y := (.h1m27 : Zd)) (fu := 4000) (orc := (Zl [] [] [] [] [])) (live := [0, 47, 2, 3, 4, 5, 6, 7, 8, 9, 10, 11, 12, 13, 14, 15, 16, 17, 18, 19, 20, 21, 22, 23, 24, 25, 26, 27]) (tv := fun _ => [some (vp 0 0), some (vi 27)]) (bl := [some (.cells [vs 47 0 27 27, vs 2 0 1 1, vp 3 0, vs 4 0 1 1] 92), some (hcaj), some (Zli), some (hcg), some (Zlk), some (Zaa), some (Zlh), some (Zlj), some (Ziz), some (hcy), some (Zsk), some (hcd), some (hcn), some (Znp), some (ZdO), some (hcb), some (hci), some (.cells [vT, vT, vq, vi 4, vi 5, vi 24, vs 19 0 2 2, vs 20 0 1 1, vn, vq, vq, vq, vq, vq, vq, vq, vq, vq, vq, Value.nilFunc, Value.nilFunc, Value.nilFunc, vq, vq, vq, vq, vf, vq, vq, vq, vn, vi 1, Value.func (.func 228) #[vp 17 0] #[], vq, vq, vi 1, vn, vq, vq, vq, vp 3 0, vq, Value.func (.func 349) #[vp 17 0] #[], vq, vT, vi 1, vp 21 0, vp 22 0, vp 23 0, vn, vi 2, vq, vq] 226), some (Zjj), some (hcv), some (Zaa), some (ZoE), some (ZoG), some (Zq2), some (Zab), some (.ro (ZG ([(⟨(1 : Int), (0 : Int)⟩ : R_ii)] : List R_ii)) true), some (hco), some (Zab)]) (ob := []) rfl (show 1 ∈ ZJ (ZF 1) from by decide +kernel) (fun gv => by kernel_rfl) Zf rfl (by decide) (by rfl) (fun _ => ⟨rr, ⟨rr, trivial⟩⟩) ⟨⟨rfl, ⟨[], by rfl⟩, by rfl⟩, ⟨⟨rfl, ⟨[], by rfl⟩, by rfl⟩, ⟨⟨rfl, ⟨[], by rfl⟩, by rfl⟩, ⟨⟨rfl, ⟨[], by rfl⟩, by rfl⟩, ⟨⟨rfl, ⟨[], by rfl⟩, by rfl⟩, ⟨⟨rfl, ⟨[], by rfl⟩, by rfl⟩, ⟨⟨rfl, ⟨[], by rfl⟩, by rfl⟩, ⟨⟨rfl, ⟨[], by rfl⟩, by rfl⟩, ⟨⟨rfl, ⟨[], by rfl⟩, by rfl⟩, ⟨⟨rfl, ⟨[], by rfl⟩, by rfl⟩, ⟨⟨rfl, ⟨[], by rfl⟩, by rfl⟩, ⟨⟨rfl, ⟨[], by rfl⟩, by rfl⟩, ⟨⟨rfl, ⟨[], by rfl⟩, by rfl⟩, ⟨⟨rfl, ⟨[], by rfl⟩, by rfl⟩, ⟨⟨rfl, ⟨[], by rfl⟩, by rfl⟩, ⟨⟨rfl, ⟨[], by rfl⟩, by rfl⟩, ⟨⟨rfl, ⟨[], by rfl⟩, by rfl⟩, ⟨⟨rfl, ⟨[], by rfl⟩, by rfl⟩, ⟨⟨rfl, ⟨[], by rfl⟩, by rfl⟩, ⟨⟨rfl, ⟨[], by rfl⟩, by rfl⟩, ⟨⟨rfl, ⟨[], by rfl⟩, by rfl⟩, ⟨⟨rfl, ⟨[], by rfl⟩, by rfl⟩, ⟨⟨rfl, ⟨[], by rfl⟩, by rfl⟩, ⟨⟨rfl, ⟨[], by rfl⟩, by rfl⟩, ⟨⟨rfl, ⟨[], by rfl⟩, by rfl⟩, ⟨(show ZG ([(⟨(1 : Int), (0 : Int)⟩ : R_ii)] : List R_ii) = ZG ([(⟨(1 : Int), (0 : Int)⟩ : R_ii)] : List R_ii) from rfl), ⟨⟨rfl, ⟨[], by rfl⟩, by rfl⟩, ⟨⟨rfl, ⟨[], by rfl⟩, by rfl⟩, trivial⟩⟩⟩⟩⟩⟩⟩⟩⟩⟩⟩⟩⟩⟩⟩⟩⟩⟩⟩⟩⟩⟩⟩⟩⟩⟩⟩⟩

theorem ZqL  (N : Nat) : (Zg  N).Ok Tryz.prog ZE (.h1m27 : Zd) (Zz  N (.h1m27 : Zd)) := by
 show (Zg  N).Ok Tryz.prog ZE (.h1m27 : Zd) (Zhg  N)
 unfold Zhg
 exact Mach.ok_next (M := Zg  N) (cd := 1000000) (cm := 0) (y := (.h1m28 : Zd)) (fu := 4000) (orc := (Zl [] [] [] [] [])) (live := [0, 49, 2, 3, 4, 5, 6, 7, 8, 9, 10, 11, 12, 13, 14, 15, 16, 17, 18, 19, 20, 37, 21, 22, 23, 24, 25, 26, 27]) (tv := fun _ => [some (vp 0 0), some (vi 28)]) (bl := [some (.cells [vs 49 0 28 28, vs 2 0 1 1, vp 3 0, vs 4 0 1 1] 92), some (hcag), some (Zli), some (hcg), some (Zlk), some (Zaa), some (Zlh), some (Zlj), some (Ziz), some (hcy), some (Zsk), some (hcd), some (hcn), some (Znp), some (ZdO), some (hcb), some (hci), some (.cells [vT, vT, vq, vi 4, vi 5, vi 24, vs 19 0 2 2, vs 20 0 1 1, vn, vq, vq, vq, vq, vq, vq, vq, vq, vq, vq, Value.nilFunc, Value.nilFunc, Value.nilFunc, vq, vq, vq, vq, vf, vq, vq, vq, vn, vi 1, Value.func (.func 228) #[vp 17 0] #[], vq, vq, vi 1, vs 37 0 1 1, vq, vq, vq, vp 3 0, vq, Value.func (.func 355) #[vp 17 0] #[], vq, vT, vi 1, vp 21 0, vp 22 0, vp 23 0, vn, vi 2, vq, vq] 226), some (Zjj), some (hcv), some (Zaa), some (.cells [vi 2] 3), some (ZoE), some (ZoG), some (Zq2), some (Zab), some (.ro (ZG ([(⟨(1 : Int), (0 : Int)⟩ : R_ii)] : List R_ii)) true), some (hco), some (Zab)]) (ob := []) rfl (show 1 ∈ ZJ (ZF 1) from by decide +kernel) (fun gv => by kernel_rfl) Zf rfl (by decide) (by rfl) (fun _ => ⟨rr, ⟨rr, trivial⟩⟩) ⟨⟨rfl, ⟨[], by rfl⟩, by rfl⟩, ⟨⟨rfl, ⟨[], by rfl⟩, by rfl⟩, ⟨⟨rfl, ⟨[], by rfl⟩, by rfl⟩, ⟨⟨rfl, ⟨[], by rfl⟩, by rfl⟩, ⟨⟨rfl, ⟨[], by rfl⟩, by rfl⟩, ⟨⟨rfl, ⟨[], by rfl⟩, by rfl⟩, ⟨⟨rfl, ⟨[], by rfl⟩, by rfl⟩, ⟨⟨rfl, ⟨[], by rfl⟩, by rfl⟩, ⟨⟨rfl, ⟨[], by rfl⟩, by rfl⟩, ⟨⟨rfl, ⟨[], by rfl⟩, by rfl⟩, ⟨⟨rfl, ⟨[], by rfl⟩, by rfl⟩, ⟨⟨rfl, ⟨[], by rfl⟩, by rfl⟩, ⟨⟨rfl, ⟨[], by rfl⟩, by rfl⟩, ⟨⟨rfl, ⟨[], by rfl⟩, by rfl⟩, ⟨⟨rfl, ⟨[], by rfl⟩, by rfl⟩, ⟨⟨rfl, ⟨[], by rfl⟩, by rfl⟩, ⟨⟨rfl, ⟨[], by rfl⟩, by rfl⟩, ⟨⟨rfl, ⟨[], by rfl⟩, by rfl⟩, ⟨⟨rfl, ⟨[], by rfl⟩, by rfl⟩, ⟨⟨rfl, ⟨[], by rfl⟩, by rfl⟩, ⟨⟨rfl, ⟨[], by rfl⟩, by rfl⟩, ⟨⟨rfl, ⟨[], by rfl⟩, by rfl⟩, ⟨⟨rfl, ⟨[], by rfl⟩, by rfl⟩, ⟨⟨rfl, ⟨[], by rfl⟩, by rfl⟩, ⟨⟨rfl, ⟨[], by rfl⟩, by rfl⟩, ⟨⟨rfl, ⟨[], by rfl⟩, by rfl⟩, ⟨(show ZG ([(⟨(1 : Int), (0 : Int)⟩ : R_ii)] : List R_ii) = ZG ([(⟨(1 : Int), (0 : Int)⟩ : R_ii)] : List R_ii) from rfl), ⟨⟨rfl, ⟨[], by rfl⟩, by rfl⟩, ⟨⟨rfl, ⟨[], by rfl⟩, by rfl⟩, trivial⟩⟩⟩⟩⟩⟩⟩⟩⟩⟩⟩⟩⟩⟩⟩⟩⟩⟩⟩⟩⟩⟩⟩⟩⟩⟩⟩⟩⟩

theorem ZqM  (N : Nat) : (Zg  N).Ok Tryz.prog ZE (.h1m28 : Zd) (Zz  N (.h1m28 : Zd)) := by
 show (Zg  N).Ok Tryz.prog ZE (.h1m28 : Zd) (Zhh  N)
 unfold Zhh
 exact Mach.ok_next (M := Zg  N) (cd := 1000000) (cm := 0) (y := (.h1m29 : Zd)) (fu := 4000) (orc := (Zl [] [] [] [] [])) (live := [0, 50, 2, 3, 4, 5, 6, 7, 8, 9, 10, 11, 12, 13, 14, 15, 17, 18, 19, 20, 21, 22, 23, 24, 25, 26, 27, 28]) (tv := fun _ => [some (vp 0 0), some (vi 29)]) (bl := [some (.cells [vs 50 0 29 29, vs 2 0 1 1, vp 3 0, vs 4 0 1 1] 92), some (hcaf), some (Zli), some (hcg), some (Zlk), some (Zaa), some (Zlh), some (Zlj), some (Ziz), some (hcy), some (.cells [vp 3 0, vq, vs 15 0 20 20, Value.int .u32 (0 : Int), Value.int .i32 (0 : Int), Value.int .u32 (0 : Int), vn, vi 2, vi 1048577, vi 1, vi 13, vi 2, vi 1048594, vi 2, vq, vi 1, vq, vi 1, vq, vi 1, vi 7, vi 1, vq, vi 20, vn, vq, vq, vn, vp 17 0, vp 18 0, vq, vf, vn] 174), some (hcd), some (hcn), some (Znp), some (ZdO), some (hcb), some (.cells [vf, vT, vq, vi 4, vi 5, vi 24, vs 19 0 2 2, vs 20 0 1 1, vn, vq, vq, vq, vq, vq, vq, vq, vq, vq, vq, Value.nilFunc, Value.nilFunc, Value.nilFunc, vq, vq, vq, vq, vf, vq, vq, vq, vn, vi 1, Value.func (.func 228) #[vp 17 0] #[], vq, vq, vi 1, vs 21 0 1 1, vq, vq, vq, vp 3 0, vq, Value.nilFunc, vq, vT, vq, vp 22 0, vp 23 0, vp 24 0, vn, vi 2, vq, vq] 226), some (Zjj), some (hcv), some (Zaa), some (.cells [vi 2] 3), some (hccq), some (.cells [vi 64, vs 27 0 5 5] 257), some (.cells [vT, vs 28 0 0 1] 261), some (Zab), some (.ro (ZG ([(⟨(1 : Int), (0 : Int)⟩ : R_ii)] : List R_ii)) true), some (hco), some (Zab)]) (ob := []) rfl (show 1 ∈ ZJ (ZF 1) from by decide +kernel) (fun gv => by kernel_rfl) Zf rfl (by decide) (by rfl) (fun _ => ⟨rr, ⟨rr, trivial⟩⟩) ⟨⟨rfl, ⟨[], by rfl⟩, by rfl⟩, ⟨⟨rfl, ⟨[], by rfl⟩, by rfl⟩, ⟨⟨rfl, ⟨[], by rfl⟩, by rfl⟩, ⟨⟨rfl, ⟨[], by rfl⟩, by rfl⟩, ⟨⟨rfl, ⟨[], by rfl⟩, by rfl⟩, ⟨⟨rfl, ⟨[], by rfl⟩, by rfl⟩, ⟨⟨rfl, ⟨[], by rfl⟩, by rfl⟩, ⟨⟨rfl, ⟨[], by rfl⟩, by rfl⟩, ⟨⟨rfl, ⟨[], by rfl⟩, by rfl⟩, ⟨⟨rfl, ⟨[], by rfl⟩, by rfl⟩, ⟨⟨rfl, ⟨[], by rfl⟩, by rfl⟩, ⟨⟨rfl, ⟨[], by rfl⟩, by rfl⟩, ⟨⟨rfl, ⟨[], by rfl⟩, by rfl⟩, ⟨⟨rfl, ⟨[], by rfl⟩, by rfl⟩, ⟨⟨rfl, ⟨[], by rfl⟩, by rfl⟩, ⟨⟨rfl, ⟨[], by rfl⟩, by rfl⟩, ⟨⟨rfl, ⟨[], by rfl⟩, by rfl⟩, ⟨⟨rfl, ⟨[], by rfl⟩, by rfl⟩, ⟨⟨rfl, ⟨[], by rfl⟩, by rfl⟩, ⟨⟨rfl, ⟨[], by rfl⟩, by rfl⟩, ⟨⟨rfl, ⟨[], by rfl⟩, by rfl⟩, ⟨⟨rfl, ⟨[], by rfl⟩, by rfl⟩, ⟨⟨rfl, ⟨[], by rfl⟩, by rfl⟩, ⟨⟨rfl, ⟨[], by rfl⟩, by rfl⟩, ⟨⟨rfl, ⟨[], by rfl⟩, by rfl⟩, ⟨(show ZG ([(⟨(1 : Int), (0 : Int)⟩ : R_ii)] : List R_ii) = ZG ([(⟨(1 : Int), (0 : Int)⟩ : R_ii)] : List R_ii) from rfl), ⟨⟨rfl, ⟨[], by rfl⟩, by rfl⟩, ⟨⟨rfl, ⟨[], by rfl⟩, by rfl⟩, trivial⟩⟩⟩⟩⟩⟩⟩⟩⟩⟩⟩⟩⟩⟩⟩⟩⟩⟩⟩⟩⟩⟩⟩⟩⟩⟩⟩⟩

theorem ZqN  (N : Nat) : (Zg  N).Ok Tryz.prog ZE (.h1m29 : Zd) (Zz  N (.h1m29 : Zd)) := by
 show (Zg  N).Ok Tryz.prog ZE (.h1m29 : Zd) (Zhi  N)
 unfold Zhi
 exact Mach.ok_next (M := Zg  N) (cd := 1000000) (cm := 0) (y := (.h1m30 : Zd)) (fu := 4000) (orc := (Zl [] [] [] [] [])) (live := [0, 40, 2, 3, 4, 5, 6, 7, 8, 9, 10, 11, 12, 13, 14, 15, 16, 17, 18, 19, 20, 21, 22, 23, 24, 25, 26, 27]) (tv := fun _ => [some (vp 0 0), some (vi 30)]) (bl := [some (.cells [vs 40 0 30 30, vs 2 0 1 1, vp 3 0, vs 4 0 1 1] 92), some (hcae), some (Zli), some (hcg), some (Zlk), some (Zaa), some (Zlh), some (Zlj), some (Ziz), some (hcy), some (hcbx), some (hcd), some (hcn), some (Znp), some (ZdO), some (hcb), some (.cells [vf, vT, vq, vi 4, vi 5, vi 24, vs 18 0 2 2, vs 19 0 1 1, vn, vq, vq, vq, vq, vq, vq, vq, vq, vq, vq, Value.nilFunc, Value.nilFunc, Value.nilFunc, vq, vq, vq, vq, vf, vq, vq, vq, vn, vi 1, Value.func (.func 228) #[vp 16 0] #[], vq, vq, vi 1, vs 20 0 1 1, vq, vq, vq, vp 3 0, vq, Value.nilFunc, vq, vT, vq, vp 21 0, vp 22 0, vp 23 0, vn, vi 2, vq, vq] 226), some (Zjj), some (hcv), some (Zaa), some (.cells [vi 2] 3), some (ZoE), some (ZoG), some (Zq2), some (Zab), some (.ro (ZG ([(⟨(1 : Int), (0 : Int)⟩ : R_ii)] : List R_ii)) true), some (hco), some (Zab)]) (ob := []) rfl (show 1 ∈ ZJ (ZF 1) from by decide +kernel) (fun gv => by kernel_rfl) Zf rfl (by decide) (by rfl) (fun _ => ⟨rr, ⟨rr, trivial⟩⟩) ⟨⟨rfl, ⟨[], by rfl⟩, by rfl⟩, ⟨⟨rfl, ⟨[], by rfl⟩, by rfl⟩, ⟨⟨rfl, ⟨[], by rfl⟩, by rfl⟩, ⟨⟨rfl, ⟨[], by rfl⟩, by rfl⟩, ⟨⟨rfl, ⟨[], by rfl⟩, by rfl⟩, ⟨⟨rfl, ⟨[], by rfl⟩, by rfl⟩, ⟨⟨rfl, ⟨[], by rfl⟩, by rfl⟩, ⟨⟨rfl, ⟨[], by rfl⟩, by rfl⟩, ⟨⟨rfl, ⟨[], by rfl⟩, by rfl⟩, ⟨⟨rfl, ⟨[], by rfl⟩, by rfl⟩, ⟨⟨rfl, ⟨[], by rfl⟩, by rfl⟩, ⟨⟨rfl, ⟨[], by rfl⟩, by rfl⟩, ⟨⟨rfl, ⟨[], by rfl⟩, by rfl⟩, ⟨⟨rfl, ⟨[], by rfl⟩, by rfl⟩, ⟨⟨rfl, ⟨[], by rfl⟩, by rfl⟩, ⟨⟨rfl, ⟨[], by rfl⟩, by rfl⟩, ⟨⟨rfl, ⟨[], by rfl⟩, by rfl⟩, ⟨⟨rfl, ⟨[], by rfl⟩, by rfl⟩, ⟨⟨rfl, ⟨[], by rfl⟩, by rfl⟩, ⟨⟨rfl, ⟨[], by rfl⟩, by rfl⟩, ⟨⟨rfl, ⟨[], by rfl⟩, by rfl⟩, ⟨⟨rfl, ⟨[], by rfl⟩, by rfl⟩, ⟨⟨rfl, ⟨[], by rfl⟩, by rfl⟩, ⟨⟨rfl, ⟨[], by rfl⟩, by rfl⟩, ⟨⟨rfl, ⟨[], by rfl⟩, by rfl⟩, ⟨(show ZG ([(⟨(1 : Int), (0 : Int)⟩ : R_ii)] : List R_ii) = ZG ([(⟨(1 : Int), (0 : Int)⟩ : R_ii)] : List R_ii) from rfl), ⟨⟨rfl, ⟨[], by rfl⟩, by rfl⟩, ⟨⟨rfl, ⟨[], by rfl⟩, by rfl⟩, trivial⟩⟩⟩⟩⟩⟩⟩⟩⟩⟩⟩⟩⟩⟩⟩⟩⟩⟩⟩⟩⟩⟩⟩⟩⟩⟩⟩⟩

theorem ZqO  (N : Nat) : (Zg  N).Ok Tryz.prog ZE (.h1m30 : Zd) (Zz  N (.h1m30 : Zd)) := by
 show (Zg  N).Ok Tryz.prog ZE (.h1m30 : Zd) (Zhj  N)
 unfold Zhj
 exact Mach.ok_fin (M := Zg  N) (cd := 1000000) (cm := 0) (r := (.r0 : Z5)) (fu := 4000) (orc := (Zl [] [] [] [] [])) (live := []) (u := vT) (bl := []) (ob := []) (fun gv => by kernel_rfl) Zf rfl (by decide) (by rfl) rr trivial

theorem Zt4  (N : Nat) : (Zg  N).Enter Tryz.prog ZE #[] (Zko  N) := by
 unfold Zko
 exact Mach.en_head (bK := Z8 1) (M := Zg  N) (cd := 1000000) (cm := 0) (y := (.h1m0 : Zd)) (fu := 4000) (orc := (Zl [] [] [] [] [])) (live := [234, 233, 450, 206, 229, 230, 231, 448, 208, 209, 227, 228, 437, 240, 241, 236, 238, 239]) (tv := [some (vp 234 0), some (vq)]) (bl := [some (.cells [vn, vn, vp 233 0, vs 450 0 1 1] 92), some (.cells [vi 1, vq, vf, vf, vq, vf, vf, vq, vf, vf, vq, vf, vf, vq, vf, vf, vq, vf, vf, vq, vf, vf, vq, vf, vf, vq, vf, vf, vq, vf, vf, vq, vf, vf, vq, vf, vf, vq, vf, vf, vq, vf, vf, vq, vf, vf, vq, vf, vf, vq, vf, vf, vq, vf, vf, vq, vf, vf, vq, vf, vf, vq, vf, vf, vq, vf, vf, vq, vf, vf, vq, vf, vf, vq, vf, vf, vq, vf, vf, vq, vf, vf, vq, vf, vf, vq, vf, vf, vq, vf, vf, vq, vf, vf, vq, vf, vf, vq, vf, vf, vq, vf, vf, vq, vf, vf, vq, vf, vf, vq, vf, vf, vq, vf, vf, vq, vf, vf, vq, vf, vf, vq, vf, vf, vq, vf, vf, vq, vf, vf, vq, vf, vf, vq, vf, vf, vq, vf, vf, vq, vf, vf, vq, vf, vf, vq, vf, vf, vq, vf, vf, vq, vf, vf, vq, vf, vf, vq, vf, vf, vq, vf, vf, vq, vf, vf, vq, vf, vf, vq, vf, vf, vq, vf, vf, vq, vf, vf, vq, vf, vf, vq, vf, vf, vq, vf, vf, vq, vf, vf, vq, vf, vf, vi 400, vi 16, vi 64, vi 64, vi 1073741824, vi 1, vq, vp 206 0, vp 229 0, vp 230 0, vp 231 0] 147), some (.cells [vp 448 0] 93), some (.cells [vi 400, vs 208 0 17 17, vs 209 0 17 17, vn, vn, vn, vn, vn, vn, vn, vn, vn, vn, vn, vn, vn, vn, vn, vn, vn] 189), some (.cells [vs 227 0 16 16, vs 228 0 16 16] 195), some (Zq1), some (hcz), some (.cells [vp 233 0, vq, vs 437 0 20 20, Value.int .u32 (0 : Int), Value.int .i32 (0 : Int), Value.int .u32 (0 : Int), vn, vi 1, vq, vi 1, vq, vi 1, vq, vi 1, vq, vi 1, vq, vi 1, vq, vi 1, vq, vi 1, vq, vq, vn, vq, vq, vn, vp 240 0, vp 241 0, vq, vf, vn] 174), some (hcf), some (hcm), some (hch), some (hch), some (hcb), some (.cells [vf, vf, vq, vq, vq, vq, vn, vn, vn, vq, vq, vq, vq, vq, vq, vq, vq, vq, vq, Value.nilFunc, Value.nilFunc, Value.nilFunc, vq, vq, vq, vq, vf, vq, vq, vq, vn, vq, Value.nilFunc, vq, vq, vq, vn, vq, vq, vq, vp 233 0, vq, Value.nilFunc, vq, vf, vq, vp 236 0, vp 238 0, vp 239 0, vn, vq, vq, vq] 226), some (.cells [vq, vq, vq, vq, vq, vq, vq, vq, vq, vq, vq, vq, vq, vq, vq, vq, vn, vq, vf, vf, vq, vq, vq, vq, vp 233 0, vq, Value.nilFunc] 235), some (Zgx), some (Ze6), some (Zbn)]) (ob := []) rfl rfl (show ZJ (Z8 1).2 = [] from rfl) (by kernel_rfl) Zf rfl (by decide) (by rfl) ⟨rr, ⟨rr, trivial⟩⟩ ⟨⟨rfl, ⟨[], by rfl⟩, by rfl⟩, ⟨⟨rfl, ⟨[], by rfl⟩, by rfl⟩, ⟨⟨rfl, ⟨[], by rfl⟩, by rfl⟩, ⟨⟨rfl, ⟨[], by rfl⟩, by rfl⟩, ⟨⟨rfl, ⟨[], by rfl⟩, by rfl⟩, ⟨⟨rfl, ⟨[], by rfl⟩, by rfl⟩, ⟨⟨rfl, ⟨[], by rfl⟩, by rfl⟩, ⟨⟨rfl, ⟨[], by rfl⟩, by rfl⟩, ⟨⟨rfl, ⟨[], by rfl⟩, by rfl⟩, ⟨⟨rfl, ⟨[], by rfl⟩, by rfl⟩, ⟨⟨rfl, ⟨[], by rfl⟩, by rfl⟩, ⟨⟨rfl, ⟨[], by rfl⟩, by rfl⟩, ⟨⟨rfl, ⟨[], by rfl⟩, by rfl⟩, ⟨⟨rfl, ⟨[], by rfl⟩, by rfl⟩, ⟨⟨rfl, ⟨[], by rfl⟩, by rfl⟩, ⟨⟨rfl, ⟨[], by rfl⟩, by rfl⟩, ⟨⟨rfl, ⟨[], by rfl⟩, by rfl⟩, ⟨⟨rfl, ⟨[], by rfl⟩, by rfl⟩, trivial⟩⟩⟩⟩⟩⟩⟩⟩⟩⟩⟩⟩⟩⟩⟩⟩⟩⟩

end Ev
end Go.Proofs.YtaajdoclloamlaaGreat
/- Calls do what the plain functions say. -/
namespace Go.Proofs.YtaajdoclloamlaaGreat
open Go.RowKit
namespace Ev
set_option linter.unusedVariables false
set_option maxRecDepth 100000
theorem Zsl  (N : Nat) (r : Z5) (h : Zvz  N = some r) : LSpec Tryz.prog 14 #[] [] (Zq3  r) (Zpo  r) :=
 Mach.spec Zye (Zg  N) Tryz.func14 (by kernel_rfl) (by kernel_rfl) (fun x => by cases x <;> exact Zh _ rfl) (fun r => by cases r <;> exact Zh _ rfl) (fun x => by
  cases x with
  | h1m0 => exact fun _ => (show ¬ (1 ∈ ZJ (Z8 1).2) from by decide +kernel)
  | h1m1 => exact fun _ => (show ¬ (1 ∈ ZJ (Z8 1).2) from by decide +kernel)
  | h1m2 => exact fun _ => (show ¬ (1 ∈ ZJ (Z8 1).2) from by decide +kernel)
  | h1m3 => exact fun _ => (show ¬ (1 ∈ ZJ (Z8 1).2) from by decide +kernel)
  | h1m4 => exact fun _ => (show ¬ (1 ∈ ZJ (Z8 1).2) from by decide +kernel)
  | h1m5 => exact fun _ => (show ¬ (1 ∈ ZJ (Z8 1).2) from by decide +kernel)
  | h1m6 => exact fun _ => (show ¬ (1 ∈ ZJ (Z8 1).2) from by decide +kernel)
  | h1m7 => exact fun _ => (show ¬ (1 ∈ ZJ (Z8 1).2) from by decide +kernel)
  | h1m8 => exact fun _ => (show ¬ (1 ∈ ZJ (Z8 1).2) from by decide +kernel)
  | h1m9 => exact fun _ => (show ¬ (1 ∈ ZJ (Z8 1).2) from by decide +kernel)
  | h1m10 => exact fun _ => (show ¬ (1 ∈ ZJ (Z8 1).2) from by decide +kernel)
  | h1m11 => exact fun _ => (show ¬ (1 ∈ ZJ (Z8 1).2) from by decide +kernel)
  | h1m12 => exact fun _ => (show ¬ (1 ∈ ZJ (Z8 1).2) from by decide +kernel)
  | h1m13 => exact fun _ => (show ¬ (1 ∈ ZJ (Z8 1).2) from by decide +kernel)
  | h1m14 => exact fun _ => (show ¬ (1 ∈ ZJ (Z8 1).2) from by decide +kernel)
  | h1m15 => exact fun _ => (show ¬ (1 ∈ ZJ (Z8 1).2) from by decide +kernel)
  | h1m16 => exact fun _ => (show ¬ (1 ∈ ZJ (Z8 1).2) from by decide +kernel)
  | h1m17 => exact fun _ => (show ¬ (1 ∈ ZJ (Z8 1).2) from by decide +kernel)
  | h1m18 => exact fun _ => (show ¬ (1 ∈ ZJ (Z8 1).2) from by decide +kernel)
  | h1m19 => exact fun _ => (show ¬ (1 ∈ ZJ (Z8 1).2) from by decide +kernel)
  | h1m20 => exact fun _ => (show ¬ (1 ∈ ZJ (Z8 1).2) from by decide +kernel)
  | h1m21 => exact fun _ => (show ¬ (1 ∈ ZJ (Z8 1).2) from by decide +kernel)
  | h1m22 => exact fun _ => (show ¬ (1 ∈ ZJ (Z8 1).2) from by decide +kernel)
  | h1m23 => exact fun _ => (show ¬ (1 ∈ ZJ (Z8 1).2) from by decide +kernel)
  | h1m24 => exact fun _ => (show ¬ (1 ∈ ZJ (Z8 1).2) from by decide +kernel)
  | h1m25 => exact fun _ => (show ¬ (1 ∈ ZJ (Z8 1).2) from by decide +kernel)
  | h1m26 => exact fun _ => (show ¬ (1 ∈ ZJ (Z8 1).2) from by decide +kernel)
  | h1m27 => exact fun _ => (show ¬ (1 ∈ ZJ (Z8 1).2) from by decide +kernel)
  | h1m28 => exact fun _ => (show ¬ (1 ∈ ZJ (Z8 1).2) from by decide +kernel)
  | h1m29 => exact fun _ => (show ¬ (1 ∈ ZJ (Z8 1).2) from by decide +kernel)
  | h1m30 => exact fun _ => (show ¬ (1 ∈ ZJ (Z8 1).2) from by decide +kernel)
  ) (fun x => (show (Zg  N).Ok Tryz.prog ZE x (Zz  N x) from by
  cases x with
  | h1m0 => exact Zro  N
  | h1m1 => exact Zrp  N
  | h1m2 => exact Zrq  N
  | h1m3 => exact Zrr  N
  | h1m4 => exact Zrs  N
  | h1m5 => exact Zrt  N
  | h1m6 => exact Zru  N
  | h1m7 => exact Zrv  N
  | h1m8 => exact Zrw  N
  | h1m9 => exact Zrx  N
  | h1m10 => exact Zq4  N
  | h1m11 => exact Zq5  N
  | h1m12 => exact Zq6  N
  | h1m13 => exact Zq7  N
  | h1m14 => exact Zq8  N
  | h1m15 => exact Zq9  N
  | h1m16 => exact ZqA  N
  | h1m17 => exact ZqB  N
  | h1m18 => exact ZqC  N
  | h1m19 => exact ZqD  N
  | h1m20 => exact ZqE  N
  | h1m21 => exact ZqF  N
  | h1m22 => exact ZqG  N
  | h1m23 => exact ZqH  N
  | h1m24 => exact ZqI  N
  | h1m25 => exact ZqJ  N
  | h1m26 => exact ZqK  N
  | h1m27 => exact ZqL  N
  | h1m28 => exact ZqM  N
  | h1m29 => exact ZqN  N
  | h1m30 => exact ZqO  N
  )) (Zt4  N) (n := N) h

end Ev
end Go.Proofs.YtaajdoclloamlaaGreat
/- Records, and the program's functions as plain ones. -/
namespace Go.Proofs.YtaajdoclloamlaaGreat
open Go.RowKit
namespace Ev
set_option linter.unusedVariables false
inductive ZdS where
 | r0

def Zb6  (N : Nat) : Option ZdS :=
 some (.r0 : ZdS)

inductive Zbc where
 | r0
 | r1

def ZaO (a0 : Int) (N : Nat) : Option Zbc :=
 if (-1099511627776 : Int) ≤ a0 then
  if a0 ≤ (1099511627776 : Int) then
   some (.r0 : Zbc)
  else
  some (.r1 : Zbc)
 else
 some (.r1 : Zbc)

inductive Zbd where
 | r0
 | r1

def ZbQ (a0 : Int) (N : Nat) : Option Zbd :=
 if (-1099511627776 : Int) ≤ a0 then
  if a0 ≤ (1099511627776 : Int) then
   some (.r0 : Zbd)
  else
  some (.r1 : Zbd)
 else
 some (.r1 : Zbd)

inductive ZcT where
 | r0

def Zbs  (N : Nat) : Option ZcT :=
 some (.r0 : ZcT)

inductive Zbe where
 | r0
 | r1

def Zat (a0 : Int) (N : Nat) : Option Zbe :=
 if (0 : Int) ≤ a0 then
  if a0 ≤ (15 : Int) then
   some (.r0 : Zbe)
  else
  some (.r1 : Zbe)
 else
 some (.r1 : Zbe)

inductive ZcU where
 | r0

def ZdI  (N : Nat) : Option ZcU :=
 some (.r0 : ZcU)

inductive ZcV where
 | r0

def ZaP  (N : Nat) : Option ZcV :=
 some (.r0 : ZcV)

inductive ZcW where
 | r0

def Zbt  (N : Nat) : Option ZcW :=
 some (.r0 : ZcW)

inductive ZcX where
 | r0

def ZdJ  (N : Nat) : Option ZcX :=
 some (.r0 : ZcX)

inductive Zcn where
 | r0

def ZcY  (N : Nat) : Option Zcn :=
 some (.r0 : Zcn)

inductive Zco where
 | r0

def ZcZ  (N : Nat) : Option Zco :=
 some (.r0 : Zco)

inductive Zcp where
 | r0

def ZbA  (N : Nat) : Option Zcp :=
 some (.r0 : Zcp)

inductive Zcq where
 | r0

def Zda  (N : Nat) : Option Zcq :=
 some (.r0 : Zcq)

inductive Zcr where
 | r0

def Zdb  (N : Nat) : Option Zcr :=
 some (.r0 : Zcr)

inductive Zcs where
 | r0

def Zdc  (N : Nat) : Option Zcs :=
 some (.r0 : Zcs)

inductive Zct where
 | r0

def Zdd  (N : Nat) : Option Zct :=
 some (.r0 : Zct)

inductive Zcu where
 | r0

def Zde  (N : Nat) : Option Zcu :=
 some (.r0 : Zcu)

inductive ZaT where
 | r0
 | r1

def Zbf (a0 : Int) (N : Nat) : Option ZaT :=
 if (0 : Int) ≤ a0 then
  if a0 ≤ (15 : Int) then
   some (.r0 : ZaT)
  else
  some (.r1 : ZaT)
 else
 some (.r1 : ZaT)

inductive Zcv where
 | r0

def Zbg  (N : Nat) : Option Zcv :=
 some (.r0 : Zcv)

inductive ZC where
 | r0
 | r1
 | r2

def ZcI (a0 : Int) (a1 : Int) (N : Nat) : Option ZC :=
 if (-1099511627776 : Int) ≤ a0 then
  if a0 ≤ (1099511627776 : Int) then
   if (-1099511627776 : Int) ≤ a1 then
    if a1 ≤ (1099511627776 : Int) then
     ((Zb6 N).bind fun r => match r with
     | .r0 =>
      ((ZaO (a0) N).bind fun r => match r with
      | .r0 =>
       ((ZbQ (a1) N).bind fun r => match r with
       | .r0 =>
        ((Zbs N).bind fun r => match r with
        | .r0 =>
         ((Zat ((a0 % (8 : Int))) N).bind fun r => match r with
         | .r0 =>
          ((ZdI N).bind fun r => match r with
          | .r0 =>
           ((ZaP N).bind fun r => match r with
           | .r0 =>
            ((Zbt N).bind fun r => match r with
            | .r0 =>
             ((ZdJ N).bind fun r => match r with
             | .r0 =>
              ((ZcY N).bind fun r => match r with
              | .r0 =>
               ((ZcZ N).bind fun r => match r with
               | .r0 =>
                ((ZbA N).bind fun r => match r with
                | .r0 =>
                 ((Zda N).bind fun r => match r with
                 | .r0 =>
                  ((Zdb N).bind fun r => match r with
                  | .r0 =>
                   ((Zdc N).bind fun r => match r with
                   | .r0 =>
                    ((Zdd N).bind fun r => match r with
                    | .r0 =>
                     ((Zat ((a0 % (8 : Int))) N).bind fun r => match r with
                     | .r0 =>
                      ((Zde N).bind fun r => match r with
                      | .r0 =>
                       ((Zbf ((a0 % (8 : Int))) N).bind fun r => match r with
                       | .r0 =>
                        ((Zbg N).bind fun r => match r with
                        | .r0 =>
                         ((Zb6 N).bind fun r => match r with
                         | .r0 =>
                          ((ZaO (a0) N).bind fun r => match r with
                          | .r0 =>
                           ((ZbQ (a1) N).bind fun r => match r with
                           | .r0 =>
                            ((Zbs N).bind fun r => match r with
                            | .r0 =>
                             ((Zat ((a0 % (8 : Int))) N).bind fun r => match r with
                             | .r0 =>
                              ((ZdI N).bind fun r => match r with
                              | .r0 =>
                               ((ZaP N).bind fun r => match r with
                               | .r0 =>
                                ((Zbt N).bind fun r => match r with
                                | .r0 =>
                                 ((ZdJ N).bind fun r => match r with
                                 | .r0 =>
                                  ((ZcY N).bind fun r => match r with
                                  | .r0 =>
                                   ((ZcZ N).bind fun r => match r with
                                   | .r0 =>
                                    ((ZbA N).bind fun r => match r with
                                    | .r0 =>
                                     ((Zda N).bind fun r => match r with
                                     | .r0 =>
                                      ((Zdb N).bind fun r => match r with
                                      | .r0 =>
                                       ((Zdc N).bind fun r => match r with
                                       | .r0 =>
                                        ((Zdd N).bind fun r => match r with
                                        | .r0 =>
                                         ((Zat ((a0 % (8 : Int))) N).bind fun r => match r with
                                         | .r0 =>
                                          ((Zde N).bind fun r => match r with
                                          | .r0 =>
                                           ((Zbf ((a0 % (8 : Int))) N).bind fun r => match r with
                                           | .r0 =>
                                            ((Zbg N).bind fun r => match r with
                                            | .r0 =>
                                             some (.r0 : ZC)
                                            )
                                           | .r1 =>
                                            some (.r1 : ZC)
                                           )
                                          )
                                         | .r1 =>
                                          some (.r1 : ZC)
                                         )
                                        )
                                       )
                                      )
                                     )
                                    )
                                   )
                                  )
                                 )
                                )
                               )
                              )
                             | .r1 =>
                              some (.r1 : ZC)
                             )
                            )
                           | .r1 =>
                            some (.r1 : ZC)
                           )
                          | .r1 =>
                           some (.r1 : ZC)
                          )
                         )
                        )
                       | .r1 =>
                        some (.r1 : ZC)
                       )
                      )
                     | .r1 =>
                      some (.r1 : ZC)
                     )
                    )
                   )
                  )
                 )
                )
               )
              )
             )
            )
           )
          )
         | .r1 =>
          some (.r1 : ZC)
         )
        )
       | .r1 =>
        some (.r1 : ZC)
       )
      | .r1 =>
       some (.r1 : ZC)
      )
     )
    else
    some (.r2 : ZC)
   else
   some (.r2 : ZC)
  else
  some (.r2 : ZC)
 else
 some (.r2 : ZC)

inductive ZaD where
 | r0 (w2 : Int) (w3 : Int) (w4 : Int)
 | r1

def Zcj (a0 : Int) (a1 : Int) (N : Nat) : Option ZaD :=
 if (-1099511627776 : Int) ≤ a0 then
  if a0 ≤ (1099511627776 : Int) then
   if (-1099511627776 : Int) ≤ a1 then
    if a1 ≤ (1099511627776 : Int) then
     if (0 : Int) ≤ a0 then
      some (.r0 ((((a0 % (8 : Int)) + (8 : Int)) % (8 : Int))) ((((a0 % (8 : Int)) + (8 : Int)) % (8 : Int))) ((((a0 % (8 : Int)) + (8 : Int)) % (8 : Int))) : ZaD)
     else
     some (.r0 (((((0 : Int) - (((0 : Int) - a0) % (8 : Int))) + (8 : Int)) % (8 : Int))) (((((0 : Int) - (((0 : Int) - a0) % (8 : Int))) + (8 : Int)) % (8 : Int))) (((((0 : Int) - (((0 : Int) - a0) % (8 : Int))) + (8 : Int)) % (8 : Int))) : ZaD)
    else
    some (.r1 : ZaD)
   else
   some (.r1 : ZaD)
  else
  some (.r1 : ZaD)
 else
 some (.r1 : ZaD)

inductive Zcw where
 | r0

def Zdf  (N : Nat) : Option Zcw :=
 some (.r0 : Zcw)

inductive Zcx where
 | r0

def Zdg  (N : Nat) : Option Zcx :=
 some (.r0 : Zcx)

inductive Zcy where
 | r0

def Zdh  (N : Nat) : Option Zcy :=
 some (.r0 : Zcy)

inductive Zcz where
 | r0

def Zdi  (N : Nat) : Option Zcz :=
 some (.r0 : Zcz)

inductive Zc0 where
 | r0

def Zdj  (N : Nat) : Option Zc0 :=
 some (.r0 : Zc0)

inductive Zc1 where
 | r0

def Zdk  (N : Nat) : Option Zc1 :=
 some (.r0 : Zc1)

inductive Zc2 where
 | r0

def Zdl  (N : Nat) : Option Zc2 :=
 some (.r0 : Zc2)

inductive Zc3 where
 | r0

def Zdm  (N : Nat) : Option Zc3 :=
 some (.r0 : Zc3)

inductive Zc4 where
 | r0

def Zdn  (N : Nat) : Option Zc4 :=
 some (.r0 : Zc4)

inductive Zc5 where
 | r0

def Zdo  (N : Nat) : Option Zc5 :=
 some (.r0 : Zc5)

inductive Zaz where
 | r0
 | r1
 | r2

def Zck (a0 : Int) (N : Nat) : Option Zaz :=
 if (-1099511627776 : Int) ≤ a0 then
  if a0 ≤ (1099511627776 : Int) then
   ((Zb6 N).bind fun r => match r with
   | .r0 =>
    ((ZaO (a0) N).bind fun r => match r with
    | .r0 =>
     ((Zdf N).bind fun r => match r with
     | .r0 =>
      ((Zdg N).bind fun r => match r with
      | .r0 =>
       ((Zbs N).bind fun r => match r with
       | .r0 =>
        ((Zat ((a0 % (8 : Int))) N).bind fun r => match r with
        | .r0 =>
         ((Zdh N).bind fun r => match r with
         | .r0 =>
          ((ZaP N).bind fun r => match r with
          | .r0 =>
           ((Zdi N).bind fun r => match r with
           | .r0 =>
            ((Zdj N).bind fun r => match r with
            | .r0 =>
             ((Zdk N).bind fun r => match r with
             | .r0 =>
              ((Zdl N).bind fun r => match r with
              | .r0 =>
               ((ZbA N).bind fun r => match r with
               | .r0 =>
                ((Zdm N).bind fun r => match r with
                | .r0 =>
                 ((Zbg N).bind fun r => match r with
                 | .r0 =>
                  ((Zdn N).bind fun r => match r with
                  | .r0 =>
                   ((Zdo N).bind fun r => match r with
                   | .r0 =>
                    ((Zb6 N).bind fun r => match r with
                    | .r0 =>
                     ((ZaO (a0) N).bind fun r => match r with
                     | .r0 =>
                      ((Zdf N).bind fun r => match r with
                      | .r0 =>
                       ((Zdg N).bind fun r => match r with
                       | .r0 =>
                        ((Zbs N).bind fun r => match r with
                        | .r0 =>
                         ((Zat ((a0 % (8 : Int))) N).bind fun r => match r with
                         | .r0 =>
                          ((Zdh N).bind fun r => match r with
                          | .r0 =>
                           ((ZaP N).bind fun r => match r with
                           | .r0 =>
                            ((Zdi N).bind fun r => match r with
                            | .r0 =>
                             ((Zdj N).bind fun r => match r with
                             | .r0 =>
                              ((Zdk N).bind fun r => match r with
                              | .r0 =>
                               ((Zdl N).bind fun r => match r with
                               | .r0 =>
                                ((ZbA N).bind fun r => match r with
                                | .r0 =>
                                 ((Zdm N).bind fun r => match r with
                                 | .r0 =>
                                  ((Zbg N).bind fun r => match r with
                                  | .r0 =>
                                   ((Zdn N).bind fun r => match r with
                                   | .r0 =>
                                    ((Zdo N).bind fun r => match r with
                                    | .r0 =>
                                     some (.r0 : Zaz)
                                    )
                                   )
                                  )
                                 )
                                )
                               )
                              )
                             )
                            )
                           )
                          )
                         | .r1 =>
                          some (.r1 : Zaz)
                         )
                        )
                       )
                      )
                     | .r1 =>
                      some (.r1 : Zaz)
                     )
                    )
                   )
                  )
                 )
                )
               )
              )
             )
            )
           )
          )
         )
        | .r1 =>
         some (.r1 : Zaz)
        )
       )
      )
     )
    | .r1 =>
     some (.r1 : Zaz)
    )
   )
  else
  some (.r2 : Zaz)
 else
 some (.r2 : Zaz)

inductive Zbw where
 | r0 (w1 : Int)
 | r1

def ZbR (a0 : Int) (N : Nat) : Option Zbw :=
 if (-1099511627776 : Int) ≤ a0 then
  if a0 ≤ (1099511627776 : Int) then
   if (0 : Int) ≤ a0 then
    some (.r0 ((((a0 % (8 : Int)) + (8 : Int)) % (8 : Int))) : Zbw)
   else
   some (.r0 (((((0 : Int) - (((0 : Int) - a0) % (8 : Int))) + (8 : Int)) % (8 : Int))) : Zbw)
  else
  some (.r1 : Zbw)
 else
 some (.r1 : Zbw)

inductive Zc6 where
 | r0

def ZbB  (N : Nat) : Option Zc6 :=
 some (.r0 : Zc6)

inductive Zc7 where
 | r0

def ZbC  (N : Nat) : Option Zc7 :=
 some (.r0 : Zc7)

inductive Zc8 where
 | r0

def ZbD  (N : Nat) : Option Zc8 :=
 some (.r0 : Zc8)

inductive Zc9 where
 | r0

def ZbE  (N : Nat) : Option Zc9 :=
 some (.r0 : Zc9)

inductive ZcA where
 | r0

def Zdp  (N : Nat) : Option ZcA :=
 some (.r0 : ZcA)

inductive ZcB where
 | r0

def Zdq  (N : Nat) : Option ZcB :=
 some (.r0 : ZcB)

inductive ZcC where
 | r0

def Zdr  (N : Nat) : Option ZcC :=
 some (.r0 : ZcC)

inductive ZcD where
 | r0

def Zds  (N : Nat) : Option ZcD :=
 some (.r0 : ZcD)

inductive ZH where
 | r0
 | r1
 | r2

def Zbj (a0 : Int) (N : Nat) : Option ZH :=
 if (-1099511627776 : Int) ≤ a0 then
  if a0 ≤ (1099511627776 : Int) then
   ((Zb6 N).bind fun r => match r with
   | .r0 =>
    ((ZaO (a0) N).bind fun r => match r with
    | .r0 =>
     ((Zbs N).bind fun r => match r with
     | .r0 =>
      ((Zat ((a0 % (8 : Int))) N).bind fun r => match r with
      | .r0 =>
       ((ZbB N).bind fun r => match r with
       | .r0 =>
        ((ZaP N).bind fun r => match r with
        | .r0 =>
         ((Zbt N).bind fun r => match r with
         | .r0 =>
          ((ZbC N).bind fun r => match r with
          | .r0 =>
           ((ZbD N).bind fun r => match r with
           | .r0 =>
            ((Zbf ((a0 % (8 : Int))) N).bind fun r => match r with
            | .r0 =>
             ((ZbE N).bind fun r => match r with
             | .r0 =>
              ((Zdp N).bind fun r => match r with
              | .r0 =>
               ((Zdq N).bind fun r => match r with
               | .r0 =>
                ((Zdr N).bind fun r => match r with
                | .r0 =>
                 ((ZbB N).bind fun r => match r with
                 | .r0 =>
                  ((ZaP N).bind fun r => match r with
                  | .r0 =>
                   ((Zbt N).bind fun r => match r with
                   | .r0 =>
                    ((ZbC N).bind fun r => match r with
                    | .r0 =>
                     ((ZbD N).bind fun r => match r with
                     | .r0 =>
                      ((Zds N).bind fun r => match r with
                      | .r0 =>
                       ((ZbE N).bind fun r => match r with
                       | .r0 =>
                        ((Zbg N).bind fun r => match r with
                        | .r0 =>
                         ((Zb6 N).bind fun r => match r with
                         | .r0 =>
                          ((ZaO (a0) N).bind fun r => match r with
                          | .r0 =>
                           ((Zbs N).bind fun r => match r with
                           | .r0 =>
                            ((Zat ((a0 % (8 : Int))) N).bind fun r => match r with
                            | .r0 =>
                             ((ZbB N).bind fun r => match r with
                             | .r0 =>
                              ((ZaP N).bind fun r => match r with
                              | .r0 =>
                               ((Zbt N).bind fun r => match r with
                               | .r0 =>
                                ((ZbC N).bind fun r => match r with
                                | .r0 =>
                                 ((ZbD N).bind fun r => match r with
                                 | .r0 =>
                                  ((Zbf ((a0 % (8 : Int))) N).bind fun r => match r with
                                  | .r0 =>
                                   ((ZbE N).bind fun r => match r with
                                   | .r0 =>
                                    ((Zdp N).bind fun r => match r with
                                    | .r0 =>
                                     ((Zdq N).bind fun r => match r with
                                     | .r0 =>
                                      ((Zdr N).bind fun r => match r with
                                      | .r0 =>
                                       ((ZbB N).bind fun r => match r with
                                       | .r0 =>
                                        ((ZaP N).bind fun r => match r with
                                        | .r0 =>
                                         ((Zbt N).bind fun r => match r with
                                         | .r0 =>
                                          ((ZbC N).bind fun r => match r with
                                          | .r0 =>
                                           ((ZbD N).bind fun r => match r with
                                           | .r0 =>
                                            ((Zds N).bind fun r => match r with
                                            | .r0 =>
                                             ((ZbE N).bind fun r => match r with
                                             | .r0 =>
                                              ((Zbg N).bind fun r => match r with
                                              | .r0 =>
                                               some (.r0 : ZH)
                                              )
                                             )
                                            )
                                           )
                                          )
                                         )
                                        )
                                       )
                                      )
                                     )
                                    )
                                   )
                                  | .r1 =>
                                   some (.r1 : ZH)
                                  )
                                 )
                                )
                               )
                              )
                             )
                            | .r1 =>
                             some (.r1 : ZH)
                            )
                           )
                          | .r1 =>
                           some (.r1 : ZH)
                          )
                         )
                        )
                       )
                      )
                     )
                    )
                   )
                  )
                 )
                )
               )
              )
             )
            | .r1 =>
             some (.r1 : ZH)
            )
           )
          )
         )
        )
       )
      | .r1 =>
       some (.r1 : ZH)
      )
     )
    | .r1 =>
     some (.r1 : ZH)
    )
   )
  else
  some (.r2 : ZH)
 else
 some (.r2 : ZH)

inductive ZaQ where
 | r0 (w1 : Int) (w2 : Int)
 | r1

def Zbo (a0 : Int) (N : Nat) : Option ZaQ :=
 if (-1099511627776 : Int) ≤ a0 then
  if a0 ≤ (1099511627776 : Int) then
   if (0 : Int) ≤ a0 then
    some (.r0 ((((a0 % (8 : Int)) + (8 : Int)) % (8 : Int))) ((((a0 % (8 : Int)) + (8 : Int)) % (8 : Int))) : ZaQ)
   else
   some (.r0 (((((0 : Int) - (((0 : Int) - a0) % (8 : Int))) + (8 : Int)) % (8 : Int))) (((((0 : Int) - (((0 : Int) - a0) % (8 : Int))) + (8 : Int)) % (8 : Int))) : ZaQ)
  else
  some (.r1 : ZaQ)
 else
 some (.r1 : ZaQ)

inductive Zau where
 | r0
 | r1

def Zfg (a0 : Int) (a1 : Int) (a2 : Int) (a3 : Int) (a4 : Int) (a5 : Int) (a6 : Int) (a7 : Int) (a8 : Int) (a9 : Int) (N : Nat) : Option Zau :=
 if ¬ (a0 = a5) then
  some (.r0 : Zau)
 else
 if ¬ (a1 = a6) then
  some (.r0 : Zau)
 else
 if ¬ (a2 = a7) then
  some (.r0 : Zau)
 else
 if ¬ (a3 = a8) then
  some (.r0 : Zau)
 else
 if ¬ (a4 = a9) then
  some (.r0 : Zau)
 else
 some (.r1 : Zau)

inductive Zbu where
 | r0
 | r1

def ZcN (a0 : Int) (a1 : Int) (a2 : Int) (a3 : Int) (N : Nat) : Option Zbu :=
 if ¬ (a0 = a2) then
  some (.r0 : Zbu)
 else
 if ¬ (a1 = a3) then
  some (.r0 : Zbu)
 else
 some (.r1 : Zbu)

inductive ZaR where
 | r0
 | r1

def ZcO (a0 : Int) (a1 : Int) (a2 : Int) (a3 : Int) (a4 : Int) (a5 : Int) (N : Nat) : Option ZaR :=
 if ¬ (a0 = a3) then
  some (.r0 : ZaR)
 else
 if ¬ (a1 = a4) then
  some (.r0 : ZaR)
 else
 if ¬ (a2 = a5) then
  some (.r0 : ZaR)
 else
 some (.r1 : ZaR)

inductive ZfA where
 | r0

def Zfz  (N : Nat) : Option ZfA :=
 some (.r0 : ZfA)

inductive Zb7 where
 | r0
 | r1

def Zcl (a0 : Int) (N : Nat) : Option Zb7 :=
 if (-1099511627776 : Int) ≤ a0 then
  if a0 ≤ (1099511627776 : Int) then
   some (.r0 : Zb7)
  else
  some (.r1 : Zb7)
 else
 some (.r1 : Zb7)

inductive Zb8 where
 | r0
 | r1

def Zex (a0 : Int) (N : Nat) : Option Zb8 :=
 if (-1099511627776 : Int) ≤ a0 then
  if a0 ≤ (1099511627776 : Int) then
   some (.r0 : Zb8)
  else
  some (.r1 : Zb8)
 else
 some (.r1 : Zb8)

inductive Ze9 where
 | r0

def Zey  (N : Nat) : Option Ze9 :=
 some (.r0 : Ze9)

inductive Zb9 where
 | r0
 | r1

def ZbV (a0 : Int) (N : Nat) : Option Zb9 :=
 if (0 : Int) ≤ a0 then
  if a0 < (16 : Int) then
   some (.r0 : Zb9)
  else
  some (.r1 : Zb9)
 else
 some (.r1 : Zb9)

inductive ZeA where
 | r0

def Zgq  (N : Nat) : Option ZeA :=
 some (.r0 : ZeA)

inductive ZeB where
 | r0

def Zdw  (N : Nat) : Option ZeB :=
 some (.r0 : ZeB)

inductive ZeC where
 | r0

def Zez  (N : Nat) : Option ZeC :=
 some (.r0 : ZeC)

inductive ZeD where
 | r0

def Zgr  (N : Nat) : Option ZeD :=
 some (.r0 : ZeD)

inductive ZdT where
 | r0

def ZfB  (N : Nat) : Option ZdT :=
 some (.r0 : ZdT)

inductive ZdU where
 | r0

def ZfC  (N : Nat) : Option ZdU :=
 some (.r0 : ZdU)

inductive ZdV where
 | r0

def ZeE  (N : Nat) : Option ZdV :=
 some (.r0 : ZdV)

inductive ZdW where
 | r0

def ZfD  (N : Nat) : Option ZdW :=
 some (.r0 : ZdW)

inductive ZdX where
 | r0

def ZfE  (N : Nat) : Option ZdX :=
 some (.r0 : ZdX)

inductive ZdY where
 | r0

def ZfF  (N : Nat) : Option ZdY :=
 some (.r0 : ZdY)

inductive ZdZ where
 | r0

def ZfG  (N : Nat) : Option ZdZ :=
 some (.r0 : ZdZ)

inductive Zea where
 | r0

def ZfH  (N : Nat) : Option Zea :=
 some (.r0 : Zea)

inductive Zbx where
 | r0
 | r1

def ZcE (a0 : Int) (N : Nat) : Option Zbx :=
 if (0 : Int) ≤ a0 then
  if a0 < (16 : Int) then
   some (.r0 : Zbx)
  else
  some (.r1 : Zbx)
 else
 some (.r1 : Zbx)

inductive Zeb where
 | r0

def ZdK  (N : Nat) : Option Zeb :=
 some (.r0 : Zeb)

inductive ZZ where
 | r0
 | r1

def ZdL (a0 : Int) (a1 : Int) (a2 : Int) (a3 : Int) (a4 : Int) (N : Nat) : Option ZZ :=
 ((Zfz N).bind fun r => match r with
 | .r0 =>
  ((Zcl (a0) N).bind fun r => match r with
  | .r0 =>
   ((Zex (a1) N).bind fun r => match r with
   | .r0 =>
    ((Zey N).bind fun r => match r with
    | .r0 =>
     ((ZbV (a2) N).bind fun r => match r with
     | .r0 =>
      ((Zgq N).bind fun r => match r with
      | .r0 =>
       ((Zdw N).bind fun r => match r with
       | .r0 =>
        ((Zez N).bind fun r => match r with
        | .r0 =>
         ((Zgr N).bind fun r => match r with
         | .r0 =>
          ((ZfB N).bind fun r => match r with
          | .r0 =>
           ((ZfC N).bind fun r => match r with
           | .r0 =>
            ((ZeE N).bind fun r => match r with
            | .r0 =>
             ((ZfD N).bind fun r => match r with
             | .r0 =>
              ((ZfE N).bind fun r => match r with
              | .r0 =>
               ((ZfF N).bind fun r => match r with
               | .r0 =>
                ((ZfG N).bind fun r => match r with
                | .r0 =>
                 ((ZbV (a3) N).bind fun r => match r with
                 | .r0 =>
                  ((ZfH N).bind fun r => match r with
                  | .r0 =>
                   ((ZcE (a4) N).bind fun r => match r with
                   | .r0 =>
                    ((ZdK N).bind fun r => match r with
                    | .r0 =>
                     some (.r0 : ZZ)
                    )
                   | .r1 =>
                    some (.r1 : ZZ)
                   )
                  )
                 | .r1 =>
                  some (.r1 : ZZ)
                 )
                )
               )
              )
             )
            )
           )
          )
         )
        )
       )
      )
     | .r1 =>
      some (.r1 : ZZ)
     )
    )
   | .r1 =>
    some (.r1 : ZZ)
   )
  | .r1 =>
   some (.r1 : ZZ)
  )
 )

inductive Zec where
 | r0

def ZfI  (N : Nat) : Option Zec :=
 some (.r0 : Zec)

inductive Zed where
 | r0

def ZfJ  (N : Nat) : Option Zed :=
 some (.r0 : Zed)

inductive Zee where
 | r0

def ZfK  (N : Nat) : Option Zee :=
 some (.r0 : Zee)

inductive Zef where
 | r0

def ZfL  (N : Nat) : Option Zef :=
 some (.r0 : Zef)

inductive Zeg where
 | r0

def ZfM  (N : Nat) : Option Zeg :=
 some (.r0 : Zeg)

inductive Zeh where
 | r0

def ZfN  (N : Nat) : Option Zeh :=
 some (.r0 : Zeh)

inductive Zei where
 | r0

def ZfO  (N : Nat) : Option Zei :=
 some (.r0 : Zei)

inductive Zej where
 | r0

def ZfP  (N : Nat) : Option Zej :=
 some (.r0 : Zej)

inductive Zek where
 | r0

def ZfQ  (N : Nat) : Option Zek :=
 some (.r0 : Zek)

inductive Zel where
 | r0

def ZfR  (N : Nat) : Option Zel :=
 some (.r0 : Zel)

inductive Zbh where
 | r0
 | r1

def ZbS (a0 : Int) (a1 : Int) (N : Nat) : Option Zbh :=
 ((Zfz N).bind fun r => match r with
 | .r0 =>
  ((Zcl (a0) N).bind fun r => match r with
  | .r0 =>
   ((ZfI N).bind fun r => match r with
   | .r0 =>
    ((ZfJ N).bind fun r => match r with
    | .r0 =>
     ((Zey N).bind fun r => match r with
     | .r0 =>
      ((ZbV (a1) N).bind fun r => match r with
      | .r0 =>
       ((ZfK N).bind fun r => match r with
       | .r0 =>
        ((Zdw N).bind fun r => match r with
        | .r0 =>
         ((ZfL N).bind fun r => match r with
         | .r0 =>
          ((ZfM N).bind fun r => match r with
          | .r0 =>
           ((ZfN N).bind fun r => match r with
           | .r0 =>
            ((ZfO N).bind fun r => match r with
            | .r0 =>
             ((ZeE N).bind fun r => match r with
             | .r0 =>
              ((ZfP N).bind fun r => match r with
              | .r0 =>
               ((ZdK N).bind fun r => match r with
               | .r0 =>
                ((ZfQ N).bind fun r => match r with
                | .r0 =>
                 ((ZfR N).bind fun r => match r with
                 | .r0 =>
                  some (.r0 : Zbh)
                 )
                )
               )
              )
             )
            )
           )
          )
         )
        )
       )
      | .r1 =>
       some (.r1 : Zbh)
      )
     )
    )
   )
  | .r1 =>
   some (.r1 : Zbh)
  )
 )

inductive Zem where
 | r0

def ZeF  (N : Nat) : Option Zem :=
 some (.r0 : Zem)

inductive Zen where
 | r0

def ZeG  (N : Nat) : Option Zen :=
 some (.r0 : Zen)

inductive Zeo where
 | r0

def ZeH  (N : Nat) : Option Zeo :=
 some (.r0 : Zeo)

inductive Zep where
 | r0

def ZeI  (N : Nat) : Option Zep :=
 some (.r0 : Zep)

inductive Zeq where
 | r0

def ZfS  (N : Nat) : Option Zeq :=
 some (.r0 : Zeq)

inductive Zer where
 | r0

def ZfT  (N : Nat) : Option Zer :=
 some (.r0 : Zer)

inductive Zes where
 | r0

def ZfU  (N : Nat) : Option Zes :=
 some (.r0 : Zes)

inductive Zet where
 | r0

def ZfV  (N : Nat) : Option Zet :=
 some (.r0 : Zet)

inductive ZaE where
 | r0
 | r1

def ZbT (a0 : Int) (a1 : Int) (a2 : Int) (N : Nat) : Option ZaE :=
 ((Zfz N).bind fun r => match r with
 | .r0 =>
  ((Zcl (a0) N).bind fun r => match r with
  | .r0 =>
   ((Zey N).bind fun r => match r with
   | .r0 =>
    ((ZbV (a1) N).bind fun r => match r with
    | .r0 =>
     ((ZeF N).bind fun r => match r with
     | .r0 =>
      ((Zdw N).bind fun r => match r with
      | .r0 =>
       ((Zez N).bind fun r => match r with
       | .r0 =>
        ((ZeG N).bind fun r => match r with
        | .r0 =>
         ((ZeH N).bind fun r => match r with
         | .r0 =>
          ((ZcE (a2) N).bind fun r => match r with
          | .r0 =>
           ((ZeI N).bind fun r => match r with
           | .r0 =>
            ((ZfS N).bind fun r => match r with
            | .r0 =>
             ((ZfT N).bind fun r => match r with
             | .r0 =>
              ((ZfU N).bind fun r => match r with
              | .r0 =>
               ((ZeF N).bind fun r => match r with
               | .r0 =>
                ((Zdw N).bind fun r => match r with
                | .r0 =>
                 ((Zez N).bind fun r => match r with
                 | .r0 =>
                  ((ZeG N).bind fun r => match r with
                  | .r0 =>
                   ((ZeH N).bind fun r => match r with
                   | .r0 =>
                    ((ZfV N).bind fun r => match r with
                    | .r0 =>
                     ((ZeI N).bind fun r => match r with
                     | .r0 =>
                      ((ZdK N).bind fun r => match r with
                      | .r0 =>
                       some (.r0 : ZaE)
                      )
                     )
                    )
                   )
                  )
                 )
                )
               )
              )
             )
            )
           )
          | .r1 =>
           some (.r1 : ZaE)
          )
         )
        )
       )
      )
     )
    | .r1 =>
     some (.r1 : ZaE)
    )
   )
  | .r1 =>
   some (.r1 : ZaE)
  )
 )

inductive ZdM where
 | r0

def ZbX  (N : Nat) : Option ZdM :=
 some (.r0 : ZdM)

inductive ZO where
 | r0

def ZcF (a0 : Int) (a1 : Int) (N : Nat) : Option ZO :=
 ((ZcI (a0) (a1) N).bind fun r => match r with
 | .r0 =>
  ((Zcj (a0) (a1) N).bind fun r => match r with
  | .r0 y1_0 y1_1 y1_2 =>
   ((Zck (a0) N).bind fun r => match r with
   | .r0 =>
    ((ZbR (a0) N).bind fun r => match r with
    | .r0 y3_0 =>
     ((Zbj (a0) N).bind fun r => match r with
     | .r0 =>
      ((Zbo (a0) N).bind fun r => match r with
      | .r0 y5_0 y5_1 =>
       ((Zfg (a0) (a1) ((a0 % (8 : Int))) ((a0 % (8 : Int))) ((a0 % (8 : Int))) (a0) (a1) (y1_0) (y1_1) (y1_2) N).bind fun r => match r with
       | .r0 =>
        none
       | .r1 =>
        ((ZcN (a0) ((a0 % (8 : Int))) (a0) (y3_0) N).bind fun r => match r with
        | .r0 =>
         none
        | .r1 =>
         ((ZcO (a0) ((a0 % (8 : Int))) ((a0 % (8 : Int))) (a0) (y5_0) (y5_1) N).bind fun r => match r with
         | .r0 =>
          none
         | .r1 =>
          ((ZdL (a0) (a1) ((a0 % (8 : Int))) ((a0 % (8 : Int))) ((a0 % (8 : Int))) N).bind fun r => match r with
          | .r0 =>
           ((ZbS (a0) ((a0 % (8 : Int))) N).bind fun r => match r with
           | .r0 =>
            ((ZbT (a0) ((a0 % (8 : Int))) ((a0 % (8 : Int))) N).bind fun r => match r with
            | .r0 =>
             some (.r0 : ZO)
            | .r1 =>
             none
            )
           | .r1 =>
            none
           )
          | .r1 =>
           none
          )
         )
        )
       )
      | .r1 =>
       none
      )
     | .r1 =>
      none
     | .r2 =>
      none
     )
    | .r1 =>
     none
    )
   | .r1 =>
    none
   | .r2 =>
    none
   )
  | .r1 =>
   none
  )
 | .r1 =>
  none
 | .r2 =>
  ((Zcj (a0) (a1) N).bind fun r => match r with
  | .r0 _ _ _ =>
   none
  | .r1 =>
   ((Zck (a0) N).bind fun r => match r with
   | .r0 =>
    ((ZbR (a0) N).bind fun r => match r with
    | .r0 y3_0 =>
     ((Zbj (a0) N).bind fun r => match r with
     | .r0 =>
      ((Zbo (a0) N).bind fun r => match r with
      | .r0 y5_0 y5_1 =>
       ((ZbX N).bind fun r => match r with
       | .r0 =>
        ((ZcN (a0) ((a0 % (8 : Int))) (a0) (y3_0) N).bind fun r => match r with
        | .r0 =>
         none
        | .r1 =>
         ((ZcO (a0) ((a0 % (8 : Int))) ((a0 % (8 : Int))) (a0) (y5_0) (y5_1) N).bind fun r => match r with
         | .r0 =>
          none
         | .r1 =>
          ((ZbS (a0) ((a0 % (8 : Int))) N).bind fun r => match r with
          | .r0 =>
           ((ZbT (a0) ((a0 % (8 : Int))) ((a0 % (8 : Int))) N).bind fun r => match r with
           | .r0 =>
            some (.r0 : ZO)
           | .r1 =>
            none
           )
          | .r1 =>
           none
          )
         )
        )
       )
      | .r1 =>
       none
      )
     | .r1 =>
      none
     | .r2 =>
      none
     )
    | .r1 =>
     none
    )
   | .r1 =>
    none
   | .r2 =>
    ((ZbR (a0) N).bind fun r => match r with
    | .r0 _ =>
     none
    | .r1 =>
     ((Zbj (a0) N).bind fun r => match r with
     | .r0 =>
      none
     | .r1 =>
      none
     | .r2 =>
      ((Zbo (a0) N).bind fun r => match r with
      | .r0 _ _ =>
       none
      | .r1 =>
       ((ZbX N).bind fun r => match r with
       | .r0 =>
        ((ZbX N).bind fun r => match r with
        | .r0 =>
         ((ZbX N).bind fun r => match r with
         | .r0 =>
          some (.r0 : ZO)
         )
        )
       )
      )
     )
    )
   )
  )
 )
end Ev
end Go.Proofs.YtaajdoclloamlaaGreat
/- How records are written, and which functions are told. -/
namespace Go.Proofs.YtaajdoclloamlaaGreat
open Go.RowKit
namespace Ev
set_option linter.unusedVariables false
def Zwu : FuncId → Option (List Value → Option Value) := fun f =>
 bif Nat.beq f 14 then some (fun l => match l with | [] => some (.bool true) | _ => none) else
 none
theorem ZwW (w : World) : Calls Tryz.prog 14 #[] w (Ret (.bool true) w) := ZwJ (Zsl 1000 .r0 (by rfl)) [] rfl ZvE Zv8 rfl
theorem Zyf : Zrm Zwu := fun f g h => by
 unfold Zwu at h
 cases hb : Nat.beq f 14 with
 | true =>
  rw [hb] at h
  obtain rfl := Nat.eq_of_beq_eq_true hb
  simp only [cond_true, Option.some.injEq] at h
  subst h
  refine ⟨⟨_, _, Tryz.func14, rfl⟩, fun args v ha hv w => ?_⟩
  obtain ⟨l⟩ := args
  cases l with
  | nil =>
   change some (Value.bool true) = some v at hv
   injection hv with hv
   subst hv
   exact ZwW w
  | cons x l => change (none : Option Value) = some v at hv; cases hv
 | false =>
  rw [hb] at h
  simp only [cond_false] at h
  cases h
def ZxD : FuncId → Bool := fun f => Nat.beq f 3 || Nat.beq f 30 || Nat.beq f 10 || Nat.beq f 13 || Nat.beq f 9 || Nat.beq f 7 || Nat.beq f 5 || Nat.beq f 8 || Nat.beq f 6 || Nat.beq f 4 || Nat.beq f 27
noncomputable def Zyg : FuncId → Option Ext := ZuH (Zwm Zwu) ZxD
theorem Zj : Fit Tryz.prog Zyg := fitT (Zxv Zyf) (fun f h => by
 simp only [ZxD, Bool.or_eq_true] at h
 simp only [Nat.beq_eq] at h
 rcases h with (((((((((rfl | rfl) | rfl) | rfl) | rfl) | rfl) | rfl) | rfl) | rfl) | rfl) | rfl
 ·exact ⟨_, _, Tryz.func3, rfl⟩
 ·exact ⟨_, _, Tryz.func30, rfl⟩
 ·exact ⟨_, _, Tryz.func10, rfl⟩
 ·exact ⟨_, _, Tryz.func13, rfl⟩
 ·exact ⟨_, _, Tryz.func9, rfl⟩
 ·exact ⟨_, _, Tryz.func7, rfl⟩
 ·exact ⟨_, _, Tryz.func5, rfl⟩
 ·exact ⟨_, _, Tryz.func8, rfl⟩
 ·exact ⟨_, _, Tryz.func6, rfl⟩
 ·exact ⟨_, _, Tryz.func4, rfl⟩
 ·exact ⟨_, _, Tryz.func27, rfl⟩
 )
end Ev
end Go.Proofs.YtaajdoclloamlaaGreat
