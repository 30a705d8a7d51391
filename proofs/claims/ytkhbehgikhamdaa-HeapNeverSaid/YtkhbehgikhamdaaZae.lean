/- Part 5. -/
import Derived.Test.YtkhbehgikhamdaaZad
/- Calls do what the plain functions say. -/
namespace Go.Proofs.Ytkhbehgikhamdaa
open Go.RowKit
namespace Ev
set_option linter.unusedVariables false
set_option maxRecDepth 100000
theorem Zer (a0 a1 a2 : Int) (v2 : List R_ii) (v3 v5 N : Nat) : (Zd a0 a1 a2 N).Ok Try.prog Zk (.h1m28 v2 v3 v5 : Zb) (Zf a0 a1 a2 N (.h1m28 v2 v3 v5 : Zb)) := by
 show (Zd a0 a1 a2 N).Ok Try.prog Zk (.h1m28 v2 v3 v5 : Zb) (Zag a0 a1 a2 N v2 v3 v5)
 unfold Zag
 refine Mach.ok_ite (fun g0 => ?_) (fun g0 => ?_)
 ·
  refine Mach.ok_ite (fun g1 => ?_) (fun g1 => ?_)
  ·
   refine Mach.ok_ite (fun g2 => ?_) (fun g2 => ?_)
   ·
    refine Mach.ok_ite (fun g3 => ?_) (fun g3 => ?_)
    ·
     refine Mach.ok_ite (fun g4 => ?_) (fun g4 => ?_)
     ·
      refine Mach.ok_ite (fun g5 => ?_) (fun g5 => ?_)
      ·
       refine Mach.ok_ite (fun g6 => ?_) (fun g6 => ?_)
       ·
        exact Mach.ok_head (bK := Ze 2) (M := Zd a0 a1 a2 N) (cd := 1000000) (cm := 0) (y := (.h2m28 (v2) (v3) (0) ((((((v5 + 1) : Nat) : Int) * (1048576 : Int)) + (18 : Int))) ((v5 + 1)) : Zb)) (fu := 4000) (orc := (ZO [(0, true), (38, true), (39, true), (49, true), (50, true), (51, true), (52, true), (53, true), (54, true), (57, false), (59, true), (60, true), (61, true), (62, true), (63, true), (67, true), (68, true), (69, true), (70, true), (71, true), (73, false)] [(0, a1), (1, (a1 % (10 : Int))), (2, ((1 : Int) + (a1 % (10 : Int)))), (7, (((v5 + 1) : Nat) : Int)), (61, ((((v5 + 1) : Nat) : Int) * (1048576 : Int))), (62, (((((v5 + 1) : Nat) : Int) * (1048576 : Int)) + (18 : Int))), (64, ((((((v5 + 1) : Nat) : Int) * (1048576 : Int)) + (18 : Int)) / (1048576 : Int))), (65, ((((((v5 + 1) : Nat) : Int) * (1048576 : Int)) + (18 : Int)) % (1048576 : Int))), (66, ((((((v5 + 1) : Nat) : Int) * (1048576 : Int)) + (18 : Int)) / (1048576 : Int))), (67, ((((((v5 + 1) : Nat) : Int) * (1048576 : Int)) + (18 : Int)) % (1048576 : Int))), (68, (18 : Int)), (70, ((((((v5 + 1) : Nat) : Int) * (1048576 : Int)) + (18 : Int)) / (1048576 : Int))), (71, ((((((v5 + 1) : Nat) : Int) * (1048576 : Int)) + (18 : Int)) % (1048576 : Int))), (72, ((((((v5 + 1) : Nat) : Int) * (1048576 : Int)) + (18 : Int)) / (1048576 : Int)))] [] [] [])) (live := [0, 1, 22, 2, 3, 4]) (tv := fun _ => [some (Value.int .u8 a1), some (vi a2), some (vp 0 0), some (vi (13 : Int)), some (vs 1 0 v2.length v2.length), some (vi (v3 : Int)), some (vp 22 0), some (vq)]) (bl := [some (.cells [vi (400 : Int), vs 2 0 31 31, vs 3 0 31 31, vn, vn, vn, vn, vn, vn, vn, vn, vn, vn, vn, vn, vn, vs 4 0 0 1, vn, vn, vn] 48), some (.cells (Zr Zp v2) 30), some (.cells [vi (2 : Int), vi (((((v5 + 1) : Nat) : Int) * (1048576 : Int)) + (18 : Int))] 30), some (.cells [vi (1 : Int), vi (16 : Int), vi (255 : Int), vi (2 : Int), vq, vq, vq, vq, vq, vq, vq, vq, vq, vq, vq, vq, vq, vq, vq, vq, vq, vq, vq, vq, vq, vq, vq, vq, vq, vq, vq, vq, vq, vq, vq, vq, vq, vq, vq, vq, vq, vq, vq, vq, vq, vq, vq, vq, vq, vq, vq, vq, vq, vq, vq, vq, vq, vq, vq, vq, vq, vq, vq, vq, vq, vq, vq, vq, vq, vq, vq, vq, vq, vq, vq, vq, vq, vq, vq, vq, vq, vq, vq, vq, vq, vi (((v5 + 1) : Nat) : Int), vi (13 : Int), vq, vi (1 : Int), vq, vq, vq, vq, vq, vq, vq, vq, vq, vq, vq, vq, vq, vq, vq, vq, vq, vq, vq, vq, vq, vq, vq, vq, vq, vq, vq, vq, vq, vq, vq, vq, vq, vq, vq, vq, vq, vq, vq, vq, vq, vq, vq, vq, vq, vq, vq, vq, vq, vq, vq, vq, vq, vq, vq, vq, vq, vq, vq, vq, vq, vq, vq, vq, vq, vq] 38), some (.cells [vq, vq, vi (2 : Int), vq, vi (2 : Int), vq, vi (2 : Int), vq, vi (2 : Int), vq, vi (2 : Int), vq, vi (2 : Int), vq, vi (2 : Int), vq, vi (2 : Int), vq, vi (1 : Int), vq, vi (1 : Int), vq, vi (1 : Int), vq, vi (1 : Int), vq, vi (1 : Int), vq, vi (1 : Int), vq, vi (1 : Int), vq, vi (1 : Int), vq, vq, vq, vi (1 : Int), vq, vi (1 : Int), vq, vi (1 : Int), vq, vi (1 : Int), vq, vi (1 : Int), vq, vi (1 : Int), vq, vi (1 : Int), vq, vi (1 : Int), vq, vi (1 : Int), vq, vi (1 : Int), vq, vi (1 : Int), vq, vi (1 : Int), vq, vi (1 : Int), vi a2] 30), some (.cells [vi (18 : Int)] 3)]) (ob := (Zx a1 v2 v3 v5)) rfl rfl (show ∀ j ∈ Zl (Ze 2).2, j ∈ Zl (Zh 1) from by decide +kernel) (fun gv => by kernel_rfl) (Z5 a1 v2 v3 v5 g0 g1 g2 g3 g4 g5 g6) rfl (by decide) (by rfl) (fun _ => ⟨rr, ⟨rr, ⟨rr, ⟨rr, ⟨rr, ⟨rr, ⟨rr, ⟨⟨Eq.trans (show (vi ((0 : Nat) : Int) : Value) = vq from (congrArg (Value.int .i64) (by first | rfl | omega))) (by rfl), by rfl⟩, trivial⟩⟩⟩⟩⟩⟩⟩⟩) ⟨⟨rfl, ⟨[], by rfl⟩, by rfl⟩, ⟨(Zu (E := Zp) (α := R_ii) _ v2 _), ⟨⟨rfl, ⟨[], by rfl⟩, by rfl⟩, ⟨⟨rfl, ⟨[], by rfl⟩, by rfl⟩, ⟨⟨rfl, ⟨[], by rfl⟩, by rfl⟩, ⟨⟨rfl, ⟨[], by rfl⟩, by rfl⟩, trivial⟩⟩⟩⟩⟩⟩
       ·
        exact Mach.ok_fin (M := Zd a0 a1 a2 N) (cd := 1000000) (cm := 0) (r := (.r0 : Zg)) (fu := 4000) (orc := (ZO [(0, false), (38, true), (39, true), (48, true), (49, true), (50, true), (51, true), (52, true), (53, true), (56, false), (58, true), (59, true), (60, true), (61, true), (62, true), (66, true), (67, true), (68, true), (69, true), (70, true), (72, false)] [(0, a1), (1, (a1 % (10 : Int))), (2, ((1 : Int) + (a1 % (10 : Int)))), (7, (((v5 + 1) : Nat) : Int)), (61, ((((v5 + 1) : Nat) : Int) * (1048576 : Int))), (62, (((((v5 + 1) : Nat) : Int) * (1048576 : Int)) + (18 : Int))), (64, ((((((v5 + 1) : Nat) : Int) * (1048576 : Int)) + (18 : Int)) / (1048576 : Int))), (65, ((((((v5 + 1) : Nat) : Int) * (1048576 : Int)) + (18 : Int)) % (1048576 : Int))), (66, ((((((v5 + 1) : Nat) : Int) * (1048576 : Int)) + (18 : Int)) / (1048576 : Int))), (67, ((((((v5 + 1) : Nat) : Int) * (1048576 : Int)) + (18 : Int)) % (1048576 : Int))), (68, (18 : Int)), (70, ((((((v5 + 1) : Nat) : Int) * (1048576 : Int)) + (18 : Int)) / (1048576 : Int))), (71, ((((((v5 + 1) : Nat) : Int) * (1048576 : Int)) + (18 : Int)) % (1048576 : Int))), (72, ((((((v5 + 1) : Nat) : Int) * (1048576 : Int)) + (18 : Int)) / (1048576 : Int)))] [] [] [])) (live := []) (u := vT) (bl := []) (ob := (Zy a1 v2 v3 v5)) (fun gv => by kernel_rfl) (Z6 a1 v2 v3 v5 g0 g1 g2 g3 g4 g5 g6) rfl (by decide) (by rfl) rr trivial
      ·
       exact Mach.ok_none
     ·
      exact Mach.ok_none
    ·
     exact Mach.ok_none
   ·
    exact Mach.ok_none
  ·
   exact Mach.ok_none
 ·
  exact Mach.ok_none

theorem Zes (a0 a1 a2 : Int) (v2 : List R_ii) (v3 v5 N : Nat) : (Zd a0 a1 a2 N).Ok Try.prog Zk (.h1m29 v2 v3 v5 : Zb) (Zf a0 a1 a2 N (.h1m29 v2 v3 v5 : Zb)) := by
 show (Zd a0 a1 a2 N).Ok Try.prog Zk (.h1m29 v2 v3 v5 : Zb) (Zah a0 a1 a2 N v2 v3 v5)
 unfold Zah
 refine Mach.ok_ite (fun g0 => ?_) (fun g0 => ?_)
 ·
  refine Mach.ok_ite (fun g1 => ?_) (fun g1 => ?_)
  ·
   refine Mach.ok_ite (fun g2 => ?_) (fun g2 => ?_)
   ·
    refine Mach.ok_ite (fun g3 => ?_) (fun g3 => ?_)
    ·
     refine Mach.ok_ite (fun g4 => ?_) (fun g4 => ?_)
     ·
      refine Mach.ok_ite (fun g5 => ?_) (fun g5 => ?_)
      ·
       refine Mach.ok_ite (fun g6 => ?_) (fun g6 => ?_)
       ·
        exact Mach.ok_head (bK := Ze 2) (M := Zd a0 a1 a2 N) (cd := 1000000) (cm := 0) (y := (.h2m29 (v2) (v3) (0) ((((((v5 + 1) : Nat) : Int) * (1048576 : Int)) + (18 : Int))) ((v5 + 1)) : Zb)) (fu := 4000) (orc := (ZO [(0, true), (40, true), (41, true), (51, true), (52, true), (53, true), (54, true), (55, true), (56, true), (59, false), (61, true), (62, true), (63, true), (64, true), (65, true), (69, true), (70, true), (71, true), (72, true), (73, true), (75, false)] [(0, a1), (1, (a1 % (10 : Int))), (2, ((1 : Int) + (a1 % (10 : Int)))), (7, (((v5 + 1) : Nat) : Int)), (65, ((((v5 + 1) : Nat) : Int) * (1048576 : Int))), (66, (((((v5 + 1) : Nat) : Int) * (1048576 : Int)) + (18 : Int))), (68, ((((((v5 + 1) : Nat) : Int) * (1048576 : Int)) + (18 : Int)) / (1048576 : Int))), (69, ((((((v5 + 1) : Nat) : Int) * (1048576 : Int)) + (18 : Int)) % (1048576 : Int))), (70, ((((((v5 + 1) : Nat) : Int) * (1048576 : Int)) + (18 : Int)) / (1048576 : Int))), (71, ((((((v5 + 1) : Nat) : Int) * (1048576 : Int)) + (18 : Int)) % (1048576 : Int))), (72, (18 : Int)), (74, ((((((v5 + 1) : Nat) : Int) * (1048576 : Int)) + (18 : Int)) / (1048576 : Int))), (75, ((((((v5 + 1) : Nat) : Int) * (1048576 : Int)) + (18 : Int)) % (1048576 : Int))), (76, ((((((v5 + 1) : Nat) : Int) * (1048576 : Int)) + (18 : Int)) / (1048576 : Int)))] [] [] [])) (live := [0, 1, 23, 2, 3, 4]) (tv := fun _ => [some (Value.int .u8 a1), some (vi a2), some (vp 0 0), some (vi (14 : Int)), some (vs 1 0 v2.length v2.length), some (vi (v3 : Int)), some (vp 23 0), some (vq)]) (bl := [some (.cells [vi (400 : Int), vs 2 0 32 32, vs 3 0 32 32, vn, vn, vn, vn, vn, vn, vn, vn, vn, vn, vn, vn, vn, vn, vs 4 0 0 1, vn, vn] 48), some (.cells (Zr Zp v2) 30), some (.cells [vi (2 : Int), vi (((((v5 + 1) : Nat) : Int) * (1048576 : Int)) + (18 : Int))] 30), some (.cells [vi (1 : Int), vi (16 : Int), vi (255 : Int), vi (2 : Int), vq, vq, vq, vq, vq, vq, vq, vq, vq, vq, vq, vq, vq, vq, vq, vq, vq, vq, vq, vq, vq, vq, vq, vq, vq, vq, vq, vq, vq, vq, vq, vq, vq, vq, vq, vq, vq, vq, vq, vq, vq, vq, vq, vq, vq, vq, vq, vq, vq, vq, vq, vq, vq, vq, vq, vq, vq, vq, vq, vq, vq, vq, vq, vq, vq, vq, vq, vq, vq, vq, vq, vq, vq, vq, vq, vq, vq, vq, vq, vq, vq, vi (((v5 + 1) : Nat) : Int), vi (14 : Int), vq, vi (1 : Int), vq, vq, vq, vq, vq, vq, vq, vq, vq, vq, vq, vq, vq, vq, vq, vq, vq, vq, vq, vq, vq, vq, vq, vq, vq, vq, vq, vq, vq, vq, vq, vq, vq, vq, vq, vq, vq, vq, vq, vq, vq, vq, vq, vq, vq, vq, vq, vq, vq, vq, vq, vq, vq, vq, vq, vq, vq, vq, vq, vq, vq, vq, vq, vq, vq, vq, vq, vq, vq, vq, vq] 38), some (.cells [vq, vq, vi (2 : Int), vq, vi (2 : Int), vq, vi (2 : Int), vq, vi (2 : Int), vq, vi (2 : Int), vq, vi (2 : Int), vq, vi (2 : Int), vq, vi (2 : Int), vq, vi (1 : Int), vq, vi (1 : Int), vq, vi (1 : Int), vq, vi (1 : Int), vq, vi (1 : Int), vq, vi (1 : Int), vq, vi (1 : Int), vq, vi (1 : Int), vq, vq, vq, vi (1 : Int), vq, vi (1 : Int), vq, vi (1 : Int), vq, vi (1 : Int), vq, vi (1 : Int), vq, vi (1 : Int), vq, vi (1 : Int), vq, vi (1 : Int), vq, vi (1 : Int), vq, vi (1 : Int), vq, vi (1 : Int), vq, vi (1 : Int), vq, vi (1 : Int), vq, vi (1 : Int), vi a2] 30), some (.cells [vi (18 : Int)] 3)]) (ob := (Zx a1 v2 v3 v5)) rfl rfl (show ∀ j ∈ Zl (Ze 2).2, j ∈ Zl (Zh 1) from by decide +kernel) (fun gv => by kernel_rfl) (Z5 a1 v2 v3 v5 g0 g1 g2 g3 g4 g5 g6) rfl (by decide) (by rfl) (fun _ => ⟨rr, ⟨rr, ⟨rr, ⟨rr, ⟨rr, ⟨rr, ⟨rr, ⟨⟨Eq.trans (show (vi ((0 : Nat) : Int) : Value) = vq from (congrArg (Value.int .i64) (by first | rfl | omega))) (by rfl), by rfl⟩, trivial⟩⟩⟩⟩⟩⟩⟩⟩) ⟨⟨rfl, ⟨[], by rfl⟩, by rfl⟩, ⟨(Zu (E := Zp) (α := R_ii) _ v2 _), ⟨⟨rfl, ⟨[], by rfl⟩, by rfl⟩, ⟨⟨rfl, ⟨[], by rfl⟩, by rfl⟩, ⟨⟨rfl, ⟨[], by rfl⟩, by rfl⟩, ⟨⟨rfl, ⟨[], by rfl⟩, by rfl⟩, trivial⟩⟩⟩⟩⟩⟩
       ·
        exact Mach.ok_fin (M := Zd a0 a1 a2 N) (cd := 1000000) (cm := 0) (r := (.r0 : Zg)) (fu := 4000) (orc := (ZO [(0, false), (40, true), (41, true), (50, true), (51, true), (52, true), (53, true), (54, true), (55, true), (58, false), (60, true), (61, true), (62, true), (63, true), (64, true), (68, true), (69, true), (70, true), (71, true), (72, true), (74, false)] [(0, a1), (1, (a1 % (10 : Int))), (2, ((1 : Int) + (a1 % (10 : Int)))), (7, (((v5 + 1) : Nat) : Int)), (65, ((((v5 + 1) : Nat) : Int) * (1048576 : Int))), (66, (((((v5 + 1) : Nat) : Int) * (1048576 : Int)) + (18 : Int))), (68, ((((((v5 + 1) : Nat) : Int) * (1048576 : Int)) + (18 : Int)) / (1048576 : Int))), (69, ((((((v5 + 1) : Nat) : Int) * (1048576 : Int)) + (18 : Int)) % (1048576 : Int))), (70, ((((((v5 + 1) : Nat) : Int) * (1048576 : Int)) + (18 : Int)) / (1048576 : Int))), (71, ((((((v5 + 1) : Nat) : Int) * (1048576 : Int)) + (18 : Int)) % (1048576 : Int))), (72, (18 : Int)), (74, ((((((v5 + 1) : Nat) : Int) * (1048576 : Int)) + (18 : Int)) / (1048576 : Int))), (75, ((((((v5 + 1) : Nat) : Int) * (1048576 : Int)) + (18 : Int)) % (1048576 : Int))), (76, ((((((v5 + 1) : Nat) : Int) * (1048576 : Int)) + (18 : Int)) / (1048576 : Int)))] [] [] [])) (live := []) (u := vT) (bl := []) (ob := (Zy a1 v2 v3 v5)) (fun gv => by kernel_rfl) (Z6 a1 v2 v3 v5 g0 g1 g2 g3 g4 g5 g6) rfl (by decide) (by rfl) rr trivial
      ·
       exact Mach.ok_none
     ·
      exact Mach.ok_none
    ·
     exact Mach.ok_none
   ·
    exact Mach.ok_none
  ·
   exact Mach.ok_none
 ·
  exact Mach.ok_none

theorem Zet (a0 a1 a2 : Int) (v2 : List R_ii) (v3 v5 N : Nat) : (Zd a0 a1 a2 N).Ok Try.prog Zk (.h1m30 v2 v3 v5 : Zb) (Zf a0 a1 a2 N (.h1m30 v2 v3 v5 : Zb)) := by
 show (Zd a0 a1 a2 N).Ok Try.prog Zk (.h1m30 v2 v3 v5 : Zb) (Zai a0 a1 a2 N v2 v3 v5)
 unfold Zai
 refine Mach.ok_ite (fun g0 => ?_) (fun g0 => ?_)
 ·
  refine Mach.ok_ite (fun g1 => ?_) (fun g1 => ?_)
  ·
   refine Mach.ok_ite (fun g2 => ?_) (fun g2 => ?_)
   ·
    refine Mach.ok_ite (fun g3 => ?_) (fun g3 => ?_)
    ·
     refine Mach.ok_ite (fun g4 => ?_) (fun g4 => ?_)
     ·
      refine Mach.ok_ite (fun g5 => ?_) (fun g5 => ?_)
      ·
       refine Mach.ok_ite (fun g6 => ?_) (fun g6 => ?_)
       ·
        exact Mach.ok_head (bK := Ze 2) (M := Zd a0 a1 a2 N) (cd := 1000000) (cm := 0) (y := (.h2m30 (v2) (v3) (0) ((((((v5 + 1) : Nat) : Int) * (1048576 : Int)) + (18 : Int))) ((v5 + 1)) : Zb)) (fu := 4000) (orc := (ZO [(0, true), (42, true), (43, true), (53, true), (54, true), (55, true), (56, true), (57, true), (58, true), (61, false), (63, true), (64, true), (65, true), (66, true), (67, true), (71, true), (72, true), (73, true), (74, true), (75, true), (77, false)] [(0, a1), (1, (a1 % (10 : Int))), (2, ((1 : Int) + (a1 % (10 : Int)))), (7, (((v5 + 1) : Nat) : Int)), (69, ((((v5 + 1) : Nat) : Int) * (1048576 : Int))), (70, (((((v5 + 1) : Nat) : Int) * (1048576 : Int)) + (18 : Int))), (72, ((((((v5 + 1) : Nat) : Int) * (1048576 : Int)) + (18 : Int)) / (1048576 : Int))), (73, ((((((v5 + 1) : Nat) : Int) * (1048576 : Int)) + (18 : Int)) % (1048576 : Int))), (74, ((((((v5 + 1) : Nat) : Int) * (1048576 : Int)) + (18 : Int)) / (1048576 : Int))), (75, ((((((v5 + 1) : Nat) : Int) * (1048576 : Int)) + (18 : Int)) % (1048576 : Int))), (76, (18 : Int)), (78, ((((((v5 + 1) : Nat) : Int) * (1048576 : Int)) + (18 : Int)) / (1048576 : Int))), (79, ((((((v5 + 1) : Nat) : Int) * (1048576 : Int)) + (18 : Int)) % (1048576 : Int))), (80, ((((((v5 + 1) : Nat) : Int) * (1048576 : Int)) + (18 : Int)) / (1048576 : Int)))] [] [] [])) (live := [0, 1, 24, 2, 3, 4]) (tv := fun _ => [some (Value.int .u8 a1), some (vi a2), some (vp 0 0), some (vi (15 : Int)), some (vs 1 0 v2.length v2.length), some (vi (v3 : Int)), some (vp 24 0), some (vq)]) (bl := [some (.cells [vi (400 : Int), vs 2 0 33 33, vs 3 0 33 33, vn, vn, vn, vn, vn, vn, vn, vn, vn, vn, vn, vn, vn, vn, vn, vs 4 0 0 1, vn] 48), some (.cells (Zr Zp v2) 30), some (.cells [vi (2 : Int), vi (((((v5 + 1) : Nat) : Int) * (1048576 : Int)) + (18 : Int))] 30), some (.cells [vi (1 : Int), vi (16 : Int), vi (255 : Int), vi (2 : Int), vq, vq, vq, vq, vq, vq, vq, vq, vq, vq, vq, vq, vq, vq, vq, vq, vq, vq, vq, vq, vq, vq, vq, vq, vq, vq, vq, vq, vq, vq, vq, vq, vq, vq, vq, vq, vq, vq, vq, vq, vq, vq, vq, vq, vq, vq, vq, vq, vq, vq, vq, vq, vq, vq, vq, vq, vq, vq, vq, vq, vq, vq, vq, vq, vq, vq, vq, vq, vq, vq, vq, vq, vq, vq, vq, vq, vq, vq, vq, vq, vq, vi (((v5 + 1) : Nat) : Int), vi (15 : Int), vq, vi (1 : Int), vq, vq, vq, vq, vq, vq, vq, vq, vq, vq, vq, vq, vq, vq, vq, vq, vq, vq, vq, vq, vq, vq, vq, vq, vq, vq, vq, vq, vq, vq, vq, vq, vq, vq, vq, vq, vq, vq, vq, vq, vq, vq, vq, vq, vq, vq, vq, vq, vq, vq, vq, vq, vq, vq, vq, vq, vq, vq, vq, vq, vq, vq, vq, vq, vq, vq, vq, vq, vq, vq, vq, vq, vq, vq, vq, vq] 38), some (.cells [vq, vq, vi (2 : Int), vq, vi (2 : Int), vq, vi (2 : Int), vq, vi (2 : Int), vq, vi (2 : Int), vq, vi (2 : Int), vq, vi (2 : Int), vq, vi (2 : Int), vq, vi (1 : Int), vq, vi (1 : Int), vq, vi (1 : Int), vq, vi (1 : Int), vq, vi (1 : Int), vq, vi (1 : Int), vq, vi (1 : Int), vq, vi (1 : Int), vq, vq, vq, vi (1 : Int), vq, vi (1 : Int), vq, vi (1 : Int), vq, vi (1 : Int), vq, vi (1 : Int), vq, vi (1 : Int), vq, vi (1 : Int), vq, vi (1 : Int), vq, vi (1 : Int), vq, vi (1 : Int), vq, vi (1 : Int), vq, vi (1 : Int), vq, vi (1 : Int), vq, vi (1 : Int), vq, vi (1 : Int), vi a2] 30), some (.cells [vi (18 : Int)] 3)]) (ob := (Zx a1 v2 v3 v5)) rfl rfl (show ∀ j ∈ Zl (Ze 2).2, j ∈ Zl (Zh 1) from by decide +kernel) (fun gv => by kernel_rfl) (Z5 a1 v2 v3 v5 g0 g1 g2 g3 g4 g5 g6) rfl (by decide) (by rfl) (fun _ => ⟨rr, ⟨rr, ⟨rr, ⟨rr, ⟨rr, ⟨rr, ⟨rr, ⟨⟨Eq.trans (show (vi ((0 : Nat) : Int) : Value) = vq from (congrArg (Value.int .i64) (by first | rfl | omega))) (by rfl), by rfl⟩, trivial⟩⟩⟩⟩⟩⟩⟩⟩) ⟨⟨rfl, ⟨[], by rfl⟩, by rfl⟩, ⟨(Zu (E := Zp) (α := R_ii) _ v2 _), ⟨⟨rfl, ⟨[], by rfl⟩, by rfl⟩, ⟨⟨rfl, ⟨[], by rfl⟩, by rfl⟩, ⟨⟨rfl, ⟨[], by rfl⟩, by rfl⟩, ⟨⟨rfl, ⟨[], by rfl⟩, by rfl⟩, trivial⟩⟩⟩⟩⟩⟩
       ·
        exact Mach.ok_fin (M := Zd a0 a1 a2 N) (cd := 1000000) (cm := 0) (r := (.r0 : Zg)) (fu := 4000) (orc := (ZO [(0, false), (42, true), (43, true), (52, true), (53, true), (54, true), (55, true), (56, true), (57, true), (60, false), (62, true), (63, true), (64, true), (65, true), (66, true), (70, true), (71, true), (72, true), (73, true), (74, true), (76, false)] [(0, a1), (1, (a1 % (10 : Int))), (2, ((1 : Int) + (a1 % (10 : Int)))), (7, (((v5 + 1) : Nat) : Int)), (69, ((((v5 + 1) : Nat) : Int) * (1048576 : Int))), (70, (((((v5 + 1) : Nat) : Int) * (1048576 : Int)) + (18 : Int))), (72, ((((((v5 + 1) : Nat) : Int) * (1048576 : Int)) + (18 : Int)) / (1048576 : Int))), (73, ((((((v5 + 1) : Nat) : Int) * (1048576 : Int)) + (18 : Int)) % (1048576 : Int))), (74, ((((((v5 + 1) : Nat) : Int) * (1048576 : Int)) + (18 : Int)) / (1048576 : Int))), (75, ((((((v5 + 1) : Nat) : Int) * (1048576 : Int)) + (18 : Int)) % (1048576 : Int))), (76, (18 : Int)), (78, ((((((v5 + 1) : Nat) : Int) * (1048576 : Int)) + (18 : Int)) / (1048576 : Int))), (79, ((((((v5 + 1) : Nat) : Int) * (1048576 : Int)) + (18 : Int)) % (1048576 : Int))), (80, ((((((v5 + 1) : Nat) : Int) * (1048576 : Int)) + (18 : Int)) / (1048576 : Int)))] [] [] [])) (live := []) (u := vT) (bl := []) (ob := (Zy a1 v2 v3 v5)) (fun gv => by kernel_rfl) (Z6 a1 v2 v3 v5 g0 g1 g2 g3 g4 g5 g6) rfl (by decide) (by rfl) rr trivial
      ·
       exact Mach.ok_none
     ·
      exact Mach.ok_none
    ·
     exact Mach.ok_none
   ·
    exact Mach.ok_none
  ·
   exact Mach.ok_none
 ·
  exact Mach.ok_none

theorem Zeu (a0 a1 a2 : Int) (v2 : List R_ii) (v3 v5 N : Nat) : (Zd a0 a1 a2 N).Ok Try.prog Zk (.h1m31 v2 v3 v5 : Zb) (Zf a0 a1 a2 N (.h1m31 v2 v3 v5 : Zb)) := by
 show (Zd a0 a1 a2 N).Ok Try.prog Zk (.h1m31 v2 v3 v5 : Zb) (Zaj a0 a1 a2 N v2 v3 v5)
 unfold Zaj
 refine Mach.ok_ite (fun g0 => ?_) (fun g0 => ?_)
 ·
  refine Mach.ok_ite (fun g1 => ?_) (fun g1 => ?_)
  ·
   refine Mach.ok_ite (fun g2 => ?_) (fun g2 => ?_)
   ·
    refine Mach.ok_ite (fun g3 => ?_) (fun g3 => ?_)
    ·
     refine Mach.ok_ite (fun g4 => ?_) (fun g4 => ?_)
     ·
      refine Mach.ok_ite (fun g5 => ?_) (fun g5 => ?_)
      ·
       refine Mach.ok_ite (fun g6 => ?_) (fun g6 => ?_)
       ·
        exact Mach.ok_head (bK := Ze 2) (M := Zd a0 a1 a2 N) (cd := 1000000) (cm := 0) (y := (.h2m31 (v2) (v3) (0) ((((((v5 + 1) : Nat) : Int) * (1048576 : Int)) + (18 : Int))) ((v5 + 1)) : Zb)) (fu := 4000) (orc := (ZO [(0, true), (44, true), (45, true), (55, true), (56, true), (57, true), (58, true), (59, true), (60, true), (63, false), (65, true), (66, true), (67, true), (68, true), (69, true), (73, true), (74, true), (75, true), (76, true), (77, true), (79, false)] [(0, a1), (1, (a1 % (10 : Int))), (2, ((1 : Int) + (a1 % (10 : Int)))), (7, (((v5 + 1) : Nat) : Int)), (73, ((((v5 + 1) : Nat) : Int) * (1048576 : Int))), (74, (((((v5 + 1) : Nat) : Int) * (1048576 : Int)) + (18 : Int))), (76, ((((((v5 + 1) : Nat) : Int) * (1048576 : Int)) + (18 : Int)) / (1048576 : Int))), (77, ((((((v5 + 1) : Nat) : Int) * (1048576 : Int)) + (18 : Int)) % (1048576 : Int))), (78, ((((((v5 + 1) : Nat) : Int) * (1048576 : Int)) + (18 : Int)) / (1048576 : Int))), (79, ((((((v5 + 1) : Nat) : Int) * (1048576 : Int)) + (18 : Int)) % (1048576 : Int))), (80, (18 : Int)), (82, ((((((v5 + 1) : Nat) : Int) * (1048576 : Int)) + (18 : Int)) / (1048576 : Int))), (83, ((((((v5 + 1) : Nat) : Int) * (1048576 : Int)) + (18 : Int)) % (1048576 : Int))), (84, ((((((v5 + 1) : Nat) : Int) * (1048576 : Int)) + (18 : Int)) / (1048576 : Int)))] [] [] [])) (live := [0, 1, 25, 2, 3, 4]) (tv := fun _ => [some (Value.int .u8 a1), some (vi a2), some (vp 0 0), some (vi (16 : Int)), some (vs 1 0 v2.length v2.length), some (vi (v3 : Int)), some (vp 25 0), some (vq)]) (bl := [some (.cells [vi (400 : Int), vs 2 0 34 34, vs 3 0 34 34, vn, vn, vn, vn, vn, vn, vn, vn, vn, vn, vn, vn, vn, vn, vn, vn, vs 4 0 0 1] 48), some (.cells (Zr Zp v2) 30), some (.cells [vi (2 : Int), vi (((((v5 + 1) : Nat) : Int) * (1048576 : Int)) + (18 : Int))] 30), some (.cells [vi (1 : Int), vi (16 : Int), vi (255 : Int), vi (2 : Int), vq, vq, vq, vq, vq, vq, vq, vq, vq, vq, vq, vq, vq, vq, vq, vq, vq, vq, vq, vq, vq, vq, vq, vq, vq, vq, vq, vq, vq, vq, vq, vq, vq, vq, vq, vq, vq, vq, vq, vq, vq, vq, vq, vq, vq, vq, vq, vq, vq, vq, vq, vq, vq, vq, vq, vq, vq, vq, vq, vq, vq, vq, vq, vq, vq, vq, vq, vq, vq, vq, vq, vq, vq, vq, vq, vq, vq, vq, vq, vq, vq, vi (((v5 + 1) : Nat) : Int), vi (16 : Int), vq, vi (1 : Int), vq, vq, vq, vq, vq, vq, vq, vq, vq, vq, vq, vq, vq, vq, vq, vq, vq, vq, vq, vq, vq, vq, vq, vq, vq, vq, vq, vq, vq, vq, vq, vq, vq, vq, vq, vq, vq, vq, vq, vq, vq, vq, vq, vq, vq, vq, vq, vq, vq, vq, vq, vq, vq, vq, vq, vq, vq, vq, vq, vq, vq, vq, vq, vq, vq, vq, vq, vq, vq, vq, vq, vq, vq, vq, vq, vq, vq, vq, vq, vq, vq] 38), some (.cells [vq, vq, vi (2 : Int), vq, vi (2 : Int), vq, vi (2 : Int), vq, vi (2 : Int), vq, vi (2 : Int), vq, vi (2 : Int), vq, vi (2 : Int), vq, vi (2 : Int), vq, vi (1 : Int), vq, vi (1 : Int), vq, vi (1 : Int), vq, vi (1 : Int), vq, vi (1 : Int), vq, vi (1 : Int), vq, vi (1 : Int), vq, vi (1 : Int), vq, vq, vq, vi (1 : Int), vq, vi (1 : Int), vq, vi (1 : Int), vq, vi (1 : Int), vq, vi (1 : Int), vq, vi (1 : Int), vq, vi (1 : Int), vq, vi (1 : Int), vq, vi (1 : Int), vq, vi (1 : Int), vq, vi (1 : Int), vq, vi (1 : Int), vq, vi (1 : Int), vq, vi (1 : Int), vq, vi (1 : Int), vq, vi (1 : Int), vi a2] 30), some (.cells [vi (18 : Int)] 3)]) (ob := (Zx a1 v2 v3 v5)) rfl rfl (show ∀ j ∈ Zl (Ze 2).2, j ∈ Zl (Zh 1) from by decide +kernel) (fun gv => by kernel_rfl) (Z5 a1 v2 v3 v5 g0 g1 g2 g3 g4 g5 g6) rfl (by decide) (by rfl) (fun _ => ⟨rr, ⟨rr, ⟨rr, ⟨rr, ⟨rr, ⟨rr, ⟨rr, ⟨⟨Eq.trans (show (vi ((0 : Nat) : Int) : Value) = vq from (congrArg (Value.int .i64) (by first | rfl | omega))) (by rfl), by rfl⟩, trivial⟩⟩⟩⟩⟩⟩⟩⟩) ⟨⟨rfl, ⟨[], by rfl⟩, by rfl⟩, ⟨(Zu (E := Zp) (α := R_ii) _ v2 _), ⟨⟨rfl, ⟨[], by rfl⟩, by rfl⟩, ⟨⟨rfl, ⟨[], by rfl⟩, by rfl⟩, ⟨⟨rfl, ⟨[], by rfl⟩, by rfl⟩, ⟨⟨rfl, ⟨[], by rfl⟩, by rfl⟩, trivial⟩⟩⟩⟩⟩⟩
       ·
        exact Mach.ok_fin (M := Zd a0 a1 a2 N) (cd := 1000000) (cm := 0) (r := (.r0 : Zg)) (fu := 4000) (orc := (ZO [(0, false), (44, true), (45, true), (54, true), (55, true), (56, true), (57, true), (58, true), (59, true), (62, false), (64, true), (65, true), (66, true), (67, true), (68, true), (72, true), (73, true), (74, true), (75, true), (76, true), (78, false)] [(0, a1), (1, (a1 % (10 : Int))), (2, ((1 : Int) + (a1 % (10 : Int)))), (7, (((v5 + 1) : Nat) : Int)), (73, ((((v5 + 1) : Nat) : Int) * (1048576 : Int))), (74, (((((v5 + 1) : Nat) : Int) * (1048576 : Int)) + (18 : Int))), (76, ((((((v5 + 1) : Nat) : Int) * (1048576 : Int)) + (18 : Int)) / (1048576 : Int))), (77, ((((((v5 + 1) : Nat) : Int) * (1048576 : Int)) + (18 : Int)) % (1048576 : Int))), (78, ((((((v5 + 1) : Nat) : Int) * (1048576 : Int)) + (18 : Int)) / (1048576 : Int))), (79, ((((((v5 + 1) : Nat) : Int) * (1048576 : Int)) + (18 : Int)) % (1048576 : Int))), (80, (18 : Int)), (82, ((((((v5 + 1) : Nat) : Int) * (1048576 : Int)) + (18 : Int)) / (1048576 : Int))), (83, ((((((v5 + 1) : Nat) : Int) * (1048576 : Int)) + (18 : Int)) % (1048576 : Int))), (84, ((((((v5 + 1) : Nat) : Int) * (1048576 : Int)) + (18 : Int)) / (1048576 : Int)))] [] [] [])) (live := []) (u := vT) (bl := []) (ob := (Zy a1 v2 v3 v5)) (fun gv => by kernel_rfl) (Z6 a1 v2 v3 v5 g0 g1 g2 g3 g4 g5 g6) rfl (by decide) (by rfl) rr trivial
      ·
       exact Mach.ok_none
     ·
      exact Mach.ok_none
    ·
     exact Mach.ok_none
   ·
    exact Mach.ok_none
  ·
   exact Mach.ok_none
 ·
  exact Mach.ok_none

noncomputable def Z7 : Orc := (ZO [(37, false)] [] [] [] [])

noncomputable abbrev Zz (a1 : Int) (a2 : Int) : List (Bool × Bool) := [((!(((1 : Int) == (1 : Int)) && ((a2 == a2) && true))), false)]
theorem Z8 (a1 a2 : Int) (g0 : (0 : Int) ≤ a1) (g1 : a1 ≤ (255 : Int)) : ∀ q ∈ Zz a1 a2, q.1 = q.2 :=
 (Zi (by rw [Bool.not_eq_false']; first | (simp only [beq_self_eq_true, Bool.and_self]; done) | (simp only [Bool.and_true, Bool.and_eq_true, beq_iff_eq] <;> first | omega | (simp_all; done) | grind)) Za0)

theorem Zfj (a0 a1 a2 : Int) (N : Nat) : (Zd a0 a1 a2 N).Ok Try.prog Zk (.h2m0 : Zb) (Zf a0 a1 a2 N (.h2m0 : Zb)) := by
 show (Zd a0 a1 a2 N).Ok Try.prog Zk (.h2m0 : Zb) (Zbb a0 a1 a2 N)
 unfold Zbb
 refine Mach.ok_ite (fun g0 => ?_) (fun g0 => ?_)
 ·
  refine Mach.ok_ite (fun g1 => ?_) (fun g1 => ?_)
  ·
   exact Mach.ok_next (M := Zd a0 a1 a2 N) (cd := 1000000) (cm := 0) (y := (.h1m16 (([(⟨(2 : Int), (1048594 : Int)⟩ : R_ii)] : List R_ii)) (1) (1) : Zb)) (fu := 4000) (orc := (Z7)) (live := [0, 25, 2, 3, 23]) (tv := fun _ => [some (Value.int .u8 a1), some (vi a2), some (vp 0 0), some (vi (1 : Int)), some (vs 25 0 1 1), some (vi (1 : Int))]) (bl := [some (.cells [vi (400 : Int), vs 2 0 19 19, vs 3 0 19 19, vn, vs 23 0 1 1, vn, vn, vn, vn, vn, vn, vn, vn, vn, vn, vn, vn, vn, vn, vn] 48), some (.cells [vi (2 : Int), vi (1048594 : Int)] 30), some (.cells [vi (1 : Int), vi (16 : Int), vi (255 : Int), vi (2 : Int), vq, vq, vq, vq, vq, vq, vq, vq, vq, vq, vq, vq, vq, vq, vq, vq, vq, vq, vq, vq, vq, vq, vq, vq, vq, vq, vq, vq, vq, vq, vq, vq, vq, vq, vq, vq, vq, vq, vq, vq, vq, vq, vq, vq, vq, vq, vq, vq, vq, vq, vq, vq, vq, vq, vq, vq, vq, vq, vq, vq, vq, vq, vq, vq, vq, vq, vq, vq, vq, vq, vq, vq, vq, vq, vq, vq, vq, vq, vq, vq, vq, vi (1 : Int), vi (1 : Int), vq, vq, vq, vq, vq, vq, vq, vq] 38), some (.cells [vq, vq, vi (2 : Int), vq, vi (2 : Int), vq, vi (2 : Int), vq, vi (2 : Int), vq, vi (2 : Int), vq, vi (2 : Int), vq, vi (2 : Int), vq, vi (2 : Int), vq, vi (1 : Int), vq, vi (1 : Int), vq, vi (1 : Int), vq, vi (1 : Int), vq, vi (1 : Int), vq, vi (1 : Int), vq, vi (1 : Int), vq, vi (1 : Int), vq, vq, vq, vi (1 : Int), vi a2] 30), some (.cells [vi (18 : Int)] 3)]) (ob := (Zz a1 a2)) rfl (show 1 ∈ Zl (Zh 2) from by decide +kernel) (fun gv => by kernel_rfl) (Z8 a1 a2 g0 g1) rfl (by decide) (by rfl) (fun _ => ⟨rr, ⟨rr, ⟨rr, ⟨rr, ⟨⟨Eq.trans (show (vs 1 0 ([(⟨(2 : Int), (1048594 : Int)⟩ : R_ii)] : List R_ii).length ([(⟨(2 : Int), (1048594 : Int)⟩ : R_ii)] : List R_ii).length : Value) = vs 1 0 1 1 from (ZF rfl eqA eqA)) (by rfl), by rfl⟩, ⟨⟨Eq.trans (show (vi ((1 : Nat) : Int) : Value) = vi (1 : Int) from (congrArg (Value.int .i64) (by first | rfl | omega))) (by rfl), by rfl⟩, trivial⟩⟩⟩⟩⟩⟩) ⟨⟨rfl, ⟨[], by rfl⟩, by rfl⟩, ⟨(ZT (E := Zp) _ (L := ([(⟨(2 : Int), (1048594 : Int)⟩ : R_ii)] : List R_ii)) _ (show ([vi (2 : Int), vi (1048594 : Int)] : List Value) = Zr Zp ([(⟨(2 : Int), (1048594 : Int)⟩ : R_ii)] : List R_ii) from rfl)), ⟨⟨rfl, ⟨[], (show ([vi (1 : Int), vi (16 : Int), vi (255 : Int), vi (2 : Int), vq, vq, vq, vq, vq, vq, vq, vq, vq, vq, vq, vq, vq, vq, vq, vq, vq, vq, vq, vq, vq, vq, vq, vq, vq, vq, vq, vq, vq, vq, vq, vq, vq, vq, vq, vq, vq, vq, vq, vq, vq, vq, vq, vq, vq, vq, vq, vq, vq, vq, vq, vq, vq, vq, vq, vq, vq, vq, vq, vq, vq, vq, vq, vq, vq, vq, vq, vq, vq, vq, vq, vq, vq, vq, vq, vq, vq, vq, vq, vq, vq, vi (1 : Int), vi (1 : Int), vq, vq, vq, vq, vq, vq, vq, vq] : List Value) = _ from (Za rfl (Za rfl (Za rfl (Za rfl (Za rfl (Za rfl (Za rfl (Za rfl (Za rfl (Za rfl (Za rfl (Za rfl (Za rfl (Za rfl (Za rfl (Za rfl (Za rfl (Za rfl (Za rfl (Za rfl (Za rfl (Za rfl (Za rfl (Za rfl (Za rfl (Za rfl (Za rfl (Za rfl (Za rfl (Za rfl (Za rfl (Za rfl (Za rfl (Za rfl (Za rfl (Za rfl (Za rfl (Za rfl (Za rfl (Za rfl (Za rfl (Za rfl (Za rfl (Za rfl (Za rfl (Za rfl (Za rfl (Za rfl (Za rfl (Za rfl (Za rfl (Za rfl (Za rfl (Za rfl (Za rfl (Za rfl (Za rfl (Za rfl (Za rfl (Za rfl (Za rfl (Za rfl (Za rfl (Za rfl (Za rfl (Za rfl (Za rfl (Za rfl (Za rfl (Za rfl (Za rfl (Za rfl (Za rfl (Za rfl (Za rfl (Za rfl (Za rfl (Za rfl (Za rfl (Za rfl (Za rfl (Za rfl (Za rfl (Za rfl (Za rfl (Za (congrArg (Value.int .i64) (by first | rfl | omega)) (Za rfl (Za rfl (Za rfl (Za rfl (Za rfl (Za rfl (Za rfl (Za rfl (Za rfl rfl))))))))))))))))))))))))))))))))))))))))))))))))))))))))))))))))))))))))))))))))))))))))))))))).symm)⟩, by rfl⟩, ⟨⟨rfl, ⟨[], by rfl⟩, by rfl⟩, ⟨⟨rfl, ⟨[], by rfl⟩, by rfl⟩, trivial⟩⟩⟩⟩⟩
  ·
   exact Mach.ok_none
 ·
  exact Mach.ok_none

theorem Zfk (a0 a1 a2 : Int) (N : Nat) : (Zd a0 a1 a2 N).Ok Try.prog Zk (.h2m1 : Zb) (Zf a0 a1 a2 N (.h2m1 : Zb)) := by
 show (Zd a0 a1 a2 N).Ok Try.prog Zk (.h2m1 : Zb) (Zbc a0 a1 a2 N)
 unfold Zbc
 refine Mach.ok_ite (fun g0 => ?_) (fun g0 => ?_)
 ·
  refine Mach.ok_ite (fun g1 => ?_) (fun g1 => ?_)
  ·
   exact Mach.ok_next (M := Zd a0 a1 a2 N) (cd := 1000000) (cm := 0) (y := (.h1m17 (([(⟨(2 : Int), (1048594 : Int)⟩ : R_ii)] : List R_ii)) (1) (1) : Zb)) (fu := 4000) (orc := (Z7)) (live := [0, 25, 2, 3, 23]) (tv := fun _ => [some (Value.int .u8 a1), some (vi a2), some (vp 0 0), some (vi (2 : Int)), some (vs 25 0 1 1), some (vi (1 : Int))]) (bl := [some (.cells [vi (400 : Int), vs 2 0 20 20, vs 3 0 20 20, vn, vn, vs 23 0 1 1, vn, vn, vn, vn, vn, vn, vn, vn, vn, vn, vn, vn, vn, vn] 48), some (.cells [vi (2 : Int), vi (1048594 : Int)] 30), some (.cells [vi (1 : Int), vi (16 : Int), vi (255 : Int), vi (2 : Int), vq, vq, vq, vq, vq, vq, vq, vq, vq, vq, vq, vq, vq, vq, vq, vq, vq, vq, vq, vq, vq, vq, vq, vq, vq, vq, vq, vq, vq, vq, vq, vq, vq, vq, vq, vq, vq, vq, vq, vq, vq, vq, vq, vq, vq, vq, vq, vq, vq, vq, vq, vq, vq, vq, vq, vq, vq, vq, vq, vq, vq, vq, vq, vq, vq, vq, vq, vq, vq, vq, vq, vq, vq, vq, vq, vq, vq, vq, vq, vq, vq, vi (1 : Int), vi (2 : Int), vq, vq, vq, vq, vq, vq, vq, vq, vq, vq, vq, vq, vq] 38), some (.cells [vq, vq, vi (2 : Int), vq, vi (2 : Int), vq, vi (2 : Int), vq, vi (2 : Int), vq, vi (2 : Int), vq, vi (2 : Int), vq, vi (2 : Int), vq, vi (2 : Int), vq, vi (1 : Int), vq, vi (1 : Int), vq, vi (1 : Int), vq, vi (1 : Int), vq, vi (1 : Int), vq, vi (1 : Int), vq, vi (1 : Int), vq, vi (1 : Int), vq, vq, vq, vi (1 : Int), vq, vi (1 : Int), vi a2] 30), some (.cells [vi (18 : Int)] 3)]) (ob := (Zz a1 a2)) rfl (show 1 ∈ Zl (Zh 2) from by decide +kernel) (fun gv => by kernel_rfl) (Z8 a1 a2 g0 g1) rfl (by decide) (by rfl) (fun _ => ⟨rr, ⟨rr, ⟨rr, ⟨rr, ⟨⟨Eq.trans (show (vs 1 0 ([(⟨(2 : Int), (1048594 : Int)⟩ : R_ii)] : List R_ii).length ([(⟨(2 : Int), (1048594 : Int)⟩ : R_ii)] : List R_ii).length : Value) = vs 1 0 1 1 from (ZF rfl eqA eqA)) (by rfl), by rfl⟩, ⟨⟨Eq.trans (show (vi ((1 : Nat) : Int) : Value) = vi (1 : Int) from (congrArg (Value.int .i64) (by first | rfl | omega))) (by rfl), by rfl⟩, trivial⟩⟩⟩⟩⟩⟩) ⟨⟨rfl, ⟨[], by rfl⟩, by rfl⟩, ⟨(ZT (E := Zp) _ (L := ([(⟨(2 : Int), (1048594 : Int)⟩ : R_ii)] : List R_ii)) _ (show ([vi (2 : Int), vi (1048594 : Int)] : List Value) = Zr Zp ([(⟨(2 : Int), (1048594 : Int)⟩ : R_ii)] : List R_ii) from rfl)), ⟨⟨rfl, ⟨[], (show ([vi (1 : Int), vi (16 : Int), vi (255 : Int), vi (2 : Int), vq, vq, vq, vq, vq, vq, vq, vq, vq, vq, vq, vq, vq, vq, vq, vq, vq, vq, vq, vq, vq, vq, vq, vq, vq, vq, vq, vq, vq, vq, vq, vq, vq, vq, vq, vq, vq, vq, vq, vq, vq, vq, vq, vq, vq, vq, vq, vq, vq, vq, vq, vq, vq, vq, vq, vq, vq, vq, vq, vq, vq, vq, vq, vq, vq, vq, vq, vq, vq, vq, vq, vq, vq, vq, vq, vq, vq, vq, vq, vq, vq, vi (1 : Int), vi (2 : Int), vq, vq, vq, vq, vq, vq, vq, vq, vq, vq, vq, vq, vq] : List Value) = _ from (Za rfl (Za rfl (Za rfl (Za rfl (Za rfl (Za rfl (Za rfl (Za rfl (Za rfl (Za rfl (Za rfl (Za rfl (Za rfl (Za rfl (Za rfl (Za rfl (Za rfl (Za rfl (Za rfl (Za rfl (Za rfl (Za rfl (Za rfl (Za rfl (Za rfl (Za rfl (Za rfl (Za rfl (Za rfl (Za rfl (Za rfl (Za rfl (Za rfl (Za rfl (Za rfl (Za rfl (Za rfl (Za rfl (Za rfl (Za rfl (Za rfl (Za rfl (Za rfl (Za rfl (Za rfl (Za rfl (Za rfl (Za rfl (Za rfl (Za rfl (Za rfl (Za rfl (Za rfl (Za rfl (Za rfl (Za rfl (Za rfl (Za rfl (Za rfl (Za rfl (Za rfl (Za rfl (Za rfl (Za rfl (Za rfl (Za rfl (Za rfl (Za rfl (Za rfl (Za rfl (Za rfl (Za rfl (Za rfl (Za rfl (Za rfl (Za rfl (Za rfl (Za rfl (Za rfl (Za rfl (Za rfl (Za rfl (Za rfl (Za rfl (Za rfl (Za (congrArg (Value.int .i64) (by first | rfl | omega)) (Za rfl (Za rfl (Za rfl (Za rfl (Za rfl (Za rfl (Za rfl (Za rfl (Za rfl (Za rfl (Za rfl (Za rfl (Za rfl (Za rfl rfl)))))))))))))))))))))))))))))))))))))))))))))))))))))))))))))))))))))))))))))))))))))))))))))))))))).symm)⟩, by rfl⟩, ⟨⟨rfl, ⟨[], by rfl⟩, by rfl⟩, ⟨⟨rfl, ⟨[], by rfl⟩, by rfl⟩, trivial⟩⟩⟩⟩⟩
  ·
   exact Mach.ok_none
 ·
  exact Mach.ok_none

theorem Zfl (a0 a1 a2 : Int) (N : Nat) : (Zd a0 a1 a2 N).Ok Try.prog Zk (.h2m2 : Zb) (Zf a0 a1 a2 N (.h2m2 : Zb)) := by
 show (Zd a0 a1 a2 N).Ok Try.prog Zk (.h2m2 : Zb) (Zbd a0 a1 a2 N)
 unfold Zbd
 refine Mach.ok_ite (fun g0 => ?_) (fun g0 => ?_)
 ·
  refine Mach.ok_ite (fun g1 => ?_) (fun g1 => ?_)
  ·
   exact Mach.ok_next (M := Zd a0 a1 a2 N) (cd := 1000000) (cm := 0) (y := (.h1m18 (([(⟨(2 : Int), (1048594 : Int)⟩ : R_ii)] : List R_ii)) (1) (1) : Zb)) (fu := 4000) (orc := (Z7)) (live := [0, 25, 2, 3, 23]) (tv := fun _ => [some (Value.int .u8 a1), some (vi a2), some (vp 0 0), some (vi (3 : Int)), some (vs 25 0 1 1), some (vi (1 : Int))]) (bl := [some (.cells [vi (400 : Int), vs 2 0 21 21, vs 3 0 21 21, vn, vn, vn, vs 23 0 1 1, vn, vn, vn, vn, vn, vn, vn, vn, vn, vn, vn, vn, vn] 48), some (.cells [vi (2 : Int), vi (1048594 : Int)] 30), some (.cells [vi (1 : Int), vi (16 : Int), vi (255 : Int), vi (2 : Int), vq, vq, vq, vq, vq, vq, vq, vq, vq, vq, vq, vq, vq, vq, vq, vq, vq, vq, vq, vq, vq, vq, vq, vq, vq, vq, vq, vq, vq, vq, vq, vq, vq, vq, vq, vq, vq, vq, vq, vq, vq, vq, vq, vq, vq, vq, vq, vq, vq, vq, vq, vq, vq, vq, vq, vq, vq, vq, vq, vq, vq, vq, vq, vq, vq, vq, vq, vq, vq, vq, vq, vq, vq, vq, vq, vq, vq, vq, vq, vq, vq, vi (1 : Int), vi (3 : Int), vq, vq, vq, vq, vq, vq, vq, vq, vq, vq, vq, vq, vq, vq, vq, vq, vq, vq] 38), some (.cells [vq, vq, vi (2 : Int), vq, vi (2 : Int), vq, vi (2 : Int), vq, vi (2 : Int), vq, vi (2 : Int), vq, vi (2 : Int), vq, vi (2 : Int), vq, vi (2 : Int), vq, vi (1 : Int), vq, vi (1 : Int), vq, vi (1 : Int), vq, vi (1 : Int), vq, vi (1 : Int), vq, vi (1 : Int), vq, vi (1 : Int), vq, vi (1 : Int), vq, vq, vq, vi (1 : Int), vq, vi (1 : Int), vq, vi (1 : Int), vi a2] 30), some (.cells [vi (18 : Int)] 3)]) (ob := (Zz a1 a2)) rfl (show 1 ∈ Zl (Zh 2) from by decide +kernel) (fun gv => by kernel_rfl) (Z8 a1 a2 g0 g1) rfl (by decide) (by rfl) (fun _ => ⟨rr, ⟨rr, ⟨rr, ⟨rr, ⟨⟨Eq.trans (show (vs 1 0 ([(⟨(2 : Int), (1048594 : Int)⟩ : R_ii)] : List R_ii).length ([(⟨(2 : Int), (1048594 : Int)⟩ : R_ii)] : List R_ii).length : Value) = vs 1 0 1 1 from (ZF rfl eqA eqA)) (by rfl), by rfl⟩, ⟨⟨Eq.trans (show (vi ((1 : Nat) : Int) : Value) = vi (1 : Int) from (congrArg (Value.int .i64) (by first | rfl | omega))) (by rfl), by rfl⟩, trivial⟩⟩⟩⟩⟩⟩) ⟨⟨rfl, ⟨[], by rfl⟩, by rfl⟩, ⟨(ZT (E := Zp) _ (L := ([(⟨(2 : Int), (1048594 : Int)⟩ : R_ii)] : List R_ii)) _ (show ([vi (2 : Int), vi (1048594 : Int)] : List Value) = Zr Zp ([(⟨(2 : Int), (1048594 : Int)⟩ : R_ii)] : List R_ii) from rfl)), ⟨⟨rfl, ⟨[], (show ([vi (1 : Int), vi (16 : Int), vi (255 : Int), vi (2 : Int), vq, vq, vq, vq, vq, vq, vq, vq, vq, vq, vq, vq, vq, vq, vq, vq, vq, vq, vq, vq, vq, vq, vq, vq, vq, vq, vq, vq, vq, vq, vq, vq, vq, vq, vq, vq, vq, vq, vq, vq, vq, vq, vq, vq, vq, vq, vq, vq, vq, vq, vq, vq, vq, vq, vq, vq, vq, vq, vq, vq, vq, vq, vq, vq, vq, vq, vq, vq, vq, vq, vq, vq, vq, vq, vq, vq, vq, vq, vq, vq, vq, vi (1 : Int), vi (3 : Int), vq, vq, vq, vq, vq, vq, vq, vq, vq, vq, vq, vq, vq, vq, vq, vq, vq, vq] : List Value) = _ from (Za rfl (Za rfl (Za rfl (Za rfl (Za rfl (Za rfl (Za rfl (Za rfl (Za rfl (Za rfl (Za rfl (Za rfl (Za rfl (Za rfl (Za rfl (Za rfl (Za rfl (Za rfl (Za rfl (Za rfl (Za rfl (Za rfl (Za rfl (Za rfl (Za rfl (Za rfl (Za rfl (Za rfl (Za rfl (Za rfl (Za rfl (Za rfl (Za rfl (Za rfl (Za rfl (Za rfl (Za rfl (Za rfl (Za rfl (Za rfl (Za rfl (Za rfl (Za rfl (Za rfl (Za rfl (Za rfl (Za rfl (Za rfl (Za rfl (Za rfl (Za rfl (Za rfl (Za rfl (Za rfl (Za rfl (Za rfl (Za rfl (Za rfl (Za rfl (Za rfl (Za rfl (Za rfl (Za rfl (Za rfl (Za rfl (Za rfl (Za rfl (Za rfl (Za rfl (Za rfl (Za rfl (Za rfl (Za rfl (Za rfl (Za rfl (Za rfl (Za rfl (Za rfl (Za rfl (Za rfl (Za rfl (Za rfl (Za rfl (Za rfl (Za rfl (Za (congrArg (Value.int .i64) (by first | rfl | omega)) (Za rfl (Za rfl (Za rfl (Za rfl (Za rfl (Za rfl (Za rfl (Za rfl (Za rfl (Za rfl (Za rfl (Za rfl (Za rfl (Za rfl (Za rfl (Za rfl (Za rfl (Za rfl (Za rfl rfl))))))))))))))))))))))))))))))))))))))))))))))))))))))))))))))))))))))))))))))))))))))))))))))))))))))))).symm)⟩, by rfl⟩, ⟨⟨rfl, ⟨[], by rfl⟩, by rfl⟩, ⟨⟨rfl, ⟨[], by rfl⟩, by rfl⟩, trivial⟩⟩⟩⟩⟩
  ·
   exact Mach.ok_none
 ·
  exact Mach.ok_none

theorem Zfm (a0 a1 a2 : Int) (N : Nat) : (Zd a0 a1 a2 N).Ok Try.prog Zk (.h2m3 : Zb) (Zf a0 a1 a2 N (.h2m3 : Zb)) := by
 show (Zd a0 a1 a2 N).Ok Try.prog Zk (.h2m3 : Zb) (Zbe a0 a1 a2 N)
 unfold Zbe
 refine Mach.ok_ite (fun g0 => ?_) (fun g0 => ?_)
 ·
  refine Mach.ok_ite (fun g1 => ?_) (fun g1 => ?_)
  ·
   exact Mach.ok_next (M := Zd a0 a1 a2 N) (cd := 1000000) (cm := 0) (y := (.h1m19 (([(⟨(2 : Int), (1048594 : Int)⟩ : R_ii)] : List R_ii)) (1) (1) : Zb)) (fu := 4000) (orc := (Z7)) (live := [0, 25, 2, 3, 23]) (tv := fun _ => [some (Value.int .u8 a1), some (vi a2), some (vp 0 0), some (vi (4 : Int)), some (vs 25 0 1 1), some (vi (1 : Int))]) (bl := [some (.cells [vi (400 : Int), vs 2 0 22 22, vs 3 0 22 22, vn, vn, vn, vn, vs 23 0 1 1, vn, vn, vn, vn, vn, vn, vn, vn, vn, vn, vn, vn] 48), some (.cells [vi (2 : Int), vi (1048594 : Int)] 30), some (.cells [vi (1 : Int), vi (16 : Int), vi (255 : Int), vi (2 : Int), vq, vq, vq, vq, vq, vq, vq, vq, vq, vq, vq, vq, vq, vq, vq, vq, vq, vq, vq, vq, vq, vq, vq, vq, vq, vq, vq, vq, vq, vq, vq, vq, vq, vq, vq, vq, vq, vq, vq, vq, vq, vq, vq, vq, vq, vq, vq, vq, vq, vq, vq, vq, vq, vq, vq, vq, vq, vq, vq, vq, vq, vq, vq, vq, vq, vq, vq, vq, vq, vq, vq, vq, vq, vq, vq, vq, vq, vq, vq, vq, vq, vi (1 : Int), vi (4 : Int), vq, vq, vq, vq, vq, vq, vq, vq, vq, vq, vq, vq, vq, vq, vq, vq, vq, vq, vq, vq, vq, vq, vq] 38), some (.cells [vq, vq, vi (2 : Int), vq, vi (2 : Int), vq, vi (2 : Int), vq, vi (2 : Int), vq, vi (2 : Int), vq, vi (2 : Int), vq, vi (2 : Int), vq, vi (2 : Int), vq, vi (1 : Int), vq, vi (1 : Int), vq, vi (1 : Int), vq, vi (1 : Int), vq, vi (1 : Int), vq, vi (1 : Int), vq, vi (1 : Int), vq, vi (1 : Int), vq, vq, vq, vi (1 : Int), vq, vi (1 : Int), vq, vi (1 : Int), vq, vi (1 : Int), vi a2] 30), some (.cells [vi (18 : Int)] 3)]) (ob := (Zz a1 a2)) rfl (show 1 ∈ Zl (Zh 2) from by decide +kernel) (fun gv => by kernel_rfl) (Z8 a1 a2 g0 g1) rfl (by decide) (by rfl) (fun _ => ⟨rr, ⟨rr, ⟨rr, ⟨rr, ⟨⟨Eq.trans (show (vs 1 0 ([(⟨(2 : Int), (1048594 : Int)⟩ : R_ii)] : List R_ii).length ([(⟨(2 : Int), (1048594 : Int)⟩ : R_ii)] : List R_ii).length : Value) = vs 1 0 1 1 from (ZF rfl eqA eqA)) (by rfl), by rfl⟩, ⟨⟨Eq.trans (show (vi ((1 : Nat) : Int) : Value) = vi (1 : Int) from (congrArg (Value.int .i64) (by first | rfl | omega))) (by rfl), by rfl⟩, trivial⟩⟩⟩⟩⟩⟩) ⟨⟨rfl, ⟨[], by rfl⟩, by rfl⟩, ⟨(ZT (E := Zp) _ (L := ([(⟨(2 : Int), (1048594 : Int)⟩ : R_ii)] : List R_ii)) _ (show ([vi (2 : Int), vi (1048594 : Int)] : List Value) = Zr Zp ([(⟨(2 : Int), (1048594 : Int)⟩ : R_ii)] : List R_ii) from rfl)), ⟨⟨rfl, ⟨[], (show ([vi (1 : Int), vi (16 : Int), vi (255 : Int), vi (2 : Int), vq, vq, vq, vq, vq, vq, vq, vq, vq, vq, vq, vq, vq, vq, vq, vq, vq, vq, vq, vq, vq, vq, vq, vq, vq, vq, vq, vq, vq, vq, vq, vq, vq, vq, vq, vq, vq, vq, vq, vq, vq, vq, vq, vq, vq, vq, vq, vq, vq, vq, vq, vq, vq, vq, vq, vq, vq, vq, vq, vq, vq, vq, vq, vq, vq, vq, vq, vq, vq, vq, vq, vq, vq, vq, vq, vq, vq, vq, vq, vq, vq, vi (1 : Int), vi (4 : Int), vq, vq, vq, vq, vq, vq, vq, vq, vq, vq, vq, vq, vq, vq, vq, vq, vq, vq, vq, vq, vq, vq, vq] : List Value) = _ from (Za rfl (Za rfl (Za rfl (Za rfl (Za rfl (Za rfl (Za rfl (Za rfl (Za rfl (Za rfl (Za rfl (Za rfl (Za rfl (Za rfl (Za rfl (Za rfl (Za rfl (Za rfl (Za rfl (Za rfl (Za rfl (Za rfl (Za rfl (Za rfl (Za rfl (Za rfl (Za rfl (Za rfl (Za rfl (Za rfl (Za rfl (Za rfl (Za rfl (Za rfl (Za rfl (Za rfl (Za rfl (Za rfl (Za rfl (Za rfl (Za rfl (Za rfl (Za rfl (Za rfl (Za rfl (Za rfl (Za rfl (Za rfl (Za rfl (Za rfl (Za rfl (Za rfl (Za rfl (Za rfl (Za rfl (Za rfl (Za rfl (Za rfl (Za rfl (Za rfl (Za rfl (Za rfl (Za rfl (Za rfl (Za rfl (Za rfl (Za rfl (Za rfl (Za rfl (Za rfl (Za rfl (Za rfl (Za rfl (Za rfl (Za rfl (Za rfl (Za rfl (Za rfl (Za rfl (Za rfl (Za rfl (Za rfl (Za rfl (Za rfl (Za rfl (Za (congrArg (Value.int .i64) (by first | rfl | omega)) (Za rfl (Za rfl (Za rfl (Za rfl (Za rfl (Za rfl (Za rfl (Za rfl (Za rfl (Za rfl (Za rfl (Za rfl (Za rfl (Za rfl (Za rfl (Za rfl (Za rfl (Za rfl (Za rfl (Za rfl (Za rfl (Za rfl (Za rfl (Za rfl rfl)))))))))))))))))))))))))))))))))))))))))))))))))))))))))))))))))))))))))))))))))))))))))))))))))))))))))))))).symm)⟩, by rfl⟩, ⟨⟨rfl, ⟨[], by rfl⟩, by rfl⟩, ⟨⟨rfl, ⟨[], by rfl⟩, by rfl⟩, trivial⟩⟩⟩⟩⟩
  ·
   exact Mach.ok_none
 ·
  exact Mach.ok_none

theorem Zfn (a0 a1 a2 : Int) (N : Nat) : (Zd a0 a1 a2 N).Ok Try.prog Zk (.h2m4 : Zb) (Zf a0 a1 a2 N (.h2m4 : Zb)) := by
 show (Zd a0 a1 a2 N).Ok Try.prog Zk (.h2m4 : Zb) (Zbf a0 a1 a2 N)
 unfold Zbf
 refine Mach.ok_ite (fun g0 => ?_) (fun g0 => ?_)
 ·
  refine Mach.ok_ite (fun g1 => ?_) (fun g1 => ?_)
  ·
   exact Mach.ok_next (M := Zd a0 a1 a2 N) (cd := 1000000) (cm := 0) (y := (.h1m20 (([(⟨(2 : Int), (1048594 : Int)⟩ : R_ii)] : List R_ii)) (1) (1) : Zb)) (fu := 4000) (orc := (Z7)) (live := [0, 25, 2, 3, 23]) (tv := fun _ => [some (Value.int .u8 a1), some (vi a2), some (vp 0 0), some (vi (5 : Int)), some (vs 25 0 1 1), some (vi (1 : Int))]) (bl := [some (.cells [vi (400 : Int), vs 2 0 23 23, vs 3 0 23 23, vn, vn, vn, vn, vn, vs 23 0 1 1, vn, vn, vn, vn, vn, vn, vn, vn, vn, vn, vn] 48), some (.cells [vi (2 : Int), vi (1048594 : Int)] 30), some (.cells [vi (1 : Int), vi (16 : Int), vi (255 : Int), vi (2 : Int), vq, vq, vq, vq, vq, vq, vq, vq, vq, vq, vq, vq, vq, vq, vq, vq, vq, vq, vq, vq, vq, vq, vq, vq, vq, vq, vq, vq, vq, vq, vq, vq, vq, vq, vq, vq, vq, vq, vq, vq, vq, vq, vq, vq, vq, vq, vq, vq, vq, vq, vq, vq, vq, vq, vq, vq, vq, vq, vq, vq, vq, vq, vq, vq, vq, vq, vq, vq, vq, vq, vq, vq, vq, vq, vq, vq, vq, vq, vq, vq, vq, vi (1 : Int), vi (5 : Int), vq, vq, vq, vq, vq, vq, vq, vq, vq, vq, vq, vq, vq, vq, vq, vq, vq, vq, vq, vq, vq, vq, vq, vq, vq, vq, vq, vq] 38), some (.cells [vq, vq, vi (2 : Int), vq, vi (2 : Int), vq, vi (2 : Int), vq, vi (2 : Int), vq, vi (2 : Int), vq, vi (2 : Int), vq, vi (2 : Int), vq, vi (2 : Int), vq, vi (1 : Int), vq, vi (1 : Int), vq, vi (1 : Int), vq, vi (1 : Int), vq, vi (1 : Int), vq, vi (1 : Int), vq, vi (1 : Int), vq, vi (1 : Int), vq, vq, vq, vi (1 : Int), vq, vi (1 : Int), vq, vi (1 : Int), vq, vi (1 : Int), vq, vi (1 : Int), vi a2] 30), some (.cells [vi (18 : Int)] 3)]) (ob := (Zz a1 a2)) rfl (show 1 ∈ Zl (Zh 2) from by decide +kernel) (fun gv => by kernel_rfl) (Z8 a1 a2 g0 g1) rfl (by decide) (by rfl) (fun _ => ⟨rr, ⟨rr, ⟨rr, ⟨rr, ⟨⟨Eq.trans (show (vs 1 0 ([(⟨(2 : Int), (1048594 : Int)⟩ : R_ii)] : List R_ii).length ([(⟨(2 : Int), (1048594 : Int)⟩ : R_ii)] : List R_ii).length : Value) = vs 1 0 1 1 from (ZF rfl eqA eqA)) (by rfl), by rfl⟩, ⟨⟨Eq.trans (show (vi ((1 : Nat) : Int) : Value) = vi (1 : Int) from (congrArg (Value.int .i64) (by first | rfl | omega))) (by rfl), by rfl⟩, trivial⟩⟩⟩⟩⟩⟩) ⟨⟨rfl, ⟨[], by rfl⟩, by rfl⟩, ⟨(ZT (E := Zp) _ (L := ([(⟨(2 : Int), (1048594 : Int)⟩ : R_ii)] : List R_ii)) _ (show ([vi (2 : Int), vi (1048594 : Int)] : List Value) = Zr Zp ([(⟨(2 : Int), (1048594 : Int)⟩ : R_ii)] : List R_ii) from rfl)), ⟨⟨rfl, ⟨[], (show ([vi (1 : Int), vi (16 : Int), vi (255 : Int), vi (2 : Int), vq, vq, vq, vq, vq, vq, vq, vq, vq, vq, vq, vq, vq, vq, vq, vq, vq, vq, vq, vq, vq, vq, vq, vq, vq, vq, vq, vq, vq, vq, vq, vq, vq, vq, vq, vq, vq, vq, vq, vq, vq, vq, vq, vq, vq, vq, vq, vq, vq, vq, vq, vq, vq, vq, vq, vq, vq, vq, vq, vq, vq, vq, vq, vq, vq, vq, vq, vq, vq, vq, vq, vq, vq, vq, vq, vq, vq, vq, vq, vq, vq, vi (1 : Int), vi (5 : Int), vq, vq, vq, vq, vq, vq, vq, vq, vq, vq, vq, vq, vq, vq, vq, vq, vq, vq, vq, vq, vq, vq, vq, vq, vq, vq, vq, vq] : List Value) = _ from (Za rfl (Za rfl (Za rfl (Za rfl (Za rfl (Za rfl (Za rfl (Za rfl (Za rfl (Za rfl (Za rfl (Za rfl (Za rfl (Za rfl (Za rfl (Za rfl (Za rfl (Za rfl (Za rfl (Za rfl (Za rfl (Za rfl (Za rfl (Za rfl (Za rfl (Za rfl (Za rfl (Za rfl (Za rfl (Za rfl (Za rfl (Za rfl (Za rfl (Za rfl (Za rfl (Za rfl (Za rfl (Za rfl (Za rfl (Za rfl (Za rfl (Za rfl (Za rfl (Za rfl (Za rfl (Za rfl (Za rfl (Za rfl (Za rfl (Za rfl (Za rfl (Za rfl (Za rfl (Za rfl (Za rfl (Za rfl (Za rfl (Za rfl (Za rfl (Za rfl (Za rfl (Za rfl (Za rfl (Za rfl (Za rfl (Za rfl (Za rfl (Za rfl (Za rfl (Za rfl (Za rfl (Za rfl (Za rfl (Za rfl (Za rfl (Za rfl (Za rfl (Za rfl (Za rfl (Za rfl (Za rfl (Za rfl (Za rfl (Za rfl (Za rfl (Za (congrArg (Value.int .i64) (by first | rfl | omega)) (Za rfl (Za rfl (Za rfl (Za rfl (Za rfl (Za rfl (Za rfl (Za rfl (Za rfl (Za rfl (Za rfl (Za rfl (Za rfl (Za rfl (Za rfl (Za rfl (Za rfl (Za rfl (Za rfl (Za rfl (Za rfl (Za rfl (Za rfl (Za rfl (Za rfl (Za rfl (Za rfl (Za rfl (Za rfl rfl))))))))))))))))))))))))))))))))))))))))))))))))))))))))))))))))))))))))))))))))))))))))))))))))))))))))))))))))))).symm)⟩, by rfl⟩, ⟨⟨rfl, ⟨[], by rfl⟩, by rfl⟩, ⟨⟨rfl, ⟨[], by rfl⟩, by rfl⟩, trivial⟩⟩⟩⟩⟩
  ·
   exact Mach.ok_none
 ·
  exact Mach.ok_none

theorem Zfo (a0 a1 a2 : Int) (N : Nat) : (Zd a0 a1 a2 N).Ok Try.prog Zk (.h2m5 : Zb) (Zf a0 a1 a2 N (.h2m5 : Zb)) := by
 show (Zd a0 a1 a2 N).Ok Try.prog Zk (.h2m5 : Zb) (Zbg a0 a1 a2 N)
 unfold Zbg
 refine Mach.ok_ite (fun g0 => ?_) (fun g0 => ?_)
 ·
  refine Mach.ok_ite (fun g1 => ?_) (fun g1 => ?_)
  ·
   exact Mach.ok_next (M := Zd a0 a1 a2 N) (cd := 1000000) (cm := 0) (y := (.h1m21 (([(⟨(2 : Int), (1048594 : Int)⟩ : R_ii)] : List R_ii)) (1) (1) : Zb)) (fu := 4000) (orc := (Z7)) (live := [0, 25, 2, 3, 23]) (tv := fun _ => [some (Value.int .u8 a1), some (vi a2), some (vp 0 0), some (vi (6 : Int)), some (vs 25 0 1 1), some (vi (1 : Int))]) (bl := [some (.cells [vi (400 : Int), vs 2 0 24 24, vs 3 0 24 24, vn, vn, vn, vn, vn, vn, vs 23 0 1 1, vn, vn, vn, vn, vn, vn, vn, vn, vn, vn] 48), some (.cells [vi (2 : Int), vi (1048594 : Int)] 30), some (.cells [vi (1 : Int), vi (16 : Int), vi (255 : Int), vi (2 : Int), vq, vq, vq, vq, vq, vq, vq, vq, vq, vq, vq, vq, vq, vq, vq, vq, vq, vq, vq, vq, vq, vq, vq, vq, vq, vq, vq, vq, vq, vq, vq, vq, vq, vq, vq, vq, vq, vq, vq, vq, vq, vq, vq, vq, vq, vq, vq, vq, vq, vq, vq, vq, vq, vq, vq, vq, vq, vq, vq, vq, vq, vq, vq, vq, vq, vq, vq, vq, vq, vq, vq, vq, vq, vq, vq, vq, vq, vq, vq, vq, vq, vi (1 : Int), vi (6 : Int), vq, vq, vq, vq, vq, vq, vq, vq, vq, vq, vq, vq, vq, vq, vq, vq, vq, vq, vq, vq, vq, vq, vq, vq, vq, vq, vq, vq, vq, vq, vq, vq, vq] 38), some (.cells [vq, vq, vi (2 : Int), vq, vi (2 : Int), vq, vi (2 : Int), vq, vi (2 : Int), vq, vi (2 : Int), vq, vi (2 : Int), vq, vi (2 : Int), vq, vi (2 : Int), vq, vi (1 : Int), vq, vi (1 : Int), vq, vi (1 : Int), vq, vi (1 : Int), vq, vi (1 : Int), vq, vi (1 : Int), vq, vi (1 : Int), vq, vi (1 : Int), vq, vq, vq, vi (1 : Int), vq, vi (1 : Int), vq, vi (1 : Int), vq, vi (1 : Int), vq, vi (1 : Int), vq, vi (1 : Int), vi a2] 30), some (.cells [vi (18 : Int)] 3)]) (ob := (Zz a1 a2)) rfl (show 1 ∈ Zl (Zh 2) from by decide +kernel) (fun gv => by kernel_rfl) (Z8 a1 a2 g0 g1) rfl (by decide) (by rfl) (fun _ => ⟨rr, ⟨rr, ⟨rr, ⟨rr, ⟨⟨Eq.trans (show (vs 1 0 ([(⟨(2 : Int), (1048594 : Int)⟩ : R_ii)] : List R_ii).length ([(⟨(2 : Int), (1048594 : Int)⟩ : R_ii)] : List R_ii).length : Value) = vs 1 0 1 1 from (ZF rfl eqA eqA)) (by rfl), by rfl⟩, ⟨⟨Eq.trans (show (vi ((1 : Nat) : Int) : Value) = vi (1 : Int) from (congrArg (Value.int .i64) (by first | rfl | omega))) (by rfl), by rfl⟩, trivial⟩⟩⟩⟩⟩⟩) ⟨⟨rfl, ⟨[], by rfl⟩, by rfl⟩, ⟨(ZT (E := Zp) _ (L := ([(⟨(2 : Int), (1048594 : Int)⟩ : R_ii)] : List R_ii)) _ (show ([vi (2 : Int), vi (1048594 : Int)] : List Value) = Zr Zp ([(⟨(2 : Int), (1048594 : Int)⟩ : R_ii)] : List R_ii) from rfl)), ⟨⟨rfl, ⟨[], (show ([vi (1 : Int), vi (16 : Int), vi (255 : Int), vi (2 : Int), vq, vq, vq, vq, vq, vq, vq, vq, vq, vq, vq, vq, vq, vq, vq, vq, vq, vq, vq, vq, vq, vq, vq, vq, vq, vq, vq, vq, vq, vq, vq, vq, vq, vq, vq, vq, vq, vq, vq, vq, vq, vq, vq, vq, vq, vq, vq, vq, vq, vq, vq, vq, vq, vq, vq, vq, vq, vq, vq, vq, vq, vq, vq, vq, vq, vq, vq, vq, vq, vq, vq, vq, vq, vq, vq, vq, vq, vq, vq, vq, vq, vi (1 : Int), vi (6 : Int), vq, vq, vq, vq, vq, vq, vq, vq, vq, vq, vq, vq, vq, vq, vq, vq, vq, vq, vq, vq, vq, vq, vq, vq, vq, vq, vq, vq, vq, vq, vq, vq, vq] : List Value) = _ from (Za rfl (Za rfl (Za rfl (Za rfl (Za rfl (Za rfl (Za rfl (Za rfl (Za rfl (Za rfl (Za rfl (Za rfl (Za rfl (Za rfl (Za rfl (Za rfl (Za rfl (Za rfl (Za rfl (Za rfl (Za rfl (Za rfl (Za rfl (Za rfl (Za rfl (Za rfl (Za rfl (Za rfl (Za rfl (Za rfl (Za rfl (Za rfl (Za rfl (Za rfl (Za rfl (Za rfl (Za rfl (Za rfl (Za rfl (Za rfl (Za rfl (Za rfl (Za rfl (Za rfl (Za rfl (Za rfl (Za rfl (Za rfl (Za rfl (Za rfl (Za rfl (Za rfl (Za rfl (Za rfl (Za rfl (Za rfl (Za rfl (Za rfl (Za rfl (Za rfl (Za rfl (Za rfl (Za rfl (Za rfl (Za rfl (Za rfl (Za rfl (Za rfl (Za rfl (Za rfl (Za rfl (Za rfl (Za rfl (Za rfl (Za rfl (Za rfl (Za rfl (Za rfl (Za rfl (Za rfl (Za rfl (Za rfl (Za rfl (Za rfl (Za rfl (Za (congrArg (Value.int .i64) (by first | rfl | omega)) (Za rfl (Za rfl (Za rfl (Za rfl (Za rfl (Za rfl (Za rfl (Za rfl (Za rfl (Za rfl (Za rfl (Za rfl (Za rfl (Za rfl (Za rfl (Za rfl (Za rfl (Za rfl (Za rfl (Za rfl (Za rfl (Za rfl (Za rfl (Za rfl (Za rfl (Za rfl (Za rfl (Za rfl (Za rfl (Za rfl (Za rfl (Za rfl (Za rfl (Za rfl rfl)))))))))))))))))))))))))))))))))))))))))))))))))))))))))))))))))))))))))))))))))))))))))))))))))))))))))))))))))))))))).symm)⟩, by rfl⟩, ⟨⟨rfl, ⟨[], by rfl⟩, by rfl⟩, ⟨⟨rfl, ⟨[], by rfl⟩, by rfl⟩, trivial⟩⟩⟩⟩⟩
  ·
   exact Mach.ok_none
 ·
  exact Mach.ok_none

theorem Zfp (a0 a1 a2 : Int) (N : Nat) : (Zd a0 a1 a2 N).Ok Try.prog Zk (.h2m6 : Zb) (Zf a0 a1 a2 N (.h2m6 : Zb)) := by
 show (Zd a0 a1 a2 N).Ok Try.prog Zk (.h2m6 : Zb) (Zbh a0 a1 a2 N)
 unfold Zbh
 refine Mach.ok_ite (fun g0 => ?_) (fun g0 => ?_)
 ·
  refine Mach.ok_ite (fun g1 => ?_) (fun g1 => ?_)
  ·
   exact Mach.ok_next (M := Zd a0 a1 a2 N) (cd := 1000000) (cm := 0) (y := (.h1m22 (([(⟨(2 : Int), (1048594 : Int)⟩ : R_ii)] : List R_ii)) (1) (1) : Zb)) (fu := 4000) (orc := (Z7)) (live := [0, 25, 2, 3, 23]) (tv := fun _ => [some (Value.int .u8 a1), some (vi a2), some (vp 0 0), some (vi (7 : Int)), some (vs 25 0 1 1), some (vi (1 : Int))]) (bl := [some (.cells [vi (400 : Int), vs 2 0 25 25, vs 3 0 25 25, vn, vn, vn, vn, vn, vn, vn, vs 23 0 1 1, vn, vn, vn, vn, vn, vn, vn, vn, vn] 48), some (.cells [vi (2 : Int), vi (1048594 : Int)] 30), some (.cells [vi (1 : Int), vi (16 : Int), vi (255 : Int), vi (2 : Int), vq, vq, vq, vq, vq, vq, vq, vq, vq, vq, vq, vq, vq, vq, vq, vq, vq, vq, vq, vq, vq, vq, vq, vq, vq, vq, vq, vq, vq, vq, vq, vq, vq, vq, vq, vq, vq, vq, vq, vq, vq, vq, vq, vq, vq, vq, vq, vq, vq, vq, vq, vq, vq, vq, vq, vq, vq, vq, vq, vq, vq, vq, vq, vq, vq, vq, vq, vq, vq, vq, vq, vq, vq, vq, vq, vq, vq, vq, vq, vq, vq, vi (1 : Int), vi (7 : Int), vq, vq, vq, vq, vq, vq, vq, vq, vq, vq, vq, vq, vq, vq, vq, vq, vq, vq, vq, vq, vq, vq, vq, vq, vq, vq, vq, vq, vq, vq, vq, vq, vq, vq, vq, vq, vq, vq] 38), some (.cells [vq, vq, vi (2 : Int), vq, vi (2 : Int), vq, vi (2 : Int), vq, vi (2 : Int), vq, vi (2 : Int), vq, vi (2 : Int), vq, vi (2 : Int), vq, vi (2 : Int), vq, vi (1 : Int), vq, vi (1 : Int), vq, vi (1 : Int), vq, vi (1 : Int), vq, vi (1 : Int), vq, vi (1 : Int), vq, vi (1 : Int), vq, vi (1 : Int), vq, vq, vq, vi (1 : Int), vq, vi (1 : Int), vq, vi (1 : Int), vq, vi (1 : Int), vq, vi (1 : Int), vq, vi (1 : Int), vq, vi (1 : Int), vi a2] 30), some (.cells [vi (18 : Int)] 3)]) (ob := (Zz a1 a2)) rfl (show 1 ∈ Zl (Zh 2) from by decide +kernel) (fun gv => by kernel_rfl) (Z8 a1 a2 g0 g1) rfl (by decide) (by rfl) (fun _ => ⟨rr, ⟨rr, ⟨rr, ⟨rr, ⟨⟨Eq.trans (show (vs 1 0 ([(⟨(2 : Int), (1048594 : Int)⟩ : R_ii)] : List R_ii).length ([(⟨(2 : Int), (1048594 : Int)⟩ : R_ii)] : List R_ii).length : Value) = vs 1 0 1 1 from (ZF rfl eqA eqA)) (by rfl), by rfl⟩, ⟨⟨Eq.trans (show (vi ((1 : Nat) : Int) : Value) = vi (1 : Int) from (congrArg (Value.int .i64) (by first | rfl | omega))) (by rfl), by rfl⟩, trivial⟩⟩⟩⟩⟩⟩) ⟨⟨rfl, ⟨[], by rfl⟩, by rfl⟩, ⟨(ZT (E := Zp) _ (L := ([(⟨(2 : Int), (1048594 : Int)⟩ : R_ii)] : List R_ii)) _ (show ([vi (2 : Int), vi (1048594 : Int)] : List Value) = Zr Zp ([(⟨(2 : Int), (1048594 : Int)⟩ : R_ii)] : List R_ii) from rfl)), ⟨⟨rfl, ⟨[], (show ([vi (1 : Int), vi (16 : Int), vi (255 : Int), vi (2 : Int), vq, vq, vq, vq, vq, vq, vq, vq, vq, vq, vq, vq, vq, vq, vq, vq, vq, vq, vq, vq, vq, vq, vq, vq, vq, vq, vq, vq, vq, vq, vq, vq, vq, vq, vq, vq, vq, vq, vq, vq, vq, vq, vq, vq, vq, vq, vq, vq, vq, vq, vq, vq, vq, vq, vq, vq, vq, vq, vq, vq, vq, vq, vq, vq, vq, vq, vq, vq, vq, vq, vq, vq, vq, vq, vq, vq, vq, vq, vq, vq, vq, vi (1 : Int), vi (7 : Int), vq, vq, vq, vq, vq, vq, vq, vq, vq, vq, vq, vq, vq, vq, vq, vq, vq, vq, vq, vq, vq, vq, vq, vq, vq, vq, vq, vq, vq, vq, vq, vq, vq, vq, vq, vq, vq, vq] : List Value) = _ from (Za rfl (Za rfl (Za rfl (Za rfl (Za rfl (Za rfl (Za rfl (Za rfl (Za rfl (Za rfl (Za rfl (Za rfl (Za rfl (Za rfl (Za rfl (Za rfl (Za rfl (Za rfl (Za rfl (Za rfl (Za rfl (Za rfl (Za rfl (Za rfl (Za rfl (Za rfl (Za rfl (Za rfl (Za rfl (Za rfl (Za rfl (Za rfl (Za rfl (Za rfl (Za rfl (Za rfl (Za rfl (Za rfl (Za rfl (Za rfl (Za rfl (Za rfl (Za rfl (Za rfl (Za rfl (Za rfl (Za rfl (Za rfl (Za rfl (Za rfl (Za rfl (Za rfl (Za rfl (Za rfl (Za rfl (Za rfl (Za rfl (Za rfl (Za rfl (Za rfl (Za rfl (Za rfl (Za rfl (Za rfl (Za rfl (Za rfl (Za rfl (Za rfl (Za rfl (Za rfl (Za rfl (Za rfl (Za rfl (Za rfl (Za rfl (Za rfl (Za rfl (Za rfl (Za rfl (Za rfl (Za rfl (Za rfl (Za rfl (Za rfl (Za rfl (Za (congrArg (Value.int .i64) (by first | rfl | omega)) (Za rfl (Za rfl (Za rfl (Za rfl (Za rfl (Za rfl (Za rfl (Za rfl (Za rfl (Za rfl (Za rfl (Za rfl (Za rfl (Za rfl (Za rfl (Za rfl (Za rfl (Za rfl (Za rfl (Za rfl (Za rfl (Za rfl (Za rfl (Za rfl (Za rfl (Za rfl (Za rfl (Za rfl (Za rfl (Za rfl (Za rfl (Za rfl (Za rfl (Za rfl (Za rfl (Za rfl (Za rfl (Za rfl (Za rfl rfl))))))))))))))))))))))))))))))))))))))))))))))))))))))))))))))))))))))))))))))))))))))))))))))))))))))))))))))))))))))))))))).symm)⟩, by rfl⟩, ⟨⟨rfl, ⟨[], by rfl⟩, by rfl⟩, ⟨⟨rfl, ⟨[], by rfl⟩, by rfl⟩, trivial⟩⟩⟩⟩⟩
  ·
   exact Mach.ok_none
 ·
  exact Mach.ok_none

theorem Zfq (a0 a1 a2 : Int) (N : Nat) : (Zd a0 a1 a2 N).Ok Try.prog Zk (.h2m7 : Zb) (Zf a0 a1 a2 N (.h2m7 : Zb)) := by
 show (Zd a0 a1 a2 N).Ok Try.prog Zk (.h2m7 : Zb) (Zbi a0 a1 a2 N)
 unfold Zbi
 refine Mach.ok_ite (fun g0 => ?_) (fun g0 => ?_)
 ·
  refine Mach.ok_ite (fun g1 => ?_) (fun g1 => ?_)
  ·
   exact Mach.ok_next (M := Zd a0 a1 a2 N) (cd := 1000000) (cm := 0) (y := (.h1m23 (([(⟨(2 : Int), (1048594 : Int)⟩ : R_ii)] : List R_ii)) (1) (1) : Zb)) (fu := 4000) (orc := (Z7)) (live := [0, 25, 2, 3, 23]) (tv := fun _ => [some (Value.int .u8 a1), some (vi a2), some (vp 0 0), some (vi (8 : Int)), some (vs 25 0 1 1), some (vi (1 : Int))]) (bl := [some (.cells [vi (400 : Int), vs 2 0 26 26, vs 3 0 26 26, vn, vn, vn, vn, vn, vn, vn, vn, vs 23 0 1 1, vn, vn, vn, vn, vn, vn, vn, vn] 48), some (.cells [vi (2 : Int), vi (1048594 : Int)] 30), some (.cells [vi (1 : Int), vi (16 : Int), vi (255 : Int), vi (2 : Int), vq, vq, vq, vq, vq, vq, vq, vq, vq, vq, vq, vq, vq, vq, vq, vq, vq, vq, vq, vq, vq, vq, vq, vq, vq, vq, vq, vq, vq, vq, vq, vq, vq, vq, vq, vq, vq, vq, vq, vq, vq, vq, vq, vq, vq, vq, vq, vq, vq, vq, vq, vq, vq, vq, vq, vq, vq, vq, vq, vq, vq, vq, vq, vq, vq, vq, vq, vq, vq, vq, vq, vq, vq, vq, vq, vq, vq, vq, vq, vq, vq, vi (1 : Int), vi (8 : Int), vq, vq, vq, vq, vq, vq, vq, vq, vq, vq, vq, vq, vq, vq, vq, vq, vq, vq, vq, vq, vq, vq, vq, vq, vq, vq, vq, vq, vq, vq, vq, vq, vq, vq, vq, vq, vq, vq, vq, vq, vq, vq, vq] 38), some (.cells [vq, vq, vi (2 : Int), vq, vi (2 : Int), vq, vi (2 : Int), vq, vi (2 : Int), vq, vi (2 : Int), vq, vi (2 : Int), vq, vi (2 : Int), vq, vi (2 : Int), vq, vi (1 : Int), vq, vi (1 : Int), vq, vi (1 : Int), vq, vi (1 : Int), vq, vi (1 : Int), vq, vi (1 : Int), vq, vi (1 : Int), vq, vi (1 : Int), vq, vq, vq, vi (1 : Int), vq, vi (1 : Int), vq, vi (1 : Int), vq, vi (1 : Int), vq, vi (1 : Int), vq, vi (1 : Int), vq, vi (1 : Int), vq, vi (1 : Int), vi a2] 30), some (.cells [vi (18 : Int)] 3)]) (ob := (Zz a1 a2)) rfl (show 1 ∈ Zl (Zh 2) from by decide +kernel) (fun gv => by kernel_rfl) (Z8 a1 a2 g0 g1) rfl (by decide) (by rfl) (fun _ => ⟨rr, ⟨rr, ⟨rr, ⟨rr, ⟨⟨Eq.trans (show (vs 1 0 ([(⟨(2 : Int), (1048594 : Int)⟩ : R_ii)] : List R_ii).length ([(⟨(2 : Int), (1048594 : Int)⟩ : R_ii)] : List R_ii).length : Value) = vs 1 0 1 1 from (ZF rfl eqA eqA)) (by rfl), by rfl⟩, ⟨⟨Eq.trans (show (vi ((1 : Nat) : Int) : Value) = vi (1 : Int) from (congrArg (Value.int .i64) (by first | rfl | omega))) (by rfl), by rfl⟩, trivial⟩⟩⟩⟩⟩⟩) ⟨⟨rfl, ⟨[], by rfl⟩, by rfl⟩, ⟨(ZT (E := Zp) _ (L := ([(⟨(2 : Int), (1048594 : Int)⟩ : R_ii)] : List R_ii)) _ (show ([vi (2 : Int), vi (1048594 : Int)] : List Value) = Zr Zp ([(⟨(2 : Int), (1048594 : Int)⟩ : R_ii)] : List R_ii) from rfl)), ⟨⟨rfl, ⟨[], (show ([vi (1 : Int), vi (16 : Int), vi (255 : Int), vi (2 : Int), vq, vq, vq, vq, vq, vq, vq, vq, vq, vq, vq, vq, vq, vq, vq, vq, vq, vq, vq, vq, vq, vq, vq, vq, vq, vq, vq, vq, vq, vq, vq, vq, vq, vq, vq, vq, vq, vq, vq, vq, vq, vq, vq, vq, vq, vq, vq, vq, vq, vq, vq, vq, vq, vq, vq, vq, vq, vq, vq, vq, vq, vq, vq, vq, vq, vq, vq, vq, vq, vq, vq, vq, vq, vq, vq, vq, vq, vq, vq, vq, vq, vi (1 : Int), vi (8 : Int), vq, vq, vq, vq, vq, vq, vq, vq, vq, vq, vq, vq, vq, vq, vq, vq, vq, vq, vq, vq, vq, vq, vq, vq, vq, vq, vq, vq, vq, vq, vq, vq, vq, vq, vq, vq, vq, vq, vq, vq, vq, vq, vq] : List Value) = _ from (Za rfl (Za rfl (Za rfl (Za rfl (Za rfl (Za rfl (Za rfl (Za rfl (Za rfl (Za rfl (Za rfl (Za rfl (Za rfl (Za rfl (Za rfl (Za rfl (Za rfl (Za rfl (Za rfl (Za rfl (Za rfl (Za rfl (Za rfl (Za rfl (Za rfl (Za rfl (Za rfl (Za rfl (Za rfl (Za rfl (Za rfl (Za rfl (Za rfl (Za rfl (Za rfl (Za rfl (Za rfl (Za rfl (Za rfl (Za rfl (Za rfl (Za rfl (Za rfl (Za rfl (Za rfl (Za rfl (Za rfl (Za rfl (Za rfl (Za rfl (Za rfl (Za rfl (Za rfl (Za rfl (Za rfl (Za rfl (Za rfl (Za rfl (Za rfl (Za rfl (Za rfl (Za rfl (Za rfl (Za rfl (Za rfl (Za rfl (Za rfl (Za rfl (Za rfl (Za rfl (Za rfl (Za rfl (Za rfl (Za rfl (Za rfl (Za rfl (Za rfl (Za rfl (Za rfl (Za rfl (Za rfl (Za rfl (Za rfl (Za rfl (Za rfl (Za (congrArg (Value.int .i64) (by first | rfl | omega)) (Za rfl (Za rfl (Za rfl (Za rfl (Za rfl (Za rfl (Za rfl (Za rfl (Za rfl (Za rfl (Za rfl (Za rfl (Za rfl (Za rfl (Za rfl (Za rfl (Za rfl (Za rfl (Za rfl (Za rfl (Za rfl (Za rfl (Za rfl (Za rfl (Za rfl (Za rfl (Za rfl (Za rfl (Za rfl (Za rfl (Za rfl (Za rfl (Za rfl (Za rfl (Za rfl (Za rfl (Za rfl (Za rfl (Za rfl (Za rfl (Za rfl (Za rfl (Za rfl (Za rfl rfl)))))))))))))))))))))))))))))))))))))))))))))))))))))))))))))))))))))))))))))))))))))))))))))))))))))))))))))))))))))))))))))))))).symm)⟩, by rfl⟩, ⟨⟨rfl, ⟨[], by rfl⟩, by rfl⟩, ⟨⟨rfl, ⟨[], by rfl⟩, by rfl⟩, trivial⟩⟩⟩⟩⟩
  ·
   exact Mach.ok_none
 ·
  exact Mach.ok_none

theorem Zfr (a0 a1 a2 : Int) (N : Nat) : (Zd a0 a1 a2 N).Ok Try.prog Zk (.h2m8 : Zb) (Zf a0 a1 a2 N (.h2m8 : Zb)) := by
 show (Zd a0 a1 a2 N).Ok Try.prog Zk (.h2m8 : Zb) (Zbj a0 a1 a2 N)
 unfold Zbj
 refine Mach.ok_ite (fun g0 => ?_) (fun g0 => ?_)
 ·
  refine Mach.ok_ite (fun g1 => ?_) (fun g1 => ?_)
  ·
   exact Mach.ok_next (M := Zd a0 a1 a2 N) (cd := 1000000) (cm := 0) (y := (.h1m24 (([(⟨(2 : Int), (1048594 : Int)⟩ : R_ii)] : List R_ii)) (1) (1) : Zb)) (fu := 4000) (orc := (Z7)) (live := [0, 25, 2, 3, 23]) (tv := fun _ => [some (Value.int .u8 a1), some (vi a2), some (vp 0 0), some (vi (9 : Int)), some (vs 25 0 1 1), some (vi (1 : Int))]) (bl := [some (.cells [vi (400 : Int), vs 2 0 27 27, vs 3 0 27 27, vn, vn, vn, vn, vn, vn, vn, vn, vn, vs 23 0 1 1, vn, vn, vn, vn, vn, vn, vn] 48), some (.cells [vi (2 : Int), vi (1048594 : Int)] 30), some (.cells [vi (1 : Int), vi (16 : Int), vi (255 : Int), vi (2 : Int), vq, vq, vq, vq, vq, vq, vq, vq, vq, vq, vq, vq, vq, vq, vq, vq, vq, vq, vq, vq, vq, vq, vq, vq, vq, vq, vq, vq, vq, vq, vq, vq, vq, vq, vq, vq, vq, vq, vq, vq, vq, vq, vq, vq, vq, vq, vq, vq, vq, vq, vq, vq, vq, vq, vq, vq, vq, vq, vq, vq, vq, vq, vq, vq, vq, vq, vq, vq, vq, vq, vq, vq, vq, vq, vq, vq, vq, vq, vq, vq, vq, vi (1 : Int), vi (9 : Int), vq, vq, vq, vq, vq, vq, vq, vq, vq, vq, vq, vq, vq, vq, vq, vq, vq, vq, vq, vq, vq, vq, vq, vq, vq, vq, vq, vq, vq, vq, vq, vq, vq, vq, vq, vq, vq, vq, vq, vq, vq, vq, vq, vq, vq, vq, vq, vq] 38), some (.cells [vq, vq, vi (2 : Int), vq, vi (2 : Int), vq, vi (2 : Int), vq, vi (2 : Int), vq, vi (2 : Int), vq, vi (2 : Int), vq, vi (2 : Int), vq, vi (2 : Int), vq, vi (1 : Int), vq, vi (1 : Int), vq, vi (1 : Int), vq, vi (1 : Int), vq, vi (1 : Int), vq, vi (1 : Int), vq, vi (1 : Int), vq, vi (1 : Int), vq, vq, vq, vi (1 : Int), vq, vi (1 : Int), vq, vi (1 : Int), vq, vi (1 : Int), vq, vi (1 : Int), vq, vi (1 : Int), vq, vi (1 : Int), vq, vi (1 : Int), vq, vi (1 : Int), vi a2] 30), some (.cells [vi (18 : Int)] 3)]) (ob := (Zz a1 a2)) rfl (show 1 ∈ Zl (Zh 2) from by decide +kernel) (fun gv => by kernel_rfl) (Z8 a1 a2 g0 g1) rfl (by decide) (by rfl) (fun _ => ⟨rr, ⟨rr, ⟨rr, ⟨rr, ⟨⟨Eq.trans (show (vs 1 0 ([(⟨(2 : Int), (1048594 : Int)⟩ : R_ii)] : List R_ii).length ([(⟨(2 : Int), (1048594 : Int)⟩ : R_ii)] : List R_ii).length : Value) = vs 1 0 1 1 from (ZF rfl eqA eqA)) (by rfl), by rfl⟩, ⟨⟨Eq.trans (show (vi ((1 : Nat) : Int) : Value) = vi (1 : Int) from (congrArg (Value.int .i64) (by first | rfl | omega))) (by rfl), by rfl⟩, trivial⟩⟩⟩⟩⟩⟩) ⟨⟨rfl, ⟨[], by rfl⟩, by rfl⟩, ⟨(ZT (E := Zp) _ (L := ([(⟨(2 : Int), (1048594 : Int)⟩ : R_ii)] : List R_ii)) _ (show ([vi (2 : Int), vi (1048594 : Int)] : List Value) = Zr Zp ([(⟨(2 : Int), (1048594 : Int)⟩ : R_ii)] : List R_ii) from rfl)), ⟨⟨rfl, ⟨[], (show ([vi (1 : Int), vi (16 : Int), vi (255 : Int), vi (2 : Int), vq, vq, vq, vq, vq, vq, vq, vq, vq, vq, vq, vq, vq, vq, vq, vq, vq, vq, vq, vq, vq, vq, vq, vq, vq, vq, vq, vq, vq, vq, vq, vq, vq, vq, vq, vq, vq, vq, vq, vq, vq, vq, vq, vq, vq, vq, vq, vq, vq, vq, vq, vq, vq, vq, vq, vq, vq, vq, vq, vq, vq, vq, vq, vq, vq, vq, vq, vq, vq, vq, vq, vq, vq, vq, vq, vq, vq, vq, vq, vq, vq, vi (1 : Int), vi (9 : Int), vq, vq, vq, vq, vq, vq, vq, vq, vq, vq, vq, vq, vq, vq, vq, vq, vq, vq, vq, vq, vq, vq, vq, vq, vq, vq, vq, vq, vq, vq, vq, vq, vq, vq, vq, vq, vq, vq, vq, vq, vq, vq, vq, vq, vq, vq, vq, vq] : List Value) = _ from (Za rfl (Za rfl (Za rfl (Za rfl (Za rfl (Za rfl (Za rfl (Za rfl (Za rfl (Za rfl (Za rfl (Za rfl (Za rfl (Za rfl (Za rfl (Za rfl (Za rfl (Za rfl (Za rfl (Za rfl (Za rfl (Za rfl (Za rfl (Za rfl (Za rfl (Za rfl (Za rfl (Za rfl (Za rfl (Za rfl (Za rfl (Za rfl (Za rfl (Za rfl (Za rfl (Za rfl (Za rfl (Za rfl (Za rfl (Za rfl (Za rfl (Za rfl (Za rfl (Za rfl (Za rfl (Za rfl (Za rfl (Za rfl (Za rfl (Za rfl (Za rfl (Za rfl (Za rfl (Za rfl (Za rfl (Za rfl (Za rfl (Za rfl (Za rfl (Za rfl (Za rfl (Za rfl (Za rfl (Za rfl (Za rfl (Za rfl (Za rfl (Za rfl (Za rfl (Za rfl (Za rfl (Za rfl (Za rfl (Za rfl (Za rfl (Za rfl (Za rfl (Za rfl (Za rfl (Za rfl (Za rfl (Za rfl (Za rfl (Za rfl (Za rfl (Za (congrArg (Value.int .i64) (by first | rfl | omega)) (Za rfl (Za rfl (Za rfl (Za rfl (Za rfl (Za rfl (Za rfl (Za rfl (Za rfl (Za rfl (Za rfl (Za rfl (Za rfl (Za rfl (Za rfl (Za rfl (Za rfl (Za rfl (Za rfl (Za rfl (Za rfl (Za rfl (Za rfl (Za rfl (Za rfl (Za rfl (Za rfl (Za rfl (Za rfl (Za rfl (Za rfl (Za rfl (Za rfl (Za rfl (Za rfl (Za rfl (Za rfl (Za rfl (Za rfl (Za rfl (Za rfl (Za rfl (Za rfl (Za rfl (Za rfl (Za rfl (Za rfl (Za rfl (Za rfl rfl))))))))))))))))))))))))))))))))))))))))))))))))))))))))))))))))))))))))))))))))))))))))))))))))))))))))))))))))))))))))))))))))))))))).symm)⟩, by rfl⟩, ⟨⟨rfl, ⟨[], by rfl⟩, by rfl⟩, ⟨⟨rfl, ⟨[], by rfl⟩, by rfl⟩, trivial⟩⟩⟩⟩⟩
  ·
   exact Mach.ok_none
 ·
  exact Mach.ok_none

theorem Zfs (a0 a1 a2 : Int) (N : Nat) : (Zd a0 a1 a2 N).Ok Try.prog Zk (.h2m9 : Zb) (Zf a0 a1 a2 N (.h2m9 : Zb)) := by
 show (Zd a0 a1 a2 N).Ok Try.prog Zk (.h2m9 : Zb) (Zbk a0 a1 a2 N)
 unfold Zbk
 refine Mach.ok_ite (fun g0 => ?_) (fun g0 => ?_)
 ·
  refine Mach.ok_ite (fun g1 => ?_) (fun g1 => ?_)
  ·
   exact Mach.ok_next (M := Zd a0 a1 a2 N) (cd := 1000000) (cm := 0) (y := (.h1m25 (([(⟨(2 : Int), (1048594 : Int)⟩ : R_ii)] : List R_ii)) (1) (1) : Zb)) (fu := 4000) (orc := (Z7)) (live := [0, 25, 2, 3, 23]) (tv := fun _ => [some (Value.int .u8 a1), some (vi a2), some (vp 0 0), some (vi (10 : Int)), some (vs 25 0 1 1), some (vi (1 : Int))]) (bl := [some (.cells [vi (400 : Int), vs 2 0 28 28, vs 3 0 28 28, vn, vn, vn, vn, vn, vn, vn, vn, vn, vn, vs 23 0 1 1, vn, vn, vn, vn, vn, vn] 48), some (.cells [vi (2 : Int), vi (1048594 : Int)] 30), some (.cells [vi (1 : Int), vi (16 : Int), vi (255 : Int), vi (2 : Int), vq, vq, vq, vq, vq, vq, vq, vq, vq, vq, vq, vq, vq, vq, vq, vq, vq, vq, vq, vq, vq, vq, vq, vq, vq, vq, vq, vq, vq, vq, vq, vq, vq, vq, vq, vq, vq, vq, vq, vq, vq, vq, vq, vq, vq, vq, vq, vq, vq, vq, vq, vq, vq, vq, vq, vq, vq, vq, vq, vq, vq, vq, vq, vq, vq, vq, vq, vq, vq, vq, vq, vq, vq, vq, vq, vq, vq, vq, vq, vq, vq, vi (1 : Int), vi (10 : Int), vq, vq, vq, vq, vq, vq, vq, vq, vq, vq, vq, vq, vq, vq, vq, vq, vq, vq, vq, vq, vq, vq, vq, vq, vq, vq, vq, vq, vq, vq, vq, vq, vq, vq, vq, vq, vq, vq, vq, vq, vq, vq, vq, vq, vq, vq, vq, vq, vq, vq, vq, vq, vq] 38), some (.cells [vq, vq, vi (2 : Int), vq, vi (2 : Int), vq, vi (2 : Int), vq, vi (2 : Int), vq, vi (2 : Int), vq, vi (2 : Int), vq, vi (2 : Int), vq, vi (2 : Int), vq, vi (1 : Int), vq, vi (1 : Int), vq, vi (1 : Int), vq, vi (1 : Int), vq, vi (1 : Int), vq, vi (1 : Int), vq, vi (1 : Int), vq, vi (1 : Int), vq, vq, vq, vi (1 : Int), vq, vi (1 : Int), vq, vi (1 : Int), vq, vi (1 : Int), vq, vi (1 : Int), vq, vi (1 : Int), vq, vi (1 : Int), vq, vi (1 : Int), vq, vi (1 : Int), vq, vi (1 : Int), vi a2] 30), some (.cells [vi (18 : Int)] 3)]) (ob := (Zz a1 a2)) rfl (show 1 ∈ Zl (Zh 2) from by decide +kernel) (fun gv => by kernel_rfl) (Z8 a1 a2 g0 g1) rfl (by decide) (by rfl) (fun _ => ⟨rr, ⟨rr, ⟨rr, ⟨rr, ⟨⟨Eq.trans (show (vs 1 0 ([(⟨(2 : Int), (1048594 : Int)⟩ : R_ii)] : List R_ii).length ([(⟨(2 : Int), (1048594 : Int)⟩ : R_ii)] : List R_ii).length : Value) = vs 1 0 1 1 from (ZF rfl eqA eqA)) (by rfl), by rfl⟩, ⟨⟨Eq.trans (show (vi ((1 : Nat) : Int) : Value) = vi (1 : Int) from (congrArg (Value.int .i64) (by first | rfl | omega))) (by rfl), by rfl⟩, trivial⟩⟩⟩⟩⟩⟩) ⟨⟨rfl, ⟨[], by rfl⟩, by rfl⟩, ⟨(ZT (E := Zp) _ (L := ([(⟨(2 : Int), (1048594 : Int)⟩ : R_ii)] : List R_ii)) _ (show ([vi (2 : Int), vi (1048594 : Int)] : List Value) = Zr Zp ([(⟨(2 : Int), (1048594 : Int)⟩ : R_ii)] : List R_ii) from rfl)), ⟨⟨rfl, ⟨[], (show ([vi (1 : Int), vi (16 : Int), vi (255 : Int), vi (2 : Int), vq, vq, vq, vq, vq, vq, vq, vq, vq, vq, vq, vq, vq, vq, vq, vq, vq, vq, vq, vq, vq, vq, vq, vq, vq, vq, vq, vq, vq, vq, vq, vq, vq, vq, vq, vq, vq, vq, vq, vq, vq, vq, vq, vq, vq, vq, vq, vq, vq, vq, vq, vq, vq, vq, vq, vq, vq, vq, vq, vq, vq, vq, vq, vq, vq, vq, vq, vq, vq, vq, vq, vq, vq, vq, vq, vq, vq, vq, vq, vq, vq, vi (1 : Int), vi (10 : Int), vq, vq, vq, vq, vq, vq, vq, vq, vq, vq, vq, vq, vq, vq, vq, vq, vq, vq, vq, vq, vq, vq, vq, vq, vq, vq, vq, vq, vq, vq, vq, vq, vq, vq, vq, vq, vq, vq, vq, vq, vq, vq, vq, vq, vq, vq, vq, vq, vq, vq, vq, vq, vq] : List Value) = _ from (Za rfl (Za rfl (Za rfl (Za rfl (Za rfl (Za rfl (Za rfl (Za rfl (Za rfl (Za rfl (Za rfl (Za rfl (Za rfl (Za rfl (Za rfl (Za rfl (Za rfl (Za rfl (Za rfl (Za rfl (Za rfl (Za rfl (Za rfl (Za rfl (Za rfl (Za rfl (Za rfl (Za rfl (Za rfl (Za rfl (Za rfl (Za rfl (Za rfl (Za rfl (Za rfl (Za rfl (Za rfl (Za rfl (Za rfl (Za rfl (Za rfl (Za rfl (Za rfl (Za rfl (Za rfl (Za rfl (Za rfl (Za rfl (Za rfl (Za rfl (Za rfl (Za rfl (Za rfl (Za rfl (Za rfl (Za rfl (Za rfl (Za rfl (Za rfl (Za rfl (Za rfl (Za rfl (Za rfl (Za rfl (Za rfl (Za rfl (Za rfl (Za rfl (Za rfl (Za rfl (Za rfl (Za rfl (Za rfl (Za rfl (Za rfl (Za rfl (Za rfl (Za rfl (Za rfl (Za rfl (Za rfl (Za rfl (Za rfl (Za rfl (Za rfl (Za (congrArg (Value.int .i64) (by first | rfl | omega)) (Za rfl (Za rfl (Za rfl (Za rfl (Za rfl (Za rfl (Za rfl (Za rfl (Za rfl (Za rfl (Za rfl (Za rfl (Za rfl (Za rfl (Za rfl (Za rfl (Za rfl (Za rfl (Za rfl (Za rfl (Za rfl (Za rfl (Za rfl (Za rfl (Za rfl (Za rfl (Za rfl (Za rfl (Za rfl (Za rfl (Za rfl (Za rfl (Za rfl (Za rfl (Za rfl (Za rfl (Za rfl (Za rfl (Za rfl (Za rfl (Za rfl (Za rfl (Za rfl (Za rfl (Za rfl (Za rfl (Za rfl (Za rfl (Za rfl (Za rfl (Za rfl (Za rfl (Za rfl (Za rfl rfl)))))))))))))))))))))))))))))))))))))))))))))))))))))))))))))))))))))))))))))))))))))))))))))))))))))))))))))))))))))))))))))))))))))))))))).symm)⟩, by rfl⟩, ⟨⟨rfl, ⟨[], by rfl⟩, by rfl⟩, ⟨⟨rfl, ⟨[], by rfl⟩, by rfl⟩, trivial⟩⟩⟩⟩⟩
  ·
   exact Mach.ok_none
 ·
  exact Mach.ok_none

theorem Zev (a0 a1 a2 : Int) (N : Nat) : (Zd a0 a1 a2 N).Ok Try.prog Zk (.h2m10 : Zb) (Zf a0 a1 a2 N (.h2m10 : Zb)) := by
 show (Zd a0 a1 a2 N).Ok Try.prog Zk (.h2m10 : Zb) (ZaJ a0 a1 a2 N)
 unfold ZaJ
 refine Mach.ok_ite (fun g0 => ?_) (fun g0 => ?_)
 ·
  refine Mach.ok_ite (fun g1 => ?_) (fun g1 => ?_)
  ·
   exact Mach.ok_next (M := Zd a0 a1 a2 N) (cd := 1000000) (cm := 0) (y := (.h1m26 (([(⟨(2 : Int), (1048594 : Int)⟩ : R_ii)] : List R_ii)) (1) (1) : Zb)) (fu := 4000) (orc := (Z7)) (live := [0, 25, 2, 3, 23]) (tv := fun _ => [some (Value.int .u8 a1), some (vi a2), some (vp 0 0), some (vi (11 : Int)), some (vs 25 0 1 1), some (vi (1 : Int))]) (bl := [some (.cells [vi (400 : Int), vs 2 0 29 29, vs 3 0 29 29, vn, vn, vn, vn, vn, vn, vn, vn, vn, vn, vn, vs 23 0 1 1, vn, vn, vn, vn, vn] 48), some (.cells [vi (2 : Int), vi (1048594 : Int)] 30), some (.cells [vi (1 : Int), vi (16 : Int), vi (255 : Int), vi (2 : Int), vq, vq, vq, vq, vq, vq, vq, vq, vq, vq, vq, vq, vq, vq, vq, vq, vq, vq, vq, vq, vq, vq, vq, vq, vq, vq, vq, vq, vq, vq, vq, vq, vq, vq, vq, vq, vq, vq, vq, vq, vq, vq, vq, vq, vq, vq, vq, vq, vq, vq, vq, vq, vq, vq, vq, vq, vq, vq, vq, vq, vq, vq, vq, vq, vq, vq, vq, vq, vq, vq, vq, vq, vq, vq, vq, vq, vq, vq, vq, vq, vq, vi (1 : Int), vi (11 : Int), vq, vq, vq, vq, vq, vq, vq, vq, vq, vq, vq, vq, vq, vq, vq, vq, vq, vq, vq, vq, vq, vq, vq, vq, vq, vq, vq, vq, vq, vq, vq, vq, vq, vq, vq, vq, vq, vq, vq, vq, vq, vq, vq, vq, vq, vq, vq, vq, vq, vq, vq, vq, vq, vq, vq, vq, vq, vq] 38), some (.cells [vq, vq, vi (2 : Int), vq, vi (2 : Int), vq, vi (2 : Int), vq, vi (2 : Int), vq, vi (2 : Int), vq, vi (2 : Int), vq, vi (2 : Int), vq, vi (2 : Int), vq, vi (1 : Int), vq, vi (1 : Int), vq, vi (1 : Int), vq, vi (1 : Int), vq, vi (1 : Int), vq, vi (1 : Int), vq, vi (1 : Int), vq, vi (1 : Int), vq, vq, vq, vi (1 : Int), vq, vi (1 : Int), vq, vi (1 : Int), vq, vi (1 : Int), vq, vi (1 : Int), vq, vi (1 : Int), vq, vi (1 : Int), vq, vi (1 : Int), vq, vi (1 : Int), vq, vi (1 : Int), vq, vi (1 : Int), vi a2] 30), some (.cells [vi (18 : Int)] 3)]) (ob := (Zz a1 a2)) rfl (show 1 ∈ Zl (Zh 2) from by decide +kernel) (fun gv => by kernel_rfl) (Z8 a1 a2 g0 g1) rfl (by decide) (by rfl) (fun _ => ⟨rr, ⟨rr, ⟨rr, ⟨rr, ⟨⟨Eq.trans (show (vs 1 0 ([(⟨(2 : Int), (1048594 : Int)⟩ : R_ii)] : List R_ii).length ([(⟨(2 : Int), (1048594 : Int)⟩ : R_ii)] : List R_ii).length : Value) = vs 1 0 1 1 from (ZF rfl eqA eqA)) (by rfl), by rfl⟩, ⟨⟨Eq.trans (show (vi ((1 : Nat) : Int) : Value) = vi (1 : Int) from (congrArg (Value.int .i64) (by first | rfl | omega))) (by rfl), by rfl⟩, trivial⟩⟩⟩⟩⟩⟩) ⟨⟨rfl, ⟨[], by rfl⟩, by rfl⟩, ⟨(ZT (E := Zp) _ (L := ([(⟨(2 : Int), (1048594 : Int)⟩ : R_ii)] : List R_ii)) _ (show ([vi (2 : Int), vi (1048594 : Int)] : List Value) = Zr Zp ([(⟨(2 : Int), (1048594 : Int)⟩ : R_ii)] : List R_ii) from rfl)), ⟨⟨rfl, ⟨[], (show ([vi (1 : Int), vi (16 : Int), vi (255 : Int), vi (2 : Int), vq, vq, vq, vq, vq, vq, vq, vq, vq, vq, vq, vq, vq, vq, vq, vq, vq, vq, vq, vq, vq, vq, vq, vq, vq, vq, vq, vq, vq, vq, vq, vq, vq, vq, vq, vq, vq, vq, vq, vq, vq, vq, vq, vq, vq, vq, vq, vq, vq, vq, vq, vq, vq, vq, vq, vq, vq, vq, vq, vq, vq, vq, vq, vq, vq, vq, vq, vq, vq, vq, vq, vq, vq, vq, vq, vq, vq, vq, vq, vq, vq, vi (1 : Int), vi (11 : Int), vq, vq, vq, vq, vq, vq, vq, vq, vq, vq, vq, vq, vq, vq, vq, vq, vq, vq, vq, vq, vq, vq, vq, vq, vq, vq, vq, vq, vq, vq, vq, vq, vq, vq, vq, vq, vq, vq, vq, vq, vq, vq, vq, vq, vq, vq, vq, vq, vq, vq, vq, vq, vq, vq, vq, vq, vq, vq] : List Value) = _ from (Za rfl (Za rfl (Za rfl (Za rfl (Za rfl (Za rfl (Za rfl (Za rfl (Za rfl (Za rfl (Za rfl (Za rfl (Za rfl (Za rfl (Za rfl (Za rfl (Za rfl (Za rfl (Za rfl (Za rfl (Za rfl (Za rfl (Za rfl (Za rfl (Za rfl (Za rfl (Za rfl (Za rfl (Za rfl (Za rfl (Za rfl (Za rfl (Za rfl (Za rfl (Za rfl (Za rfl (Za rfl (Za rfl (Za rfl (Za rfl (Za rfl (Za rfl (Za rfl (Za rfl (Za rfl (Za rfl (Za rfl (Za rfl (Za rfl (Za rfl (Za rfl (Za rfl (Za rfl (Za rfl (Za rfl (Za rfl (Za rfl (Za rfl (Za rfl (Za rfl (Za rfl (Za rfl (Za rfl (Za rfl (Za rfl (Za rfl (Za rfl (Za rfl (Za rfl (Za rfl (Za rfl (Za rfl (Za rfl (Za rfl (Za rfl (Za rfl (Za rfl (Za rfl (Za rfl (Za rfl (Za rfl (Za rfl (Za rfl (Za rfl (Za rfl (Za (congrArg (Value.int .i64) (by first | rfl | omega)) (Za rfl (Za rfl (Za rfl (Za rfl (Za rfl (Za rfl (Za rfl (Za rfl (Za rfl (Za rfl (Za rfl (Za rfl (Za rfl (Za rfl (Za rfl (Za rfl (Za rfl (Za rfl (Za rfl (Za rfl (Za rfl (Za rfl (Za rfl (Za rfl (Za rfl (Za rfl (Za rfl (Za rfl (Za rfl (Za rfl (Za rfl (Za rfl (Za rfl (Za rfl (Za rfl (Za rfl (Za rfl (Za rfl (Za rfl (Za rfl (Za rfl (Za rfl (Za rfl (Za rfl (Za rfl (Za rfl (Za rfl (Za rfl (Za rfl (Za rfl (Za rfl (Za rfl (Za rfl (Za rfl (Za rfl (Za rfl (Za rfl (Za rfl (Za rfl rfl))))))))))))))))))))))))))))))))))))))))))))))))))))))))))))))))))))))))))))))))))))))))))))))))))))))))))))))))))))))))))))))))))))))))))))))))).symm)⟩, by rfl⟩, ⟨⟨rfl, ⟨[], by rfl⟩, by rfl⟩, ⟨⟨rfl, ⟨[], by rfl⟩, by rfl⟩, trivial⟩⟩⟩⟩⟩
  ·
   exact Mach.ok_none
 ·
  exact Mach.ok_none

theorem Zew (a0 a1 a2 : Int) (N : Nat) : (Zd a0 a1 a2 N).Ok Try.prog Zk (.h2m11 : Zb) (Zf a0 a1 a2 N (.h2m11 : Zb)) := by
 show (Zd a0 a1 a2 N).Ok Try.prog Zk (.h2m11 : Zb) (ZaK a0 a1 a2 N)
 unfold ZaK
 refine Mach.ok_ite (fun g0 => ?_) (fun g0 => ?_)
 ·
  refine Mach.ok_ite (fun g1 => ?_) (fun g1 => ?_)
  ·
   exact Mach.ok_next (M := Zd a0 a1 a2 N) (cd := 1000000) (cm := 0) (y := (.h1m27 (([(⟨(2 : Int), (1048594 : Int)⟩ : R_ii)] : List R_ii)) (1) (1) : Zb)) (fu := 4000) (orc := (Z7)) (live := [0, 25, 2, 3, 23]) (tv := fun _ => [some (Value.int .u8 a1), some (vi a2), some (vp 0 0), some (vi (12 : Int)), some (vs 25 0 1 1), some (vi (1 : Int))]) (bl := [some (.cells [vi (400 : Int), vs 2 0 30 30, vs 3 0 30 30, vn, vn, vn, vn, vn, vn, vn, vn, vn, vn, vn, vn, vs 23 0 1 1, vn, vn, vn, vn] 48), some (.cells [vi (2 : Int), vi (1048594 : Int)] 30), some (.cells [vi (1 : Int), vi (16 : Int), vi (255 : Int), vi (2 : Int), vq, vq, vq, vq, vq, vq, vq, vq, vq, vq, vq, vq, vq, vq, vq, vq, vq, vq, vq, vq, vq, vq, vq, vq, vq, vq, vq, vq, vq, vq, vq, vq, vq, vq, vq, vq, vq, vq, vq, vq, vq, vq, vq, vq, vq, vq, vq, vq, vq, vq, vq, vq, vq, vq, vq, vq, vq, vq, vq, vq, vq, vq, vq, vq, vq, vq, vq, vq, vq, vq, vq, vq, vq, vq, vq, vq, vq, vq, vq, vq, vq, vi (1 : Int), vi (12 : Int), vq, vq, vq, vq, vq, vq, vq, vq, vq, vq, vq, vq, vq, vq, vq, vq, vq, vq, vq, vq, vq, vq, vq, vq, vq, vq, vq, vq, vq, vq, vq, vq, vq, vq, vq, vq, vq, vq, vq, vq, vq, vq, vq, vq, vq, vq, vq, vq, vq, vq, vq, vq, vq, vq, vq, vq, vq, vq, vq, vq, vq, vq, vq] 38), some (.cells [vq, vq, vi (2 : Int), vq, vi (2 : Int), vq, vi (2 : Int), vq, vi (2 : Int), vq, vi (2 : Int), vq, vi (2 : Int), vq, vi (2 : Int), vq, vi (2 : Int), vq, vi (1 : Int), vq, vi (1 : Int), vq, vi (1 : Int), vq, vi (1 : Int), vq, vi (1 : Int), vq, vi (1 : Int), vq, vi (1 : Int), vq, vi (1 : Int), vq, vq, vq, vi (1 : Int), vq, vi (1 : Int), vq, vi (1 : Int), vq, vi (1 : Int), vq, vi (1 : Int), vq, vi (1 : Int), vq, vi (1 : Int), vq, vi (1 : Int), vq, vi (1 : Int), vq, vi (1 : Int), vq, vi (1 : Int), vq, vi (1 : Int), vi a2] 30), some (.cells [vi (18 : Int)] 3)]) (ob := (Zz a1 a2)) rfl (show 1 ∈ Zl (Zh 2) from by decide +kernel) (fun gv => by kernel_rfl) (Z8 a1 a2 g0 g1) rfl (by decide) (by rfl) (fun _ => ⟨rr, ⟨rr, ⟨rr, ⟨rr, ⟨⟨Eq.trans (show (vs 1 0 ([(⟨(2 : Int), (1048594 : Int)⟩ : R_ii)] : List R_ii).length ([(⟨(2 : Int), (1048594 : Int)⟩ : R_ii)] : List R_ii).length : Value) = vs 1 0 1 1 from (ZF rfl eqA eqA)) (by rfl), by rfl⟩, ⟨⟨Eq.trans (show (vi ((1 : Nat) : Int) : Value) = vi (1 : Int) from (congrArg (Value.int .i64) (by first | rfl | omega))) (by rfl), by rfl⟩, trivial⟩⟩⟩⟩⟩⟩) ⟨⟨rfl, ⟨[], by rfl⟩, by rfl⟩, ⟨(ZT (E := Zp) _ (L := ([(⟨(2 : Int), (1048594 : Int)⟩ : R_ii)] : List R_ii)) _ (show ([vi (2 : Int), vi (1048594 : Int)] : List Value) = Zr Zp ([(⟨(2 : Int), (1048594 : Int)⟩ : R_ii)] : List R_ii) from rfl)), ⟨⟨rfl, ⟨[], (show ([vi (1 : Int), vi (16 : Int), vi (255 : Int), vi (2 : Int), vq, vq, vq, vq, vq, vq, vq, vq, vq, vq, vq, vq, vq, vq, vq, vq, vq, vq, vq, vq, vq, vq, vq, vq, vq, vq, vq, vq, vq, vq, vq, vq, vq, vq, vq, vq, vq, vq, vq, vq, vq, vq, vq, vq, vq, vq, vq, vq, vq, vq, vq, vq, vq, vq, vq, vq, vq, vq, vq, vq, vq, vq, vq, vq, vq, vq, vq, vq, vq, vq, vq, vq, vq, vq, vq, vq, vq, vq, vq, vq, vq, vi (1 : Int), vi (12 : Int), vq, vq, vq, vq, vq, vq, vq, vq, vq, vq, vq, vq, vq, vq, vq, vq, vq, vq, vq, vq, vq, vq, vq, vq, vq, vq, vq, vq, vq, vq, vq, vq, vq, vq, vq, vq, vq, vq, vq, vq, vq, vq, vq, vq, vq, vq, vq, vq, vq, vq, vq, vq, vq, vq, vq, vq, vq, vq, vq, vq, vq, vq, vq] : List Value) = _ from (Za rfl (Za rfl (Za rfl (Za rfl (Za rfl (Za rfl (Za rfl (Za rfl (Za rfl (Za rfl (Za rfl (Za rfl (Za rfl (Za rfl (Za rfl (Za rfl (Za rfl (Za rfl (Za rfl (Za rfl (Za rfl (Za rfl (Za rfl (Za rfl (Za rfl (Za rfl (Za rfl (Za rfl (Za rfl (Za rfl (Za rfl (Za rfl (Za rfl (Za rfl (Za rfl (Za rfl (Za rfl (Za rfl (Za rfl (Za rfl (Za rfl (Za rfl (Za rfl (Za rfl (Za rfl (Za rfl (Za rfl (Za rfl (Za rfl (Za rfl (Za rfl (Za rfl (Za rfl (Za rfl (Za rfl (Za rfl (Za rfl (Za rfl (Za rfl (Za rfl (Za rfl (Za rfl (Za rfl (Za rfl (Za rfl (Za rfl (Za rfl (Za rfl (Za rfl (Za rfl (Za rfl (Za rfl (Za rfl (Za rfl (Za rfl (Za rfl (Za rfl (Za rfl (Za rfl (Za rfl (Za rfl (Za rfl (Za rfl (Za rfl (Za rfl (Za (congrArg (Value.int .i64) (by first | rfl | omega)) (Za rfl (Za rfl (Za rfl (Za rfl (Za rfl (Za rfl (Za rfl (Za rfl (Za rfl (Za rfl (Za rfl (Za rfl (Za rfl (Za rfl (Za rfl (Za rfl (Za rfl (Za rfl (Za rfl (Za rfl (Za rfl (Za rfl (Za rfl (Za rfl (Za rfl (Za rfl (Za rfl (Za rfl (Za rfl (Za rfl (Za rfl (Za rfl (Za rfl (Za rfl (Za rfl (Za rfl (Za rfl (Za rfl (Za rfl (Za rfl (Za rfl (Za rfl (Za rfl (Za rfl (Za rfl (Za rfl (Za rfl (Za rfl (Za rfl (Za rfl (Za rfl (Za rfl (Za rfl (Za rfl (Za rfl (Za rfl (Za rfl (Za rfl (Za rfl (Za rfl (Za rfl (Za rfl (Za rfl (Za rfl rfl)))))))))))))))))))))))))))))))))))))))))))))))))))))))))))))))))))))))))))))))))))))))))))))))))))))))))))))))))))))))))))))))))))))))))))))))))))))).symm)⟩, by rfl⟩, ⟨⟨rfl, ⟨[], by rfl⟩, by rfl⟩, ⟨⟨rfl, ⟨[], by rfl⟩, by rfl⟩, trivial⟩⟩⟩⟩⟩
  ·
   exact Mach.ok_none
 ·
  exact Mach.ok_none

theorem Zex (a0 a1 a2 : Int) (N : Nat) : (Zd a0 a1 a2 N).Ok Try.prog Zk (.h2m12 : Zb) (Zf a0 a1 a2 N (.h2m12 : Zb)) := by
 show (Zd a0 a1 a2 N).Ok Try.prog Zk (.h2m12 : Zb) (ZaL a0 a1 a2 N)
 unfold ZaL
 refine Mach.ok_ite (fun g0 => ?_) (fun g0 => ?_)
 ·
  refine Mach.ok_ite (fun g1 => ?_) (fun g1 => ?_)
  ·
   exact Mach.ok_next (M := Zd a0 a1 a2 N) (cd := 1000000) (cm := 0) (y := (.h1m28 (([(⟨(2 : Int), (1048594 : Int)⟩ : R_ii)] : List R_ii)) (1) (1) : Zb)) (fu := 4000) (orc := (Z7)) (live := [0, 25, 2, 3, 23]) (tv := fun _ => [some (Value.int .u8 a1), some (vi a2), some (vp 0 0), some (vi (13 : Int)), some (vs 25 0 1 1), some (vi (1 : Int))]) (bl := [some (.cells [vi (400 : Int), vs 2 0 31 31, vs 3 0 31 31, vn, vn, vn, vn, vn, vn, vn, vn, vn, vn, vn, vn, vn, vs 23 0 1 1, vn, vn, vn] 48), some (.cells [vi (2 : Int), vi (1048594 : Int)] 30), some (.cells [vi (1 : Int), vi (16 : Int), vi (255 : Int), vi (2 : Int), vq, vq, vq, vq, vq, vq, vq, vq, vq, vq, vq, vq, vq, vq, vq, vq, vq, vq, vq, vq, vq, vq, vq, vq, vq, vq, vq, vq, vq, vq, vq, vq, vq, vq, vq, vq, vq, vq, vq, vq, vq, vq, vq, vq, vq, vq, vq, vq, vq, vq, vq, vq, vq, vq, vq, vq, vq, vq, vq, vq, vq, vq, vq, vq, vq, vq, vq, vq, vq, vq, vq, vq, vq, vq, vq, vq, vq, vq, vq, vq, vq, vi (1 : Int), vi (13 : Int), vq, vq, vq, vq, vq, vq, vq, vq, vq, vq, vq, vq, vq, vq, vq, vq, vq, vq, vq, vq, vq, vq, vq, vq, vq, vq, vq, vq, vq, vq, vq, vq, vq, vq, vq, vq, vq, vq, vq, vq, vq, vq, vq, vq, vq, vq, vq, vq, vq, vq, vq, vq, vq, vq, vq, vq, vq, vq, vq, vq, vq, vq, vq, vq, vq, vq, vq, vq] 38), some (.cells [vq, vq, vi (2 : Int), vq, vi (2 : Int), vq, vi (2 : Int), vq, vi (2 : Int), vq, vi (2 : Int), vq, vi (2 : Int), vq, vi (2 : Int), vq, vi (2 : Int), vq, vi (1 : Int), vq, vi (1 : Int), vq, vi (1 : Int), vq, vi (1 : Int), vq, vi (1 : Int), vq, vi (1 : Int), vq, vi (1 : Int), vq, vi (1 : Int), vq, vq, vq, vi (1 : Int), vq, vi (1 : Int), vq, vi (1 : Int), vq, vi (1 : Int), vq, vi (1 : Int), vq, vi (1 : Int), vq, vi (1 : Int), vq, vi (1 : Int), vq, vi (1 : Int), vq, vi (1 : Int), vq, vi (1 : Int), vq, vi (1 : Int), vq, vi (1 : Int), vi a2] 30), some (.cells [vi (18 : Int)] 3)]) (ob := (Zz a1 a2)) rfl (show 1 ∈ Zl (Zh 2) from by decide +kernel) (fun gv => by kernel_rfl) (Z8 a1 a2 g0 g1) rfl (by decide) (by rfl) (fun _ => ⟨rr, ⟨rr, ⟨rr, ⟨rr, ⟨⟨Eq.trans (show (vs 1 0 ([(⟨(2 : Int), (1048594 : Int)⟩ : R_ii)] : List R_ii).length ([(⟨(2 : Int), (1048594 : Int)⟩ : R_ii)] : List R_ii).length : Value) = vs 1 0 1 1 from (ZF rfl eqA eqA)) (by rfl), by rfl⟩, ⟨⟨Eq.trans (show (vi ((1 : Nat) : Int) : Value) = vi (1 : Int) from (congrArg (Value.int .i64) (by first | rfl | omega))) (by rfl), by rfl⟩, trivial⟩⟩⟩⟩⟩⟩) ⟨⟨rfl, ⟨[], by rfl⟩, by rfl⟩, ⟨(ZT (E := Zp) _ (L := ([(⟨(2 : Int), (1048594 : Int)⟩ : R_ii)] : List R_ii)) _ (show ([vi (2 : Int), vi (1048594 : Int)] : List Value) = Zr Zp ([(⟨(2 : Int), (1048594 : Int)⟩ : R_ii)] : List R_ii) from rfl)), ⟨⟨rfl, ⟨[], (show ([vi (1 : Int), vi (16 : Int), vi (255 : Int), vi (2 : Int), vq, vq, vq, vq, vq, vq, vq, vq, vq, vq, vq, vq, vq, vq, vq, vq, vq, vq, vq, vq, vq, vq, vq, vq, vq, vq, vq, vq, vq, vq, vq, vq, vq, vq, vq, vq, vq, vq, vq, vq, vq, vq, vq, vq, vq, vq, vq, vq, vq, vq, vq, vq, vq, vq, vq, vq, vq, vq, vq, vq, vq, vq, vq, vq, vq, vq, vq, vq, vq, vq, vq, vq, vq, vq, vq, vq, vq, vq, vq, vq, vq, vi (1 : Int), vi (13 : Int), vq, vq, vq, vq, vq, vq, vq, vq, vq, vq, vq, vq, vq, vq, vq, vq, vq, vq, vq, vq, vq, vq, vq, vq, vq, vq, vq, vq, vq, vq, vq, vq, vq, vq, vq, vq, vq, vq, vq, vq, vq, vq, vq, vq, vq, vq, vq, vq, vq, vq, vq, vq, vq, vq, vq, vq, vq, vq, vq, vq, vq, vq, vq, vq, vq, vq, vq, vq] : List Value) = _ from (Za rfl (Za rfl (Za rfl (Za rfl (Za rfl (Za rfl (Za rfl (Za rfl (Za rfl (Za rfl (Za rfl (Za rfl (Za rfl (Za rfl (Za rfl (Za rfl (Za rfl (Za rfl (Za rfl (Za rfl (Za rfl (Za rfl (Za rfl (Za rfl (Za rfl (Za rfl (Za rfl (Za rfl (Za rfl (Za rfl (Za rfl (Za rfl (Za rfl (Za rfl (Za rfl (Za rfl (Za rfl (Za rfl (Za rfl (Za rfl (Za rfl (Za rfl (Za rfl (Za rfl (Za rfl (Za rfl (Za rfl (Za rfl (Za rfl (Za rfl (Za rfl (Za rfl (Za rfl (Za rfl (Za rfl (Za rfl (Za rfl (Za rfl (Za rfl (Za rfl (Za rfl (Za rfl (Za rfl (Za rfl (Za rfl (Za rfl (Za rfl (Za rfl (Za rfl (Za rfl (Za rfl (Za rfl (Za rfl (Za rfl (Za rfl (Za rfl (Za rfl (Za rfl (Za rfl (Za rfl (Za rfl (Za rfl (Za rfl (Za rfl (Za rfl (Za (congrArg (Value.int .i64) (by first | rfl | omega)) (Za rfl (Za rfl (Za rfl (Za rfl (Za rfl (Za rfl (Za rfl (Za rfl (Za rfl (Za rfl (Za rfl (Za rfl (Za rfl (Za rfl (Za rfl (Za rfl (Za rfl (Za rfl (Za rfl (Za rfl (Za rfl (Za rfl (Za rfl (Za rfl (Za rfl (Za rfl (Za rfl (Za rfl (Za rfl (Za rfl (Za rfl (Za rfl (Za rfl (Za rfl (Za rfl (Za rfl (Za rfl (Za rfl (Za rfl (Za rfl (Za rfl (Za rfl (Za rfl (Za rfl (Za rfl (Za rfl (Za rfl (Za rfl (Za rfl (Za rfl (Za rfl (Za rfl (Za rfl (Za rfl (Za rfl (Za rfl (Za rfl (Za rfl (Za rfl (Za rfl (Za rfl (Za rfl (Za rfl (Za rfl (Za rfl (Za rfl (Za rfl (Za rfl (Za rfl rfl))))))))))))))))))))))))))))))))))))))))))))))))))))))))))))))))))))))))))))))))))))))))))))))))))))))))))))))))))))))))))))))))))))))))))))))))))))))))))).symm)⟩, by rfl⟩, ⟨⟨rfl, ⟨[], by rfl⟩, by rfl⟩, ⟨⟨rfl, ⟨[], by rfl⟩, by rfl⟩, trivial⟩⟩⟩⟩⟩
  ·
   exact Mach.ok_none
 ·
  exact Mach.ok_none

theorem Zey (a0 a1 a2 : Int) (N : Nat) : (Zd a0 a1 a2 N).Ok Try.prog Zk (.h2m13 : Zb) (Zf a0 a1 a2 N (.h2m13 : Zb)) := by
 show (Zd a0 a1 a2 N).Ok Try.prog Zk (.h2m13 : Zb) (ZaM a0 a1 a2 N)
 unfold ZaM
 refine Mach.ok_ite (fun g0 => ?_) (fun g0 => ?_)
 ·
  refine Mach.ok_ite (fun g1 => ?_) (fun g1 => ?_)
  ·
   exact Mach.ok_next (M := Zd a0 a1 a2 N) (cd := 1000000) (cm := 0) (y := (.h1m29 (([(⟨(2 : Int), (1048594 : Int)⟩ : R_ii)] : List R_ii)) (1) (1) : Zb)) (fu := 4000) (orc := (Z7)) (live := [0, 25, 2, 3, 23]) (tv := fun _ => [some (Value.int .u8 a1), some (vi a2), some (vp 0 0), some (vi (14 : Int)), some (vs 25 0 1 1), some (vi (1 : Int))]) (bl := [some (.cells [vi (400 : Int), vs 2 0 32 32, vs 3 0 32 32, vn, vn, vn, vn, vn, vn, vn, vn, vn, vn, vn, vn, vn, vn, vs 23 0 1 1, vn, vn] 48), some (.cells [vi (2 : Int), vi (1048594 : Int)] 30), some (.cells [vi (1 : Int), vi (16 : Int), vi (255 : Int), vi (2 : Int), vq, vq, vq, vq, vq, vq, vq, vq, vq, vq, vq, vq, vq, vq, vq, vq, vq, vq, vq, vq, vq, vq, vq, vq, vq, vq, vq, vq, vq, vq, vq, vq, vq, vq, vq, vq, vq, vq, vq, vq, vq, vq, vq, vq, vq, vq, vq, vq, vq, vq, vq, vq, vq, vq, vq, vq, vq, vq, vq, vq, vq, vq, vq, vq, vq, vq, vq, vq, vq, vq, vq, vq, vq, vq, vq, vq, vq, vq, vq, vq, vq, vi (1 : Int), vi (14 : Int), vq, vq, vq, vq, vq, vq, vq, vq, vq, vq, vq, vq, vq, vq, vq, vq, vq, vq, vq, vq, vq, vq, vq, vq, vq, vq, vq, vq, vq, vq, vq, vq, vq, vq, vq, vq, vq, vq, vq, vq, vq, vq, vq, vq, vq, vq, vq, vq, vq, vq, vq, vq, vq, vq, vq, vq, vq, vq, vq, vq, vq, vq, vq, vq, vq, vq, vq, vq, vq, vq, vq, vq, vq] 38), some (.cells [vq, vq, vi (2 : Int), vq, vi (2 : Int), vq, vi (2 : Int), vq, vi (2 : Int), vq, vi (2 : Int), vq, vi (2 : Int), vq, vi (2 : Int), vq, vi (2 : Int), vq, vi (1 : Int), vq, vi (1 : Int), vq, vi (1 : Int), vq, vi (1 : Int), vq, vi (1 : Int), vq, vi (1 : Int), vq, vi (1 : Int), vq, vi (1 : Int), vq, vq, vq, vi (1 : Int), vq, vi (1 : Int), vq, vi (1 : Int), vq, vi (1 : Int), vq, vi (1 : Int), vq, vi (1 : Int), vq, vi (1 : Int), vq, vi (1 : Int), vq, vi (1 : Int), vq, vi (1 : Int), vq, vi (1 : Int), vq, vi (1 : Int), vq, vi (1 : Int), vq, vi (1 : Int), vi a2] 30), some (.cells [vi (18 : Int)] 3)]) (ob := (Zz a1 a2)) rfl (show 1 ∈ Zl (Zh 2) from by decide +kernel) (fun gv => by kernel_rfl) (Z8 a1 a2 g0 g1) rfl (by decide) (by rfl) (fun _ => ⟨rr, ⟨rr, ⟨rr, ⟨rr, ⟨⟨Eq.trans (show (vs 1 0 ([(⟨(2 : Int), (1048594 : Int)⟩ : R_ii)] : List R_ii).length ([(⟨(2 : Int), (1048594 : Int)⟩ : R_ii)] : List R_ii).length : Value) = vs 1 0 1 1 from (ZF rfl eqA eqA)) (by rfl), by rfl⟩, ⟨⟨Eq.trans (show (vi ((1 : Nat) : Int) : Value) = vi (1 : Int) from (congrArg (Value.int .i64) (by first | rfl | omega))) (by rfl), by rfl⟩, trivial⟩⟩⟩⟩⟩⟩) ⟨⟨rfl, ⟨[], by rfl⟩, by rfl⟩, ⟨(ZT (E := Zp) _ (L := ([(⟨(2 : Int), (1048594 : Int)⟩ : R_ii)] : List R_ii)) _ (show ([vi (2 : Int), vi (1048594 : Int)] : List Value) = Zr Zp ([(⟨(2 : Int), (1048594 : Int)⟩ : R_ii)] : List R_ii) from rfl)), ⟨⟨rfl, ⟨[], (show ([vi (1 : Int), vi (16 : Int), vi (255 : Int), vi (2 : Int), vq, vq, vq, vq, vq, vq, vq, vq, vq, vq, vq, vq, vq, vq, vq, vq, vq, vq, vq, vq, vq, vq, vq, vq, vq, vq, vq, vq, vq, vq, vq, vq, vq, vq, vq, vq, vq, vq, vq, vq, vq, vq, vq, vq, vq, vq, vq, vq, vq, vq, vq, vq, vq, vq, vq, vq, vq, vq, vq, vq, vq, vq, vq, vq, vq, vq, vq, vq, vq, vq, vq, vq, vq, vq, vq, vq, vq, vq, vq, vq, vq, vi (1 : Int), vi (14 : Int), vq, vq, vq, vq, vq, vq, vq, vq, vq, vq, vq, vq, vq, vq, vq, vq, vq, vq, vq, vq, vq, vq, vq, vq, vq, vq, vq, vq, vq, vq, vq, vq, vq, vq, vq, vq, vq, vq, vq, vq, vq, vq, vq, vq, vq, vq, vq, vq, vq, vq, vq, vq, vq, vq, vq, vq, vq, vq, vq, vq, vq, vq, vq, vq, vq, vq, vq, vq, vq, vq, vq, vq, vq] : List Value) = _ from (Za rfl (Za rfl (Za rfl (Za rfl (Za rfl (Za rfl (Za rfl (Za rfl (Za rfl (Za rfl (Za rfl (Za rfl (Za rfl (Za rfl (Za rfl (Za rfl (Za rfl (Za rfl (Za rfl (Za rfl (Za rfl (Za rfl (Za rfl (Za rfl (Za rfl (Za rfl (Za rfl (Za rfl (Za rfl (Za rfl (Za rfl (Za rfl (Za rfl (Za rfl (Za rfl (Za rfl (Za rfl (Za rfl (Za rfl (Za rfl (Za rfl (Za rfl (Za rfl (Za rfl (Za rfl (Za rfl (Za rfl (Za rfl (Za rfl (Za rfl (Za rfl (Za rfl (Za rfl (Za rfl (Za rfl (Za rfl (Za rfl (Za rfl (Za rfl (Za rfl (Za rfl (Za rfl (Za rfl (Za rfl (Za rfl (Za rfl (Za rfl (Za rfl (Za rfl (Za rfl (Za rfl (Za rfl (Za rfl (Za rfl (Za rfl (Za rfl (Za rfl (Za rfl (Za rfl (Za rfl (Za rfl (Za rfl (Za rfl (Za rfl (Za rfl (Za (congrArg (Value.int .i64) (by first | rfl | omega)) (Za rfl (Za rfl (Za rfl (Za rfl (Za rfl (Za rfl (Za rfl (Za rfl (Za rfl (Za rfl (Za rfl (Za rfl (Za rfl (Za rfl (Za rfl (Za rfl (Za rfl (Za rfl (Za rfl (Za rfl (Za rfl (Za rfl (Za rfl (Za rfl (Za rfl (Za rfl (Za rfl (Za rfl (Za rfl (Za rfl (Za rfl (Za rfl (Za rfl (Za rfl (Za rfl (Za rfl (Za rfl (Za rfl (Za rfl (Za rfl (Za rfl (Za rfl (Za rfl (Za rfl (Za rfl (Za rfl (Za rfl (Za rfl (Za rfl (Za rfl (Za rfl (Za rfl (Za rfl (Za rfl (Za rfl (Za rfl (Za rfl (Za rfl (Za rfl (Za rfl (Za rfl (Za rfl (Za rfl (Za rfl (Za rfl (Za rfl (Za rfl (Za rfl (Za rfl (Za rfl (Za rfl (Za rfl (Za rfl (Za rfl rfl)))))))))))))))))))))))))))))))))))))))))))))))))))))))))))))))))))))))))))))))))))))))))))))))))))))))))))))))))))))))))))))))))))))))))))))))))))))))))))))))).symm)⟩, by rfl⟩, ⟨⟨rfl, ⟨[], by rfl⟩, by rfl⟩, ⟨⟨rfl, ⟨[], by rfl⟩, by rfl⟩, trivial⟩⟩⟩⟩⟩
  ·
   exact Mach.ok_none
 ·
  exact Mach.ok_none

theorem Zez (a0 a1 a2 : Int) (N : Nat) : (Zd a0 a1 a2 N).Ok Try.prog Zk (.h2m14 : Zb) (Zf a0 a1 a2 N (.h2m14 : Zb)) := by
 show (Zd a0 a1 a2 N).Ok Try.prog Zk (.h2m14 : Zb) (ZaN a0 a1 a2 N)
 unfold ZaN
 refine Mach.ok_ite (fun g0 => ?_) (fun g0 => ?_)
 ·
  refine Mach.ok_ite (fun g1 => ?_) (fun g1 => ?_)
  ·
   exact Mach.ok_next (M := Zd a0 a1 a2 N) (cd := 1000000) (cm := 0) (y := (.h1m30 (([(⟨(2 : Int), (1048594 : Int)⟩ : R_ii)] : List R_ii)) (1) (1) : Zb)) (fu := 4000) (orc := (Z7)) (live := [0, 25, 2, 3, 23]) (tv := fun _ => [some (Value.int .u8 a1), some (vi a2), some (vp 0 0), some (vi (15 : Int)), some (vs 25 0 1 1), some (vi (1 : Int))]) (bl := [some (.cells [vi (400 : Int), vs 2 0 33 33, vs 3 0 33 33, vn, vn, vn, vn, vn, vn, vn, vn, vn, vn, vn, vn, vn, vn, vn, vs 23 0 1 1, vn] 48), some (.cells [vi (2 : Int), vi (1048594 : Int)] 30), some (.cells [vi (1 : Int), vi (16 : Int), vi (255 : Int), vi (2 : Int), vq, vq, vq, vq, vq, vq, vq, vq, vq, vq, vq, vq, vq, vq, vq, vq, vq, vq, vq, vq, vq, vq, vq, vq, vq, vq, vq, vq, vq, vq, vq, vq, vq, vq, vq, vq, vq, vq, vq, vq, vq, vq, vq, vq, vq, vq, vq, vq, vq, vq, vq, vq, vq, vq, vq, vq, vq, vq, vq, vq, vq, vq, vq, vq, vq, vq, vq, vq, vq, vq, vq, vq, vq, vq, vq, vq, vq, vq, vq, vq, vq, vi (1 : Int), vi (15 : Int), vq, vq, vq, vq, vq, vq, vq, vq, vq, vq, vq, vq, vq, vq, vq, vq, vq, vq, vq, vq, vq, vq, vq, vq, vq, vq, vq, vq, vq, vq, vq, vq, vq, vq, vq, vq, vq, vq, vq, vq, vq, vq, vq, vq, vq, vq, vq, vq, vq, vq, vq, vq, vq, vq, vq, vq, vq, vq, vq, vq, vq, vq, vq, vq, vq, vq, vq, vq, vq, vq, vq, vq, vq, vq, vq, vq, vq, vq] 38), some (.cells [vq, vq, vi (2 : Int), vq, vi (2 : Int), vq, vi (2 : Int), vq, vi (2 : Int), vq, vi (2 : Int), vq, vi (2 : Int), vq, vi (2 : Int), vq, vi (2 : Int), vq, vi (1 : Int), vq, vi (1 : Int), vq, vi (1 : Int), vq, vi (1 : Int), vq, vi (1 : Int), vq, vi (1 : Int), vq, vi (1 : Int), vq, vi (1 : Int), vq, vq, vq, vi (1 : Int), vq, vi (1 : Int), vq, vi (1 : Int), vq, vi (1 : Int), vq, vi (1 : Int), vq, vi (1 : Int), vq, vi (1 : Int), vq, vi (1 : Int), vq, vi (1 : Int), vq, vi (1 : Int), vq, vi (1 : Int), vq, vi (1 : Int), vq, vi (1 : Int), vq, vi (1 : Int), vq, vi (1 : Int), vi a2] 30), some (.cells [vi (18 : Int)] 3)]) (ob := (Zz a1 a2)) rfl (show 1 ∈ Zl (Zh 2) from by decide +kernel) (fun gv => by kernel_rfl) (Z8 a1 a2 g0 g1) rfl (by decide) (by rfl) (fun _ => ⟨rr, ⟨rr, ⟨rr, ⟨rr, ⟨⟨Eq.trans (show (vs 1 0 ([(⟨(2 : Int), (1048594 : Int)⟩ : R_ii)] : List R_ii).length ([(⟨(2 : Int), (1048594 : Int)⟩ : R_ii)] : List R_ii).length : Value) = vs 1 0 1 1 from (ZF rfl eqA eqA)) (by rfl), by rfl⟩, ⟨⟨Eq.trans (show (vi ((1 : Nat) : Int) : Value) = vi (1 : Int) from (congrArg (Value.int .i64) (by first | rfl | omega))) (by rfl), by rfl⟩, trivial⟩⟩⟩⟩⟩⟩) ⟨⟨rfl, ⟨[], by rfl⟩, by rfl⟩, ⟨(ZT (E := Zp) _ (L := ([(⟨(2 : Int), (1048594 : Int)⟩ : R_ii)] : List R_ii)) _ (show ([vi (2 : Int), vi (1048594 : Int)] : List Value) = Zr Zp ([(⟨(2 : Int), (1048594 : Int)⟩ : R_ii)] : List R_ii) from rfl)), ⟨⟨rfl, ⟨[], (show ([vi (1 : Int), vi (16 : Int), vi (255 : Int), vi (2 : Int), vq, vq, vq, vq, vq, vq, vq, vq, vq, vq, vq, vq, vq, vq, vq, vq, vq, vq, vq, vq, vq, vq, vq, vq, vq, vq, vq, vq, vq, vq, vq, vq, vq, vq, vq, vq, vq, vq, vq, vq, vq, vq, vq, vq, vq, vq, vq, vq, vq, vq, vq, vq, vq, vq, vq, vq, vq, vq, vq, vq, vq, vq, vq, vq, vq, vq, vq, vq, vq, vq, vq, vq, vq, vq, vq, vq, vq, vq, vq, vq, vq, vi (1 : Int), vi (15 : Int), vq, vq, vq, vq, vq, vq, vq, vq, vq, vq, vq, vq, vq, vq, vq, vq, vq, vq, vq, vq, vq, vq, vq, vq, vq, vq, vq, vq, vq, vq, vq, vq, vq, vq, vq, vq, vq, vq, vq, vq, vq, vq, vq, vq, vq, vq, vq, vq, vq, vq, vq, vq, vq, vq, vq, vq, vq, vq, vq, vq, vq, vq, vq, vq, vq, vq, vq, vq, vq, vq, vq, vq, vq, vq, vq, vq, vq, vq] : List Value) = _ from (Za rfl (Za rfl (Za rfl (Za rfl (Za rfl (Za rfl (Za rfl (Za rfl (Za rfl (Za rfl (Za rfl (Za rfl (Za rfl (Za rfl (Za rfl (Za rfl (Za rfl (Za rfl (Za rfl (Za rfl (Za rfl (Za rfl (Za rfl (Za rfl (Za rfl (Za rfl (Za rfl (Za rfl (Za rfl (Za rfl (Za rfl (Za rfl (Za rfl (Za rfl (Za rfl (Za rfl (Za rfl (Za rfl (Za rfl (Za rfl (Za rfl (Za rfl (Za rfl (Za rfl (Za rfl (Za rfl (Za rfl (Za rfl (Za rfl (Za rfl (Za rfl (Za rfl (Za rfl (Za rfl (Za rfl (Za rfl (Za rfl (Za rfl (Za rfl (Za rfl (Za rfl (Za rfl (Za rfl (Za rfl (Za rfl (Za rfl (Za rfl (Za rfl (Za rfl (Za rfl (Za rfl (Za rfl (Za rfl (Za rfl (Za rfl (Za rfl (Za rfl (Za rfl (Za rfl (Za rfl (Za rfl (Za rfl (Za rfl (Za rfl (Za rfl (Za (congrArg (Value.int .i64) (by first | rfl | omega)) (Za rfl (Za rfl (Za rfl (Za rfl (Za rfl (Za rfl (Za rfl (Za rfl (Za rfl (Za rfl (Za rfl (Za rfl (Za rfl (Za rfl (Za rfl (Za rfl (Za rfl (Za rfl (Za rfl (Za rfl (Za rfl (Za rfl (Za rfl (Za rfl (Za rfl (Za rfl (Za rfl (Za rfl (Za rfl (Za rfl (Za rfl (Za rfl (Za rfl (Za rfl (Za rfl (Za rfl (Za rfl (Za rfl (Za rfl (Za rfl (Za rfl (Za rfl (Za rfl (Za rfl (Za rfl (Za rfl (Za rfl (Za rfl (Za rfl (Za rfl (Za rfl (Za rfl (Za rfl (Za rfl (Za rfl (Za rfl (Za rfl (Za rfl (Za rfl (Za rfl (Za rfl (Za rfl (Za rfl (Za rfl (Za rfl (Za rfl (Za rfl (Za rfl (Za rfl (Za rfl (Za rfl (Za rfl (Za rfl (Za rfl (Za rfl (Za rfl (Za rfl (Za rfl (Za rfl rfl))))))))))))))))))))))))))))))))))))))))))))))))))))))))))))))))))))))))))))))))))))))))))))))))))))))))))))))))))))))))))))))))))))))))))))))))))))))))))))))))))))).symm)⟩, by rfl⟩, ⟨⟨rfl, ⟨[], by rfl⟩, by rfl⟩, ⟨⟨rfl, ⟨[], by rfl⟩, by rfl⟩, trivial⟩⟩⟩⟩⟩
  ·
   exact Mach.ok_none
 ·
  exact Mach.ok_none

theorem Ze0 (a0 a1 a2 : Int) (N : Nat) : (Zd a0 a1 a2 N).Ok Try.prog Zk (.h2m15 : Zb) (Zf a0 a1 a2 N (.h2m15 : Zb)) := by
 show (Zd a0 a1 a2 N).Ok Try.prog Zk (.h2m15 : Zb) (ZaO a0 a1 a2 N)
 unfold ZaO
 refine Mach.ok_ite (fun g0 => ?_) (fun g0 => ?_)
 ·
  refine Mach.ok_ite (fun g1 => ?_) (fun g1 => ?_)
  ·
   exact Mach.ok_next (M := Zd a0 a1 a2 N) (cd := 1000000) (cm := 0) (y := (.h1m31 (([(⟨(2 : Int), (1048594 : Int)⟩ : R_ii)] : List R_ii)) (1) (1) : Zb)) (fu := 4000) (orc := (Z7)) (live := [0, 25, 2, 3, 23]) (tv := fun _ => [some (Value.int .u8 a1), some (vi a2), some (vp 0 0), some (vi (16 : Int)), some (vs 25 0 1 1), some (vi (1 : Int))]) (bl := [some (.cells [vi (400 : Int), vs 2 0 34 34, vs 3 0 34 34, vn, vn, vn, vn, vn, vn, vn, vn, vn, vn, vn, vn, vn, vn, vn, vn, vs 23 0 1 1] 48), some (.cells [vi (2 : Int), vi (1048594 : Int)] 30), some (.cells [vi (1 : Int), vi (16 : Int), vi (255 : Int), vi (2 : Int), vq, vq, vq, vq, vq, vq, vq, vq, vq, vq, vq, vq, vq, vq, vq, vq, vq, vq, vq, vq, vq, vq, vq, vq, vq, vq, vq, vq, vq, vq, vq, vq, vq, vq, vq, vq, vq, vq, vq, vq, vq, vq, vq, vq, vq, vq, vq, vq, vq, vq, vq, vq, vq, vq, vq, vq, vq, vq, vq, vq, vq, vq, vq, vq, vq, vq, vq, vq, vq, vq, vq, vq, vq, vq, vq, vq, vq, vq, vq, vq, vq, vi (1 : Int), vi (16 : Int), vq, vq, vq, vq, vq, vq, vq, vq, vq, vq, vq, vq, vq, vq, vq, vq, vq, vq, vq, vq, vq, vq, vq, vq, vq, vq, vq, vq, vq, vq, vq, vq, vq, vq, vq, vq, vq, vq, vq, vq, vq, vq, vq, vq, vq, vq, vq, vq, vq, vq, vq, vq, vq, vq, vq, vq, vq, vq, vq, vq, vq, vq, vq, vq, vq, vq, vq, vq, vq, vq, vq, vq, vq, vq, vq, vq, vq, vq, vq, vq, vq, vq, vq] 38), some (.cells [vq, vq, vi (2 : Int), vq, vi (2 : Int), vq, vi (2 : Int), vq, vi (2 : Int), vq, vi (2 : Int), vq, vi (2 : Int), vq, vi (2 : Int), vq, vi (2 : Int), vq, vi (1 : Int), vq, vi (1 : Int), vq, vi (1 : Int), vq, vi (1 : Int), vq, vi (1 : Int), vq, vi (1 : Int), vq, vi (1 : Int), vq, vi (1 : Int), vq, vq, vq, vi (1 : Int), vq, vi (1 : Int), vq, vi (1 : Int), vq, vi (1 : Int), vq, vi (1 : Int), vq, vi (1 : Int), vq, vi (1 : Int), vq, vi (1 : Int), vq, vi (1 : Int), vq, vi (1 : Int), vq, vi (1 : Int), vq, vi (1 : Int), vq, vi (1 : Int), vq, vi (1 : Int), vq, vi (1 : Int), vq, vi (1 : Int), vi a2] 30), some (.cells [vi (18 : Int)] 3)]) (ob := (Zz a1 a2)) rfl (show 1 ∈ Zl (Zh 2) from by decide +kernel) (fun gv => by kernel_rfl) (Z8 a1 a2 g0 g1) rfl (by decide) (by rfl) (fun _ => ⟨rr, ⟨rr, ⟨rr, ⟨rr, ⟨⟨Eq.trans (show (vs 1 0 ([(⟨(2 : Int), (1048594 : Int)⟩ : R_ii)] : List R_ii).length ([(⟨(2 : Int), (1048594 : Int)⟩ : R_ii)] : List R_ii).length : Value) = vs 1 0 1 1 from (ZF rfl eqA eqA)) (by rfl), by rfl⟩, ⟨⟨Eq.trans (show (vi ((1 : Nat) : Int) : Value) = vi (1 : Int) from (congrArg (Value.int .i64) (by first | rfl | omega))) (by rfl), by rfl⟩, trivial⟩⟩⟩⟩⟩⟩) ⟨⟨rfl, ⟨[], by rfl⟩, by rfl⟩, ⟨(ZT (E := Zp) _ (L := ([(⟨(2 : Int), (1048594 : Int)⟩ : R_ii)] : List R_ii)) _ (show ([vi (2 : Int), vi (1048594 : Int)] : List Value) = Zr Zp ([(⟨(2 : Int), (1048594 : Int)⟩ : R_ii)] : List R_ii) from rfl)), ⟨⟨rfl, ⟨[], (show ([vi (1 : Int), vi (16 : Int), vi (255 : Int), vi (2 : Int), vq, vq, vq, vq, vq, vq, vq, vq, vq, vq, vq, vq, vq, vq, vq, vq, vq, vq, vq, vq, vq, vq, vq, vq, vq, vq, vq, vq, vq, vq, vq, vq, vq, vq, vq, vq, vq, vq, vq, vq, vq, vq, vq, vq, vq, vq, vq, vq, vq, vq, vq, vq, vq, vq, vq, vq, vq, vq, vq, vq, vq, vq, vq, vq, vq, vq, vq, vq, vq, vq, vq, vq, vq, vq, vq, vq, vq, vq, vq, vq, vq, vi (1 : Int), vi (16 : Int), vq, vq, vq, vq, vq, vq, vq, vq, vq, vq, vq, vq, vq, vq, vq, vq, vq, vq, vq, vq, vq, vq, vq, vq, vq, vq, vq, vq, vq, vq, vq, vq, vq, vq, vq, vq, vq, vq, vq, vq, vq, vq, vq, vq, vq, vq, vq, vq, vq, vq, vq, vq, vq, vq, vq, vq, vq, vq, vq, vq, vq, vq, vq, vq, vq, vq, vq, vq, vq, vq, vq, vq, vq, vq, vq, vq, vq, vq, vq, vq, vq, vq, vq] : List Value) = _ from (Za rfl (Za rfl (Za rfl (Za rfl (Za rfl (Za rfl (Za rfl (Za rfl (Za rfl (Za rfl (Za rfl (Za rfl (Za rfl (Za rfl (Za rfl (Za rfl (Za rfl (Za rfl (Za rfl (Za rfl (Za rfl (Za rfl (Za rfl (Za rfl (Za rfl (Za rfl (Za rfl (Za rfl (Za rfl (Za rfl (Za rfl (Za rfl (Za rfl (Za rfl (Za rfl (Za rfl (Za rfl (Za rfl (Za rfl (Za rfl (Za rfl (Za rfl (Za rfl (Za rfl (Za rfl (Za rfl (Za rfl (Za rfl (Za rfl (Za rfl (Za rfl (Za rfl (Za rfl (Za rfl (Za rfl (Za rfl (Za rfl (Za rfl (Za rfl (Za rfl (Za rfl (Za rfl (Za rfl (Za rfl (Za rfl (Za rfl (Za rfl (Za rfl (Za rfl (Za rfl (Za rfl (Za rfl (Za rfl (Za rfl (Za rfl (Za rfl (Za rfl (Za rfl (Za rfl (Za rfl (Za rfl (Za rfl (Za rfl (Za rfl (Za rfl (Za (congrArg (Value.int .i64) (by first | rfl | omega)) (Za rfl (Za rfl (Za rfl (Za rfl (Za rfl (Za rfl (Za rfl (Za rfl (Za rfl (Za rfl (Za rfl (Za rfl (Za rfl (Za rfl (Za rfl (Za rfl (Za rfl (Za rfl (Za rfl (Za rfl (Za rfl (Za rfl (Za rfl (Za rfl (Za rfl (Za rfl (Za rfl (Za rfl (Za rfl (Za rfl (Za rfl (Za rfl (Za rfl (Za rfl (Za rfl (Za rfl (Za rfl (Za rfl (Za rfl (Za rfl (Za rfl (Za rfl (Za rfl (Za rfl (Za rfl (Za rfl (Za rfl (Za rfl (Za rfl (Za rfl (Za rfl (Za rfl (Za rfl (Za rfl (Za rfl (Za rfl (Za rfl (Za rfl (Za rfl (Za rfl (Za rfl (Za rfl (Za rfl (Za rfl (Za rfl (Za rfl (Za rfl (Za rfl (Za rfl (Za rfl (Za rfl (Za rfl (Za rfl (Za rfl (Za rfl (Za rfl (Za rfl (Za rfl (Za rfl (Za rfl (Za rfl (Za rfl (Za rfl (Za rfl rfl)))))))))))))))))))))))))))))))))))))))))))))))))))))))))))))))))))))))))))))))))))))))))))))))))))))))))))))))))))))))))))))))))))))))))))))))))))))))))))))))))))))))))).symm)⟩, by rfl⟩, ⟨⟨rfl, ⟨[], by rfl⟩, by rfl⟩, ⟨⟨rfl, ⟨[], by rfl⟩, by rfl⟩, trivial⟩⟩⟩⟩⟩
  ·
   exact Mach.ok_none
 ·
  exact Mach.ok_none

noncomputable def Z9 (v2 : List R_ii) (v4 : Nat) : Orc := (ZO [(0, true), (4, false), (5, true), (6, true), (7, true), (8, true), (9, true), (10, true), (11, true), (14, false), (15, false), (16, true), (17, true), (18, true), (19, true), (20, true), (23, false), (24, true), (25, true), (26, true), (27, true), (28, true), (30, true), (36, false), (37, true), (38, true), (39, true), (40, true), (41, true), (42, true), (43, true), (46, false), (47, false), (48, true), (49, true), (50, true), (51, true), (52, true), (55, false), (56, true), (57, true), (58, true), (59, true), (60, true), (62, true), (64, false), (69, false), (70, true), (71, true), (72, true), (73, true), (74, true), (75, true), (76, true), (79, false), (80, false), (81, true), (82, true), (83, true), (84, true), (85, true), (88, false), (89, true), (90, true), (91, true), (92, true), (93, true), (95, true), (102, false), (103, true), (104, true), (105, true), (106, true), (107, true), (108, true), (109, true), (112, false), (113, false), (114, true), (115, true), (116, true), (117, true), (118, true), (121, false), (122, true), (123, true), (124, true), (125, true), (126, true), (128, true)] [(0, ((v2.getD v4 R_ii.z).a1 / (1048576 : Int))), (1, ((v2.getD v4 R_ii.z).a1 % (1048576 : Int))), (2, ((v2.getD v4 R_ii.z).a1 / (1048576 : Int))), (3, ((v2.getD v4 R_ii.z).a1 % (1048576 : Int))), (4, (18 : Int)), (6, ((v2.getD v4 R_ii.z).a1 / (1048576 : Int))), (7, ((v2.getD v4 R_ii.z).a1 % (1048576 : Int))), (8, ((v2.getD v4 R_ii.z).a1 / (1048576 : Int))), (9, ((v2.getD v4 R_ii.z).a1 / (1048576 : Int))), (10, ((v2.getD v4 R_ii.z).a1 % (1048576 : Int))), (11, ((v2.getD v4 R_ii.z).a1 / (1048576 : Int))), (12, ((v2.getD v4 R_ii.z).a1 % (1048576 : Int))), (13, (18 : Int)), (15, ((v2.getD v4 R_ii.z).a1 / (1048576 : Int))), (16, ((v2.getD v4 R_ii.z).a1 % (1048576 : Int))), (17, ((v2.getD v4 R_ii.z).a1 / (1048576 : Int))), (18, ((v2.getD v4 R_ii.z).a1 / (1048576 : Int))), (19, ((v2.getD v4 R_ii.z).a1 % (1048576 : Int))), (20, ((v2.getD v4 R_ii.z).a1 / (1048576 : Int))), (21, ((v2.getD v4 R_ii.z).a1 % (1048576 : Int))), (22, (18 : Int)), (24, ((v2.getD v4 R_ii.z).a1 / (1048576 : Int))), (25, ((v2.getD v4 R_ii.z).a1 % (1048576 : Int))), (26, ((v2.getD v4 R_ii.z).a1 / (1048576 : Int))), (27, ((v2.getD v4 R_ii.z).a1 / (1048576 : Int))), (28, ((v2.getD v4 R_ii.z).a1 % (1048576 : Int))), (29, ((v2.getD v4 R_ii.z).a1 / (1048576 : Int))), (30, ((v2.getD v4 R_ii.z).a1 % (1048576 : Int))), (31, (18 : Int)), (33, ((v2.getD v4 R_ii.z).a1 / (1048576 : Int))), (34, ((v2.getD v4 R_ii.z).a1 % (1048576 : Int))), (35, ((v2.getD v4 R_ii.z).a1 / (1048576 : Int))), (36, (((v4 + 1) : Nat) : Int))] [(0, v4), (2, v4), (4, v4), (5, v4), (7, v4)] [(0, [.i (v2.getD v4 R_ii.z).a0, .i (v2.getD v4 R_ii.z).a1]), (22, [.i (v2.getD v4 R_ii.z).a0, .i (v2.getD v4 R_ii.z).a1]), (43, [.i (v2.getD v4 R_ii.z).a0, .i (v2.getD v4 R_ii.z).a1]), (45, [.i (v2.getD v4 R_ii.z).a0, .i (v2.getD v4 R_ii.z).a1]), (67, [.i (v2.getD v4 R_ii.z).a0, .i (v2.getD v4 R_ii.z).a1])] [])

noncomputable abbrev Z0 (a1 : Int) (v2 : List R_ii) (v3 : Nat) (v4 : Nat) (v7 : Int) (v8 : Nat) : List (Bool × Bool) := [((IntKind.i64.wrap ((v4 : Int) + (1 : Int))) == (((v4 + 1) : Nat) : Int), true), (((v8 : Int) != ((v2.getD v4 R_ii.z).a1 / (1048576 : Int))), true), ((IntKind.i64.wrap (Int.tdiv (v2.getD v4 R_ii.z).a1 (1048576 : Int))) == ((v2.getD v4 R_ii.z).a1 / (1048576 : Int)), true), ((decide (((v2.getD v4 R_ii.z).a1 % (1048576 : Int)) ≤ (1048575 : Int))), true), ((decide (((v2.getD v4 R_ii.z).a1 % (1048576 : Int)) ≥ (1 : Int))), true), ((decide (((v2.getD v4 R_ii.z).a1 / (1048576 : Int)) ≤ (1073741824 : Int))), true), ((decide (((v2.getD v4 R_ii.z).a1 / (1048576 : Int)) ≥ (1 : Int))), true), ((Int.tmod (v2.getD v4 R_ii.z).a1 (1048576 : Int)) == ((v2.getD v4 R_ii.z).a1 % (1048576 : Int)), true), ((IntKind.i64.wrap (Int.tdiv (v2.getD v4 R_ii.z).a1 (1048576 : Int))) == ((v2.getD v4 R_ii.z).a1 / (1048576 : Int)), true), ((decide ((v2.getD v4 R_ii.z).a1 > (0 : Int))), true), (((v2.getD v4 R_ii.z).a0 != (2 : Int)), false), ((Int.tmod (v2.getD v4 R_ii.z).a1 (1048576 : Int)) == (18 : Int), true), ((decide (((v2.getD v4 R_ii.z).a1 % (1048576 : Int)) ≤ (1048575 : Int))), true), ((decide (((v2.getD v4 R_ii.z).a1 % (1048576 : Int)) ≥ (1 : Int))), true), ((decide (((v2.getD v4 R_ii.z).a1 / (1048576 : Int)) ≤ (1073741824 : Int))), true), ((decide (((v2.getD v4 R_ii.z).a1 / (1048576 : Int)) ≥ (1 : Int))), true), ((Int.tmod (v2.getD v4 R_ii.z).a1 (1048576 : Int)) == ((v2.getD v4 R_ii.z).a1 % (1048576 : Int)), true), ((IntKind.i64.wrap (Int.tdiv (v2.getD v4 R_ii.z).a1 (1048576 : Int))) == ((v2.getD v4 R_ii.z).a1 / (1048576 : Int)), true), ((decide ((v2.getD v4 R_ii.z).a1 > (0 : Int))), true), (((v2.getD v4 R_ii.z).a0 != (2 : Int)), false), ((((v2.getD v4 R_ii.z).a0 == (2 : Int)) && (((v2.getD v4 R_ii.z).a1 == (0 : Int)) && true)), false), ((decide (((v2.getD v4 R_ii.z).a1 % (1048576 : Int)) ≤ (1048575 : Int))), true), ((decide (((v2.getD v4 R_ii.z).a1 % (1048576 : Int)) ≥ (1 : Int))), true), ((decide (((v2.getD v4 R_ii.z).a1 / (1048576 : Int)) ≤ (1073741824 : Int))), true), ((decide (((v2.getD v4 R_ii.z).a1 / (1048576 : Int)) ≥ (1 : Int))), true), ((Int.tmod (v2.getD v4 R_ii.z).a1 (1048576 : Int)) == ((v2.getD v4 R_ii.z).a1 % (1048576 : Int)), true), ((IntKind.i64.wrap (Int.tdiv (v2.getD v4 R_ii.z).a1 (1048576 : Int))) == ((v2.getD v4 R_ii.z).a1 / (1048576 : Int)), true), ((decide ((v2.getD v4 R_ii.z).a1 > (0 : Int))), true), (((v2.getD v4 R_ii.z).a1 != (0 : Int)), true), (((v2.getD v4 R_ii.z).a0 == (2 : Int)), true), (((v2.getD v4 R_ii.z).a0 != (2 : Int)), false), (Zcz (ZP 2 (List.drop (0 + (v4 * 2)) (Zr Zp v2))) [.i (v2.getD v4 R_ii.z).a0, .i (v2.getD v4 R_ii.z).a1], true), (Nat.blt v4 v2.length, true), ((v4 : Int) == Int.ofNat v4, true), (((v8 : Int) != ((v2.getD v4 R_ii.z).a1 / (1048576 : Int))), true), ((IntKind.i64.wrap (Int.tdiv (v2.getD v4 R_ii.z).a1 (1048576 : Int))) == ((v2.getD v4 R_ii.z).a1 / (1048576 : Int)), true), ((decide (((v2.getD v4 R_ii.z).a1 % (1048576 : Int)) ≤ (1048575 : Int))), true), ((decide (((v2.getD v4 R_ii.z).a1 % (1048576 : Int)) ≥ (1 : Int))), true), ((decide (((v2.getD v4 R_ii.z).a1 / (1048576 : Int)) ≤ (1073741824 : Int))), true), ((decide (((v2.getD v4 R_ii.z).a1 / (1048576 : Int)) ≥ (1 : Int))), true), ((Int.tmod (v2.getD v4 R_ii.z).a1 (1048576 : Int)) == ((v2.getD v4 R_ii.z).a1 % (1048576 : Int)), true), ((IntKind.i64.wrap (Int.tdiv (v2.getD v4 R_ii.z).a1 (1048576 : Int))) == ((v2.getD v4 R_ii.z).a1 / (1048576 : Int)), true), ((decide ((v2.getD v4 R_ii.z).a1 > (0 : Int))), true), (((v2.getD v4 R_ii.z).a0 != (2 : Int)), false), ((Int.tmod (v2.getD v4 R_ii.z).a1 (1048576 : Int)) == (18 : Int), true), ((decide (((v2.getD v4 R_ii.z).a1 % (1048576 : Int)) ≤ (1048575 : Int))), true), ((decide (((v2.getD v4 R_ii.z).a1 % (1048576 : Int)) ≥ (1 : Int))), true), ((decide (((v2.getD v4 R_ii.z).a1 / (1048576 : Int)) ≤ (1073741824 : Int))), true), ((decide (((v2.getD v4 R_ii.z).a1 / (1048576 : Int)) ≥ (1 : Int))), true), ((Int.tmod (v2.getD v4 R_ii.z).a1 (1048576 : Int)) == ((v2.getD v4 R_ii.z).a1 % (1048576 : Int)), true), ((IntKind.i64.wrap (Int.tdiv (v2.getD v4 R_ii.z).a1 (1048576 : Int))) == ((v2.getD v4 R_ii.z).a1 / (1048576 : Int)), true), ((decide ((v2.getD v4 R_ii.z).a1 > (0 : Int))), true), (((v2.getD v4 R_ii.z).a0 != (2 : Int)), false), ((((v2.getD v4 R_ii.z).a0 == (2 : Int)) && (((v2.getD v4 R_ii.z).a1 == (0 : Int)) && true)), false), ((decide (((v2.getD v4 R_ii.z).a1 % (1048576 : Int)) ≤ (1048575 : Int))), true), ((decide (((v2.getD v4 R_ii.z).a1 % (1048576 : Int)) ≥ (1 : Int))), true), ((decide (((v2.getD v4 R_ii.z).a1 / (1048576 : Int)) ≤ (1073741824 : Int))), true), ((decide (((v2.getD v4 R_ii.z).a1 / (1048576 : Int)) ≥ (1 : Int))), true), ((Int.tmod (v2.getD v4 R_ii.z).a1 (1048576 : Int)) == ((v2.getD v4 R_ii.z).a1 % (1048576 : Int)), true), ((IntKind.i64.wrap (Int.tdiv (v2.getD v4 R_ii.z).a1 (1048576 : Int))) == ((v2.getD v4 R_ii.z).a1 / (1048576 : Int)), true), ((decide ((v2.getD v4 R_ii.z).a1 > (0 : Int))), true), (((v2.getD v4 R_ii.z).a1 != (0 : Int)), true), (((v2.getD v4 R_ii.z).a0 == (2 : Int)), true), (((v2.getD v4 R_ii.z).a0 != (2 : Int)), false), (Zcz (ZP 2 (List.drop (0 + (v4 * 2)) (Zr Zp v2))) [.i (v2.getD v4 R_ii.z).a0, .i (v2.getD v4 R_ii.z).a1], true), (Nat.blt v4 v2.length, true), ((v4 : Int) == Int.ofNat v4, true), ((((v2.getD v4 R_ii.z).a0 == (2 : Int)) && (((v2.getD v4 R_ii.z).a1 == v7) && true)), false), (Zcz (ZP 2 (List.drop (0 + (v4 * 2)) (Zr Zp v2))) [.i (v2.getD v4 R_ii.z).a0, .i (v2.getD v4 R_ii.z).a1], true), (Nat.blt v4 v2.length, true), ((v4 : Int) == Int.ofNat v4, true), (((v8 : Int) != ((v2.getD v4 R_ii.z).a1 / (1048576 : Int))), true), ((IntKind.i64.wrap (Int.tdiv (v2.getD v4 R_ii.z).a1 (1048576 : Int))) == ((v2.getD v4 R_ii.z).a1 / (1048576 : Int)), true), ((decide (((v2.getD v4 R_ii.z).a1 % (1048576 : Int)) ≤ (1048575 : Int))), true), ((decide (((v2.getD v4 R_ii.z).a1 % (1048576 : Int)) ≥ (1 : Int))), true), ((decide (((v2.getD v4 R_ii.z).a1 / (1048576 : Int)) ≤ (1073741824 : Int))), true), ((decide (((v2.getD v4 R_ii.z).a1 / (1048576 : Int)) ≥ (1 : Int))), true), ((Int.tmod (v2.getD v4 R_ii.z).a1 (1048576 : Int)) == ((v2.getD v4 R_ii.z).a1 % (1048576 : Int)), true), ((IntKind.i64.wrap (Int.tdiv (v2.getD v4 R_ii.z).a1 (1048576 : Int))) == ((v2.getD v4 R_ii.z).a1 / (1048576 : Int)), true), ((decide ((v2.getD v4 R_ii.z).a1 > (0 : Int))), true), (((v2.getD v4 R_ii.z).a0 != (2 : Int)), false), ((Int.tmod (v2.getD v4 R_ii.z).a1 (1048576 : Int)) == (18 : Int), true), ((decide (((v2.getD v4 R_ii.z).a1 % (1048576 : Int)) ≤ (1048575 : Int))), true), ((decide (((v2.getD v4 R_ii.z).a1 % (1048576 : Int)) ≥ (1 : Int))), true), ((decide (((v2.getD v4 R_ii.z).a1 / (1048576 : Int)) ≤ (1073741824 : Int))), true), ((decide (((v2.getD v4 R_ii.z).a1 / (1048576 : Int)) ≥ (1 : Int))), true), ((Int.tmod (v2.getD v4 R_ii.z).a1 (1048576 : Int)) == ((v2.getD v4 R_ii.z).a1 % (1048576 : Int)), true), ((IntKind.i64.wrap (Int.tdiv (v2.getD v4 R_ii.z).a1 (1048576 : Int))) == ((v2.getD v4 R_ii.z).a1 / (1048576 : Int)), true), ((decide ((v2.getD v4 R_ii.z).a1 > (0 : Int))), true), (((v2.getD v4 R_ii.z).a0 != (2 : Int)), false), ((((v2.getD v4 R_ii.z).a0 == (2 : Int)) && (((v2.getD v4 R_ii.z).a1 == (0 : Int)) && true)), false), ((decide (((v2.getD v4 R_ii.z).a1 % (1048576 : Int)) ≤ (1048575 : Int))), true), ((decide (((v2.getD v4 R_ii.z).a1 % (1048576 : Int)) ≥ (1 : Int))), true), ((decide (((v2.getD v4 R_ii.z).a1 / (1048576 : Int)) ≤ (1073741824 : Int))), true), ((decide (((v2.getD v4 R_ii.z).a1 / (1048576 : Int)) ≥ (1 : Int))), true), ((Int.tmod (v2.getD v4 R_ii.z).a1 (1048576 : Int)) == ((v2.getD v4 R_ii.z).a1 % (1048576 : Int)), true), ((IntKind.i64.wrap (Int.tdiv (v2.getD v4 R_ii.z).a1 (1048576 : Int))) == ((v2.getD v4 R_ii.z).a1 / (1048576 : Int)), true), ((decide ((v2.getD v4 R_ii.z).a1 > (0 : Int))), true), (((v2.getD v4 R_ii.z).a1 != (0 : Int)), true), (((v2.getD v4 R_ii.z).a0 == (2 : Int)), true), (((v2.getD v4 R_ii.z).a0 != (2 : Int)), false), (Zcz (ZP 2 (List.drop (0 + (v4 * 2)) (Zr Zp v2))) [.i (v2.getD v4 R_ii.z).a0, .i (v2.getD v4 R_ii.z).a1], true), (Nat.blt v4 v2.length, true), ((v4 : Int) == Int.ofNat v4, true), (((v8 : Int) != ((v2.getD v4 R_ii.z).a1 / (1048576 : Int))), true), ((IntKind.i64.wrap (Int.tdiv (v2.getD v4 R_ii.z).a1 (1048576 : Int))) == ((v2.getD v4 R_ii.z).a1 / (1048576 : Int)), true), ((decide (((v2.getD v4 R_ii.z).a1 % (1048576 : Int)) ≤ (1048575 : Int))), true), ((decide (((v2.getD v4 R_ii.z).a1 % (1048576 : Int)) ≥ (1 : Int))), true), ((decide (((v2.getD v4 R_ii.z).a1 / (1048576 : Int)) ≤ (1073741824 : Int))), true), ((decide (((v2.getD v4 R_ii.z).a1 / (1048576 : Int)) ≥ (1 : Int))), true), ((Int.tmod (v2.getD v4 R_ii.z).a1 (1048576 : Int)) == ((v2.getD v4 R_ii.z).a1 % (1048576 : Int)), true), ((IntKind.i64.wrap (Int.tdiv (v2.getD v4 R_ii.z).a1 (1048576 : Int))) == ((v2.getD v4 R_ii.z).a1 / (1048576 : Int)), true), ((decide ((v2.getD v4 R_ii.z).a1 > (0 : Int))), true), (((v2.getD v4 R_ii.z).a0 != (2 : Int)), false), ((Int.tmod (v2.getD v4 R_ii.z).a1 (1048576 : Int)) == (18 : Int), true), ((decide (((v2.getD v4 R_ii.z).a1 % (1048576 : Int)) ≤ (1048575 : Int))), true), ((decide (((v2.getD v4 R_ii.z).a1 % (1048576 : Int)) ≥ (1 : Int))), true), ((decide (((v2.getD v4 R_ii.z).a1 / (1048576 : Int)) ≤ (1073741824 : Int))), true), ((decide (((v2.getD v4 R_ii.z).a1 / (1048576 : Int)) ≥ (1 : Int))), true), ((Int.tmod (v2.getD v4 R_ii.z).a1 (1048576 : Int)) == ((v2.getD v4 R_ii.z).a1 % (1048576 : Int)), true), ((IntKind.i64.wrap (Int.tdiv (v2.getD v4 R_ii.z).a1 (1048576 : Int))) == ((v2.getD v4 R_ii.z).a1 / (1048576 : Int)), true), ((decide ((v2.getD v4 R_ii.z).a1 > (0 : Int))), true), (((v2.getD v4 R_ii.z).a0 != (2 : Int)), false), ((((v2.getD v4 R_ii.z).a0 == (2 : Int)) && (((v2.getD v4 R_ii.z).a1 == (0 : Int)) && true)), false), ((decide (((v2.getD v4 R_ii.z).a1 % (1048576 : Int)) ≤ (1048575 : Int))), true), ((decide (((v2.getD v4 R_ii.z).a1 % (1048576 : Int)) ≥ (1 : Int))), true), ((decide (((v2.getD v4 R_ii.z).a1 / (1048576 : Int)) ≤ (1073741824 : Int))), true), ((decide (((v2.getD v4 R_ii.z).a1 / (1048576 : Int)) ≥ (1 : Int))), true), ((Int.tmod (v2.getD v4 R_ii.z).a1 (1048576 : Int)) == ((v2.getD v4 R_ii.z).a1 % (1048576 : Int)), true), ((IntKind.i64.wrap (Int.tdiv (v2.getD v4 R_ii.z).a1 (1048576 : Int))) == ((v2.getD v4 R_ii.z).a1 / (1048576 : Int)), true), ((decide ((v2.getD v4 R_ii.z).a1 > (0 : Int))), true), (((v2.getD v4 R_ii.z).a1 != (0 : Int)), true), (((v2.getD v4 R_ii.z).a0 == (2 : Int)), true), (((v2.getD v4 R_ii.z).a0 != (2 : Int)), false), (Zcz (ZP 2 (List.drop (0 + (v4 * 2)) (Zr Zp v2))) [.i (v2.getD v4 R_ii.z).a0, .i (v2.getD v4 R_ii.z).a1], true), (Nat.blt v4 v2.length, true), ((v4 : Int) == Int.ofNat v4, true), ((decide ((v4 : Int) < (v2.length : Int))), true)]
theorem ZA (a1 : Int) (v2 : List R_ii) (v3 v4 : Nat) (v7 : Int) (v8 : Nat) (g0 : (0 : Int) ≤ a1) (g1 : a1 ≤ (255 : Int)) (g2 : (1 : Int) ≤ (v3 : Int)) (g3 : (v3 : Int) ≤ (10 : Int)) (g4 : v2.length = v3) (g5 : (v3 : Int) ≤ (9 : Int)) (g6 : (v8 : Int) = (((v3 + 1) : Nat) : Int)) (g7 : v7 = (((v8 : Int) * (1048576 : Int)) + (18 : Int))) (g8 : (v4 : Int) < (v2.length : Int)) (g9 : ¬ (¬ ((v2.getD v4 R_ii.z).a0 = (2 : Int)))) (g10 : ¬ ((v2.getD v4 R_ii.z).a1 = (0 : Int))) (g11 : (0 : Int) < (v2.getD v4 R_ii.z).a1) (g12 : ((v2.getD v4 R_ii.z).a1 / (1048576 : Int)) ≤ (9223372036854775807 : Int)) (g13 : (1 : Int) ≤ ((v2.getD v4 R_ii.z).a1 / (1048576 : Int))) (g14 : ((v2.getD v4 R_ii.z).a1 / (1048576 : Int)) ≤ (1073741824 : Int)) (g15 : (1 : Int) ≤ ((v2.getD v4 R_ii.z).a1 % (1048576 : Int))) (g16 : ((v2.getD v4 R_ii.z).a1 % (1048576 : Int)) = (18 : Int)) (g17 : ¬ ((v8 : Int) = ((v2.getD v4 R_ii.z).a1 / (1048576 : Int)))) : ∀ q ∈ Z0 a1 v2 v3 v4 v7 v8, q.1 = q.2 :=
 (Zi (beq_iff_eq.2 ((wrap_i64 ltA).trans (by first | rfl | omega))) <| oD <| Zi (beq_iff_eq.2 (by rw [ZE (by omega)]; exact wrap_i64 (by omega))) <| oY <| oY <| oY <| oY <| Zi (beq_iff_eq.2 (Zt (by omega))) <| Zi (beq_iff_eq.2 (by rw [ZE (by omega)]; exact wrap_i64 (by omega))) <| oY <| oE <| Zi (beq_iff_eq.2 ((beq_iff_eq.1 (beq_iff_eq.2 (Zt (by omega)))).trans (by omega))) <| oY <| oY <| oY <| oY <| Zi (beq_iff_eq.2 (Zt (by omega))) <| Zi (beq_iff_eq.2 (by rw [ZE (by omega)]; exact wrap_i64 (by omega))) <| oY <| oE <| Zi (Bool.eq_false_iff.2 (by simp only [ne_eq, Bool.and_true, Bool.and_eq_true, beq_iff_eq]; first | omega | (intro hh; simp_all; done) | (intro hh; grind))) <| oY <| oY <| oY <| oY <| Zi (beq_iff_eq.2 (Zt (by omega))) <| Zi (beq_iff_eq.2 (by rw [ZE (by omega)]; exact wrap_i64 (by omega))) <| oY <| oD <| oT <| oE <| Zi (Zdg (E := Zp) (L := v2) (i := v4) (q := 0) (by omega) (show (0 + (v4 * 2)) = v4 * 2 + 0 from by omega) (show 0 + 2 ≤ 2 from by decide) rfl rfl) <| oB <| oI <| oD <| Zi (beq_iff_eq.2 (by rw [ZE (by omega)]; exact wrap_i64 (by omega))) <| oY <| oY <| oY <| oY <| Zi (beq_iff_eq.2 (Zt (by omega))) <| Zi (beq_iff_eq.2 (by rw [ZE (by omega)]; exact wrap_i64 (by omega))) <| oY <| oE <| Zi (beq_iff_eq.2 ((beq_iff_eq.1 (beq_iff_eq.2 (Zt (by omega)))).trans (by omega))) <| oY <| oY <| oY <| oY <| Zi (beq_iff_eq.2 (Zt (by omega))) <| Zi (beq_iff_eq.2 (by rw [ZE (by omega)]; exact wrap_i64 (by omega))) <| oY <| oE <| Zi (Bool.eq_false_iff.2 (by simp only [ne_eq, Bool.and_true, Bool.and_eq_true, beq_iff_eq]; first | omega | (intro hh; simp_all; done) | (intro hh; grind))) <| oY <| oY <| oY <| oY <| Zi (beq_iff_eq.2 (Zt (by omega))) <| Zi (beq_iff_eq.2 (by rw [ZE (by omega)]; exact wrap_i64 (by omega))) <| oY <| oD <| oT <| oE <| Zi (Zdg (E := Zp) (L := v2) (i := v4) (q := 0) (by omega) (show (0 + (v4 * 2)) = v4 * 2 + 0 from by omega) (show 0 + 2 ≤ 2 from by decide) rfl rfl) <| oB <| oI <| Zi (Bool.eq_false_iff.2 (by simp only [ne_eq, Bool.and_true, Bool.and_eq_true, beq_iff_eq]; first | omega | (intro hh; simp_all; done) | (intro hh; grind))) <| Zi (Zdg (E := Zp) (L := v2) (i := v4) (q := 0) (by omega) (show (0 + (v4 * 2)) = v4 * 2 + 0 from by omega) (show 0 + 2 ≤ 2 from by decide) rfl rfl) <| oB <| oI <| oD <| Zi (beq_iff_eq.2 (by rw [ZE (by omega)]; exact wrap_i64 (by omega))) <| oY <| oY <| oY <| oY <| Zi (beq_iff_eq.2 (Zt (by omega))) <| Zi (beq_iff_eq.2 (by rw [ZE (by omega)]; exact wrap_i64 (by omega))) <| oY <| oE <| Zi (beq_iff_eq.2 ((beq_iff_eq.1 (beq_iff_eq.2 (Zt (by omega)))).trans (by omega))) <| oY <| oY <| oY <| oY <| Zi (beq_iff_eq.2 (Zt (by omega))) <| Zi (beq_iff_eq.2 (by rw [ZE (by omega)]; exact wrap_i64 (by omega))) <| oY <| oE <| Zi (Bool.eq_false_iff.2 (by simp only [ne_eq, Bool.and_true, Bool.and_eq_true, beq_iff_eq]; first | omega | (intro hh; simp_all; done) | (intro hh; grind))) <| oY <| oY <| oY <| oY <| Zi (beq_iff_eq.2 (Zt (by omega))) <| Zi (beq_iff_eq.2 (by rw [ZE (by omega)]; exact wrap_i64 (by omega))) <| oY <| oD <| oT <| oE <| Zi (Zdg (E := Zp) (L := v2) (i := v4) (q := 0) (by omega) (show (0 + (v4 * 2)) = v4 * 2 + 0 from by omega) (show 0 + 2 ≤ 2 from by decide) rfl rfl) <| oB <| oI <| oD <| Zi (beq_iff_eq.2 (by rw [ZE (by omega)]; exact wrap_i64 (by omega))) <| oY <| oY <| oY <| oY <| Zi (beq_iff_eq.2 (Zt (by omega))) <| Zi (beq_iff_eq.2 (by rw [ZE (by omega)]; exact wrap_i64 (by omega))) <| oY <| oE <| Zi (beq_iff_eq.2 ((beq_iff_eq.1 (beq_iff_eq.2 (Zt (by omega)))).trans (by omega))) <| oY <| oY <| oY <| oY <| Zi (beq_iff_eq.2 (Zt (by omega))) <| Zi (beq_iff_eq.2 (by rw [ZE (by omega)]; exact wrap_i64 (by omega))) <| oY <| oE <| Zi (Bool.eq_false_iff.2 (by simp only [ne_eq, Bool.and_true, Bool.and_eq_true, beq_iff_eq]; first | omega | (intro hh; simp_all; done) | (intro hh; grind))) <| oY <| oY <| oY <| oY <| Zi (beq_iff_eq.2 (Zt (by omega))) <| Zi (beq_iff_eq.2 (by rw [ZE (by omega)]; exact wrap_i64 (by omega))) <| oY <| oD <| oT <| oE <| Zi (Zdg (E := Zp) (L := v2) (i := v4) (q := 0) (by omega) (show (0 + (v4 * 2)) = v4 * 2 + 0 from by omega) (show 0 + 2 ≤ 2 from by decide) rfl rfl) <| oB <| oI <| oY Za0)

noncomputable def ZB (v2 : List R_ii) (v3 : Nat) (v7 : Int) : Orc := (ZO [(0, false), (6, true), (7, true), (8, true), (9, true), (10, true), (11, true), (14, false), (16, true), (17, true), (18, true), (19, true), (20, true), (24, true), (25, true), (26, true), (27, true), (28, true), (30, false), (37, false), (43, true), (44, true), (45, true), (46, true), (47, true), (48, true), (51, false), (53, true), (54, true), (55, true), (56, true), (57, true), (61, true), (62, true), (63, true), (64, true), (65, true), (67, false), (71, true)] [(1, (v7 / (1048576 : Int))), (2, (v7 % (1048576 : Int))), (3, (v7 / (1048576 : Int))), (4, (v7 % (1048576 : Int))), (5, (18 : Int)), (7, (v7 / (1048576 : Int))), (8, (v7 % (1048576 : Int))), (9, (v7 / (1048576 : Int))), (12, (v7 / (1048576 : Int))), (13, (v7 % (1048576 : Int))), (14, (v7 / (1048576 : Int))), (15, (v7 % (1048576 : Int))), (16, (18 : Int)), (18, (v7 / (1048576 : Int))), (19, (v7 % (1048576 : Int))), (20, (v7 / (1048576 : Int))), (22, (((v3 + 1) : Nat) : Int))] [] [] [(16, .ap 1 [vi (2 : Int), vi v7] (Zr Zp (v2 ++ ([(⟨(2 : Int), v7⟩ : R_ii)] : List R_ii))))])

noncomputable abbrev Z1 (a1 : Int) (a2 : Int) (v2 : List R_ii) (v3 : Nat) (v4 : Nat) (v7 : Int) (v8 : Nat) : List (Bool × Bool) := [((IntKind.i64.wrap ((v3 : Int) + (1 : Int))) == (((v3 + 1) : Nat) : Int), true), (dP ((1 = 1 ∧ ZP (1 * 2) (List.drop 0 [vi (2 : Int), vi v7]) = some [vi (2 : Int), vi v7] ∧ Zv Zby [vi (2 : Int), vi v7] = true) ∧ 0 < 1 ∧ 1 ≤ 100000 ∧ v2.length < v2.length + 1 ∧ v2.length ≤ 100000 ∧ v2.length * 2 ≤ (List.length (Zr Zp v2)) ∧ List.take (v2.length * 2) (Zr Zp v2) ++ [vi (2 : Int), vi v7] = (Zr Zp (v2 ++ ([(⟨(2 : Int), v7⟩ : R_ii)] : List R_ii)))), true), ((decide ((v8 : Int) < (1073741824 : Int))), true), (((v8 : Int) != (v7 / (1048576 : Int))), false), ((IntKind.i64.wrap (Int.tdiv v7 (1048576 : Int))) == (v7 / (1048576 : Int)), true), ((decide ((v7 % (1048576 : Int)) ≤ (1048575 : Int))), true), ((decide ((v7 % (1048576 : Int)) ≥ (1 : Int))), true), ((decide ((v7 / (1048576 : Int)) ≤ (1073741824 : Int))), true), ((decide ((v7 / (1048576 : Int)) ≥ (1 : Int))), true), ((Int.tmod v7 (1048576 : Int)) == (v7 % (1048576 : Int)), true), ((IntKind.i64.wrap (Int.tdiv v7 (1048576 : Int))) == (v7 / (1048576 : Int)), true), ((decide (v7 > (0 : Int))), true), ((Int.tmod v7 (1048576 : Int)) == (18 : Int), true), ((decide ((v7 % (1048576 : Int)) ≤ (1048575 : Int))), true), ((decide ((v7 % (1048576 : Int)) ≥ (1 : Int))), true), ((decide ((v7 / (1048576 : Int)) ≤ (1073741824 : Int))), true), ((decide ((v7 / (1048576 : Int)) ≥ (1 : Int))), true), ((Int.tmod v7 (1048576 : Int)) == (v7 % (1048576 : Int)), true), ((IntKind.i64.wrap (Int.tdiv v7 (1048576 : Int))) == (v7 / (1048576 : Int)), true), ((decide (v7 > (0 : Int))), true), ((((2 : Int) == (2 : Int)) && ((v7 == (0 : Int)) && true)), false), ((decide ((v7 % (1048576 : Int)) ≤ (1048575 : Int))), true), ((decide ((v7 % (1048576 : Int)) ≥ (1 : Int))), true), ((decide ((v7 / (1048576 : Int)) ≤ (1073741824 : Int))), true), ((decide ((v7 / (1048576 : Int)) ≥ (1 : Int))), true), ((Int.tmod v7 (1048576 : Int)) == (v7 % (1048576 : Int)), true), ((IntKind.i64.wrap (Int.tdiv v7 (1048576 : Int))) == (v7 / (1048576 : Int)), true), ((decide (v7 > (0 : Int))), true), ((v7 != (0 : Int)), true), ((!(((1 : Int) == (1 : Int)) && ((a2 == a2) && true))), false), (((v8 : Int) != (v7 / (1048576 : Int))), false), ((IntKind.i64.wrap (Int.tdiv v7 (1048576 : Int))) == (v7 / (1048576 : Int)), true), ((decide ((v7 % (1048576 : Int)) ≤ (1048575 : Int))), true), ((decide ((v7 % (1048576 : Int)) ≥ (1 : Int))), true), ((decide ((v7 / (1048576 : Int)) ≤ (1073741824 : Int))), true), ((decide ((v7 / (1048576 : Int)) ≥ (1 : Int))), true), ((Int.tmod v7 (1048576 : Int)) == (v7 % (1048576 : Int)), true), ((IntKind.i64.wrap (Int.tdiv v7 (1048576 : Int))) == (v7 / (1048576 : Int)), true), ((decide (v7 > (0 : Int))), true), ((Int.tmod v7 (1048576 : Int)) == (18 : Int), true), ((decide ((v7 % (1048576 : Int)) ≤ (1048575 : Int))), true), ((decide ((v7 % (1048576 : Int)) ≥ (1 : Int))), true), ((decide ((v7 / (1048576 : Int)) ≤ (1073741824 : Int))), true), ((decide ((v7 / (1048576 : Int)) ≥ (1 : Int))), true), ((Int.tmod v7 (1048576 : Int)) == (v7 % (1048576 : Int)), true), ((IntKind.i64.wrap (Int.tdiv v7 (1048576 : Int))) == (v7 / (1048576 : Int)), true), ((decide (v7 > (0 : Int))), true), ((((2 : Int) == (2 : Int)) && ((v7 == (0 : Int)) && true)), false), ((decide ((v7 % (1048576 : Int)) ≤ (1048575 : Int))), true), ((decide ((v7 % (1048576 : Int)) ≥ (1 : Int))), true), ((decide ((v7 / (1048576 : Int)) ≤ (1073741824 : Int))), true), ((decide ((v7 / (1048576 : Int)) ≥ (1 : Int))), true), ((Int.tmod v7 (1048576 : Int)) == (v7 % (1048576 : Int)), true), ((IntKind.i64.wrap (Int.tdiv v7 (1048576 : Int))) == (v7 / (1048576 : Int)), true), ((decide (v7 > (0 : Int))), true), ((v7 != (0 : Int)), true), ((decide ((v4 : Int) < (v2.length : Int))), false)]
theorem ZC (a1 a2 : Int) (v2 : List R_ii) (v3 v4 : Nat) (v7 : Int) (v8 : Nat) (g0 : (0 : Int) ≤ a1) (g1 : a1 ≤ (255 : Int)) (g2 : (1 : Int) ≤ (v3 : Int)) (g3 : (v3 : Int) ≤ (10 : Int)) (g4 : v2.length = v3) (g5 : (v3 : Int) ≤ (9 : Int)) (g6 : (v8 : Int) = (((v3 + 1) : Nat) : Int)) (g7 : v7 = (((v8 : Int) * (1048576 : Int)) + (18 : Int))) (g8 : ¬ ((v4 : Int) < (v2.length : Int))) : ∀ q ∈ Z1 a1 a2 v2 v3 v4 v7 v8, q.1 = q.2 :=
 (Zi (beq_iff_eq.2 ((wrap_i64 ltA).trans (by first | rfl | omega))) <| Zi (Zlu ⟨⟨rfl, ⟨rfl, rfl⟩⟩, by omega, by omega, ltA, by omega, (Zlt (E := Zp) (L := v2) (M := ([(⟨(2 : Int), v7⟩ : R_ii)] : List R_ii)) (n := v2.length) (show _ = _ * 2 from rfl) (by omega) (R := (v2 ++ ([(⟨(2 : Int), v7⟩ : R_ii)] : List R_ii))) (by rw [List.take_of_length_le (by omega)]))⟩) <| oY <| oE <| Zi (beq_iff_eq.2 (by rw [ZE (by omega)]; exact wrap_i64 (by omega))) <| oY <| oY <| oY <| oY <| Zi (beq_iff_eq.2 (Zt (by omega))) <| Zi (beq_iff_eq.2 (by rw [ZE (by omega)]; exact wrap_i64 (by omega))) <| oY <| Zi (beq_iff_eq.2 ((beq_iff_eq.1 (beq_iff_eq.2 (Zt (by omega)))).trans (by omega))) <| oY <| oY <| oY <| oY <| Zi (beq_iff_eq.2 (Zt (by omega))) <| Zi (beq_iff_eq.2 (by rw [ZE (by omega)]; exact wrap_i64 (by omega))) <| oY <| Zi (Bool.eq_false_iff.2 (by simp only [ne_eq, Bool.and_true, Bool.and_eq_true, beq_iff_eq]; first | omega | (intro hh; simp_all; done) | (intro hh; grind))) <| oY <| oY <| oY <| oY <| Zi (beq_iff_eq.2 (Zt (by omega))) <| Zi (beq_iff_eq.2 (by rw [ZE (by omega)]; exact wrap_i64 (by omega))) <| oY <| oD <| Zi (by rw [Bool.not_eq_false']; first | (simp only [beq_self_eq_true, Bool.and_self]; done) | (simp only [Bool.and_true, Bool.and_eq_true, beq_iff_eq] <;> first | omega | (simp_all; done) | grind)) <| oE <| Zi (beq_iff_eq.2 (by rw [ZE (by omega)]; exact wrap_i64 (by omega))) <| oY <| oY <| oY <| oY <| Zi (beq_iff_eq.2 (Zt (by omega))) <| Zi (beq_iff_eq.2 (by rw [ZE (by omega)]; exact wrap_i64 (by omega))) <| oY <| Zi (beq_iff_eq.2 ((beq_iff_eq.1 (beq_iff_eq.2 (Zt (by omega)))).trans (by omega))) <| oY <| oY <| oY <| oY <| Zi (beq_iff_eq.2 (Zt (by omega))) <| Zi (beq_iff_eq.2 (by rw [ZE (by omega)]; exact wrap_i64 (by omega))) <| oY <| Zi (Bool.eq_false_iff.2 (by simp only [ne_eq, Bool.and_true, Bool.and_eq_true, beq_iff_eq]; first | omega | (intro hh; simp_all; done) | (intro hh; grind))) <| oY <| oY <| oY <| oY <| Zi (beq_iff_eq.2 (Zt (by omega))) <| Zi (beq_iff_eq.2 (by rw [ZE (by omega)]; exact wrap_i64 (by omega))) <| oY <| oD <| oN Za0)

theorem Ze1 (a0 a1 a2 : Int) (v2 : List R_ii) (v3 v4 : Nat) (v7 : Int) (v8 N : Nat) : (Zd a0 a1 a2 N).Ok Try.prog Zk (.h2m16 v2 v3 v4 v7 v8 : Zb) (Zf a0 a1 a2 N (.h2m16 v2 v3 v4 v7 v8 : Zb)) := by
 show (Zd a0 a1 a2 N).Ok Try.prog Zk (.h2m16 v2 v3 v4 v7 v8 : Zb) (Zak a0 a1 a2 N v2 v3 v4 v7 v8)
 unfold Zak
 refine Mach.ok_ite (fun g0 => ?_) (fun g0 => ?_)
 ·
  refine Mach.ok_ite (fun g1 => ?_) (fun g1 => ?_)
  ·
   refine Mach.ok_ite (fun g2 => ?_) (fun g2 => ?_)
   ·
    refine Mach.ok_ite (fun g3 => ?_) (fun g3 => ?_)
    ·
     refine Mach.ok_ite (fun g4 => ?_) (fun g4 => ?_)
     ·
      refine Mach.ok_ite (fun g5 => ?_) (fun g5 => ?_)
      ·
       refine Mach.ok_ite (fun g6 => ?_) (fun g6 => ?_)
       ·
        refine Mach.ok_ite (fun g7 => ?_) (fun g7 => ?_)
        ·
         refine Mach.ok_ite (fun g8 => ?_) (fun g8 => ?_)
         ·
          refine Mach.ok_ite (fun g9 => ?_) (fun g9 => ?_)
          ·
           exact Mach.ok_none
          ·
           refine Mach.ok_ite (fun g10 => ?_) (fun g10 => ?_)
           ·
            refine Mach.ok_ite (fun g11 => ?_) (fun g11 => ?_)
            ·
             refine Mach.ok_ite (fun g12 => ?_) (fun g12 => ?_)
             ·
              refine Mach.ok_ite (fun g13 => ?_) (fun g13 => ?_)
              ·
               refine Mach.ok_ite (fun g14 => ?_) (fun g14 => ?_)
               ·
                refine Mach.ok_ite (fun g15 => ?_) (fun g15 => ?_)
                ·
                 refine Mach.ok_ite (fun g16 => ?_) (fun g16 => ?_)
                 ·
                  refine Mach.ok_ite (fun g17 => ?_) (fun g17 => ?_)
                  ·
                   exact Mach.ok_next (M := Zd a0 a1 a2 N) (cd := 1000000) (cm := 0) (y := (.h2m16 (v2) (v3) ((v4 + 1)) (v7) (v8) : Zb)) (fu := 4000) (orc := (Z9 v2 v4)) (live := [0, 1, 2, 3, 4, 5]) (tv := fun _ => [some (Value.int .u8 a1), some (vi a2), some (vp 0 0), some (vi (1 : Int)), some (vs 1 0 v2.length v2.length), some (vi (v3 : Int)), some (vp 2 0), some (vi (((v4 + 1) : Nat) : Int))]) (bl := [some (.cells [vi (400 : Int), vs 3 0 19 19, vs 4 0 19 19, vn, vs 5 0 0 1, vn, vn, vn, vn, vn, vn, vn, vn, vn, vn, vn, vn, vn, vn, vn] 48), some (.cells (Zr Zp v2) 30), some (.cells [vi (2 : Int), vi v7] 30), some (.cells [vi (1 : Int), vi (16 : Int), vi (255 : Int), vi (2 : Int), vq, vq, vq, vq, vq, vq, vq, vq, vq, vq, vq, vq, vq, vq, vq, vq, vq, vq, vq, vq, vq, vq, vq, vq, vq, vq, vq, vq, vq, vq, vq, vq, vq, vq, vq, vq, vq, vq, vq, vq, vq, vq, vq, vq, vq, vq, vq, vq, vq, vq, vq, vq, vq, vq, vq, vq, vq, vq, vq, vq, vq, vq, vq, vq, vq, vq, vq, vq, vq, vq, vq, vq, vq, vq, vq, vq, vq, vq, vq, vq, vq, vi (v8 : Int), vi (1 : Int), vq, vi (1 : Int), vq, vq, vq, vq, vq, vq] 38), some (.cells [vq, vq, vi (2 : Int), vq, vi (2 : Int), vq, vi (2 : Int), vq, vi (2 : Int), vq, vi (2 : Int), vq, vi (2 : Int), vq, vi (2 : Int), vq, vi (2 : Int), vq, vi (1 : Int), vq, vi (1 : Int), vq, vi (1 : Int), vq, vi (1 : Int), vq, vi (1 : Int), vq, vi (1 : Int), vq, vi (1 : Int), vq, vi (1 : Int), vq, vq, vq, vi (1 : Int), vi a2] 30), some (.cells [vi (18 : Int)] 3)]) (ob := (Z0 a1 v2 v3 v4 v7 v8)) rfl (show 2 ∈ Zl (Zh 2) from by decide +kernel) (fun gv => by kernel_rfl) (ZA a1 v2 v3 v4 v7 v8 g0 g1 g2 g3 g4 g5 g6 g7 g8 g9 g10 g11 g12 g13 g14 g15 g16 g17) rfl (by decide) (by rfl) (fun _ => ⟨rr, ⟨rr, ⟨rr, ⟨rr, ⟨rr, ⟨rr, ⟨rr, ⟨rr, trivial⟩⟩⟩⟩⟩⟩⟩⟩) ⟨⟨rfl, ⟨[], by rfl⟩, by rfl⟩, ⟨(Zu (E := Zp) (α := R_ii) _ v2 _), ⟨⟨rfl, ⟨[], by rfl⟩, by rfl⟩, ⟨⟨rfl, ⟨[], by rfl⟩, by rfl⟩, ⟨⟨rfl, ⟨[], by rfl⟩, by rfl⟩, ⟨⟨rfl, ⟨[], by rfl⟩, by rfl⟩, trivial⟩⟩⟩⟩⟩⟩
                  ·
                   exact Mach.ok_none
                 ·
                  exact Mach.ok_none
                ·
                 exact Mach.ok_none
               ·
                exact Mach.ok_none
              ·
               exact Mach.ok_none
             ·
              exact Mach.ok_none
            ·
             exact Mach.ok_none
           ·
            exact Mach.ok_none
         ·
          exact Mach.ok_next (M := Zd a0 a1 a2 N) (cd := 1000000) (cm := 0) (y := (.h1m16 ((v2 ++ ([(⟨(2 : Int), v7⟩ : R_ii)] : List R_ii))) ((v3 + 1)) (v8) : Zb)) (fu := 4000) (orc := (ZB v2 v3 v7)) (live := [0, 26, 3, 4, 5]) (tv := fun _ => [some (Value.int .u8 a1), some (vi a2), some (vp 0 0), some (vi (1 : Int)), some (vs 26 0 (v2.length + 1) (v2.length + 1)), some (vi (((v3 + 1) : Nat) : Int))]) (bl := [some (.cells [vi (400 : Int), vs 3 0 19 19, vs 4 0 19 19, vn, vs 5 0 1 1, vn, vn, vn, vn, vn, vn, vn, vn, vn, vn, vn, vn, vn, vn, vn] 48), some (.cells (Zr Zp (v2 ++ ([(⟨(2 : Int), v7⟩ : R_ii)] : List R_ii))) 30), some (.cells [vi (1 : Int), vi (16 : Int), vi (255 : Int), vi (2 : Int), vq, vq, vq, vq, vq, vq, vq, vq, vq, vq, vq, vq, vq, vq, vq, vq, vq, vq, vq, vq, vq, vq, vq, vq, vq, vq, vq, vq, vq, vq, vq, vq, vq, vq, vq, vq, vq, vq, vq, vq, vq, vq, vq, vq, vq, vq, vq, vq, vq, vq, vq, vq, vq, vq, vq, vq, vq, vq, vq, vq, vq, vq, vq, vq, vq, vq, vq, vq, vq, vq, vq, vq, vq, vq, vq, vq, vq, vq, vq, vq, vq, vi (v8 : Int), vi (1 : Int), vq, vq, vq, vq, vq, vq, vq, vq] 38), some (.cells [vq, vq, vi (2 : Int), vq, vi (2 : Int), vq, vi (2 : Int), vq, vi (2 : Int), vq, vi (2 : Int), vq, vi (2 : Int), vq, vi (2 : Int), vq, vi (2 : Int), vq, vi (1 : Int), vq, vi (1 : Int), vq, vi (1 : Int), vq, vi (1 : Int), vq, vi (1 : Int), vq, vi (1 : Int), vq, vi (1 : Int), vq, vi (1 : Int), vq, vq, vq, vi (1 : Int), vi a2] 30), some (.cells [vi (18 : Int)] 3)]) (ob := (Z1 a1 a2 v2 v3 v4 v7 v8)) rfl (show 1 ∈ Zl (Zh 2) from by decide +kernel) (fun gv => by kernel_rfl) (ZC a1 a2 v2 v3 v4 v7 v8 g0 g1 g2 g3 g4 g5 g6 g7 g8) rfl (by decide) (by rfl) (fun _ => ⟨rr, ⟨rr, ⟨rr, ⟨rr, ⟨⟨Eq.trans (show (vs 1 0 (v2 ++ ([(⟨(2 : Int), v7⟩ : R_ii)] : List R_ii)).length (v2 ++ ([(⟨(2 : Int), v7⟩ : R_ii)] : List R_ii)).length : Value) = vs 1 0 (v2.length + 1) (v2.length + 1) from (ZF rfl eqA eqA)) (by rfl), by rfl⟩, ⟨rr, trivial⟩⟩⟩⟩⟩⟩) ⟨⟨rfl, ⟨[], by rfl⟩, by rfl⟩, ⟨(Zu (E := Zp) (α := R_ii) _ (v2 ++ ([(⟨(2 : Int), v7⟩ : R_ii)] : List R_ii)) _), ⟨⟨rfl, ⟨[], by rfl⟩, by rfl⟩, ⟨⟨rfl, ⟨[], by rfl⟩, by rfl⟩, ⟨⟨rfl, ⟨[], by rfl⟩, by rfl⟩, trivial⟩⟩⟩⟩⟩
        ·
         exact Mach.ok_none
       ·
        exact Mach.ok_none
      ·
       exact Mach.ok_none
     ·
      exact Mach.ok_none
    ·
     exact Mach.ok_none
   ·
    exact Mach.ok_none
  ·
   exact Mach.ok_none
 ·
  exact Mach.ok_none

theorem Ze2 (a0 a1 a2 : Int) (v2 : List R_ii) (v3 v4 : Nat) (v7 : Int) (v8 N : Nat) : (Zd a0 a1 a2 N).Ok Try.prog Zk (.h2m17 v2 v3 v4 v7 v8 : Zb) (Zf a0 a1 a2 N (.h2m17 v2 v3 v4 v7 v8 : Zb)) := by
 show (Zd a0 a1 a2 N).Ok Try.prog Zk (.h2m17 v2 v3 v4 v7 v8 : Zb) (Zal a0 a1 a2 N v2 v3 v4 v7 v8)
 unfold Zal
 refine Mach.ok_ite (fun g0 => ?_) (fun g0 => ?_)
 ·
  refine Mach.ok_ite (fun g1 => ?_) (fun g1 => ?_)
  ·
   refine Mach.ok_ite (fun g2 => ?_) (fun g2 => ?_)
   ·
    refine Mach.ok_ite (fun g3 => ?_) (fun g3 => ?_)
    ·
     refine Mach.ok_ite (fun g4 => ?_) (fun g4 => ?_)
     ·
      refine Mach.ok_ite (fun g5 => ?_) (fun g5 => ?_)
      ·
       refine Mach.ok_ite (fun g6 => ?_) (fun g6 => ?_)
       ·
        refine Mach.ok_ite (fun g7 => ?_) (fun g7 => ?_)
        ·
         refine Mach.ok_ite (fun g8 => ?_) (fun g8 => ?_)
         ·
          refine Mach.ok_ite (fun g9 => ?_) (fun g9 => ?_)
          ·
           exact Mach.ok_none
          ·
           refine Mach.ok_ite (fun g10 => ?_) (fun g10 => ?_)
           ·
            refine Mach.ok_ite (fun g11 => ?_) (fun g11 => ?_)
            ·
             refine Mach.ok_ite (fun g12 => ?_) (fun g12 => ?_)
             ·
              refine Mach.ok_ite (fun g13 => ?_) (fun g13 => ?_)
              ·
               refine Mach.ok_ite (fun g14 => ?_) (fun g14 => ?_)
               ·
                refine Mach.ok_ite (fun g15 => ?_) (fun g15 => ?_)
                ·
                 refine Mach.ok_ite (fun g16 => ?_) (fun g16 => ?_)
                 ·
                  refine Mach.ok_ite (fun g17 => ?_) (fun g17 => ?_)
                  ·
                   exact Mach.ok_next (M := Zd a0 a1 a2 N) (cd := 1000000) (cm := 0) (y := (.h2m17 (v2) (v3) ((v4 + 1)) (v7) (v8) : Zb)) (fu := 4000) (orc := (Z9 v2 v4)) (live := [0, 1, 2, 3, 4, 5]) (tv := fun _ => [some (Value.int .u8 a1), some (vi a2), some (vp 0 0), some (vi (2 : Int)), some (vs 1 0 v2.length v2.length), some (vi (v3 : Int)), some (vp 2 0), some (vi (((v4 + 1) : Nat) : Int))]) (bl := [some (.cells [vi (400 : Int), vs 3 0 20 20, vs 4 0 20 20, vn, vn, vs 5 0 0 1, vn, vn, vn, vn, vn, vn, vn, vn, vn, vn, vn, vn, vn, vn] 48), some (.cells (Zr Zp v2) 30), some (.cells [vi (2 : Int), vi v7] 30), some (.cells [vi (1 : Int), vi (16 : Int), vi (255 : Int), vi (2 : Int), vq, vq, vq, vq, vq, vq, vq, vq, vq, vq, vq, vq, vq, vq, vq, vq, vq, vq, vq, vq, vq, vq, vq, vq, vq, vq, vq, vq, vq, vq, vq, vq, vq, vq, vq, vq, vq, vq, vq, vq, vq, vq, vq, vq, vq, vq, vq, vq, vq, vq, vq, vq, vq, vq, vq, vq, vq, vq, vq, vq, vq, vq, vq, vq, vq, vq, vq, vq, vq, vq, vq, vq, vq, vq, vq, vq, vq, vq, vq, vq, vq, vi (v8 : Int), vi (2 : Int), vq, vi (1 : Int), vq, vq, vq, vq, vq, vq, vq, vq, vq, vq, vq] 38), some (.cells [vq, vq, vi (2 : Int), vq, vi (2 : Int), vq, vi (2 : Int), vq, vi (2 : Int), vq, vi (2 : Int), vq, vi (2 : Int), vq, vi (2 : Int), vq, vi (2 : Int), vq, vi (1 : Int), vq, vi (1 : Int), vq, vi (1 : Int), vq, vi (1 : Int), vq, vi (1 : Int), vq, vi (1 : Int), vq, vi (1 : Int), vq, vi (1 : Int), vq, vq, vq, vi (1 : Int), vq, vi (1 : Int), vi a2] 30), some (.cells [vi (18 : Int)] 3)]) (ob := (Z0 a1 v2 v3 v4 v7 v8)) rfl (show 2 ∈ Zl (Zh 2) from by decide +kernel) (fun gv => by kernel_rfl) (ZA a1 v2 v3 v4 v7 v8 g0 g1 g2 g3 g4 g5 g6 g7 g8 g9 g10 g11 g12 g13 g14 g15 g16 g17) rfl (by decide) (by rfl) (fun _ => ⟨rr, ⟨rr, ⟨rr, ⟨rr, ⟨rr, ⟨rr, ⟨rr, ⟨rr, trivial⟩⟩⟩⟩⟩⟩⟩⟩) ⟨⟨rfl, ⟨[], by rfl⟩, by rfl⟩, ⟨(Zu (E := Zp) (α := R_ii) _ v2 _), ⟨⟨rfl, ⟨[], by rfl⟩, by rfl⟩, ⟨⟨rfl, ⟨[], by rfl⟩, by rfl⟩, ⟨⟨rfl, ⟨[], by rfl⟩, by rfl⟩, ⟨⟨rfl, ⟨[], by rfl⟩, by rfl⟩, trivial⟩⟩⟩⟩⟩⟩
                  ·
                   exact Mach.ok_none
                 ·
                  exact Mach.ok_none
                ·
                 exact Mach.ok_none
               ·
                exact Mach.ok_none
              ·
               exact Mach.ok_none
             ·
              exact Mach.ok_none
            ·
             exact Mach.ok_none
           ·
            exact Mach.ok_none
         ·
          exact Mach.ok_next (M := Zd a0 a1 a2 N) (cd := 1000000) (cm := 0) (y := (.h1m17 ((v2 ++ ([(⟨(2 : Int), v7⟩ : R_ii)] : List R_ii))) ((v3 + 1)) (v8) : Zb)) (fu := 4000) (orc := (ZB v2 v3 v7)) (live := [0, 26, 3, 4, 5]) (tv := fun _ => [some (Value.int .u8 a1), some (vi a2), some (vp 0 0), some (vi (2 : Int)), some (vs 26 0 (v2.length + 1) (v2.length + 1)), some (vi (((v3 + 1) : Nat) : Int))]) (bl := [some (.cells [vi (400 : Int), vs 3 0 20 20, vs 4 0 20 20, vn, vn, vs 5 0 1 1, vn, vn, vn, vn, vn, vn, vn, vn, vn, vn, vn, vn, vn, vn] 48), some (.cells (Zr Zp (v2 ++ ([(⟨(2 : Int), v7⟩ : R_ii)] : List R_ii))) 30), some (.cells [vi (1 : Int), vi (16 : Int), vi (255 : Int), vi (2 : Int), vq, vq, vq, vq, vq, vq, vq, vq, vq, vq, vq, vq, vq, vq, vq, vq, vq, vq, vq, vq, vq, vq, vq, vq, vq, vq, vq, vq, vq, vq, vq, vq, vq, vq, vq, vq, vq, vq, vq, vq, vq, vq, vq, vq, vq, vq, vq, vq, vq, vq, vq, vq, vq, vq, vq, vq, vq, vq, vq, vq, vq, vq, vq, vq, vq, vq, vq, vq, vq, vq, vq, vq, vq, vq, vq, vq, vq, vq, vq, vq, vq, vi (v8 : Int), vi (2 : Int), vq, vq, vq, vq, vq, vq, vq, vq, vq, vq, vq, vq, vq] 38), some (.cells [vq, vq, vi (2 : Int), vq, vi (2 : Int), vq, vi (2 : Int), vq, vi (2 : Int), vq, vi (2 : Int), vq, vi (2 : Int), vq, vi (2 : Int), vq, vi (2 : Int), vq, vi (1 : Int), vq, vi (1 : Int), vq, vi (1 : Int), vq, vi (1 : Int), vq, vi (1 : Int), vq, vi (1 : Int), vq, vi (1 : Int), vq, vi (1 : Int), vq, vq, vq, vi (1 : Int), vq, vi (1 : Int), vi a2] 30), some (.cells [vi (18 : Int)] 3)]) (ob := (Z1 a1 a2 v2 v3 v4 v7 v8)) rfl (show 1 ∈ Zl (Zh 2) from by decide +kernel) (fun gv => by kernel_rfl) (ZC a1 a2 v2 v3 v4 v7 v8 g0 g1 g2 g3 g4 g5 g6 g7 g8) rfl (by decide) (by rfl) (fun _ => ⟨rr, ⟨rr, ⟨rr, ⟨rr, ⟨⟨Eq.trans (show (vs 1 0 (v2 ++ ([(⟨(2 : Int), v7⟩ : R_ii)] : List R_ii)).length (v2 ++ ([(⟨(2 : Int), v7⟩ : R_ii)] : List R_ii)).length : Value) = vs 1 0 (v2.length + 1) (v2.length + 1) from (ZF rfl eqA eqA)) (by rfl), by rfl⟩, ⟨rr, trivial⟩⟩⟩⟩⟩⟩) ⟨⟨rfl, ⟨[], by rfl⟩, by rfl⟩, ⟨(Zu (E := Zp) (α := R_ii) _ (v2 ++ ([(⟨(2 : Int), v7⟩ : R_ii)] : List R_ii)) _), ⟨⟨rfl, ⟨[], by rfl⟩, by rfl⟩, ⟨⟨rfl, ⟨[], by rfl⟩, by rfl⟩, ⟨⟨rfl, ⟨[], by rfl⟩, by rfl⟩, trivial⟩⟩⟩⟩⟩
        ·
         exact Mach.ok_none
       ·
        exact Mach.ok_none
      ·
       exact Mach.ok_none
     ·
      exact Mach.ok_none
    ·
     exact Mach.ok_none
   ·
    exact Mach.ok_none
  ·
   exact Mach.ok_none
 ·
  exact Mach.ok_none

theorem Ze3 (a0 a1 a2 : Int) (v2 : List R_ii) (v3 v4 : Nat) (v7 : Int) (v8 N : Nat) : (Zd a0 a1 a2 N).Ok Try.prog Zk (.h2m18 v2 v3 v4 v7 v8 : Zb) (Zf a0 a1 a2 N (.h2m18 v2 v3 v4 v7 v8 : Zb)) := by
 show (Zd a0 a1 a2 N).Ok Try.prog Zk (.h2m18 v2 v3 v4 v7 v8 : Zb) (Zam a0 a1 a2 N v2 v3 v4 v7 v8)
 unfold Zam
 refine Mach.ok_ite (fun g0 => ?_) (fun g0 => ?_)
 ·
  refine Mach.ok_ite (fun g1 => ?_) (fun g1 => ?_)
  ·
   refine Mach.ok_ite (fun g2 => ?_) (fun g2 => ?_)
   ·
    refine Mach.ok_ite (fun g3 => ?_) (fun g3 => ?_)
    ·
     refine Mach.ok_ite (fun g4 => ?_) (fun g4 => ?_)
     ·
      refine Mach.ok_ite (fun g5 => ?_) (fun g5 => ?_)
      ·
       refine Mach.ok_ite (fun g6 => ?_) (fun g6 => ?_)
       ·
        refine Mach.ok_ite (fun g7 => ?_) (fun g7 => ?_)
        ·
         refine Mach.ok_ite (fun g8 => ?_) (fun g8 => ?_)
         ·
          refine Mach.ok_ite (fun g9 => ?_) (fun g9 => ?_)
          ·
           exact Mach.ok_none
          ·
           refine Mach.ok_ite (fun g10 => ?_) (fun g10 => ?_)
           ·
            refine Mach.ok_ite (fun g11 => ?_) (fun g11 => ?_)
            ·
             refine Mach.ok_ite (fun g12 => ?_) (fun g12 => ?_)
             ·
              refine Mach.ok_ite (fun g13 => ?_) (fun g13 => ?_)
              ·
               refine Mach.ok_ite (fun g14 => ?_) (fun g14 => ?_)
               ·
                refine Mach.ok_ite (fun g15 => ?_) (fun g15 => ?_)
                ·
                 refine Mach.ok_ite (fun g16 => ?_) (fun g16 => ?_)
                 ·
                  refine Mach.ok_ite (fun g17 => ?_) (fun g17 => ?_)
                  ·
                   exact Mach.ok_next (M := Zd a0 a1 a2 N) (cd := 1000000) (cm := 0) (y := (.h2m18 (v2) (v3) ((v4 + 1)) (v7) (v8) : Zb)) (fu := 4000) (orc := (Z9 v2 v4)) (live := [0, 1, 2, 3, 4, 5]) (tv := fun _ => [some (Value.int .u8 a1), some (vi a2), some (vp 0 0), some (vi (3 : Int)), some (vs 1 0 v2.length v2.length), some (vi (v3 : Int)), some (vp 2 0), some (vi (((v4 + 1) : Nat) : Int))]) (bl := [some (.cells [vi (400 : Int), vs 3 0 21 21, vs 4 0 21 21, vn, vn, vn, vs 5 0 0 1, vn, vn, vn, vn, vn, vn, vn, vn, vn, vn, vn, vn, vn] 48), some (.cells (Zr Zp v2) 30), some (.cells [vi (2 : Int), vi v7] 30), some (.cells [vi (1 : Int), vi (16 : Int), vi (255 : Int), vi (2 : Int), vq, vq, vq, vq, vq, vq, vq, vq, vq, vq, vq, vq, vq, vq, vq, vq, vq, vq, vq, vq, vq, vq, vq, vq, vq, vq, vq, vq, vq, vq, vq, vq, vq, vq, vq, vq, vq, vq, vq, vq, vq, vq, vq, vq, vq, vq, vq, vq, vq, vq, vq, vq, vq, vq, vq, vq, vq, vq, vq, vq, vq, vq, vq, vq, vq, vq, vq, vq, vq, vq, vq, vq, vq, vq, vq, vq, vq, vq, vq, vq, vq, vi (v8 : Int), vi (3 : Int), vq, vi (1 : Int), vq, vq, vq, vq, vq, vq, vq, vq, vq, vq, vq, vq, vq, vq, vq, vq] 38), some (.cells [vq, vq, vi (2 : Int), vq, vi (2 : Int), vq, vi (2 : Int), vq, vi (2 : Int), vq, vi (2 : Int), vq, vi (2 : Int), vq, vi (2 : Int), vq, vi (2 : Int), vq, vi (1 : Int), vq, vi (1 : Int), vq, vi (1 : Int), vq, vi (1 : Int), vq, vi (1 : Int), vq, vi (1 : Int), vq, vi (1 : Int), vq, vi (1 : Int), vq, vq, vq, vi (1 : Int), vq, vi (1 : Int), vq, vi (1 : Int), vi a2] 30), some (.cells [vi (18 : Int)] 3)]) (ob := (Z0 a1 v2 v3 v4 v7 v8)) rfl (show 2 ∈ Zl (Zh 2) from by decide +kernel) (fun gv => by kernel_rfl) (ZA a1 v2 v3 v4 v7 v8 g0 g1 g2 g3 g4 g5 g6 g7 g8 g9 g10 g11 g12 g13 g14 g15 g16 g17) rfl (by decide) (by rfl) (fun _ => ⟨rr, ⟨rr, ⟨rr, ⟨rr, ⟨rr, ⟨rr, ⟨rr, ⟨rr, trivial⟩⟩⟩⟩⟩⟩⟩⟩) ⟨⟨rfl, ⟨[], by rfl⟩, by rfl⟩, ⟨(Zu (E := Zp) (α := R_ii) _ v2 _), ⟨⟨rfl, ⟨[], by rfl⟩, by rfl⟩, ⟨⟨rfl, ⟨[], by rfl⟩, by rfl⟩, ⟨⟨rfl, ⟨[], by rfl⟩, by rfl⟩, ⟨⟨rfl, ⟨[], by rfl⟩, by rfl⟩, trivial⟩⟩⟩⟩⟩⟩
                  ·
                   exact Mach.ok_none
                 ·
                  exact Mach.ok_none
                ·
                 exact Mach.ok_none
               ·
                exact Mach.ok_none
              ·
               exact Mach.ok_none
             ·
              exact Mach.ok_none
            ·
             exact Mach.ok_none
           ·
            exact Mach.ok_none
         ·
          exact Mach.ok_next (M := Zd a0 a1 a2 N) (cd := 1000000) (cm := 0) (y := (.h1m18 ((v2 ++ ([(⟨(2 : Int), v7⟩ : R_ii)] : List R_ii))) ((v3 + 1)) (v8) : Zb)) (fu := 4000) (orc := (ZB v2 v3 v7)) (live := [0, 26, 3, 4, 5]) (tv := fun _ => [some (Value.int .u8 a1), some (vi a2), some (vp 0 0), some (vi (3 : Int)), some (vs 26 0 (v2.length + 1) (v2.length + 1)), some (vi (((v3 + 1) : Nat) : Int))]) (bl := [some (.cells [vi (400 : Int), vs 3 0 21 21, vs 4 0 21 21, vn, vn, vn, vs 5 0 1 1, vn, vn, vn, vn, vn, vn, vn, vn, vn, vn, vn, vn, vn] 48), some (.cells (Zr Zp (v2 ++ ([(⟨(2 : Int), v7⟩ : R_ii)] : List R_ii))) 30), some (.cells [vi (1 : Int), vi (16 : Int), vi (255 : Int), vi (2 : Int), vq, vq, vq, vq, vq, vq, vq, vq, vq, vq, vq, vq, vq, vq, vq, vq, vq, vq, vq, vq, vq, vq, vq, vq, vq, vq, vq, vq, vq, vq, vq, vq, vq, vq, vq, vq, vq, vq, vq, vq, vq, vq, vq, vq, vq, vq, vq, vq, vq, vq, vq, vq, vq, vq, vq, vq, vq, vq, vq, vq, vq, vq, vq, vq, vq, vq, vq, vq, vq, vq, vq, vq, vq, vq, vq, vq, vq, vq, vq, vq, vq, vi (v8 : Int), vi (3 : Int), vq, vq, vq, vq, vq, vq, vq, vq, vq, vq, vq, vq, vq, vq, vq, vq, vq, vq] 38), some (.cells [vq, vq, vi (2 : Int), vq, vi (2 : Int), vq, vi (2 : Int), vq, vi (2 : Int), vq, vi (2 : Int), vq, vi (2 : Int), vq, vi (2 : Int), vq, vi (2 : Int), vq, vi (1 : Int), vq, vi (1 : Int), vq, vi (1 : Int), vq, vi (1 : Int), vq, vi (1 : Int), vq, vi (1 : Int), vq, vi (1 : Int), vq, vi (1 : Int), vq, vq, vq, vi (1 : Int), vq, vi (1 : Int), vq, vi (1 : Int), vi a2] 30), some (.cells [vi (18 : Int)] 3)]) (ob := (Z1 a1 a2 v2 v3 v4 v7 v8)) rfl (show 1 ∈ Zl (Zh 2) from by decide +kernel) (fun gv => by kernel_rfl) (ZC a1 a2 v2 v3 v4 v7 v8 g0 g1 g2 g3 g4 g5 g6 g7 g8) rfl (by decide) (by rfl) (fun _ => ⟨rr, ⟨rr, ⟨rr, ⟨rr, ⟨⟨Eq.trans (show (vs 1 0 (v2 ++ ([(⟨(2 : Int), v7⟩ : R_ii)] : List R_ii)).length (v2 ++ ([(⟨(2 : Int), v7⟩ : R_ii)] : List R_ii)).length : Value) = vs 1 0 (v2.length + 1) (v2.length + 1) from (ZF rfl eqA eqA)) (by rfl), by rfl⟩, ⟨rr, trivial⟩⟩⟩⟩⟩⟩) ⟨⟨rfl, ⟨[], by rfl⟩, by rfl⟩, ⟨(Zu (E := Zp) (α := R_ii) _ (v2 ++ ([(⟨(2 : Int), v7⟩ : R_ii)] : List R_ii)) _), ⟨⟨rfl, ⟨[], by rfl⟩, by rfl⟩, ⟨⟨rfl, ⟨[], by rfl⟩, by rfl⟩, ⟨⟨rfl, ⟨[], by rfl⟩, by rfl⟩, trivial⟩⟩⟩⟩⟩
        ·
         exact Mach.ok_none
       ·
        exact Mach.ok_none
      ·
       exact Mach.ok_none
     ·
      exact Mach.ok_none
    ·
     exact Mach.ok_none
   ·
    exact Mach.ok_none
  ·
   exact Mach.ok_none
 ·
  exact Mach.ok_none

theorem Ze4 (a0 a1 a2 : Int) (v2 : List R_ii) (v3 v4 : Nat) (v7 : Int) (v8 N : Nat) : (Zd a0 a1 a2 N).Ok Try.prog Zk (.h2m19 v2 v3 v4 v7 v8 : Zb) (Zf a0 a1 a2 N (.h2m19 v2 v3 v4 v7 v8 : Zb)) := by
 show (Zd a0 a1 a2 N).Ok Try.prog Zk (.h2m19 v2 v3 v4 v7 v8 : Zb) (Zan a0 a1 a2 N v2 v3 v4 v7 v8)
 unfold Zan
 refine Mach.ok_ite (fun g0 => ?_) (fun g0 => ?_)
 ·
  refine Mach.ok_ite (fun g1 => ?_) (fun g1 => ?_)
  ·
   refine Mach.ok_ite (fun g2 => ?_) (fun g2 => ?_)
   ·
    refine Mach.ok_ite (fun g3 => ?_) (fun g3 => ?_)
    ·
     refine Mach.ok_ite (fun g4 => ?_) (fun g4 => ?_)
     ·
      refine Mach.ok_ite (fun g5 => ?_) (fun g5 => ?_)
      ·
       refine Mach.ok_ite (fun g6 => ?_) (fun g6 => ?_)
       ·
        refine Mach.ok_ite (fun g7 => ?_) (fun g7 => ?_)
        ·
         refine Mach.ok_ite (fun g8 => ?_) (fun g8 => ?_)
         ·
          refine Mach.ok_ite (fun g9 => ?_) (fun g9 => ?_)
          ·
           exact Mach.ok_none
          ·
           refine Mach.ok_ite (fun g10 => ?_) (fun g10 => ?_)
           ·
            refine Mach.ok_ite (fun g11 => ?_) (fun g11 => ?_)
            ·
             refine Mach.ok_ite (fun g12 => ?_) (fun g12 => ?_)
             ·
              refine Mach.ok_ite (fun g13 => ?_) (fun g13 => ?_)
              ·
               refine Mach.ok_ite (fun g14 => ?_) (fun g14 => ?_)
               ·
                refine Mach.ok_ite (fun g15 => ?_) (fun g15 => ?_)
                ·
                 refine Mach.ok_ite (fun g16 => ?_) (fun g16 => ?_)
                 ·
                  refine Mach.ok_ite (fun g17 => ?_) (fun g17 => ?_)
                  ·
                   exact Mach.ok_next (M := Zd a0 a1 a2 N) (cd := 1000000) (cm := 0) (y := (.h2m19 (v2) (v3) ((v4 + 1)) (v7) (v8) : Zb)) (fu := 4000) (orc := (Z9 v2 v4)) (live := [0, 1, 2, 3, 4, 5]) (tv := fun _ => [some (Value.int .u8 a1), some (vi a2), some (vp 0 0), some (vi (4 : Int)), some (vs 1 0 v2.length v2.length), some (vi (v3 : Int)), some (vp 2 0), some (vi (((v4 + 1) : Nat) : Int))]) (bl := [some (.cells [vi (400 : Int), vs 3 0 22 22, vs 4 0 22 22, vn, vn, vn, vn, vs 5 0 0 1, vn, vn, vn, vn, vn, vn, vn, vn, vn, vn, vn, vn] 48), some (.cells (Zr Zp v2) 30), some (.cells [vi (2 : Int), vi v7] 30), some (.cells [vi (1 : Int), vi (16 : Int), vi (255 : Int), vi (2 : Int), vq, vq, vq, vq, vq, vq, vq, vq, vq, vq, vq, vq, vq, vq, vq, vq, vq, vq, vq, vq, vq, vq, vq, vq, vq, vq, vq, vq, vq, vq, vq, vq, vq, vq, vq, vq, vq, vq, vq, vq, vq, vq, vq, vq, vq, vq, vq, vq, vq, vq, vq, vq, vq, vq, vq, vq, vq, vq, vq, vq, vq, vq, vq, vq, vq, vq, vq, vq, vq, vq, vq, vq, vq, vq, vq, vq, vq, vq, vq, vq, vq, vi (v8 : Int), vi (4 : Int), vq, vi (1 : Int), vq, vq, vq, vq, vq, vq, vq, vq, vq, vq, vq, vq, vq, vq, vq, vq, vq, vq, vq, vq, vq] 38), some (.cells [vq, vq, vi (2 : Int), vq, vi (2 : Int), vq, vi (2 : Int), vq, vi (2 : Int), vq, vi (2 : Int), vq, vi (2 : Int), vq, vi (2 : Int), vq, vi (2 : Int), vq, vi (1 : Int), vq, vi (1 : Int), vq, vi (1 : Int), vq, vi (1 : Int), vq, vi (1 : Int), vq, vi (1 : Int), vq, vi (1 : Int), vq, vi (1 : Int), vq, vq, vq, vi (1 : Int), vq, vi (1 : Int), vq, vi (1 : Int), vq, vi (1 : Int), vi a2] 30), some (.cells [vi (18 : Int)] 3)]) (ob := (Z0 a1 v2 v3 v4 v7 v8)) rfl (show 2 ∈ Zl (Zh 2) from by decide +kernel) (fun gv => by kernel_rfl) (ZA a1 v2 v3 v4 v7 v8 g0 g1 g2 g3 g4 g5 g6 g7 g8 g9 g10 g11 g12 g13 g14 g15 g16 g17) rfl (by decide) (by rfl) (fun _ => ⟨rr, ⟨rr, ⟨rr, ⟨rr, ⟨rr, ⟨rr, ⟨rr, ⟨rr, trivial⟩⟩⟩⟩⟩⟩⟩⟩) ⟨⟨rfl, ⟨[], by rfl⟩, by rfl⟩, ⟨(Zu (E := Zp) (α := R_ii) _ v2 _), ⟨⟨rfl, ⟨[], by rfl⟩, by rfl⟩, ⟨⟨rfl, ⟨[], by rfl⟩, by rfl⟩, ⟨⟨rfl, ⟨[], by rfl⟩, by rfl⟩, ⟨⟨rfl, ⟨[], by rfl⟩, by rfl⟩, trivial⟩⟩⟩⟩⟩⟩
                  ·
                   exact Mach.ok_none
                 ·
                  exact Mach.ok_none
                ·
                 exact Mach.ok_none
               ·
                exact Mach.ok_none
              ·
               exact Mach.ok_none
             ·
              exact Mach.ok_none
            ·
             exact Mach.ok_none
           ·
            exact Mach.ok_none
         ·
          exact Mach.ok_next (M := Zd a0 a1 a2 N) (cd := 1000000) (cm := 0) (y := (.h1m19 ((v2 ++ ([(⟨(2 : Int), v7⟩ : R_ii)] : List R_ii))) ((v3 + 1)) (v8) : Zb)) (fu := 4000) (orc := (ZB v2 v3 v7)) (live := [0, 26, 3, 4, 5]) (tv := fun _ => [some (Value.int .u8 a1), some (vi a2), some (vp 0 0), some (vi (4 : Int)), some (vs 26 0 (v2.length + 1) (v2.length + 1)), some (vi (((v3 + 1) : Nat) : Int))]) (bl := [some (.cells [vi (400 : Int), vs 3 0 22 22, vs 4 0 22 22, vn, vn, vn, vn, vs 5 0 1 1, vn, vn, vn, vn, vn, vn, vn, vn, vn, vn, vn, vn] 48), some (.cells (Zr Zp (v2 ++ ([(⟨(2 : Int), v7⟩ : R_ii)] : List R_ii))) 30), some (.cells [vi (1 : Int), vi (16 : Int), vi (255 : Int), vi (2 : Int), vq, vq, vq, vq, vq, vq, vq, vq, vq, vq, vq, vq, vq, vq, vq, vq, vq, vq, vq, vq, vq, vq, vq, vq, vq, vq, vq, vq, vq, vq, vq, vq, vq, vq, vq, vq, vq, vq, vq, vq, vq, vq, vq, vq, vq, vq, vq, vq, vq, vq, vq, vq, vq, vq, vq, vq, vq, vq, vq, vq, vq, vq, vq, vq, vq, vq, vq, vq, vq, vq, vq, vq, vq, vq, vq, vq, vq, vq, vq, vq, vq, vi (v8 : Int), vi (4 : Int), vq, vq, vq, vq, vq, vq, vq, vq, vq, vq, vq, vq, vq, vq, vq, vq, vq, vq, vq, vq, vq, vq, vq] 38), some (.cells [vq, vq, vi (2 : Int), vq, vi (2 : Int), vq, vi (2 : Int), vq, vi (2 : Int), vq, vi (2 : Int), vq, vi (2 : Int), vq, vi (2 : Int), vq, vi (2 : Int), vq, vi (1 : Int), vq, vi (1 : Int), vq, vi (1 : Int), vq, vi (1 : Int), vq, vi (1 : Int), vq, vi (1 : Int), vq, vi (1 : Int), vq, vi (1 : Int), vq, vq, vq, vi (1 : Int), vq, vi (1 : Int), vq, vi (1 : Int), vq, vi (1 : Int), vi a2] 30), some (.cells [vi (18 : Int)] 3)]) (ob := (Z1 a1 a2 v2 v3 v4 v7 v8)) rfl (show 1 ∈ Zl (Zh 2) from by decide +kernel) (fun gv => by kernel_rfl) (ZC a1 a2 v2 v3 v4 v7 v8 g0 g1 g2 g3 g4 g5 g6 g7 g8) rfl (by decide) (by rfl) (fun _ => ⟨rr, ⟨rr, ⟨rr, ⟨rr, ⟨⟨Eq.trans (show (vs 1 0 (v2 ++ ([(⟨(2 : Int), v7⟩ : R_ii)] : List R_ii)).length (v2 ++ ([(⟨(2 : Int), v7⟩ : R_ii)] : List R_ii)).length : Value) = vs 1 0 (v2.length + 1) (v2.length + 1) from (ZF rfl eqA eqA)) (by rfl), by rfl⟩, ⟨rr, trivial⟩⟩⟩⟩⟩⟩) ⟨⟨rfl, ⟨[], by rfl⟩, by rfl⟩, ⟨(Zu (E := Zp) (α := R_ii) _ (v2 ++ ([(⟨(2 : Int), v7⟩ : R_ii)] : List R_ii)) _), ⟨⟨rfl, ⟨[], by rfl⟩, by rfl⟩, ⟨⟨rfl, ⟨[], by rfl⟩, by rfl⟩, ⟨⟨rfl, ⟨[], by rfl⟩, by rfl⟩, trivial⟩⟩⟩⟩⟩
        ·
         exact Mach.ok_none
       ·
        exact Mach.ok_none
      ·
       exact Mach.ok_none
     ·
      exact Mach.ok_none
    ·
     exact Mach.ok_none
   ·
    exact Mach.ok_none
  ·
   exact Mach.ok_none
 ·
  exact Mach.ok_none

theorem Ze5 (a0 a1 a2 : Int) (v2 : List R_ii) (v3 v4 : Nat) (v7 : Int) (v8 N : Nat) : (Zd a0 a1 a2 N).Ok Try.prog Zk (.h2m20 v2 v3 v4 v7 v8 : Zb) (Zf a0 a1 a2 N (.h2m20 v2 v3 v4 v7 v8 : Zb)) := by
 show (Zd a0 a1 a2 N).Ok Try.prog Zk (.h2m20 v2 v3 v4 v7 v8 : Zb) (Zao a0 a1 a2 N v2 v3 v4 v7 v8)
 unfold Zao
 refine Mach.ok_ite (fun g0 => ?_) (fun g0 => ?_)
 ·
  refine Mach.ok_ite (fun g1 => ?_) (fun g1 => ?_)
  ·
   refine Mach.ok_ite (fun g2 => ?_) (fun g2 => ?_)
   ·
    refine Mach.ok_ite (fun g3 => ?_) (fun g3 => ?_)
    ·
     refine Mach.ok_ite (fun g4 => ?_) (fun g4 => ?_)
     ·
      refine Mach.ok_ite (fun g5 => ?_) (fun g5 => ?_)
      ·
       refine Mach.ok_ite (fun g6 => ?_) (fun g6 => ?_)
       ·
        refine Mach.ok_ite (fun g7 => ?_) (fun g7 => ?_)
        ·
         refine Mach.ok_ite (fun g8 => ?_) (fun g8 => ?_)
         ·
          refine Mach.ok_ite (fun g9 => ?_) (fun g9 => ?_)
          ·
           exact Mach.ok_none
          ·
           refine Mach.ok_ite (fun g10 => ?_) (fun g10 => ?_)
           ·
            refine Mach.ok_ite (fun g11 => ?_) (fun g11 => ?_)
            ·
             refine Mach.ok_ite (fun g12 => ?_) (fun g12 => ?_)
             ·
              refine Mach.ok_ite (fun g13 => ?_) (fun g13 => ?_)
              ·
               refine Mach.ok_ite (fun g14 => ?_) (fun g14 => ?_)
               ·
                refine Mach.ok_ite (fun g15 => ?_) (fun g15 => ?_)
                ·
                 refine Mach.ok_ite (fun g16 => ?_) (fun g16 => ?_)
                 ·
                  refine Mach.ok_ite (fun g17 => ?_) (fun g17 => ?_)
                  ·
                   exact Mach.ok_next (M := Zd a0 a1 a2 N) (cd := 1000000) (cm := 0) (y := (.h2m20 (v2) (v3) ((v4 + 1)) (v7) (v8) : Zb)) (fu := 4000) (orc := (Z9 v2 v4)) (live := [0, 1, 2, 3, 4, 5]) (tv := fun _ => [some (Value.int .u8 a1), some (vi a2), some (vp 0 0), some (vi (5 : Int)), some (vs 1 0 v2.length v2.length), some (vi (v3 : Int)), some (vp 2 0), some (vi (((v4 + 1) : Nat) : Int))]) (bl := [some (.cells [vi (400 : Int), vs 3 0 23 23, vs 4 0 23 23, vn, vn, vn, vn, vn, vs 5 0 0 1, vn, vn, vn, vn, vn, vn, vn, vn, vn, vn, vn] 48), some (.cells (Zr Zp v2) 30), some (.cells [vi (2 : Int), vi v7] 30), some (.cells [vi (1 : Int), vi (16 : Int), vi (255 : Int), vi (2 : Int), vq, vq, vq, vq, vq, vq, vq, vq, vq, vq, vq, vq, vq, vq, vq, vq, vq, vq, vq, vq, vq, vq, vq, vq, vq, vq, vq, vq, vq, vq, vq, vq, vq, vq, vq, vq, vq, vq, vq, vq, vq, vq, vq, vq, vq, vq, vq, vq, vq, vq, vq, vq, vq, vq, vq, vq, vq, vq, vq, vq, vq, vq, vq, vq, vq, vq, vq, vq, vq, vq, vq, vq, vq, vq, vq, vq, vq, vq, vq, vq, vq, vi (v8 : Int), vi (5 : Int), vq, vi (1 : Int), vq, vq, vq, vq, vq, vq, vq, vq, vq, vq, vq, vq, vq, vq, vq, vq, vq, vq, vq, vq, vq, vq, vq, vq, vq, vq] 38), some (.cells [vq, vq, vi (2 : Int), vq, vi (2 : Int), vq, vi (2 : Int), vq, vi (2 : Int), vq, vi (2 : Int), vq, vi (2 : Int), vq, vi (2 : Int), vq, vi (2 : Int), vq, vi (1 : Int), vq, vi (1 : Int), vq, vi (1 : Int), vq, vi (1 : Int), vq, vi (1 : Int), vq, vi (1 : Int), vq, vi (1 : Int), vq, vi (1 : Int), vq, vq, vq, vi (1 : Int), vq, vi (1 : Int), vq, vi (1 : Int), vq, vi (1 : Int), vq, vi (1 : Int), vi a2] 30), some (.cells [vi (18 : Int)] 3)]) (ob := (Z0 a1 v2 v3 v4 v7 v8)) rfl (show 2 ∈ Zl (Zh 2) from by decide +kernel) (fun gv => by kernel_rfl) (ZA a1 v2 v3 v4 v7 v8 g0 g1 g2 g3 g4 g5 g6 g7 g8 g9 g10 g11 g12 g13 g14 g15 g16 g17) rfl (by decide) (by rfl) (fun _ => ⟨rr, ⟨rr, ⟨rr, ⟨rr, ⟨rr, ⟨rr, ⟨rr, ⟨rr, trivial⟩⟩⟩⟩⟩⟩⟩⟩) ⟨⟨rfl, ⟨[], by rfl⟩, by rfl⟩, ⟨(Zu (E := Zp) (α := R_ii) _ v2 _), ⟨⟨rfl, ⟨[], by rfl⟩, by rfl⟩, ⟨⟨rfl, ⟨[], by rfl⟩, by rfl⟩, ⟨⟨rfl, ⟨[], by rfl⟩, by rfl⟩, ⟨⟨rfl, ⟨[], by rfl⟩, by rfl⟩, trivial⟩⟩⟩⟩⟩⟩
                  ·
                   exact Mach.ok_none
                 ·
                  exact Mach.ok_none
                ·
                 exact Mach.ok_none
               ·
                exact Mach.ok_none
              ·
               exact Mach.ok_none
             ·
              exact Mach.ok_none
            ·
             exact Mach.ok_none
           ·
            exact Mach.ok_none
         ·
          exact Mach.ok_next (M := Zd a0 a1 a2 N) (cd := 1000000) (cm := 0) (y := (.h1m20 ((v2 ++ ([(⟨(2 : Int), v7⟩ : R_ii)] : List R_ii))) ((v3 + 1)) (v8) : Zb)) (fu := 4000) (orc := (ZB v2 v3 v7)) (live := [0, 26, 3, 4, 5]) (tv := fun _ => [some (Value.int .u8 a1), some (vi a2), some (vp 0 0), some (vi (5 : Int)), some (vs 26 0 (v2.length + 1) (v2.length + 1)), some (vi (((v3 + 1) : Nat) : Int))]) (bl := [some (.cells [vi (400 : Int), vs 3 0 23 23, vs 4 0 23 23, vn, vn, vn, vn, vn, vs 5 0 1 1, vn, vn, vn, vn, vn, vn, vn, vn, vn, vn, vn] 48), some (.cells (Zr Zp (v2 ++ ([(⟨(2 : Int), v7⟩ : R_ii)] : List R_ii))) 30), some (.cells [vi (1 : Int), vi (16 : Int), vi (255 : Int), vi (2 : Int), vq, vq, vq, vq, vq, vq, vq, vq, vq, vq, vq, vq, vq, vq, vq, vq, vq, vq, vq, vq, vq, vq, vq, vq, vq, vq, vq, vq, vq, vq, vq, vq, vq, vq, vq, vq, vq, vq, vq, vq, vq, vq, vq, vq, vq, vq, vq, vq, vq, vq, vq, vq, vq, vq, vq, vq, vq, vq, vq, vq, vq, vq, vq, vq, vq, vq, vq, vq, vq, vq, vq, vq, vq, vq, vq, vq, vq, vq, vq, vq, vq, vi (v8 : Int), vi (5 : Int), vq, vq, vq, vq, vq, vq, vq, vq, vq, vq, vq, vq, vq, vq, vq, vq, vq, vq, vq, vq, vq, vq, vq, vq, vq, vq, vq, vq] 38), some (.cells [vq, vq, vi (2 : Int), vq, vi (2 : Int), vq, vi (2 : Int), vq, vi (2 : Int), vq, vi (2 : Int), vq, vi (2 : Int), vq, vi (2 : Int), vq, vi (2 : Int), vq, vi (1 : Int), vq, vi (1 : Int), vq, vi (1 : Int), vq, vi (1 : Int), vq, vi (1 : Int), vq, vi (1 : Int), vq, vi (1 : Int), vq, vi (1 : Int), vq, vq, vq, vi (1 : Int), vq, vi (1 : Int), vq, vi (1 : Int), vq, vi (1 : Int), vq, vi (1 : Int), vi a2] 30), some (.cells [vi (18 : Int)] 3)]) (ob := (Z1 a1 a2 v2 v3 v4 v7 v8)) rfl (show 1 ∈ Zl (Zh 2) from by decide +kernel) (fun gv => by kernel_rfl) (ZC a1 a2 v2 v3 v4 v7 v8 g0 g1 g2 g3 g4 g5 g6 g7 g8) rfl (by decide) (by rfl) (fun _ => ⟨rr, ⟨rr, ⟨rr, ⟨rr, ⟨⟨Eq.trans (show (vs 1 0 (v2 ++ ([(⟨(2 : Int), v7⟩ : R_ii)] : List R_ii)).length (v2 ++ ([(⟨(2 : Int), v7⟩ : R_ii)] : List R_ii)).length : Value) = vs 1 0 (v2.length + 1) (v2.length + 1) from (ZF rfl eqA eqA)) (by rfl), by rfl⟩, ⟨rr, trivial⟩⟩⟩⟩⟩⟩) ⟨⟨rfl, ⟨[], by rfl⟩, by rfl⟩, ⟨(Zu (E := Zp) (α := R_ii) _ (v2 ++ ([(⟨(2 : Int), v7⟩ : R_ii)] : List R_ii)) _), ⟨⟨rfl, ⟨[], by rfl⟩, by rfl⟩, ⟨⟨rfl, ⟨[], by rfl⟩, by rfl⟩, ⟨⟨rfl, ⟨[], by rfl⟩, by rfl⟩, trivial⟩⟩⟩⟩⟩
        ·
         exact Mach.ok_none
       ·
        exact Mach.ok_none
      ·
       exact Mach.ok_none
     ·
      exact Mach.ok_none
    ·
     exact Mach.ok_none
   ·
    exact Mach.ok_none
  ·
   exact Mach.ok_none
 ·
  exact Mach.ok_none

theorem Ze6 (a0 a1 a2 : Int) (v2 : List R_ii) (v3 v4 : Nat) (v7 : Int) (v8 N : Nat) : (Zd a0 a1 a2 N).Ok Try.prog Zk (.h2m21 v2 v3 v4 v7 v8 : Zb) (Zf a0 a1 a2 N (.h2m21 v2 v3 v4 v7 v8 : Zb)) := by
 show (Zd a0 a1 a2 N).Ok Try.prog Zk (.h2m21 v2 v3 v4 v7 v8 : Zb) (Zap a0 a1 a2 N v2 v3 v4 v7 v8)
 unfold Zap
 refine Mach.ok_ite (fun g0 => ?_) (fun g0 => ?_)
 ·
  refine Mach.ok_ite (fun g1 => ?_) (fun g1 => ?_)
  ·
   refine Mach.ok_ite (fun g2 => ?_) (fun g2 => ?_)
   ·
    refine Mach.ok_ite (fun g3 => ?_) (fun g3 => ?_)
    ·
     refine Mach.ok_ite (fun g4 => ?_) (fun g4 => ?_)
     ·
      refine Mach.ok_ite (fun g5 => ?_) (fun g5 => ?_)
      ·
       refine Mach.ok_ite (fun g6 => ?_) (fun g6 => ?_)
       ·
        refine Mach.ok_ite (fun g7 => ?_) (fun g7 => ?_)
        ·
         refine Mach.ok_ite (fun g8 => ?_) (fun g8 => ?_)
         ·
          refine Mach.ok_ite (fun g9 => ?_) (fun g9 => ?_)
          ·
           exact Mach.ok_none
          ·
           refine Mach.ok_ite (fun g10 => ?_) (fun g10 => ?_)
           ·
            refine Mach.ok_ite (fun g11 => ?_) (fun g11 => ?_)
            ·
             refine Mach.ok_ite (fun g12 => ?_) (fun g12 => ?_)
             ·
              refine Mach.ok_ite (fun g13 => ?_) (fun g13 => ?_)
              ·
               refine Mach.ok_ite (fun g14 => ?_) (fun g14 => ?_)
               ·
                refine Mach.ok_ite (fun g15 => ?_) (fun g15 => ?_)
                ·
                 refine Mach.ok_ite (fun g16 => ?_) (fun g16 => ?_)
                 ·
                  refine Mach.ok_ite (fun g17 => ?_) (fun g17 => ?_)
                  ·
                   exact Mach.ok_next (M := Zd a0 a1 a2 N) (cd := 1000000) (cm := 0) (y := (.h2m21 (v2) (v3) ((v4 + 1)) (v7) (v8) : Zb)) (fu := 4000) (orc := (Z9 v2 v4)) (live := [0, 1, 2, 3, 4, 5]) (tv := fun _ => [some (Value.int .u8 a1), some (vi a2), some (vp 0 0), some (vi (6 : Int)), some (vs 1 0 v2.length v2.length), some (vi (v3 : Int)), some (vp 2 0), some (vi (((v4 + 1) : Nat) : Int))]) (bl := [some (.cells [vi (400 : Int), vs 3 0 24 24, vs 4 0 24 24, vn, vn, vn, vn, vn, vn, vs 5 0 0 1, vn, vn, vn, vn, vn, vn, vn, vn, vn, vn] 48), some (.cells (Zr Zp v2) 30), some (.cells [vi (2 : Int), vi v7] 30), some (.cells [vi (1 : Int), vi (16 : Int), vi (255 : Int), vi (2 : Int), vq, vq, vq, vq, vq, vq, vq, vq, vq, vq, vq, vq, vq, vq, vq, vq, vq, vq, vq, vq, vq, vq, vq, vq, vq, vq, vq, vq, vq, vq, vq, vq, vq, vq, vq, vq, vq, vq, vq, vq, vq, vq, vq, vq, vq, vq, vq, vq, vq, vq, vq, vq, vq, vq, vq, vq, vq, vq, vq, vq, vq, vq, vq, vq, vq, vq, vq, vq, vq, vq, vq, vq, vq, vq, vq, vq, vq, vq, vq, vq, vq, vi (v8 : Int), vi (6 : Int), vq, vi (1 : Int), vq, vq, vq, vq, vq, vq, vq, vq, vq, vq, vq, vq, vq, vq, vq, vq, vq, vq, vq, vq, vq, vq, vq, vq, vq, vq, vq, vq, vq, vq, vq] 38), some (.cells [vq, vq, vi (2 : Int), vq, vi (2 : Int), vq, vi (2 : Int), vq, vi (2 : Int), vq, vi (2 : Int), vq, vi (2 : Int), vq, vi (2 : Int), vq, vi (2 : Int), vq, vi (1 : Int), vq, vi (1 : Int), vq, vi (1 : Int), vq, vi (1 : Int), vq, vi (1 : Int), vq, vi (1 : Int), vq, vi (1 : Int), vq, vi (1 : Int), vq, vq, vq, vi (1 : Int), vq, vi (1 : Int), vq, vi (1 : Int), vq, vi (1 : Int), vq, vi (1 : Int), vq, vi (1 : Int), vi a2] 30), some (.cells [vi (18 : Int)] 3)]) (ob := (Z0 a1 v2 v3 v4 v7 v8)) rfl (show 2 ∈ Zl (Zh 2) from by decide +kernel) (fun gv => by kernel_rfl) (ZA a1 v2 v3 v4 v7 v8 g0 g1 g2 g3 g4 g5 g6 g7 g8 g9 g10 g11 g12 g13 g14 g15 g16 g17) rfl (by decide) (by rfl) (fun _ => ⟨rr, ⟨rr, ⟨rr, ⟨rr, ⟨rr, ⟨rr, ⟨rr, ⟨rr, trivial⟩⟩⟩⟩⟩⟩⟩⟩) ⟨⟨rfl, ⟨[], by rfl⟩, by rfl⟩, ⟨(Zu (E := Zp) (α := R_ii) _ v2 _), ⟨⟨rfl, ⟨[], by rfl⟩, by rfl⟩, ⟨⟨rfl, ⟨[], by rfl⟩, by rfl⟩, ⟨⟨rfl, ⟨[], by rfl⟩, by rfl⟩, ⟨⟨rfl, ⟨[], by rfl⟩, by rfl⟩, trivial⟩⟩⟩⟩⟩⟩
                  ·
                   exact Mach.ok_none
                 ·
                  exact Mach.ok_none
                ·
                 exact Mach.ok_none
               ·
                exact Mach.ok_none
              ·
               exact Mach.ok_none
             ·
              exact Mach.ok_none
            ·
             exact Mach.ok_none
           ·
            exact Mach.ok_none
         ·
          exact Mach.ok_next (M := Zd a0 a1 a2 N) (cd := 1000000) (cm := 0) (y := (.h1m21 ((v2 ++ ([(⟨(2 : Int), v7⟩ : R_ii)] : List R_ii))) ((v3 + 1)) (v8) : Zb)) (fu := 4000) (orc := (ZB v2 v3 v7)) (live := [0, 26, 3, 4, 5]) (tv := fun _ => [some (Value.int .u8 a1), some (vi a2), some (vp 0 0), some (vi (6 : Int)), some (vs 26 0 (v2.length + 1) (v2.length + 1)), some (vi (((v3 + 1) : Nat) : Int))]) (bl := [some (.cells [vi (400 : Int), vs 3 0 24 24, vs 4 0 24 24, vn, vn, vn, vn, vn, vn, vs 5 0 1 1, vn, vn, vn, vn, vn, vn, vn, vn, vn, vn] 48), some (.cells (Zr Zp (v2 ++ ([(⟨(2 : Int), v7⟩ : R_ii)] : List R_ii))) 30), some (.cells [vi (1 : Int), vi (16 : Int), vi (255 : Int), vi (2 : Int), vq, vq, vq, vq, vq, vq, vq, vq, vq, vq, vq, vq, vq, vq, vq, vq, vq, vq, vq, vq, vq, vq, vq, vq, vq, vq, vq, vq, vq, vq, vq, vq, vq, vq, vq, vq, vq, vq, vq, vq, vq, vq, vq, vq, vq, vq, vq, vq, vq, vq, vq, vq, vq, vq, vq, vq, vq, vq, vq, vq, vq, vq, vq, vq, vq, vq, vq, vq, vq, vq, vq, vq, vq, vq, vq, vq, vq, vq, vq, vq, vq, vi (v8 : Int), vi (6 : Int), vq, vq, vq, vq, vq, vq, vq, vq, vq, vq, vq, vq, vq, vq, vq, vq, vq, vq, vq, vq, vq, vq, vq, vq, vq, vq, vq, vq, vq, vq, vq, vq, vq] 38), some (.cells [vq, vq, vi (2 : Int), vq, vi (2 : Int), vq, vi (2 : Int), vq, vi (2 : Int), vq, vi (2 : Int), vq, vi (2 : Int), vq, vi (2 : Int), vq, vi (2 : Int), vq, vi (1 : Int), vq, vi (1 : Int), vq, vi (1 : Int), vq, vi (1 : Int), vq, vi (1 : Int), vq, vi (1 : Int), vq, vi (1 : Int), vq, vi (1 : Int), vq, vq, vq, vi (1 : Int), vq, vi (1 : Int), vq, vi (1 : Int), vq, vi (1 : Int), vq, vi (1 : Int), vq, vi (1 : Int), vi a2] 30), some (.cells [vi (18 : Int)] 3)]) (ob := (Z1 a1 a2 v2 v3 v4 v7 v8)) rfl (show 1 ∈ Zl (Zh 2) from by decide +kernel) (fun gv => by kernel_rfl) (ZC a1 a2 v2 v3 v4 v7 v8 g0 g1 g2 g3 g4 g5 g6 g7 g8) rfl (by decide) (by rfl) (fun _ => ⟨rr, ⟨rr, ⟨rr, ⟨rr, ⟨⟨Eq.trans (show (vs 1 0 (v2 ++ ([(⟨(2 : Int), v7⟩ : R_ii)] : List R_ii)).length (v2 ++ ([(⟨(2 : Int), v7⟩ : R_ii)] : List R_ii)).length : Value) = vs 1 0 (v2.length + 1) (v2.length + 1) from (ZF rfl eqA eqA)) (by rfl), by rfl⟩, ⟨rr, trivial⟩⟩⟩⟩⟩⟩) ⟨⟨rfl, ⟨[], by rfl⟩, by rfl⟩, ⟨(Zu (E := Zp) (α := R_ii) _ (v2 ++ ([(⟨(2 : Int), v7⟩ : R_ii)] : List R_ii)) _), ⟨⟨rfl, ⟨[], by rfl⟩, by rfl⟩, ⟨⟨rfl, ⟨[], by rfl⟩, by rfl⟩, ⟨⟨rfl, ⟨[], by rfl⟩, by rfl⟩, trivial⟩⟩⟩⟩⟩
        ·
         exact Mach.ok_none
       ·
        exact Mach.ok_none
      ·
       exact Mach.ok_none
     ·
      exact Mach.ok_none
    ·
     exact Mach.ok_none
   ·
    exact Mach.ok_none
  ·
   exact Mach.ok_none
 ·
  exact Mach.ok_none

theorem Ze7 (a0 a1 a2 : Int) (v2 : List R_ii) (v3 v4 : Nat) (v7 : Int) (v8 N : Nat) : (Zd a0 a1 a2 N).Ok Try.prog Zk (.h2m22 v2 v3 v4 v7 v8 : Zb) (Zf a0 a1 a2 N (.h2m22 v2 v3 v4 v7 v8 : Zb)) := by
 show (Zd a0 a1 a2 N).Ok Try.prog Zk (.h2m22 v2 v3 v4 v7 v8 : Zb) (Zaq a0 a1 a2 N v2 v3 v4 v7 v8)
 unfold Zaq
 refine Mach.ok_ite (fun g0 => ?_) (fun g0 => ?_)
 ·
  refine Mach.ok_ite (fun g1 => ?_) (fun g1 => ?_)
  ·
   refine Mach.ok_ite (fun g2 => ?_) (fun g2 => ?_)
   ·
    refine Mach.ok_ite (fun g3 => ?_) (fun g3 => ?_)
    ·
     refine Mach.ok_ite (fun g4 => ?_) (fun g4 => ?_)
     ·
      refine Mach.ok_ite (fun g5 => ?_) (fun g5 => ?_)
      ·
       refine Mach.ok_ite (fun g6 => ?_) (fun g6 => ?_)
       ·
        refine Mach.ok_ite (fun g7 => ?_) (fun g7 => ?_)
        ·
         refine Mach.ok_ite (fun g8 => ?_) (fun g8 => ?_)
         ·
          refine Mach.ok_ite (fun g9 => ?_) (fun g9 => ?_)
          ·
           exact Mach.ok_none
          ·
           refine Mach.ok_ite (fun g10 => ?_) (fun g10 => ?_)
           ·
            refine Mach.ok_ite (fun g11 => ?_) (fun g11 => ?_)
            ·
             refine Mach.ok_ite (fun g12 => ?_) (fun g12 => ?_)
             ·
              refine Mach.ok_ite (fun g13 => ?_) (fun g13 => ?_)
              ·
               refine Mach.ok_ite (fun g14 => ?_) (fun g14 => ?_)
               ·
                refine Mach.ok_ite (fun g15 => ?_) (fun g15 => ?_)
                ·
                 refine Mach.ok_ite (fun g16 => ?_) (fun g16 => ?_)
                 ·
                  refine Mach.ok_ite (fun g17 => ?_) (fun g17 => ?_)
                  ·
                   exact Mach.ok_next (M := Zd a0 a1 a2 N) (cd := 1000000) (cm := 0) (y := (.h2m22 (v2) (v3) ((v4 + 1)) (v7) (v8) : Zb)) (fu := 4000) (orc := (Z9 v2 v4)) (live := [0, 1, 2, 3, 4, 5]) (tv := fun _ => [some (Value.int .u8 a1), some (vi a2), some (vp 0 0), some (vi (7 : Int)), some (vs 1 0 v2.length v2.length), some (vi (v3 : Int)), some (vp 2 0), some (vi (((v4 + 1) : Nat) : Int))]) (bl := [some (.cells [vi (400 : Int), vs 3 0 25 25, vs 4 0 25 25, vn, vn, vn, vn, vn, vn, vn, vs 5 0 0 1, vn, vn, vn, vn, vn, vn, vn, vn, vn] 48), some (.cells (Zr Zp v2) 30), some (.cells [vi (2 : Int), vi v7] 30), some (.cells [vi (1 : Int), vi (16 : Int), vi (255 : Int), vi (2 : Int), vq, vq, vq, vq, vq, vq, vq, vq, vq, vq, vq, vq, vq, vq, vq, vq, vq, vq, vq, vq, vq, vq, vq, vq, vq, vq, vq, vq, vq, vq, vq, vq, vq, vq, vq, vq, vq, vq, vq, vq, vq, vq, vq, vq, vq, vq, vq, vq, vq, vq, vq, vq, vq, vq, vq, vq, vq, vq, vq, vq, vq, vq, vq, vq, vq, vq, vq, vq, vq, vq, vq, vq, vq, vq, vq, vq, vq, vq, vq, vq, vq, vi (v8 : Int), vi (7 : Int), vq, vi (1 : Int), vq, vq, vq, vq, vq, vq, vq, vq, vq, vq, vq, vq, vq, vq, vq, vq, vq, vq, vq, vq, vq, vq, vq, vq, vq, vq, vq, vq, vq, vq, vq, vq, vq, vq, vq, vq] 38), some (.cells [vq, vq, vi (2 : Int), vq, vi (2 : Int), vq, vi (2 : Int), vq, vi (2 : Int), vq, vi (2 : Int), vq, vi (2 : Int), vq, vi (2 : Int), vq, vi (2 : Int), vq, vi (1 : Int), vq, vi (1 : Int), vq, vi (1 : Int), vq, vi (1 : Int), vq, vi (1 : Int), vq, vi (1 : Int), vq, vi (1 : Int), vq, vi (1 : Int), vq, vq, vq, vi (1 : Int), vq, vi (1 : Int), vq, vi (1 : Int), vq, vi (1 : Int), vq, vi (1 : Int), vq, vi (1 : Int), vq, vi (1 : Int), vi a2] 30), some (.cells [vi (18 : Int)] 3)]) (ob := (Z0 a1 v2 v3 v4 v7 v8)) rfl (show 2 ∈ Zl (Zh 2) from by decide +kernel) (fun gv => by kernel_rfl) (ZA a1 v2 v3 v4 v7 v8 g0 g1 g2 g3 g4 g5 g6 g7 g8 g9 g10 g11 g12 g13 g14 g15 g16 g17) rfl (by decide) (by rfl) (fun _ => ⟨rr, ⟨rr, ⟨rr, ⟨rr, ⟨rr, ⟨rr, ⟨rr, ⟨rr, trivial⟩⟩⟩⟩⟩⟩⟩⟩) ⟨⟨rfl, ⟨[], by rfl⟩, by rfl⟩, ⟨(Zu (E := Zp) (α := R_ii) _ v2 _), ⟨⟨rfl, ⟨[], by rfl⟩, by rfl⟩, ⟨⟨rfl, ⟨[], by rfl⟩, by rfl⟩, ⟨⟨rfl, ⟨[], by rfl⟩, by rfl⟩, ⟨⟨rfl, ⟨[], by rfl⟩, by rfl⟩, trivial⟩⟩⟩⟩⟩⟩
                  ·
                   exact Mach.ok_none
                 ·
                  exact Mach.ok_none
                ·
                 exact Mach.ok_none
               ·
                exact Mach.ok_none
              ·
               exact Mach.ok_none
             ·
              exact Mach.ok_none
            ·
             exact Mach.ok_none
           ·
            exact Mach.ok_none
         ·
          exact Mach.ok_next (M := Zd a0 a1 a2 N) (cd := 1000000) (cm := 0) (y := (.h1m22 ((v2 ++ ([(⟨(2 : Int), v7⟩ : R_ii)] : List R_ii))) ((v3 + 1)) (v8) : Zb)) (fu := 4000) (orc := (ZB v2 v3 v7)) (live := [0, 26, 3, 4, 5]) (tv := fun _ => [some (Value.int .u8 a1), some (vi a2), some (vp 0 0), some (vi (7 : Int)), some (vs 26 0 (v2.length + 1) (v2.length + 1)), some (vi (((v3 + 1) : Nat) : Int))]) (bl := [some (.cells [vi (400 : Int), vs 3 0 25 25, vs 4 0 25 25, vn, vn, vn, vn, vn, vn, vn, vs 5 0 1 1, vn, vn, vn, vn, vn, vn, vn, vn, vn] 48), some (.cells (Zr Zp (v2 ++ ([(⟨(2 : Int), v7⟩ : R_ii)] : List R_ii))) 30), some (.cells [vi (1 : Int), vi (16 : Int), vi (255 : Int), vi (2 : Int), vq, vq, vq, vq, vq, vq, vq, vq, vq, vq, vq, vq, vq, vq, vq, vq, vq, vq, vq, vq, vq, vq, vq, vq, vq, vq, vq, vq, vq, vq, vq, vq, vq, vq, vq, vq, vq, vq, vq, vq, vq, vq, vq, vq, vq, vq, vq, vq, vq, vq, vq, vq, vq, vq, vq, vq, vq, vq, vq, vq, vq, vq, vq, vq, vq, vq, vq, vq, vq, vq, vq, vq, vq, vq, vq, vq, vq, vq, vq, vq, vq, vi (v8 : Int), vi (7 : Int), vq, vq, vq, vq, vq, vq, vq, vq, vq, vq, vq, vq, vq, vq, vq, vq, vq, vq, vq, vq, vq, vq, vq, vq, vq, vq, vq, vq, vq, vq, vq, vq, vq, vq, vq, vq, vq, vq] 38), some (.cells [vq, vq, vi (2 : Int), vq, vi (2 : Int), vq, vi (2 : Int), vq, vi (2 : Int), vq, vi (2 : Int), vq, vi (2 : Int), vq, vi (2 : Int), vq, vi (2 : Int), vq, vi (1 : Int), vq, vi (1 : Int), vq, vi (1 : Int), vq, vi (1 : Int), vq, vi (1 : Int), vq, vi (1 : Int), vq, vi (1 : Int), vq, vi (1 : Int), vq, vq, vq, vi (1 : Int), vq, vi (1 : Int), vq, vi (1 : Int), vq, vi (1 : Int), vq, vi (1 : Int), vq, vi (1 : Int), vq, vi (1 : Int), vi a2] 30), some (.cells [vi (18 : Int)] 3)]) (ob := (Z1 a1 a2 v2 v3 v4 v7 v8)) rfl (show 1 ∈ Zl (Zh 2) from by decide +kernel) (fun gv => by kernel_rfl) (ZC a1 a2 v2 v3 v4 v7 v8 g0 g1 g2 g3 g4 g5 g6 g7 g8) rfl (by decide) (by rfl) (fun _ => ⟨rr, ⟨rr, ⟨rr, ⟨rr, ⟨⟨Eq.trans (show (vs 1 0 (v2 ++ ([(⟨(2 : Int), v7⟩ : R_ii)] : List R_ii)).length (v2 ++ ([(⟨(2 : Int), v7⟩ : R_ii)] : List R_ii)).length : Value) = vs 1 0 (v2.length + 1) (v2.length + 1) from (ZF rfl eqA eqA)) (by rfl), by rfl⟩, ⟨rr, trivial⟩⟩⟩⟩⟩⟩) ⟨⟨rfl, ⟨[], by rfl⟩, by rfl⟩, ⟨(Zu (E := Zp) (α := R_ii) _ (v2 ++ ([(⟨(2 : Int), v7⟩ : R_ii)] : List R_ii)) _), ⟨⟨rfl, ⟨[], by rfl⟩, by rfl⟩, ⟨⟨rfl, ⟨[], by rfl⟩, by rfl⟩, ⟨⟨rfl, ⟨[], by rfl⟩, by rfl⟩, trivial⟩⟩⟩⟩⟩
        ·
         exact Mach.ok_none
       ·
        exact Mach.ok_none
      ·
       exact Mach.ok_none
     ·
      exact Mach.ok_none
    ·
     exact Mach.ok_none
   ·
    exact Mach.ok_none
  ·
   exact Mach.ok_none
 ·
  exact Mach.ok_none

theorem Ze8 (a0 a1 a2 : Int) (v2 : List R_ii) (v3 v4 : Nat) (v7 : Int) (v8 N : Nat) : (Zd a0 a1 a2 N).Ok Try.prog Zk (.h2m23 v2 v3 v4 v7 v8 : Zb) (Zf a0 a1 a2 N (.h2m23 v2 v3 v4 v7 v8 : Zb)) := by
 show (Zd a0 a1 a2 N).Ok Try.prog Zk (.h2m23 v2 v3 v4 v7 v8 : Zb) (Zar a0 a1 a2 N v2 v3 v4 v7 v8)
 unfold Zar
 refine Mach.ok_ite (fun g0 => ?_) (fun g0 => ?_)
 ·
  refine Mach.ok_ite (fun g1 => ?_) (fun g1 => ?_)
  ·
   refine Mach.ok_ite (fun g2 => ?_) (fun g2 => ?_)
   ·
    refine Mach.ok_ite (fun g3 => ?_) (fun g3 => ?_)
    ·
     refine Mach.ok_ite (fun g4 => ?_) (fun g4 => ?_)
     ·
      refine Mach.ok_ite (fun g5 => ?_) (fun g5 => ?_)
      ·
       refine Mach.ok_ite (fun g6 => ?_) (fun g6 => ?_)
       ·
        refine Mach.ok_ite (fun g7 => ?_) (fun g7 => ?_)
        ·
         refine Mach.ok_ite (fun g8 => ?_) (fun g8 => ?_)
         ·
          refine Mach.ok_ite (fun g9 => ?_) (fun g9 => ?_)
          ·
           exact Mach.ok_none
          ·
           refine Mach.ok_ite (fun g10 => ?_) (fun g10 => ?_)
           ·
            refine Mach.ok_ite (fun g11 => ?_) (fun g11 => ?_)
            ·
             refine Mach.ok_ite (fun g12 => ?_) (fun g12 => ?_)
             ·
              refine Mach.ok_ite (fun g13 => ?_) (fun g13 => ?_)
              ·
               refine Mach.ok_ite (fun g14 => ?_) (fun g14 => ?_)
               ·
                refine Mach.ok_ite (fun g15 => ?_) (fun g15 => ?_)
                ·
                 refine Mach.ok_ite (fun g16 => ?_) (fun g16 => ?_)
                 ·
                  refine Mach.ok_ite (fun g17 => ?_) (fun g17 => ?_)
                  ·
                   exact Mach.ok_next (M := Zd a0 a1 a2 N) (cd := 1000000) (cm := 0) (y := (.h2m23 (v2) (v3) ((v4 + 1)) (v7) (v8) : Zb)) (fu := 4000) (orc := (Z9 v2 v4)) (live := [0, 1, 2, 3, 4, 5]) (tv := fun _ => [some (Value.int .u8 a1), some (vi a2), some (vp 0 0), some (vi (8 : Int)), some (vs 1 0 v2.length v2.length), some (vi (v3 : Int)), some (vp 2 0), some (vi (((v4 + 1) : Nat) : Int))]) (bl := [some (.cells [vi (400 : Int), vs 3 0 26 26, vs 4 0 26 26, vn, vn, vn, vn, vn, vn, vn, vn, vs 5 0 0 1, vn, vn, vn, vn, vn, vn, vn, vn] 48), some (.cells (Zr Zp v2) 30), some (.cells [vi (2 : Int), vi v7] 30), some (.cells [vi (1 : Int), vi (16 : Int), vi (255 : Int), vi (2 : Int), vq, vq, vq, vq, vq, vq, vq, vq, vq, vq, vq, vq, vq, vq, vq, vq, vq, vq, vq, vq, vq, vq, vq, vq, vq, vq, vq, vq, vq, vq, vq, vq, vq, vq, vq, vq, vq, vq, vq, vq, vq, vq, vq, vq, vq, vq, vq, vq, vq, vq, vq, vq, vq, vq, vq, vq, vq, vq, vq, vq, vq, vq, vq, vq, vq, vq, vq, vq, vq, vq, vq, vq, vq, vq, vq, vq, vq, vq, vq, vq, vq, vi (v8 : Int), vi (8 : Int), vq, vi (1 : Int), vq, vq, vq, vq, vq, vq, vq, vq, vq, vq, vq, vq, vq, vq, vq, vq, vq, vq, vq, vq, vq, vq, vq, vq, vq, vq, vq, vq, vq, vq, vq, vq, vq, vq, vq, vq, vq, vq, vq, vq, vq] 38), some (.cells [vq, vq, vi (2 : Int), vq, vi (2 : Int), vq, vi (2 : Int), vq, vi (2 : Int), vq, vi (2 : Int), vq, vi (2 : Int), vq, vi (2 : Int), vq, vi (2 : Int), vq, vi (1 : Int), vq, vi (1 : Int), vq, vi (1 : Int), vq, vi (1 : Int), vq, vi (1 : Int), vq, vi (1 : Int), vq, vi (1 : Int), vq, vi (1 : Int), vq, vq, vq, vi (1 : Int), vq, vi (1 : Int), vq, vi (1 : Int), vq, vi (1 : Int), vq, vi (1 : Int), vq, vi (1 : Int), vq, vi (1 : Int), vq, vi (1 : Int), vi a2] 30), some (.cells [vi (18 : Int)] 3)]) (ob := (Z0 a1 v2 v3 v4 v7 v8)) rfl (show 2 ∈ Zl (Zh 2) from by decide +kernel) (fun gv => by kernel_rfl) (ZA a1 v2 v3 v4 v7 v8 g0 g1 g2 g3 g4 g5 g6 g7 g8 g9 g10 g11 g12 g13 g14 g15 g16 g17) rfl (by decide) (by rfl) (fun _ => ⟨rr, ⟨rr, ⟨rr, ⟨rr, ⟨rr, ⟨rr, ⟨rr, ⟨rr, trivial⟩⟩⟩⟩⟩⟩⟩⟩) ⟨⟨rfl, ⟨[], by rfl⟩, by rfl⟩, ⟨(Zu (E := Zp) (α := R_ii) _ v2 _), ⟨⟨rfl, ⟨[], by rfl⟩, by rfl⟩, ⟨⟨rfl, ⟨[], by rfl⟩, by rfl⟩, ⟨⟨rfl, ⟨[], by rfl⟩, by rfl⟩, ⟨⟨rfl, ⟨[], by rfl⟩, by rfl⟩, trivial⟩⟩⟩⟩⟩⟩
                  ·
                   exact Mach.ok_none
                 ·
                  exact Mach.ok_none
                ·
                 exact Mach.ok_none
               ·
                exact Mach.ok_none
              ·
               exact Mach.ok_none
             ·
              exact Mach.ok_none
            ·
             exact Mach.ok_none
           ·
            exact Mach.ok_none
         ·
          exact Mach.ok_next (M := Zd a0 a1 a2 N) (cd := 1000000) (cm := 0) (y := (.h1m23 ((v2 ++ ([(⟨(2 : Int), v7⟩ : R_ii)] : List R_ii))) ((v3 + 1)) (v8) : Zb)) (fu := 4000) (orc := (ZB v2 v3 v7)) (live := [0, 26, 3, 4, 5]) (tv := fun _ => [some (Value.int .u8 a1), some (vi a2), some (vp 0 0), some (vi (8 : Int)), some (vs 26 0 (v2.length + 1) (v2.length + 1)), some (vi (((v3 + 1) : Nat) : Int))]) (bl := [some (.cells [vi (400 : Int), vs 3 0 26 26, vs 4 0 26 26, vn, vn, vn, vn, vn, vn, vn, vn, vs 5 0 1 1, vn, vn, vn, vn, vn, vn, vn, vn] 48), some (.cells (Zr Zp (v2 ++ ([(⟨(2 : Int), v7⟩ : R_ii)] : List R_ii))) 30), some (.cells [vi (1 : Int), vi (16 : Int), vi (255 : Int), vi (2 : Int), vq, vq, vq, vq, vq, vq, vq, vq, vq, vq, vq, vq, vq, vq, vq, vq, vq, vq, vq, vq, vq, vq, vq, vq, vq, vq, vq, vq, vq, vq, vq, vq, vq, vq, vq, vq, vq, vq, vq, vq, vq, vq, vq, vq, vq, vq, vq, vq, vq, vq, vq, vq, vq, vq, vq, vq, vq, vq, vq, vq, vq, vq, vq, vq, vq, vq, vq, vq, vq, vq, vq, vq, vq, vq, vq, vq, vq, vq, vq, vq, vq, vi (v8 : Int), vi (8 : Int), vq, vq, vq, vq, vq, vq, vq, vq, vq, vq, vq, vq, vq, vq, vq, vq, vq, vq, vq, vq, vq, vq, vq, vq, vq, vq, vq, vq, vq, vq, vq, vq, vq, vq, vq, vq, vq, vq, vq, vq, vq, vq, vq] 38), some (.cells [vq, vq, vi (2 : Int), vq, vi (2 : Int), vq, vi (2 : Int), vq, vi (2 : Int), vq, vi (2 : Int), vq, vi (2 : Int), vq, vi (2 : Int), vq, vi (2 : Int), vq, vi (1 : Int), vq, vi (1 : Int), vq, vi (1 : Int), vq, vi (1 : Int), vq, vi (1 : Int), vq, vi (1 : Int), vq, vi (1 : Int), vq, vi (1 : Int), vq, vq, vq, vi (1 : Int), vq, vi (1 : Int), vq, vi (1 : Int), vq, vi (1 : Int), vq, vi (1 : Int), vq, vi (1 : Int), vq, vi (1 : Int), vq, vi (1 : Int), vi a2] 30), some (.cells [vi (18 : Int)] 3)]) (ob := (Z1 a1 a2 v2 v3 v4 v7 v8)) rfl (show 1 ∈ Zl (Zh 2) from by decide +kernel) (fun gv => by kernel_rfl) (ZC a1 a2 v2 v3 v4 v7 v8 g0 g1 g2 g3 g4 g5 g6 g7 g8) rfl (by decide) (by rfl) (fun _ => ⟨rr, ⟨rr, ⟨rr, ⟨rr, ⟨⟨Eq.trans (show (vs 1 0 (v2 ++ ([(⟨(2 : Int), v7⟩ : R_ii)] : List R_ii)).length (v2 ++ ([(⟨(2 : Int), v7⟩ : R_ii)] : List R_ii)).length : Value) = vs 1 0 (v2.length + 1) (v2.length + 1) from (ZF rfl eqA eqA)) (by rfl), by rfl⟩, ⟨rr, trivial⟩⟩⟩⟩⟩⟩) ⟨⟨rfl, ⟨[], by rfl⟩, by rfl⟩, ⟨(Zu (E := Zp) (α := R_ii) _ (v2 ++ ([(⟨(2 : Int), v7⟩ : R_ii)] : List R_ii)) _), ⟨⟨rfl, ⟨[], by rfl⟩, by rfl⟩, ⟨⟨rfl, ⟨[], by rfl⟩, by rfl⟩, ⟨⟨rfl, ⟨[], by rfl⟩, by rfl⟩, trivial⟩⟩⟩⟩⟩
        ·
         exact Mach.ok_none
       ·
        exact Mach.ok_none
      ·
       exact Mach.ok_none
     ·
      exact Mach.ok_none
    ·
     exact Mach.ok_none
   ·
    exact Mach.ok_none
  ·
   exact Mach.ok_none
 ·
  exact Mach.ok_none

theorem Ze9 (a0 a1 a2 : Int) (v2 : List R_ii) (v3 v4 : Nat) (v7 : Int) (v8 N : Nat) : (Zd a0 a1 a2 N).Ok Try.prog Zk (.h2m24 v2 v3 v4 v7 v8 : Zb) (Zf a0 a1 a2 N (.h2m24 v2 v3 v4 v7 v8 : Zb)) := by
 show (Zd a0 a1 a2 N).Ok Try.prog Zk (.h2m24 v2 v3 v4 v7 v8 : Zb) (Zas a0 a1 a2 N v2 v3 v4 v7 v8)
 unfold Zas
 refine Mach.ok_ite (fun g0 => ?_) (fun g0 => ?_)
 ·
  refine Mach.ok_ite (fun g1 => ?_) (fun g1 => ?_)
  ·
   refine Mach.ok_ite (fun g2 => ?_) (fun g2 => ?_)
   ·
    refine Mach.ok_ite (fun g3 => ?_) (fun g3 => ?_)
    ·
     refine Mach.ok_ite (fun g4 => ?_) (fun g4 => ?_)
     ·
      refine Mach.ok_ite (fun g5 => ?_) (fun g5 => ?_)
      ·
       refine Mach.ok_ite (fun g6 => ?_) (fun g6 => ?_)
       ·
        refine Mach.ok_ite (fun g7 => ?_) (fun g7 => ?_)
        ·
         refine Mach.ok_ite (fun g8 => ?_) (fun g8 => ?_)
         ·
          refine Mach.ok_ite (fun g9 => ?_) (fun g9 => ?_)
          ·
           exact Mach.ok_none
          ·
           refine Mach.ok_ite (fun g10 => ?_) (fun g10 => ?_)
           ·
            refine Mach.ok_ite (fun g11 => ?_) (fun g11 => ?_)
            ·
             refine Mach.ok_ite (fun g12 => ?_) (fun g12 => ?_)
             ·
              refine Mach.ok_ite (fun g13 => ?_) (fun g13 => ?_)
              ·
               refine Mach.ok_ite (fun g14 => ?_) (fun g14 => ?_)
               ·
                refine Mach.ok_ite (fun g15 => ?_) (fun g15 => ?_)
                ·
                 refine Mach.ok_ite (fun g16 => ?_) (fun g16 => ?_)
                 ·
                  refine Mach.ok_ite (fun g17 => ?_) (fun g17 => ?_)
                  ·
                   exact Mach.ok_next (M := Zd a0 a1 a2 N) (cd := 1000000) (cm := 0) (y := (.h2m24 (v2) (v3) ((v4 + 1)) (v7) (v8) : Zb)) (fu := 4000) (orc := (Z9 v2 v4)) (live := [0, 1, 2, 3, 4, 5]) (tv := fun _ => [some (Value.int .u8 a1), some (vi a2), some (vp 0 0), some (vi (9 : Int)), some (vs 1 0 v2.length v2.length), some (vi (v3 : Int)), some (vp 2 0), some (vi (((v4 + 1) : Nat) : Int))]) (bl := [some (.cells [vi (400 : Int), vs 3 0 27 27, vs 4 0 27 27, vn, vn, vn, vn, vn, vn, vn, vn, vn, vs 5 0 0 1, vn, vn, vn, vn, vn, vn, vn] 48), some (.cells (Zr Zp v2) 30), some (.cells [vi (2 : Int), vi v7] 30), some (.cells [vi (1 : Int), vi (16 : Int), vi (255 : Int), vi (2 : Int), vq, vq, vq, vq, vq, vq, vq, vq, vq, vq, vq, vq, vq, vq, vq, vq, vq, vq, vq, vq, vq, vq, vq, vq, vq, vq, vq, vq, vq, vq, vq, vq, vq, vq, vq, vq, vq, vq, vq, vq, vq, vq, vq, vq, vq, vq, vq, vq, vq, vq, vq, vq, vq, vq, vq, vq, vq, vq, vq, vq, vq, vq, vq, vq, vq, vq, vq, vq, vq, vq, vq, vq, vq, vq, vq, vq, vq, vq, vq, vq, vq, vi (v8 : Int), vi (9 : Int), vq, vi (1 : Int), vq, vq, vq, vq, vq, vq, vq, vq, vq, vq, vq, vq, vq, vq, vq, vq, vq, vq, vq, vq, vq, vq, vq, vq, vq, vq, vq, vq, vq, vq, vq, vq, vq, vq, vq, vq, vq, vq, vq, vq, vq, vq, vq, vq, vq, vq] 38), some (.cells [vq, vq, vi (2 : Int), vq, vi (2 : Int), vq, vi (2 : Int), vq, vi (2 : Int), vq, vi (2 : Int), vq, vi (2 : Int), vq, vi (2 : Int), vq, vi (2 : Int), vq, vi (1 : Int), vq, vi (1 : Int), vq, vi (1 : Int), vq, vi (1 : Int), vq, vi (1 : Int), vq, vi (1 : Int), vq, vi (1 : Int), vq, vi (1 : Int), vq, vq, vq, vi (1 : Int), vq, vi (1 : Int), vq, vi (1 : Int), vq, vi (1 : Int), vq, vi (1 : Int), vq, vi (1 : Int), vq, vi (1 : Int), vq, vi (1 : Int), vq, vi (1 : Int), vi a2] 30), some (.cells [vi (18 : Int)] 3)]) (ob := (Z0 a1 v2 v3 v4 v7 v8)) rfl (show 2 ∈ Zl (Zh 2) from by decide +kernel) (fun gv => by kernel_rfl) (ZA a1 v2 v3 v4 v7 v8 g0 g1 g2 g3 g4 g5 g6 g7 g8 g9 g10 g11 g12 g13 g14 g15 g16 g17) rfl (by decide) (by rfl) (fun _ => ⟨rr, ⟨rr, ⟨rr, ⟨rr, ⟨rr, ⟨rr, ⟨rr, ⟨rr, trivial⟩⟩⟩⟩⟩⟩⟩⟩) ⟨⟨rfl, ⟨[], by rfl⟩, by rfl⟩, ⟨(Zu (E := Zp) (α := R_ii) _ v2 _), ⟨⟨rfl, ⟨[], by rfl⟩, by rfl⟩, ⟨⟨rfl, ⟨[], by rfl⟩, by rfl⟩, ⟨⟨rfl, ⟨[], by rfl⟩, by rfl⟩, ⟨⟨rfl, ⟨[], by rfl⟩, by rfl⟩, trivial⟩⟩⟩⟩⟩⟩
                  ·
                   exact Mach.ok_none
                 ·
                  exact Mach.ok_none
                ·
                 exact Mach.ok_none
               ·
                exact Mach.ok_none
              ·
               exact Mach.ok_none
             ·
              exact Mach.ok_none
            ·
             exact Mach.ok_none
           ·
            exact Mach.ok_none
         ·
          exact Mach.ok_next (M := Zd a0 a1 a2 N) (cd := 1000000) (cm := 0) (y := (.h1m24 ((v2 ++ ([(⟨(2 : Int), v7⟩ : R_ii)] : List R_ii))) ((v3 + 1)) (v8) : Zb)) (fu := 4000) (orc := (ZB v2 v3 v7)) (live := [0, 26, 3, 4, 5]) (tv := fun _ => [some (Value.int .u8 a1), some (vi a2), some (vp 0 0), some (vi (9 : Int)), some (vs 26 0 (v2.length + 1) (v2.length + 1)), some (vi (((v3 + 1) : Nat) : Int))]) (bl := [some (.cells [vi (400 : Int), vs 3 0 27 27, vs 4 0 27 27, vn, vn, vn, vn, vn, vn, vn, vn, vn, vs 5 0 1 1, vn, vn, vn, vn, vn, vn, vn] 48), some (.cells (Zr Zp (v2 ++ ([(⟨(2 : Int), v7⟩ : R_ii)] : List R_ii))) 30), some (.cells [vi (1 : Int), vi (16 : Int), vi (255 : Int), vi (2 : Int), vq, vq, vq, vq, vq, vq, vq, vq, vq, vq, vq, vq, vq, vq, vq, vq, vq, vq, vq, vq, vq, vq, vq, vq, vq, vq, vq, vq, vq, vq, vq, vq, vq, vq, vq, vq, vq, vq, vq, vq, vq, vq, vq, vq, vq, vq, vq, vq, vq, vq, vq, vq, vq, vq, vq, vq, vq, vq, vq, vq, vq, vq, vq, vq, vq, vq, vq, vq, vq, vq, vq, vq, vq, vq, vq, vq, vq, vq, vq, vq, vq, vi (v8 : Int), vi (9 : Int), vq, vq, vq, vq, vq, vq, vq, vq, vq, vq, vq, vq, vq, vq, vq, vq, vq, vq, vq, vq, vq, vq, vq, vq, vq, vq, vq, vq, vq, vq, vq, vq, vq, vq, vq, vq, vq, vq, vq, vq, vq, vq, vq, vq, vq, vq, vq, vq] 38), some (.cells [vq, vq, vi (2 : Int), vq, vi (2 : Int), vq, vi (2 : Int), vq, vi (2 : Int), vq, vi (2 : Int), vq, vi (2 : Int), vq, vi (2 : Int), vq, vi (2 : Int), vq, vi (1 : Int), vq, vi (1 : Int), vq, vi (1 : Int), vq, vi (1 : Int), vq, vi (1 : Int), vq, vi (1 : Int), vq, vi (1 : Int), vq, vi (1 : Int), vq, vq, vq, vi (1 : Int), vq, vi (1 : Int), vq, vi (1 : Int), vq, vi (1 : Int), vq, vi (1 : Int), vq, vi (1 : Int), vq, vi (1 : Int), vq, vi (1 : Int), vq, vi (1 : Int), vi a2] 30), some (.cells [vi (18 : Int)] 3)]) (ob := (Z1 a1 a2 v2 v3 v4 v7 v8)) rfl (show 1 ∈ Zl (Zh 2) from by decide +kernel) (fun gv => by kernel_rfl) (ZC a1 a2 v2 v3 v4 v7 v8 g0 g1 g2 g3 g4 g5 g6 g7 g8) rfl (by decide) (by rfl) (fun _ => ⟨rr, ⟨rr, ⟨rr, ⟨rr, ⟨⟨Eq.trans (show (vs 1 0 (v2 ++ ([(⟨(2 : Int), v7⟩ : R_ii)] : List R_ii)).length (v2 ++ ([(⟨(2 : Int), v7⟩ : R_ii)] : List R_ii)).length : Value) = vs 1 0 (v2.length + 1) (v2.length + 1) from (ZF rfl eqA eqA)) (by rfl), by rfl⟩, ⟨rr, trivial⟩⟩⟩⟩⟩⟩) ⟨⟨rfl, ⟨[], by rfl⟩, by rfl⟩, ⟨(Zu (E := Zp) (α := R_ii) _ (v2 ++ ([(⟨(2 : Int), v7⟩ : R_ii)] : List R_ii)) _), ⟨⟨rfl, ⟨[], by rfl⟩, by rfl⟩, ⟨⟨rfl, ⟨[], by rfl⟩, by rfl⟩, ⟨⟨rfl, ⟨[], by rfl⟩, by rfl⟩, trivial⟩⟩⟩⟩⟩
        ·
         exact Mach.ok_none
       ·
        exact Mach.ok_none
      ·
       exact Mach.ok_none
     ·
      exact Mach.ok_none
    ·
     exact Mach.ok_none
   ·
    exact Mach.ok_none
  ·
   exact Mach.ok_none
 ·
  exact Mach.ok_none

theorem ZeA (a0 a1 a2 : Int) (v2 : List R_ii) (v3 v4 : Nat) (v7 : Int) (v8 N : Nat) : (Zd a0 a1 a2 N).Ok Try.prog Zk (.h2m25 v2 v3 v4 v7 v8 : Zb) (Zf a0 a1 a2 N (.h2m25 v2 v3 v4 v7 v8 : Zb)) := by
 show (Zd a0 a1 a2 N).Ok Try.prog Zk (.h2m25 v2 v3 v4 v7 v8 : Zb) (Zat a0 a1 a2 N v2 v3 v4 v7 v8)
 unfold Zat
 refine Mach.ok_ite (fun g0 => ?_) (fun g0 => ?_)
 ·
  refine Mach.ok_ite (fun g1 => ?_) (fun g1 => ?_)
  ·
   refine Mach.ok_ite (fun g2 => ?_) (fun g2 => ?_)
   ·
    refine Mach.ok_ite (fun g3 => ?_) (fun g3 => ?_)
    ·
     refine Mach.ok_ite (fun g4 => ?_) (fun g4 => ?_)
     ·
      refine Mach.ok_ite (fun g5 => ?_) (fun g5 => ?_)
      ·
       refine Mach.ok_ite (fun g6 => ?_) (fun g6 => ?_)
       ·
        refine Mach.ok_ite (fun g7 => ?_) (fun g7 => ?_)
        ·
         refine Mach.ok_ite (fun g8 => ?_) (fun g8 => ?_)
         ·
          refine Mach.ok_ite (fun g9 => ?_) (fun g9 => ?_)
          ·
           exact Mach.ok_none
          ·
           refine Mach.ok_ite (fun g10 => ?_) (fun g10 => ?_)
           ·
            refine Mach.ok_ite (fun g11 => ?_) (fun g11 => ?_)
            ·
             refine Mach.ok_ite (fun g12 => ?_) (fun g12 => ?_)
             ·
              refine Mach.ok_ite (fun g13 => ?_) (fun g13 => ?_)
              ·
               refine Mach.ok_ite (fun g14 => ?_) (fun g14 => ?_)
               ·
                refine Mach.ok_ite (fun g15 => ?_) (fun g15 => ?_)
                ·
                 refine Mach.ok_ite (fun g16 => ?_) (fun g16 => ?_)
                 ·
                  refine Mach.ok_ite (fun g17 => ?_) (fun g17 => ?_)
                  ·
                   exact Mach.ok_next (M := Zd a0 a1 a2 N) (cd := 1000000) (cm := 0) (y := (.h2m25 (v2) (v3) ((v4 + 1)) (v7) (v8) : Zb)) (fu := 4000) (orc := (Z9 v2 v4)) (live := [0, 1, 2, 3, 4, 5]) (tv := fun _ => [some (Value.int .u8 a1), some (vi a2), some (vp 0 0), some (vi (10 : Int)), some (vs 1 0 v2.length v2.length), some (vi (v3 : Int)), some (vp 2 0), some (vi (((v4 + 1) : Nat) : Int))]) (bl := [some (.cells [vi (400 : Int), vs 3 0 28 28, vs 4 0 28 28, vn, vn, vn, vn, vn, vn, vn, vn, vn, vn, vs 5 0 0 1, vn, vn, vn, vn, vn, vn] 48), some (.cells (Zr Zp v2) 30), some (.cells [vi (2 : Int), vi v7] 30), some (.cells [vi (1 : Int), vi (16 : Int), vi (255 : Int), vi (2 : Int), vq, vq, vq, vq, vq, vq, vq, vq, vq, vq, vq, vq, vq, vq, vq, vq, vq, vq, vq, vq, vq, vq, vq, vq, vq, vq, vq, vq, vq, vq, vq, vq, vq, vq, vq, vq, vq, vq, vq, vq, vq, vq, vq, vq, vq, vq, vq, vq, vq, vq, vq, vq, vq, vq, vq, vq, vq, vq, vq, vq, vq, vq, vq, vq, vq, vq, vq, vq, vq, vq, vq, vq, vq, vq, vq, vq, vq, vq, vq, vq, vq, vi (v8 : Int), vi (10 : Int), vq, vi (1 : Int), vq, vq, vq, vq, vq, vq, vq, vq, vq, vq, vq, vq, vq, vq, vq, vq, vq, vq, vq, vq, vq, vq, vq, vq, vq, vq, vq, vq, vq, vq, vq, vq, vq, vq, vq, vq, vq, vq, vq, vq, vq, vq, vq, vq, vq, vq, vq, vq, vq, vq, vq] 38), some (.cells [vq, vq, vi (2 : Int), vq, vi (2 : Int), vq, vi (2 : Int), vq, vi (2 : Int), vq, vi (2 : Int), vq, vi (2 : Int), vq, vi (2 : Int), vq, vi (2 : Int), vq, vi (1 : Int), vq, vi (1 : Int), vq, vi (1 : Int), vq, vi (1 : Int), vq, vi (1 : Int), vq, vi (1 : Int), vq, vi (1 : Int), vq, vi (1 : Int), vq, vq, vq, vi (1 : Int), vq, vi (1 : Int), vq, vi (1 : Int), vq, vi (1 : Int), vq, vi (1 : Int), vq, vi (1 : Int), vq, vi (1 : Int), vq, vi (1 : Int), vq, vi (1 : Int), vq, vi (1 : Int), vi a2] 30), some (.cells [vi (18 : Int)] 3)]) (ob := (Z0 a1 v2 v3 v4 v7 v8)) rfl (show 2 ∈ Zl (Zh 2) from by decide +kernel) (fun gv => by kernel_rfl) (ZA a1 v2 v3 v4 v7 v8 g0 g1 g2 g3 g4 g5 g6 g7 g8 g9 g10 g11 g12 g13 g14 g15 g16 g17) rfl (by decide) (by rfl) (fun _ => ⟨rr, ⟨rr, ⟨rr, ⟨rr, ⟨rr, ⟨rr, ⟨rr, ⟨rr, trivial⟩⟩⟩⟩⟩⟩⟩⟩) ⟨⟨rfl, ⟨[], by rfl⟩, by rfl⟩, ⟨(Zu (E := Zp) (α := R_ii) _ v2 _), ⟨⟨rfl, ⟨[], by rfl⟩, by rfl⟩, ⟨⟨rfl, ⟨[], by rfl⟩, by rfl⟩, ⟨⟨rfl, ⟨[], by rfl⟩, by rfl⟩, ⟨⟨rfl, ⟨[], by rfl⟩, by rfl⟩, trivial⟩⟩⟩⟩⟩⟩
                  ·
                   exact Mach.ok_none
                 ·
                  exact Mach.ok_none
                ·
                 exact Mach.ok_none
               ·
                exact Mach.ok_none
              ·
               exact Mach.ok_none
             ·
              exact Mach.ok_none
            ·
             exact Mach.ok_none
           ·
            exact Mach.ok_none
         ·
          exact Mach.ok_next (M := Zd a0 a1 a2 N) (cd := 1000000) (cm := 0) (y := (.h1m25 ((v2 ++ ([(⟨(2 : Int), v7⟩ : R_ii)] : List R_ii))) ((v3 + 1)) (v8) : Zb)) (fu := 4000) (orc := (ZB v2 v3 v7)) (live := [0, 26, 3, 4, 5]) (tv := fun _ => [some (Value.int .u8 a1), some (vi a2), some (vp 0 0), some (vi (10 : Int)), some (vs 26 0 (v2.length + 1) (v2.length + 1)), some (vi (((v3 + 1) : Nat) : Int))]) (bl := [some (.cells [vi (400 : Int), vs 3 0 28 28, vs 4 0 28 28, vn, vn, vn, vn, vn, vn, vn, vn, vn, vn, vs 5 0 1 1, vn, vn, vn, vn, vn, vn] 48), some (.cells (Zr Zp (v2 ++ ([(⟨(2 : Int), v7⟩ : R_ii)] : List R_ii))) 30), some (.cells [vi (1 : Int), vi (16 : Int), vi (255 : Int), vi (2 : Int), vq, vq, vq, vq, vq, vq, vq, vq, vq, vq, vq, vq, vq, vq, vq, vq, vq, vq, vq, vq, vq, vq, vq, vq, vq, vq, vq, vq, vq, vq, vq, vq, vq, vq, vq, vq, vq, vq, vq, vq, vq, vq, vq, vq, vq, vq, vq, vq, vq, vq, vq, vq, vq, vq, vq, vq, vq, vq, vq, vq, vq, vq, vq, vq, vq, vq, vq, vq, vq, vq, vq, vq, vq, vq, vq, vq, vq, vq, vq, vq, vq, vi (v8 : Int), vi (10 : Int), vq, vq, vq, vq, vq, vq, vq, vq, vq, vq, vq, vq, vq, vq, vq, vq, vq, vq, vq, vq, vq, vq, vq, vq, vq, vq, vq, vq, vq, vq, vq, vq, vq, vq, vq, vq, vq, vq, vq, vq, vq, vq, vq, vq, vq, vq, vq, vq, vq, vq, vq, vq, vq] 38), some (.cells [vq, vq, vi (2 : Int), vq, vi (2 : Int), vq, vi (2 : Int), vq, vi (2 : Int), vq, vi (2 : Int), vq, vi (2 : Int), vq, vi (2 : Int), vq, vi (2 : Int), vq, vi (1 : Int), vq, vi (1 : Int), vq, vi (1 : Int), vq, vi (1 : Int), vq, vi (1 : Int), vq, vi (1 : Int), vq, vi (1 : Int), vq, vi (1 : Int), vq, vq, vq, vi (1 : Int), vq, vi (1 : Int), vq, vi (1 : Int), vq, vi (1 : Int), vq, vi (1 : Int), vq, vi (1 : Int), vq, vi (1 : Int), vq, vi (1 : Int), vq, vi (1 : Int), vq, vi (1 : Int), vi a2] 30), some (.cells [vi (18 : Int)] 3)]) (ob := (Z1 a1 a2 v2 v3 v4 v7 v8)) rfl (show 1 ∈ Zl (Zh 2) from by decide +kernel) (fun gv => by kernel_rfl) (ZC a1 a2 v2 v3 v4 v7 v8 g0 g1 g2 g3 g4 g5 g6 g7 g8) rfl (by decide) (by rfl) (fun _ => ⟨rr, ⟨rr, ⟨rr, ⟨rr, ⟨⟨Eq.trans (show (vs 1 0 (v2 ++ ([(⟨(2 : Int), v7⟩ : R_ii)] : List R_ii)).length (v2 ++ ([(⟨(2 : Int), v7⟩ : R_ii)] : List R_ii)).length : Value) = vs 1 0 (v2.length + 1) (v2.length + 1) from (ZF rfl eqA eqA)) (by rfl), by rfl⟩, ⟨rr, trivial⟩⟩⟩⟩⟩⟩) ⟨⟨rfl, ⟨[], by rfl⟩, by rfl⟩, ⟨(Zu (E := Zp) (α := R_ii) _ (v2 ++ ([(⟨(2 : Int), v7⟩ : R_ii)] : List R_ii)) _), ⟨⟨rfl, ⟨[], by rfl⟩, by rfl⟩, ⟨⟨rfl, ⟨[], by rfl⟩, by rfl⟩, ⟨⟨rfl, ⟨[], by rfl⟩, by rfl⟩, trivial⟩⟩⟩⟩⟩
        ·
         exact Mach.ok_none
       ·
        exact Mach.ok_none
      ·
       exact Mach.ok_none
     ·
      exact Mach.ok_none
    ·
     exact Mach.ok_none
   ·
    exact Mach.ok_none
  ·
   exact Mach.ok_none
 ·
  exact Mach.ok_none

end Ev
end Go.Proofs.Ytkhbehgikhamdaa
