/- Part 7. -/
import Derived.Test.YtpfmkkookmofcaaGreatZaf
/- Calls do what the plain functions say. -/
namespace Go.Proofs.YtpfmkkookmofcaaGreat
open Go.RowKit
namespace Ev
set_option linter.unusedVariables false
set_option maxRecDepth 100000
theorem Zl3  (N : Nat) : (Z6  N).Ok Tryz.prog ZD (.h3m4 : Zn) (Zaf  N (.h3m4 : Zn)) := by
 show (Z6  N).Ok Tryz.prog ZD (.h3m4 : Zn) (Zft  N)
 unfold Zft
 refine Mach.ok_bind (fun z0 c0 => ?_)
 cases z0 with
 | r0 =>
  exact Mach.ok_next (M := Z6  N) (cd := 1000000) (cm := 0) (y := (.h3m5 : Zn)) (fu := 4000) (orc := (Zk [] [] [] [] [(203, (Zdl    8 299))])) (live := [0, 1, 2, 3, 542, 5, 538, 510, 8, 170, 489, 11, 12]) (tv := fun _ => [some (vs 0 0 1 1), some (vi (20 : Int)), some (vp 2 0), some (vp 3 0), some (vi (2 : Int)), some (vs 542 0 3 3), some (vi (2 : Int)), some (vT), some (vi (1 : Int))]) (bl := [some (.cells [vs 1 0 68 68] 22), some cz0, some (.cells [vn, vn, vn] 74), some (.cells [vs 5 0 1 1, vs 538 0 1 1, vs 510 0 3 3] 74), some (.cells [vq, vq, vq] 3), some (.cells [vs 8 0 68 68] 22), some (.cells [vq, vq, vi (66 : Int), vi (2 : Int), vi (1048577 : Int), vi (1 : Int), vq, vi (1 : Int), vq, vi (1 : Int), vi (1 : Int), vi (2 : Int), vi (1048594 : Int), vi (2 : Int), vi (1048595 : Int), vi (1 : Int), vi (1 : Int), vi (1 : Int), vi (5 : Int), vs 170 0 2 2] 83), some (.cells [vi (2 : Int), vi (1048577 : Int), vi (1 : Int), vi (16 : Int), vi (255 : Int), vi (2 : Int), vq, vs 489 0 16 16, vi (2 : Int), vi (1048594 : Int), vi (1 : Int), vi (2 : Int), vi (1 : Int), vi (3 : Int), vq, vs 11 0 2 2, vi (2 : Int), vi (1048595 : Int), vi (1 : Int), vi (2 : Int), vi (1 : Int), vi (2 : Int), vq, vs 12 0 2 2] 42), some cz0, some (.cells [vi (1 : Int), vi (1 : Int), vi (1 : Int), vi (1 : Int)] 36), some cz2, some ZdH, some (.cells [vi (2 : Int), vq, vi (1 : Int), vi (6 : Int)] 36)]) (ob := [(dP (Zc2 #[vs 8 0 68 68]    8 299), true), (dS [vi (10 : Int), vq, vq, vq, vi (1 : Int), vi (1 : Int), vi (5 : Int), vq, vi (1 : Int), vi (2 : Int), vi (3 : Int), vq, vi (1 : Int), vi (3 : Int), vi (1 : Int), vq, vi (15 : Int), vq, vq, vq, vi (13 : Int), vi (6 : Int), vq, vi (10 : Int), vi (6 : Int), vi (5 : Int), vi (6 : Int), vi (2 : Int), vi (9 : Int), vi (5 : Int), vi (19 : Int), vq, vi (11 : Int), vi (4 : Int), vi (2 : Int), vi (1 : Int), vi (14 : Int), vi (4 : Int), vi (1 : Int), vi (1 : Int), vi (13 : Int), vi (5 : Int), vq, vi (5 : Int), vi (9 : Int), vi (5 : Int), vi (14 : Int), vq, vi (14 : Int), vi (5 : Int), vq, vi (4 : Int), vi (8 : Int), vi (15 : Int), vq, vq, vi (14 : Int), vq, vi (4 : Int), vi (4 : Int), vi (14 : Int), vq, vi (5 : Int), vi (4 : Int), vi (4 : Int), vi (6 : Int), vi (6 : Int), vi (3 : Int), vi (14 : Int), vq, vi (10 : Int), vi (6 : Int), vi (8 : Int), vi (20 : Int), vq, vq, vi (18 : Int), vq, vq, vq, vi (1 : Int), vi (7 : Int), vi (1 : Int), vq, vi (17 : Int), vq, vq, vq, vi (19 : Int), vi (7 : Int), vq, vq, vi (10 : Int), vq, vq, vq, vi (1 : Int), vi (1 : Int), vi (6 : Int), vq, vi (1 : Int), vi (2 : Int), vi (3 : Int), vq, vi (1 : Int), vi (3 : Int), vi (1 : Int), vq, vi (15 : Int), vq, vq, vq, vi (13 : Int), vi (6 : Int), vq, vi (10 : Int), vi (6 : Int), vi (5 : Int), vi (6 : Int), vi (2 : Int), vi (9 : Int), vi (5 : Int), vi (42 : Int), vq, vi (11 : Int), vi (4 : Int), vi (2 : Int), vi (1 : Int), vi (14 : Int), vi (4 : Int), vi (1 : Int), vi (1 : Int), vi (13 : Int), vi (5 : Int), vq, vi (5 : Int), vi (9 : Int), vi (5 : Int), vi (37 : Int), vq, vi (14 : Int), vi (5 : Int), vq, vi (4 : Int), vi (8 : Int), vi (38 : Int), vq, vq, vi (14 : Int), vq, vi (4 : Int), vi (4 : Int), vi (14 : Int), vq, vi (5 : Int), vi (4 : Int), vi (4 : Int), vi (6 : Int), vi (6 : Int), vi (3 : Int), vi (14 : Int), vq, vi (10 : Int), vi (6 : Int), vi (8 : Int), vi (43 : Int), vq, vq, vi (18 : Int), vq, vq, vq, vi (1 : Int), vi (7 : Int), vi (1 : Int), vq, vi (17 : Int), vq, vq, vq, vi (19 : Int), vi (7 : Int), vq, vq, vi (10 : Int), vq, vq, vq, vi (1 : Int), vi (1 : Int), vq, vq, vi (1 : Int), vi (2 : Int), vq, vq, vi (1 : Int), vi (3 : Int), vi (1 : Int), vq, vi (15 : Int), vq, vq, vq, vi (13 : Int), vi (4 : Int), vq, vi (4 : Int), vi (9 : Int), vi (4 : Int), vi (64 : Int), vq, vi (13 : Int), vi (7 : Int), vi (4 : Int), vi (1 : Int), vi (13 : Int), vi (5 : Int), vi (4 : Int), vq, vi (14 : Int), vq, vi (4 : Int), vi (5 : Int), vi (9 : Int), vi (5 : Int), vi (58 : Int), vq, vi (8 : Int), vi (59 : Int), vq, vq, vi (14 : Int), vq, vi (5 : Int), vi (5 : Int), vi (13 : Int), vi (6 : Int), vq, vi (10 : Int), vi (5 : Int), vi (6 : Int), vi (6 : Int), vi (3 : Int), vi (14 : Int), vq, vi (10 : Int), vi (6 : Int), vi (12 : Int), vi (4 : Int), vq, vq, vi (8 : Int), vi (65 : Int), vq, vq, vi (18 : Int), vq, vq, vq, vi (17 : Int), vq, vq, vq, vi (19 : Int), vi (7 : Int), vq, vq, vi (20 : Int), vq, vq, vq], true)]) rfl (show 3 ∈ Zl (Zbe 3) from by decide +kernel) (fun gv => by kernel_rfl) (Zd (Zm (Zdm #[vs 8 0 68 68]    N c0 8 299 rfl (by decide) (by decide))) <| Zd (Zm (Za rfl (Za rfl (Za rfl (Za rfl (Za rfl (Za rfl (Za rfl (Za rfl (Za rfl (Za rfl (Za rfl (Za rfl (Za rfl (Za rfl (Za rfl (Za rfl (Za rfl (Za rfl (Za rfl (Za rfl (Za rfl (Za rfl (Za rfl (Za rfl (Za rfl (Za rfl (Za rfl (Za rfl (Za rfl (Za rfl (Za rfl (Za rfl (Za rfl (Za rfl (Za rfl (Za rfl (Za rfl (Za rfl (Za rfl (Za rfl (Za rfl (Za rfl (Za rfl (Za rfl (Za rfl (Za rfl (Za rfl (Za rfl (Za rfl (Za rfl (Za rfl (Za rfl (Za rfl (Za rfl (Za rfl (Za rfl (Za rfl (Za rfl (Za rfl (Za rfl (Za rfl (Za rfl (Za rfl (Za rfl (Za rfl (Za rfl (Za rfl (Za rfl (Za rfl (Za rfl (Za rfl (Za rfl (Za rfl (Za rfl (Za rfl (Za rfl (Za rfl (Za rfl (Za rfl (Za rfl (Za rfl (Za rfl (Za rfl (Za rfl (Za rfl (Za rfl (Za rfl (Za rfl (Za rfl (Za rfl (Za rfl (Za rfl (Za rfl (Za rfl (Za rfl (Za rfl (Za rfl (Za rfl (Za rfl (Za rfl (Za rfl (Za rfl (Za rfl (Za rfl (Za rfl (Za rfl (Za rfl (Za rfl (Za rfl (Za rfl (Za rfl (Za rfl (Za rfl (Za rfl (Za rfl (Za rfl (Za rfl (Za rfl (Za rfl (Za rfl (Za rfl (Za rfl (Za rfl (Za rfl (Za rfl (Za rfl (Za rfl (Za rfl (Za rfl (Za rfl (Za rfl (Za rfl (Za rfl (Za rfl (Za rfl (Za rfl (Za rfl (Za rfl (Za rfl (Za rfl (Za rfl (Za rfl (Za rfl (Za rfl (Za rfl (Za rfl (Za rfl (Za rfl (Za rfl (Za rfl (Za rfl (Za rfl (Za rfl (Za rfl (Za rfl (Za rfl (Za rfl (Za rfl (Za rfl (Za rfl (Za rfl (Za rfl (Za rfl (Za rfl (Za rfl (Za rfl (Za rfl (Za rfl (Za rfl (Za rfl (Za rfl (Za rfl (Za rfl (Za rfl (Za rfl (Za rfl (Za rfl (Za rfl (Za rfl (Za rfl (Za rfl (Za rfl (Za rfl (Za rfl (Za rfl (Za rfl (Za rfl (Za rfl (Za rfl (Za rfl (Za rfl (Za rfl (Za rfl (Za rfl (Za rfl (Za rfl (Za rfl (Za rfl (Za rfl (Za rfl (Za rfl (Za rfl (Za rfl (Za rfl (Za rfl (Za rfl (Za rfl (Za rfl (Za rfl (Za rfl (Za rfl (Za rfl (Za rfl (Za rfl (Za rfl (Za rfl (Za rfl (Za rfl (Za rfl (Za rfl (Za rfl (Za rfl (Za rfl (Za rfl (Za rfl (Za rfl (Za rfl (Za rfl (Za rfl (Za rfl (Za rfl (Za rfl (Za rfl (Za rfl (Za rfl (Za rfl (Za rfl (Za rfl (Za rfl (Za rfl (Za rfl (Za rfl (Za rfl (Za rfl (Za rfl (Za rfl (Za rfl (Za rfl (Za rfl (Za rfl (Za rfl (Za rfl (Za rfl (Za rfl (Za rfl (Za rfl (Za rfl (Za rfl (Za rfl (Za rfl (Za rfl (Za rfl (Za rfl (Za rfl (Za rfl (Za rfl (Za rfl (Za rfl (Za rfl (Za rfl (Za rfl (Za rfl rfl))))))))))))))))))))))))))))))))))))))))))))))))))))))))))))))))))))))))))))))))))))))))))))))))))))))))))))))))))))))))))))))))))))))))))))))))))))))))))))))))))))))))))))))))))))))))))))))))))))))))))))))))))))))))))))))))))))))))))))))))))))))))))))))))))))))))))))))))) Zf) rfl (by decide) (by rfl) (fun _ => ⟨rr, ⟨rr, ⟨rr, ⟨rr, ⟨rr, ⟨rr, ⟨rr, ⟨rr, ⟨rr, trivial⟩⟩⟩⟩⟩⟩⟩⟩⟩) ⟨⟨rfl, ⟨[], by rfl⟩, by rfl⟩, ⟨⟨rfl, ⟨[], by rfl⟩, by rfl⟩, ⟨⟨rfl, ⟨[], by rfl⟩, by rfl⟩, ⟨⟨rfl, ⟨[], by rfl⟩, by rfl⟩, ⟨⟨rfl, ⟨[], by rfl⟩, by rfl⟩, ⟨⟨rfl, ⟨[], by rfl⟩, by rfl⟩, ⟨⟨rfl, ⟨[], by rfl⟩, by rfl⟩, ⟨⟨rfl, ⟨[], by rfl⟩, by rfl⟩, ⟨⟨rfl, ⟨[], by rfl⟩, by rfl⟩, ⟨⟨rfl, ⟨[], by rfl⟩, by rfl⟩, ⟨⟨rfl, ⟨[], by rfl⟩, by rfl⟩, ⟨⟨rfl, ⟨[], by rfl⟩, by rfl⟩, ⟨⟨rfl, ⟨[], by rfl⟩, by rfl⟩, trivial⟩⟩⟩⟩⟩⟩⟩⟩⟩⟩⟩⟩⟩

theorem Zl4  (N : Nat) : (Z6  N).Ok Tryz.prog ZD (.h3m5 : Zn) (Zaf  N (.h3m5 : Zn)) := by
 show (Z6  N).Ok Tryz.prog ZD (.h3m5 : Zn) (Zfu  N)
 unfold Zfu
 exact Mach.ok_next (M := Z6  N) (cd := 1000000) (cm := 0) (y := (.h2m3 : Zn)) (fu := 4000) (orc := (Zk [] [] [] [] [])) (live := [0, 1, 2, 3, 4, 5, 6, 7, 8, 9, 10, 11, 12]) (tv := fun _ => [some (vs 0 0 1 1), some (vi (20 : Int)), some (vp 2 0), some (vp 3 0), some (vi (2 : Int)), some (vs 4 0 3 3), some (vi (3 : Int))]) (bl := [some (.cells [vs 1 0 68 68] 22), some cz0, some (.cells [vn, vn, vn] 74), some (.cells [vs 5 0 1 1, vs 6 0 1 1, vs 7 0 3 3] 74), some (.cells [vq, vq, vq] 3), some (.cells [vs 8 0 68 68] 22), some Zln, some cz6, some cz0, some (.cells [vi (1 : Int), vi (1 : Int), vi (1 : Int), vi (1 : Int)] 36), some cz2, some ZdH, some (.cells [vi (2 : Int), vq, vi (1 : Int), vi (6 : Int)] 36)]) (ob := []) rfl (show 2 ∈ Zl (Zbe 3) from by decide +kernel) (fun gv => by kernel_rfl) Zf rfl (by decide) (by rfl) (fun _ => ⟨rr, ⟨rr, ⟨rr, ⟨rr, ⟨rr, ⟨rr, ⟨rr, trivial⟩⟩⟩⟩⟩⟩⟩) ⟨⟨rfl, ⟨[], by rfl⟩, by rfl⟩, ⟨⟨rfl, ⟨[], by rfl⟩, by rfl⟩, ⟨⟨rfl, ⟨[], by rfl⟩, by rfl⟩, ⟨⟨rfl, ⟨[], by rfl⟩, by rfl⟩, ⟨⟨rfl, ⟨[], by rfl⟩, by rfl⟩, ⟨⟨rfl, ⟨[], by rfl⟩, by rfl⟩, ⟨⟨rfl, ⟨[], by rfl⟩, by rfl⟩, ⟨⟨rfl, ⟨[], by rfl⟩, by rfl⟩, ⟨⟨rfl, ⟨[], by rfl⟩, by rfl⟩, ⟨⟨rfl, ⟨[], by rfl⟩, by rfl⟩, ⟨⟨rfl, ⟨[], by rfl⟩, by rfl⟩, ⟨⟨rfl, ⟨[], by rfl⟩, by rfl⟩, ⟨⟨rfl, ⟨[], by rfl⟩, by rfl⟩, trivial⟩⟩⟩⟩⟩⟩⟩⟩⟩⟩⟩⟩⟩

theorem Zl5  (N : Nat) : (Z6  N).Ok Tryz.prog ZD (.h3m6 : Zn) (Zaf  N (.h3m6 : Zn)) := by
 show (Z6  N).Ok Tryz.prog ZD (.h3m6 : Zn) (Zfv  N)
 unfold Zfv
 exact Mach.ok_next (M := Z6  N) (cd := 1000000) (cm := 0) (y := (.h3m7 : Zn)) (fu := 4000) (orc := (Zk [] [] [] [] [])) (live := [0, 1, 2, 3, 4, 5, 6, 7, 8, 9, 10, 11, 12]) (tv := fun _ => [some (vs 0 0 1 1), some (vi (20 : Int)), some (vp 2 0), some (vp 3 0), some (vi (2 : Int)), some (vs 4 0 3 3), some (vi (3 : Int)), some (vf), some (vi (1 : Int))]) (bl := [some (.cells [vs 1 0 68 68] 22), some cz0, some (.cells [vn, vn, vn] 74), some (.cells [vs 5 0 1 1, vs 6 0 1 1, vs 7 0 3 3] 74), some (.cells [vq, vq, vq] 3), some (.cells [vs 8 0 68 68] 22), some Zln, some cz6, some cz0, some (.cells [vi (1 : Int), vi (1 : Int), vi (1 : Int), vi (1 : Int)] 36), some cz2, some ZdH, some (.cells [vi (2 : Int), vq, vi (1 : Int), vi (6 : Int)] 36)]) (ob := []) rfl (show 3 ∈ Zl (Zbe 3) from by decide +kernel) (fun gv => by kernel_rfl) Zf rfl (by decide) (by rfl) (fun _ => ⟨rr, ⟨rr, ⟨rr, ⟨rr, ⟨rr, ⟨rr, ⟨rr, ⟨rr, ⟨rr, trivial⟩⟩⟩⟩⟩⟩⟩⟩⟩) ⟨⟨rfl, ⟨[], by rfl⟩, by rfl⟩, ⟨⟨rfl, ⟨[], by rfl⟩, by rfl⟩, ⟨⟨rfl, ⟨[], by rfl⟩, by rfl⟩, ⟨⟨rfl, ⟨[], by rfl⟩, by rfl⟩, ⟨⟨rfl, ⟨[], by rfl⟩, by rfl⟩, ⟨⟨rfl, ⟨[], by rfl⟩, by rfl⟩, ⟨⟨rfl, ⟨[], by rfl⟩, by rfl⟩, ⟨⟨rfl, ⟨[], by rfl⟩, by rfl⟩, ⟨⟨rfl, ⟨[], by rfl⟩, by rfl⟩, ⟨⟨rfl, ⟨[], by rfl⟩, by rfl⟩, ⟨⟨rfl, ⟨[], by rfl⟩, by rfl⟩, ⟨⟨rfl, ⟨[], by rfl⟩, by rfl⟩, ⟨⟨rfl, ⟨[], by rfl⟩, by rfl⟩, trivial⟩⟩⟩⟩⟩⟩⟩⟩⟩⟩⟩⟩⟩

theorem Zl6  (N : Nat) : (Z6  N).Ok Tryz.prog ZD (.h3m7 : Zn) (Zaf  N (.h3m7 : Zn)) := by
 show (Z6  N).Ok Tryz.prog ZD (.h3m7 : Zn) (Zfw  N)
 unfold Zfw
 exact Mach.ok_fin (M := Z6  N) (cd := 1000000) (cm := 0) (r := (.r0 : ZX)) (fu := 4000) (orc := (Zk [] [] [] [] [])) (live := [0, 1, 5, 47, 7, 4, 8, 29, 10, 11, 12]) (u := Value.tuple #[Value.agg #[vs 5 0 1 1, vs 47 0 1 1, vs 7 0 3 3], vs 4 0 3 3, vT]) (bl := [some (.cells [vs 1 0 68 68] 22), some cz0, some (.cells [vs 8 0 68 68] 22), some (.cells [vi (2 : Int), vq, vi (67 : Int), vi (2 : Int), vi (1048577 : Int), vi (1 : Int), vq, vi (1 : Int), vq, vi (1 : Int), vi (1 : Int), vi (2 : Int), vi (1048594 : Int), vi (2 : Int), vi (1048595 : Int), vi (1 : Int), vi (1 : Int), vi (1 : Int), vi (5 : Int), vs 29 0 3 3] 83), some cz6, some (.cells [vq, vq, vq] 3), some cz0, some ZoM, some cz2, some ZdH, some (.cells [vi (2 : Int), vq, vi (1 : Int), vi (6 : Int)] 36)]) (ob := []) (fun gv => by kernel_rfl) Zf rfl (by decide) (by rfl) rr ⟨⟨rfl, ⟨[], by rfl⟩, by rfl⟩, ⟨⟨rfl, ⟨[], by rfl⟩, by rfl⟩, ⟨⟨rfl, ⟨[], by rfl⟩, by rfl⟩, ⟨⟨rfl, ⟨[], by rfl⟩, by rfl⟩, ⟨⟨rfl, ⟨[], by rfl⟩, by rfl⟩, ⟨⟨rfl, ⟨[], by rfl⟩, by rfl⟩, ⟨⟨rfl, ⟨[], by rfl⟩, by rfl⟩, ⟨⟨rfl, ⟨[], by rfl⟩, by rfl⟩, ⟨⟨rfl, ⟨[], by rfl⟩, by rfl⟩, ⟨⟨rfl, ⟨[], by rfl⟩, by rfl⟩, ⟨⟨rfl, ⟨[], by rfl⟩, by rfl⟩, trivial⟩⟩⟩⟩⟩⟩⟩⟩⟩⟩⟩

theorem ZnB  (N : Nat) : (Z6  N).Enter Tryz.prog ZD #[vs 0 0 1 1, vn, vi (20 : Int)] (ZgS  N) := by
 unfold ZgS
 refine Mach.en_bind (fun z0 c0 => ?_)
 cases z0 with
 | r0 =>
  exact Mach.en_head (bK := ZM 1) (M := Z6  N) (cd := 1000000) (cm := 0) (y := (.h1m0 : Zn)) (fu := 4000) (orc := (Zk [] [] [] [] [(1, (Zmt    1 5))])) (live := [0, 1, 2, 79, 8, 20, 78, 6, 73]) (tv := [some (vs 0 0 1 1), some (vn), some (vi (20 : Int)), some (vp 2 0), some (vp 79 0), some (vq), some (vn), some (vq)]) (bl := [some (.cells [vs 1 0 68 68] 22), some cz0, some (.cells [vn, vn, vn] 74), some (.cells [vs 8 0 1 1, vs 20 0 1 1, vs 78 0 1 1] 74), some (.cells [vs 6 0 68 68] 22), some ZmF, some (.cells [vi (2 : Int), vi (1048577 : Int), vi (1 : Int), vi (16 : Int), vi (255 : Int), vi (2 : Int), vq, vs 73 0 16 16] 42), some cz0, some cz8]) (ob := [(dP (Zhl #[vs 1 0 68 68]    1 5), true), (dS [vi (10 : Int), vq, vq, vq, vi (1 : Int), vi (1 : Int), vi (5 : Int), vq, vi (1 : Int), vi (2 : Int), vi (3 : Int), vq, vi (1 : Int), vi (3 : Int), vi (1 : Int), vq, vi (15 : Int), vq, vq, vq, vi (13 : Int), vi (6 : Int), vq, vi (10 : Int), vi (6 : Int), vi (5 : Int), vi (6 : Int), vi (2 : Int), vi (9 : Int), vi (5 : Int), vi (19 : Int), vq, vi (11 : Int), vi (4 : Int), vi (2 : Int), vi (1 : Int), vi (14 : Int), vi (4 : Int), vi (1 : Int), vi (1 : Int), vi (13 : Int), vi (5 : Int), vq, vi (5 : Int), vi (9 : Int), vi (5 : Int), vi (14 : Int), vq, vi (14 : Int), vi (5 : Int), vq, vi (4 : Int), vi (8 : Int), vi (15 : Int), vq, vq, vi (14 : Int), vq, vi (4 : Int), vi (4 : Int), vi (14 : Int), vq, vi (5 : Int), vi (4 : Int), vi (4 : Int), vi (6 : Int), vi (6 : Int), vi (3 : Int), vi (14 : Int), vq, vi (10 : Int), vi (6 : Int), vi (8 : Int), vi (20 : Int), vq, vq, vi (18 : Int), vq, vq, vq, vi (1 : Int), vi (7 : Int), vi (1 : Int), vq, vi (17 : Int), vq, vq, vq, vi (19 : Int), vi (7 : Int), vq, vq, vi (10 : Int), vq, vq, vq, vi (1 : Int), vi (1 : Int), vi (6 : Int), vq, vi (1 : Int), vi (2 : Int), vi (3 : Int), vq, vi (1 : Int), vi (3 : Int), vi (1 : Int), vq, vi (15 : Int), vq, vq, vq, vi (13 : Int), vi (6 : Int), vq, vi (10 : Int), vi (6 : Int), vi (5 : Int), vi (6 : Int), vi (2 : Int), vi (9 : Int), vi (5 : Int), vi (42 : Int), vq, vi (11 : Int), vi (4 : Int), vi (2 : Int), vi (1 : Int), vi (14 : Int), vi (4 : Int), vi (1 : Int), vi (1 : Int), vi (13 : Int), vi (5 : Int), vq, vi (5 : Int), vi (9 : Int), vi (5 : Int), vi (37 : Int), vq, vi (14 : Int), vi (5 : Int), vq, vi (4 : Int), vi (8 : Int), vi (38 : Int), vq, vq, vi (14 : Int), vq, vi (4 : Int), vi (4 : Int), vi (14 : Int), vq, vi (5 : Int), vi (4 : Int), vi (4 : Int), vi (6 : Int), vi (6 : Int), vi (3 : Int), vi (14 : Int), vq, vi (10 : Int), vi (6 : Int), vi (8 : Int), vi (43 : Int), vq, vq, vi (18 : Int), vq, vq, vq, vi (1 : Int), vi (7 : Int), vi (1 : Int), vq, vi (17 : Int), vq, vq, vq, vi (19 : Int), vi (7 : Int), vq, vq, vi (10 : Int), vq, vq, vq, vi (1 : Int), vi (1 : Int), vq, vq, vi (1 : Int), vi (2 : Int), vq, vq, vi (1 : Int), vi (3 : Int), vi (1 : Int), vq, vi (15 : Int), vq, vq, vq, vi (13 : Int), vi (4 : Int), vq, vi (4 : Int), vi (9 : Int), vi (4 : Int), vi (64 : Int), vq, vi (13 : Int), vi (7 : Int), vi (4 : Int), vi (1 : Int), vi (13 : Int), vi (5 : Int), vi (4 : Int), vq, vi (14 : Int), vq, vi (4 : Int), vi (5 : Int), vi (9 : Int), vi (5 : Int), vi (58 : Int), vq, vi (8 : Int), vi (59 : Int), vq, vq, vi (14 : Int), vq, vi (5 : Int), vi (5 : Int), vi (13 : Int), vi (6 : Int), vq, vi (10 : Int), vi (5 : Int), vi (6 : Int), vi (6 : Int), vi (3 : Int), vi (14 : Int), vq, vi (10 : Int), vi (6 : Int), vi (12 : Int), vi (4 : Int), vq, vq, vi (8 : Int), vi (65 : Int), vq, vq, vi (18 : Int), vq, vq, vq, vi (17 : Int), vq, vq, vq, vi (19 : Int), vi (7 : Int), vq, vq, vi (20 : Int), vq, vq, vq], true)]) rfl rfl (show Zl (ZM 1).2 = [] from rfl) (by kernel_rfl) (Zd (Zm (Zmu #[vs 1 0 68 68]    N c0 1 5 rfl (by decide) (by decide))) <| Zd (Zm (Za rfl (Za rfl (Za rfl (Za rfl (Za rfl (Za rfl (Za rfl (Za rfl (Za rfl (Za rfl (Za rfl (Za rfl (Za rfl (Za rfl (Za rfl (Za rfl (Za rfl (Za rfl (Za rfl (Za rfl (Za rfl (Za rfl (Za rfl (Za rfl (Za rfl (Za rfl (Za rfl (Za rfl (Za rfl (Za rfl (Za rfl (Za rfl (Za rfl (Za rfl (Za rfl (Za rfl (Za rfl (Za rfl (Za rfl (Za rfl (Za rfl (Za rfl (Za rfl (Za rfl (Za rfl (Za rfl (Za rfl (Za rfl (Za rfl (Za rfl (Za rfl (Za rfl (Za rfl (Za rfl (Za rfl (Za rfl (Za rfl (Za rfl (Za rfl (Za rfl (Za rfl (Za rfl (Za rfl (Za rfl (Za rfl (Za rfl (Za rfl (Za rfl (Za rfl (Za rfl (Za rfl (Za rfl (Za rfl (Za rfl (Za rfl (Za rfl (Za rfl (Za rfl (Za rfl (Za rfl (Za rfl (Za rfl (Za rfl (Za rfl (Za rfl (Za rfl (Za rfl (Za rfl (Za rfl (Za rfl (Za rfl (Za rfl (Za rfl (Za rfl (Za rfl (Za rfl (Za rfl (Za rfl (Za rfl (Za rfl (Za rfl (Za rfl (Za rfl (Za rfl (Za rfl (Za rfl (Za rfl (Za rfl (Za rfl (Za rfl (Za rfl (Za rfl (Za rfl (Za rfl (Za rfl (Za rfl (Za rfl (Za rfl (Za rfl (Za rfl (Za rfl (Za rfl (Za rfl (Za rfl (Za rfl (Za rfl (Za rfl (Za rfl (Za rfl (Za rfl (Za rfl (Za rfl (Za rfl (Za rfl (Za rfl (Za rfl (Za rfl (Za rfl (Za rfl (Za rfl (Za rfl (Za rfl (Za rfl (Za rfl (Za rfl (Za rfl (Za rfl (Za rfl (Za rfl (Za rfl (Za rfl (Za rfl (Za rfl (Za rfl (Za rfl (Za rfl (Za rfl (Za rfl (Za rfl (Za rfl (Za rfl (Za rfl (Za rfl (Za rfl (Za rfl (Za rfl (Za rfl (Za rfl (Za rfl (Za rfl (Za rfl (Za rfl (Za rfl (Za rfl (Za rfl (Za rfl (Za rfl (Za rfl (Za rfl (Za rfl (Za rfl (Za rfl (Za rfl (Za rfl (Za rfl (Za rfl (Za rfl (Za rfl (Za rfl (Za rfl (Za rfl (Za rfl (Za rfl (Za rfl (Za rfl (Za rfl (Za rfl (Za rfl (Za rfl (Za rfl (Za rfl (Za rfl (Za rfl (Za rfl (Za rfl (Za rfl (Za rfl (Za rfl (Za rfl (Za rfl (Za rfl (Za rfl (Za rfl (Za rfl (Za rfl (Za rfl (Za rfl (Za rfl (Za rfl (Za rfl (Za rfl (Za rfl (Za rfl (Za rfl (Za rfl (Za rfl (Za rfl (Za rfl (Za rfl (Za rfl (Za rfl (Za rfl (Za rfl (Za rfl (Za rfl (Za rfl (Za rfl (Za rfl (Za rfl (Za rfl (Za rfl (Za rfl (Za rfl (Za rfl (Za rfl (Za rfl (Za rfl (Za rfl (Za rfl (Za rfl (Za rfl (Za rfl (Za rfl (Za rfl (Za rfl (Za rfl (Za rfl (Za rfl (Za rfl (Za rfl (Za rfl (Za rfl (Za rfl (Za rfl (Za rfl (Za rfl (Za rfl (Za rfl (Za rfl (Za rfl (Za rfl (Za rfl rfl))))))))))))))))))))))))))))))))))))))))))))))))))))))))))))))))))))))))))))))))))))))))))))))))))))))))))))))))))))))))))))))))))))))))))))))))))))))))))))))))))))))))))))))))))))))))))))))))))))))))))))))))))))))))))))))))))))))))))))))))))))))))))))))))))))))))))))))))) Zf) rfl (by decide) (by rfl) ⟨rr, ⟨rr, ⟨rr, ⟨rr, ⟨rr, ⟨rr, ⟨rr, ⟨rr, trivial⟩⟩⟩⟩⟩⟩⟩⟩ ⟨⟨rfl, ⟨[], by rfl⟩, by rfl⟩, ⟨⟨rfl, ⟨[], by rfl⟩, by rfl⟩, ⟨⟨rfl, ⟨[], by rfl⟩, by rfl⟩, ⟨⟨rfl, ⟨[], by rfl⟩, by rfl⟩, ⟨⟨rfl, ⟨[], by rfl⟩, by rfl⟩, ⟨⟨rfl, ⟨[], by rfl⟩, by rfl⟩, ⟨⟨rfl, ⟨[], by rfl⟩, by rfl⟩, ⟨⟨rfl, ⟨[], by rfl⟩, by rfl⟩, ⟨⟨rfl, ⟨[], by rfl⟩, by rfl⟩, trivial⟩⟩⟩⟩⟩⟩⟩⟩⟩

theorem Zmx  (N : Nat) (r : ZX) (h : ZiT  N = some r) : LSpec Tryz.prog 27 #[vs 0 0 1 1, vn, vi (20 : Int)] [.cells [vs 1 0 68 68] 22, cz0] (ZkY  r) (Zkn  r) :=
 Mach.spec ZmR (Z6  N) Tryz.func27 (by kernel_rfl) (by kernel_rfl) (fun x => by cases x <;> exact Zay _ rfl) (fun r => by cases r <;> exact Zay _ rfl) (fun x => by
  cases x with
  | h1m0 => exact fun _ => (show ¬ (1 ∈ Zl (ZM 1).2) from by decide +kernel)
  | h2m0 => exact fun _ => (show ¬ (2 ∈ Zl (ZM 2).2) from by decide +kernel)
  | h2m1 => exact fun _ => (show ¬ (2 ∈ Zl (ZM 2).2) from by decide +kernel)
  | h2m2 => exact fun _ => (show ¬ (2 ∈ Zl (ZM 2).2) from by decide +kernel)
  | h2m3 => exact fun _ => (show ¬ (2 ∈ Zl (ZM 2).2) from by decide +kernel)
  | h3m0 => exact fun _ => (show ¬ (3 ∈ Zl (ZM 3).2) from by decide +kernel)
  | h3m1 => exact fun _ => (show ¬ (3 ∈ Zl (ZM 3).2) from by decide +kernel)
  | h3m2 => exact fun _ => (show ¬ (3 ∈ Zl (ZM 3).2) from by decide +kernel)
  | h3m3 => exact fun _ => (show ¬ (3 ∈ Zl (ZM 3).2) from by decide +kernel)
  | h3m4 => exact fun _ => (show ¬ (3 ∈ Zl (ZM 3).2) from by decide +kernel)
  | h3m5 => exact fun _ => (show ¬ (3 ∈ Zl (ZM 3).2) from by decide +kernel)
  | h3m6 => exact fun _ => (show ¬ (3 ∈ Zl (ZM 3).2) from by decide +kernel)
  | h3m7 => exact fun _ => (show ¬ (3 ∈ Zl (ZM 3).2) from by decide +kernel)
  ) (fun x => (show (Z6  N).Ok Tryz.prog ZD x (Zaf  N x) from by
  cases x with
  | h1m0 => exact Zlu  N
  | h2m0 => exact Zlv  N
  | h2m1 => exact Zlw  N
  | h2m2 => exact Zlx  N
  | h2m3 => exact Zly  N
  | h3m0 => exact Zlz  N
  | h3m1 => exact Zl0  N
  | h3m2 => exact Zl1  N
  | h3m3 => exact Zl2  N
  | h3m4 => exact Zl3  N
  | h3m5 => exact Zl4  N
  | h3m6 => exact Zl5  N
  | h3m7 => exact Zl6  N
  )) (ZnB  N) (n := N) h

noncomputable def ZoW  (k0 k1 n : Nat) : ZaL := .call [(k0, .cells [vs k1 0 68 68] 22), (k1, cz0)] (Value.tuple #[Value.agg #[vs n 0 1 1, vs (n + 1) 0 1 1, vs (n + 2) 0 3 3], vs (n + 3) 0 3 3, vT]) [(n, some (.cells [vs (n + 4) 0 68 68] 22)), ((n + 1), some (.cells [vi (2 : Int), vq, vi (67 : Int), vi (2 : Int), vi (1048577 : Int), vi (1 : Int), vq, vi (1 : Int), vq, vi (1 : Int), vi (1 : Int), vi (2 : Int), vi (1048594 : Int), vi (2 : Int), vi (1048595 : Int), vi (1 : Int), vi (1 : Int), vi (1 : Int), vi (5 : Int), vs (n + 5) 0 3 3] 83)), ((n + 2), some (.cells [vi (2 : Int), vi (1048577 : Int), vi (1 : Int), vi (16 : Int), vi (255 : Int), vi (2 : Int), vq, vs (n + 6) 0 16 16, vi (2 : Int), vi (1048594 : Int), vi (1 : Int), vi (2 : Int), vi (1 : Int), vi (3 : Int), vq, vs (n + 7) 0 2 2, vi (2 : Int), vi (1048595 : Int), vi (1 : Int), vi (2 : Int), vi (1 : Int), vi (2 : Int), vq, vs (n + 8) 0 2 2] 42)), ((n + 3), some (.cells [vq, vq, vq] 3)), ((n + 4), some cz0), ((n + 5), some ZoM), ((n + 6), some cz2), ((n + 7), some ZdH), ((n + 8), some (.cells [vi (2 : Int), vq, vi (1 : Int), vi (6 : Int)] 36))] 9
def Zkp (A : Array Value)  (k0 k1 n : Nat) : Prop := ZK Tryz.prog 27 A [(k0, .cells [vs k1 0 68 68] 22), (k1, cz0)] (Value.tuple #[Value.agg #[vs n 0 1 1, vs (n + 1) 0 1 1, vs (n + 2) 0 3 3], vs (n + 3) 0 3 3, vT]) [(n, some (.cells [vs (n + 4) 0 68 68] 22)), ((n + 1), some (.cells [vi (2 : Int), vq, vi (67 : Int), vi (2 : Int), vi (1048577 : Int), vi (1 : Int), vq, vi (1 : Int), vq, vi (1 : Int), vi (1 : Int), vi (2 : Int), vi (1048594 : Int), vi (2 : Int), vi (1048595 : Int), vi (1 : Int), vi (1 : Int), vi (1 : Int), vi (5 : Int), vs (n + 5) 0 3 3] 83)), ((n + 2), some (.cells [vi (2 : Int), vi (1048577 : Int), vi (1 : Int), vi (16 : Int), vi (255 : Int), vi (2 : Int), vq, vs (n + 6) 0 16 16, vi (2 : Int), vi (1048594 : Int), vi (1 : Int), vi (2 : Int), vi (1 : Int), vi (3 : Int), vq, vs (n + 7) 0 2 2, vi (2 : Int), vi (1048595 : Int), vi (1 : Int), vi (2 : Int), vi (1 : Int), vi (2 : Int), vq, vs (n + 8) 0 2 2] 42)), ((n + 3), some (.cells [vq, vq, vq] 3)), ((n + 4), some cz0), ((n + 5), some ZoM), ((n + 6), some cz2), ((n + 7), some ZdH), ((n + 8), some (.cells [vi (2 : Int), vq, vi (1 : Int), vi (6 : Int)] 36))] n 9

theorem ZoX (A : Array Value)  (N : Nat) (h : ZiT  N = some (.r0)) (k0 k1 n : Nat) (hA : A = #[vs k0 0 1 1, vn, vi (20 : Int)]) (hnd : ([k0, k1] : List Nat).Nodup) (hlt : ∀ k ∈ ([k0, k1] : List Nat), k < n) : Zkp A  k0 k1 n :=
 Zae hA (LSpec.callL (show LSpec Tryz.prog 27 #[vs 0 0 1 1, vn, vi (20 : Int)] [.cells [vs 1 0 68 68] 22, cz0] (Value.tuple #[Value.agg #[vs 2 0 1 1, vs 3 0 1 1, vs 4 0 3 3], vs 5 0 3 3, vT]) [some (.cells [vs 1 0 68 68] 22), some cz0, some (.cells [vs 6 0 68 68] 22), some cz10, some cz7, some (.cells [vq, vq, vq] 3), some cz0, some ZoM, some cz2, some ZdH, some (.cells [vi (2 : Int), vq, vi (1 : Int), vi (6 : Int)] 36)] from Zmx  N _ h) [k0, k1] n [2, 3, 4, 5, 6, 7, 8, 9, 10] rfl hnd hlt (show 2 ≤ 11 from by decide) (show ∀ j ∈ ([2, 3, 4, 5, 6, 7, 8, 9, 10] : List Nat), j < 11 from by decide) (by rfl) ⟨rfl, ⟨rfl, trivial⟩⟩ (by rfl) ⟨rfl, ⟨rfl, ⟨rfl, ⟨rfl, ⟨rfl, ⟨rfl, ⟨rfl, ⟨rfl, ⟨rfl, ⟨rfl, ⟨rfl, trivial⟩⟩⟩⟩⟩⟩⟩⟩⟩⟩⟩ ⟨.inr rfl, ⟨.inr rfl, ⟨(by decide), ⟨(by decide), ⟨(by decide), ⟨(by decide), ⟨(by decide), ⟨(by decide), ⟨(by decide), ⟨(by decide), ⟨(by decide), trivial⟩⟩⟩⟩⟩⟩⟩⟩⟩⟩⟩ rfl rfl rfl (Za (ZU rfl rfl) (Za (ZU rfl rfl) rfl)) (Za (ZU rfl (Zbf rfl)) (Za (ZU rfl (Zbf rfl)) (Za (ZU rfl (Zbf rfl)) (Za (ZU rfl (Zbf rfl)) (Za (ZU rfl (Zbf rfl)) (Za (ZU rfl (Zbf rfl)) (Za (ZU rfl (Zbf rfl)) (Za (ZU rfl (Zbf rfl)) (Za (ZU rfl (Zbf rfl)) rfl))))))))))

noncomputable def Zkq  : Zd3 → Value
 | .r0 => vT
noncomputable def Zju  : Zd3 → List (Option AObj)
 | .r0 => []

noncomputable def Zhm : FuncId → Option Ext := fun f => bif Nat.beq f 5 || Nat.beq f 6 then none else Zo f
theorem Zmy : Fit Tryz.prog Zhm := ZoI ZaV _

theorem ZmS  (N : Nat) : Fx Tryz.prog Zhm Tryz.f10 [] #[] (Zkq ) (Zju ) (Zaz  N) := by
 unfold Zaz
 refine ZdM (fun z0 c0 => ?_)
 cases z0 with
 | r0 =>
  exact Zt (r := (.r0 : Zd3)) (fu := 4000) (orc := (Zk [] [] [] [] [(170, (ZoW    188 187 189))])) (live := []) (u := vT) (bl := []) (ob := [(dP (Zkp #[vs 188 0 1 1, vn, vi (20 : Int)]    188 187 189), true), (dS [vs 187 0 68 68], true), (dS [vi (10 : Int), vq, vq, vq, vi (1 : Int), vi (1 : Int), vi (5 : Int), vq, vi (1 : Int), vi (2 : Int), vi (3 : Int), vq, vi (1 : Int), vi (3 : Int), vi (1 : Int), vq, vi (15 : Int), vq, vq, vq, vi (13 : Int), vi (6 : Int), vq, vi (10 : Int), vi (6 : Int), vi (5 : Int), vi (6 : Int), vi (2 : Int), vi (9 : Int), vi (5 : Int), vi (19 : Int), vq, vi (11 : Int), vi (4 : Int), vi (2 : Int), vi (1 : Int), vi (14 : Int), vi (4 : Int), vi (1 : Int), vi (1 : Int), vi (13 : Int), vi (5 : Int), vq, vi (5 : Int), vi (9 : Int), vi (5 : Int), vi (14 : Int), vq, vi (14 : Int), vi (5 : Int), vq, vi (4 : Int), vi (8 : Int), vi (15 : Int), vq, vq, vi (14 : Int), vq, vi (4 : Int), vi (4 : Int), vi (14 : Int), vq, vi (5 : Int), vi (4 : Int), vi (4 : Int), vi (6 : Int), vi (6 : Int), vi (3 : Int), vi (14 : Int), vq, vi (10 : Int), vi (6 : Int), vi (8 : Int), vi (20 : Int), vq, vq, vi (18 : Int), vq, vq, vq, vi (1 : Int), vi (7 : Int), vi (1 : Int), vq, vi (17 : Int), vq, vq, vq, vi (19 : Int), vi (7 : Int), vq, vq, vi (10 : Int), vq, vq, vq, vi (1 : Int), vi (1 : Int), vi (6 : Int), vq, vi (1 : Int), vi (2 : Int), vi (3 : Int), vq, vi (1 : Int), vi (3 : Int), vi (1 : Int), vq, vi (15 : Int), vq, vq, vq, vi (13 : Int), vi (6 : Int), vq, vi (10 : Int), vi (6 : Int), vi (5 : Int), vi (6 : Int), vi (2 : Int), vi (9 : Int), vi (5 : Int), vi (42 : Int), vq, vi (11 : Int), vi (4 : Int), vi (2 : Int), vi (1 : Int), vi (14 : Int), vi (4 : Int), vi (1 : Int), vi (1 : Int), vi (13 : Int), vi (5 : Int), vq, vi (5 : Int), vi (9 : Int), vi (5 : Int), vi (37 : Int), vq, vi (14 : Int), vi (5 : Int), vq, vi (4 : Int), vi (8 : Int), vi (38 : Int), vq, vq, vi (14 : Int), vq, vi (4 : Int), vi (4 : Int), vi (14 : Int), vq, vi (5 : Int), vi (4 : Int), vi (4 : Int), vi (6 : Int), vi (6 : Int), vi (3 : Int), vi (14 : Int), vq, vi (10 : Int), vi (6 : Int), vi (8 : Int), vi (43 : Int), vq, vq, vi (18 : Int), vq, vq, vq, vi (1 : Int), vi (7 : Int), vi (1 : Int), vq, vi (17 : Int), vq, vq, vq, vi (19 : Int), vi (7 : Int), vq, vq, vi (10 : Int), vq, vq, vq, vi (1 : Int), vi (1 : Int), vq, vq, vi (1 : Int), vi (2 : Int), vq, vq, vi (1 : Int), vi (3 : Int), vi (1 : Int), vq, vi (15 : Int), vq, vq, vq, vi (13 : Int), vi (4 : Int), vq, vi (4 : Int), vi (9 : Int), vi (4 : Int), vi (64 : Int), vq, vi (13 : Int), vi (7 : Int), vi (4 : Int), vi (1 : Int), vi (13 : Int), vi (5 : Int), vi (4 : Int), vq, vi (14 : Int), vq, vi (4 : Int), vi (5 : Int), vi (9 : Int), vi (5 : Int), vi (58 : Int), vq, vi (8 : Int), vi (59 : Int), vq, vq, vi (14 : Int), vq, vi (5 : Int), vi (5 : Int), vi (13 : Int), vi (6 : Int), vq, vi (10 : Int), vi (5 : Int), vi (6 : Int), vi (6 : Int), vi (3 : Int), vi (14 : Int), vq, vi (10 : Int), vi (6 : Int), vi (12 : Int), vi (4 : Int), vq, vq, vi (8 : Int), vi (65 : Int), vq, vq, vi (18 : Int), vq, vq, vq, vi (17 : Int), vq, vq, vq, vi (19 : Int), vi (7 : Int), vq, vq, vi (20 : Int), vq, vq, vq], true)]) (by kernel_rfl) (Zd (Zm (ZoX #[vs 188 0 1 1, vn, vi (20 : Int)]    N c0 188 187 189 rfl (by decide) (by decide))) <| Zd (Zm (Za rfl rfl)) <| Zd (Zm (Za rfl (Za rfl (Za rfl (Za rfl (Za rfl (Za rfl (Za rfl (Za rfl (Za rfl (Za rfl (Za rfl (Za rfl (Za rfl (Za rfl (Za rfl (Za rfl (Za rfl (Za rfl (Za rfl (Za rfl (Za rfl (Za rfl (Za rfl (Za rfl (Za rfl (Za rfl (Za rfl (Za rfl (Za rfl (Za rfl (Za rfl (Za rfl (Za rfl (Za rfl (Za rfl (Za rfl (Za rfl (Za rfl (Za rfl (Za rfl (Za rfl (Za rfl (Za rfl (Za rfl (Za rfl (Za rfl (Za rfl (Za rfl (Za rfl (Za rfl (Za rfl (Za rfl (Za rfl (Za rfl (Za rfl (Za rfl (Za rfl (Za rfl (Za rfl (Za rfl (Za rfl (Za rfl (Za rfl (Za rfl (Za rfl (Za rfl (Za rfl (Za rfl (Za rfl (Za rfl (Za rfl (Za rfl (Za rfl (Za rfl (Za rfl (Za rfl (Za rfl (Za rfl (Za rfl (Za rfl (Za rfl (Za rfl (Za rfl (Za rfl (Za rfl (Za rfl (Za rfl (Za rfl (Za rfl (Za rfl (Za rfl (Za rfl (Za rfl (Za rfl (Za rfl (Za rfl (Za rfl (Za rfl (Za rfl (Za rfl (Za rfl (Za rfl (Za rfl (Za rfl (Za rfl (Za rfl (Za rfl (Za rfl (Za rfl (Za rfl (Za rfl (Za rfl (Za rfl (Za rfl (Za rfl (Za rfl (Za rfl (Za rfl (Za rfl (Za rfl (Za rfl (Za rfl (Za rfl (Za rfl (Za rfl (Za rfl (Za rfl (Za rfl (Za rfl (Za rfl (Za rfl (Za rfl (Za rfl (Za rfl (Za rfl (Za rfl (Za rfl (Za rfl (Za rfl (Za rfl (Za rfl (Za rfl (Za rfl (Za rfl (Za rfl (Za rfl (Za rfl (Za rfl (Za rfl (Za rfl (Za rfl (Za rfl (Za rfl (Za rfl (Za rfl (Za rfl (Za rfl (Za rfl (Za rfl (Za rfl (Za rfl (Za rfl (Za rfl (Za rfl (Za rfl (Za rfl (Za rfl (Za rfl (Za rfl (Za rfl (Za rfl (Za rfl (Za rfl (Za rfl (Za rfl (Za rfl (Za rfl (Za rfl (Za rfl (Za rfl (Za rfl (Za rfl (Za rfl (Za rfl (Za rfl (Za rfl (Za rfl (Za rfl (Za rfl (Za rfl (Za rfl (Za rfl (Za rfl (Za rfl (Za rfl (Za rfl (Za rfl (Za rfl (Za rfl (Za rfl (Za rfl (Za rfl (Za rfl (Za rfl (Za rfl (Za rfl (Za rfl (Za rfl (Za rfl (Za rfl (Za rfl (Za rfl (Za rfl (Za rfl (Za rfl (Za rfl (Za rfl (Za rfl (Za rfl (Za rfl (Za rfl (Za rfl (Za rfl (Za rfl (Za rfl (Za rfl (Za rfl (Za rfl (Za rfl (Za rfl (Za rfl (Za rfl (Za rfl (Za rfl (Za rfl (Za rfl (Za rfl (Za rfl (Za rfl (Za rfl (Za rfl (Za rfl (Za rfl (Za rfl (Za rfl (Za rfl (Za rfl (Za rfl (Za rfl (Za rfl (Za rfl (Za rfl (Za rfl (Za rfl (Za rfl (Za rfl (Za rfl (Za rfl (Za rfl (Za rfl (Za rfl (Za rfl (Za rfl (Za rfl (Za rfl (Za rfl (Za rfl (Za rfl (Za rfl (Za rfl (Za rfl (Za rfl rfl))))))))))))))))))))))))))))))))))))))))))))))))))))))))))))))))))))))))))))))))))))))))))))))))))))))))))))))))))))))))))))))))))))))))))))))))))))))))))))))))))))))))))))))))))))))))))))))))))))))))))))))))))))))))))))))))))))))))))))))))))))))))))))))))))))))))))))))))) Zf) rfl (by decide) (by rfl) rr trivial

theorem Zl7  (N : Nat) (r : Zd3) (h : Zaz  N = some r) : LSpec Tryz.prog 10 #[] [] (Zkq  r) (Zju  r) :=
 Zco Zmy Tryz.func10 (by kernel_rfl) (by kernel_rfl) (fun r => by cases r <;> exact Zay _ rfl) (ZmS  N) h

noncomputable def ZcZ  (n : Nat) : ZaL := .call [] (vT) [] 0
def ZcD (A : Array Value)  (n : Nat) : Prop := ZK Tryz.prog 10 A [] (vT) [] n 0

theorem Zda (A : Array Value)  (N : Nat) (h : Zaz  N = some (.r0)) (n : Nat) (hA : A = #[]) (hnd : ([] : List Nat).Nodup) (hlt : ∀ k ∈ ([] : List Nat), k < n) : ZcD A   n :=
 Zae hA (LSpec.callL (show LSpec Tryz.prog 10 #[] [] (vT) [] from Zl7  N _ h) [] n [] rfl hnd hlt (show 0 ≤ 0 from by decide) (show ∀ j ∈ ([] : List Nat), j < 0 from by decide) (by rfl) trivial (by rfl) trivial trivial rfl rfl rfl rfl rfl)

noncomputable def ZgX (a0 a1 a2 a3 a4 : Int) : Zg → Value
 | .r0 w0 => Value.bool w0
noncomputable def Zgt (a0 a1 a2 a3 a4 : Int) : Zg → List (Option AObj)
 | .r0 w0 => []

def ZkH : law32_FifoFormsX → Nat
 | .h1m0 v5 v6 v7 v8 => 1
 | .h1m1 v5 v6 v7 => 1
 | .h1m2 v5 v6 v7 => 1
 | .h1m3 v5 v6 => 1
 | .h1m4 v5 v6 => 1
 | .h1m5 v5 => 1
 | .h1m6 => 1
 | .h2m0 v5 v6 v7 v8 => 2
 | .h2m1 v5 v6 v7 => 2
 | .h2m2 v4 v5 v6 => 2
 | .h2m3 v3 v5 v6 => 2
 | .h2m4 v3 v4 v5 => 2
 | .h2m5 v3 v4 => 2
 | .h2m6 v5 v6 v7 v8 => 2
 | .h2m7 v5 v6 v7 => 2
 | .h2m8 v5 v6 => 2
 | .h2m9 v5 v6 => 2
 | .h2m10 v4 v5 => 2
 | .h2m11 v3 v4 => 2
 | .h2m12 v5 v6 v7 v8 => 2
 | .h2m13 v5 v6 v7 => 2
 | .h2m14 v5 v6 => 2
 | .h2m15 v5 v6 => 2
 | .h2m16 v4 v5 => 2
 | .h2m17 v3 v4 => 2
 | .h2m18 v5 v6 v7 v8 => 2
 | .h2m19 v5 v6 v7 => 2
 | .h2m20 v5 v6 => 2
 | .h2m21 v5 v6 => 2
 | .h2m22 v4 v5 => 2
 | .h2m23 v3 v4 => 2
 | .h2m24 v5 v6 v7 v8 => 2
 | .h2m25 v5 v6 v7 => 2
 | .h2m26 v5 v6 => 2
 | .h2m27 v5 v6 => 2
 | .h2m28 v4 v5 => 2
 | .h2m29 v3 v4 => 2
noncomputable def Zl8 (a0 a1 a2 a3 a4 : Int) : law32_FifoFormsX → List (Nat × Value)
 | .h1m0 v5 v6 v7 v8 => [(0, vi a0), (1, vi a1), (2, vi a2), (3, vi a3), (4, vi a4), (11, vp 0 0), (12, vp 1 0)]
 | .h1m1 v5 v6 v7 => [(0, vi a0), (1, vi a1), (2, vi a2), (3, vi a3), (4, vi a4), (11, vp 0 0), (12, vp 1 0)]
 | .h1m2 v5 v6 v7 => [(0, vi a0), (1, vi a1), (2, vi a2), (3, vi a3), (4, vi a4), (11, vp 0 0), (12, vp 1 0)]
 | .h1m3 v5 v6 => [(0, vi a0), (1, vi a1), (2, vi a2), (3, vi a3), (4, vi a4), (11, vp 0 0), (12, vp 1 0)]
 | .h1m4 v5 v6 => [(0, vi a0), (1, vi a1), (2, vi a2), (3, vi a3), (4, vi a4), (11, vp 0 0), (12, vp 1 0)]
 | .h1m5 v5 => [(0, vi a0), (1, vi a1), (2, vi a2), (3, vi a3), (4, vi a4), (11, vp 0 0), (12, vp 1 0)]
 | .h1m6 => [(0, vi a0), (1, vi a1), (2, vi a2), (3, vi a3), (4, vi a4), (11, vp 0 0), (12, vp 1 0)]
 | .h2m0 v5 v6 v7 v8 => [(0, vi a0), (1, vi a1), (2, vi a2), (11, vp 0 0), (12, vp 1 0), (13, vT), (14, vT), (15, vq)]
 | .h2m1 v5 v6 v7 => [(0, vi a0), (1, vi a1), (2, vi a2), (11, vp 0 0), (12, vp 1 0), (13, vT), (14, vT), (15, vq)]
 | .h2m2 v4 v5 v6 => [(0, vi a0), (1, vi a1), (2, vi a2), (11, vp 0 0), (12, vp 1 0), (13, vT), (14, Value.bool v4), (15, vq)]
 | .h2m3 v3 v5 v6 => [(0, vi a0), (1, vi a1), (2, vi a2), (11, vp 0 0), (12, vp 1 0), (13, Value.bool v3), (14, vT), (15, vq)]
 | .h2m4 v3 v4 v5 => [(0, vi a0), (1, vi a1), (2, vi a2), (11, vp 0 0), (12, vp 1 0), (13, Value.bool v3), (14, Value.bool v4), (15, vq)]
 | .h2m5 v3 v4 => [(0, vi a0), (1, vi a1), (2, vi a2), (11, vp 0 0), (12, vp 1 0), (13, Value.bool v3), (14, Value.bool v4), (15, vq)]
 | .h2m6 v5 v6 v7 v8 => [(0, vi a0), (1, vi a1), (2, vi a2), (11, vp 0 0), (12, vp 1 0), (13, vT), (14, vT), (15, vi (1 : Int))]
 | .h2m7 v5 v6 v7 => [(0, vi a0), (1, vi a1), (2, vi a2), (11, vp 0 0), (12, vp 1 0), (13, vT), (14, vT), (15, vi (1 : Int))]
 | .h2m8 v5 v6 => [(0, vi a0), (1, vi a1), (2, vi a2), (11, vp 0 0), (12, vp 1 0), (13, vT), (14, vf), (15, vi (1 : Int))]
 | .h2m9 v5 v6 => [(0, vi a0), (1, vi a1), (2, vi a2), (11, vp 0 0), (12, vp 1 0), (13, vf), (14, vT), (15, vi (1 : Int))]
 | .h2m10 v4 v5 => [(0, vi a0), (1, vi a1), (2, vi a2), (11, vp 0 0), (12, vp 1 0), (13, vf), (14, Value.bool v4), (15, vi (1 : Int))]
 | .h2m11 v3 v4 => [(0, vi a0), (1, vi a1), (2, vi a2), (11, vp 0 0), (12, vp 1 0), (13, Value.bool v3), (14, Value.bool v4), (15, vi (1 : Int))]
 | .h2m12 v5 v6 v7 v8 => [(0, vi a0), (1, vi a1), (2, vi a2), (11, vp 0 0), (12, vp 1 0), (13, vT), (14, vT), (15, vi (2 : Int))]
 | .h2m13 v5 v6 v7 => [(0, vi a0), (1, vi a1), (2, vi a2), (11, vp 0 0), (12, vp 1 0), (13, vT), (14, vT), (15, vi (2 : Int))]
 | .h2m14 v5 v6 => [(0, vi a0), (1, vi a1), (2, vi a2), (11, vp 0 0), (12, vp 1 0), (13, vT), (14, vf), (15, vi (2 : Int))]
 | .h2m15 v5 v6 => [(0, vi a0), (1, vi a1), (2, vi a2), (11, vp 0 0), (12, vp 1 0), (13, vf), (14, vT), (15, vi (2 : Int))]
 | .h2m16 v4 v5 => [(0, vi a0), (1, vi a1), (2, vi a2), (11, vp 0 0), (12, vp 1 0), (13, vf), (14, Value.bool v4), (15, vi (2 : Int))]
 | .h2m17 v3 v4 => [(0, vi a0), (1, vi a1), (2, vi a2), (11, vp 0 0), (12, vp 1 0), (13, Value.bool v3), (14, Value.bool v4), (15, vi (2 : Int))]
 | .h2m18 v5 v6 v7 v8 => [(0, vi a0), (1, vi a1), (2, vi a2), (11, vp 0 0), (12, vp 1 0), (13, vT), (14, vT), (15, vi (3 : Int))]
 | .h2m19 v5 v6 v7 => [(0, vi a0), (1, vi a1), (2, vi a2), (11, vp 0 0), (12, vp 1 0), (13, vT), (14, vT), (15, vi (3 : Int))]
 | .h2m20 v5 v6 => [(0, vi a0), (1, vi a1), (2, vi a2), (11, vp 0 0), (12, vp 1 0), (13, vT), (14, vf), (15, vi (3 : Int))]
 | .h2m21 v5 v6 => [(0, vi a0), (1, vi a1), (2, vi a2), (11, vp 0 0), (12, vp 1 0), (13, vf), (14, vT), (15, vi (3 : Int))]
 | .h2m22 v4 v5 => [(0, vi a0), (1, vi a1), (2, vi a2), (11, vp 0 0), (12, vp 1 0), (13, vf), (14, Value.bool v4), (15, vi (3 : Int))]
 | .h2m23 v3 v4 => [(0, vi a0), (1, vi a1), (2, vi a2), (11, vp 0 0), (12, vp 1 0), (13, Value.bool v3), (14, Value.bool v4), (15, vi (3 : Int))]
 | .h2m24 v5 v6 v7 v8 => [(0, vi a0), (1, vi a1), (2, vi a2), (11, vp 0 0), (12, vp 1 0), (13, vT), (14, vT), (15, vi (4 : Int))]
 | .h2m25 v5 v6 v7 => [(0, vi a0), (1, vi a1), (2, vi a2), (11, vp 0 0), (12, vp 1 0), (13, vT), (14, vT), (15, vi (4 : Int))]
 | .h2m26 v5 v6 => [(0, vi a0), (1, vi a1), (2, vi a2), (11, vp 0 0), (12, vp 1 0), (13, vT), (14, vf), (15, vi (4 : Int))]
 | .h2m27 v5 v6 => [(0, vi a0), (1, vi a1), (2, vi a2), (11, vp 0 0), (12, vp 1 0), (13, vf), (14, vT), (15, vi (4 : Int))]
 | .h2m28 v4 v5 => [(0, vi a0), (1, vi a1), (2, vi a2), (11, vp 0 0), (12, vp 1 0), (13, vf), (14, Value.bool v4), (15, vi (4 : Int))]
 | .h2m29 v3 v4 => [(0, vi a0), (1, vi a1), (2, vi a2), (11, vp 0 0), (12, vp 1 0), (13, Value.bool v3), (14, Value.bool v4), (15, vi (4 : Int))]
noncomputable def Zl9 (a0 a1 a2 a3 a4 : Int) : law32_FifoFormsX → List (Option AObj)
 | .h1m0 v5 v6 v7 v8 => [some (.cells [vs 2 0 v5.length v5.length, vs 3 0 v6.length v6.length, vs 4 0 v7.length v7.length, vs 5 0 v8.length v8.length] 23), some (.cells [vq, vq, vq, vq] 25), some (.cells (Ze Zb v5) 57), some (.cells (Ze Zb v6) 57), some (.cells (Ze Zb v7) 57), some (.cells (Ze Zb v8) 57)]
 | .h1m1 v5 v6 v7 => [some (.cells [vs 2 0 v5.length v5.length, vs 3 0 v6.length v6.length, vs 4 0 v7.length v7.length, vn] 23), some (.cells [vq, vq, vq, vi (240 : Int)] 25), some (.cells (Ze Zb v5) 57), some (.cells (Ze Zb v6) 57), some (.cells (Ze Zb v7) 57)]
 | .h1m2 v5 v6 v7 => [some (.cells [vn, vs 2 0 v5.length v5.length, vs 3 0 v6.length v6.length, vs 4 0 v7.length v7.length] 23), some (.cells [vi (240 : Int), vq, vq, vq] 25), some (.cells (Ze Zb v5) 57), some (.cells (Ze Zb v6) 57), some (.cells (Ze Zb v7) 57)]
 | .h1m3 v5 v6 => [some (.cells [vn, vs 2 0 v5.length v5.length, vs 3 0 v6.length v6.length, vn] 23), some (.cells [vi (240 : Int), vq, vq, vi (240 : Int)] 25), some (.cells (Ze Zb v5) 57), some (.cells (Ze Zb v6) 57)]
 | .h1m4 v5 v6 => [some (.cells [vn, vs 2 0 v5.length v5.length, vn, vs 3 0 v6.length v6.length] 23), some (.cells [vi (240 : Int), vq, vi (240 : Int), vq] 25), some (.cells (Ze Zb v5) 57), some (.cells (Ze Zb v6) 57)]
 | .h1m5 v5 => [some (.cells [vn, vs 2 0 v5.length v5.length, vn, vn] 23), some (.cells [vi (240 : Int), vq, vi (240 : Int), vi (240 : Int)] 25), some (.cells (Ze Zb v5) 57)]
 | .h1m6 => [some (.cells [vn, vn, vn, vn] 23), some ZJ]
 | .h2m0 v5 v6 v7 v8 => [some (.cells [vs 2 0 v5.length v5.length, vs 3 0 v6.length v6.length, vs 4 0 v7.length v7.length, vs 5 0 v8.length v8.length] 23), some (.cells [vq, vq, vq, vq] 25), some (.cells (Ze Zb v5) 57), some (.cells (Ze Zb v6) 57), some (.cells (Ze Zb v7) 57), some (.cells (Ze Zb v8) 57)]
 | .h2m1 v5 v6 v7 => [some (.cells [vs 2 0 v5.length v5.length, vs 3 0 v6.length v6.length, vs 4 0 v7.length v7.length, vn] 23), some (.cells [vq, vq, vq, vi (240 : Int)] 25), some (.cells (Ze Zb v5) 57), some (.cells (Ze Zb v6) 57), some (.cells (Ze Zb v7) 57)]
 | .h2m2 v4 v5 v6 => [some (.cells [vn, vs 2 0 v5.length v5.length, vs 3 0 v6.length v6.length, vn] 23), some (.cells [vi (240 : Int), vq, vq, vi (240 : Int)] 25), some (.cells (Ze Zb v5) 57), some (.cells (Ze Zb v6) 57)]
 | .h2m3 v3 v5 v6 => [some (.cells [vn, vs 2 0 v5.length v5.length, vn, vs 3 0 v6.length v6.length] 23), some (.cells [vi (240 : Int), vq, vi (240 : Int), vq] 25), some (.cells (Ze Zb v5) 57), some (.cells (Ze Zb v6) 57)]
 | .h2m4 v3 v4 v5 => [some (.cells [vn, vs 2 0 v5.length v5.length, vn, vn] 23), some (.cells [vi (240 : Int), vq, vi (240 : Int), vi (240 : Int)] 25), some (.cells (Ze Zb v5) 57)]
 | .h2m5 v3 v4 => [some (.cells [vn, vn, vn, vn] 23), some ZJ]
 | .h2m6 v5 v6 v7 v8 => [some (.cells [vs 2 0 v5.length v5.length, vs 3 0 v6.length v6.length, vs 4 0 v7.length v7.length, vs 5 0 v8.length v8.length] 23), some (.cells [vq, vq, vq, vq] 25), some (.cells (Ze Zb v5) 57), some (.cells (Ze Zb v6) 57), some (.cells (Ze Zb v7) 57), some (.cells (Ze Zb v8) 57)]
 | .h2m7 v5 v6 v7 => [some (.cells [vs 2 0 v5.length v5.length, vs 3 0 v6.length v6.length, vs 4 0 v7.length v7.length, vn] 23), some (.cells [vq, vq, vq, vi (240 : Int)] 25), some (.cells (Ze Zb v5) 57), some (.cells (Ze Zb v6) 57), some (.cells (Ze Zb v7) 57)]
 | .h2m8 v5 v6 => [some (.cells [vn, vs 2 0 v5.length v5.length, vs 3 0 v6.length v6.length, vn] 23), some (.cells [vi (240 : Int), vq, vq, vi (240 : Int)] 25), some (.cells (Ze Zb v5) 57), some (.cells (Ze Zb v6) 57)]
 | .h2m9 v5 v6 => [some (.cells [vn, vs 2 0 v5.length v5.length, vn, vs 3 0 v6.length v6.length] 23), some (.cells [vi (240 : Int), vq, vi (240 : Int), vq] 25), some (.cells (Ze Zb v5) 57), some (.cells (Ze Zb v6) 57)]
 | .h2m10 v4 v5 => [some (.cells [vn, vs 2 0 v5.length v5.length, vn, vn] 23), some (.cells [vi (240 : Int), vq, vi (240 : Int), vi (240 : Int)] 25), some (.cells (Ze Zb v5) 57)]
 | .h2m11 v3 v4 => [some (.cells [vn, vn, vn, vn] 23), some ZJ]
 | .h2m12 v5 v6 v7 v8 => [some (.cells [vs 2 0 v5.length v5.length, vs 3 0 v6.length v6.length, vs 4 0 v7.length v7.length, vs 5 0 v8.length v8.length] 23), some (.cells [vq, vq, vq, vq] 25), some (.cells (Ze Zb v5) 57), some (.cells (Ze Zb v6) 57), some (.cells (Ze Zb v7) 57), some (.cells (Ze Zb v8) 57)]
 | .h2m13 v5 v6 v7 => [some (.cells [vs 2 0 v5.length v5.length, vs 3 0 v6.length v6.length, vs 4 0 v7.length v7.length, vn] 23), some (.cells [vq, vq, vq, vi (240 : Int)] 25), some (.cells (Ze Zb v5) 57), some (.cells (Ze Zb v6) 57), some (.cells (Ze Zb v7) 57)]
 | .h2m14 v5 v6 => [some (.cells [vn, vs 2 0 v5.length v5.length, vs 3 0 v6.length v6.length, vn] 23), some (.cells [vi (240 : Int), vq, vq, vi (240 : Int)] 25), some (.cells (Ze Zb v5) 57), some (.cells (Ze Zb v6) 57)]
 | .h2m15 v5 v6 => [some (.cells [vn, vs 2 0 v5.length v5.length, vn, vs 3 0 v6.length v6.length] 23), some (.cells [vi (240 : Int), vq, vi (240 : Int), vq] 25), some (.cells (Ze Zb v5) 57), some (.cells (Ze Zb v6) 57)]
 | .h2m16 v4 v5 => [some (.cells [vn, vs 2 0 v5.length v5.length, vn, vn] 23), some (.cells [vi (240 : Int), vq, vi (240 : Int), vi (240 : Int)] 25), some (.cells (Ze Zb v5) 57)]
 | .h2m17 v3 v4 => [some (.cells [vn, vn, vn, vn] 23), some ZJ]
 | .h2m18 v5 v6 v7 v8 => [some (.cells [vs 2 0 v5.length v5.length, vs 3 0 v6.length v6.length, vs 4 0 v7.length v7.length, vs 5 0 v8.length v8.length] 23), some (.cells [vq, vq, vq, vq] 25), some (.cells (Ze Zb v5) 57), some (.cells (Ze Zb v6) 57), some (.cells (Ze Zb v7) 57), some (.cells (Ze Zb v8) 57)]
 | .h2m19 v5 v6 v7 => [some (.cells [vs 2 0 v5.length v5.length, vs 3 0 v6.length v6.length, vs 4 0 v7.length v7.length, vn] 23), some (.cells [vq, vq, vq, vi (240 : Int)] 25), some (.cells (Ze Zb v5) 57), some (.cells (Ze Zb v6) 57), some (.cells (Ze Zb v7) 57)]
 | .h2m20 v5 v6 => [some (.cells [vn, vs 2 0 v5.length v5.length, vs 3 0 v6.length v6.length, vn] 23), some (.cells [vi (240 : Int), vq, vq, vi (240 : Int)] 25), some (.cells (Ze Zb v5) 57), some (.cells (Ze Zb v6) 57)]
 | .h2m21 v5 v6 => [some (.cells [vn, vs 2 0 v5.length v5.length, vn, vs 3 0 v6.length v6.length] 23), some (.cells [vi (240 : Int), vq, vi (240 : Int), vq] 25), some (.cells (Ze Zb v5) 57), some (.cells (Ze Zb v6) 57)]
 | .h2m22 v4 v5 => [some (.cells [vn, vs 2 0 v5.length v5.length, vn, vn] 23), some (.cells [vi (240 : Int), vq, vi (240 : Int), vi (240 : Int)] 25), some (.cells (Ze Zb v5) 57)]
 | .h2m23 v3 v4 => [some (.cells [vn, vn, vn, vn] 23), some ZJ]
 | .h2m24 v5 v6 v7 v8 => [some (.cells [vs 2 0 v5.length v5.length, vs 3 0 v6.length v6.length, vs 4 0 v7.length v7.length, vs 5 0 v8.length v8.length] 23), some (.cells [vq, vq, vq, vq] 25), some (.cells (Ze Zb v5) 57), some (.cells (Ze Zb v6) 57), some (.cells (Ze Zb v7) 57), some (.cells (Ze Zb v8) 57)]
 | .h2m25 v5 v6 v7 => [some (.cells [vs 2 0 v5.length v5.length, vs 3 0 v6.length v6.length, vs 4 0 v7.length v7.length, vn] 23), some (.cells [vq, vq, vq, vi (240 : Int)] 25), some (.cells (Ze Zb v5) 57), some (.cells (Ze Zb v6) 57), some (.cells (Ze Zb v7) 57)]
 | .h2m26 v5 v6 => [some (.cells [vn, vs 2 0 v5.length v5.length, vs 3 0 v6.length v6.length, vn] 23), some (.cells [vi (240 : Int), vq, vq, vi (240 : Int)] 25), some (.cells (Ze Zb v5) 57), some (.cells (Ze Zb v6) 57)]
 | .h2m27 v5 v6 => [some (.cells [vn, vs 2 0 v5.length v5.length, vn, vs 3 0 v6.length v6.length] 23), some (.cells [vi (240 : Int), vq, vi (240 : Int), vq] 25), some (.cells (Ze Zb v5) 57), some (.cells (Ze Zb v6) 57)]
 | .h2m28 v4 v5 => [some (.cells [vn, vs 2 0 v5.length v5.length, vn, vn] 23), some (.cells [vi (240 : Int), vq, vi (240 : Int), vi (240 : Int)] 25), some (.cells (Ze Zb v5) 57)]
 | .h2m29 v3 v4 => [some (.cells [vn, vn, vn, vn] 23), some ZJ]

noncomputable def Zj : Nat → Code × List ZaD
 | 1 => ZjS [1, 1, 1, 1, 1, 1, 1] (ZcU Tryz.f3) []
 | 2 => ZbQ [1, 1, 1, 1, 1, 1, 1, 1, 1, 0, 1, 3] (ZcU Tryz.f3) []
 | _ => (.skip, [])
def Zgu : Nat → Bool
 | 1 => false
 | 2 => true
 | _ => true
noncomputable def Zh (i : Nat) : List ZaD := match Zgu i with | true => .rnd i :: (Zj i).2 | false => (Zj i).2

noncomputable def Zc (a0 a1 a2 a3 a4 : Int) (N : Nat) : Mach := ⟨Tryz.f3, [], law32_FifoFormsX, Zg, Zp a0 a1 a2 a3 a4 N, ZkH, Zj, Zgu, Zl8 a0 a1 a2 a3 a4, Zl9 a0 a1 a2 a3 a4, ZgX a0 a1 a2 a3 a4, Zgt a0 a1 a2 a3 a4⟩

theorem Ziq (a0 a1 a2 a3 a4 : Int) (v5 v6 v7 v8 : List RA) (N : Nat) : (Zc a0 a1 a2 a3 a4 N).Ok Tryz.prog Zo (.h1m0 v5 v6 v7 v8 : law32_FifoFormsX) (Zp a0 a1 a2 a3 a4 N (.h1m0 v5 v6 v7 v8 : law32_FifoFormsX)) := by
 show (Zc a0 a1 a2 a3 a4 N).Ok Tryz.prog Zo (.h1m0 v5 v6 v7 v8 : law32_FifoFormsX) (ZbV a0 a1 a2 a3 a4 N v5 v6 v7 v8)
 unfold ZbV
 refine Mach.ok_ite (fun g0 => ?_) (fun g0 => ?_)
 ·
  refine Mach.ok_ite (fun g1 => ?_) (fun g1 => ?_)
  ·
   refine Mach.ok_ite (fun g2 => ?_) (fun g2 => ?_)
   ·
    refine Mach.ok_ite (fun g3 => ?_) (fun g3 => ?_)
    ·
     exact Mach.ok_head (bK := Zj 2) (M := Zc a0 a1 a2 a3 a4 N) (cd := 1000000) (cm := 0) (y := (.h2m0 (v5) (v6) (v7) (v8) : law32_FifoFormsX)) (fu := 4000) (orc := (Zk [(0, true), (1, true), (2, true), (3, true)] [] [] [] [])) (live := [0, 1, 2, 3, 4, 5]) (tv := fun _ => [some (vi a0), some (vi a1), some (vi a2), some (vp 0 0), some (vp 1 0), some (vT), some (vT), some (vq)]) (bl := [some (.cells [vs 2 0 v5.length v5.length, vs 3 0 v6.length v6.length, vs 4 0 v7.length v7.length, vs 5 0 v8.length v8.length] 23), some (.cells [vq, vq, vq, vq] 25), some (.cells (Ze Zb v5) 57), some (.cells (Ze Zb v6) 57), some (.cells (Ze Zb v7) 57), some (.cells (Ze Zb v8) 57)]) (ob := [((decide (a4 ≤ (1099511627776 : Int))), true), ((decide (a4 ≥ (1 : Int))), true), ((decide (a3 ≤ (1099511627776 : Int))), true), ((decide (a3 ≥ (-1099511627776 : Int))), true)]) rfl rfl (show ∀ j ∈ Zl (Zj 2).2, j ∈ Zl (Zh 1) from by decide +kernel) (fun gv => by kernel_rfl) (oY <| oY <| oY <| oY Zf) rfl (by decide) (by rfl) (fun _ => ⟨rr, ⟨rr, ⟨rr, ⟨rr, ⟨rr, ⟨rr, ⟨rr, ⟨rr, trivial⟩⟩⟩⟩⟩⟩⟩⟩) ⟨⟨rfl, ⟨[], by rfl⟩, by rfl⟩, ⟨⟨rfl, ⟨[], by rfl⟩, by rfl⟩, ⟨(Zi (E := Zb) (α := RA) _ v5 _), ⟨(Zi (E := Zb) (α := RA) _ v6 _), ⟨(Zi (E := Zb) (α := RA) _ v7 _), ⟨(Zi (E := Zb) (α := RA) _ v8 _), trivial⟩⟩⟩⟩⟩⟩
    ·
     exact Mach.ok_none
   ·
    exact Mach.ok_none
  ·
   exact Mach.ok_none
 ·
  exact Mach.ok_none

theorem Zir (a0 a1 a2 a3 a4 : Int) (v5 v6 v7 : List RA) (N : Nat) : (Zc a0 a1 a2 a3 a4 N).Ok Tryz.prog Zo (.h1m1 v5 v6 v7 : law32_FifoFormsX) (Zp a0 a1 a2 a3 a4 N (.h1m1 v5 v6 v7 : law32_FifoFormsX)) := by
 show (Zc a0 a1 a2 a3 a4 N).Ok Tryz.prog Zo (.h1m1 v5 v6 v7 : law32_FifoFormsX) (ZbW a0 a1 a2 a3 a4 N v5 v6 v7)
 unfold ZbW
 refine Mach.ok_ite (fun g0 => ?_) (fun g0 => ?_)
 ·
  refine Mach.ok_ite (fun g1 => ?_) (fun g1 => ?_)
  ·
   refine Mach.ok_ite (fun g2 => ?_) (fun g2 => ?_)
   ·
    refine Mach.ok_ite (fun g3 => ?_) (fun g3 => ?_)
    ·
     exact Mach.ok_head (bK := Zj 2) (M := Zc a0 a1 a2 a3 a4 N) (cd := 1000000) (cm := 0) (y := (.h2m1 (v5) (v6) (v7) : law32_FifoFormsX)) (fu := 4000) (orc := (Zk [(0, true), (1, true), (2, true), (3, true)] [] [] [] [])) (live := [0, 1, 2, 3, 4]) (tv := fun _ => [some (vi a0), some (vi a1), some (vi a2), some (vp 0 0), some (vp 1 0), some (vT), some (vT), some (vq)]) (bl := [some (.cells [vs 2 0 v5.length v5.length, vs 3 0 v6.length v6.length, vs 4 0 v7.length v7.length, vn] 23), some (.cells [vq, vq, vq, vi (240 : Int)] 25), some (.cells (Ze Zb v5) 57), some (.cells (Ze Zb v6) 57), some (.cells (Ze Zb v7) 57)]) (ob := [((decide (a4 ≤ (1099511627776 : Int))), true), ((decide (a4 ≥ (1 : Int))), true), ((decide (a3 ≤ (1099511627776 : Int))), true), ((decide (a3 ≥ (-1099511627776 : Int))), true)]) rfl rfl (show ∀ j ∈ Zl (Zj 2).2, j ∈ Zl (Zh 1) from by decide +kernel) (fun gv => by kernel_rfl) (oY <| oY <| oY <| oY Zf) rfl (by decide) (by rfl) (fun _ => ⟨rr, ⟨rr, ⟨rr, ⟨rr, ⟨rr, ⟨rr, ⟨rr, ⟨rr, trivial⟩⟩⟩⟩⟩⟩⟩⟩) ⟨⟨rfl, ⟨[], by rfl⟩, by rfl⟩, ⟨⟨rfl, ⟨[], by rfl⟩, by rfl⟩, ⟨(Zi (E := Zb) (α := RA) _ v5 _), ⟨(Zi (E := Zb) (α := RA) _ v6 _), ⟨(Zi (E := Zb) (α := RA) _ v7 _), trivial⟩⟩⟩⟩⟩
    ·
     exact Mach.ok_none
   ·
    exact Mach.ok_none
  ·
   exact Mach.ok_none
 ·
  exact Mach.ok_none

theorem Zis (a0 a1 a2 a3 a4 : Int) (v5 v6 v7 : List RA) (N : Nat) : (Zc a0 a1 a2 a3 a4 N).Ok Tryz.prog Zo (.h1m2 v5 v6 v7 : law32_FifoFormsX) (Zp a0 a1 a2 a3 a4 N (.h1m2 v5 v6 v7 : law32_FifoFormsX)) := by
 show (Zc a0 a1 a2 a3 a4 N).Ok Tryz.prog Zo (.h1m2 v5 v6 v7 : law32_FifoFormsX) (ZdG a0 a1 a2 a3 a4 N v5 v6 v7)
 unfold ZdG
 exact Mach.ok_none

theorem Zit (a0 a1 a2 a3 a4 : Int) (v5 v6 : List RA) (N : Nat) : (Zc a0 a1 a2 a3 a4 N).Ok Tryz.prog Zo (.h1m3 v5 v6 : law32_FifoFormsX) (Zp a0 a1 a2 a3 a4 N (.h1m3 v5 v6 : law32_FifoFormsX)) := by
 show (Zc a0 a1 a2 a3 a4 N).Ok Tryz.prog Zo (.h1m3 v5 v6 : law32_FifoFormsX) (ZbX a0 a1 a2 a3 a4 N v5 v6)
 unfold ZbX
 refine Mach.ok_ite (fun g0 => ?_) (fun g0 => ?_)
 ·
  refine Mach.ok_ite (fun g1 => ?_) (fun g1 => ?_)
  ·
   refine Mach.ok_ite (fun g2 => ?_) (fun g2 => ?_)
   ·
    refine Mach.ok_ite (fun g3 => ?_) (fun g3 => ?_)
    ·
     exact Mach.ok_head (bK := Zj 2) (M := Zc a0 a1 a2 a3 a4 N) (cd := 1000000) (cm := 0) (y := (.h2m2 (true) (v5) (v6) : law32_FifoFormsX)) (fu := 4000) (orc := (Zk [(0, true), (1, true), (2, true), (3, true)] [] [] [] [])) (live := [0, 1, 2, 3]) (tv := fun _ => [some (vi a0), some (vi a1), some (vi a2), some (vp 0 0), some (vp 1 0), some (vT), some (vT), some (vq)]) (bl := [some (.cells [vn, vs 2 0 v5.length v5.length, vs 3 0 v6.length v6.length, vn] 23), some (.cells [vi (240 : Int), vq, vq, vi (240 : Int)] 25), some (.cells (Ze Zb v5) 57), some (.cells (Ze Zb v6) 57)]) (ob := [((decide (a4 ≤ (1099511627776 : Int))), true), ((decide (a4 ≥ (1 : Int))), true), ((decide (a3 ≤ (1099511627776 : Int))), true), ((decide (a3 ≥ (-1099511627776 : Int))), true)]) rfl rfl (show ∀ j ∈ Zl (Zj 2).2, j ∈ Zl (Zh 1) from by decide +kernel) (fun gv => by kernel_rfl) (oY <| oY <| oY <| oY Zf) rfl (by decide) (by rfl) (fun _ => ⟨rr, ⟨rr, ⟨rr, ⟨rr, ⟨rr, ⟨rr, ⟨rr, ⟨rr, trivial⟩⟩⟩⟩⟩⟩⟩⟩) ⟨⟨rfl, ⟨[], by rfl⟩, by rfl⟩, ⟨⟨rfl, ⟨[], by rfl⟩, by rfl⟩, ⟨(Zi (E := Zb) (α := RA) _ v5 _), ⟨(Zi (E := Zb) (α := RA) _ v6 _), trivial⟩⟩⟩⟩
    ·
     exact Mach.ok_head (bK := Zj 2) (M := Zc a0 a1 a2 a3 a4 N) (cd := 1000000) (cm := 0) (y := (.h2m2 (false) (v5) (v6) : law32_FifoFormsX)) (fu := 4000) (orc := (Zk [(0, true), (1, true), (2, true), (3, false)] [] [] [] [])) (live := [0, 1, 2, 3]) (tv := fun _ => [some (vi a0), some (vi a1), some (vi a2), some (vp 0 0), some (vp 1 0), some (vT), some (vf), some (vq)]) (bl := [some (.cells [vn, vs 2 0 v5.length v5.length, vs 3 0 v6.length v6.length, vn] 23), some (.cells [vi (240 : Int), vq, vq, vi (240 : Int)] 25), some (.cells (Ze Zb v5) 57), some (.cells (Ze Zb v6) 57)]) (ob := [((decide (a4 ≤ (1099511627776 : Int))), false), ((decide (a4 ≥ (1 : Int))), true), ((decide (a3 ≤ (1099511627776 : Int))), true), ((decide (a3 ≥ (-1099511627776 : Int))), true)]) rfl rfl (show ∀ j ∈ Zl (Zj 2).2, j ∈ Zl (Zh 1) from by decide +kernel) (fun gv => by kernel_rfl) (oN <| oY <| oY <| oY Zf) rfl (by decide) (by rfl) (fun _ => ⟨rr, ⟨rr, ⟨rr, ⟨rr, ⟨rr, ⟨rr, ⟨rr, ⟨rr, trivial⟩⟩⟩⟩⟩⟩⟩⟩) ⟨⟨rfl, ⟨[], by rfl⟩, by rfl⟩, ⟨⟨rfl, ⟨[], by rfl⟩, by rfl⟩, ⟨(Zi (E := Zb) (α := RA) _ v5 _), ⟨(Zi (E := Zb) (α := RA) _ v6 _), trivial⟩⟩⟩⟩
   ·
    exact Mach.ok_head (bK := Zj 2) (M := Zc a0 a1 a2 a3 a4 N) (cd := 1000000) (cm := 0) (y := (.h2m2 (false) (v5) (v6) : law32_FifoFormsX)) (fu := 4000) (orc := (Zk [(0, true), (1, true), (2, false)] [] [] [] [])) (live := [0, 1, 2, 3]) (tv := fun _ => [some (vi a0), some (vi a1), some (vi a2), some (vp 0 0), some (vp 1 0), some (vT), some (vf), some (vq)]) (bl := [some (.cells [vn, vs 2 0 v5.length v5.length, vs 3 0 v6.length v6.length, vn] 23), some (.cells [vi (240 : Int), vq, vq, vi (240 : Int)] 25), some (.cells (Ze Zb v5) 57), some (.cells (Ze Zb v6) 57)]) (ob := [((decide (a4 ≥ (1 : Int))), false), ((decide (a3 ≤ (1099511627776 : Int))), true), ((decide (a3 ≥ (-1099511627776 : Int))), true)]) rfl rfl (show ∀ j ∈ Zl (Zj 2).2, j ∈ Zl (Zh 1) from by decide +kernel) (fun gv => by kernel_rfl) (oN <| oY <| oY Zf) rfl (by decide) (by rfl) (fun _ => ⟨rr, ⟨rr, ⟨rr, ⟨rr, ⟨rr, ⟨rr, ⟨rr, ⟨rr, trivial⟩⟩⟩⟩⟩⟩⟩⟩) ⟨⟨rfl, ⟨[], by rfl⟩, by rfl⟩, ⟨⟨rfl, ⟨[], by rfl⟩, by rfl⟩, ⟨(Zi (E := Zb) (α := RA) _ v5 _), ⟨(Zi (E := Zb) (α := RA) _ v6 _), trivial⟩⟩⟩⟩
  ·
   exact Mach.ok_none
 ·
  exact Mach.ok_none

theorem Ziu (a0 a1 a2 a3 a4 : Int) (v5 v6 : List RA) (N : Nat) : (Zc a0 a1 a2 a3 a4 N).Ok Tryz.prog Zo (.h1m4 v5 v6 : law32_FifoFormsX) (Zp a0 a1 a2 a3 a4 N (.h1m4 v5 v6 : law32_FifoFormsX)) := by
 show (Zc a0 a1 a2 a3 a4 N).Ok Tryz.prog Zo (.h1m4 v5 v6 : law32_FifoFormsX) (ZbY a0 a1 a2 a3 a4 N v5 v6)
 unfold ZbY
 refine Mach.ok_ite (fun g0 => ?_) (fun g0 => ?_)
 ·
  refine Mach.ok_ite (fun g1 => ?_) (fun g1 => ?_)
  ·
   refine Mach.ok_ite (fun g2 => ?_) (fun g2 => ?_)
   ·
    refine Mach.ok_ite (fun g3 => ?_) (fun g3 => ?_)
    ·
     exact Mach.ok_head (bK := Zj 2) (M := Zc a0 a1 a2 a3 a4 N) (cd := 1000000) (cm := 0) (y := (.h2m3 (true) (v5) (v6) : law32_FifoFormsX)) (fu := 4000) (orc := (Zk [(0, true), (1, true), (2, true), (3, true)] [] [] [] [])) (live := [0, 1, 2, 3]) (tv := fun _ => [some (vi a0), some (vi a1), some (vi a2), some (vp 0 0), some (vp 1 0), some (vT), some (vT), some (vq)]) (bl := [some (.cells [vn, vs 2 0 v5.length v5.length, vn, vs 3 0 v6.length v6.length] 23), some (.cells [vi (240 : Int), vq, vi (240 : Int), vq] 25), some (.cells (Ze Zb v5) 57), some (.cells (Ze Zb v6) 57)]) (ob := [((decide (a4 ≤ (1099511627776 : Int))), true), ((decide (a4 ≥ (1 : Int))), true), ((decide (a3 ≤ (1099511627776 : Int))), true), ((decide (a3 ≥ (-1099511627776 : Int))), true)]) rfl rfl (show ∀ j ∈ Zl (Zj 2).2, j ∈ Zl (Zh 1) from by decide +kernel) (fun gv => by kernel_rfl) (oY <| oY <| oY <| oY Zf) rfl (by decide) (by rfl) (fun _ => ⟨rr, ⟨rr, ⟨rr, ⟨rr, ⟨rr, ⟨rr, ⟨rr, ⟨rr, trivial⟩⟩⟩⟩⟩⟩⟩⟩) ⟨⟨rfl, ⟨[], by rfl⟩, by rfl⟩, ⟨⟨rfl, ⟨[], by rfl⟩, by rfl⟩, ⟨(Zi (E := Zb) (α := RA) _ v5 _), ⟨(Zi (E := Zb) (α := RA) _ v6 _), trivial⟩⟩⟩⟩
    ·
     exact Mach.ok_head (bK := Zj 2) (M := Zc a0 a1 a2 a3 a4 N) (cd := 1000000) (cm := 0) (y := (.h2m3 (false) (v5) (v6) : law32_FifoFormsX)) (fu := 4000) (orc := (Zk [(0, true), (1, false), (2, true), (3, true)] [] [] [] [])) (live := [0, 1, 2, 3]) (tv := fun _ => [some (vi a0), some (vi a1), some (vi a2), some (vp 0 0), some (vp 1 0), some (vf), some (vT), some (vq)]) (bl := [some (.cells [vn, vs 2 0 v5.length v5.length, vn, vs 3 0 v6.length v6.length] 23), some (.cells [vi (240 : Int), vq, vi (240 : Int), vq] 25), some (.cells (Ze Zb v5) 57), some (.cells (Ze Zb v6) 57)]) (ob := [((decide (a4 ≤ (1099511627776 : Int))), true), ((decide (a4 ≥ (1 : Int))), true), ((decide (a3 ≤ (1099511627776 : Int))), false), ((decide (a3 ≥ (-1099511627776 : Int))), true)]) rfl rfl (show ∀ j ∈ Zl (Zj 2).2, j ∈ Zl (Zh 1) from by decide +kernel) (fun gv => by kernel_rfl) (oY <| oY <| oN <| oY Zf) rfl (by decide) (by rfl) (fun _ => ⟨rr, ⟨rr, ⟨rr, ⟨rr, ⟨rr, ⟨rr, ⟨rr, ⟨rr, trivial⟩⟩⟩⟩⟩⟩⟩⟩) ⟨⟨rfl, ⟨[], by rfl⟩, by rfl⟩, ⟨⟨rfl, ⟨[], by rfl⟩, by rfl⟩, ⟨(Zi (E := Zb) (α := RA) _ v5 _), ⟨(Zi (E := Zb) (α := RA) _ v6 _), trivial⟩⟩⟩⟩
   ·
    exact Mach.ok_head (bK := Zj 2) (M := Zc a0 a1 a2 a3 a4 N) (cd := 1000000) (cm := 0) (y := (.h2m3 (false) (v5) (v6) : law32_FifoFormsX)) (fu := 4000) (orc := (Zk [(0, false), (1, true), (2, true)] [] [] [] [])) (live := [0, 1, 2, 3]) (tv := fun _ => [some (vi a0), some (vi a1), some (vi a2), some (vp 0 0), some (vp 1 0), some (vf), some (vT), some (vq)]) (bl := [some (.cells [vn, vs 2 0 v5.length v5.length, vn, vs 3 0 v6.length v6.length] 23), some (.cells [vi (240 : Int), vq, vi (240 : Int), vq] 25), some (.cells (Ze Zb v5) 57), some (.cells (Ze Zb v6) 57)]) (ob := [((decide (a4 ≤ (1099511627776 : Int))), true), ((decide (a4 ≥ (1 : Int))), true), ((decide (a3 ≥ (-1099511627776 : Int))), false)]) rfl rfl (show ∀ j ∈ Zl (Zj 2).2, j ∈ Zl (Zh 1) from by decide +kernel) (fun gv => by kernel_rfl) (oY <| oY <| oN Zf) rfl (by decide) (by rfl) (fun _ => ⟨rr, ⟨rr, ⟨rr, ⟨rr, ⟨rr, ⟨rr, ⟨rr, ⟨rr, trivial⟩⟩⟩⟩⟩⟩⟩⟩) ⟨⟨rfl, ⟨[], by rfl⟩, by rfl⟩, ⟨⟨rfl, ⟨[], by rfl⟩, by rfl⟩, ⟨(Zi (E := Zb) (α := RA) _ v5 _), ⟨(Zi (E := Zb) (α := RA) _ v6 _), trivial⟩⟩⟩⟩
  ·
   exact Mach.ok_none
 ·
  exact Mach.ok_none

theorem Ziv (a0 a1 a2 a3 a4 : Int) (v5 : List RA) (N : Nat) : (Zc a0 a1 a2 a3 a4 N).Ok Tryz.prog Zo (.h1m5 v5 : law32_FifoFormsX) (Zp a0 a1 a2 a3 a4 N (.h1m5 v5 : law32_FifoFormsX)) := by
 show (Zc a0 a1 a2 a3 a4 N).Ok Tryz.prog Zo (.h1m5 v5 : law32_FifoFormsX) (ZaN a0 a1 a2 a3 a4 N v5)
 unfold ZaN
 refine Mach.ok_ite (fun g0 => ?_) (fun g0 => ?_)
 ·
  refine Mach.ok_ite (fun g1 => ?_) (fun g1 => ?_)
  ·
   refine Mach.ok_ite (fun g2 => ?_) (fun g2 => ?_)
   ·
    refine Mach.ok_ite (fun g3 => ?_) (fun g3 => ?_)
    ·
     exact Mach.ok_head (bK := Zj 2) (M := Zc a0 a1 a2 a3 a4 N) (cd := 1000000) (cm := 0) (y := (.h2m4 (true) (true) (v5) : law32_FifoFormsX)) (fu := 4000) (orc := (Zk [(0, true), (1, true), (2, true), (3, true)] [] [] [] [])) (live := [0, 1, 2]) (tv := fun _ => [some (vi a0), some (vi a1), some (vi a2), some (vp 0 0), some (vp 1 0), some (vT), some (vT), some (vq)]) (bl := [some (.cells [vn, vs 2 0 v5.length v5.length, vn, vn] 23), some (.cells [vi (240 : Int), vq, vi (240 : Int), vi (240 : Int)] 25), some (.cells (Ze Zb v5) 57)]) (ob := [((decide (a4 ≤ (1099511627776 : Int))), true), ((decide (a4 ≥ (1 : Int))), true), ((decide (a3 ≤ (1099511627776 : Int))), true), ((decide (a3 ≥ (-1099511627776 : Int))), true)]) rfl rfl (show ∀ j ∈ Zl (Zj 2).2, j ∈ Zl (Zh 1) from by decide +kernel) (fun gv => by kernel_rfl) (oY <| oY <| oY <| oY Zf) rfl (by decide) (by rfl) (fun _ => ⟨rr, ⟨rr, ⟨rr, ⟨rr, ⟨rr, ⟨rr, ⟨rr, ⟨rr, trivial⟩⟩⟩⟩⟩⟩⟩⟩) ⟨⟨rfl, ⟨[], by rfl⟩, by rfl⟩, ⟨⟨rfl, ⟨[], by rfl⟩, by rfl⟩, ⟨(Zi (E := Zb) (α := RA) _ v5 _), trivial⟩⟩⟩
    ·
     exact Mach.ok_head (bK := Zj 2) (M := Zc a0 a1 a2 a3 a4 N) (cd := 1000000) (cm := 0) (y := (.h2m4 (true) (false) (v5) : law32_FifoFormsX)) (fu := 4000) (orc := (Zk [(0, true), (1, true), (2, true), (3, false)] [] [] [] [])) (live := [0, 1, 2]) (tv := fun _ => [some (vi a0), some (vi a1), some (vi a2), some (vp 0 0), some (vp 1 0), some (vT), some (vf), some (vq)]) (bl := [some (.cells [vn, vs 2 0 v5.length v5.length, vn, vn] 23), some (.cells [vi (240 : Int), vq, vi (240 : Int), vi (240 : Int)] 25), some (.cells (Ze Zb v5) 57)]) (ob := [((decide (a4 ≤ (1099511627776 : Int))), false), ((decide (a4 ≥ (1 : Int))), true), ((decide (a3 ≤ (1099511627776 : Int))), true), ((decide (a3 ≥ (-1099511627776 : Int))), true)]) rfl rfl (show ∀ j ∈ Zl (Zj 2).2, j ∈ Zl (Zh 1) from by decide +kernel) (fun gv => by kernel_rfl) (oN <| oY <| oY <| oY Zf) rfl (by decide) (by rfl) (fun _ => ⟨rr, ⟨rr, ⟨rr, ⟨rr, ⟨rr, ⟨rr, ⟨rr, ⟨rr, trivial⟩⟩⟩⟩⟩⟩⟩⟩) ⟨⟨rfl, ⟨[], by rfl⟩, by rfl⟩, ⟨⟨rfl, ⟨[], by rfl⟩, by rfl⟩, ⟨(Zi (E := Zb) (α := RA) _ v5 _), trivial⟩⟩⟩
   ·
    exact Mach.ok_head (bK := Zj 2) (M := Zc a0 a1 a2 a3 a4 N) (cd := 1000000) (cm := 0) (y := (.h2m4 (true) (false) (v5) : law32_FifoFormsX)) (fu := 4000) (orc := (Zk [(0, true), (1, true), (2, false)] [] [] [] [])) (live := [0, 1, 2]) (tv := fun _ => [some (vi a0), some (vi a1), some (vi a2), some (vp 0 0), some (vp 1 0), some (vT), some (vf), some (vq)]) (bl := [some (.cells [vn, vs 2 0 v5.length v5.length, vn, vn] 23), some (.cells [vi (240 : Int), vq, vi (240 : Int), vi (240 : Int)] 25), some (.cells (Ze Zb v5) 57)]) (ob := [((decide (a4 ≥ (1 : Int))), false), ((decide (a3 ≤ (1099511627776 : Int))), true), ((decide (a3 ≥ (-1099511627776 : Int))), true)]) rfl rfl (show ∀ j ∈ Zl (Zj 2).2, j ∈ Zl (Zh 1) from by decide +kernel) (fun gv => by kernel_rfl) (oN <| oY <| oY Zf) rfl (by decide) (by rfl) (fun _ => ⟨rr, ⟨rr, ⟨rr, ⟨rr, ⟨rr, ⟨rr, ⟨rr, ⟨rr, trivial⟩⟩⟩⟩⟩⟩⟩⟩) ⟨⟨rfl, ⟨[], by rfl⟩, by rfl⟩, ⟨⟨rfl, ⟨[], by rfl⟩, by rfl⟩, ⟨(Zi (E := Zb) (α := RA) _ v5 _), trivial⟩⟩⟩
  ·
   refine Mach.ok_ite (fun g2 => ?_) (fun g2 => ?_)
   ·
    refine Mach.ok_ite (fun g3 => ?_) (fun g3 => ?_)
    ·
     exact Mach.ok_head (bK := Zj 2) (M := Zc a0 a1 a2 a3 a4 N) (cd := 1000000) (cm := 0) (y := (.h2m4 (false) (true) (v5) : law32_FifoFormsX)) (fu := 4000) (orc := (Zk [(0, true), (1, false), (2, true), (3, true)] [] [] [] [])) (live := [0, 1, 2]) (tv := fun _ => [some (vi a0), some (vi a1), some (vi a2), some (vp 0 0), some (vp 1 0), some (vf), some (vT), some (vq)]) (bl := [some (.cells [vn, vs 2 0 v5.length v5.length, vn, vn] 23), some (.cells [vi (240 : Int), vq, vi (240 : Int), vi (240 : Int)] 25), some (.cells (Ze Zb v5) 57)]) (ob := [((decide (a4 ≤ (1099511627776 : Int))), true), ((decide (a4 ≥ (1 : Int))), true), ((decide (a3 ≤ (1099511627776 : Int))), false), ((decide (a3 ≥ (-1099511627776 : Int))), true)]) rfl rfl (show ∀ j ∈ Zl (Zj 2).2, j ∈ Zl (Zh 1) from by decide +kernel) (fun gv => by kernel_rfl) (oY <| oY <| oN <| oY Zf) rfl (by decide) (by rfl) (fun _ => ⟨rr, ⟨rr, ⟨rr, ⟨rr, ⟨rr, ⟨rr, ⟨rr, ⟨rr, trivial⟩⟩⟩⟩⟩⟩⟩⟩) ⟨⟨rfl, ⟨[], by rfl⟩, by rfl⟩, ⟨⟨rfl, ⟨[], by rfl⟩, by rfl⟩, ⟨(Zi (E := Zb) (α := RA) _ v5 _), trivial⟩⟩⟩
    ·
     exact Mach.ok_head (bK := Zj 2) (M := Zc a0 a1 a2 a3 a4 N) (cd := 1000000) (cm := 0) (y := (.h2m4 (false) (false) (v5) : law32_FifoFormsX)) (fu := 4000) (orc := (Zk [(0, true), (1, false), (2, true), (3, false)] [] [] [] [])) (live := [0, 1, 2]) (tv := fun _ => [some (vi a0), some (vi a1), some (vi a2), some (vp 0 0), some (vp 1 0), some (vf), some (vf), some (vq)]) (bl := [some (.cells [vn, vs 2 0 v5.length v5.length, vn, vn] 23), some (.cells [vi (240 : Int), vq, vi (240 : Int), vi (240 : Int)] 25), some (.cells (Ze Zb v5) 57)]) (ob := [((decide (a4 ≤ (1099511627776 : Int))), false), ((decide (a4 ≥ (1 : Int))), true), ((decide (a3 ≤ (1099511627776 : Int))), false), ((decide (a3 ≥ (-1099511627776 : Int))), true)]) rfl rfl (show ∀ j ∈ Zl (Zj 2).2, j ∈ Zl (Zh 1) from by decide +kernel) (fun gv => by kernel_rfl) (oN <| oY <| oN <| oY Zf) rfl (by decide) (by rfl) (fun _ => ⟨rr, ⟨rr, ⟨rr, ⟨rr, ⟨rr, ⟨rr, ⟨rr, ⟨rr, trivial⟩⟩⟩⟩⟩⟩⟩⟩) ⟨⟨rfl, ⟨[], by rfl⟩, by rfl⟩, ⟨⟨rfl, ⟨[], by rfl⟩, by rfl⟩, ⟨(Zi (E := Zb) (α := RA) _ v5 _), trivial⟩⟩⟩
   ·
    exact Mach.ok_head (bK := Zj 2) (M := Zc a0 a1 a2 a3 a4 N) (cd := 1000000) (cm := 0) (y := (.h2m4 (false) (false) (v5) : law32_FifoFormsX)) (fu := 4000) (orc := (Zk [(0, true), (1, false), (2, false)] [] [] [] [])) (live := [0, 1, 2]) (tv := fun _ => [some (vi a0), some (vi a1), some (vi a2), some (vp 0 0), some (vp 1 0), some (vf), some (vf), some (vq)]) (bl := [some (.cells [vn, vs 2 0 v5.length v5.length, vn, vn] 23), some (.cells [vi (240 : Int), vq, vi (240 : Int), vi (240 : Int)] 25), some (.cells (Ze Zb v5) 57)]) (ob := [((decide (a4 ≥ (1 : Int))), false), ((decide (a3 ≤ (1099511627776 : Int))), false), ((decide (a3 ≥ (-1099511627776 : Int))), true)]) rfl rfl (show ∀ j ∈ Zl (Zj 2).2, j ∈ Zl (Zh 1) from by decide +kernel) (fun gv => by kernel_rfl) (oN <| oN <| oY Zf) rfl (by decide) (by rfl) (fun _ => ⟨rr, ⟨rr, ⟨rr, ⟨rr, ⟨rr, ⟨rr, ⟨rr, ⟨rr, trivial⟩⟩⟩⟩⟩⟩⟩⟩) ⟨⟨rfl, ⟨[], by rfl⟩, by rfl⟩, ⟨⟨rfl, ⟨[], by rfl⟩, by rfl⟩, ⟨(Zi (E := Zb) (α := RA) _ v5 _), trivial⟩⟩⟩
 ·
  refine Mach.ok_ite (fun g1 => ?_) (fun g1 => ?_)
  ·
   refine Mach.ok_ite (fun g2 => ?_) (fun g2 => ?_)
   ·
    exact Mach.ok_head (bK := Zj 2) (M := Zc a0 a1 a2 a3 a4 N) (cd := 1000000) (cm := 0) (y := (.h2m4 (false) (true) (v5) : law32_FifoFormsX)) (fu := 4000) (orc := (Zk [(0, false), (1, true), (2, true)] [] [] [] [])) (live := [0, 1, 2]) (tv := fun _ => [some (vi a0), some (vi a1), some (vi a2), some (vp 0 0), some (vp 1 0), some (vf), some (vT), some (vq)]) (bl := [some (.cells [vn, vs 2 0 v5.length v5.length, vn, vn] 23), some (.cells [vi (240 : Int), vq, vi (240 : Int), vi (240 : Int)] 25), some (.cells (Ze Zb v5) 57)]) (ob := [((decide (a4 ≤ (1099511627776 : Int))), true), ((decide (a4 ≥ (1 : Int))), true), ((decide (a3 ≥ (-1099511627776 : Int))), false)]) rfl rfl (show ∀ j ∈ Zl (Zj 2).2, j ∈ Zl (Zh 1) from by decide +kernel) (fun gv => by kernel_rfl) (oY <| oY <| oN Zf) rfl (by decide) (by rfl) (fun _ => ⟨rr, ⟨rr, ⟨rr, ⟨rr, ⟨rr, ⟨rr, ⟨rr, ⟨rr, trivial⟩⟩⟩⟩⟩⟩⟩⟩) ⟨⟨rfl, ⟨[], by rfl⟩, by rfl⟩, ⟨⟨rfl, ⟨[], by rfl⟩, by rfl⟩, ⟨(Zi (E := Zb) (α := RA) _ v5 _), trivial⟩⟩⟩
   ·
    exact Mach.ok_head (bK := Zj 2) (M := Zc a0 a1 a2 a3 a4 N) (cd := 1000000) (cm := 0) (y := (.h2m4 (false) (false) (v5) : law32_FifoFormsX)) (fu := 4000) (orc := (Zk [(0, false), (1, true), (2, false)] [] [] [] [])) (live := [0, 1, 2]) (tv := fun _ => [some (vi a0), some (vi a1), some (vi a2), some (vp 0 0), some (vp 1 0), some (vf), some (vf), some (vq)]) (bl := [some (.cells [vn, vs 2 0 v5.length v5.length, vn, vn] 23), some (.cells [vi (240 : Int), vq, vi (240 : Int), vi (240 : Int)] 25), some (.cells (Ze Zb v5) 57)]) (ob := [((decide (a4 ≤ (1099511627776 : Int))), false), ((decide (a4 ≥ (1 : Int))), true), ((decide (a3 ≥ (-1099511627776 : Int))), false)]) rfl rfl (show ∀ j ∈ Zl (Zj 2).2, j ∈ Zl (Zh 1) from by decide +kernel) (fun gv => by kernel_rfl) (oN <| oY <| oN Zf) rfl (by decide) (by rfl) (fun _ => ⟨rr, ⟨rr, ⟨rr, ⟨rr, ⟨rr, ⟨rr, ⟨rr, ⟨rr, trivial⟩⟩⟩⟩⟩⟩⟩⟩) ⟨⟨rfl, ⟨[], by rfl⟩, by rfl⟩, ⟨⟨rfl, ⟨[], by rfl⟩, by rfl⟩, ⟨(Zi (E := Zb) (α := RA) _ v5 _), trivial⟩⟩⟩
  ·
   exact Mach.ok_head (bK := Zj 2) (M := Zc a0 a1 a2 a3 a4 N) (cd := 1000000) (cm := 0) (y := (.h2m4 (false) (false) (v5) : law32_FifoFormsX)) (fu := 4000) (orc := (Zk [(0, false), (1, false)] [] [] [] [])) (live := [0, 1, 2]) (tv := fun _ => [some (vi a0), some (vi a1), some (vi a2), some (vp 0 0), some (vp 1 0), some (vf), some (vf), some (vq)]) (bl := [some (.cells [vn, vs 2 0 v5.length v5.length, vn, vn] 23), some (.cells [vi (240 : Int), vq, vi (240 : Int), vi (240 : Int)] 25), some (.cells (Ze Zb v5) 57)]) (ob := [((decide (a4 ≥ (1 : Int))), false), ((decide (a3 ≥ (-1099511627776 : Int))), false)]) rfl rfl (show ∀ j ∈ Zl (Zj 2).2, j ∈ Zl (Zh 1) from by decide +kernel) (fun gv => by kernel_rfl) (oN <| oN Zf) rfl (by decide) (by rfl) (fun _ => ⟨rr, ⟨rr, ⟨rr, ⟨rr, ⟨rr, ⟨rr, ⟨rr, ⟨rr, trivial⟩⟩⟩⟩⟩⟩⟩⟩) ⟨⟨rfl, ⟨[], by rfl⟩, by rfl⟩, ⟨⟨rfl, ⟨[], by rfl⟩, by rfl⟩, ⟨(Zi (E := Zb) (α := RA) _ v5 _), trivial⟩⟩⟩

theorem Ziw (a0 a1 a2 a3 a4 : Int) (N : Nat) : (Zc a0 a1 a2 a3 a4 N).Ok Tryz.prog Zo (.h1m6 : law32_FifoFormsX) (Zp a0 a1 a2 a3 a4 N (.h1m6 : law32_FifoFormsX)) := by
 show (Zc a0 a1 a2 a3 a4 N).Ok Tryz.prog Zo (.h1m6 : law32_FifoFormsX) (Zac a0 a1 a2 a3 a4 N)
 unfold Zac
 refine Mach.ok_ite (fun g0 => ?_) (fun g0 => ?_)
 ·
  refine Mach.ok_ite (fun g1 => ?_) (fun g1 => ?_)
  ·
   refine Mach.ok_ite (fun g2 => ?_) (fun g2 => ?_)
   ·
    refine Mach.ok_ite (fun g3 => ?_) (fun g3 => ?_)
    ·
     exact Mach.ok_head (bK := Zj 2) (M := Zc a0 a1 a2 a3 a4 N) (cd := 1000000) (cm := 0) (y := (.h2m5 (true) (true) : law32_FifoFormsX)) (fu := 4000) (orc := (Zk [(0, true), (1, true), (2, true), (3, true)] [] [] [] [])) (live := [0, 1]) (tv := fun _ => [some (vi a0), some (vi a1), some (vi a2), some (vp 0 0), some (vp 1 0), some (vT), some (vT), some (vq)]) (bl := [some (.cells [vn, vn, vn, vn] 23), some ZJ]) (ob := [((decide (a4 ≤ (1099511627776 : Int))), true), ((decide (a4 ≥ (1 : Int))), true), ((decide (a3 ≤ (1099511627776 : Int))), true), ((decide (a3 ≥ (-1099511627776 : Int))), true)]) rfl rfl (show ∀ j ∈ Zl (Zj 2).2, j ∈ Zl (Zh 1) from by decide +kernel) (fun gv => by kernel_rfl) (oY <| oY <| oY <| oY Zf) rfl (by decide) (by rfl) (fun _ => ⟨rr, ⟨rr, ⟨rr, ⟨rr, ⟨rr, ⟨rr, ⟨rr, ⟨rr, trivial⟩⟩⟩⟩⟩⟩⟩⟩) ⟨⟨rfl, ⟨[], by rfl⟩, by rfl⟩, ⟨⟨rfl, ⟨[], by rfl⟩, by rfl⟩, trivial⟩⟩
    ·
     exact Mach.ok_head (bK := Zj 2) (M := Zc a0 a1 a2 a3 a4 N) (cd := 1000000) (cm := 0) (y := (.h2m5 (true) (false) : law32_FifoFormsX)) (fu := 4000) (orc := (Zk [(0, true), (1, true), (2, true), (3, false)] [] [] [] [])) (live := [0, 1]) (tv := fun _ => [some (vi a0), some (vi a1), some (vi a2), some (vp 0 0), some (vp 1 0), some (vT), some (vf), some (vq)]) (bl := [some (.cells [vn, vn, vn, vn] 23), some ZJ]) (ob := [((decide (a4 ≤ (1099511627776 : Int))), false), ((decide (a4 ≥ (1 : Int))), true), ((decide (a3 ≤ (1099511627776 : Int))), true), ((decide (a3 ≥ (-1099511627776 : Int))), true)]) rfl rfl (show ∀ j ∈ Zl (Zj 2).2, j ∈ Zl (Zh 1) from by decide +kernel) (fun gv => by kernel_rfl) (oN <| oY <| oY <| oY Zf) rfl (by decide) (by rfl) (fun _ => ⟨rr, ⟨rr, ⟨rr, ⟨rr, ⟨rr, ⟨rr, ⟨rr, ⟨rr, trivial⟩⟩⟩⟩⟩⟩⟩⟩) ⟨⟨rfl, ⟨[], by rfl⟩, by rfl⟩, ⟨⟨rfl, ⟨[], by rfl⟩, by rfl⟩, trivial⟩⟩
   ·
    exact Mach.ok_head (bK := Zj 2) (M := Zc a0 a1 a2 a3 a4 N) (cd := 1000000) (cm := 0) (y := (.h2m5 (true) (false) : law32_FifoFormsX)) (fu := 4000) (orc := (Zk [(0, true), (1, true), (2, false)] [] [] [] [])) (live := [0, 1]) (tv := fun _ => [some (vi a0), some (vi a1), some (vi a2), some (vp 0 0), some (vp 1 0), some (vT), some (vf), some (vq)]) (bl := [some (.cells [vn, vn, vn, vn] 23), some ZJ]) (ob := [((decide (a4 ≥ (1 : Int))), false), ((decide (a3 ≤ (1099511627776 : Int))), true), ((decide (a3 ≥ (-1099511627776 : Int))), true)]) rfl rfl (show ∀ j ∈ Zl (Zj 2).2, j ∈ Zl (Zh 1) from by decide +kernel) (fun gv => by kernel_rfl) (oN <| oY <| oY Zf) rfl (by decide) (by rfl) (fun _ => ⟨rr, ⟨rr, ⟨rr, ⟨rr, ⟨rr, ⟨rr, ⟨rr, ⟨rr, trivial⟩⟩⟩⟩⟩⟩⟩⟩) ⟨⟨rfl, ⟨[], by rfl⟩, by rfl⟩, ⟨⟨rfl, ⟨[], by rfl⟩, by rfl⟩, trivial⟩⟩
  ·
   refine Mach.ok_ite (fun g2 => ?_) (fun g2 => ?_)
   ·
    refine Mach.ok_ite (fun g3 => ?_) (fun g3 => ?_)
    ·
     exact Mach.ok_head (bK := Zj 2) (M := Zc a0 a1 a2 a3 a4 N) (cd := 1000000) (cm := 0) (y := (.h2m5 (false) (true) : law32_FifoFormsX)) (fu := 4000) (orc := (Zk [(0, true), (1, false), (2, true), (3, true)] [] [] [] [])) (live := [0, 1]) (tv := fun _ => [some (vi a0), some (vi a1), some (vi a2), some (vp 0 0), some (vp 1 0), some (vf), some (vT), some (vq)]) (bl := [some (.cells [vn, vn, vn, vn] 23), some ZJ]) (ob := [((decide (a4 ≤ (1099511627776 : Int))), true), ((decide (a4 ≥ (1 : Int))), true), ((decide (a3 ≤ (1099511627776 : Int))), false), ((decide (a3 ≥ (-1099511627776 : Int))), true)]) rfl rfl (show ∀ j ∈ Zl (Zj 2).2, j ∈ Zl (Zh 1) from by decide +kernel) (fun gv => by kernel_rfl) (oY <| oY <| oN <| oY Zf) rfl (by decide) (by rfl) (fun _ => ⟨rr, ⟨rr, ⟨rr, ⟨rr, ⟨rr, ⟨rr, ⟨rr, ⟨rr, trivial⟩⟩⟩⟩⟩⟩⟩⟩) ⟨⟨rfl, ⟨[], by rfl⟩, by rfl⟩, ⟨⟨rfl, ⟨[], by rfl⟩, by rfl⟩, trivial⟩⟩
    ·
     exact Mach.ok_head (bK := Zj 2) (M := Zc a0 a1 a2 a3 a4 N) (cd := 1000000) (cm := 0) (y := (.h2m5 (false) (false) : law32_FifoFormsX)) (fu := 4000) (orc := (Zk [(0, true), (1, false), (2, true), (3, false)] [] [] [] [])) (live := [0, 1]) (tv := fun _ => [some (vi a0), some (vi a1), some (vi a2), some (vp 0 0), some (vp 1 0), some (vf), some (vf), some (vq)]) (bl := [some (.cells [vn, vn, vn, vn] 23), some ZJ]) (ob := [((decide (a4 ≤ (1099511627776 : Int))), false), ((decide (a4 ≥ (1 : Int))), true), ((decide (a3 ≤ (1099511627776 : Int))), false), ((decide (a3 ≥ (-1099511627776 : Int))), true)]) rfl rfl (show ∀ j ∈ Zl (Zj 2).2, j ∈ Zl (Zh 1) from by decide +kernel) (fun gv => by kernel_rfl) (oN <| oY <| oN <| oY Zf) rfl (by decide) (by rfl) (fun _ => ⟨rr, ⟨rr, ⟨rr, ⟨rr, ⟨rr, ⟨rr, ⟨rr, ⟨rr, trivial⟩⟩⟩⟩⟩⟩⟩⟩) ⟨⟨rfl, ⟨[], by rfl⟩, by rfl⟩, ⟨⟨rfl, ⟨[], by rfl⟩, by rfl⟩, trivial⟩⟩
   ·
    exact Mach.ok_head (bK := Zj 2) (M := Zc a0 a1 a2 a3 a4 N) (cd := 1000000) (cm := 0) (y := (.h2m5 (false) (false) : law32_FifoFormsX)) (fu := 4000) (orc := (Zk [(0, true), (1, false), (2, false)] [] [] [] [])) (live := [0, 1]) (tv := fun _ => [some (vi a0), some (vi a1), some (vi a2), some (vp 0 0), some (vp 1 0), some (vf), some (vf), some (vq)]) (bl := [some (.cells [vn, vn, vn, vn] 23), some ZJ]) (ob := [((decide (a4 ≥ (1 : Int))), false), ((decide (a3 ≤ (1099511627776 : Int))), false), ((decide (a3 ≥ (-1099511627776 : Int))), true)]) rfl rfl (show ∀ j ∈ Zl (Zj 2).2, j ∈ Zl (Zh 1) from by decide +kernel) (fun gv => by kernel_rfl) (oN <| oN <| oY Zf) rfl (by decide) (by rfl) (fun _ => ⟨rr, ⟨rr, ⟨rr, ⟨rr, ⟨rr, ⟨rr, ⟨rr, ⟨rr, trivial⟩⟩⟩⟩⟩⟩⟩⟩) ⟨⟨rfl, ⟨[], by rfl⟩, by rfl⟩, ⟨⟨rfl, ⟨[], by rfl⟩, by rfl⟩, trivial⟩⟩
 ·
  refine Mach.ok_ite (fun g1 => ?_) (fun g1 => ?_)
  ·
   refine Mach.ok_ite (fun g2 => ?_) (fun g2 => ?_)
   ·
    exact Mach.ok_head (bK := Zj 2) (M := Zc a0 a1 a2 a3 a4 N) (cd := 1000000) (cm := 0) (y := (.h2m5 (false) (true) : law32_FifoFormsX)) (fu := 4000) (orc := (Zk [(0, false), (1, true), (2, true)] [] [] [] [])) (live := [0, 1]) (tv := fun _ => [some (vi a0), some (vi a1), some (vi a2), some (vp 0 0), some (vp 1 0), some (vf), some (vT), some (vq)]) (bl := [some (.cells [vn, vn, vn, vn] 23), some ZJ]) (ob := [((decide (a4 ≤ (1099511627776 : Int))), true), ((decide (a4 ≥ (1 : Int))), true), ((decide (a3 ≥ (-1099511627776 : Int))), false)]) rfl rfl (show ∀ j ∈ Zl (Zj 2).2, j ∈ Zl (Zh 1) from by decide +kernel) (fun gv => by kernel_rfl) (oY <| oY <| oN Zf) rfl (by decide) (by rfl) (fun _ => ⟨rr, ⟨rr, ⟨rr, ⟨rr, ⟨rr, ⟨rr, ⟨rr, ⟨rr, trivial⟩⟩⟩⟩⟩⟩⟩⟩) ⟨⟨rfl, ⟨[], by rfl⟩, by rfl⟩, ⟨⟨rfl, ⟨[], by rfl⟩, by rfl⟩, trivial⟩⟩
   ·
    exact Mach.ok_head (bK := Zj 2) (M := Zc a0 a1 a2 a3 a4 N) (cd := 1000000) (cm := 0) (y := (.h2m5 (false) (false) : law32_FifoFormsX)) (fu := 4000) (orc := (Zk [(0, false), (1, true), (2, false)] [] [] [] [])) (live := [0, 1]) (tv := fun _ => [some (vi a0), some (vi a1), some (vi a2), some (vp 0 0), some (vp 1 0), some (vf), some (vf), some (vq)]) (bl := [some (.cells [vn, vn, vn, vn] 23), some ZJ]) (ob := [((decide (a4 ≤ (1099511627776 : Int))), false), ((decide (a4 ≥ (1 : Int))), true), ((decide (a3 ≥ (-1099511627776 : Int))), false)]) rfl rfl (show ∀ j ∈ Zl (Zj 2).2, j ∈ Zl (Zh 1) from by decide +kernel) (fun gv => by kernel_rfl) (oN <| oY <| oN Zf) rfl (by decide) (by rfl) (fun _ => ⟨rr, ⟨rr, ⟨rr, ⟨rr, ⟨rr, ⟨rr, ⟨rr, ⟨rr, trivial⟩⟩⟩⟩⟩⟩⟩⟩) ⟨⟨rfl, ⟨[], by rfl⟩, by rfl⟩, ⟨⟨rfl, ⟨[], by rfl⟩, by rfl⟩, trivial⟩⟩
  ·
   exact Mach.ok_head (bK := Zj 2) (M := Zc a0 a1 a2 a3 a4 N) (cd := 1000000) (cm := 0) (y := (.h2m5 (false) (false) : law32_FifoFormsX)) (fu := 4000) (orc := (Zk [(0, false), (1, false)] [] [] [] [])) (live := [0, 1]) (tv := fun _ => [some (vi a0), some (vi a1), some (vi a2), some (vp 0 0), some (vp 1 0), some (vf), some (vf), some (vq)]) (bl := [some (.cells [vn, vn, vn, vn] 23), some ZJ]) (ob := [((decide (a4 ≥ (1 : Int))), false), ((decide (a3 ≥ (-1099511627776 : Int))), false)]) rfl rfl (show ∀ j ∈ Zl (Zj 2).2, j ∈ Zl (Zh 1) from by decide +kernel) (fun gv => by kernel_rfl) (oN <| oN Zf) rfl (by decide) (by rfl) (fun _ => ⟨rr, ⟨rr, ⟨rr, ⟨rr, ⟨rr, ⟨rr, ⟨rr, ⟨rr, trivial⟩⟩⟩⟩⟩⟩⟩⟩) ⟨⟨rfl, ⟨[], by rfl⟩, by rfl⟩, ⟨⟨rfl, ⟨[], by rfl⟩, by rfl⟩, trivial⟩⟩

theorem Zix (a0 a1 a2 a3 a4 : Int) (v5 v6 v7 v8 : List RA) (N : Nat) : (Zc a0 a1 a2 a3 a4 N).Ok Tryz.prog Zo (.h2m0 v5 v6 v7 v8 : law32_FifoFormsX) (Zp a0 a1 a2 a3 a4 N (.h2m0 v5 v6 v7 v8 : law32_FifoFormsX)) := by
 show (Zc a0 a1 a2 a3 a4 N).Ok Tryz.prog Zo (.h2m0 v5 v6 v7 v8 : law32_FifoFormsX) (ZbZ a0 a1 a2 a3 a4 N v5 v6 v7 v8)
 unfold ZbZ
 refine Mach.ok_ite (fun g0 => ?_) (fun g0 => ?_)
 ·
  refine Mach.ok_ite (fun g1 => ?_) (fun g1 => ?_)
  ·
   refine Mach.ok_ite (fun g2 => ?_) (fun g2 => ?_)
   ·
    refine Mach.ok_ite (fun g3 => ?_) (fun g3 => ?_)
    ·
     refine Mach.ok_ite (fun g4 => ?_) (fun g4 => ?_)
     ·
      refine Mach.ok_ite (fun g5 => ?_) (fun g5 => ?_)
      ·
       refine Mach.ok_ite (fun g6 => ?_) (fun g6 => ?_)
       ·
        exact Mach.ok_fin (M := Zc a0 a1 a2 a3 a4 N) (cd := 1000000) (cm := 0) (r := (.r0 (false) : Zg)) (fu := 4000) (orc := (Zk [(1, true), (2, true), (3, true), (4, true), (8, true)] [] [] [] [])) (live := []) (u := vf) (bl := []) (ob := [((decide ((v5.length : Int) < (1 : Int))), true), ((decide (a1 ≤ (3 : Int))), true), ((decide (a1 ≥ (0 : Int))), true), ((decide (a0 ≤ (400 : Int))), true), ((decide (a0 ≥ (0 : Int))), true)]) (fun gv => by kernel_rfl) (oY <| oY <| oY <| oY <| oY Zf) rfl (by decide) (by rfl) rr trivial
       ·
        refine Mach.ok_ite (fun g7 => ?_) (fun g7 => ?_)
        ·
         exact Mach.ok_fin (M := Zc a0 a1 a2 a3 a4 N) (cd := 1000000) (cm := 0) (r := (.r0 (false) : Zg)) (fu := 4000) (orc := (Zk [(1, true), (2, true), (3, true), (4, true), (8, false), (9, true)] [] [] [] [])) (live := []) (u := vf) (bl := []) (ob := [((decide ((v5.length : Int) > (60 : Int))), true), ((decide ((v5.length : Int) < (1 : Int))), false), ((decide (a1 ≤ (3 : Int))), true), ((decide (a1 ≥ (0 : Int))), true), ((decide (a0 ≤ (400 : Int))), true), ((decide (a0 ≥ (0 : Int))), true)]) (fun gv => by kernel_rfl) (oY <| oN <| oY <| oY <| oY <| oY Zf) rfl (by decide) (by rfl) rr trivial
        ·
         refine Mach.ok_bind (fun z8 c8 => ?_)
         cases z8 with
         | r0 y8_0 =>
          refine Mach.ok_ite (fun g9 => ?_) (fun g9 => ?_)
          ·
           exact Mach.ok_fin (M := Zc a0 a1 a2 a3 a4 N) (cd := 1000000) (cm := 0) (r := (.r0 (false) : Zg)) (fu := 4000) (orc := (Zk [(1, true), (2, true), (3, true), (4, true), (8, false), (9, false), (10, true)] [] [] [] [(0, (ZH (v5) (a0)  y8_0 2 6))])) (live := []) (u := vf) (bl := []) (ob := [((!y8_0), true), (dP (ZF #[vs 2 0 v5.length v5.length, vi a0] (v5) (a0)  y8_0 2 6), true), (dS (Ze Zb v5), true), ((decide ((v5.length : Int) > (60 : Int))), false), ((decide ((v5.length : Int) < (1 : Int))), false), ((decide (a1 ≤ (3 : Int))), true), ((decide (a1 ≥ (0 : Int))), true), ((decide (a0 ≤ (400 : Int))), true), ((decide (a0 ≥ (0 : Int))), true)]) (fun gv => by kernel_rfl) (Zd (Zb0 (by first | assumption | simp_all)) <| Zd (Zm (ZI #[vs 2 0 v5.length v5.length, vi a0] (v5) (a0)  y8_0 N c8 2 6 rfl (by decide) (by decide))) <| oR <| oN <| oN <| oY <| oY <| oY <| oY Zf) rfl (by decide) (by rfl) rr trivial
          ·
           exact Mach.ok_next (M := Zc a0 a1 a2 a3 a4 N) (cd := 1000000) (cm := 0) (y := (.h2m6 (v5) (v6) (v7) (v8) : law32_FifoFormsX)) (fu := 4000) (orc := (Zk [(1, true), (2, true), (3, true), (4, true), (8, false), (9, false), (10, false)] [] [] [] [(0, (ZH (v5) (a0)  y8_0 2 6))])) (live := [0, 1, 2, 3, 4, 5]) (tv := fun _ => [some (vi a0), some (vi a1), some (vi a2), some (vp 0 0), some (vp 1 0), some (vT), some (vT), some (vi (1 : Int))]) (bl := [some (.cells [vs 2 0 v5.length v5.length, vs 3 0 v6.length v6.length, vs 4 0 v7.length v7.length, vs 5 0 v8.length v8.length] 23), some (.cells [vq, vq, vq, vq] 25), some (.cells (Ze Zb v5) 57), some (.cells (Ze Zb v6) 57), some (.cells (Ze Zb v7) 57), some (.cells (Ze Zb v8) 57)]) (ob := [((!y8_0), false), (dP (ZF #[vs 2 0 v5.length v5.length, vi a0] (v5) (a0)  y8_0 2 6), true), (dS (Ze Zb v5), true), ((decide ((v5.length : Int) > (60 : Int))), false), ((decide ((v5.length : Int) < (1 : Int))), false), ((decide (a1 ≤ (3 : Int))), true), ((decide (a1 ≥ (0 : Int))), true), ((decide (a0 ≤ (400 : Int))), true), ((decide (a0 ≥ (0 : Int))), true)]) rfl (show 2 ∈ Zl (Zh 2) from by decide +kernel) (fun gv => by kernel_rfl) (Zd (Zbk (by first | assumption | exact Decidable.not_not.1 (by assumption) | simp_all)) <| Zd (Zm (ZI #[vs 2 0 v5.length v5.length, vi a0] (v5) (a0)  y8_0 N c8 2 6 rfl (by decide) (by decide))) <| oR <| oN <| oN <| oY <| oY <| oY <| oY Zf) rfl (by decide) (by rfl) (fun _ => ⟨rr, ⟨rr, ⟨rr, ⟨rr, ⟨rr, ⟨rr, ⟨rr, ⟨rr, trivial⟩⟩⟩⟩⟩⟩⟩⟩) ⟨⟨rfl, ⟨[], by rfl⟩, by rfl⟩, ⟨⟨rfl, ⟨[], by rfl⟩, by rfl⟩, ⟨(Zi (E := Zb) (α := RA) _ v5 _), ⟨(Zi (E := Zb) (α := RA) _ v6 _), ⟨(Zi (E := Zb) (α := RA) _ v7 _), ⟨(Zi (E := Zb) (α := RA) _ v8 _), trivial⟩⟩⟩⟩⟩⟩
      ·
       exact Mach.ok_none
     ·
      exact Mach.ok_none
    ·
     exact Mach.ok_none
   ·
    exact Mach.ok_none
  ·
   exact Mach.ok_none
 ·
  exact Mach.ok_none

theorem Ziy (a0 a1 a2 a3 a4 : Int) (v5 v6 v7 : List RA) (N : Nat) : (Zc a0 a1 a2 a3 a4 N).Ok Tryz.prog Zo (.h2m1 v5 v6 v7 : law32_FifoFormsX) (Zp a0 a1 a2 a3 a4 N (.h2m1 v5 v6 v7 : law32_FifoFormsX)) := by
 show (Zc a0 a1 a2 a3 a4 N).Ok Tryz.prog Zo (.h2m1 v5 v6 v7 : law32_FifoFormsX) (Zca a0 a1 a2 a3 a4 N v5 v6 v7)
 unfold Zca
 refine Mach.ok_ite (fun g0 => ?_) (fun g0 => ?_)
 ·
  refine Mach.ok_ite (fun g1 => ?_) (fun g1 => ?_)
  ·
   refine Mach.ok_ite (fun g2 => ?_) (fun g2 => ?_)
   ·
    refine Mach.ok_ite (fun g3 => ?_) (fun g3 => ?_)
    ·
     refine Mach.ok_ite (fun g4 => ?_) (fun g4 => ?_)
     ·
      exact Mach.ok_fin (M := Zc a0 a1 a2 a3 a4 N) (cd := 1000000) (cm := 0) (r := (.r0 (false) : Zg)) (fu := 4000) (orc := (Zk [(1, true), (2, true), (3, true), (4, true), (8, true)] [] [] [] [])) (live := []) (u := vf) (bl := []) (ob := [((decide ((v5.length : Int) < (1 : Int))), true), ((decide (a1 ≤ (3 : Int))), true), ((decide (a1 ≥ (0 : Int))), true), ((decide (a0 ≤ (400 : Int))), true), ((decide (a0 ≥ (0 : Int))), true)]) (fun gv => by kernel_rfl) (oY <| oY <| oY <| oY <| oY Zf) rfl (by decide) (by rfl) rr trivial
     ·
      refine Mach.ok_ite (fun g5 => ?_) (fun g5 => ?_)
      ·
       exact Mach.ok_fin (M := Zc a0 a1 a2 a3 a4 N) (cd := 1000000) (cm := 0) (r := (.r0 (false) : Zg)) (fu := 4000) (orc := (Zk [(1, true), (2, true), (3, true), (4, true), (8, false), (9, true)] [] [] [] [])) (live := []) (u := vf) (bl := []) (ob := [((decide ((v5.length : Int) > (60 : Int))), true), ((decide ((v5.length : Int) < (1 : Int))), false), ((decide (a1 ≤ (3 : Int))), true), ((decide (a1 ≥ (0 : Int))), true), ((decide (a0 ≤ (400 : Int))), true), ((decide (a0 ≥ (0 : Int))), true)]) (fun gv => by kernel_rfl) (oY <| oN <| oY <| oY <| oY <| oY Zf) rfl (by decide) (by rfl) rr trivial
      ·
       refine Mach.ok_bind (fun z6 c6 => ?_)
       cases z6 with
       | r0 y6_0 =>
        refine Mach.ok_ite (fun g7 => ?_) (fun g7 => ?_)
        ·
         exact Mach.ok_fin (M := Zc a0 a1 a2 a3 a4 N) (cd := 1000000) (cm := 0) (r := (.r0 (false) : Zg)) (fu := 4000) (orc := (Zk [(1, true), (2, true), (3, true), (4, true), (8, false), (9, false), (10, true)] [] [] [] [(0, (ZH (v5) (a0)  y6_0 2 5))])) (live := []) (u := vf) (bl := []) (ob := [((!y6_0), true), (dP (ZF #[vs 2 0 v5.length v5.length, vi a0] (v5) (a0)  y6_0 2 5), true), (dS (Ze Zb v5), true), ((decide ((v5.length : Int) > (60 : Int))), false), ((decide ((v5.length : Int) < (1 : Int))), false), ((decide (a1 ≤ (3 : Int))), true), ((decide (a1 ≥ (0 : Int))), true), ((decide (a0 ≤ (400 : Int))), true), ((decide (a0 ≥ (0 : Int))), true)]) (fun gv => by kernel_rfl) (Zd (Zb0 (by first | assumption | simp_all)) <| Zd (Zm (ZI #[vs 2 0 v5.length v5.length, vi a0] (v5) (a0)  y6_0 N c6 2 5 rfl (by decide) (by decide))) <| oR <| oN <| oN <| oY <| oY <| oY <| oY Zf) rfl (by decide) (by rfl) rr trivial
        ·
         exact Mach.ok_next (M := Zc a0 a1 a2 a3 a4 N) (cd := 1000000) (cm := 0) (y := (.h2m7 (v5) (v6) (v7) : law32_FifoFormsX)) (fu := 4000) (orc := (Zk [(1, true), (2, true), (3, true), (4, true), (8, false), (9, false), (10, false)] [] [] [] [(0, (ZH (v5) (a0)  y6_0 2 5))])) (live := [0, 1, 2, 3, 4]) (tv := fun _ => [some (vi a0), some (vi a1), some (vi a2), some (vp 0 0), some (vp 1 0), some (vT), some (vT), some (vi (1 : Int))]) (bl := [some (.cells [vs 2 0 v5.length v5.length, vs 3 0 v6.length v6.length, vs 4 0 v7.length v7.length, vn] 23), some (.cells [vq, vq, vq, vi (240 : Int)] 25), some (.cells (Ze Zb v5) 57), some (.cells (Ze Zb v6) 57), some (.cells (Ze Zb v7) 57)]) (ob := [((!y6_0), false), (dP (ZF #[vs 2 0 v5.length v5.length, vi a0] (v5) (a0)  y6_0 2 5), true), (dS (Ze Zb v5), true), ((decide ((v5.length : Int) > (60 : Int))), false), ((decide ((v5.length : Int) < (1 : Int))), false), ((decide (a1 ≤ (3 : Int))), true), ((decide (a1 ≥ (0 : Int))), true), ((decide (a0 ≤ (400 : Int))), true), ((decide (a0 ≥ (0 : Int))), true)]) rfl (show 2 ∈ Zl (Zh 2) from by decide +kernel) (fun gv => by kernel_rfl) (Zd (Zbk (by first | assumption | exact Decidable.not_not.1 (by assumption) | simp_all)) <| Zd (Zm (ZI #[vs 2 0 v5.length v5.length, vi a0] (v5) (a0)  y6_0 N c6 2 5 rfl (by decide) (by decide))) <| oR <| oN <| oN <| oY <| oY <| oY <| oY Zf) rfl (by decide) (by rfl) (fun _ => ⟨rr, ⟨rr, ⟨rr, ⟨rr, ⟨rr, ⟨rr, ⟨rr, ⟨rr, trivial⟩⟩⟩⟩⟩⟩⟩⟩) ⟨⟨rfl, ⟨[], by rfl⟩, by rfl⟩, ⟨⟨rfl, ⟨[], by rfl⟩, by rfl⟩, ⟨(Zi (E := Zb) (α := RA) _ v5 _), ⟨(Zi (E := Zb) (α := RA) _ v6 _), ⟨(Zi (E := Zb) (α := RA) _ v7 _), trivial⟩⟩⟩⟩⟩
    ·
     exact Mach.ok_none
   ·
    exact Mach.ok_none
  ·
   exact Mach.ok_none
 ·
  exact Mach.ok_none

theorem Ziz (a0 a1 a2 a3 a4 : Int) (v4 : Bool) (v5 v6 : List RA) (N : Nat) : (Zc a0 a1 a2 a3 a4 N).Ok Tryz.prog Zo (.h2m2 v4 v5 v6 : law32_FifoFormsX) (Zp a0 a1 a2 a3 a4 N (.h2m2 v4 v5 v6 : law32_FifoFormsX)) := by
 show (Zc a0 a1 a2 a3 a4 N).Ok Tryz.prog Zo (.h2m2 v4 v5 v6 : law32_FifoFormsX) (Zcb a0 a1 a2 a3 a4 N v4 v5 v6)
 unfold Zcb
 refine Mach.ok_ite (fun g0 => ?_) (fun g0 => ?_)
 ·
  subst g0
  exact Mach.ok_none
 ·
  obtain rfl : v4 = false := by simpa using g0
  refine Mach.ok_ite (fun g1 => ?_) (fun g1 => ?_)
  ·
   refine Mach.ok_ite (fun g2 => ?_) (fun g2 => ?_)
   ·
    refine Mach.ok_ite (fun g3 => ?_) (fun g3 => ?_)
    ·
     refine Mach.ok_ite (fun g4 => ?_) (fun g4 => ?_)
     ·
      exact Mach.ok_next (M := Zc a0 a1 a2 a3 a4 N) (cd := 1000000) (cm := 0) (y := (.h2m8 (v5) (v6) : law32_FifoFormsX)) (fu := 4000) (orc := (Zk [(1, true), (2, true), (3, true), (4, true)] [] [] [] [])) (live := [0, 1, 2, 3]) (tv := fun _ => [some (vi a0), some (vi a1), some (vi a2), some (vp 0 0), some (vp 1 0), some (vT), some (vf), some (vi (1 : Int))]) (bl := [some (.cells [vn, vs 2 0 v5.length v5.length, vs 3 0 v6.length v6.length, vn] 23), some (.cells [vi (240 : Int), vq, vq, vi (240 : Int)] 25), some (.cells (Ze Zb v5) 57), some (.cells (Ze Zb v6) 57)]) (ob := [((decide (a1 ≤ (3 : Int))), true), ((decide (a1 ≥ (0 : Int))), true), ((decide (a0 ≤ (400 : Int))), true), ((decide (a0 ≥ (0 : Int))), true)]) rfl (show 2 ∈ Zl (Zh 2) from by decide +kernel) (fun gv => by kernel_rfl) (oY <| oY <| oY <| oY Zf) rfl (by decide) (by rfl) (fun _ => ⟨rr, ⟨rr, ⟨rr, ⟨rr, ⟨rr, ⟨rr, ⟨rr, ⟨rr, trivial⟩⟩⟩⟩⟩⟩⟩⟩) ⟨⟨rfl, ⟨[], by rfl⟩, by rfl⟩, ⟨⟨rfl, ⟨[], by rfl⟩, by rfl⟩, ⟨(Zi (E := Zb) (α := RA) _ v5 _), ⟨(Zi (E := Zb) (α := RA) _ v6 _), trivial⟩⟩⟩⟩
     ·
      exact Mach.ok_none
    ·
     exact Mach.ok_none
   ·
    exact Mach.ok_none
  ·
   exact Mach.ok_none

theorem Zi0 (a0 a1 a2 a3 a4 : Int) (v3 : Bool) (v5 v6 : List RA) (N : Nat) : (Zc a0 a1 a2 a3 a4 N).Ok Tryz.prog Zo (.h2m3 v3 v5 v6 : law32_FifoFormsX) (Zp a0 a1 a2 a3 a4 N (.h2m3 v3 v5 v6 : law32_FifoFormsX)) := by
 show (Zc a0 a1 a2 a3 a4 N).Ok Tryz.prog Zo (.h2m3 v3 v5 v6 : law32_FifoFormsX) (Zcc a0 a1 a2 a3 a4 N v3 v5 v6)
 unfold Zcc
 refine Mach.ok_ite (fun g0 => ?_) (fun g0 => ?_)
 ·
  subst g0
  exact Mach.ok_none
 ·
  obtain rfl : v3 = false := by simpa using g0
  refine Mach.ok_ite (fun g1 => ?_) (fun g1 => ?_)
  ·
   refine Mach.ok_ite (fun g2 => ?_) (fun g2 => ?_)
   ·
    refine Mach.ok_ite (fun g3 => ?_) (fun g3 => ?_)
    ·
     refine Mach.ok_ite (fun g4 => ?_) (fun g4 => ?_)
     ·
      refine Mach.ok_ite (fun g5 => ?_) (fun g5 => ?_)
      ·
       refine Mach.ok_ite (fun g6 => ?_) (fun g6 => ?_)
       ·
        exact Mach.ok_next (M := Zc a0 a1 a2 a3 a4 N) (cd := 1000000) (cm := 0) (y := (.h2m9 (v5) (v6) : law32_FifoFormsX)) (fu := 4000) (orc := (Zk [(1, true), (2, true), (3, true), (4, true)] [] [] [] [])) (live := [0, 1, 2, 3]) (tv := fun _ => [some (vi a0), some (vi a1), some (vi a2), some (vp 0 0), some (vp 1 0), some (vf), some (vT), some (vi (1 : Int))]) (bl := [some (.cells [vn, vs 2 0 v5.length v5.length, vn, vs 3 0 v6.length v6.length] 23), some (.cells [vi (240 : Int), vq, vi (240 : Int), vq] 25), some (.cells (Ze Zb v5) 57), some (.cells (Ze Zb v6) 57)]) (ob := [((decide (a1 ≤ (3 : Int))), true), ((decide (a1 ≥ (0 : Int))), true), ((decide (a0 ≤ (400 : Int))), true), ((decide (a0 ≥ (0 : Int))), true)]) rfl (show 2 ∈ Zl (Zh 2) from by decide +kernel) (fun gv => by kernel_rfl) (oY <| oY <| oY <| oY Zf) rfl (by decide) (by rfl) (fun _ => ⟨rr, ⟨rr, ⟨rr, ⟨rr, ⟨rr, ⟨rr, ⟨rr, ⟨rr, trivial⟩⟩⟩⟩⟩⟩⟩⟩) ⟨⟨rfl, ⟨[], by rfl⟩, by rfl⟩, ⟨⟨rfl, ⟨[], by rfl⟩, by rfl⟩, ⟨(Zi (E := Zb) (α := RA) _ v5 _), ⟨(Zi (E := Zb) (α := RA) _ v6 _), trivial⟩⟩⟩⟩
       ·
        exact Mach.ok_none
      ·
       exact Mach.ok_none
     ·
      exact Mach.ok_none
    ·
     exact Mach.ok_none
   ·
    exact Mach.ok_none
  ·
   exact Mach.ok_none

theorem Zi1 (a0 a1 a2 a3 a4 : Int) (v3 v4 : Bool) (v5 : List RA) (N : Nat) : (Zc a0 a1 a2 a3 a4 N).Ok Tryz.prog Zo (.h2m4 v3 v4 v5 : law32_FifoFormsX) (Zp a0 a1 a2 a3 a4 N (.h2m4 v3 v4 v5 : law32_FifoFormsX)) := by
 show (Zc a0 a1 a2 a3 a4 N).Ok Tryz.prog Zo (.h2m4 v3 v4 v5 : law32_FifoFormsX) (Zcd a0 a1 a2 a3 a4 N v3 v4 v5)
 unfold Zcd
 refine Mach.ok_ite (fun g0 => ?_) (fun g0 => ?_)
 ·
  subst g0
  exact Mach.ok_none
 ·
  obtain rfl : v3 = false := by simpa using g0
  refine Mach.ok_ite (fun g1 => ?_) (fun g1 => ?_)
  ·
   refine Mach.ok_ite (fun g2 => ?_) (fun g2 => ?_)
   ·
    refine Mach.ok_ite (fun g3 => ?_) (fun g3 => ?_)
    ·
     refine Mach.ok_ite (fun g4 => ?_) (fun g4 => ?_)
     ·
      exact Mach.ok_next (M := Zc a0 a1 a2 a3 a4 N) (cd := 1000000) (cm := 0) (y := (.h2m10 (v4) (v5) : law32_FifoFormsX)) (fu := 4000) (orc := (Zk [(1, true), (2, true), (3, true), (4, true)] [] [] [] [])) (live := [0, 1, 2]) (tv := fun _ => [some (vi a0), some (vi a1), some (vi a2), some (vp 0 0), some (vp 1 0), some (vf), some (Value.bool v4), some (vi (1 : Int))]) (bl := [some (.cells [vn, vs 2 0 v5.length v5.length, vn, vn] 23), some (.cells [vi (240 : Int), vq, vi (240 : Int), vi (240 : Int)] 25), some (.cells (Ze Zb v5) 57)]) (ob := [((decide (a1 ≤ (3 : Int))), true), ((decide (a1 ≥ (0 : Int))), true), ((decide (a0 ≤ (400 : Int))), true), ((decide (a0 ≥ (0 : Int))), true)]) rfl (show 2 ∈ Zl (Zh 2) from by decide +kernel) (fun gv => by kernel_rfl) (oY <| oY <| oY <| oY Zf) rfl (by decide) (by rfl) (fun _ => ⟨rr, ⟨rr, ⟨rr, ⟨rr, ⟨rr, ⟨rr, ⟨rr, ⟨rr, trivial⟩⟩⟩⟩⟩⟩⟩⟩) ⟨⟨rfl, ⟨[], by rfl⟩, by rfl⟩, ⟨⟨rfl, ⟨[], by rfl⟩, by rfl⟩, ⟨(Zi (E := Zb) (α := RA) _ v5 _), trivial⟩⟩⟩
     ·
      exact Mach.ok_none
    ·
     exact Mach.ok_none
   ·
    exact Mach.ok_none
  ·
   exact Mach.ok_none

theorem Zi2 (a0 a1 a2 a3 a4 : Int) (v3 v4 : Bool) (N : Nat) : (Zc a0 a1 a2 a3 a4 N).Ok Tryz.prog Zo (.h2m5 v3 v4 : law32_FifoFormsX) (Zp a0 a1 a2 a3 a4 N (.h2m5 v3 v4 : law32_FifoFormsX)) := by
 show (Zc a0 a1 a2 a3 a4 N).Ok Tryz.prog Zo (.h2m5 v3 v4 : law32_FifoFormsX) (Zce a0 a1 a2 a3 a4 N v3 v4)
 unfold Zce
 refine Mach.ok_ite (fun g0 => ?_) (fun g0 => ?_)
 ·
  subst g0
  refine Mach.ok_ite (fun g1 => ?_) (fun g1 => ?_)
  ·
   subst g1
   refine Mach.ok_ite (fun g2 => ?_) (fun g2 => ?_)
   ·
    refine Mach.ok_ite (fun g3 => ?_) (fun g3 => ?_)
    ·
     refine Mach.ok_ite (fun g4 => ?_) (fun g4 => ?_)
     ·
      refine Mach.ok_ite (fun g5 => ?_) (fun g5 => ?_)
      ·
       exact Mach.ok_fin (M := Zc a0 a1 a2 a3 a4 N) (cd := 1000000) (cm := 0) (r := (.r0 (false) : Zg)) (fu := 4000) (orc := (Zk [(1, true), (2, true), (3, true), (4, true)] [] [] [] [])) (live := []) (u := vf) (bl := []) (ob := [((decide (a1 ≤ (3 : Int))), true), ((decide (a1 ≥ (0 : Int))), true), ((decide (a0 ≤ (400 : Int))), true), ((decide (a0 ≥ (0 : Int))), true)]) (fun gv => by kernel_rfl) (oY <| oY <| oY <| oY Zf) rfl (by decide) (by rfl) rr trivial
      ·
       exact Mach.ok_next (M := Zc a0 a1 a2 a3 a4 N) (cd := 1000000) (cm := 0) (y := (.h2m11 (true) (true) : law32_FifoFormsX)) (fu := 4000) (orc := (Zk [(1, true), (2, true), (3, true), (4, false)] [] [] [] [])) (live := [0, 1]) (tv := fun _ => [some (vi a0), some (vi a1), some (vi a2), some (vp 0 0), some (vp 1 0), some (vT), some (vT), some (vi (1 : Int))]) (bl := [some (.cells [vn, vn, vn, vn] 23), some ZJ]) (ob := [((decide (a1 ≤ (3 : Int))), false), ((decide (a1 ≥ (0 : Int))), true), ((decide (a0 ≤ (400 : Int))), true), ((decide (a0 ≥ (0 : Int))), true)]) rfl (show 2 ∈ Zl (Zh 2) from by decide +kernel) (fun gv => by kernel_rfl) (oN <| oY <| oY <| oY Zf) rfl (by decide) (by rfl) (fun _ => ⟨rr, ⟨rr, ⟨rr, ⟨rr, ⟨rr, ⟨rr, ⟨rr, ⟨rr, trivial⟩⟩⟩⟩⟩⟩⟩⟩) ⟨⟨rfl, ⟨[], by rfl⟩, by rfl⟩, ⟨⟨rfl, ⟨[], by rfl⟩, by rfl⟩, trivial⟩⟩
     ·
      exact Mach.ok_next (M := Zc a0 a1 a2 a3 a4 N) (cd := 1000000) (cm := 0) (y := (.h2m11 (true) (true) : law32_FifoFormsX)) (fu := 4000) (orc := (Zk [(1, true), (2, true), (3, false)] [] [] [] [])) (live := [0, 1]) (tv := fun _ => [some (vi a0), some (vi a1), some (vi a2), some (vp 0 0), some (vp 1 0), some (vT), some (vT), some (vi (1 : Int))]) (bl := [some (.cells [vn, vn, vn, vn] 23), some ZJ]) (ob := [((decide (a1 ≥ (0 : Int))), false), ((decide (a0 ≤ (400 : Int))), true), ((decide (a0 ≥ (0 : Int))), true)]) rfl (show 2 ∈ Zl (Zh 2) from by decide +kernel) (fun gv => by kernel_rfl) (oN <| oY <| oY Zf) rfl (by decide) (by rfl) (fun _ => ⟨rr, ⟨rr, ⟨rr, ⟨rr, ⟨rr, ⟨rr, ⟨rr, ⟨rr, trivial⟩⟩⟩⟩⟩⟩⟩⟩) ⟨⟨rfl, ⟨[], by rfl⟩, by rfl⟩, ⟨⟨rfl, ⟨[], by rfl⟩, by rfl⟩, trivial⟩⟩
    ·
     exact Mach.ok_next (M := Zc a0 a1 a2 a3 a4 N) (cd := 1000000) (cm := 0) (y := (.h2m11 (true) (true) : law32_FifoFormsX)) (fu := 4000) (orc := (Zk [(1, true), (2, false)] [] [] [] [])) (live := [0, 1]) (tv := fun _ => [some (vi a0), some (vi a1), some (vi a2), some (vp 0 0), some (vp 1 0), some (vT), some (vT), some (vi (1 : Int))]) (bl := [some (.cells [vn, vn, vn, vn] 23), some ZJ]) (ob := [((decide (a0 ≤ (400 : Int))), false), ((decide (a0 ≥ (0 : Int))), true)]) rfl (show 2 ∈ Zl (Zh 2) from by decide +kernel) (fun gv => by kernel_rfl) (oN <| oY Zf) rfl (by decide) (by rfl) (fun _ => ⟨rr, ⟨rr, ⟨rr, ⟨rr, ⟨rr, ⟨rr, ⟨rr, ⟨rr, trivial⟩⟩⟩⟩⟩⟩⟩⟩) ⟨⟨rfl, ⟨[], by rfl⟩, by rfl⟩, ⟨⟨rfl, ⟨[], by rfl⟩, by rfl⟩, trivial⟩⟩
   ·
    exact Mach.ok_next (M := Zc a0 a1 a2 a3 a4 N) (cd := 1000000) (cm := 0) (y := (.h2m11 (true) (true) : law32_FifoFormsX)) (fu := 4000) (orc := (Zk [(1, false)] [] [] [] [])) (live := [0, 1]) (tv := fun _ => [some (vi a0), some (vi a1), some (vi a2), some (vp 0 0), some (vp 1 0), some (vT), some (vT), some (vi (1 : Int))]) (bl := [some (.cells [vn, vn, vn, vn] 23), some ZJ]) (ob := [((decide (a0 ≥ (0 : Int))), false)]) rfl (show 2 ∈ Zl (Zh 2) from by decide +kernel) (fun gv => by kernel_rfl) (oN Zf) rfl (by decide) (by rfl) (fun _ => ⟨rr, ⟨rr, ⟨rr, ⟨rr, ⟨rr, ⟨rr, ⟨rr, ⟨rr, trivial⟩⟩⟩⟩⟩⟩⟩⟩) ⟨⟨rfl, ⟨[], by rfl⟩, by rfl⟩, ⟨⟨rfl, ⟨[], by rfl⟩, by rfl⟩, trivial⟩⟩
  ·
   obtain rfl : v4 = false := by simpa using g1
   by_cases g2 : (0 : Int) ≤ a0
   ·
    by_cases g3 : a0 ≤ (400 : Int)
    ·
     by_cases g4 : (0 : Int) ≤ a1
     ·
      by_cases g5 : a1 ≤ (3 : Int)
      ·
       exact Mach.ok_next (M := Zc a0 a1 a2 a3 a4 N) (cd := 1000000) (cm := 0) (y := (.h2m11 (true) (false) : law32_FifoFormsX)) (fu := 4000) (orc := (Zk [(1, true), (2, true), (3, true), (4, true)] [] [] [] [])) (live := [0, 1]) (tv := fun _ => [some (vi a0), some (vi a1), some (vi a2), some (vp 0 0), some (vp 1 0), some (vT), some (vf), some (vi (1 : Int))]) (bl := [some (.cells [vn, vn, vn, vn] 23), some ZJ]) (ob := [((decide (a1 ≤ (3 : Int))), true), ((decide (a1 ≥ (0 : Int))), true), ((decide (a0 ≤ (400 : Int))), true), ((decide (a0 ≥ (0 : Int))), true)]) rfl (show 2 ∈ Zl (Zh 2) from by decide +kernel) (fun gv => by kernel_rfl) (oY <| oY <| oY <| oY Zf) rfl (by decide) (by rfl) (fun _ => ⟨rr, ⟨rr, ⟨rr, ⟨rr, ⟨rr, ⟨rr, ⟨rr, ⟨rr, trivial⟩⟩⟩⟩⟩⟩⟩⟩) ⟨⟨rfl, ⟨[], by rfl⟩, by rfl⟩, ⟨⟨rfl, ⟨[], by rfl⟩, by rfl⟩, trivial⟩⟩
      ·
       exact Mach.ok_next (M := Zc a0 a1 a2 a3 a4 N) (cd := 1000000) (cm := 0) (y := (.h2m11 (true) (false) : law32_FifoFormsX)) (fu := 4000) (orc := (Zk [(1, true), (2, true), (3, true), (4, false)] [] [] [] [])) (live := [0, 1]) (tv := fun _ => [some (vi a0), some (vi a1), some (vi a2), some (vp 0 0), some (vp 1 0), some (vT), some (vf), some (vi (1 : Int))]) (bl := [some (.cells [vn, vn, vn, vn] 23), some ZJ]) (ob := [((decide (a1 ≤ (3 : Int))), false), ((decide (a1 ≥ (0 : Int))), true), ((decide (a0 ≤ (400 : Int))), true), ((decide (a0 ≥ (0 : Int))), true)]) rfl (show 2 ∈ Zl (Zh 2) from by decide +kernel) (fun gv => by kernel_rfl) (oN <| oY <| oY <| oY Zf) rfl (by decide) (by rfl) (fun _ => ⟨rr, ⟨rr, ⟨rr, ⟨rr, ⟨rr, ⟨rr, ⟨rr, ⟨rr, trivial⟩⟩⟩⟩⟩⟩⟩⟩) ⟨⟨rfl, ⟨[], by rfl⟩, by rfl⟩, ⟨⟨rfl, ⟨[], by rfl⟩, by rfl⟩, trivial⟩⟩
     ·
      exact Mach.ok_next (M := Zc a0 a1 a2 a3 a4 N) (cd := 1000000) (cm := 0) (y := (.h2m11 (true) (false) : law32_FifoFormsX)) (fu := 4000) (orc := (Zk [(1, true), (2, true), (3, false)] [] [] [] [])) (live := [0, 1]) (tv := fun _ => [some (vi a0), some (vi a1), some (vi a2), some (vp 0 0), some (vp 1 0), some (vT), some (vf), some (vi (1 : Int))]) (bl := [some (.cells [vn, vn, vn, vn] 23), some ZJ]) (ob := [((decide (a1 ≥ (0 : Int))), false), ((decide (a0 ≤ (400 : Int))), true), ((decide (a0 ≥ (0 : Int))), true)]) rfl (show 2 ∈ Zl (Zh 2) from by decide +kernel) (fun gv => by kernel_rfl) (oN <| oY <| oY Zf) rfl (by decide) (by rfl) (fun _ => ⟨rr, ⟨rr, ⟨rr, ⟨rr, ⟨rr, ⟨rr, ⟨rr, ⟨rr, trivial⟩⟩⟩⟩⟩⟩⟩⟩) ⟨⟨rfl, ⟨[], by rfl⟩, by rfl⟩, ⟨⟨rfl, ⟨[], by rfl⟩, by rfl⟩, trivial⟩⟩
    ·
     exact Mach.ok_next (M := Zc a0 a1 a2 a3 a4 N) (cd := 1000000) (cm := 0) (y := (.h2m11 (true) (false) : law32_FifoFormsX)) (fu := 4000) (orc := (Zk [(1, true), (2, false)] [] [] [] [])) (live := [0, 1]) (tv := fun _ => [some (vi a0), some (vi a1), some (vi a2), some (vp 0 0), some (vp 1 0), some (vT), some (vf), some (vi (1 : Int))]) (bl := [some (.cells [vn, vn, vn, vn] 23), some ZJ]) (ob := [((decide (a0 ≤ (400 : Int))), false), ((decide (a0 ≥ (0 : Int))), true)]) rfl (show 2 ∈ Zl (Zh 2) from by decide +kernel) (fun gv => by kernel_rfl) (oN <| oY Zf) rfl (by decide) (by rfl) (fun _ => ⟨rr, ⟨rr, ⟨rr, ⟨rr, ⟨rr, ⟨rr, ⟨rr, ⟨rr, trivial⟩⟩⟩⟩⟩⟩⟩⟩) ⟨⟨rfl, ⟨[], by rfl⟩, by rfl⟩, ⟨⟨rfl, ⟨[], by rfl⟩, by rfl⟩, trivial⟩⟩
   ·
    exact Mach.ok_next (M := Zc a0 a1 a2 a3 a4 N) (cd := 1000000) (cm := 0) (y := (.h2m11 (true) (false) : law32_FifoFormsX)) (fu := 4000) (orc := (Zk [(1, false)] [] [] [] [])) (live := [0, 1]) (tv := fun _ => [some (vi a0), some (vi a1), some (vi a2), some (vp 0 0), some (vp 1 0), some (vT), some (vf), some (vi (1 : Int))]) (bl := [some (.cells [vn, vn, vn, vn] 23), some ZJ]) (ob := [((decide (a0 ≥ (0 : Int))), false)]) rfl (show 2 ∈ Zl (Zh 2) from by decide +kernel) (fun gv => by kernel_rfl) (oN Zf) rfl (by decide) (by rfl) (fun _ => ⟨rr, ⟨rr, ⟨rr, ⟨rr, ⟨rr, ⟨rr, ⟨rr, ⟨rr, trivial⟩⟩⟩⟩⟩⟩⟩⟩) ⟨⟨rfl, ⟨[], by rfl⟩, by rfl⟩, ⟨⟨rfl, ⟨[], by rfl⟩, by rfl⟩, trivial⟩⟩
 ·
  obtain rfl : v3 = false := by simpa using g0
  refine Mach.ok_ite (fun g1 => ?_) (fun g1 => ?_)
  ·
   subst g1
   by_cases g2 : (0 : Int) ≤ a0
   ·
    by_cases g3 : a0 ≤ (400 : Int)
    ·
     by_cases g4 : (0 : Int) ≤ a1
     ·
      by_cases g5 : a1 ≤ (3 : Int)
      ·
       exact Mach.ok_next (M := Zc a0 a1 a2 a3 a4 N) (cd := 1000000) (cm := 0) (y := (.h2m11 (false) (true) : law32_FifoFormsX)) (fu := 4000) (orc := (Zk [(1, true), (2, true), (3, true), (4, true)] [] [] [] [])) (live := [0, 1]) (tv := fun _ => [some (vi a0), some (vi a1), some (vi a2), some (vp 0 0), some (vp 1 0), some (vf), some (vT), some (vi (1 : Int))]) (bl := [some (.cells [vn, vn, vn, vn] 23), some ZJ]) (ob := [((decide (a1 ≤ (3 : Int))), true), ((decide (a1 ≥ (0 : Int))), true), ((decide (a0 ≤ (400 : Int))), true), ((decide (a0 ≥ (0 : Int))), true)]) rfl (show 2 ∈ Zl (Zh 2) from by decide +kernel) (fun gv => by kernel_rfl) (oY <| oY <| oY <| oY Zf) rfl (by decide) (by rfl) (fun _ => ⟨rr, ⟨rr, ⟨rr, ⟨rr, ⟨rr, ⟨rr, ⟨rr, ⟨rr, trivial⟩⟩⟩⟩⟩⟩⟩⟩) ⟨⟨rfl, ⟨[], by rfl⟩, by rfl⟩, ⟨⟨rfl, ⟨[], by rfl⟩, by rfl⟩, trivial⟩⟩
      ·
       exact Mach.ok_next (M := Zc a0 a1 a2 a3 a4 N) (cd := 1000000) (cm := 0) (y := (.h2m11 (false) (true) : law32_FifoFormsX)) (fu := 4000) (orc := (Zk [(1, true), (2, true), (3, true), (4, false)] [] [] [] [])) (live := [0, 1]) (tv := fun _ => [some (vi a0), some (vi a1), some (vi a2), some (vp 0 0), some (vp 1 0), some (vf), some (vT), some (vi (1 : Int))]) (bl := [some (.cells [vn, vn, vn, vn] 23), some ZJ]) (ob := [((decide (a1 ≤ (3 : Int))), false), ((decide (a1 ≥ (0 : Int))), true), ((decide (a0 ≤ (400 : Int))), true), ((decide (a0 ≥ (0 : Int))), true)]) rfl (show 2 ∈ Zl (Zh 2) from by decide +kernel) (fun gv => by kernel_rfl) (oN <| oY <| oY <| oY Zf) rfl (by decide) (by rfl) (fun _ => ⟨rr, ⟨rr, ⟨rr, ⟨rr, ⟨rr, ⟨rr, ⟨rr, ⟨rr, trivial⟩⟩⟩⟩⟩⟩⟩⟩) ⟨⟨rfl, ⟨[], by rfl⟩, by rfl⟩, ⟨⟨rfl, ⟨[], by rfl⟩, by rfl⟩, trivial⟩⟩
     ·
      exact Mach.ok_next (M := Zc a0 a1 a2 a3 a4 N) (cd := 1000000) (cm := 0) (y := (.h2m11 (false) (true) : law32_FifoFormsX)) (fu := 4000) (orc := (Zk [(1, true), (2, true), (3, false)] [] [] [] [])) (live := [0, 1]) (tv := fun _ => [some (vi a0), some (vi a1), some (vi a2), some (vp 0 0), some (vp 1 0), some (vf), some (vT), some (vi (1 : Int))]) (bl := [some (.cells [vn, vn, vn, vn] 23), some ZJ]) (ob := [((decide (a1 ≥ (0 : Int))), false), ((decide (a0 ≤ (400 : Int))), true), ((decide (a0 ≥ (0 : Int))), true)]) rfl (show 2 ∈ Zl (Zh 2) from by decide +kernel) (fun gv => by kernel_rfl) (oN <| oY <| oY Zf) rfl (by decide) (by rfl) (fun _ => ⟨rr, ⟨rr, ⟨rr, ⟨rr, ⟨rr, ⟨rr, ⟨rr, ⟨rr, trivial⟩⟩⟩⟩⟩⟩⟩⟩) ⟨⟨rfl, ⟨[], by rfl⟩, by rfl⟩, ⟨⟨rfl, ⟨[], by rfl⟩, by rfl⟩, trivial⟩⟩
    ·
     exact Mach.ok_next (M := Zc a0 a1 a2 a3 a4 N) (cd := 1000000) (cm := 0) (y := (.h2m11 (false) (true) : law32_FifoFormsX)) (fu := 4000) (orc := (Zk [(1, true), (2, false)] [] [] [] [])) (live := [0, 1]) (tv := fun _ => [some (vi a0), some (vi a1), some (vi a2), some (vp 0 0), some (vp 1 0), some (vf), some (vT), some (vi (1 : Int))]) (bl := [some (.cells [vn, vn, vn, vn] 23), some ZJ]) (ob := [((decide (a0 ≤ (400 : Int))), false), ((decide (a0 ≥ (0 : Int))), true)]) rfl (show 2 ∈ Zl (Zh 2) from by decide +kernel) (fun gv => by kernel_rfl) (oN <| oY Zf) rfl (by decide) (by rfl) (fun _ => ⟨rr, ⟨rr, ⟨rr, ⟨rr, ⟨rr, ⟨rr, ⟨rr, ⟨rr, trivial⟩⟩⟩⟩⟩⟩⟩⟩) ⟨⟨rfl, ⟨[], by rfl⟩, by rfl⟩, ⟨⟨rfl, ⟨[], by rfl⟩, by rfl⟩, trivial⟩⟩
   ·
    exact Mach.ok_next (M := Zc a0 a1 a2 a3 a4 N) (cd := 1000000) (cm := 0) (y := (.h2m11 (false) (true) : law32_FifoFormsX)) (fu := 4000) (orc := (Zk [(1, false)] [] [] [] [])) (live := [0, 1]) (tv := fun _ => [some (vi a0), some (vi a1), some (vi a2), some (vp 0 0), some (vp 1 0), some (vf), some (vT), some (vi (1 : Int))]) (bl := [some (.cells [vn, vn, vn, vn] 23), some ZJ]) (ob := [((decide (a0 ≥ (0 : Int))), false)]) rfl (show 2 ∈ Zl (Zh 2) from by decide +kernel) (fun gv => by kernel_rfl) (oN Zf) rfl (by decide) (by rfl) (fun _ => ⟨rr, ⟨rr, ⟨rr, ⟨rr, ⟨rr, ⟨rr, ⟨rr, ⟨rr, trivial⟩⟩⟩⟩⟩⟩⟩⟩) ⟨⟨rfl, ⟨[], by rfl⟩, by rfl⟩, ⟨⟨rfl, ⟨[], by rfl⟩, by rfl⟩, trivial⟩⟩
  ·
   obtain rfl : v4 = false := by simpa using g1
   by_cases g2 : (0 : Int) ≤ a0
   ·
    by_cases g3 : a0 ≤ (400 : Int)
    ·
     by_cases g4 : (0 : Int) ≤ a1
     ·
      by_cases g5 : a1 ≤ (3 : Int)
      ·
       exact Mach.ok_next (M := Zc a0 a1 a2 a3 a4 N) (cd := 1000000) (cm := 0) (y := (.h2m11 (false) (false) : law32_FifoFormsX)) (fu := 4000) (orc := (Zk [(1, true), (2, true), (3, true), (4, true)] [] [] [] [])) (live := [0, 1]) (tv := fun _ => [some (vi a0), some (vi a1), some (vi a2), some (vp 0 0), some (vp 1 0), some (vf), some (vf), some (vi (1 : Int))]) (bl := [some (.cells [vn, vn, vn, vn] 23), some ZJ]) (ob := [((decide (a1 ≤ (3 : Int))), true), ((decide (a1 ≥ (0 : Int))), true), ((decide (a0 ≤ (400 : Int))), true), ((decide (a0 ≥ (0 : Int))), true)]) rfl (show 2 ∈ Zl (Zh 2) from by decide +kernel) (fun gv => by kernel_rfl) (oY <| oY <| oY <| oY Zf) rfl (by decide) (by rfl) (fun _ => ⟨rr, ⟨rr, ⟨rr, ⟨rr, ⟨rr, ⟨rr, ⟨rr, ⟨rr, trivial⟩⟩⟩⟩⟩⟩⟩⟩) ⟨⟨rfl, ⟨[], by rfl⟩, by rfl⟩, ⟨⟨rfl, ⟨[], by rfl⟩, by rfl⟩, trivial⟩⟩
      ·
       exact Mach.ok_next (M := Zc a0 a1 a2 a3 a4 N) (cd := 1000000) (cm := 0) (y := (.h2m11 (false) (false) : law32_FifoFormsX)) (fu := 4000) (orc := (Zk [(1, true), (2, true), (3, true), (4, false)] [] [] [] [])) (live := [0, 1]) (tv := fun _ => [some (vi a0), some (vi a1), some (vi a2), some (vp 0 0), some (vp 1 0), some (vf), some (vf), some (vi (1 : Int))]) (bl := [some (.cells [vn, vn, vn, vn] 23), some ZJ]) (ob := [((decide (a1 ≤ (3 : Int))), false), ((decide (a1 ≥ (0 : Int))), true), ((decide (a0 ≤ (400 : Int))), true), ((decide (a0 ≥ (0 : Int))), true)]) rfl (show 2 ∈ Zl (Zh 2) from by decide +kernel) (fun gv => by kernel_rfl) (oN <| oY <| oY <| oY Zf) rfl (by decide) (by rfl) (fun _ => ⟨rr, ⟨rr, ⟨rr, ⟨rr, ⟨rr, ⟨rr, ⟨rr, ⟨rr, trivial⟩⟩⟩⟩⟩⟩⟩⟩) ⟨⟨rfl, ⟨[], by rfl⟩, by rfl⟩, ⟨⟨rfl, ⟨[], by rfl⟩, by rfl⟩, trivial⟩⟩
     ·
      exact Mach.ok_next (M := Zc a0 a1 a2 a3 a4 N) (cd := 1000000) (cm := 0) (y := (.h2m11 (false) (false) : law32_FifoFormsX)) (fu := 4000) (orc := (Zk [(1, true), (2, true), (3, false)] [] [] [] [])) (live := [0, 1]) (tv := fun _ => [some (vi a0), some (vi a1), some (vi a2), some (vp 0 0), some (vp 1 0), some (vf), some (vf), some (vi (1 : Int))]) (bl := [some (.cells [vn, vn, vn, vn] 23), some ZJ]) (ob := [((decide (a1 ≥ (0 : Int))), false), ((decide (a0 ≤ (400 : Int))), true), ((decide (a0 ≥ (0 : Int))), true)]) rfl (show 2 ∈ Zl (Zh 2) from by decide +kernel) (fun gv => by kernel_rfl) (oN <| oY <| oY Zf) rfl (by decide) (by rfl) (fun _ => ⟨rr, ⟨rr, ⟨rr, ⟨rr, ⟨rr, ⟨rr, ⟨rr, ⟨rr, trivial⟩⟩⟩⟩⟩⟩⟩⟩) ⟨⟨rfl, ⟨[], by rfl⟩, by rfl⟩, ⟨⟨rfl, ⟨[], by rfl⟩, by rfl⟩, trivial⟩⟩
    ·
     exact Mach.ok_next (M := Zc a0 a1 a2 a3 a4 N) (cd := 1000000) (cm := 0) (y := (.h2m11 (false) (false) : law32_FifoFormsX)) (fu := 4000) (orc := (Zk [(1, true), (2, false)] [] [] [] [])) (live := [0, 1]) (tv := fun _ => [some (vi a0), some (vi a1), some (vi a2), some (vp 0 0), some (vp 1 0), some (vf), some (vf), some (vi (1 : Int))]) (bl := [some (.cells [vn, vn, vn, vn] 23), some ZJ]) (ob := [((decide (a0 ≤ (400 : Int))), false), ((decide (a0 ≥ (0 : Int))), true)]) rfl (show 2 ∈ Zl (Zh 2) from by decide +kernel) (fun gv => by kernel_rfl) (oN <| oY Zf) rfl (by decide) (by rfl) (fun _ => ⟨rr, ⟨rr, ⟨rr, ⟨rr, ⟨rr, ⟨rr, ⟨rr, ⟨rr, trivial⟩⟩⟩⟩⟩⟩⟩⟩) ⟨⟨rfl, ⟨[], by rfl⟩, by rfl⟩, ⟨⟨rfl, ⟨[], by rfl⟩, by rfl⟩, trivial⟩⟩
   ·
    exact Mach.ok_next (M := Zc a0 a1 a2 a3 a4 N) (cd := 1000000) (cm := 0) (y := (.h2m11 (false) (false) : law32_FifoFormsX)) (fu := 4000) (orc := (Zk [(1, false)] [] [] [] [])) (live := [0, 1]) (tv := fun _ => [some (vi a0), some (vi a1), some (vi a2), some (vp 0 0), some (vp 1 0), some (vf), some (vf), some (vi (1 : Int))]) (bl := [some (.cells [vn, vn, vn, vn] 23), some ZJ]) (ob := [((decide (a0 ≥ (0 : Int))), false)]) rfl (show 2 ∈ Zl (Zh 2) from by decide +kernel) (fun gv => by kernel_rfl) (oN Zf) rfl (by decide) (by rfl) (fun _ => ⟨rr, ⟨rr, ⟨rr, ⟨rr, ⟨rr, ⟨rr, ⟨rr, ⟨rr, trivial⟩⟩⟩⟩⟩⟩⟩⟩) ⟨⟨rfl, ⟨[], by rfl⟩, by rfl⟩, ⟨⟨rfl, ⟨[], by rfl⟩, by rfl⟩, trivial⟩⟩

theorem Zi3 (a0 a1 a2 a3 a4 : Int) (v5 v6 v7 v8 : List RA) (N : Nat) : (Zc a0 a1 a2 a3 a4 N).Ok Tryz.prog Zo (.h2m6 v5 v6 v7 v8 : law32_FifoFormsX) (Zp a0 a1 a2 a3 a4 N (.h2m6 v5 v6 v7 v8 : law32_FifoFormsX)) := by
 show (Zc a0 a1 a2 a3 a4 N).Ok Tryz.prog Zo (.h2m6 v5 v6 v7 v8 : law32_FifoFormsX) (Zcf a0 a1 a2 a3 a4 N v5 v6 v7 v8)
 unfold Zcf
 refine Mach.ok_ite (fun g0 => ?_) (fun g0 => ?_)
 ·
  refine Mach.ok_ite (fun g1 => ?_) (fun g1 => ?_)
  ·
   refine Mach.ok_ite (fun g2 => ?_) (fun g2 => ?_)
   ·
    refine Mach.ok_ite (fun g3 => ?_) (fun g3 => ?_)
    ·
     refine Mach.ok_ite (fun g4 => ?_) (fun g4 => ?_)
     ·
      refine Mach.ok_ite (fun g5 => ?_) (fun g5 => ?_)
      ·
       refine Mach.ok_ite (fun g6 => ?_) (fun g6 => ?_)
       ·
        exact Mach.ok_fin (M := Zc a0 a1 a2 a3 a4 N) (cd := 1000000) (cm := 0) (r := (.r0 (false) : Zg)) (fu := 4000) (orc := (Zk [(1, true), (2, true), (3, true), (4, true), (8, true)] [] [] [] [])) (live := []) (u := vf) (bl := []) (ob := [((decide ((v6.length : Int) < (1 : Int))), true), ((decide (a1 ≤ (3 : Int))), true), ((decide (a1 ≥ (0 : Int))), true), ((decide (a0 ≤ (400 : Int))), true), ((decide (a0 ≥ (0 : Int))), true)]) (fun gv => by kernel_rfl) (oY <| oY <| oY <| oY <| oY Zf) rfl (by decide) (by rfl) rr trivial
       ·
        refine Mach.ok_ite (fun g7 => ?_) (fun g7 => ?_)
        ·
         exact Mach.ok_fin (M := Zc a0 a1 a2 a3 a4 N) (cd := 1000000) (cm := 0) (r := (.r0 (false) : Zg)) (fu := 4000) (orc := (Zk [(1, true), (2, true), (3, true), (4, true), (8, false), (9, true)] [] [] [] [])) (live := []) (u := vf) (bl := []) (ob := [((decide ((v6.length : Int) > (60 : Int))), true), ((decide ((v6.length : Int) < (1 : Int))), false), ((decide (a1 ≤ (3 : Int))), true), ((decide (a1 ≥ (0 : Int))), true), ((decide (a0 ≤ (400 : Int))), true), ((decide (a0 ≥ (0 : Int))), true)]) (fun gv => by kernel_rfl) (oY <| oN <| oY <| oY <| oY <| oY Zf) rfl (by decide) (by rfl) rr trivial
        ·
         refine Mach.ok_bind (fun z8 c8 => ?_)
         cases z8 with
         | r0 y8_0 =>
          refine Mach.ok_ite (fun g9 => ?_) (fun g9 => ?_)
          ·
           exact Mach.ok_fin (M := Zc a0 a1 a2 a3 a4 N) (cd := 1000000) (cm := 0) (r := (.r0 (false) : Zg)) (fu := 4000) (orc := (Zk [(1, true), (2, true), (3, true), (4, true), (8, false), (9, false), (10, true)] [] [] [] [(0, (ZH (v6) (a0)  y8_0 3 6))])) (live := []) (u := vf) (bl := []) (ob := [((!y8_0), true), (dP (ZF #[vs 3 0 v6.length v6.length, vi a0] (v6) (a0)  y8_0 3 6), true), (dS (Ze Zb v6), true), ((decide ((v6.length : Int) > (60 : Int))), false), ((decide ((v6.length : Int) < (1 : Int))), false), ((decide (a1 ≤ (3 : Int))), true), ((decide (a1 ≥ (0 : Int))), true), ((decide (a0 ≤ (400 : Int))), true), ((decide (a0 ≥ (0 : Int))), true)]) (fun gv => by kernel_rfl) (Zd (Zb0 (by first | assumption | simp_all)) <| Zd (Zm (ZI #[vs 3 0 v6.length v6.length, vi a0] (v6) (a0)  y8_0 N c8 3 6 rfl (by decide) (by decide))) <| oR <| oN <| oN <| oY <| oY <| oY <| oY Zf) rfl (by decide) (by rfl) rr trivial
          ·
           exact Mach.ok_next (M := Zc a0 a1 a2 a3 a4 N) (cd := 1000000) (cm := 0) (y := (.h2m12 (v5) (v6) (v7) (v8) : law32_FifoFormsX)) (fu := 4000) (orc := (Zk [(1, true), (2, true), (3, true), (4, true), (8, false), (9, false), (10, false)] [] [] [] [(0, (ZH (v6) (a0)  y8_0 3 6))])) (live := [0, 1, 2, 3, 4, 5]) (tv := fun _ => [some (vi a0), some (vi a1), some (vi a2), some (vp 0 0), some (vp 1 0), some (vT), some (vT), some (vi (2 : Int))]) (bl := [some (.cells [vs 2 0 v5.length v5.length, vs 3 0 v6.length v6.length, vs 4 0 v7.length v7.length, vs 5 0 v8.length v8.length] 23), some (.cells [vq, vq, vq, vq] 25), some (.cells (Ze Zb v5) 57), some (.cells (Ze Zb v6) 57), some (.cells (Ze Zb v7) 57), some (.cells (Ze Zb v8) 57)]) (ob := [((!y8_0), false), (dP (ZF #[vs 3 0 v6.length v6.length, vi a0] (v6) (a0)  y8_0 3 6), true), (dS (Ze Zb v6), true), ((decide ((v6.length : Int) > (60 : Int))), false), ((decide ((v6.length : Int) < (1 : Int))), false), ((decide (a1 ≤ (3 : Int))), true), ((decide (a1 ≥ (0 : Int))), true), ((decide (a0 ≤ (400 : Int))), true), ((decide (a0 ≥ (0 : Int))), true)]) rfl (show 2 ∈ Zl (Zh 2) from by decide +kernel) (fun gv => by kernel_rfl) (Zd (Zbk (by first | assumption | exact Decidable.not_not.1 (by assumption) | simp_all)) <| Zd (Zm (ZI #[vs 3 0 v6.length v6.length, vi a0] (v6) (a0)  y8_0 N c8 3 6 rfl (by decide) (by decide))) <| oR <| oN <| oN <| oY <| oY <| oY <| oY Zf) rfl (by decide) (by rfl) (fun _ => ⟨rr, ⟨rr, ⟨rr, ⟨rr, ⟨rr, ⟨rr, ⟨rr, ⟨rr, trivial⟩⟩⟩⟩⟩⟩⟩⟩) ⟨⟨rfl, ⟨[], by rfl⟩, by rfl⟩, ⟨⟨rfl, ⟨[], by rfl⟩, by rfl⟩, ⟨(Zi (E := Zb) (α := RA) _ v5 _), ⟨(Zi (E := Zb) (α := RA) _ v6 _), ⟨(Zi (E := Zb) (α := RA) _ v7 _), ⟨(Zi (E := Zb) (α := RA) _ v8 _), trivial⟩⟩⟩⟩⟩⟩
      ·
       exact Mach.ok_none
     ·
      exact Mach.ok_none
    ·
     exact Mach.ok_none
   ·
    exact Mach.ok_none
  ·
   exact Mach.ok_none
 ·
  exact Mach.ok_none

theorem Zi4 (a0 a1 a2 a3 a4 : Int) (v5 v6 v7 : List RA) (N : Nat) : (Zc a0 a1 a2 a3 a4 N).Ok Tryz.prog Zo (.h2m7 v5 v6 v7 : law32_FifoFormsX) (Zp a0 a1 a2 a3 a4 N (.h2m7 v5 v6 v7 : law32_FifoFormsX)) := by
 show (Zc a0 a1 a2 a3 a4 N).Ok Tryz.prog Zo (.h2m7 v5 v6 v7 : law32_FifoFormsX) (Zcg a0 a1 a2 a3 a4 N v5 v6 v7)
 unfold Zcg
 refine Mach.ok_ite (fun g0 => ?_) (fun g0 => ?_)
 ·
  refine Mach.ok_ite (fun g1 => ?_) (fun g1 => ?_)
  ·
   refine Mach.ok_ite (fun g2 => ?_) (fun g2 => ?_)
   ·
    refine Mach.ok_ite (fun g3 => ?_) (fun g3 => ?_)
    ·
     refine Mach.ok_ite (fun g4 => ?_) (fun g4 => ?_)
     ·
      exact Mach.ok_fin (M := Zc a0 a1 a2 a3 a4 N) (cd := 1000000) (cm := 0) (r := (.r0 (false) : Zg)) (fu := 4000) (orc := (Zk [(1, true), (2, true), (3, true), (4, true), (8, true)] [] [] [] [])) (live := []) (u := vf) (bl := []) (ob := [((decide ((v6.length : Int) < (1 : Int))), true), ((decide (a1 ≤ (3 : Int))), true), ((decide (a1 ≥ (0 : Int))), true), ((decide (a0 ≤ (400 : Int))), true), ((decide (a0 ≥ (0 : Int))), true)]) (fun gv => by kernel_rfl) (oY <| oY <| oY <| oY <| oY Zf) rfl (by decide) (by rfl) rr trivial
     ·
      refine Mach.ok_ite (fun g5 => ?_) (fun g5 => ?_)
      ·
       exact Mach.ok_fin (M := Zc a0 a1 a2 a3 a4 N) (cd := 1000000) (cm := 0) (r := (.r0 (false) : Zg)) (fu := 4000) (orc := (Zk [(1, true), (2, true), (3, true), (4, true), (8, false), (9, true)] [] [] [] [])) (live := []) (u := vf) (bl := []) (ob := [((decide ((v6.length : Int) > (60 : Int))), true), ((decide ((v6.length : Int) < (1 : Int))), false), ((decide (a1 ≤ (3 : Int))), true), ((decide (a1 ≥ (0 : Int))), true), ((decide (a0 ≤ (400 : Int))), true), ((decide (a0 ≥ (0 : Int))), true)]) (fun gv => by kernel_rfl) (oY <| oN <| oY <| oY <| oY <| oY Zf) rfl (by decide) (by rfl) rr trivial
      ·
       refine Mach.ok_bind (fun z6 c6 => ?_)
       cases z6 with
       | r0 y6_0 =>
        refine Mach.ok_ite (fun g7 => ?_) (fun g7 => ?_)
        ·
         exact Mach.ok_fin (M := Zc a0 a1 a2 a3 a4 N) (cd := 1000000) (cm := 0) (r := (.r0 (false) : Zg)) (fu := 4000) (orc := (Zk [(1, true), (2, true), (3, true), (4, true), (8, false), (9, false), (10, true)] [] [] [] [(0, (ZH (v6) (a0)  y6_0 3 5))])) (live := []) (u := vf) (bl := []) (ob := [((!y6_0), true), (dP (ZF #[vs 3 0 v6.length v6.length, vi a0] (v6) (a0)  y6_0 3 5), true), (dS (Ze Zb v6), true), ((decide ((v6.length : Int) > (60 : Int))), false), ((decide ((v6.length : Int) < (1 : Int))), false), ((decide (a1 ≤ (3 : Int))), true), ((decide (a1 ≥ (0 : Int))), true), ((decide (a0 ≤ (400 : Int))), true), ((decide (a0 ≥ (0 : Int))), true)]) (fun gv => by kernel_rfl) (Zd (Zb0 (by first | assumption | simp_all)) <| Zd (Zm (ZI #[vs 3 0 v6.length v6.length, vi a0] (v6) (a0)  y6_0 N c6 3 5 rfl (by decide) (by decide))) <| oR <| oN <| oN <| oY <| oY <| oY <| oY Zf) rfl (by decide) (by rfl) rr trivial
        ·
         exact Mach.ok_next (M := Zc a0 a1 a2 a3 a4 N) (cd := 1000000) (cm := 0) (y := (.h2m13 (v5) (v6) (v7) : law32_FifoFormsX)) (fu := 4000) (orc := (Zk [(1, true), (2, true), (3, true), (4, true), (8, false), (9, false), (10, false)] [] [] [] [(0, (ZH (v6) (a0)  y6_0 3 5))])) (live := [0, 1, 2, 3, 4]) (tv := fun _ => [some (vi a0), some (vi a1), some (vi a2), some (vp 0 0), some (vp 1 0), some (vT), some (vT), some (vi (2 : Int))]) (bl := [some (.cells [vs 2 0 v5.length v5.length, vs 3 0 v6.length v6.length, vs 4 0 v7.length v7.length, vn] 23), some (.cells [vq, vq, vq, vi (240 : Int)] 25), some (.cells (Ze Zb v5) 57), some (.cells (Ze Zb v6) 57), some (.cells (Ze Zb v7) 57)]) (ob := [((!y6_0), false), (dP (ZF #[vs 3 0 v6.length v6.length, vi a0] (v6) (a0)  y6_0 3 5), true), (dS (Ze Zb v6), true), ((decide ((v6.length : Int) > (60 : Int))), false), ((decide ((v6.length : Int) < (1 : Int))), false), ((decide (a1 ≤ (3 : Int))), true), ((decide (a1 ≥ (0 : Int))), true), ((decide (a0 ≤ (400 : Int))), true), ((decide (a0 ≥ (0 : Int))), true)]) rfl (show 2 ∈ Zl (Zh 2) from by decide +kernel) (fun gv => by kernel_rfl) (Zd (Zbk (by first | assumption | exact Decidable.not_not.1 (by assumption) | simp_all)) <| Zd (Zm (ZI #[vs 3 0 v6.length v6.length, vi a0] (v6) (a0)  y6_0 N c6 3 5 rfl (by decide) (by decide))) <| oR <| oN <| oN <| oY <| oY <| oY <| oY Zf) rfl (by decide) (by rfl) (fun _ => ⟨rr, ⟨rr, ⟨rr, ⟨rr, ⟨rr, ⟨rr, ⟨rr, ⟨rr, trivial⟩⟩⟩⟩⟩⟩⟩⟩) ⟨⟨rfl, ⟨[], by rfl⟩, by rfl⟩, ⟨⟨rfl, ⟨[], by rfl⟩, by rfl⟩, ⟨(Zi (E := Zb) (α := RA) _ v5 _), ⟨(Zi (E := Zb) (α := RA) _ v6 _), ⟨(Zi (E := Zb) (α := RA) _ v7 _), trivial⟩⟩⟩⟩⟩
    ·
     exact Mach.ok_none
   ·
    exact Mach.ok_none
  ·
   exact Mach.ok_none
 ·
  exact Mach.ok_none

theorem Zi5 (a0 a1 a2 a3 a4 : Int) (v5 v6 : List RA) (N : Nat) : (Zc a0 a1 a2 a3 a4 N).Ok Tryz.prog Zo (.h2m8 v5 v6 : law32_FifoFormsX) (Zp a0 a1 a2 a3 a4 N (.h2m8 v5 v6 : law32_FifoFormsX)) := by
 show (Zc a0 a1 a2 a3 a4 N).Ok Tryz.prog Zo (.h2m8 v5 v6 : law32_FifoFormsX) (Zch a0 a1 a2 a3 a4 N v5 v6)
 unfold Zch
 refine Mach.ok_ite (fun g0 => ?_) (fun g0 => ?_)
 ·
  refine Mach.ok_ite (fun g1 => ?_) (fun g1 => ?_)
  ·
   refine Mach.ok_ite (fun g2 => ?_) (fun g2 => ?_)
   ·
    refine Mach.ok_ite (fun g3 => ?_) (fun g3 => ?_)
    ·
     refine Mach.ok_ite (fun g4 => ?_) (fun g4 => ?_)
     ·
      exact Mach.ok_fin (M := Zc a0 a1 a2 a3 a4 N) (cd := 1000000) (cm := 0) (r := (.r0 (false) : Zg)) (fu := 4000) (orc := (Zk [(1, true), (2, true), (3, true), (4, true), (9, true)] [] [] [] [])) (live := []) (u := vf) (bl := []) (ob := [((decide ((v5.length : Int) < (1 : Int))), true), ((decide (a1 ≤ (3 : Int))), true), ((decide (a1 ≥ (0 : Int))), true), ((decide (a0 ≤ (400 : Int))), true), ((decide (a0 ≥ (0 : Int))), true)]) (fun gv => by kernel_rfl) (oY <| oY <| oY <| oY <| oY Zf) rfl (by decide) (by rfl) rr trivial
     ·
      refine Mach.ok_ite (fun g5 => ?_) (fun g5 => ?_)
      ·
       exact Mach.ok_fin (M := Zc a0 a1 a2 a3 a4 N) (cd := 1000000) (cm := 0) (r := (.r0 (false) : Zg)) (fu := 4000) (orc := (Zk [(1, true), (2, true), (3, true), (4, true), (9, false), (10, true)] [] [] [] [])) (live := []) (u := vf) (bl := []) (ob := [((decide ((v5.length : Int) > (60 : Int))), true), ((decide ((v5.length : Int) < (1 : Int))), false), ((decide (a1 ≤ (3 : Int))), true), ((decide (a1 ≥ (0 : Int))), true), ((decide (a0 ≤ (400 : Int))), true), ((decide (a0 ≥ (0 : Int))), true)]) (fun gv => by kernel_rfl) (oY <| oN <| oY <| oY <| oY <| oY Zf) rfl (by decide) (by rfl) rr trivial
      ·
       refine Mach.ok_bind (fun z6 c6 => ?_)
       cases z6 with
       | r0 y6_0 =>
        refine Mach.ok_ite (fun g7 => ?_) (fun g7 => ?_)
        ·
         exact Mach.ok_fin (M := Zc a0 a1 a2 a3 a4 N) (cd := 1000000) (cm := 0) (r := (.r0 (false) : Zg)) (fu := 4000) (orc := (Zk [(1, true), (2, true), (3, true), (4, true), (9, false), (10, false), (11, true)] [] [] [] [(0, (ZH (v5) (a0)  y6_0 2 4))])) (live := []) (u := vf) (bl := []) (ob := [((!y6_0), true), (dP (ZF #[vs 2 0 v5.length v5.length, vi a0] (v5) (a0)  y6_0 2 4), true), (dS (Ze Zb v5), true), ((decide ((v5.length : Int) > (60 : Int))), false), ((decide ((v5.length : Int) < (1 : Int))), false), ((decide (a1 ≤ (3 : Int))), true), ((decide (a1 ≥ (0 : Int))), true), ((decide (a0 ≤ (400 : Int))), true), ((decide (a0 ≥ (0 : Int))), true)]) (fun gv => by kernel_rfl) (Zd (Zb0 (by first | assumption | simp_all)) <| Zd (Zm (ZI #[vs 2 0 v5.length v5.length, vi a0] (v5) (a0)  y6_0 N c6 2 4 rfl (by decide) (by decide))) <| oR <| oN <| oN <| oY <| oY <| oY <| oY Zf) rfl (by decide) (by rfl) rr trivial
        ·
         exact Mach.ok_next (M := Zc a0 a1 a2 a3 a4 N) (cd := 1000000) (cm := 0) (y := (.h2m14 (v5) (v6) : law32_FifoFormsX)) (fu := 4000) (orc := (Zk [(1, true), (2, true), (3, true), (4, true), (9, false), (10, false), (11, false)] [] [] [] [(0, (ZH (v5) (a0)  y6_0 2 4))])) (live := [0, 1, 2, 3]) (tv := fun _ => [some (vi a0), some (vi a1), some (vi a2), some (vp 0 0), some (vp 1 0), some (vT), some (vf), some (vi (2 : Int))]) (bl := [some (.cells [vn, vs 2 0 v5.length v5.length, vs 3 0 v6.length v6.length, vn] 23), some (.cells [vi (240 : Int), vq, vq, vi (240 : Int)] 25), some (.cells (Ze Zb v5) 57), some (.cells (Ze Zb v6) 57)]) (ob := [((!y6_0), false), (dP (ZF #[vs 2 0 v5.length v5.length, vi a0] (v5) (a0)  y6_0 2 4), true), (dS (Ze Zb v5), true), ((decide ((v5.length : Int) > (60 : Int))), false), ((decide ((v5.length : Int) < (1 : Int))), false), ((decide (a1 ≤ (3 : Int))), true), ((decide (a1 ≥ (0 : Int))), true), ((decide (a0 ≤ (400 : Int))), true), ((decide (a0 ≥ (0 : Int))), true)]) rfl (show 2 ∈ Zl (Zh 2) from by decide +kernel) (fun gv => by kernel_rfl) (Zd (Zbk (by first | assumption | exact Decidable.not_not.1 (by assumption) | simp_all)) <| Zd (Zm (ZI #[vs 2 0 v5.length v5.length, vi a0] (v5) (a0)  y6_0 N c6 2 4 rfl (by decide) (by decide))) <| oR <| oN <| oN <| oY <| oY <| oY <| oY Zf) rfl (by decide) (by rfl) (fun _ => ⟨rr, ⟨rr, ⟨rr, ⟨rr, ⟨rr, ⟨rr, ⟨rr, ⟨rr, trivial⟩⟩⟩⟩⟩⟩⟩⟩) ⟨⟨rfl, ⟨[], by rfl⟩, by rfl⟩, ⟨⟨rfl, ⟨[], by rfl⟩, by rfl⟩, ⟨(Zi (E := Zb) (α := RA) _ v5 _), ⟨(Zi (E := Zb) (α := RA) _ v6 _), trivial⟩⟩⟩⟩
    ·
     exact Mach.ok_none
   ·
    exact Mach.ok_none
  ·
   exact Mach.ok_none
 ·
  exact Mach.ok_none

theorem Zi6 (a0 a1 a2 a3 a4 : Int) (v5 v6 : List RA) (N : Nat) : (Zc a0 a1 a2 a3 a4 N).Ok Tryz.prog Zo (.h2m9 v5 v6 : law32_FifoFormsX) (Zp a0 a1 a2 a3 a4 N (.h2m9 v5 v6 : law32_FifoFormsX)) := by
 show (Zc a0 a1 a2 a3 a4 N).Ok Tryz.prog Zo (.h2m9 v5 v6 : law32_FifoFormsX) (Zci a0 a1 a2 a3 a4 N v5 v6)
 unfold Zci
 refine Mach.ok_ite (fun g0 => ?_) (fun g0 => ?_)
 ·
  refine Mach.ok_ite (fun g1 => ?_) (fun g1 => ?_)
  ·
   refine Mach.ok_ite (fun g2 => ?_) (fun g2 => ?_)
   ·
    refine Mach.ok_ite (fun g3 => ?_) (fun g3 => ?_)
    ·
     refine Mach.ok_ite (fun g4 => ?_) (fun g4 => ?_)
     ·
      refine Mach.ok_ite (fun g5 => ?_) (fun g5 => ?_)
      ·
       refine Mach.ok_ite (fun g6 => ?_) (fun g6 => ?_)
       ·
        exact Mach.ok_fin (M := Zc a0 a1 a2 a3 a4 N) (cd := 1000000) (cm := 0) (r := (.r0 (false) : Zg)) (fu := 4000) (orc := (Zk [(1, true), (2, true), (3, true), (4, true), (9, true)] [] [] [] [])) (live := []) (u := vf) (bl := []) (ob := [((decide ((v5.length : Int) < (1 : Int))), true), ((decide (a1 ≤ (3 : Int))), true), ((decide (a1 ≥ (0 : Int))), true), ((decide (a0 ≤ (400 : Int))), true), ((decide (a0 ≥ (0 : Int))), true)]) (fun gv => by kernel_rfl) (oY <| oY <| oY <| oY <| oY Zf) rfl (by decide) (by rfl) rr trivial
       ·
        refine Mach.ok_ite (fun g7 => ?_) (fun g7 => ?_)
        ·
         exact Mach.ok_fin (M := Zc a0 a1 a2 a3 a4 N) (cd := 1000000) (cm := 0) (r := (.r0 (false) : Zg)) (fu := 4000) (orc := (Zk [(1, true), (2, true), (3, true), (4, true), (9, false), (10, true)] [] [] [] [])) (live := []) (u := vf) (bl := []) (ob := [((decide ((v5.length : Int) > (60 : Int))), true), ((decide ((v5.length : Int) < (1 : Int))), false), ((decide (a1 ≤ (3 : Int))), true), ((decide (a1 ≥ (0 : Int))), true), ((decide (a0 ≤ (400 : Int))), true), ((decide (a0 ≥ (0 : Int))), true)]) (fun gv => by kernel_rfl) (oY <| oN <| oY <| oY <| oY <| oY Zf) rfl (by decide) (by rfl) rr trivial
        ·
         refine Mach.ok_bind (fun z8 c8 => ?_)
         cases z8 with
         | r0 y8_0 =>
          refine Mach.ok_ite (fun g9 => ?_) (fun g9 => ?_)
          ·
           exact Mach.ok_fin (M := Zc a0 a1 a2 a3 a4 N) (cd := 1000000) (cm := 0) (r := (.r0 (false) : Zg)) (fu := 4000) (orc := (Zk [(1, true), (2, true), (3, true), (4, true), (9, false), (10, false), (11, true)] [] [] [] [(0, (ZH (v5) (a0)  y8_0 2 4))])) (live := []) (u := vf) (bl := []) (ob := [((!y8_0), true), (dP (ZF #[vs 2 0 v5.length v5.length, vi a0] (v5) (a0)  y8_0 2 4), true), (dS (Ze Zb v5), true), ((decide ((v5.length : Int) > (60 : Int))), false), ((decide ((v5.length : Int) < (1 : Int))), false), ((decide (a1 ≤ (3 : Int))), true), ((decide (a1 ≥ (0 : Int))), true), ((decide (a0 ≤ (400 : Int))), true), ((decide (a0 ≥ (0 : Int))), true)]) (fun gv => by kernel_rfl) (Zd (Zb0 (by first | assumption | simp_all)) <| Zd (Zm (ZI #[vs 2 0 v5.length v5.length, vi a0] (v5) (a0)  y8_0 N c8 2 4 rfl (by decide) (by decide))) <| oR <| oN <| oN <| oY <| oY <| oY <| oY Zf) rfl (by decide) (by rfl) rr trivial
          ·
           exact Mach.ok_next (M := Zc a0 a1 a2 a3 a4 N) (cd := 1000000) (cm := 0) (y := (.h2m15 (v5) (v6) : law32_FifoFormsX)) (fu := 4000) (orc := (Zk [(1, true), (2, true), (3, true), (4, true), (9, false), (10, false), (11, false)] [] [] [] [(0, (ZH (v5) (a0)  y8_0 2 4))])) (live := [0, 1, 2, 3]) (tv := fun _ => [some (vi a0), some (vi a1), some (vi a2), some (vp 0 0), some (vp 1 0), some (vf), some (vT), some (vi (2 : Int))]) (bl := [some (.cells [vn, vs 2 0 v5.length v5.length, vn, vs 3 0 v6.length v6.length] 23), some (.cells [vi (240 : Int), vq, vi (240 : Int), vq] 25), some (.cells (Ze Zb v5) 57), some (.cells (Ze Zb v6) 57)]) (ob := [((!y8_0), false), (dP (ZF #[vs 2 0 v5.length v5.length, vi a0] (v5) (a0)  y8_0 2 4), true), (dS (Ze Zb v5), true), ((decide ((v5.length : Int) > (60 : Int))), false), ((decide ((v5.length : Int) < (1 : Int))), false), ((decide (a1 ≤ (3 : Int))), true), ((decide (a1 ≥ (0 : Int))), true), ((decide (a0 ≤ (400 : Int))), true), ((decide (a0 ≥ (0 : Int))), true)]) rfl (show 2 ∈ Zl (Zh 2) from by decide +kernel) (fun gv => by kernel_rfl) (Zd (Zbk (by first | assumption | exact Decidable.not_not.1 (by assumption) | simp_all)) <| Zd (Zm (ZI #[vs 2 0 v5.length v5.length, vi a0] (v5) (a0)  y8_0 N c8 2 4 rfl (by decide) (by decide))) <| oR <| oN <| oN <| oY <| oY <| oY <| oY Zf) rfl (by decide) (by rfl) (fun _ => ⟨rr, ⟨rr, ⟨rr, ⟨rr, ⟨rr, ⟨rr, ⟨rr, ⟨rr, trivial⟩⟩⟩⟩⟩⟩⟩⟩) ⟨⟨rfl, ⟨[], by rfl⟩, by rfl⟩, ⟨⟨rfl, ⟨[], by rfl⟩, by rfl⟩, ⟨(Zi (E := Zb) (α := RA) _ v5 _), ⟨(Zi (E := Zb) (α := RA) _ v6 _), trivial⟩⟩⟩⟩
      ·
       exact Mach.ok_none
     ·
      exact Mach.ok_none
    ·
     exact Mach.ok_none
   ·
    exact Mach.ok_none
  ·
   exact Mach.ok_none
 ·
  exact Mach.ok_none

theorem Zhy (a0 a1 a2 a3 a4 : Int) (v4 : Bool) (v5 : List RA) (N : Nat) : (Zc a0 a1 a2 a3 a4 N).Ok Tryz.prog Zo (.h2m10 v4 v5 : law32_FifoFormsX) (Zp a0 a1 a2 a3 a4 N (.h2m10 v4 v5 : law32_FifoFormsX)) := by
 show (Zc a0 a1 a2 a3 a4 N).Ok Tryz.prog Zo (.h2m10 v4 v5 : law32_FifoFormsX) (Zb1 a0 a1 a2 a3 a4 N v4 v5)
 unfold Zb1
 refine Mach.ok_ite (fun g0 => ?_) (fun g0 => ?_)
 ·
  subst g0
  refine Mach.ok_ite (fun g1 => ?_) (fun g1 => ?_)
  ·
   refine Mach.ok_ite (fun g2 => ?_) (fun g2 => ?_)
   ·
    refine Mach.ok_ite (fun g3 => ?_) (fun g3 => ?_)
    ·
     refine Mach.ok_ite (fun g4 => ?_) (fun g4 => ?_)
     ·
      refine Mach.ok_ite (fun g5 => ?_) (fun g5 => ?_)
      ·
       exact Mach.ok_fin (M := Zc a0 a1 a2 a3 a4 N) (cd := 1000000) (cm := 0) (r := (.r0 (false) : Zg)) (fu := 4000) (orc := (Zk [(1, true), (2, true), (3, true), (4, true), (9, true)] [] [] [] [])) (live := []) (u := vf) (bl := []) (ob := [((decide ((v5.length : Int) < (1 : Int))), true), ((decide (a1 ≤ (3 : Int))), true), ((decide (a1 ≥ (0 : Int))), true), ((decide (a0 ≤ (400 : Int))), true), ((decide (a0 ≥ (0 : Int))), true)]) (fun gv => by kernel_rfl) (oY <| oY <| oY <| oY <| oY Zf) rfl (by decide) (by rfl) rr trivial
      ·
       refine Mach.ok_ite (fun g6 => ?_) (fun g6 => ?_)
       ·
        exact Mach.ok_fin (M := Zc a0 a1 a2 a3 a4 N) (cd := 1000000) (cm := 0) (r := (.r0 (false) : Zg)) (fu := 4000) (orc := (Zk [(1, true), (2, true), (3, true), (4, true), (9, false), (10, true)] [] [] [] [])) (live := []) (u := vf) (bl := []) (ob := [((decide ((v5.length : Int) > (60 : Int))), true), ((decide ((v5.length : Int) < (1 : Int))), false), ((decide (a1 ≤ (3 : Int))), true), ((decide (a1 ≥ (0 : Int))), true), ((decide (a0 ≤ (400 : Int))), true), ((decide (a0 ≥ (0 : Int))), true)]) (fun gv => by kernel_rfl) (oY <| oN <| oY <| oY <| oY <| oY Zf) rfl (by decide) (by rfl) rr trivial
       ·
        refine Mach.ok_bind (fun z7 c7 => ?_)
        cases z7 with
        | r0 y7_0 =>
         refine Mach.ok_ite (fun g8 => ?_) (fun g8 => ?_)
         ·
          exact Mach.ok_fin (M := Zc a0 a1 a2 a3 a4 N) (cd := 1000000) (cm := 0) (r := (.r0 (false) : Zg)) (fu := 4000) (orc := (Zk [(1, true), (2, true), (3, true), (4, true), (9, false), (10, false), (11, true)] [] [] [] [(0, (ZH (v5) (a0)  y7_0 2 3))])) (live := []) (u := vf) (bl := []) (ob := [((!y7_0), true), (dP (ZF #[vs 2 0 v5.length v5.length, vi a0] (v5) (a0)  y7_0 2 3), true), (dS (Ze Zb v5), true), ((decide ((v5.length : Int) > (60 : Int))), false), ((decide ((v5.length : Int) < (1 : Int))), false), ((decide (a1 ≤ (3 : Int))), true), ((decide (a1 ≥ (0 : Int))), true), ((decide (a0 ≤ (400 : Int))), true), ((decide (a0 ≥ (0 : Int))), true)]) (fun gv => by kernel_rfl) (Zd (Zb0 (by first | assumption | simp_all)) <| Zd (Zm (ZI #[vs 2 0 v5.length v5.length, vi a0] (v5) (a0)  y7_0 N c7 2 3 rfl (by decide) (by decide))) <| oR <| oN <| oN <| oY <| oY <| oY <| oY Zf) rfl (by decide) (by rfl) rr trivial
         ·
          exact Mach.ok_next (M := Zc a0 a1 a2 a3 a4 N) (cd := 1000000) (cm := 0) (y := (.h2m16 (true) (v5) : law32_FifoFormsX)) (fu := 4000) (orc := (Zk [(1, true), (2, true), (3, true), (4, true), (9, false), (10, false), (11, false)] [] [] [] [(0, (ZH (v5) (a0)  y7_0 2 3))])) (live := [0, 1, 2]) (tv := fun _ => [some (vi a0), some (vi a1), some (vi a2), some (vp 0 0), some (vp 1 0), some (vf), some (vT), some (vi (2 : Int))]) (bl := [some (.cells [vn, vs 2 0 v5.length v5.length, vn, vn] 23), some (.cells [vi (240 : Int), vq, vi (240 : Int), vi (240 : Int)] 25), some (.cells (Ze Zb v5) 57)]) (ob := [((!y7_0), false), (dP (ZF #[vs 2 0 v5.length v5.length, vi a0] (v5) (a0)  y7_0 2 3), true), (dS (Ze Zb v5), true), ((decide ((v5.length : Int) > (60 : Int))), false), ((decide ((v5.length : Int) < (1 : Int))), false), ((decide (a1 ≤ (3 : Int))), true), ((decide (a1 ≥ (0 : Int))), true), ((decide (a0 ≤ (400 : Int))), true), ((decide (a0 ≥ (0 : Int))), true)]) rfl (show 2 ∈ Zl (Zh 2) from by decide +kernel) (fun gv => by kernel_rfl) (Zd (Zbk (by first | assumption | exact Decidable.not_not.1 (by assumption) | simp_all)) <| Zd (Zm (ZI #[vs 2 0 v5.length v5.length, vi a0] (v5) (a0)  y7_0 N c7 2 3 rfl (by decide) (by decide))) <| oR <| oN <| oN <| oY <| oY <| oY <| oY Zf) rfl (by decide) (by rfl) (fun _ => ⟨rr, ⟨rr, ⟨rr, ⟨rr, ⟨rr, ⟨rr, ⟨rr, ⟨rr, trivial⟩⟩⟩⟩⟩⟩⟩⟩) ⟨⟨rfl, ⟨[], by rfl⟩, by rfl⟩, ⟨⟨rfl, ⟨[], by rfl⟩, by rfl⟩, ⟨(Zi (E := Zb) (α := RA) _ v5 _), trivial⟩⟩⟩
     ·
      exact Mach.ok_none
    ·
     exact Mach.ok_none
   ·
    exact Mach.ok_none
  ·
   exact Mach.ok_none
 ·
  obtain rfl : v4 = false := by simpa using g0
  refine Mach.ok_ite (fun g1 => ?_) (fun g1 => ?_)
  ·
   refine Mach.ok_ite (fun g2 => ?_) (fun g2 => ?_)
   ·
    refine Mach.ok_ite (fun g3 => ?_) (fun g3 => ?_)
    ·
     refine Mach.ok_ite (fun g4 => ?_) (fun g4 => ?_)
     ·
      refine Mach.ok_ite (fun g5 => ?_) (fun g5 => ?_)
      ·
       exact Mach.ok_fin (M := Zc a0 a1 a2 a3 a4 N) (cd := 1000000) (cm := 0) (r := (.r0 (false) : Zg)) (fu := 4000) (orc := (Zk [(1, true), (2, true), (3, true), (4, true), (10, true)] [] [] [] [])) (live := []) (u := vf) (bl := []) (ob := [((decide ((v5.length : Int) < (1 : Int))), true), ((decide (a1 ≤ (3 : Int))), true), ((decide (a1 ≥ (0 : Int))), true), ((decide (a0 ≤ (400 : Int))), true), ((decide (a0 ≥ (0 : Int))), true)]) (fun gv => by kernel_rfl) (oY <| oY <| oY <| oY <| oY Zf) rfl (by decide) (by rfl) rr trivial
      ·
       refine Mach.ok_ite (fun g6 => ?_) (fun g6 => ?_)
       ·
        exact Mach.ok_fin (M := Zc a0 a1 a2 a3 a4 N) (cd := 1000000) (cm := 0) (r := (.r0 (false) : Zg)) (fu := 4000) (orc := (Zk [(1, true), (2, true), (3, true), (4, true), (10, false), (11, true)] [] [] [] [])) (live := []) (u := vf) (bl := []) (ob := [((decide ((v5.length : Int) > (60 : Int))), true), ((decide ((v5.length : Int) < (1 : Int))), false), ((decide (a1 ≤ (3 : Int))), true), ((decide (a1 ≥ (0 : Int))), true), ((decide (a0 ≤ (400 : Int))), true), ((decide (a0 ≥ (0 : Int))), true)]) (fun gv => by kernel_rfl) (oY <| oN <| oY <| oY <| oY <| oY Zf) rfl (by decide) (by rfl) rr trivial
       ·
        refine Mach.ok_bind (fun z7 c7 => ?_)
        cases z7 with
        | r0 y7_0 =>
         refine Mach.ok_ite (fun g8 => ?_) (fun g8 => ?_)
         ·
          exact Mach.ok_fin (M := Zc a0 a1 a2 a3 a4 N) (cd := 1000000) (cm := 0) (r := (.r0 (false) : Zg)) (fu := 4000) (orc := (Zk [(1, true), (2, true), (3, true), (4, true), (10, false), (11, false), (12, true)] [] [] [] [(0, (ZH (v5) (a0)  y7_0 2 3))])) (live := []) (u := vf) (bl := []) (ob := [((!y7_0), true), (dP (ZF #[vs 2 0 v5.length v5.length, vi a0] (v5) (a0)  y7_0 2 3), true), (dS (Ze Zb v5), true), ((decide ((v5.length : Int) > (60 : Int))), false), ((decide ((v5.length : Int) < (1 : Int))), false), ((decide (a1 ≤ (3 : Int))), true), ((decide (a1 ≥ (0 : Int))), true), ((decide (a0 ≤ (400 : Int))), true), ((decide (a0 ≥ (0 : Int))), true)]) (fun gv => by kernel_rfl) (Zd (Zb0 (by first | assumption | simp_all)) <| Zd (Zm (ZI #[vs 2 0 v5.length v5.length, vi a0] (v5) (a0)  y7_0 N c7 2 3 rfl (by decide) (by decide))) <| oR <| oN <| oN <| oY <| oY <| oY <| oY Zf) rfl (by decide) (by rfl) rr trivial
         ·
          exact Mach.ok_next (M := Zc a0 a1 a2 a3 a4 N) (cd := 1000000) (cm := 0) (y := (.h2m16 (false) (v5) : law32_FifoFormsX)) (fu := 4000) (orc := (Zk [(1, true), (2, true), (3, true), (4, true), (10, false), (11, false), (12, false)] [] [] [] [(0, (ZH (v5) (a0)  y7_0 2 3))])) (live := [0, 1, 2]) (tv := fun _ => [some (vi a0), some (vi a1), some (vi a2), some (vp 0 0), some (vp 1 0), some (vf), some (vf), some (vi (2 : Int))]) (bl := [some (.cells [vn, vs 2 0 v5.length v5.length, vn, vn] 23), some (.cells [vi (240 : Int), vq, vi (240 : Int), vi (240 : Int)] 25), some (.cells (Ze Zb v5) 57)]) (ob := [((!y7_0), false), (dP (ZF #[vs 2 0 v5.length v5.length, vi a0] (v5) (a0)  y7_0 2 3), true), (dS (Ze Zb v5), true), ((decide ((v5.length : Int) > (60 : Int))), false), ((decide ((v5.length : Int) < (1 : Int))), false), ((decide (a1 ≤ (3 : Int))), true), ((decide (a1 ≥ (0 : Int))), true), ((decide (a0 ≤ (400 : Int))), true), ((decide (a0 ≥ (0 : Int))), true)]) rfl (show 2 ∈ Zl (Zh 2) from by decide +kernel) (fun gv => by kernel_rfl) (Zd (Zbk (by first | assumption | exact Decidable.not_not.1 (by assumption) | simp_all)) <| Zd (Zm (ZI #[vs 2 0 v5.length v5.length, vi a0] (v5) (a0)  y7_0 N c7 2 3 rfl (by decide) (by decide))) <| oR <| oN <| oN <| oY <| oY <| oY <| oY Zf) rfl (by decide) (by rfl) (fun _ => ⟨rr, ⟨rr, ⟨rr, ⟨rr, ⟨rr, ⟨rr, ⟨rr, ⟨rr, trivial⟩⟩⟩⟩⟩⟩⟩⟩) ⟨⟨rfl, ⟨[], by rfl⟩, by rfl⟩, ⟨⟨rfl, ⟨[], by rfl⟩, by rfl⟩, ⟨(Zi (E := Zb) (α := RA) _ v5 _), trivial⟩⟩⟩
     ·
      exact Mach.ok_none
    ·
     exact Mach.ok_none
   ·
    exact Mach.ok_none
  ·
   exact Mach.ok_none

end Ev
end Go.Proofs.YtpfmkkookmofcaaGreat
