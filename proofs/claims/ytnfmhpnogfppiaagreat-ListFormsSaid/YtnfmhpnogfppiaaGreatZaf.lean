/- Part 6. -/
import Derived.Test.YtnfmhpnogfppiaaGreatZae
import Derived.Test.YtnfmhpnogfppiaaGreatZac
/- Calls do what the plain functions say. -/
namespace Go.Proofs.YtnfmhpnogfppiaaGreat
open Go.RowKit
namespace Ev
set_option linter.unusedVariables false
set_option maxRecDepth 100000
theorem ZlA  (N : Nat) : (Z5  N).Ok Tryz.prog ZG (.h3m0 : Zn) (Zae  N (.h3m0 : Zn)) := by
 show (Z5  N).Ok Tryz.prog ZG (.h3m0 : Zn) (Zfv  N)
 unfold Zfv
 refine Mach.ok_bind (fun z0 c0 => ?_)
 cases z0 with
 | r0 =>
  refine Mach.ok_bind (fun z1 c1 => ?_)
  cases z1 with
  | r0 =>
   exact Mach.ok_next (M := Z5  N) (cd := 1000000) (cm := 0) (y := (.h3m1 : Zn)) (fu := 4000) (orc := (Zj [] [] [] [] [(93, (Zdq    7 145)), (318, (Zdq    7 448))])) (live := [0, 1, 2, 3, 677, 4, 673, 616, 7, 380, 606, 551]) (tv := fun _ => [some (vs 0 0 1 1), some (vi (100 : Int)), some (vp 2 0), some (vp 3 0), some (vi (1 : Int)), some (vs 677 0 1 1), some (vq), some (vT), some (vi (1 : Int))]) (bl := [some (.cells [vs 1 0 109 109] 22), some cz0, some (.cells [vn, vn, vn] 78), some (.cells [vs 4 0 1 1, vs 673 0 1 1, vs 616 0 2 2] 78), some (.cells [vq] 3), some (.cells [vs 7 0 109 109] 22), some (.cells [vq, vq, vi (35 : Int), vi (2 : Int), vi (1048577 : Int), vi (1 : Int), vi (5 : Int), vi (2 : Int), vq, vi (1 : Int), vq, vi (1 : Int), vq, vi (1 : Int), vq, vi (2 : Int), vi (1048594 : Int), vi (1 : Int), vi (1 : Int), vs 380 0 0 0] 87), some (.cells [vi (2 : Int), vi (1048577 : Int), vi (1 : Int), vi (16 : Int), vi (255 : Int), vi (2 : Int), vq, vs 606 0 16 16, vi (2 : Int), vi (1048594 : Int), vi (1 : Int), vi (2 : Int), vi (1 : Int), vi (2 : Int), vq, vs 551 0 2 2] 42), some cz0, some (.cells [] 36), some cz5, some (.cells [vi (2 : Int), vq, vi (1 : Int), vi (5 : Int)] 36)]) (ob := [(dP (ZcB #[vs 7 0 109 109]    7 448), true), (dS [vi (1 : Int), vi (1 : Int), vi (5 : Int), vq, vi (10 : Int), vq, vq, vq, vi (15 : Int), vq, vq, vq, vi (13 : Int), vi (2 : Int), vq, vi (2 : Int), vi (9 : Int), vi (2 : Int), vi (27 : Int), vq, vi (13 : Int), vi (3 : Int), vi (2 : Int), vi (1 : Int), vi (6 : Int), vi (4 : Int), vi (3 : Int), vi (1 : Int), vi (9 : Int), vi (4 : Int), vi (24 : Int), vq, vi (13 : Int), vi (5 : Int), vi (2 : Int), vq, vi (9 : Int), vi (5 : Int), vi (18 : Int), vq, vi (13 : Int), vi (3 : Int), vi (5 : Int), vi (1 : Int), vi (6 : Int), vi (4 : Int), vi (3 : Int), vi (1 : Int), vi (9 : Int), vi (4 : Int), vi (15 : Int), vq, vi (3 : Int), vi (2 : Int), vi (5 : Int), vq, vi (8 : Int), vi (8 : Int), vq, vq, vi (7 : Int), vi (4 : Int), vi (3 : Int), vi (1 : Int), vi (9 : Int), vi (4 : Int), vi (18 : Int), vq, vi (8 : Int), vi (33 : Int), vq, vq, vi (11 : Int), vi (6 : Int), vi (2 : Int), vi (1 : Int), vi (14 : Int), vi (6 : Int), vi (1 : Int), vi (1 : Int), vi (14 : Int), vi (6 : Int), vq, vi (5 : Int), vi (14 : Int), vi (2 : Int), vq, vi (6 : Int), vi (1 : Int), vi (7 : Int), vi (1 : Int), vq, vi (8 : Int), vi (34 : Int), vq, vq, vi (7 : Int), vi (4 : Int), vi (3 : Int), vi (1 : Int), vi (9 : Int), vi (4 : Int), vi (27 : Int), vq, vi (8 : Int), vi (33 : Int), vq, vq, vi (11 : Int), vi (6 : Int), vi (2 : Int), vi (1 : Int), vi (14 : Int), vi (6 : Int), vi (1 : Int), vi (1 : Int), vi (14 : Int), vi (6 : Int), vq, vi (2 : Int), vi (14 : Int), vq, vi (2 : Int), vi (6 : Int), vi (1 : Int), vi (7 : Int), vi (1 : Int), vq, vi (8 : Int), vi (34 : Int), vq, vq, vi (1 : Int), vi (7 : Int), vq, vq, vi (17 : Int), vq, vq, vq, vi (19 : Int), vi (7 : Int), vq, vq, vi (1 : Int), vi (1 : Int), vi (3 : Int), vq, vi (10 : Int), vq, vq, vq, vi (15 : Int), vq, vq, vq, vi (13 : Int), vi (2 : Int), vq, vi (2 : Int), vi (9 : Int), vi (2 : Int), vi (63 : Int), vq, vi (13 : Int), vi (3 : Int), vi (2 : Int), vi (1 : Int), vi (6 : Int), vi (4 : Int), vi (3 : Int), vi (1 : Int), vi (9 : Int), vi (4 : Int), vi (60 : Int), vq, vi (13 : Int), vi (5 : Int), vi (2 : Int), vq, vi (9 : Int), vi (5 : Int), vi (54 : Int), vq, vi (13 : Int), vi (3 : Int), vi (5 : Int), vi (1 : Int), vi (6 : Int), vi (4 : Int), vi (3 : Int), vi (1 : Int), vi (9 : Int), vi (4 : Int), vi (51 : Int), vq, vi (3 : Int), vi (2 : Int), vi (5 : Int), vq, vi (8 : Int), vi (44 : Int), vq, vq, vi (7 : Int), vi (4 : Int), vi (3 : Int), vi (1 : Int), vi (9 : Int), vi (4 : Int), vi (54 : Int), vq, vi (8 : Int), vi (69 : Int), vq, vq, vi (11 : Int), vi (6 : Int), vi (2 : Int), vi (1 : Int), vi (14 : Int), vi (6 : Int), vi (1 : Int), vi (1 : Int), vi (14 : Int), vi (6 : Int), vq, vi (5 : Int), vi (14 : Int), vi (2 : Int), vq, vi (6 : Int), vi (1 : Int), vi (7 : Int), vi (1 : Int), vq, vi (8 : Int), vi (70 : Int), vq, vq, vi (7 : Int), vi (4 : Int), vi (3 : Int), vi (1 : Int), vi (9 : Int), vi (4 : Int), vi (63 : Int), vq, vi (8 : Int), vi (69 : Int), vq, vq, vi (11 : Int), vi (6 : Int), vi (2 : Int), vi (1 : Int), vi (14 : Int), vi (6 : Int), vi (1 : Int), vi (1 : Int), vi (14 : Int), vi (6 : Int), vq, vi (2 : Int), vi (14 : Int), vq, vi (2 : Int), vi (6 : Int), vi (1 : Int), vi (7 : Int), vi (1 : Int), vq, vi (8 : Int), vi (70 : Int), vq, vq, vi (1 : Int), vi (7 : Int), vq, vq, vi (17 : Int), vq, vq, vq, vi (19 : Int), vi (7 : Int), vq, vq, vi (1 : Int), vi (1 : Int), vi (5 : Int), vq, vi (10 : Int), vq, vq, vq, vi (15 : Int), vq, vq, vq, vi (13 : Int), vi (2 : Int), vq, vi (2 : Int), vi (9 : Int), vi (2 : Int), vi (99 : Int), vq, vi (13 : Int), vi (3 : Int), vi (2 : Int), vi (1 : Int), vi (6 : Int), vi (4 : Int), vi (3 : Int), vi (1 : Int), vi (9 : Int), vi (4 : Int), vi (96 : Int), vq, vi (13 : Int), vi (5 : Int), vi (2 : Int), vq, vi (9 : Int), vi (5 : Int), vi (90 : Int), vq, vi (13 : Int), vi (3 : Int), vi (5 : Int), vi (1 : Int), vi (6 : Int), vi (4 : Int), vi (3 : Int), vi (1 : Int), vi (9 : Int), vi (4 : Int), vi (87 : Int), vq, vi (3 : Int), vi (2 : Int), vi (5 : Int), vq, vi (8 : Int), vi (80 : Int), vq, vq, vi (7 : Int), vi (4 : Int), vi (3 : Int), vi (1 : Int), vi (9 : Int), vi (4 : Int), vi (90 : Int), vq, vi (8 : Int), vi (105 : Int), vq, vq, vi (11 : Int), vi (6 : Int), vi (2 : Int), vi (1 : Int), vi (14 : Int), vi (6 : Int), vi (1 : Int), vi (1 : Int), vi (14 : Int), vi (6 : Int), vq, vi (5 : Int), vi (14 : Int), vi (2 : Int), vq, vi (6 : Int), vi (1 : Int), vi (7 : Int), vi (1 : Int), vq, vi (8 : Int), vi (106 : Int), vq, vq, vi (7 : Int), vi (4 : Int), vi (3 : Int), vi (1 : Int), vi (9 : Int), vi (4 : Int), vi (99 : Int), vq, vi (8 : Int), vi (105 : Int), vq, vq, vi (11 : Int), vi (6 : Int), vi (2 : Int), vi (1 : Int), vi (14 : Int), vi (6 : Int), vi (1 : Int), vi (1 : Int), vi (14 : Int), vi (6 : Int), vq, vi (2 : Int), vi (14 : Int), vq, vi (2 : Int), vi (6 : Int), vi (1 : Int), vi (7 : Int), vi (1 : Int), vq, vi (8 : Int), vi (106 : Int), vq, vq, vi (1 : Int), vi (7 : Int), vq, vq, vi (17 : Int), vq, vq, vq, vi (19 : Int), vi (7 : Int), vq, vq, vi (20 : Int), vq, vq, vq], true), (dP (ZcB #[vs 7 0 109 109]    7 145), true), (dS [vi (1 : Int), vi (1 : Int), vi (5 : Int), vq, vi (10 : Int), vq, vq, vq, vi (15 : Int), vq, vq, vq, vi (13 : Int), vi (2 : Int), vq, vi (2 : Int), vi (9 : Int), vi (2 : Int), vi (27 : Int), vq, vi (13 : Int), vi (3 : Int), vi (2 : Int), vi (1 : Int), vi (6 : Int), vi (4 : Int), vi (3 : Int), vi (1 : Int), vi (9 : Int), vi (4 : Int), vi (24 : Int), vq, vi (13 : Int), vi (5 : Int), vi (2 : Int), vq, vi (9 : Int), vi (5 : Int), vi (18 : Int), vq, vi (13 : Int), vi (3 : Int), vi (5 : Int), vi (1 : Int), vi (6 : Int), vi (4 : Int), vi (3 : Int), vi (1 : Int), vi (9 : Int), vi (4 : Int), vi (15 : Int), vq, vi (3 : Int), vi (2 : Int), vi (5 : Int), vq, vi (8 : Int), vi (8 : Int), vq, vq, vi (7 : Int), vi (4 : Int), vi (3 : Int), vi (1 : Int), vi (9 : Int), vi (4 : Int), vi (18 : Int), vq, vi (8 : Int), vi (33 : Int), vq, vq, vi (11 : Int), vi (6 : Int), vi (2 : Int), vi (1 : Int), vi (14 : Int), vi (6 : Int), vi (1 : Int), vi (1 : Int), vi (14 : Int), vi (6 : Int), vq, vi (5 : Int), vi (14 : Int), vi (2 : Int), vq, vi (6 : Int), vi (1 : Int), vi (7 : Int), vi (1 : Int), vq, vi (8 : Int), vi (34 : Int), vq, vq, vi (7 : Int), vi (4 : Int), vi (3 : Int), vi (1 : Int), vi (9 : Int), vi (4 : Int), vi (27 : Int), vq, vi (8 : Int), vi (33 : Int), vq, vq, vi (11 : Int), vi (6 : Int), vi (2 : Int), vi (1 : Int), vi (14 : Int), vi (6 : Int), vi (1 : Int), vi (1 : Int), vi (14 : Int), vi (6 : Int), vq, vi (2 : Int), vi (14 : Int), vq, vi (2 : Int), vi (6 : Int), vi (1 : Int), vi (7 : Int), vi (1 : Int), vq, vi (8 : Int), vi (34 : Int), vq, vq, vi (1 : Int), vi (7 : Int), vq, vq, vi (17 : Int), vq, vq, vq, vi (19 : Int), vi (7 : Int), vq, vq, vi (1 : Int), vi (1 : Int), vi (3 : Int), vq, vi (10 : Int), vq, vq, vq, vi (15 : Int), vq, vq, vq, vi (13 : Int), vi (2 : Int), vq, vi (2 : Int), vi (9 : Int), vi (2 : Int), vi (63 : Int), vq, vi (13 : Int), vi (3 : Int), vi (2 : Int), vi (1 : Int), vi (6 : Int), vi (4 : Int), vi (3 : Int), vi (1 : Int), vi (9 : Int), vi (4 : Int), vi (60 : Int), vq, vi (13 : Int), vi (5 : Int), vi (2 : Int), vq, vi (9 : Int), vi (5 : Int), vi (54 : Int), vq, vi (13 : Int), vi (3 : Int), vi (5 : Int), vi (1 : Int), vi (6 : Int), vi (4 : Int), vi (3 : Int), vi (1 : Int), vi (9 : Int), vi (4 : Int), vi (51 : Int), vq, vi (3 : Int), vi (2 : Int), vi (5 : Int), vq, vi (8 : Int), vi (44 : Int), vq, vq, vi (7 : Int), vi (4 : Int), vi (3 : Int), vi (1 : Int), vi (9 : Int), vi (4 : Int), vi (54 : Int), vq, vi (8 : Int), vi (69 : Int), vq, vq, vi (11 : Int), vi (6 : Int), vi (2 : Int), vi (1 : Int), vi (14 : Int), vi (6 : Int), vi (1 : Int), vi (1 : Int), vi (14 : Int), vi (6 : Int), vq, vi (5 : Int), vi (14 : Int), vi (2 : Int), vq, vi (6 : Int), vi (1 : Int), vi (7 : Int), vi (1 : Int), vq, vi (8 : Int), vi (70 : Int), vq, vq, vi (7 : Int), vi (4 : Int), vi (3 : Int), vi (1 : Int), vi (9 : Int), vi (4 : Int), vi (63 : Int), vq, vi (8 : Int), vi (69 : Int), vq, vq, vi (11 : Int), vi (6 : Int), vi (2 : Int), vi (1 : Int), vi (14 : Int), vi (6 : Int), vi (1 : Int), vi (1 : Int), vi (14 : Int), vi (6 : Int), vq, vi (2 : Int), vi (14 : Int), vq, vi (2 : Int), vi (6 : Int), vi (1 : Int), vi (7 : Int), vi (1 : Int), vq, vi (8 : Int), vi (70 : Int), vq, vq, vi (1 : Int), vi (7 : Int), vq, vq, vi (17 : Int), vq, vq, vq, vi (19 : Int), vi (7 : Int), vq, vq, vi (1 : Int), vi (1 : Int), vi (5 : Int), vq, vi (10 : Int), vq, vq, vq, vi (15 : Int), vq, vq, vq, vi (13 : Int), vi (2 : Int), vq, vi (2 : Int), vi (9 : Int), vi (2 : Int), vi (99 : Int), vq, vi (13 : Int), vi (3 : Int), vi (2 : Int), vi (1 : Int), vi (6 : Int), vi (4 : Int), vi (3 : Int), vi (1 : Int), vi (9 : Int), vi (4 : Int), vi (96 : Int), vq, vi (13 : Int), vi (5 : Int), vi (2 : Int), vq, vi (9 : Int), vi (5 : Int), vi (90 : Int), vq, vi (13 : Int), vi (3 : Int), vi (5 : Int), vi (1 : Int), vi (6 : Int), vi (4 : Int), vi (3 : Int), vi (1 : Int), vi (9 : Int), vi (4 : Int), vi (87 : Int), vq, vi (3 : Int), vi (2 : Int), vi (5 : Int), vq, vi (8 : Int), vi (80 : Int), vq, vq, vi (7 : Int), vi (4 : Int), vi (3 : Int), vi (1 : Int), vi (9 : Int), vi (4 : Int), vi (90 : Int), vq, vi (8 : Int), vi (105 : Int), vq, vq, vi (11 : Int), vi (6 : Int), vi (2 : Int), vi (1 : Int), vi (14 : Int), vi (6 : Int), vi (1 : Int), vi (1 : Int), vi (14 : Int), vi (6 : Int), vq, vi (5 : Int), vi (14 : Int), vi (2 : Int), vq, vi (6 : Int), vi (1 : Int), vi (7 : Int), vi (1 : Int), vq, vi (8 : Int), vi (106 : Int), vq, vq, vi (7 : Int), vi (4 : Int), vi (3 : Int), vi (1 : Int), vi (9 : Int), vi (4 : Int), vi (99 : Int), vq, vi (8 : Int), vi (105 : Int), vq, vq, vi (11 : Int), vi (6 : Int), vi (2 : Int), vi (1 : Int), vi (14 : Int), vi (6 : Int), vi (1 : Int), vi (1 : Int), vi (14 : Int), vi (6 : Int), vq, vi (2 : Int), vi (14 : Int), vq, vi (2 : Int), vi (6 : Int), vi (1 : Int), vi (7 : Int), vi (1 : Int), vq, vi (8 : Int), vi (106 : Int), vq, vq, vi (1 : Int), vi (7 : Int), vq, vq, vi (17 : Int), vq, vq, vq, vi (19 : Int), vi (7 : Int), vq, vq, vi (20 : Int), vq, vq, vq], true)]) rfl (show 3 ∈ Zl (Zbu 3) from by decide +kernel) (fun gv => by kernel_rfl) (Zd (Zk (Zdr #[vs 7 0 109 109]    N c1 7 448 rfl (by decide) (by decide))) <| Zd (Zk (Za rfl (Za rfl (Za rfl (Za rfl (Za rfl (Za rfl (Za rfl (Za rfl (Za rfl (Za rfl (Za rfl (Za rfl (Za rfl (Za rfl (Za rfl (Za rfl (Za rfl (Za rfl (Za rfl (Za rfl (Za rfl (Za rfl (Za rfl (Za rfl (Za rfl (Za rfl (Za rfl (Za rfl (Za rfl (Za rfl (Za rfl (Za rfl (Za rfl (Za rfl (Za rfl (Za rfl (Za rfl (Za rfl (Za rfl (Za rfl (Za rfl (Za rfl (Za rfl (Za rfl (Za rfl (Za rfl (Za rfl (Za rfl (Za rfl (Za rfl (Za rfl (Za rfl (Za rfl (Za rfl (Za rfl (Za rfl (Za rfl (Za rfl (Za rfl (Za rfl (Za rfl (Za rfl (Za rfl (Za rfl (Za rfl (Za rfl (Za rfl (Za rfl (Za rfl (Za rfl (Za rfl (Za rfl (Za rfl (Za rfl (Za rfl (Za rfl (Za rfl (Za rfl (Za rfl (Za rfl (Za rfl (Za rfl (Za rfl (Za rfl (Za rfl (Za rfl (Za rfl (Za rfl (Za rfl (Za rfl (Za rfl (Za rfl (Za rfl (Za rfl (Za rfl (Za rfl (Za rfl (Za rfl (Za rfl (Za rfl (Za rfl (Za rfl (Za rfl (Za rfl (Za rfl (Za rfl (Za rfl (Za rfl (Za rfl (Za rfl (Za rfl (Za rfl (Za rfl (Za rfl (Za rfl (Za rfl (Za rfl (Za rfl (Za rfl (Za rfl (Za rfl (Za rfl (Za rfl (Za rfl (Za rfl (Za rfl (Za rfl (Za rfl (Za rfl (Za rfl (Za rfl (Za rfl (Za rfl (Za rfl (Za rfl (Za rfl (Za rfl (Za rfl (Za rfl (Za rfl (Za rfl (Za rfl (Za rfl (Za rfl (Za rfl (Za rfl (Za rfl (Za rfl (Za rfl (Za rfl (Za rfl (Za rfl (Za rfl (Za rfl (Za rfl (Za rfl (Za rfl (Za rfl (Za rfl (Za rfl (Za rfl (Za rfl (Za rfl (Za rfl (Za rfl (Za rfl (Za rfl (Za rfl (Za rfl (Za rfl (Za rfl (Za rfl (Za rfl (Za rfl (Za rfl (Za rfl (Za rfl (Za rfl (Za rfl (Za rfl (Za rfl (Za rfl (Za rfl (Za rfl (Za rfl (Za rfl (Za rfl (Za rfl (Za rfl (Za rfl (Za rfl (Za rfl (Za rfl (Za rfl (Za rfl (Za rfl (Za rfl (Za rfl (Za rfl (Za rfl (Za rfl (Za rfl (Za rfl (Za rfl (Za rfl (Za rfl (Za rfl (Za rfl (Za rfl (Za rfl (Za rfl (Za rfl (Za rfl (Za rfl (Za rfl (Za rfl (Za rfl (Za rfl (Za rfl (Za rfl (Za rfl (Za rfl (Za rfl (Za rfl (Za rfl (Za rfl (Za rfl (Za rfl (Za rfl (Za rfl (Za rfl (Za rfl (Za rfl (Za rfl (Za rfl (Za rfl (Za rfl (Za rfl (Za rfl (Za rfl (Za rfl (Za rfl (Za rfl (Za rfl (Za rfl (Za rfl (Za rfl (Za rfl (Za rfl (Za rfl (Za rfl (Za rfl (Za rfl (Za rfl (Za rfl (Za rfl (Za rfl (Za rfl (Za rfl (Za rfl (Za rfl (Za rfl (Za rfl (Za rfl (Za rfl (Za rfl (Za rfl (Za rfl (Za rfl (Za rfl (Za rfl (Za rfl (Za rfl (Za rfl (Za rfl (Za rfl (Za rfl (Za rfl (Za rfl (Za rfl (Za rfl (Za rfl (Za rfl (Za rfl (Za rfl (Za rfl (Za rfl (Za rfl (Za rfl (Za rfl (Za rfl (Za rfl (Za rfl (Za rfl (Za rfl (Za rfl (Za rfl (Za rfl (Za rfl (Za rfl (Za rfl (Za rfl (Za rfl (Za rfl (Za rfl (Za rfl (Za rfl (Za rfl (Za rfl (Za rfl (Za rfl (Za rfl (Za rfl (Za rfl (Za rfl (Za rfl (Za rfl (Za rfl (Za rfl (Za rfl (Za rfl (Za rfl (Za rfl (Za rfl (Za rfl (Za rfl (Za rfl (Za rfl (Za rfl (Za rfl (Za rfl (Za rfl (Za rfl (Za rfl (Za rfl (Za rfl (Za rfl (Za rfl (Za rfl (Za rfl (Za rfl (Za rfl (Za rfl (Za rfl (Za rfl (Za rfl (Za rfl (Za rfl (Za rfl (Za rfl (Za rfl (Za rfl (Za rfl (Za rfl (Za rfl (Za rfl (Za rfl (Za rfl (Za rfl (Za rfl (Za rfl (Za rfl (Za rfl (Za rfl (Za rfl (Za rfl (Za rfl (Za rfl (Za rfl (Za rfl (Za rfl (Za rfl (Za rfl (Za rfl (Za rfl (Za rfl (Za rfl (Za rfl (Za rfl (Za rfl (Za rfl (Za rfl (Za rfl (Za rfl (Za rfl (Za rfl (Za rfl (Za rfl (Za rfl (Za rfl (Za rfl (Za rfl (Za rfl (Za rfl (Za rfl (Za rfl (Za rfl (Za rfl (Za rfl (Za rfl (Za rfl (Za rfl (Za rfl (Za rfl (Za rfl (Za rfl (Za rfl (Za rfl (Za rfl (Za rfl (Za rfl (Za rfl (Za rfl (Za rfl (Za rfl (Za rfl (Za rfl (Za rfl (Za rfl (Za rfl (Za rfl (Za rfl (Za rfl (Za rfl (Za rfl (Za rfl (Za rfl (Za rfl (Za rfl (Za rfl (Za rfl (Za rfl (Za rfl (Za rfl (Za rfl (Za rfl rfl))))))))))))))))))))))))))))))))))))))))))))))))))))))))))))))))))))))))))))))))))))))))))))))))))))))))))))))))))))))))))))))))))))))))))))))))))))))))))))))))))))))))))))))))))))))))))))))))))))))))))))))))))))))))))))))))))))))))))))))))))))))))))))))))))))))))))))))))))))))))))))))))))))))))))))))))))))))))))))))))))))))))))))))))))))))))))))))))))))))))))))))))))))))))))))))))))))))))))))))))))))))))))))))))))))))))))))))))))))) <| Zd (Zk (Zdr #[vs 7 0 109 109]    N c0 7 145 rfl (by decide) (by decide))) <| Zd (Zk (Za rfl (Za rfl (Za rfl (Za rfl (Za rfl (Za rfl (Za rfl (Za rfl (Za rfl (Za rfl (Za rfl (Za rfl (Za rfl (Za rfl (Za rfl (Za rfl (Za rfl (Za rfl (Za rfl (Za rfl (Za rfl (Za rfl (Za rfl (Za rfl (Za rfl (Za rfl (Za rfl (Za rfl (Za rfl (Za rfl (Za rfl (Za rfl (Za rfl (Za rfl (Za rfl (Za rfl (Za rfl (Za rfl (Za rfl (Za rfl (Za rfl (Za rfl (Za rfl (Za rfl (Za rfl (Za rfl (Za rfl (Za rfl (Za rfl (Za rfl (Za rfl (Za rfl (Za rfl (Za rfl (Za rfl (Za rfl (Za rfl (Za rfl (Za rfl (Za rfl (Za rfl (Za rfl (Za rfl (Za rfl (Za rfl (Za rfl (Za rfl (Za rfl (Za rfl (Za rfl (Za rfl (Za rfl (Za rfl (Za rfl (Za rfl (Za rfl (Za rfl (Za rfl (Za rfl (Za rfl (Za rfl (Za rfl (Za rfl (Za rfl (Za rfl (Za rfl (Za rfl (Za rfl (Za rfl (Za rfl (Za rfl (Za rfl (Za rfl (Za rfl (Za rfl (Za rfl (Za rfl (Za rfl (Za rfl (Za rfl (Za rfl (Za rfl (Za rfl (Za rfl (Za rfl (Za rfl (Za rfl (Za rfl (Za rfl (Za rfl (Za rfl (Za rfl (Za rfl (Za rfl (Za rfl (Za rfl (Za rfl (Za rfl (Za rfl (Za rfl (Za rfl (Za rfl (Za rfl (Za rfl (Za rfl (Za rfl (Za rfl (Za rfl (Za rfl (Za rfl (Za rfl (Za rfl (Za rfl (Za rfl (Za rfl (Za rfl (Za rfl (Za rfl (Za rfl (Za rfl (Za rfl (Za rfl (Za rfl (Za rfl (Za rfl (Za rfl (Za rfl (Za rfl (Za rfl (Za rfl (Za rfl (Za rfl (Za rfl (Za rfl (Za rfl (Za rfl (Za rfl (Za rfl (Za rfl (Za rfl (Za rfl (Za rfl (Za rfl (Za rfl (Za rfl (Za rfl (Za rfl (Za rfl (Za rfl (Za rfl (Za rfl (Za rfl (Za rfl (Za rfl (Za rfl (Za rfl (Za rfl (Za rfl (Za rfl (Za rfl (Za rfl (Za rfl (Za rfl (Za rfl (Za rfl (Za rfl (Za rfl (Za rfl (Za rfl (Za rfl (Za rfl (Za rfl (Za rfl (Za rfl (Za rfl (Za rfl (Za rfl (Za rfl (Za rfl (Za rfl (Za rfl (Za rfl (Za rfl (Za rfl (Za rfl (Za rfl (Za rfl (Za rfl (Za rfl (Za rfl (Za rfl (Za rfl (Za rfl (Za rfl (Za rfl (Za rfl (Za rfl (Za rfl (Za rfl (Za rfl (Za rfl (Za rfl (Za rfl (Za rfl (Za rfl (Za rfl (Za rfl (Za rfl (Za rfl (Za rfl (Za rfl (Za rfl (Za rfl (Za rfl (Za rfl (Za rfl (Za rfl (Za rfl (Za rfl (Za rfl (Za rfl (Za rfl (Za rfl (Za rfl (Za rfl (Za rfl (Za rfl (Za rfl (Za rfl (Za rfl (Za rfl (Za rfl (Za rfl (Za rfl (Za rfl (Za rfl (Za rfl (Za rfl (Za rfl (Za rfl (Za rfl (Za rfl (Za rfl (Za rfl (Za rfl (Za rfl (Za rfl (Za rfl (Za rfl (Za rfl (Za rfl (Za rfl (Za rfl (Za rfl (Za rfl (Za rfl (Za rfl (Za rfl (Za rfl (Za rfl (Za rfl (Za rfl (Za rfl (Za rfl (Za rfl (Za rfl (Za rfl (Za rfl (Za rfl (Za rfl (Za rfl (Za rfl (Za rfl (Za rfl (Za rfl (Za rfl (Za rfl (Za rfl (Za rfl (Za rfl (Za rfl (Za rfl (Za rfl (Za rfl (Za rfl (Za rfl (Za rfl (Za rfl (Za rfl (Za rfl (Za rfl (Za rfl (Za rfl (Za rfl (Za rfl (Za rfl (Za rfl (Za rfl (Za rfl (Za rfl (Za rfl (Za rfl (Za rfl (Za rfl (Za rfl (Za rfl (Za rfl (Za rfl (Za rfl (Za rfl (Za rfl (Za rfl (Za rfl (Za rfl (Za rfl (Za rfl (Za rfl (Za rfl (Za rfl (Za rfl (Za rfl (Za rfl (Za rfl (Za rfl (Za rfl (Za rfl (Za rfl (Za rfl (Za rfl (Za rfl (Za rfl (Za rfl (Za rfl (Za rfl (Za rfl (Za rfl (Za rfl (Za rfl (Za rfl (Za rfl (Za rfl (Za rfl (Za rfl (Za rfl (Za rfl (Za rfl (Za rfl (Za rfl (Za rfl (Za rfl (Za rfl (Za rfl (Za rfl (Za rfl (Za rfl (Za rfl (Za rfl (Za rfl (Za rfl (Za rfl (Za rfl (Za rfl (Za rfl (Za rfl (Za rfl (Za rfl (Za rfl (Za rfl (Za rfl (Za rfl (Za rfl (Za rfl (Za rfl (Za rfl (Za rfl (Za rfl (Za rfl (Za rfl (Za rfl (Za rfl (Za rfl (Za rfl (Za rfl (Za rfl (Za rfl (Za rfl (Za rfl (Za rfl (Za rfl (Za rfl (Za rfl (Za rfl (Za rfl (Za rfl (Za rfl (Za rfl (Za rfl (Za rfl (Za rfl (Za rfl (Za rfl (Za rfl (Za rfl (Za rfl (Za rfl (Za rfl (Za rfl (Za rfl (Za rfl (Za rfl (Za rfl (Za rfl (Za rfl (Za rfl (Za rfl (Za rfl rfl))))))))))))))))))))))))))))))))))))))))))))))))))))))))))))))))))))))))))))))))))))))))))))))))))))))))))))))))))))))))))))))))))))))))))))))))))))))))))))))))))))))))))))))))))))))))))))))))))))))))))))))))))))))))))))))))))))))))))))))))))))))))))))))))))))))))))))))))))))))))))))))))))))))))))))))))))))))))))))))))))))))))))))))))))))))))))))))))))))))))))))))))))))))))))))))))))))))))))))))))))))))))))))))))))))))))))))))))))))) Zf) rfl (by decide) (by rfl) (fun _ => ⟨rr, ⟨rr, ⟨rr, ⟨rr, ⟨rr, ⟨rr, ⟨rr, ⟨rr, ⟨rr, trivial⟩⟩⟩⟩⟩⟩⟩⟩⟩) ⟨⟨rfl, ⟨[], by rfl⟩, by rfl⟩, ⟨⟨rfl, ⟨[], by rfl⟩, by rfl⟩, ⟨⟨rfl, ⟨[], by rfl⟩, by rfl⟩, ⟨⟨rfl, ⟨[], by rfl⟩, by rfl⟩, ⟨⟨rfl, ⟨[], by rfl⟩, by rfl⟩, ⟨⟨rfl, ⟨[], by rfl⟩, by rfl⟩, ⟨⟨rfl, ⟨[], by rfl⟩, by rfl⟩, ⟨⟨rfl, ⟨[], by rfl⟩, by rfl⟩, ⟨⟨rfl, ⟨[], by rfl⟩, by rfl⟩, ⟨⟨rfl, ⟨[], by rfl⟩, by rfl⟩, ⟨⟨rfl, ⟨[], by rfl⟩, by rfl⟩, ⟨⟨rfl, ⟨[], by rfl⟩, by rfl⟩, trivial⟩⟩⟩⟩⟩⟩⟩⟩⟩⟩⟩⟩

theorem ZlB  (N : Nat) : (Z5  N).Ok Tryz.prog ZG (.h3m1 : Zn) (Zae  N (.h3m1 : Zn)) := by
 show (Z5  N).Ok Tryz.prog ZG (.h3m1 : Zn) (Zfw  N)
 unfold Zfw
 exact Mach.ok_next (M := Z5  N) (cd := 1000000) (cm := 0) (y := (.h2m1 : Zn)) (fu := 4000) (orc := (Zj [] [] [] [] [])) (live := [0, 1, 2, 3, 4, 5, 6, 7, 8, 9, 10, 11]) (tv := fun _ => [some (vs 0 0 1 1), some (vi (100 : Int)), some (vp 2 0), some (vp 3 0), some (vi (1 : Int)), some (vs 4 0 1 1), some (vi (1 : Int))]) (bl := [some (.cells [vs 1 0 109 109] 22), some cz0, some (.cells [vn, vn, vn] 78), some (.cells [vs 5 0 1 1, vs 6 0 1 1, vs 7 0 2 2] 78), some (.cells [vq] 3), some (.cells [vs 8 0 109 109] 22), some ZoY, some ZoZ, some cz0, some (.cells [] 36), some cz5, some (.cells [vi (2 : Int), vq, vi (1 : Int), vi (5 : Int)] 36)]) (ob := []) rfl (show 2 ∈ Zl (Zbu 3) from by decide +kernel) (fun gv => by kernel_rfl) Zf rfl (by decide) (by rfl) (fun _ => ⟨rr, ⟨rr, ⟨rr, ⟨rr, ⟨rr, ⟨rr, ⟨rr, trivial⟩⟩⟩⟩⟩⟩⟩) ⟨⟨rfl, ⟨[], by rfl⟩, by rfl⟩, ⟨⟨rfl, ⟨[], by rfl⟩, by rfl⟩, ⟨⟨rfl, ⟨[], by rfl⟩, by rfl⟩, ⟨⟨rfl, ⟨[], by rfl⟩, by rfl⟩, ⟨⟨rfl, ⟨[], by rfl⟩, by rfl⟩, ⟨⟨rfl, ⟨[], by rfl⟩, by rfl⟩, ⟨⟨rfl, ⟨[], by rfl⟩, by rfl⟩, ⟨⟨rfl, ⟨[], by rfl⟩, by rfl⟩, ⟨⟨rfl, ⟨[], by rfl⟩, by rfl⟩, ⟨⟨rfl, ⟨[], by rfl⟩, by rfl⟩, ⟨⟨rfl, ⟨[], by rfl⟩, by rfl⟩, ⟨⟨rfl, ⟨[], by rfl⟩, by rfl⟩, trivial⟩⟩⟩⟩⟩⟩⟩⟩⟩⟩⟩⟩

theorem ZlC  (N : Nat) : (Z5  N).Ok Tryz.prog ZG (.h3m2 : Zn) (Zae  N (.h3m2 : Zn)) := by
 show (Z5  N).Ok Tryz.prog ZG (.h3m2 : Zn) (Zfx  N)
 unfold Zfx
 refine Mach.ok_bind (fun z0 c0 => ?_)
 cases z0 with
 | r0 =>
  refine Mach.ok_bind (fun z1 c1 => ?_)
  cases z1 with
  | r0 =>
   exact Mach.ok_next (M := Z5  N) (cd := 1000000) (cm := 0) (y := (.h3m3 : Zn)) (fu := 4000) (orc := (Zj [] [] [] [] [(127, (Zdq    8 192)), (457, (Zdq    8 642))])) (live := [0, 1, 2, 3, 996, 5, 992, 935, 8, 562, 925, 11, 869]) (tv := fun _ => [some (vs 0 0 1 1), some (vi (100 : Int)), some (vp 2 0), some (vp 3 0), some (vi (2 : Int)), some (vs 996 0 2 2), some (vi (1 : Int)), some (vT), some (vi (1 : Int))]) (bl := [some (.cells [vs 1 0 109 109] 22), some cz0, some (.cells [vn, vn, vn] 78), some (.cells [vs 5 0 1 1, vs 992 0 1 1, vs 935 0 3 3] 78), some (.cells [vq, vq] 3), some (.cells [vs 8 0 109 109] 22), some (.cells [vq, vq, vi (71 : Int), vi (2 : Int), vi (1048577 : Int), vi (1 : Int), vi (3 : Int), vi (2 : Int), vi (1048594 : Int), vi (1 : Int), vi (5 : Int), vi (1 : Int), vq, vi (1 : Int), vq, vi (2 : Int), vi (1048595 : Int), vi (1 : Int), vi (1 : Int), vs 562 0 1 1] 87), some (.cells [vi (2 : Int), vi (1048577 : Int), vi (1 : Int), vi (16 : Int), vi (255 : Int), vi (2 : Int), vq, vs 925 0 16 16, vi (2 : Int), vi (1048594 : Int), vi (1 : Int), vi (2 : Int), vi (1 : Int), vi (2 : Int), vq, vs 11 0 2 2, vi (2 : Int), vi (1048595 : Int), vi (1 : Int), vi (2 : Int), vi (1 : Int), vi (2 : Int), vq, vs 869 0 2 2] 42), some cz0, some (.cells [vi (1 : Int), vi (1 : Int)] 36), some cz4, some (.cells [vi (2 : Int), vq, vi (1 : Int), vi (5 : Int)] 36), some ZdK]) (ob := [(dP (ZcB #[vs 8 0 109 109]    8 642), true), (dS [vi (1 : Int), vi (1 : Int), vi (5 : Int), vq, vi (10 : Int), vq, vq, vq, vi (15 : Int), vq, vq, vq, vi (13 : Int), vi (2 : Int), vq, vi (2 : Int), vi (9 : Int), vi (2 : Int), vi (27 : Int), vq, vi (13 : Int), vi (3 : Int), vi (2 : Int), vi (1 : Int), vi (6 : Int), vi (4 : Int), vi (3 : Int), vi (1 : Int), vi (9 : Int), vi (4 : Int), vi (24 : Int), vq, vi (13 : Int), vi (5 : Int), vi (2 : Int), vq, vi (9 : Int), vi (5 : Int), vi (18 : Int), vq, vi (13 : Int), vi (3 : Int), vi (5 : Int), vi (1 : Int), vi (6 : Int), vi (4 : Int), vi (3 : Int), vi (1 : Int), vi (9 : Int), vi (4 : Int), vi (15 : Int), vq, vi (3 : Int), vi (2 : Int), vi (5 : Int), vq, vi (8 : Int), vi (8 : Int), vq, vq, vi (7 : Int), vi (4 : Int), vi (3 : Int), vi (1 : Int), vi (9 : Int), vi (4 : Int), vi (18 : Int), vq, vi (8 : Int), vi (33 : Int), vq, vq, vi (11 : Int), vi (6 : Int), vi (2 : Int), vi (1 : Int), vi (14 : Int), vi (6 : Int), vi (1 : Int), vi (1 : Int), vi (14 : Int), vi (6 : Int), vq, vi (5 : Int), vi (14 : Int), vi (2 : Int), vq, vi (6 : Int), vi (1 : Int), vi (7 : Int), vi (1 : Int), vq, vi (8 : Int), vi (34 : Int), vq, vq, vi (7 : Int), vi (4 : Int), vi (3 : Int), vi (1 : Int), vi (9 : Int), vi (4 : Int), vi (27 : Int), vq, vi (8 : Int), vi (33 : Int), vq, vq, vi (11 : Int), vi (6 : Int), vi (2 : Int), vi (1 : Int), vi (14 : Int), vi (6 : Int), vi (1 : Int), vi (1 : Int), vi (14 : Int), vi (6 : Int), vq, vi (2 : Int), vi (14 : Int), vq, vi (2 : Int), vi (6 : Int), vi (1 : Int), vi (7 : Int), vi (1 : Int), vq, vi (8 : Int), vi (34 : Int), vq, vq, vi (1 : Int), vi (7 : Int), vq, vq, vi (17 : Int), vq, vq, vq, vi (19 : Int), vi (7 : Int), vq, vq, vi (1 : Int), vi (1 : Int), vi (3 : Int), vq, vi (10 : Int), vq, vq, vq, vi (15 : Int), vq, vq, vq, vi (13 : Int), vi (2 : Int), vq, vi (2 : Int), vi (9 : Int), vi (2 : Int), vi (63 : Int), vq, vi (13 : Int), vi (3 : Int), vi (2 : Int), vi (1 : Int), vi (6 : Int), vi (4 : Int), vi (3 : Int), vi (1 : Int), vi (9 : Int), vi (4 : Int), vi (60 : Int), vq, vi (13 : Int), vi (5 : Int), vi (2 : Int), vq, vi (9 : Int), vi (5 : Int), vi (54 : Int), vq, vi (13 : Int), vi (3 : Int), vi (5 : Int), vi (1 : Int), vi (6 : Int), vi (4 : Int), vi (3 : Int), vi (1 : Int), vi (9 : Int), vi (4 : Int), vi (51 : Int), vq, vi (3 : Int), vi (2 : Int), vi (5 : Int), vq, vi (8 : Int), vi (44 : Int), vq, vq, vi (7 : Int), vi (4 : Int), vi (3 : Int), vi (1 : Int), vi (9 : Int), vi (4 : Int), vi (54 : Int), vq, vi (8 : Int), vi (69 : Int), vq, vq, vi (11 : Int), vi (6 : Int), vi (2 : Int), vi (1 : Int), vi (14 : Int), vi (6 : Int), vi (1 : Int), vi (1 : Int), vi (14 : Int), vi (6 : Int), vq, vi (5 : Int), vi (14 : Int), vi (2 : Int), vq, vi (6 : Int), vi (1 : Int), vi (7 : Int), vi (1 : Int), vq, vi (8 : Int), vi (70 : Int), vq, vq, vi (7 : Int), vi (4 : Int), vi (3 : Int), vi (1 : Int), vi (9 : Int), vi (4 : Int), vi (63 : Int), vq, vi (8 : Int), vi (69 : Int), vq, vq, vi (11 : Int), vi (6 : Int), vi (2 : Int), vi (1 : Int), vi (14 : Int), vi (6 : Int), vi (1 : Int), vi (1 : Int), vi (14 : Int), vi (6 : Int), vq, vi (2 : Int), vi (14 : Int), vq, vi (2 : Int), vi (6 : Int), vi (1 : Int), vi (7 : Int), vi (1 : Int), vq, vi (8 : Int), vi (70 : Int), vq, vq, vi (1 : Int), vi (7 : Int), vq, vq, vi (17 : Int), vq, vq, vq, vi (19 : Int), vi (7 : Int), vq, vq, vi (1 : Int), vi (1 : Int), vi (5 : Int), vq, vi (10 : Int), vq, vq, vq, vi (15 : Int), vq, vq, vq, vi (13 : Int), vi (2 : Int), vq, vi (2 : Int), vi (9 : Int), vi (2 : Int), vi (99 : Int), vq, vi (13 : Int), vi (3 : Int), vi (2 : Int), vi (1 : Int), vi (6 : Int), vi (4 : Int), vi (3 : Int), vi (1 : Int), vi (9 : Int), vi (4 : Int), vi (96 : Int), vq, vi (13 : Int), vi (5 : Int), vi (2 : Int), vq, vi (9 : Int), vi (5 : Int), vi (90 : Int), vq, vi (13 : Int), vi (3 : Int), vi (5 : Int), vi (1 : Int), vi (6 : Int), vi (4 : Int), vi (3 : Int), vi (1 : Int), vi (9 : Int), vi (4 : Int), vi (87 : Int), vq, vi (3 : Int), vi (2 : Int), vi (5 : Int), vq, vi (8 : Int), vi (80 : Int), vq, vq, vi (7 : Int), vi (4 : Int), vi (3 : Int), vi (1 : Int), vi (9 : Int), vi (4 : Int), vi (90 : Int), vq, vi (8 : Int), vi (105 : Int), vq, vq, vi (11 : Int), vi (6 : Int), vi (2 : Int), vi (1 : Int), vi (14 : Int), vi (6 : Int), vi (1 : Int), vi (1 : Int), vi (14 : Int), vi (6 : Int), vq, vi (5 : Int), vi (14 : Int), vi (2 : Int), vq, vi (6 : Int), vi (1 : Int), vi (7 : Int), vi (1 : Int), vq, vi (8 : Int), vi (106 : Int), vq, vq, vi (7 : Int), vi (4 : Int), vi (3 : Int), vi (1 : Int), vi (9 : Int), vi (4 : Int), vi (99 : Int), vq, vi (8 : Int), vi (105 : Int), vq, vq, vi (11 : Int), vi (6 : Int), vi (2 : Int), vi (1 : Int), vi (14 : Int), vi (6 : Int), vi (1 : Int), vi (1 : Int), vi (14 : Int), vi (6 : Int), vq, vi (2 : Int), vi (14 : Int), vq, vi (2 : Int), vi (6 : Int), vi (1 : Int), vi (7 : Int), vi (1 : Int), vq, vi (8 : Int), vi (106 : Int), vq, vq, vi (1 : Int), vi (7 : Int), vq, vq, vi (17 : Int), vq, vq, vq, vi (19 : Int), vi (7 : Int), vq, vq, vi (20 : Int), vq, vq, vq], true), (dP (ZcB #[vs 8 0 109 109]    8 192), true), (dS [vi (1 : Int), vi (1 : Int), vi (5 : Int), vq, vi (10 : Int), vq, vq, vq, vi (15 : Int), vq, vq, vq, vi (13 : Int), vi (2 : Int), vq, vi (2 : Int), vi (9 : Int), vi (2 : Int), vi (27 : Int), vq, vi (13 : Int), vi (3 : Int), vi (2 : Int), vi (1 : Int), vi (6 : Int), vi (4 : Int), vi (3 : Int), vi (1 : Int), vi (9 : Int), vi (4 : Int), vi (24 : Int), vq, vi (13 : Int), vi (5 : Int), vi (2 : Int), vq, vi (9 : Int), vi (5 : Int), vi (18 : Int), vq, vi (13 : Int), vi (3 : Int), vi (5 : Int), vi (1 : Int), vi (6 : Int), vi (4 : Int), vi (3 : Int), vi (1 : Int), vi (9 : Int), vi (4 : Int), vi (15 : Int), vq, vi (3 : Int), vi (2 : Int), vi (5 : Int), vq, vi (8 : Int), vi (8 : Int), vq, vq, vi (7 : Int), vi (4 : Int), vi (3 : Int), vi (1 : Int), vi (9 : Int), vi (4 : Int), vi (18 : Int), vq, vi (8 : Int), vi (33 : Int), vq, vq, vi (11 : Int), vi (6 : Int), vi (2 : Int), vi (1 : Int), vi (14 : Int), vi (6 : Int), vi (1 : Int), vi (1 : Int), vi (14 : Int), vi (6 : Int), vq, vi (5 : Int), vi (14 : Int), vi (2 : Int), vq, vi (6 : Int), vi (1 : Int), vi (7 : Int), vi (1 : Int), vq, vi (8 : Int), vi (34 : Int), vq, vq, vi (7 : Int), vi (4 : Int), vi (3 : Int), vi (1 : Int), vi (9 : Int), vi (4 : Int), vi (27 : Int), vq, vi (8 : Int), vi (33 : Int), vq, vq, vi (11 : Int), vi (6 : Int), vi (2 : Int), vi (1 : Int), vi (14 : Int), vi (6 : Int), vi (1 : Int), vi (1 : Int), vi (14 : Int), vi (6 : Int), vq, vi (2 : Int), vi (14 : Int), vq, vi (2 : Int), vi (6 : Int), vi (1 : Int), vi (7 : Int), vi (1 : Int), vq, vi (8 : Int), vi (34 : Int), vq, vq, vi (1 : Int), vi (7 : Int), vq, vq, vi (17 : Int), vq, vq, vq, vi (19 : Int), vi (7 : Int), vq, vq, vi (1 : Int), vi (1 : Int), vi (3 : Int), vq, vi (10 : Int), vq, vq, vq, vi (15 : Int), vq, vq, vq, vi (13 : Int), vi (2 : Int), vq, vi (2 : Int), vi (9 : Int), vi (2 : Int), vi (63 : Int), vq, vi (13 : Int), vi (3 : Int), vi (2 : Int), vi (1 : Int), vi (6 : Int), vi (4 : Int), vi (3 : Int), vi (1 : Int), vi (9 : Int), vi (4 : Int), vi (60 : Int), vq, vi (13 : Int), vi (5 : Int), vi (2 : Int), vq, vi (9 : Int), vi (5 : Int), vi (54 : Int), vq, vi (13 : Int), vi (3 : Int), vi (5 : Int), vi (1 : Int), vi (6 : Int), vi (4 : Int), vi (3 : Int), vi (1 : Int), vi (9 : Int), vi (4 : Int), vi (51 : Int), vq, vi (3 : Int), vi (2 : Int), vi (5 : Int), vq, vi (8 : Int), vi (44 : Int), vq, vq, vi (7 : Int), vi (4 : Int), vi (3 : Int), vi (1 : Int), vi (9 : Int), vi (4 : Int), vi (54 : Int), vq, vi (8 : Int), vi (69 : Int), vq, vq, vi (11 : Int), vi (6 : Int), vi (2 : Int), vi (1 : Int), vi (14 : Int), vi (6 : Int), vi (1 : Int), vi (1 : Int), vi (14 : Int), vi (6 : Int), vq, vi (5 : Int), vi (14 : Int), vi (2 : Int), vq, vi (6 : Int), vi (1 : Int), vi (7 : Int), vi (1 : Int), vq, vi (8 : Int), vi (70 : Int), vq, vq, vi (7 : Int), vi (4 : Int), vi (3 : Int), vi (1 : Int), vi (9 : Int), vi (4 : Int), vi (63 : Int), vq, vi (8 : Int), vi (69 : Int), vq, vq, vi (11 : Int), vi (6 : Int), vi (2 : Int), vi (1 : Int), vi (14 : Int), vi (6 : Int), vi (1 : Int), vi (1 : Int), vi (14 : Int), vi (6 : Int), vq, vi (2 : Int), vi (14 : Int), vq, vi (2 : Int), vi (6 : Int), vi (1 : Int), vi (7 : Int), vi (1 : Int), vq, vi (8 : Int), vi (70 : Int), vq, vq, vi (1 : Int), vi (7 : Int), vq, vq, vi (17 : Int), vq, vq, vq, vi (19 : Int), vi (7 : Int), vq, vq, vi (1 : Int), vi (1 : Int), vi (5 : Int), vq, vi (10 : Int), vq, vq, vq, vi (15 : Int), vq, vq, vq, vi (13 : Int), vi (2 : Int), vq, vi (2 : Int), vi (9 : Int), vi (2 : Int), vi (99 : Int), vq, vi (13 : Int), vi (3 : Int), vi (2 : Int), vi (1 : Int), vi (6 : Int), vi (4 : Int), vi (3 : Int), vi (1 : Int), vi (9 : Int), vi (4 : Int), vi (96 : Int), vq, vi (13 : Int), vi (5 : Int), vi (2 : Int), vq, vi (9 : Int), vi (5 : Int), vi (90 : Int), vq, vi (13 : Int), vi (3 : Int), vi (5 : Int), vi (1 : Int), vi (6 : Int), vi (4 : Int), vi (3 : Int), vi (1 : Int), vi (9 : Int), vi (4 : Int), vi (87 : Int), vq, vi (3 : Int), vi (2 : Int), vi (5 : Int), vq, vi (8 : Int), vi (80 : Int), vq, vq, vi (7 : Int), vi (4 : Int), vi (3 : Int), vi (1 : Int), vi (9 : Int), vi (4 : Int), vi (90 : Int), vq, vi (8 : Int), vi (105 : Int), vq, vq, vi (11 : Int), vi (6 : Int), vi (2 : Int), vi (1 : Int), vi (14 : Int), vi (6 : Int), vi (1 : Int), vi (1 : Int), vi (14 : Int), vi (6 : Int), vq, vi (5 : Int), vi (14 : Int), vi (2 : Int), vq, vi (6 : Int), vi (1 : Int), vi (7 : Int), vi (1 : Int), vq, vi (8 : Int), vi (106 : Int), vq, vq, vi (7 : Int), vi (4 : Int), vi (3 : Int), vi (1 : Int), vi (9 : Int), vi (4 : Int), vi (99 : Int), vq, vi (8 : Int), vi (105 : Int), vq, vq, vi (11 : Int), vi (6 : Int), vi (2 : Int), vi (1 : Int), vi (14 : Int), vi (6 : Int), vi (1 : Int), vi (1 : Int), vi (14 : Int), vi (6 : Int), vq, vi (2 : Int), vi (14 : Int), vq, vi (2 : Int), vi (6 : Int), vi (1 : Int), vi (7 : Int), vi (1 : Int), vq, vi (8 : Int), vi (106 : Int), vq, vq, vi (1 : Int), vi (7 : Int), vq, vq, vi (17 : Int), vq, vq, vq, vi (19 : Int), vi (7 : Int), vq, vq, vi (20 : Int), vq, vq, vq], true)]) rfl (show 3 ∈ Zl (Zbu 3) from by decide +kernel) (fun gv => by kernel_rfl) (Zd (Zk (Zdr #[vs 8 0 109 109]    N c1 8 642 rfl (by decide) (by decide))) <| Zd (Zk (Za rfl (Za rfl (Za rfl (Za rfl (Za rfl (Za rfl (Za rfl (Za rfl (Za rfl (Za rfl (Za rfl (Za rfl (Za rfl (Za rfl (Za rfl (Za rfl (Za rfl (Za rfl (Za rfl (Za rfl (Za rfl (Za rfl (Za rfl (Za rfl (Za rfl (Za rfl (Za rfl (Za rfl (Za rfl (Za rfl (Za rfl (Za rfl (Za rfl (Za rfl (Za rfl (Za rfl (Za rfl (Za rfl (Za rfl (Za rfl (Za rfl (Za rfl (Za rfl (Za rfl (Za rfl (Za rfl (Za rfl (Za rfl (Za rfl (Za rfl (Za rfl (Za rfl (Za rfl (Za rfl (Za rfl (Za rfl (Za rfl (Za rfl (Za rfl (Za rfl (Za rfl (Za rfl (Za rfl (Za rfl (Za rfl (Za rfl (Za rfl (Za rfl (Za rfl (Za rfl (Za rfl (Za rfl (Za rfl (Za rfl (Za rfl (Za rfl (Za rfl (Za rfl (Za rfl (Za rfl (Za rfl (Za rfl (Za rfl (Za rfl (Za rfl (Za rfl (Za rfl (Za rfl (Za rfl (Za rfl (Za rfl (Za rfl (Za rfl (Za rfl (Za rfl (Za rfl (Za rfl (Za rfl (Za rfl (Za rfl (Za rfl (Za rfl (Za rfl (Za rfl (Za rfl (Za rfl (Za rfl (Za rfl (Za rfl (Za rfl (Za rfl (Za rfl (Za rfl (Za rfl (Za rfl (Za rfl (Za rfl (Za rfl (Za rfl (Za rfl (Za rfl (Za rfl (Za rfl (Za rfl (Za rfl (Za rfl (Za rfl (Za rfl (Za rfl (Za rfl (Za rfl (Za rfl (Za rfl (Za rfl (Za rfl (Za rfl (Za rfl (Za rfl (Za rfl (Za rfl (Za rfl (Za rfl (Za rfl (Za rfl (Za rfl (Za rfl (Za rfl (Za rfl (Za rfl (Za rfl (Za rfl (Za rfl (Za rfl (Za rfl (Za rfl (Za rfl (Za rfl (Za rfl (Za rfl (Za rfl (Za rfl (Za rfl (Za rfl (Za rfl (Za rfl (Za rfl (Za rfl (Za rfl (Za rfl (Za rfl (Za rfl (Za rfl (Za rfl (Za rfl (Za rfl (Za rfl (Za rfl (Za rfl (Za rfl (Za rfl (Za rfl (Za rfl (Za rfl (Za rfl (Za rfl (Za rfl (Za rfl (Za rfl (Za rfl (Za rfl (Za rfl (Za rfl (Za rfl (Za rfl (Za rfl (Za rfl (Za rfl (Za rfl (Za rfl (Za rfl (Za rfl (Za rfl (Za rfl (Za rfl (Za rfl (Za rfl (Za rfl (Za rfl (Za rfl (Za rfl (Za rfl (Za rfl (Za rfl (Za rfl (Za rfl (Za rfl (Za rfl (Za rfl (Za rfl (Za rfl (Za rfl (Za rfl (Za rfl (Za rfl (Za rfl (Za rfl (Za rfl (Za rfl (Za rfl (Za rfl (Za rfl (Za rfl (Za rfl (Za rfl (Za rfl (Za rfl (Za rfl (Za rfl (Za rfl (Za rfl (Za rfl (Za rfl (Za rfl (Za rfl (Za rfl (Za rfl (Za rfl (Za rfl (Za rfl (Za rfl (Za rfl (Za rfl (Za rfl (Za rfl (Za rfl (Za rfl (Za rfl (Za rfl (Za rfl (Za rfl (Za rfl (Za rfl (Za rfl (Za rfl (Za rfl (Za rfl (Za rfl (Za rfl (Za rfl (Za rfl (Za rfl (Za rfl (Za rfl (Za rfl (Za rfl (Za rfl (Za rfl (Za rfl (Za rfl (Za rfl (Za rfl (Za rfl (Za rfl (Za rfl (Za rfl (Za rfl (Za rfl (Za rfl (Za rfl (Za rfl (Za rfl (Za rfl (Za rfl (Za rfl (Za rfl (Za rfl (Za rfl (Za rfl (Za rfl (Za rfl (Za rfl (Za rfl (Za rfl (Za rfl (Za rfl (Za rfl (Za rfl (Za rfl (Za rfl (Za rfl (Za rfl (Za rfl (Za rfl (Za rfl (Za rfl (Za rfl (Za rfl (Za rfl (Za rfl (Za rfl (Za rfl (Za rfl (Za rfl (Za rfl (Za rfl (Za rfl (Za rfl (Za rfl (Za rfl (Za rfl (Za rfl (Za rfl (Za rfl (Za rfl (Za rfl (Za rfl (Za rfl (Za rfl (Za rfl (Za rfl (Za rfl (Za rfl (Za rfl (Za rfl (Za rfl (Za rfl (Za rfl (Za rfl (Za rfl (Za rfl (Za rfl (Za rfl (Za rfl (Za rfl (Za rfl (Za rfl (Za rfl (Za rfl (Za rfl (Za rfl (Za rfl (Za rfl (Za rfl (Za rfl (Za rfl (Za rfl (Za rfl (Za rfl (Za rfl (Za rfl (Za rfl (Za rfl (Za rfl (Za rfl (Za rfl (Za rfl (Za rfl (Za rfl (Za rfl (Za rfl (Za rfl (Za rfl (Za rfl (Za rfl (Za rfl (Za rfl (Za rfl (Za rfl (Za rfl (Za rfl (Za rfl (Za rfl (Za rfl (Za rfl (Za rfl (Za rfl (Za rfl (Za rfl (Za rfl (Za rfl (Za rfl (Za rfl (Za rfl (Za rfl (Za rfl (Za rfl (Za rfl (Za rfl (Za rfl (Za rfl (Za rfl (Za rfl (Za rfl (Za rfl (Za rfl (Za rfl (Za rfl (Za rfl (Za rfl (Za rfl (Za rfl (Za rfl (Za rfl (Za rfl (Za rfl (Za rfl (Za rfl (Za rfl (Za rfl (Za rfl (Za rfl (Za rfl (Za rfl (Za rfl (Za rfl (Za rfl rfl))))))))))))))))))))))))))))))))))))))))))))))))))))))))))))))))))))))))))))))))))))))))))))))))))))))))))))))))))))))))))))))))))))))))))))))))))))))))))))))))))))))))))))))))))))))))))))))))))))))))))))))))))))))))))))))))))))))))))))))))))))))))))))))))))))))))))))))))))))))))))))))))))))))))))))))))))))))))))))))))))))))))))))))))))))))))))))))))))))))))))))))))))))))))))))))))))))))))))))))))))))))))))))))))))))))))))))))))))))) <| Zd (Zk (Zdr #[vs 8 0 109 109]    N c0 8 192 rfl (by decide) (by decide))) <| Zd (Zk (Za rfl (Za rfl (Za rfl (Za rfl (Za rfl (Za rfl (Za rfl (Za rfl (Za rfl (Za rfl (Za rfl (Za rfl (Za rfl (Za rfl (Za rfl (Za rfl (Za rfl (Za rfl (Za rfl (Za rfl (Za rfl (Za rfl (Za rfl (Za rfl (Za rfl (Za rfl (Za rfl (Za rfl (Za rfl (Za rfl (Za rfl (Za rfl (Za rfl (Za rfl (Za rfl (Za rfl (Za rfl (Za rfl (Za rfl (Za rfl (Za rfl (Za rfl (Za rfl (Za rfl (Za rfl (Za rfl (Za rfl (Za rfl (Za rfl (Za rfl (Za rfl (Za rfl (Za rfl (Za rfl (Za rfl (Za rfl (Za rfl (Za rfl (Za rfl (Za rfl (Za rfl (Za rfl (Za rfl (Za rfl (Za rfl (Za rfl (Za rfl (Za rfl (Za rfl (Za rfl (Za rfl (Za rfl (Za rfl (Za rfl (Za rfl (Za rfl (Za rfl (Za rfl (Za rfl (Za rfl (Za rfl (Za rfl (Za rfl (Za rfl (Za rfl (Za rfl (Za rfl (Za rfl (Za rfl (Za rfl (Za rfl (Za rfl (Za rfl (Za rfl (Za rfl (Za rfl (Za rfl (Za rfl (Za rfl (Za rfl (Za rfl (Za rfl (Za rfl (Za rfl (Za rfl (Za rfl (Za rfl (Za rfl (Za rfl (Za rfl (Za rfl (Za rfl (Za rfl (Za rfl (Za rfl (Za rfl (Za rfl (Za rfl (Za rfl (Za rfl (Za rfl (Za rfl (Za rfl (Za rfl (Za rfl (Za rfl (Za rfl (Za rfl (Za rfl (Za rfl (Za rfl (Za rfl (Za rfl (Za rfl (Za rfl (Za rfl (Za rfl (Za rfl (Za rfl (Za rfl (Za rfl (Za rfl (Za rfl (Za rfl (Za rfl (Za rfl (Za rfl (Za rfl (Za rfl (Za rfl (Za rfl (Za rfl (Za rfl (Za rfl (Za rfl (Za rfl (Za rfl (Za rfl (Za rfl (Za rfl (Za rfl (Za rfl (Za rfl (Za rfl (Za rfl (Za rfl (Za rfl (Za rfl (Za rfl (Za rfl (Za rfl (Za rfl (Za rfl (Za rfl (Za rfl (Za rfl (Za rfl (Za rfl (Za rfl (Za rfl (Za rfl (Za rfl (Za rfl (Za rfl (Za rfl (Za rfl (Za rfl (Za rfl (Za rfl (Za rfl (Za rfl (Za rfl (Za rfl (Za rfl (Za rfl (Za rfl (Za rfl (Za rfl (Za rfl (Za rfl (Za rfl (Za rfl (Za rfl (Za rfl (Za rfl (Za rfl (Za rfl (Za rfl (Za rfl (Za rfl (Za rfl (Za rfl (Za rfl (Za rfl (Za rfl (Za rfl (Za rfl (Za rfl (Za rfl (Za rfl (Za rfl (Za rfl (Za rfl (Za rfl (Za rfl (Za rfl (Za rfl (Za rfl (Za rfl (Za rfl (Za rfl (Za rfl (Za rfl (Za rfl (Za rfl (Za rfl (Za rfl (Za rfl (Za rfl (Za rfl (Za rfl (Za rfl (Za rfl (Za rfl (Za rfl (Za rfl (Za rfl (Za rfl (Za rfl (Za rfl (Za rfl (Za rfl (Za rfl (Za rfl (Za rfl (Za rfl (Za rfl (Za rfl (Za rfl (Za rfl (Za rfl (Za rfl (Za rfl (Za rfl (Za rfl (Za rfl (Za rfl (Za rfl (Za rfl (Za rfl (Za rfl (Za rfl (Za rfl (Za rfl (Za rfl (Za rfl (Za rfl (Za rfl (Za rfl (Za rfl (Za rfl (Za rfl (Za rfl (Za rfl (Za rfl (Za rfl (Za rfl (Za rfl (Za rfl (Za rfl (Za rfl (Za rfl (Za rfl (Za rfl (Za rfl (Za rfl (Za rfl (Za rfl (Za rfl (Za rfl (Za rfl (Za rfl (Za rfl (Za rfl (Za rfl (Za rfl (Za rfl (Za rfl (Za rfl (Za rfl (Za rfl (Za rfl (Za rfl (Za rfl (Za rfl (Za rfl (Za rfl (Za rfl (Za rfl (Za rfl (Za rfl (Za rfl (Za rfl (Za rfl (Za rfl (Za rfl (Za rfl (Za rfl (Za rfl (Za rfl (Za rfl (Za rfl (Za rfl (Za rfl (Za rfl (Za rfl (Za rfl (Za rfl (Za rfl (Za rfl (Za rfl (Za rfl (Za rfl (Za rfl (Za rfl (Za rfl (Za rfl (Za rfl (Za rfl (Za rfl (Za rfl (Za rfl (Za rfl (Za rfl (Za rfl (Za rfl (Za rfl (Za rfl (Za rfl (Za rfl (Za rfl (Za rfl (Za rfl (Za rfl (Za rfl (Za rfl (Za rfl (Za rfl (Za rfl (Za rfl (Za rfl (Za rfl (Za rfl (Za rfl (Za rfl (Za rfl (Za rfl (Za rfl (Za rfl (Za rfl (Za rfl (Za rfl (Za rfl (Za rfl (Za rfl (Za rfl (Za rfl (Za rfl (Za rfl (Za rfl (Za rfl (Za rfl (Za rfl (Za rfl (Za rfl (Za rfl (Za rfl (Za rfl (Za rfl (Za rfl (Za rfl (Za rfl (Za rfl (Za rfl (Za rfl (Za rfl (Za rfl (Za rfl (Za rfl (Za rfl (Za rfl (Za rfl (Za rfl (Za rfl (Za rfl (Za rfl (Za rfl (Za rfl (Za rfl (Za rfl (Za rfl (Za rfl (Za rfl (Za rfl (Za rfl (Za rfl (Za rfl (Za rfl (Za rfl (Za rfl (Za rfl (Za rfl (Za rfl (Za rfl (Za rfl (Za rfl rfl))))))))))))))))))))))))))))))))))))))))))))))))))))))))))))))))))))))))))))))))))))))))))))))))))))))))))))))))))))))))))))))))))))))))))))))))))))))))))))))))))))))))))))))))))))))))))))))))))))))))))))))))))))))))))))))))))))))))))))))))))))))))))))))))))))))))))))))))))))))))))))))))))))))))))))))))))))))))))))))))))))))))))))))))))))))))))))))))))))))))))))))))))))))))))))))))))))))))))))))))))))))))))))))))))))))))))))))))))))) Zf) rfl (by decide) (by rfl) (fun _ => ⟨rr, ⟨rr, ⟨rr, ⟨rr, ⟨rr, ⟨rr, ⟨rr, ⟨rr, ⟨rr, trivial⟩⟩⟩⟩⟩⟩⟩⟩⟩) ⟨⟨rfl, ⟨[], by rfl⟩, by rfl⟩, ⟨⟨rfl, ⟨[], by rfl⟩, by rfl⟩, ⟨⟨rfl, ⟨[], by rfl⟩, by rfl⟩, ⟨⟨rfl, ⟨[], by rfl⟩, by rfl⟩, ⟨⟨rfl, ⟨[], by rfl⟩, by rfl⟩, ⟨⟨rfl, ⟨[], by rfl⟩, by rfl⟩, ⟨⟨rfl, ⟨[], by rfl⟩, by rfl⟩, ⟨⟨rfl, ⟨[], by rfl⟩, by rfl⟩, ⟨⟨rfl, ⟨[], by rfl⟩, by rfl⟩, ⟨⟨rfl, ⟨[], by rfl⟩, by rfl⟩, ⟨⟨rfl, ⟨[], by rfl⟩, by rfl⟩, ⟨⟨rfl, ⟨[], by rfl⟩, by rfl⟩, ⟨⟨rfl, ⟨[], by rfl⟩, by rfl⟩, trivial⟩⟩⟩⟩⟩⟩⟩⟩⟩⟩⟩⟩⟩

theorem ZlD  (N : Nat) : (Z5  N).Ok Tryz.prog ZG (.h3m3 : Zn) (Zae  N (.h3m3 : Zn)) := by
 show (Z5  N).Ok Tryz.prog ZG (.h3m3 : Zn) (Zfy  N)
 unfold Zfy
 exact Mach.ok_next (M := Z5  N) (cd := 1000000) (cm := 0) (y := (.h2m2 : Zn)) (fu := 4000) (orc := (Zj [] [] [] [] [])) (live := [0, 1, 2, 3, 4, 5, 6, 7, 8, 9, 10, 11, 12]) (tv := fun _ => [some (vs 0 0 1 1), some (vi (100 : Int)), some (vp 2 0), some (vp 3 0), some (vi (2 : Int)), some (vs 4 0 2 2), some (vi (2 : Int))]) (bl := [some (.cells [vs 1 0 109 109] 22), some cz0, some (.cells [vn, vn, vn] 78), some (.cells [vs 5 0 1 1, vs 6 0 1 1, vs 7 0 3 3] 78), some (.cells [vq, vq] 3), some (.cells [vs 8 0 109 109] 22), some cz9, some cz2, some cz0, some (.cells [vi (1 : Int), vi (1 : Int)] 36), some cz4, some (.cells [vi (2 : Int), vq, vi (1 : Int), vi (5 : Int)] 36), some ZdK]) (ob := []) rfl (show 2 ∈ Zl (Zbu 3) from by decide +kernel) (fun gv => by kernel_rfl) Zf rfl (by decide) (by rfl) (fun _ => ⟨rr, ⟨rr, ⟨rr, ⟨rr, ⟨rr, ⟨rr, ⟨rr, trivial⟩⟩⟩⟩⟩⟩⟩) ⟨⟨rfl, ⟨[], by rfl⟩, by rfl⟩, ⟨⟨rfl, ⟨[], by rfl⟩, by rfl⟩, ⟨⟨rfl, ⟨[], by rfl⟩, by rfl⟩, ⟨⟨rfl, ⟨[], by rfl⟩, by rfl⟩, ⟨⟨rfl, ⟨[], by rfl⟩, by rfl⟩, ⟨⟨rfl, ⟨[], by rfl⟩, by rfl⟩, ⟨⟨rfl, ⟨[], by rfl⟩, by rfl⟩, ⟨⟨rfl, ⟨[], by rfl⟩, by rfl⟩, ⟨⟨rfl, ⟨[], by rfl⟩, by rfl⟩, ⟨⟨rfl, ⟨[], by rfl⟩, by rfl⟩, ⟨⟨rfl, ⟨[], by rfl⟩, by rfl⟩, ⟨⟨rfl, ⟨[], by rfl⟩, by rfl⟩, ⟨⟨rfl, ⟨[], by rfl⟩, by rfl⟩, trivial⟩⟩⟩⟩⟩⟩⟩⟩⟩⟩⟩⟩⟩

theorem ZlE  (N : Nat) : (Z5  N).Ok Tryz.prog ZG (.h3m4 : Zn) (Zae  N (.h3m4 : Zn)) := by
 show (Z5  N).Ok Tryz.prog ZG (.h3m4 : Zn) (Zfz  N)
 unfold Zfz
 refine Mach.ok_bind (fun z0 c0 => ?_)
 cases z0 with
 | r0 =>
  exact Mach.ok_next (M := Z5  N) (cd := 1000000) (cm := 0) (y := (.h3m5 : Zn)) (fu := 4000) (orc := (Zj [] [] [] [] [(127, (Zdq    8 195))])) (live := [0, 1, 2, 3, 514, 5, 510, 7, 8, 118, 10, 11, 12]) (tv := fun _ => [some (vs 0 0 1 1), some (vi (100 : Int)), some (vp 2 0), some (vp 3 0), some (vi (2 : Int)), some (vs 514 0 3 3), some (vi (2 : Int)), some (vT), some (vi (1 : Int))]) (bl := [some (.cells [vs 1 0 109 109] 22), some cz0, some (.cells [vn, vn, vn] 78), some (.cells [vs 5 0 1 1, vs 510 0 1 1, vs 7 0 3 3] 78), some (.cells [vq, vq, vq] 3), some (.cells [vs 8 0 109 109] 22), some (.cells [vq, vq, vi (107 : Int), vi (2 : Int), vi (1048577 : Int), vi (1 : Int), vi (5 : Int), vi (2 : Int), vi (1048595 : Int), vi (1 : Int), vi (5 : Int), vi (1 : Int), vi (1 : Int), vi (2 : Int), vi (1048594 : Int), vi (2 : Int), vi (1048595 : Int), vi (1 : Int), vq, vs 118 0 2 2] 87), some cz2, some cz0, some (.cells [vi (1 : Int), vi (1 : Int), vi (1 : Int), vi (1 : Int)] 36), some cz4, some (.cells [vi (2 : Int), vq, vi (1 : Int), vi (5 : Int)] 36), some ZdK]) (ob := [(dP (ZcB #[vs 8 0 109 109]    8 195), true), (dS [vi (1 : Int), vi (1 : Int), vi (5 : Int), vq, vi (10 : Int), vq, vq, vq, vi (15 : Int), vq, vq, vq, vi (13 : Int), vi (2 : Int), vq, vi (2 : Int), vi (9 : Int), vi (2 : Int), vi (27 : Int), vq, vi (13 : Int), vi (3 : Int), vi (2 : Int), vi (1 : Int), vi (6 : Int), vi (4 : Int), vi (3 : Int), vi (1 : Int), vi (9 : Int), vi (4 : Int), vi (24 : Int), vq, vi (13 : Int), vi (5 : Int), vi (2 : Int), vq, vi (9 : Int), vi (5 : Int), vi (18 : Int), vq, vi (13 : Int), vi (3 : Int), vi (5 : Int), vi (1 : Int), vi (6 : Int), vi (4 : Int), vi (3 : Int), vi (1 : Int), vi (9 : Int), vi (4 : Int), vi (15 : Int), vq, vi (3 : Int), vi (2 : Int), vi (5 : Int), vq, vi (8 : Int), vi (8 : Int), vq, vq, vi (7 : Int), vi (4 : Int), vi (3 : Int), vi (1 : Int), vi (9 : Int), vi (4 : Int), vi (18 : Int), vq, vi (8 : Int), vi (33 : Int), vq, vq, vi (11 : Int), vi (6 : Int), vi (2 : Int), vi (1 : Int), vi (14 : Int), vi (6 : Int), vi (1 : Int), vi (1 : Int), vi (14 : Int), vi (6 : Int), vq, vi (5 : Int), vi (14 : Int), vi (2 : Int), vq, vi (6 : Int), vi (1 : Int), vi (7 : Int), vi (1 : Int), vq, vi (8 : Int), vi (34 : Int), vq, vq, vi (7 : Int), vi (4 : Int), vi (3 : Int), vi (1 : Int), vi (9 : Int), vi (4 : Int), vi (27 : Int), vq, vi (8 : Int), vi (33 : Int), vq, vq, vi (11 : Int), vi (6 : Int), vi (2 : Int), vi (1 : Int), vi (14 : Int), vi (6 : Int), vi (1 : Int), vi (1 : Int), vi (14 : Int), vi (6 : Int), vq, vi (2 : Int), vi (14 : Int), vq, vi (2 : Int), vi (6 : Int), vi (1 : Int), vi (7 : Int), vi (1 : Int), vq, vi (8 : Int), vi (34 : Int), vq, vq, vi (1 : Int), vi (7 : Int), vq, vq, vi (17 : Int), vq, vq, vq, vi (19 : Int), vi (7 : Int), vq, vq, vi (1 : Int), vi (1 : Int), vi (3 : Int), vq, vi (10 : Int), vq, vq, vq, vi (15 : Int), vq, vq, vq, vi (13 : Int), vi (2 : Int), vq, vi (2 : Int), vi (9 : Int), vi (2 : Int), vi (63 : Int), vq, vi (13 : Int), vi (3 : Int), vi (2 : Int), vi (1 : Int), vi (6 : Int), vi (4 : Int), vi (3 : Int), vi (1 : Int), vi (9 : Int), vi (4 : Int), vi (60 : Int), vq, vi (13 : Int), vi (5 : Int), vi (2 : Int), vq, vi (9 : Int), vi (5 : Int), vi (54 : Int), vq, vi (13 : Int), vi (3 : Int), vi (5 : Int), vi (1 : Int), vi (6 : Int), vi (4 : Int), vi (3 : Int), vi (1 : Int), vi (9 : Int), vi (4 : Int), vi (51 : Int), vq, vi (3 : Int), vi (2 : Int), vi (5 : Int), vq, vi (8 : Int), vi (44 : Int), vq, vq, vi (7 : Int), vi (4 : Int), vi (3 : Int), vi (1 : Int), vi (9 : Int), vi (4 : Int), vi (54 : Int), vq, vi (8 : Int), vi (69 : Int), vq, vq, vi (11 : Int), vi (6 : Int), vi (2 : Int), vi (1 : Int), vi (14 : Int), vi (6 : Int), vi (1 : Int), vi (1 : Int), vi (14 : Int), vi (6 : Int), vq, vi (5 : Int), vi (14 : Int), vi (2 : Int), vq, vi (6 : Int), vi (1 : Int), vi (7 : Int), vi (1 : Int), vq, vi (8 : Int), vi (70 : Int), vq, vq, vi (7 : Int), vi (4 : Int), vi (3 : Int), vi (1 : Int), vi (9 : Int), vi (4 : Int), vi (63 : Int), vq, vi (8 : Int), vi (69 : Int), vq, vq, vi (11 : Int), vi (6 : Int), vi (2 : Int), vi (1 : Int), vi (14 : Int), vi (6 : Int), vi (1 : Int), vi (1 : Int), vi (14 : Int), vi (6 : Int), vq, vi (2 : Int), vi (14 : Int), vq, vi (2 : Int), vi (6 : Int), vi (1 : Int), vi (7 : Int), vi (1 : Int), vq, vi (8 : Int), vi (70 : Int), vq, vq, vi (1 : Int), vi (7 : Int), vq, vq, vi (17 : Int), vq, vq, vq, vi (19 : Int), vi (7 : Int), vq, vq, vi (1 : Int), vi (1 : Int), vi (5 : Int), vq, vi (10 : Int), vq, vq, vq, vi (15 : Int), vq, vq, vq, vi (13 : Int), vi (2 : Int), vq, vi (2 : Int), vi (9 : Int), vi (2 : Int), vi (99 : Int), vq, vi (13 : Int), vi (3 : Int), vi (2 : Int), vi (1 : Int), vi (6 : Int), vi (4 : Int), vi (3 : Int), vi (1 : Int), vi (9 : Int), vi (4 : Int), vi (96 : Int), vq, vi (13 : Int), vi (5 : Int), vi (2 : Int), vq, vi (9 : Int), vi (5 : Int), vi (90 : Int), vq, vi (13 : Int), vi (3 : Int), vi (5 : Int), vi (1 : Int), vi (6 : Int), vi (4 : Int), vi (3 : Int), vi (1 : Int), vi (9 : Int), vi (4 : Int), vi (87 : Int), vq, vi (3 : Int), vi (2 : Int), vi (5 : Int), vq, vi (8 : Int), vi (80 : Int), vq, vq, vi (7 : Int), vi (4 : Int), vi (3 : Int), vi (1 : Int), vi (9 : Int), vi (4 : Int), vi (90 : Int), vq, vi (8 : Int), vi (105 : Int), vq, vq, vi (11 : Int), vi (6 : Int), vi (2 : Int), vi (1 : Int), vi (14 : Int), vi (6 : Int), vi (1 : Int), vi (1 : Int), vi (14 : Int), vi (6 : Int), vq, vi (5 : Int), vi (14 : Int), vi (2 : Int), vq, vi (6 : Int), vi (1 : Int), vi (7 : Int), vi (1 : Int), vq, vi (8 : Int), vi (106 : Int), vq, vq, vi (7 : Int), vi (4 : Int), vi (3 : Int), vi (1 : Int), vi (9 : Int), vi (4 : Int), vi (99 : Int), vq, vi (8 : Int), vi (105 : Int), vq, vq, vi (11 : Int), vi (6 : Int), vi (2 : Int), vi (1 : Int), vi (14 : Int), vi (6 : Int), vi (1 : Int), vi (1 : Int), vi (14 : Int), vi (6 : Int), vq, vi (2 : Int), vi (14 : Int), vq, vi (2 : Int), vi (6 : Int), vi (1 : Int), vi (7 : Int), vi (1 : Int), vq, vi (8 : Int), vi (106 : Int), vq, vq, vi (1 : Int), vi (7 : Int), vq, vq, vi (17 : Int), vq, vq, vq, vi (19 : Int), vi (7 : Int), vq, vq, vi (20 : Int), vq, vq, vq], true)]) rfl (show 3 ∈ Zl (Zbu 3) from by decide +kernel) (fun gv => by kernel_rfl) (Zd (Zk (Zdr #[vs 8 0 109 109]    N c0 8 195 rfl (by decide) (by decide))) <| Zd (Zk (Za rfl (Za rfl (Za rfl (Za rfl (Za rfl (Za rfl (Za rfl (Za rfl (Za rfl (Za rfl (Za rfl (Za rfl (Za rfl (Za rfl (Za rfl (Za rfl (Za rfl (Za rfl (Za rfl (Za rfl (Za rfl (Za rfl (Za rfl (Za rfl (Za rfl (Za rfl (Za rfl (Za rfl (Za rfl (Za rfl (Za rfl (Za rfl (Za rfl (Za rfl (Za rfl (Za rfl (Za rfl (Za rfl (Za rfl (Za rfl (Za rfl (Za rfl (Za rfl (Za rfl (Za rfl (Za rfl (Za rfl (Za rfl (Za rfl (Za rfl (Za rfl (Za rfl (Za rfl (Za rfl (Za rfl (Za rfl (Za rfl (Za rfl (Za rfl (Za rfl (Za rfl (Za rfl (Za rfl (Za rfl (Za rfl (Za rfl (Za rfl (Za rfl (Za rfl (Za rfl (Za rfl (Za rfl (Za rfl (Za rfl (Za rfl (Za rfl (Za rfl (Za rfl (Za rfl (Za rfl (Za rfl (Za rfl (Za rfl (Za rfl (Za rfl (Za rfl (Za rfl (Za rfl (Za rfl (Za rfl (Za rfl (Za rfl (Za rfl (Za rfl (Za rfl (Za rfl (Za rfl (Za rfl (Za rfl (Za rfl (Za rfl (Za rfl (Za rfl (Za rfl (Za rfl (Za rfl (Za rfl (Za rfl (Za rfl (Za rfl (Za rfl (Za rfl (Za rfl (Za rfl (Za rfl (Za rfl (Za rfl (Za rfl (Za rfl (Za rfl (Za rfl (Za rfl (Za rfl (Za rfl (Za rfl (Za rfl (Za rfl (Za rfl (Za rfl (Za rfl (Za rfl (Za rfl (Za rfl (Za rfl (Za rfl (Za rfl (Za rfl (Za rfl (Za rfl (Za rfl (Za rfl (Za rfl (Za rfl (Za rfl (Za rfl (Za rfl (Za rfl (Za rfl (Za rfl (Za rfl (Za rfl (Za rfl (Za rfl (Za rfl (Za rfl (Za rfl (Za rfl (Za rfl (Za rfl (Za rfl (Za rfl (Za rfl (Za rfl (Za rfl (Za rfl (Za rfl (Za rfl (Za rfl (Za rfl (Za rfl (Za rfl (Za rfl (Za rfl (Za rfl (Za rfl (Za rfl (Za rfl (Za rfl (Za rfl (Za rfl (Za rfl (Za rfl (Za rfl (Za rfl (Za rfl (Za rfl (Za rfl (Za rfl (Za rfl (Za rfl (Za rfl (Za rfl (Za rfl (Za rfl (Za rfl (Za rfl (Za rfl (Za rfl (Za rfl (Za rfl (Za rfl (Za rfl (Za rfl (Za rfl (Za rfl (Za rfl (Za rfl (Za rfl (Za rfl (Za rfl (Za rfl (Za rfl (Za rfl (Za rfl (Za rfl (Za rfl (Za rfl (Za rfl (Za rfl (Za rfl (Za rfl (Za rfl (Za rfl (Za rfl (Za rfl (Za rfl (Za rfl (Za rfl (Za rfl (Za rfl (Za rfl (Za rfl (Za rfl (Za rfl (Za rfl (Za rfl (Za rfl (Za rfl (Za rfl (Za rfl (Za rfl (Za rfl (Za rfl (Za rfl (Za rfl (Za rfl (Za rfl (Za rfl (Za rfl (Za rfl (Za rfl (Za rfl (Za rfl (Za rfl (Za rfl (Za rfl (Za rfl (Za rfl (Za rfl (Za rfl (Za rfl (Za rfl (Za rfl (Za rfl (Za rfl (Za rfl (Za rfl (Za rfl (Za rfl (Za rfl (Za rfl (Za rfl (Za rfl (Za rfl (Za rfl (Za rfl (Za rfl (Za rfl (Za rfl (Za rfl (Za rfl (Za rfl (Za rfl (Za rfl (Za rfl (Za rfl (Za rfl (Za rfl (Za rfl (Za rfl (Za rfl (Za rfl (Za rfl (Za rfl (Za rfl (Za rfl (Za rfl (Za rfl (Za rfl (Za rfl (Za rfl (Za rfl (Za rfl (Za rfl (Za rfl (Za rfl (Za rfl (Za rfl (Za rfl (Za rfl (Za rfl (Za rfl (Za rfl (Za rfl (Za rfl (Za rfl (Za rfl (Za rfl (Za rfl (Za rfl (Za rfl (Za rfl (Za rfl (Za rfl (Za rfl (Za rfl (Za rfl (Za rfl (Za rfl (Za rfl (Za rfl (Za rfl (Za rfl (Za rfl (Za rfl (Za rfl (Za rfl (Za rfl (Za rfl (Za rfl (Za rfl (Za rfl (Za rfl (Za rfl (Za rfl (Za rfl (Za rfl (Za rfl (Za rfl (Za rfl (Za rfl (Za rfl (Za rfl (Za rfl (Za rfl (Za rfl (Za rfl (Za rfl (Za rfl (Za rfl (Za rfl (Za rfl (Za rfl (Za rfl (Za rfl (Za rfl (Za rfl (Za rfl (Za rfl (Za rfl (Za rfl (Za rfl (Za rfl (Za rfl (Za rfl (Za rfl (Za rfl (Za rfl (Za rfl (Za rfl (Za rfl (Za rfl (Za rfl (Za rfl (Za rfl (Za rfl (Za rfl (Za rfl (Za rfl (Za rfl (Za rfl (Za rfl (Za rfl (Za rfl (Za rfl (Za rfl (Za rfl (Za rfl (Za rfl (Za rfl (Za rfl (Za rfl (Za rfl (Za rfl (Za rfl (Za rfl (Za rfl (Za rfl (Za rfl (Za rfl (Za rfl (Za rfl (Za rfl (Za rfl (Za rfl (Za rfl (Za rfl (Za rfl (Za rfl (Za rfl (Za rfl (Za rfl (Za rfl (Za rfl (Za rfl (Za rfl (Za rfl (Za rfl (Za rfl (Za rfl (Za rfl (Za rfl (Za rfl (Za rfl (Za rfl (Za rfl rfl))))))))))))))))))))))))))))))))))))))))))))))))))))))))))))))))))))))))))))))))))))))))))))))))))))))))))))))))))))))))))))))))))))))))))))))))))))))))))))))))))))))))))))))))))))))))))))))))))))))))))))))))))))))))))))))))))))))))))))))))))))))))))))))))))))))))))))))))))))))))))))))))))))))))))))))))))))))))))))))))))))))))))))))))))))))))))))))))))))))))))))))))))))))))))))))))))))))))))))))))))))))))))))))))))))))))))))))))))))) Zf) rfl (by decide) (by rfl) (fun _ => ⟨rr, ⟨rr, ⟨rr, ⟨rr, ⟨rr, ⟨rr, ⟨rr, ⟨rr, ⟨rr, trivial⟩⟩⟩⟩⟩⟩⟩⟩⟩) ⟨⟨rfl, ⟨[], by rfl⟩, by rfl⟩, ⟨⟨rfl, ⟨[], by rfl⟩, by rfl⟩, ⟨⟨rfl, ⟨[], by rfl⟩, by rfl⟩, ⟨⟨rfl, ⟨[], by rfl⟩, by rfl⟩, ⟨⟨rfl, ⟨[], by rfl⟩, by rfl⟩, ⟨⟨rfl, ⟨[], by rfl⟩, by rfl⟩, ⟨⟨rfl, ⟨[], by rfl⟩, by rfl⟩, ⟨⟨rfl, ⟨[], by rfl⟩, by rfl⟩, ⟨⟨rfl, ⟨[], by rfl⟩, by rfl⟩, ⟨⟨rfl, ⟨[], by rfl⟩, by rfl⟩, ⟨⟨rfl, ⟨[], by rfl⟩, by rfl⟩, ⟨⟨rfl, ⟨[], by rfl⟩, by rfl⟩, ⟨⟨rfl, ⟨[], by rfl⟩, by rfl⟩, trivial⟩⟩⟩⟩⟩⟩⟩⟩⟩⟩⟩⟩⟩

theorem ZlF  (N : Nat) : (Z5  N).Ok Tryz.prog ZG (.h3m5 : Zn) (Zae  N (.h3m5 : Zn)) := by
 show (Z5  N).Ok Tryz.prog ZG (.h3m5 : Zn) (Zf0  N)
 unfold Zf0
 exact Mach.ok_next (M := Z5  N) (cd := 1000000) (cm := 0) (y := (.h2m3 : Zn)) (fu := 4000) (orc := (Zj [] [] [] [] [])) (live := [0, 1, 2, 3, 4, 5, 6, 7, 8, 9, 10, 11, 12]) (tv := fun _ => [some (vs 0 0 1 1), some (vi (100 : Int)), some (vp 2 0), some (vp 3 0), some (vi (2 : Int)), some (vs 4 0 3 3), some (vi (3 : Int))]) (bl := [some (.cells [vs 1 0 109 109] 22), some cz0, some (.cells [vn, vn, vn] 78), some (.cells [vs 5 0 1 1, vs 6 0 1 1, vs 7 0 3 3] 78), some (.cells [vq, vq, vq] 3), some (.cells [vs 8 0 109 109] 22), some cz8, some cz2, some cz0, some (.cells [vi (1 : Int), vi (1 : Int), vi (1 : Int), vi (1 : Int)] 36), some cz4, some (.cells [vi (2 : Int), vq, vi (1 : Int), vi (5 : Int)] 36), some ZdK]) (ob := []) rfl (show 2 ∈ Zl (Zbu 3) from by decide +kernel) (fun gv => by kernel_rfl) Zf rfl (by decide) (by rfl) (fun _ => ⟨rr, ⟨rr, ⟨rr, ⟨rr, ⟨rr, ⟨rr, ⟨rr, trivial⟩⟩⟩⟩⟩⟩⟩) ⟨⟨rfl, ⟨[], by rfl⟩, by rfl⟩, ⟨⟨rfl, ⟨[], by rfl⟩, by rfl⟩, ⟨⟨rfl, ⟨[], by rfl⟩, by rfl⟩, ⟨⟨rfl, ⟨[], by rfl⟩, by rfl⟩, ⟨⟨rfl, ⟨[], by rfl⟩, by rfl⟩, ⟨⟨rfl, ⟨[], by rfl⟩, by rfl⟩, ⟨⟨rfl, ⟨[], by rfl⟩, by rfl⟩, ⟨⟨rfl, ⟨[], by rfl⟩, by rfl⟩, ⟨⟨rfl, ⟨[], by rfl⟩, by rfl⟩, ⟨⟨rfl, ⟨[], by rfl⟩, by rfl⟩, ⟨⟨rfl, ⟨[], by rfl⟩, by rfl⟩, ⟨⟨rfl, ⟨[], by rfl⟩, by rfl⟩, ⟨⟨rfl, ⟨[], by rfl⟩, by rfl⟩, trivial⟩⟩⟩⟩⟩⟩⟩⟩⟩⟩⟩⟩⟩

theorem ZlG  (N : Nat) : (Z5  N).Ok Tryz.prog ZG (.h3m6 : Zn) (Zae  N (.h3m6 : Zn)) := by
 show (Z5  N).Ok Tryz.prog ZG (.h3m6 : Zn) (Zf1  N)
 unfold Zf1
 exact Mach.ok_next (M := Z5  N) (cd := 1000000) (cm := 0) (y := (.h3m7 : Zn)) (fu := 4000) (orc := (Zj [] [] [] [] [])) (live := [0, 1, 2, 3, 4, 5, 6, 7, 8, 9, 10, 11, 12]) (tv := fun _ => [some (vs 0 0 1 1), some (vi (100 : Int)), some (vp 2 0), some (vp 3 0), some (vi (2 : Int)), some (vs 4 0 3 3), some (vi (3 : Int)), some (vf), some (vi (1 : Int))]) (bl := [some (.cells [vs 1 0 109 109] 22), some cz0, some (.cells [vn, vn, vn] 78), some (.cells [vs 5 0 1 1, vs 6 0 1 1, vs 7 0 3 3] 78), some (.cells [vq, vq, vq] 3), some (.cells [vs 8 0 109 109] 22), some cz8, some cz2, some cz0, some (.cells [vi (1 : Int), vi (1 : Int), vi (1 : Int), vi (1 : Int)] 36), some cz4, some (.cells [vi (2 : Int), vq, vi (1 : Int), vi (5 : Int)] 36), some ZdK]) (ob := []) rfl (show 3 ∈ Zl (Zbu 3) from by decide +kernel) (fun gv => by kernel_rfl) Zf rfl (by decide) (by rfl) (fun _ => ⟨rr, ⟨rr, ⟨rr, ⟨rr, ⟨rr, ⟨rr, ⟨rr, ⟨rr, ⟨rr, trivial⟩⟩⟩⟩⟩⟩⟩⟩⟩) ⟨⟨rfl, ⟨[], by rfl⟩, by rfl⟩, ⟨⟨rfl, ⟨[], by rfl⟩, by rfl⟩, ⟨⟨rfl, ⟨[], by rfl⟩, by rfl⟩, ⟨⟨rfl, ⟨[], by rfl⟩, by rfl⟩, ⟨⟨rfl, ⟨[], by rfl⟩, by rfl⟩, ⟨⟨rfl, ⟨[], by rfl⟩, by rfl⟩, ⟨⟨rfl, ⟨[], by rfl⟩, by rfl⟩, ⟨⟨rfl, ⟨[], by rfl⟩, by rfl⟩, ⟨⟨rfl, ⟨[], by rfl⟩, by rfl⟩, ⟨⟨rfl, ⟨[], by rfl⟩, by rfl⟩, ⟨⟨rfl, ⟨[], by rfl⟩, by rfl⟩, ⟨⟨rfl, ⟨[], by rfl⟩, by rfl⟩, ⟨⟨rfl, ⟨[], by rfl⟩, by rfl⟩, trivial⟩⟩⟩⟩⟩⟩⟩⟩⟩⟩⟩⟩⟩

theorem ZlH  (N : Nat) : (Z5  N).Ok Tryz.prog ZG (.h3m7 : Zn) (Zae  N (.h3m7 : Zn)) := by
 show (Z5  N).Ok Tryz.prog ZG (.h3m7 : Zn) (Zf2  N)
 unfold Zf2
 exact Mach.ok_fin (M := Z5  N) (cd := 1000000) (cm := 0) (r := (.r0 : ZY)) (fu := 4000) (orc := (Zj [] [] [] [] [])) (live := [0, 1, 5, 47, 7, 4, 8, 29, 10, 11, 12]) (u := Value.tuple #[Value.agg #[vs 5 0 1 1, vs 47 0 1 1, vs 7 0 3 3], vs 4 0 3 3, vT]) (bl := [some (.cells [vs 1 0 109 109] 22), some cz0, some (.cells [vs 8 0 109 109] 22), some (.cells [vi (2 : Int), vq, vi (108 : Int), vi (2 : Int), vi (1048577 : Int), vi (1 : Int), vi (5 : Int), vi (2 : Int), vi (1048595 : Int), vi (1 : Int), vi (5 : Int), vi (1 : Int), vi (1 : Int), vi (2 : Int), vi (1048594 : Int), vi (2 : Int), vi (1048595 : Int), vi (1 : Int), vq, vs 29 0 3 3] 87), some cz2, some (.cells [vq, vq, vq] 3), some cz0, some Zpb, some cz4, some (.cells [vi (2 : Int), vq, vi (1 : Int), vi (5 : Int)] 36), some ZdK]) (ob := []) (fun gv => by kernel_rfl) Zf rfl (by decide) (by rfl) rr ⟨⟨rfl, ⟨[], by rfl⟩, by rfl⟩, ⟨⟨rfl, ⟨[], by rfl⟩, by rfl⟩, ⟨⟨rfl, ⟨[], by rfl⟩, by rfl⟩, ⟨⟨rfl, ⟨[], by rfl⟩, by rfl⟩, ⟨⟨rfl, ⟨[], by rfl⟩, by rfl⟩, ⟨⟨rfl, ⟨[], by rfl⟩, by rfl⟩, ⟨⟨rfl, ⟨[], by rfl⟩, by rfl⟩, ⟨⟨rfl, ⟨[], by rfl⟩, by rfl⟩, ⟨⟨rfl, ⟨[], by rfl⟩, by rfl⟩, ⟨⟨rfl, ⟨[], by rfl⟩, by rfl⟩, ⟨⟨rfl, ⟨[], by rfl⟩, by rfl⟩, trivial⟩⟩⟩⟩⟩⟩⟩⟩⟩⟩⟩

theorem ZnS  (N : Nat) : (Z5  N).Enter Tryz.prog ZG #[vs 0 0 1 1, vn, vi (100 : Int)] (ZgT  N) := by
 unfold ZgT
 refine Mach.en_bind (fun z0 c0 => ?_)
 cases z0 with
 | r0 =>
  exact Mach.en_head (bK := ZN 1) (M := Z5  N) (cd := 1000000) (cm := 0) (y := (.h1m0 : Zn)) (fu := 4000) (orc := (Zj [] [] [] [] [(1, (Zm4    1 5))])) (live := [0, 1, 2, 79, 8, 20, 78, 6, 73]) (tv := [some (vs 0 0 1 1), some (vn), some (vi (100 : Int)), some (vp 2 0), some (vp 79 0), some (vq), some (vn), some (vq)]) (bl := [some (.cells [vs 1 0 109 109] 22), some cz0, some (.cells [vn, vn, vn] 78), some (.cells [vs 8 0 1 1, vs 20 0 1 1, vs 78 0 1 1] 78), some (.cells [vs 6 0 109 109] 22), some ZmP, some (.cells [vi (2 : Int), vi (1048577 : Int), vi (1 : Int), vi (16 : Int), vi (255 : Int), vi (2 : Int), vq, vs 73 0 16 16] 42), some cz0, some cz6]) (ob := [(dP (Zhu #[vs 1 0 109 109]    1 5), true), (dS [vi (1 : Int), vi (1 : Int), vi (5 : Int), vq, vi (10 : Int), vq, vq, vq, vi (15 : Int), vq, vq, vq, vi (13 : Int), vi (2 : Int), vq, vi (2 : Int), vi (9 : Int), vi (2 : Int), vi (27 : Int), vq, vi (13 : Int), vi (3 : Int), vi (2 : Int), vi (1 : Int), vi (6 : Int), vi (4 : Int), vi (3 : Int), vi (1 : Int), vi (9 : Int), vi (4 : Int), vi (24 : Int), vq, vi (13 : Int), vi (5 : Int), vi (2 : Int), vq, vi (9 : Int), vi (5 : Int), vi (18 : Int), vq, vi (13 : Int), vi (3 : Int), vi (5 : Int), vi (1 : Int), vi (6 : Int), vi (4 : Int), vi (3 : Int), vi (1 : Int), vi (9 : Int), vi (4 : Int), vi (15 : Int), vq, vi (3 : Int), vi (2 : Int), vi (5 : Int), vq, vi (8 : Int), vi (8 : Int), vq, vq, vi (7 : Int), vi (4 : Int), vi (3 : Int), vi (1 : Int), vi (9 : Int), vi (4 : Int), vi (18 : Int), vq, vi (8 : Int), vi (33 : Int), vq, vq, vi (11 : Int), vi (6 : Int), vi (2 : Int), vi (1 : Int), vi (14 : Int), vi (6 : Int), vi (1 : Int), vi (1 : Int), vi (14 : Int), vi (6 : Int), vq, vi (5 : Int), vi (14 : Int), vi (2 : Int), vq, vi (6 : Int), vi (1 : Int), vi (7 : Int), vi (1 : Int), vq, vi (8 : Int), vi (34 : Int), vq, vq, vi (7 : Int), vi (4 : Int), vi (3 : Int), vi (1 : Int), vi (9 : Int), vi (4 : Int), vi (27 : Int), vq, vi (8 : Int), vi (33 : Int), vq, vq, vi (11 : Int), vi (6 : Int), vi (2 : Int), vi (1 : Int), vi (14 : Int), vi (6 : Int), vi (1 : Int), vi (1 : Int), vi (14 : Int), vi (6 : Int), vq, vi (2 : Int), vi (14 : Int), vq, vi (2 : Int), vi (6 : Int), vi (1 : Int), vi (7 : Int), vi (1 : Int), vq, vi (8 : Int), vi (34 : Int), vq, vq, vi (1 : Int), vi (7 : Int), vq, vq, vi (17 : Int), vq, vq, vq, vi (19 : Int), vi (7 : Int), vq, vq, vi (1 : Int), vi (1 : Int), vi (3 : Int), vq, vi (10 : Int), vq, vq, vq, vi (15 : Int), vq, vq, vq, vi (13 : Int), vi (2 : Int), vq, vi (2 : Int), vi (9 : Int), vi (2 : Int), vi (63 : Int), vq, vi (13 : Int), vi (3 : Int), vi (2 : Int), vi (1 : Int), vi (6 : Int), vi (4 : Int), vi (3 : Int), vi (1 : Int), vi (9 : Int), vi (4 : Int), vi (60 : Int), vq, vi (13 : Int), vi (5 : Int), vi (2 : Int), vq, vi (9 : Int), vi (5 : Int), vi (54 : Int), vq, vi (13 : Int), vi (3 : Int), vi (5 : Int), vi (1 : Int), vi (6 : Int), vi (4 : Int), vi (3 : Int), vi (1 : Int), vi (9 : Int), vi (4 : Int), vi (51 : Int), vq, vi (3 : Int), vi (2 : Int), vi (5 : Int), vq, vi (8 : Int), vi (44 : Int), vq, vq, vi (7 : Int), vi (4 : Int), vi (3 : Int), vi (1 : Int), vi (9 : Int), vi (4 : Int), vi (54 : Int), vq, vi (8 : Int), vi (69 : Int), vq, vq, vi (11 : Int), vi (6 : Int), vi (2 : Int), vi (1 : Int), vi (14 : Int), vi (6 : Int), vi (1 : Int), vi (1 : Int), vi (14 : Int), vi (6 : Int), vq, vi (5 : Int), vi (14 : Int), vi (2 : Int), vq, vi (6 : Int), vi (1 : Int), vi (7 : Int), vi (1 : Int), vq, vi (8 : Int), vi (70 : Int), vq, vq, vi (7 : Int), vi (4 : Int), vi (3 : Int), vi (1 : Int), vi (9 : Int), vi (4 : Int), vi (63 : Int), vq, vi (8 : Int), vi (69 : Int), vq, vq, vi (11 : Int), vi (6 : Int), vi (2 : Int), vi (1 : Int), vi (14 : Int), vi (6 : Int), vi (1 : Int), vi (1 : Int), vi (14 : Int), vi (6 : Int), vq, vi (2 : Int), vi (14 : Int), vq, vi (2 : Int), vi (6 : Int), vi (1 : Int), vi (7 : Int), vi (1 : Int), vq, vi (8 : Int), vi (70 : Int), vq, vq, vi (1 : Int), vi (7 : Int), vq, vq, vi (17 : Int), vq, vq, vq, vi (19 : Int), vi (7 : Int), vq, vq, vi (1 : Int), vi (1 : Int), vi (5 : Int), vq, vi (10 : Int), vq, vq, vq, vi (15 : Int), vq, vq, vq, vi (13 : Int), vi (2 : Int), vq, vi (2 : Int), vi (9 : Int), vi (2 : Int), vi (99 : Int), vq, vi (13 : Int), vi (3 : Int), vi (2 : Int), vi (1 : Int), vi (6 : Int), vi (4 : Int), vi (3 : Int), vi (1 : Int), vi (9 : Int), vi (4 : Int), vi (96 : Int), vq, vi (13 : Int), vi (5 : Int), vi (2 : Int), vq, vi (9 : Int), vi (5 : Int), vi (90 : Int), vq, vi (13 : Int), vi (3 : Int), vi (5 : Int), vi (1 : Int), vi (6 : Int), vi (4 : Int), vi (3 : Int), vi (1 : Int), vi (9 : Int), vi (4 : Int), vi (87 : Int), vq, vi (3 : Int), vi (2 : Int), vi (5 : Int), vq, vi (8 : Int), vi (80 : Int), vq, vq, vi (7 : Int), vi (4 : Int), vi (3 : Int), vi (1 : Int), vi (9 : Int), vi (4 : Int), vi (90 : Int), vq, vi (8 : Int), vi (105 : Int), vq, vq, vi (11 : Int), vi (6 : Int), vi (2 : Int), vi (1 : Int), vi (14 : Int), vi (6 : Int), vi (1 : Int), vi (1 : Int), vi (14 : Int), vi (6 : Int), vq, vi (5 : Int), vi (14 : Int), vi (2 : Int), vq, vi (6 : Int), vi (1 : Int), vi (7 : Int), vi (1 : Int), vq, vi (8 : Int), vi (106 : Int), vq, vq, vi (7 : Int), vi (4 : Int), vi (3 : Int), vi (1 : Int), vi (9 : Int), vi (4 : Int), vi (99 : Int), vq, vi (8 : Int), vi (105 : Int), vq, vq, vi (11 : Int), vi (6 : Int), vi (2 : Int), vi (1 : Int), vi (14 : Int), vi (6 : Int), vi (1 : Int), vi (1 : Int), vi (14 : Int), vi (6 : Int), vq, vi (2 : Int), vi (14 : Int), vq, vi (2 : Int), vi (6 : Int), vi (1 : Int), vi (7 : Int), vi (1 : Int), vq, vi (8 : Int), vi (106 : Int), vq, vq, vi (1 : Int), vi (7 : Int), vq, vq, vi (17 : Int), vq, vq, vq, vi (19 : Int), vi (7 : Int), vq, vq, vi (20 : Int), vq, vq, vq], true)]) rfl rfl (show Zl (ZN 1).2 = [] from rfl) (by kernel_rfl) (Zd (Zk (Zm5 #[vs 1 0 109 109]    N c0 1 5 rfl (by decide) (by decide))) <| Zd (Zk (Za rfl (Za rfl (Za rfl (Za rfl (Za rfl (Za rfl (Za rfl (Za rfl (Za rfl (Za rfl (Za rfl (Za rfl (Za rfl (Za rfl (Za rfl (Za rfl (Za rfl (Za rfl (Za rfl (Za rfl (Za rfl (Za rfl (Za rfl (Za rfl (Za rfl (Za rfl (Za rfl (Za rfl (Za rfl (Za rfl (Za rfl (Za rfl (Za rfl (Za rfl (Za rfl (Za rfl (Za rfl (Za rfl (Za rfl (Za rfl (Za rfl (Za rfl (Za rfl (Za rfl (Za rfl (Za rfl (Za rfl (Za rfl (Za rfl (Za rfl (Za rfl (Za rfl (Za rfl (Za rfl (Za rfl (Za rfl (Za rfl (Za rfl (Za rfl (Za rfl (Za rfl (Za rfl (Za rfl (Za rfl (Za rfl (Za rfl (Za rfl (Za rfl (Za rfl (Za rfl (Za rfl (Za rfl (Za rfl (Za rfl (Za rfl (Za rfl (Za rfl (Za rfl (Za rfl (Za rfl (Za rfl (Za rfl (Za rfl (Za rfl (Za rfl (Za rfl (Za rfl (Za rfl (Za rfl (Za rfl (Za rfl (Za rfl (Za rfl (Za rfl (Za rfl (Za rfl (Za rfl (Za rfl (Za rfl (Za rfl (Za rfl (Za rfl (Za rfl (Za rfl (Za rfl (Za rfl (Za rfl (Za rfl (Za rfl (Za rfl (Za rfl (Za rfl (Za rfl (Za rfl (Za rfl (Za rfl (Za rfl (Za rfl (Za rfl (Za rfl (Za rfl (Za rfl (Za rfl (Za rfl (Za rfl (Za rfl (Za rfl (Za rfl (Za rfl (Za rfl (Za rfl (Za rfl (Za rfl (Za rfl (Za rfl (Za rfl (Za rfl (Za rfl (Za rfl (Za rfl (Za rfl (Za rfl (Za rfl (Za rfl (Za rfl (Za rfl (Za rfl (Za rfl (Za rfl (Za rfl (Za rfl (Za rfl (Za rfl (Za rfl (Za rfl (Za rfl (Za rfl (Za rfl (Za rfl (Za rfl (Za rfl (Za rfl (Za rfl (Za rfl (Za rfl (Za rfl (Za rfl (Za rfl (Za rfl (Za rfl (Za rfl (Za rfl (Za rfl (Za rfl (Za rfl (Za rfl (Za rfl (Za rfl (Za rfl (Za rfl (Za rfl (Za rfl (Za rfl (Za rfl (Za rfl (Za rfl (Za rfl (Za rfl (Za rfl (Za rfl (Za rfl (Za rfl (Za rfl (Za rfl (Za rfl (Za rfl (Za rfl (Za rfl (Za rfl (Za rfl (Za rfl (Za rfl (Za rfl (Za rfl (Za rfl (Za rfl (Za rfl (Za rfl (Za rfl (Za rfl (Za rfl (Za rfl (Za rfl (Za rfl (Za rfl (Za rfl (Za rfl (Za rfl (Za rfl (Za rfl (Za rfl (Za rfl (Za rfl (Za rfl (Za rfl (Za rfl (Za rfl (Za rfl (Za rfl (Za rfl (Za rfl (Za rfl (Za rfl (Za rfl (Za rfl (Za rfl (Za rfl (Za rfl (Za rfl (Za rfl (Za rfl (Za rfl (Za rfl (Za rfl (Za rfl (Za rfl (Za rfl (Za rfl (Za rfl (Za rfl (Za rfl (Za rfl (Za rfl (Za rfl (Za rfl (Za rfl (Za rfl (Za rfl (Za rfl (Za rfl (Za rfl (Za rfl (Za rfl (Za rfl (Za rfl (Za rfl (Za rfl (Za rfl (Za rfl (Za rfl (Za rfl (Za rfl (Za rfl (Za rfl (Za rfl (Za rfl (Za rfl (Za rfl (Za rfl (Za rfl (Za rfl (Za rfl (Za rfl (Za rfl (Za rfl (Za rfl (Za rfl (Za rfl (Za rfl (Za rfl (Za rfl (Za rfl (Za rfl (Za rfl (Za rfl (Za rfl (Za rfl (Za rfl (Za rfl (Za rfl (Za rfl (Za rfl (Za rfl (Za rfl (Za rfl (Za rfl (Za rfl (Za rfl (Za rfl (Za rfl (Za rfl (Za rfl (Za rfl (Za rfl (Za rfl (Za rfl (Za rfl (Za rfl (Za rfl (Za rfl (Za rfl (Za rfl (Za rfl (Za rfl (Za rfl (Za rfl (Za rfl (Za rfl (Za rfl (Za rfl (Za rfl (Za rfl (Za rfl (Za rfl (Za rfl (Za rfl (Za rfl (Za rfl (Za rfl (Za rfl (Za rfl (Za rfl (Za rfl (Za rfl (Za rfl (Za rfl (Za rfl (Za rfl (Za rfl (Za rfl (Za rfl (Za rfl (Za rfl (Za rfl (Za rfl (Za rfl (Za rfl (Za rfl (Za rfl (Za rfl (Za rfl (Za rfl (Za rfl (Za rfl (Za rfl (Za rfl (Za rfl (Za rfl (Za rfl (Za rfl (Za rfl (Za rfl (Za rfl (Za rfl (Za rfl (Za rfl (Za rfl (Za rfl (Za rfl (Za rfl (Za rfl (Za rfl (Za rfl (Za rfl (Za rfl (Za rfl (Za rfl (Za rfl (Za rfl (Za rfl (Za rfl (Za rfl (Za rfl (Za rfl (Za rfl (Za rfl (Za rfl (Za rfl (Za rfl (Za rfl (Za rfl (Za rfl (Za rfl (Za rfl (Za rfl (Za rfl (Za rfl (Za rfl (Za rfl (Za rfl (Za rfl (Za rfl (Za rfl (Za rfl (Za rfl (Za rfl (Za rfl (Za rfl (Za rfl (Za rfl (Za rfl (Za rfl (Za rfl (Za rfl (Za rfl (Za rfl (Za rfl (Za rfl (Za rfl (Za rfl (Za rfl (Za rfl (Za rfl (Za rfl (Za rfl (Za rfl rfl))))))))))))))))))))))))))))))))))))))))))))))))))))))))))))))))))))))))))))))))))))))))))))))))))))))))))))))))))))))))))))))))))))))))))))))))))))))))))))))))))))))))))))))))))))))))))))))))))))))))))))))))))))))))))))))))))))))))))))))))))))))))))))))))))))))))))))))))))))))))))))))))))))))))))))))))))))))))))))))))))))))))))))))))))))))))))))))))))))))))))))))))))))))))))))))))))))))))))))))))))))))))))))))))))))))))))))))))))))) Zf) rfl (by decide) (by rfl) ⟨rr, ⟨rr, ⟨rr, ⟨rr, ⟨rr, ⟨rr, ⟨rr, ⟨rr, trivial⟩⟩⟩⟩⟩⟩⟩⟩ ⟨⟨rfl, ⟨[], by rfl⟩, by rfl⟩, ⟨⟨rfl, ⟨[], by rfl⟩, by rfl⟩, ⟨⟨rfl, ⟨[], by rfl⟩, by rfl⟩, ⟨⟨rfl, ⟨[], by rfl⟩, by rfl⟩, ⟨⟨rfl, ⟨[], by rfl⟩, by rfl⟩, ⟨⟨rfl, ⟨[], by rfl⟩, by rfl⟩, ⟨⟨rfl, ⟨[], by rfl⟩, by rfl⟩, ⟨⟨rfl, ⟨[], by rfl⟩, by rfl⟩, ⟨⟨rfl, ⟨[], by rfl⟩, by rfl⟩, trivial⟩⟩⟩⟩⟩⟩⟩⟩⟩

theorem Zm8  (N : Nat) (r : ZY) (h : ZiQ  N = some r) : LSpec Tryz.prog 33 #[vs 0 0 1 1, vn, vi (100 : Int)] [.cells [vs 1 0 109 109] 22, cz0] (Zli  r) (Zk2  r) :=
 Mach.spec Zne (Z5  N) Tryz.func33 (by kernel_rfl) (by kernel_rfl) (fun x => by cases x <;> exact Zan _ rfl) (fun r => by cases r <;> exact Zan _ rfl) (fun x => by
  cases x with
  | h1m0 => exact fun _ => (show ¬ (1 ∈ Zl (ZN 1).2) from by decide +kernel)
  | h2m0 => exact fun _ => (show ¬ (2 ∈ Zl (ZN 2).2) from by decide +kernel)
  | h2m1 => exact fun _ => (show ¬ (2 ∈ Zl (ZN 2).2) from by decide +kernel)
  | h2m2 => exact fun _ => (show ¬ (2 ∈ Zl (ZN 2).2) from by decide +kernel)
  | h2m3 => exact fun _ => (show ¬ (2 ∈ Zl (ZN 2).2) from by decide +kernel)
  | h3m0 => exact fun _ => (show ¬ (3 ∈ Zl (ZN 3).2) from by decide +kernel)
  | h3m1 => exact fun _ => (show ¬ (3 ∈ Zl (ZN 3).2) from by decide +kernel)
  | h3m2 => exact fun _ => (show ¬ (3 ∈ Zl (ZN 3).2) from by decide +kernel)
  | h3m3 => exact fun _ => (show ¬ (3 ∈ Zl (ZN 3).2) from by decide +kernel)
  | h3m4 => exact fun _ => (show ¬ (3 ∈ Zl (ZN 3).2) from by decide +kernel)
  | h3m5 => exact fun _ => (show ¬ (3 ∈ Zl (ZN 3).2) from by decide +kernel)
  | h3m6 => exact fun _ => (show ¬ (3 ∈ Zl (ZN 3).2) from by decide +kernel)
  | h3m7 => exact fun _ => (show ¬ (3 ∈ Zl (ZN 3).2) from by decide +kernel)
  ) (fun x => (show (Z5  N).Ok Tryz.prog ZG x (Zae  N x) from by
  cases x with
  | h1m0 => exact Zl5  N
  | h2m0 => exact Zl6  N
  | h2m1 => exact Zl7  N
  | h2m2 => exact Zl8  N
  | h2m3 => exact Zl9  N
  | h3m0 => exact ZlA  N
  | h3m1 => exact ZlB  N
  | h3m2 => exact ZlC  N
  | h3m3 => exact ZlD  N
  | h3m4 => exact ZlE  N
  | h3m5 => exact ZlF  N
  | h3m6 => exact ZlG  N
  | h3m7 => exact ZlH  N
  )) (ZnS  N) (n := N) h

noncomputable def Zpj  (k0 k1 n : Nat) : ZaF := .call [(k0, .cells [vs k1 0 109 109] 22), (k1, cz0)] (Value.tuple #[Value.agg #[vs n 0 1 1, vs (n + 1) 0 1 1, vs (n + 2) 0 3 3], vs (n + 3) 0 3 3, vT]) [(n, some (.cells [vs (n + 4) 0 109 109] 22)), ((n + 1), some (.cells [vi (2 : Int), vq, vi (108 : Int), vi (2 : Int), vi (1048577 : Int), vi (1 : Int), vi (5 : Int), vi (2 : Int), vi (1048595 : Int), vi (1 : Int), vi (5 : Int), vi (1 : Int), vi (1 : Int), vi (2 : Int), vi (1048594 : Int), vi (2 : Int), vi (1048595 : Int), vi (1 : Int), vq, vs (n + 5) 0 3 3] 87)), ((n + 2), some (.cells [vi (2 : Int), vi (1048577 : Int), vi (1 : Int), vi (16 : Int), vi (255 : Int), vi (2 : Int), vq, vs (n + 6) 0 16 16, vi (2 : Int), vi (1048594 : Int), vi (1 : Int), vi (2 : Int), vi (1 : Int), vi (2 : Int), vq, vs (n + 7) 0 2 2, vi (2 : Int), vi (1048595 : Int), vi (1 : Int), vi (2 : Int), vi (1 : Int), vi (2 : Int), vq, vs (n + 8) 0 2 2] 42)), ((n + 3), some (.cells [vq, vq, vq] 3)), ((n + 4), some cz0), ((n + 5), some Zpb), ((n + 6), some cz4), ((n + 7), some (.cells [vi (2 : Int), vq, vi (1 : Int), vi (5 : Int)] 36)), ((n + 8), some ZdK)] 9
def Zk4 (A : Array Value)  (k0 k1 n : Nat) : Prop := ZH Tryz.prog 33 A [(k0, .cells [vs k1 0 109 109] 22), (k1, cz0)] (Value.tuple #[Value.agg #[vs n 0 1 1, vs (n + 1) 0 1 1, vs (n + 2) 0 3 3], vs (n + 3) 0 3 3, vT]) [(n, some (.cells [vs (n + 4) 0 109 109] 22)), ((n + 1), some (.cells [vi (2 : Int), vq, vi (108 : Int), vi (2 : Int), vi (1048577 : Int), vi (1 : Int), vi (5 : Int), vi (2 : Int), vi (1048595 : Int), vi (1 : Int), vi (5 : Int), vi (1 : Int), vi (1 : Int), vi (2 : Int), vi (1048594 : Int), vi (2 : Int), vi (1048595 : Int), vi (1 : Int), vq, vs (n + 5) 0 3 3] 87)), ((n + 2), some (.cells [vi (2 : Int), vi (1048577 : Int), vi (1 : Int), vi (16 : Int), vi (255 : Int), vi (2 : Int), vq, vs (n + 6) 0 16 16, vi (2 : Int), vi (1048594 : Int), vi (1 : Int), vi (2 : Int), vi (1 : Int), vi (2 : Int), vq, vs (n + 7) 0 2 2, vi (2 : Int), vi (1048595 : Int), vi (1 : Int), vi (2 : Int), vi (1 : Int), vi (2 : Int), vq, vs (n + 8) 0 2 2] 42)), ((n + 3), some (.cells [vq, vq, vq] 3)), ((n + 4), some cz0), ((n + 5), some Zpb), ((n + 6), some cz4), ((n + 7), some (.cells [vi (2 : Int), vq, vi (1 : Int), vi (5 : Int)] 36)), ((n + 8), some ZdK)] n 9

end Ev
end Go.Proofs.YtnfmhpnogfppiaaGreat
/- Calls do what the plain functions say. -/
namespace Go.Proofs.YtnfmhpnogfppiaaGreat
open Go.RowKit
namespace Ev
set_option linter.unusedVariables false
set_option maxRecDepth 100000
theorem Zpk (A : Array Value)  (N : Nat) (h : ZiQ  N = some (.r0)) (k0 k1 n : Nat) (hA : A = #[vs k0 0 1 1, vn, vi (100 : Int)]) (hnd : ([k0, k1] : List Nat).Nodup) (hlt : ∀ k ∈ ([k0, k1] : List Nat), k < n) : Zk4 A  k0 k1 n :=
 ZX hA (LSpec.callL (show LSpec Tryz.prog 33 #[vs 0 0 1 1, vn, vi (100 : Int)] [.cells [vs 1 0 109 109] 22, cz0] (Value.tuple #[Value.agg #[vs 2 0 1 1, vs 3 0 1 1, vs 4 0 3 3], vs 5 0 3 3, vT]) [some (.cells [vs 1 0 109 109] 22), some cz0, some (.cells [vs 6 0 109 109] 22), some cz7, some cz3, some (.cells [vq, vq, vq] 3), some cz0, some Zpb, some cz4, some (.cells [vi (2 : Int), vq, vi (1 : Int), vi (5 : Int)] 36), some ZdK] from Zm8  N _ h) [k0, k1] n [2, 3, 4, 5, 6, 7, 8, 9, 10] rfl hnd hlt (show 2 ≤ 11 from by decide) (show ∀ j ∈ ([2, 3, 4, 5, 6, 7, 8, 9, 10] : List Nat), j < 11 from by decide) (by rfl) ⟨rfl, ⟨rfl, trivial⟩⟩ (by rfl) ⟨rfl, ⟨rfl, ⟨rfl, ⟨rfl, ⟨rfl, ⟨rfl, ⟨rfl, ⟨rfl, ⟨rfl, ⟨rfl, ⟨rfl, trivial⟩⟩⟩⟩⟩⟩⟩⟩⟩⟩⟩ ⟨.inr rfl, ⟨.inr rfl, ⟨(by decide), ⟨(by decide), ⟨(by decide), ⟨(by decide), ⟨(by decide), ⟨(by decide), ⟨(by decide), ⟨(by decide), ⟨(by decide), trivial⟩⟩⟩⟩⟩⟩⟩⟩⟩⟩⟩ rfl rfl rfl (Za (ZS rfl rfl) (Za (ZS rfl rfl) rfl)) (Za (ZS rfl (Zbk rfl)) (Za (ZS rfl (Zbk rfl)) (Za (ZS rfl (Zbk rfl)) (Za (ZS rfl (Zbk rfl)) (Za (ZS rfl (Zbk rfl)) (Za (ZS rfl (Zbk rfl)) (Za (ZS rfl (Zbk rfl)) (Za (ZS rfl (Zbk rfl)) (Za (ZS rfl (Zbk rfl)) rfl))))))))))

noncomputable def Zk5  : ZdA → Value
 | .r0 => vT
noncomputable def Zj5  : ZdA → List (Option AObj)
 | .r0 => []

noncomputable def Zhv : FuncId → Option Ext := fun f => bif Nat.beq f 5 then none else Zs f
theorem Zm9 : Fit Tryz.prog Zhv := ZoX ZaP _

theorem Znf  (N : Nat) : Fx Tryz.prog Zhv Tryz.f11 [] #[] (Zk5 ) (Zj5 ) (Zba  N) := by
 unfold Zba
 refine ZdR (fun z0 c0 => ?_)
 cases z0 with
 | r0 =>
  exact Zt (r := (.r0 : ZdA)) (fu := 4000) (orc := (Zj [] [] [] [] [(358, (Zpj    456 455 457))])) (live := []) (u := vT) (bl := []) (ob := [(dP (Zk4 #[vs 456 0 1 1, vn, vi (100 : Int)]    456 455 457), true), (dS [vs 455 0 109 109], true), (dS [vi (1 : Int), vi (1 : Int), vi (5 : Int), vq, vi (10 : Int), vq, vq, vq, vi (15 : Int), vq, vq, vq, vi (13 : Int), vi (2 : Int), vq, vi (2 : Int), vi (9 : Int), vi (2 : Int), vi (27 : Int), vq, vi (13 : Int), vi (3 : Int), vi (2 : Int), vi (1 : Int), vi (6 : Int), vi (4 : Int), vi (3 : Int), vi (1 : Int), vi (9 : Int), vi (4 : Int), vi (24 : Int), vq, vi (13 : Int), vi (5 : Int), vi (2 : Int), vq, vi (9 : Int), vi (5 : Int), vi (18 : Int), vq, vi (13 : Int), vi (3 : Int), vi (5 : Int), vi (1 : Int), vi (6 : Int), vi (4 : Int), vi (3 : Int), vi (1 : Int), vi (9 : Int), vi (4 : Int), vi (15 : Int), vq, vi (3 : Int), vi (2 : Int), vi (5 : Int), vq, vi (8 : Int), vi (8 : Int), vq, vq, vi (7 : Int), vi (4 : Int), vi (3 : Int), vi (1 : Int), vi (9 : Int), vi (4 : Int), vi (18 : Int), vq, vi (8 : Int), vi (33 : Int), vq, vq, vi (11 : Int), vi (6 : Int), vi (2 : Int), vi (1 : Int), vi (14 : Int), vi (6 : Int), vi (1 : Int), vi (1 : Int), vi (14 : Int), vi (6 : Int), vq, vi (5 : Int), vi (14 : Int), vi (2 : Int), vq, vi (6 : Int), vi (1 : Int), vi (7 : Int), vi (1 : Int), vq, vi (8 : Int), vi (34 : Int), vq, vq, vi (7 : Int), vi (4 : Int), vi (3 : Int), vi (1 : Int), vi (9 : Int), vi (4 : Int), vi (27 : Int), vq, vi (8 : Int), vi (33 : Int), vq, vq, vi (11 : Int), vi (6 : Int), vi (2 : Int), vi (1 : Int), vi (14 : Int), vi (6 : Int), vi (1 : Int), vi (1 : Int), vi (14 : Int), vi (6 : Int), vq, vi (2 : Int), vi (14 : Int), vq, vi (2 : Int), vi (6 : Int), vi (1 : Int), vi (7 : Int), vi (1 : Int), vq, vi (8 : Int), vi (34 : Int), vq, vq, vi (1 : Int), vi (7 : Int), vq, vq, vi (17 : Int), vq, vq, vq, vi (19 : Int), vi (7 : Int), vq, vq, vi (1 : Int), vi (1 : Int), vi (3 : Int), vq, vi (10 : Int), vq, vq, vq, vi (15 : Int), vq, vq, vq, vi (13 : Int), vi (2 : Int), vq, vi (2 : Int), vi (9 : Int), vi (2 : Int), vi (63 : Int), vq, vi (13 : Int), vi (3 : Int), vi (2 : Int), vi (1 : Int), vi (6 : Int), vi (4 : Int), vi (3 : Int), vi (1 : Int), vi (9 : Int), vi (4 : Int), vi (60 : Int), vq, vi (13 : Int), vi (5 : Int), vi (2 : Int), vq, vi (9 : Int), vi (5 : Int), vi (54 : Int), vq, vi (13 : Int), vi (3 : Int), vi (5 : Int), vi (1 : Int), vi (6 : Int), vi (4 : Int), vi (3 : Int), vi (1 : Int), vi (9 : Int), vi (4 : Int), vi (51 : Int), vq, vi (3 : Int), vi (2 : Int), vi (5 : Int), vq, vi (8 : Int), vi (44 : Int), vq, vq, vi (7 : Int), vi (4 : Int), vi (3 : Int), vi (1 : Int), vi (9 : Int), vi (4 : Int), vi (54 : Int), vq, vi (8 : Int), vi (69 : Int), vq, vq, vi (11 : Int), vi (6 : Int), vi (2 : Int), vi (1 : Int), vi (14 : Int), vi (6 : Int), vi (1 : Int), vi (1 : Int), vi (14 : Int), vi (6 : Int), vq, vi (5 : Int), vi (14 : Int), vi (2 : Int), vq, vi (6 : Int), vi (1 : Int), vi (7 : Int), vi (1 : Int), vq, vi (8 : Int), vi (70 : Int), vq, vq, vi (7 : Int), vi (4 : Int), vi (3 : Int), vi (1 : Int), vi (9 : Int), vi (4 : Int), vi (63 : Int), vq, vi (8 : Int), vi (69 : Int), vq, vq, vi (11 : Int), vi (6 : Int), vi (2 : Int), vi (1 : Int), vi (14 : Int), vi (6 : Int), vi (1 : Int), vi (1 : Int), vi (14 : Int), vi (6 : Int), vq, vi (2 : Int), vi (14 : Int), vq, vi (2 : Int), vi (6 : Int), vi (1 : Int), vi (7 : Int), vi (1 : Int), vq, vi (8 : Int), vi (70 : Int), vq, vq, vi (1 : Int), vi (7 : Int), vq, vq, vi (17 : Int), vq, vq, vq, vi (19 : Int), vi (7 : Int), vq, vq, vi (1 : Int), vi (1 : Int), vi (5 : Int), vq, vi (10 : Int), vq, vq, vq, vi (15 : Int), vq, vq, vq, vi (13 : Int), vi (2 : Int), vq, vi (2 : Int), vi (9 : Int), vi (2 : Int), vi (99 : Int), vq, vi (13 : Int), vi (3 : Int), vi (2 : Int), vi (1 : Int), vi (6 : Int), vi (4 : Int), vi (3 : Int), vi (1 : Int), vi (9 : Int), vi (4 : Int), vi (96 : Int), vq, vi (13 : Int), vi (5 : Int), vi (2 : Int), vq, vi (9 : Int), vi (5 : Int), vi (90 : Int), vq, vi (13 : Int), vi (3 : Int), vi (5 : Int), vi (1 : Int), vi (6 : Int), vi (4 : Int), vi (3 : Int), vi (1 : Int), vi (9 : Int), vi (4 : Int), vi (87 : Int), vq, vi (3 : Int), vi (2 : Int), vi (5 : Int), vq, vi (8 : Int), vi (80 : Int), vq, vq, vi (7 : Int), vi (4 : Int), vi (3 : Int), vi (1 : Int), vi (9 : Int), vi (4 : Int), vi (90 : Int), vq, vi (8 : Int), vi (105 : Int), vq, vq, vi (11 : Int), vi (6 : Int), vi (2 : Int), vi (1 : Int), vi (14 : Int), vi (6 : Int), vi (1 : Int), vi (1 : Int), vi (14 : Int), vi (6 : Int), vq, vi (5 : Int), vi (14 : Int), vi (2 : Int), vq, vi (6 : Int), vi (1 : Int), vi (7 : Int), vi (1 : Int), vq, vi (8 : Int), vi (106 : Int), vq, vq, vi (7 : Int), vi (4 : Int), vi (3 : Int), vi (1 : Int), vi (9 : Int), vi (4 : Int), vi (99 : Int), vq, vi (8 : Int), vi (105 : Int), vq, vq, vi (11 : Int), vi (6 : Int), vi (2 : Int), vi (1 : Int), vi (14 : Int), vi (6 : Int), vi (1 : Int), vi (1 : Int), vi (14 : Int), vi (6 : Int), vq, vi (2 : Int), vi (14 : Int), vq, vi (2 : Int), vi (6 : Int), vi (1 : Int), vi (7 : Int), vi (1 : Int), vq, vi (8 : Int), vi (106 : Int), vq, vq, vi (1 : Int), vi (7 : Int), vq, vq, vi (17 : Int), vq, vq, vq, vi (19 : Int), vi (7 : Int), vq, vq, vi (20 : Int), vq, vq, vq], true)]) (by kernel_rfl) (Zd (Zk (Zpk #[vs 456 0 1 1, vn, vi (100 : Int)]    N c0 456 455 457 rfl (by decide) (by decide))) <| Zd (Zk (Za rfl rfl)) <| Zd (Zk (Za rfl (Za rfl (Za rfl (Za rfl (Za rfl (Za rfl (Za rfl (Za rfl (Za rfl (Za rfl (Za rfl (Za rfl (Za rfl (Za rfl (Za rfl (Za rfl (Za rfl (Za rfl (Za rfl (Za rfl (Za rfl (Za rfl (Za rfl (Za rfl (Za rfl (Za rfl (Za rfl (Za rfl (Za rfl (Za rfl (Za rfl (Za rfl (Za rfl (Za rfl (Za rfl (Za rfl (Za rfl (Za rfl (Za rfl (Za rfl (Za rfl (Za rfl (Za rfl (Za rfl (Za rfl (Za rfl (Za rfl (Za rfl (Za rfl (Za rfl (Za rfl (Za rfl (Za rfl (Za rfl (Za rfl (Za rfl (Za rfl (Za rfl (Za rfl (Za rfl (Za rfl (Za rfl (Za rfl (Za rfl (Za rfl (Za rfl (Za rfl (Za rfl (Za rfl (Za rfl (Za rfl (Za rfl (Za rfl (Za rfl (Za rfl (Za rfl (Za rfl (Za rfl (Za rfl (Za rfl (Za rfl (Za rfl (Za rfl (Za rfl (Za rfl (Za rfl (Za rfl (Za rfl (Za rfl (Za rfl (Za rfl (Za rfl (Za rfl (Za rfl (Za rfl (Za rfl (Za rfl (Za rfl (Za rfl (Za rfl (Za rfl (Za rfl (Za rfl (Za rfl (Za rfl (Za rfl (Za rfl (Za rfl (Za rfl (Za rfl (Za rfl (Za rfl (Za rfl (Za rfl (Za rfl (Za rfl (Za rfl (Za rfl (Za rfl (Za rfl (Za rfl (Za rfl (Za rfl (Za rfl (Za rfl (Za rfl (Za rfl (Za rfl (Za rfl (Za rfl (Za rfl (Za rfl (Za rfl (Za rfl (Za rfl (Za rfl (Za rfl (Za rfl (Za rfl (Za rfl (Za rfl (Za rfl (Za rfl (Za rfl (Za rfl (Za rfl (Za rfl (Za rfl (Za rfl (Za rfl (Za rfl (Za rfl (Za rfl (Za rfl (Za rfl (Za rfl (Za rfl (Za rfl (Za rfl (Za rfl (Za rfl (Za rfl (Za rfl (Za rfl (Za rfl (Za rfl (Za rfl (Za rfl (Za rfl (Za rfl (Za rfl (Za rfl (Za rfl (Za rfl (Za rfl (Za rfl (Za rfl (Za rfl (Za rfl (Za rfl (Za rfl (Za rfl (Za rfl (Za rfl (Za rfl (Za rfl (Za rfl (Za rfl (Za rfl (Za rfl (Za rfl (Za rfl (Za rfl (Za rfl (Za rfl (Za rfl (Za rfl (Za rfl (Za rfl (Za rfl (Za rfl (Za rfl (Za rfl (Za rfl (Za rfl (Za rfl (Za rfl (Za rfl (Za rfl (Za rfl (Za rfl (Za rfl (Za rfl (Za rfl (Za rfl (Za rfl (Za rfl (Za rfl (Za rfl (Za rfl (Za rfl (Za rfl (Za rfl (Za rfl (Za rfl (Za rfl (Za rfl (Za rfl (Za rfl (Za rfl (Za rfl (Za rfl (Za rfl (Za rfl (Za rfl (Za rfl (Za rfl (Za rfl (Za rfl (Za rfl (Za rfl (Za rfl (Za rfl (Za rfl (Za rfl (Za rfl (Za rfl (Za rfl (Za rfl (Za rfl (Za rfl (Za rfl (Za rfl (Za rfl (Za rfl (Za rfl (Za rfl (Za rfl (Za rfl (Za rfl (Za rfl (Za rfl (Za rfl (Za rfl (Za rfl (Za rfl (Za rfl (Za rfl (Za rfl (Za rfl (Za rfl (Za rfl (Za rfl (Za rfl (Za rfl (Za rfl (Za rfl (Za rfl (Za rfl (Za rfl (Za rfl (Za rfl (Za rfl (Za rfl (Za rfl (Za rfl (Za rfl (Za rfl (Za rfl (Za rfl (Za rfl (Za rfl (Za rfl (Za rfl (Za rfl (Za rfl (Za rfl (Za rfl (Za rfl (Za rfl (Za rfl (Za rfl (Za rfl (Za rfl (Za rfl (Za rfl (Za rfl (Za rfl (Za rfl (Za rfl (Za rfl (Za rfl (Za rfl (Za rfl (Za rfl (Za rfl (Za rfl (Za rfl (Za rfl (Za rfl (Za rfl (Za rfl (Za rfl (Za rfl (Za rfl (Za rfl (Za rfl (Za rfl (Za rfl (Za rfl (Za rfl (Za rfl (Za rfl (Za rfl (Za rfl (Za rfl (Za rfl (Za rfl (Za rfl (Za rfl (Za rfl (Za rfl (Za rfl (Za rfl (Za rfl (Za rfl (Za rfl (Za rfl (Za rfl (Za rfl (Za rfl (Za rfl (Za rfl (Za rfl (Za rfl (Za rfl (Za rfl (Za rfl (Za rfl (Za rfl (Za rfl (Za rfl (Za rfl (Za rfl (Za rfl (Za rfl (Za rfl (Za rfl (Za rfl (Za rfl (Za rfl (Za rfl (Za rfl (Za rfl (Za rfl (Za rfl (Za rfl (Za rfl (Za rfl (Za rfl (Za rfl (Za rfl (Za rfl (Za rfl (Za rfl (Za rfl (Za rfl (Za rfl (Za rfl (Za rfl (Za rfl (Za rfl (Za rfl (Za rfl (Za rfl (Za rfl (Za rfl (Za rfl (Za rfl (Za rfl (Za rfl (Za rfl (Za rfl (Za rfl (Za rfl (Za rfl (Za rfl (Za rfl (Za rfl (Za rfl (Za rfl (Za rfl (Za rfl (Za rfl (Za rfl (Za rfl (Za rfl (Za rfl (Za rfl (Za rfl (Za rfl (Za rfl (Za rfl (Za rfl (Za rfl (Za rfl (Za rfl (Za rfl (Za rfl (Za rfl (Za rfl (Za rfl (Za rfl (Za rfl (Za rfl (Za rfl rfl))))))))))))))))))))))))))))))))))))))))))))))))))))))))))))))))))))))))))))))))))))))))))))))))))))))))))))))))))))))))))))))))))))))))))))))))))))))))))))))))))))))))))))))))))))))))))))))))))))))))))))))))))))))))))))))))))))))))))))))))))))))))))))))))))))))))))))))))))))))))))))))))))))))))))))))))))))))))))))))))))))))))))))))))))))))))))))))))))))))))))))))))))))))))))))))))))))))))))))))))))))))))))))))))))))))))))))))))))))) Zf) rfl (by decide) (by rfl) rr trivial

theorem ZlI  (N : Nat) (r : ZdA) (h : Zba  N = some r) : LSpec Tryz.prog 11 #[] [] (Zk5  r) (Zj5  r) :=
 ZbF Zm9 Tryz.func11 (by kernel_rfl) (by kernel_rfl) (fun r => by cases r <;> exact Zan _ rfl) (Znf  N) h

noncomputable def ZeN  (n : Nat) : ZaF := .call [] (vT) [] 0
def ZdM (A : Array Value)  (n : Nat) : Prop := ZH Tryz.prog 11 A [] (vT) [] n 0

theorem ZeO (A : Array Value)  (N : Nat) (h : Zba  N = some (.r0)) (n : Nat) (hA : A = #[]) (hnd : ([] : List Nat).Nodup) (hlt : ∀ k ∈ ([] : List Nat), k < n) : ZdM A   n :=
 ZX hA (LSpec.callL (show LSpec Tryz.prog 11 #[] [] (vT) [] from ZlI  N _ h) [] n [] rfl hnd hlt (show 0 ≤ 0 from by decide) (show ∀ j ∈ ([] : List Nat), j < 0 from by decide) (by rfl) trivial (by rfl) trivial trivial rfl rfl rfl rfl rfl)

noncomputable def Zhd (a0 a1 a2 : Int) : Zi → Value
 | .r0 w0 => Value.bool w0
noncomputable def Zgx (a0 a1 a2 : Int) : Zi → List (Option AObj)
 | .r0 w0 => []

def ZkU : law24_ListFormsX → Nat
 | .h1m0 v3 v4 v5 v6 v7 => 1
 | .h1m1 v3 v4 => 1
 | .h1m2 v3 => 1
 | .h1m3 => 1
 | .h2m0 v4 v5 v6 v7 v8 => 2
 | .h2m1 v3 v4 v5 => 2
 | .h2m2 v2 v3 v4 => 2
 | .h2m3 v1 v2 v3 => 2
 | .h2m4 v4 v5 v6 v7 v8 => 2
 | .h2m5 v4 v5 => 2
 | .h2m6 v3 v4 => 2
 | .h2m7 v2 v3 => 2
 | .h2m8 v4 v5 v6 v7 v8 => 2
 | .h2m9 v4 v5 => 2
 | .h2m10 v3 v4 => 2
 | .h2m11 v2 v3 => 2
 | .h2m12 v4 v5 v6 v7 v8 => 2
 | .h2m13 v4 v5 => 2
 | .h2m14 v3 v4 => 2
 | .h2m15 v2 v3 => 2
 | .h2m16 v4 v5 v6 v7 v8 => 2
 | .h2m17 v4 v5 => 2
 | .h2m18 v3 v4 => 2
 | .h2m19 v2 v3 => 2
 | .h2m20 v4 v5 v6 v7 v8 => 2
 | .h2m21 v4 v5 => 2
 | .h2m22 v3 v4 => 2
 | .h2m23 v2 v3 => 2
noncomputable def ZlJ (a0 a1 a2 : Int) : law24_ListFormsX → List (Nat × Value)
 | .h1m0 v3 v4 v5 v6 v7 => [(0, vi a0), (1, vi a1), (2, vi a2), (7, vp 0 0), (8, vp 1 0)]
 | .h1m1 v3 v4 => [(0, vi a0), (1, vi a1), (2, vi a2), (7, vp 0 0), (8, vp 1 0)]
 | .h1m2 v3 => [(0, vi a0), (1, vi a1), (2, vi a2), (7, vp 0 0), (8, vp 1 0)]
 | .h1m3 => [(0, vi a0), (1, vi a1), (2, vi a2), (7, vp 0 0), (8, vp 1 0)]
 | .h2m0 v4 v5 v6 v7 v8 => [(0, vi a0), (7, vp 0 0), (8, vp 1 0), (9, vT), (10, vT), (11, vT), (12, vq)]
 | .h2m1 v3 v4 v5 => [(0, vi a0), (7, vp 0 0), (8, vp 1 0), (9, vT), (10, vT), (11, Value.bool v3), (12, vq)]
 | .h2m2 v2 v3 v4 => [(0, vi a0), (7, vp 0 0), (8, vp 1 0), (9, vT), (10, Value.bool v2), (11, Value.bool v3), (12, vq)]
 | .h2m3 v1 v2 v3 => [(0, vi a0), (7, vp 0 0), (8, vp 1 0), (9, Value.bool v1), (10, Value.bool v2), (11, Value.bool v3), (12, vq)]
 | .h2m4 v4 v5 v6 v7 v8 => [(0, vi a0), (7, vp 0 0), (8, vp 1 0), (9, vT), (10, vT), (11, vT), (12, vi (1 : Int))]
 | .h2m5 v4 v5 => [(0, vi a0), (7, vp 0 0), (8, vp 1 0), (9, vT), (10, vT), (11, vf), (12, vi (1 : Int))]
 | .h2m6 v3 v4 => [(0, vi a0), (7, vp 0 0), (8, vp 1 0), (9, vT), (10, vf), (11, Value.bool v3), (12, vi (1 : Int))]
 | .h2m7 v2 v3 => [(0, vi a0), (7, vp 0 0), (8, vp 1 0), (9, vf), (10, Value.bool v2), (11, Value.bool v3), (12, vi (1 : Int))]
 | .h2m8 v4 v5 v6 v7 v8 => [(0, vi a0), (7, vp 0 0), (8, vp 1 0), (9, vT), (10, vT), (11, vT), (12, vi (2 : Int))]
 | .h2m9 v4 v5 => [(0, vi a0), (7, vp 0 0), (8, vp 1 0), (9, vT), (10, vT), (11, vf), (12, vi (2 : Int))]
 | .h2m10 v3 v4 => [(0, vi a0), (7, vp 0 0), (8, vp 1 0), (9, vT), (10, vf), (11, Value.bool v3), (12, vi (2 : Int))]
 | .h2m11 v2 v3 => [(0, vi a0), (7, vp 0 0), (8, vp 1 0), (9, vf), (10, Value.bool v2), (11, Value.bool v3), (12, vi (2 : Int))]
 | .h2m12 v4 v5 v6 v7 v8 => [(0, vi a0), (7, vp 0 0), (8, vp 1 0), (9, vT), (10, vT), (11, vT), (12, vi (3 : Int))]
 | .h2m13 v4 v5 => [(0, vi a0), (7, vp 0 0), (8, vp 1 0), (9, vT), (10, vT), (11, vf), (12, vi (3 : Int))]
 | .h2m14 v3 v4 => [(0, vi a0), (7, vp 0 0), (8, vp 1 0), (9, vT), (10, vf), (11, Value.bool v3), (12, vi (3 : Int))]
 | .h2m15 v2 v3 => [(0, vi a0), (7, vp 0 0), (8, vp 1 0), (9, vf), (10, Value.bool v2), (11, Value.bool v3), (12, vi (3 : Int))]
 | .h2m16 v4 v5 v6 v7 v8 => [(0, vi a0), (7, vp 0 0), (8, vp 1 0), (9, vT), (10, vT), (11, vT), (12, vi (4 : Int))]
 | .h2m17 v4 v5 => [(0, vi a0), (7, vp 0 0), (8, vp 1 0), (9, vT), (10, vT), (11, vf), (12, vi (4 : Int))]
 | .h2m18 v3 v4 => [(0, vi a0), (7, vp 0 0), (8, vp 1 0), (9, vT), (10, vf), (11, Value.bool v3), (12, vi (4 : Int))]
 | .h2m19 v2 v3 => [(0, vi a0), (7, vp 0 0), (8, vp 1 0), (9, vf), (10, Value.bool v2), (11, Value.bool v3), (12, vi (4 : Int))]
 | .h2m20 v4 v5 v6 v7 v8 => [(0, vi a0), (7, vp 0 0), (8, vp 1 0), (9, vT), (10, vT), (11, vT), (12, vi (5 : Int))]
 | .h2m21 v4 v5 => [(0, vi a0), (7, vp 0 0), (8, vp 1 0), (9, vT), (10, vT), (11, vf), (12, vi (5 : Int))]
 | .h2m22 v3 v4 => [(0, vi a0), (7, vp 0 0), (8, vp 1 0), (9, vT), (10, vf), (11, Value.bool v3), (12, vi (5 : Int))]
 | .h2m23 v2 v3 => [(0, vi a0), (7, vp 0 0), (8, vp 1 0), (9, vf), (10, Value.bool v2), (11, Value.bool v3), (12, vi (5 : Int))]
noncomputable def ZlK (a0 a1 a2 : Int) : law24_ListFormsX → List (Option AObj)
 | .h1m0 v3 v4 v5 v6 v7 => [some (.cells [vs 2 0 v3.length v3.length, vs 3 0 v4.length v4.length, vs 4 0 v5.length v5.length, vs 5 0 v6.length v6.length, vs 6 0 v7.length v7.length] 23), some (.cells [vq, vq, vq, vq, vq] 25), some (.cells (Zc Zb v3) 54), some (.cells (Zc Zb v4) 54), some (.cells (Zc Zb v5) 54), some (.cells (Zc Zb v6) 54), some (.cells (Zc Zb v7) 54)]
 | .h1m1 v3 v4 => [some (.cells [vn, vn, vn, vs 2 0 v3.length v3.length, vs 3 0 v4.length v4.length] 23), some (.cells [vi (240 : Int), vi (240 : Int), vi (240 : Int), vq, vq] 25), some (.cells (Zc Zb v3) 54), some (.cells (Zc Zb v4) 54)]
 | .h1m2 v3 => [some (.cells [vn, vn, vn, vn, vs 2 0 v3.length v3.length] 23), some ZcZ, some (.cells (Zc Zb v3) 54)]
 | .h1m3 => [some (.cells [vn, vn, vn, vn, vn] 23), some ZaO]
 | .h2m0 v4 v5 v6 v7 v8 => [some (.cells [vs 2 0 v4.length v4.length, vs 3 0 v5.length v5.length, vs 4 0 v6.length v6.length, vs 5 0 v7.length v7.length, vs 6 0 v8.length v8.length] 23), some (.cells [vq, vq, vq, vq, vq] 25), some (.cells (Zc Zb v4) 54), some (.cells (Zc Zb v5) 54), some (.cells (Zc Zb v6) 54), some (.cells (Zc Zb v7) 54), some (.cells (Zc Zb v8) 54)]
 | .h2m1 v3 v4 v5 => [some (.cells [vn, vn, vn, vs 2 0 v4.length v4.length, vs 3 0 v5.length v5.length] 23), some (.cells [vi (240 : Int), vi (240 : Int), vi (240 : Int), vq, vq] 25), some (.cells (Zc Zb v4) 54), some (.cells (Zc Zb v5) 54)]
 | .h2m2 v2 v3 v4 => [some (.cells [vn, vn, vn, vn, vs 2 0 v4.length v4.length] 23), some ZcZ, some (.cells (Zc Zb v4) 54)]
 | .h2m3 v1 v2 v3 => [some (.cells [vn, vn, vn, vn, vn] 23), some ZaO]
 | .h2m4 v4 v5 v6 v7 v8 => [some (.cells [vs 2 0 v4.length v4.length, vs 3 0 v5.length v5.length, vs 4 0 v6.length v6.length, vs 5 0 v7.length v7.length, vs 6 0 v8.length v8.length] 23), some (.cells [vq, vq, vq, vq, vq] 25), some (.cells (Zc Zb v4) 54), some (.cells (Zc Zb v5) 54), some (.cells (Zc Zb v6) 54), some (.cells (Zc Zb v7) 54), some (.cells (Zc Zb v8) 54)]
 | .h2m5 v4 v5 => [some (.cells [vn, vn, vn, vs 2 0 v4.length v4.length, vs 3 0 v5.length v5.length] 23), some (.cells [vi (240 : Int), vi (240 : Int), vi (240 : Int), vq, vq] 25), some (.cells (Zc Zb v4) 54), some (.cells (Zc Zb v5) 54)]
 | .h2m6 v3 v4 => [some (.cells [vn, vn, vn, vn, vs 2 0 v4.length v4.length] 23), some ZcZ, some (.cells (Zc Zb v4) 54)]
 | .h2m7 v2 v3 => [some (.cells [vn, vn, vn, vn, vn] 23), some ZaO]
 | .h2m8 v4 v5 v6 v7 v8 => [some (.cells [vs 2 0 v4.length v4.length, vs 3 0 v5.length v5.length, vs 4 0 v6.length v6.length, vs 5 0 v7.length v7.length, vs 6 0 v8.length v8.length] 23), some (.cells [vq, vq, vq, vq, vq] 25), some (.cells (Zc Zb v4) 54), some (.cells (Zc Zb v5) 54), some (.cells (Zc Zb v6) 54), some (.cells (Zc Zb v7) 54), some (.cells (Zc Zb v8) 54)]
 | .h2m9 v4 v5 => [some (.cells [vn, vn, vn, vs 2 0 v4.length v4.length, vs 3 0 v5.length v5.length] 23), some (.cells [vi (240 : Int), vi (240 : Int), vi (240 : Int), vq, vq] 25), some (.cells (Zc Zb v4) 54), some (.cells (Zc Zb v5) 54)]
 | .h2m10 v3 v4 => [some (.cells [vn, vn, vn, vn, vs 2 0 v4.length v4.length] 23), some ZcZ, some (.cells (Zc Zb v4) 54)]
 | .h2m11 v2 v3 => [some (.cells [vn, vn, vn, vn, vn] 23), some ZaO]
 | .h2m12 v4 v5 v6 v7 v8 => [some (.cells [vs 2 0 v4.length v4.length, vs 3 0 v5.length v5.length, vs 4 0 v6.length v6.length, vs 5 0 v7.length v7.length, vs 6 0 v8.length v8.length] 23), some (.cells [vq, vq, vq, vq, vq] 25), some (.cells (Zc Zb v4) 54), some (.cells (Zc Zb v5) 54), some (.cells (Zc Zb v6) 54), some (.cells (Zc Zb v7) 54), some (.cells (Zc Zb v8) 54)]
 | .h2m13 v4 v5 => [some (.cells [vn, vn, vn, vs 2 0 v4.length v4.length, vs 3 0 v5.length v5.length] 23), some (.cells [vi (240 : Int), vi (240 : Int), vi (240 : Int), vq, vq] 25), some (.cells (Zc Zb v4) 54), some (.cells (Zc Zb v5) 54)]
 | .h2m14 v3 v4 => [some (.cells [vn, vn, vn, vn, vs 2 0 v4.length v4.length] 23), some ZcZ, some (.cells (Zc Zb v4) 54)]
 | .h2m15 v2 v3 => [some (.cells [vn, vn, vn, vn, vn] 23), some ZaO]
 | .h2m16 v4 v5 v6 v7 v8 => [some (.cells [vs 2 0 v4.length v4.length, vs 3 0 v5.length v5.length, vs 4 0 v6.length v6.length, vs 5 0 v7.length v7.length, vs 6 0 v8.length v8.length] 23), some (.cells [vq, vq, vq, vq, vq] 25), some (.cells (Zc Zb v4) 54), some (.cells (Zc Zb v5) 54), some (.cells (Zc Zb v6) 54), some (.cells (Zc Zb v7) 54), some (.cells (Zc Zb v8) 54)]
 | .h2m17 v4 v5 => [some (.cells [vn, vn, vn, vs 2 0 v4.length v4.length, vs 3 0 v5.length v5.length] 23), some (.cells [vi (240 : Int), vi (240 : Int), vi (240 : Int), vq, vq] 25), some (.cells (Zc Zb v4) 54), some (.cells (Zc Zb v5) 54)]
 | .h2m18 v3 v4 => [some (.cells [vn, vn, vn, vn, vs 2 0 v4.length v4.length] 23), some ZcZ, some (.cells (Zc Zb v4) 54)]
 | .h2m19 v2 v3 => [some (.cells [vn, vn, vn, vn, vn] 23), some ZaO]
 | .h2m20 v4 v5 v6 v7 v8 => [some (.cells [vs 2 0 v4.length v4.length, vs 3 0 v5.length v5.length, vs 4 0 v6.length v6.length, vs 5 0 v7.length v7.length, vs 6 0 v8.length v8.length] 23), some (.cells [vq, vq, vq, vq, vq] 25), some (.cells (Zc Zb v4) 54), some (.cells (Zc Zb v5) 54), some (.cells (Zc Zb v6) 54), some (.cells (Zc Zb v7) 54), some (.cells (Zc Zb v8) 54)]
 | .h2m21 v4 v5 => [some (.cells [vn, vn, vn, vs 2 0 v4.length v4.length, vs 3 0 v5.length v5.length] 23), some (.cells [vi (240 : Int), vi (240 : Int), vi (240 : Int), vq, vq] 25), some (.cells (Zc Zb v4) 54), some (.cells (Zc Zb v5) 54)]
 | .h2m22 v3 v4 => [some (.cells [vn, vn, vn, vn, vs 2 0 v4.length v4.length] 23), some ZcZ, some (.cells (Zc Zb v4) 54)]
 | .h2m23 v2 v3 => [some (.cells [vn, vn, vn, vn, vn] 23), some ZaO]

noncomputable def Zg : Nat → Code × List Za5
 | 1 => Zke [1, 1, 1, 1, 1, 1, 1, 1] (ZcJ Tryz.f3) []
 | 2 => ZbE [1, 1, 1, 1, 1, 1, 1, 1, 1, 1, 1, 0, 1, 3] (ZcJ Tryz.f3) []
 | _ => (.skip, [])
def Zgy : Nat → Bool
 | 1 => false
 | 2 => true
 | _ => true
noncomputable def Zm (i : Nat) : List Za5 := match Zgy i with | true => .rnd i :: (Zg i).2 | false => (Zg i).2

noncomputable def Ze (a0 a1 a2 : Int) (N : Nat) : Mach := ⟨Tryz.f3, [], law24_ListFormsX, Zi, Zu a0 a1 a2 N, ZkU, Zg, Zgy, ZlJ a0 a1 a2, ZlK a0 a1 a2, Zhd a0 a1 a2, Zgx a0 a1 a2⟩

theorem Zim (a0 a1 a2 : Int) (v3 v4 v5 v6 v7 : List RA) (N : Nat) : (Ze a0 a1 a2 N).Ok Tryz.prog Zs (.h1m0 v3 v4 v5 v6 v7 : law24_ListFormsX) (Zu a0 a1 a2 N (.h1m0 v3 v4 v5 v6 v7 : law24_ListFormsX)) := by
 show (Ze a0 a1 a2 N).Ok Tryz.prog Zs (.h1m0 v3 v4 v5 v6 v7 : law24_ListFormsX) (Zcb a0 a1 a2 N v3 v4 v5 v6 v7)
 unfold Zcb
 refine Mach.ok_ite (fun g0 => ?_) (fun g0 => ?_)
 ·
  refine Mach.ok_ite (fun g1 => ?_) (fun g1 => ?_)
  ·
   refine Mach.ok_ite (fun g2 => ?_) (fun g2 => ?_)
   ·
    refine Mach.ok_ite (fun g3 => ?_) (fun g3 => ?_)
    ·
     refine Mach.ok_ite (fun g4 => ?_) (fun g4 => ?_)
     ·
      refine Mach.ok_ite (fun g5 => ?_) (fun g5 => ?_)
      ·
       exact Mach.ok_head (bK := Zg 2) (M := Ze a0 a1 a2 N) (cd := 1000000) (cm := 0) (y := (.h2m0 (v3) (v4) (v5) (v6) (v7) : law24_ListFormsX)) (fu := 4000) (orc := (Zj [(0, true), (1, true), (2, true), (3, true), (4, true), (5, true)] [] [] [] [])) (live := [0, 1, 2, 3, 4, 5, 6]) (tv := fun _ => [some (vi a0), some (vp 0 0), some (vp 1 0), some (vT), some (vT), some (vT), some (vq)]) (bl := [some (.cells [vs 2 0 v3.length v3.length, vs 3 0 v4.length v4.length, vs 4 0 v5.length v5.length, vs 5 0 v6.length v6.length, vs 6 0 v7.length v7.length] 23), some (.cells [vq, vq, vq, vq, vq] 25), some (.cells (Zc Zb v3) 54), some (.cells (Zc Zb v4) 54), some (.cells (Zc Zb v5) 54), some (.cells (Zc Zb v6) 54), some (.cells (Zc Zb v7) 54)]) (ob := [((decide (a2 ≤ (1099511627776 : Int))), true), ((decide (a2 ≥ (-1099511627776 : Int))), true), ((decide (a1 ≤ (7 : Int))), true), ((decide (a1 ≥ (0 : Int))), true), ((decide (a0 ≤ (400 : Int))), true), ((decide (a0 ≥ (0 : Int))), true)]) rfl rfl (show ∀ j ∈ Zl (Zg 2).2, j ∈ Zl (Zm 1) from by decide +kernel) (fun gv => by kernel_rfl) (oY <| oY <| oY <| oY <| oY <| oY Zf) rfl (by decide) (by rfl) (fun _ => ⟨rr, ⟨rr, ⟨rr, ⟨rr, ⟨rr, ⟨rr, ⟨rr, trivial⟩⟩⟩⟩⟩⟩⟩) ⟨⟨rfl, ⟨[], by rfl⟩, by rfl⟩, ⟨⟨rfl, ⟨[], by rfl⟩, by rfl⟩, ⟨(Zh (E := Zb) (α := RA) _ v3 _), ⟨(Zh (E := Zb) (α := RA) _ v4 _), ⟨(Zh (E := Zb) (α := RA) _ v5 _), ⟨(Zh (E := Zb) (α := RA) _ v6 _), ⟨(Zh (E := Zb) (α := RA) _ v7 _), trivial⟩⟩⟩⟩⟩⟩⟩
      ·
       exact Mach.ok_none
     ·
      exact Mach.ok_none
    ·
     exact Mach.ok_none
   ·
    exact Mach.ok_none
  ·
   exact Mach.ok_none
 ·
  exact Mach.ok_none

theorem Zin (a0 a1 a2 : Int) (v3 v4 : List RA) (N : Nat) : (Ze a0 a1 a2 N).Ok Tryz.prog Zs (.h1m1 v3 v4 : law24_ListFormsX) (Zu a0 a1 a2 N (.h1m1 v3 v4 : law24_ListFormsX)) := by
 show (Ze a0 a1 a2 N).Ok Tryz.prog Zs (.h1m1 v3 v4 : law24_ListFormsX) (Zcc a0 a1 a2 N v3 v4)
 unfold Zcc
 refine Mach.ok_ite (fun g0 => ?_) (fun g0 => ?_)
 ·
  refine Mach.ok_ite (fun g1 => ?_) (fun g1 => ?_)
  ·
   refine Mach.ok_ite (fun g2 => ?_) (fun g2 => ?_)
   ·
    refine Mach.ok_ite (fun g3 => ?_) (fun g3 => ?_)
    ·
     refine Mach.ok_ite (fun g4 => ?_) (fun g4 => ?_)
     ·
      refine Mach.ok_ite (fun g5 => ?_) (fun g5 => ?_)
      ·
       exact Mach.ok_head (bK := Zg 2) (M := Ze a0 a1 a2 N) (cd := 1000000) (cm := 0) (y := (.h2m1 (true) (v3) (v4) : law24_ListFormsX)) (fu := 4000) (orc := (Zj [(0, true), (1, true), (2, true), (3, true), (4, true), (5, true)] [] [] [] [])) (live := [0, 1, 2, 3]) (tv := fun _ => [some (vi a0), some (vp 0 0), some (vp 1 0), some (vT), some (vT), some (vT), some (vq)]) (bl := [some (.cells [vn, vn, vn, vs 2 0 v3.length v3.length, vs 3 0 v4.length v4.length] 23), some (.cells [vi (240 : Int), vi (240 : Int), vi (240 : Int), vq, vq] 25), some (.cells (Zc Zb v3) 54), some (.cells (Zc Zb v4) 54)]) (ob := [((decide (a2 ≤ (1099511627776 : Int))), true), ((decide (a2 ≥ (-1099511627776 : Int))), true), ((decide (a1 ≤ (7 : Int))), true), ((decide (a1 ≥ (0 : Int))), true), ((decide (a0 ≤ (400 : Int))), true), ((decide (a0 ≥ (0 : Int))), true)]) rfl rfl (show ∀ j ∈ Zl (Zg 2).2, j ∈ Zl (Zm 1) from by decide +kernel) (fun gv => by kernel_rfl) (oY <| oY <| oY <| oY <| oY <| oY Zf) rfl (by decide) (by rfl) (fun _ => ⟨rr, ⟨rr, ⟨rr, ⟨rr, ⟨rr, ⟨rr, ⟨rr, trivial⟩⟩⟩⟩⟩⟩⟩) ⟨⟨rfl, ⟨[], by rfl⟩, by rfl⟩, ⟨⟨rfl, ⟨[], by rfl⟩, by rfl⟩, ⟨(Zh (E := Zb) (α := RA) _ v3 _), ⟨(Zh (E := Zb) (α := RA) _ v4 _), trivial⟩⟩⟩⟩
      ·
       exact Mach.ok_head (bK := Zg 2) (M := Ze a0 a1 a2 N) (cd := 1000000) (cm := 0) (y := (.h2m1 (false) (v3) (v4) : law24_ListFormsX)) (fu := 4000) (orc := (Zj [(0, true), (1, true), (2, true), (3, true), (4, true), (5, false)] [] [] [] [])) (live := [0, 1, 2, 3]) (tv := fun _ => [some (vi a0), some (vp 0 0), some (vp 1 0), some (vT), some (vT), some (vf), some (vq)]) (bl := [some (.cells [vn, vn, vn, vs 2 0 v3.length v3.length, vs 3 0 v4.length v4.length] 23), some (.cells [vi (240 : Int), vi (240 : Int), vi (240 : Int), vq, vq] 25), some (.cells (Zc Zb v3) 54), some (.cells (Zc Zb v4) 54)]) (ob := [((decide (a2 ≤ (1099511627776 : Int))), false), ((decide (a2 ≥ (-1099511627776 : Int))), true), ((decide (a1 ≤ (7 : Int))), true), ((decide (a1 ≥ (0 : Int))), true), ((decide (a0 ≤ (400 : Int))), true), ((decide (a0 ≥ (0 : Int))), true)]) rfl rfl (show ∀ j ∈ Zl (Zg 2).2, j ∈ Zl (Zm 1) from by decide +kernel) (fun gv => by kernel_rfl) (oN <| oY <| oY <| oY <| oY <| oY Zf) rfl (by decide) (by rfl) (fun _ => ⟨rr, ⟨rr, ⟨rr, ⟨rr, ⟨rr, ⟨rr, ⟨rr, trivial⟩⟩⟩⟩⟩⟩⟩) ⟨⟨rfl, ⟨[], by rfl⟩, by rfl⟩, ⟨⟨rfl, ⟨[], by rfl⟩, by rfl⟩, ⟨(Zh (E := Zb) (α := RA) _ v3 _), ⟨(Zh (E := Zb) (α := RA) _ v4 _), trivial⟩⟩⟩⟩
     ·
      exact Mach.ok_head (bK := Zg 2) (M := Ze a0 a1 a2 N) (cd := 1000000) (cm := 0) (y := (.h2m1 (false) (v3) (v4) : law24_ListFormsX)) (fu := 4000) (orc := (Zj [(0, true), (1, true), (2, true), (3, true), (4, false)] [] [] [] [])) (live := [0, 1, 2, 3]) (tv := fun _ => [some (vi a0), some (vp 0 0), some (vp 1 0), some (vT), some (vT), some (vf), some (vq)]) (bl := [some (.cells [vn, vn, vn, vs 2 0 v3.length v3.length, vs 3 0 v4.length v4.length] 23), some (.cells [vi (240 : Int), vi (240 : Int), vi (240 : Int), vq, vq] 25), some (.cells (Zc Zb v3) 54), some (.cells (Zc Zb v4) 54)]) (ob := [((decide (a2 ≥ (-1099511627776 : Int))), false), ((decide (a1 ≤ (7 : Int))), true), ((decide (a1 ≥ (0 : Int))), true), ((decide (a0 ≤ (400 : Int))), true), ((decide (a0 ≥ (0 : Int))), true)]) rfl rfl (show ∀ j ∈ Zl (Zg 2).2, j ∈ Zl (Zm 1) from by decide +kernel) (fun gv => by kernel_rfl) (oN <| oY <| oY <| oY <| oY Zf) rfl (by decide) (by rfl) (fun _ => ⟨rr, ⟨rr, ⟨rr, ⟨rr, ⟨rr, ⟨rr, ⟨rr, trivial⟩⟩⟩⟩⟩⟩⟩) ⟨⟨rfl, ⟨[], by rfl⟩, by rfl⟩, ⟨⟨rfl, ⟨[], by rfl⟩, by rfl⟩, ⟨(Zh (E := Zb) (α := RA) _ v3 _), ⟨(Zh (E := Zb) (α := RA) _ v4 _), trivial⟩⟩⟩⟩
    ·
     exact Mach.ok_none
   ·
    exact Mach.ok_none
  ·
   exact Mach.ok_none
 ·
  exact Mach.ok_none

theorem Zio (a0 a1 a2 : Int) (v3 : List RA) (N : Nat) : (Ze a0 a1 a2 N).Ok Tryz.prog Zs (.h1m2 v3 : law24_ListFormsX) (Zu a0 a1 a2 N (.h1m2 v3 : law24_ListFormsX)) := by
 show (Ze a0 a1 a2 N).Ok Tryz.prog Zs (.h1m2 v3 : law24_ListFormsX) (ZaT a0 a1 a2 N v3)
 unfold ZaT
 refine Mach.ok_ite (fun g0 => ?_) (fun g0 => ?_)
 ·
  refine Mach.ok_ite (fun g1 => ?_) (fun g1 => ?_)
  ·
   refine Mach.ok_ite (fun g2 => ?_) (fun g2 => ?_)
   ·
    refine Mach.ok_ite (fun g3 => ?_) (fun g3 => ?_)
    ·
     refine Mach.ok_ite (fun g4 => ?_) (fun g4 => ?_)
     ·
      refine Mach.ok_ite (fun g5 => ?_) (fun g5 => ?_)
      ·
       exact Mach.ok_head (bK := Zg 2) (M := Ze a0 a1 a2 N) (cd := 1000000) (cm := 0) (y := (.h2m2 (true) (true) (v3) : law24_ListFormsX)) (fu := 4000) (orc := (Zj [(0, true), (1, true), (2, true), (3, true), (4, true), (5, true)] [] [] [] [])) (live := [0, 1, 2]) (tv := fun _ => [some (vi a0), some (vp 0 0), some (vp 1 0), some (vT), some (vT), some (vT), some (vq)]) (bl := [some (.cells [vn, vn, vn, vn, vs 2 0 v3.length v3.length] 23), some ZcZ, some (.cells (Zc Zb v3) 54)]) (ob := [((decide (a2 ≤ (1099511627776 : Int))), true), ((decide (a2 ≥ (-1099511627776 : Int))), true), ((decide (a1 ≤ (7 : Int))), true), ((decide (a1 ≥ (0 : Int))), true), ((decide (a0 ≤ (400 : Int))), true), ((decide (a0 ≥ (0 : Int))), true)]) rfl rfl (show ∀ j ∈ Zl (Zg 2).2, j ∈ Zl (Zm 1) from by decide +kernel) (fun gv => by kernel_rfl) (oY <| oY <| oY <| oY <| oY <| oY Zf) rfl (by decide) (by rfl) (fun _ => ⟨rr, ⟨rr, ⟨rr, ⟨rr, ⟨rr, ⟨rr, ⟨rr, trivial⟩⟩⟩⟩⟩⟩⟩) ⟨⟨rfl, ⟨[], by rfl⟩, by rfl⟩, ⟨⟨rfl, ⟨[], by rfl⟩, by rfl⟩, ⟨(Zh (E := Zb) (α := RA) _ v3 _), trivial⟩⟩⟩
      ·
       exact Mach.ok_head (bK := Zg 2) (M := Ze a0 a1 a2 N) (cd := 1000000) (cm := 0) (y := (.h2m2 (true) (false) (v3) : law24_ListFormsX)) (fu := 4000) (orc := (Zj [(0, true), (1, true), (2, true), (3, true), (4, true), (5, false)] [] [] [] [])) (live := [0, 1, 2]) (tv := fun _ => [some (vi a0), some (vp 0 0), some (vp 1 0), some (vT), some (vT), some (vf), some (vq)]) (bl := [some (.cells [vn, vn, vn, vn, vs 2 0 v3.length v3.length] 23), some ZcZ, some (.cells (Zc Zb v3) 54)]) (ob := [((decide (a2 ≤ (1099511627776 : Int))), false), ((decide (a2 ≥ (-1099511627776 : Int))), true), ((decide (a1 ≤ (7 : Int))), true), ((decide (a1 ≥ (0 : Int))), true), ((decide (a0 ≤ (400 : Int))), true), ((decide (a0 ≥ (0 : Int))), true)]) rfl rfl (show ∀ j ∈ Zl (Zg 2).2, j ∈ Zl (Zm 1) from by decide +kernel) (fun gv => by kernel_rfl) (oN <| oY <| oY <| oY <| oY <| oY Zf) rfl (by decide) (by rfl) (fun _ => ⟨rr, ⟨rr, ⟨rr, ⟨rr, ⟨rr, ⟨rr, ⟨rr, trivial⟩⟩⟩⟩⟩⟩⟩) ⟨⟨rfl, ⟨[], by rfl⟩, by rfl⟩, ⟨⟨rfl, ⟨[], by rfl⟩, by rfl⟩, ⟨(Zh (E := Zb) (α := RA) _ v3 _), trivial⟩⟩⟩
     ·
      exact Mach.ok_head (bK := Zg 2) (M := Ze a0 a1 a2 N) (cd := 1000000) (cm := 0) (y := (.h2m2 (true) (false) (v3) : law24_ListFormsX)) (fu := 4000) (orc := (Zj [(0, true), (1, true), (2, true), (3, true), (4, false)] [] [] [] [])) (live := [0, 1, 2]) (tv := fun _ => [some (vi a0), some (vp 0 0), some (vp 1 0), some (vT), some (vT), some (vf), some (vq)]) (bl := [some (.cells [vn, vn, vn, vn, vs 2 0 v3.length v3.length] 23), some ZcZ, some (.cells (Zc Zb v3) 54)]) (ob := [((decide (a2 ≥ (-1099511627776 : Int))), false), ((decide (a1 ≤ (7 : Int))), true), ((decide (a1 ≥ (0 : Int))), true), ((decide (a0 ≤ (400 : Int))), true), ((decide (a0 ≥ (0 : Int))), true)]) rfl rfl (show ∀ j ∈ Zl (Zg 2).2, j ∈ Zl (Zm 1) from by decide +kernel) (fun gv => by kernel_rfl) (oN <| oY <| oY <| oY <| oY Zf) rfl (by decide) (by rfl) (fun _ => ⟨rr, ⟨rr, ⟨rr, ⟨rr, ⟨rr, ⟨rr, ⟨rr, trivial⟩⟩⟩⟩⟩⟩⟩) ⟨⟨rfl, ⟨[], by rfl⟩, by rfl⟩, ⟨⟨rfl, ⟨[], by rfl⟩, by rfl⟩, ⟨(Zh (E := Zb) (α := RA) _ v3 _), trivial⟩⟩⟩
    ·
     refine Mach.ok_ite (fun g4 => ?_) (fun g4 => ?_)
     ·
      refine Mach.ok_ite (fun g5 => ?_) (fun g5 => ?_)
      ·
       exact Mach.ok_head (bK := Zg 2) (M := Ze a0 a1 a2 N) (cd := 1000000) (cm := 0) (y := (.h2m2 (false) (true) (v3) : law24_ListFormsX)) (fu := 4000) (orc := (Zj [(0, true), (1, true), (2, true), (3, false), (4, true), (5, true)] [] [] [] [])) (live := [0, 1, 2]) (tv := fun _ => [some (vi a0), some (vp 0 0), some (vp 1 0), some (vT), some (vf), some (vT), some (vq)]) (bl := [some (.cells [vn, vn, vn, vn, vs 2 0 v3.length v3.length] 23), some ZcZ, some (.cells (Zc Zb v3) 54)]) (ob := [((decide (a2 ≤ (1099511627776 : Int))), true), ((decide (a2 ≥ (-1099511627776 : Int))), true), ((decide (a1 ≤ (7 : Int))), false), ((decide (a1 ≥ (0 : Int))), true), ((decide (a0 ≤ (400 : Int))), true), ((decide (a0 ≥ (0 : Int))), true)]) rfl rfl (show ∀ j ∈ Zl (Zg 2).2, j ∈ Zl (Zm 1) from by decide +kernel) (fun gv => by kernel_rfl) (oY <| oY <| oN <| oY <| oY <| oY Zf) rfl (by decide) (by rfl) (fun _ => ⟨rr, ⟨rr, ⟨rr, ⟨rr, ⟨rr, ⟨rr, ⟨rr, trivial⟩⟩⟩⟩⟩⟩⟩) ⟨⟨rfl, ⟨[], by rfl⟩, by rfl⟩, ⟨⟨rfl, ⟨[], by rfl⟩, by rfl⟩, ⟨(Zh (E := Zb) (α := RA) _ v3 _), trivial⟩⟩⟩
      ·
       exact Mach.ok_head (bK := Zg 2) (M := Ze a0 a1 a2 N) (cd := 1000000) (cm := 0) (y := (.h2m2 (false) (false) (v3) : law24_ListFormsX)) (fu := 4000) (orc := (Zj [(0, true), (1, true), (2, true), (3, false), (4, true), (5, false)] [] [] [] [])) (live := [0, 1, 2]) (tv := fun _ => [some (vi a0), some (vp 0 0), some (vp 1 0), some (vT), some (vf), some (vf), some (vq)]) (bl := [some (.cells [vn, vn, vn, vn, vs 2 0 v3.length v3.length] 23), some ZcZ, some (.cells (Zc Zb v3) 54)]) (ob := [((decide (a2 ≤ (1099511627776 : Int))), false), ((decide (a2 ≥ (-1099511627776 : Int))), true), ((decide (a1 ≤ (7 : Int))), false), ((decide (a1 ≥ (0 : Int))), true), ((decide (a0 ≤ (400 : Int))), true), ((decide (a0 ≥ (0 : Int))), true)]) rfl rfl (show ∀ j ∈ Zl (Zg 2).2, j ∈ Zl (Zm 1) from by decide +kernel) (fun gv => by kernel_rfl) (oN <| oY <| oN <| oY <| oY <| oY Zf) rfl (by decide) (by rfl) (fun _ => ⟨rr, ⟨rr, ⟨rr, ⟨rr, ⟨rr, ⟨rr, ⟨rr, trivial⟩⟩⟩⟩⟩⟩⟩) ⟨⟨rfl, ⟨[], by rfl⟩, by rfl⟩, ⟨⟨rfl, ⟨[], by rfl⟩, by rfl⟩, ⟨(Zh (E := Zb) (α := RA) _ v3 _), trivial⟩⟩⟩
     ·
      exact Mach.ok_head (bK := Zg 2) (M := Ze a0 a1 a2 N) (cd := 1000000) (cm := 0) (y := (.h2m2 (false) (false) (v3) : law24_ListFormsX)) (fu := 4000) (orc := (Zj [(0, true), (1, true), (2, true), (3, false), (4, false)] [] [] [] [])) (live := [0, 1, 2]) (tv := fun _ => [some (vi a0), some (vp 0 0), some (vp 1 0), some (vT), some (vf), some (vf), some (vq)]) (bl := [some (.cells [vn, vn, vn, vn, vs 2 0 v3.length v3.length] 23), some ZcZ, some (.cells (Zc Zb v3) 54)]) (ob := [((decide (a2 ≥ (-1099511627776 : Int))), false), ((decide (a1 ≤ (7 : Int))), false), ((decide (a1 ≥ (0 : Int))), true), ((decide (a0 ≤ (400 : Int))), true), ((decide (a0 ≥ (0 : Int))), true)]) rfl rfl (show ∀ j ∈ Zl (Zg 2).2, j ∈ Zl (Zm 1) from by decide +kernel) (fun gv => by kernel_rfl) (oN <| oN <| oY <| oY <| oY Zf) rfl (by decide) (by rfl) (fun _ => ⟨rr, ⟨rr, ⟨rr, ⟨rr, ⟨rr, ⟨rr, ⟨rr, trivial⟩⟩⟩⟩⟩⟩⟩) ⟨⟨rfl, ⟨[], by rfl⟩, by rfl⟩, ⟨⟨rfl, ⟨[], by rfl⟩, by rfl⟩, ⟨(Zh (E := Zb) (α := RA) _ v3 _), trivial⟩⟩⟩
   ·
    refine Mach.ok_ite (fun g3 => ?_) (fun g3 => ?_)
    ·
     refine Mach.ok_ite (fun g4 => ?_) (fun g4 => ?_)
     ·
      exact Mach.ok_head (bK := Zg 2) (M := Ze a0 a1 a2 N) (cd := 1000000) (cm := 0) (y := (.h2m2 (false) (true) (v3) : law24_ListFormsX)) (fu := 4000) (orc := (Zj [(0, true), (1, true), (2, false), (3, true), (4, true)] [] [] [] [])) (live := [0, 1, 2]) (tv := fun _ => [some (vi a0), some (vp 0 0), some (vp 1 0), some (vT), some (vf), some (vT), some (vq)]) (bl := [some (.cells [vn, vn, vn, vn, vs 2 0 v3.length v3.length] 23), some ZcZ, some (.cells (Zc Zb v3) 54)]) (ob := [((decide (a2 ≤ (1099511627776 : Int))), true), ((decide (a2 ≥ (-1099511627776 : Int))), true), ((decide (a1 ≥ (0 : Int))), false), ((decide (a0 ≤ (400 : Int))), true), ((decide (a0 ≥ (0 : Int))), true)]) rfl rfl (show ∀ j ∈ Zl (Zg 2).2, j ∈ Zl (Zm 1) from by decide +kernel) (fun gv => by kernel_rfl) (oY <| oY <| oN <| oY <| oY Zf) rfl (by decide) (by rfl) (fun _ => ⟨rr, ⟨rr, ⟨rr, ⟨rr, ⟨rr, ⟨rr, ⟨rr, trivial⟩⟩⟩⟩⟩⟩⟩) ⟨⟨rfl, ⟨[], by rfl⟩, by rfl⟩, ⟨⟨rfl, ⟨[], by rfl⟩, by rfl⟩, ⟨(Zh (E := Zb) (α := RA) _ v3 _), trivial⟩⟩⟩
     ·
      exact Mach.ok_head (bK := Zg 2) (M := Ze a0 a1 a2 N) (cd := 1000000) (cm := 0) (y := (.h2m2 (false) (false) (v3) : law24_ListFormsX)) (fu := 4000) (orc := (Zj [(0, true), (1, true), (2, false), (3, true), (4, false)] [] [] [] [])) (live := [0, 1, 2]) (tv := fun _ => [some (vi a0), some (vp 0 0), some (vp 1 0), some (vT), some (vf), some (vf), some (vq)]) (bl := [some (.cells [vn, vn, vn, vn, vs 2 0 v3.length v3.length] 23), some ZcZ, some (.cells (Zc Zb v3) 54)]) (ob := [((decide (a2 ≤ (1099511627776 : Int))), false), ((decide (a2 ≥ (-1099511627776 : Int))), true), ((decide (a1 ≥ (0 : Int))), false), ((decide (a0 ≤ (400 : Int))), true), ((decide (a0 ≥ (0 : Int))), true)]) rfl rfl (show ∀ j ∈ Zl (Zg 2).2, j ∈ Zl (Zm 1) from by decide +kernel) (fun gv => by kernel_rfl) (oN <| oY <| oN <| oY <| oY Zf) rfl (by decide) (by rfl) (fun _ => ⟨rr, ⟨rr, ⟨rr, ⟨rr, ⟨rr, ⟨rr, ⟨rr, trivial⟩⟩⟩⟩⟩⟩⟩) ⟨⟨rfl, ⟨[], by rfl⟩, by rfl⟩, ⟨⟨rfl, ⟨[], by rfl⟩, by rfl⟩, ⟨(Zh (E := Zb) (α := RA) _ v3 _), trivial⟩⟩⟩
    ·
     exact Mach.ok_head (bK := Zg 2) (M := Ze a0 a1 a2 N) (cd := 1000000) (cm := 0) (y := (.h2m2 (false) (false) (v3) : law24_ListFormsX)) (fu := 4000) (orc := (Zj [(0, true), (1, true), (2, false), (3, false)] [] [] [] [])) (live := [0, 1, 2]) (tv := fun _ => [some (vi a0), some (vp 0 0), some (vp 1 0), some (vT), some (vf), some (vf), some (vq)]) (bl := [some (.cells [vn, vn, vn, vn, vs 2 0 v3.length v3.length] 23), some ZcZ, some (.cells (Zc Zb v3) 54)]) (ob := [((decide (a2 ≥ (-1099511627776 : Int))), false), ((decide (a1 ≥ (0 : Int))), false), ((decide (a0 ≤ (400 : Int))), true), ((decide (a0 ≥ (0 : Int))), true)]) rfl rfl (show ∀ j ∈ Zl (Zg 2).2, j ∈ Zl (Zm 1) from by decide +kernel) (fun gv => by kernel_rfl) (oN <| oN <| oY <| oY Zf) rfl (by decide) (by rfl) (fun _ => ⟨rr, ⟨rr, ⟨rr, ⟨rr, ⟨rr, ⟨rr, ⟨rr, trivial⟩⟩⟩⟩⟩⟩⟩) ⟨⟨rfl, ⟨[], by rfl⟩, by rfl⟩, ⟨⟨rfl, ⟨[], by rfl⟩, by rfl⟩, ⟨(Zh (E := Zb) (α := RA) _ v3 _), trivial⟩⟩⟩
  ·
   exact Mach.ok_none
 ·
  exact Mach.ok_none

theorem Zip (a0 a1 a2 : Int) (N : Nat) : (Ze a0 a1 a2 N).Ok Tryz.prog Zs (.h1m3 : law24_ListFormsX) (Zu a0 a1 a2 N (.h1m3 : law24_ListFormsX)) := by
 show (Ze a0 a1 a2 N).Ok Tryz.prog Zs (.h1m3 : law24_ListFormsX) (Zad a0 a1 a2 N)
 unfold Zad
 refine Mach.ok_ite (fun g0 => ?_) (fun g0 => ?_)
 ·
  refine Mach.ok_ite (fun g1 => ?_) (fun g1 => ?_)
  ·
   refine Mach.ok_ite (fun g2 => ?_) (fun g2 => ?_)
   ·
    refine Mach.ok_ite (fun g3 => ?_) (fun g3 => ?_)
    ·
     refine Mach.ok_ite (fun g4 => ?_) (fun g4 => ?_)
     ·
      refine Mach.ok_ite (fun g5 => ?_) (fun g5 => ?_)
      ·
       exact Mach.ok_head (bK := Zg 2) (M := Ze a0 a1 a2 N) (cd := 1000000) (cm := 0) (y := (.h2m3 (true) (true) (true) : law24_ListFormsX)) (fu := 4000) (orc := (Zj [(0, true), (1, true), (2, true), (3, true), (4, true), (5, true)] [] [] [] [])) (live := [0, 1]) (tv := fun _ => [some (vi a0), some (vp 0 0), some (vp 1 0), some (vT), some (vT), some (vT), some (vq)]) (bl := [some (.cells [vn, vn, vn, vn, vn] 23), some ZaO]) (ob := [((decide (a2 ≤ (1099511627776 : Int))), true), ((decide (a2 ≥ (-1099511627776 : Int))), true), ((decide (a1 ≤ (7 : Int))), true), ((decide (a1 ≥ (0 : Int))), true), ((decide (a0 ≤ (400 : Int))), true), ((decide (a0 ≥ (0 : Int))), true)]) rfl rfl (show ∀ j ∈ Zl (Zg 2).2, j ∈ Zl (Zm 1) from by decide +kernel) (fun gv => by kernel_rfl) (oY <| oY <| oY <| oY <| oY <| oY Zf) rfl (by decide) (by rfl) (fun _ => ⟨rr, ⟨rr, ⟨rr, ⟨rr, ⟨rr, ⟨rr, ⟨rr, trivial⟩⟩⟩⟩⟩⟩⟩) ⟨⟨rfl, ⟨[], by rfl⟩, by rfl⟩, ⟨⟨rfl, ⟨[], by rfl⟩, by rfl⟩, trivial⟩⟩
      ·
       exact Mach.ok_head (bK := Zg 2) (M := Ze a0 a1 a2 N) (cd := 1000000) (cm := 0) (y := (.h2m3 (true) (true) (false) : law24_ListFormsX)) (fu := 4000) (orc := (Zj [(0, true), (1, true), (2, true), (3, true), (4, true), (5, false)] [] [] [] [])) (live := [0, 1]) (tv := fun _ => [some (vi a0), some (vp 0 0), some (vp 1 0), some (vT), some (vT), some (vf), some (vq)]) (bl := [some (.cells [vn, vn, vn, vn, vn] 23), some ZaO]) (ob := [((decide (a2 ≤ (1099511627776 : Int))), false), ((decide (a2 ≥ (-1099511627776 : Int))), true), ((decide (a1 ≤ (7 : Int))), true), ((decide (a1 ≥ (0 : Int))), true), ((decide (a0 ≤ (400 : Int))), true), ((decide (a0 ≥ (0 : Int))), true)]) rfl rfl (show ∀ j ∈ Zl (Zg 2).2, j ∈ Zl (Zm 1) from by decide +kernel) (fun gv => by kernel_rfl) (oN <| oY <| oY <| oY <| oY <| oY Zf) rfl (by decide) (by rfl) (fun _ => ⟨rr, ⟨rr, ⟨rr, ⟨rr, ⟨rr, ⟨rr, ⟨rr, trivial⟩⟩⟩⟩⟩⟩⟩) ⟨⟨rfl, ⟨[], by rfl⟩, by rfl⟩, ⟨⟨rfl, ⟨[], by rfl⟩, by rfl⟩, trivial⟩⟩
     ·
      exact Mach.ok_head (bK := Zg 2) (M := Ze a0 a1 a2 N) (cd := 1000000) (cm := 0) (y := (.h2m3 (true) (true) (false) : law24_ListFormsX)) (fu := 4000) (orc := (Zj [(0, true), (1, true), (2, true), (3, true), (4, false)] [] [] [] [])) (live := [0, 1]) (tv := fun _ => [some (vi a0), some (vp 0 0), some (vp 1 0), some (vT), some (vT), some (vf), some (vq)]) (bl := [some (.cells [vn, vn, vn, vn, vn] 23), some ZaO]) (ob := [((decide (a2 ≥ (-1099511627776 : Int))), false), ((decide (a1 ≤ (7 : Int))), true), ((decide (a1 ≥ (0 : Int))), true), ((decide (a0 ≤ (400 : Int))), true), ((decide (a0 ≥ (0 : Int))), true)]) rfl rfl (show ∀ j ∈ Zl (Zg 2).2, j ∈ Zl (Zm 1) from by decide +kernel) (fun gv => by kernel_rfl) (oN <| oY <| oY <| oY <| oY Zf) rfl (by decide) (by rfl) (fun _ => ⟨rr, ⟨rr, ⟨rr, ⟨rr, ⟨rr, ⟨rr, ⟨rr, trivial⟩⟩⟩⟩⟩⟩⟩) ⟨⟨rfl, ⟨[], by rfl⟩, by rfl⟩, ⟨⟨rfl, ⟨[], by rfl⟩, by rfl⟩, trivial⟩⟩
    ·
     refine Mach.ok_ite (fun g4 => ?_) (fun g4 => ?_)
     ·
      refine Mach.ok_ite (fun g5 => ?_) (fun g5 => ?_)
      ·
       exact Mach.ok_head (bK := Zg 2) (M := Ze a0 a1 a2 N) (cd := 1000000) (cm := 0) (y := (.h2m3 (true) (false) (true) : law24_ListFormsX)) (fu := 4000) (orc := (Zj [(0, true), (1, true), (2, true), (3, false), (4, true), (5, true)] [] [] [] [])) (live := [0, 1]) (tv := fun _ => [some (vi a0), some (vp 0 0), some (vp 1 0), some (vT), some (vf), some (vT), some (vq)]) (bl := [some (.cells [vn, vn, vn, vn, vn] 23), some ZaO]) (ob := [((decide (a2 ≤ (1099511627776 : Int))), true), ((decide (a2 ≥ (-1099511627776 : Int))), true), ((decide (a1 ≤ (7 : Int))), false), ((decide (a1 ≥ (0 : Int))), true), ((decide (a0 ≤ (400 : Int))), true), ((decide (a0 ≥ (0 : Int))), true)]) rfl rfl (show ∀ j ∈ Zl (Zg 2).2, j ∈ Zl (Zm 1) from by decide +kernel) (fun gv => by kernel_rfl) (oY <| oY <| oN <| oY <| oY <| oY Zf) rfl (by decide) (by rfl) (fun _ => ⟨rr, ⟨rr, ⟨rr, ⟨rr, ⟨rr, ⟨rr, ⟨rr, trivial⟩⟩⟩⟩⟩⟩⟩) ⟨⟨rfl, ⟨[], by rfl⟩, by rfl⟩, ⟨⟨rfl, ⟨[], by rfl⟩, by rfl⟩, trivial⟩⟩
      ·
       exact Mach.ok_head (bK := Zg 2) (M := Ze a0 a1 a2 N) (cd := 1000000) (cm := 0) (y := (.h2m3 (true) (false) (false) : law24_ListFormsX)) (fu := 4000) (orc := (Zj [(0, true), (1, true), (2, true), (3, false), (4, true), (5, false)] [] [] [] [])) (live := [0, 1]) (tv := fun _ => [some (vi a0), some (vp 0 0), some (vp 1 0), some (vT), some (vf), some (vf), some (vq)]) (bl := [some (.cells [vn, vn, vn, vn, vn] 23), some ZaO]) (ob := [((decide (a2 ≤ (1099511627776 : Int))), false), ((decide (a2 ≥ (-1099511627776 : Int))), true), ((decide (a1 ≤ (7 : Int))), false), ((decide (a1 ≥ (0 : Int))), true), ((decide (a0 ≤ (400 : Int))), true), ((decide (a0 ≥ (0 : Int))), true)]) rfl rfl (show ∀ j ∈ Zl (Zg 2).2, j ∈ Zl (Zm 1) from by decide +kernel) (fun gv => by kernel_rfl) (oN <| oY <| oN <| oY <| oY <| oY Zf) rfl (by decide) (by rfl) (fun _ => ⟨rr, ⟨rr, ⟨rr, ⟨rr, ⟨rr, ⟨rr, ⟨rr, trivial⟩⟩⟩⟩⟩⟩⟩) ⟨⟨rfl, ⟨[], by rfl⟩, by rfl⟩, ⟨⟨rfl, ⟨[], by rfl⟩, by rfl⟩, trivial⟩⟩
     ·
      exact Mach.ok_head (bK := Zg 2) (M := Ze a0 a1 a2 N) (cd := 1000000) (cm := 0) (y := (.h2m3 (true) (false) (false) : law24_ListFormsX)) (fu := 4000) (orc := (Zj [(0, true), (1, true), (2, true), (3, false), (4, false)] [] [] [] [])) (live := [0, 1]) (tv := fun _ => [some (vi a0), some (vp 0 0), some (vp 1 0), some (vT), some (vf), some (vf), some (vq)]) (bl := [some (.cells [vn, vn, vn, vn, vn] 23), some ZaO]) (ob := [((decide (a2 ≥ (-1099511627776 : Int))), false), ((decide (a1 ≤ (7 : Int))), false), ((decide (a1 ≥ (0 : Int))), true), ((decide (a0 ≤ (400 : Int))), true), ((decide (a0 ≥ (0 : Int))), true)]) rfl rfl (show ∀ j ∈ Zl (Zg 2).2, j ∈ Zl (Zm 1) from by decide +kernel) (fun gv => by kernel_rfl) (oN <| oN <| oY <| oY <| oY Zf) rfl (by decide) (by rfl) (fun _ => ⟨rr, ⟨rr, ⟨rr, ⟨rr, ⟨rr, ⟨rr, ⟨rr, trivial⟩⟩⟩⟩⟩⟩⟩) ⟨⟨rfl, ⟨[], by rfl⟩, by rfl⟩, ⟨⟨rfl, ⟨[], by rfl⟩, by rfl⟩, trivial⟩⟩
   ·
    refine Mach.ok_ite (fun g3 => ?_) (fun g3 => ?_)
    ·
     refine Mach.ok_ite (fun g4 => ?_) (fun g4 => ?_)
     ·
      exact Mach.ok_head (bK := Zg 2) (M := Ze a0 a1 a2 N) (cd := 1000000) (cm := 0) (y := (.h2m3 (true) (false) (true) : law24_ListFormsX)) (fu := 4000) (orc := (Zj [(0, true), (1, true), (2, false), (3, true), (4, true)] [] [] [] [])) (live := [0, 1]) (tv := fun _ => [some (vi a0), some (vp 0 0), some (vp 1 0), some (vT), some (vf), some (vT), some (vq)]) (bl := [some (.cells [vn, vn, vn, vn, vn] 23), some ZaO]) (ob := [((decide (a2 ≤ (1099511627776 : Int))), true), ((decide (a2 ≥ (-1099511627776 : Int))), true), ((decide (a1 ≥ (0 : Int))), false), ((decide (a0 ≤ (400 : Int))), true), ((decide (a0 ≥ (0 : Int))), true)]) rfl rfl (show ∀ j ∈ Zl (Zg 2).2, j ∈ Zl (Zm 1) from by decide +kernel) (fun gv => by kernel_rfl) (oY <| oY <| oN <| oY <| oY Zf) rfl (by decide) (by rfl) (fun _ => ⟨rr, ⟨rr, ⟨rr, ⟨rr, ⟨rr, ⟨rr, ⟨rr, trivial⟩⟩⟩⟩⟩⟩⟩) ⟨⟨rfl, ⟨[], by rfl⟩, by rfl⟩, ⟨⟨rfl, ⟨[], by rfl⟩, by rfl⟩, trivial⟩⟩
     ·
      exact Mach.ok_head (bK := Zg 2) (M := Ze a0 a1 a2 N) (cd := 1000000) (cm := 0) (y := (.h2m3 (true) (false) (false) : law24_ListFormsX)) (fu := 4000) (orc := (Zj [(0, true), (1, true), (2, false), (3, true), (4, false)] [] [] [] [])) (live := [0, 1]) (tv := fun _ => [some (vi a0), some (vp 0 0), some (vp 1 0), some (vT), some (vf), some (vf), some (vq)]) (bl := [some (.cells [vn, vn, vn, vn, vn] 23), some ZaO]) (ob := [((decide (a2 ≤ (1099511627776 : Int))), false), ((decide (a2 ≥ (-1099511627776 : Int))), true), ((decide (a1 ≥ (0 : Int))), false), ((decide (a0 ≤ (400 : Int))), true), ((decide (a0 ≥ (0 : Int))), true)]) rfl rfl (show ∀ j ∈ Zl (Zg 2).2, j ∈ Zl (Zm 1) from by decide +kernel) (fun gv => by kernel_rfl) (oN <| oY <| oN <| oY <| oY Zf) rfl (by decide) (by rfl) (fun _ => ⟨rr, ⟨rr, ⟨rr, ⟨rr, ⟨rr, ⟨rr, ⟨rr, trivial⟩⟩⟩⟩⟩⟩⟩) ⟨⟨rfl, ⟨[], by rfl⟩, by rfl⟩, ⟨⟨rfl, ⟨[], by rfl⟩, by rfl⟩, trivial⟩⟩
    ·
     exact Mach.ok_head (bK := Zg 2) (M := Ze a0 a1 a2 N) (cd := 1000000) (cm := 0) (y := (.h2m3 (true) (false) (false) : law24_ListFormsX)) (fu := 4000) (orc := (Zj [(0, true), (1, true), (2, false), (3, false)] [] [] [] [])) (live := [0, 1]) (tv := fun _ => [some (vi a0), some (vp 0 0), some (vp 1 0), some (vT), some (vf), some (vf), some (vq)]) (bl := [some (.cells [vn, vn, vn, vn, vn] 23), some ZaO]) (ob := [((decide (a2 ≥ (-1099511627776 : Int))), false), ((decide (a1 ≥ (0 : Int))), false), ((decide (a0 ≤ (400 : Int))), true), ((decide (a0 ≥ (0 : Int))), true)]) rfl rfl (show ∀ j ∈ Zl (Zg 2).2, j ∈ Zl (Zm 1) from by decide +kernel) (fun gv => by kernel_rfl) (oN <| oN <| oY <| oY Zf) rfl (by decide) (by rfl) (fun _ => ⟨rr, ⟨rr, ⟨rr, ⟨rr, ⟨rr, ⟨rr, ⟨rr, trivial⟩⟩⟩⟩⟩⟩⟩) ⟨⟨rfl, ⟨[], by rfl⟩, by rfl⟩, ⟨⟨rfl, ⟨[], by rfl⟩, by rfl⟩, trivial⟩⟩
  ·
   refine Mach.ok_ite (fun g2 => ?_) (fun g2 => ?_)
   ·
    refine Mach.ok_ite (fun g3 => ?_) (fun g3 => ?_)
    ·
     refine Mach.ok_ite (fun g4 => ?_) (fun g4 => ?_)
     ·
      refine Mach.ok_ite (fun g5 => ?_) (fun g5 => ?_)
      ·
       exact Mach.ok_head (bK := Zg 2) (M := Ze a0 a1 a2 N) (cd := 1000000) (cm := 0) (y := (.h2m3 (false) (true) (true) : law24_ListFormsX)) (fu := 4000) (orc := (Zj [(0, true), (1, false), (2, true), (3, true), (4, true), (5, true)] [] [] [] [])) (live := [0, 1]) (tv := fun _ => [some (vi a0), some (vp 0 0), some (vp 1 0), some (vf), some (vT), some (vT), some (vq)]) (bl := [some (.cells [vn, vn, vn, vn, vn] 23), some ZaO]) (ob := [((decide (a2 ≤ (1099511627776 : Int))), true), ((decide (a2 ≥ (-1099511627776 : Int))), true), ((decide (a1 ≤ (7 : Int))), true), ((decide (a1 ≥ (0 : Int))), true), ((decide (a0 ≤ (400 : Int))), false), ((decide (a0 ≥ (0 : Int))), true)]) rfl rfl (show ∀ j ∈ Zl (Zg 2).2, j ∈ Zl (Zm 1) from by decide +kernel) (fun gv => by kernel_rfl) (oY <| oY <| oY <| oY <| oN <| oY Zf) rfl (by decide) (by rfl) (fun _ => ⟨rr, ⟨rr, ⟨rr, ⟨rr, ⟨rr, ⟨rr, ⟨rr, trivial⟩⟩⟩⟩⟩⟩⟩) ⟨⟨rfl, ⟨[], by rfl⟩, by rfl⟩, ⟨⟨rfl, ⟨[], by rfl⟩, by rfl⟩, trivial⟩⟩
      ·
       exact Mach.ok_head (bK := Zg 2) (M := Ze a0 a1 a2 N) (cd := 1000000) (cm := 0) (y := (.h2m3 (false) (true) (false) : law24_ListFormsX)) (fu := 4000) (orc := (Zj [(0, true), (1, false), (2, true), (3, true), (4, true), (5, false)] [] [] [] [])) (live := [0, 1]) (tv := fun _ => [some (vi a0), some (vp 0 0), some (vp 1 0), some (vf), some (vT), some (vf), some (vq)]) (bl := [some (.cells [vn, vn, vn, vn, vn] 23), some ZaO]) (ob := [((decide (a2 ≤ (1099511627776 : Int))), false), ((decide (a2 ≥ (-1099511627776 : Int))), true), ((decide (a1 ≤ (7 : Int))), true), ((decide (a1 ≥ (0 : Int))), true), ((decide (a0 ≤ (400 : Int))), false), ((decide (a0 ≥ (0 : Int))), true)]) rfl rfl (show ∀ j ∈ Zl (Zg 2).2, j ∈ Zl (Zm 1) from by decide +kernel) (fun gv => by kernel_rfl) (oN <| oY <| oY <| oY <| oN <| oY Zf) rfl (by decide) (by rfl) (fun _ => ⟨rr, ⟨rr, ⟨rr, ⟨rr, ⟨rr, ⟨rr, ⟨rr, trivial⟩⟩⟩⟩⟩⟩⟩) ⟨⟨rfl, ⟨[], by rfl⟩, by rfl⟩, ⟨⟨rfl, ⟨[], by rfl⟩, by rfl⟩, trivial⟩⟩
     ·
      exact Mach.ok_head (bK := Zg 2) (M := Ze a0 a1 a2 N) (cd := 1000000) (cm := 0) (y := (.h2m3 (false) (true) (false) : law24_ListFormsX)) (fu := 4000) (orc := (Zj [(0, true), (1, false), (2, true), (3, true), (4, false)] [] [] [] [])) (live := [0, 1]) (tv := fun _ => [some (vi a0), some (vp 0 0), some (vp 1 0), some (vf), some (vT), some (vf), some (vq)]) (bl := [some (.cells [vn, vn, vn, vn, vn] 23), some ZaO]) (ob := [((decide (a2 ≥ (-1099511627776 : Int))), false), ((decide (a1 ≤ (7 : Int))), true), ((decide (a1 ≥ (0 : Int))), true), ((decide (a0 ≤ (400 : Int))), false), ((decide (a0 ≥ (0 : Int))), true)]) rfl rfl (show ∀ j ∈ Zl (Zg 2).2, j ∈ Zl (Zm 1) from by decide +kernel) (fun gv => by kernel_rfl) (oN <| oY <| oY <| oN <| oY Zf) rfl (by decide) (by rfl) (fun _ => ⟨rr, ⟨rr, ⟨rr, ⟨rr, ⟨rr, ⟨rr, ⟨rr, trivial⟩⟩⟩⟩⟩⟩⟩) ⟨⟨rfl, ⟨[], by rfl⟩, by rfl⟩, ⟨⟨rfl, ⟨[], by rfl⟩, by rfl⟩, trivial⟩⟩
    ·
     refine Mach.ok_ite (fun g4 => ?_) (fun g4 => ?_)
     ·
      refine Mach.ok_ite (fun g5 => ?_) (fun g5 => ?_)
      ·
       exact Mach.ok_head (bK := Zg 2) (M := Ze a0 a1 a2 N) (cd := 1000000) (cm := 0) (y := (.h2m3 (false) (false) (true) : law24_ListFormsX)) (fu := 4000) (orc := (Zj [(0, true), (1, false), (2, true), (3, false), (4, true), (5, true)] [] [] [] [])) (live := [0, 1]) (tv := fun _ => [some (vi a0), some (vp 0 0), some (vp 1 0), some (vf), some (vf), some (vT), some (vq)]) (bl := [some (.cells [vn, vn, vn, vn, vn] 23), some ZaO]) (ob := [((decide (a2 ≤ (1099511627776 : Int))), true), ((decide (a2 ≥ (-1099511627776 : Int))), true), ((decide (a1 ≤ (7 : Int))), false), ((decide (a1 ≥ (0 : Int))), true), ((decide (a0 ≤ (400 : Int))), false), ((decide (a0 ≥ (0 : Int))), true)]) rfl rfl (show ∀ j ∈ Zl (Zg 2).2, j ∈ Zl (Zm 1) from by decide +kernel) (fun gv => by kernel_rfl) (oY <| oY <| oN <| oY <| oN <| oY Zf) rfl (by decide) (by rfl) (fun _ => ⟨rr, ⟨rr, ⟨rr, ⟨rr, ⟨rr, ⟨rr, ⟨rr, trivial⟩⟩⟩⟩⟩⟩⟩) ⟨⟨rfl, ⟨[], by rfl⟩, by rfl⟩, ⟨⟨rfl, ⟨[], by rfl⟩, by rfl⟩, trivial⟩⟩
      ·
       exact Mach.ok_head (bK := Zg 2) (M := Ze a0 a1 a2 N) (cd := 1000000) (cm := 0) (y := (.h2m3 (false) (false) (false) : law24_ListFormsX)) (fu := 4000) (orc := (Zj [(0, true), (1, false), (2, true), (3, false), (4, true), (5, false)] [] [] [] [])) (live := [0, 1]) (tv := fun _ => [some (vi a0), some (vp 0 0), some (vp 1 0), some (vf), some (vf), some (vf), some (vq)]) (bl := [some (.cells [vn, vn, vn, vn, vn] 23), some ZaO]) (ob := [((decide (a2 ≤ (1099511627776 : Int))), false), ((decide (a2 ≥ (-1099511627776 : Int))), true), ((decide (a1 ≤ (7 : Int))), false), ((decide (a1 ≥ (0 : Int))), true), ((decide (a0 ≤ (400 : Int))), false), ((decide (a0 ≥ (0 : Int))), true)]) rfl rfl (show ∀ j ∈ Zl (Zg 2).2, j ∈ Zl (Zm 1) from by decide +kernel) (fun gv => by kernel_rfl) (oN <| oY <| oN <| oY <| oN <| oY Zf) rfl (by decide) (by rfl) (fun _ => ⟨rr, ⟨rr, ⟨rr, ⟨rr, ⟨rr, ⟨rr, ⟨rr, trivial⟩⟩⟩⟩⟩⟩⟩) ⟨⟨rfl, ⟨[], by rfl⟩, by rfl⟩, ⟨⟨rfl, ⟨[], by rfl⟩, by rfl⟩, trivial⟩⟩
     ·
      exact Mach.ok_head (bK := Zg 2) (M := Ze a0 a1 a2 N) (cd := 1000000) (cm := 0) (y := (.h2m3 (false) (false) (false) : law24_ListFormsX)) (fu := 4000) (orc := (Zj [(0, true), (1, false), (2, true), (3, false), (4, false)] [] [] [] [])) (live := [0, 1]) (tv := fun _ => [some (vi a0), some (vp 0 0), some (vp 1 0), some (vf), some (vf), some (vf), some (vq)]) (bl := [some (.cells [vn, vn, vn, vn, vn] 23), some ZaO]) (ob := [((decide (a2 ≥ (-1099511627776 : Int))), false), ((decide (a1 ≤ (7 : Int))), false), ((decide (a1 ≥ (0 : Int))), true), ((decide (a0 ≤ (400 : Int))), false), ((decide (a0 ≥ (0 : Int))), true)]) rfl rfl (show ∀ j ∈ Zl (Zg 2).2, j ∈ Zl (Zm 1) from by decide +kernel) (fun gv => by kernel_rfl) (oN <| oN <| oY <| oN <| oY Zf) rfl (by decide) (by rfl) (fun _ => ⟨rr, ⟨rr, ⟨rr, ⟨rr, ⟨rr, ⟨rr, ⟨rr, trivial⟩⟩⟩⟩⟩⟩⟩) ⟨⟨rfl, ⟨[], by rfl⟩, by rfl⟩, ⟨⟨rfl, ⟨[], by rfl⟩, by rfl⟩, trivial⟩⟩
   ·
    refine Mach.ok_ite (fun g3 => ?_) (fun g3 => ?_)
    ·
     refine Mach.ok_ite (fun g4 => ?_) (fun g4 => ?_)
     ·
      exact Mach.ok_head (bK := Zg 2) (M := Ze a0 a1 a2 N) (cd := 1000000) (cm := 0) (y := (.h2m3 (false) (false) (true) : law24_ListFormsX)) (fu := 4000) (orc := (Zj [(0, true), (1, false), (2, false), (3, true), (4, true)] [] [] [] [])) (live := [0, 1]) (tv := fun _ => [some (vi a0), some (vp 0 0), some (vp 1 0), some (vf), some (vf), some (vT), some (vq)]) (bl := [some (.cells [vn, vn, vn, vn, vn] 23), some ZaO]) (ob := [((decide (a2 ≤ (1099511627776 : Int))), true), ((decide (a2 ≥ (-1099511627776 : Int))), true), ((decide (a1 ≥ (0 : Int))), false), ((decide (a0 ≤ (400 : Int))), false), ((decide (a0 ≥ (0 : Int))), true)]) rfl rfl (show ∀ j ∈ Zl (Zg 2).2, j ∈ Zl (Zm 1) from by decide +kernel) (fun gv => by kernel_rfl) (oY <| oY <| oN <| oN <| oY Zf) rfl (by decide) (by rfl) (fun _ => ⟨rr, ⟨rr, ⟨rr, ⟨rr, ⟨rr, ⟨rr, ⟨rr, trivial⟩⟩⟩⟩⟩⟩⟩) ⟨⟨rfl, ⟨[], by rfl⟩, by rfl⟩, ⟨⟨rfl, ⟨[], by rfl⟩, by rfl⟩, trivial⟩⟩
     ·
      exact Mach.ok_head (bK := Zg 2) (M := Ze a0 a1 a2 N) (cd := 1000000) (cm := 0) (y := (.h2m3 (false) (false) (false) : law24_ListFormsX)) (fu := 4000) (orc := (Zj [(0, true), (1, false), (2, false), (3, true), (4, false)] [] [] [] [])) (live := [0, 1]) (tv := fun _ => [some (vi a0), some (vp 0 0), some (vp 1 0), some (vf), some (vf), some (vf), some (vq)]) (bl := [some (.cells [vn, vn, vn, vn, vn] 23), some ZaO]) (ob := [((decide (a2 ≤ (1099511627776 : Int))), false), ((decide (a2 ≥ (-1099511627776 : Int))), true), ((decide (a1 ≥ (0 : Int))), false), ((decide (a0 ≤ (400 : Int))), false), ((decide (a0 ≥ (0 : Int))), true)]) rfl rfl (show ∀ j ∈ Zl (Zg 2).2, j ∈ Zl (Zm 1) from by decide +kernel) (fun gv => by kernel_rfl) (oN <| oY <| oN <| oN <| oY Zf) rfl (by decide) (by rfl) (fun _ => ⟨rr, ⟨rr, ⟨rr, ⟨rr, ⟨rr, ⟨rr, ⟨rr, trivial⟩⟩⟩⟩⟩⟩⟩) ⟨⟨rfl, ⟨[], by rfl⟩, by rfl⟩, ⟨⟨rfl, ⟨[], by rfl⟩, by rfl⟩, trivial⟩⟩
    ·
     exact Mach.ok_head (bK := Zg 2) (M := Ze a0 a1 a2 N) (cd := 1000000) (cm := 0) (y := (.h2m3 (false) (false) (false) : law24_ListFormsX)) (fu := 4000) (orc := (Zj [(0, true), (1, false), (2, false), (3, false)] [] [] [] [])) (live := [0, 1]) (tv := fun _ => [some (vi a0), some (vp 0 0), some (vp 1 0), some (vf), some (vf), some (vf), some (vq)]) (bl := [some (.cells [vn, vn, vn, vn, vn] 23), some ZaO]) (ob := [((decide (a2 ≥ (-1099511627776 : Int))), false), ((decide (a1 ≥ (0 : Int))), false), ((decide (a0 ≤ (400 : Int))), false), ((decide (a0 ≥ (0 : Int))), true)]) rfl rfl (show ∀ j ∈ Zl (Zg 2).2, j ∈ Zl (Zm 1) from by decide +kernel) (fun gv => by kernel_rfl) (oN <| oN <| oN <| oY Zf) rfl (by decide) (by rfl) (fun _ => ⟨rr, ⟨rr, ⟨rr, ⟨rr, ⟨rr, ⟨rr, ⟨rr, trivial⟩⟩⟩⟩⟩⟩⟩) ⟨⟨rfl, ⟨[], by rfl⟩, by rfl⟩, ⟨⟨rfl, ⟨[], by rfl⟩, by rfl⟩, trivial⟩⟩
 ·
  refine Mach.ok_ite (fun g1 => ?_) (fun g1 => ?_)
  ·
   refine Mach.ok_ite (fun g2 => ?_) (fun g2 => ?_)
   ·
    refine Mach.ok_ite (fun g3 => ?_) (fun g3 => ?_)
    ·
     refine Mach.ok_ite (fun g4 => ?_) (fun g4 => ?_)
     ·
      exact Mach.ok_head (bK := Zg 2) (M := Ze a0 a1 a2 N) (cd := 1000000) (cm := 0) (y := (.h2m3 (false) (true) (true) : law24_ListFormsX)) (fu := 4000) (orc := (Zj [(0, false), (1, true), (2, true), (3, true), (4, true)] [] [] [] [])) (live := [0, 1]) (tv := fun _ => [some (vi a0), some (vp 0 0), some (vp 1 0), some (vf), some (vT), some (vT), some (vq)]) (bl := [some (.cells [vn, vn, vn, vn, vn] 23), some ZaO]) (ob := [((decide (a2 ≤ (1099511627776 : Int))), true), ((decide (a2 ≥ (-1099511627776 : Int))), true), ((decide (a1 ≤ (7 : Int))), true), ((decide (a1 ≥ (0 : Int))), true), ((decide (a0 ≥ (0 : Int))), false)]) rfl rfl (show ∀ j ∈ Zl (Zg 2).2, j ∈ Zl (Zm 1) from by decide +kernel) (fun gv => by kernel_rfl) (oY <| oY <| oY <| oY <| oN Zf) rfl (by decide) (by rfl) (fun _ => ⟨rr, ⟨rr, ⟨rr, ⟨rr, ⟨rr, ⟨rr, ⟨rr, trivial⟩⟩⟩⟩⟩⟩⟩) ⟨⟨rfl, ⟨[], by rfl⟩, by rfl⟩, ⟨⟨rfl, ⟨[], by rfl⟩, by rfl⟩, trivial⟩⟩
     ·
      exact Mach.ok_head (bK := Zg 2) (M := Ze a0 a1 a2 N) (cd := 1000000) (cm := 0) (y := (.h2m3 (false) (true) (false) : law24_ListFormsX)) (fu := 4000) (orc := (Zj [(0, false), (1, true), (2, true), (3, true), (4, false)] [] [] [] [])) (live := [0, 1]) (tv := fun _ => [some (vi a0), some (vp 0 0), some (vp 1 0), some (vf), some (vT), some (vf), some (vq)]) (bl := [some (.cells [vn, vn, vn, vn, vn] 23), some ZaO]) (ob := [((decide (a2 ≤ (1099511627776 : Int))), false), ((decide (a2 ≥ (-1099511627776 : Int))), true), ((decide (a1 ≤ (7 : Int))), true), ((decide (a1 ≥ (0 : Int))), true), ((decide (a0 ≥ (0 : Int))), false)]) rfl rfl (show ∀ j ∈ Zl (Zg 2).2, j ∈ Zl (Zm 1) from by decide +kernel) (fun gv => by kernel_rfl) (oN <| oY <| oY <| oY <| oN Zf) rfl (by decide) (by rfl) (fun _ => ⟨rr, ⟨rr, ⟨rr, ⟨rr, ⟨rr, ⟨rr, ⟨rr, trivial⟩⟩⟩⟩⟩⟩⟩) ⟨⟨rfl, ⟨[], by rfl⟩, by rfl⟩, ⟨⟨rfl, ⟨[], by rfl⟩, by rfl⟩, trivial⟩⟩
    ·
     exact Mach.ok_head (bK := Zg 2) (M := Ze a0 a1 a2 N) (cd := 1000000) (cm := 0) (y := (.h2m3 (false) (true) (false) : law24_ListFormsX)) (fu := 4000) (orc := (Zj [(0, false), (1, true), (2, true), (3, false)] [] [] [] [])) (live := [0, 1]) (tv := fun _ => [some (vi a0), some (vp 0 0), some (vp 1 0), some (vf), some (vT), some (vf), some (vq)]) (bl := [some (.cells [vn, vn, vn, vn, vn] 23), some ZaO]) (ob := [((decide (a2 ≥ (-1099511627776 : Int))), false), ((decide (a1 ≤ (7 : Int))), true), ((decide (a1 ≥ (0 : Int))), true), ((decide (a0 ≥ (0 : Int))), false)]) rfl rfl (show ∀ j ∈ Zl (Zg 2).2, j ∈ Zl (Zm 1) from by decide +kernel) (fun gv => by kernel_rfl) (oN <| oY <| oY <| oN Zf) rfl (by decide) (by rfl) (fun _ => ⟨rr, ⟨rr, ⟨rr, ⟨rr, ⟨rr, ⟨rr, ⟨rr, trivial⟩⟩⟩⟩⟩⟩⟩) ⟨⟨rfl, ⟨[], by rfl⟩, by rfl⟩, ⟨⟨rfl, ⟨[], by rfl⟩, by rfl⟩, trivial⟩⟩
   ·
    refine Mach.ok_ite (fun g3 => ?_) (fun g3 => ?_)
    ·
     refine Mach.ok_ite (fun g4 => ?_) (fun g4 => ?_)
     ·
      exact Mach.ok_head (bK := Zg 2) (M := Ze a0 a1 a2 N) (cd := 1000000) (cm := 0) (y := (.h2m3 (false) (false) (true) : law24_ListFormsX)) (fu := 4000) (orc := (Zj [(0, false), (1, true), (2, false), (3, true), (4, true)] [] [] [] [])) (live := [0, 1]) (tv := fun _ => [some (vi a0), some (vp 0 0), some (vp 1 0), some (vf), some (vf), some (vT), some (vq)]) (bl := [some (.cells [vn, vn, vn, vn, vn] 23), some ZaO]) (ob := [((decide (a2 ≤ (1099511627776 : Int))), true), ((decide (a2 ≥ (-1099511627776 : Int))), true), ((decide (a1 ≤ (7 : Int))), false), ((decide (a1 ≥ (0 : Int))), true), ((decide (a0 ≥ (0 : Int))), false)]) rfl rfl (show ∀ j ∈ Zl (Zg 2).2, j ∈ Zl (Zm 1) from by decide +kernel) (fun gv => by kernel_rfl) (oY <| oY <| oN <| oY <| oN Zf) rfl (by decide) (by rfl) (fun _ => ⟨rr, ⟨rr, ⟨rr, ⟨rr, ⟨rr, ⟨rr, ⟨rr, trivial⟩⟩⟩⟩⟩⟩⟩) ⟨⟨rfl, ⟨[], by rfl⟩, by rfl⟩, ⟨⟨rfl, ⟨[], by rfl⟩, by rfl⟩, trivial⟩⟩
     ·
      exact Mach.ok_head (bK := Zg 2) (M := Ze a0 a1 a2 N) (cd := 1000000) (cm := 0) (y := (.h2m3 (false) (false) (false) : law24_ListFormsX)) (fu := 4000) (orc := (Zj [(0, false), (1, true), (2, false), (3, true), (4, false)] [] [] [] [])) (live := [0, 1]) (tv := fun _ => [some (vi a0), some (vp 0 0), some (vp 1 0), some (vf), some (vf), some (vf), some (vq)]) (bl := [some (.cells [vn, vn, vn, vn, vn] 23), some ZaO]) (ob := [((decide (a2 ≤ (1099511627776 : Int))), false), ((decide (a2 ≥ (-1099511627776 : Int))), true), ((decide (a1 ≤ (7 : Int))), false), ((decide (a1 ≥ (0 : Int))), true), ((decide (a0 ≥ (0 : Int))), false)]) rfl rfl (show ∀ j ∈ Zl (Zg 2).2, j ∈ Zl (Zm 1) from by decide +kernel) (fun gv => by kernel_rfl) (oN <| oY <| oN <| oY <| oN Zf) rfl (by decide) (by rfl) (fun _ => ⟨rr, ⟨rr, ⟨rr, ⟨rr, ⟨rr, ⟨rr, ⟨rr, trivial⟩⟩⟩⟩⟩⟩⟩) ⟨⟨rfl, ⟨[], by rfl⟩, by rfl⟩, ⟨⟨rfl, ⟨[], by rfl⟩, by rfl⟩, trivial⟩⟩
    ·
     exact Mach.ok_head (bK := Zg 2) (M := Ze a0 a1 a2 N) (cd := 1000000) (cm := 0) (y := (.h2m3 (false) (false) (false) : law24_ListFormsX)) (fu := 4000) (orc := (Zj [(0, false), (1, true), (2, false), (3, false)] [] [] [] [])) (live := [0, 1]) (tv := fun _ => [some (vi a0), some (vp 0 0), some (vp 1 0), some (vf), some (vf), some (vf), some (vq)]) (bl := [some (.cells [vn, vn, vn, vn, vn] 23), some ZaO]) (ob := [((decide (a2 ≥ (-1099511627776 : Int))), false), ((decide (a1 ≤ (7 : Int))), false), ((decide (a1 ≥ (0 : Int))), true), ((decide (a0 ≥ (0 : Int))), false)]) rfl rfl (show ∀ j ∈ Zl (Zg 2).2, j ∈ Zl (Zm 1) from by decide +kernel) (fun gv => by kernel_rfl) (oN <| oN <| oY <| oN Zf) rfl (by decide) (by rfl) (fun _ => ⟨rr, ⟨rr, ⟨rr, ⟨rr, ⟨rr, ⟨rr, ⟨rr, trivial⟩⟩⟩⟩⟩⟩⟩) ⟨⟨rfl, ⟨[], by rfl⟩, by rfl⟩, ⟨⟨rfl, ⟨[], by rfl⟩, by rfl⟩, trivial⟩⟩
  ·
   refine Mach.ok_ite (fun g2 => ?_) (fun g2 => ?_)
   ·
    refine Mach.ok_ite (fun g3 => ?_) (fun g3 => ?_)
    ·
     exact Mach.ok_head (bK := Zg 2) (M := Ze a0 a1 a2 N) (cd := 1000000) (cm := 0) (y := (.h2m3 (false) (false) (true) : law24_ListFormsX)) (fu := 4000) (orc := (Zj [(0, false), (1, false), (2, true), (3, true)] [] [] [] [])) (live := [0, 1]) (tv := fun _ => [some (vi a0), some (vp 0 0), some (vp 1 0), some (vf), some (vf), some (vT), some (vq)]) (bl := [some (.cells [vn, vn, vn, vn, vn] 23), some ZaO]) (ob := [((decide (a2 ≤ (1099511627776 : Int))), true), ((decide (a2 ≥ (-1099511627776 : Int))), true), ((decide (a1 ≥ (0 : Int))), false), ((decide (a0 ≥ (0 : Int))), false)]) rfl rfl (show ∀ j ∈ Zl (Zg 2).2, j ∈ Zl (Zm 1) from by decide +kernel) (fun gv => by kernel_rfl) (oY <| oY <| oN <| oN Zf) rfl (by decide) (by rfl) (fun _ => ⟨rr, ⟨rr, ⟨rr, ⟨rr, ⟨rr, ⟨rr, ⟨rr, trivial⟩⟩⟩⟩⟩⟩⟩) ⟨⟨rfl, ⟨[], by rfl⟩, by rfl⟩, ⟨⟨rfl, ⟨[], by rfl⟩, by rfl⟩, trivial⟩⟩
    ·
     exact Mach.ok_head (bK := Zg 2) (M := Ze a0 a1 a2 N) (cd := 1000000) (cm := 0) (y := (.h2m3 (false) (false) (false) : law24_ListFormsX)) (fu := 4000) (orc := (Zj [(0, false), (1, false), (2, true), (3, false)] [] [] [] [])) (live := [0, 1]) (tv := fun _ => [some (vi a0), some (vp 0 0), some (vp 1 0), some (vf), some (vf), some (vf), some (vq)]) (bl := [some (.cells [vn, vn, vn, vn, vn] 23), some ZaO]) (ob := [((decide (a2 ≤ (1099511627776 : Int))), false), ((decide (a2 ≥ (-1099511627776 : Int))), true), ((decide (a1 ≥ (0 : Int))), false), ((decide (a0 ≥ (0 : Int))), false)]) rfl rfl (show ∀ j ∈ Zl (Zg 2).2, j ∈ Zl (Zm 1) from by decide +kernel) (fun gv => by kernel_rfl) (oN <| oY <| oN <| oN Zf) rfl (by decide) (by rfl) (fun _ => ⟨rr, ⟨rr, ⟨rr, ⟨rr, ⟨rr, ⟨rr, ⟨rr, trivial⟩⟩⟩⟩⟩⟩⟩) ⟨⟨rfl, ⟨[], by rfl⟩, by rfl⟩, ⟨⟨rfl, ⟨[], by rfl⟩, by rfl⟩, trivial⟩⟩
   ·
    exact Mach.ok_head (bK := Zg 2) (M := Ze a0 a1 a2 N) (cd := 1000000) (cm := 0) (y := (.h2m3 (false) (false) (false) : law24_ListFormsX)) (fu := 4000) (orc := (Zj [(0, false), (1, false), (2, false)] [] [] [] [])) (live := [0, 1]) (tv := fun _ => [some (vi a0), some (vp 0 0), some (vp 1 0), some (vf), some (vf), some (vf), some (vq)]) (bl := [some (.cells [vn, vn, vn, vn, vn] 23), some ZaO]) (ob := [((decide (a2 ≥ (-1099511627776 : Int))), false), ((decide (a1 ≥ (0 : Int))), false), ((decide (a0 ≥ (0 : Int))), false)]) rfl rfl (show ∀ j ∈ Zl (Zg 2).2, j ∈ Zl (Zm 1) from by decide +kernel) (fun gv => by kernel_rfl) (oN <| oN <| oN Zf) rfl (by decide) (by rfl) (fun _ => ⟨rr, ⟨rr, ⟨rr, ⟨rr, ⟨rr, ⟨rr, ⟨rr, trivial⟩⟩⟩⟩⟩⟩⟩) ⟨⟨rfl, ⟨[], by rfl⟩, by rfl⟩, ⟨⟨rfl, ⟨[], by rfl⟩, by rfl⟩, trivial⟩⟩

theorem Ziq (a0 a1 a2 : Int) (v4 v5 v6 v7 v8 : List RA) (N : Nat) : (Ze a0 a1 a2 N).Ok Tryz.prog Zs (.h2m0 v4 v5 v6 v7 v8 : law24_ListFormsX) (Zu a0 a1 a2 N (.h2m0 v4 v5 v6 v7 v8 : law24_ListFormsX)) := by
 show (Ze a0 a1 a2 N).Ok Tryz.prog Zs (.h2m0 v4 v5 v6 v7 v8 : law24_ListFormsX) (Zcd a0 a1 a2 N v4 v5 v6 v7 v8)
 unfold Zcd
 refine Mach.ok_ite (fun g0 => ?_) (fun g0 => ?_)
 ·
  exact Mach.ok_fin (M := Ze a0 a1 a2 N) (cd := 1000000) (cm := 0) (r := (.r0 (false) : Zi)) (fu := 4000) (orc := (Zj [(3, true)] [] [] [] [])) (live := []) (u := vf) (bl := []) (ob := [((decide ((v4.length : Int) < (1 : Int))), true)]) (fun gv => by kernel_rfl) (oY Zf) rfl (by decide) (by rfl) rr trivial
 ·
  refine Mach.ok_ite (fun g1 => ?_) (fun g1 => ?_)
  ·
   exact Mach.ok_fin (M := Ze a0 a1 a2 N) (cd := 1000000) (cm := 0) (r := (.r0 (false) : Zi)) (fu := 4000) (orc := (Zj [(3, false), (4, true)] [] [] [] [])) (live := []) (u := vf) (bl := []) (ob := [((decide ((v4.length : Int) > (60 : Int))), true), ((decide ((v4.length : Int) < (1 : Int))), false)]) (fun gv => by kernel_rfl) (oY <| oN Zf) rfl (by decide) (by rfl) rr trivial
  ·
   refine Mach.ok_bind (fun z2 c2 => ?_)
   cases z2 with
   | r0 y2_0 =>
    refine Mach.ok_ite (fun g3 => ?_) (fun g3 => ?_)
    ·
     exact Mach.ok_fin (M := Ze a0 a1 a2 N) (cd := 1000000) (cm := 0) (r := (.r0 (false) : Zi)) (fu := 4000) (orc := (Zj [(3, false), (4, false), (6, true)] [] [] [] [(0, (Zbd (v4) (a0)  y2_0 2 7))])) (live := []) (u := vf) (bl := []) (ob := [((!y2_0), true), (dP (ZaL #[vs 2 0 v4.length v4.length, vi a0, vf] (v4) (a0)  y2_0 2 7), true), (dS (Zc Zb v4), true), ((decide ((v4.length : Int) > (60 : Int))), false), ((decide ((v4.length : Int) < (1 : Int))), false)]) (fun gv => by kernel_rfl) (Zd (ZcI (by first | assumption | simp_all)) <| Zd (Zk (Zbe #[vs 2 0 v4.length v4.length, vi a0, vf] (v4) (a0)  y2_0 N c2 2 7 rfl (by decide) (by decide))) <| oR <| oN <| oN Zf) rfl (by decide) (by rfl) rr trivial
    ·
     exact Mach.ok_next (M := Ze a0 a1 a2 N) (cd := 1000000) (cm := 0) (y := (.h2m4 (v4) (v5) (v6) (v7) (v8) : law24_ListFormsX)) (fu := 4000) (orc := (Zj [(3, false), (4, false), (6, false)] [] [] [] [(0, (Zbd (v4) (a0)  y2_0 2 7))])) (live := [0, 1, 2, 3, 4, 5, 6]) (tv := fun _ => [some (vi a0), some (vp 0 0), some (vp 1 0), some (vT), some (vT), some (vT), some (vi (1 : Int))]) (bl := [some (.cells [vs 2 0 v4.length v4.length, vs 3 0 v5.length v5.length, vs 4 0 v6.length v6.length, vs 5 0 v7.length v7.length, vs 6 0 v8.length v8.length] 23), some (.cells [vq, vq, vq, vq, vq] 25), some (.cells (Zc Zb v4) 54), some (.cells (Zc Zb v5) 54), some (.cells (Zc Zb v6) 54), some (.cells (Zc Zb v7) 54), some (.cells (Zc Zb v8) 54)]) (ob := [((!y2_0), false), (dP (ZaL #[vs 2 0 v4.length v4.length, vi a0, vf] (v4) (a0)  y2_0 2 7), true), (dS (Zc Zb v4), true), ((decide ((v4.length : Int) > (60 : Int))), false), ((decide ((v4.length : Int) < (1 : Int))), false)]) rfl (show 2 ∈ Zl (Zm 2) from by decide +kernel) (fun gv => by kernel_rfl) (Zd (Zc1 (by first | assumption | exact Decidable.not_not.1 (by assumption) | simp_all)) <| Zd (Zk (Zbe #[vs 2 0 v4.length v4.length, vi a0, vf] (v4) (a0)  y2_0 N c2 2 7 rfl (by decide) (by decide))) <| oR <| oN <| oN Zf) rfl (by decide) (by rfl) (fun _ => ⟨rr, ⟨rr, ⟨rr, ⟨rr, ⟨rr, ⟨rr, ⟨rr, trivial⟩⟩⟩⟩⟩⟩⟩) ⟨⟨rfl, ⟨[], by rfl⟩, by rfl⟩, ⟨⟨rfl, ⟨[], by rfl⟩, by rfl⟩, ⟨(Zh (E := Zb) (α := RA) _ v4 _), ⟨(Zh (E := Zb) (α := RA) _ v5 _), ⟨(Zh (E := Zb) (α := RA) _ v6 _), ⟨(Zh (E := Zb) (α := RA) _ v7 _), ⟨(Zh (E := Zb) (α := RA) _ v8 _), trivial⟩⟩⟩⟩⟩⟩⟩

theorem Zir (a0 a1 a2 : Int) (v3 : Bool) (v4 v5 : List RA) (N : Nat) : (Ze a0 a1 a2 N).Ok Tryz.prog Zs (.h2m1 v3 v4 v5 : law24_ListFormsX) (Zu a0 a1 a2 N (.h2m1 v3 v4 v5 : law24_ListFormsX)) := by
 show (Ze a0 a1 a2 N).Ok Tryz.prog Zs (.h2m1 v3 v4 v5 : law24_ListFormsX) (Zce a0 a1 a2 N v3 v4 v5)
 unfold Zce
 refine Mach.ok_ite (fun g0 => ?_) (fun g0 => ?_)
 ·
  subst g0
  exact Mach.ok_none
 ·
  obtain rfl : v3 = false := by simpa using g0
  exact Mach.ok_next (M := Ze a0 a1 a2 N) (cd := 1000000) (cm := 0) (y := (.h2m5 (v4) (v5) : law24_ListFormsX)) (fu := 4000) (orc := (Zj [] [] [] [] [])) (live := [0, 1, 2, 3]) (tv := fun _ => [some (vi a0), some (vp 0 0), some (vp 1 0), some (vT), some (vT), some (vf), some (vi (1 : Int))]) (bl := [some (.cells [vn, vn, vn, vs 2 0 v4.length v4.length, vs 3 0 v5.length v5.length] 23), some (.cells [vi (240 : Int), vi (240 : Int), vi (240 : Int), vq, vq] 25), some (.cells (Zc Zb v4) 54), some (.cells (Zc Zb v5) 54)]) (ob := []) rfl (show 2 ∈ Zl (Zm 2) from by decide +kernel) (fun gv => by kernel_rfl) Zf rfl (by decide) (by rfl) (fun _ => ⟨rr, ⟨rr, ⟨rr, ⟨rr, ⟨rr, ⟨rr, ⟨rr, trivial⟩⟩⟩⟩⟩⟩⟩) ⟨⟨rfl, ⟨[], by rfl⟩, by rfl⟩, ⟨⟨rfl, ⟨[], by rfl⟩, by rfl⟩, ⟨(Zh (E := Zb) (α := RA) _ v4 _), ⟨(Zh (E := Zb) (α := RA) _ v5 _), trivial⟩⟩⟩⟩

theorem Zis (a0 a1 a2 : Int) (v2 v3 : Bool) (v4 : List RA) (N : Nat) : (Ze a0 a1 a2 N).Ok Tryz.prog Zs (.h2m2 v2 v3 v4 : law24_ListFormsX) (Zu a0 a1 a2 N (.h2m2 v2 v3 v4 : law24_ListFormsX)) := by
 show (Ze a0 a1 a2 N).Ok Tryz.prog Zs (.h2m2 v2 v3 v4 : law24_ListFormsX) (Zcf a0 a1 a2 N v2 v3 v4)
 unfold Zcf
 refine Mach.ok_ite (fun g0 => ?_) (fun g0 => ?_)
 ·
  subst g0
  exact Mach.ok_none
 ·
  obtain rfl : v2 = false := by simpa using g0
  exact Mach.ok_next (M := Ze a0 a1 a2 N) (cd := 1000000) (cm := 0) (y := (.h2m6 (v3) (v4) : law24_ListFormsX)) (fu := 4000) (orc := (Zj [] [] [] [] [])) (live := [0, 1, 2]) (tv := fun _ => [some (vi a0), some (vp 0 0), some (vp 1 0), some (vT), some (vf), some (Value.bool v3), some (vi (1 : Int))]) (bl := [some (.cells [vn, vn, vn, vn, vs 2 0 v4.length v4.length] 23), some ZcZ, some (.cells (Zc Zb v4) 54)]) (ob := []) rfl (show 2 ∈ Zl (Zm 2) from by decide +kernel) (fun gv => by kernel_rfl) Zf rfl (by decide) (by rfl) (fun _ => ⟨rr, ⟨rr, ⟨rr, ⟨rr, ⟨rr, ⟨rr, ⟨rr, trivial⟩⟩⟩⟩⟩⟩⟩) ⟨⟨rfl, ⟨[], by rfl⟩, by rfl⟩, ⟨⟨rfl, ⟨[], by rfl⟩, by rfl⟩, ⟨(Zh (E := Zb) (α := RA) _ v4 _), trivial⟩⟩⟩

theorem Zit (a0 a1 a2 : Int) (v1 v2 v3 : Bool) (N : Nat) : (Ze a0 a1 a2 N).Ok Tryz.prog Zs (.h2m3 v1 v2 v3 : law24_ListFormsX) (Zu a0 a1 a2 N (.h2m3 v1 v2 v3 : law24_ListFormsX)) := by
 show (Ze a0 a1 a2 N).Ok Tryz.prog Zs (.h2m3 v1 v2 v3 : law24_ListFormsX) (Zcg a0 a1 a2 N v1 v2 v3)
 unfold Zcg
 refine Mach.ok_ite (fun g0 => ?_) (fun g0 => ?_)
 ·
  subst g0
  exact Mach.ok_none
 ·
  obtain rfl : v1 = false := by simpa using g0
  exact Mach.ok_next (M := Ze a0 a1 a2 N) (cd := 1000000) (cm := 0) (y := (.h2m7 (v2) (v3) : law24_ListFormsX)) (fu := 4000) (orc := (Zj [] [] [] [] [])) (live := [0, 1]) (tv := fun _ => [some (vi a0), some (vp 0 0), some (vp 1 0), some (vf), some (Value.bool v2), some (Value.bool v3), some (vi (1 : Int))]) (bl := [some (.cells [vn, vn, vn, vn, vn] 23), some ZaO]) (ob := []) rfl (show 2 ∈ Zl (Zm 2) from by decide +kernel) (fun gv => by kernel_rfl) Zf rfl (by decide) (by rfl) (fun _ => ⟨rr, ⟨rr, ⟨rr, ⟨rr, ⟨rr, ⟨rr, ⟨rr, trivial⟩⟩⟩⟩⟩⟩⟩) ⟨⟨rfl, ⟨[], by rfl⟩, by rfl⟩, ⟨⟨rfl, ⟨[], by rfl⟩, by rfl⟩, trivial⟩⟩

theorem Ziu (a0 a1 a2 : Int) (v4 v5 v6 v7 v8 : List RA) (N : Nat) : (Ze a0 a1 a2 N).Ok Tryz.prog Zs (.h2m4 v4 v5 v6 v7 v8 : law24_ListFormsX) (Zu a0 a1 a2 N (.h2m4 v4 v5 v6 v7 v8 : law24_ListFormsX)) := by
 show (Ze a0 a1 a2 N).Ok Tryz.prog Zs (.h2m4 v4 v5 v6 v7 v8 : law24_ListFormsX) (Zch a0 a1 a2 N v4 v5 v6 v7 v8)
 unfold Zch
 refine Mach.ok_ite (fun g0 => ?_) (fun g0 => ?_)
 ·
  exact Mach.ok_fin (M := Ze a0 a1 a2 N) (cd := 1000000) (cm := 0) (r := (.r0 (false) : Zi)) (fu := 4000) (orc := (Zj [(3, true)] [] [] [] [])) (live := []) (u := vf) (bl := []) (ob := [((decide ((v5.length : Int) < (1 : Int))), true)]) (fun gv => by kernel_rfl) (oY Zf) rfl (by decide) (by rfl) rr trivial
 ·
  refine Mach.ok_ite (fun g1 => ?_) (fun g1 => ?_)
  ·
   exact Mach.ok_fin (M := Ze a0 a1 a2 N) (cd := 1000000) (cm := 0) (r := (.r0 (false) : Zi)) (fu := 4000) (orc := (Zj [(3, false), (4, true)] [] [] [] [])) (live := []) (u := vf) (bl := []) (ob := [((decide ((v5.length : Int) > (60 : Int))), true), ((decide ((v5.length : Int) < (1 : Int))), false)]) (fun gv => by kernel_rfl) (oY <| oN Zf) rfl (by decide) (by rfl) rr trivial
  ·
   refine Mach.ok_bind (fun z2 c2 => ?_)
   cases z2 with
   | r0 y2_0 =>
    refine Mach.ok_ite (fun g3 => ?_) (fun g3 => ?_)
    ·
     exact Mach.ok_fin (M := Ze a0 a1 a2 N) (cd := 1000000) (cm := 0) (r := (.r0 (false) : Zi)) (fu := 4000) (orc := (Zj [(3, false), (4, false), (6, true)] [] [] [] [(0, (Zbd (v5) (a0)  y2_0 3 7))])) (live := []) (u := vf) (bl := []) (ob := [((!y2_0), true), (dP (ZaL #[vs 3 0 v5.length v5.length, vi a0, vf] (v5) (a0)  y2_0 3 7), true), (dS (Zc Zb v5), true), ((decide ((v5.length : Int) > (60 : Int))), false), ((decide ((v5.length : Int) < (1 : Int))), false)]) (fun gv => by kernel_rfl) (Zd (ZcI (by first | assumption | simp_all)) <| Zd (Zk (Zbe #[vs 3 0 v5.length v5.length, vi a0, vf] (v5) (a0)  y2_0 N c2 3 7 rfl (by decide) (by decide))) <| oR <| oN <| oN Zf) rfl (by decide) (by rfl) rr trivial
    ·
     exact Mach.ok_next (M := Ze a0 a1 a2 N) (cd := 1000000) (cm := 0) (y := (.h2m8 (v4) (v5) (v6) (v7) (v8) : law24_ListFormsX)) (fu := 4000) (orc := (Zj [(3, false), (4, false), (6, false)] [] [] [] [(0, (Zbd (v5) (a0)  y2_0 3 7))])) (live := [0, 1, 2, 3, 4, 5, 6]) (tv := fun _ => [some (vi a0), some (vp 0 0), some (vp 1 0), some (vT), some (vT), some (vT), some (vi (2 : Int))]) (bl := [some (.cells [vs 2 0 v4.length v4.length, vs 3 0 v5.length v5.length, vs 4 0 v6.length v6.length, vs 5 0 v7.length v7.length, vs 6 0 v8.length v8.length] 23), some (.cells [vq, vq, vq, vq, vq] 25), some (.cells (Zc Zb v4) 54), some (.cells (Zc Zb v5) 54), some (.cells (Zc Zb v6) 54), some (.cells (Zc Zb v7) 54), some (.cells (Zc Zb v8) 54)]) (ob := [((!y2_0), false), (dP (ZaL #[vs 3 0 v5.length v5.length, vi a0, vf] (v5) (a0)  y2_0 3 7), true), (dS (Zc Zb v5), true), ((decide ((v5.length : Int) > (60 : Int))), false), ((decide ((v5.length : Int) < (1 : Int))), false)]) rfl (show 2 ∈ Zl (Zm 2) from by decide +kernel) (fun gv => by kernel_rfl) (Zd (Zc1 (by first | assumption | exact Decidable.not_not.1 (by assumption) | simp_all)) <| Zd (Zk (Zbe #[vs 3 0 v5.length v5.length, vi a0, vf] (v5) (a0)  y2_0 N c2 3 7 rfl (by decide) (by decide))) <| oR <| oN <| oN Zf) rfl (by decide) (by rfl) (fun _ => ⟨rr, ⟨rr, ⟨rr, ⟨rr, ⟨rr, ⟨rr, ⟨rr, trivial⟩⟩⟩⟩⟩⟩⟩) ⟨⟨rfl, ⟨[], by rfl⟩, by rfl⟩, ⟨⟨rfl, ⟨[], by rfl⟩, by rfl⟩, ⟨(Zh (E := Zb) (α := RA) _ v4 _), ⟨(Zh (E := Zb) (α := RA) _ v5 _), ⟨(Zh (E := Zb) (α := RA) _ v6 _), ⟨(Zh (E := Zb) (α := RA) _ v7 _), ⟨(Zh (E := Zb) (α := RA) _ v8 _), trivial⟩⟩⟩⟩⟩⟩⟩

theorem Ziv (a0 a1 a2 : Int) (v4 v5 : List RA) (N : Nat) : (Ze a0 a1 a2 N).Ok Tryz.prog Zs (.h2m5 v4 v5 : law24_ListFormsX) (Zu a0 a1 a2 N (.h2m5 v4 v5 : law24_ListFormsX)) := by
 show (Ze a0 a1 a2 N).Ok Tryz.prog Zs (.h2m5 v4 v5 : law24_ListFormsX) (Zci a0 a1 a2 N v4 v5)
 unfold Zci
 exact Mach.ok_next (M := Ze a0 a1 a2 N) (cd := 1000000) (cm := 0) (y := (.h2m9 (v4) (v5) : law24_ListFormsX)) (fu := 4000) (orc := (Zj [] [] [] [] [])) (live := [0, 1, 2, 3]) (tv := fun _ => [some (vi a0), some (vp 0 0), some (vp 1 0), some (vT), some (vT), some (vf), some (vi (2 : Int))]) (bl := [some (.cells [vn, vn, vn, vs 2 0 v4.length v4.length, vs 3 0 v5.length v5.length] 23), some (.cells [vi (240 : Int), vi (240 : Int), vi (240 : Int), vq, vq] 25), some (.cells (Zc Zb v4) 54), some (.cells (Zc Zb v5) 54)]) (ob := []) rfl (show 2 ∈ Zl (Zm 2) from by decide +kernel) (fun gv => by kernel_rfl) Zf rfl (by decide) (by rfl) (fun _ => ⟨rr, ⟨rr, ⟨rr, ⟨rr, ⟨rr, ⟨rr, ⟨rr, trivial⟩⟩⟩⟩⟩⟩⟩) ⟨⟨rfl, ⟨[], by rfl⟩, by rfl⟩, ⟨⟨rfl, ⟨[], by rfl⟩, by rfl⟩, ⟨(Zh (E := Zb) (α := RA) _ v4 _), ⟨(Zh (E := Zb) (α := RA) _ v5 _), trivial⟩⟩⟩⟩

theorem Ziw (a0 a1 a2 : Int) (v3 : Bool) (v4 : List RA) (N : Nat) : (Ze a0 a1 a2 N).Ok Tryz.prog Zs (.h2m6 v3 v4 : law24_ListFormsX) (Zu a0 a1 a2 N (.h2m6 v3 v4 : law24_ListFormsX)) := by
 show (Ze a0 a1 a2 N).Ok Tryz.prog Zs (.h2m6 v3 v4 : law24_ListFormsX) (Zcj a0 a1 a2 N v3 v4)
 unfold Zcj
 exact Mach.ok_next (M := Ze a0 a1 a2 N) (cd := 1000000) (cm := 0) (y := (.h2m10 (v3) (v4) : law24_ListFormsX)) (fu := 4000) (orc := (Zj [] [] [] [] [])) (live := [0, 1, 2]) (tv := fun _ => [some (vi a0), some (vp 0 0), some (vp 1 0), some (vT), some (vf), some (Value.bool v3), some (vi (2 : Int))]) (bl := [some (.cells [vn, vn, vn, vn, vs 2 0 v4.length v4.length] 23), some ZcZ, some (.cells (Zc Zb v4) 54)]) (ob := []) rfl (show 2 ∈ Zl (Zm 2) from by decide +kernel) (fun gv => by kernel_rfl) Zf rfl (by decide) (by rfl) (fun _ => ⟨rr, ⟨rr, ⟨rr, ⟨rr, ⟨rr, ⟨rr, ⟨rr, trivial⟩⟩⟩⟩⟩⟩⟩) ⟨⟨rfl, ⟨[], by rfl⟩, by rfl⟩, ⟨⟨rfl, ⟨[], by rfl⟩, by rfl⟩, ⟨(Zh (E := Zb) (α := RA) _ v4 _), trivial⟩⟩⟩

theorem Zix (a0 a1 a2 : Int) (v2 v3 : Bool) (N : Nat) : (Ze a0 a1 a2 N).Ok Tryz.prog Zs (.h2m7 v2 v3 : law24_ListFormsX) (Zu a0 a1 a2 N (.h2m7 v2 v3 : law24_ListFormsX)) := by
 show (Ze a0 a1 a2 N).Ok Tryz.prog Zs (.h2m7 v2 v3 : law24_ListFormsX) (Zck a0 a1 a2 N v2 v3)
 unfold Zck
 exact Mach.ok_next (M := Ze a0 a1 a2 N) (cd := 1000000) (cm := 0) (y := (.h2m11 (v2) (v3) : law24_ListFormsX)) (fu := 4000) (orc := (Zj [] [] [] [] [])) (live := [0, 1]) (tv := fun _ => [some (vi a0), some (vp 0 0), some (vp 1 0), some (vf), some (Value.bool v2), some (Value.bool v3), some (vi (2 : Int))]) (bl := [some (.cells [vn, vn, vn, vn, vn] 23), some ZaO]) (ob := []) rfl (show 2 ∈ Zl (Zm 2) from by decide +kernel) (fun gv => by kernel_rfl) Zf rfl (by decide) (by rfl) (fun _ => ⟨rr, ⟨rr, ⟨rr, ⟨rr, ⟨rr, ⟨rr, ⟨rr, trivial⟩⟩⟩⟩⟩⟩⟩) ⟨⟨rfl, ⟨[], by rfl⟩, by rfl⟩, ⟨⟨rfl, ⟨[], by rfl⟩, by rfl⟩, trivial⟩⟩

theorem Ziy (a0 a1 a2 : Int) (v4 v5 v6 v7 v8 : List RA) (N : Nat) : (Ze a0 a1 a2 N).Ok Tryz.prog Zs (.h2m8 v4 v5 v6 v7 v8 : law24_ListFormsX) (Zu a0 a1 a2 N (.h2m8 v4 v5 v6 v7 v8 : law24_ListFormsX)) := by
 show (Ze a0 a1 a2 N).Ok Tryz.prog Zs (.h2m8 v4 v5 v6 v7 v8 : law24_ListFormsX) (Zcl a0 a1 a2 N v4 v5 v6 v7 v8)
 unfold Zcl
 refine Mach.ok_ite (fun g0 => ?_) (fun g0 => ?_)
 ·
  exact Mach.ok_fin (M := Ze a0 a1 a2 N) (cd := 1000000) (cm := 0) (r := (.r0 (false) : Zi)) (fu := 4000) (orc := (Zj [(3, true)] [] [] [] [])) (live := []) (u := vf) (bl := []) (ob := [((decide ((v6.length : Int) < (1 : Int))), true)]) (fun gv => by kernel_rfl) (oY Zf) rfl (by decide) (by rfl) rr trivial
 ·
  refine Mach.ok_ite (fun g1 => ?_) (fun g1 => ?_)
  ·
   exact Mach.ok_fin (M := Ze a0 a1 a2 N) (cd := 1000000) (cm := 0) (r := (.r0 (false) : Zi)) (fu := 4000) (orc := (Zj [(3, false), (4, true)] [] [] [] [])) (live := []) (u := vf) (bl := []) (ob := [((decide ((v6.length : Int) > (60 : Int))), true), ((decide ((v6.length : Int) < (1 : Int))), false)]) (fun gv => by kernel_rfl) (oY <| oN Zf) rfl (by decide) (by rfl) rr trivial
  ·
   refine Mach.ok_bind (fun z2 c2 => ?_)
   cases z2 with
   | r0 y2_0 =>
    refine Mach.ok_ite (fun g3 => ?_) (fun g3 => ?_)
    ·
     exact Mach.ok_fin (M := Ze a0 a1 a2 N) (cd := 1000000) (cm := 0) (r := (.r0 (false) : Zi)) (fu := 4000) (orc := (Zj [(3, false), (4, false), (6, true)] [] [] [] [(0, (Zbd (v6) (a0)  y2_0 4 7))])) (live := []) (u := vf) (bl := []) (ob := [((!y2_0), true), (dP (ZaL #[vs 4 0 v6.length v6.length, vi a0, vf] (v6) (a0)  y2_0 4 7), true), (dS (Zc Zb v6), true), ((decide ((v6.length : Int) > (60 : Int))), false), ((decide ((v6.length : Int) < (1 : Int))), false)]) (fun gv => by kernel_rfl) (Zd (ZcI (by first | assumption | simp_all)) <| Zd (Zk (Zbe #[vs 4 0 v6.length v6.length, vi a0, vf] (v6) (a0)  y2_0 N c2 4 7 rfl (by decide) (by decide))) <| oR <| oN <| oN Zf) rfl (by decide) (by rfl) rr trivial
    ·
     exact Mach.ok_next (M := Ze a0 a1 a2 N) (cd := 1000000) (cm := 0) (y := (.h2m12 (v4) (v5) (v6) (v7) (v8) : law24_ListFormsX)) (fu := 4000) (orc := (Zj [(3, false), (4, false), (6, false)] [] [] [] [(0, (Zbd (v6) (a0)  y2_0 4 7))])) (live := [0, 1, 2, 3, 4, 5, 6]) (tv := fun _ => [some (vi a0), some (vp 0 0), some (vp 1 0), some (vT), some (vT), some (vT), some (vi (3 : Int))]) (bl := [some (.cells [vs 2 0 v4.length v4.length, vs 3 0 v5.length v5.length, vs 4 0 v6.length v6.length, vs 5 0 v7.length v7.length, vs 6 0 v8.length v8.length] 23), some (.cells [vq, vq, vq, vq, vq] 25), some (.cells (Zc Zb v4) 54), some (.cells (Zc Zb v5) 54), some (.cells (Zc Zb v6) 54), some (.cells (Zc Zb v7) 54), some (.cells (Zc Zb v8) 54)]) (ob := [((!y2_0), false), (dP (ZaL #[vs 4 0 v6.length v6.length, vi a0, vf] (v6) (a0)  y2_0 4 7), true), (dS (Zc Zb v6), true), ((decide ((v6.length : Int) > (60 : Int))), false), ((decide ((v6.length : Int) < (1 : Int))), false)]) rfl (show 2 ∈ Zl (Zm 2) from by decide +kernel) (fun gv => by kernel_rfl) (Zd (Zc1 (by first | assumption | exact Decidable.not_not.1 (by assumption) | simp_all)) <| Zd (Zk (Zbe #[vs 4 0 v6.length v6.length, vi a0, vf] (v6) (a0)  y2_0 N c2 4 7 rfl (by decide) (by decide))) <| oR <| oN <| oN Zf) rfl (by decide) (by rfl) (fun _ => ⟨rr, ⟨rr, ⟨rr, ⟨rr, ⟨rr, ⟨rr, ⟨rr, trivial⟩⟩⟩⟩⟩⟩⟩) ⟨⟨rfl, ⟨[], by rfl⟩, by rfl⟩, ⟨⟨rfl, ⟨[], by rfl⟩, by rfl⟩, ⟨(Zh (E := Zb) (α := RA) _ v4 _), ⟨(Zh (E := Zb) (α := RA) _ v5 _), ⟨(Zh (E := Zb) (α := RA) _ v6 _), ⟨(Zh (E := Zb) (α := RA) _ v7 _), ⟨(Zh (E := Zb) (α := RA) _ v8 _), trivial⟩⟩⟩⟩⟩⟩⟩

theorem Ziz (a0 a1 a2 : Int) (v4 v5 : List RA) (N : Nat) : (Ze a0 a1 a2 N).Ok Tryz.prog Zs (.h2m9 v4 v5 : law24_ListFormsX) (Zu a0 a1 a2 N (.h2m9 v4 v5 : law24_ListFormsX)) := by
 show (Ze a0 a1 a2 N).Ok Tryz.prog Zs (.h2m9 v4 v5 : law24_ListFormsX) (Zcm a0 a1 a2 N v4 v5)
 unfold Zcm
 exact Mach.ok_next (M := Ze a0 a1 a2 N) (cd := 1000000) (cm := 0) (y := (.h2m13 (v4) (v5) : law24_ListFormsX)) (fu := 4000) (orc := (Zj [] [] [] [] [])) (live := [0, 1, 2, 3]) (tv := fun _ => [some (vi a0), some (vp 0 0), some (vp 1 0), some (vT), some (vT), some (vf), some (vi (3 : Int))]) (bl := [some (.cells [vn, vn, vn, vs 2 0 v4.length v4.length, vs 3 0 v5.length v5.length] 23), some (.cells [vi (240 : Int), vi (240 : Int), vi (240 : Int), vq, vq] 25), some (.cells (Zc Zb v4) 54), some (.cells (Zc Zb v5) 54)]) (ob := []) rfl (show 2 ∈ Zl (Zm 2) from by decide +kernel) (fun gv => by kernel_rfl) Zf rfl (by decide) (by rfl) (fun _ => ⟨rr, ⟨rr, ⟨rr, ⟨rr, ⟨rr, ⟨rr, ⟨rr, trivial⟩⟩⟩⟩⟩⟩⟩) ⟨⟨rfl, ⟨[], by rfl⟩, by rfl⟩, ⟨⟨rfl, ⟨[], by rfl⟩, by rfl⟩, ⟨(Zh (E := Zb) (α := RA) _ v4 _), ⟨(Zh (E := Zb) (α := RA) _ v5 _), trivial⟩⟩⟩⟩

theorem Zh4 (a0 a1 a2 : Int) (v3 : Bool) (v4 : List RA) (N : Nat) : (Ze a0 a1 a2 N).Ok Tryz.prog Zs (.h2m10 v3 v4 : law24_ListFormsX) (Zu a0 a1 a2 N (.h2m10 v3 v4 : law24_ListFormsX)) := by
 show (Ze a0 a1 a2 N).Ok Tryz.prog Zs (.h2m10 v3 v4 : law24_ListFormsX) (ZbH a0 a1 a2 N v3 v4)
 unfold ZbH
 exact Mach.ok_next (M := Ze a0 a1 a2 N) (cd := 1000000) (cm := 0) (y := (.h2m14 (v3) (v4) : law24_ListFormsX)) (fu := 4000) (orc := (Zj [] [] [] [] [])) (live := [0, 1, 2]) (tv := fun _ => [some (vi a0), some (vp 0 0), some (vp 1 0), some (vT), some (vf), some (Value.bool v3), some (vi (3 : Int))]) (bl := [some (.cells [vn, vn, vn, vn, vs 2 0 v4.length v4.length] 23), some ZcZ, some (.cells (Zc Zb v4) 54)]) (ob := []) rfl (show 2 ∈ Zl (Zm 2) from by decide +kernel) (fun gv => by kernel_rfl) Zf rfl (by decide) (by rfl) (fun _ => ⟨rr, ⟨rr, ⟨rr, ⟨rr, ⟨rr, ⟨rr, ⟨rr, trivial⟩⟩⟩⟩⟩⟩⟩) ⟨⟨rfl, ⟨[], by rfl⟩, by rfl⟩, ⟨⟨rfl, ⟨[], by rfl⟩, by rfl⟩, ⟨(Zh (E := Zb) (α := RA) _ v4 _), trivial⟩⟩⟩

theorem Zh5 (a0 a1 a2 : Int) (v2 v3 : Bool) (N : Nat) : (Ze a0 a1 a2 N).Ok Tryz.prog Zs (.h2m11 v2 v3 : law24_ListFormsX) (Zu a0 a1 a2 N (.h2m11 v2 v3 : law24_ListFormsX)) := by
 show (Ze a0 a1 a2 N).Ok Tryz.prog Zs (.h2m11 v2 v3 : law24_ListFormsX) (ZbI a0 a1 a2 N v2 v3)
 unfold ZbI
 exact Mach.ok_next (M := Ze a0 a1 a2 N) (cd := 1000000) (cm := 0) (y := (.h2m15 (v2) (v3) : law24_ListFormsX)) (fu := 4000) (orc := (Zj [] [] [] [] [])) (live := [0, 1]) (tv := fun _ => [some (vi a0), some (vp 0 0), some (vp 1 0), some (vf), some (Value.bool v2), some (Value.bool v3), some (vi (3 : Int))]) (bl := [some (.cells [vn, vn, vn, vn, vn] 23), some ZaO]) (ob := []) rfl (show 2 ∈ Zl (Zm 2) from by decide +kernel) (fun gv => by kernel_rfl) Zf rfl (by decide) (by rfl) (fun _ => ⟨rr, ⟨rr, ⟨rr, ⟨rr, ⟨rr, ⟨rr, ⟨rr, trivial⟩⟩⟩⟩⟩⟩⟩) ⟨⟨rfl, ⟨[], by rfl⟩, by rfl⟩, ⟨⟨rfl, ⟨[], by rfl⟩, by rfl⟩, trivial⟩⟩

theorem Zh6 (a0 a1 a2 : Int) (v4 v5 v6 v7 v8 : List RA) (N : Nat) : (Ze a0 a1 a2 N).Ok Tryz.prog Zs (.h2m12 v4 v5 v6 v7 v8 : law24_ListFormsX) (Zu a0 a1 a2 N (.h2m12 v4 v5 v6 v7 v8 : law24_ListFormsX)) := by
 show (Ze a0 a1 a2 N).Ok Tryz.prog Zs (.h2m12 v4 v5 v6 v7 v8 : law24_ListFormsX) (ZbJ a0 a1 a2 N v4 v5 v6 v7 v8)
 unfold ZbJ
 refine Mach.ok_ite (fun g0 => ?_) (fun g0 => ?_)
 ·
  exact Mach.ok_fin (M := Ze a0 a1 a2 N) (cd := 1000000) (cm := 0) (r := (.r0 (false) : Zi)) (fu := 4000) (orc := (Zj [(3, true)] [] [] [] [])) (live := []) (u := vf) (bl := []) (ob := [((decide ((v7.length : Int) < (1 : Int))), true)]) (fun gv => by kernel_rfl) (oY Zf) rfl (by decide) (by rfl) rr trivial
 ·
  refine Mach.ok_ite (fun g1 => ?_) (fun g1 => ?_)
  ·
   exact Mach.ok_fin (M := Ze a0 a1 a2 N) (cd := 1000000) (cm := 0) (r := (.r0 (false) : Zi)) (fu := 4000) (orc := (Zj [(3, false), (4, true)] [] [] [] [])) (live := []) (u := vf) (bl := []) (ob := [((decide ((v7.length : Int) > (60 : Int))), true), ((decide ((v7.length : Int) < (1 : Int))), false)]) (fun gv => by kernel_rfl) (oY <| oN Zf) rfl (by decide) (by rfl) rr trivial
  ·
   refine Mach.ok_bind (fun z2 c2 => ?_)
   cases z2 with
   | r0 y2_0 =>
    refine Mach.ok_ite (fun g3 => ?_) (fun g3 => ?_)
    ·
     exact Mach.ok_fin (M := Ze a0 a1 a2 N) (cd := 1000000) (cm := 0) (r := (.r0 (false) : Zi)) (fu := 4000) (orc := (Zj [(3, false), (4, false), (6, true)] [] [] [] [(0, (Zbd (v7) (a0)  y2_0 5 7))])) (live := []) (u := vf) (bl := []) (ob := [((!y2_0), true), (dP (ZaL #[vs 5 0 v7.length v7.length, vi a0, vf] (v7) (a0)  y2_0 5 7), true), (dS (Zc Zb v7), true), ((decide ((v7.length : Int) > (60 : Int))), false), ((decide ((v7.length : Int) < (1 : Int))), false)]) (fun gv => by kernel_rfl) (Zd (ZcI (by first | assumption | simp_all)) <| Zd (Zk (Zbe #[vs 5 0 v7.length v7.length, vi a0, vf] (v7) (a0)  y2_0 N c2 5 7 rfl (by decide) (by decide))) <| oR <| oN <| oN Zf) rfl (by decide) (by rfl) rr trivial
    ·
     exact Mach.ok_next (M := Ze a0 a1 a2 N) (cd := 1000000) (cm := 0) (y := (.h2m16 (v4) (v5) (v6) (v7) (v8) : law24_ListFormsX)) (fu := 4000) (orc := (Zj [(3, false), (4, false), (6, false)] [] [] [] [(0, (Zbd (v7) (a0)  y2_0 5 7))])) (live := [0, 1, 2, 3, 4, 5, 6]) (tv := fun _ => [some (vi a0), some (vp 0 0), some (vp 1 0), some (vT), some (vT), some (vT), some (vi (4 : Int))]) (bl := [some (.cells [vs 2 0 v4.length v4.length, vs 3 0 v5.length v5.length, vs 4 0 v6.length v6.length, vs 5 0 v7.length v7.length, vs 6 0 v8.length v8.length] 23), some (.cells [vq, vq, vq, vq, vq] 25), some (.cells (Zc Zb v4) 54), some (.cells (Zc Zb v5) 54), some (.cells (Zc Zb v6) 54), some (.cells (Zc Zb v7) 54), some (.cells (Zc Zb v8) 54)]) (ob := [((!y2_0), false), (dP (ZaL #[vs 5 0 v7.length v7.length, vi a0, vf] (v7) (a0)  y2_0 5 7), true), (dS (Zc Zb v7), true), ((decide ((v7.length : Int) > (60 : Int))), false), ((decide ((v7.length : Int) < (1 : Int))), false)]) rfl (show 2 ∈ Zl (Zm 2) from by decide +kernel) (fun gv => by kernel_rfl) (Zd (Zc1 (by first | assumption | exact Decidable.not_not.1 (by assumption) | simp_all)) <| Zd (Zk (Zbe #[vs 5 0 v7.length v7.length, vi a0, vf] (v7) (a0)  y2_0 N c2 5 7 rfl (by decide) (by decide))) <| oR <| oN <| oN Zf) rfl (by decide) (by rfl) (fun _ => ⟨rr, ⟨rr, ⟨rr, ⟨rr, ⟨rr, ⟨rr, ⟨rr, trivial⟩⟩⟩⟩⟩⟩⟩) ⟨⟨rfl, ⟨[], by rfl⟩, by rfl⟩, ⟨⟨rfl, ⟨[], by rfl⟩, by rfl⟩, ⟨(Zh (E := Zb) (α := RA) _ v4 _), ⟨(Zh (E := Zb) (α := RA) _ v5 _), ⟨(Zh (E := Zb) (α := RA) _ v6 _), ⟨(Zh (E := Zb) (α := RA) _ v7 _), ⟨(Zh (E := Zb) (α := RA) _ v8 _), trivial⟩⟩⟩⟩⟩⟩⟩

theorem Zh7 (a0 a1 a2 : Int) (v4 v5 : List RA) (N : Nat) : (Ze a0 a1 a2 N).Ok Tryz.prog Zs (.h2m13 v4 v5 : law24_ListFormsX) (Zu a0 a1 a2 N (.h2m13 v4 v5 : law24_ListFormsX)) := by
 show (Ze a0 a1 a2 N).Ok Tryz.prog Zs (.h2m13 v4 v5 : law24_ListFormsX) (ZbK a0 a1 a2 N v4 v5)
 unfold ZbK
 refine Mach.ok_ite (fun g0 => ?_) (fun g0 => ?_)
 ·
  exact Mach.ok_fin (M := Ze a0 a1 a2 N) (cd := 1000000) (cm := 0) (r := (.r0 (false) : Zi)) (fu := 4000) (orc := (Zj [(4, true)] [] [] [] [])) (live := []) (u := vf) (bl := []) (ob := [((decide ((v4.length : Int) < (1 : Int))), true)]) (fun gv => by kernel_rfl) (oY Zf) rfl (by decide) (by rfl) rr trivial
 ·
  refine Mach.ok_ite (fun g1 => ?_) (fun g1 => ?_)
  ·
   exact Mach.ok_fin (M := Ze a0 a1 a2 N) (cd := 1000000) (cm := 0) (r := (.r0 (false) : Zi)) (fu := 4000) (orc := (Zj [(4, false), (5, true)] [] [] [] [])) (live := []) (u := vf) (bl := []) (ob := [((decide ((v4.length : Int) > (60 : Int))), true), ((decide ((v4.length : Int) < (1 : Int))), false)]) (fun gv => by kernel_rfl) (oY <| oN Zf) rfl (by decide) (by rfl) rr trivial
  ·
   refine Mach.ok_bind (fun z2 c2 => ?_)
   cases z2 with
   | r0 y2_0 =>
    refine Mach.ok_ite (fun g3 => ?_) (fun g3 => ?_)
    ·
     exact Mach.ok_fin (M := Ze a0 a1 a2 N) (cd := 1000000) (cm := 0) (r := (.r0 (false) : Zi)) (fu := 4000) (orc := (Zj [(4, false), (5, false), (7, true)] [] [] [] [(0, (Zbd (v4) (a0)  y2_0 2 4))])) (live := []) (u := vf) (bl := []) (ob := [((!y2_0), true), (dP (ZaL #[vs 2 0 v4.length v4.length, vi a0, vf] (v4) (a0)  y2_0 2 4), true), (dS (Zc Zb v4), true), ((decide ((v4.length : Int) > (60 : Int))), false), ((decide ((v4.length : Int) < (1 : Int))), false)]) (fun gv => by kernel_rfl) (Zd (ZcI (by first | assumption | simp_all)) <| Zd (Zk (Zbe #[vs 2 0 v4.length v4.length, vi a0, vf] (v4) (a0)  y2_0 N c2 2 4 rfl (by decide) (by decide))) <| oR <| oN <| oN Zf) rfl (by decide) (by rfl) rr trivial
    ·
     exact Mach.ok_next (M := Ze a0 a1 a2 N) (cd := 1000000) (cm := 0) (y := (.h2m17 (v4) (v5) : law24_ListFormsX)) (fu := 4000) (orc := (Zj [(4, false), (5, false), (7, false)] [] [] [] [(0, (Zbd (v4) (a0)  y2_0 2 4))])) (live := [0, 1, 2, 3]) (tv := fun _ => [some (vi a0), some (vp 0 0), some (vp 1 0), some (vT), some (vT), some (vf), some (vi (4 : Int))]) (bl := [some (.cells [vn, vn, vn, vs 2 0 v4.length v4.length, vs 3 0 v5.length v5.length] 23), some (.cells [vi (240 : Int), vi (240 : Int), vi (240 : Int), vq, vq] 25), some (.cells (Zc Zb v4) 54), some (.cells (Zc Zb v5) 54)]) (ob := [((!y2_0), false), (dP (ZaL #[vs 2 0 v4.length v4.length, vi a0, vf] (v4) (a0)  y2_0 2 4), true), (dS (Zc Zb v4), true), ((decide ((v4.length : Int) > (60 : Int))), false), ((decide ((v4.length : Int) < (1 : Int))), false)]) rfl (show 2 ∈ Zl (Zm 2) from by decide +kernel) (fun gv => by kernel_rfl) (Zd (Zc1 (by first | assumption | exact Decidable.not_not.1 (by assumption) | simp_all)) <| Zd (Zk (Zbe #[vs 2 0 v4.length v4.length, vi a0, vf] (v4) (a0)  y2_0 N c2 2 4 rfl (by decide) (by decide))) <| oR <| oN <| oN Zf) rfl (by decide) (by rfl) (fun _ => ⟨rr, ⟨rr, ⟨rr, ⟨rr, ⟨rr, ⟨rr, ⟨rr, trivial⟩⟩⟩⟩⟩⟩⟩) ⟨⟨rfl, ⟨[], by rfl⟩, by rfl⟩, ⟨⟨rfl, ⟨[], by rfl⟩, by rfl⟩, ⟨(Zh (E := Zb) (α := RA) _ v4 _), ⟨(Zh (E := Zb) (α := RA) _ v5 _), trivial⟩⟩⟩⟩

theorem Zh8 (a0 a1 a2 : Int) (v3 : Bool) (v4 : List RA) (N : Nat) : (Ze a0 a1 a2 N).Ok Tryz.prog Zs (.h2m14 v3 v4 : law24_ListFormsX) (Zu a0 a1 a2 N (.h2m14 v3 v4 : law24_ListFormsX)) := by
 show (Ze a0 a1 a2 N).Ok Tryz.prog Zs (.h2m14 v3 v4 : law24_ListFormsX) (ZbL a0 a1 a2 N v3 v4)
 unfold ZbL
 exact Mach.ok_next (M := Ze a0 a1 a2 N) (cd := 1000000) (cm := 0) (y := (.h2m18 (v3) (v4) : law24_ListFormsX)) (fu := 4000) (orc := (Zj [] [] [] [] [])) (live := [0, 1, 2]) (tv := fun _ => [some (vi a0), some (vp 0 0), some (vp 1 0), some (vT), some (vf), some (Value.bool v3), some (vi (4 : Int))]) (bl := [some (.cells [vn, vn, vn, vn, vs 2 0 v4.length v4.length] 23), some ZcZ, some (.cells (Zc Zb v4) 54)]) (ob := []) rfl (show 2 ∈ Zl (Zm 2) from by decide +kernel) (fun gv => by kernel_rfl) Zf rfl (by decide) (by rfl) (fun _ => ⟨rr, ⟨rr, ⟨rr, ⟨rr, ⟨rr, ⟨rr, ⟨rr, trivial⟩⟩⟩⟩⟩⟩⟩) ⟨⟨rfl, ⟨[], by rfl⟩, by rfl⟩, ⟨⟨rfl, ⟨[], by rfl⟩, by rfl⟩, ⟨(Zh (E := Zb) (α := RA) _ v4 _), trivial⟩⟩⟩

theorem Zh9 (a0 a1 a2 : Int) (v2 v3 : Bool) (N : Nat) : (Ze a0 a1 a2 N).Ok Tryz.prog Zs (.h2m15 v2 v3 : law24_ListFormsX) (Zu a0 a1 a2 N (.h2m15 v2 v3 : law24_ListFormsX)) := by
 show (Ze a0 a1 a2 N).Ok Tryz.prog Zs (.h2m15 v2 v3 : law24_ListFormsX) (ZbM a0 a1 a2 N v2 v3)
 unfold ZbM
 exact Mach.ok_next (M := Ze a0 a1 a2 N) (cd := 1000000) (cm := 0) (y := (.h2m19 (v2) (v3) : law24_ListFormsX)) (fu := 4000) (orc := (Zj [] [] [] [] [])) (live := [0, 1]) (tv := fun _ => [some (vi a0), some (vp 0 0), some (vp 1 0), some (vf), some (Value.bool v2), some (Value.bool v3), some (vi (4 : Int))]) (bl := [some (.cells [vn, vn, vn, vn, vn] 23), some ZaO]) (ob := []) rfl (show 2 ∈ Zl (Zm 2) from by decide +kernel) (fun gv => by kernel_rfl) Zf rfl (by decide) (by rfl) (fun _ => ⟨rr, ⟨rr, ⟨rr, ⟨rr, ⟨rr, ⟨rr, ⟨rr, trivial⟩⟩⟩⟩⟩⟩⟩) ⟨⟨rfl, ⟨[], by rfl⟩, by rfl⟩, ⟨⟨rfl, ⟨[], by rfl⟩, by rfl⟩, trivial⟩⟩

theorem ZhA (a0 a1 a2 : Int) (v4 v5 v6 v7 v8 : List RA) (N : Nat) : (Ze a0 a1 a2 N).Ok Tryz.prog Zs (.h2m16 v4 v5 v6 v7 v8 : law24_ListFormsX) (Zu a0 a1 a2 N (.h2m16 v4 v5 v6 v7 v8 : law24_ListFormsX)) := by
 show (Ze a0 a1 a2 N).Ok Tryz.prog Zs (.h2m16 v4 v5 v6 v7 v8 : law24_ListFormsX) (ZbN a0 a1 a2 N v4 v5 v6 v7 v8)
 unfold ZbN
 refine Mach.ok_ite (fun g0 => ?_) (fun g0 => ?_)
 ·
  exact Mach.ok_fin (M := Ze a0 a1 a2 N) (cd := 1000000) (cm := 0) (r := (.r0 (false) : Zi)) (fu := 4000) (orc := (Zj [(3, true)] [] [] [] [])) (live := []) (u := vf) (bl := []) (ob := [((decide ((v8.length : Int) < (1 : Int))), true)]) (fun gv => by kernel_rfl) (oY Zf) rfl (by decide) (by rfl) rr trivial
 ·
  refine Mach.ok_ite (fun g1 => ?_) (fun g1 => ?_)
  ·
   exact Mach.ok_fin (M := Ze a0 a1 a2 N) (cd := 1000000) (cm := 0) (r := (.r0 (false) : Zi)) (fu := 4000) (orc := (Zj [(3, false), (4, true)] [] [] [] [])) (live := []) (u := vf) (bl := []) (ob := [((decide ((v8.length : Int) > (60 : Int))), true), ((decide ((v8.length : Int) < (1 : Int))), false)]) (fun gv => by kernel_rfl) (oY <| oN Zf) rfl (by decide) (by rfl) rr trivial
  ·
   refine Mach.ok_bind (fun z2 c2 => ?_)
   cases z2 with
   | r0 y2_0 =>
    refine Mach.ok_ite (fun g3 => ?_) (fun g3 => ?_)
    ·
     exact Mach.ok_fin (M := Ze a0 a1 a2 N) (cd := 1000000) (cm := 0) (r := (.r0 (false) : Zi)) (fu := 4000) (orc := (Zj [(3, false), (4, false), (6, true)] [] [] [] [(0, (Zbq (v8) (a0)  y2_0 6 7))])) (live := []) (u := vf) (bl := []) (ob := [((!y2_0), true), (dP (ZaU #[vs 6 0 v8.length v8.length, vi a0, vT] (v8) (a0)  y2_0 6 7), true), (dS (Zc Zb v8), true), ((decide ((v8.length : Int) > (60 : Int))), false), ((decide ((v8.length : Int) < (1 : Int))), false)]) (fun gv => by kernel_rfl) (Zd (ZcI (by first | assumption | simp_all)) <| Zd (Zk (Zbr #[vs 6 0 v8.length v8.length, vi a0, vT] (v8) (a0)  y2_0 N c2 6 7 rfl (by decide) (by decide))) <| oR <| oN <| oN Zf) rfl (by decide) (by rfl) rr trivial
    ·
     exact Mach.ok_next (M := Ze a0 a1 a2 N) (cd := 1000000) (cm := 0) (y := (.h2m20 (v4) (v5) (v6) (v7) (v8) : law24_ListFormsX)) (fu := 4000) (orc := (Zj [(3, false), (4, false), (6, false)] [] [] [] [(0, (Zbq (v8) (a0)  y2_0 6 7))])) (live := [0, 1, 2, 3, 4, 5, 6]) (tv := fun _ => [some (vi a0), some (vp 0 0), some (vp 1 0), some (vT), some (vT), some (vT), some (vi (5 : Int))]) (bl := [some (.cells [vs 2 0 v4.length v4.length, vs 3 0 v5.length v5.length, vs 4 0 v6.length v6.length, vs 5 0 v7.length v7.length, vs 6 0 v8.length v8.length] 23), some (.cells [vq, vq, vq, vq, vq] 25), some (.cells (Zc Zb v4) 54), some (.cells (Zc Zb v5) 54), some (.cells (Zc Zb v6) 54), some (.cells (Zc Zb v7) 54), some (.cells (Zc Zb v8) 54)]) (ob := [((!y2_0), false), (dP (ZaU #[vs 6 0 v8.length v8.length, vi a0, vT] (v8) (a0)  y2_0 6 7), true), (dS (Zc Zb v8), true), ((decide ((v8.length : Int) > (60 : Int))), false), ((decide ((v8.length : Int) < (1 : Int))), false)]) rfl (show 2 ∈ Zl (Zm 2) from by decide +kernel) (fun gv => by kernel_rfl) (Zd (Zc1 (by first | assumption | exact Decidable.not_not.1 (by assumption) | simp_all)) <| Zd (Zk (Zbr #[vs 6 0 v8.length v8.length, vi a0, vT] (v8) (a0)  y2_0 N c2 6 7 rfl (by decide) (by decide))) <| oR <| oN <| oN Zf) rfl (by decide) (by rfl) (fun _ => ⟨rr, ⟨rr, ⟨rr, ⟨rr, ⟨rr, ⟨rr, ⟨rr, trivial⟩⟩⟩⟩⟩⟩⟩) ⟨⟨rfl, ⟨[], by rfl⟩, by rfl⟩, ⟨⟨rfl, ⟨[], by rfl⟩, by rfl⟩, ⟨(Zh (E := Zb) (α := RA) _ v4 _), ⟨(Zh (E := Zb) (α := RA) _ v5 _), ⟨(Zh (E := Zb) (α := RA) _ v6 _), ⟨(Zh (E := Zb) (α := RA) _ v7 _), ⟨(Zh (E := Zb) (α := RA) _ v8 _), trivial⟩⟩⟩⟩⟩⟩⟩

theorem ZhB (a0 a1 a2 : Int) (v4 v5 : List RA) (N : Nat) : (Ze a0 a1 a2 N).Ok Tryz.prog Zs (.h2m17 v4 v5 : law24_ListFormsX) (Zu a0 a1 a2 N (.h2m17 v4 v5 : law24_ListFormsX)) := by
 show (Ze a0 a1 a2 N).Ok Tryz.prog Zs (.h2m17 v4 v5 : law24_ListFormsX) (ZbO a0 a1 a2 N v4 v5)
 unfold ZbO
 refine Mach.ok_ite (fun g0 => ?_) (fun g0 => ?_)
 ·
  exact Mach.ok_fin (M := Ze a0 a1 a2 N) (cd := 1000000) (cm := 0) (r := (.r0 (false) : Zi)) (fu := 4000) (orc := (Zj [(4, true)] [] [] [] [])) (live := []) (u := vf) (bl := []) (ob := [((decide ((v5.length : Int) < (1 : Int))), true)]) (fun gv => by kernel_rfl) (oY Zf) rfl (by decide) (by rfl) rr trivial
 ·
  refine Mach.ok_ite (fun g1 => ?_) (fun g1 => ?_)
  ·
   exact Mach.ok_fin (M := Ze a0 a1 a2 N) (cd := 1000000) (cm := 0) (r := (.r0 (false) : Zi)) (fu := 4000) (orc := (Zj [(4, false), (5, true)] [] [] [] [])) (live := []) (u := vf) (bl := []) (ob := [((decide ((v5.length : Int) > (60 : Int))), true), ((decide ((v5.length : Int) < (1 : Int))), false)]) (fun gv => by kernel_rfl) (oY <| oN Zf) rfl (by decide) (by rfl) rr trivial
  ·
   refine Mach.ok_bind (fun z2 c2 => ?_)
   cases z2 with
   | r0 y2_0 =>
    refine Mach.ok_ite (fun g3 => ?_) (fun g3 => ?_)
    ·
     exact Mach.ok_fin (M := Ze a0 a1 a2 N) (cd := 1000000) (cm := 0) (r := (.r0 (false) : Zi)) (fu := 4000) (orc := (Zj [(4, false), (5, false), (7, true)] [] [] [] [(0, (Zbq (v5) (a0)  y2_0 3 4))])) (live := []) (u := vf) (bl := []) (ob := [((!y2_0), true), (dP (ZaU #[vs 3 0 v5.length v5.length, vi a0, vT] (v5) (a0)  y2_0 3 4), true), (dS (Zc Zb v5), true), ((decide ((v5.length : Int) > (60 : Int))), false), ((decide ((v5.length : Int) < (1 : Int))), false)]) (fun gv => by kernel_rfl) (Zd (ZcI (by first | assumption | simp_all)) <| Zd (Zk (Zbr #[vs 3 0 v5.length v5.length, vi a0, vT] (v5) (a0)  y2_0 N c2 3 4 rfl (by decide) (by decide))) <| oR <| oN <| oN Zf) rfl (by decide) (by rfl) rr trivial
    ·
     exact Mach.ok_next (M := Ze a0 a1 a2 N) (cd := 1000000) (cm := 0) (y := (.h2m21 (v4) (v5) : law24_ListFormsX)) (fu := 4000) (orc := (Zj [(4, false), (5, false), (7, false)] [] [] [] [(0, (Zbq (v5) (a0)  y2_0 3 4))])) (live := [0, 1, 2, 3]) (tv := fun _ => [some (vi a0), some (vp 0 0), some (vp 1 0), some (vT), some (vT), some (vf), some (vi (5 : Int))]) (bl := [some (.cells [vn, vn, vn, vs 2 0 v4.length v4.length, vs 3 0 v5.length v5.length] 23), some (.cells [vi (240 : Int), vi (240 : Int), vi (240 : Int), vq, vq] 25), some (.cells (Zc Zb v4) 54), some (.cells (Zc Zb v5) 54)]) (ob := [((!y2_0), false), (dP (ZaU #[vs 3 0 v5.length v5.length, vi a0, vT] (v5) (a0)  y2_0 3 4), true), (dS (Zc Zb v5), true), ((decide ((v5.length : Int) > (60 : Int))), false), ((decide ((v5.length : Int) < (1 : Int))), false)]) rfl (show 2 ∈ Zl (Zm 2) from by decide +kernel) (fun gv => by kernel_rfl) (Zd (Zc1 (by first | assumption | exact Decidable.not_not.1 (by assumption) | simp_all)) <| Zd (Zk (Zbr #[vs 3 0 v5.length v5.length, vi a0, vT] (v5) (a0)  y2_0 N c2 3 4 rfl (by decide) (by decide))) <| oR <| oN <| oN Zf) rfl (by decide) (by rfl) (fun _ => ⟨rr, ⟨rr, ⟨rr, ⟨rr, ⟨rr, ⟨rr, ⟨rr, trivial⟩⟩⟩⟩⟩⟩⟩) ⟨⟨rfl, ⟨[], by rfl⟩, by rfl⟩, ⟨⟨rfl, ⟨[], by rfl⟩, by rfl⟩, ⟨(Zh (E := Zb) (α := RA) _ v4 _), ⟨(Zh (E := Zb) (α := RA) _ v5 _), trivial⟩⟩⟩⟩

theorem ZhC (a0 a1 a2 : Int) (v3 : Bool) (v4 : List RA) (N : Nat) : (Ze a0 a1 a2 N).Ok Tryz.prog Zs (.h2m18 v3 v4 : law24_ListFormsX) (Zu a0 a1 a2 N (.h2m18 v3 v4 : law24_ListFormsX)) := by
 show (Ze a0 a1 a2 N).Ok Tryz.prog Zs (.h2m18 v3 v4 : law24_ListFormsX) (ZbP a0 a1 a2 N v3 v4)
 unfold ZbP
 refine Mach.ok_ite (fun g0 => ?_) (fun g0 => ?_)
 ·
  subst g0
  refine Mach.ok_ite (fun g1 => ?_) (fun g1 => ?_)
  ·
   exact Mach.ok_fin (M := Ze a0 a1 a2 N) (cd := 1000000) (cm := 0) (r := (.r0 (false) : Zi)) (fu := 4000) (orc := (Zj [(4, true)] [] [] [] [])) (live := []) (u := vf) (bl := []) (ob := [((decide ((v4.length : Int) < (1 : Int))), true)]) (fun gv => by kernel_rfl) (oY Zf) rfl (by decide) (by rfl) rr trivial
  ·
   refine Mach.ok_ite (fun g2 => ?_) (fun g2 => ?_)
   ·
    exact Mach.ok_fin (M := Ze a0 a1 a2 N) (cd := 1000000) (cm := 0) (r := (.r0 (false) : Zi)) (fu := 4000) (orc := (Zj [(4, false), (5, true)] [] [] [] [])) (live := []) (u := vf) (bl := []) (ob := [((decide ((v4.length : Int) > (60 : Int))), true), ((decide ((v4.length : Int) < (1 : Int))), false)]) (fun gv => by kernel_rfl) (oY <| oN Zf) rfl (by decide) (by rfl) rr trivial
   ·
    refine Mach.ok_bind (fun z3 c3 => ?_)
    cases z3 with
    | r0 y3_0 =>
     refine Mach.ok_ite (fun g4 => ?_) (fun g4 => ?_)
     ·
      exact Mach.ok_fin (M := Ze a0 a1 a2 N) (cd := 1000000) (cm := 0) (r := (.r0 (false) : Zi)) (fu := 4000) (orc := (Zj [(4, false), (5, false), (7, true)] [] [] [] [(0, (Zbq (v4) (a0)  y3_0 2 3))])) (live := []) (u := vf) (bl := []) (ob := [((!y3_0), true), (dP (ZaU #[vs 2 0 v4.length v4.length, vi a0, vT] (v4) (a0)  y3_0 2 3), true), (dS (Zc Zb v4), true), ((decide ((v4.length : Int) > (60 : Int))), false), ((decide ((v4.length : Int) < (1 : Int))), false)]) (fun gv => by kernel_rfl) (Zd (ZcI (by first | assumption | simp_all)) <| Zd (Zk (Zbr #[vs 2 0 v4.length v4.length, vi a0, vT] (v4) (a0)  y3_0 N c3 2 3 rfl (by decide) (by decide))) <| oR <| oN <| oN Zf) rfl (by decide) (by rfl) rr trivial
     ·
      exact Mach.ok_next (M := Ze a0 a1 a2 N) (cd := 1000000) (cm := 0) (y := (.h2m22 (true) (v4) : law24_ListFormsX)) (fu := 4000) (orc := (Zj [(4, false), (5, false), (7, false)] [] [] [] [(0, (Zbq (v4) (a0)  y3_0 2 3))])) (live := [0, 1, 2]) (tv := fun _ => [some (vi a0), some (vp 0 0), some (vp 1 0), some (vT), some (vf), some (vT), some (vi (5 : Int))]) (bl := [some (.cells [vn, vn, vn, vn, vs 2 0 v4.length v4.length] 23), some ZcZ, some (.cells (Zc Zb v4) 54)]) (ob := [((!y3_0), false), (dP (ZaU #[vs 2 0 v4.length v4.length, vi a0, vT] (v4) (a0)  y3_0 2 3), true), (dS (Zc Zb v4), true), ((decide ((v4.length : Int) > (60 : Int))), false), ((decide ((v4.length : Int) < (1 : Int))), false)]) rfl (show 2 ∈ Zl (Zm 2) from by decide +kernel) (fun gv => by kernel_rfl) (Zd (Zc1 (by first | assumption | exact Decidable.not_not.1 (by assumption) | simp_all)) <| Zd (Zk (Zbr #[vs 2 0 v4.length v4.length, vi a0, vT] (v4) (a0)  y3_0 N c3 2 3 rfl (by decide) (by decide))) <| oR <| oN <| oN Zf) rfl (by decide) (by rfl) (fun _ => ⟨rr, ⟨rr, ⟨rr, ⟨rr, ⟨rr, ⟨rr, ⟨rr, trivial⟩⟩⟩⟩⟩⟩⟩) ⟨⟨rfl, ⟨[], by rfl⟩, by rfl⟩, ⟨⟨rfl, ⟨[], by rfl⟩, by rfl⟩, ⟨(Zh (E := Zb) (α := RA) _ v4 _), trivial⟩⟩⟩
 ·
  obtain rfl : v3 = false := by simpa using g0
  refine Mach.ok_ite (fun g1 => ?_) (fun g1 => ?_)
  ·
   exact Mach.ok_fin (M := Ze a0 a1 a2 N) (cd := 1000000) (cm := 0) (r := (.r0 (false) : Zi)) (fu := 4000) (orc := (Zj [(5, true)] [] [] [] [])) (live := []) (u := vf) (bl := []) (ob := [((decide ((v4.length : Int) < (1 : Int))), true)]) (fun gv => by kernel_rfl) (oY Zf) rfl (by decide) (by rfl) rr trivial
  ·
   refine Mach.ok_ite (fun g2 => ?_) (fun g2 => ?_)
   ·
    exact Mach.ok_fin (M := Ze a0 a1 a2 N) (cd := 1000000) (cm := 0) (r := (.r0 (false) : Zi)) (fu := 4000) (orc := (Zj [(5, false), (6, true)] [] [] [] [])) (live := []) (u := vf) (bl := []) (ob := [((decide ((v4.length : Int) > (60 : Int))), true), ((decide ((v4.length : Int) < (1 : Int))), false)]) (fun gv => by kernel_rfl) (oY <| oN Zf) rfl (by decide) (by rfl) rr trivial
   ·
    refine Mach.ok_bind (fun z3 c3 => ?_)
    cases z3 with
    | r0 y3_0 =>
     refine Mach.ok_ite (fun g4 => ?_) (fun g4 => ?_)
     ·
      exact Mach.ok_fin (M := Ze a0 a1 a2 N) (cd := 1000000) (cm := 0) (r := (.r0 (false) : Zi)) (fu := 4000) (orc := (Zj [(5, false), (6, false), (8, true)] [] [] [] [(0, (Zbq (v4) (a0)  y3_0 2 3))])) (live := []) (u := vf) (bl := []) (ob := [((!y3_0), true), (dP (ZaU #[vs 2 0 v4.length v4.length, vi a0, vT] (v4) (a0)  y3_0 2 3), true), (dS (Zc Zb v4), true), ((decide ((v4.length : Int) > (60 : Int))), false), ((decide ((v4.length : Int) < (1 : Int))), false)]) (fun gv => by kernel_rfl) (Zd (ZcI (by first | assumption | simp_all)) <| Zd (Zk (Zbr #[vs 2 0 v4.length v4.length, vi a0, vT] (v4) (a0)  y3_0 N c3 2 3 rfl (by decide) (by decide))) <| oR <| oN <| oN Zf) rfl (by decide) (by rfl) rr trivial
     ·
      exact Mach.ok_next (M := Ze a0 a1 a2 N) (cd := 1000000) (cm := 0) (y := (.h2m22 (false) (v4) : law24_ListFormsX)) (fu := 4000) (orc := (Zj [(5, false), (6, false), (8, false)] [] [] [] [(0, (Zbq (v4) (a0)  y3_0 2 3))])) (live := [0, 1, 2]) (tv := fun _ => [some (vi a0), some (vp 0 0), some (vp 1 0), some (vT), some (vf), some (vf), some (vi (5 : Int))]) (bl := [some (.cells [vn, vn, vn, vn, vs 2 0 v4.length v4.length] 23), some ZcZ, some (.cells (Zc Zb v4) 54)]) (ob := [((!y3_0), false), (dP (ZaU #[vs 2 0 v4.length v4.length, vi a0, vT] (v4) (a0)  y3_0 2 3), true), (dS (Zc Zb v4), true), ((decide ((v4.length : Int) > (60 : Int))), false), ((decide ((v4.length : Int) < (1 : Int))), false)]) rfl (show 2 ∈ Zl (Zm 2) from by decide +kernel) (fun gv => by kernel_rfl) (Zd (Zc1 (by first | assumption | exact Decidable.not_not.1 (by assumption) | simp_all)) <| Zd (Zk (Zbr #[vs 2 0 v4.length v4.length, vi a0, vT] (v4) (a0)  y3_0 N c3 2 3 rfl (by decide) (by decide))) <| oR <| oN <| oN Zf) rfl (by decide) (by rfl) (fun _ => ⟨rr, ⟨rr, ⟨rr, ⟨rr, ⟨rr, ⟨rr, ⟨rr, trivial⟩⟩⟩⟩⟩⟩⟩) ⟨⟨rfl, ⟨[], by rfl⟩, by rfl⟩, ⟨⟨rfl, ⟨[], by rfl⟩, by rfl⟩, ⟨(Zh (E := Zb) (α := RA) _ v4 _), trivial⟩⟩⟩

theorem ZhD (a0 a1 a2 : Int) (v2 v3 : Bool) (N : Nat) : (Ze a0 a1 a2 N).Ok Tryz.prog Zs (.h2m19 v2 v3 : law24_ListFormsX) (Zu a0 a1 a2 N (.h2m19 v2 v3 : law24_ListFormsX)) := by
 show (Ze a0 a1 a2 N).Ok Tryz.prog Zs (.h2m19 v2 v3 : law24_ListFormsX) (ZbQ a0 a1 a2 N v2 v3)
 unfold ZbQ
 exact Mach.ok_next (M := Ze a0 a1 a2 N) (cd := 1000000) (cm := 0) (y := (.h2m23 (v2) (v3) : law24_ListFormsX)) (fu := 4000) (orc := (Zj [] [] [] [] [])) (live := [0, 1]) (tv := fun _ => [some (vi a0), some (vp 0 0), some (vp 1 0), some (vf), some (Value.bool v2), some (Value.bool v3), some (vi (5 : Int))]) (bl := [some (.cells [vn, vn, vn, vn, vn] 23), some ZaO]) (ob := []) rfl (show 2 ∈ Zl (Zm 2) from by decide +kernel) (fun gv => by kernel_rfl) Zf rfl (by decide) (by rfl) (fun _ => ⟨rr, ⟨rr, ⟨rr, ⟨rr, ⟨rr, ⟨rr, ⟨rr, trivial⟩⟩⟩⟩⟩⟩⟩) ⟨⟨rfl, ⟨[], by rfl⟩, by rfl⟩, ⟨⟨rfl, ⟨[], by rfl⟩, by rfl⟩, trivial⟩⟩

theorem ZhE (a0 a1 a2 : Int) (v4 v5 v6 v7 v8 : List RA) (N : Nat) : (Ze a0 a1 a2 N).Ok Tryz.prog Zs (.h2m20 v4 v5 v6 v7 v8 : law24_ListFormsX) (Zu a0 a1 a2 N (.h2m20 v4 v5 v6 v7 v8 : law24_ListFormsX)) := by
 show (Ze a0 a1 a2 N).Ok Tryz.prog Zs (.h2m20 v4 v5 v6 v7 v8 : law24_ListFormsX) (ZbR a0 a1 a2 N v4 v5 v6 v7 v8)
 unfold ZbR
 refine Mach.ok_bind (fun z0 c0 => ?_)
 cases z0 with
 | r0 =>
  exact Mach.ok_fin (M := Ze a0 a1 a2 N) (cd := 1000000) (cm := 0) (r := (.r0 (true) : Zi)) (fu := 4000) (orc := (Zj [] [] [] [] [(0, (ZeN     7))])) (live := []) (u := vT) (bl := []) (ob := [(dP (ZdM #[]     7), true)]) (fun gv => by kernel_rfl) (Zd (Zk (ZeO #[]    N c0  7 rfl (by decide) (by decide))) Zf) rfl (by decide) (by rfl) rr trivial

theorem ZhF (a0 a1 a2 : Int) (v4 v5 : List RA) (N : Nat) : (Ze a0 a1 a2 N).Ok Tryz.prog Zs (.h2m21 v4 v5 : law24_ListFormsX) (Zu a0 a1 a2 N (.h2m21 v4 v5 : law24_ListFormsX)) := by
 show (Ze a0 a1 a2 N).Ok Tryz.prog Zs (.h2m21 v4 v5 : law24_ListFormsX) (ZbS a0 a1 a2 N v4 v5)
 unfold ZbS
 refine Mach.ok_bind (fun z0 c0 => ?_)
 cases z0 with
 | r0 =>
  exact Mach.ok_fin (M := Ze a0 a1 a2 N) (cd := 1000000) (cm := 0) (r := (.r0 (true) : Zi)) (fu := 4000) (orc := (Zj [] [] [] [] [(0, (ZeN     4))])) (live := []) (u := vT) (bl := []) (ob := [(dP (ZdM #[]     4), true)]) (fun gv => by kernel_rfl) (Zd (Zk (ZeO #[]    N c0  4 rfl (by decide) (by decide))) Zf) rfl (by decide) (by rfl) rr trivial

theorem ZhG (a0 a1 a2 : Int) (v3 : Bool) (v4 : List RA) (N : Nat) : (Ze a0 a1 a2 N).Ok Tryz.prog Zs (.h2m22 v3 v4 : law24_ListFormsX) (Zu a0 a1 a2 N (.h2m22 v3 v4 : law24_ListFormsX)) := by
 show (Ze a0 a1 a2 N).Ok Tryz.prog Zs (.h2m22 v3 v4 : law24_ListFormsX) (ZbT a0 a1 a2 N v3 v4)
 unfold ZbT
 refine Mach.ok_bind (fun z0 c0 => ?_)
 cases z0 with
 | r0 =>
  exact Mach.ok_fin (M := Ze a0 a1 a2 N) (cd := 1000000) (cm := 0) (r := (.r0 (true) : Zi)) (fu := 4000) (orc := (Zj [] [] [] [] [(0, (ZeN     3))])) (live := []) (u := vT) (bl := []) (ob := [(dP (ZdM #[]     3), true)]) (fun gv => by kernel_rfl) (Zd (Zk (ZeO #[]    N c0  3 rfl (by decide) (by decide))) Zf) rfl (by decide) (by rfl) rr trivial

theorem ZhH (a0 a1 a2 : Int) (v2 v3 : Bool) (N : Nat) : (Ze a0 a1 a2 N).Ok Tryz.prog Zs (.h2m23 v2 v3 : law24_ListFormsX) (Zu a0 a1 a2 N (.h2m23 v2 v3 : law24_ListFormsX)) := by
 show (Ze a0 a1 a2 N).Ok Tryz.prog Zs (.h2m23 v2 v3 : law24_ListFormsX) (ZbU a0 a1 a2 N v2 v3)
 unfold ZbU
 refine Mach.ok_bind (fun z0 c0 => ?_)
 cases z0 with
 | r0 =>
  exact Mach.ok_fin (M := Ze a0 a1 a2 N) (cd := 1000000) (cm := 0) (r := (.r0 (true) : Zi)) (fu := 4000) (orc := (Zj [] [] [] [] [(0, (ZeN     2))])) (live := []) (u := vT) (bl := []) (ob := [(dP (ZdM #[]     2), true)]) (fun gv => by kernel_rfl) (Zd (Zk (ZeO #[]    N c0  2 rfl (by decide) (by decide))) Zf) rfl (by decide) (by rfl) rr trivial

theorem Zk6 (a0 a1 a2 : Int) (N : Nat) : (Ze a0 a1 a2 N).Enter Tryz.prog Zs #[vi a0, vi a1, vi a2] (Zav a0 a1 a2 N) := by
 unfold Zav
 refine Mach.en_bind (fun z0 c0 => ?_)
 cases z0 with
 | r0 y0_0 =>
  refine Mach.en_bind (fun z1 c1 => ?_)
  cases z1 with
  | r0 y1_0 =>
   refine Mach.en_bind (fun z2 c2 => ?_)
   cases z2 with
   | r0 y2_0 =>
    refine Mach.en_bind (fun z3 c3 => ?_)
    cases z3 with
    | r0 y3_0 =>
     refine Mach.en_bind (fun z4 c4 => ?_)
     cases z4 with
     | r0 y4_0 =>
      exact Mach.en_cut (bK := Zg 1) (M := Ze a0 a1 a2 N) (cd := 0) (cm := 7) (y := (.h1m0 (y0_0) (y1_0) (y2_0) (y3_0) (y4_0) : law24_ListFormsX)) (fu := 4000) (orc := (Zj [] [] [] [] [(0, (ZnC (a0) (a1) (a2)  y0_0  2)), (3, (ZnE (a0) (a1) (a2)  y1_0  3)), (6, (ZqP (a0) (a1) (a2)  y2_0  4)), (9, (Zjl (a0) (a1)  y3_0  5)), (12, (ZiT (a0)  y4_0  6))])) (live := [0, 1, 2, 3, 4, 5, 6]) (tv := [some (vi a0), some (vi a1), some (vi a2), some (vp 0 0), some (vp 1 0)]) (bl := [some (.cells [vs 2 0 y0_0.length y0_0.length, vs 3 0 y1_0.length y1_0.length, vs 4 0 y2_0.length y2_0.length, vs 5 0 y3_0.length y3_0.length, vs 6 0 y4_0.length y4_0.length] 23), some (.cells [vq, vq, vq, vq, vq] 25), some (.cells (Zc Zb y0_0) 54), some (.cells (Zc Zb y1_0) 54), some (.cells (Zc Zb y2_0) 54), some (.cells (Zc Zb y3_0) 54), some (.cells (Zc Zb y4_0) 54)]) (ob := [(dP (Zg9 #[vi a0] (a0)  y4_0  6), true), (dP (Zgr #[vi a0, vi a1] (a0) (a1)  y3_0  5), true), (dP (Zmo #[vi a0, vi a1, vi a2] (a0) (a1) (a2)  y2_0  4), true), (dP (Zji #[vi a0, vi a1, vi a2] (a0) (a1) (a2)  y1_0  3), true), (dP (Zjg #[vi a0, vi a1, vi a2] (a0) (a1) (a2)  y0_0  2), true)]) rfl rfl (show Zl (Zg 1).2 = [] from rfl) (by kernel_rfl) (Zd (Zk (ZiU #[vi a0] (a0)  y4_0 N c4  6 rfl (by decide) (by decide))) <| Zd (Zk (Zjm #[vi a0, vi a1] (a0) (a1)  y3_0 N c3  5 rfl (by decide) (by decide))) <| Zd (Zk (ZqQ #[vi a0, vi a1, vi a2] (a0) (a1) (a2)  y2_0 N c2  4 rfl (by decide) (by decide))) <| Zd (Zk (ZnF #[vi a0, vi a1, vi a2] (a0) (a1) (a2)  y1_0 N c1  3 rfl (by decide) (by decide))) <| Zd (Zk (ZnD #[vi a0, vi a1, vi a2] (a0) (a1) (a2)  y0_0 N c0  2 rfl (by decide) (by decide))) Zf) rfl (by decide) (by rfl) ⟨rr, ⟨rr, ⟨rr, ⟨rr, ⟨rr, trivial⟩⟩⟩⟩⟩ ⟨⟨rfl, ⟨[], by rfl⟩, by rfl⟩, ⟨⟨rfl, ⟨[], by rfl⟩, by rfl⟩, ⟨(Zh (E := Zb) (α := RA) _ y0_0 _), ⟨(Zh (E := Zb) (α := RA) _ y1_0 _), ⟨(Zh (E := Zb) (α := RA) _ y2_0 _), ⟨(Zh (E := Zb) (α := RA) _ y3_0 _), ⟨(Zh (E := Zb) (α := RA) _ y4_0 _), trivial⟩⟩⟩⟩⟩⟩⟩
     | r1 =>
      exact Mach.en_none
    | r1 =>
     exact Mach.en_none
   | r1 =>
    exact Mach.en_none
  | r1 =>
   exact Mach.en_none
 | r1 =>
  refine Mach.en_bind (fun z1 c1 => ?_)
  cases z1 with
  | r0 _ =>
   exact Mach.en_none
  | r1 =>
   refine Mach.en_bind (fun z2 c2 => ?_)
   cases z2 with
   | r0 _ =>
    exact Mach.en_none
   | r1 =>
    refine Mach.en_bind (fun z3 c3 => ?_)
    cases z3 with
    | r0 y3_0 =>
     refine Mach.en_bind (fun z4 c4 => ?_)
     cases z4 with
     | r0 y4_0 =>
      exact Mach.en_cut (bK := Zg 1) (M := Ze a0 a1 a2 N) (cd := 0) (cm := 7) (y := (.h1m1 (y3_0) (y4_0) : law24_ListFormsX)) (fu := 4000) (orc := (Zj [] [] [] [] [(0, (Zgn (a0) (a1) (a2)    2)), (3, (Zgp (a0) (a1) (a2)    2)), (6, (ZiR (a0) (a1) (a2)    2)), (9, (Zjl (a0) (a1)  y3_0  2)), (12, (ZiT (a0)  y4_0  3))])) (live := [0, 1, 2, 3]) (tv := [some (vi a0), some (vi a1), some (vi a2), some (vp 0 0), some (vp 1 0)]) (bl := [some (.cells [vn, vn, vn, vs 2 0 y3_0.length y3_0.length, vs 3 0 y4_0.length y4_0.length] 23), some (.cells [vi (240 : Int), vi (240 : Int), vi (240 : Int), vq, vq] 25), some (.cells (Zc Zb y3_0) 54), some (.cells (Zc Zb y4_0) 54)]) (ob := [(dP (Zg9 #[vi a0] (a0)  y4_0  3), true), (dP (Zgr #[vi a0, vi a1] (a0) (a1)  y3_0  2), true), (dP (Zg8 #[vi a0, vi a1, vi a2] (a0) (a1) (a2)    2), true), (dP (ZeL #[vi a0, vi a1, vi a2] (a0) (a1) (a2)    2), true), (dP (ZeK #[vi a0, vi a1, vi a2] (a0) (a1) (a2)    2), true)]) rfl rfl (show Zl (Zg 1).2 = [] from rfl) (by kernel_rfl) (Zd (Zk (ZiU #[vi a0] (a0)  y4_0 N c4  3 rfl (by decide) (by decide))) <| Zd (Zk (Zjm #[vi a0, vi a1] (a0) (a1)  y3_0 N c3  2 rfl (by decide) (by decide))) <| Zd (Zk (ZiS #[vi a0, vi a1, vi a2] (a0) (a1) (a2)   N c2  2 rfl (by decide) (by decide))) <| Zd (Zk (Zgq #[vi a0, vi a1, vi a2] (a0) (a1) (a2)   N c1  2 rfl (by decide) (by decide))) <| Zd (Zk (Zgo #[vi a0, vi a1, vi a2] (a0) (a1) (a2)   N c0  2 rfl (by decide) (by decide))) Zf) rfl (by decide) (by rfl) ⟨rr, ⟨rr, ⟨rr, ⟨rr, ⟨rr, trivial⟩⟩⟩⟩⟩ ⟨⟨rfl, ⟨[], by rfl⟩, by rfl⟩, ⟨⟨rfl, ⟨[], by rfl⟩, by rfl⟩, ⟨(Zh (E := Zb) (α := RA) _ y3_0 _), ⟨(Zh (E := Zb) (α := RA) _ y4_0 _), trivial⟩⟩⟩⟩
     | r1 =>
      exact Mach.en_none
    | r1 =>
     refine Mach.en_bind (fun z4 c4 => ?_)
     cases z4 with
     | r0 y4_0 =>
      exact Mach.en_cut (bK := Zg 1) (M := Ze a0 a1 a2 N) (cd := 0) (cm := 7) (y := (.h1m2 (y4_0) : law24_ListFormsX)) (fu := 4000) (orc := (Zj [] [] [] [] [(0, (Zgn (a0) (a1) (a2)    2)), (3, (Zgp (a0) (a1) (a2)    2)), (6, (ZiR (a0) (a1) (a2)    2)), (9, (Zjn (a0) (a1)    2)), (12, (ZiT (a0)  y4_0  2))])) (live := [0, 1, 2]) (tv := [some (vi a0), some (vi a1), some (vi a2), some (vp 0 0), some (vp 1 0)]) (bl := [some (.cells [vn, vn, vn, vn, vs 2 0 y4_0.length y4_0.length] 23), some ZcZ, some (.cells (Zc Zb y4_0) 54)]) (ob := [(dP (Zg9 #[vi a0] (a0)  y4_0  2), true), (dP (Zgs #[vi a0, vi a1] (a0) (a1)    2), true), (dP (Zg8 #[vi a0, vi a1, vi a2] (a0) (a1) (a2)    2), true), (dP (ZeL #[vi a0, vi a1, vi a2] (a0) (a1) (a2)    2), true), (dP (ZeK #[vi a0, vi a1, vi a2] (a0) (a1) (a2)    2), true)]) rfl rfl (show Zl (Zg 1).2 = [] from rfl) (by kernel_rfl) (Zd (Zk (ZiU #[vi a0] (a0)  y4_0 N c4  2 rfl (by decide) (by decide))) <| Zd (Zk (Zjo #[vi a0, vi a1] (a0) (a1)   N c3  2 rfl (by decide) (by decide))) <| Zd (Zk (ZiS #[vi a0, vi a1, vi a2] (a0) (a1) (a2)   N c2  2 rfl (by decide) (by decide))) <| Zd (Zk (Zgq #[vi a0, vi a1, vi a2] (a0) (a1) (a2)   N c1  2 rfl (by decide) (by decide))) <| Zd (Zk (Zgo #[vi a0, vi a1, vi a2] (a0) (a1) (a2)   N c0  2 rfl (by decide) (by decide))) Zf) rfl (by decide) (by rfl) ⟨rr, ⟨rr, ⟨rr, ⟨rr, ⟨rr, trivial⟩⟩⟩⟩⟩ ⟨⟨rfl, ⟨[], by rfl⟩, by rfl⟩, ⟨⟨rfl, ⟨[], by rfl⟩, by rfl⟩, ⟨(Zh (E := Zb) (α := RA) _ y4_0 _), trivial⟩⟩⟩
     | r1 =>
      exact Mach.en_cut (bK := Zg 1) (M := Ze a0 a1 a2 N) (cd := 0) (cm := 7) (y := (.h1m3 : law24_ListFormsX)) (fu := 4000) (orc := (Zj [] [] [] [] [(0, (Zgn (a0) (a1) (a2)    2)), (3, (Zgp (a0) (a1) (a2)    2)), (6, (ZiR (a0) (a1) (a2)    2)), (9, (Zjn (a0) (a1)    2)), (12, (ZqR (a0)    2))])) (live := [0, 1]) (tv := [some (vi a0), some (vi a1), some (vi a2), some (vp 0 0), some (vp 1 0)]) (bl := [some (.cells [vn, vn, vn, vn, vn] 23), some ZaO]) (ob := [(dP (Zmq #[vi a0] (a0)    2), true), (dP (Zgs #[vi a0, vi a1] (a0) (a1)    2), true), (dP (Zg8 #[vi a0, vi a1, vi a2] (a0) (a1) (a2)    2), true), (dP (ZeL #[vi a0, vi a1, vi a2] (a0) (a1) (a2)    2), true), (dP (ZeK #[vi a0, vi a1, vi a2] (a0) (a1) (a2)    2), true)]) rfl rfl (show Zl (Zg 1).2 = [] from rfl) (by kernel_rfl) (Zd (Zk (ZqS #[vi a0] (a0)   N c4  2 rfl (by decide) (by decide))) <| Zd (Zk (Zjo #[vi a0, vi a1] (a0) (a1)   N c3  2 rfl (by decide) (by decide))) <| Zd (Zk (ZiS #[vi a0, vi a1, vi a2] (a0) (a1) (a2)   N c2  2 rfl (by decide) (by decide))) <| Zd (Zk (Zgq #[vi a0, vi a1, vi a2] (a0) (a1) (a2)   N c1  2 rfl (by decide) (by decide))) <| Zd (Zk (Zgo #[vi a0, vi a1, vi a2] (a0) (a1) (a2)   N c0  2 rfl (by decide) (by decide))) Zf) rfl (by decide) (by rfl) ⟨rr, ⟨rr, ⟨rr, ⟨rr, ⟨rr, trivial⟩⟩⟩⟩⟩ ⟨⟨rfl, ⟨[], by rfl⟩, by rfl⟩, ⟨⟨rfl, ⟨[], by rfl⟩, by rfl⟩, trivial⟩⟩

theorem ZiX (a0 a1 a2 : Int) (N : Nat) (r : Zi) (h : Zc9 a0 a1 a2 N = some r) : LSpec Tryz.prog 3 #[vi a0, vi a1, vi a2] [] (Zhd a0 a1 a2 r) (Zgx a0 a1 a2 r) :=
 Mach.spec ZaP (Ze a0 a1 a2 N) Tryz.func3 (by kernel_rfl) (by kernel_rfl) (fun x => by cases x <;> exact Zan _ rfl) (fun r => by cases r <;> exact Zan _ rfl) (fun x => by
  cases x with
  | h1m0 _ _ _ _ _ => exact fun _ => (show ¬ (1 ∈ Zl (Zg 1).2) from by decide +kernel)
  | h1m1 _ _ => exact fun _ => (show ¬ (1 ∈ Zl (Zg 1).2) from by decide +kernel)
  | h1m2 _ => exact fun _ => (show ¬ (1 ∈ Zl (Zg 1).2) from by decide +kernel)
  | h1m3 => exact fun _ => (show ¬ (1 ∈ Zl (Zg 1).2) from by decide +kernel)
  | h2m0 _ _ _ _ _ => exact fun _ => (show ¬ (2 ∈ Zl (Zg 2).2) from by decide +kernel)
  | h2m1 _ _ _ => exact fun _ => (show ¬ (2 ∈ Zl (Zg 2).2) from by decide +kernel)
  | h2m2 _ _ _ => exact fun _ => (show ¬ (2 ∈ Zl (Zg 2).2) from by decide +kernel)
  | h2m3 _ _ _ => exact fun _ => (show ¬ (2 ∈ Zl (Zg 2).2) from by decide +kernel)
  | h2m4 _ _ _ _ _ => exact fun _ => (show ¬ (2 ∈ Zl (Zg 2).2) from by decide +kernel)
  | h2m5 _ _ => exact fun _ => (show ¬ (2 ∈ Zl (Zg 2).2) from by decide +kernel)
  | h2m6 _ _ => exact fun _ => (show ¬ (2 ∈ Zl (Zg 2).2) from by decide +kernel)
  | h2m7 _ _ => exact fun _ => (show ¬ (2 ∈ Zl (Zg 2).2) from by decide +kernel)
  | h2m8 _ _ _ _ _ => exact fun _ => (show ¬ (2 ∈ Zl (Zg 2).2) from by decide +kernel)
  | h2m9 _ _ => exact fun _ => (show ¬ (2 ∈ Zl (Zg 2).2) from by decide +kernel)
  | h2m10 _ _ => exact fun _ => (show ¬ (2 ∈ Zl (Zg 2).2) from by decide +kernel)
  | h2m11 _ _ => exact fun _ => (show ¬ (2 ∈ Zl (Zg 2).2) from by decide +kernel)
  | h2m12 _ _ _ _ _ => exact fun _ => (show ¬ (2 ∈ Zl (Zg 2).2) from by decide +kernel)
  | h2m13 _ _ => exact fun _ => (show ¬ (2 ∈ Zl (Zg 2).2) from by decide +kernel)
  | h2m14 _ _ => exact fun _ => (show ¬ (2 ∈ Zl (Zg 2).2) from by decide +kernel)
  | h2m15 _ _ => exact fun _ => (show ¬ (2 ∈ Zl (Zg 2).2) from by decide +kernel)
  | h2m16 _ _ _ _ _ => exact fun _ => (show ¬ (2 ∈ Zl (Zg 2).2) from by decide +kernel)
  | h2m17 _ _ => exact fun _ => (show ¬ (2 ∈ Zl (Zg 2).2) from by decide +kernel)
  | h2m18 _ _ => exact fun _ => (show ¬ (2 ∈ Zl (Zg 2).2) from by decide +kernel)
  | h2m19 _ _ => exact fun _ => (show ¬ (2 ∈ Zl (Zg 2).2) from by decide +kernel)
  | h2m20 _ _ _ _ _ => exact fun _ => (show ¬ (2 ∈ Zl (Zg 2).2) from by decide +kernel)
  | h2m21 _ _ => exact fun _ => (show ¬ (2 ∈ Zl (Zg 2).2) from by decide +kernel)
  | h2m22 _ _ => exact fun _ => (show ¬ (2 ∈ Zl (Zg 2).2) from by decide +kernel)
  | h2m23 _ _ => exact fun _ => (show ¬ (2 ∈ Zl (Zg 2).2) from by decide +kernel)
  ) (fun x => (show (Ze a0 a1 a2 N).Ok Tryz.prog Zs x (Zu a0 a1 a2 N x) from by
  cases x with
  | h1m0 v3 v4 v5 v6 v7 => exact Zim a0 a1 a2 v3 v4 v5 v6 v7 N
  | h1m1 v3 v4 => exact Zin a0 a1 a2 v3 v4 N
  | h1m2 v3 => exact Zio a0 a1 a2 v3 N
  | h1m3 => exact Zip a0 a1 a2 N
  | h2m0 v4 v5 v6 v7 v8 => exact Ziq a0 a1 a2 v4 v5 v6 v7 v8 N
  | h2m1 v3 v4 v5 => exact Zir a0 a1 a2 v3 v4 v5 N
  | h2m2 v2 v3 v4 => exact Zis a0 a1 a2 v2 v3 v4 N
  | h2m3 v1 v2 v3 => exact Zit a0 a1 a2 v1 v2 v3 N
  | h2m4 v4 v5 v6 v7 v8 => exact Ziu a0 a1 a2 v4 v5 v6 v7 v8 N
  | h2m5 v4 v5 => exact Ziv a0 a1 a2 v4 v5 N
  | h2m6 v3 v4 => exact Ziw a0 a1 a2 v3 v4 N
  | h2m7 v2 v3 => exact Zix a0 a1 a2 v2 v3 N
  | h2m8 v4 v5 v6 v7 v8 => exact Ziy a0 a1 a2 v4 v5 v6 v7 v8 N
  | h2m9 v4 v5 => exact Ziz a0 a1 a2 v4 v5 N
  | h2m10 v3 v4 => exact Zh4 a0 a1 a2 v3 v4 N
  | h2m11 v2 v3 => exact Zh5 a0 a1 a2 v2 v3 N
  | h2m12 v4 v5 v6 v7 v8 => exact Zh6 a0 a1 a2 v4 v5 v6 v7 v8 N
  | h2m13 v4 v5 => exact Zh7 a0 a1 a2 v4 v5 N
  | h2m14 v3 v4 => exact Zh8 a0 a1 a2 v3 v4 N
  | h2m15 v2 v3 => exact Zh9 a0 a1 a2 v2 v3 N
  | h2m16 v4 v5 v6 v7 v8 => exact ZhA a0 a1 a2 v4 v5 v6 v7 v8 N
  | h2m17 v4 v5 => exact ZhB a0 a1 a2 v4 v5 N
  | h2m18 v3 v4 => exact ZhC a0 a1 a2 v3 v4 N
  | h2m19 v2 v3 => exact ZhD a0 a1 a2 v2 v3 N
  | h2m20 v4 v5 v6 v7 v8 => exact ZhE a0 a1 a2 v4 v5 v6 v7 v8 N
  | h2m21 v4 v5 => exact ZhF a0 a1 a2 v4 v5 N
  | h2m22 v3 v4 => exact ZhG a0 a1 a2 v3 v4 N
  | h2m23 v2 v3 => exact ZhH a0 a1 a2 v2 v3 N
  )) (Zk6 a0 a1 a2 N) (n := N) h

end Ev
end Go.Proofs.YtnfmhpnogfppiaaGreat
/- Plain lemmas: machines step by step, lists by their places. -/
namespace Go.Proofs.YtnfmhpnogfppiaaGreat
open Go.RowKit
namespace Ev
section
variable {X R : Type} {step : X → Option (X ⊕ R)} {n : Nat} {x y : X} {r : R}
theorem Zaa (h : step x = some (.inl y)) : Zc7 step (n + 1) x = Zc7 step n y := by simp [Zc7, h]
theorem Zds (h : step x = some (.inr r)) : Zc7 step (n + 1) x = some r := by simp [Zc7, h]
theorem ZdN {o : Option (X ⊕ R)} (h : o = some (.inl x)) : goM step n o = Zc7 step n x := by subst h; rfl
end
section
variable {α : Type}
theorem Zsx {n i : Nat} {v d : α} (h : i < n) : (List.replicate n v).getD i d = v := by simp [h]
theorem ZnT {L M : List α} {i : Nat} {d : α} (h : i < L.length) : (L ++ M).getD i d = L.getD i d := by simp [List.getElem?_append_left h]
end
theorem Zr8 {α : Type} {c : Prop} [Decidable c] {a b r : α} (h1 : c → a = r) (h2 : ¬ c → b = r) : (if c then a else b) = r := by
 by_cases h : c
 ·rw [if_pos h]; exact h1 h
 ·rw [if_neg h]; exact h2 h
theorem Zy {α : Type} {c : Prop} [Decidable c] {a b r : α} (h : c) (e : a = r) : (if c then a else b) = r := by rw [if_pos h]; exact e
theorem Z8 {α : Type} {c : Prop} [Decidable c] {a b r : α} (h : ¬ c) (e : b = r) : (if c then a else b) = r := by rw [if_neg h]; exact e
theorem ZT {α β : Type} {o : Option α} {a : α} {k : α → Option β} {r : Option β} (h : o = some a) (e : k a = r) : o.bind k = r := by rw [h]; exact e
theorem w64 {x : Int} (h1 : -9223372036854775808 ≤ x) (h2 : x ≤ 9223372036854775807) : IntKind.i64.wrap x = x := wrap_i64 ⟨h1, h2⟩
end Ev
end Go.Proofs.YtnfmhpnogfppiaaGreat
/- The ways that are open, by the document's words: plain. -/
namespace Go.Proofs.YtnfmhpnogfppiaaGreat
open Go.RowKit
namespace Ev
namespace Pc
set_option linter.unusedVariables false
set_option linter.unusedSimpArgs false
def ZdL (l : List R_ii) : R_ii := l.getD (l.length - 1) R_ii.z
def brP (l : List R_ii) : R_ii := if l.length = 0 then ⟨-1, 0⟩ else ZdL l
def ZcC (l : List R_ii) (op : Int) (k : Nat) : List R_ii :=
 if op = 15 then if 8 ≤ l.length then l else l ++ [⟨(k : Int), 0⟩]
 else if op = 16 then if l.length = 0 then l else if (ZdL l).a1 = 1 then l else l.take (l.length - 1) ++ [⟨(ZdL l).a0, 1⟩]
 else if op = 17 then l.take (l.length - 1) else l
def ZfP (l : List R_ii) (op : Int) : Bool :=
 if op = 15 then decide (l.length < 8)
 else if op = 16 then if l.length = 0 then false else if (ZdL l).a1 = 1 then false else true
 else if op = 17 then decide (0 < l.length)
 else if op = 18 then decide (0 < l.length)
 else if op = 20 then decide (l.length = 0) else true
def opn (L : List RA) : Nat → List R_ii
 | 0 => []
 | k + 1 => ZcC (opn L k) (L.getD k RA.z).a0 k
theorem Zr9 {l : List R_ii} {op : Int} {k : Nat} (h : l.length ≤ 8) : (ZcC l op k).length ≤ 8 := by
 unfold ZcC
 repeat' split
 all_goals try simp only [List.length_append, List.length_take, List.length_cons, List.length_nil]
 all_goals omega
theorem ZkJ (L : List RA) : ∀ k, (opn L k).length ≤ 8
 | 0 => by simp [opn]
 | k + 1 => Zr9 (ZkJ L k)
theorem ZqT (op a1 a2 a3 : Int) (k : Nat) (N : Nat) : ZcK op a1 a2 a3 (k : Int) N = if op = 15 then some .r0 else some (.r1 (ZfP [] op)) := by
 unfold ZcK ZfP
 by_cases h15 : op = 15
 ·rw [if_pos h15, if_pos h15]
 ·rw [if_neg h15, if_neg h15, if_neg h15]
  by_cases h16 : op = 16
  ·rw [if_pos h16, if_pos h16]; rfl
  ·rw [if_neg h16, if_neg h16]
   by_cases h17 : op = 17
   ·rw [if_pos h17, if_pos h17]; rfl
   ·rw [if_neg h17, if_neg h17]
    by_cases h18 : op = 18
    ·rw [if_pos h18, if_pos h18]; rfl
    ·rw [if_neg h18, if_neg h18]; by_cases h20 : op = 20 <;> simp [h20]
def outL (l : List R_ii) : ZD → List R_ii
 | .r0 _ => l
 | .r1 l' => l'
 | .r2 => l.take (l.length - 1)
def ZlL : ZD → Bool
 | .r0 b => b
 | _ => true
theorem ZsK (l : List R_ii) (op a1 a2 a3 : Int) (k : Nat) (N : Nat) (hl : l.length ≤ 8) : ∃ r, Zb5 l op a1 a2 a3 (k : Int) N = some r ∧ outL l r = ZcC l op k ∧ ZlL r = ZfP l op := by
 unfold Zb5 ZcC ZfP
 by_cases h15 : op = 15
 ·rw [if_pos h15, if_pos h15, if_pos h15]
  by_cases h8 : 8 ≤ l.length
  ·rw [if_pos (by omega), if_pos h8]; exact ⟨_, rfl, rfl, by simp [ZlL]; omega⟩
  ·rw [if_neg (by omega), if_neg h8]
   by_cases h0 : l.length = 0
   ·rw [if_pos h0]; obtain rfl := List.length_eq_zero_iff.1 h0; exact ⟨_, rfl, rfl, by simp [ZlL]⟩
   ·rw [if_neg h0]; exact ⟨_, rfl, rfl, by simp [ZlL]; omega⟩
 ·rw [if_neg h15, if_neg h15, if_neg h15]
  by_cases h16 : op = 16
  ·rw [if_pos h16, if_pos h16, if_pos h16]
   by_cases h0 : l.length = 0
   ·rw [if_pos (by omega), if_pos h0, if_pos h0]; exact ⟨_, rfl, rfl, rfl⟩
   ·rw [if_neg (by omega), if_neg h0, if_neg h0, if_pos (by omega)]
    show ∃ r, (if (ZdL l).a1 = 1 then _ else _) = some r ∧ _
    by_cases h1 : (ZdL l).a1 = 1
    ·rw [if_pos h1, if_pos h1, if_pos h1]; exact ⟨_, rfl, rfl, rfl⟩
    ·rw [if_neg h1, if_neg h1, if_neg h1]
     by_cases h2 : (l.length - 1) - 0 = 0
     ·rw [if_pos h2]
      refine ⟨_, rfl, ?_, rfl⟩
      show [(⟨(ZdL l).a0, 1⟩ : R_ii)] = _
      rw [show l.length - 1 = 0 by omega]; rfl
     ·rw [if_neg h2, if_pos (by omega)]; exact ⟨_, rfl, rfl, rfl⟩
  ·rw [if_neg h16, if_neg h16, if_neg h16]
   by_cases h17 : op = 17
   ·rw [if_pos h17, if_pos h17, if_pos h17]
    by_cases h0 : l.length = 0
    ·rw [if_pos (by omega)]
     obtain rfl := List.length_eq_zero_iff.1 h0
     exact ⟨_, rfl, rfl, rfl⟩
    ·rw [if_neg (by omega), if_pos (by omega)]; exact ⟨_, rfl, rfl, (decide_eq_true (by omega)).symm⟩
   ·rw [if_neg h17, if_neg h17, if_neg h17]
    by_cases h18 : op = 18
    ·rw [if_pos h18, if_pos h18]
     by_cases h0 : 0 < l.length
     ·rw [if_pos (by omega)]; exact ⟨_, rfl, rfl, by simp [ZlL, h0]⟩
     ·rw [if_neg (by omega)]; exact ⟨_, rfl, rfl, (decide_eq_false (by omega)).symm⟩
    ·rw [if_neg h18, if_neg h18]
     by_cases h20 : op = 20
     ·rw [if_pos h20, if_pos h20]
      by_cases h0 : l.length = 0
      ·rw [if_pos (by omega)]; exact ⟨_, rfl, rfl, by simp [ZlL, h0]⟩
      ·rw [if_neg (by omega)]; exact ⟨_, rfl, rfl, by simp [ZlL, h0]⟩
     ·rw [if_neg h20, if_neg h20]; exact ⟨_, rfl, rfl, rfl⟩
end Pc
end Ev
end Go.Proofs.YtnfmhpnogfppiaaGreat
/- The ways that are open ahead of a place, and its branch: plain. -/
namespace Go.Proofs.YtnfmhpnogfppiaaGreat
open Go.RowKit
namespace Ev
namespace Pc
set_option linter.unusedVariables false
set_option linter.unusedSimpArgs false
def ZsL : Zaj → List R_ii
 | .r0 => []
 | .r1 l => l
section
variable {L : List RA} {N : Nat} {at_ : Int}
theorem ZrA (k : Nat) (l : List R_ii) (hl : l.length ≤ 8) (hk : k < L.length)  (hp : (k : Int) < at_) (hL : L.length ≤ 512) :
  ZbB L at_ N l k = some (.inl (.h1m1 (ZcC l (L.getD k RA.z).a0 k) (k + 1))) := by
 unfold ZbB
 rw [if_pos hp, if_pos (by omega)]
 obtain ⟨r, h1, h2, h3⟩ := ZsK l (L.getD k RA.z).a0 (L.getD k RA.z).a1 (L.getD k RA.z).a2 (L.getD k RA.z).a3 k N hl
 refine ZT h1 ?_
 rw [← h2]
 cases r <;> exact Zy (by omega) rfl
theorem ZrB (k : Nat) (hk : k < L.length)  (hp : (k : Int) < at_) (hL : L.length ≤ 512) :
  ZbA L at_ N k = some (.inl (if (L.getD k RA.z).a0 = 15 then .h1m1 (ZcC [] (L.getD k RA.z).a0 k) (k + 1) else .h1m0 (k + 1))) ∧ ((L.getD k RA.z).a0 ≠ 15 → ZcC [] (L.getD k RA.z).a0 k = []) := by
 constructor
 ·unfold ZbA
  rw [if_pos hp, if_pos (by omega), ZqT]
  by_cases h : (L.getD k RA.z).a0 = 15
  ·rw [if_pos h, if_pos h, h]; exact ZT rfl (Zy (by omega) rfl)
  ·rw [if_neg h, if_neg h]; exact ZT rfl (Zy (by omega) rfl)
 ·intro h
  unfold ZcC
  rw [if_neg h]
  by_cases h16 : (L.getD k RA.z).a0 = 16
  ·rw [if_pos h16]; rfl
  ·rw [if_neg h16]; by_cases h17 : (L.getD k RA.z).a0 = 17
   ·rw [if_pos h17]; rfl
   ·rw [if_neg h17]
theorem ZpQ (m : Nat) (hm : m ≤ L.length)  (hp : (m : Int) ≤ at_) (he : (m : Int) = at_ ∨ m = L.length) (hL : L.length ≤ 512) : ∀ d k f, k + d = m → d < f →
  Zc7 (ZbZ L at_ N) f (.h1m1 (opn L k) k) = some (.r1 (opn L m)) := by
 intro d
 induction d with
 | zero =>
  intro k f hk hf
  obtain ⟨f, rfl⟩ : ∃ j, f = j + 1 := ⟨f - 1, by omega⟩
  obtain rfl : k = m := by omega
  refine Zds ?_
  show ZbB L at_ N (opn L k) k = _
  unfold ZbB
  rcases he with he | he
  ·exact Z8 (by omega) rfl
  ·exact Zr8 (fun _ => Z8 (by omega) rfl) (fun _ => rfl)
 | succ d ih =>
  intro k f hk hf
  obtain ⟨f, rfl⟩ : ∃ j, f = j + 1 := ⟨f - 1, by omega⟩
  exact (Zaa (ZrA k (opn L k) (ZkJ L k) (by omega) (by omega) hL)).trans (ih (k + 1) f (by omega) (by omega))
theorem ZpR (m : Nat) (hm : m ≤ L.length)  (hp : (m : Int) ≤ at_) (he : (m : Int) = at_ ∨ m = L.length) (hL : L.length ≤ 512) : ∀ d k f, k + d = m → d < f → opn L k = [] →
  ∃ r, Zc7 (ZbZ L at_ N) f (.h1m0 k) = some r ∧ ZsL r = opn L m := by
 intro d
 induction d with
 | zero =>
  intro k f hk hf h0
  obtain ⟨f, rfl⟩ : ∃ j, f = j + 1 := ⟨f - 1, by omega⟩
  obtain rfl : k = m := by omega
  refine ⟨.r0, Zds ?_, h0.symm⟩
  show ZbA L at_ N k = _
  unfold ZbA
  rcases he with he | he
  ·exact Z8 (by omega) rfl
  ·exact Zr8 (fun _ => Z8 (by omega) rfl) (fun _ => rfl)
 | succ d ih =>
  intro k f hk hf h0
  obtain ⟨f, rfl⟩ : ∃ j, f = j + 1 := ⟨f - 1, by omega⟩
  obtain ⟨h1, h2⟩ := ZrB (L := L) (N := N) (at_ := at_) k (by omega) (by omega) hL
  have hs : opn L (k + 1) = ZcC [] (L.getD k RA.z).a0 k := by show ZcC (opn L k) _ _ = _; rw [h0]
  by_cases h : (L.getD k RA.z).a0 = 15
  ·rw [if_pos h, ← hs] at h1
   exact ⟨_, (Zaa h1).trans (ZpQ m hm hp he hL d (k + 1) f (by omega) (by omega)), rfl⟩
  ·rw [if_neg h] at h1
   obtain ⟨r, q1, q2⟩ := ih (k + 1) f (by omega) (by omega) (by rw [hs]; exact h2 h)
   exact ⟨r, (Zaa h1).trans q1, q2⟩
theorem ZlM (m : Nat) (hm : m ≤ L.length)  (hp : (m : Int) ≤ at_) (he : (m : Int) = at_ ∨ m = L.length) (hL : L.length ≤ 512) (hN : 520 ≤ N) : ∃ r, Zdx L at_ N = some r ∧ ZsL r = opn L m :=
 ZpR m hm hp he hL m 0 N (by omega) (by omega) rfl
theorem Zk7 (m : Nat) (hm : m ≤ L.length)  (hp : (m : Int) ≤ at_) (he : (m : Int) = at_ ∨ m = L.length) (hL : L.length ≤ 512) (hN : 520 ≤ N) : Zca L at_ N = some (.r0 (brP (opn L m)).a0 (brP (opn L m)).a1) := by
 obtain ⟨r, h1, h2⟩ := ZlM (N := N) m hm hp he hL hN
 refine ZT h1 ?_
 have hl := ZkJ L m
 cases r with
 | r0 =>
  have h2 : opn L m = [] := h2.symm
  rw [h2]; rfl
 | r1 l =>
  have h2 : l = opn L m := h2
  subst h2
  unfold brP ZdL
  by_cases h : (opn L m).length = 0
  ·rw [if_pos h]; exact Zy (by omega) rfl
  ·rw [if_neg h]; exact Z8 (by omega) (Zy (by omega) rfl)
end
end Pc
end Ev
end Go.Proofs.YtnfmhpnogfppiaaGreat
/- Wrong, Check, Blocks, Branch of a program that is right: plain. -/
namespace Go.Proofs.YtnfmhpnogfppiaaGreat
open Go.RowKit
namespace Ev
namespace Pc
set_option linter.unusedVariables false
set_option linter.unusedSimpArgs false
def tgt (x : RA) : Int := if x.a0 = 8 then x.a1 else if x.a0 = 9 then x.a2 else 0
theorem ZrC (x : RA) (N : Nat) : ZcY x.a0 x.a1 x.a2 x.a3 N = some (.r0 (tgt x) (decide (x.a0 = 8 ∨ x.a0 = 9))) := by
 unfold ZcY tgt
 by_cases h8 : x.a0 = 8
 ·rw [if_pos h8, if_pos h8, decide_eq_true (Or.inl h8)]
 ·rw [if_neg h8, if_neg h8]
  by_cases h9 : x.a0 = 9
  ·rw [if_pos h9, if_pos h9, decide_eq_true (Or.inr h9)]
  ·rw [if_neg h9, if_neg h9, decide_eq_false (by rintro (h | h) <;> contradiction)]
structure Good (L : List RA) (N : Nat) : Prop where
 len1 : 1 ≤ L.length
 len2 : L.length ≤ 512
 is : ∀ k, k < L.length → ZaS (L.getD k RA.z).a0 (L.getD k RA.z).a1 (L.getD k RA.z).a2 (L.getD k RA.z).a3 N = some (.r0 true)
 st : ∀ k, k < L.length → ZfP (opn L k) (L.getD k RA.z).a0 = true
 fin : opn L L.length = []
 tg : ∀ k, k < L.length → ((L.getD k RA.z).a0 = 8 ∨ (L.getD k RA.z).a0 = 9) → ∃ m : Nat, tgt (L.getD k RA.z) = (m : Int) ∧ m ≤ L.length ∧ brP (opn L m) = brP (opn L k)
section
variable {L : List RA} {N : Nat}
theorem ZqU (G : Good L N) (hN : 2000 ≤ N) : ∀ d k f, k + d = L.length → d < f → Zc7 (ZaI L N) f (.h2m0 k) = some (.r0 (-1)) := by
 have hL := G.len2
 intro d
 induction d with
 | zero =>
  intro k f hk hf
  obtain ⟨f, rfl⟩ : ∃ j, f = j + 1 := ⟨f - 1, by omega⟩
  refine Zds ?_
  show Zbo L N k = _
  unfold Zbo
  exact Z8 (by omega) rfl
 | succ d ih =>
  intro k f hk hf
  obtain ⟨f, rfl⟩ : ∃ j, f = j + 1 := ⟨f - 1, by omega⟩
  refine (Zaa ?_).trans (ih (k + 1) f (by omega) (by omega))
  show Zbo L N k = _
  unfold Zbo
  refine Zy (by omega) ?_
  refine ZT (ZrC (L.getD k RA.z) N) ?_
  by_cases hj : (L.getD k RA.z).a0 = 8 ∨ (L.getD k RA.z).a0 = 9
  ·obtain ⟨m, h1, h2, h3⟩ := G.tg k (by omega) hj
   refine Zy (decide_eq_true hj) ?_
   refine Z8 (by rw [h1]; omega) ?_
   rw [h1]
   refine ZT (Zk7 m h2 (by omega) (.inl rfl) hL (by omega)) ?_
   refine ZT (Zk7 k (by omega) (by omega) (.inl rfl) hL (by omega)) ?_
   refine Z8 (by rw [h3]; simp) ?_
   exact Zy (by omega) rfl
  ·refine Z8 (fun q => hj (of_decide_eq_true q)) ?_
   exact Zy (by omega) rfl
theorem from1 (G : Good L N) (hN : 2000 ≤ N) : ∀ d k f, k + d = L.length → d + L.length + 2 ≤ f → Zc7 (ZaI L N) f (.h1m1 (opn L k) k) = some (.r0 (-1)) := by
 have hL := G.len2
 intro d
 induction d with
 | zero =>
  intro k f hk hf
  obtain ⟨f, rfl⟩ : ∃ j, f = j + 1 := ⟨f - 1, by omega⟩
  obtain rfl : k = L.length := by omega
  refine (Zaa ?_).trans (ZqU G hN L.length 0 f (by omega) (by omega))
  show Zbn L N (opn L L.length) L.length = _
  unfold Zbn
  refine Z8 (by omega) ?_
  rw [G.fin]
  exact Z8 (by simp) rfl
 | succ d ih =>
  intro k f hk hf
  obtain ⟨f, rfl⟩ : ∃ j, f = j + 1 := ⟨f - 1, by omega⟩
  refine (Zaa ?_).trans (ih (k + 1) f (by omega) (by omega))
  show Zbn L N (opn L k) k = _
  unfold Zbn
  refine Zy (by omega) ?_
  obtain ⟨r, h1, h2, h3⟩ := ZsK (opn L k) (L.getD k RA.z).a0 (L.getD k RA.z).a1 (L.getD k RA.z).a2 (L.getD k RA.z).a3 k N (ZkJ L k)
  have hb := G.st k (by omega)
  refine ZT h1 ?_
  show _ = some (Sum.inl (ref12_Wrong_2X.h1m1 (ZcC (opn L k) (L.getD k RA.z).a0 k) (k + 1)))
  rw [← h2]
  rw [← h3] at hb
  have hi := G.is k (by omega)
  cases r with
  | r0 b => exact ZT hi (Z8 (by simp) (Z8 (fun q => q hb) (Zy (by omega) rfl)))
  | r1 l => exact ZT hi (Z8 (by simp) (Zy (by omega) rfl))
  | r2 => exact ZT hi (Z8 (by simp) (Zy (by omega) rfl))
theorem Zpl {op : Int} {k : Nat} (h : op ≠ 15) : ZcC [] op k = [] := by
 unfold ZcC
 rw [if_neg h]
 by_cases h16 : op = 16
 ·rw [if_pos h16]; rfl
 ·rw [if_neg h16]; by_cases h17 : op = 17
  ·rw [if_pos h17]; rfl
  ·rw [if_neg h17]
theorem from0 (G : Good L N) (hN : 2000 ≤ N) : ∀ d k f, k + d = L.length → d + L.length + 2 ≤ f → opn L k = [] → Zc7 (ZaI L N) f (.h1m0 k) = some (.r0 (-1)) := by
 have hL := G.len2
 intro d
 induction d with
 | zero =>
  intro k f hk hf h0
  obtain ⟨f, rfl⟩ : ∃ j, f = j + 1 := ⟨f - 1, by omega⟩
  obtain rfl : k = L.length := by omega
  refine (Zaa ?_).trans (ZqU G hN L.length 0 f (by omega) (by omega))
  show ZaB L N L.length = _
  unfold ZaB
  exact Z8 (by omega) rfl
 | succ d ih =>
  intro k f hk hf h0
  obtain ⟨f, rfl⟩ : ∃ j, f = j + 1 := ⟨f - 1, by omega⟩
  have hb := G.st k (by omega)
  have hi := G.is k (by omega)
  have hs : opn L (k + 1) = ZcC [] (L.getD k RA.z).a0 k := by show ZcC (opn L k) _ _ = _; rw [h0]
  by_cases h : (L.getD k RA.z).a0 = 15
  ·refine (Zaa ?_).trans (from1 G hN d (k + 1) f (by omega) (by omega))
   show ZaB L N k = _
   unfold ZaB
   refine Zy (by omega) ?_
   rw [ZqT, if_pos h]
   refine ZT rfl ?_
   refine ZT hi (Z8 (by simp) (Zy (by omega) ?_))
   rw [hs, h]; rfl
  ·refine (Zaa ?_).trans (ih (k + 1) f (by omega) (by omega) (by rw [hs]; exact Zpl h))
   show ZaB L N k = _
   unfold ZaB
   refine Zy (by omega) ?_
   rw [ZqT, if_neg h]
   refine ZT rfl ?_
   rw [h0] at hb
   exact ZT hi (Z8 (by simp) (Z8 (fun q => q hb) (Zy (by omega) rfl)))
theorem Zsy (G : Good L N) (hN : 2000 ≤ N) : ZeJ L N = some (.r0 (-1)) := by
 have h1 := G.len1
 have h2 := G.len2
 refine (ZdN (x := .h1m0 0) ?_).trans (from0 G hN L.length 0 N (by omega) (by omega) rfl)
 unfold Zea
 exact Z8 (by omega) (Z8 (by omega) rfl)
theorem ZiY (G : Good L N) (hN : 2000 ≤ N) : Zag L N = some (.r0 0) := by
 unfold Zag
 exact ZT (Zsy G hN) (Zy (by omega) rfl)
def blL (L : List RA) : Nat → List Int
 | 0 => []
 | k + 1 => if (L.getD k RA.z).a0 = 15 ∧ (opn L k).length = 0 then blL L k ++ [(k : Int)] else blL L k
theorem ZrD (L : List RA) : ∀ k, (blL L k).length ≤ k
 | 0 => by simp [blL]
 | k + 1 => by
  have := ZrD L k
  unfold blL
  split
  ·simp; omega
  ·omega
def ZqV : Zal → List Int
 | .r0 => []
 | .r1 l => l
theorem Ztb (hL : L.length ≤ 512) (hN : 2000 ≤ N) : ∀ d k f, k + d = L.length → d < f → Zc7 (ZbC L N) f (.h1m1 (blL L k) k) = some (.r1 (blL L L.length)) := by
 intro d
 induction d with
 | zero =>
  intro k f hk hf
  obtain ⟨f, rfl⟩ : ∃ j, f = j + 1 := ⟨f - 1, by omega⟩
  obtain rfl : k = L.length := by omega
  refine Zds ?_
  show Zbz L N _ _ = _
  unfold Zbz
  exact Z8 (by omega) rfl
 | succ d ih =>
  intro k f hk hf
  obtain ⟨f, rfl⟩ : ∃ j, f = j + 1 := ⟨f - 1, by omega⟩
  refine (Zaa ?_).trans (ih (k + 1) f (by omega) (by omega))
  show Zbz L N _ _ = _
  unfold Zbz
  have hb := ZrD L k
  refine Zy (by omega) ?_
  by_cases h : (L.getD k RA.z).a0 = 15
  ·refine Zy h ?_
   obtain ⟨r, h1, h2⟩ := ZlM (L := L) (N := N) (at_ := (k : Int)) k (by omega) (by omega) (.inl rfl) hL (by omega)
   refine ZT h1 ?_
   cases r with
   | r0 =>
    have h2 : opn L k = [] := h2.symm
    have hs : blL L (k + 1) = blL L k ++ [(k : Int)] := if_pos ⟨h, by rw [h2]; rfl⟩
    rw [hs]
    exact Zy (by omega) (Zy (by omega) rfl)
   | r1 l =>
    have h2 : l = opn L k := h2
    subst h2
    by_cases h0 : (opn L k).length = 0
    ·have hs : blL L (k + 1) = blL L k ++ [(k : Int)] := if_pos ⟨h, h0⟩
     rw [hs]
     exact Zy (by omega) (Zy (by omega) (Zy (by omega) rfl))
    ·have hs : blL L (k + 1) = blL L k := if_neg (fun q => h0 q.2)
     rw [hs]
     exact Z8 (by omega) (Zy (by omega) rfl)
  ·have hs : blL L (k + 1) = blL L k := if_neg (fun q => h q.1)
   rw [hs]
   exact Z8 h (Zy (by omega) rfl)
theorem Ztc (hL : L.length ≤ 512) (hN : 2000 ≤ N) : ∀ d k f, k + d = L.length → d < f → blL L k = [] → ∃ r, Zc7 (ZbC L N) f (.h1m0 k) = some r ∧ ZqV r = blL L L.length := by
 intro d
 induction d with
 | zero =>
  intro k f hk hf h0
  obtain ⟨f, rfl⟩ : ∃ j, f = j + 1 := ⟨f - 1, by omega⟩
  obtain rfl : k = L.length := by omega
  refine ⟨.r0, Zds ?_, h0.symm⟩
  show Zau L N _ = _
  unfold Zau
  exact Z8 (by omega) rfl
 | succ d ih =>
  intro k f hk hf h0
  obtain ⟨f, rfl⟩ : ∃ j, f = j + 1 := ⟨f - 1, by omega⟩
  have hs : blL L (k + 1) = if (L.getD k RA.z).a0 = 15 ∧ (opn L k).length = 0 then [(k : Int)] else [] := by rw [blL, h0]; simp only [List.nil_append]
  by_cases h : (L.getD k RA.z).a0 = 15
  ·obtain ⟨r, h1, h2⟩ := ZlM (L := L) (N := N) (at_ := (k : Int)) k (by omega) (by omega) (.inl rfl) hL (by omega)
   by_cases h9 : (opn L k).length = 0
   ·rw [if_pos ⟨h, h9⟩] at hs
    refine ⟨_, (Zaa (y := .h1m1 [(k : Int)] (k + 1)) ?_).trans (by rw [← hs]; exact Ztb hL hN d (k + 1) f (by omega) (by omega)), rfl⟩
    show Zau L N _ = _
    unfold Zau
    refine Zy (by omega) (Zy h (ZT h1 ?_))
    cases r with
    | r0 => exact Zy (by omega) rfl
    | r1 l =>
     have h2 : l = opn L k := h2
     subst h2
     exact Zy (by omega) (Zy (by omega) rfl)
   ·rw [if_neg (fun q => h9 q.2)] at hs
    obtain ⟨r', q1, q2⟩ := ih (k + 1) f (by omega) (by omega) hs
    refine ⟨r', (Zaa (y := .h1m0 (k + 1)) ?_).trans q1, q2⟩
    show Zau L N _ = _
    unfold Zau
    refine Zy (by omega) (Zy h (ZT h1 ?_))
    cases r with
    | r0 => exact absurd (by rw [← h2]; rfl) h9
    | r1 l =>
     have h2 : l = opn L k := h2
     subst h2
     exact Z8 (by omega) (Zy (by omega) rfl)
  ·rw [if_neg (fun q => h q.1)] at hs
   obtain ⟨r', q1, q2⟩ := ih (k + 1) f (by omega) (by omega) hs
   refine ⟨r', (Zaa (y := .h1m0 (k + 1)) ?_).trans q1, q2⟩
   show Zau L N _ = _
   unfold Zau
   exact Zy (by omega) (Z8 h (Zy (by omega) rfl))
theorem Zn2 (G : Good L N) (hN : 2000 ≤ N) : ∃ r, ZaW L N = some r ∧ ZqV r = blL L L.length := by
 have h2 := G.len2
 obtain ⟨r, q1, q2⟩ := Ztc (N := N) h2 hN L.length 0 N (by omega) (by omega) rfl
 refine ⟨r, (ZdN (x := .h1m0 0) ?_).trans q1, q2⟩
 unfold Zev
 exact ZT (ZiY G hN) (Z8 (by simp) rfl)
theorem ZrE (G : Good L N) (hN : 2000 ≤ N) (k : Nat) (hk : k ≤ L.length) : ZaX L (k : Int) N = some (.r0 (brP (opn L k)).a0 (brP (opn L k)).a1) := by
 unfold ZaX
 refine Z8 (by omega) (Z8 (by omega) (ZT (ZiY G hN) (Z8 (by simp) ?_)))
 exact ZT (Zk7 k hk (by omega) (.inl rfl) G.len2 (by omega)) rfl
end
end Pc
end Ev
end Go.Proofs.YtnfmhpnogfppiaaGreat
/- Emits, and a piece behind them: plain. -/
namespace Go.Proofs.YtnfmhpnogfppiaaGreat
open Go.RowKit
namespace Ev
namespace Pc
set_option linter.unusedVariables false
set_option linter.unusedSimpArgs false
def sh (b : Int) (l : List R_ii) : List R_ii := l.map fun x => ⟨x.a0 + b, x.a1⟩
def Zdy (ops : List Int) : Nat → List R_ii
 | 0 => []
 | k + 1 => ZcC (Zdy ops k) (ops.getD k 0) k
theorem ZmA (b : Int) (l : List R_ii) : (sh b l).length = l.length := by simp [sh]
theorem Zng {b : Int} {l : List R_ii} (h : l.length ≠ 0) : ZdL (sh b l) = ⟨(ZdL l).a0 + b, (ZdL l).a1⟩ := by
 have h' : l.length - 1 < l.length := by omega
 simp [ZdL, sh, h']
theorem Zsz (b : Nat) (l : List R_ii) (op : Int) (k : Nat) : ZcC (sh (b : Int) l) op (b + k) = sh (b : Int) (ZcC l op k) := by
 unfold ZcC
 rw [ZmA]
 by_cases h15 : op = 15
 ·rw [if_pos h15, if_pos h15]
  by_cases h8 : 8 ≤ l.length
  ·rw [if_pos h8, if_pos h8]
  ·rw [if_neg h8, if_neg h8]
   have e : ((b + k : Nat) : Int) = (k : Int) + (b : Int) := by omega
   simp only [sh, List.map_append, List.map_cons, List.map_nil, e]
 ·rw [if_neg h15, if_neg h15]
  by_cases h16 : op = 16
  ·rw [if_pos h16, if_pos h16]
   by_cases h0 : l.length = 0
   ·rw [if_pos h0, if_pos h0]
   ·rw [if_neg h0, if_neg h0, Zng h0]
    by_cases h1 : (ZdL l).a1 = 1
    ·rw [if_pos h1, if_pos h1]
    ·rw [if_neg h1, if_neg h1]
     simp [sh]
  ·rw [if_neg h16, if_neg h16]
   by_cases h17 : op = 17
   ·rw [if_pos h17, if_pos h17]; simp [sh]
   ·rw [if_neg h17, if_neg h17]
theorem Zs0 (b : Int) (l : List R_ii) (op : Int) : ZfP (sh b l) op = ZfP l op := by
 unfold ZfP
 rw [ZmA]
 by_cases h0 : l.length = 0
 ·simp only [if_pos h0]
 ·rw [Zng h0]
abbrev ZaV : RA := ⟨19, 0, 0, 0⟩
section
variable {p : List RA} {b : Nat}
theorem Zhe {k : Nat} (h : k < b) : (List.replicate b ZaV ++ p).getD k RA.z = ZaV := by
 rw [ZnT (by simpa using h), Zsx h]
theorem Zfe (j : Nat) : (List.replicate b ZaV ++ p).getD (b + j) RA.z = p.getD j RA.z := by
 rw [List.getD_eq_getElem?_getD, List.getD_eq_getElem?_getD, List.getElem?_append_right (by simp)]
 simp
theorem ZlN : ∀ k, k ≤ b → opn (List.replicate b ZaV ++ p) k = []
 | 0, _ => rfl
 | k + 1, h => by
  rw [opn, ZlN k (by omega), Zhe (by omega)]; exact Zpl (by decide)
theorem Zel : ∀ j, opn (List.replicate b ZaV ++ p) (b + j) = sh (b : Int) (Zdy (p.map (·.a0)) j)
 | 0 => ZlN b (Nat.le_refl _)
 | j + 1 => by
  rw [show b + (j + 1) = (b + j) + 1 by omega, opn, Zel j, Zfe, Zsz, Zdy]
  congr 1
  by_cases hj : j < p.length
  ·simp [hj]
  ·simp [List.getElem?_eq_none (Nat.le_of_not_lt hj), RA.z]
def Zog : List R_ii → List R_ii → Bool
 | [], [] => true
 | x :: l, y :: m => x.a0 == y.a0 && x.a1 == y.a1 && Zog l m
 | _, _ => false
theorem ZeV : ∀ {l m : List R_ii}, Zog l m = true → l = m
 | [], [], _ => rfl
 | [], _ :: _, h => by cases h
 | _ :: _, [], h => by cases h
 | ⟨x0, x1⟩ :: l, ⟨y0, y1⟩ :: m, h => by
  simp only [Zog, Bool.and_eq_true, beq_iff_eq] at h
  obtain ⟨⟨rfl, rfl⟩, h3⟩ := h
  rw [ZeV h3]
def nBl (ops : List Int) : Nat → Nat
 | 0 => 0
 | k + 1 => if ops.getD k 0 = 15 ∧ (Zdy ops k).length = 0 then nBl ops k + 1 else nBl ops k
def Zi0 (ops : List Int) (tg : List Nat) : Bool :=
 (List.range ops.length).all fun k => ZfP (Zdy ops k) (ops.getD k 0) && (!(ops.getD k 0 == 8 || ops.getD k 0 == 9) || (Nat.ble (tg.getD k 0) ops.length && Zog (Zdy ops (tg.getD k 0)) (Zdy ops k)))
theorem Zqk : ∀ k, k ≤ b → blL (List.replicate b ZaV ++ p) k = []
 | 0, _ => rfl
 | k + 1, h => by
  rw [blL, Zqk k (by omega), Zhe (by omega)]
  exact if_neg (by simp [ZaV])
theorem ZiZ : ∀ j, j ≤ p.length → (blL (List.replicate b ZaV ++ p) (b + j)).length = nBl (p.map (·.a0)) j
 | 0, _ => by rw [Nat.add_zero, Zqk b (Nat.le_refl _)]; rfl
 | j + 1, h => by
  have hj : j < p.length := h
  rw [show b + (j + 1) = (b + j) + 1 by omega, blL, Zfe, Zel, ZmA, nBl]
  have e : (p.map (·.a0)).getD j 0 = (p.getD j RA.z).a0 := by simp [hj]
  rw [e]
  by_cases hc : (p.getD j RA.z).a0 = 15 ∧ (Zdy (p.map (·.a0)) j).length = 0
  ·rw [if_pos hc, if_pos hc]; simp [ZiZ j (by omega)]
  ·rw [if_neg hc, if_neg hc]; exact ZiZ j (by omega)
theorem Ztd (N : Nat) : ZaS 19 0 0 0 N = some (.r0 true) := rfl
theorem Zf6 {N : Nat} {tg : List Nat} (h1 : 1 ≤ p.length) (h2 : b + p.length ≤ 512) (hi : ∀ x ∈ p, ZaS x.a0 x.a1 x.a2 x.a3 N = some (.r0 true))
  (hr : Zi0 (p.map (·.a0)) tg = true) (hf : Zdy (p.map (·.a0)) p.length = [])
  (ht : ∀ k, k < p.length → ((p.getD k RA.z).a0 = 8 ∨ (p.getD k RA.z).a0 = 9) → tgt (p.getD k RA.z) = (b : Int) + (tg.getD k 0 : Nat)) : Good (List.replicate b ZaV ++ p) N := by
 have hl : (List.replicate b ZaV ++ p).length = b + p.length := by simp
 have hR : ∀ k, k < p.length → ZfP (Zdy (p.map (·.a0)) k) (p.getD k RA.z).a0 = true ∧ (((p.getD k RA.z).a0 = 8 ∨ (p.getD k RA.z).a0 = 9) → tg.getD k 0 ≤ p.length ∧ Zdy (p.map (·.a0)) (tg.getD k 0) = Zdy (p.map (·.a0)) k) := by
  intro k hk
  have h := List.all_eq_true.1 hr k (by simp [hk])
  have e : (p.map (·.a0)).getD k 0 = (p.getD k RA.z).a0 := by simp [hk]
  rw [e, List.length_map] at h
  simp only [Bool.and_eq_true, Bool.or_eq_true, Bool.not_eq_true', Bool.or_eq_false_iff, beq_eq_false_iff_ne, Nat.ble_eq] at h
  refine ⟨h.1, fun hj => ?_⟩
  rcases h.2 with h | h
  ·rcases hj with hj | hj
   ·exact absurd hj h.1
   ·exact absurd hj h.2
  ·exact ⟨h.1, ZeV h.2⟩
 refine ⟨by omega, by omega, fun k hk => ?_, fun k hk => ?_, ?_, fun k hk hj => ?_⟩
 ·by_cases hb : k < b
  ·rw [Zhe hb]; exact Ztd N
  ·obtain ⟨j, rfl⟩ : ∃ j, k = b + j := ⟨k - b, by omega⟩
   have hj : j < p.length := by omega
   rw [Zfe]
   have : p.getD j RA.z = p[j] := by simp [hj]
   rw [this]; exact hi _ (List.getElem_mem hj)
 ·by_cases hb : k < b
  ·rw [Zhe hb, ZlN k (by omega)]; rfl
  ·obtain ⟨j, rfl⟩ : ∃ j, k = b + j := ⟨k - b, by omega⟩
   rw [Zfe, Zel, Zs0]; exact (hR j (by omega)).1
 ·rw [hl, Zel, hf]; rfl
 ·by_cases hb : k < b
  ·rw [Zhe hb] at hj; exact absurd hj (by simp [ZaV])
  ·obtain ⟨j, rfl⟩ : ∃ j, k = b + j := ⟨k - b, by omega⟩
   rw [Zfe] at hj ⊢
   obtain ⟨q1, q2⟩ := (hR j (by omega)).2 hj
   refine ⟨b + tg.getD j 0, by rw [ht j (by omega) hj]; omega, by omega, ?_⟩
   rw [Zel, Zel, q2]
end
end Pc
end Ev
end Go.Proofs.YtnfmhpnogfppiaaGreat
