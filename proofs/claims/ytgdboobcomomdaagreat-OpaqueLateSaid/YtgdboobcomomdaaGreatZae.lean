/- The law OpaqueLate, for every input. -/
import Derived.Test.YtgdboobcomomdaaGreatZad
import Derived.Test.YtgdboobcomomdaaGreatZac
import Derived.StillTail
import Derived.OrdersHeld
import Derived.WideBlind
/- Calls do what the plain functions say. -/
namespace Go.Proofs.YtgdboobcomomdaaGreat
open Go.RowKit
namespace Ev
set_option linter.unusedVariables false
set_option maxRecDepth 100000
theorem Zg7 (L0 : List RB) (L1 : List R_iiiiiiAi) (v1 : List RA) (v2 v3 v4 v7 : Nat) (v8 v9 v10 v11 v12 v13 v14 v15 v16 v17 v18 v19 : Int) (N : Nat) : (Zg L0 L1 N).Ok Tryz.prog Zx (.h2m2 v1 v2 v3 v4 v7 v8 v9 v10 v11 v12 v13 v14 v15 v16 v17 v18 v19 : Zc) (Zs L0 L1 N (.h2m2 v1 v2 v3 v4 v7 v8 v9 v10 v11 v12 v13 v14 v15 v16 v17 v18 v19 : Zc)) := by
 show (Zg L0 L1 N).Ok Tryz.prog Zx (.h2m2 v1 v2 v3 v4 v7 v8 v9 v10 v11 v12 v13 v14 v15 v16 v17 v18 v19 : Zc) (Zo L0 L1 N v1 v2 v3 v4 v7 v8 v9 v10 v11 v12 v13 v14 v15 v16 v17 v18 v19)
 unfold Zo
 refine Mach.ok_ite (fun g0 => ?_) (fun g0 => ?_)
 ·
  refine Mach.ok_ite (fun g1 => ?_) (fun g1 => ?_)
  ·
   refine Mach.ok_ite (fun g2 => ?_) (fun g2 => ?_)
   ·
    refine Mach.ok_ite (fun g3 => ?_) (fun g3 => ?_)
    ·
     refine Mach.ok_ite (fun g4 => ?_) (fun g4 => ?_)
     ·
      refine Mach.ok_bind (fun z5 c5 => ?_)
      cases z5 with
      | r0 y5_0 y5_1 y5_2 y5_3 y5_4 y5_5 =>
       exact Mach.ok_next (M := Zg L0 L1 N) (cd := 1000000) (cm := 0) (y := (.h2m2 (v1) ((v2 + 1)) ((v3 - 1)) (v4) (v7) (y5_0) (y5_1) (y5_2) (y5_3) (y5_4) (y5_5) (v14) (v15) (v16) (v17) (v18) (v19) : Zc)) (fu := 4000) (orc := (Zm [(0, true), (1, true)] [(0, (((v4 + 1) : Nat) : Int))] [(0, 0), (1, 0)] [(0, [.i (v1.getD v2 RA.z).a0]), (1, [.i (v1.getD v2 RA.z).a0, .i (v1.getD v2 RA.z).a1, .i (v1.getD v2 RA.z).a2])] [(0, (Zfd ((v1.getD v2 RA.z).a0) ((v1.getD v2 RA.z).a1) ((v1.getD v2 RA.z).a2) (v8) (v9) (v10) (v11) (v12) (v13)  y5_0 y5_1 y5_2 y5_3 y5_4 y5_5 2 3 5)), (1, .sl 1 v3)])) (live := [0, 1, 2, 3, 4]) (tv := fun _ => [some (Value.slice (some ⟨1, ((v2 * 3) + (1 * 3)), none⟩) (v3 - 1) (v3 - 1)), some (vp 2 0), some (vp 3 0), some (Value.func (.func 12) #[] #[vp 2 0, vp 3 0]), some (vi (v4 : Int)), some (vp 4 0), some (ms E_iiiiii L0), some (vi (L0.length : Int)), some (vi (v7 : Int))]) (bl := [some (.cells (Zd E_iiiiiiAi L1) 31), some (.cells (Zd Zk v1) 45), some (.cells [vi y5_0, vi y5_1, vi y5_2] 45), some (.cells [vi y5_3, vi y5_4, vi y5_5] 45), some (.cells [vi v14, vi v15, vi v16, vi v17, vi v18, vi v19] 41)]) (ob := [(dP (1 ≤ v3 ∧ v3 ≤ v3), true), (dS v3, true), ((1 : Int) == Int.ofNat 1, true), (dP (Zd5 #[Value.agg #[vi (v1.getD v2 RA.z).a0, vi (v1.getD v2 RA.z).a1, vi (v1.getD v2 RA.z).a2], vp 2 0, vp 3 0] ((v1.getD v2 RA.z).a0) ((v1.getD v2 RA.z).a1) ((v1.getD v2 RA.z).a2) (v8) (v9) (v10) (v11) (v12) (v13)  y5_0 y5_1 y5_2 y5_3 y5_4 y5_5 2 3 5), true), (dS [vi v8, vi v9, vi v10], true), (dS [vi v11, vi v12, vi v13], true), (ZO (Zv 3 (List.drop ((v2 * 3) + (0 * 3)) (Zd Zk v1))) [.i (v1.getD v2 RA.z).a0, .i (v1.getD v2 RA.z).a1, .i (v1.getD v2 RA.z).a2], true), (Nat.blt 0 v3, true), ((0 : Int) == Int.ofNat 0, true), ((decide ((v1.getD v2 RA.z).a0 ≤ (((v4 + 1) : Nat) : Int))), true), ((IntKind.i64.wrap ((v4 : Int) + (1 : Int))) == (((v4 + 1) : Nat) : Int), true), (ZO (Zv 1 (List.drop (((v2 * 3) + (0 * 3)) + 0) (Zd Zk v1))) [.i (v1.getD v2 RA.z).a0], true), (Nat.blt 0 v3, true), ((0 : Int) == Int.ofNat 0, true), ((decide ((v3 : Int) > (0 : Int))), true)]) rfl (show 2 ∈ Zl (Zn 2) from by decide +kernel) (fun gv => by kernel_rfl) (Zb (Zw ⟨ltA, ltA⟩) <| oR <| oI <| Zb (Zw (Zfe #[Value.agg #[vi (v1.getD v2 RA.z).a0, vi (v1.getD v2 RA.z).a1, vi (v1.getD v2 RA.z).a2], vp 2 0, vp 3 0] ((v1.getD v2 RA.z).a0) ((v1.getD v2 RA.z).a1) ((v1.getD v2 RA.z).a2) (v8) (v9) (v10) (v11) (v12) (v13)  y5_0 y5_1 y5_2 y5_3 y5_4 y5_5 N c5 2 3 5 rfl (by decide) (by decide))) <| Zb (Zw (Zat rfl (Zat rfl (Zat rfl rfl)))) <| Zb (Zw (Zat rfl (Zat rfl (Zat rfl rfl)))) <| Zb (Zy (E := Zk) (L := v1) (i := v2) (q := 0) (by omega) (show ((v2 * 3) + (0 * 3)) = v2 * 3 + 0 from by omega) (show 0 + 3 ≤ 3 from by decide) rfl rfl) <| oB <| oI <| oY <| Zb (beq_iff_eq.2 ((wrap_i64 ltA).trans (by first | rfl | omega))) <| Zb (Zy (E := Zk) (L := v1) (i := v2) (q := 0) (by omega) (show (((v2 * 3) + (0 * 3)) + 0) = v2 * 3 + 0 from by omega) (show 0 + 1 ≤ 3 from by decide) rfl rfl) <| oB <| oI <| oY Zf) rfl (by decide) (by rfl) (fun _ => ⟨⟨Eq.trans (show (Value.slice (some ⟨1, ((v2 + 1) * 3), none⟩) (v3 - 1) (v3 - 1) : Value) = Value.slice (some ⟨1, ((v2 * 3) + (1 * 3)), none⟩) (v3 - 1) (v3 - 1) from (ZdF eqA rfl rfl)) (by rfl), by rfl⟩, ⟨rr, ⟨rr, ⟨rr, ⟨rr, ⟨rr, ⟨rr, ⟨rr, ⟨rr, trivial⟩⟩⟩⟩⟩⟩⟩⟩⟩) ⟨(Zh (E := E_iiiiiiAi) (α := R_iiiiiiAi) _ L1 _), ⟨(Zh (E := Zk) (α := RA) _ v1 _), ⟨⟨rfl, ⟨[], by rfl⟩, by rfl⟩, ⟨⟨rfl, ⟨[], by rfl⟩, by rfl⟩, ⟨⟨rfl, ⟨[], by rfl⟩, by rfl⟩, trivial⟩⟩⟩⟩⟩
     ·
      refine Mach.ok_ite (fun g5 => ?_) (fun g5 => ?_)
      ·
       refine Mach.ok_ite (fun g6 => ?_) (fun g6 => ?_)
       ·
        refine Mach.ok_ite (fun g7 => ?_) (fun g7 => ?_)
        ·
         exact Mach.ok_next (M := Zg L0 L1 N) (cd := 1000000) (cm := 0) (y := (.h1m2 (v1) (v2) (v3) ((v7 + 1)) (v8) (v9) (v10) (v11) (v12) (v13) : Zc)) (fu := 4000) (orc := (Zm [(0, true), (1, false), (2, true), (3, true)] [(0, (((v4 + 1) : Nat) : Int)), (1, (((v7 + 1) : Nat) : Int))] [(0, 0)] [(0, [.i (v1.getD v2 RA.z).a0])] [])) (live := [0, 1, 2, 3]) (tv := fun _ => [some (vs 1 (v2 * 3) v3 v3), some (vp 2 0), some (vp 3 0), some (Value.func (.func 12) #[] #[vp 2 0, vp 3 0]), some (ms E_iiiiii L0), some (vi (L0.length : Int)), some (vi (((v7 + 1) : Nat) : Int))]) (bl := [some (.cells (Zd E_iiiiiiAi L1) 31), some (.cells (Zd Zk v1) 45), some (.cells [vi v8, vi v9, vi v10] 45), some (.cells [vi v11, vi v12, vi v13] 45)]) (ob := [((IntKind.i64.wrap ((v7 : Int) + (1 : Int))) == (((v7 + 1) : Nat) : Int), true), ((v14 != (10 : Int)), true), ((v14 != (5 : Int)), true), ((decide ((v1.getD v2 RA.z).a0 ≤ (((v4 + 1) : Nat) : Int))), false), ((IntKind.i64.wrap ((v4 : Int) + (1 : Int))) == (((v4 + 1) : Nat) : Int), true), (ZO (Zv 1 (List.drop (((v2 * 3) + (0 * 3)) + 0) (Zd Zk v1))) [.i (v1.getD v2 RA.z).a0], true), (Nat.blt 0 v3, true), ((0 : Int) == Int.ofNat 0, true), ((decide ((v3 : Int) > (0 : Int))), true)]) rfl (show 1 ∈ Zl (Zn 2) from by decide +kernel) (fun gv => by kernel_rfl) (Zb (beq_iff_eq.2 ((wrap_i64 ltA).trans (by first | rfl | omega))) <| oD <| oD <| oN <| Zb (beq_iff_eq.2 ((wrap_i64 ltA).trans (by first | rfl | omega))) <| Zb (Zy (E := Zk) (L := v1) (i := v2) (q := 0) (by omega) (show (((v2 * 3) + (0 * 3)) + 0) = v2 * 3 + 0 from by omega) (show 0 + 1 ≤ 3 from by decide) rfl rfl) <| oB <| oI <| oY Zf) rfl (by decide) (by rfl) (fun _ => ⟨rr, ⟨rr, ⟨rr, ⟨rr, ⟨rr, ⟨rr, ⟨rr, trivial⟩⟩⟩⟩⟩⟩⟩) ⟨(Zh (E := E_iiiiiiAi) (α := R_iiiiiiAi) _ L1 _), ⟨(Zh (E := Zk) (α := RA) _ v1 _), ⟨⟨rfl, ⟨[], by rfl⟩, by rfl⟩, ⟨⟨rfl, ⟨[], by rfl⟩, by rfl⟩, trivial⟩⟩⟩⟩
        ·
         exact Mach.ok_none
       ·
        refine Mach.ok_ite (fun g7 => ?_) (fun g7 => ?_)
        ·
         refine Mach.ok_ite (fun g8 => ?_) (fun g8 => ?_)
         ·
          exact Mach.ok_next (M := Zg L0 L1 N) (cd := 1000000) (cm := 0) (y := (.h1m2 (v1) (v2) (v3) ((v7 + 1)) (v8) (v9) (v10) (v11) (v12) (v13) : Zc)) (fu := 4000) (orc := (Zm [(0, true), (1, false), (2, true), (3, false), (4, true)] [(0, (((v4 + 1) : Nat) : Int)), (1, (((v7 + 1) : Nat) : Int))] [(0, 0)] [(0, [.i (v1.getD v2 RA.z).a0])] [])) (live := [0, 1, 2, 3]) (tv := fun _ => [some (vs 1 (v2 * 3) v3 v3), some (vp 2 0), some (vp 3 0), some (Value.func (.func 12) #[] #[vp 2 0, vp 3 0]), some (ms E_iiiiii L0), some (vi (L0.length : Int)), some (vi (((v7 + 1) : Nat) : Int))]) (bl := [some (.cells (Zd E_iiiiiiAi L1) 31), some (.cells (Zd Zk v1) 45), some (.cells [vi v8, vi v9, vi v10] 45), some (.cells [vi v11, vi v12, vi v13] 45)]) (ob := [((IntKind.i64.wrap ((v7 : Int) + (1 : Int))) == (((v7 + 1) : Nat) : Int), true), ((decide (v19 ≤ (0 : Int))), true), ((v14 != (10 : Int)), false), ((v14 != (5 : Int)), true), ((decide ((v1.getD v2 RA.z).a0 ≤ (((v4 + 1) : Nat) : Int))), false), ((IntKind.i64.wrap ((v4 : Int) + (1 : Int))) == (((v4 + 1) : Nat) : Int), true), (ZO (Zv 1 (List.drop (((v2 * 3) + (0 * 3)) + 0) (Zd Zk v1))) [.i (v1.getD v2 RA.z).a0], true), (Nat.blt 0 v3, true), ((0 : Int) == Int.ofNat 0, true), ((decide ((v3 : Int) > (0 : Int))), true)]) rfl (show 1 ∈ Zl (Zn 2) from by decide +kernel) (fun gv => by kernel_rfl) (Zb (beq_iff_eq.2 ((wrap_i64 ltA).trans (by first | rfl | omega))) <| oY <| oE <| oD <| oN <| Zb (beq_iff_eq.2 ((wrap_i64 ltA).trans (by first | rfl | omega))) <| Zb (Zy (E := Zk) (L := v1) (i := v2) (q := 0) (by omega) (show (((v2 * 3) + (0 * 3)) + 0) = v2 * 3 + 0 from by omega) (show 0 + 1 ≤ 3 from by decide) rfl rfl) <| oB <| oI <| oY Zf) rfl (by decide) (by rfl) (fun _ => ⟨rr, ⟨rr, ⟨rr, ⟨rr, ⟨rr, ⟨rr, ⟨rr, trivial⟩⟩⟩⟩⟩⟩⟩) ⟨(Zh (E := E_iiiiiiAi) (α := R_iiiiiiAi) _ L1 _), ⟨(Zh (E := Zk) (α := RA) _ v1 _), ⟨⟨rfl, ⟨[], by rfl⟩, by rfl⟩, ⟨⟨rfl, ⟨[], by rfl⟩, by rfl⟩, trivial⟩⟩⟩⟩
         ·
          exact Mach.ok_none
        ·
         refine Mach.ok_ite (fun g8 => ?_) (fun g8 => ?_)
         ·
          refine Mach.ok_ite (fun g9 => ?_) (fun g9 => ?_)
          ·
           exact Mach.ok_fin (M := Zg L0 L1 N) (cd := 1000000) (cm := 0) (r := (.r0 ((((v4 + 1) : Nat) : Int)) : Zq)) (fu := 4000) (orc := (Zm [(0, true), (1, false), (2, true), (3, false), (4, false), (5, true), (6, true)] [(0, (((v4 + 1) : Nat) : Int)), (1, (((v4 + 1) : Nat) : Int))] [(0, 0)] [(0, [.i (v1.getD v2 RA.z).a0])] [])) (live := [0]) (u := vi (((v4 + 1) : Nat) : Int)) (bl := [some (.cells (Zd E_iiiiiiAi L1) 31)]) (ob := [((IntKind.i64.wrap ((v4 : Int) + (1 : Int))) == (((v4 + 1) : Nat) : Int), true), ((decide (v19 < v12)), true), ((v15 == v10), true), ((decide (v19 ≤ (0 : Int))), false), ((v14 != (10 : Int)), false), ((v14 != (5 : Int)), true), ((decide ((v1.getD v2 RA.z).a0 ≤ (((v4 + 1) : Nat) : Int))), false), ((IntKind.i64.wrap ((v4 : Int) + (1 : Int))) == (((v4 + 1) : Nat) : Int), true), (ZO (Zv 1 (List.drop (((v2 * 3) + (0 * 3)) + 0) (Zd Zk v1))) [.i (v1.getD v2 RA.z).a0], true), (Nat.blt 0 v3, true), ((0 : Int) == Int.ofNat 0, true), ((decide ((v3 : Int) > (0 : Int))), true)]) (fun gv => by kernel_rfl) (Zb (beq_iff_eq.2 ((wrap_i64 ltA).trans (by first | rfl | omega))) <| oY <| oT <| oN <| oE <| oD <| oN <| Zb (beq_iff_eq.2 ((wrap_i64 ltA).trans (by first | rfl | omega))) <| Zb (Zy (E := Zk) (L := v1) (i := v2) (q := 0) (by omega) (show (((v2 * 3) + (0 * 3)) + 0) = v2 * 3 + 0 from by omega) (show 0 + 1 ≤ 3 from by decide) rfl rfl) <| oB <| oI <| oY Zf) rfl (by decide) (by rfl) rr ⟨(Zh (E := E_iiiiiiAi) (α := R_iiiiiiAi) _ L1 _), trivial⟩
          ·
           refine Mach.ok_ite (fun g10 => ?_) (fun g10 => ?_)
           ·
            exact Mach.ok_next (M := Zg L0 L1 N) (cd := 1000000) (cm := 0) (y := (.h1m2 (v1) (v2) (v3) ((v7 + 1)) (v8) (v9) (v10) (v11) (v12) (v13) : Zc)) (fu := 4000) (orc := (Zm [(0, true), (1, false), (2, true), (3, false), (4, false), (5, true), (6, false)] [(0, (((v4 + 1) : Nat) : Int)), (1, (((v7 + 1) : Nat) : Int))] [(0, 0)] [(0, [.i (v1.getD v2 RA.z).a0])] [])) (live := [0, 1, 2, 3]) (tv := fun _ => [some (vs 1 (v2 * 3) v3 v3), some (vp 2 0), some (vp 3 0), some (Value.func (.func 12) #[] #[vp 2 0, vp 3 0]), some (ms E_iiiiii L0), some (vi (L0.length : Int)), some (vi (((v7 + 1) : Nat) : Int))]) (bl := [some (.cells (Zd E_iiiiiiAi L1) 31), some (.cells (Zd Zk v1) 45), some (.cells [vi v8, vi v9, vi v10] 45), some (.cells [vi v11, vi v12, vi v13] 45)]) (ob := [((IntKind.i64.wrap ((v7 : Int) + (1 : Int))) == (((v7 + 1) : Nat) : Int), true), ((decide (v19 < v12)), false), ((v15 == v10), true), ((decide (v19 ≤ (0 : Int))), false), ((v14 != (10 : Int)), false), ((v14 != (5 : Int)), true), ((decide ((v1.getD v2 RA.z).a0 ≤ (((v4 + 1) : Nat) : Int))), false), ((IntKind.i64.wrap ((v4 : Int) + (1 : Int))) == (((v4 + 1) : Nat) : Int), true), (ZO (Zv 1 (List.drop (((v2 * 3) + (0 * 3)) + 0) (Zd Zk v1))) [.i (v1.getD v2 RA.z).a0], true), (Nat.blt 0 v3, true), ((0 : Int) == Int.ofNat 0, true), ((decide ((v3 : Int) > (0 : Int))), true)]) rfl (show 1 ∈ Zl (Zn 2) from by decide +kernel) (fun gv => by kernel_rfl) (Zb (beq_iff_eq.2 ((wrap_i64 ltA).trans (by first | rfl | omega))) <| oN <| oT <| oN <| oE <| oD <| oN <| Zb (beq_iff_eq.2 ((wrap_i64 ltA).trans (by first | rfl | omega))) <| Zb (Zy (E := Zk) (L := v1) (i := v2) (q := 0) (by omega) (show (((v2 * 3) + (0 * 3)) + 0) = v2 * 3 + 0 from by omega) (show 0 + 1 ≤ 3 from by decide) rfl rfl) <| oB <| oI <| oY Zf) rfl (by decide) (by rfl) (fun _ => ⟨rr, ⟨rr, ⟨rr, ⟨rr, ⟨rr, ⟨rr, ⟨rr, trivial⟩⟩⟩⟩⟩⟩⟩) ⟨(Zh (E := E_iiiiiiAi) (α := R_iiiiiiAi) _ L1 _), ⟨(Zh (E := Zk) (α := RA) _ v1 _), ⟨⟨rfl, ⟨[], by rfl⟩, by rfl⟩, ⟨⟨rfl, ⟨[], by rfl⟩, by rfl⟩, trivial⟩⟩⟩⟩
           ·
            exact Mach.ok_none
         ·
          refine Mach.ok_ite (fun g9 => ?_) (fun g9 => ?_)
          ·
           exact Mach.ok_fin (M := Zg L0 L1 N) (cd := 1000000) (cm := 0) (r := (.r0 ((((v4 + 1) : Nat) : Int)) : Zq)) (fu := 4000) (orc := (Zm [(0, true), (1, false), (2, true), (3, false), (4, false), (5, false), (6, true)] [(0, (((v4 + 1) : Nat) : Int)), (1, (((v4 + 1) : Nat) : Int))] [(0, 0)] [(0, [.i (v1.getD v2 RA.z).a0])] [])) (live := [0]) (u := vi (((v4 + 1) : Nat) : Int)) (bl := [some (.cells (Zd E_iiiiiiAi L1) 31)]) (ob := [((IntKind.i64.wrap ((v4 : Int) + (1 : Int))) == (((v4 + 1) : Nat) : Int), true), ((decide (v19 < v9)), true), ((v15 == v10), false), ((decide (v19 ≤ (0 : Int))), false), ((v14 != (10 : Int)), false), ((v14 != (5 : Int)), true), ((decide ((v1.getD v2 RA.z).a0 ≤ (((v4 + 1) : Nat) : Int))), false), ((IntKind.i64.wrap ((v4 : Int) + (1 : Int))) == (((v4 + 1) : Nat) : Int), true), (ZO (Zv 1 (List.drop (((v2 * 3) + (0 * 3)) + 0) (Zd Zk v1))) [.i (v1.getD v2 RA.z).a0], true), (Nat.blt 0 v3, true), ((0 : Int) == Int.ofNat 0, true), ((decide ((v3 : Int) > (0 : Int))), true)]) (fun gv => by kernel_rfl) (Zb (beq_iff_eq.2 ((wrap_i64 ltA).trans (by first | rfl | omega))) <| oY <| oF <| oN <| oE <| oD <| oN <| Zb (beq_iff_eq.2 ((wrap_i64 ltA).trans (by first | rfl | omega))) <| Zb (Zy (E := Zk) (L := v1) (i := v2) (q := 0) (by omega) (show (((v2 * 3) + (0 * 3)) + 0) = v2 * 3 + 0 from by omega) (show 0 + 1 ≤ 3 from by decide) rfl rfl) <| oB <| oI <| oY Zf) rfl (by decide) (by rfl) rr ⟨(Zh (E := E_iiiiiiAi) (α := R_iiiiiiAi) _ L1 _), trivial⟩
          ·
           refine Mach.ok_ite (fun g10 => ?_) (fun g10 => ?_)
           ·
            exact Mach.ok_next (M := Zg L0 L1 N) (cd := 1000000) (cm := 0) (y := (.h1m2 (v1) (v2) (v3) ((v7 + 1)) (v8) (v9) (v10) (v11) (v12) (v13) : Zc)) (fu := 4000) (orc := (Zm [(0, true), (1, false), (2, true), (3, false), (4, false), (5, false), (6, false)] [(0, (((v4 + 1) : Nat) : Int)), (1, (((v7 + 1) : Nat) : Int))] [(0, 0)] [(0, [.i (v1.getD v2 RA.z).a0])] [])) (live := [0, 1, 2, 3]) (tv := fun _ => [some (vs 1 (v2 * 3) v3 v3), some (vp 2 0), some (vp 3 0), some (Value.func (.func 12) #[] #[vp 2 0, vp 3 0]), some (ms E_iiiiii L0), some (vi (L0.length : Int)), some (vi (((v7 + 1) : Nat) : Int))]) (bl := [some (.cells (Zd E_iiiiiiAi L1) 31), some (.cells (Zd Zk v1) 45), some (.cells [vi v8, vi v9, vi v10] 45), some (.cells [vi v11, vi v12, vi v13] 45)]) (ob := [((IntKind.i64.wrap ((v7 : Int) + (1 : Int))) == (((v7 + 1) : Nat) : Int), true), ((decide (v19 < v9)), false), ((v15 == v10), false), ((decide (v19 ≤ (0 : Int))), false), ((v14 != (10 : Int)), false), ((v14 != (5 : Int)), true), ((decide ((v1.getD v2 RA.z).a0 ≤ (((v4 + 1) : Nat) : Int))), false), ((IntKind.i64.wrap ((v4 : Int) + (1 : Int))) == (((v4 + 1) : Nat) : Int), true), (ZO (Zv 1 (List.drop (((v2 * 3) + (0 * 3)) + 0) (Zd Zk v1))) [.i (v1.getD v2 RA.z).a0], true), (Nat.blt 0 v3, true), ((0 : Int) == Int.ofNat 0, true), ((decide ((v3 : Int) > (0 : Int))), true)]) rfl (show 1 ∈ Zl (Zn 2) from by decide +kernel) (fun gv => by kernel_rfl) (Zb (beq_iff_eq.2 ((wrap_i64 ltA).trans (by first | rfl | omega))) <| oN <| oF <| oN <| oE <| oD <| oN <| Zb (beq_iff_eq.2 ((wrap_i64 ltA).trans (by first | rfl | omega))) <| Zb (Zy (E := Zk) (L := v1) (i := v2) (q := 0) (by omega) (show (((v2 * 3) + (0 * 3)) + 0) = v2 * 3 + 0 from by omega) (show 0 + 1 ≤ 3 from by decide) rfl rfl) <| oB <| oI <| oY Zf) rfl (by decide) (by rfl) (fun _ => ⟨rr, ⟨rr, ⟨rr, ⟨rr, ⟨rr, ⟨rr, ⟨rr, trivial⟩⟩⟩⟩⟩⟩⟩) ⟨(Zh (E := E_iiiiiiAi) (α := R_iiiiiiAi) _ L1 _), ⟨(Zh (E := Zk) (α := RA) _ v1 _), ⟨⟨rfl, ⟨[], by rfl⟩, by rfl⟩, ⟨⟨rfl, ⟨[], by rfl⟩, by rfl⟩, trivial⟩⟩⟩⟩
           ·
            exact Mach.ok_none
      ·
       refine Mach.ok_ite (fun g6 => ?_) (fun g6 => ?_)
       ·
        refine Mach.ok_ite (fun g7 => ?_) (fun g7 => ?_)
        ·
         exact Mach.ok_next (M := Zg L0 L1 N) (cd := 1000000) (cm := 0) (y := (.h1m2 (v1) (v2) (v3) ((v7 + 1)) (v8) (v9) (v10) (v11) (v12) (v13) : Zc)) (fu := 4000) (orc := (Zm [(0, true), (1, false), (2, false), (3, true)] [(0, (((v4 + 1) : Nat) : Int)), (1, (((v7 + 1) : Nat) : Int))] [(0, 0)] [(0, [.i (v1.getD v2 RA.z).a0])] [])) (live := [0, 1, 2, 3]) (tv := fun _ => [some (vs 1 (v2 * 3) v3 v3), some (vp 2 0), some (vp 3 0), some (Value.func (.func 12) #[] #[vp 2 0, vp 3 0]), some (ms E_iiiiii L0), some (vi (L0.length : Int)), some (vi (((v7 + 1) : Nat) : Int))]) (bl := [some (.cells (Zd E_iiiiiiAi L1) 31), some (.cells (Zd Zk v1) 45), some (.cells [vi v8, vi v9, vi v10] 45), some (.cells [vi v11, vi v12, vi v13] 45)]) (ob := [((IntKind.i64.wrap ((v7 : Int) + (1 : Int))) == (((v7 + 1) : Nat) : Int), true), ((decide (v19 ≤ (0 : Int))), true), ((v14 != (5 : Int)), false), ((decide ((v1.getD v2 RA.z).a0 ≤ (((v4 + 1) : Nat) : Int))), false), ((IntKind.i64.wrap ((v4 : Int) + (1 : Int))) == (((v4 + 1) : Nat) : Int), true), (ZO (Zv 1 (List.drop (((v2 * 3) + (0 * 3)) + 0) (Zd Zk v1))) [.i (v1.getD v2 RA.z).a0], true), (Nat.blt 0 v3, true), ((0 : Int) == Int.ofNat 0, true), ((decide ((v3 : Int) > (0 : Int))), true)]) rfl (show 1 ∈ Zl (Zn 2) from by decide +kernel) (fun gv => by kernel_rfl) (Zb (beq_iff_eq.2 ((wrap_i64 ltA).trans (by first | rfl | omega))) <| oY <| oE <| oN <| Zb (beq_iff_eq.2 ((wrap_i64 ltA).trans (by first | rfl | omega))) <| Zb (Zy (E := Zk) (L := v1) (i := v2) (q := 0) (by omega) (show (((v2 * 3) + (0 * 3)) + 0) = v2 * 3 + 0 from by omega) (show 0 + 1 ≤ 3 from by decide) rfl rfl) <| oB <| oI <| oY Zf) rfl (by decide) (by rfl) (fun _ => ⟨rr, ⟨rr, ⟨rr, ⟨rr, ⟨rr, ⟨rr, ⟨rr, trivial⟩⟩⟩⟩⟩⟩⟩) ⟨(Zh (E := E_iiiiiiAi) (α := R_iiiiiiAi) _ L1 _), ⟨(Zh (E := Zk) (α := RA) _ v1 _), ⟨⟨rfl, ⟨[], by rfl⟩, by rfl⟩, ⟨⟨rfl, ⟨[], by rfl⟩, by rfl⟩, trivial⟩⟩⟩⟩
        ·
         exact Mach.ok_none
       ·
        refine Mach.ok_ite (fun g7 => ?_) (fun g7 => ?_)
        ·
         refine Mach.ok_ite (fun g8 => ?_) (fun g8 => ?_)
         ·
          exact Mach.ok_fin (M := Zg L0 L1 N) (cd := 1000000) (cm := 0) (r := (.r0 ((((v4 + 1) : Nat) : Int)) : Zq)) (fu := 4000) (orc := (Zm [(0, true), (1, false), (2, false), (3, false), (4, true), (5, true)] [(0, (((v4 + 1) : Nat) : Int)), (1, (((v4 + 1) : Nat) : Int))] [(0, 0)] [(0, [.i (v1.getD v2 RA.z).a0])] [])) (live := [0]) (u := vi (((v4 + 1) : Nat) : Int)) (bl := [some (.cells (Zd E_iiiiiiAi L1) 31)]) (ob := [((IntKind.i64.wrap ((v4 : Int) + (1 : Int))) == (((v4 + 1) : Nat) : Int), true), ((decide (v19 < v12)), true), ((v15 == v10), true), ((decide (v19 ≤ (0 : Int))), false), ((v14 != (5 : Int)), false), ((decide ((v1.getD v2 RA.z).a0 ≤ (((v4 + 1) : Nat) : Int))), false), ((IntKind.i64.wrap ((v4 : Int) + (1 : Int))) == (((v4 + 1) : Nat) : Int), true), (ZO (Zv 1 (List.drop (((v2 * 3) + (0 * 3)) + 0) (Zd Zk v1))) [.i (v1.getD v2 RA.z).a0], true), (Nat.blt 0 v3, true), ((0 : Int) == Int.ofNat 0, true), ((decide ((v3 : Int) > (0 : Int))), true)]) (fun gv => by kernel_rfl) (Zb (beq_iff_eq.2 ((wrap_i64 ltA).trans (by first | rfl | omega))) <| oY <| oT <| oN <| oE <| oN <| Zb (beq_iff_eq.2 ((wrap_i64 ltA).trans (by first | rfl | omega))) <| Zb (Zy (E := Zk) (L := v1) (i := v2) (q := 0) (by omega) (show (((v2 * 3) + (0 * 3)) + 0) = v2 * 3 + 0 from by omega) (show 0 + 1 ≤ 3 from by decide) rfl rfl) <| oB <| oI <| oY Zf) rfl (by decide) (by rfl) rr ⟨(Zh (E := E_iiiiiiAi) (α := R_iiiiiiAi) _ L1 _), trivial⟩
         ·
          refine Mach.ok_ite (fun g9 => ?_) (fun g9 => ?_)
          ·
           exact Mach.ok_next (M := Zg L0 L1 N) (cd := 1000000) (cm := 0) (y := (.h1m2 (v1) (v2) (v3) ((v7 + 1)) (v8) (v9) (v10) (v11) (v12) (v13) : Zc)) (fu := 4000) (orc := (Zm [(0, true), (1, false), (2, false), (3, false), (4, true), (5, false)] [(0, (((v4 + 1) : Nat) : Int)), (1, (((v7 + 1) : Nat) : Int))] [(0, 0)] [(0, [.i (v1.getD v2 RA.z).a0])] [])) (live := [0, 1, 2, 3]) (tv := fun _ => [some (vs 1 (v2 * 3) v3 v3), some (vp 2 0), some (vp 3 0), some (Value.func (.func 12) #[] #[vp 2 0, vp 3 0]), some (ms E_iiiiii L0), some (vi (L0.length : Int)), some (vi (((v7 + 1) : Nat) : Int))]) (bl := [some (.cells (Zd E_iiiiiiAi L1) 31), some (.cells (Zd Zk v1) 45), some (.cells [vi v8, vi v9, vi v10] 45), some (.cells [vi v11, vi v12, vi v13] 45)]) (ob := [((IntKind.i64.wrap ((v7 : Int) + (1 : Int))) == (((v7 + 1) : Nat) : Int), true), ((decide (v19 < v12)), false), ((v15 == v10), true), ((decide (v19 ≤ (0 : Int))), false), ((v14 != (5 : Int)), false), ((decide ((v1.getD v2 RA.z).a0 ≤ (((v4 + 1) : Nat) : Int))), false), ((IntKind.i64.wrap ((v4 : Int) + (1 : Int))) == (((v4 + 1) : Nat) : Int), true), (ZO (Zv 1 (List.drop (((v2 * 3) + (0 * 3)) + 0) (Zd Zk v1))) [.i (v1.getD v2 RA.z).a0], true), (Nat.blt 0 v3, true), ((0 : Int) == Int.ofNat 0, true), ((decide ((v3 : Int) > (0 : Int))), true)]) rfl (show 1 ∈ Zl (Zn 2) from by decide +kernel) (fun gv => by kernel_rfl) (Zb (beq_iff_eq.2 ((wrap_i64 ltA).trans (by first | rfl | omega))) <| oN <| oT <| oN <| oE <| oN <| Zb (beq_iff_eq.2 ((wrap_i64 ltA).trans (by first | rfl | omega))) <| Zb (Zy (E := Zk) (L := v1) (i := v2) (q := 0) (by omega) (show (((v2 * 3) + (0 * 3)) + 0) = v2 * 3 + 0 from by omega) (show 0 + 1 ≤ 3 from by decide) rfl rfl) <| oB <| oI <| oY Zf) rfl (by decide) (by rfl) (fun _ => ⟨rr, ⟨rr, ⟨rr, ⟨rr, ⟨rr, ⟨rr, ⟨rr, trivial⟩⟩⟩⟩⟩⟩⟩) ⟨(Zh (E := E_iiiiiiAi) (α := R_iiiiiiAi) _ L1 _), ⟨(Zh (E := Zk) (α := RA) _ v1 _), ⟨⟨rfl, ⟨[], by rfl⟩, by rfl⟩, ⟨⟨rfl, ⟨[], by rfl⟩, by rfl⟩, trivial⟩⟩⟩⟩
          ·
           exact Mach.ok_none
        ·
         refine Mach.ok_ite (fun g8 => ?_) (fun g8 => ?_)
         ·
          exact Mach.ok_fin (M := Zg L0 L1 N) (cd := 1000000) (cm := 0) (r := (.r0 ((((v4 + 1) : Nat) : Int)) : Zq)) (fu := 4000) (orc := (Zm [(0, true), (1, false), (2, false), (3, false), (4, false), (5, true)] [(0, (((v4 + 1) : Nat) : Int)), (1, (((v4 + 1) : Nat) : Int))] [(0, 0)] [(0, [.i (v1.getD v2 RA.z).a0])] [])) (live := [0]) (u := vi (((v4 + 1) : Nat) : Int)) (bl := [some (.cells (Zd E_iiiiiiAi L1) 31)]) (ob := [((IntKind.i64.wrap ((v4 : Int) + (1 : Int))) == (((v4 + 1) : Nat) : Int), true), ((decide (v19 < v9)), true), ((v15 == v10), false), ((decide (v19 ≤ (0 : Int))), false), ((v14 != (5 : Int)), false), ((decide ((v1.getD v2 RA.z).a0 ≤ (((v4 + 1) : Nat) : Int))), false), ((IntKind.i64.wrap ((v4 : Int) + (1 : Int))) == (((v4 + 1) : Nat) : Int), true), (ZO (Zv 1 (List.drop (((v2 * 3) + (0 * 3)) + 0) (Zd Zk v1))) [.i (v1.getD v2 RA.z).a0], true), (Nat.blt 0 v3, true), ((0 : Int) == Int.ofNat 0, true), ((decide ((v3 : Int) > (0 : Int))), true)]) (fun gv => by kernel_rfl) (Zb (beq_iff_eq.2 ((wrap_i64 ltA).trans (by first | rfl | omega))) <| oY <| oF <| oN <| oE <| oN <| Zb (beq_iff_eq.2 ((wrap_i64 ltA).trans (by first | rfl | omega))) <| Zb (Zy (E := Zk) (L := v1) (i := v2) (q := 0) (by omega) (show (((v2 * 3) + (0 * 3)) + 0) = v2 * 3 + 0 from by omega) (show 0 + 1 ≤ 3 from by decide) rfl rfl) <| oB <| oI <| oY Zf) rfl (by decide) (by rfl) rr ⟨(Zh (E := E_iiiiiiAi) (α := R_iiiiiiAi) _ L1 _), trivial⟩
         ·
          refine Mach.ok_ite (fun g9 => ?_) (fun g9 => ?_)
          ·
           exact Mach.ok_next (M := Zg L0 L1 N) (cd := 1000000) (cm := 0) (y := (.h1m2 (v1) (v2) (v3) ((v7 + 1)) (v8) (v9) (v10) (v11) (v12) (v13) : Zc)) (fu := 4000) (orc := (Zm [(0, true), (1, false), (2, false), (3, false), (4, false), (5, false)] [(0, (((v4 + 1) : Nat) : Int)), (1, (((v7 + 1) : Nat) : Int))] [(0, 0)] [(0, [.i (v1.getD v2 RA.z).a0])] [])) (live := [0, 1, 2, 3]) (tv := fun _ => [some (vs 1 (v2 * 3) v3 v3), some (vp 2 0), some (vp 3 0), some (Value.func (.func 12) #[] #[vp 2 0, vp 3 0]), some (ms E_iiiiii L0), some (vi (L0.length : Int)), some (vi (((v7 + 1) : Nat) : Int))]) (bl := [some (.cells (Zd E_iiiiiiAi L1) 31), some (.cells (Zd Zk v1) 45), some (.cells [vi v8, vi v9, vi v10] 45), some (.cells [vi v11, vi v12, vi v13] 45)]) (ob := [((IntKind.i64.wrap ((v7 : Int) + (1 : Int))) == (((v7 + 1) : Nat) : Int), true), ((decide (v19 < v9)), false), ((v15 == v10), false), ((decide (v19 ≤ (0 : Int))), false), ((v14 != (5 : Int)), false), ((decide ((v1.getD v2 RA.z).a0 ≤ (((v4 + 1) : Nat) : Int))), false), ((IntKind.i64.wrap ((v4 : Int) + (1 : Int))) == (((v4 + 1) : Nat) : Int), true), (ZO (Zv 1 (List.drop (((v2 * 3) + (0 * 3)) + 0) (Zd Zk v1))) [.i (v1.getD v2 RA.z).a0], true), (Nat.blt 0 v3, true), ((0 : Int) == Int.ofNat 0, true), ((decide ((v3 : Int) > (0 : Int))), true)]) rfl (show 1 ∈ Zl (Zn 2) from by decide +kernel) (fun gv => by kernel_rfl) (Zb (beq_iff_eq.2 ((wrap_i64 ltA).trans (by first | rfl | omega))) <| oN <| oF <| oN <| oE <| oN <| Zb (beq_iff_eq.2 ((wrap_i64 ltA).trans (by first | rfl | omega))) <| Zb (Zy (E := Zk) (L := v1) (i := v2) (q := 0) (by omega) (show (((v2 * 3) + (0 * 3)) + 0) = v2 * 3 + 0 from by omega) (show 0 + 1 ≤ 3 from by decide) rfl rfl) <| oB <| oI <| oY Zf) rfl (by decide) (by rfl) (fun _ => ⟨rr, ⟨rr, ⟨rr, ⟨rr, ⟨rr, ⟨rr, ⟨rr, trivial⟩⟩⟩⟩⟩⟩⟩) ⟨(Zh (E := E_iiiiiiAi) (α := R_iiiiiiAi) _ L1 _), ⟨(Zh (E := Zk) (α := RA) _ v1 _), ⟨⟨rfl, ⟨[], by rfl⟩, by rfl⟩, ⟨⟨rfl, ⟨[], by rfl⟩, by rfl⟩, trivial⟩⟩⟩⟩
          ·
           exact Mach.ok_none
    ·
     exact Mach.ok_none
   ·
    exact Mach.ok_none
  ·
   refine Mach.ok_ite (fun g2 => ?_) (fun g2 => ?_)
   ·
    refine Mach.ok_ite (fun g3 => ?_) (fun g3 => ?_)
    ·
     refine Mach.ok_ite (fun g4 => ?_) (fun g4 => ?_)
     ·
      exact Mach.ok_next (M := Zg L0 L1 N) (cd := 1000000) (cm := 0) (y := (.h1m2 (v1) (v2) (v3) ((v7 + 1)) (v8) (v9) (v10) (v11) (v12) (v13) : Zc)) (fu := 4000) (orc := (Zm [(0, false), (1, true), (2, true)] [(0, (((v7 + 1) : Nat) : Int))] [] [] [])) (live := [0, 1, 2, 3]) (tv := fun _ => [some (vs 1 (v2 * 3) v3 v3), some (vp 2 0), some (vp 3 0), some (Value.func (.func 12) #[] #[vp 2 0, vp 3 0]), some (ms E_iiiiii L0), some (vi (L0.length : Int)), some (vi (((v7 + 1) : Nat) : Int))]) (bl := [some (.cells (Zd E_iiiiiiAi L1) 31), some (.cells (Zd Zk v1) 45), some (.cells [vi v8, vi v9, vi v10] 45), some (.cells [vi v11, vi v12, vi v13] 45)]) (ob := [((IntKind.i64.wrap ((v7 : Int) + (1 : Int))) == (((v7 + 1) : Nat) : Int), true), ((v14 != (10 : Int)), true), ((v14 != (5 : Int)), true), ((decide ((v3 : Int) > (0 : Int))), false)]) rfl (show 1 ∈ Zl (Zn 2) from by decide +kernel) (fun gv => by kernel_rfl) (Zb (beq_iff_eq.2 ((wrap_i64 ltA).trans (by first | rfl | omega))) <| oD <| oD <| oN Zf) rfl (by decide) (by rfl) (fun _ => ⟨rr, ⟨rr, ⟨rr, ⟨rr, ⟨rr, ⟨rr, ⟨rr, trivial⟩⟩⟩⟩⟩⟩⟩) ⟨(Zh (E := E_iiiiiiAi) (α := R_iiiiiiAi) _ L1 _), ⟨(Zh (E := Zk) (α := RA) _ v1 _), ⟨⟨rfl, ⟨[], by rfl⟩, by rfl⟩, ⟨⟨rfl, ⟨[], by rfl⟩, by rfl⟩, trivial⟩⟩⟩⟩
     ·
      exact Mach.ok_none
    ·
     refine Mach.ok_ite (fun g4 => ?_) (fun g4 => ?_)
     ·
      refine Mach.ok_ite (fun g5 => ?_) (fun g5 => ?_)
      ·
       exact Mach.ok_next (M := Zg L0 L1 N) (cd := 1000000) (cm := 0) (y := (.h1m2 (v1) (v2) (v3) ((v7 + 1)) (v8) (v9) (v10) (v11) (v12) (v13) : Zc)) (fu := 4000) (orc := (Zm [(0, false), (1, true), (2, false), (3, true)] [(0, (((v7 + 1) : Nat) : Int))] [] [] [])) (live := [0, 1, 2, 3]) (tv := fun _ => [some (vs 1 (v2 * 3) v3 v3), some (vp 2 0), some (vp 3 0), some (Value.func (.func 12) #[] #[vp 2 0, vp 3 0]), some (ms E_iiiiii L0), some (vi (L0.length : Int)), some (vi (((v7 + 1) : Nat) : Int))]) (bl := [some (.cells (Zd E_iiiiiiAi L1) 31), some (.cells (Zd Zk v1) 45), some (.cells [vi v8, vi v9, vi v10] 45), some (.cells [vi v11, vi v12, vi v13] 45)]) (ob := [((IntKind.i64.wrap ((v7 : Int) + (1 : Int))) == (((v7 + 1) : Nat) : Int), true), ((decide (v19 ≤ (0 : Int))), true), ((v14 != (10 : Int)), false), ((v14 != (5 : Int)), true), ((decide ((v3 : Int) > (0 : Int))), false)]) rfl (show 1 ∈ Zl (Zn 2) from by decide +kernel) (fun gv => by kernel_rfl) (Zb (beq_iff_eq.2 ((wrap_i64 ltA).trans (by first | rfl | omega))) <| oY <| oE <| oD <| oN Zf) rfl (by decide) (by rfl) (fun _ => ⟨rr, ⟨rr, ⟨rr, ⟨rr, ⟨rr, ⟨rr, ⟨rr, trivial⟩⟩⟩⟩⟩⟩⟩) ⟨(Zh (E := E_iiiiiiAi) (α := R_iiiiiiAi) _ L1 _), ⟨(Zh (E := Zk) (α := RA) _ v1 _), ⟨⟨rfl, ⟨[], by rfl⟩, by rfl⟩, ⟨⟨rfl, ⟨[], by rfl⟩, by rfl⟩, trivial⟩⟩⟩⟩
      ·
       exact Mach.ok_none
     ·
      refine Mach.ok_ite (fun g5 => ?_) (fun g5 => ?_)
      ·
       refine Mach.ok_ite (fun g6 => ?_) (fun g6 => ?_)
       ·
        refine Mach.ok_ite (fun g7 => ?_) (fun g7 => ?_)
        ·
         exact Mach.ok_fin (M := Zg L0 L1 N) (cd := 1000000) (cm := 0) (r := (.r0 ((((v4 + 1) : Nat) : Int)) : Zq)) (fu := 4000) (orc := (Zm [(0, false), (1, true), (2, false), (3, false), (4, true), (5, true)] [(0, (((v4 + 1) : Nat) : Int))] [] [] [])) (live := [0]) (u := vi (((v4 + 1) : Nat) : Int)) (bl := [some (.cells (Zd E_iiiiiiAi L1) 31)]) (ob := [((IntKind.i64.wrap ((v4 : Int) + (1 : Int))) == (((v4 + 1) : Nat) : Int), true), ((decide (v19 < v12)), true), ((v15 == v10), true), ((decide (v19 ≤ (0 : Int))), false), ((v14 != (10 : Int)), false), ((v14 != (5 : Int)), true), ((decide ((v3 : Int) > (0 : Int))), false)]) (fun gv => by kernel_rfl) (Zb (beq_iff_eq.2 ((wrap_i64 ltA).trans (by first | rfl | omega))) <| oY <| oT <| oN <| oE <| oD <| oN Zf) rfl (by decide) (by rfl) rr ⟨(Zh (E := E_iiiiiiAi) (α := R_iiiiiiAi) _ L1 _), trivial⟩
        ·
         exact Mach.ok_none
       ·
        refine Mach.ok_ite (fun g7 => ?_) (fun g7 => ?_)
        ·
         exact Mach.ok_next (M := Zg L0 L1 N) (cd := 1000000) (cm := 0) (y := (.h1m2 (v1) (v2) (v3) ((v7 + 1)) (v8) (v9) (v10) (v11) (v12) (v13) : Zc)) (fu := 4000) (orc := (Zm [(0, false), (1, true), (2, false), (3, false), (4, true), (5, false)] [(0, (((v7 + 1) : Nat) : Int))] [] [] [])) (live := [0, 1, 2, 3]) (tv := fun _ => [some (vs 1 (v2 * 3) v3 v3), some (vp 2 0), some (vp 3 0), some (Value.func (.func 12) #[] #[vp 2 0, vp 3 0]), some (ms E_iiiiii L0), some (vi (L0.length : Int)), some (vi (((v7 + 1) : Nat) : Int))]) (bl := [some (.cells (Zd E_iiiiiiAi L1) 31), some (.cells (Zd Zk v1) 45), some (.cells [vi v8, vi v9, vi v10] 45), some (.cells [vi v11, vi v12, vi v13] 45)]) (ob := [((IntKind.i64.wrap ((v7 : Int) + (1 : Int))) == (((v7 + 1) : Nat) : Int), true), ((decide (v19 < v12)), false), ((v15 == v10), true), ((decide (v19 ≤ (0 : Int))), false), ((v14 != (10 : Int)), false), ((v14 != (5 : Int)), true), ((decide ((v3 : Int) > (0 : Int))), false)]) rfl (show 1 ∈ Zl (Zn 2) from by decide +kernel) (fun gv => by kernel_rfl) (Zb (beq_iff_eq.2 ((wrap_i64 ltA).trans (by first | rfl | omega))) <| oN <| oT <| oN <| oE <| oD <| oN Zf) rfl (by decide) (by rfl) (fun _ => ⟨rr, ⟨rr, ⟨rr, ⟨rr, ⟨rr, ⟨rr, ⟨rr, trivial⟩⟩⟩⟩⟩⟩⟩) ⟨(Zh (E := E_iiiiiiAi) (α := R_iiiiiiAi) _ L1 _), ⟨(Zh (E := Zk) (α := RA) _ v1 _), ⟨⟨rfl, ⟨[], by rfl⟩, by rfl⟩, ⟨⟨rfl, ⟨[], by rfl⟩, by rfl⟩, trivial⟩⟩⟩⟩
        ·
         exact Mach.ok_none
      ·
       refine Mach.ok_ite (fun g6 => ?_) (fun g6 => ?_)
       ·
        refine Mach.ok_ite (fun g7 => ?_) (fun g7 => ?_)
        ·
         exact Mach.ok_fin (M := Zg L0 L1 N) (cd := 1000000) (cm := 0) (r := (.r0 ((((v4 + 1) : Nat) : Int)) : Zq)) (fu := 4000) (orc := (Zm [(0, false), (1, true), (2, false), (3, false), (4, false), (5, true)] [(0, (((v4 + 1) : Nat) : Int))] [] [] [])) (live := [0]) (u := vi (((v4 + 1) : Nat) : Int)) (bl := [some (.cells (Zd E_iiiiiiAi L1) 31)]) (ob := [((IntKind.i64.wrap ((v4 : Int) + (1 : Int))) == (((v4 + 1) : Nat) : Int), true), ((decide (v19 < v9)), true), ((v15 == v10), false), ((decide (v19 ≤ (0 : Int))), false), ((v14 != (10 : Int)), false), ((v14 != (5 : Int)), true), ((decide ((v3 : Int) > (0 : Int))), false)]) (fun gv => by kernel_rfl) (Zb (beq_iff_eq.2 ((wrap_i64 ltA).trans (by first | rfl | omega))) <| oY <| oF <| oN <| oE <| oD <| oN Zf) rfl (by decide) (by rfl) rr ⟨(Zh (E := E_iiiiiiAi) (α := R_iiiiiiAi) _ L1 _), trivial⟩
        ·
         exact Mach.ok_none
       ·
        refine Mach.ok_ite (fun g7 => ?_) (fun g7 => ?_)
        ·
         exact Mach.ok_next (M := Zg L0 L1 N) (cd := 1000000) (cm := 0) (y := (.h1m2 (v1) (v2) (v3) ((v7 + 1)) (v8) (v9) (v10) (v11) (v12) (v13) : Zc)) (fu := 4000) (orc := (Zm [(0, false), (1, true), (2, false), (3, false), (4, false), (5, false)] [(0, (((v7 + 1) : Nat) : Int))] [] [] [])) (live := [0, 1, 2, 3]) (tv := fun _ => [some (vs 1 (v2 * 3) v3 v3), some (vp 2 0), some (vp 3 0), some (Value.func (.func 12) #[] #[vp 2 0, vp 3 0]), some (ms E_iiiiii L0), some (vi (L0.length : Int)), some (vi (((v7 + 1) : Nat) : Int))]) (bl := [some (.cells (Zd E_iiiiiiAi L1) 31), some (.cells (Zd Zk v1) 45), some (.cells [vi v8, vi v9, vi v10] 45), some (.cells [vi v11, vi v12, vi v13] 45)]) (ob := [((IntKind.i64.wrap ((v7 : Int) + (1 : Int))) == (((v7 + 1) : Nat) : Int), true), ((decide (v19 < v9)), false), ((v15 == v10), false), ((decide (v19 ≤ (0 : Int))), false), ((v14 != (10 : Int)), false), ((v14 != (5 : Int)), true), ((decide ((v3 : Int) > (0 : Int))), false)]) rfl (show 1 ∈ Zl (Zn 2) from by decide +kernel) (fun gv => by kernel_rfl) (Zb (beq_iff_eq.2 ((wrap_i64 ltA).trans (by first | rfl | omega))) <| oN <| oF <| oN <| oE <| oD <| oN Zf) rfl (by decide) (by rfl) (fun _ => ⟨rr, ⟨rr, ⟨rr, ⟨rr, ⟨rr, ⟨rr, ⟨rr, trivial⟩⟩⟩⟩⟩⟩⟩) ⟨(Zh (E := E_iiiiiiAi) (α := R_iiiiiiAi) _ L1 _), ⟨(Zh (E := Zk) (α := RA) _ v1 _), ⟨⟨rfl, ⟨[], by rfl⟩, by rfl⟩, ⟨⟨rfl, ⟨[], by rfl⟩, by rfl⟩, trivial⟩⟩⟩⟩
        ·
         exact Mach.ok_none
   ·
    refine Mach.ok_ite (fun g3 => ?_) (fun g3 => ?_)
    ·
     refine Mach.ok_ite (fun g4 => ?_) (fun g4 => ?_)
     ·
      exact Mach.ok_next (M := Zg L0 L1 N) (cd := 1000000) (cm := 0) (y := (.h1m2 (v1) (v2) (v3) ((v7 + 1)) (v8) (v9) (v10) (v11) (v12) (v13) : Zc)) (fu := 4000) (orc := (Zm [(0, false), (1, false), (2, true)] [(0, (((v7 + 1) : Nat) : Int))] [] [] [])) (live := [0, 1, 2, 3]) (tv := fun _ => [some (vs 1 (v2 * 3) v3 v3), some (vp 2 0), some (vp 3 0), some (Value.func (.func 12) #[] #[vp 2 0, vp 3 0]), some (ms E_iiiiii L0), some (vi (L0.length : Int)), some (vi (((v7 + 1) : Nat) : Int))]) (bl := [some (.cells (Zd E_iiiiiiAi L1) 31), some (.cells (Zd Zk v1) 45), some (.cells [vi v8, vi v9, vi v10] 45), some (.cells [vi v11, vi v12, vi v13] 45)]) (ob := [((IntKind.i64.wrap ((v7 : Int) + (1 : Int))) == (((v7 + 1) : Nat) : Int), true), ((decide (v19 ≤ (0 : Int))), true), ((v14 != (5 : Int)), false), ((decide ((v3 : Int) > (0 : Int))), false)]) rfl (show 1 ∈ Zl (Zn 2) from by decide +kernel) (fun gv => by kernel_rfl) (Zb (beq_iff_eq.2 ((wrap_i64 ltA).trans (by first | rfl | omega))) <| oY <| oE <| oN Zf) rfl (by decide) (by rfl) (fun _ => ⟨rr, ⟨rr, ⟨rr, ⟨rr, ⟨rr, ⟨rr, ⟨rr, trivial⟩⟩⟩⟩⟩⟩⟩) ⟨(Zh (E := E_iiiiiiAi) (α := R_iiiiiiAi) _ L1 _), ⟨(Zh (E := Zk) (α := RA) _ v1 _), ⟨⟨rfl, ⟨[], by rfl⟩, by rfl⟩, ⟨⟨rfl, ⟨[], by rfl⟩, by rfl⟩, trivial⟩⟩⟩⟩
     ·
      exact Mach.ok_none
    ·
     refine Mach.ok_ite (fun g4 => ?_) (fun g4 => ?_)
     ·
      refine Mach.ok_ite (fun g5 => ?_) (fun g5 => ?_)
      ·
       refine Mach.ok_ite (fun g6 => ?_) (fun g6 => ?_)
       ·
        exact Mach.ok_fin (M := Zg L0 L1 N) (cd := 1000000) (cm := 0) (r := (.r0 ((((v4 + 1) : Nat) : Int)) : Zq)) (fu := 4000) (orc := (Zm [(0, false), (1, false), (2, false), (3, true), (4, true)] [(0, (((v4 + 1) : Nat) : Int))] [] [] [])) (live := [0]) (u := vi (((v4 + 1) : Nat) : Int)) (bl := [some (.cells (Zd E_iiiiiiAi L1) 31)]) (ob := [((IntKind.i64.wrap ((v4 : Int) + (1 : Int))) == (((v4 + 1) : Nat) : Int), true), ((decide (v19 < v12)), true), ((v15 == v10), true), ((decide (v19 ≤ (0 : Int))), false), ((v14 != (5 : Int)), false), ((decide ((v3 : Int) > (0 : Int))), false)]) (fun gv => by kernel_rfl) (Zb (beq_iff_eq.2 ((wrap_i64 ltA).trans (by first | rfl | omega))) <| oY <| oT <| oN <| oE <| oN Zf) rfl (by decide) (by rfl) rr ⟨(Zh (E := E_iiiiiiAi) (α := R_iiiiiiAi) _ L1 _), trivial⟩
       ·
        exact Mach.ok_none
      ·
       refine Mach.ok_ite (fun g6 => ?_) (fun g6 => ?_)
       ·
        exact Mach.ok_next (M := Zg L0 L1 N) (cd := 1000000) (cm := 0) (y := (.h1m2 (v1) (v2) (v3) ((v7 + 1)) (v8) (v9) (v10) (v11) (v12) (v13) : Zc)) (fu := 4000) (orc := (Zm [(0, false), (1, false), (2, false), (3, true), (4, false)] [(0, (((v7 + 1) : Nat) : Int))] [] [] [])) (live := [0, 1, 2, 3]) (tv := fun _ => [some (vs 1 (v2 * 3) v3 v3), some (vp 2 0), some (vp 3 0), some (Value.func (.func 12) #[] #[vp 2 0, vp 3 0]), some (ms E_iiiiii L0), some (vi (L0.length : Int)), some (vi (((v7 + 1) : Nat) : Int))]) (bl := [some (.cells (Zd E_iiiiiiAi L1) 31), some (.cells (Zd Zk v1) 45), some (.cells [vi v8, vi v9, vi v10] 45), some (.cells [vi v11, vi v12, vi v13] 45)]) (ob := [((IntKind.i64.wrap ((v7 : Int) + (1 : Int))) == (((v7 + 1) : Nat) : Int), true), ((decide (v19 < v12)), false), ((v15 == v10), true), ((decide (v19 ≤ (0 : Int))), false), ((v14 != (5 : Int)), false), ((decide ((v3 : Int) > (0 : Int))), false)]) rfl (show 1 ∈ Zl (Zn 2) from by decide +kernel) (fun gv => by kernel_rfl) (Zb (beq_iff_eq.2 ((wrap_i64 ltA).trans (by first | rfl | omega))) <| oN <| oT <| oN <| oE <| oN Zf) rfl (by decide) (by rfl) (fun _ => ⟨rr, ⟨rr, ⟨rr, ⟨rr, ⟨rr, ⟨rr, ⟨rr, trivial⟩⟩⟩⟩⟩⟩⟩) ⟨(Zh (E := E_iiiiiiAi) (α := R_iiiiiiAi) _ L1 _), ⟨(Zh (E := Zk) (α := RA) _ v1 _), ⟨⟨rfl, ⟨[], by rfl⟩, by rfl⟩, ⟨⟨rfl, ⟨[], by rfl⟩, by rfl⟩, trivial⟩⟩⟩⟩
       ·
        exact Mach.ok_none
     ·
      refine Mach.ok_ite (fun g5 => ?_) (fun g5 => ?_)
      ·
       refine Mach.ok_ite (fun g6 => ?_) (fun g6 => ?_)
       ·
        exact Mach.ok_fin (M := Zg L0 L1 N) (cd := 1000000) (cm := 0) (r := (.r0 ((((v4 + 1) : Nat) : Int)) : Zq)) (fu := 4000) (orc := (Zm [(0, false), (1, false), (2, false), (3, false), (4, true)] [(0, (((v4 + 1) : Nat) : Int))] [] [] [])) (live := [0]) (u := vi (((v4 + 1) : Nat) : Int)) (bl := [some (.cells (Zd E_iiiiiiAi L1) 31)]) (ob := [((IntKind.i64.wrap ((v4 : Int) + (1 : Int))) == (((v4 + 1) : Nat) : Int), true), ((decide (v19 < v9)), true), ((v15 == v10), false), ((decide (v19 ≤ (0 : Int))), false), ((v14 != (5 : Int)), false), ((decide ((v3 : Int) > (0 : Int))), false)]) (fun gv => by kernel_rfl) (Zb (beq_iff_eq.2 ((wrap_i64 ltA).trans (by first | rfl | omega))) <| oY <| oF <| oN <| oE <| oN Zf) rfl (by decide) (by rfl) rr ⟨(Zh (E := E_iiiiiiAi) (α := R_iiiiiiAi) _ L1 _), trivial⟩
       ·
        exact Mach.ok_none
      ·
       refine Mach.ok_ite (fun g6 => ?_) (fun g6 => ?_)
       ·
        exact Mach.ok_next (M := Zg L0 L1 N) (cd := 1000000) (cm := 0) (y := (.h1m2 (v1) (v2) (v3) ((v7 + 1)) (v8) (v9) (v10) (v11) (v12) (v13) : Zc)) (fu := 4000) (orc := (Zm [(0, false), (1, false), (2, false), (3, false), (4, false)] [(0, (((v7 + 1) : Nat) : Int))] [] [] [])) (live := [0, 1, 2, 3]) (tv := fun _ => [some (vs 1 (v2 * 3) v3 v3), some (vp 2 0), some (vp 3 0), some (Value.func (.func 12) #[] #[vp 2 0, vp 3 0]), some (ms E_iiiiii L0), some (vi (L0.length : Int)), some (vi (((v7 + 1) : Nat) : Int))]) (bl := [some (.cells (Zd E_iiiiiiAi L1) 31), some (.cells (Zd Zk v1) 45), some (.cells [vi v8, vi v9, vi v10] 45), some (.cells [vi v11, vi v12, vi v13] 45)]) (ob := [((IntKind.i64.wrap ((v7 : Int) + (1 : Int))) == (((v7 + 1) : Nat) : Int), true), ((decide (v19 < v9)), false), ((v15 == v10), false), ((decide (v19 ≤ (0 : Int))), false), ((v14 != (5 : Int)), false), ((decide ((v3 : Int) > (0 : Int))), false)]) rfl (show 1 ∈ Zl (Zn 2) from by decide +kernel) (fun gv => by kernel_rfl) (Zb (beq_iff_eq.2 ((wrap_i64 ltA).trans (by first | rfl | omega))) <| oN <| oF <| oN <| oE <| oN Zf) rfl (by decide) (by rfl) (fun _ => ⟨rr, ⟨rr, ⟨rr, ⟨rr, ⟨rr, ⟨rr, ⟨rr, trivial⟩⟩⟩⟩⟩⟩⟩) ⟨(Zh (E := E_iiiiiiAi) (α := R_iiiiiiAi) _ L1 _), ⟨(Zh (E := Zk) (α := RA) _ v1 _), ⟨⟨rfl, ⟨[], by rfl⟩, by rfl⟩, ⟨⟨rfl, ⟨[], by rfl⟩, by rfl⟩, trivial⟩⟩⟩⟩
       ·
        exact Mach.ok_none
 ·
  exact Mach.ok_none

theorem Zix (L0 : List RB) (L1 : List R_iiiiiiAi) (N : Nat) : (Zg L0 L1 N).Enter Tryz.prog Zx #[ms E_iiiiii L0, vs 0 0 L1.length L1.length] (Zcd L0 L1 N) := by
 unfold Zcd
 refine Mach.en_bind (fun z0 c0 => ?_)
 cases z0 with
 | r0 =>
  exact Mach.en_head (bK := ZB 1) (M := Zg L0 L1 N) (cd := 1000000) (cm := 0) (y := (.h1m0 (0) : Zc)) (fu := 4000) (orc := (Zm [] [] [] [] [(0, (ZhC (L0) (L1)   0 1))])) (live := [0, 1, 2]) (tv := [some (vn), some (vp 1 0), some (vp 2 0), some (Value.func (.func 12) #[] #[vp 1 0, vp 2 0]), some (ms E_iiiiii L0), some (vi (L0.length : Int)), some (vq)]) (bl := [some (.cells (Zd E_iiiiiiAi L1) 31), some (.cells [vq, vq, vq] 45), some (.cells [vq, vq, vq] 45)]) (ob := [(dP (Zel #[ms E_iiiiii L0, vs 0 0 L1.length L1.length] (L0) (L1)   0 1), true), (dS (Zd E_iiiiiiAi L1), true)]) rfl rfl (show Zl (ZB 1).2 = [] from rfl) (by kernel_rfl) (Zb (Zw (ZhD #[ms E_iiiiii L0, vs 0 0 L1.length L1.length] (L0) (L1)   N c0 0 1 rfl (by decide) (by decide))) <| oR Zf) rfl (by decide) (by rfl) ⟨rr, ⟨rr, ⟨rr, ⟨rr, ⟨rr, ⟨rr, ⟨⟨Eq.trans (show (vi ((0 : Nat) : Int) : Value) = vq from (congrArg (Value.int .i64) (by first | rfl | omega))) (by rfl), by rfl⟩, trivial⟩⟩⟩⟩⟩⟩⟩ ⟨(Zh (E := E_iiiiiiAi) (α := R_iiiiiiAi) _ L1 _), ⟨⟨rfl, ⟨[], by rfl⟩, by rfl⟩, ⟨⟨rfl, ⟨[], by rfl⟩, by rfl⟩, trivial⟩⟩⟩
 | r1 y0_0 y0_1 =>
  exact Mach.en_head (bK := ZB 1) (M := Zg L0 L1 N) (cd := 1000000) (cm := 0) (y := (.h1m1 (y0_0) (y0_1) (0) : Zc)) (fu := 4000) (orc := (Zm [] [] [] [] [(0, (ZhE (L0) (L1)  y0_0 y0_1 0 1))])) (live := [0, 1, 2, 3]) (tv := [some (vs 1 0 y0_1 y0_1), some (vp 2 0), some (vp 3 0), some (Value.func (.func 12) #[] #[vp 2 0, vp 3 0]), some (ms E_iiiiii L0), some (vi (L0.length : Int)), some (vq)]) (bl := [some (.cells (Zd E_iiiiiiAi L1) 31), some (.cells (Zd Zk y0_0) 45), some (.cells [vq, vq, vq] 45), some (.cells [vq, vq, vq] 45)]) (ob := [(dP (Zem #[ms E_iiiiii L0, vs 0 0 L1.length L1.length] (L0) (L1)  y0_0 y0_1 0 1), true), (dS (Zd E_iiiiiiAi L1), true)]) rfl rfl (show Zl (ZB 1).2 = [] from rfl) (by kernel_rfl) (Zb (Zw (ZhF #[ms E_iiiiii L0, vs 0 0 L1.length L1.length] (L0) (L1)  y0_0 y0_1 N c0 0 1 rfl (by decide) (by decide))) <| oR Zf) rfl (by decide) (by rfl) ⟨rr, ⟨rr, ⟨rr, ⟨rr, ⟨rr, ⟨rr, ⟨⟨Eq.trans (show (vi ((0 : Nat) : Int) : Value) = vq from (congrArg (Value.int .i64) (by first | rfl | omega))) (by rfl), by rfl⟩, trivial⟩⟩⟩⟩⟩⟩⟩ ⟨(Zh (E := E_iiiiiiAi) (α := R_iiiiiiAi) _ L1 _), ⟨(Zh (E := Zk) (α := RA) _ y0_0 _), ⟨⟨rfl, ⟨[], by rfl⟩, by rfl⟩, ⟨⟨rfl, ⟨[], by rfl⟩, by rfl⟩, trivial⟩⟩⟩⟩

theorem Zho (L0 : List RB) (L1 : List R_iiiiiiAi) (N : Nat) (r : Zq) (h : Zc6 L0 L1 N = some r) : LSpec Tryz.prog 7 #[ms E_iiiiii L0, vs 0 0 L1.length L1.length] [.cells (Zd E_iiiiiiAi L1) 31] (ZfN L0 L1 r) (Zff L0 L1 r) :=
 Mach.spec ZcN (Zg L0 L1 N) Tryz.func7 (by kernel_rfl) (by kernel_rfl) (fun x => by cases x <;> exact ZaQ _ rfl) (fun r => by cases r <;> exact ZaQ _ rfl) (fun x => by
  cases x with
  | h1m0 _ => exact fun _ => (show ¬ (1 ∈ Zl (ZB 1).2) from by decide +kernel)
  | h1m1 _ _ _ => exact fun _ => (show ¬ (1 ∈ Zl (ZB 1).2) from by decide +kernel)
  | h1m2 _ _ _ _ _ _ _ _ _ _ => exact fun _ => (show ¬ (1 ∈ Zl (ZB 1).2) from by decide +kernel)
  | h2m0 _ _ _ _ _ _ _ _ => exact fun _ => (show ¬ (2 ∈ Zl (ZB 2).2) from by decide +kernel)
  | h2m1 _ _ _ _ _ _ _ _ _ _ => exact fun _ => (show ¬ (2 ∈ Zl (ZB 2).2) from by decide +kernel)
  | h2m2 _ _ _ _ _ _ _ _ _ _ _ _ _ _ _ _ _ => exact fun _ => (show ¬ (2 ∈ Zl (ZB 2).2) from by decide +kernel)
  ) (fun x => (show (Zg L0 L1 N).Ok Tryz.prog Zx x (Zs L0 L1 N x) from by
  cases x with
  | h1m0 v3 => exact Zg2 L0 L1 v3 N
  | h1m1 v1 v2 v5 => exact Zg3 L0 L1 v1 v2 v5 N
  | h1m2 v1 v2 v3 v6 v7 v8 v9 v10 v11 v12 => exact Zg4 L0 L1 v1 v2 v3 v6 v7 v8 v9 v10 v11 v12 N
  | h2m0 v1 v4 v11 v12 v13 v14 v15 v16 => exact Zg5 L0 L1 v1 v4 v11 v12 v13 v14 v15 v16 N
  | h2m1 v1 v2 v3 v6 v13 v14 v15 v16 v17 v18 => exact Zg6 L0 L1 v1 v2 v3 v6 v13 v14 v15 v16 v17 v18 N
  | h2m2 v1 v2 v3 v4 v7 v8 v9 v10 v11 v12 v13 v14 v15 v16 v17 v18 v19 => exact Zg7 L0 L1 v1 v2 v3 v4 v7 v8 v9 v10 v11 v12 v13 v14 v15 v16 v17 v18 v19 N
  )) (Zix L0 L1 N) (n := N) h

noncomputable def Zfh (L0 : List RB) (L1 : List R_iiiiiiAi) (w1 : Int) (k0 n : Nat) : Zcn := .call [(k0, .cells (Zd E_iiiiiiAi L1) 31)] (vi w1) [] 0
def Zd6 (A : Array Value) (L0 : List RB) (L1 : List R_iiiiiiAi) (w1 : Int) (k0 n : Nat) : Prop := Zam Tryz.prog 7 A [(k0, .cells (Zd E_iiiiiiAi L1) 31)] (vi w1) [] n 0

theorem Zfi (A : Array Value) (L0 : List RB) (L1 : List R_iiiiiiAi) (w1 : Int) (N : Nat) (h : Zc6 L0 L1 N = some (.r0 w1)) (k0 n : Nat) (hA : A = #[ms E_iiiiii L0, vs k0 0 L1.length L1.length]) (hnd : ([k0] : List Nat).Nodup) (hlt : ∀ k ∈ ([k0] : List Nat), k < n) : Zd6 A L0 L1 w1 k0 n :=
 Zb5 hA (LSpec.callL (show LSpec Tryz.prog 7 #[ms E_iiiiii L0, vs 0 0 L1.length L1.length] [.cells (Zd E_iiiiiiAi L1) 31] (vi w1) [some (.cells (Zd E_iiiiiiAi L1) 31)] from Zho L0 L1 N _ h) [k0] n [] rfl hnd hlt (show 1 ≤ 1 from by decide) (show ∀ j ∈ ([] : List Nat), j < 1 from by decide) (by rfl) ⟨(Zbp _ _ _), trivial⟩ (by rfl) ⟨(Zbp _ _ _), trivial⟩ ⟨.inr rfl, trivial⟩ rfl rfl rfl (Zat (ZbT rfl (ZcM _ _ _)) rfl) rfl)

noncomputable def Zgz (L0 : List RB) (L1 : List R_iiiiiiAi) : Zan → Value
 | .r0 w1 => vi w1
noncomputable def ZfO (L0 : List RB) (L1 : List R_iiiiiiAi) : Zan → List (Option AObj)
 | .r0 w1 => [some (.cells (Zd E_iiiiiiAi L1) 31)]

def Zjz : Zr → Nat
 | .h1m0 v2 => 1
 | .h2m0 v2 v3 v4 v5 v6 v7 v8 v9 => 2
noncomputable def Zkc (L0 : List RB) (L1 : List R_iiiiiiAi) : Zr → List (Nat × Value)
 | .h1m0 v2 => [(0, ms E_iiiiii L0), (1, vs 0 0 L1.length L1.length), (5, vi (v2 : Int))]
 | .h2m0 v2 v3 v4 v5 v6 v7 v8 v9 => [(0, ms E_iiiiii L0), (1, vs 0 0 L1.length L1.length), (5, vi (v2 : Int)), (6, vp 1 0), (7, vi (v3 : Int))]
noncomputable def Zkd (L0 : List RB) (L1 : List R_iiiiiiAi) : Zr → List (Option AObj)
 | .h1m0 v2 => [some (.cells (Zd E_iiiiiiAi L1) 31)]
 | .h2m0 v2 v3 v4 v5 v6 v7 v8 v9 => [some (.cells (Zd E_iiiiiiAi L1) 31), some (.cells [vi v4, vi v5, vi v6, vi v7, vi v8, vi v9] 41)]

noncomputable def Za2 : Nat → Code × List Zaw
 | 1 => ZaP [1, 0, 1, 3] (Zb9 Tryz.f8) []
 | 2 => ZaP [1, 0, 1, 3, 7, 1, 0, 3, 1, 1, 1, 3] (Zb9 Tryz.f8) []
 | _ => (.skip, [])
def ZfP : Nat → Bool
 | 1 => true
 | 2 => true
 | _ => true
noncomputable def ZaH (i : Nat) : List Zaw := match ZfP i with | true => .rnd i :: (Za2 i).2 | false => (Za2 i).2

noncomputable def ZD (L0 : List RB) (L1 : List R_iiiiiiAi) (N : Nat) : Mach := ⟨Tryz.f8, [.cells (Zd E_iiiiiiAi L1) 31], Zr, Zan, ZE L0 L1 N, Zjz, Za2, ZfP, Zkc L0 L1, Zkd L0 L1, Zgz L0 L1, ZfO L0 L1⟩

theorem Zhp (L0 : List RB) (L1 : List R_iiiiiiAi) (v2 N : Nat) : (ZD L0 L1 N).Ok Tryz.prog Zx (.h1m0 v2 : Zr) (ZE L0 L1 N (.h1m0 v2 : Zr)) := by
 show (ZD L0 L1 N).Ok Tryz.prog Zx (.h1m0 v2 : Zr) (ZT L0 L1 N v2)
 unfold ZT
 refine Mach.ok_ite (fun g0 => ?_) (fun g0 => ?_)
 ·
  refine Mach.ok_ite (fun g1 => ?_) (fun g1 => ?_)
  ·
   refine Mach.ok_ite (fun g2 => ?_) (fun g2 => ?_)
   ·
    refine Mach.ok_ite (fun g3 => ?_) (fun g3 => ?_)
    ·
     exact Mach.ok_next (M := ZD L0 L1 N) (cd := 1000000) (cm := 0) (y := (.h1m0 ((v2 + 1)) : Zr)) (fu := 4000) (orc := (Zm [(0, true), (1, true), (2, true)] [(0, (((v2 + 1) : Nat) : Int))] [(0, v2)] [(0, [.i (L0.getD v2 RB.z).a0, .i (L0.getD v2 RB.z).a1, .i (L0.getD v2 RB.z).a2, .i (L0.getD v2 RB.z).a3, .i (L0.getD v2 RB.z).a4, .i (L0.getD v2 RB.z).a5])] [])) (live := [0]) (tv := fun _ => [some (ms E_iiiiii L0), some (vs 0 0 L1.length L1.length), some (vi (((v2 + 1) : Nat) : Int))]) (bl := [some (.cells (Zd E_iiiiiiAi L1) 31)]) (ob := [((IntKind.i64.wrap ((v2 : Int) + (1 : Int))) == (((v2 + 1) : Nat) : Int), true), (((L0.getD v2 RB.z).a0 != (10 : Int)), true), (((L0.getD v2 RB.z).a0 != (5 : Int)), true), (dP (ZV (code (Z6 E_iiiiii L0)) (0 + (v2 * 6)) 6 = some [.i (L0.getD v2 RB.z).a0, .i (L0.getD v2 RB.z).a1, .i (L0.getD v2 RB.z).a2, .i (L0.getD v2 RB.z).a3, .i (L0.getD v2 RB.z).a4, .i (L0.getD v2 RB.z).a5]), true), (Nat.blt v2 L0.length, true), ((v2 : Int) == Int.ofNat v2, true), ((decide ((v2 : Int) < (L0.length : Int))), true)]) rfl (show 1 ∈ Zl (ZaH 1) from by decide +kernel) (fun gv => by kernel_rfl) (Zb (beq_iff_eq.2 ((wrap_i64 ltA).trans (by first | rfl | omega))) <| oD <| oD <| Zb (Zw (ZJ (E := E_iiiiii) (L := L0) (i := v2) (q := 0) (by omega) (show (0 + (v2 * 6)) = v2 * 6 + 0 from by omega) (show 0 + 6 ≤ 6 from by decide) rfl)) <| oB <| oI <| oY Zf) rfl (by decide) (by rfl) (fun _ => ⟨rr, ⟨rr, ⟨rr, trivial⟩⟩⟩) ⟨(Zh (E := E_iiiiiiAi) (α := R_iiiiiiAi) _ L1 _), trivial⟩
    ·
     refine Mach.ok_ite (fun g4 => ?_) (fun g4 => ?_)
     ·
      exact Mach.ok_next (M := ZD L0 L1 N) (cd := 1000000) (cm := 0) (y := (.h1m0 ((v2 + 1)) : Zr)) (fu := 4000) (orc := (Zm [(0, true), (1, true), (2, false), (3, true)] [(0, (((v2 + 1) : Nat) : Int))] [(0, v2)] [(0, [.i (L0.getD v2 RB.z).a0, .i (L0.getD v2 RB.z).a1, .i (L0.getD v2 RB.z).a2, .i (L0.getD v2 RB.z).a3, .i (L0.getD v2 RB.z).a4, .i (L0.getD v2 RB.z).a5])] [])) (live := [0]) (tv := fun _ => [some (ms E_iiiiii L0), some (vs 0 0 L1.length L1.length), some (vi (((v2 + 1) : Nat) : Int))]) (bl := [some (.cells (Zd E_iiiiiiAi L1) 31)]) (ob := [((IntKind.i64.wrap ((v2 : Int) + (1 : Int))) == (((v2 + 1) : Nat) : Int), true), ((decide ((L0.getD v2 RB.z).a5 ≤ (0 : Int))), true), (((L0.getD v2 RB.z).a0 != (10 : Int)), false), (((L0.getD v2 RB.z).a0 != (5 : Int)), true), (dP (ZV (code (Z6 E_iiiiii L0)) (0 + (v2 * 6)) 6 = some [.i (L0.getD v2 RB.z).a0, .i (L0.getD v2 RB.z).a1, .i (L0.getD v2 RB.z).a2, .i (L0.getD v2 RB.z).a3, .i (L0.getD v2 RB.z).a4, .i (L0.getD v2 RB.z).a5]), true), (Nat.blt v2 L0.length, true), ((v2 : Int) == Int.ofNat v2, true), ((decide ((v2 : Int) < (L0.length : Int))), true)]) rfl (show 1 ∈ Zl (ZaH 1) from by decide +kernel) (fun gv => by kernel_rfl) (Zb (beq_iff_eq.2 ((wrap_i64 ltA).trans (by first | rfl | omega))) <| oY <| oE <| oD <| Zb (Zw (ZJ (E := E_iiiiii) (L := L0) (i := v2) (q := 0) (by omega) (show (0 + (v2 * 6)) = v2 * 6 + 0 from by omega) (show 0 + 6 ≤ 6 from by decide) rfl)) <| oB <| oI <| oY Zf) rfl (by decide) (by rfl) (fun _ => ⟨rr, ⟨rr, ⟨rr, trivial⟩⟩⟩) ⟨(Zh (E := E_iiiiiiAi) (α := R_iiiiiiAi) _ L1 _), trivial⟩
     ·
      exact Mach.ok_head (bK := Za2 2) (M := ZD L0 L1 N) (cd := 1000000) (cm := 0) (y := (.h2m0 (v2) (0) ((L0.getD v2 RB.z).a0) ((L0.getD v2 RB.z).a1) ((L0.getD v2 RB.z).a2) ((L0.getD v2 RB.z).a3) ((L0.getD v2 RB.z).a4) ((L0.getD v2 RB.z).a5) : Zr)) (fu := 4000) (orc := (Zm [(0, true), (1, true), (2, false), (3, false)] [] [(0, v2)] [(0, [.i (L0.getD v2 RB.z).a0, .i (L0.getD v2 RB.z).a1, .i (L0.getD v2 RB.z).a2, .i (L0.getD v2 RB.z).a3, .i (L0.getD v2 RB.z).a4, .i (L0.getD v2 RB.z).a5])] [])) (live := [0, 1]) (tv := fun _ => [some (ms E_iiiiii L0), some (vs 0 0 L1.length L1.length), some (vi (v2 : Int)), some (vp 1 0), some (vq)]) (bl := [some (.cells (Zd E_iiiiiiAi L1) 31), some (.cells [vi (L0.getD v2 RB.z).a0, vi (L0.getD v2 RB.z).a1, vi (L0.getD v2 RB.z).a2, vi (L0.getD v2 RB.z).a3, vi (L0.getD v2 RB.z).a4, vi (L0.getD v2 RB.z).a5] 41)]) (ob := [((decide ((L0.getD v2 RB.z).a5 ≤ (0 : Int))), false), (((L0.getD v2 RB.z).a0 != (10 : Int)), false), (((L0.getD v2 RB.z).a0 != (5 : Int)), true), (dP (ZV (code (Z6 E_iiiiii L0)) (0 + (v2 * 6)) 6 = some [.i (L0.getD v2 RB.z).a0, .i (L0.getD v2 RB.z).a1, .i (L0.getD v2 RB.z).a2, .i (L0.getD v2 RB.z).a3, .i (L0.getD v2 RB.z).a4, .i (L0.getD v2 RB.z).a5]), true), (Nat.blt v2 L0.length, true), ((v2 : Int) == Int.ofNat v2, true), ((decide ((v2 : Int) < (L0.length : Int))), true)]) rfl rfl (show ∀ j ∈ Zl (Za2 2).2, j ∈ Zl (ZaH 1) from by decide +kernel) (fun gv => by kernel_rfl) (oN <| oE <| oD <| Zb (Zw (ZJ (E := E_iiiiii) (L := L0) (i := v2) (q := 0) (by omega) (show (0 + (v2 * 6)) = v2 * 6 + 0 from by omega) (show 0 + 6 ≤ 6 from by decide) rfl)) <| oB <| oI <| oY Zf) rfl (by decide) (by rfl) (fun _ => ⟨rr, ⟨rr, ⟨rr, ⟨rr, ⟨⟨Eq.trans (show (vi ((0 : Nat) : Int) : Value) = vq from (congrArg (Value.int .i64) (by first | rfl | omega))) (by rfl), by rfl⟩, trivial⟩⟩⟩⟩⟩) ⟨(Zh (E := E_iiiiiiAi) (α := R_iiiiiiAi) _ L1 _), ⟨⟨rfl, ⟨[], by rfl⟩, by rfl⟩, trivial⟩⟩
   ·
    refine Mach.ok_ite (fun g3 => ?_) (fun g3 => ?_)
    ·
     exact Mach.ok_next (M := ZD L0 L1 N) (cd := 1000000) (cm := 0) (y := (.h1m0 ((v2 + 1)) : Zr)) (fu := 4000) (orc := (Zm [(0, true), (1, false), (2, true)] [(0, (((v2 + 1) : Nat) : Int))] [(0, v2)] [(0, [.i (L0.getD v2 RB.z).a0, .i (L0.getD v2 RB.z).a1, .i (L0.getD v2 RB.z).a2, .i (L0.getD v2 RB.z).a3, .i (L0.getD v2 RB.z).a4, .i (L0.getD v2 RB.z).a5])] [])) (live := [0]) (tv := fun _ => [some (ms E_iiiiii L0), some (vs 0 0 L1.length L1.length), some (vi (((v2 + 1) : Nat) : Int))]) (bl := [some (.cells (Zd E_iiiiiiAi L1) 31)]) (ob := [((IntKind.i64.wrap ((v2 : Int) + (1 : Int))) == (((v2 + 1) : Nat) : Int), true), ((decide ((L0.getD v2 RB.z).a5 ≤ (0 : Int))), true), (((L0.getD v2 RB.z).a0 != (5 : Int)), false), (dP (ZV (code (Z6 E_iiiiii L0)) (0 + (v2 * 6)) 6 = some [.i (L0.getD v2 RB.z).a0, .i (L0.getD v2 RB.z).a1, .i (L0.getD v2 RB.z).a2, .i (L0.getD v2 RB.z).a3, .i (L0.getD v2 RB.z).a4, .i (L0.getD v2 RB.z).a5]), true), (Nat.blt v2 L0.length, true), ((v2 : Int) == Int.ofNat v2, true), ((decide ((v2 : Int) < (L0.length : Int))), true)]) rfl (show 1 ∈ Zl (ZaH 1) from by decide +kernel) (fun gv => by kernel_rfl) (Zb (beq_iff_eq.2 ((wrap_i64 ltA).trans (by first | rfl | omega))) <| oY <| oE <| Zb (Zw (ZJ (E := E_iiiiii) (L := L0) (i := v2) (q := 0) (by omega) (show (0 + (v2 * 6)) = v2 * 6 + 0 from by omega) (show 0 + 6 ≤ 6 from by decide) rfl)) <| oB <| oI <| oY Zf) rfl (by decide) (by rfl) (fun _ => ⟨rr, ⟨rr, ⟨rr, trivial⟩⟩⟩) ⟨(Zh (E := E_iiiiiiAi) (α := R_iiiiiiAi) _ L1 _), trivial⟩
    ·
     exact Mach.ok_head (bK := Za2 2) (M := ZD L0 L1 N) (cd := 1000000) (cm := 0) (y := (.h2m0 (v2) (0) ((L0.getD v2 RB.z).a0) ((L0.getD v2 RB.z).a1) ((L0.getD v2 RB.z).a2) ((L0.getD v2 RB.z).a3) ((L0.getD v2 RB.z).a4) ((L0.getD v2 RB.z).a5) : Zr)) (fu := 4000) (orc := (Zm [(0, true), (1, false), (2, false)] [] [(0, v2)] [(0, [.i (L0.getD v2 RB.z).a0, .i (L0.getD v2 RB.z).a1, .i (L0.getD v2 RB.z).a2, .i (L0.getD v2 RB.z).a3, .i (L0.getD v2 RB.z).a4, .i (L0.getD v2 RB.z).a5])] [])) (live := [0, 1]) (tv := fun _ => [some (ms E_iiiiii L0), some (vs 0 0 L1.length L1.length), some (vi (v2 : Int)), some (vp 1 0), some (vq)]) (bl := [some (.cells (Zd E_iiiiiiAi L1) 31), some (.cells [vi (L0.getD v2 RB.z).a0, vi (L0.getD v2 RB.z).a1, vi (L0.getD v2 RB.z).a2, vi (L0.getD v2 RB.z).a3, vi (L0.getD v2 RB.z).a4, vi (L0.getD v2 RB.z).a5] 41)]) (ob := [((decide ((L0.getD v2 RB.z).a5 ≤ (0 : Int))), false), (((L0.getD v2 RB.z).a0 != (5 : Int)), false), (dP (ZV (code (Z6 E_iiiiii L0)) (0 + (v2 * 6)) 6 = some [.i (L0.getD v2 RB.z).a0, .i (L0.getD v2 RB.z).a1, .i (L0.getD v2 RB.z).a2, .i (L0.getD v2 RB.z).a3, .i (L0.getD v2 RB.z).a4, .i (L0.getD v2 RB.z).a5]), true), (Nat.blt v2 L0.length, true), ((v2 : Int) == Int.ofNat v2, true), ((decide ((v2 : Int) < (L0.length : Int))), true)]) rfl rfl (show ∀ j ∈ Zl (Za2 2).2, j ∈ Zl (ZaH 1) from by decide +kernel) (fun gv => by kernel_rfl) (oN <| oE <| Zb (Zw (ZJ (E := E_iiiiii) (L := L0) (i := v2) (q := 0) (by omega) (show (0 + (v2 * 6)) = v2 * 6 + 0 from by omega) (show 0 + 6 ≤ 6 from by decide) rfl)) <| oB <| oI <| oY Zf) rfl (by decide) (by rfl) (fun _ => ⟨rr, ⟨rr, ⟨rr, ⟨rr, ⟨⟨Eq.trans (show (vi ((0 : Nat) : Int) : Value) = vq from (congrArg (Value.int .i64) (by first | rfl | omega))) (by rfl), by rfl⟩, trivial⟩⟩⟩⟩⟩) ⟨(Zh (E := E_iiiiiiAi) (α := R_iiiiiiAi) _ L1 _), ⟨⟨rfl, ⟨[], by rfl⟩, by rfl⟩, trivial⟩⟩
  ·
   exact Mach.ok_fin (M := ZD L0 L1 N) (cd := 1000000) (cm := 0) (r := (.r0 ((0 : Int)) : Zan)) (fu := 4000) (orc := (Zm [(0, false)] [] [] [] [])) (live := [0]) (u := vq) (bl := [some (.cells (Zd E_iiiiiiAi L1) 31)]) (ob := [((decide ((v2 : Int) < (L0.length : Int))), false)]) (fun gv => by kernel_rfl) (oN Zf) rfl (by decide) (by rfl) rr ⟨(Zh (E := E_iiiiiiAi) (α := R_iiiiiiAi) _ L1 _), trivial⟩
 ·
  exact Mach.ok_none

theorem Zhq (L0 : List RB) (L1 : List R_iiiiiiAi) (v2 v3 : Nat) (v4 v5 v6 v7 v8 v9 : Int) (N : Nat) : (ZD L0 L1 N).Ok Tryz.prog Zx (.h2m0 v2 v3 v4 v5 v6 v7 v8 v9 : Zr) (ZE L0 L1 N (.h2m0 v2 v3 v4 v5 v6 v7 v8 v9 : Zr)) := by
 show (ZD L0 L1 N).Ok Tryz.prog Zx (.h2m0 v2 v3 v4 v5 v6 v7 v8 v9 : Zr) (ZZ L0 L1 N v2 v3 v4 v5 v6 v7 v8 v9)
 unfold ZZ
 refine Mach.ok_ite (fun g0 => ?_) (fun g0 => ?_)
 ·
  refine Mach.ok_ite (fun g1 => ?_) (fun g1 => ?_)
  ·
   refine Mach.ok_bind (fun z2 c2 => ?_)
   cases z2 with
   | r0 y2_0 y2_1 =>
    refine Mach.ok_ite (fun g3 => ?_) (fun g3 => ?_)
    ·
     subst g3
     refine Mach.ok_ite (fun g4 => ?_) (fun g4 => ?_)
     ·
      refine Mach.ok_ite (fun g5 => ?_) (fun g5 => ?_)
      ·
       refine Mach.ok_ite (fun g6 => ?_) (fun g6 => ?_)
       ·
        refine Mach.ok_ite (fun g7 => ?_) (fun g7 => ?_)
        ·
         exact Mach.ok_fin (M := ZD L0 L1 N) (cd := 1000000) (cm := 0) (r := (.r0 ((((v2 + 1) : Nat) : Int)) : Zan)) (fu := 4000) (orc := (Zm [(0, true), (1, true), (2, true), (3, true)] [(0, (((v2 + 1) : Nat) : Int)), (1, (((v2 + 1) : Nat) : Int))] [(0, v3), (1, v3), (2, v3)] [(0, [.i (L1.getD v3 R_iiiiiiAi.z).a0, .i (L1.getD v3 R_iiiiiiAi.z).a1, .i (L1.getD v3 R_iiiiiiAi.z).a2, .i (L1.getD v3 R_iiiiiiAi.z).a3, .i (L1.getD v3 R_iiiiiiAi.z).a4, .i (L1.getD v3 R_iiiiiiAi.z).a5, (mc E_ii (L1.getD v3 R_iiiiiiAi.z).a6), .i (L1.getD v3 R_iiiiiiAi.z).a7]), (1, [.i (L1.getD v3 R_iiiiiiAi.z).a1]), (4, [.i (L1.getD v3 R_iiiiiiAi.z).a4])] [(0, (Zbb (L0) ((L1.getD v3 R_iiiiiiAi.z).a0) ((L1.getD v3 R_iiiiiiAi.z).a1) ((L1.getD v3 R_iiiiiiAi.z).a2) ((L1.getD v3 R_iiiiiiAi.z).a3) ((L1.getD v3 R_iiiiiiAi.z).a4) ((L1.getD v3 R_iiiiiiAi.z).a5) ((L1.getD v3 R_iiiiiiAi.z).a6) ((L1.getD v3 R_iiiiiiAi.z).a7)  y2_0 true  2))])) (live := [0]) (u := vi (((v2 + 1) : Nat) : Int)) (bl := [some (.cells (Zd E_iiiiiiAi L1) 31)]) (ob := [((IntKind.i64.wrap ((v2 : Int) + (1 : Int))) == (((v2 + 1) : Nat) : Int), true), ((decide (v9 < (L1.getD v3 R_iiiiiiAi.z).a4)), true), (ZO (Zv 1 (List.drop ((0 + (v3 * 8)) + 4) (Zd E_iiiiiiAi L1))) [.i (L1.getD v3 R_iiiiiiAi.z).a4], true), (Nat.blt v3 L1.length, true), ((v3 : Int) == Int.ofNat v3, true), (((L1.getD v3 R_iiiiiiAi.z).a1 != v5), true), (ZO (Zv 1 (List.drop ((0 + (v3 * 8)) + 1) (Zd E_iiiiiiAi L1))) [.i (L1.getD v3 R_iiiiiiAi.z).a1], true), (Nat.blt v3 L1.length, true), ((v3 : Int) == Int.ofNat v3, true), ((decide (y2_0 ≤ (((v2 + 1) : Nat) : Int))), true), ((IntKind.i64.wrap ((v2 : Int) + (1 : Int))) == (((v2 + 1) : Nat) : Int), true), (dP (ZaK #[ms E_iiiiii L0, Value.agg #[vi (L1.getD v3 R_iiiiiiAi.z).a0, vi (L1.getD v3 R_iiiiiiAi.z).a1, vi (L1.getD v3 R_iiiiiiAi.z).a2, vi (L1.getD v3 R_iiiiiiAi.z).a3, vi (L1.getD v3 R_iiiiiiAi.z).a4, vi (L1.getD v3 R_iiiiiiAi.z).a5, ms E_ii (L1.getD v3 R_iiiiiiAi.z).a6, vi (L1.getD v3 R_iiiiiiAi.z).a7]] (L0) ((L1.getD v3 R_iiiiiiAi.z).a0) ((L1.getD v3 R_iiiiiiAi.z).a1) ((L1.getD v3 R_iiiiiiAi.z).a2) ((L1.getD v3 R_iiiiiiAi.z).a3) ((L1.getD v3 R_iiiiiiAi.z).a4) ((L1.getD v3 R_iiiiiiAi.z).a5) ((L1.getD v3 R_iiiiiiAi.z).a6) ((L1.getD v3 R_iiiiiiAi.z).a7)  y2_0 true  2), true), (ZO (Zv 8 (List.drop (0 + (v3 * 8)) (Zd E_iiiiiiAi L1))) [.i (L1.getD v3 R_iiiiiiAi.z).a0, .i (L1.getD v3 R_iiiiiiAi.z).a1, .i (L1.getD v3 R_iiiiiiAi.z).a2, .i (L1.getD v3 R_iiiiiiAi.z).a3, .i (L1.getD v3 R_iiiiiiAi.z).a4, .i (L1.getD v3 R_iiiiiiAi.z).a5, (mc E_ii (L1.getD v3 R_iiiiiiAi.z).a6), .i (L1.getD v3 R_iiiiiiAi.z).a7], true), (Nat.blt v3 L1.length, true), ((v3 : Int) == Int.ofNat v3, true), ((decide ((v3 : Int) < (L1.length : Int))), true)]) (fun gv => by kernel_rfl) (Zb (beq_iff_eq.2 ((wrap_i64 ltA).trans (by first | rfl | omega))) <| oY <| Zb (Zy (E := E_iiiiiiAi) (L := L1) (i := v3) (q := 4) (by omega) (show ((0 + (v3 * 8)) + 4) = v3 * 8 + 4 from by omega) (show 4 + 1 ≤ 8 from by decide) rfl rfl) <| oB <| oI <| oD <| Zb (Zy (E := E_iiiiiiAi) (L := L1) (i := v3) (q := 1) (by omega) (show ((0 + (v3 * 8)) + 1) = v3 * 8 + 1 from by omega) (show 1 + 1 ≤ 8 from by decide) rfl rfl) <| oB <| oI <| oY <| Zb (beq_iff_eq.2 ((wrap_i64 ltA).trans (by first | rfl | omega))) <| Zb (Zw (Zbc #[ms E_iiiiii L0, Value.agg #[vi (L1.getD v3 R_iiiiiiAi.z).a0, vi (L1.getD v3 R_iiiiiiAi.z).a1, vi (L1.getD v3 R_iiiiiiAi.z).a2, vi (L1.getD v3 R_iiiiiiAi.z).a3, vi (L1.getD v3 R_iiiiiiAi.z).a4, vi (L1.getD v3 R_iiiiiiAi.z).a5, ms E_ii (L1.getD v3 R_iiiiiiAi.z).a6, vi (L1.getD v3 R_iiiiiiAi.z).a7]] (L0) ((L1.getD v3 R_iiiiiiAi.z).a0) ((L1.getD v3 R_iiiiiiAi.z).a1) ((L1.getD v3 R_iiiiiiAi.z).a2) ((L1.getD v3 R_iiiiiiAi.z).a3) ((L1.getD v3 R_iiiiiiAi.z).a4) ((L1.getD v3 R_iiiiiiAi.z).a5) ((L1.getD v3 R_iiiiiiAi.z).a6) ((L1.getD v3 R_iiiiiiAi.z).a7)  y2_0 true N c2  2 rfl (by decide) (by decide))) <| Zb (Zy (E := E_iiiiiiAi) (L := L1) (i := v3) (q := 0) (by omega) (show (0 + (v3 * 8)) = v3 * 8 + 0 from by omega) (show 0 + 8 ≤ 8 from by decide) rfl rfl) <| oB <| oI <| oY Zf) rfl (by decide) (by rfl) rr ⟨(Zh (E := E_iiiiiiAi) (α := R_iiiiiiAi) _ L1 _), trivial⟩
        ·
         refine Mach.ok_ite (fun g8 => ?_) (fun g8 => ?_)
         ·
          exact Mach.ok_next (M := ZD L0 L1 N) (cd := 1000000) (cm := 0) (y := (.h2m0 (v2) ((v3 + 1)) (v4) (v5) (v6) (v7) (v8) (v9) : Zr)) (fu := 4000) (orc := (Zm [(0, true), (1, true), (2, true), (3, false)] [(0, (((v2 + 1) : Nat) : Int)), (1, (((v3 + 1) : Nat) : Int))] [(0, v3), (1, v3), (2, v3)] [(0, [.i (L1.getD v3 R_iiiiiiAi.z).a0, .i (L1.getD v3 R_iiiiiiAi.z).a1, .i (L1.getD v3 R_iiiiiiAi.z).a2, .i (L1.getD v3 R_iiiiiiAi.z).a3, .i (L1.getD v3 R_iiiiiiAi.z).a4, .i (L1.getD v3 R_iiiiiiAi.z).a5, (mc E_ii (L1.getD v3 R_iiiiiiAi.z).a6), .i (L1.getD v3 R_iiiiiiAi.z).a7]), (1, [.i (L1.getD v3 R_iiiiiiAi.z).a1]), (4, [.i (L1.getD v3 R_iiiiiiAi.z).a4])] [(0, (Zbb (L0) ((L1.getD v3 R_iiiiiiAi.z).a0) ((L1.getD v3 R_iiiiiiAi.z).a1) ((L1.getD v3 R_iiiiiiAi.z).a2) ((L1.getD v3 R_iiiiiiAi.z).a3) ((L1.getD v3 R_iiiiiiAi.z).a4) ((L1.getD v3 R_iiiiiiAi.z).a5) ((L1.getD v3 R_iiiiiiAi.z).a6) ((L1.getD v3 R_iiiiiiAi.z).a7)  y2_0 true  2))])) (live := [0, 1]) (tv := fun _ => [some (ms E_iiiiii L0), some (vs 0 0 L1.length L1.length), some (vi (v2 : Int)), some (vp 1 0), some (vi (((v3 + 1) : Nat) : Int))]) (bl := [some (.cells (Zd E_iiiiiiAi L1) 31), some (.cells [vi v4, vi v5, vi v6, vi v7, vi v8, vi v9] 41)]) (ob := [((IntKind.i64.wrap ((v3 : Int) + (1 : Int))) == (((v3 + 1) : Nat) : Int), true), ((decide (v9 < (L1.getD v3 R_iiiiiiAi.z).a4)), false), (ZO (Zv 1 (List.drop ((0 + (v3 * 8)) + 4) (Zd E_iiiiiiAi L1))) [.i (L1.getD v3 R_iiiiiiAi.z).a4], true), (Nat.blt v3 L1.length, true), ((v3 : Int) == Int.ofNat v3, true), (((L1.getD v3 R_iiiiiiAi.z).a1 != v5), true), (ZO (Zv 1 (List.drop ((0 + (v3 * 8)) + 1) (Zd E_iiiiiiAi L1))) [.i (L1.getD v3 R_iiiiiiAi.z).a1], true), (Nat.blt v3 L1.length, true), ((v3 : Int) == Int.ofNat v3, true), ((decide (y2_0 ≤ (((v2 + 1) : Nat) : Int))), true), ((IntKind.i64.wrap ((v2 : Int) + (1 : Int))) == (((v2 + 1) : Nat) : Int), true), (dP (ZaK #[ms E_iiiiii L0, Value.agg #[vi (L1.getD v3 R_iiiiiiAi.z).a0, vi (L1.getD v3 R_iiiiiiAi.z).a1, vi (L1.getD v3 R_iiiiiiAi.z).a2, vi (L1.getD v3 R_iiiiiiAi.z).a3, vi (L1.getD v3 R_iiiiiiAi.z).a4, vi (L1.getD v3 R_iiiiiiAi.z).a5, ms E_ii (L1.getD v3 R_iiiiiiAi.z).a6, vi (L1.getD v3 R_iiiiiiAi.z).a7]] (L0) ((L1.getD v3 R_iiiiiiAi.z).a0) ((L1.getD v3 R_iiiiiiAi.z).a1) ((L1.getD v3 R_iiiiiiAi.z).a2) ((L1.getD v3 R_iiiiiiAi.z).a3) ((L1.getD v3 R_iiiiiiAi.z).a4) ((L1.getD v3 R_iiiiiiAi.z).a5) ((L1.getD v3 R_iiiiiiAi.z).a6) ((L1.getD v3 R_iiiiiiAi.z).a7)  y2_0 true  2), true), (ZO (Zv 8 (List.drop (0 + (v3 * 8)) (Zd E_iiiiiiAi L1))) [.i (L1.getD v3 R_iiiiiiAi.z).a0, .i (L1.getD v3 R_iiiiiiAi.z).a1, .i (L1.getD v3 R_iiiiiiAi.z).a2, .i (L1.getD v3 R_iiiiiiAi.z).a3, .i (L1.getD v3 R_iiiiiiAi.z).a4, .i (L1.getD v3 R_iiiiiiAi.z).a5, (mc E_ii (L1.getD v3 R_iiiiiiAi.z).a6), .i (L1.getD v3 R_iiiiiiAi.z).a7], true), (Nat.blt v3 L1.length, true), ((v3 : Int) == Int.ofNat v3, true), ((decide ((v3 : Int) < (L1.length : Int))), true)]) rfl (show 2 ∈ Zl (ZaH 2) from by decide +kernel) (fun gv => by kernel_rfl) (Zb (beq_iff_eq.2 ((wrap_i64 ltA).trans (by first | rfl | omega))) <| oN <| Zb (Zy (E := E_iiiiiiAi) (L := L1) (i := v3) (q := 4) (by omega) (show ((0 + (v3 * 8)) + 4) = v3 * 8 + 4 from by omega) (show 4 + 1 ≤ 8 from by decide) rfl rfl) <| oB <| oI <| oD <| Zb (Zy (E := E_iiiiiiAi) (L := L1) (i := v3) (q := 1) (by omega) (show ((0 + (v3 * 8)) + 1) = v3 * 8 + 1 from by omega) (show 1 + 1 ≤ 8 from by decide) rfl rfl) <| oB <| oI <| oY <| Zb (beq_iff_eq.2 ((wrap_i64 ltA).trans (by first | rfl | omega))) <| Zb (Zw (Zbc #[ms E_iiiiii L0, Value.agg #[vi (L1.getD v3 R_iiiiiiAi.z).a0, vi (L1.getD v3 R_iiiiiiAi.z).a1, vi (L1.getD v3 R_iiiiiiAi.z).a2, vi (L1.getD v3 R_iiiiiiAi.z).a3, vi (L1.getD v3 R_iiiiiiAi.z).a4, vi (L1.getD v3 R_iiiiiiAi.z).a5, ms E_ii (L1.getD v3 R_iiiiiiAi.z).a6, vi (L1.getD v3 R_iiiiiiAi.z).a7]] (L0) ((L1.getD v3 R_iiiiiiAi.z).a0) ((L1.getD v3 R_iiiiiiAi.z).a1) ((L1.getD v3 R_iiiiiiAi.z).a2) ((L1.getD v3 R_iiiiiiAi.z).a3) ((L1.getD v3 R_iiiiiiAi.z).a4) ((L1.getD v3 R_iiiiiiAi.z).a5) ((L1.getD v3 R_iiiiiiAi.z).a6) ((L1.getD v3 R_iiiiiiAi.z).a7)  y2_0 true N c2  2 rfl (by decide) (by decide))) <| Zb (Zy (E := E_iiiiiiAi) (L := L1) (i := v3) (q := 0) (by omega) (show (0 + (v3 * 8)) = v3 * 8 + 0 from by omega) (show 0 + 8 ≤ 8 from by decide) rfl rfl) <| oB <| oI <| oY Zf) rfl (by decide) (by rfl) (fun _ => ⟨rr, ⟨rr, ⟨rr, ⟨rr, ⟨rr, trivial⟩⟩⟩⟩⟩) ⟨(Zh (E := E_iiiiiiAi) (α := R_iiiiiiAi) _ L1 _), ⟨⟨rfl, ⟨[], by rfl⟩, by rfl⟩, trivial⟩⟩
         ·
          exact Mach.ok_none
       ·
        refine Mach.ok_ite (fun g7 => ?_) (fun g7 => ?_)
        ·
         exact Mach.ok_next (M := ZD L0 L1 N) (cd := 1000000) (cm := 0) (y := (.h2m0 (v2) ((v3 + 1)) (v4) (v5) (v6) (v7) (v8) (v9) : Zr)) (fu := 4000) (orc := (Zm [(0, true), (1, true), (2, false)] [(0, (((v2 + 1) : Nat) : Int)), (1, (((v3 + 1) : Nat) : Int))] [(0, v3), (1, v3)] [(0, [.i (L1.getD v3 R_iiiiiiAi.z).a0, .i (L1.getD v3 R_iiiiiiAi.z).a1, .i (L1.getD v3 R_iiiiiiAi.z).a2, .i (L1.getD v3 R_iiiiiiAi.z).a3, .i (L1.getD v3 R_iiiiiiAi.z).a4, .i (L1.getD v3 R_iiiiiiAi.z).a5, (mc E_ii (L1.getD v3 R_iiiiiiAi.z).a6), .i (L1.getD v3 R_iiiiiiAi.z).a7]), (1, [.i (L1.getD v3 R_iiiiiiAi.z).a1])] [(0, (Zbb (L0) ((L1.getD v3 R_iiiiiiAi.z).a0) ((L1.getD v3 R_iiiiiiAi.z).a1) ((L1.getD v3 R_iiiiiiAi.z).a2) ((L1.getD v3 R_iiiiiiAi.z).a3) ((L1.getD v3 R_iiiiiiAi.z).a4) ((L1.getD v3 R_iiiiiiAi.z).a5) ((L1.getD v3 R_iiiiiiAi.z).a6) ((L1.getD v3 R_iiiiiiAi.z).a7)  y2_0 true  2))])) (live := [0, 1]) (tv := fun _ => [some (ms E_iiiiii L0), some (vs 0 0 L1.length L1.length), some (vi (v2 : Int)), some (vp 1 0), some (vi (((v3 + 1) : Nat) : Int))]) (bl := [some (.cells (Zd E_iiiiiiAi L1) 31), some (.cells [vi v4, vi v5, vi v6, vi v7, vi v8, vi v9] 41)]) (ob := [((IntKind.i64.wrap ((v3 : Int) + (1 : Int))) == (((v3 + 1) : Nat) : Int), true), (((L1.getD v3 R_iiiiiiAi.z).a1 != v5), false), (ZO (Zv 1 (List.drop ((0 + (v3 * 8)) + 1) (Zd E_iiiiiiAi L1))) [.i (L1.getD v3 R_iiiiiiAi.z).a1], true), (Nat.blt v3 L1.length, true), ((v3 : Int) == Int.ofNat v3, true), ((decide (y2_0 ≤ (((v2 + 1) : Nat) : Int))), true), ((IntKind.i64.wrap ((v2 : Int) + (1 : Int))) == (((v2 + 1) : Nat) : Int), true), (dP (ZaK #[ms E_iiiiii L0, Value.agg #[vi (L1.getD v3 R_iiiiiiAi.z).a0, vi (L1.getD v3 R_iiiiiiAi.z).a1, vi (L1.getD v3 R_iiiiiiAi.z).a2, vi (L1.getD v3 R_iiiiiiAi.z).a3, vi (L1.getD v3 R_iiiiiiAi.z).a4, vi (L1.getD v3 R_iiiiiiAi.z).a5, ms E_ii (L1.getD v3 R_iiiiiiAi.z).a6, vi (L1.getD v3 R_iiiiiiAi.z).a7]] (L0) ((L1.getD v3 R_iiiiiiAi.z).a0) ((L1.getD v3 R_iiiiiiAi.z).a1) ((L1.getD v3 R_iiiiiiAi.z).a2) ((L1.getD v3 R_iiiiiiAi.z).a3) ((L1.getD v3 R_iiiiiiAi.z).a4) ((L1.getD v3 R_iiiiiiAi.z).a5) ((L1.getD v3 R_iiiiiiAi.z).a6) ((L1.getD v3 R_iiiiiiAi.z).a7)  y2_0 true  2), true), (ZO (Zv 8 (List.drop (0 + (v3 * 8)) (Zd E_iiiiiiAi L1))) [.i (L1.getD v3 R_iiiiiiAi.z).a0, .i (L1.getD v3 R_iiiiiiAi.z).a1, .i (L1.getD v3 R_iiiiiiAi.z).a2, .i (L1.getD v3 R_iiiiiiAi.z).a3, .i (L1.getD v3 R_iiiiiiAi.z).a4, .i (L1.getD v3 R_iiiiiiAi.z).a5, (mc E_ii (L1.getD v3 R_iiiiiiAi.z).a6), .i (L1.getD v3 R_iiiiiiAi.z).a7], true), (Nat.blt v3 L1.length, true), ((v3 : Int) == Int.ofNat v3, true), ((decide ((v3 : Int) < (L1.length : Int))), true)]) rfl (show 2 ∈ Zl (ZaH 2) from by decide +kernel) (fun gv => by kernel_rfl) (Zb (beq_iff_eq.2 ((wrap_i64 ltA).trans (by first | rfl | omega))) <| oE <| Zb (Zy (E := E_iiiiiiAi) (L := L1) (i := v3) (q := 1) (by omega) (show ((0 + (v3 * 8)) + 1) = v3 * 8 + 1 from by omega) (show 1 + 1 ≤ 8 from by decide) rfl rfl) <| oB <| oI <| oY <| Zb (beq_iff_eq.2 ((wrap_i64 ltA).trans (by first | rfl | omega))) <| Zb (Zw (Zbc #[ms E_iiiiii L0, Value.agg #[vi (L1.getD v3 R_iiiiiiAi.z).a0, vi (L1.getD v3 R_iiiiiiAi.z).a1, vi (L1.getD v3 R_iiiiiiAi.z).a2, vi (L1.getD v3 R_iiiiiiAi.z).a3, vi (L1.getD v3 R_iiiiiiAi.z).a4, vi (L1.getD v3 R_iiiiiiAi.z).a5, ms E_ii (L1.getD v3 R_iiiiiiAi.z).a6, vi (L1.getD v3 R_iiiiiiAi.z).a7]] (L0) ((L1.getD v3 R_iiiiiiAi.z).a0) ((L1.getD v3 R_iiiiiiAi.z).a1) ((L1.getD v3 R_iiiiiiAi.z).a2) ((L1.getD v3 R_iiiiiiAi.z).a3) ((L1.getD v3 R_iiiiiiAi.z).a4) ((L1.getD v3 R_iiiiiiAi.z).a5) ((L1.getD v3 R_iiiiiiAi.z).a6) ((L1.getD v3 R_iiiiiiAi.z).a7)  y2_0 true N c2  2 rfl (by decide) (by decide))) <| Zb (Zy (E := E_iiiiiiAi) (L := L1) (i := v3) (q := 0) (by omega) (show (0 + (v3 * 8)) = v3 * 8 + 0 from by omega) (show 0 + 8 ≤ 8 from by decide) rfl rfl) <| oB <| oI <| oY Zf) rfl (by decide) (by rfl) (fun _ => ⟨rr, ⟨rr, ⟨rr, ⟨rr, ⟨rr, trivial⟩⟩⟩⟩⟩) ⟨(Zh (E := E_iiiiiiAi) (α := R_iiiiiiAi) _ L1 _), ⟨⟨rfl, ⟨[], by rfl⟩, by rfl⟩, trivial⟩⟩
        ·
         exact Mach.ok_none
      ·
       refine Mach.ok_ite (fun g6 => ?_) (fun g6 => ?_)
       ·
        exact Mach.ok_next (M := ZD L0 L1 N) (cd := 1000000) (cm := 0) (y := (.h2m0 (v2) ((v3 + 1)) (v4) (v5) (v6) (v7) (v8) (v9) : Zr)) (fu := 4000) (orc := (Zm [(0, true), (1, false)] [(0, (((v2 + 1) : Nat) : Int)), (1, (((v3 + 1) : Nat) : Int))] [(0, v3)] [(0, [.i (L1.getD v3 R_iiiiiiAi.z).a0, .i (L1.getD v3 R_iiiiiiAi.z).a1, .i (L1.getD v3 R_iiiiiiAi.z).a2, .i (L1.getD v3 R_iiiiiiAi.z).a3, .i (L1.getD v3 R_iiiiiiAi.z).a4, .i (L1.getD v3 R_iiiiiiAi.z).a5, (mc E_ii (L1.getD v3 R_iiiiiiAi.z).a6), .i (L1.getD v3 R_iiiiiiAi.z).a7])] [(0, (Zbb (L0) ((L1.getD v3 R_iiiiiiAi.z).a0) ((L1.getD v3 R_iiiiiiAi.z).a1) ((L1.getD v3 R_iiiiiiAi.z).a2) ((L1.getD v3 R_iiiiiiAi.z).a3) ((L1.getD v3 R_iiiiiiAi.z).a4) ((L1.getD v3 R_iiiiiiAi.z).a5) ((L1.getD v3 R_iiiiiiAi.z).a6) ((L1.getD v3 R_iiiiiiAi.z).a7)  y2_0 true  2))])) (live := [0, 1]) (tv := fun _ => [some (ms E_iiiiii L0), some (vs 0 0 L1.length L1.length), some (vi (v2 : Int)), some (vp 1 0), some (vi (((v3 + 1) : Nat) : Int))]) (bl := [some (.cells (Zd E_iiiiiiAi L1) 31), some (.cells [vi v4, vi v5, vi v6, vi v7, vi v8, vi v9] 41)]) (ob := [((IntKind.i64.wrap ((v3 : Int) + (1 : Int))) == (((v3 + 1) : Nat) : Int), true), ((decide (y2_0 ≤ (((v2 + 1) : Nat) : Int))), false), ((IntKind.i64.wrap ((v2 : Int) + (1 : Int))) == (((v2 + 1) : Nat) : Int), true), (dP (ZaK #[ms E_iiiiii L0, Value.agg #[vi (L1.getD v3 R_iiiiiiAi.z).a0, vi (L1.getD v3 R_iiiiiiAi.z).a1, vi (L1.getD v3 R_iiiiiiAi.z).a2, vi (L1.getD v3 R_iiiiiiAi.z).a3, vi (L1.getD v3 R_iiiiiiAi.z).a4, vi (L1.getD v3 R_iiiiiiAi.z).a5, ms E_ii (L1.getD v3 R_iiiiiiAi.z).a6, vi (L1.getD v3 R_iiiiiiAi.z).a7]] (L0) ((L1.getD v3 R_iiiiiiAi.z).a0) ((L1.getD v3 R_iiiiiiAi.z).a1) ((L1.getD v3 R_iiiiiiAi.z).a2) ((L1.getD v3 R_iiiiiiAi.z).a3) ((L1.getD v3 R_iiiiiiAi.z).a4) ((L1.getD v3 R_iiiiiiAi.z).a5) ((L1.getD v3 R_iiiiiiAi.z).a6) ((L1.getD v3 R_iiiiiiAi.z).a7)  y2_0 true  2), true), (ZO (Zv 8 (List.drop (0 + (v3 * 8)) (Zd E_iiiiiiAi L1))) [.i (L1.getD v3 R_iiiiiiAi.z).a0, .i (L1.getD v3 R_iiiiiiAi.z).a1, .i (L1.getD v3 R_iiiiiiAi.z).a2, .i (L1.getD v3 R_iiiiiiAi.z).a3, .i (L1.getD v3 R_iiiiiiAi.z).a4, .i (L1.getD v3 R_iiiiiiAi.z).a5, (mc E_ii (L1.getD v3 R_iiiiiiAi.z).a6), .i (L1.getD v3 R_iiiiiiAi.z).a7], true), (Nat.blt v3 L1.length, true), ((v3 : Int) == Int.ofNat v3, true), ((decide ((v3 : Int) < (L1.length : Int))), true)]) rfl (show 2 ∈ Zl (ZaH 2) from by decide +kernel) (fun gv => by kernel_rfl) (Zb (beq_iff_eq.2 ((wrap_i64 ltA).trans (by first | rfl | omega))) <| oN <| Zb (beq_iff_eq.2 ((wrap_i64 ltA).trans (by first | rfl | omega))) <| Zb (Zw (Zbc #[ms E_iiiiii L0, Value.agg #[vi (L1.getD v3 R_iiiiiiAi.z).a0, vi (L1.getD v3 R_iiiiiiAi.z).a1, vi (L1.getD v3 R_iiiiiiAi.z).a2, vi (L1.getD v3 R_iiiiiiAi.z).a3, vi (L1.getD v3 R_iiiiiiAi.z).a4, vi (L1.getD v3 R_iiiiiiAi.z).a5, ms E_ii (L1.getD v3 R_iiiiiiAi.z).a6, vi (L1.getD v3 R_iiiiiiAi.z).a7]] (L0) ((L1.getD v3 R_iiiiiiAi.z).a0) ((L1.getD v3 R_iiiiiiAi.z).a1) ((L1.getD v3 R_iiiiiiAi.z).a2) ((L1.getD v3 R_iiiiiiAi.z).a3) ((L1.getD v3 R_iiiiiiAi.z).a4) ((L1.getD v3 R_iiiiiiAi.z).a5) ((L1.getD v3 R_iiiiiiAi.z).a6) ((L1.getD v3 R_iiiiiiAi.z).a7)  y2_0 true N c2  2 rfl (by decide) (by decide))) <| Zb (Zy (E := E_iiiiiiAi) (L := L1) (i := v3) (q := 0) (by omega) (show (0 + (v3 * 8)) = v3 * 8 + 0 from by omega) (show 0 + 8 ≤ 8 from by decide) rfl rfl) <| oB <| oI <| oY Zf) rfl (by decide) (by rfl) (fun _ => ⟨rr, ⟨rr, ⟨rr, ⟨rr, ⟨rr, trivial⟩⟩⟩⟩⟩) ⟨(Zh (E := E_iiiiiiAi) (α := R_iiiiiiAi) _ L1 _), ⟨⟨rfl, ⟨[], by rfl⟩, by rfl⟩, trivial⟩⟩
       ·
        exact Mach.ok_none
     ·
      exact Mach.ok_none
    ·
     obtain rfl : y2_1 = false := by simpa using g3
     refine Mach.ok_ite (fun g4 => ?_) (fun g4 => ?_)
     ·
      exact Mach.ok_next (M := ZD L0 L1 N) (cd := 1000000) (cm := 0) (y := (.h2m0 (v2) ((v3 + 1)) (v4) (v5) (v6) (v7) (v8) (v9) : Zr)) (fu := 4000) (orc := (Zm [(0, true)] [(0, (((v3 + 1) : Nat) : Int))] [(0, v3)] [(0, [.i (L1.getD v3 R_iiiiiiAi.z).a0, .i (L1.getD v3 R_iiiiiiAi.z).a1, .i (L1.getD v3 R_iiiiiiAi.z).a2, .i (L1.getD v3 R_iiiiiiAi.z).a3, .i (L1.getD v3 R_iiiiiiAi.z).a4, .i (L1.getD v3 R_iiiiiiAi.z).a5, (mc E_ii (L1.getD v3 R_iiiiiiAi.z).a6), .i (L1.getD v3 R_iiiiiiAi.z).a7])] [(0, (Zbb (L0) ((L1.getD v3 R_iiiiiiAi.z).a0) ((L1.getD v3 R_iiiiiiAi.z).a1) ((L1.getD v3 R_iiiiiiAi.z).a2) ((L1.getD v3 R_iiiiiiAi.z).a3) ((L1.getD v3 R_iiiiiiAi.z).a4) ((L1.getD v3 R_iiiiiiAi.z).a5) ((L1.getD v3 R_iiiiiiAi.z).a6) ((L1.getD v3 R_iiiiiiAi.z).a7)  y2_0 false  2))])) (live := [0, 1]) (tv := fun _ => [some (ms E_iiiiii L0), some (vs 0 0 L1.length L1.length), some (vi (v2 : Int)), some (vp 1 0), some (vi (((v3 + 1) : Nat) : Int))]) (bl := [some (.cells (Zd E_iiiiiiAi L1) 31), some (.cells [vi v4, vi v5, vi v6, vi v7, vi v8, vi v9] 41)]) (ob := [((IntKind.i64.wrap ((v3 : Int) + (1 : Int))) == (((v3 + 1) : Nat) : Int), true), (dP (ZaK #[ms E_iiiiii L0, Value.agg #[vi (L1.getD v3 R_iiiiiiAi.z).a0, vi (L1.getD v3 R_iiiiiiAi.z).a1, vi (L1.getD v3 R_iiiiiiAi.z).a2, vi (L1.getD v3 R_iiiiiiAi.z).a3, vi (L1.getD v3 R_iiiiiiAi.z).a4, vi (L1.getD v3 R_iiiiiiAi.z).a5, ms E_ii (L1.getD v3 R_iiiiiiAi.z).a6, vi (L1.getD v3 R_iiiiiiAi.z).a7]] (L0) ((L1.getD v3 R_iiiiiiAi.z).a0) ((L1.getD v3 R_iiiiiiAi.z).a1) ((L1.getD v3 R_iiiiiiAi.z).a2) ((L1.getD v3 R_iiiiiiAi.z).a3) ((L1.getD v3 R_iiiiiiAi.z).a4) ((L1.getD v3 R_iiiiiiAi.z).a5) ((L1.getD v3 R_iiiiiiAi.z).a6) ((L1.getD v3 R_iiiiiiAi.z).a7)  y2_0 false  2), true), (ZO (Zv 8 (List.drop (0 + (v3 * 8)) (Zd E_iiiiiiAi L1))) [.i (L1.getD v3 R_iiiiiiAi.z).a0, .i (L1.getD v3 R_iiiiiiAi.z).a1, .i (L1.getD v3 R_iiiiiiAi.z).a2, .i (L1.getD v3 R_iiiiiiAi.z).a3, .i (L1.getD v3 R_iiiiiiAi.z).a4, .i (L1.getD v3 R_iiiiiiAi.z).a5, (mc E_ii (L1.getD v3 R_iiiiiiAi.z).a6), .i (L1.getD v3 R_iiiiiiAi.z).a7], true), (Nat.blt v3 L1.length, true), ((v3 : Int) == Int.ofNat v3, true), ((decide ((v3 : Int) < (L1.length : Int))), true)]) rfl (show 2 ∈ Zl (ZaH 2) from by decide +kernel) (fun gv => by kernel_rfl) (Zb (beq_iff_eq.2 ((wrap_i64 ltA).trans (by first | rfl | omega))) <| Zb (Zw (Zbc #[ms E_iiiiii L0, Value.agg #[vi (L1.getD v3 R_iiiiiiAi.z).a0, vi (L1.getD v3 R_iiiiiiAi.z).a1, vi (L1.getD v3 R_iiiiiiAi.z).a2, vi (L1.getD v3 R_iiiiiiAi.z).a3, vi (L1.getD v3 R_iiiiiiAi.z).a4, vi (L1.getD v3 R_iiiiiiAi.z).a5, ms E_ii (L1.getD v3 R_iiiiiiAi.z).a6, vi (L1.getD v3 R_iiiiiiAi.z).a7]] (L0) ((L1.getD v3 R_iiiiiiAi.z).a0) ((L1.getD v3 R_iiiiiiAi.z).a1) ((L1.getD v3 R_iiiiiiAi.z).a2) ((L1.getD v3 R_iiiiiiAi.z).a3) ((L1.getD v3 R_iiiiiiAi.z).a4) ((L1.getD v3 R_iiiiiiAi.z).a5) ((L1.getD v3 R_iiiiiiAi.z).a6) ((L1.getD v3 R_iiiiiiAi.z).a7)  y2_0 false N c2  2 rfl (by decide) (by decide))) <| Zb (Zy (E := E_iiiiiiAi) (L := L1) (i := v3) (q := 0) (by omega) (show (0 + (v3 * 8)) = v3 * 8 + 0 from by omega) (show 0 + 8 ≤ 8 from by decide) rfl rfl) <| oB <| oI <| oY Zf) rfl (by decide) (by rfl) (fun _ => ⟨rr, ⟨rr, ⟨rr, ⟨rr, ⟨rr, trivial⟩⟩⟩⟩⟩) ⟨(Zh (E := E_iiiiiiAi) (α := R_iiiiiiAi) _ L1 _), ⟨⟨rfl, ⟨[], by rfl⟩, by rfl⟩, trivial⟩⟩
     ·
      exact Mach.ok_none
  ·
   refine Mach.ok_ite (fun g2 => ?_) (fun g2 => ?_)
   ·
    exact Mach.ok_next (M := ZD L0 L1 N) (cd := 1000000) (cm := 0) (y := (.h1m0 ((v2 + 1)) : Zr)) (fu := 4000) (orc := (Zm [(0, false)] [(0, (((v2 + 1) : Nat) : Int))] [] [] [])) (live := [0]) (tv := fun _ => [some (ms E_iiiiii L0), some (vs 0 0 L1.length L1.length), some (vi (((v2 + 1) : Nat) : Int))]) (bl := [some (.cells (Zd E_iiiiiiAi L1) 31)]) (ob := [((IntKind.i64.wrap ((v2 : Int) + (1 : Int))) == (((v2 + 1) : Nat) : Int), true), ((decide ((v3 : Int) < (L1.length : Int))), false)]) rfl (show 1 ∈ Zl (ZaH 2) from by decide +kernel) (fun gv => by kernel_rfl) (Zb (beq_iff_eq.2 ((wrap_i64 ltA).trans (by first | rfl | omega))) <| oN Zf) rfl (by decide) (by rfl) (fun _ => ⟨rr, ⟨rr, ⟨rr, trivial⟩⟩⟩) ⟨(Zh (E := E_iiiiiiAi) (α := R_iiiiiiAi) _ L1 _), trivial⟩
   ·
    exact Mach.ok_none
 ·
  exact Mach.ok_none

theorem Zjb (L0 : List RB) (L1 : List R_iiiiiiAi) (N : Nat) : (ZD L0 L1 N).Enter Tryz.prog Zx #[ms E_iiiiii L0, vs 0 0 L1.length L1.length] (ZdG L0 L1 N) := by
 unfold ZdG
 exact Mach.en_head (bK := Za2 1) (M := ZD L0 L1 N) (cd := 1000000) (cm := 0) (y := (.h1m0 (0) : Zr)) (fu := 4000) (orc := (Zm [] [] [] [] [])) (live := [0]) (tv := [some (ms E_iiiiii L0), some (vs 0 0 L1.length L1.length), some (vq)]) (bl := [some (.cells (Zd E_iiiiiiAi L1) 31)]) (ob := []) rfl rfl (show Zl (Za2 1).2 = [] from rfl) (by kernel_rfl) Zf rfl (by decide) (by rfl) ⟨rr, ⟨rr, ⟨⟨Eq.trans (show (vi ((0 : Nat) : Int) : Value) = vq from (congrArg (Value.int .i64) (by first | rfl | omega))) (by rfl), by rfl⟩, trivial⟩⟩⟩ ⟨(Zh (E := E_iiiiiiAi) (α := R_iiiiiiAi) _ L1 _), trivial⟩

theorem ZhG (L0 : List RB) (L1 : List R_iiiiiiAi) (N : Nat) (r : Zan) (h : Zd3 L0 L1 N = some r) : LSpec Tryz.prog 8 #[ms E_iiiiii L0, vs 0 0 L1.length L1.length] [.cells (Zd E_iiiiiiAi L1) 31] (Zgz L0 L1 r) (ZfO L0 L1 r) :=
 Mach.spec ZcN (ZD L0 L1 N) Tryz.func8 (by kernel_rfl) (by kernel_rfl) (fun x => by cases x <;> exact ZaQ _ rfl) (fun r => by cases r <;> exact ZaQ _ rfl) (fun x => by
  cases x with
  | h1m0 _ => exact fun _ => (show ¬ (1 ∈ Zl (Za2 1).2) from by decide +kernel)
  | h2m0 _ _ _ _ _ _ _ _ => exact fun _ => (show ¬ (2 ∈ Zl (Za2 2).2) from by decide +kernel)
  ) (fun x => (show (ZD L0 L1 N).Ok Tryz.prog Zx x (ZE L0 L1 N x) from by
  cases x with
  | h1m0 v2 => exact Zhp L0 L1 v2 N
  | h2m0 v2 v3 v4 v5 v6 v7 v8 v9 => exact Zhq L0 L1 v2 v3 v4 v5 v6 v7 v8 v9 N
  )) (Zjb L0 L1 N) (n := N) h

noncomputable def ZfQ (L0 : List RB) (L1 : List R_iiiiiiAi) (w1 : Int) (k0 n : Nat) : Zcn := .call [(k0, .cells (Zd E_iiiiiiAi L1) 31)] (vi w1) [] 0
def ZdH (A : Array Value) (L0 : List RB) (L1 : List R_iiiiiiAi) (w1 : Int) (k0 n : Nat) : Prop := Zam Tryz.prog 8 A [(k0, .cells (Zd E_iiiiiiAi L1) 31)] (vi w1) [] n 0

theorem ZfR (A : Array Value) (L0 : List RB) (L1 : List R_iiiiiiAi) (w1 : Int) (N : Nat) (h : Zd3 L0 L1 N = some (.r0 w1)) (k0 n : Nat) (hA : A = #[ms E_iiiiii L0, vs k0 0 L1.length L1.length]) (hnd : ([k0] : List Nat).Nodup) (hlt : ∀ k ∈ ([k0] : List Nat), k < n) : ZdH A L0 L1 w1 k0 n :=
 Zb5 hA (LSpec.callL (show LSpec Tryz.prog 8 #[ms E_iiiiii L0, vs 0 0 L1.length L1.length] [.cells (Zd E_iiiiiiAi L1) 31] (vi w1) [some (.cells (Zd E_iiiiiiAi L1) 31)] from ZhG L0 L1 N _ h) [k0] n [] rfl hnd hlt (show 1 ≤ 1 from by decide) (show ∀ j ∈ ([] : List Nat), j < 1 from by decide) (by rfl) ⟨(Zbp _ _ _), trivial⟩ (by rfl) ⟨(Zbp _ _ _), trivial⟩ ⟨.inr rfl, trivial⟩ rfl rfl rfl (Zat (ZbT rfl (ZcM _ _ _)) rfl) rfl)

noncomputable def Zen (L0 : List RB) (L1 : List R_iiiiiiAi) : Z2 → Value
 | .r0 w0 => Value.bool w0
noncomputable def Zea (L0 : List RB) (L1 : List R_iiiiiiAi) : Z2 → List (Option AObj)
 | .r0 w0 => []

def Zhr : Z0 → Nat
 | .h1m0 => 1
 | .h1m1 v1 v2 => 1
noncomputable def ZhH (L0 : List RB) (L1 : List R_iiiiiiAi) : Z0 → List (Nat × Value)
 | .h1m0 => [(0, ms E_iiiiii (L0.take ((if (200 : Int) < (L0.length : Int) then (200 : Int) else (L0.length : Int))).toNat)), (1, vn), (5, vq)]
 | .h1m1 v1 v2 => [(0, ms E_iiiiii (L0.take ((if (200 : Int) < (L0.length : Int) then (200 : Int) else (L0.length : Int))).toNat)), (1, vs 0 0 v1.length v1.length), (5, vi (v2 : Int))]
noncomputable def ZhI (L0 : List RB) (L1 : List R_iiiiiiAi) : Z0 → List (Option AObj)
 | .h1m0 => []
 | .h1m1 v1 v2 => [some (.cells (Zd E_iiiiiiAi v1) 31)]

noncomputable def Zav : Nat → Code × List Zaw
 | 1 => ZaP [1, 1, 0, 1, 3] (Zb9 Tryz.f3) []
 | _ => (.skip, [])
def Zeb : Nat → Bool
 | 1 => true
 | _ => true
noncomputable def ZhJ (i : Nat) : List Zaw := match Zeb i with | true => .rnd i :: (Zav i).2 | false => (Zav i).2

noncomputable def ZF (L0 : List RB) (L1 : List R_iiiiiiAi) (N : Nat) : Mach := ⟨Tryz.f3, [], Z0, Z2, Za1 L0 L1 N, Zhr, Zav, Zeb, ZhH L0 L1, ZhI L0 L1, Zen L0 L1, Zea L0 L1⟩

theorem Zfs (L0 : List RB) (L1 : List R_iiiiiiAi) (N : Nat) : (ZF L0 L1 N).Ok Tryz.prog Zx (.h1m0 : Z0) (Za1 L0 L1 N (.h1m0 : Z0)) := by
 show (ZF L0 L1 N).Ok Tryz.prog Zx (.h1m0 : Z0) (Zba L0 L1 N)
 unfold Zba
 refine Mach.ok_bind (fun z0 c0 => ?_)
 cases z0 with
 | r0 =>
  refine Mach.ok_bind (fun z1 c1 => ?_)
  cases z1 with
  | r0 =>
   exact Mach.ok_fin (M := ZF L0 L1 N) (cd := 1000000) (cm := 0) (r := (.r0 (true) : Z2)) (fu := 4000) (orc := (Zm [] [] [] [] [(0, (ZjX ((L0.take ((if (200 : Int) < (L0.length : Int) then (200 : Int) else (L0.length : Int))).toNat))    0)), (1, (Zln ((L0.take ((if (200 : Int) < (L0.length : Int) then (200 : Int) else (L0.length : Int))).toNat))    0))])) (live := []) (u := vT) (bl := []) (ob := [(dP (Zhj #[ms E_iiiiii (L0.take ((if (200 : Int) < (L0.length : Int) then (200 : Int) else (L0.length : Int))).toNat), vn] ((L0.take ((if (200 : Int) < (L0.length : Int) then (200 : Int) else (L0.length : Int))).toNat))    0), true), (dP (Zgx #[ms E_iiiiii (L0.take ((if (200 : Int) < (L0.length : Int) then (200 : Int) else (L0.length : Int))).toNat), vn] ((L0.take ((if (200 : Int) < (L0.length : Int) then (200 : Int) else (L0.length : Int))).toNat))    0), true)]) (fun gv => by kernel_rfl) (Zb (Zw (Zlo #[ms E_iiiiii (L0.take ((if (200 : Int) < (L0.length : Int) then (200 : Int) else (L0.length : Int))).toNat), vn] ((L0.take ((if (200 : Int) < (L0.length : Int) then (200 : Int) else (L0.length : Int))).toNat))   N c1  0 rfl (by decide) (by decide))) <| Zb (Zw (ZjY #[ms E_iiiiii (L0.take ((if (200 : Int) < (L0.length : Int) then (200 : Int) else (L0.length : Int))).toNat), vn] ((L0.take ((if (200 : Int) < (L0.length : Int) then (200 : Int) else (L0.length : Int))).toNat))   N c0  0 rfl (by decide) (by decide))) Zf) rfl (by decide) (by rfl) rr trivial

theorem Zft (L0 : List RB) (L1 v1 : List R_iiiiiiAi) (v2 N : Nat) : (ZF L0 L1 N).Ok Tryz.prog Zx (.h1m1 v1 v2 : Z0) (Za1 L0 L1 N (.h1m1 v1 v2 : Z0)) := by
 show (ZF L0 L1 N).Ok Tryz.prog Zx (.h1m1 v1 v2 : Z0) (Zax L0 L1 N v1 v2)
 unfold Zax
 refine Mach.ok_ite (fun g0 => ?_) (fun g0 => ?_)
 ·
  refine Mach.ok_bind (fun z1 c1 => ?_)
  cases z1 with
  | r0 y1_0 y1_1 =>
   refine Mach.ok_bind (fun z2 c2 => ?_)
   cases z2 with
   | r0 y2_0 y2_1 =>
    refine Mach.ok_ite (fun g3 => ?_) (fun g3 => ?_)
    ·
     exact Mach.ok_fin (M := ZF L0 L1 N) (cd := 1000000) (cm := 0) (r := (.r0 (false) : Z2)) (fu := 4000) (orc := (Zm [(0, true), (1, true)] [] [(0, v2), (1, v2)] [(0, [.i (v1.getD v2 R_iiiiiiAi.z).a0, .i (v1.getD v2 R_iiiiiiAi.z).a1, .i (v1.getD v2 R_iiiiiiAi.z).a2, .i (v1.getD v2 R_iiiiiiAi.z).a3, .i (v1.getD v2 R_iiiiiiAi.z).a4, .i (v1.getD v2 R_iiiiiiAi.z).a5, (mc E_ii (v1.getD v2 R_iiiiiiAi.z).a6), .i (v1.getD v2 R_iiiiiiAi.z).a7]), (1, [.i (v1.getD v2 R_iiiiiiAi.z).a0, .i (v1.getD v2 R_iiiiiiAi.z).a1, .i (v1.getD v2 R_iiiiiiAi.z).a2, .i (v1.getD v2 R_iiiiiiAi.z).a3, .i (v1.getD v2 R_iiiiiiAi.z).a4, .i (v1.getD v2 R_iiiiiiAi.z).a5, (mc E_ii (v1.getD v2 R_iiiiiiAi.z).a6), .i (v1.getD v2 R_iiiiiiAi.z).a7])] [(0, (Zbh ((L0.take ((if (200 : Int) < (L0.length : Int) then (200 : Int) else (L0.length : Int))).toNat)) ((v1.getD v2 R_iiiiiiAi.z).a0) ((v1.getD v2 R_iiiiiiAi.z).a1) ((v1.getD v2 R_iiiiiiAi.z).a2) ((v1.getD v2 R_iiiiiiAi.z).a3) ((v1.getD v2 R_iiiiiiAi.z).a4) ((v1.getD v2 R_iiiiiiAi.z).a5) ((v1.getD v2 R_iiiiiiAi.z).a6) ((v1.getD v2 R_iiiiiiAi.z).a7)  y1_0 y1_1  1)), (1, (Zbb ((L0.take ((if (200 : Int) < (L0.length : Int) then (200 : Int) else (L0.length : Int))).toNat)) ((v1.getD v2 R_iiiiiiAi.z).a0) ((v1.getD v2 R_iiiiiiAi.z).a1) ((v1.getD v2 R_iiiiiiAi.z).a2) ((v1.getD v2 R_iiiiiiAi.z).a3) ((v1.getD v2 R_iiiiiiAi.z).a4) ((v1.getD v2 R_iiiiiiAi.z).a5) ((v1.getD v2 R_iiiiiiAi.z).a6) ((v1.getD v2 R_iiiiiiAi.z).a7)  y2_0 y2_1  1))])) (live := []) (u := vf) (bl := []) (ob := [((y1_0 != y2_0), true), (dP (ZaK #[ms E_iiiiii (L0.take ((if (200 : Int) < (L0.length : Int) then (200 : Int) else (L0.length : Int))).toNat), Value.agg #[vi (v1.getD v2 R_iiiiiiAi.z).a0, vi (v1.getD v2 R_iiiiiiAi.z).a1, vi (v1.getD v2 R_iiiiiiAi.z).a2, vi (v1.getD v2 R_iiiiiiAi.z).a3, vi (v1.getD v2 R_iiiiiiAi.z).a4, vi (v1.getD v2 R_iiiiiiAi.z).a5, ms E_ii (v1.getD v2 R_iiiiiiAi.z).a6, vi (v1.getD v2 R_iiiiiiAi.z).a7]] ((L0.take ((if (200 : Int) < (L0.length : Int) then (200 : Int) else (L0.length : Int))).toNat)) ((v1.getD v2 R_iiiiiiAi.z).a0) ((v1.getD v2 R_iiiiiiAi.z).a1) ((v1.getD v2 R_iiiiiiAi.z).a2) ((v1.getD v2 R_iiiiiiAi.z).a3) ((v1.getD v2 R_iiiiiiAi.z).a4) ((v1.getD v2 R_iiiiiiAi.z).a5) ((v1.getD v2 R_iiiiiiAi.z).a6) ((v1.getD v2 R_iiiiiiAi.z).a7)  y2_0 y2_1  1), true), (ZO (Zv 8 (List.drop (0 + (v2 * 8)) (Zd E_iiiiiiAi v1))) [.i (v1.getD v2 R_iiiiiiAi.z).a0, .i (v1.getD v2 R_iiiiiiAi.z).a1, .i (v1.getD v2 R_iiiiiiAi.z).a2, .i (v1.getD v2 R_iiiiiiAi.z).a3, .i (v1.getD v2 R_iiiiiiAi.z).a4, .i (v1.getD v2 R_iiiiiiAi.z).a5, (mc E_ii (v1.getD v2 R_iiiiiiAi.z).a6), .i (v1.getD v2 R_iiiiiiAi.z).a7], true), (Nat.blt v2 v1.length, true), ((v2 : Int) == Int.ofNat v2, true), (dP (ZaO #[ms E_iiiiii (L0.take ((if (200 : Int) < (L0.length : Int) then (200 : Int) else (L0.length : Int))).toNat), Value.agg #[vi (v1.getD v2 R_iiiiiiAi.z).a0, vi (v1.getD v2 R_iiiiiiAi.z).a1, vi (v1.getD v2 R_iiiiiiAi.z).a2, vi (v1.getD v2 R_iiiiiiAi.z).a3, vi (v1.getD v2 R_iiiiiiAi.z).a4, vi (v1.getD v2 R_iiiiiiAi.z).a5, ms E_ii (v1.getD v2 R_iiiiiiAi.z).a6, vi (v1.getD v2 R_iiiiiiAi.z).a7]] ((L0.take ((if (200 : Int) < (L0.length : Int) then (200 : Int) else (L0.length : Int))).toNat)) ((v1.getD v2 R_iiiiiiAi.z).a0) ((v1.getD v2 R_iiiiiiAi.z).a1) ((v1.getD v2 R_iiiiiiAi.z).a2) ((v1.getD v2 R_iiiiiiAi.z).a3) ((v1.getD v2 R_iiiiiiAi.z).a4) ((v1.getD v2 R_iiiiiiAi.z).a5) ((v1.getD v2 R_iiiiiiAi.z).a6) ((v1.getD v2 R_iiiiiiAi.z).a7)  y1_0 y1_1  1), true), (ZO (Zv 8 (List.drop (0 + (v2 * 8)) (Zd E_iiiiiiAi v1))) [.i (v1.getD v2 R_iiiiiiAi.z).a0, .i (v1.getD v2 R_iiiiiiAi.z).a1, .i (v1.getD v2 R_iiiiiiAi.z).a2, .i (v1.getD v2 R_iiiiiiAi.z).a3, .i (v1.getD v2 R_iiiiiiAi.z).a4, .i (v1.getD v2 R_iiiiiiAi.z).a5, (mc E_ii (v1.getD v2 R_iiiiiiAi.z).a6), .i (v1.getD v2 R_iiiiiiAi.z).a7], true), (Nat.blt v2 v1.length, true), ((v2 : Int) == Int.ofNat v2, true), ((decide ((v2 : Int) < (v1.length : Int))), true)]) (fun gv => by kernel_rfl) (oD <| Zb (Zw (Zbc #[ms E_iiiiii (L0.take ((if (200 : Int) < (L0.length : Int) then (200 : Int) else (L0.length : Int))).toNat), Value.agg #[vi (v1.getD v2 R_iiiiiiAi.z).a0, vi (v1.getD v2 R_iiiiiiAi.z).a1, vi (v1.getD v2 R_iiiiiiAi.z).a2, vi (v1.getD v2 R_iiiiiiAi.z).a3, vi (v1.getD v2 R_iiiiiiAi.z).a4, vi (v1.getD v2 R_iiiiiiAi.z).a5, ms E_ii (v1.getD v2 R_iiiiiiAi.z).a6, vi (v1.getD v2 R_iiiiiiAi.z).a7]] ((L0.take ((if (200 : Int) < (L0.length : Int) then (200 : Int) else (L0.length : Int))).toNat)) ((v1.getD v2 R_iiiiiiAi.z).a0) ((v1.getD v2 R_iiiiiiAi.z).a1) ((v1.getD v2 R_iiiiiiAi.z).a2) ((v1.getD v2 R_iiiiiiAi.z).a3) ((v1.getD v2 R_iiiiiiAi.z).a4) ((v1.getD v2 R_iiiiiiAi.z).a5) ((v1.getD v2 R_iiiiiiAi.z).a6) ((v1.getD v2 R_iiiiiiAi.z).a7)  y2_0 y2_1 N c2  1 rfl (by decide) (by decide))) <| Zb (Zy (E := E_iiiiiiAi) (L := v1) (i := v2) (q := 0) (by omega) (show (0 + (v2 * 8)) = v2 * 8 + 0 from by omega) (show 0 + 8 ≤ 8 from by decide) rfl rfl) <| oB <| oI <| Zb (Zw (Zbi #[ms E_iiiiii (L0.take ((if (200 : Int) < (L0.length : Int) then (200 : Int) else (L0.length : Int))).toNat), Value.agg #[vi (v1.getD v2 R_iiiiiiAi.z).a0, vi (v1.getD v2 R_iiiiiiAi.z).a1, vi (v1.getD v2 R_iiiiiiAi.z).a2, vi (v1.getD v2 R_iiiiiiAi.z).a3, vi (v1.getD v2 R_iiiiiiAi.z).a4, vi (v1.getD v2 R_iiiiiiAi.z).a5, ms E_ii (v1.getD v2 R_iiiiiiAi.z).a6, vi (v1.getD v2 R_iiiiiiAi.z).a7]] ((L0.take ((if (200 : Int) < (L0.length : Int) then (200 : Int) else (L0.length : Int))).toNat)) ((v1.getD v2 R_iiiiiiAi.z).a0) ((v1.getD v2 R_iiiiiiAi.z).a1) ((v1.getD v2 R_iiiiiiAi.z).a2) ((v1.getD v2 R_iiiiiiAi.z).a3) ((v1.getD v2 R_iiiiiiAi.z).a4) ((v1.getD v2 R_iiiiiiAi.z).a5) ((v1.getD v2 R_iiiiiiAi.z).a6) ((v1.getD v2 R_iiiiiiAi.z).a7)  y1_0 y1_1 N c1  1 rfl (by decide) (by decide))) <| Zb (Zy (E := E_iiiiiiAi) (L := v1) (i := v2) (q := 0) (by omega) (show (0 + (v2 * 8)) = v2 * 8 + 0 from by omega) (show 0 + 8 ≤ 8 from by decide) rfl rfl) <| oB <| oI <| oY Zf) rfl (by decide) (by rfl) rr trivial
    ·
     refine Mach.ok_ite (fun g4 => ?_) (fun g4 => ?_)
     ·
      exact Mach.ok_fin (M := ZF L0 L1 N) (cd := 1000000) (cm := 0) (r := (.r0 (false) : Z2)) (fu := 4000) (orc := (Zm [(0, true), (1, false), (2, true)] [] [(0, v2), (1, v2)] [(0, [.i (v1.getD v2 R_iiiiiiAi.z).a0, .i (v1.getD v2 R_iiiiiiAi.z).a1, .i (v1.getD v2 R_iiiiiiAi.z).a2, .i (v1.getD v2 R_iiiiiiAi.z).a3, .i (v1.getD v2 R_iiiiiiAi.z).a4, .i (v1.getD v2 R_iiiiiiAi.z).a5, (mc E_ii (v1.getD v2 R_iiiiiiAi.z).a6), .i (v1.getD v2 R_iiiiiiAi.z).a7]), (1, [.i (v1.getD v2 R_iiiiiiAi.z).a0, .i (v1.getD v2 R_iiiiiiAi.z).a1, .i (v1.getD v2 R_iiiiiiAi.z).a2, .i (v1.getD v2 R_iiiiiiAi.z).a3, .i (v1.getD v2 R_iiiiiiAi.z).a4, .i (v1.getD v2 R_iiiiiiAi.z).a5, (mc E_ii (v1.getD v2 R_iiiiiiAi.z).a6), .i (v1.getD v2 R_iiiiiiAi.z).a7])] [(0, (Zbh ((L0.take ((if (200 : Int) < (L0.length : Int) then (200 : Int) else (L0.length : Int))).toNat)) ((v1.getD v2 R_iiiiiiAi.z).a0) ((v1.getD v2 R_iiiiiiAi.z).a1) ((v1.getD v2 R_iiiiiiAi.z).a2) ((v1.getD v2 R_iiiiiiAi.z).a3) ((v1.getD v2 R_iiiiiiAi.z).a4) ((v1.getD v2 R_iiiiiiAi.z).a5) ((v1.getD v2 R_iiiiiiAi.z).a6) ((v1.getD v2 R_iiiiiiAi.z).a7)  y1_0 y1_1  1)), (1, (Zbb ((L0.take ((if (200 : Int) < (L0.length : Int) then (200 : Int) else (L0.length : Int))).toNat)) ((v1.getD v2 R_iiiiiiAi.z).a0) ((v1.getD v2 R_iiiiiiAi.z).a1) ((v1.getD v2 R_iiiiiiAi.z).a2) ((v1.getD v2 R_iiiiiiAi.z).a3) ((v1.getD v2 R_iiiiiiAi.z).a4) ((v1.getD v2 R_iiiiiiAi.z).a5) ((v1.getD v2 R_iiiiiiAi.z).a6) ((v1.getD v2 R_iiiiiiAi.z).a7)  y2_0 y2_1  1))])) (live := []) (u := vf) (bl := []) (ob := [((!(y1_1 == y2_1)), true), ((y1_0 != y2_0), false), (dP (ZaK #[ms E_iiiiii (L0.take ((if (200 : Int) < (L0.length : Int) then (200 : Int) else (L0.length : Int))).toNat), Value.agg #[vi (v1.getD v2 R_iiiiiiAi.z).a0, vi (v1.getD v2 R_iiiiiiAi.z).a1, vi (v1.getD v2 R_iiiiiiAi.z).a2, vi (v1.getD v2 R_iiiiiiAi.z).a3, vi (v1.getD v2 R_iiiiiiAi.z).a4, vi (v1.getD v2 R_iiiiiiAi.z).a5, ms E_ii (v1.getD v2 R_iiiiiiAi.z).a6, vi (v1.getD v2 R_iiiiiiAi.z).a7]] ((L0.take ((if (200 : Int) < (L0.length : Int) then (200 : Int) else (L0.length : Int))).toNat)) ((v1.getD v2 R_iiiiiiAi.z).a0) ((v1.getD v2 R_iiiiiiAi.z).a1) ((v1.getD v2 R_iiiiiiAi.z).a2) ((v1.getD v2 R_iiiiiiAi.z).a3) ((v1.getD v2 R_iiiiiiAi.z).a4) ((v1.getD v2 R_iiiiiiAi.z).a5) ((v1.getD v2 R_iiiiiiAi.z).a6) ((v1.getD v2 R_iiiiiiAi.z).a7)  y2_0 y2_1  1), true), (ZO (Zv 8 (List.drop (0 + (v2 * 8)) (Zd E_iiiiiiAi v1))) [.i (v1.getD v2 R_iiiiiiAi.z).a0, .i (v1.getD v2 R_iiiiiiAi.z).a1, .i (v1.getD v2 R_iiiiiiAi.z).a2, .i (v1.getD v2 R_iiiiiiAi.z).a3, .i (v1.getD v2 R_iiiiiiAi.z).a4, .i (v1.getD v2 R_iiiiiiAi.z).a5, (mc E_ii (v1.getD v2 R_iiiiiiAi.z).a6), .i (v1.getD v2 R_iiiiiiAi.z).a7], true), (Nat.blt v2 v1.length, true), ((v2 : Int) == Int.ofNat v2, true), (dP (ZaO #[ms E_iiiiii (L0.take ((if (200 : Int) < (L0.length : Int) then (200 : Int) else (L0.length : Int))).toNat), Value.agg #[vi (v1.getD v2 R_iiiiiiAi.z).a0, vi (v1.getD v2 R_iiiiiiAi.z).a1, vi (v1.getD v2 R_iiiiiiAi.z).a2, vi (v1.getD v2 R_iiiiiiAi.z).a3, vi (v1.getD v2 R_iiiiiiAi.z).a4, vi (v1.getD v2 R_iiiiiiAi.z).a5, ms E_ii (v1.getD v2 R_iiiiiiAi.z).a6, vi (v1.getD v2 R_iiiiiiAi.z).a7]] ((L0.take ((if (200 : Int) < (L0.length : Int) then (200 : Int) else (L0.length : Int))).toNat)) ((v1.getD v2 R_iiiiiiAi.z).a0) ((v1.getD v2 R_iiiiiiAi.z).a1) ((v1.getD v2 R_iiiiiiAi.z).a2) ((v1.getD v2 R_iiiiiiAi.z).a3) ((v1.getD v2 R_iiiiiiAi.z).a4) ((v1.getD v2 R_iiiiiiAi.z).a5) ((v1.getD v2 R_iiiiiiAi.z).a6) ((v1.getD v2 R_iiiiiiAi.z).a7)  y1_0 y1_1  1), true), (ZO (Zv 8 (List.drop (0 + (v2 * 8)) (Zd E_iiiiiiAi v1))) [.i (v1.getD v2 R_iiiiiiAi.z).a0, .i (v1.getD v2 R_iiiiiiAi.z).a1, .i (v1.getD v2 R_iiiiiiAi.z).a2, .i (v1.getD v2 R_iiiiiiAi.z).a3, .i (v1.getD v2 R_iiiiiiAi.z).a4, .i (v1.getD v2 R_iiiiiiAi.z).a5, (mc E_ii (v1.getD v2 R_iiiiiiAi.z).a6), .i (v1.getD v2 R_iiiiiiAi.z).a7], true), (Nat.blt v2 v1.length, true), ((v2 : Int) == Int.ofNat v2, true), ((decide ((v2 : Int) < (v1.length : Int))), true)]) (fun gv => by kernel_rfl) (Zb (neB_t (by first | assumption | rfl | simp_all)) <| oE <| Zb (Zw (Zbc #[ms E_iiiiii (L0.take ((if (200 : Int) < (L0.length : Int) then (200 : Int) else (L0.length : Int))).toNat), Value.agg #[vi (v1.getD v2 R_iiiiiiAi.z).a0, vi (v1.getD v2 R_iiiiiiAi.z).a1, vi (v1.getD v2 R_iiiiiiAi.z).a2, vi (v1.getD v2 R_iiiiiiAi.z).a3, vi (v1.getD v2 R_iiiiiiAi.z).a4, vi (v1.getD v2 R_iiiiiiAi.z).a5, ms E_ii (v1.getD v2 R_iiiiiiAi.z).a6, vi (v1.getD v2 R_iiiiiiAi.z).a7]] ((L0.take ((if (200 : Int) < (L0.length : Int) then (200 : Int) else (L0.length : Int))).toNat)) ((v1.getD v2 R_iiiiiiAi.z).a0) ((v1.getD v2 R_iiiiiiAi.z).a1) ((v1.getD v2 R_iiiiiiAi.z).a2) ((v1.getD v2 R_iiiiiiAi.z).a3) ((v1.getD v2 R_iiiiiiAi.z).a4) ((v1.getD v2 R_iiiiiiAi.z).a5) ((v1.getD v2 R_iiiiiiAi.z).a6) ((v1.getD v2 R_iiiiiiAi.z).a7)  y2_0 y2_1 N c2  1 rfl (by decide) (by decide))) <| Zb (Zy (E := E_iiiiiiAi) (L := v1) (i := v2) (q := 0) (by omega) (show (0 + (v2 * 8)) = v2 * 8 + 0 from by omega) (show 0 + 8 ≤ 8 from by decide) rfl rfl) <| oB <| oI <| Zb (Zw (Zbi #[ms E_iiiiii (L0.take ((if (200 : Int) < (L0.length : Int) then (200 : Int) else (L0.length : Int))).toNat), Value.agg #[vi (v1.getD v2 R_iiiiiiAi.z).a0, vi (v1.getD v2 R_iiiiiiAi.z).a1, vi (v1.getD v2 R_iiiiiiAi.z).a2, vi (v1.getD v2 R_iiiiiiAi.z).a3, vi (v1.getD v2 R_iiiiiiAi.z).a4, vi (v1.getD v2 R_iiiiiiAi.z).a5, ms E_ii (v1.getD v2 R_iiiiiiAi.z).a6, vi (v1.getD v2 R_iiiiiiAi.z).a7]] ((L0.take ((if (200 : Int) < (L0.length : Int) then (200 : Int) else (L0.length : Int))).toNat)) ((v1.getD v2 R_iiiiiiAi.z).a0) ((v1.getD v2 R_iiiiiiAi.z).a1) ((v1.getD v2 R_iiiiiiAi.z).a2) ((v1.getD v2 R_iiiiiiAi.z).a3) ((v1.getD v2 R_iiiiiiAi.z).a4) ((v1.getD v2 R_iiiiiiAi.z).a5) ((v1.getD v2 R_iiiiiiAi.z).a6) ((v1.getD v2 R_iiiiiiAi.z).a7)  y1_0 y1_1 N c1  1 rfl (by decide) (by decide))) <| Zb (Zy (E := E_iiiiiiAi) (L := v1) (i := v2) (q := 0) (by omega) (show (0 + (v2 * 8)) = v2 * 8 + 0 from by omega) (show 0 + 8 ≤ 8 from by decide) rfl rfl) <| oB <| oI <| oY Zf) rfl (by decide) (by rfl) rr trivial
     ·
      refine Mach.ok_ite (fun g5 => ?_) (fun g5 => ?_)
      ·
       exact Mach.ok_next (M := ZF L0 L1 N) (cd := 1000000) (cm := 0) (y := (.h1m1 (v1) ((v2 + 1)) : Z0)) (fu := 4000) (orc := (Zm [(0, true), (1, false), (2, false)] [(0, (((v2 + 1) : Nat) : Int))] [(0, v2), (1, v2)] [(0, [.i (v1.getD v2 R_iiiiiiAi.z).a0, .i (v1.getD v2 R_iiiiiiAi.z).a1, .i (v1.getD v2 R_iiiiiiAi.z).a2, .i (v1.getD v2 R_iiiiiiAi.z).a3, .i (v1.getD v2 R_iiiiiiAi.z).a4, .i (v1.getD v2 R_iiiiiiAi.z).a5, (mc E_ii (v1.getD v2 R_iiiiiiAi.z).a6), .i (v1.getD v2 R_iiiiiiAi.z).a7]), (1, [.i (v1.getD v2 R_iiiiiiAi.z).a0, .i (v1.getD v2 R_iiiiiiAi.z).a1, .i (v1.getD v2 R_iiiiiiAi.z).a2, .i (v1.getD v2 R_iiiiiiAi.z).a3, .i (v1.getD v2 R_iiiiiiAi.z).a4, .i (v1.getD v2 R_iiiiiiAi.z).a5, (mc E_ii (v1.getD v2 R_iiiiiiAi.z).a6), .i (v1.getD v2 R_iiiiiiAi.z).a7])] [(0, (Zbh ((L0.take ((if (200 : Int) < (L0.length : Int) then (200 : Int) else (L0.length : Int))).toNat)) ((v1.getD v2 R_iiiiiiAi.z).a0) ((v1.getD v2 R_iiiiiiAi.z).a1) ((v1.getD v2 R_iiiiiiAi.z).a2) ((v1.getD v2 R_iiiiiiAi.z).a3) ((v1.getD v2 R_iiiiiiAi.z).a4) ((v1.getD v2 R_iiiiiiAi.z).a5) ((v1.getD v2 R_iiiiiiAi.z).a6) ((v1.getD v2 R_iiiiiiAi.z).a7)  y1_0 y1_1  1)), (1, (Zbb ((L0.take ((if (200 : Int) < (L0.length : Int) then (200 : Int) else (L0.length : Int))).toNat)) ((v1.getD v2 R_iiiiiiAi.z).a0) ((v1.getD v2 R_iiiiiiAi.z).a1) ((v1.getD v2 R_iiiiiiAi.z).a2) ((v1.getD v2 R_iiiiiiAi.z).a3) ((v1.getD v2 R_iiiiiiAi.z).a4) ((v1.getD v2 R_iiiiiiAi.z).a5) ((v1.getD v2 R_iiiiiiAi.z).a6) ((v1.getD v2 R_iiiiiiAi.z).a7)  y2_0 y2_1  1))])) (live := [0]) (tv := fun _ => [some (ms E_iiiiii (L0.take ((if (200 : Int) < (L0.length : Int) then (200 : Int) else (L0.length : Int))).toNat)), some (vs 0 0 v1.length v1.length), some (vi (((v2 + 1) : Nat) : Int))]) (bl := [some (.cells (Zd E_iiiiiiAi v1) 31)]) (ob := [((IntKind.i64.wrap ((v2 : Int) + (1 : Int))) == (((v2 + 1) : Nat) : Int), true), ((!(y1_1 == y2_1)), false), ((y1_0 != y2_0), false), (dP (ZaK #[ms E_iiiiii (L0.take ((if (200 : Int) < (L0.length : Int) then (200 : Int) else (L0.length : Int))).toNat), Value.agg #[vi (v1.getD v2 R_iiiiiiAi.z).a0, vi (v1.getD v2 R_iiiiiiAi.z).a1, vi (v1.getD v2 R_iiiiiiAi.z).a2, vi (v1.getD v2 R_iiiiiiAi.z).a3, vi (v1.getD v2 R_iiiiiiAi.z).a4, vi (v1.getD v2 R_iiiiiiAi.z).a5, ms E_ii (v1.getD v2 R_iiiiiiAi.z).a6, vi (v1.getD v2 R_iiiiiiAi.z).a7]] ((L0.take ((if (200 : Int) < (L0.length : Int) then (200 : Int) else (L0.length : Int))).toNat)) ((v1.getD v2 R_iiiiiiAi.z).a0) ((v1.getD v2 R_iiiiiiAi.z).a1) ((v1.getD v2 R_iiiiiiAi.z).a2) ((v1.getD v2 R_iiiiiiAi.z).a3) ((v1.getD v2 R_iiiiiiAi.z).a4) ((v1.getD v2 R_iiiiiiAi.z).a5) ((v1.getD v2 R_iiiiiiAi.z).a6) ((v1.getD v2 R_iiiiiiAi.z).a7)  y2_0 y2_1  1), true), (ZO (Zv 8 (List.drop (0 + (v2 * 8)) (Zd E_iiiiiiAi v1))) [.i (v1.getD v2 R_iiiiiiAi.z).a0, .i (v1.getD v2 R_iiiiiiAi.z).a1, .i (v1.getD v2 R_iiiiiiAi.z).a2, .i (v1.getD v2 R_iiiiiiAi.z).a3, .i (v1.getD v2 R_iiiiiiAi.z).a4, .i (v1.getD v2 R_iiiiiiAi.z).a5, (mc E_ii (v1.getD v2 R_iiiiiiAi.z).a6), .i (v1.getD v2 R_iiiiiiAi.z).a7], true), (Nat.blt v2 v1.length, true), ((v2 : Int) == Int.ofNat v2, true), (dP (ZaO #[ms E_iiiiii (L0.take ((if (200 : Int) < (L0.length : Int) then (200 : Int) else (L0.length : Int))).toNat), Value.agg #[vi (v1.getD v2 R_iiiiiiAi.z).a0, vi (v1.getD v2 R_iiiiiiAi.z).a1, vi (v1.getD v2 R_iiiiiiAi.z).a2, vi (v1.getD v2 R_iiiiiiAi.z).a3, vi (v1.getD v2 R_iiiiiiAi.z).a4, vi (v1.getD v2 R_iiiiiiAi.z).a5, ms E_ii (v1.getD v2 R_iiiiiiAi.z).a6, vi (v1.getD v2 R_iiiiiiAi.z).a7]] ((L0.take ((if (200 : Int) < (L0.length : Int) then (200 : Int) else (L0.length : Int))).toNat)) ((v1.getD v2 R_iiiiiiAi.z).a0) ((v1.getD v2 R_iiiiiiAi.z).a1) ((v1.getD v2 R_iiiiiiAi.z).a2) ((v1.getD v2 R_iiiiiiAi.z).a3) ((v1.getD v2 R_iiiiiiAi.z).a4) ((v1.getD v2 R_iiiiiiAi.z).a5) ((v1.getD v2 R_iiiiiiAi.z).a6) ((v1.getD v2 R_iiiiiiAi.z).a7)  y1_0 y1_1  1), true), (ZO (Zv 8 (List.drop (0 + (v2 * 8)) (Zd E_iiiiiiAi v1))) [.i (v1.getD v2 R_iiiiiiAi.z).a0, .i (v1.getD v2 R_iiiiiiAi.z).a1, .i (v1.getD v2 R_iiiiiiAi.z).a2, .i (v1.getD v2 R_iiiiiiAi.z).a3, .i (v1.getD v2 R_iiiiiiAi.z).a4, .i (v1.getD v2 R_iiiiiiAi.z).a5, (mc E_ii (v1.getD v2 R_iiiiiiAi.z).a6), .i (v1.getD v2 R_iiiiiiAi.z).a7], true), (Nat.blt v2 v1.length, true), ((v2 : Int) == Int.ofNat v2, true), ((decide ((v2 : Int) < (v1.length : Int))), true)]) rfl (show 1 ∈ Zl (ZhJ 1) from by decide +kernel) (fun gv => by kernel_rfl) (Zb (beq_iff_eq.2 ((wrap_i64 ltA).trans (by first | rfl | omega))) <| Zb (neB_f (by first | assumption | rfl | simp_all)) <| oE <| Zb (Zw (Zbc #[ms E_iiiiii (L0.take ((if (200 : Int) < (L0.length : Int) then (200 : Int) else (L0.length : Int))).toNat), Value.agg #[vi (v1.getD v2 R_iiiiiiAi.z).a0, vi (v1.getD v2 R_iiiiiiAi.z).a1, vi (v1.getD v2 R_iiiiiiAi.z).a2, vi (v1.getD v2 R_iiiiiiAi.z).a3, vi (v1.getD v2 R_iiiiiiAi.z).a4, vi (v1.getD v2 R_iiiiiiAi.z).a5, ms E_ii (v1.getD v2 R_iiiiiiAi.z).a6, vi (v1.getD v2 R_iiiiiiAi.z).a7]] ((L0.take ((if (200 : Int) < (L0.length : Int) then (200 : Int) else (L0.length : Int))).toNat)) ((v1.getD v2 R_iiiiiiAi.z).a0) ((v1.getD v2 R_iiiiiiAi.z).a1) ((v1.getD v2 R_iiiiiiAi.z).a2) ((v1.getD v2 R_iiiiiiAi.z).a3) ((v1.getD v2 R_iiiiiiAi.z).a4) ((v1.getD v2 R_iiiiiiAi.z).a5) ((v1.getD v2 R_iiiiiiAi.z).a6) ((v1.getD v2 R_iiiiiiAi.z).a7)  y2_0 y2_1 N c2  1 rfl (by decide) (by decide))) <| Zb (Zy (E := E_iiiiiiAi) (L := v1) (i := v2) (q := 0) (by omega) (show (0 + (v2 * 8)) = v2 * 8 + 0 from by omega) (show 0 + 8 ≤ 8 from by decide) rfl rfl) <| oB <| oI <| Zb (Zw (Zbi #[ms E_iiiiii (L0.take ((if (200 : Int) < (L0.length : Int) then (200 : Int) else (L0.length : Int))).toNat), Value.agg #[vi (v1.getD v2 R_iiiiiiAi.z).a0, vi (v1.getD v2 R_iiiiiiAi.z).a1, vi (v1.getD v2 R_iiiiiiAi.z).a2, vi (v1.getD v2 R_iiiiiiAi.z).a3, vi (v1.getD v2 R_iiiiiiAi.z).a4, vi (v1.getD v2 R_iiiiiiAi.z).a5, ms E_ii (v1.getD v2 R_iiiiiiAi.z).a6, vi (v1.getD v2 R_iiiiiiAi.z).a7]] ((L0.take ((if (200 : Int) < (L0.length : Int) then (200 : Int) else (L0.length : Int))).toNat)) ((v1.getD v2 R_iiiiiiAi.z).a0) ((v1.getD v2 R_iiiiiiAi.z).a1) ((v1.getD v2 R_iiiiiiAi.z).a2) ((v1.getD v2 R_iiiiiiAi.z).a3) ((v1.getD v2 R_iiiiiiAi.z).a4) ((v1.getD v2 R_iiiiiiAi.z).a5) ((v1.getD v2 R_iiiiiiAi.z).a6) ((v1.getD v2 R_iiiiiiAi.z).a7)  y1_0 y1_1 N c1  1 rfl (by decide) (by decide))) <| Zb (Zy (E := E_iiiiiiAi) (L := v1) (i := v2) (q := 0) (by omega) (show (0 + (v2 * 8)) = v2 * 8 + 0 from by omega) (show 0 + 8 ≤ 8 from by decide) rfl rfl) <| oB <| oI <| oY Zf) rfl (by decide) (by rfl) (fun _ => ⟨rr, ⟨rr, ⟨rr, trivial⟩⟩⟩) ⟨(Zh (E := E_iiiiiiAi) (α := R_iiiiiiAi) _ v1 _), trivial⟩
      ·
       exact Mach.ok_none
 ·
  refine Mach.ok_bind (fun z1 c1 => ?_)
  cases z1 with
  | r0 y1_0 =>
   refine Mach.ok_bind (fun z2 c2 => ?_)
   cases z2 with
   | r0 y2_0 =>
    refine Mach.ok_ite (fun g3 => ?_) (fun g3 => ?_)
    ·
     exact Mach.ok_fin (M := ZF L0 L1 N) (cd := 1000000) (cm := 0) (r := (.r0 (true) : Z2)) (fu := 4000) (orc := (Zm [(0, false), (1, true)] [] [] [] [(0, (Zfh ((L0.take ((if (200 : Int) < (L0.length : Int) then (200 : Int) else (L0.length : Int))).toNat)) (v1)  y1_0 0 1)), (1, (ZfQ ((L0.take ((if (200 : Int) < (L0.length : Int) then (200 : Int) else (L0.length : Int))).toNat)) (v1)  y2_0 0 1))])) (live := []) (u := vT) (bl := []) (ob := [((y1_0 == y2_0), true), (dP (ZdH #[ms E_iiiiii (L0.take ((if (200 : Int) < (L0.length : Int) then (200 : Int) else (L0.length : Int))).toNat), vs 0 0 v1.length v1.length] ((L0.take ((if (200 : Int) < (L0.length : Int) then (200 : Int) else (L0.length : Int))).toNat)) (v1)  y2_0 0 1), true), (dS (Zd E_iiiiiiAi v1), true), (dP (Zd6 #[ms E_iiiiii (L0.take ((if (200 : Int) < (L0.length : Int) then (200 : Int) else (L0.length : Int))).toNat), vs 0 0 v1.length v1.length] ((L0.take ((if (200 : Int) < (L0.length : Int) then (200 : Int) else (L0.length : Int))).toNat)) (v1)  y1_0 0 1), true), (dS (Zd E_iiiiiiAi v1), true), ((decide ((v2 : Int) < (v1.length : Int))), false)]) (fun gv => by kernel_rfl) (oT <| Zb (Zw (ZfR #[ms E_iiiiii (L0.take ((if (200 : Int) < (L0.length : Int) then (200 : Int) else (L0.length : Int))).toNat), vs 0 0 v1.length v1.length] ((L0.take ((if (200 : Int) < (L0.length : Int) then (200 : Int) else (L0.length : Int))).toNat)) (v1)  y2_0 N c2 0 1 rfl (by decide) (by decide))) <| oR <| Zb (Zw (Zfi #[ms E_iiiiii (L0.take ((if (200 : Int) < (L0.length : Int) then (200 : Int) else (L0.length : Int))).toNat), vs 0 0 v1.length v1.length] ((L0.take ((if (200 : Int) < (L0.length : Int) then (200 : Int) else (L0.length : Int))).toNat)) (v1)  y1_0 N c1 0 1 rfl (by decide) (by decide))) <| oR <| oN Zf) rfl (by decide) (by rfl) rr trivial
    ·
     exact Mach.ok_fin (M := ZF L0 L1 N) (cd := 1000000) (cm := 0) (r := (.r0 (false) : Z2)) (fu := 4000) (orc := (Zm [(0, false), (1, false)] [] [] [] [(0, (Zfh ((L0.take ((if (200 : Int) < (L0.length : Int) then (200 : Int) else (L0.length : Int))).toNat)) (v1)  y1_0 0 1)), (1, (ZfQ ((L0.take ((if (200 : Int) < (L0.length : Int) then (200 : Int) else (L0.length : Int))).toNat)) (v1)  y2_0 0 1))])) (live := []) (u := vf) (bl := []) (ob := [((y1_0 == y2_0), false), (dP (ZdH #[ms E_iiiiii (L0.take ((if (200 : Int) < (L0.length : Int) then (200 : Int) else (L0.length : Int))).toNat), vs 0 0 v1.length v1.length] ((L0.take ((if (200 : Int) < (L0.length : Int) then (200 : Int) else (L0.length : Int))).toNat)) (v1)  y2_0 0 1), true), (dS (Zd E_iiiiiiAi v1), true), (dP (Zd6 #[ms E_iiiiii (L0.take ((if (200 : Int) < (L0.length : Int) then (200 : Int) else (L0.length : Int))).toNat), vs 0 0 v1.length v1.length] ((L0.take ((if (200 : Int) < (L0.length : Int) then (200 : Int) else (L0.length : Int))).toNat)) (v1)  y1_0 0 1), true), (dS (Zd E_iiiiiiAi v1), true), ((decide ((v2 : Int) < (v1.length : Int))), false)]) (fun gv => by kernel_rfl) (oF <| Zb (Zw (ZfR #[ms E_iiiiii (L0.take ((if (200 : Int) < (L0.length : Int) then (200 : Int) else (L0.length : Int))).toNat), vs 0 0 v1.length v1.length] ((L0.take ((if (200 : Int) < (L0.length : Int) then (200 : Int) else (L0.length : Int))).toNat)) (v1)  y2_0 N c2 0 1 rfl (by decide) (by decide))) <| oR <| Zb (Zw (Zfi #[ms E_iiiiii (L0.take ((if (200 : Int) < (L0.length : Int) then (200 : Int) else (L0.length : Int))).toNat), vs 0 0 v1.length v1.length] ((L0.take ((if (200 : Int) < (L0.length : Int) then (200 : Int) else (L0.length : Int))).toNat)) (v1)  y1_0 N c1 0 1 rfl (by decide) (by decide))) <| oR <| oN Zf) rfl (by decide) (by rfl) rr trivial

theorem Zg8 (L0 : List RB) (L1 : List R_iiiiiiAi) (N : Nat) : (ZF L0 L1 N).Enter Tryz.prog Zx #[ms E_iiiiii L0, ms E_iiiiiiAi L1] (Zb1 L0 L1 N) := by
 unfold Zb1
 refine Mach.en_bind (fun z0 c0 => ?_)
 cases z0 with
 | r0 =>
  exact Mach.en_head (bK := Zav 1) (M := ZF L0 L1 N) (cd := 1000000) (cm := 0) (y := (.h1m0 : Z0)) (fu := 4000) (orc := (Zm [] [] [] [] [(0, .ms 0 ((if (200 : Int) < (L0.length : Int) then (200 : Int) else (L0.length : Int))).toNat (L0.take ((if (200 : Int) < (L0.length : Int) then (200 : Int) else (L0.length : Int))).toNat).length (Z6 E_iiiiii (L0.take ((if (200 : Int) < (L0.length : Int) then (200 : Int) else (L0.length : Int))).toNat))), (1, (ZlI (L1)    0))])) (live := []) (tv := [some (ms E_iiiiii (L0.take ((if (200 : Int) < (L0.length : Int) then (200 : Int) else (L0.length : Int))).toNat)), some (vn), some (vq)]) (bl := []) (ob := [(dP (ZhV #[ms E_iiiiiiAi L1] (L1)    0), true), (dP (0 ≤ ((if (200 : Int) < (L0.length : Int) then (200 : Int) else (L0.length : Int))).toNat ∧ ((if (200 : Int) < (L0.length : Int) then (200 : Int) else (L0.length : Int))).toNat ≤ L0.length ∧ ZV (code (Z6 E_iiiiii L0)) (0 + 0 * 6) (Z6 E_iiiiii (L0.take ((if (200 : Int) < (L0.length : Int) then (200 : Int) else (L0.length : Int))).toNat)).length = some (Z6 E_iiiiii (L0.take ((if (200 : Int) < (L0.length : Int) then (200 : Int) else (L0.length : Int))).toNat)) ∧ (((if (200 : Int) < (L0.length : Int) then (200 : Int) else (L0.length : Int))).toNat - 0) * 6 = (Z6 E_iiiiii (L0.take ((if (200 : Int) < (L0.length : Int) then (200 : Int) else (L0.length : Int))).toNat)).length ∧ (L0.take ((if (200 : Int) < (L0.length : Int) then (200 : Int) else (L0.length : Int))).toNat).length = ((if (200 : Int) < (L0.length : Int) then (200 : Int) else (L0.length : Int))).toNat - 0), true), ((if (200 : Int) < (L0.length : Int) then (200 : Int) else (L0.length : Int)) == Int.ofNat ((if (200 : Int) < (L0.length : Int) then (200 : Int) else (L0.length : Int))).toNat, true), (dS 0, true)]) rfl rfl (show Zl (Zav 1).2 = [] from rfl) (by kernel_rfl) (Zb (Zw (ZlJ #[ms E_iiiiiiAi L1] (L1)   N c0  0 rfl (by decide) (by decide))) <| Zb (Zw (Zkn (E := E_iiiiii) (L := L0) (R := (L0.take ((if (200 : Int) < (L0.length : Int) then (200 : Int) else (L0.length : Int))).toNat)) (l := 0) (h := ((if (200 : Int) < (L0.length : Int) then (200 : Int) else (L0.length : Int))).toNat) (size := 6) ltA ltA (by decide) (by simp))) <| oI <| oR Zf) rfl (by decide) (by rfl) ⟨rr, ⟨rr, ⟨rr, trivial⟩⟩⟩ trivial
 | r1 y0_0 =>
  exact Mach.en_head (bK := Zav 1) (M := ZF L0 L1 N) (cd := 1000000) (cm := 0) (y := (.h1m1 (y0_0) (0) : Z0)) (fu := 4000) (orc := (Zm [] [] [] [] [(0, .ms 0 ((if (200 : Int) < (L0.length : Int) then (200 : Int) else (L0.length : Int))).toNat (L0.take ((if (200 : Int) < (L0.length : Int) then (200 : Int) else (L0.length : Int))).toNat).length (Z6 E_iiiiii (L0.take ((if (200 : Int) < (L0.length : Int) then (200 : Int) else (L0.length : Int))).toNat))), (1, (ZlK (L1)  y0_0  0))])) (live := [0]) (tv := [some (ms E_iiiiii (L0.take ((if (200 : Int) < (L0.length : Int) then (200 : Int) else (L0.length : Int))).toNat)), some (vs 0 0 y0_0.length y0_0.length), some (vq)]) (bl := [some (.cells (Zd E_iiiiiiAi y0_0) 31)]) (ob := [(dP (ZhW #[ms E_iiiiiiAi L1] (L1)  y0_0  0), true), (dP (0 ≤ ((if (200 : Int) < (L0.length : Int) then (200 : Int) else (L0.length : Int))).toNat ∧ ((if (200 : Int) < (L0.length : Int) then (200 : Int) else (L0.length : Int))).toNat ≤ L0.length ∧ ZV (code (Z6 E_iiiiii L0)) (0 + 0 * 6) (Z6 E_iiiiii (L0.take ((if (200 : Int) < (L0.length : Int) then (200 : Int) else (L0.length : Int))).toNat)).length = some (Z6 E_iiiiii (L0.take ((if (200 : Int) < (L0.length : Int) then (200 : Int) else (L0.length : Int))).toNat)) ∧ (((if (200 : Int) < (L0.length : Int) then (200 : Int) else (L0.length : Int))).toNat - 0) * 6 = (Z6 E_iiiiii (L0.take ((if (200 : Int) < (L0.length : Int) then (200 : Int) else (L0.length : Int))).toNat)).length ∧ (L0.take ((if (200 : Int) < (L0.length : Int) then (200 : Int) else (L0.length : Int))).toNat).length = ((if (200 : Int) < (L0.length : Int) then (200 : Int) else (L0.length : Int))).toNat - 0), true), ((if (200 : Int) < (L0.length : Int) then (200 : Int) else (L0.length : Int)) == Int.ofNat ((if (200 : Int) < (L0.length : Int) then (200 : Int) else (L0.length : Int))).toNat, true), (dS 0, true)]) rfl rfl (show Zl (Zav 1).2 = [] from rfl) (by kernel_rfl) (Zb (Zw (ZlL #[ms E_iiiiiiAi L1] (L1)  y0_0 N c0  0 rfl (by decide) (by decide))) <| Zb (Zw (Zkn (E := E_iiiiii) (L := L0) (R := (L0.take ((if (200 : Int) < (L0.length : Int) then (200 : Int) else (L0.length : Int))).toNat)) (l := 0) (h := ((if (200 : Int) < (L0.length : Int) then (200 : Int) else (L0.length : Int))).toNat) (size := 6) ltA ltA (by decide) (by simp))) <| oI <| oR Zf) rfl (by decide) (by rfl) ⟨rr, ⟨rr, ⟨⟨Eq.trans (show (vi ((0 : Nat) : Int) : Value) = vq from (congrArg (Value.int .i64) (by first | rfl | omega))) (by rfl), by rfl⟩, trivial⟩⟩⟩ ⟨(Zh (E := E_iiiiiiAi) (α := R_iiiiiiAi) _ y0_0 _), trivial⟩

theorem ZfS (L0 : List RB) (L1 : List R_iiiiiiAi) (N : Nat) (r : Z2) (h : ZeL L0 L1 N = some r) : LSpec Tryz.prog 3 #[ms E_iiiiii L0, ms E_iiiiiiAi L1] [] (Zen L0 L1 r) (Zea L0 L1 r) :=
 Mach.spec ZcN (ZF L0 L1 N) Tryz.func3 (by kernel_rfl) (by kernel_rfl) (fun x => by cases x <;> exact ZaQ _ rfl) (fun r => by cases r <;> exact ZaQ _ rfl) (fun x => by
  cases x with
  | h1m0 => exact fun _ => (show ¬ (1 ∈ Zl (Zav 1).2) from by decide +kernel)
  | h1m1 _ _ => exact fun _ => (show ¬ (1 ∈ Zl (Zav 1).2) from by decide +kernel)
  ) (fun x => (show (ZF L0 L1 N).Ok Tryz.prog Zx x (Za1 L0 L1 N x) from by
  cases x with
  | h1m0 => exact Zfs L0 L1 N
  | h1m1 v1 v2 => exact Zft L0 L1 v1 v2 N
  )) (Zg8 L0 L1 N) (n := N) h

end Ev
end Go.Proofs.YtgdboobcomomdaaGreat
/- Plain lemmas: machines step by step, lists by their places. -/
namespace Go.Proofs.YtgdboobcomomdaaGreat
open Go.RowKit
namespace Ev
section
variable {X R : Type} {step : X → Option (X ⊕ R)} {n : Nat} {x y : X} {r : R}
theorem ZL (h : step x = some (.inl y)) : Zau step (n + 1) x = Zau step n y := by simp [Zau, h]
theorem Zac (h : step x = some (.inr r)) : Zau step (n + 1) x = some r := by simp [Zau, h]
theorem ZeN {o : Option (X ⊕ R)} (h : o = some (.inl x)) : goM step n o = Zau step n x := by subst h; rfl
theorem Zmk {o : Option (X ⊕ R)} (h : o = some (.inr r)) : goM step n o = some r := by subst h; rfl
end
section
variable {α : Type}
theorem Zhs {L : List α} {i : Nat} (h : i < L.length) (d : α) : L.take i ++ [L.getD i d] = L.take (i + 1) := by
 rw [List.take_succ_eq_append_getElem h, List.getD_eq_getElem?_getD, List.getElem?_eq_getElem h, Option.getD_some]
end
theorem Za {α : Type} {c : Prop} [Decidable c] {a b r : α} (h : c) (e : a = r) : (if c then a else b) = r := by rw [if_pos h]; exact e
theorem Ze {α : Type} {c : Prop} [Decidable c] {a b r : α} (h : ¬ c) (e : b = r) : (if c then a else b) = r := by rw [if_neg h]; exact e
theorem Zao {α β : Type} {o : Option α} {a : α} {k : α → Option β} {r : Option β} (h : o = some a) (e : k a = r) : o.bind k = r := by rw [h]; exact e
end Ev
end Go.Proofs.YtgdboobcomomdaaGreat
/- When fences have Zjc: plain. -/
namespace Go.Proofs.YtgdboobcomomdaaGreat
open Go.RowKit
namespace Ev
namespace Ol
set_option linter.unusedVariables false
set_option linter.unusedSimpArgs false
abbrev Rc := R_iiiiiiAi
abbrev Lg := RB
abbrev Fc := RA
abbrev ev (K : List Rc) (i : Nat) : Rc := K.getD i R_iiiiiiAi.z
abbrev st (L : List Lg) (i : Nat) : Lg := L.getD i RB.z
theorem Zol {L : List Rc} {N : Nat} : ∀ d v1 v2 f, v1.length = v2 → v2 + d = 30 → 1 ≤ v2 → d < f → ∃ K : List Rc, Zau (ZaV L N) f (.h1m1 v1 v2) = some (.r1 K) ∧ K.length ≤ 30 := by
 intro d
 induction d with
 | zero =>
  intro v1 v2 f h1 h2 h3 hf
  obtain ⟨f, rfl⟩ : ∃ g, f = g + 1 := ⟨f - 1, by omega⟩
  refine ⟨v1, Zac ?_, by omega⟩
  show ZaI L N v1 v2 = _
  unfold ZaI
  by_cases c : (v2 : Int) < (L.length : Int)
  ·exact Za c <| Ze (by omega) rfl
  ·exact Ze c rfl
 | succ d ih =>
  intro v1 v2 f h1 h2 h3 hf
  obtain ⟨f, rfl⟩ : ∃ g, f = g + 1 := ⟨f - 1, by omega⟩
  by_cases c : (v2 : Int) < (L.length : Int)
  ·have hs : ZaV L N (.h1m1 v1 v2) = some (.inl (.h1m1 (v1 ++ [(⟨(L.getD v2 R_iiiiiiAi.z).a0, (L.getD v2 R_iiiiiiAi.z).a1, (L.getD v2 R_iiiiiiAi.z).a2, (L.getD v2 R_iiiiiiAi.z).a3, (L.getD v2 R_iiiiiiAi.z).a4, (L.getD v2 R_iiiiiiAi.z).a5, ((L.getD v2 R_iiiiiiAi.z).a6.take ((if (20 : Int) < ((((L.getD v2 R_iiiiiiAi.z).a6.length : Nat) : Int)) then (20 : Int) else ((((L.getD v2 R_iiiiiiAi.z).a6.length : Nat) : Int)))).toNat), (L.getD v2 R_iiiiiiAi.z).a7⟩ : Rc)]) (v2 + 1))) := by
    show ZaI L N v1 v2 = _
    unfold ZaI
    exact Za c <| Za (by omega) <| Za (by omega) rfl
   rw [ZL hs]
   exact ih _ (v2 + 1) f (by simp; omega) (by omega) (by omega) (by omega)
  ·refine ⟨v1, Zac ?_, by omega⟩
   show ZaI L N v1 v2 = _
   unfold ZaI
   exact Ze c rfl
theorem ZoY {L : List Rc} {N : Nat} (hN : 1000 ≤ N) : Zds L N = some .r0 ∨ ∃ K : List Rc, Zds L N = some (.r1 K) ∧ K.length ≤ 30 := by
 obtain ⟨N', rfl⟩ : ∃ g, N = g + 1 := ⟨N - 1, by omega⟩
 by_cases c : (0 : Int) < (L.length : Int)
 ·refine .inr ?_
  have hs : ZaV L (N' + 1) .h1m0 = some (.inl (.h1m1 [(⟨(L.getD 0 R_iiiiiiAi.z).a0, (L.getD 0 R_iiiiiiAi.z).a1, (L.getD 0 R_iiiiiiAi.z).a2, (L.getD 0 R_iiiiiiAi.z).a3, (L.getD 0 R_iiiiiiAi.z).a4, (L.getD 0 R_iiiiiiAi.z).a5, ((L.getD 0 R_iiiiiiAi.z).a6.take ((if (20 : Int) < ((((L.getD 0 R_iiiiiiAi.z).a6.length : Nat) : Int)) then (20 : Int) else ((((L.getD 0 R_iiiiiiAi.z).a6.length : Nat) : Int)))).toNat), (L.getD 0 R_iiiiiiAi.z).a7⟩ : Rc)] 1)) := by
   show Zbv L (N' + 1) = _
   unfold Zbv
   exact Za c rfl
  obtain ⟨K, h1, h2⟩ := Zol (L := L) (N := N' + 1) 29 [(⟨(L.getD 0 R_iiiiiiAi.z).a0, (L.getD 0 R_iiiiiiAi.z).a1, (L.getD 0 R_iiiiiiAi.z).a2, (L.getD 0 R_iiiiiiAi.z).a3, (L.getD 0 R_iiiiiiAi.z).a4, (L.getD 0 R_iiiiiiAi.z).a5, ((L.getD 0 R_iiiiiiAi.z).a6.take ((if (20 : Int) < ((((L.getD 0 R_iiiiiiAi.z).a6.length : Nat) : Int)) then (20 : Int) else ((((L.getD 0 R_iiiiiiAi.z).a6.length : Nat) : Int)))).toNat), (L.getD 0 R_iiiiiiAi.z).a7⟩ : Rc)] 1 N' rfl (by omega) (by omega) (by omega)
  exact ⟨K, (ZL hs).trans h1, h2⟩
 ·refine .inl (Zac (?_ : ZaV L (N' + 1) .h1m0 = _))
  show Zbv L (N' + 1) = _
  unfold Zbv
  exact Ze c rfl
theorem Zn4 {L : List Lg} {e : Rc} {N : Nat} (hL : L.length ≤ 1000) : ∀ d i (fl : Bool) f, i + d = L.length → d < f → ∃ w b, Zau (ZaM L e.a0 e.a1 e.a2 e.a3 e.a4 e.a5 e.a6 e.a7 N) f (.h1m0 fl ((i + 1 : Nat) : Int)) = some (.r0 w b) ∧ Zau (ZaX L e.a0 e.a1 e.a2 e.a3 e.a4 e.a5 e.a6 e.a7 N) f (.h1m0 fl (i : Int)) = some (.r0 w b) := by
 intro d
 induction d with
 | zero =>
  intro i fl f hd hf
  obtain ⟨f, rfl⟩ : ∃ g, f = g + 1 := ⟨f - 1, by omega⟩
  refine ⟨0, false, Zac ?_, Zac ?_⟩
  ·show ZG L e.a0 e.a1 e.a2 e.a3 e.a4 e.a5 e.a6 e.a7 N fl ((i + 1 : Nat) : Int) = _
   unfold ZG
   cases fl with
   | true => exact Za rfl <| Za hL <| Za (by omega) <| Ze (by omega) rfl
   | false => exact Ze (by decide) <| Za hL <| Za (by omega) <| Ze (by omega) rfl
  ·show ZN L e.a0 e.a1 e.a2 e.a3 e.a4 e.a5 e.a6 e.a7 N fl (i : Int) = _
   unfold ZN
   cases fl with
   | true => exact Za rfl <| Za hL <| Za (by omega) <| Ze (by omega) rfl
   | false => exact Ze (by decide) <| Za hL <| Za (by omega) <| Ze (by omega) rfl
 | succ d ih =>
  intro i fl f hd hf
  obtain ⟨f, rfl⟩ : ∃ g, f = g + 1 := ⟨f - 1, by omega⟩
  have e1 : (((i + 1 : Nat) : Int) - 1).toNat = i := by omega
  have e2 : (i : Int).toNat = i := Int.toNat_natCast i
  have e3 : ((i + 1 : Nat) : Int) + 1 = ((i + 1 + 1 : Nat) : Int) := by omega
  have e4 : (i : Int) + 1 = ((i + 1 : Nat) : Int) := by omega
  have ho : ∀ r, ZG L e.a0 e.a1 e.a2 e.a3 e.a4 e.a5 e.a6 e.a7 N fl ((i + 1 : Nat) : Int) = r → ZaM L e.a0 e.a1 e.a2 e.a3 e.a4 e.a5 e.a6 e.a7 N (.h1m0 fl ((i + 1 : Nat) : Int)) = r := fun r h => h
  have hr : ∀ r, ZN L e.a0 e.a1 e.a2 e.a3 e.a4 e.a5 e.a6 e.a7 N fl (i : Int) = r → ZaX L e.a0 e.a1 e.a2 e.a3 e.a4 e.a5 e.a6 e.a7 N (.h1m0 fl (i : Int)) = r := fun r h => h
  have next : ∀ fl2, ZG L e.a0 e.a1 e.a2 e.a3 e.a4 e.a5 e.a6 e.a7 N fl ((i + 1 : Nat) : Int) = some (.inl (.h1m0 fl2 ((i + 1 + 1 : Nat) : Int))) → ZN L e.a0 e.a1 e.a2 e.a3 e.a4 e.a5 e.a6 e.a7 N fl (i : Int) = some (.inl (.h1m0 fl2 ((i + 1 : Nat) : Int))) → ∃ w b, Zau (ZaM L e.a0 e.a1 e.a2 e.a3 e.a4 e.a5 e.a6 e.a7 N) (f + 1) (.h1m0 fl ((i + 1 : Nat) : Int)) = some (.r0 w b) ∧ Zau (ZaX L e.a0 e.a1 e.a2 e.a3 e.a4 e.a5 e.a6 e.a7 N) (f + 1) (.h1m0 fl (i : Int)) = some (.r0 w b) := fun fl2 h1 h2 => by
   obtain ⟨w, b, q1, q2⟩ := ih (i + 1) fl2 f (by omega) (by omega)
   exact ⟨w, b, (ZL (ho _ h1)).trans q1, (ZL (hr _ h2)).trans q2⟩
  by_cases c1 : (st L i).a1 = e.a1
  ·by_cases c2 : (st L i).a5 = (L.getD ((e.a4 - (1 : Int))).toNat RB.z).a5
   ·cases fl with
    | true =>
     refine next true ?_ ?_
     ·unfold ZG
      rw [e1, e3]
      exact Za rfl <| Za hL <| Za (by omega) <| Za (by omega) <| Ze (fun q => q c1) <| Ze (fun q => q c2) rfl
     ·unfold ZN
      rw [e2, e4]
      exact Za rfl <| Za hL <| Za (by omega) <| Za (by omega) <| Ze (fun q => q c1) <| Ze (fun q => q c2) rfl
    | false =>
     by_cases c3 : (st L i).a0 = 7
     ·refine next true ?_ ?_
      ·unfold ZG
       rw [e1, e3]
       exact Ze (by decide) <| Za hL <| Za (by omega) <| Za (by omega) <| Ze (fun q => q c1) <| Ze (fun q => q c2) <| Za c3 rfl
      ·unfold ZN
       rw [e2, e4]
       exact Ze (by decide) <| Za hL <| Za (by omega) <| Za (by omega) <| Ze (fun q => q c1) <| Ze (fun q => q c2) <| Za c3 rfl
     ·refine next false ?_ ?_
      ·unfold ZG
       rw [e1, e3]
       exact Ze (by decide) <| Za hL <| Za (by omega) <| Za (by omega) <| Ze (fun q => q c1) <| Ze (fun q => q c2) <| Ze c3 rfl
      ·unfold ZN
       rw [e2, e4]
       exact Ze (by decide) <| Za hL <| Za (by omega) <| Za (by omega) <| Ze (fun q => q c1) <| Ze (fun q => q c2) <| Ze c3 rfl
   ·cases fl with
    | true =>
     refine ⟨((i + 1 : Nat) : Int), true, Zac (ho _ ?_), Zac (hr _ ?_)⟩
     ·unfold ZG
      rw [e1]
      exact Za rfl <| Za hL <| Za (by omega) <| Za (by omega) <| Ze (fun q => q c1) <| Za c2 rfl
     ·unfold ZN
      rw [e2, e4]
      exact Za rfl <| Za hL <| Za (by omega) <| Za (by omega) <| Ze (fun q => q c1) <| Za c2 rfl
    | false =>
     refine ⟨0, false, Zac (ho _ ?_), Zac (hr _ ?_)⟩
     ·unfold ZG
      rw [e1]
      exact Ze (by decide) <| Za hL <| Za (by omega) <| Za (by omega) <| Ze (fun q => q c1) <| Za c2 rfl
     ·unfold ZN
      rw [e2]
      exact Ze (by decide) <| Za hL <| Za (by omega) <| Za (by omega) <| Ze (fun q => q c1) <| Za c2 rfl
  ·cases fl with
   | true =>
    refine next true ?_ ?_
    ·unfold ZG
     rw [e1, e3]
     exact Za rfl <| Za hL <| Za (by omega) <| Za (by omega) <| Za c1 rfl
    ·unfold ZN
     rw [e2, e4]
     exact Za rfl <| Za hL <| Za (by omega) <| Za (by omega) <| Za c1 rfl
   | false =>
    refine next false ?_ ?_
    ·unfold ZG
     rw [e1, e3]
     exact Ze (by decide) <| Za hL <| Za (by omega) <| Za (by omega) <| Za c1 rfl
    ·unfold ZN
     rw [e2, e4]
     exact Ze (by decide) <| Za hL <| Za (by omega) <| Za (by omega) <| Za c1 rfl
theorem Zjc {L : List Lg} (hL : L.length ≤ 1000) (e : Rc) : ∃ p : Int × Bool, Zbq L e.a0 e.a1 e.a2 e.a3 e.a4 e.a5 e.a6 e.a7 100000 = some (.r0 p.1 p.2) ∧ ZbN L e.a0 e.a1 e.a2 e.a3 e.a4 e.a5 e.a6 e.a7 100000 = some (.r0 p.1 p.2) ∧ (p.2 = true → 1 ≤ e.a4) := by
 have none : Zay L e.a0 e.a1 e.a2 e.a3 e.a4 e.a5 e.a6 e.a7 100000 = some (.inr (.r0 0 false)) → Za6 L e.a0 e.a1 e.a2 e.a3 e.a4 e.a5 e.a6 e.a7 100000 = some (.inr (.r0 0 false)) → ∃ p : Int × Bool, Zbq L e.a0 e.a1 e.a2 e.a3 e.a4 e.a5 e.a6 e.a7 100000 = some (.r0 p.1 p.2) ∧ ZbN L e.a0 e.a1 e.a2 e.a3 e.a4 e.a5 e.a6 e.a7 100000 = some (.r0 p.1 p.2) ∧ (p.2 = true → 1 ≤ e.a4) := fun h1 h2 => ⟨(0, false), Zmk h1, Zmk h2, fun q => by cases q⟩
 by_cases c1 : e.a0 = 2
 ·by_cases c2 : 1 ≤ e.a4
  ·by_cases c3 : e.a4 ≤ (L.length : Int)
   ·by_cases c4 : 1 ≤ e.a5
    ·by_cases c5 : e.a5 ≤ (L.length : Int)
     ·obtain ⟨i, hi⟩ : ∃ i : Nat, e.a5 = (i : Int) := ⟨e.a5.toNat, by omega⟩
      obtain ⟨w, b, q1, q2⟩ := Zn4 (e := e) (N := 100000) hL (L.length - i) i false 100000 (by omega) (by omega)
      have e3 : e.a5 + 1 = ((i + 1 : Nat) : Int) := by omega
      refine ⟨(w, b), (ZeN (x := .h1m0 false ((i + 1 : Nat) : Int)) ?_).trans q1, (ZeN (x := .h1m0 false (i : Int)) ?_).trans q2, fun _ => c2⟩
      ·unfold Zay
       rw [e3]
       exact Za hL <| Ze (fun q => q c1) <| Za c2 <| Za c3 <| Za c4 <| Za c5 rfl
      ·unfold Za6
       rw [hi]
       exact Za hL <| Ze (fun q => q c1) <| Ze (by omega) <| Ze (by omega) <| Ze (by omega) <| Ze (by omega) rfl
     ·refine none ?_ ?_
      ·unfold Zay
       exact Za hL <| Ze (fun q => q c1) <| Za c2 <| Za c3 <| Za c4 <| Ze c5 rfl
      ·unfold Za6
       exact Za hL <| Ze (fun q => q c1) <| Ze (by omega) <| Ze (by omega) <| Ze (by omega) <| Za (by omega) rfl
    ·refine none ?_ ?_
     ·unfold Zay
      exact Za hL <| Ze (fun q => q c1) <| Za c2 <| Za c3 <| Ze c4 rfl
     ·unfold Za6
      exact Za hL <| Ze (fun q => q c1) <| Ze (by omega) <| Ze (by omega) <| Za (by omega) rfl
   ·refine none ?_ ?_
    ·unfold Zay
     exact Za hL <| Ze (fun q => q c1) <| Za c2 <| Ze c3 rfl
    ·unfold Za6
     exact Za hL <| Ze (fun q => q c1) <| Ze (by omega) <| Za (by omega) rfl
  ·refine none ?_ ?_
   ·unfold Zay
    exact Za hL <| Ze (fun q => q c1) <| Ze c2 rfl
   ·unfold Za6
    exact Za hL <| Ze (fun q => q c1) <| Za (by omega) rfl
 ·refine none ?_ ?_
  ·unfold Zay
   exact Za hL <| Za c1 rfl
  ·unfold Za6
   exact Za hL <| Za c1 rfl
noncomputable def pv (L : List Lg) (e : Rc) : Int × Bool := @dite _ (L.length ≤ 1000) (Classical.propDecidable _) (fun h => Classical.choose (Zjc h e)) (fun _ => (0, false))
theorem Zh6 {L : List Lg} (hL : L.length ≤ 1000) (e : Rc) : Zbq L e.a0 e.a1 e.a2 e.a3 e.a4 e.a5 e.a6 e.a7 100000 = some (.r0 (pv L e).1 (pv L e).2) ∧ ZbN L e.a0 e.a1 e.a2 e.a3 e.a4 e.a5 e.a6 e.a7 100000 = some (.r0 (pv L e).1 (pv L e).2) ∧ ((pv L e).2 = true → 1 ≤ e.a4) := by
 unfold pv
 rw [dif_pos hL]
 exact Classical.choose_spec (Zjc hL e)
noncomputable def fl (L : List Lg) (K : List Rc) : List Fc := K.filterMap fun e => if (pv L e).2 = true then some ⟨(pv L e).1, e.a4, e.a1⟩ else none
theorem ZoE {L : List Lg} {K : List Rc} {i : Nat} (hi : i < K.length) : fl L (K.take (i + 1)) = fl L (K.take i) ++ (if (pv L (ev K i)).2 = true then [⟨(pv L (ev K i)).1, (ev K i).a4, (ev K i).a1⟩] else []) := by
 rw [← Zhs hi R_iiiiiiAi.z]
 unfold fl
 rw [List.filterMap_append]
 congr 1
 by_cases c : (pv L (ev K i)).2 = true
 ·rw [if_pos c]
  show List.filterMap _ [ev K i] = [(⟨(pv L (ev K i)).1, (ev K i).a4, (ev K i).a1⟩ : Fc)]
  generalize ev K i = x at c ⊢
  simp [c]
 ·rw [if_neg c]
  show List.filterMap _ [ev K i] = ([] : List Fc)
  generalize ev K i = x at c ⊢
  simp [c]
theorem ZlO {L : List Lg} {K : List Rc} (hL : L.length ≤ 1000) (hK : K.length ≤ 100) : ∀ d i f, i + d = K.length → d < f →
  (fl L (K.take i) = [] → Zau (Za8 L K 100000) f (.h1m0 i) = some (if fl L K = [] then .r0 else .r1 (Zby (fl L K)) (fl L K).length)) ∧
  (fl L (K.take i) ≠ [] → fl L K ≠ [] ∧ Zau (Za8 L K 100000) f (.h1m1 (fl L (K.take i)) i) = some (.r1 (Zby (fl L K)) (fl L K).length)) := by
 have hlen : ∀ i, (fl L (K.take i)).length ≤ 100 := fun i => by
  have h1 := List.length_filterMap_le (fun e : Rc => if (pv L e).2 = true then some (⟨(pv L e).1, e.a4, e.a1⟩ : Fc) else none) (K.take i)
  have h2 : (K.take i).length ≤ K.length := by rw [List.length_take]; omega
  unfold fl; omega
 intro d
 induction d with
 | zero =>
  intro i f hd hf
  obtain ⟨f, rfl⟩ : ∃ g, f = g + 1 := ⟨f - 1, by omega⟩
  have ht : K.take i = K := List.take_of_length_le (by omega)
  have hl := hlen i
  rw [ht] at hl ⊢
  constructor
  ·intro h
   rw [if_pos h]
   refine Zac ?_
   show Zag L K 100000 i = _
   unfold Zag
   exact Za hL <| Ze (by omega) <| Zao (show Z8 100000 = some .r0 from rfl) rfl
  ·intro h
   refine ⟨h, Zac ?_⟩
   show Zah L K 100000 (fl L K) i = _
   unfold Zah
   exact Za hL <| Ze (by omega) <| Zao (show ZK (fl L K) 100000 = some (.r0 (Zby (fl L K))) from if_pos (by omega)) rfl
 | succ d ih =>
  intro i f hd hf
  obtain ⟨f, rfl⟩ : ∃ g, f = g + 1 := ⟨f - 1, by omega⟩
  have hi : i < K.length := by omega
  obtain ⟨p1, _, _⟩ := Zh6 hL (ev K i)
  obtain ⟨i0, i1⟩ := ih (i + 1) f (by omega) (by omega)
  have hsn := ZoE (L := L) hi
  have hl := hlen i
  by_cases c : (pv L (ev K i)).2 = true
  ·rw [if_pos c] at hsn
   have hne : fl L (K.take (i + 1)) ≠ [] := by rw [hsn]; simp
   obtain ⟨j1, j2⟩ := i1 hne
   constructor
   ·intro h
    rw [if_neg j1, ← j2]
    rw [h, List.nil_append] at hsn
    rw [hsn]
    refine ZL ?_
    show Zag L K 100000 i = _
    unfold Zag
    exact Za hL <| Za (by omega) <| Zao p1 <| Za c <| Za (by omega) rfl
   ·intro h
    refine ⟨j1, ?_⟩
    rw [← j2, hsn]
    refine ZL ?_
    show Zah L K 100000 (fl L (K.take i)) i = _
    unfold Zah
    exact Za hL <| Za (by omega) <| Zao p1 <| Za c <| Za (by omega) <| Za (by omega) rfl
  ·rw [if_neg c, List.append_nil] at hsn
   rw [hsn] at i0 i1
   constructor
   ·intro h
    rw [← i0 h]
    refine ZL ?_
    show Zag L K 100000 i = _
    unfold Zag
    exact Za hL <| Za (by omega) <| Zao p1 <| Ze c <| Za (by omega) rfl
   ·intro h
    obtain ⟨j1, j2⟩ := i1 h
    refine ⟨j1, ?_⟩
    rw [← j2]
    refine ZL ?_
    show Zah L K 100000 (fl L (K.take i)) i = _
    unfold Zah
    exact Za hL <| Za (by omega) <| Zao p1 <| Ze c <| Za (by omega) rfl
theorem Zn5 {L : List Lg} {K : List Rc} (hL : L.length ≤ 1000) (hK : K.length ≤ 100) : Zcc L K 100000 = some (if fl L K = [] then .r0 else .r1 (Zby (fl L K)) (fl L K).length) :=
 (ZlO hL hK K.length 0 100000 (by omega) (by omega)).1 rfl
end Ol
end Ev
end Go.Proofs.YtgdboobcomomdaaGreat
/- The first step that writes too late, as the program looks for it: plain. -/
namespace Go.Proofs.YtgdboobcomomdaaGreat
open Go.RowKit
namespace Ev
namespace Ol
set_option linter.unusedVariables false
set_option linter.unusedSimpArgs false
abbrev fc (S : List Fc) (i : Nat) : Fc := S.getD i RA.z
def ZeO (S : List Fc) (L : List Lg) (n : Nat) : Prop := ((st L n).a0 = 5 ∨ (st L n).a0 = 10) ∧ 0 < (st L n).a5 ∧ ∃ f ∈ S, f.a0 ≤ ((n + 1 : Nat) : Int) ∧ f.a2 ≠ (st L n).a1 ∧ (st L n).a5 < f.a1
noncomputable def lat (h : Nat → Prop) : Nat → Nat → Int
 | 0, _ => 0
 | d + 1, n => @ite _ (h n) (Classical.propDecidable _) ((n + 1 : Nat) : Int) (lat h d (n + 1))
theorem Zj0 {h : Nat → Prop} {d n : Nat} (q : h n) : lat h (d + 1) n = ((n + 1 : Nat) : Int) := if_pos q
theorem ZfT {h : Nat → Prop} {d n : Nat} (q : ¬ h n) : lat h (d + 1) n = lat h d (n + 1) := if_neg q
structure Ziy (F : List Fc) (lm lt om : Int) : Prop where
 a : ∀ f ∈ F, f.a1 ≤ lm
 b : (F = [] ∧ lm = 0 ∧ om = 0) ∨ ∃ f ∈ F, f.a1 = lm ∧ f.a2 = lt
 c : ∀ f ∈ F, f.a2 ≠ lt → f.a1 ≤ om
 d : om = 0 ∨ ∃ f ∈ F, f.a2 ≠ lt ∧ f.a1 = om
theorem Zom {F : List Fc} {lm lt om t x : Int} (h : Ziy F lm lt om) (hx : 0 < x) : (∃ f ∈ F, f.a2 ≠ t ∧ x < f.a1) ↔ x < (if t = lt then om else lm) := by
 by_cases c : t = lt
 ·rw [if_pos c]
  constructor
  ·rintro ⟨f, h1, h2, h3⟩
   have := h.c f h1 (by rw [← c]; exact h2)
   omega
  ·intro q
   rcases h.d with e | ⟨f, h1, h2, h3⟩
   ·omega
   ·exact ⟨f, h1, by rw [c]; exact h2, by omega⟩
 ·rw [if_neg c]
  constructor
  ·rintro ⟨f, h1, h2, h3⟩
   have := h.a f h1
   omega
  ·intro q
   rcases h.b with ⟨_, e, _⟩ | ⟨f, h1, h2, h3⟩
   ·omega
   ·exact ⟨f, h1, by rw [h3]; exact fun e => c e.symm, by omega⟩
theorem ZjO {F : List Fc} {f : Fc} {la lm lt oa om ot : Int} {N : Nat} (h : Ziy F lm lt om) (hF : ∀ g ∈ F, 1 ≤ g.a1) (hf : 1 ≤ f.a1) : ∃ l0 l1 l2 o0 o1 o2, Zbr f.a0 f.a1 f.a2 la lm lt oa om ot N = some (.r0 l0 l1 l2 o0 o1 o2) ∧ Ziy (F ++ [f]) l1 l2 o1 := by
 have hap : ∀ {P : Fc → Prop}, (∀ g ∈ F, P g) → P f → ∀ g ∈ F ++ [f], P g := fun h1 h2 g hg => by
  rcases List.mem_append.1 hg with q | q
  ·exact h1 g q
  ·rw [List.mem_singleton.1 q]; exact h2
 have hin : f ∈ F ++ [f] := by simp
 have hle : ∀ {g}, g ∈ F → g ∈ F ++ [f] := fun q => List.mem_append_left _ q
 unfold Zbr
 by_cases c1 : f.a2 = lt
 ·by_cases c2 : lm < f.a1
  ·exact ⟨_, _, _, _, _, _, Za c1 <| Za c2 rfl, hap (fun g hg => by have := h.a g hg; omega) (Int.le_refl _), .inr ⟨f, hin, rfl, rfl⟩, hap (fun g hg q => h.c g hg (by rw [← c1]; exact q)) (fun q => absurd rfl q), h.d.imp id fun ⟨g, g1, g2, g3⟩ => ⟨g, hle g1, by rw [c1]; exact g2, g3⟩⟩
  ·refine ⟨_, _, _, _, _, _, Za c1 <| Ze c2 rfl, hap h.a (by omega), .inr ?_, hap h.c (fun q => absurd c1 q), h.d.imp id fun ⟨g, g1, g2⟩ => ⟨g, hle g1, g2⟩⟩
   rcases h.b with ⟨_, e, _⟩ | ⟨g, g1, g2⟩
   ·omega
   ·exact ⟨g, hle g1, g2⟩
 ·by_cases c0 : lm = 0
  ·have hnil : F = [] ∧ om = 0 := by
    rcases h.b with ⟨e, _, e2⟩ | ⟨g, g1, g2, _⟩
    ·exact ⟨e, e2⟩
    ·have := hF g g1; omega
   obtain ⟨rfl, rfl⟩ := hnil
   exact ⟨_, _, _, _, _, _, Ze c1 <| Za c0 <| Za (by omega) rfl, hap (fun g hg => by cases hg) (Int.le_refl _), .inr ⟨f, hin, rfl, rfl⟩, hap (fun g hg => by cases hg) (fun q => absurd rfl q), .inl rfl⟩
  ·have hex : ∃ g ∈ F, g.a1 = lm ∧ g.a2 = lt := by
    rcases h.b with ⟨_, e, _⟩ | q
    ·exact absurd e c0
    ·exact q
   obtain ⟨g0, g1, g2, g3⟩ := hex
   by_cases c2 : lm < f.a1
   ·exact ⟨_, _, _, _, _, _, Ze c1 <| Ze c0 <| Za c2 rfl, hap (fun g hg => by have := h.a g hg; omega) (Int.le_refl _), .inr ⟨f, hin, rfl, rfl⟩, hap (fun g hg _ => h.a g hg) (fun q => absurd rfl q), .inr ⟨g0, hle g1, by rw [g3]; exact fun e => c1 e.symm, g2⟩⟩
   ·by_cases c3 : om < f.a1
    ·exact ⟨_, _, _, _, _, _, Ze c1 <| Ze c0 <| Ze c2 <| Za c3 rfl, hap h.a (by omega), .inr ⟨g0, hle g1, g2, g3⟩, hap (fun g hg q => by have := h.c g hg q; omega) (fun _ => Int.le_refl _), .inr ⟨f, hin, c1, rfl⟩⟩
    ·exact ⟨_, _, _, _, _, _, Ze c1 <| Ze c0 <| Ze c2 <| Ze c3 rfl, hap h.a (by omega), .inr ⟨g0, hle g1, g2, g3⟩, hap h.c (fun _ => by omega), h.d.imp id fun ⟨g, q1, q2⟩ => ⟨g, hle q1, q2⟩⟩
theorem Zht {S : List Fc} {p : Nat} (h : p < S.length) : fc S p = S[p] := by simp [fc, List.getD_eq_getElem?_getD, h]
section
variable {L : List Lg} {K : List Rc} {S : List Fc} (hL : L.length ≤ 1000) (hS : S.length ≤ 1000) (hm : ∀ f ∈ S, 1 ≤ f.a1) (hup : S.Pairwise fun a b => ZeJ a ≤ ZeJ b)
include hL hS hm hup
theorem taken {p n : Nat} (hp : p ≤ S.length) (h1 : ∀ i, i < p → (fc S i).a0 ≤ ((n + 1 : Nat) : Int)) (h2 : p = S.length ∨ ¬ (fc S p).a0 ≤ ((n + 1 : Nat) : Int)) (hx : 0 < (st L n).a5) : ZeO S L n ↔ ((st L n).a0 = 5 ∨ (st L n).a0 = 10) ∧ ∃ f ∈ S.take p, f.a2 ≠ (st L n).a1 ∧ (st L n).a5 < f.a1 := by
 have _ := And.intro hL (And.intro hS hm)
 constructor
 ·rintro ⟨k, _, f, f1, f2, f3, f4⟩
  refine ⟨k, f, ?_, f3, f4⟩
  obtain ⟨i, hi, rfl⟩ := List.mem_iff_getElem.1 f1
  by_cases c : i < p
  ·exact List.mem_iff_getElem.2 ⟨i, by rw [List.length_take]; omega, by rw [List.getElem_take]⟩
  ·rcases h2 with e | e
   ·omega
   ·exfalso
    have hpl : p < S.length := by omega
    rw [Zht hpl] at e
    by_cases ei : i = p
    ·subst ei; exact e f2
    ·have : ZeJ S[p] ≤ ZeJ S[i] := List.pairwise_iff_getElem.1 hup p i hpl hi (by omega)
     unfold ZeJ at this
     omega
 ·rintro ⟨k, f, f1, f3, f4⟩
  obtain ⟨i, hi, rfl⟩ := List.mem_iff_getElem.1 f1
  have hip : i < p := by rw [List.length_take] at hi; omega
  have hil : i < S.length := by rw [List.length_take] at hi; omega
  have := h1 i hip
  rw [Zht hil] at this
  rw [List.getElem_take] at f3 f4
  exact ⟨k, hx, _, List.getElem_mem hil, this, f3, f4⟩
theorem dec {p q n : Nat} {la lb lc oa ob oc : Int} (hn : n < L.length) (hq : p + q = S.length) (hb : Ziy (S.take p) lb lc ob) (h1 : ∀ i, i < p → (fc S i).a0 ≤ ((n + 1 : Nat) : Int)) (h2 : p = S.length ∨ ¬ (fc S p).a0 ≤ ((n + 1 : Nat) : Int)) :
  (ZeO S L n ∧ Zs L K 100000 (.h2m2 S p q n n la lb lc oa ob oc (st L n).a0 (st L n).a1 (st L n).a2 (st L n).a3 (st L n).a4 (st L n).a5) = some (.inr (.r0 ((n + 1 : Nat) : Int)))) ∨ (¬ ZeO S L n ∧ Zs L K 100000 (.h2m2 S p q n n la lb lc oa ob oc (st L n).a0 (st L n).a1 (st L n).a2 (st L n).a3 (st L n).a4 (st L n).a5) = some (.inl (.h1m2 S p q (n + 1) la lb lc oa ob oc))) := by
 have hs : ∀ r, Zo L K 100000 S p q n n la lb lc oa ob oc (st L n).a0 (st L n).a1 (st L n).a2 (st L n).a3 (st L n).a4 (st L n).a5 = r → Zs L K 100000 (.h2m2 S p q n n la lb lc oa ob oc (st L n).a0 (st L n).a1 (st L n).a2 (st L n).a3 (st L n).a4 (st L n).a5) = r := fun r h => h
 have hw0 := fun hx => taken hL hS hm hup (n := n) (by omega) h1 h2 hx
 have hh0 : 0 < (st L n).a5 → ((∃ f ∈ S.take p, f.a2 ≠ (st L n).a1 ∧ (st L n).a5 < f.a1) ↔ (st L n).a5 < (if (st L n).a1 = lc then ob else lb)) := fun hx => Zom hb hx
 by_cases c00 : (st L n).a5 ≤ 0
 ·by_cases cq : q = 0
  ·by_cases k5 : (st L n).a0 = 5
   ·have HK : (st L n).a0 = 5 ∨ (st L n).a0 = 10 := .inl k5
    exact .inr ⟨fun q => by have := q.2.1; omega, hs _ (by unfold Zo; exact Za hL <| Ze (by omega) <| Ze (fun q => q k5) <| Za c00 <| Za (by omega) rfl)⟩
   ·by_cases k10 : (st L n).a0 = 10
    ·have HK : (st L n).a0 = 5 ∨ (st L n).a0 = 10 := .inr k10
     exact .inr ⟨fun q => by have := q.2.1; omega, hs _ (by unfold Zo; exact Za hL <| Ze (by omega) <| Za k5 <| Ze (fun q => q k10) <| Za c00 <| Za (by omega) rfl)⟩
    ·exact .inr ⟨fun q => q.1.elim k5 k10, hs _ (by unfold Zo; exact Za hL <| Ze (by omega) <| Za k5 <| Za k10 <| Za (by omega) rfl)⟩
  ·have hpl : p < S.length := by omega
   have hf : ¬ (fc S p).a0 ≤ ((n + 1 : Nat) : Int) := h2.resolve_left (by omega)
   by_cases k5 : (st L n).a0 = 5
   ·have HK : (st L n).a0 = 5 ∨ (st L n).a0 = 10 := .inl k5
    exact .inr ⟨fun q => by have := q.2.1; omega, hs _ (by unfold Zo; exact Za hL <| Za (by omega) <| Za hpl <| Za (by omega) <| Ze hf <| Ze (fun q => q k5) <| Za c00 <| Za (by omega) rfl)⟩
   ·by_cases k10 : (st L n).a0 = 10
    ·have HK : (st L n).a0 = 5 ∨ (st L n).a0 = 10 := .inr k10
     exact .inr ⟨fun q => by have := q.2.1; omega, hs _ (by unfold Zo; exact Za hL <| Za (by omega) <| Za hpl <| Za (by omega) <| Ze hf <| Za k5 <| Ze (fun q => q k10) <| Za c00 <| Za (by omega) rfl)⟩
    ·exact .inr ⟨fun q => q.1.elim k5 k10, hs _ (by unfold Zo; exact Za hL <| Za (by omega) <| Za hpl <| Za (by omega) <| Ze hf <| Za k5 <| Za k10 <| Za (by omega) rfl)⟩
 ·have hw := hw0 (by omega)
  have hh := hh0 (by omega)
  by_cases cq : q = 0
  ·by_cases k5 : (st L n).a0 = 5
   ·have HK : (st L n).a0 = 5 ∨ (st L n).a0 = 10 := .inl k5
    by_cases ct : (st L n).a1 = lc
    ·rw [if_pos ct] at hh
     by_cases cb : (st L n).a5 < ob
     ·exact .inl ⟨hw.2 ⟨HK, hh.2 cb⟩, hs _ (by unfold Zo; exact Za hL <| Ze (by omega) <| Ze (fun q => q k5) <| Ze c00 <| Za ct <| Za cb <| Za (by omega) rfl)⟩
     ·exact .inr ⟨fun q => cb (hh.1 (hw.1 q).2), hs _ (by unfold Zo; exact Za hL <| Ze (by omega) <| Ze (fun q => q k5) <| Ze c00 <| Za ct <| Ze cb <| Za (by omega) rfl)⟩
    ·rw [if_neg ct] at hh
     by_cases cb : (st L n).a5 < lb
     ·exact .inl ⟨hw.2 ⟨HK, hh.2 cb⟩, hs _ (by unfold Zo; exact Za hL <| Ze (by omega) <| Ze (fun q => q k5) <| Ze c00 <| Ze ct <| Za cb <| Za (by omega) rfl)⟩
     ·exact .inr ⟨fun q => cb (hh.1 (hw.1 q).2), hs _ (by unfold Zo; exact Za hL <| Ze (by omega) <| Ze (fun q => q k5) <| Ze c00 <| Ze ct <| Ze cb <| Za (by omega) rfl)⟩
   ·by_cases k10 : (st L n).a0 = 10
    ·have HK : (st L n).a0 = 5 ∨ (st L n).a0 = 10 := .inr k10
     by_cases ct : (st L n).a1 = lc
     ·rw [if_pos ct] at hh
      by_cases cb : (st L n).a5 < ob
      ·exact .inl ⟨hw.2 ⟨HK, hh.2 cb⟩, hs _ (by unfold Zo; exact Za hL <| Ze (by omega) <| Za k5 <| Ze (fun q => q k10) <| Ze c00 <| Za ct <| Za cb <| Za (by omega) rfl)⟩
      ·exact .inr ⟨fun q => cb (hh.1 (hw.1 q).2), hs _ (by unfold Zo; exact Za hL <| Ze (by omega) <| Za k5 <| Ze (fun q => q k10) <| Ze c00 <| Za ct <| Ze cb <| Za (by omega) rfl)⟩
     ·rw [if_neg ct] at hh
      by_cases cb : (st L n).a5 < lb
      ·exact .inl ⟨hw.2 ⟨HK, hh.2 cb⟩, hs _ (by unfold Zo; exact Za hL <| Ze (by omega) <| Za k5 <| Ze (fun q => q k10) <| Ze c00 <| Ze ct <| Za cb <| Za (by omega) rfl)⟩
      ·exact .inr ⟨fun q => cb (hh.1 (hw.1 q).2), hs _ (by unfold Zo; exact Za hL <| Ze (by omega) <| Za k5 <| Ze (fun q => q k10) <| Ze c00 <| Ze ct <| Ze cb <| Za (by omega) rfl)⟩
    ·exact .inr ⟨fun q => q.1.elim k5 k10, hs _ (by unfold Zo; exact Za hL <| Ze (by omega) <| Za k5 <| Za k10 <| Za (by omega) rfl)⟩
  ·have hpl : p < S.length := by omega
   have hf : ¬ (fc S p).a0 ≤ ((n + 1 : Nat) : Int) := h2.resolve_left (by omega)
   by_cases k5 : (st L n).a0 = 5
   ·have HK : (st L n).a0 = 5 ∨ (st L n).a0 = 10 := .inl k5
    by_cases ct : (st L n).a1 = lc
    ·rw [if_pos ct] at hh
     by_cases cb : (st L n).a5 < ob
     ·exact .inl ⟨hw.2 ⟨HK, hh.2 cb⟩, hs _ (by unfold Zo; exact Za hL <| Za (by omega) <| Za hpl <| Za (by omega) <| Ze hf <| Ze (fun q => q k5) <| Ze c00 <| Za ct <| Za cb rfl)⟩
     ·exact .inr ⟨fun q => cb (hh.1 (hw.1 q).2), hs _ (by unfold Zo; exact Za hL <| Za (by omega) <| Za hpl <| Za (by omega) <| Ze hf <| Ze (fun q => q k5) <| Ze c00 <| Za ct <| Ze cb <| Za (by omega) rfl)⟩
    ·rw [if_neg ct] at hh
     by_cases cb : (st L n).a5 < lb
     ·exact .inl ⟨hw.2 ⟨HK, hh.2 cb⟩, hs _ (by unfold Zo; exact Za hL <| Za (by omega) <| Za hpl <| Za (by omega) <| Ze hf <| Ze (fun q => q k5) <| Ze c00 <| Ze ct <| Za cb rfl)⟩
     ·exact .inr ⟨fun q => cb (hh.1 (hw.1 q).2), hs _ (by unfold Zo; exact Za hL <| Za (by omega) <| Za hpl <| Za (by omega) <| Ze hf <| Ze (fun q => q k5) <| Ze c00 <| Ze ct <| Ze cb <| Za (by omega) rfl)⟩
   ·by_cases k10 : (st L n).a0 = 10
    ·have HK : (st L n).a0 = 5 ∨ (st L n).a0 = 10 := .inr k10
     by_cases ct : (st L n).a1 = lc
     ·rw [if_pos ct] at hh
      by_cases cb : (st L n).a5 < ob
      ·exact .inl ⟨hw.2 ⟨HK, hh.2 cb⟩, hs _ (by unfold Zo; exact Za hL <| Za (by omega) <| Za hpl <| Za (by omega) <| Ze hf <| Za k5 <| Ze (fun q => q k10) <| Ze c00 <| Za ct <| Za cb rfl)⟩
      ·exact .inr ⟨fun q => cb (hh.1 (hw.1 q).2), hs _ (by unfold Zo; exact Za hL <| Za (by omega) <| Za hpl <| Za (by omega) <| Ze hf <| Za k5 <| Ze (fun q => q k10) <| Ze c00 <| Za ct <| Ze cb <| Za (by omega) rfl)⟩
     ·rw [if_neg ct] at hh
      by_cases cb : (st L n).a5 < lb
      ·exact .inl ⟨hw.2 ⟨HK, hh.2 cb⟩, hs _ (by unfold Zo; exact Za hL <| Za (by omega) <| Za hpl <| Za (by omega) <| Ze hf <| Za k5 <| Ze (fun q => q k10) <| Ze c00 <| Ze ct <| Za cb rfl)⟩
      ·exact .inr ⟨fun q => cb (hh.1 (hw.1 q).2), hs _ (by unfold Zo; exact Za hL <| Za (by omega) <| Za hpl <| Za (by omega) <| Ze hf <| Za k5 <| Ze (fun q => q k10) <| Ze c00 <| Ze ct <| Ze cb <| Za (by omega) rfl)⟩
    ·exact .inr ⟨fun q => q.1.elim k5 k10, hs _ (by unfold Zo; exact Za hL <| Za (by omega) <| Za hpl <| Za (by omega) <| Ze hf <| Za k5 <| Za k10 <| Za (by omega) rfl)⟩
theorem mid {d n : Nat} (hn : n < L.length) (IH : ∀ (p : Nat) (la lb lc oa ob oc : Int) (f : Nat), p ≤ S.length → 2 * d + (S.length - p) < f → Ziy (S.take p) lb lc ob → (∀ i, i < p → (fc S i).a0 ≤ ((n + 1 : Nat) : Int)) → Zau (Zs L K 100000) f (.h1m2 S p (S.length - p) (n + 1) la lb lc oa ob oc) = some (.r0 (lat (ZeO S L) d (n + 1)))) :
  ∀ (q p : Nat) (la lb lc oa ob oc : Int) (f : Nat), p + q = S.length → 2 * d + q + 1 < f → Ziy (S.take p) lb lc ob → (∀ i, i < p → (fc S i).a0 ≤ ((n + 1 : Nat) : Int)) → Zau (Zs L K 100000) f (.h2m2 S p q n n la lb lc oa ob oc (st L n).a0 (st L n).a1 (st L n).a2 (st L n).a3 (st L n).a4 (st L n).a5) = some (.r0 (lat (ZeO S L) (d + 1) n)) := by
 intro q
 induction q with
 | zero =>
  intro p la lb lc oa ob oc f hq hf hb h1
  obtain ⟨f, rfl⟩ : ∃ g, f = g + 1 := ⟨f - 1, by omega⟩
  rcases dec (K := K) hL hS hm hup hn hq (la := la) (oa := oa) (oc := oc) hb h1 (.inl (by omega)) with ⟨h, hst⟩ | ⟨h, hst⟩
  ·rw [Zj0 h]; exact Zac hst
  ·rw [ZfT h]
   obtain rfl : p = S.length := by omega
   have := IH S.length la lb lc oa ob oc f (Nat.le_refl _) (by omega) hb h1
   rw [Nat.sub_self] at this
   exact (ZL hst).trans this
 | succ q ih =>
  intro p la lb lc oa ob oc f hq hf hb h1
  obtain ⟨f, rfl⟩ : ∃ g, f = g + 1 := ⟨f - 1, by omega⟩
  have hpl : p < S.length := by omega
  by_cases c : (fc S p).a0 ≤ ((n + 1 : Nat) : Int)
  ·have hmem : fc S p ∈ S := by rw [Zht hpl]; exact List.getElem_mem hpl
   obtain ⟨l0, l1, l2, o0, o1, o2, k1, k2⟩ := ZjO (la := la) (oa := oa) (ot := oc) (N := 100000) (f := fc S p) hb (fun g hg => hm g (List.mem_of_mem_take hg)) (hm _ hmem)
   rw [Zhs hpl RA.z] at k2
   have hst : Zs L K 100000 (.h2m2 S p (q + 1) n n la lb lc oa ob oc (st L n).a0 (st L n).a1 (st L n).a2 (st L n).a3 (st L n).a4 (st L n).a5) = some (.inl (.h2m2 S (p + 1) q n n l0 l1 l2 o0 o1 o2 (st L n).a0 (st L n).a1 (st L n).a2 (st L n).a3 (st L n).a4 (st L n).a5)) := by
    show Zo L K 100000 S p (q + 1) n n la lb lc oa ob oc (st L n).a0 (st L n).a1 (st L n).a2 (st L n).a3 (st L n).a4 (st L n).a5 = _
    unfold Zo
    exact Za hL <| Za (by omega) <| Za hpl <| Za (by omega) <| Za c <| Zao k1 rfl
   exact (ZL hst).trans (ih (p + 1) l0 l1 l2 o0 o1 o2 f (by omega) (by omega) k2 fun i hi => by
    by_cases e : i = p
    ·subst e; exact c
    ·exact h1 i (by omega))
  ·rcases dec (K := K) hL hS hm hup hn hq (la := la) (oa := oa) (oc := oc) hb h1 (.inr c) with ⟨h, hst⟩ | ⟨h, hst⟩
   ·rw [Zj0 h]; exact Zac hst
   ·rw [ZfT h]
    have := IH p la lb lc oa ob oc f (by omega) (by omega) hb h1
    rw [show S.length - p = q + 1 by omega] at this
    exact (ZL hst).trans this
theorem late2 : ∀ (d n p : Nat) (la lb lc oa ob oc : Int) (f : Nat), n + d = L.length → p ≤ S.length → 2 * d + (S.length - p) < f → Ziy (S.take p) lb lc ob → (∀ i, i < p → (fc S i).a0 ≤ (n : Int)) → Zau (Zs L K 100000) f (.h1m2 S p (S.length - p) n la lb lc oa ob oc) = some (.r0 (lat (ZeO S L) d n)) := by
 intro d
 induction d with
 | zero =>
  intro n p la lb lc oa ob oc f hd hp hf hb h1
  obtain ⟨f, rfl⟩ : ∃ g, f = g + 1 := ⟨f - 1, by omega⟩
  refine Zac ?_
  show ZaF L K 100000 S p (S.length - p) n la lb lc oa ob oc = _
  unfold ZaF
  exact Za hL <| Ze (by omega) rfl
 | succ d ih =>
  intro n p la lb lc oa ob oc f hd hp hf hb h1
  obtain ⟨f, rfl⟩ : ∃ g, f = g + 1 := ⟨f - 1, by omega⟩
  have hst : Zs L K 100000 (.h1m2 S p (S.length - p) n la lb lc oa ob oc) = some (.inl (.h2m2 S p (S.length - p) n n la lb lc oa ob oc (st L n).a0 (st L n).a1 (st L n).a2 (st L n).a3 (st L n).a4 (st L n).a5)) := by
   show ZaF L K 100000 S p (S.length - p) n la lb lc oa ob oc = _
   unfold ZaF
   exact Za hL <| Za (by omega) rfl
  refine (ZL hst).trans (mid (K := K) hL hS hm hup (by omega) (fun p2 a1 a2 a3 a4 a5 a6 f2 q1 q2 q3 q4 => ih (n + 1) p2 a1 a2 a3 a4 a5 a6 f2 (by omega) q1 q2 q3 q4) (S.length - p) p la lb lc oa ob oc f (by omega) (by omega) hb fun i hi => ?_)
  have := h1 i hi
  omega
theorem late1 (hne : 0 < S.length) : ∀ (d n f : Nat), n + d = L.length → 2 * d + S.length < f → Zau (Zs L K 100000) f (.h1m1 S S.length n) = some (.r0 (lat (ZeO S L) d n)) := by
 intro d
 induction d with
 | zero =>
  intro n f hd hf
  obtain ⟨f, rfl⟩ : ∃ g, f = g + 1 := ⟨f - 1, by omega⟩
  refine Zac ?_
  show ZaE L K 100000 S S.length n = _
  unfold ZaE
  exact Za hL <| Ze (by omega) rfl
 | succ d ih =>
  intro n f hd hf
  obtain ⟨f, rfl⟩ : ∃ g, f = g + 1 + 1 := ⟨f - 2, by omega⟩
  have hst : Zs L K 100000 (.h1m1 S S.length n) = some (.inl (.h2m1 S S.length n n (st L n).a0 (st L n).a1 (st L n).a2 (st L n).a3 (st L n).a4 (st L n).a5)) := by
   show ZaE L K 100000 S S.length n = _
   unfold ZaE
   exact Za hL <| Za (by omega) rfl
  have hm0 : fc S 0 ∈ S := by rw [Zht hne]; exact List.getElem_mem hne
  by_cases c : (fc S 0).a0 ≤ ((n + 1 : Nat) : Int)
  ·obtain ⟨l0, l1, l2, o0, o1, o2, k1, k2⟩ := ZjO (F := []) (la := 0) (lm := 0) (lt := 0) (oa := 0) (om := 0) (ot := 0) (N := 100000) (f := fc S 0) ⟨fun g hg => (by cases hg), .inl ⟨rfl, rfl, rfl⟩, fun g hg => (by cases hg), .inl rfl⟩ (fun g hg => (by cases hg)) (hm _ hm0)
   have ht : S.take 1 = [] ++ [fc S 0] := by
    have := Zhs (L := S) (i := 0) hne RA.z
    simpa using this.symm
   rw [← ht] at k2
   have hst2 : Zs L K 100000 (.h2m1 S S.length n n (st L n).a0 (st L n).a1 (st L n).a2 (st L n).a3 (st L n).a4 (st L n).a5) = some (.inl (.h2m2 S 1 (S.length - 1) n n l0 l1 l2 o0 o1 o2 (st L n).a0 (st L n).a1 (st L n).a2 (st L n).a3 (st L n).a4 (st L n).a5)) := by
    show ZaG L K 100000 S S.length n n (st L n).a0 (st L n).a1 (st L n).a2 (st L n).a3 (st L n).a4 (st L n).a5 = _
    unfold ZaG
    exact Za hL <| Za (by omega) <| Za hne <| Za (by omega) <| Za c <| Zao k1 rfl
   refine (ZL hst).trans ((ZL hst2).trans (mid (K := K) hL hS hm hup (by omega) (fun p2 a1 a2 a3 a4 a5 a6 f2 q1 q2 q3 q4 => late2 (K := K) hL hS hm hup d (n + 1) p2 a1 a2 a3 a4 a5 a6 f2 (by omega) q1 q2 q3 q4) (S.length - 1) 1 l0 l1 l2 o0 o1 o2 f (by omega) (by omega) k2 fun i hi => ?_))
   rw [Nat.lt_one_iff.1 hi]; exact c
  ·have hst2 : Zs L K 100000 (.h2m1 S S.length n n (st L n).a0 (st L n).a1 (st L n).a2 (st L n).a3 (st L n).a4 (st L n).a5) = some (.inl (.h1m1 S S.length (n + 1))) := by
    show ZaG L K 100000 S S.length n n (st L n).a0 (st L n).a1 (st L n).a2 (st L n).a3 (st L n).a4 (st L n).a5 = _
    unfold ZaG
    exact Za hL <| Za (by omega) <| Za hne <| Za (by omega) <| Ze c <| Za (by omega) rfl
   have hno : ¬ ZeO S L n := by
    rintro ⟨_, _, f, f1, f2, _⟩
    obtain ⟨i, hi, rfl⟩ := List.mem_iff_getElem.1 f1
    rw [Zht hne] at c
    by_cases e : i = 0
    ·subst e; exact c f2
    ·have : ZeJ S[0] ≤ ZeJ S[i] := List.pairwise_iff_getElem.1 hup 0 i hne hi (by omega)
     unfold ZeJ at this
     omega
   rw [ZfT hno]
   exact (ZL hst).trans ((ZL hst2).trans (ih (n + 1) f (by omega) (by omega)))
end
theorem late0 {L : List Lg} {K : List Rc} (hL : L.length ≤ 1000) : ∀ (d n f : Nat), n + d = L.length → 2 * d < f → Zau (Zs L K 100000) f (.h1m0 n) = some (.r0 0) := by
 intro d
 induction d with
 | zero =>
  intro n f hd hf
  obtain ⟨f, rfl⟩ : ∃ g, f = g + 1 := ⟨f - 1, by omega⟩
  refine Zac ?_
  show ZaD L K 100000 n = _
  unfold ZaD
  exact Za hL <| Ze (by omega) rfl
 | succ d ih =>
  intro n f hd hf
  obtain ⟨f, rfl⟩ : ∃ g, f = g + 1 + 1 := ⟨f - 2, by omega⟩
  have hst : Zs L K 100000 (.h1m0 n) = some (.inl (.h2m0 n n (st L n).a0 (st L n).a1 (st L n).a2 (st L n).a3 (st L n).a4 (st L n).a5)) := by
   show ZaD L K 100000 n = _
   unfold ZaD
   exact Za hL <| Za (by omega) rfl
  have hst2 : Zs L K 100000 (.h2m0 n n (st L n).a0 (st L n).a1 (st L n).a2 (st L n).a3 (st L n).a4 (st L n).a5) = some (.inl (.h1m0 (n + 1))) := by
   show Zb0 L K 100000 n n (st L n).a0 (st L n).a1 (st L n).a2 (st L n).a3 (st L n).a4 (st L n).a5 = _
   unfold Zb0
   exact Za hL <| Za (by omega) rfl
  exact (ZL hst).trans ((ZL hst2).trans (ih (n + 1) f (by omega) (by omega)))
theorem Zlp {h : Nat → Prop} : ∀ (d n : Nat), (∀ i, ¬ h i) → lat h d n = 0
 | 0, _, _ => rfl
 | d + 1, n, q => by rw [ZfT (q n)]; exact Zlp d (n + 1) q
theorem ZoF {L : List Lg} {K : List Rc} (hL : L.length ≤ 1000) (hK : K.length ≤ 100) : ∃ S : List Fc, S.Perm (fl L K) ∧ Zc6 L K 100000 = some (.r0 (lat (ZeO S L) L.length 0)) := by
 have hfl : (fl L K).length ≤ 100 := by
  have h1 := List.length_filterMap_le (fun e : Rc => if (pv L e).2 = true then some (⟨(pv L e).1, e.a4, e.a1⟩ : Fc) else none) K
  unfold fl; omega
 have hf := Zn5 hL hK
 by_cases c : fl L K = []
 ·rw [if_pos c] at hf
  refine ⟨[], by rw [c], ?_⟩
  rw [Zlp _ _ (fun i q => by obtain ⟨_, _, f, hf, _⟩ := q; cases hf)]
  refine (ZeN (x := .h1m0 0) ?_).trans (late0 hL L.length 0 100000 (by omega) (by omega))
  unfold Zcd
  exact Zao hf rfl
 ·rw [if_neg c] at hf
  have hs := @Zgp RA ⟨RA.z⟩ ZeJ (fl L K)
  have hp : (Zby (fl L K)).Perm (fl L K) := hs.1
  have hl := hp.length_eq
  refine ⟨Zby (fl L K), hp, ?_⟩
  have hm : ∀ f ∈ Zby (fl L K), 1 ≤ f.a1 := fun f hf => by
   obtain ⟨e, he, hx⟩ := List.mem_filterMap.1 (hp.subset hf)
   by_cases cb : (pv L e).2 = true
   ·rw [if_pos cb] at hx
    injection hx with hx
    subst hx
    exact (Zh6 hL e).2.2 cb
   ·rw [if_neg cb] at hx; cases hx
  have hne : 0 < (Zby (fl L K)).length := by rw [hl]; exact Nat.pos_of_ne_zero fun e => c (List.length_eq_zero_iff.1 e)
  refine (ZeN (x := .h1m1 (Zby (fl L K)) (Zby (fl L K)).length 0) ?_).trans (late1 (K := K) hL (by omega) hm hs.2 hne L.length 0 100000 (by omega) (by omega))
  unfold Zcd
  rw [hl]
  exact Zao hf rfl
end Ol
end Ev
end Go.Proofs.YtgdboobcomomdaaGreat
/- The first step that writes too late, as the document has it; the law: plain. -/
namespace Go.Proofs.YtgdboobcomomdaaGreat
open Go.RowKit
namespace Ev
namespace Ol
set_option linter.unusedVariables false
set_option linter.unusedSimpArgs false
def Lt (L : List Lg) (n : Nat) (e : Rc) : Prop := (pv L e).2 = true ∧ (pv L e).1 ≤ ((n + 1 : Nat) : Int) ∧ e.a1 ≠ (st L n).a1 ∧ (st L n).a5 < e.a4
def Zhu (L : List Lg) (K : List Rc) (n : Nat) : Prop := ((st L n).a0 = 5 ∨ (st L n).a0 = 10) ∧ 0 < (st L n).a5 ∧ ∃ e ∈ K, Lt L n e
theorem ZoG {L : List Lg} {K : List Rc} {S : List Fc} (hp : S.Perm (fl L K)) (n : Nat) : ZeO S L n ↔ Zhu L K n := by
 constructor
 ·rintro ⟨k, h0, f, f1, f2, f3, f4⟩
  obtain ⟨e, he, hx⟩ := List.mem_filterMap.1 (hp.subset f1)
  by_cases cb : (pv L e).2 = true
  ·rw [if_pos cb] at hx
   injection hx with hx
   subst hx
   exact ⟨k, h0, e, he, cb, f2, f3, f4⟩
  ·rw [if_neg cb] at hx; cases hx
 ·rintro ⟨k, h0, e, he, e1, e2, e3, e4⟩
  refine ⟨k, h0, ⟨(pv L e).1, e.a4, e.a1⟩, hp.symm.subset ?_, e2, e3, e4⟩
  exact List.mem_filterMap.2 ⟨e, he, if_pos e1⟩
theorem Zn6 {K : List Rc} {p : Nat} (h : p < K.length) : ev K p = K[p] := by simp [ev, List.getD_eq_getElem?_getD, h]
theorem ZoZ {L : List Lg} {K : List Rc} {n : Nat} (hL : L.length ≤ 1000) (hK : K.length ≤ 100) (hn : n < L.length) : ∀ (q i f : Nat), i + q = K.length →
  ((∃ j, i ≤ j ∧ j < K.length ∧ Lt L n (ev K j)) ∧ Zau (ZE L K 100000) (f + q + 1) (.h2m0 n i (st L n).a0 (st L n).a1 (st L n).a2 (st L n).a3 (st L n).a4 (st L n).a5) = some (.r0 ((n + 1 : Nat) : Int))) ∨ ((∀ j, i ≤ j → j < K.length → ¬ Lt L n (ev K j)) ∧ Zau (ZE L K 100000) (f + q + 1) (.h2m0 n i (st L n).a0 (st L n).a1 (st L n).a2 (st L n).a3 (st L n).a4 (st L n).a5) = Zau (ZE L K 100000) f (.h1m0 (n + 1))) := by
 intro q
 induction q with
 | zero =>
  intro i f hq
  refine .inr ⟨fun j h1 h2 => by omega, ZL ?_⟩
  show ZZ L K 100000 n i (st L n).a0 (st L n).a1 (st L n).a2 (st L n).a3 (st L n).a4 (st L n).a5 = _
  unfold ZZ
  exact Za hL <| Ze (by omega) <| Za (by omega) rfl
 | succ q ih =>
  intro i f hq
  have hi : i < K.length := by omega
  obtain ⟨_, p2, _⟩ := Zh6 hL (ev K i)
  have hs : ∀ r, ZZ L K 100000 n i (st L n).a0 (st L n).a1 (st L n).a2 (st L n).a3 (st L n).a4 (st L n).a5 = r → ZE L K 100000 (.h2m0 n i (st L n).a0 (st L n).a1 (st L n).a2 (st L n).a3 (st L n).a4 (st L n).a5) = r := fun r h => h
  have next : ¬ Lt L n (ev K i) → ZZ L K 100000 n i (st L n).a0 (st L n).a1 (st L n).a2 (st L n).a3 (st L n).a4 (st L n).a5 = some (.inl (.h2m0 n (i + 1) (st L n).a0 (st L n).a1 (st L n).a2 (st L n).a3 (st L n).a4 (st L n).a5)) →
    ((∃ j, i ≤ j ∧ j < K.length ∧ Lt L n (ev K j)) ∧ Zau (ZE L K 100000) (f + (q + 1) + 1) (.h2m0 n i (st L n).a0 (st L n).a1 (st L n).a2 (st L n).a3 (st L n).a4 (st L n).a5) = some (.r0 ((n + 1 : Nat) : Int))) ∨ ((∀ j, i ≤ j → j < K.length → ¬ Lt L n (ev K j)) ∧ Zau (ZE L K 100000) (f + (q + 1) + 1) (.h2m0 n i (st L n).a0 (st L n).a1 (st L n).a2 (st L n).a3 (st L n).a4 (st L n).a5) = Zau (ZE L K 100000) f (.h1m0 (n + 1))) := fun h0 h1 => by
   rw [show f + (q + 1) + 1 = (f + q + 1) + 1 by omega, ZL (hs _ h1)]
   rcases ih (i + 1) f (by omega) with ⟨⟨j, j1, j2, j3⟩, h2⟩ | ⟨h2, h3⟩
   ·exact .inl ⟨⟨j, by omega, j2, j3⟩, h2⟩
   ·refine .inr ⟨fun j j1 j2 => ?_, h3⟩
    by_cases e : j = i
    ·subst e; exact h0
    ·exact h2 j (by omega) j2
  by_cases c1 : (pv L (ev K i)).2 = true
  ·by_cases c2 : (pv L (ev K i)).1 ≤ ((n + 1 : Nat) : Int)
   ·by_cases c3 : (ev K i).a1 = (st L n).a1
    ·refine next (fun q => q.2.2.1 c3) ?_
     unfold ZZ
     exact Za hL <| Za (by omega) <| Zao p2 <| Za c1 <| Za (by omega) <| Za c2 <| Ze (fun q => q c3) <| Za (by omega) rfl
    ·by_cases c4 : (st L n).a5 < (ev K i).a4
     ·refine .inl ⟨⟨i, Nat.le_refl _, hi, c1, c2, c3, c4⟩, Zac (hs _ ?_)⟩
      unfold ZZ
      exact Za hL <| Za (by omega) <| Zao p2 <| Za c1 <| Za (by omega) <| Za c2 <| Za c3 <| Za c4 rfl
     ·refine next (fun q => c4 q.2.2.2) ?_
      unfold ZZ
      exact Za hL <| Za (by omega) <| Zao p2 <| Za c1 <| Za (by omega) <| Za c2 <| Za c3 <| Ze c4 <| Za (by omega) rfl
   ·refine next (fun q => c2 q.2.1) ?_
    unfold ZZ
    exact Za hL <| Za (by omega) <| Zao p2 <| Za c1 <| Za (by omega) <| Ze c2 <| Za (by omega) rfl
  ·refine next (fun q => c1 q.1) ?_
   unfold ZZ
   exact Za hL <| Za (by omega) <| Zao p2 <| Ze c1 <| Za (by omega) rfl
theorem Zon {L : List Lg} {K : List Rc} (hL : L.length ≤ 1000) (hK : K.length ≤ 100) : ∀ (d n f : Nat), n + d = L.length → 200 * d < f → Zau (ZE L K 100000) f (.h1m0 n) = some (.r0 (lat (Zhu L K) d n)) := by
 intro d
 induction d with
 | zero =>
  intro n f hd hf
  obtain ⟨f, rfl⟩ : ∃ g, f = g + 1 := ⟨f - 1, by omega⟩
  refine Zac ?_
  show ZT L K 100000 n = _
  unfold ZT
  exact Za hL <| Ze (by omega) rfl
 | succ d ih =>
  intro n f hd hf
  have hs : ∀ r, ZT L K 100000 n = r → ZE L K 100000 (.h1m0 n) = r := fun r h => h
  have next : ¬ Zhu L K n → ZT L K 100000 n = some (.inl (.h1m0 (n + 1))) → Zau (ZE L K 100000) f (.h1m0 n) = some (.r0 (lat (Zhu L K) (d + 1) n)) := fun h0 h1 => by
   obtain ⟨f, rfl⟩ : ∃ g, f = g + 1 := ⟨f - 1, by omega⟩
   rw [ZfT h0]
   exact (ZL (hs _ h1)).trans (ih (n + 1) f (by omega) (by omega))
  have go : ((st L n).a0 = 5 ∨ (st L n).a0 = 10) → 0 < (st L n).a5 → ZT L K 100000 n = some (.inl (.h2m0 n 0 (st L n).a0 (st L n).a1 (st L n).a2 (st L n).a3 (st L n).a4 (st L n).a5)) → Zau (ZE L K 100000) f (.h1m0 n) = some (.r0 (lat (Zhu L K) (d + 1) n)) := fun hk h0 h1 => by
   obtain ⟨f, rfl⟩ : ∃ g, f = (g + K.length + 1) + 1 := ⟨f - K.length - 2, by omega⟩
   rw [ZL (hs _ h1)]
   rcases ZoZ (K := K) (n := n) hL hK (by omega) K.length 0 f (by omega) with ⟨⟨j, _, j2, j3⟩, h2⟩ | ⟨h2, h3⟩
   ·rw [Zj0 (h := Zhu L K) ⟨hk, h0, ev K j, by rw [Zn6 j2]; exact List.getElem_mem j2, j3⟩]
    exact h2
   ·rw [ZfT (h := Zhu L K) (fun q => by
     obtain ⟨_, _, e, he, hq⟩ := q
     obtain ⟨j, hj, rfl⟩ := List.mem_iff_getElem.1 he
     rw [← Zn6 hj] at hq
     exact h2 j (Nat.zero_le _) hj hq)]
    exact h3.trans (ih (n + 1) f (by omega) (by omega))
  by_cases k5 : (st L n).a0 = 5
  ·by_cases c0 : (st L n).a5 ≤ 0
   ·refine next (fun q => by have := q.2.1; omega) ?_
    unfold ZT
    exact Za hL <| Za (by omega) <| Ze (fun q => q k5) <| Za c0 rfl
   ·refine go (.inl k5) (by omega) ?_
    unfold ZT
    exact Za hL <| Za (by omega) <| Ze (fun q => q k5) <| Ze c0 rfl
  ·by_cases k10 : (st L n).a0 = 10
   ·by_cases c0 : (st L n).a5 ≤ 0
    ·refine next (fun q => by have := q.2.1; omega) ?_
     unfold ZT
     exact Za hL <| Za (by omega) <| Za k5 <| Ze (fun q => q k10) <| Za c0 rfl
    ·refine go (.inr k10) (by omega) ?_
     unfold ZT
     exact Za hL <| Za (by omega) <| Za k5 <| Ze (fun q => q k10) <| Ze c0 rfl
   ·refine next (fun q => q.1.elim k5 k10) ?_
    unfold ZT
    exact Za hL <| Za (by omega) <| Za k5 <| Za k10 rfl
theorem Zn7 {L : List Lg} {K : List Rc} (hL : L.length ≤ 400) (hK : K.length ≤ 100) : ∃ w, Zc6 L K 100000 = some (.r0 w) ∧ Zd3 L K 100000 = some (.r0 w) := by
 obtain ⟨S, hp, h1⟩ := ZoF (K := K) (show L.length ≤ 1000 by omega) hK
 have e : ZeO S L = Zhu L K := funext fun n => propext (ZoG hp n)
 rw [e] at h1
 exact ⟨_, h1, Zon (by omega) hK L.length 0 100000 (by omega) (by omega)⟩
theorem Zn8 {L : List Lg} (hL : L.length ≤ 1000) : ZdL L 100000 = some .r0 := by
 have h0 : Zdg L 100000 = some .r0 := by
  show Zau (Zb7 L 100000) (99999 + 1) .h1m0 = _
  refine Zac ?_
  show Zbz L 100000 = _
  unfold Zbz
  exact Za hL <| Zao (show Z8 100000 = some .r0 from rfl) rfl
 have go : ∀ (d n f : Nat), n + d = L.length → 2 * d < f → Zau (ZaN L 100000) f (.h1m0 n) = some .r0 := by
  intro d
  induction d with
  | zero =>
   intro n f hd hf
   obtain ⟨f, rfl⟩ : ∃ g, f = g + 1 := ⟨f - 1, by omega⟩
   refine Zac ?_
   show ZaW L 100000 n = _
   unfold ZaW
   exact Za hL <| Ze (by omega) rfl
  | succ d ih =>
   intro n f hd hf
   obtain ⟨f, rfl⟩ : ∃ g, f = g + 1 + 1 := ⟨f - 2, by omega⟩
   have hst : ZaN L 100000 (.h1m0 n) = some (.inl (.h2m0 n n (st L n).a0 (st L n).a1 (st L n).a2 (st L n).a3 (st L n).a4 (st L n).a5)) := by
    show ZaW L 100000 n = _
    unfold ZaW
    exact Za hL <| Za (by omega) rfl
   have hst2 : ZaN L 100000 (.h2m0 n n (st L n).a0 (st L n).a1 (st L n).a2 (st L n).a3 (st L n).a4 (st L n).a5) = some (.inl (.h1m0 (n + 1))) := by
    show ZbM L 100000 n n (st L n).a0 (st L n).a1 (st L n).a2 (st L n).a3 (st L n).a4 (st L n).a5 = _
    unfold ZbM
    exact Za hL <| Za (by omega) rfl
   exact (ZL hst).trans ((ZL hst2).trans (ih (n + 1) f (by omega) (by omega)))
 refine (ZeN (x := .h1m0 0) ?_).trans (go L.length 0 100000 (by omega) (by omega))
 unfold Zdh
 exact Zao h0 rfl
theorem Zoo {L : List Lg} (hL : L.length ≤ 1000) : Zew L 100000 = some .r0 := by
 have go : ∀ (d n f : Nat), n + d = L.length → 2 * d < f → Zau (Za5 L 100000) f (.h1m0 n) = some .r0 := by
  intro d
  induction d with
  | zero =>
   intro n f hd hf
   obtain ⟨f, rfl⟩ : ∃ g, f = g + 1 := ⟨f - 1, by omega⟩
   refine Zac ?_
   show Zae L 100000 n = _
   unfold Zae
   exact Za hL <| Ze (by omega) rfl
  | succ d ih =>
   intro n f hd hf
   obtain ⟨f, rfl⟩ : ∃ g, f = g + 1 + 1 := ⟨f - 2, by omega⟩
   have hs : ∀ r, Zae L 100000 n = r → Za5 L 100000 (.h1m0 n) = r := fun r h => h
   have next : Zae L 100000 n = some (.inl (.h1m0 (n + 1))) → Zau (Za5 L 100000) (f + 1 + 1) (.h1m0 n) = some .r0 := fun h => (ZL (hs _ h)).trans (ih (n + 1) (f + 1) (by omega) (by omega))
   have go2 : Zae L 100000 n = some (.inl (.h2m0 n (st L n).a0 (st L n).a1 (st L n).a2 (st L n).a3 (st L n).a4 (st L n).a5)) → Zau (Za5 L 100000) (f + 1 + 1) (.h1m0 n) = some .r0 := fun h => by
    have hst2 : Za5 L 100000 (.h2m0 n (st L n).a0 (st L n).a1 (st L n).a2 (st L n).a3 (st L n).a4 (st L n).a5) = some (.inl (.h1m0 (n + 1))) := by
     show Zcb L 100000 n (st L n).a0 (st L n).a1 (st L n).a2 (st L n).a3 (st L n).a4 (st L n).a5 = _
     unfold Zcb
     exact Za hL <| Za (by omega) rfl
    exact (ZL (hs _ h)).trans ((ZL hst2).trans (ih (n + 1) f (by omega) (by omega)))
   by_cases k5 : (st L n).a0 = 5
   ·by_cases c0 : (st L n).a5 ≤ 0
    ·exact next (by unfold Zae; exact Za hL <| Za (by omega) <| Ze (fun q => q k5) <| Za c0 rfl)
    ·exact go2 (by unfold Zae; exact Za hL <| Za (by omega) <| Ze (fun q => q k5) <| Ze c0 rfl)
   ·by_cases k10 : (st L n).a0 = 10
    ·by_cases c0 : (st L n).a5 ≤ 0
     ·exact next (by unfold Zae; exact Za hL <| Za (by omega) <| Za k5 <| Ze (fun q => q k10) <| Za c0 rfl)
     ·exact go2 (by unfold Zae; exact Za hL <| Za (by omega) <| Za k5 <| Ze (fun q => q k10) <| Ze c0 rfl)
    ·exact next (by unfold Zae; exact Za hL <| Za (by omega) <| Za k5 <| Za k10 rfl)
 exact go L.length 0 100000 (by omega) (by omega)
theorem runs (L0 : List Lg) (L1 : List Rc) : ZeL L0 L1 100000 = some (.r0 true) := by
 obtain ⟨M, hM, hMl⟩ : ∃ M, (L0.take ((if (200 : Int) < (L0.length : Int) then (200 : Int) else (L0.length : Int))).toNat) = M ∧ M.length ≤ 400 := ⟨_, rfl, by rw [List.length_take]; split <;> omega⟩
 rcases ZoY (L := L1) (N := 100000) (by omega) with h | ⟨K, h, hK⟩
 ·have hst : Za1 L0 L1 100000 .h1m0 = some (.inr (.r0 true)) := by
   show Zba L0 L1 100000 = _
   unfold Zba
   rw [hM]
   exact Zao (Zn8 (by omega)) <| Zao (Zoo (by omega)) rfl
  refine (ZeN (x := .h1m0) ?_).trans (Zac (n := 99999) hst)
  unfold Zb1
  exact Zao h rfl
 ·have go : ∀ (d n f : Nat), n + d = K.length → d < f → Zau (Za1 L0 L1 100000) f (.h1m1 K n) = some (.r0 true) := by
   intro d
   induction d with
   | zero =>
    intro n f hd hf
    obtain ⟨f, rfl⟩ : ∃ g, f = g + 1 := ⟨f - 1, by omega⟩
    refine Zac ?_
    obtain ⟨w, w1, w2⟩ := Zn7 (L := M) (K := K) hMl (by omega)
    show Zax L0 L1 100000 K n = _
    unfold Zax
    rw [hM]
    exact Ze (by omega) <| Zao w1 <| Zao w2 <| Za rfl rfl
   | succ d ih =>
    intro n f hd hf
    obtain ⟨f, rfl⟩ : ∃ g, f = g + 1 := ⟨f - 1, by omega⟩
    obtain ⟨p1, p2, _⟩ := Zh6 (show M.length ≤ 1000 by omega) (ev K n)
    refine (ZL (y := .h1m1 K (n + 1)) ?_).trans (ih (n + 1) f (by omega) (by omega))
    show Zax L0 L1 100000 K n = _
    unfold Zax
    rw [hM]
    exact Za (by omega) <| Zao p1 <| Zao p2 <| Ze (fun q => q rfl) <| Ze (fun q => q rfl) <| Za (by omega) rfl
  refine (ZeN (x := .h1m1 K 0) ?_).trans (go K.length 0 100000 (by omega) (by omega))
  unfold Zb1
  exact Zao h rfl
end Ol
end Ev
end Go.Proofs.YtgdboobcomomdaaGreat
/- A region that draws its order, whose first operations only read (and make memory in calls), and whose last ones, in a forced order among themselves, make and write new memory: but these may come up early. -/
namespace Go.Proofs.YtgdboobcomomdaaGreat
open Go.RowKit

section
variable {P : Program}

def Calm (P : Program) (W : World) (o : Oper) (a : Act) (v : Value) : Prop :=
 ∀ w, Below W.heap.size W w → o.quietAt P a (fun w' => Below w.heap.size w w') w v

def YieldsC (P : Program) (ops : Array Oper) (W : World) (o : Oper) (v : Value) (a : Act) : Prop :=
 (Region.wanted o (yielded ops a.tmps) = true ∧ Calm P W o a v) ∨ (Region.wanted o (yielded ops a.tmps) = false ∧ v = undef)
theorem ZjP {a b c : World} (h : Below a.heap.size a b) (k : Below b.heap.size b c) : Below a.heap.size a c := h.trans (k.mono h.size)

def Closed (md : Region.Mode) (ops : Array Oper) (listed : Array Bool) : Prop :=
 ∀ j oj, ops[j]? = some oj → listed.getD j false = true → ∀ e ∈ oj.after, Region.binds md e = true → listed.getD e.on false = true
def Zlq (md : Region.Mode) (ops : Array Oper) : Nat → Nat → Nat → Bool
 | 0, _, _ => false
 | f + 1, t, i => Region.waitsFor md ops t i || (List.range ops.size).any fun k => Region.waitsFor md ops t k && Zlq md ops f k i
theorem Closed.waits {md : Region.Mode} {ops : Array Oper} {listed : Array Bool} (h : Closed md ops listed) : ∀ (f t i : Nat), listed.getD t false = true → Zlq md ops f t i = true → listed.getD i false = true
 | 0, _, _, _, hw => by cases hw
 | f + 1, t, i, ht, hw => by
  simp only [Zlq, Bool.or_eq_true, List.any_eq_true, Bool.and_eq_true] at hw
  rcases hw with hw | ⟨k, _, hw, hr⟩
  ·obtain ⟨o, ho, e, he, hb, rfl⟩ := Region.waitsFor_spec hw
   exact h t o ho ht e he hb
  ·obtain ⟨o, ho, e, he, hb, rfl⟩ := Region.waitsFor_spec hw
   exact h.waits f e.on i (h t o ho ht e he hb) hr

theorem YieldsC.wpOp {ops : Array Oper} {W : World} {i : Nat} {o : Oper} {v : Value} {a : Act} {w : World} (hi : ops[i]? = some o) (hy : YieldsC P ops W o v a) (hb : Below W.heap.size W w)
  {K : Act → World → Prop} {Q : Exit → Act → World → Prop} (h : ∀ w', Below w.heap.size w w' → K (a.put o.dst v) w') : wpOp P ops Q i K a w := by
 unfold Go.wpOp
 simp only [hi]
 rcases hy with ⟨hw, hv⟩ | ⟨hw, rfl⟩
 ·simp only [hw, if_true]
  exact .inl (Oper.wp_of_quiet (C := fun w' => Below w.heap.size w w') (K := fun a' => a' = a.put o.dst v) (Below.refl _ _) (fun a' w' hw' ha => by subst ha; exact h w' hw')
   ⟨v, fun w1 hw1 => by
    have h1 := hv w1 (ZjP hb hw1)
    unfold Oper.quietAt at h1 ⊢
    generalize (execOp a.eval o).run P w1 = r at *
    cases r with
    | ok n w' =>
     cases n <;> simp only [Oper.quietUpon] at h1 ⊢
     case value u => exact h1
     case skip => exact h1
     case enter f args => exact ⟨h1.1, h1.2.mono fun e w2 ⟨he, hb2⟩ => ⟨he, ZjP hw1 hb2⟩⟩
    | halt x w' => simp only [Oper.quietUpon] at h1, rfl⟩)
 ·simp only [hw, Bool.false_eq_true, if_false]
  exact h w (Below.refl _ _)

end
end Go.Proofs.YtgdboobcomomdaaGreat
/- The law OpaqueLate, for every input. -/
namespace Go.Proofs.YtgdboobcomomdaaGreat
open Go.ChangeShapes Go.WideShapes Go.ChangeAt Go.RowKit
namespace Ev
namespace OpaqueLate
set_option linter.unusedVariables false
def el0R (x : RB) : Prop := (IntKind.i64.min ≤ x.a0 ∧ x.a0 ≤ IntKind.i64.max) ∧ (IntKind.i64.min ≤ x.a1 ∧ x.a1 ≤ IntKind.i64.max) ∧ (IntKind.i64.min ≤ x.a2 ∧ x.a2 ≤ IntKind.i64.max) ∧ (IntKind.i64.min ≤ x.a3 ∧ x.a3 ≤ IntKind.i64.max) ∧ (IntKind.i64.min ≤ x.a4 ∧ x.a4 ≤ IntKind.i64.max) ∧ (IntKind.i64.min ≤ x.a5 ∧ x.a5 ≤ IntKind.i64.max)
theorem el0 {H : Type} {enc : TypeId × Value → H} {w : World} {cs : List Value} (hl : cs.length = 6) (h : Trd enc Tryz.prog w 41 cs) : ∃ x : RB, DecL w cs (E_iiiiii.cel x) ∧ el0R x := by
 have h0 := Zld (by kernel_rfl : Tryz.prog.cellsOf 41 = 6) hl h
 have h1 := ZaB 0 1 6 Tryz.underlying41 h0 0 (te := 36) (o' := 0) (by kernel_rfl) rfl (by kernel_rfl) (by kernel_rfl) (by decide)
 obtain ⟨x0, e0, b0⟩ := ZbL Tryz.underlying36 (by kernel_rfl) h1
 have h2 := ZaB 1 1 6 Tryz.underlying41 h0 1 (te := 3) (o' := 1) (by kernel_rfl) rfl (by kernel_rfl) (by kernel_rfl) (by decide)
 obtain ⟨x1, e1, b1⟩ := ZbL Tryz.underlying3 (by kernel_rfl) h2
 have h3 := ZaB 2 2 6 Tryz.underlying41 h0 2 (te := 39) (o' := 2) (by kernel_rfl) rfl (by kernel_rfl) (by kernel_rfl) (by decide)
 have h4 := ZaB 0 1 2 Tryz.underlying39 h3 0 (te := 37) (o' := 2) (by kernel_rfl) rfl (by kernel_rfl) (by kernel_rfl) (by decide)
 obtain ⟨x2, e2, b2⟩ := ZbL Tryz.underlying37 (by kernel_rfl) h4
 have h5 := ZaB 1 1 2 Tryz.underlying39 h3 1 (te := 3) (o' := 3) (by kernel_rfl) rfl (by kernel_rfl) (by kernel_rfl) (by decide)
 obtain ⟨x3, e3, b3⟩ := ZbL Tryz.underlying3 (by kernel_rfl) h5
 have h6 := ZaB 4 1 6 Tryz.underlying41 h0 3 (te := 3) (o' := 4) (by kernel_rfl) rfl (by kernel_rfl) (by kernel_rfl) (by decide)
 obtain ⟨x4, e4, b4⟩ := ZbL Tryz.underlying3 (by kernel_rfl) h6
 have h7 := ZaB 5 1 6 Tryz.underlying41 h0 4 (te := 3) (o' := 5) (by kernel_rfl) rfl (by kernel_rfl) (by kernel_rfl) (by decide)
 obtain ⟨x5, e5, b5⟩ := ZbL Tryz.underlying3 (by kernel_rfl) h7
 refine ⟨(⟨x0, x1, x2, x3, x4, x5⟩ : RB), Zjq (by rw [hl, Enc.clen]; rfl) (fun j y hy => ?_), ⟨b0, b1, b2, b3, b4, b5⟩⟩
 have := (Zbl (w := w) (k := 0) e0 .i (Zbl (w := w) (k := 1) e1 .i (Zbl (w := w) (k := 2) e2 .i (Zbl (w := w) (k := 3) e3 .i (Zbl (w := w) (k := 4) e4 .i (Zbl (w := w) (k := 5) e5 .i (Zlc (w := w)))))))) j y hy
 simpa using this
def Zop (x : R_ii) : Prop := (IntKind.i64.min ≤ x.a0 ∧ x.a0 ≤ IntKind.i64.max) ∧ (IntKind.i64.min ≤ x.a1 ∧ x.a1 ≤ IntKind.i64.max)
theorem el2 {H : Type} {enc : TypeId × Value → H} {w : World} {cs : List Value} (hl : cs.length = 2) (h : Trd enc Tryz.prog w 39 cs) : ∃ x : R_ii, DecL w cs (E_ii.cel x) ∧ Zop x := by
 have h0 := Zld (by kernel_rfl : Tryz.prog.cellsOf 39 = 2) hl h
 have h1 := ZaB 0 1 2 Tryz.underlying39 h0 0 (te := 37) (o' := 0) (by kernel_rfl) rfl (by kernel_rfl) (by kernel_rfl) (by decide)
 obtain ⟨x0, e0, b0⟩ := ZbL Tryz.underlying37 (by kernel_rfl) h1
 have h2 := ZaB 1 1 2 Tryz.underlying39 h0 1 (te := 3) (o' := 1) (by kernel_rfl) rfl (by kernel_rfl) (by kernel_rfl) (by decide)
 obtain ⟨x1, e1, b1⟩ := ZbL Tryz.underlying3 (by kernel_rfl) h2
 refine ⟨(⟨x0, x1⟩ : R_ii), Zjq (by rw [hl, Enc.clen]; rfl) (fun j y hy => ?_), ⟨b0, b1⟩⟩
 have := (Zbl (w := w) (k := 0) e0 .i (Zbl (w := w) (k := 1) e1 .i (Zlc (w := w)))) j y hy
 simpa using this
def el1R (x : R_iiiiiiAi) : Prop := (IntKind.i64.min ≤ x.a0 ∧ x.a0 ≤ IntKind.i64.max) ∧ (IntKind.i64.min ≤ x.a1 ∧ x.a1 ≤ IntKind.i64.max) ∧ (IntKind.i64.min ≤ x.a2 ∧ x.a2 ≤ IntKind.i64.max) ∧ (IntKind.i64.min ≤ x.a3 ∧ x.a3 ≤ IntKind.i64.max) ∧ (IntKind.i64.min ≤ x.a4 ∧ x.a4 ≤ IntKind.i64.max) ∧ (IntKind.i64.min ≤ x.a5 ∧ x.a5 ≤ IntKind.i64.max) ∧ (x.a6.length ≤ 9223372036854775807 ∧ ∀ y ∈ x.a6, Zop y) ∧ (IntKind.i64.min ≤ x.a7 ∧ x.a7 ≤ IntKind.i64.max)
theorem el1 {H : Type} {enc : TypeId × Value → H} {w : World} {cs : List Value} (hl : cs.length = 8) (h : Trd enc Tryz.prog w 31 cs) : ∃ x : R_iiiiiiAi, DecL w cs (E_iiiiiiAi.cel x) ∧ el1R x := by
 have h0 := Zld (by kernel_rfl : Tryz.prog.cellsOf 31 = 8) hl h
 have h1 := ZaB 0 1 8 Tryz.underlying31 h0 0 (te := 27) (o' := 0) (by kernel_rfl) rfl (by kernel_rfl) (by kernel_rfl) (by decide)
 obtain ⟨x0, e0, b0⟩ := ZbL Tryz.underlying27 (by kernel_rfl) h1
 have h2 := ZaB 1 1 8 Tryz.underlying31 h0 1 (te := 3) (o' := 1) (by kernel_rfl) rfl (by kernel_rfl) (by kernel_rfl) (by decide)
 obtain ⟨x1, e1, b1⟩ := ZbL Tryz.underlying3 (by kernel_rfl) h2
 have h3 := ZaB 2 1 8 Tryz.underlying31 h0 2 (te := 3) (o' := 2) (by kernel_rfl) rfl (by kernel_rfl) (by kernel_rfl) (by decide)
 obtain ⟨x2, e2, b2⟩ := ZbL Tryz.underlying3 (by kernel_rfl) h3
 have h4 := ZaB 3 1 8 Tryz.underlying31 h0 3 (te := 3) (o' := 3) (by kernel_rfl) rfl (by kernel_rfl) (by kernel_rfl) (by decide)
 obtain ⟨x3, e3, b3⟩ := ZbL Tryz.underlying3 (by kernel_rfl) h4
 have h5 := ZaB 4 1 8 Tryz.underlying31 h0 4 (te := 3) (o' := 4) (by kernel_rfl) rfl (by kernel_rfl) (by kernel_rfl) (by decide)
 obtain ⟨x4, e4, b4⟩ := ZbL Tryz.underlying3 (by kernel_rfl) h5
 have h6 := ZaB 5 1 8 Tryz.underlying31 h0 5 (te := 3) (o' := 5) (by kernel_rfl) rfl (by kernel_rfl) (by kernel_rfl) (by decide)
 obtain ⟨x5, e5, b5⟩ := ZbL Tryz.underlying3 (by kernel_rfl) h6
 have h7 := ZaB 6 1 8 Tryz.underlying31 h0 6 (te := 28) (o' := 6) (by kernel_rfl) rfl (by kernel_rfl) (by kernel_rfl) (by decide)
 obtain ⟨x6, v6, e6, d6, b6⟩ := Zof (E := E_ii) (Q := Zop) Tryz.underlying28 (by kernel_rfl) (by kernel_rfl) (by decide) (fun _ => el2) h7
 have h8 := ZaB 7 1 8 Tryz.underlying31 h0 7 (te := 29) (o' := 7) (by kernel_rfl) rfl (by kernel_rfl) (by kernel_rfl) (by decide)
 obtain ⟨x7, e7, b7⟩ := ZbL Tryz.underlying29 (by kernel_rfl) h8
 refine ⟨(⟨x0, x1, x2, x3, x4, x5, x6, x7⟩ : R_iiiiiiAi), Zjq (by rw [hl, Enc.clen]; rfl) (fun j y hy => ?_), ⟨b0, b1, b2, b3, b4, b5, b6, b7⟩⟩
 have := (Zbl (w := w) (k := 0) e0 .i (Zbl (w := w) (k := 1) e1 .i (Zbl (w := w) (k := 2) e2 .i (Zbl (w := w) (k := 3) e3 .i (Zbl (w := w) (k := 4) e4 .i (Zbl (w := w) (k := 5) e5 .i (Zbl (w := w) (k := 6) e6 d6 (Zbl (w := w) (k := 7) e7 .i (Zlc (w := w)))))))))) j y hy
 simpa using this
theorem own : ownKnob Tryz.prog.godebug = none := by kernel_rfl
set_option maxRecDepth 100000 in
theorem lifted (os : Os) (started : os.Started) (H : Type) (enc : TypeId × Value → H) :
  ReturnsInHanded {} Tryz.checked os 3 .any (Rows.opaqueLateSpec.pre6 enc Tryz.prog Tryz.f3 Rows.opaqueLateRow.domain false) (Rows.opaqueLateSpec.post enc Tryz.prog Tryz.f3 false true false false) := by
 refine Znt (C := Tryz.checked) own started (by kernel_rfl) Tryz.func3 rfl rfl Tryz.underlying4 ?_ (by kernel_rfl) (by kernel_rfl)
  (ChangeSpec.witness6 (enc := enc) (C := Tryz.checked) false ⟨#[], #[.slice none 0 0, .slice none 0 0], []⟩ 8 (by kernel_rfl) (by kernel_rfl) (by kernel_rfl) (by kernel_rfl)) ?_
 ·intro ds hlen
  have hlen : ds.length = 2 := hlen.trans (by kernel_rfl)
  match ds, hlen with
  | [_, _], _ => rfl
 intro W base args ds p hval hA hlt hsz
 rw [Tryz.params3] at hA hval
 obtain ⟨v0, vs0, d0, ds0, p0, q0, hargs, rfl, rfl, h0, r0⟩ := trodAll_cons hA
 obtain ⟨v1, vs1, d1, ds1, p1, q1, rfl, rfl, rfl, h1, r1⟩ := trodAll_cons r0
 obtain ⟨rfl, rfl, rfl⟩ := trodAll_nil r1
 obtain rfl : args = #[v0, v1] := by cases args; simp_all
 obtain ⟨a0, l0, c0, rfl⟩ := Go.WideShapes.okWide_slice Tryz.underlying22 (hval 0 22 v0 rfl rfl)
 obtain ⟨L0, u0, e0, D0, n0, m0⟩ := Zhe (E := E_iiiiii) (Q := el0R) Tryz.underlying22 (by kernel_rfl) (by decide) (fun _ => el0) (Zmh h0)
 obtain rfl : u0 = .slice a0 l0 c0 := by have := e0; simp [Value.cells] at this; exact this.symm
 obtain ⟨a1, l1, c1, rfl⟩ := Go.WideShapes.okWide_slice Tryz.underlying23 (hval 1 23 v1 rfl rfl)
 obtain ⟨L1, u1, e1, D1, n1, m1⟩ := Zhe (E := E_iiiiiiAi) (Q := el1R) Tryz.underlying23 (by kernel_rfl) (by decide) (fun _ => el1) (Zmh h1)
 obtain rfl : u1 = .slice a1 l1 c1 := by have := e1; simp [Value.cells] at this; exact this.symm
 exact ZoV (ZfS L0 L1 100000 _ (Ol.runs L0 L1)) (ZkL (show VR (ιMk W) (ms E_iiiiii L0) _ from D0.vr) (ZkL (show VR (ιMk W) (ms E_iiiiiiAi L1) _ from D1.vr) Zo5)) rfl
theorem over : Rows.opaqueLateRow.holds Tryz.pinned (OpenSpec.ofChange Rows.opaqueLateSpec) :=
 OpenClaim.holds_of_wide 3 Tryz.f3 rfl rfl rfl rfl rfl rfl rfl ⟨rfl, rfl, rfl, rfl, rfl⟩ rfl rfl rfl rfl rfl (by kernel_rfl) Tryz.func3 (by kernel_rfl)
  (of_decide_eq_true (by kernel_rfl)) (by unfold Func.isWrapper; first | (rw [if_pos (by decide +kernel)]; kernel_rfl) | (rw [if_neg (by decide +kernel)]; exact ⟨rfl, rfl⟩))
  (fun os started H enc _ => lifted os started H enc)
theorem proved : Rows.OpaqueLateSaid := over
#print axioms proved
end OpaqueLate
end Ev
end Go.Proofs.YtgdboobcomomdaaGreat
