/- Part 5. -/
import Derived.Test.YtnfmhpnogfppiaaGreatZad
/- Calls do what the plain functions say. -/
namespace Go.Proofs.YtnfmhpnogfppiaaGreat
open Go.RowKit
namespace Ev
set_option linter.unusedVariables false
set_option maxRecDepth 100000
theorem Zj7 (L0 : List RA) (v1 : List R_ii) (v2 N : Nat) : (ZC L0 N).Ok Tryz.prog Zs (.h1m1 v1 v2 : ref12_Wrong_2X) (ZaI L0 N (.h1m1 v1 v2 : ref12_Wrong_2X)) := by
 show (ZC L0 N).Ok Tryz.prog Zs (.h1m1 v1 v2 : ref12_Wrong_2X) (Zbn L0 N v1 v2)
 unfold Zbn
 refine Mach.ok_ite (fun g0 => ?_) (fun g0 => ?_)
 ·
  refine Mach.ok_bind (fun z1 c1 => ?_)
  cases z1 with
  | r0 y1_0 =>
   refine Mach.ok_bind (fun z2 c2 => ?_)
   cases z2 with
   | r0 y2_0 =>
    refine Mach.ok_ite (fun g3 => ?_) (fun g3 => ?_)
    ·
     exact Mach.ok_fin (M := ZC L0 N) (cd := 1000000) (cm := 0) (r := (.r0 ((v2 : Int)) : Z2)) (fu := 4000) (orc := (Zj [(0, true), (1, true)] [] [(0, v2), (1, v2)] [(0, [.i (L0.getD v2 RA.z).a0, .i (L0.getD v2 RA.z).a1, .i (L0.getD v2 RA.z).a2, .i (L0.getD v2 RA.z).a3]), (1, [.i (L0.getD v2 RA.z).a0, .i (L0.getD v2 RA.z).a1, .i (L0.getD v2 RA.z).a2, .i (L0.getD v2 RA.z).a3])] [(0, (Zez (v1) ((L0.getD v2 RA.z).a0) ((L0.getD v2 RA.z).a1) ((L0.getD v2 RA.z).a2) ((L0.getD v2 RA.z).a3) ((v2 : Int))  y1_0 1 2)), (1, (Zb7 ((L0.getD v2 RA.z).a0) ((L0.getD v2 RA.z).a1) ((L0.getD v2 RA.z).a2) ((L0.getD v2 RA.z).a3)  y2_0  2))])) (live := [0]) (u := vi (v2 : Int)) (bl := [some (.cells (Zc Zb L0) 54)]) (ob := [((!y2_0), true), (dP (Zbw #[Value.agg #[vi (L0.getD v2 RA.z).a0, vi (L0.getD v2 RA.z).a1, vi (L0.getD v2 RA.z).a2, vi (L0.getD v2 RA.z).a3]] ((L0.getD v2 RA.z).a0) ((L0.getD v2 RA.z).a1) ((L0.getD v2 RA.z).a2) ((L0.getD v2 RA.z).a3)  y2_0  2), true), (ZE (Zp 4 (List.drop (0 + (v2 * 4)) (Zc Zb L0))) [.i (L0.getD v2 RA.z).a0, .i (L0.getD v2 RA.z).a1, .i (L0.getD v2 RA.z).a2, .i (L0.getD v2 RA.z).a3], true), (Nat.blt v2 L0.length, true), ((v2 : Int) == Int.ofNat v2, true), (dP (ZdB #[vs 1 0 v1.length v1.length, Value.agg #[vi (L0.getD v2 RA.z).a0, vi (L0.getD v2 RA.z).a1, vi (L0.getD v2 RA.z).a2, vi (L0.getD v2 RA.z).a3], vi (v2 : Int)] (v1) ((L0.getD v2 RA.z).a0) ((L0.getD v2 RA.z).a1) ((L0.getD v2 RA.z).a2) ((L0.getD v2 RA.z).a3) ((v2 : Int))  y1_0 1 2), true), (dS (Zc Zw v1), true), (ZE (Zp 4 (List.drop (0 + (v2 * 4)) (Zc Zb L0))) [.i (L0.getD v2 RA.z).a0, .i (L0.getD v2 RA.z).a1, .i (L0.getD v2 RA.z).a2, .i (L0.getD v2 RA.z).a3], true), (Nat.blt v2 L0.length, true), ((v2 : Int) == Int.ofNat v2, true), ((decide ((v2 : Int) < (L0.length : Int))), true)]) (fun gv => by kernel_rfl) (Zd (ZcI (by first | assumption | simp_all)) <| Zd (Zk (Zb8 #[Value.agg #[vi (L0.getD v2 RA.z).a0, vi (L0.getD v2 RA.z).a1, vi (L0.getD v2 RA.z).a2, vi (L0.getD v2 RA.z).a3]] ((L0.getD v2 RA.z).a0) ((L0.getD v2 RA.z).a1) ((L0.getD v2 RA.z).a2) ((L0.getD v2 RA.z).a3)  y2_0 N c2  2 rfl (by decide) (by decide))) <| Zd (Zq (E := Zb) (L := L0) (i := v2) (q := 0) (by omega) (show (0 + (v2 * 4)) = v2 * 4 + 0 from by omega) (show 0 + 4 ≤ 4 from by decide) rfl rfl) <| oB <| oI <| Zd (Zk (Ze0 #[vs 1 0 v1.length v1.length, Value.agg #[vi (L0.getD v2 RA.z).a0, vi (L0.getD v2 RA.z).a1, vi (L0.getD v2 RA.z).a2, vi (L0.getD v2 RA.z).a3], vi (v2 : Int)] (v1) ((L0.getD v2 RA.z).a0) ((L0.getD v2 RA.z).a1) ((L0.getD v2 RA.z).a2) ((L0.getD v2 RA.z).a3) ((v2 : Int))  y1_0 N c1 1 2 rfl (by decide) (by decide))) <| oR <| Zd (Zq (E := Zb) (L := L0) (i := v2) (q := 0) (by omega) (show (0 + (v2 * 4)) = v2 * 4 + 0 from by omega) (show 0 + 4 ≤ 4 from by decide) rfl rfl) <| oB <| oI <| oY Zf) rfl (by decide) (by rfl) rr ⟨(Zh (E := Zb) (α := RA) _ L0 _), trivial⟩
    ·
     refine Mach.ok_ite (fun g4 => ?_) (fun g4 => ?_)
     ·
      exact Mach.ok_fin (M := ZC L0 N) (cd := 1000000) (cm := 0) (r := (.r0 ((v2 : Int)) : Z2)) (fu := 4000) (orc := (Zj [(0, true), (1, false), (2, true)] [] [(0, v2), (1, v2)] [(0, [.i (L0.getD v2 RA.z).a0, .i (L0.getD v2 RA.z).a1, .i (L0.getD v2 RA.z).a2, .i (L0.getD v2 RA.z).a3]), (1, [.i (L0.getD v2 RA.z).a0, .i (L0.getD v2 RA.z).a1, .i (L0.getD v2 RA.z).a2, .i (L0.getD v2 RA.z).a3])] [(0, (Zez (v1) ((L0.getD v2 RA.z).a0) ((L0.getD v2 RA.z).a1) ((L0.getD v2 RA.z).a2) ((L0.getD v2 RA.z).a3) ((v2 : Int))  y1_0 1 2)), (1, (Zb7 ((L0.getD v2 RA.z).a0) ((L0.getD v2 RA.z).a1) ((L0.getD v2 RA.z).a2) ((L0.getD v2 RA.z).a3)  y2_0  2))])) (live := [0]) (u := vi (v2 : Int)) (bl := [some (.cells (Zc Zb L0) 54)]) (ob := [((!y1_0), true), ((!y2_0), false), (dP (Zbw #[Value.agg #[vi (L0.getD v2 RA.z).a0, vi (L0.getD v2 RA.z).a1, vi (L0.getD v2 RA.z).a2, vi (L0.getD v2 RA.z).a3]] ((L0.getD v2 RA.z).a0) ((L0.getD v2 RA.z).a1) ((L0.getD v2 RA.z).a2) ((L0.getD v2 RA.z).a3)  y2_0  2), true), (ZE (Zp 4 (List.drop (0 + (v2 * 4)) (Zc Zb L0))) [.i (L0.getD v2 RA.z).a0, .i (L0.getD v2 RA.z).a1, .i (L0.getD v2 RA.z).a2, .i (L0.getD v2 RA.z).a3], true), (Nat.blt v2 L0.length, true), ((v2 : Int) == Int.ofNat v2, true), (dP (ZdB #[vs 1 0 v1.length v1.length, Value.agg #[vi (L0.getD v2 RA.z).a0, vi (L0.getD v2 RA.z).a1, vi (L0.getD v2 RA.z).a2, vi (L0.getD v2 RA.z).a3], vi (v2 : Int)] (v1) ((L0.getD v2 RA.z).a0) ((L0.getD v2 RA.z).a1) ((L0.getD v2 RA.z).a2) ((L0.getD v2 RA.z).a3) ((v2 : Int))  y1_0 1 2), true), (dS (Zc Zw v1), true), (ZE (Zp 4 (List.drop (0 + (v2 * 4)) (Zc Zb L0))) [.i (L0.getD v2 RA.z).a0, .i (L0.getD v2 RA.z).a1, .i (L0.getD v2 RA.z).a2, .i (L0.getD v2 RA.z).a3], true), (Nat.blt v2 L0.length, true), ((v2 : Int) == Int.ofNat v2, true), ((decide ((v2 : Int) < (L0.length : Int))), true)]) (fun gv => by kernel_rfl) (Zd (ZcI (by first | assumption | simp_all)) <| Zd (Zc1 (by first | assumption | exact Decidable.not_not.1 (by assumption) | simp_all)) <| Zd (Zk (Zb8 #[Value.agg #[vi (L0.getD v2 RA.z).a0, vi (L0.getD v2 RA.z).a1, vi (L0.getD v2 RA.z).a2, vi (L0.getD v2 RA.z).a3]] ((L0.getD v2 RA.z).a0) ((L0.getD v2 RA.z).a1) ((L0.getD v2 RA.z).a2) ((L0.getD v2 RA.z).a3)  y2_0 N c2  2 rfl (by decide) (by decide))) <| Zd (Zq (E := Zb) (L := L0) (i := v2) (q := 0) (by omega) (show (0 + (v2 * 4)) = v2 * 4 + 0 from by omega) (show 0 + 4 ≤ 4 from by decide) rfl rfl) <| oB <| oI <| Zd (Zk (Ze0 #[vs 1 0 v1.length v1.length, Value.agg #[vi (L0.getD v2 RA.z).a0, vi (L0.getD v2 RA.z).a1, vi (L0.getD v2 RA.z).a2, vi (L0.getD v2 RA.z).a3], vi (v2 : Int)] (v1) ((L0.getD v2 RA.z).a0) ((L0.getD v2 RA.z).a1) ((L0.getD v2 RA.z).a2) ((L0.getD v2 RA.z).a3) ((v2 : Int))  y1_0 N c1 1 2 rfl (by decide) (by decide))) <| oR <| Zd (Zq (E := Zb) (L := L0) (i := v2) (q := 0) (by omega) (show (0 + (v2 * 4)) = v2 * 4 + 0 from by omega) (show 0 + 4 ≤ 4 from by decide) rfl rfl) <| oB <| oI <| oY Zf) rfl (by decide) (by rfl) rr ⟨(Zh (E := Zb) (α := RA) _ L0 _), trivial⟩
     ·
      refine Mach.ok_ite (fun g5 => ?_) (fun g5 => ?_)
      ·
       exact Mach.ok_next (M := ZC L0 N) (cd := 1000000) (cm := 0) (y := (.h1m1 (v1) ((v2 + 1)) : ref12_Wrong_2X)) (fu := 4000) (orc := (Zj [(0, true), (1, false), (2, false)] [(0, (((v2 + 1) : Nat) : Int))] [(0, v2), (1, v2)] [(0, [.i (L0.getD v2 RA.z).a0, .i (L0.getD v2 RA.z).a1, .i (L0.getD v2 RA.z).a2, .i (L0.getD v2 RA.z).a3]), (1, [.i (L0.getD v2 RA.z).a0, .i (L0.getD v2 RA.z).a1, .i (L0.getD v2 RA.z).a2, .i (L0.getD v2 RA.z).a3])] [(0, (Zez (v1) ((L0.getD v2 RA.z).a0) ((L0.getD v2 RA.z).a1) ((L0.getD v2 RA.z).a2) ((L0.getD v2 RA.z).a3) ((v2 : Int))  y1_0 1 2)), (1, (Zb7 ((L0.getD v2 RA.z).a0) ((L0.getD v2 RA.z).a1) ((L0.getD v2 RA.z).a2) ((L0.getD v2 RA.z).a3)  y2_0  2))])) (live := [0, 1]) (tv := fun _ => [some (vs 0 0 L0.length L0.length), some (vs 1 0 v1.length v1.length), some (vi (((v2 + 1) : Nat) : Int))]) (bl := [some (.cells (Zc Zb L0) 54), some (.cells (Zc Zw v1) 102)]) (ob := [((IntKind.i64.wrap ((v2 : Int) + (1 : Int))) == (((v2 + 1) : Nat) : Int), true), ((!y1_0), false), ((!y2_0), false), (dP (Zbw #[Value.agg #[vi (L0.getD v2 RA.z).a0, vi (L0.getD v2 RA.z).a1, vi (L0.getD v2 RA.z).a2, vi (L0.getD v2 RA.z).a3]] ((L0.getD v2 RA.z).a0) ((L0.getD v2 RA.z).a1) ((L0.getD v2 RA.z).a2) ((L0.getD v2 RA.z).a3)  y2_0  2), true), (ZE (Zp 4 (List.drop (0 + (v2 * 4)) (Zc Zb L0))) [.i (L0.getD v2 RA.z).a0, .i (L0.getD v2 RA.z).a1, .i (L0.getD v2 RA.z).a2, .i (L0.getD v2 RA.z).a3], true), (Nat.blt v2 L0.length, true), ((v2 : Int) == Int.ofNat v2, true), (dP (ZdB #[vs 1 0 v1.length v1.length, Value.agg #[vi (L0.getD v2 RA.z).a0, vi (L0.getD v2 RA.z).a1, vi (L0.getD v2 RA.z).a2, vi (L0.getD v2 RA.z).a3], vi (v2 : Int)] (v1) ((L0.getD v2 RA.z).a0) ((L0.getD v2 RA.z).a1) ((L0.getD v2 RA.z).a2) ((L0.getD v2 RA.z).a3) ((v2 : Int))  y1_0 1 2), true), (dS (Zc Zw v1), true), (ZE (Zp 4 (List.drop (0 + (v2 * 4)) (Zc Zb L0))) [.i (L0.getD v2 RA.z).a0, .i (L0.getD v2 RA.z).a1, .i (L0.getD v2 RA.z).a2, .i (L0.getD v2 RA.z).a3], true), (Nat.blt v2 L0.length, true), ((v2 : Int) == Int.ofNat v2, true), ((decide ((v2 : Int) < (L0.length : Int))), true)]) rfl (show 1 ∈ Zl (Zbx 1) from by decide +kernel) (fun gv => by kernel_rfl) (Zd (beq_iff_eq.2 ((wrap_i64 ltA).trans (by first | rfl | omega))) <| Zd (Zc1 (by first | assumption | exact Decidable.not_not.1 (by assumption) | simp_all)) <| Zd (Zc1 (by first | assumption | exact Decidable.not_not.1 (by assumption) | simp_all)) <| Zd (Zk (Zb8 #[Value.agg #[vi (L0.getD v2 RA.z).a0, vi (L0.getD v2 RA.z).a1, vi (L0.getD v2 RA.z).a2, vi (L0.getD v2 RA.z).a3]] ((L0.getD v2 RA.z).a0) ((L0.getD v2 RA.z).a1) ((L0.getD v2 RA.z).a2) ((L0.getD v2 RA.z).a3)  y2_0 N c2  2 rfl (by decide) (by decide))) <| Zd (Zq (E := Zb) (L := L0) (i := v2) (q := 0) (by omega) (show (0 + (v2 * 4)) = v2 * 4 + 0 from by omega) (show 0 + 4 ≤ 4 from by decide) rfl rfl) <| oB <| oI <| Zd (Zk (Ze0 #[vs 1 0 v1.length v1.length, Value.agg #[vi (L0.getD v2 RA.z).a0, vi (L0.getD v2 RA.z).a1, vi (L0.getD v2 RA.z).a2, vi (L0.getD v2 RA.z).a3], vi (v2 : Int)] (v1) ((L0.getD v2 RA.z).a0) ((L0.getD v2 RA.z).a1) ((L0.getD v2 RA.z).a2) ((L0.getD v2 RA.z).a3) ((v2 : Int))  y1_0 N c1 1 2 rfl (by decide) (by decide))) <| oR <| Zd (Zq (E := Zb) (L := L0) (i := v2) (q := 0) (by omega) (show (0 + (v2 * 4)) = v2 * 4 + 0 from by omega) (show 0 + 4 ≤ 4 from by decide) rfl rfl) <| oB <| oI <| oY Zf) rfl (by decide) (by rfl) (fun _ => ⟨rr, ⟨rr, ⟨rr, trivial⟩⟩⟩) ⟨(Zh (E := Zb) (α := RA) _ L0 _), ⟨(Zh (E := Zw) (α := R_ii) _ v1 _), trivial⟩⟩
      ·
       exact Mach.ok_none
  | r1 y1_0 =>
   refine Mach.ok_bind (fun z2 c2 => ?_)
   cases z2 with
   | r0 y2_0 =>
    refine Mach.ok_ite (fun g3 => ?_) (fun g3 => ?_)
    ·
     exact Mach.ok_fin (M := ZC L0 N) (cd := 1000000) (cm := 0) (r := (.r0 ((v2 : Int)) : Z2)) (fu := 4000) (orc := (Zj [(0, true), (1, true)] [] [(0, v2), (1, v2)] [(0, [.i (L0.getD v2 RA.z).a0, .i (L0.getD v2 RA.z).a1, .i (L0.getD v2 RA.z).a2, .i (L0.getD v2 RA.z).a3]), (1, [.i (L0.getD v2 RA.z).a0, .i (L0.getD v2 RA.z).a1, .i (L0.getD v2 RA.z).a2, .i (L0.getD v2 RA.z).a3])] [(0, (ZfH (v1) ((L0.getD v2 RA.z).a0) ((L0.getD v2 RA.z).a1) ((L0.getD v2 RA.z).a2) ((L0.getD v2 RA.z).a3) ((v2 : Int))  y1_0 1 2)), (1, (Zb7 ((L0.getD v2 RA.z).a0) ((L0.getD v2 RA.z).a1) ((L0.getD v2 RA.z).a2) ((L0.getD v2 RA.z).a3)  y2_0  3))])) (live := [0]) (u := vi (v2 : Int)) (bl := [some (.cells (Zc Zb L0) 54)]) (ob := [((!y2_0), true), (dP (Zbw #[Value.agg #[vi (L0.getD v2 RA.z).a0, vi (L0.getD v2 RA.z).a1, vi (L0.getD v2 RA.z).a2, vi (L0.getD v2 RA.z).a3]] ((L0.getD v2 RA.z).a0) ((L0.getD v2 RA.z).a1) ((L0.getD v2 RA.z).a2) ((L0.getD v2 RA.z).a3)  y2_0  3), true), (ZE (Zp 4 (List.drop (0 + (v2 * 4)) (Zc Zb L0))) [.i (L0.getD v2 RA.z).a0, .i (L0.getD v2 RA.z).a1, .i (L0.getD v2 RA.z).a2, .i (L0.getD v2 RA.z).a3], true), (Nat.blt v2 L0.length, true), ((v2 : Int) == Int.ofNat v2, true), (dP (Ze1 #[vs 1 0 v1.length v1.length, Value.agg #[vi (L0.getD v2 RA.z).a0, vi (L0.getD v2 RA.z).a1, vi (L0.getD v2 RA.z).a2, vi (L0.getD v2 RA.z).a3], vi (v2 : Int)] (v1) ((L0.getD v2 RA.z).a0) ((L0.getD v2 RA.z).a1) ((L0.getD v2 RA.z).a2) ((L0.getD v2 RA.z).a3) ((v2 : Int))  y1_0 1 2), true), (dS (Zc Zw v1), true), (ZE (Zp 4 (List.drop (0 + (v2 * 4)) (Zc Zb L0))) [.i (L0.getD v2 RA.z).a0, .i (L0.getD v2 RA.z).a1, .i (L0.getD v2 RA.z).a2, .i (L0.getD v2 RA.z).a3], true), (Nat.blt v2 L0.length, true), ((v2 : Int) == Int.ofNat v2, true), ((decide ((v2 : Int) < (L0.length : Int))), true)]) (fun gv => by kernel_rfl) (Zd (ZcI (by first | assumption | simp_all)) <| Zd (Zk (Zb8 #[Value.agg #[vi (L0.getD v2 RA.z).a0, vi (L0.getD v2 RA.z).a1, vi (L0.getD v2 RA.z).a2, vi (L0.getD v2 RA.z).a3]] ((L0.getD v2 RA.z).a0) ((L0.getD v2 RA.z).a1) ((L0.getD v2 RA.z).a2) ((L0.getD v2 RA.z).a3)  y2_0 N c2  3 rfl (by decide) (by decide))) <| Zd (Zq (E := Zb) (L := L0) (i := v2) (q := 0) (by omega) (show (0 + (v2 * 4)) = v2 * 4 + 0 from by omega) (show 0 + 4 ≤ 4 from by decide) rfl rfl) <| oB <| oI <| Zd (Zk (ZfI #[vs 1 0 v1.length v1.length, Value.agg #[vi (L0.getD v2 RA.z).a0, vi (L0.getD v2 RA.z).a1, vi (L0.getD v2 RA.z).a2, vi (L0.getD v2 RA.z).a3], vi (v2 : Int)] (v1) ((L0.getD v2 RA.z).a0) ((L0.getD v2 RA.z).a1) ((L0.getD v2 RA.z).a2) ((L0.getD v2 RA.z).a3) ((v2 : Int))  y1_0 N c1 1 2 rfl (by decide) (by decide))) <| oR <| Zd (Zq (E := Zb) (L := L0) (i := v2) (q := 0) (by omega) (show (0 + (v2 * 4)) = v2 * 4 + 0 from by omega) (show 0 + 4 ≤ 4 from by decide) rfl rfl) <| oB <| oI <| oY Zf) rfl (by decide) (by rfl) rr ⟨(Zh (E := Zb) (α := RA) _ L0 _), trivial⟩
    ·
     refine Mach.ok_ite (fun g4 => ?_) (fun g4 => ?_)
     ·
      exact Mach.ok_next (M := ZC L0 N) (cd := 1000000) (cm := 0) (y := (.h1m1 (y1_0) ((v2 + 1)) : ref12_Wrong_2X)) (fu := 4000) (orc := (Zj [(0, true), (1, false)] [(0, (((v2 + 1) : Nat) : Int))] [(0, v2), (1, v2)] [(0, [.i (L0.getD v2 RA.z).a0, .i (L0.getD v2 RA.z).a1, .i (L0.getD v2 RA.z).a2, .i (L0.getD v2 RA.z).a3]), (1, [.i (L0.getD v2 RA.z).a0, .i (L0.getD v2 RA.z).a1, .i (L0.getD v2 RA.z).a2, .i (L0.getD v2 RA.z).a3])] [(0, (ZfH (v1) ((L0.getD v2 RA.z).a0) ((L0.getD v2 RA.z).a1) ((L0.getD v2 RA.z).a2) ((L0.getD v2 RA.z).a3) ((v2 : Int))  y1_0 1 2)), (1, (Zb7 ((L0.getD v2 RA.z).a0) ((L0.getD v2 RA.z).a1) ((L0.getD v2 RA.z).a2) ((L0.getD v2 RA.z).a3)  y2_0  3))])) (live := [0, 2]) (tv := fun _ => [some (vs 0 0 L0.length L0.length), some (vs 2 0 y1_0.length y1_0.length), some (vi (((v2 + 1) : Nat) : Int))]) (bl := [some (.cells (Zc Zb L0) 54), some (.cells (Zc Zw y1_0) 102)]) (ob := [((IntKind.i64.wrap ((v2 : Int) + (1 : Int))) == (((v2 + 1) : Nat) : Int), true), ((!y2_0), false), (dP (Zbw #[Value.agg #[vi (L0.getD v2 RA.z).a0, vi (L0.getD v2 RA.z).a1, vi (L0.getD v2 RA.z).a2, vi (L0.getD v2 RA.z).a3]] ((L0.getD v2 RA.z).a0) ((L0.getD v2 RA.z).a1) ((L0.getD v2 RA.z).a2) ((L0.getD v2 RA.z).a3)  y2_0  3), true), (ZE (Zp 4 (List.drop (0 + (v2 * 4)) (Zc Zb L0))) [.i (L0.getD v2 RA.z).a0, .i (L0.getD v2 RA.z).a1, .i (L0.getD v2 RA.z).a2, .i (L0.getD v2 RA.z).a3], true), (Nat.blt v2 L0.length, true), ((v2 : Int) == Int.ofNat v2, true), (dP (Ze1 #[vs 1 0 v1.length v1.length, Value.agg #[vi (L0.getD v2 RA.z).a0, vi (L0.getD v2 RA.z).a1, vi (L0.getD v2 RA.z).a2, vi (L0.getD v2 RA.z).a3], vi (v2 : Int)] (v1) ((L0.getD v2 RA.z).a0) ((L0.getD v2 RA.z).a1) ((L0.getD v2 RA.z).a2) ((L0.getD v2 RA.z).a3) ((v2 : Int))  y1_0 1 2), true), (dS (Zc Zw v1), true), (ZE (Zp 4 (List.drop (0 + (v2 * 4)) (Zc Zb L0))) [.i (L0.getD v2 RA.z).a0, .i (L0.getD v2 RA.z).a1, .i (L0.getD v2 RA.z).a2, .i (L0.getD v2 RA.z).a3], true), (Nat.blt v2 L0.length, true), ((v2 : Int) == Int.ofNat v2, true), ((decide ((v2 : Int) < (L0.length : Int))), true)]) rfl (show 1 ∈ Zl (Zbx 1) from by decide +kernel) (fun gv => by kernel_rfl) (Zd (beq_iff_eq.2 ((wrap_i64 ltA).trans (by first | rfl | omega))) <| Zd (Zc1 (by first | assumption | exact Decidable.not_not.1 (by assumption) | simp_all)) <| Zd (Zk (Zb8 #[Value.agg #[vi (L0.getD v2 RA.z).a0, vi (L0.getD v2 RA.z).a1, vi (L0.getD v2 RA.z).a2, vi (L0.getD v2 RA.z).a3]] ((L0.getD v2 RA.z).a0) ((L0.getD v2 RA.z).a1) ((L0.getD v2 RA.z).a2) ((L0.getD v2 RA.z).a3)  y2_0 N c2  3 rfl (by decide) (by decide))) <| Zd (Zq (E := Zb) (L := L0) (i := v2) (q := 0) (by omega) (show (0 + (v2 * 4)) = v2 * 4 + 0 from by omega) (show 0 + 4 ≤ 4 from by decide) rfl rfl) <| oB <| oI <| Zd (Zk (ZfI #[vs 1 0 v1.length v1.length, Value.agg #[vi (L0.getD v2 RA.z).a0, vi (L0.getD v2 RA.z).a1, vi (L0.getD v2 RA.z).a2, vi (L0.getD v2 RA.z).a3], vi (v2 : Int)] (v1) ((L0.getD v2 RA.z).a0) ((L0.getD v2 RA.z).a1) ((L0.getD v2 RA.z).a2) ((L0.getD v2 RA.z).a3) ((v2 : Int))  y1_0 N c1 1 2 rfl (by decide) (by decide))) <| oR <| Zd (Zq (E := Zb) (L := L0) (i := v2) (q := 0) (by omega) (show (0 + (v2 * 4)) = v2 * 4 + 0 from by omega) (show 0 + 4 ≤ 4 from by decide) rfl rfl) <| oB <| oI <| oY Zf) rfl (by decide) (by rfl) (fun _ => ⟨rr, ⟨rr, ⟨rr, trivial⟩⟩⟩) ⟨(Zh (E := Zb) (α := RA) _ L0 _), ⟨(Zh (E := Zw) (α := R_ii) _ y1_0 _), trivial⟩⟩
     ·
      exact Mach.ok_none
  | r2 =>
   refine Mach.ok_bind (fun z2 c2 => ?_)
   cases z2 with
   | r0 y2_0 =>
    refine Mach.ok_ite (fun g3 => ?_) (fun g3 => ?_)
    ·
     exact Mach.ok_fin (M := ZC L0 N) (cd := 1000000) (cm := 0) (r := (.r0 ((v2 : Int)) : Z2)) (fu := 4000) (orc := (Zj [(0, true), (1, true)] [] [(0, v2), (1, v2)] [(0, [.i (L0.getD v2 RA.z).a0, .i (L0.getD v2 RA.z).a1, .i (L0.getD v2 RA.z).a2, .i (L0.getD v2 RA.z).a3]), (1, [.i (L0.getD v2 RA.z).a0, .i (L0.getD v2 RA.z).a1, .i (L0.getD v2 RA.z).a2, .i (L0.getD v2 RA.z).a3])] [(0, (ZfJ (v1) ((L0.getD v2 RA.z).a0) ((L0.getD v2 RA.z).a1) ((L0.getD v2 RA.z).a2) ((L0.getD v2 RA.z).a3) ((v2 : Int))   1 2)), (1, (Zb7 ((L0.getD v2 RA.z).a0) ((L0.getD v2 RA.z).a1) ((L0.getD v2 RA.z).a2) ((L0.getD v2 RA.z).a3)  y2_0  3))])) (live := [0]) (u := vi (v2 : Int)) (bl := [some (.cells (Zc Zb L0) 54)]) (ob := [((!y2_0), true), (dP (Zbw #[Value.agg #[vi (L0.getD v2 RA.z).a0, vi (L0.getD v2 RA.z).a1, vi (L0.getD v2 RA.z).a2, vi (L0.getD v2 RA.z).a3]] ((L0.getD v2 RA.z).a0) ((L0.getD v2 RA.z).a1) ((L0.getD v2 RA.z).a2) ((L0.getD v2 RA.z).a3)  y2_0  3), true), (ZE (Zp 4 (List.drop (0 + (v2 * 4)) (Zc Zb L0))) [.i (L0.getD v2 RA.z).a0, .i (L0.getD v2 RA.z).a1, .i (L0.getD v2 RA.z).a2, .i (L0.getD v2 RA.z).a3], true), (Nat.blt v2 L0.length, true), ((v2 : Int) == Int.ofNat v2, true), (dP (Ze2 #[vs 1 0 v1.length v1.length, Value.agg #[vi (L0.getD v2 RA.z).a0, vi (L0.getD v2 RA.z).a1, vi (L0.getD v2 RA.z).a2, vi (L0.getD v2 RA.z).a3], vi (v2 : Int)] (v1) ((L0.getD v2 RA.z).a0) ((L0.getD v2 RA.z).a1) ((L0.getD v2 RA.z).a2) ((L0.getD v2 RA.z).a3) ((v2 : Int))   1 2), true), (dS (Zc Zw v1), true), (ZE (Zp 4 (List.drop (0 + (v2 * 4)) (Zc Zb L0))) [.i (L0.getD v2 RA.z).a0, .i (L0.getD v2 RA.z).a1, .i (L0.getD v2 RA.z).a2, .i (L0.getD v2 RA.z).a3], true), (Nat.blt v2 L0.length, true), ((v2 : Int) == Int.ofNat v2, true), ((decide ((v2 : Int) < (L0.length : Int))), true)]) (fun gv => by kernel_rfl) (Zd (ZcI (by first | assumption | simp_all)) <| Zd (Zk (Zb8 #[Value.agg #[vi (L0.getD v2 RA.z).a0, vi (L0.getD v2 RA.z).a1, vi (L0.getD v2 RA.z).a2, vi (L0.getD v2 RA.z).a3]] ((L0.getD v2 RA.z).a0) ((L0.getD v2 RA.z).a1) ((L0.getD v2 RA.z).a2) ((L0.getD v2 RA.z).a3)  y2_0 N c2  3 rfl (by decide) (by decide))) <| Zd (Zq (E := Zb) (L := L0) (i := v2) (q := 0) (by omega) (show (0 + (v2 * 4)) = v2 * 4 + 0 from by omega) (show 0 + 4 ≤ 4 from by decide) rfl rfl) <| oB <| oI <| Zd (Zk (ZfK #[vs 1 0 v1.length v1.length, Value.agg #[vi (L0.getD v2 RA.z).a0, vi (L0.getD v2 RA.z).a1, vi (L0.getD v2 RA.z).a2, vi (L0.getD v2 RA.z).a3], vi (v2 : Int)] (v1) ((L0.getD v2 RA.z).a0) ((L0.getD v2 RA.z).a1) ((L0.getD v2 RA.z).a2) ((L0.getD v2 RA.z).a3) ((v2 : Int))   N c1 1 2 rfl (by decide) (by decide))) <| oR <| Zd (Zq (E := Zb) (L := L0) (i := v2) (q := 0) (by omega) (show (0 + (v2 * 4)) = v2 * 4 + 0 from by omega) (show 0 + 4 ≤ 4 from by decide) rfl rfl) <| oB <| oI <| oY Zf) rfl (by decide) (by rfl) rr ⟨(Zh (E := Zb) (α := RA) _ L0 _), trivial⟩
    ·
     refine Mach.ok_ite (fun g4 => ?_) (fun g4 => ?_)
     ·
      exact Mach.ok_next (M := ZC L0 N) (cd := 1000000) (cm := 0) (y := (.h1m1 ((v1.take (v1.length - 1))) ((v2 + 1)) : ref12_Wrong_2X)) (fu := 4000) (orc := (Zj [(0, true), (1, false)] [(0, (((v2 + 1) : Nat) : Int))] [(0, v2), (1, v2)] [(0, [.i (L0.getD v2 RA.z).a0, .i (L0.getD v2 RA.z).a1, .i (L0.getD v2 RA.z).a2, .i (L0.getD v2 RA.z).a3]), (1, [.i (L0.getD v2 RA.z).a0, .i (L0.getD v2 RA.z).a1, .i (L0.getD v2 RA.z).a2, .i (L0.getD v2 RA.z).a3])] [(0, (ZfJ (v1) ((L0.getD v2 RA.z).a0) ((L0.getD v2 RA.z).a1) ((L0.getD v2 RA.z).a2) ((L0.getD v2 RA.z).a3) ((v2 : Int))   1 2)), (1, (Zb7 ((L0.getD v2 RA.z).a0) ((L0.getD v2 RA.z).a1) ((L0.getD v2 RA.z).a2) ((L0.getD v2 RA.z).a3)  y2_0  3))])) (live := [0, 2]) (tv := fun _ => [some (vs 0 0 L0.length L0.length), some (vs 2 0 (v1.take (v1.length - 1)).length (v1.take (v1.length - 1)).length), some (vi (((v2 + 1) : Nat) : Int))]) (bl := [some (.cells (Zc Zb L0) 54), some (.cells (Zc Zw (v1.take (v1.length - 1))) 102)]) (ob := [((IntKind.i64.wrap ((v2 : Int) + (1 : Int))) == (((v2 + 1) : Nat) : Int), true), ((!y2_0), false), (dP (Zbw #[Value.agg #[vi (L0.getD v2 RA.z).a0, vi (L0.getD v2 RA.z).a1, vi (L0.getD v2 RA.z).a2, vi (L0.getD v2 RA.z).a3]] ((L0.getD v2 RA.z).a0) ((L0.getD v2 RA.z).a1) ((L0.getD v2 RA.z).a2) ((L0.getD v2 RA.z).a3)  y2_0  3), true), (ZE (Zp 4 (List.drop (0 + (v2 * 4)) (Zc Zb L0))) [.i (L0.getD v2 RA.z).a0, .i (L0.getD v2 RA.z).a1, .i (L0.getD v2 RA.z).a2, .i (L0.getD v2 RA.z).a3], true), (Nat.blt v2 L0.length, true), ((v2 : Int) == Int.ofNat v2, true), (dP (Ze2 #[vs 1 0 v1.length v1.length, Value.agg #[vi (L0.getD v2 RA.z).a0, vi (L0.getD v2 RA.z).a1, vi (L0.getD v2 RA.z).a2, vi (L0.getD v2 RA.z).a3], vi (v2 : Int)] (v1) ((L0.getD v2 RA.z).a0) ((L0.getD v2 RA.z).a1) ((L0.getD v2 RA.z).a2) ((L0.getD v2 RA.z).a3) ((v2 : Int))   1 2), true), (dS (Zc Zw v1), true), (ZE (Zp 4 (List.drop (0 + (v2 * 4)) (Zc Zb L0))) [.i (L0.getD v2 RA.z).a0, .i (L0.getD v2 RA.z).a1, .i (L0.getD v2 RA.z).a2, .i (L0.getD v2 RA.z).a3], true), (Nat.blt v2 L0.length, true), ((v2 : Int) == Int.ofNat v2, true), ((decide ((v2 : Int) < (L0.length : Int))), true)]) rfl (show 1 ∈ Zl (Zbx 1) from by decide +kernel) (fun gv => by kernel_rfl) (Zd (beq_iff_eq.2 ((wrap_i64 ltA).trans (by first | rfl | omega))) <| Zd (Zc1 (by first | assumption | exact Decidable.not_not.1 (by assumption) | simp_all)) <| Zd (Zk (Zb8 #[Value.agg #[vi (L0.getD v2 RA.z).a0, vi (L0.getD v2 RA.z).a1, vi (L0.getD v2 RA.z).a2, vi (L0.getD v2 RA.z).a3]] ((L0.getD v2 RA.z).a0) ((L0.getD v2 RA.z).a1) ((L0.getD v2 RA.z).a2) ((L0.getD v2 RA.z).a3)  y2_0 N c2  3 rfl (by decide) (by decide))) <| Zd (Zq (E := Zb) (L := L0) (i := v2) (q := 0) (by omega) (show (0 + (v2 * 4)) = v2 * 4 + 0 from by omega) (show 0 + 4 ≤ 4 from by decide) rfl rfl) <| oB <| oI <| Zd (Zk (ZfK #[vs 1 0 v1.length v1.length, Value.agg #[vi (L0.getD v2 RA.z).a0, vi (L0.getD v2 RA.z).a1, vi (L0.getD v2 RA.z).a2, vi (L0.getD v2 RA.z).a3], vi (v2 : Int)] (v1) ((L0.getD v2 RA.z).a0) ((L0.getD v2 RA.z).a1) ((L0.getD v2 RA.z).a2) ((L0.getD v2 RA.z).a3) ((v2 : Int))   N c1 1 2 rfl (by decide) (by decide))) <| oR <| Zd (Zq (E := Zb) (L := L0) (i := v2) (q := 0) (by omega) (show (0 + (v2 * 4)) = v2 * 4 + 0 from by omega) (show 0 + 4 ≤ 4 from by decide) rfl rfl) <| oB <| oI <| oY Zf) rfl (by decide) (by rfl) (fun _ => ⟨rr, ⟨rr, ⟨rr, trivial⟩⟩⟩) ⟨(Zh (E := Zb) (α := RA) _ L0 _), ⟨(Zh (E := Zw) (α := R_ii) _ (v1.take (v1.length - 1)) _), trivial⟩⟩
     ·
      exact Mach.ok_none
 ·
  refine Mach.ok_ite (fun g1 => ?_) (fun g1 => ?_)
  ·
   exact Mach.ok_fin (M := ZC L0 N) (cd := 1000000) (cm := 0) (r := (.r0 ((L0.length : Int)) : Z2)) (fu := 4000) (orc := (Zj [(0, false), (1, true)] [] [] [] [])) (live := [0]) (u := vi (L0.length : Int)) (bl := [some (.cells (Zc Zb L0) 54)]) (ob := [((decide ((v1.length : Int) > (0 : Int))), true), ((decide ((v2 : Int) < (L0.length : Int))), false)]) (fun gv => by kernel_rfl) (oY <| oN Zf) rfl (by decide) (by rfl) rr ⟨(Zh (E := Zb) (α := RA) _ L0 _), trivial⟩
  ·
   exact Mach.ok_head (bK := Za6 2) (M := ZC L0 N) (cd := 1000000) (cm := 0) (y := (.h2m0 (0) : ref12_Wrong_2X)) (fu := 4000) (orc := (Zj [(0, false), (1, false)] [] [] [] [])) (live := [0]) (tv := fun _ => [some (vs 0 0 L0.length L0.length), some (vq)]) (bl := [some (.cells (Zc Zb L0) 54)]) (ob := [((decide ((v1.length : Int) > (0 : Int))), false), ((decide ((v2 : Int) < (L0.length : Int))), false)]) rfl rfl (show ∀ j ∈ Zl (Za6 2).2, j ∈ Zl (Zbx 1) from by decide +kernel) (fun gv => by kernel_rfl) (oN <| oN Zf) rfl (by decide) (by rfl) (fun _ => ⟨rr, ⟨⟨Eq.trans (show (vi ((0 : Nat) : Int) : Value) = vq from (congrArg (Value.int .i64) (by first | rfl | omega))) (by rfl), by rfl⟩, trivial⟩⟩) ⟨(Zh (E := Zb) (α := RA) _ L0 _), trivial⟩

theorem Zj8 (L0 : List RA) (v1 N : Nat) : (ZC L0 N).Ok Tryz.prog Zs (.h2m0 v1 : ref12_Wrong_2X) (ZaI L0 N (.h2m0 v1 : ref12_Wrong_2X)) := by
 show (ZC L0 N).Ok Tryz.prog Zs (.h2m0 v1 : ref12_Wrong_2X) (Zbo L0 N v1)
 unfold Zbo
 refine Mach.ok_ite (fun g0 => ?_) (fun g0 => ?_)
 ·
  refine Mach.ok_bind (fun z1 c1 => ?_)
  cases z1 with
  | r0 y1_0 y1_1 =>
   refine Mach.ok_ite (fun g2 => ?_) (fun g2 => ?_)
   ·
    subst g2
    refine Mach.ok_ite (fun g3 => ?_) (fun g3 => ?_)
    ·
     exact Mach.ok_fin (M := ZC L0 N) (cd := 1000000) (cm := 0) (r := (.r0 ((v1 : Int)) : Z2)) (fu := 4000) (orc := (Zj [(0, true), (1, true)] [] [(0, v1)] [(0, [.i (L0.getD v1 RA.z).a0, .i (L0.getD v1 RA.z).a1, .i (L0.getD v1 RA.z).a2, .i (L0.getD v1 RA.z).a3])] [(0, (Ze3 ((L0.getD v1 RA.z).a0) ((L0.getD v1 RA.z).a1) ((L0.getD v1 RA.z).a2) ((L0.getD v1 RA.z).a3)  y1_0 true  1))])) (live := [0]) (u := vi (v1 : Int)) (bl := [some (.cells (Zc Zb L0) 54)]) (ob := [((decide (y1_0 > (L0.length : Int))), true), (dP (ZdC #[Value.agg #[vi (L0.getD v1 RA.z).a0, vi (L0.getD v1 RA.z).a1, vi (L0.getD v1 RA.z).a2, vi (L0.getD v1 RA.z).a3]] ((L0.getD v1 RA.z).a0) ((L0.getD v1 RA.z).a1) ((L0.getD v1 RA.z).a2) ((L0.getD v1 RA.z).a3)  y1_0 true  1), true), (ZE (Zp 4 (List.drop (0 + (v1 * 4)) (Zc Zb L0))) [.i (L0.getD v1 RA.z).a0, .i (L0.getD v1 RA.z).a1, .i (L0.getD v1 RA.z).a2, .i (L0.getD v1 RA.z).a3], true), (Nat.blt v1 L0.length, true), ((v1 : Int) == Int.ofNat v1, true), ((decide ((v1 : Int) < (L0.length : Int))), true)]) (fun gv => by kernel_rfl) (oY <| Zd (Zk (Ze4 #[Value.agg #[vi (L0.getD v1 RA.z).a0, vi (L0.getD v1 RA.z).a1, vi (L0.getD v1 RA.z).a2, vi (L0.getD v1 RA.z).a3]] ((L0.getD v1 RA.z).a0) ((L0.getD v1 RA.z).a1) ((L0.getD v1 RA.z).a2) ((L0.getD v1 RA.z).a3)  y1_0 true N c1  1 rfl (by decide) (by decide))) <| Zd (Zq (E := Zb) (L := L0) (i := v1) (q := 0) (by omega) (show (0 + (v1 * 4)) = v1 * 4 + 0 from by omega) (show 0 + 4 ≤ 4 from by decide) rfl rfl) <| oB <| oI <| oY Zf) rfl (by decide) (by rfl) rr ⟨(Zh (E := Zb) (α := RA) _ L0 _), trivial⟩
    ·
     refine Mach.ok_bind (fun z4 c4 => ?_)
     cases z4 with
     | r0 y4_0 y4_1 =>
      refine Mach.ok_bind (fun z5 c5 => ?_)
      cases z5 with
      | r0 y5_0 y5_1 =>
       refine Mach.ok_ite (fun g6 => ?_) (fun g6 => ?_)
       ·
        exact Mach.ok_fin (M := ZC L0 N) (cd := 1000000) (cm := 0) (r := (.r0 ((v1 : Int)) : Z2)) (fu := 4000) (orc := (Zj [(0, true), (1, false), (2, true)] [] [(0, v1)] [(0, [.i (L0.getD v1 RA.z).a0, .i (L0.getD v1 RA.z).a1, .i (L0.getD v1 RA.z).a2, .i (L0.getD v1 RA.z).a3])] [(0, (Ze3 ((L0.getD v1 RA.z).a0) ((L0.getD v1 RA.z).a1) ((L0.getD v1 RA.z).a2) ((L0.getD v1 RA.z).a3)  y1_0 true  1)), (1, (ZcS (L0) (y1_0)  y4_0 y4_1 0 1)), (2, (ZcS (L0) ((v1 : Int))  y5_0 y5_1 0 1))])) (live := [0]) (u := vi (v1 : Int)) (bl := [some (.cells (Zc Zb L0) 54)]) (ob := [((!((y4_0 == y5_0) && ((y4_1 == y5_1) && true))), true), (dP (Zc4 #[vs 0 0 L0.length L0.length, vi (v1 : Int)] (L0) ((v1 : Int))  y5_0 y5_1 0 1), true), (dS (Zc Zb L0), true), (dP (Zc4 #[vs 0 0 L0.length L0.length, vi y1_0] (L0) (y1_0)  y4_0 y4_1 0 1), true), (dS (Zc Zb L0), true), ((decide (y1_0 > (L0.length : Int))), false), (dP (ZdC #[Value.agg #[vi (L0.getD v1 RA.z).a0, vi (L0.getD v1 RA.z).a1, vi (L0.getD v1 RA.z).a2, vi (L0.getD v1 RA.z).a3]] ((L0.getD v1 RA.z).a0) ((L0.getD v1 RA.z).a1) ((L0.getD v1 RA.z).a2) ((L0.getD v1 RA.z).a3)  y1_0 true  1), true), (ZE (Zp 4 (List.drop (0 + (v1 * 4)) (Zc Zb L0))) [.i (L0.getD v1 RA.z).a0, .i (L0.getD v1 RA.z).a1, .i (L0.getD v1 RA.z).a2, .i (L0.getD v1 RA.z).a3], true), (Nat.blt v1 L0.length, true), ((v1 : Int) == Int.ofNat v1, true), ((decide ((v1 : Int) < (L0.length : Int))), true)]) (fun gv => by kernel_rfl) (Zd (by rw [Bool.not_eq_true']; exact Bool.eq_false_iff.2 (by simp only [ne_eq, Bool.and_true, Bool.and_eq_true, beq_iff_eq]; first | omega | (intro hh; simp_all; done) | (intro hh; grind))) <| Zd (Zk (ZcT #[vs 0 0 L0.length L0.length, vi (v1 : Int)] (L0) ((v1 : Int))  y5_0 y5_1 N c5 0 1 rfl (by decide) (by decide))) <| oR <| Zd (Zk (ZcT #[vs 0 0 L0.length L0.length, vi y1_0] (L0) (y1_0)  y4_0 y4_1 N c4 0 1 rfl (by decide) (by decide))) <| oR <| oN <| Zd (Zk (Ze4 #[Value.agg #[vi (L0.getD v1 RA.z).a0, vi (L0.getD v1 RA.z).a1, vi (L0.getD v1 RA.z).a2, vi (L0.getD v1 RA.z).a3]] ((L0.getD v1 RA.z).a0) ((L0.getD v1 RA.z).a1) ((L0.getD v1 RA.z).a2) ((L0.getD v1 RA.z).a3)  y1_0 true N c1  1 rfl (by decide) (by decide))) <| Zd (Zq (E := Zb) (L := L0) (i := v1) (q := 0) (by omega) (show (0 + (v1 * 4)) = v1 * 4 + 0 from by omega) (show 0 + 4 ≤ 4 from by decide) rfl rfl) <| oB <| oI <| oY Zf) rfl (by decide) (by rfl) rr ⟨(Zh (E := Zb) (α := RA) _ L0 _), trivial⟩
       ·
        refine Mach.ok_ite (fun g7 => ?_) (fun g7 => ?_)
        ·
         exact Mach.ok_next (M := ZC L0 N) (cd := 1000000) (cm := 0) (y := (.h2m0 ((v1 + 1)) : ref12_Wrong_2X)) (fu := 4000) (orc := (Zj [(0, true), (1, false), (2, false)] [(0, (((v1 + 1) : Nat) : Int))] [(0, v1)] [(0, [.i (L0.getD v1 RA.z).a0, .i (L0.getD v1 RA.z).a1, .i (L0.getD v1 RA.z).a2, .i (L0.getD v1 RA.z).a3])] [(0, (Ze3 ((L0.getD v1 RA.z).a0) ((L0.getD v1 RA.z).a1) ((L0.getD v1 RA.z).a2) ((L0.getD v1 RA.z).a3)  y1_0 true  1)), (1, (ZcS (L0) (y1_0)  y4_0 y4_1 0 1)), (2, (ZcS (L0) ((v1 : Int))  y5_0 y5_1 0 1))])) (live := [0]) (tv := fun _ => [some (vs 0 0 L0.length L0.length), some (vi (((v1 + 1) : Nat) : Int))]) (bl := [some (.cells (Zc Zb L0) 54)]) (ob := [((IntKind.i64.wrap ((v1 : Int) + (1 : Int))) == (((v1 + 1) : Nat) : Int), true), ((!((y4_0 == y5_0) && ((y4_1 == y5_1) && true))), false), (dP (Zc4 #[vs 0 0 L0.length L0.length, vi (v1 : Int)] (L0) ((v1 : Int))  y5_0 y5_1 0 1), true), (dS (Zc Zb L0), true), (dP (Zc4 #[vs 0 0 L0.length L0.length, vi y1_0] (L0) (y1_0)  y4_0 y4_1 0 1), true), (dS (Zc Zb L0), true), ((decide (y1_0 > (L0.length : Int))), false), (dP (ZdC #[Value.agg #[vi (L0.getD v1 RA.z).a0, vi (L0.getD v1 RA.z).a1, vi (L0.getD v1 RA.z).a2, vi (L0.getD v1 RA.z).a3]] ((L0.getD v1 RA.z).a0) ((L0.getD v1 RA.z).a1) ((L0.getD v1 RA.z).a2) ((L0.getD v1 RA.z).a3)  y1_0 true  1), true), (ZE (Zp 4 (List.drop (0 + (v1 * 4)) (Zc Zb L0))) [.i (L0.getD v1 RA.z).a0, .i (L0.getD v1 RA.z).a1, .i (L0.getD v1 RA.z).a2, .i (L0.getD v1 RA.z).a3], true), (Nat.blt v1 L0.length, true), ((v1 : Int) == Int.ofNat v1, true), ((decide ((v1 : Int) < (L0.length : Int))), true)]) rfl (show 2 ∈ Zl (Zbx 2) from by decide +kernel) (fun gv => by kernel_rfl) (Zd (beq_iff_eq.2 ((wrap_i64 ltA).trans (by first | rfl | omega))) <| Zd (by rw [Bool.not_eq_false']; first | (simp only [beq_self_eq_true, Bool.and_self]; done) | (simp only [Bool.and_true, Bool.and_eq_true, beq_iff_eq] <;> first | omega | (simp_all; done) | grind)) <| Zd (Zk (ZcT #[vs 0 0 L0.length L0.length, vi (v1 : Int)] (L0) ((v1 : Int))  y5_0 y5_1 N c5 0 1 rfl (by decide) (by decide))) <| oR <| Zd (Zk (ZcT #[vs 0 0 L0.length L0.length, vi y1_0] (L0) (y1_0)  y4_0 y4_1 N c4 0 1 rfl (by decide) (by decide))) <| oR <| oN <| Zd (Zk (Ze4 #[Value.agg #[vi (L0.getD v1 RA.z).a0, vi (L0.getD v1 RA.z).a1, vi (L0.getD v1 RA.z).a2, vi (L0.getD v1 RA.z).a3]] ((L0.getD v1 RA.z).a0) ((L0.getD v1 RA.z).a1) ((L0.getD v1 RA.z).a2) ((L0.getD v1 RA.z).a3)  y1_0 true N c1  1 rfl (by decide) (by decide))) <| Zd (Zq (E := Zb) (L := L0) (i := v1) (q := 0) (by omega) (show (0 + (v1 * 4)) = v1 * 4 + 0 from by omega) (show 0 + 4 ≤ 4 from by decide) rfl rfl) <| oB <| oI <| oY Zf) rfl (by decide) (by rfl) (fun _ => ⟨rr, ⟨rr, trivial⟩⟩) ⟨(Zh (E := Zb) (α := RA) _ L0 _), trivial⟩
        ·
         exact Mach.ok_none
   ·
    obtain rfl : y1_1 = false := by simpa using g2
    refine Mach.ok_ite (fun g3 => ?_) (fun g3 => ?_)
    ·
     exact Mach.ok_next (M := ZC L0 N) (cd := 1000000) (cm := 0) (y := (.h2m0 ((v1 + 1)) : ref12_Wrong_2X)) (fu := 4000) (orc := (Zj [(0, true)] [(0, (((v1 + 1) : Nat) : Int))] [(0, v1)] [(0, [.i (L0.getD v1 RA.z).a0, .i (L0.getD v1 RA.z).a1, .i (L0.getD v1 RA.z).a2, .i (L0.getD v1 RA.z).a3])] [(0, (Ze3 ((L0.getD v1 RA.z).a0) ((L0.getD v1 RA.z).a1) ((L0.getD v1 RA.z).a2) ((L0.getD v1 RA.z).a3)  y1_0 false  1))])) (live := [0]) (tv := fun _ => [some (vs 0 0 L0.length L0.length), some (vi (((v1 + 1) : Nat) : Int))]) (bl := [some (.cells (Zc Zb L0) 54)]) (ob := [((IntKind.i64.wrap ((v1 : Int) + (1 : Int))) == (((v1 + 1) : Nat) : Int), true), (dP (ZdC #[Value.agg #[vi (L0.getD v1 RA.z).a0, vi (L0.getD v1 RA.z).a1, vi (L0.getD v1 RA.z).a2, vi (L0.getD v1 RA.z).a3]] ((L0.getD v1 RA.z).a0) ((L0.getD v1 RA.z).a1) ((L0.getD v1 RA.z).a2) ((L0.getD v1 RA.z).a3)  y1_0 false  1), true), (ZE (Zp 4 (List.drop (0 + (v1 * 4)) (Zc Zb L0))) [.i (L0.getD v1 RA.z).a0, .i (L0.getD v1 RA.z).a1, .i (L0.getD v1 RA.z).a2, .i (L0.getD v1 RA.z).a3], true), (Nat.blt v1 L0.length, true), ((v1 : Int) == Int.ofNat v1, true), ((decide ((v1 : Int) < (L0.length : Int))), true)]) rfl (show 2 ∈ Zl (Zbx 2) from by decide +kernel) (fun gv => by kernel_rfl) (Zd (beq_iff_eq.2 ((wrap_i64 ltA).trans (by first | rfl | omega))) <| Zd (Zk (Ze4 #[Value.agg #[vi (L0.getD v1 RA.z).a0, vi (L0.getD v1 RA.z).a1, vi (L0.getD v1 RA.z).a2, vi (L0.getD v1 RA.z).a3]] ((L0.getD v1 RA.z).a0) ((L0.getD v1 RA.z).a1) ((L0.getD v1 RA.z).a2) ((L0.getD v1 RA.z).a3)  y1_0 false N c1  1 rfl (by decide) (by decide))) <| Zd (Zq (E := Zb) (L := L0) (i := v1) (q := 0) (by omega) (show (0 + (v1 * 4)) = v1 * 4 + 0 from by omega) (show 0 + 4 ≤ 4 from by decide) rfl rfl) <| oB <| oI <| oY Zf) rfl (by decide) (by rfl) (fun _ => ⟨rr, ⟨rr, trivial⟩⟩) ⟨(Zh (E := Zb) (α := RA) _ L0 _), trivial⟩
    ·
     exact Mach.ok_none
 ·
  exact Mach.ok_fin (M := ZC L0 N) (cd := 1000000) (cm := 0) (r := (.r0 ((-1 : Int)) : Z2)) (fu := 4000) (orc := (Zj [(0, false)] [] [] [] [])) (live := [0]) (u := vi (-1 : Int)) (bl := [some (.cells (Zc Zb L0) 54)]) (ob := [((decide ((v1 : Int) < (L0.length : Int))), false)]) (fun gv => by kernel_rfl) (oN Zf) rfl (by decide) (by rfl) rr ⟨(Zh (E := Zb) (α := RA) _ L0 _), trivial⟩

theorem Zl0 (L0 : List RA) (N : Nat) : (ZC L0 N).Enter Tryz.prog Zs #[vs 0 0 L0.length L0.length] (Zea L0 N) := by
 unfold Zea
 refine Mach.en_ite (fun g0 => ?_) (fun g0 => ?_)
 ·
  exact Mach.en_fin (M := ZC L0 N) (cd := 1000000) (cm := 0) (r := (.r0 ((0 : Int)) : Z2)) (fu := 4000) (orc := (Zj [(0, true)] [] [] [] [])) (live := [0]) (u := vq) (bl := [some (.cells (Zc Zb L0) 54)]) (ob := [((decide ((L0.length : Int) < (1 : Int))), true)]) (by kernel_rfl) (oY Zf) rfl (by decide) (by rfl) rr ⟨(Zh (E := Zb) (α := RA) _ L0 _), trivial⟩
 ·
  refine Mach.en_ite (fun g1 => ?_) (fun g1 => ?_)
  ·
   exact Mach.en_fin (M := ZC L0 N) (cd := 1000000) (cm := 0) (r := (.r0 ((0 : Int)) : Z2)) (fu := 4000) (orc := (Zj [(0, false), (1, true)] [] [] [] [])) (live := [0]) (u := vq) (bl := [some (.cells (Zc Zb L0) 54)]) (ob := [((decide ((L0.length : Int) > (512 : Int))), true), ((decide ((L0.length : Int) < (1 : Int))), false)]) (by kernel_rfl) (oY <| oN Zf) rfl (by decide) (by rfl) rr ⟨(Zh (E := Zb) (α := RA) _ L0 _), trivial⟩
  ·
   exact Mach.en_head (bK := Za6 1) (M := ZC L0 N) (cd := 1000000) (cm := 0) (y := (.h1m0 (0) : ref12_Wrong_2X)) (fu := 4000) (orc := (Zj [(0, false), (1, false)] [] [] [] [])) (live := [0]) (tv := [some (vs 0 0 L0.length L0.length), some (vn), some (vq)]) (bl := [some (.cells (Zc Zb L0) 54)]) (ob := [((decide ((L0.length : Int) > (512 : Int))), false), ((decide ((L0.length : Int) < (1 : Int))), false)]) rfl rfl (show Zl (Za6 1).2 = [] from rfl) (by kernel_rfl) (oN <| oN Zf) rfl (by decide) (by rfl) ⟨rr, ⟨rr, ⟨⟨Eq.trans (show (vi ((0 : Nat) : Int) : Value) = vq from (congrArg (Value.int .i64) (by first | rfl | omega))) (by rfl), by rfl⟩, trivial⟩⟩⟩ ⟨(Zh (E := Zb) (α := RA) _ L0 _), trivial⟩

theorem Zko (L0 : List RA) (N : Nat) (r : Z2) (h : ZeJ L0 N = some r) : LSpec Tryz.prog 44 #[vs 0 0 L0.length L0.length] [.cells (Zc Zb L0) 54] (Zif L0 r) (Zhp L0 r) :=
 Mach.spec ZaP (ZC L0 N) Tryz.func44 (by kernel_rfl) (by kernel_rfl) (fun x => by cases x <;> exact Zan _ rfl) (fun r => by cases r <;> exact Zan _ rfl) (fun x => by
  cases x with
  | h1m0 _ => exact fun _ => (show ¬ (1 ∈ Zl (Za6 1).2) from by decide +kernel)
  | h1m1 _ _ => exact fun _ => (show ¬ (1 ∈ Zl (Za6 1).2) from by decide +kernel)
  | h2m0 _ => exact fun _ => (show ¬ (2 ∈ Zl (Za6 2).2) from by decide +kernel)
  ) (fun x => (show (ZC L0 N).Ok Tryz.prog Zs x (ZaI L0 N x) from by
  cases x with
  | h1m0 v1 => exact Zj6 L0 v1 N
  | h1m1 v1 v2 => exact Zj7 L0 v1 v2 N
  | h2m0 v1 => exact Zj8 L0 v1 N
  )) (Zl0 L0 N) (n := N) h

noncomputable def Zdo (L0 : List RA) (w1 : Int) (k0 n : Nat) : ZaF := .call [(k0, .cells (Zc Zb L0) 54)] (vi w1) [] 0
def ZcA (A : Array Value) (L0 : List RA) (w1 : Int) (k0 n : Nat) : Prop := ZH Tryz.prog 44 A [(k0, .cells (Zc Zb L0) 54)] (vi w1) [] n 0

theorem Zdp (A : Array Value) (L0 : List RA) (w1 : Int) (N : Nat) (h : ZeJ L0 N = some (.r0 w1)) (k0 n : Nat) (hA : A = #[vs k0 0 L0.length L0.length]) (hnd : ([k0] : List Nat).Nodup) (hlt : ∀ k ∈ ([k0] : List Nat), k < n) : ZcA A L0 w1 k0 n :=
 ZX hA (LSpec.callL (show LSpec Tryz.prog 44 #[vs 0 0 L0.length L0.length] [.cells (Zc Zb L0) 54] (vi w1) [some (.cells (Zc Zb L0) 54)] from Zko L0 N _ h) [k0] n [] rfl hnd hlt (show 1 ≤ 1 from by decide) (show ∀ j ∈ ([] : List Nat), j < 1 from by decide) (by rfl) ⟨(ZJ _ _ _), trivial⟩ (by rfl) ⟨(ZJ _ _ _), trivial⟩ ⟨.inr rfl, trivial⟩ rfl rfl rfl (Za (ZS rfl (Zax _ _ _)) rfl) rfl)

noncomputable def Zig (L0 : List RA) : Zar → Value
 | .r0 w1 => vi w1
noncomputable def Zhr (L0 : List RA) : Zar → List (Option AObj)
 | .r0 w1 => [some (.cells (Zc Zb L0) 54)]

theorem Zl1 (L0 : List RA) (N : Nat) : Fx Tryz.prog Zs Tryz.f29 [.cells (Zc Zb L0) 54] #[vs 0 0 L0.length L0.length] (Zig L0) (Zhr L0) (Zag L0 N) := by
 unfold Zag
 refine ZdR (fun z0 c0 => ?_)
 cases z0 with
 | r0 y0_0 =>
  refine Zv (fun g1 => ?_) (fun g1 => ?_)
  ·
   exact Zt (r := (.r0 ((0 : Int)) : Zar)) (fu := 4000) (orc := (Zj [(0, true)] [] [] [] [(0, (Zdo (L0)  y0_0 0 1))])) (live := [0]) (u := vq) (bl := [some (.cells (Zc Zb L0) 54)]) (ob := [((decide (y0_0 < (0 : Int))), true), (dP (ZcA #[vs 0 0 L0.length L0.length] (L0)  y0_0 0 1), true), (dS (Zc Zb L0), true)]) (by kernel_rfl) (oY <| Zd (Zk (Zdp #[vs 0 0 L0.length L0.length] (L0)  y0_0 N c0 0 1 rfl (by decide) (by decide))) <| oR Zf) rfl (by decide) (by rfl) rr ⟨(Zh (E := Zb) (α := RA) _ L0 _), trivial⟩
  ·
   refine Zv (fun g2 => ?_) (fun g2 => ?_)
   ·
    refine Zv (fun g3 => ?_) (fun g3 => ?_)
    ·
     refine Zv (fun g4 => ?_) (fun g4 => ?_)
     ·
      exact Zt (r := (.r0 ((140 : Int)) : Zar)) (fu := 4000) (orc := (Zj [(0, false), (1, true), (2, true), (3, true)] [] [(0, (y0_0).toNat)] [(0, [.i (L0.getD (y0_0).toNat RA.z).a0, .i (L0.getD (y0_0).toNat RA.z).a1, .i (L0.getD (y0_0).toNat RA.z).a2, .i (L0.getD (y0_0).toNat RA.z).a3])] [(0, (Zdo (L0)  y0_0 0 1))])) (live := [0]) (u := vi (140 : Int)) (bl := [some (.cells (Zc Zb L0) 54)]) (ob := [((((L0.getD (y0_0).toNat RA.z).a0 == (15 : Int)) && (((L0.getD (y0_0).toNat RA.z).a1 == (0 : Int)) && (((L0.getD (y0_0).toNat RA.z).a2 == (0 : Int)) && (((L0.getD (y0_0).toNat RA.z).a3 == (0 : Int)) && true)))), true), (ZE (Zp 4 (List.drop (0 + ((y0_0).toNat * 4)) (Zc Zb L0))) [.i (L0.getD (y0_0).toNat RA.z).a0, .i (L0.getD (y0_0).toNat RA.z).a1, .i (L0.getD (y0_0).toNat RA.z).a2, .i (L0.getD (y0_0).toNat RA.z).a3], true), (Nat.blt (y0_0).toNat L0.length, true), (y0_0 == Int.ofNat (y0_0).toNat, true), ((decide ((L0.length : Int) ≤ (512 : Int))), true), ((decide (y0_0 < (L0.length : Int))), true), ((decide (y0_0 < (0 : Int))), false), (dP (ZcA #[vs 0 0 L0.length L0.length] (L0)  y0_0 0 1), true), (dS (Zc Zb L0), true)]) (by kernel_rfl) (Zd (by first | (simp only [beq_self_eq_true, Bool.and_self]; done) | (simp only [Bool.and_true, Bool.and_eq_true, beq_iff_eq] <;> first | omega | (simp_all; done) | grind)) <| Zd (Zq (E := Zb) (L := L0) (i := (y0_0).toNat) (q := 0) (by omega) (show (0 + ((y0_0).toNat * 4)) = (y0_0).toNat * 4 + 0 from by omega) (show 0 + 4 ≤ 4 from by decide) rfl rfl) <| oB <| oI <| oY <| oY <| oN <| Zd (Zk (Zdp #[vs 0 0 L0.length L0.length] (L0)  y0_0 N c0 0 1 rfl (by decide) (by decide))) <| oR Zf) rfl (by decide) (by rfl) rr ⟨(Zh (E := Zb) (α := RA) _ L0 _), trivial⟩
     ·
      exact Zt (r := (.r0 ((120 : Int)) : Zar)) (fu := 4000) (orc := (Zj [(0, false), (1, true), (2, true), (3, false)] [] [(0, (y0_0).toNat)] [(0, [.i (L0.getD (y0_0).toNat RA.z).a0, .i (L0.getD (y0_0).toNat RA.z).a1, .i (L0.getD (y0_0).toNat RA.z).a2, .i (L0.getD (y0_0).toNat RA.z).a3])] [(0, (Zdo (L0)  y0_0 0 1))])) (live := [0]) (u := vi (120 : Int)) (bl := [some (.cells (Zc Zb L0) 54)]) (ob := [((((L0.getD (y0_0).toNat RA.z).a0 == (15 : Int)) && (((L0.getD (y0_0).toNat RA.z).a1 == (0 : Int)) && (((L0.getD (y0_0).toNat RA.z).a2 == (0 : Int)) && (((L0.getD (y0_0).toNat RA.z).a3 == (0 : Int)) && true)))), false), (ZE (Zp 4 (List.drop (0 + ((y0_0).toNat * 4)) (Zc Zb L0))) [.i (L0.getD (y0_0).toNat RA.z).a0, .i (L0.getD (y0_0).toNat RA.z).a1, .i (L0.getD (y0_0).toNat RA.z).a2, .i (L0.getD (y0_0).toNat RA.z).a3], true), (Nat.blt (y0_0).toNat L0.length, true), (y0_0 == Int.ofNat (y0_0).toNat, true), ((decide ((L0.length : Int) ≤ (512 : Int))), true), ((decide (y0_0 < (L0.length : Int))), true), ((decide (y0_0 < (0 : Int))), false), (dP (ZcA #[vs 0 0 L0.length L0.length] (L0)  y0_0 0 1), true), (dS (Zc Zb L0), true)]) (by kernel_rfl) (Zd (Bool.eq_false_iff.2 (by simp only [ne_eq, Bool.and_true, Bool.and_eq_true, beq_iff_eq]; first | omega | (intro hh; simp_all; done) | (intro hh; grind))) <| Zd (Zq (E := Zb) (L := L0) (i := (y0_0).toNat) (q := 0) (by omega) (show (0 + ((y0_0).toNat * 4)) = (y0_0).toNat * 4 + 0 from by omega) (show 0 + 4 ≤ 4 from by decide) rfl rfl) <| oB <| oI <| oY <| oY <| oN <| Zd (Zk (Zdp #[vs 0 0 L0.length L0.length] (L0)  y0_0 N c0 0 1 rfl (by decide) (by decide))) <| oR Zf) rfl (by decide) (by rfl) rr ⟨(Zh (E := Zb) (α := RA) _ L0 _), trivial⟩
    ·
     exact Zt (r := (.r0 ((120 : Int)) : Zar)) (fu := 4000) (orc := (Zj [(0, false), (1, true), (2, false)] [] [] [] [(0, (Zdo (L0)  y0_0 0 1))])) (live := [0]) (u := vi (120 : Int)) (bl := [some (.cells (Zc Zb L0) 54)]) (ob := [((decide ((L0.length : Int) ≤ (512 : Int))), false), ((decide (y0_0 < (L0.length : Int))), true), ((decide (y0_0 < (0 : Int))), false), (dP (ZcA #[vs 0 0 L0.length L0.length] (L0)  y0_0 0 1), true), (dS (Zc Zb L0), true)]) (by kernel_rfl) (oN <| oY <| oN <| Zd (Zk (Zdp #[vs 0 0 L0.length L0.length] (L0)  y0_0 N c0 0 1 rfl (by decide) (by decide))) <| oR Zf) rfl (by decide) (by rfl) rr ⟨(Zh (E := Zb) (α := RA) _ L0 _), trivial⟩
   ·
    exact Zt (r := (.r0 ((120 : Int)) : Zar)) (fu := 4000) (orc := (Zj [(0, false), (1, false)] [] [] [] [(0, (Zdo (L0)  y0_0 0 1))])) (live := [0]) (u := vi (120 : Int)) (bl := [some (.cells (Zc Zb L0) 54)]) (ob := [((decide (y0_0 < (L0.length : Int))), false), ((decide (y0_0 < (0 : Int))), false), (dP (ZcA #[vs 0 0 L0.length L0.length] (L0)  y0_0 0 1), true), (dS (Zc Zb L0), true)]) (by kernel_rfl) (oN <| oN <| Zd (Zk (Zdp #[vs 0 0 L0.length L0.length] (L0)  y0_0 N c0 0 1 rfl (by decide) (by decide))) <| oR Zf) rfl (by decide) (by rfl) rr ⟨(Zh (E := Zb) (α := RA) _ L0 _), trivial⟩

theorem Zge (L0 : List RA) (N : Nat) (r : Zar) (h : Zag L0 N = some r) : LSpec Tryz.prog 29 #[vs 0 0 L0.length L0.length] [.cells (Zc Zb L0) 54] (Zig L0 r) (Zhr L0 r) :=
 ZbF ZaP Tryz.func29 (by kernel_rfl) (by kernel_rfl) (fun r => by cases r <;> exact Zan _ rfl) (Zl1 L0 N) h

noncomputable def Z9 (L0 : List RA) (w1 : Int) (k0 n : Nat) : ZaF := .call [(k0, .cells (Zc Zb L0) 54)] (vi w1) [] 0
def Z6 (A : Array Value) (L0 : List RA) (w1 : Int) (k0 n : Nat) : Prop := ZH Tryz.prog 29 A [(k0, .cells (Zc Zb L0) 54)] (vi w1) [] n 0

theorem ZA (A : Array Value) (L0 : List RA) (w1 : Int) (N : Nat) (h : Zag L0 N = some (.r0 w1)) (k0 n : Nat) (hA : A = #[vs k0 0 L0.length L0.length]) (hnd : ([k0] : List Nat).Nodup) (hlt : ∀ k ∈ ([k0] : List Nat), k < n) : Z6 A L0 w1 k0 n :=
 ZX hA (LSpec.callL (show LSpec Tryz.prog 29 #[vs 0 0 L0.length L0.length] [.cells (Zc Zb L0) 54] (vi w1) [some (.cells (Zc Zb L0) 54)] from Zge L0 N _ h) [k0] n [] rfl hnd hlt (show 1 ≤ 1 from by decide) (show ∀ j ∈ ([] : List Nat), j < 1 from by decide) (by rfl) ⟨(ZJ _ _ _), trivial⟩ (by rfl) ⟨(ZJ _ _ _), trivial⟩ ⟨.inr rfl, trivial⟩ rfl rfl rfl (Za (ZS rfl (Zax _ _ _)) rfl) rfl)

noncomputable def Zj0 (L0 : List RA) : Zal → Value
 | .r0 => vn
 | .r1 w1 => vs 1 0 w1.length w1.length
noncomputable def Zih (L0 : List RA) : Zal → List (Option AObj)
 | .r0 => [some (.cells (Zc Zb L0) 54)]
 | .r1 w1 => [some (.cells (Zc Zb L0) 54), some (.cells (Zc eI w1) 3)]

def ZmZ : ZF → Nat
 | .h1m0 v1 => 1
 | .h1m1 v1 v2 => 1
noncomputable def ZnM (L0 : List RA) : ZF → List (Nat × Value)
 | .h1m0 v1 => [(0, vs 0 0 L0.length L0.length), (3, vn), (4, vi (v1 : Int))]
 | .h1m1 v1 v2 => [(0, vs 0 0 L0.length L0.length), (3, vs 1 0 v1.length v1.length), (4, vi (v2 : Int))]
noncomputable def ZnN (L0 : List RA) : ZF → List (Option AObj)
 | .h1m0 v1 => [some (.cells (Zc Zb L0) 54)]
 | .h1m1 v1 v2 => [some (.cells (Zc Zb L0) 54), some (.cells (Zc eI v1) 3)]

noncomputable def ZcH : Nat → Code × List Za5
 | 1 => ZbE [1, 1, 1, 0, 1, 3] (ZcJ Tryz.f30) []
 | _ => (.skip, [])
def Zii : Nat → Bool
 | 1 => true
 | _ => true
noncomputable def Zcz (i : Nat) : List Za5 := match Zii i with | true => .rnd i :: (ZcH i).2 | false => (ZcH i).2

noncomputable def ZW (L0 : List RA) (N : Nat) : Mach := ⟨Tryz.f30, [.cells (Zc Zb L0) 54], ZF, Zal, ZbC L0 N, ZmZ, ZcH, Zii, ZnM L0, ZnN L0, Zj0 L0, Zih L0⟩

theorem Zkp (L0 : List RA) (v1 N : Nat) : (ZW L0 N).Ok Tryz.prog Zs (.h1m0 v1 : ZF) (ZbC L0 N (.h1m0 v1 : ZF)) := by
 show (ZW L0 N).Ok Tryz.prog Zs (.h1m0 v1 : ZF) (Zau L0 N v1)
 unfold Zau
 refine Mach.ok_ite (fun g0 => ?_) (fun g0 => ?_)
 ·
  refine Mach.ok_ite (fun g1 => ?_) (fun g1 => ?_)
  ·
   refine Mach.ok_bind (fun z2 c2 => ?_)
   cases z2 with
   | r0 =>
    refine Mach.ok_ite (fun g3 => ?_) (fun g3 => ?_)
    ·
     exact Mach.ok_next (M := ZW L0 N) (cd := 1000000) (cm := 0) (y := (.h1m1 (([(v1 : Int)] : List Int)) ((v1 + 1)) : ZF)) (fu := 4000) (orc := (Zj [(0, true), (1, true)] [(0, (((v1 + 1) : Nat) : Int))] [(0, v1)] [(0, [.i (L0.getD v1 RA.z).a0])] [(0, (Zgu (L0) ((v1 : Int))   0 1))])) (live := [0, 2]) (tv := fun _ => [some (vs 0 0 L0.length L0.length), some (vs 2 0 1 1), some (vi (((v1 + 1) : Nat) : Int))]) (bl := [some (.cells (Zc Zb L0) 54), some (.cells [vi (v1 : Int)] 3)]) (ob := [((IntKind.i64.wrap ((v1 : Int) + (1 : Int))) == (((v1 + 1) : Nat) : Int), true), (dP (ZeM #[vs 0 0 L0.length L0.length, vi (v1 : Int)] (L0) ((v1 : Int))   0 1), true), (dS (Zc Zb L0), true), (((L0.getD v1 RA.z).a0 == (15 : Int)), true), (ZE (Zp 1 (List.drop ((0 + (v1 * 4)) + 0) (Zc Zb L0))) [.i (L0.getD v1 RA.z).a0], true), (Nat.blt v1 L0.length, true), ((v1 : Int) == Int.ofNat v1, true), ((decide ((v1 : Int) < (L0.length : Int))), true)]) rfl (show 1 ∈ Zl (Zcz 1) from by decide +kernel) (fun gv => by kernel_rfl) (Zd (beq_iff_eq.2 ((wrap_i64 ltA).trans (by first | rfl | omega))) <| Zd (Zk (Zgv #[vs 0 0 L0.length L0.length, vi (v1 : Int)] (L0) ((v1 : Int))   N c2 0 1 rfl (by decide) (by decide))) <| oR <| oT <| Zd (Zq (E := Zb) (L := L0) (i := v1) (q := 0) (by omega) (show ((0 + (v1 * 4)) + 0) = v1 * 4 + 0 from by omega) (show 0 + 1 ≤ 4 from by decide) rfl rfl) <| oB <| oI <| oY Zf) rfl (by decide) (by rfl) (fun _ => ⟨rr, ⟨⟨Eq.trans (show (vs 1 0 ([(v1 : Int)] : List Int).length ([(v1 : Int)] : List Int).length : Value) = vs 1 0 1 1 from (ZO rfl eqA eqA)) (by rfl), by rfl⟩, ⟨rr, trivial⟩⟩⟩) ⟨(Zh (E := Zb) (α := RA) _ L0 _), ⟨(Zbv (E := eI) _ (L := ([(v1 : Int)] : List Int)) _ (show ([vi (v1 : Int)] : List Value) = Zc eI ([(v1 : Int)] : List Int) from rfl)), trivial⟩⟩
    ·
     exact Mach.ok_none
   | r1 y2_0 =>
    refine Mach.ok_ite (fun g3 => ?_) (fun g3 => ?_)
    ·
     refine Mach.ok_ite (fun g4 => ?_) (fun g4 => ?_)
     ·
      exact Mach.ok_next (M := ZW L0 N) (cd := 1000000) (cm := 0) (y := (.h1m1 (([(v1 : Int)] : List Int)) ((v1 + 1)) : ZF)) (fu := 4000) (orc := (Zj [(0, true), (1, true), (2, true)] [(0, (((v1 + 1) : Nat) : Int))] [(0, v1)] [(0, [.i (L0.getD v1 RA.z).a0])] [(0, (Zde (L0) ((v1 : Int))  y2_0 0 1))])) (live := [0, 3]) (tv := fun _ => [some (vs 0 0 L0.length L0.length), some (vs 3 0 1 1), some (vi (((v1 + 1) : Nat) : Int))]) (bl := [some (.cells (Zc Zb L0) 54), some (.cells [vi (v1 : Int)] 3)]) (ob := [((IntKind.i64.wrap ((v1 : Int) + (1 : Int))) == (((v1 + 1) : Nat) : Int), true), (((y2_0.length : Int) == (0 : Int)), true), (dP (ZcG #[vs 0 0 L0.length L0.length, vi (v1 : Int)] (L0) ((v1 : Int))  y2_0 0 1), true), (dS (Zc Zb L0), true), (((L0.getD v1 RA.z).a0 == (15 : Int)), true), (ZE (Zp 1 (List.drop ((0 + (v1 * 4)) + 0) (Zc Zb L0))) [.i (L0.getD v1 RA.z).a0], true), (Nat.blt v1 L0.length, true), ((v1 : Int) == Int.ofNat v1, true), ((decide ((v1 : Int) < (L0.length : Int))), true)]) rfl (show 1 ∈ Zl (Zcz 1) from by decide +kernel) (fun gv => by kernel_rfl) (Zd (beq_iff_eq.2 ((wrap_i64 ltA).trans (by first | rfl | omega))) <| oT <| Zd (Zk (Zdf #[vs 0 0 L0.length L0.length, vi (v1 : Int)] (L0) ((v1 : Int))  y2_0 N c2 0 1 rfl (by decide) (by decide))) <| oR <| oT <| Zd (Zq (E := Zb) (L := L0) (i := v1) (q := 0) (by omega) (show ((0 + (v1 * 4)) + 0) = v1 * 4 + 0 from by omega) (show 0 + 1 ≤ 4 from by decide) rfl rfl) <| oB <| oI <| oY Zf) rfl (by decide) (by rfl) (fun _ => ⟨rr, ⟨⟨Eq.trans (show (vs 1 0 ([(v1 : Int)] : List Int).length ([(v1 : Int)] : List Int).length : Value) = vs 1 0 1 1 from (ZO rfl eqA eqA)) (by rfl), by rfl⟩, ⟨rr, trivial⟩⟩⟩) ⟨(Zh (E := Zb) (α := RA) _ L0 _), ⟨(Zbv (E := eI) _ (L := ([(v1 : Int)] : List Int)) _ (show ([vi (v1 : Int)] : List Value) = Zc eI ([(v1 : Int)] : List Int) from rfl)), trivial⟩⟩
     ·
      exact Mach.ok_none
    ·
     refine Mach.ok_ite (fun g4 => ?_) (fun g4 => ?_)
     ·
      exact Mach.ok_next (M := ZW L0 N) (cd := 1000000) (cm := 0) (y := (.h1m0 ((v1 + 1)) : ZF)) (fu := 4000) (orc := (Zj [(0, true), (1, true), (2, false)] [(0, (((v1 + 1) : Nat) : Int))] [(0, v1)] [(0, [.i (L0.getD v1 RA.z).a0])] [(0, (Zde (L0) ((v1 : Int))  y2_0 0 1))])) (live := [0]) (tv := fun _ => [some (vs 0 0 L0.length L0.length), some (vn), some (vi (((v1 + 1) : Nat) : Int))]) (bl := [some (.cells (Zc Zb L0) 54)]) (ob := [((IntKind.i64.wrap ((v1 : Int) + (1 : Int))) == (((v1 + 1) : Nat) : Int), true), (((y2_0.length : Int) == (0 : Int)), false), (dP (ZcG #[vs 0 0 L0.length L0.length, vi (v1 : Int)] (L0) ((v1 : Int))  y2_0 0 1), true), (dS (Zc Zb L0), true), (((L0.getD v1 RA.z).a0 == (15 : Int)), true), (ZE (Zp 1 (List.drop ((0 + (v1 * 4)) + 0) (Zc Zb L0))) [.i (L0.getD v1 RA.z).a0], true), (Nat.blt v1 L0.length, true), ((v1 : Int) == Int.ofNat v1, true), ((decide ((v1 : Int) < (L0.length : Int))), true)]) rfl (show 1 ∈ Zl (Zcz 1) from by decide +kernel) (fun gv => by kernel_rfl) (Zd (beq_iff_eq.2 ((wrap_i64 ltA).trans (by first | rfl | omega))) <| oF <| Zd (Zk (Zdf #[vs 0 0 L0.length L0.length, vi (v1 : Int)] (L0) ((v1 : Int))  y2_0 N c2 0 1 rfl (by decide) (by decide))) <| oR <| oT <| Zd (Zq (E := Zb) (L := L0) (i := v1) (q := 0) (by omega) (show ((0 + (v1 * 4)) + 0) = v1 * 4 + 0 from by omega) (show 0 + 1 ≤ 4 from by decide) rfl rfl) <| oB <| oI <| oY Zf) rfl (by decide) (by rfl) (fun _ => ⟨rr, ⟨rr, ⟨rr, trivial⟩⟩⟩) ⟨(Zh (E := Zb) (α := RA) _ L0 _), trivial⟩
     ·
      exact Mach.ok_none
  ·
   refine Mach.ok_ite (fun g2 => ?_) (fun g2 => ?_)
   ·
    exact Mach.ok_next (M := ZW L0 N) (cd := 1000000) (cm := 0) (y := (.h1m0 ((v1 + 1)) : ZF)) (fu := 4000) (orc := (Zj [(0, true), (1, false)] [(0, (((v1 + 1) : Nat) : Int))] [(0, v1)] [(0, [.i (L0.getD v1 RA.z).a0])] [])) (live := [0]) (tv := fun _ => [some (vs 0 0 L0.length L0.length), some (vn), some (vi (((v1 + 1) : Nat) : Int))]) (bl := [some (.cells (Zc Zb L0) 54)]) (ob := [((IntKind.i64.wrap ((v1 : Int) + (1 : Int))) == (((v1 + 1) : Nat) : Int), true), (((L0.getD v1 RA.z).a0 == (15 : Int)), false), (ZE (Zp 1 (List.drop ((0 + (v1 * 4)) + 0) (Zc Zb L0))) [.i (L0.getD v1 RA.z).a0], true), (Nat.blt v1 L0.length, true), ((v1 : Int) == Int.ofNat v1, true), ((decide ((v1 : Int) < (L0.length : Int))), true)]) rfl (show 1 ∈ Zl (Zcz 1) from by decide +kernel) (fun gv => by kernel_rfl) (Zd (beq_iff_eq.2 ((wrap_i64 ltA).trans (by first | rfl | omega))) <| oF <| Zd (Zq (E := Zb) (L := L0) (i := v1) (q := 0) (by omega) (show ((0 + (v1 * 4)) + 0) = v1 * 4 + 0 from by omega) (show 0 + 1 ≤ 4 from by decide) rfl rfl) <| oB <| oI <| oY Zf) rfl (by decide) (by rfl) (fun _ => ⟨rr, ⟨rr, ⟨rr, trivial⟩⟩⟩) ⟨(Zh (E := Zb) (α := RA) _ L0 _), trivial⟩
   ·
    exact Mach.ok_none
 ·
  exact Mach.ok_fin (M := ZW L0 N) (cd := 1000000) (cm := 0) (r := (.r0 : Zal)) (fu := 4000) (orc := (Zj [(0, false)] [] [] [] [])) (live := [0]) (u := vn) (bl := [some (.cells (Zc Zb L0) 54)]) (ob := [((decide ((v1 : Int) < (L0.length : Int))), false)]) (fun gv => by kernel_rfl) (oN Zf) rfl (by decide) (by rfl) rr ⟨(Zh (E := Zb) (α := RA) _ L0 _), trivial⟩

theorem Zkq (L0 : List RA) (v1 : List Int) (v2 N : Nat) : (ZW L0 N).Ok Tryz.prog Zs (.h1m1 v1 v2 : ZF) (ZbC L0 N (.h1m1 v1 v2 : ZF)) := by
 show (ZW L0 N).Ok Tryz.prog Zs (.h1m1 v1 v2 : ZF) (Zbz L0 N v1 v2)
 unfold Zbz
 refine Mach.ok_ite (fun g0 => ?_) (fun g0 => ?_)
 ·
  refine Mach.ok_ite (fun g1 => ?_) (fun g1 => ?_)
  ·
   refine Mach.ok_bind (fun z2 c2 => ?_)
   cases z2 with
   | r0 =>
    refine Mach.ok_ite (fun g3 => ?_) (fun g3 => ?_)
    ·
     refine Mach.ok_ite (fun g4 => ?_) (fun g4 => ?_)
     ·
      exact Mach.ok_next (M := ZW L0 N) (cd := 1000000) (cm := 0) (y := (.h1m1 ((v1 ++ ([(v2 : Int)] : List Int))) ((v2 + 1)) : ZF)) (fu := 4000) (orc := (Zj [(0, true), (1, true)] [(0, (((v2 + 1) : Nat) : Int))] [(0, v2)] [(0, [.i (L0.getD v2 RA.z).a0])] [(0, (Zgu (L0) ((v2 : Int))   0 2)), (1, .ap 1 [vi (v2 : Int)] (Zc eI (v1 ++ ([(v2 : Int)] : List Int))))])) (live := [0, 3]) (tv := fun _ => [some (vs 0 0 L0.length L0.length), some (vs 3 0 (v1.length + 1) (v1.length + 1)), some (vi (((v2 + 1) : Nat) : Int))]) (bl := [some (.cells (Zc Zb L0) 54), some (.cells (Zc eI (v1 ++ ([(v2 : Int)] : List Int))) 3)]) (ob := [((IntKind.i64.wrap ((v2 : Int) + (1 : Int))) == (((v2 + 1) : Nat) : Int), true), (dP ((1 = 1 ∧ Zp (1 * 1) (List.drop 0 [vi (v2 : Int)]) = some [vi (v2 : Int)] ∧ Zz ZP [vi (v2 : Int)] = true) ∧ 0 < 1 ∧ 1 ≤ 100000 ∧ v1.length < v1.length + 1 ∧ v1.length ≤ 100000 ∧ v1.length * 1 ≤ (List.length (Zc eI v1)) ∧ List.take (v1.length * 1) (Zc eI v1) ++ [vi (v2 : Int)] = (Zc eI (v1 ++ ([(v2 : Int)] : List Int)))), true), (dP (ZeM #[vs 0 0 L0.length L0.length, vi (v2 : Int)] (L0) ((v2 : Int))   0 2), true), (dS (Zc Zb L0), true), (((L0.getD v2 RA.z).a0 == (15 : Int)), true), (ZE (Zp 1 (List.drop ((0 + (v2 * 4)) + 0) (Zc Zb L0))) [.i (L0.getD v2 RA.z).a0], true), (Nat.blt v2 L0.length, true), ((v2 : Int) == Int.ofNat v2, true), ((decide ((v2 : Int) < (L0.length : Int))), true)]) rfl (show 1 ∈ Zl (Zcz 1) from by decide +kernel) (fun gv => by kernel_rfl) (Zd (beq_iff_eq.2 ((wrap_i64 ltA).trans (by first | rfl | omega))) <| Zd (Zk ⟨⟨rfl, ⟨rfl, rfl⟩⟩, by omega, by omega, ltA, by omega, (Zbm (E := eI) (L := v1) (M := ([(v2 : Int)] : List Int)) (n := v1.length) (show _ = _ * 1 from rfl) (by omega) (R := (v1 ++ ([(v2 : Int)] : List Int))) (by rw [List.take_of_length_le (by omega)]))⟩) <| Zd (Zk (Zgv #[vs 0 0 L0.length L0.length, vi (v2 : Int)] (L0) ((v2 : Int))   N c2 0 2 rfl (by decide) (by decide))) <| oR <| oT <| Zd (Zq (E := Zb) (L := L0) (i := v2) (q := 0) (by omega) (show ((0 + (v2 * 4)) + 0) = v2 * 4 + 0 from by omega) (show 0 + 1 ≤ 4 from by decide) rfl rfl) <| oB <| oI <| oY Zf) rfl (by decide) (by rfl) (fun _ => ⟨rr, ⟨⟨Eq.trans (show (vs 1 0 (v1 ++ ([(v2 : Int)] : List Int)).length (v1 ++ ([(v2 : Int)] : List Int)).length : Value) = vs 1 0 (v1.length + 1) (v1.length + 1) from (ZO rfl eqA eqA)) (by rfl), by rfl⟩, ⟨rr, trivial⟩⟩⟩) ⟨(Zh (E := Zb) (α := RA) _ L0 _), ⟨(Zh (E := eI) (α := Int) _ (v1 ++ ([(v2 : Int)] : List Int)) _), trivial⟩⟩
     ·
      exact Mach.ok_none
    ·
     exact Mach.ok_none
   | r1 y2_0 =>
    refine Mach.ok_ite (fun g3 => ?_) (fun g3 => ?_)
    ·
     refine Mach.ok_ite (fun g4 => ?_) (fun g4 => ?_)
     ·
      refine Mach.ok_ite (fun g5 => ?_) (fun g5 => ?_)
      ·
       exact Mach.ok_next (M := ZW L0 N) (cd := 1000000) (cm := 0) (y := (.h1m1 ((v1 ++ ([(v2 : Int)] : List Int))) ((v2 + 1)) : ZF)) (fu := 4000) (orc := (Zj [(0, true), (1, true), (2, true)] [(0, (((v2 + 1) : Nat) : Int))] [(0, v2)] [(0, [.i (L0.getD v2 RA.z).a0])] [(0, (Zde (L0) ((v2 : Int))  y2_0 0 2)), (1, .ap 1 [vi (v2 : Int)] (Zc eI (v1 ++ ([(v2 : Int)] : List Int))))])) (live := [0, 4]) (tv := fun _ => [some (vs 0 0 L0.length L0.length), some (vs 4 0 (v1.length + 1) (v1.length + 1)), some (vi (((v2 + 1) : Nat) : Int))]) (bl := [some (.cells (Zc Zb L0) 54), some (.cells (Zc eI (v1 ++ ([(v2 : Int)] : List Int))) 3)]) (ob := [((IntKind.i64.wrap ((v2 : Int) + (1 : Int))) == (((v2 + 1) : Nat) : Int), true), (dP ((1 = 1 ∧ Zp (1 * 1) (List.drop 0 [vi (v2 : Int)]) = some [vi (v2 : Int)] ∧ Zz ZP [vi (v2 : Int)] = true) ∧ 0 < 1 ∧ 1 ≤ 100000 ∧ v1.length < v1.length + 1 ∧ v1.length ≤ 100000 ∧ v1.length * 1 ≤ (List.length (Zc eI v1)) ∧ List.take (v1.length * 1) (Zc eI v1) ++ [vi (v2 : Int)] = (Zc eI (v1 ++ ([(v2 : Int)] : List Int)))), true), (((y2_0.length : Int) == (0 : Int)), true), (dP (ZcG #[vs 0 0 L0.length L0.length, vi (v2 : Int)] (L0) ((v2 : Int))  y2_0 0 2), true), (dS (Zc Zb L0), true), (((L0.getD v2 RA.z).a0 == (15 : Int)), true), (ZE (Zp 1 (List.drop ((0 + (v2 * 4)) + 0) (Zc Zb L0))) [.i (L0.getD v2 RA.z).a0], true), (Nat.blt v2 L0.length, true), ((v2 : Int) == Int.ofNat v2, true), ((decide ((v2 : Int) < (L0.length : Int))), true)]) rfl (show 1 ∈ Zl (Zcz 1) from by decide +kernel) (fun gv => by kernel_rfl) (Zd (beq_iff_eq.2 ((wrap_i64 ltA).trans (by first | rfl | omega))) <| Zd (Zk ⟨⟨rfl, ⟨rfl, rfl⟩⟩, by omega, by omega, ltA, by omega, (Zbm (E := eI) (L := v1) (M := ([(v2 : Int)] : List Int)) (n := v1.length) (show _ = _ * 1 from rfl) (by omega) (R := (v1 ++ ([(v2 : Int)] : List Int))) (by rw [List.take_of_length_le (by omega)]))⟩) <| oT <| Zd (Zk (Zdf #[vs 0 0 L0.length L0.length, vi (v2 : Int)] (L0) ((v2 : Int))  y2_0 N c2 0 2 rfl (by decide) (by decide))) <| oR <| oT <| Zd (Zq (E := Zb) (L := L0) (i := v2) (q := 0) (by omega) (show ((0 + (v2 * 4)) + 0) = v2 * 4 + 0 from by omega) (show 0 + 1 ≤ 4 from by decide) rfl rfl) <| oB <| oI <| oY Zf) rfl (by decide) (by rfl) (fun _ => ⟨rr, ⟨⟨Eq.trans (show (vs 1 0 (v1 ++ ([(v2 : Int)] : List Int)).length (v1 ++ ([(v2 : Int)] : List Int)).length : Value) = vs 1 0 (v1.length + 1) (v1.length + 1) from (ZO rfl eqA eqA)) (by rfl), by rfl⟩, ⟨rr, trivial⟩⟩⟩) ⟨(Zh (E := Zb) (α := RA) _ L0 _), ⟨(Zh (E := eI) (α := Int) _ (v1 ++ ([(v2 : Int)] : List Int)) _), trivial⟩⟩
      ·
       exact Mach.ok_none
     ·
      exact Mach.ok_none
    ·
     refine Mach.ok_ite (fun g4 => ?_) (fun g4 => ?_)
     ·
      exact Mach.ok_next (M := ZW L0 N) (cd := 1000000) (cm := 0) (y := (.h1m1 (v1) ((v2 + 1)) : ZF)) (fu := 4000) (orc := (Zj [(0, true), (1, true), (2, false)] [(0, (((v2 + 1) : Nat) : Int))] [(0, v2)] [(0, [.i (L0.getD v2 RA.z).a0])] [(0, (Zde (L0) ((v2 : Int))  y2_0 0 2))])) (live := [0, 1]) (tv := fun _ => [some (vs 0 0 L0.length L0.length), some (vs 1 0 v1.length v1.length), some (vi (((v2 + 1) : Nat) : Int))]) (bl := [some (.cells (Zc Zb L0) 54), some (.cells (Zc eI v1) 3)]) (ob := [((IntKind.i64.wrap ((v2 : Int) + (1 : Int))) == (((v2 + 1) : Nat) : Int), true), (((y2_0.length : Int) == (0 : Int)), false), (dP (ZcG #[vs 0 0 L0.length L0.length, vi (v2 : Int)] (L0) ((v2 : Int))  y2_0 0 2), true), (dS (Zc Zb L0), true), (((L0.getD v2 RA.z).a0 == (15 : Int)), true), (ZE (Zp 1 (List.drop ((0 + (v2 * 4)) + 0) (Zc Zb L0))) [.i (L0.getD v2 RA.z).a0], true), (Nat.blt v2 L0.length, true), ((v2 : Int) == Int.ofNat v2, true), ((decide ((v2 : Int) < (L0.length : Int))), true)]) rfl (show 1 ∈ Zl (Zcz 1) from by decide +kernel) (fun gv => by kernel_rfl) (Zd (beq_iff_eq.2 ((wrap_i64 ltA).trans (by first | rfl | omega))) <| oF <| Zd (Zk (Zdf #[vs 0 0 L0.length L0.length, vi (v2 : Int)] (L0) ((v2 : Int))  y2_0 N c2 0 2 rfl (by decide) (by decide))) <| oR <| oT <| Zd (Zq (E := Zb) (L := L0) (i := v2) (q := 0) (by omega) (show ((0 + (v2 * 4)) + 0) = v2 * 4 + 0 from by omega) (show 0 + 1 ≤ 4 from by decide) rfl rfl) <| oB <| oI <| oY Zf) rfl (by decide) (by rfl) (fun _ => ⟨rr, ⟨rr, ⟨rr, trivial⟩⟩⟩) ⟨(Zh (E := Zb) (α := RA) _ L0 _), ⟨(Zh (E := eI) (α := Int) _ v1 _), trivial⟩⟩
     ·
      exact Mach.ok_none
  ·
   refine Mach.ok_ite (fun g2 => ?_) (fun g2 => ?_)
   ·
    exact Mach.ok_next (M := ZW L0 N) (cd := 1000000) (cm := 0) (y := (.h1m1 (v1) ((v2 + 1)) : ZF)) (fu := 4000) (orc := (Zj [(0, true), (1, false)] [(0, (((v2 + 1) : Nat) : Int))] [(0, v2)] [(0, [.i (L0.getD v2 RA.z).a0])] [])) (live := [0, 1]) (tv := fun _ => [some (vs 0 0 L0.length L0.length), some (vs 1 0 v1.length v1.length), some (vi (((v2 + 1) : Nat) : Int))]) (bl := [some (.cells (Zc Zb L0) 54), some (.cells (Zc eI v1) 3)]) (ob := [((IntKind.i64.wrap ((v2 : Int) + (1 : Int))) == (((v2 + 1) : Nat) : Int), true), (((L0.getD v2 RA.z).a0 == (15 : Int)), false), (ZE (Zp 1 (List.drop ((0 + (v2 * 4)) + 0) (Zc Zb L0))) [.i (L0.getD v2 RA.z).a0], true), (Nat.blt v2 L0.length, true), ((v2 : Int) == Int.ofNat v2, true), ((decide ((v2 : Int) < (L0.length : Int))), true)]) rfl (show 1 ∈ Zl (Zcz 1) from by decide +kernel) (fun gv => by kernel_rfl) (Zd (beq_iff_eq.2 ((wrap_i64 ltA).trans (by first | rfl | omega))) <| oF <| Zd (Zq (E := Zb) (L := L0) (i := v2) (q := 0) (by omega) (show ((0 + (v2 * 4)) + 0) = v2 * 4 + 0 from by omega) (show 0 + 1 ≤ 4 from by decide) rfl rfl) <| oB <| oI <| oY Zf) rfl (by decide) (by rfl) (fun _ => ⟨rr, ⟨rr, ⟨rr, trivial⟩⟩⟩) ⟨(Zh (E := Zb) (α := RA) _ L0 _), ⟨(Zh (E := eI) (α := Int) _ v1 _), trivial⟩⟩
   ·
    exact Mach.ok_none
 ·
  exact Mach.ok_fin (M := ZW L0 N) (cd := 1000000) (cm := 0) (r := (.r1 (v1) : Zal)) (fu := 4000) (orc := (Zj [(0, false)] [] [] [] [])) (live := [0, 1]) (u := vs 1 0 v1.length v1.length) (bl := [some (.cells (Zc Zb L0) 54), some (.cells (Zc eI v1) 3)]) (ob := [((decide ((v2 : Int) < (L0.length : Int))), false)]) (fun gv => by kernel_rfl) (oN Zf) rfl (by decide) (by rfl) rr ⟨(Zh (E := Zb) (α := RA) _ L0 _), ⟨(Zh (E := eI) (α := Int) _ v1 _), trivial⟩⟩

theorem Zmy (L0 : List RA) (N : Nat) : (ZW L0 N).Enter Tryz.prog Zs #[vs 0 0 L0.length L0.length] (Zev L0 N) := by
 unfold Zev
 refine Mach.en_bind (fun z0 c0 => ?_)
 cases z0 with
 | r0 y0_0 =>
  refine Mach.en_ite (fun g1 => ?_) (fun g1 => ?_)
  ·
   exact Mach.en_fin (M := ZW L0 N) (cd := 1000000) (cm := 0) (r := (.r0 : Zal)) (fu := 4000) (orc := (Zj [(0, true)] [] [] [] [(0, (Z9 (L0)  y0_0 0 1))])) (live := [0]) (u := vn) (bl := [some (.cells (Zc Zb L0) 54)]) (ob := [((y0_0 != (0 : Int)), true), (dP (Z6 #[vs 0 0 L0.length L0.length] (L0)  y0_0 0 1), true), (dS (Zc Zb L0), true)]) (by kernel_rfl) (oD <| Zd (Zk (ZA #[vs 0 0 L0.length L0.length] (L0)  y0_0 N c0 0 1 rfl (by decide) (by decide))) <| oR Zf) rfl (by decide) (by rfl) rr ⟨(Zh (E := Zb) (α := RA) _ L0 _), trivial⟩
  ·
   exact Mach.en_head (bK := ZcH 1) (M := ZW L0 N) (cd := 1000000) (cm := 0) (y := (.h1m0 (0) : ZF)) (fu := 4000) (orc := (Zj [(0, false)] [] [] [] [(0, (Z9 (L0)  y0_0 0 1))])) (live := [0]) (tv := [some (vs 0 0 L0.length L0.length), some (vn), some (vq)]) (bl := [some (.cells (Zc Zb L0) 54)]) (ob := [((y0_0 != (0 : Int)), false), (dP (Z6 #[vs 0 0 L0.length L0.length] (L0)  y0_0 0 1), true), (dS (Zc Zb L0), true)]) rfl rfl (show Zl (ZcH 1).2 = [] from rfl) (by kernel_rfl) (oE <| Zd (Zk (ZA #[vs 0 0 L0.length L0.length] (L0)  y0_0 N c0 0 1 rfl (by decide) (by decide))) <| oR Zf) rfl (by decide) (by rfl) ⟨rr, ⟨rr, ⟨⟨Eq.trans (show (vi ((0 : Nat) : Int) : Value) = vq from (congrArg (Value.int .i64) (by first | rfl | omega))) (by rfl), by rfl⟩, trivial⟩⟩⟩ ⟨(Zh (E := Zb) (α := RA) _ L0 _), trivial⟩

theorem Zgw (L0 : List RA) (N : Nat) (r : Zal) (h : ZaW L0 N = some r) : LSpec Tryz.prog 30 #[vs 0 0 L0.length L0.length] [.cells (Zc Zb L0) 54] (Zj0 L0 r) (Zih L0 r) :=
 Mach.spec ZaP (ZW L0 N) Tryz.func30 (by kernel_rfl) (by kernel_rfl) (fun x => by cases x <;> exact Zan _ rfl) (fun r => by cases r <;> exact Zan _ rfl) (fun x => by
  cases x with
  | h1m0 _ => exact fun _ => (show ¬ (1 ∈ Zl (ZcH 1).2) from by decide +kernel)
  | h1m1 _ _ => exact fun _ => (show ¬ (1 ∈ Zl (ZcH 1).2) from by decide +kernel)
  ) (fun x => (show (ZW L0 N).Ok Tryz.prog Zs x (ZbC L0 N x) from by
  cases x with
  | h1m0 v1 => exact Zkp L0 v1 N
  | h1m1 v1 v2 => exact Zkq L0 v1 v2 N
  )) (Zmy L0 N) (n := N) h

noncomputable def ZcU (L0 : List RA) (k0 n : Nat) : ZaF := .call [(k0, .cells (Zc Zb L0) 54)] (vn) [] 0
def Zc5 (A : Array Value) (L0 : List RA) (k0 n : Nat) : Prop := ZH Tryz.prog 30 A [(k0, .cells (Zc Zb L0) 54)] (vn) [] n 0

theorem ZcV (A : Array Value) (L0 : List RA) (N : Nat) (h : ZaW L0 N = some (.r0)) (k0 n : Nat) (hA : A = #[vs k0 0 L0.length L0.length]) (hnd : ([k0] : List Nat).Nodup) (hlt : ∀ k ∈ ([k0] : List Nat), k < n) : Zc5 A L0 k0 n :=
 ZX hA (LSpec.callL (show LSpec Tryz.prog 30 #[vs 0 0 L0.length L0.length] [.cells (Zc Zb L0) 54] (vn) [some (.cells (Zc Zb L0) 54)] from Zgw L0 N _ h) [k0] n [] rfl hnd hlt (show 1 ≤ 1 from by decide) (show ∀ j ∈ ([] : List Nat), j < 1 from by decide) (by rfl) ⟨(ZJ _ _ _), trivial⟩ (by rfl) ⟨(ZJ _ _ _), trivial⟩ ⟨.inr rfl, trivial⟩ rfl rfl rfl (Za (ZS rfl (Zax _ _ _)) rfl) rfl)

noncomputable def Za7 (L0 : List RA) (w1 : List Int) (k0 n : Nat) : ZaF := .call [(k0, .cells (Zc Zb L0) 54)] (vs n 0 w1.length w1.length) [(n, some (.cells (Zc eI w1) 3))] 1
def Zaz (A : Array Value) (L0 : List RA) (w1 : List Int) (k0 n : Nat) : Prop := ZH Tryz.prog 30 A [(k0, .cells (Zc Zb L0) 54)] (vs n 0 w1.length w1.length) [(n, some (.cells (Zc eI w1) 3))] n 1

theorem Za8 (A : Array Value) (L0 : List RA) (w1 : List Int) (N : Nat) (h : ZaW L0 N = some (.r1 w1)) (k0 n : Nat) (hA : A = #[vs k0 0 L0.length L0.length]) (hnd : ([k0] : List Nat).Nodup) (hlt : ∀ k ∈ ([k0] : List Nat), k < n) : Zaz A L0 w1 k0 n :=
 ZX hA (LSpec.callL (show LSpec Tryz.prog 30 #[vs 0 0 L0.length L0.length] [.cells (Zc Zb L0) 54] (vs 1 0 w1.length w1.length) [some (.cells (Zc Zb L0) 54), some (.cells (Zc eI w1) 3)] from Zgw L0 N _ h) [k0] n [1] rfl hnd hlt (show 1 ≤ 2 from by decide) (show ∀ j ∈ ([1] : List Nat), j < 2 from by decide) (by rfl) ⟨(ZJ _ _ _), trivial⟩ (by rfl) ⟨(ZJ _ _ _), ⟨(ZJ _ _ _), trivial⟩⟩ ⟨.inr rfl, ⟨(by decide), trivial⟩⟩ rfl rfl rfl (Za (ZS rfl (Zax _ _ _)) rfl) (Za (ZS rfl (Zbk (Zax _ _ _))) rfl))

noncomputable def Zj1 (L0 : List RA) (a1 : Int) : ZaJ → Value
 | .r0 w1 w2 => Value.tuple #[vi w1, vi w2]
noncomputable def Zij (L0 : List RA) (a1 : Int) : ZaJ → List (Option AObj)
 | .r0 w1 w2 => [some (.cells (Zc Zb L0) 54)]

theorem Zmz (L0 : List RA) (a1 : Int) (N : Nat) : Fx Tryz.prog Zs Tryz.f31 [.cells (Zc Zb L0) 54] #[vs 0 0 L0.length L0.length, vi a1] (Zj1 L0 a1) (Zij L0 a1) (ZaX L0 a1 N) := by
 unfold ZaX
 refine Zv (fun g0 => ?_) (fun g0 => ?_)
 ·
  exact Zt (r := (.r0 ((-1 : Int)) ((0 : Int)) : ZaJ)) (fu := 4000) (orc := (Zj [(0, true)] [] [] [] [])) (live := [0]) (u := Value.tuple #[vi (-1 : Int), vq]) (bl := [some (.cells (Zc Zb L0) 54)]) (ob := [((decide (a1 < (0 : Int))), true)]) (by kernel_rfl) (oY Zf) rfl (by decide) (by rfl) rr ⟨(Zh (E := Zb) (α := RA) _ L0 _), trivial⟩
 ·
  refine Zv (fun g1 => ?_) (fun g1 => ?_)
  ·
   exact Zt (r := (.r0 ((-1 : Int)) ((0 : Int)) : ZaJ)) (fu := 4000) (orc := (Zj [(0, false), (1, true)] [] [] [] [])) (live := [0]) (u := Value.tuple #[vi (-1 : Int), vq]) (bl := [some (.cells (Zc Zb L0) 54)]) (ob := [((decide (a1 > (L0.length : Int))), true), ((decide (a1 < (0 : Int))), false)]) (by kernel_rfl) (oY <| oN Zf) rfl (by decide) (by rfl) rr ⟨(Zh (E := Zb) (α := RA) _ L0 _), trivial⟩
  ·
   refine ZdR (fun z2 c2 => ?_)
   cases z2 with
   | r0 y2_0 =>
    refine Zv (fun g3 => ?_) (fun g3 => ?_)
    ·
     exact Zt (r := (.r0 ((-1 : Int)) ((0 : Int)) : ZaJ)) (fu := 4000) (orc := (Zj [(0, false), (1, false), (2, true)] [] [] [] [(0, (Z9 (L0)  y2_0 0 1))])) (live := [0]) (u := Value.tuple #[vi (-1 : Int), vq]) (bl := [some (.cells (Zc Zb L0) 54)]) (ob := [((y2_0 != (0 : Int)), true), (dP (Z6 #[vs 0 0 L0.length L0.length] (L0)  y2_0 0 1), true), (dS (Zc Zb L0), true), ((decide (a1 > (L0.length : Int))), false), ((decide (a1 < (0 : Int))), false)]) (by kernel_rfl) (oD <| Zd (Zk (ZA #[vs 0 0 L0.length L0.length] (L0)  y2_0 N c2 0 1 rfl (by decide) (by decide))) <| oR <| oN <| oN Zf) rfl (by decide) (by rfl) rr ⟨(Zh (E := Zb) (α := RA) _ L0 _), trivial⟩
    ·
     refine ZdR (fun z4 c4 => ?_)
     cases z4 with
     | r0 y4_0 y4_1 =>
      exact Zt (r := (.r0 (y4_0) (y4_1) : ZaJ)) (fu := 4000) (orc := (Zj [(0, false), (1, false), (2, false)] [] [] [] [(0, (Z9 (L0)  y2_0 0 1)), (1, (ZcS (L0) (a1)  y4_0 y4_1 0 1))])) (live := [0]) (u := Value.tuple #[vi y4_0, vi y4_1]) (bl := [some (.cells (Zc Zb L0) 54)]) (ob := [(dP (Zc4 #[vs 0 0 L0.length L0.length, vi a1] (L0) (a1)  y4_0 y4_1 0 1), true), (dS (Zc Zb L0), true), ((y2_0 != (0 : Int)), false), (dP (Z6 #[vs 0 0 L0.length L0.length] (L0)  y2_0 0 1), true), (dS (Zc Zb L0), true), ((decide (a1 > (L0.length : Int))), false), ((decide (a1 < (0 : Int))), false)]) (by kernel_rfl) (Zd (Zk (ZcT #[vs 0 0 L0.length L0.length, vi a1] (L0) (a1)  y4_0 y4_1 N c4 0 1 rfl (by decide) (by decide))) <| oR <| oE <| Zd (Zk (ZA #[vs 0 0 L0.length L0.length] (L0)  y2_0 N c2 0 1 rfl (by decide) (by decide))) <| oR <| oN <| oN Zf) rfl (by decide) (by rfl) rr ⟨(Zh (E := Zb) (α := RA) _ L0 _), trivial⟩

theorem ZkP (L0 : List RA) (a1 : Int) (N : Nat) (r : ZaJ) (h : ZaX L0 a1 N = some r) : LSpec Tryz.prog 31 #[vs 0 0 L0.length L0.length, vi a1] [.cells (Zc Zb L0) 54] (Zj1 L0 a1 r) (Zij L0 a1 r) :=
 ZbF ZaP Tryz.func31 (by kernel_rfl) (by kernel_rfl) (fun r => by cases r <;> exact Zan _ rfl) (Zmz L0 a1 N) h

noncomputable def Zbb (L0 : List RA) (a1 w1 w2 : Int) (k0 n : Nat) : ZaF := .call [(k0, .cells (Zc Zb L0) 54)] (Value.tuple #[vi w1, vi w2]) [] 0
def ZaK (A : Array Value) (L0 : List RA) (a1 w1 w2 : Int) (k0 n : Nat) : Prop := ZH Tryz.prog 31 A [(k0, .cells (Zc Zb L0) 54)] (Value.tuple #[vi w1, vi w2]) [] n 0

theorem Zbc (A : Array Value) (L0 : List RA) (a1 w1 w2 : Int) (N : Nat) (h : ZaX L0 a1 N = some (.r0 w1 w2)) (k0 n : Nat) (hA : A = #[vs k0 0 L0.length L0.length, vi a1]) (hnd : ([k0] : List Nat).Nodup) (hlt : ∀ k ∈ ([k0] : List Nat), k < n) : ZaK A L0 a1 w1 w2 k0 n :=
 ZX hA (LSpec.callL (show LSpec Tryz.prog 31 #[vs 0 0 L0.length L0.length, vi a1] [.cells (Zc Zb L0) 54] (Value.tuple #[vi w1, vi w2]) [some (.cells (Zc Zb L0) 54)] from ZkP L0 a1 N _ h) [k0] n [] rfl hnd hlt (show 1 ≤ 1 from by decide) (show ∀ j ∈ ([] : List Nat), j < 1 from by decide) (by rfl) ⟨(ZJ _ _ _), trivial⟩ (by rfl) ⟨(ZJ _ _ _), trivial⟩ ⟨.inr rfl, trivial⟩ rfl rfl rfl (Za (ZS rfl (Zax _ _ _)) rfl) rfl)

noncomputable def Zj2 (L0 : List RA) (a1 : Int) : Zx → Value
 | .r0 w1 => Value.bool w1
noncomputable def Zik (L0 : List RA) (a1 : Int) : Zx → List (Option AObj)
 | .r0 w1 => [some (.cells (Zc Zb L0) 54)]

def Zna : law24_standsX → Nat
 | .h1m0 => 1
 | .h1m1 v3 v4 => 1
 | .h2m0 v1 v2 => 2
noncomputable def ZnO (L0 : List RA) (a1 : Int) : law24_standsX → List (Nat × Value)
 | .h1m0 => [(0, vs 0 0 L0.length L0.length), (1, vi a1), (2, vf), (7, vn), (8, vq)]
 | .h1m1 v3 v4 => [(0, vs 0 0 L0.length L0.length), (1, vi a1), (2, vf), (7, vs 1 0 v3.length v3.length), (8, vi (v4 : Int))]
 | .h2m0 v1 v2 => [(7, vs 1 0 v1.length v1.length), (10, vi v2)]
noncomputable def ZnP (L0 : List RA) (a1 : Int) : law24_standsX → List (Option AObj)
 | .h1m0 => [some (.cells (Zc Zb L0) 54)]
 | .h1m1 v3 v4 => [some (.cells (Zc Zb L0) 54), some (.cells (Zc Zb v3) 54)]
 | .h2m0 v1 v2 => [some (.cells (Zc Zb L0) 54), some (.cells (Zc Zb v1) 54)]

noncomputable def Za0 : Nat → Code × List Za5
 | 1 => ZbE [1, 1, 0, 1, 3] (ZcJ Tryz.f10) []
 | 2 => ZbE [1, 1, 1, 1, 1, 1, 1, 1, 0, 1, 3] (ZcJ Tryz.f10) []
 | _ => (.skip, [])
def Zil : Nat → Bool
 | 1 => true
 | 2 => true
 | _ => true
noncomputable def ZaY (i : Nat) : List Za5 := match Zil i with | true => .rnd i :: (Za0 i).2 | false => (Za0 i).2

noncomputable def Z3 (L0 : List RA) (a1 : Int) (N : Nat) : Mach := ⟨Tryz.f10, [.cells (Zc Zb L0) 54], law24_standsX, Zx, Zbp L0 a1 N, Zna, Za0, Zil, ZnO L0 a1, ZnP L0 a1, Zj2 L0 a1, Zik L0 a1⟩

theorem Zkr (L0 : List RA) (a1 : Int) (N : Nat) : (Z3 L0 a1 N).Ok Tryz.prog Zs (.h1m0 : law24_standsX) (Zbp L0 a1 N (.h1m0 : law24_standsX)) := by
 show (Z3 L0 a1 N).Ok Tryz.prog Zs (.h1m0 : law24_standsX) (Zb0 L0 a1 N)
 unfold Zb0
 refine Mach.ok_ite (fun g0 => ?_) (fun g0 => ?_)
 ·
  exact Mach.ok_next (M := Z3 L0 a1 N) (cd := 1000000) (cm := 0) (y := (.h1m1 (([(⟨(19 : Int), (0 : Int), (0 : Int), (0 : Int)⟩ : RA)] : List RA)) (1) : law24_standsX)) (fu := 4000) (orc := (Zj [(0, true)] [] [] [] [])) (live := [0, 2]) (tv := fun _ => [some (vs 0 0 L0.length L0.length), some (vi a1), some (vf), some (vs 2 0 1 1), some (vi (1 : Int))]) (bl := [some (.cells (Zc Zb L0) 54), some (.cells [vi (19 : Int), vq, vq, vq] 54)]) (ob := [((decide ((0 : Int) < a1)), true)]) rfl (show 1 ∈ Zl (ZaY 1) from by decide +kernel) (fun gv => by kernel_rfl) (oY Zf) rfl (by decide) (by rfl) (fun _ => ⟨rr, ⟨rr, ⟨rr, ⟨⟨Eq.trans (show (vs 1 0 ([(⟨(19 : Int), (0 : Int), (0 : Int), (0 : Int)⟩ : RA)] : List RA).length ([(⟨(19 : Int), (0 : Int), (0 : Int), (0 : Int)⟩ : RA)] : List RA).length : Value) = vs 1 0 1 1 from (ZO rfl eqA eqA)) (by rfl), by rfl⟩, ⟨⟨Eq.trans (show (vi ((1 : Nat) : Int) : Value) = vi (1 : Int) from (congrArg (Value.int .i64) (by first | rfl | omega))) (by rfl), by rfl⟩, trivial⟩⟩⟩⟩⟩) ⟨(Zh (E := Zb) (α := RA) _ L0 _), ⟨(Zbv (E := Zb) _ (L := ([(⟨(19 : Int), (0 : Int), (0 : Int), (0 : Int)⟩ : RA)] : List RA)) _ (show ([vi (19 : Int), vq, vq, vq] : List Value) = Zc Zb ([(⟨(19 : Int), (0 : Int), (0 : Int), (0 : Int)⟩ : RA)] : List RA) from rfl)), trivial⟩⟩
 ·
  refine Mach.ok_ite (fun g1 => ?_) (fun g1 => ?_)
  ·
   refine Mach.ok_bind (fun z2 c2 => ?_)
   cases z2 with
   | r0 =>
    exact Mach.ok_fin (M := Z3 L0 a1 N) (cd := 1000000) (cm := 0) (r := (.r0 (false) : Zx)) (fu := 4000) (orc := (Zj [(0, false)] [] [] [] [(0, .ap0), (1, (Zjt     1))])) (live := [0]) (u := vf) (bl := [some (.cells (Zc Zb L0) 54)]) (ob := [(dP (Zgt #[vn]     1), true), (dP (0 = L0.length ∧ Zp (L0.length * 4) (List.drop 0 (Zc Zb L0)) = some [] ∧ Zz ZP [] = true), true), ((decide ((0 : Int) < a1)), false)]) (fun gv => by kernel_rfl) (Zd (Zk (Zju #[vn]    N c2  1 rfl (by decide) (by decide))) <| Zd (Zk ⟨by omega, by rw [show L0.length = 0 by omega]; rfl, rfl⟩) <| oN Zf) rfl (by decide) (by rfl) rr ⟨(Zh (E := Zb) (α := RA) _ L0 _), trivial⟩
  ·
   refine Mach.ok_ite (fun g2 => ?_) (fun g2 => ?_)
   ·
    refine Mach.ok_bind (fun z3 c3 => ?_)
    cases z3 with
    | r0 y3_0 =>
     refine Mach.ok_ite (fun g4 => ?_) (fun g4 => ?_)
     ·
      exact Mach.ok_fin (M := Z3 L0 a1 N) (cd := 1000000) (cm := 0) (r := (.r0 (false) : Zx)) (fu := 4000) (orc := (Zj [(0, false), (1, true)] [] [] [] [(0, .ap L0.length (Zc Zb L0) (Zc Zb L0)), (1, (Z9 (L0)  y3_0 1 2))])) (live := [0]) (u := vf) (bl := [some (.cells (Zc Zb L0) 54)]) (ob := [((y3_0 != (0 : Int)), true), (dP (Z6 #[vs 1 0 L0.length L0.length] (L0)  y3_0 1 2), true), (dS (Zc Zb L0), true), (dP ((L0.length = L0.length ∧ Zp (L0.length * 4) (List.drop 0 (Zc Zb L0)) = some (Zc Zb L0) ∧ Zz ZP (Zc Zb L0) = true) ∧ 0 < L0.length ∧ L0.length ≤ 100000 ∧ (Zc Zb L0) = (Zc Zb L0)), true), ((decide ((0 : Int) < a1)), false)]) (fun gv => by kernel_rfl) (oD <| Zd (Zk (ZA #[vs 1 0 L0.length L0.length] (L0)  y3_0 N c3 1 2 rfl (by decide) (by decide))) <| oR <| Zd (Zk ⟨⟨rfl, (Zb4 (E := Zb) (L := L0) (a := 0) (n := L0.length) (by omega) (by show _ = _ * 4; omega) (show _ = _ * 4 from rfl) (by rw [List.drop_zero, List.take_of_length_le (by omega)]))⟩, by omega, by omega, rfl⟩) <| oN Zf) rfl (by decide) (by rfl) rr ⟨(Zh (E := Zb) (α := RA) _ L0 _), trivial⟩
     ·
      refine Mach.ok_bind (fun z5 c5 => ?_)
      cases z5 with
      | r0 =>
       exact Mach.ok_fin (M := Z3 L0 a1 N) (cd := 1000000) (cm := 0) (r := (.r0 (false) : Zx)) (fu := 4000) (orc := (Zj [(0, false), (1, false)] [] [] [] [(0, .ap L0.length (Zc Zb L0) (Zc Zb L0)), (1, (Z9 (L0)  y3_0 1 2)), (2, (ZcU (L0)   1 2))])) (live := [0]) (u := vf) (bl := [some (.cells (Zc Zb L0) 54)]) (ob := [(dP (Zc5 #[vs 1 0 L0.length L0.length] (L0)   1 2), true), (dS (Zc Zb L0), true), ((y3_0 != (0 : Int)), false), (dP (Z6 #[vs 1 0 L0.length L0.length] (L0)  y3_0 1 2), true), (dS (Zc Zb L0), true), (dP ((L0.length = L0.length ∧ Zp (L0.length * 4) (List.drop 0 (Zc Zb L0)) = some (Zc Zb L0) ∧ Zz ZP (Zc Zb L0) = true) ∧ 0 < L0.length ∧ L0.length ≤ 100000 ∧ (Zc Zb L0) = (Zc Zb L0)), true), ((decide ((0 : Int) < a1)), false)]) (fun gv => by kernel_rfl) (Zd (Zk (ZcV #[vs 1 0 L0.length L0.length] (L0)   N c5 1 2 rfl (by decide) (by decide))) <| oR <| oE <| Zd (Zk (ZA #[vs 1 0 L0.length L0.length] (L0)  y3_0 N c3 1 2 rfl (by decide) (by decide))) <| oR <| Zd (Zk ⟨⟨rfl, (Zb4 (E := Zb) (L := L0) (a := 0) (n := L0.length) (by omega) (by show _ = _ * 4; omega) (show _ = _ * 4 from rfl) (by rw [List.drop_zero, List.take_of_length_le (by omega)]))⟩, by omega, by omega, rfl⟩) <| oN Zf) rfl (by decide) (by rfl) rr ⟨(Zh (E := Zb) (α := RA) _ L0 _), trivial⟩
      | r1 y5_0 =>
       refine Mach.ok_ite (fun g6 => ?_) (fun g6 => ?_)
       ·
        exact Mach.ok_fin (M := Z3 L0 a1 N) (cd := 1000000) (cm := 0) (r := (.r0 (false) : Zx)) (fu := 4000) (orc := (Zj [(0, false), (1, false), (2, true)] [] [] [] [(0, .ap L0.length (Zc Zb L0) (Zc Zb L0)), (1, (Z9 (L0)  y3_0 1 2)), (2, (Za7 (L0)  y5_0 1 2))])) (live := [0]) (u := vf) (bl := [some (.cells (Zc Zb L0) 54)]) (ob := [(((y5_0.length : Int) != (1 : Int)), true), (dP (Zaz #[vs 1 0 L0.length L0.length] (L0)  y5_0 1 2), true), (dS (Zc Zb L0), true), ((y3_0 != (0 : Int)), false), (dP (Z6 #[vs 1 0 L0.length L0.length] (L0)  y3_0 1 2), true), (dS (Zc Zb L0), true), (dP ((L0.length = L0.length ∧ Zp (L0.length * 4) (List.drop 0 (Zc Zb L0)) = some (Zc Zb L0) ∧ Zz ZP (Zc Zb L0) = true) ∧ 0 < L0.length ∧ L0.length ≤ 100000 ∧ (Zc Zb L0) = (Zc Zb L0)), true), ((decide ((0 : Int) < a1)), false)]) (fun gv => by kernel_rfl) (oD <| Zd (Zk (Za8 #[vs 1 0 L0.length L0.length] (L0)  y5_0 N c5 1 2 rfl (by decide) (by decide))) <| oR <| oE <| Zd (Zk (ZA #[vs 1 0 L0.length L0.length] (L0)  y3_0 N c3 1 2 rfl (by decide) (by decide))) <| oR <| Zd (Zk ⟨⟨rfl, (Zb4 (E := Zb) (L := L0) (a := 0) (n := L0.length) (by omega) (by show _ = _ * 4; omega) (show _ = _ * 4 from rfl) (by rw [List.drop_zero, List.take_of_length_le (by omega)]))⟩, by omega, by omega, rfl⟩) <| oN Zf) rfl (by decide) (by rfl) rr ⟨(Zh (E := Zb) (α := RA) _ L0 _), trivial⟩
       ·
        exact Mach.ok_head (bK := Za0 2) (M := Z3 L0 a1 N) (cd := 1000000) (cm := 0) (y := (.h2m0 (L0) (a1) : law24_standsX)) (fu := 4000) (orc := (Zj [(0, false), (1, false), (2, false)] [] [] [] [(0, .ap L0.length (Zc Zb L0) (Zc Zb L0)), (1, (Z9 (L0)  y3_0 1 2)), (2, (Za7 (L0)  y5_0 1 2))])) (live := [0, 1]) (tv := fun _ => [some (vs 1 0 L0.length L0.length), some (vi a1)]) (bl := [some (.cells (Zc Zb L0) 54), some (.cells (Zc Zb L0) 54)]) (ob := [(((y5_0.length : Int) != (1 : Int)), false), (dP (Zaz #[vs 1 0 L0.length L0.length] (L0)  y5_0 1 2), true), (dS (Zc Zb L0), true), ((y3_0 != (0 : Int)), false), (dP (Z6 #[vs 1 0 L0.length L0.length] (L0)  y3_0 1 2), true), (dS (Zc Zb L0), true), (dP ((L0.length = L0.length ∧ Zp (L0.length * 4) (List.drop 0 (Zc Zb L0)) = some (Zc Zb L0) ∧ Zz ZP (Zc Zb L0) = true) ∧ 0 < L0.length ∧ L0.length ≤ 100000 ∧ (Zc Zb L0) = (Zc Zb L0)), true), ((decide ((0 : Int) < a1)), false)]) rfl rfl (show ∀ j ∈ Zl (Za0 2).2, j ∈ Zl (ZaY 1) from by decide +kernel) (fun gv => by kernel_rfl) (oE <| Zd (Zk (Za8 #[vs 1 0 L0.length L0.length] (L0)  y5_0 N c5 1 2 rfl (by decide) (by decide))) <| oR <| oE <| Zd (Zk (ZA #[vs 1 0 L0.length L0.length] (L0)  y3_0 N c3 1 2 rfl (by decide) (by decide))) <| oR <| Zd (Zk ⟨⟨rfl, (Zb4 (E := Zb) (L := L0) (a := 0) (n := L0.length) (by omega) (by show _ = _ * 4; omega) (show _ = _ * 4 from rfl) (by rw [List.drop_zero, List.take_of_length_le (by omega)]))⟩, by omega, by omega, rfl⟩) <| oN Zf) rfl (by decide) (by rfl) (fun _ => ⟨rr, ⟨rr, trivial⟩⟩) ⟨(Zh (E := Zb) (α := RA) _ L0 _), ⟨(Zh (E := Zb) (α := RA) _ L0 _), trivial⟩⟩
   ·
    exact Mach.ok_none

theorem Zks (L0 : List RA) (a1 : Int) (v3 : List RA) (v4 N : Nat) : (Z3 L0 a1 N).Ok Tryz.prog Zs (.h1m1 v3 v4 : law24_standsX) (Zbp L0 a1 N (.h1m1 v3 v4 : law24_standsX)) := by
 show (Z3 L0 a1 N).Ok Tryz.prog Zs (.h1m1 v3 v4 : law24_standsX) (Zb1 L0 a1 N v3 v4)
 unfold Zb1
 refine Mach.ok_ite (fun g0 => ?_) (fun g0 => ?_)
 ·
  refine Mach.ok_ite (fun g1 => ?_) (fun g1 => ?_)
  ·
   refine Mach.ok_ite (fun g2 => ?_) (fun g2 => ?_)
   ·
    exact Mach.ok_next (M := Z3 L0 a1 N) (cd := 1000000) (cm := 0) (y := (.h1m1 ((v3 ++ ([(⟨(19 : Int), (0 : Int), (0 : Int), (0 : Int)⟩ : RA)] : List RA))) ((v4 + 1)) : law24_standsX)) (fu := 4000) (orc := (Zj [(0, true)] [(0, (((v4 + 1) : Nat) : Int))] [] [] [(0, .ap 1 [vi (19 : Int), vq, vq, vq] (Zc Zb (v3 ++ ([(⟨(19 : Int), (0 : Int), (0 : Int), (0 : Int)⟩ : RA)] : List RA))))])) (live := [0, 3]) (tv := fun _ => [some (vs 0 0 L0.length L0.length), some (vi a1), some (vf), some (vs 3 0 (v3.length + 1) (v3.length + 1)), some (vi (((v4 + 1) : Nat) : Int))]) (bl := [some (.cells (Zc Zb L0) 54), some (.cells (Zc Zb (v3 ++ ([(⟨(19 : Int), (0 : Int), (0 : Int), (0 : Int)⟩ : RA)] : List RA))) 54)]) (ob := [((IntKind.i64.wrap ((v4 : Int) + (1 : Int))) == (((v4 + 1) : Nat) : Int), true), (dP ((1 = 1 ∧ Zp (1 * 4) (List.drop 0 [vi (19 : Int), vq, vq, vq]) = some [vi (19 : Int), vq, vq, vq] ∧ Zz ZP [vi (19 : Int), vq, vq, vq] = true) ∧ 0 < 1 ∧ 1 ≤ 100000 ∧ v3.length < v3.length + 1 ∧ v3.length ≤ 100000 ∧ v3.length * 4 ≤ (List.length (Zc Zb v3)) ∧ List.take (v3.length * 4) (Zc Zb v3) ++ [vi (19 : Int), vq, vq, vq] = (Zc Zb (v3 ++ ([(⟨(19 : Int), (0 : Int), (0 : Int), (0 : Int)⟩ : RA)] : List RA)))), true), ((decide ((v4 : Int) < a1)), true)]) rfl (show 1 ∈ Zl (ZaY 1) from by decide +kernel) (fun gv => by kernel_rfl) (Zd (beq_iff_eq.2 ((wrap_i64 ltA).trans (by first | rfl | omega))) <| Zd (Zk ⟨⟨rfl, ⟨rfl, rfl⟩⟩, by omega, by omega, ltA, by omega, (Zbm (E := Zb) (L := v3) (M := ([(⟨(19 : Int), (0 : Int), (0 : Int), (0 : Int)⟩ : RA)] : List RA)) (n := v3.length) (show _ = _ * 4 from rfl) (by omega) (R := (v3 ++ ([(⟨(19 : Int), (0 : Int), (0 : Int), (0 : Int)⟩ : RA)] : List RA))) (by rw [List.take_of_length_le (by omega)]))⟩) <| oY Zf) rfl (by decide) (by rfl) (fun _ => ⟨rr, ⟨rr, ⟨rr, ⟨⟨Eq.trans (show (vs 1 0 (v3 ++ ([(⟨(19 : Int), (0 : Int), (0 : Int), (0 : Int)⟩ : RA)] : List RA)).length (v3 ++ ([(⟨(19 : Int), (0 : Int), (0 : Int), (0 : Int)⟩ : RA)] : List RA)).length : Value) = vs 1 0 (v3.length + 1) (v3.length + 1) from (ZO rfl eqA eqA)) (by rfl), by rfl⟩, ⟨rr, trivial⟩⟩⟩⟩⟩) ⟨(Zh (E := Zb) (α := RA) _ L0 _), ⟨(Zh (E := Zb) (α := RA) _ (v3 ++ ([(⟨(19 : Int), (0 : Int), (0 : Int), (0 : Int)⟩ : RA)] : List RA)) _), trivial⟩⟩
   ·
    exact Mach.ok_none
  ·
   exact Mach.ok_none
 ·
  refine Mach.ok_ite (fun g1 => ?_) (fun g1 => ?_)
  ·
   refine Mach.ok_bind (fun z2 c2 => ?_)
   cases z2 with
   | r0 y2_0 =>
    refine Mach.ok_ite (fun g3 => ?_) (fun g3 => ?_)
    ·
     exact Mach.ok_fin (M := Z3 L0 a1 N) (cd := 1000000) (cm := 0) (r := (.r0 (false) : Zx)) (fu := 4000) (orc := (Zj [(0, false), (1, true)] [] [] [] [(0, .ap0), (1, (Z9 (v3)  y2_0 1 2))])) (live := [0]) (u := vf) (bl := [some (.cells (Zc Zb L0) 54)]) (ob := [((y2_0 != (0 : Int)), true), (dP (Z6 #[vs 1 0 v3.length v3.length] (v3)  y2_0 1 2), true), (dS (Zc Zb v3), true), (dP (0 = L0.length ∧ Zp (L0.length * 4) (List.drop 0 (Zc Zb L0)) = some [] ∧ Zz ZP [] = true), true), ((decide ((v4 : Int) < a1)), false)]) (fun gv => by kernel_rfl) (oD <| Zd (Zk (ZA #[vs 1 0 v3.length v3.length] (v3)  y2_0 N c2 1 2 rfl (by decide) (by decide))) <| oR <| Zd (Zk ⟨by omega, by rw [show L0.length = 0 by omega]; rfl, rfl⟩) <| oN Zf) rfl (by decide) (by rfl) rr ⟨(Zh (E := Zb) (α := RA) _ L0 _), trivial⟩
    ·
     refine Mach.ok_bind (fun z4 c4 => ?_)
     cases z4 with
     | r0 =>
      exact Mach.ok_fin (M := Z3 L0 a1 N) (cd := 1000000) (cm := 0) (r := (.r0 (false) : Zx)) (fu := 4000) (orc := (Zj [(0, false), (1, false)] [] [] [] [(0, .ap0), (1, (Z9 (v3)  y2_0 1 2)), (2, (ZcU (v3)   1 2))])) (live := [0]) (u := vf) (bl := [some (.cells (Zc Zb L0) 54)]) (ob := [(dP (Zc5 #[vs 1 0 v3.length v3.length] (v3)   1 2), true), (dS (Zc Zb v3), true), ((y2_0 != (0 : Int)), false), (dP (Z6 #[vs 1 0 v3.length v3.length] (v3)  y2_0 1 2), true), (dS (Zc Zb v3), true), (dP (0 = L0.length ∧ Zp (L0.length * 4) (List.drop 0 (Zc Zb L0)) = some [] ∧ Zz ZP [] = true), true), ((decide ((v4 : Int) < a1)), false)]) (fun gv => by kernel_rfl) (Zd (Zk (ZcV #[vs 1 0 v3.length v3.length] (v3)   N c4 1 2 rfl (by decide) (by decide))) <| oR <| oE <| Zd (Zk (ZA #[vs 1 0 v3.length v3.length] (v3)  y2_0 N c2 1 2 rfl (by decide) (by decide))) <| oR <| Zd (Zk ⟨by omega, by rw [show L0.length = 0 by omega]; rfl, rfl⟩) <| oN Zf) rfl (by decide) (by rfl) rr ⟨(Zh (E := Zb) (α := RA) _ L0 _), trivial⟩
     | r1 y4_0 =>
      refine Mach.ok_ite (fun g5 => ?_) (fun g5 => ?_)
      ·
       exact Mach.ok_fin (M := Z3 L0 a1 N) (cd := 1000000) (cm := 0) (r := (.r0 (false) : Zx)) (fu := 4000) (orc := (Zj [(0, false), (1, false), (2, true)] [] [] [] [(0, .ap0), (1, (Z9 (v3)  y2_0 1 2)), (2, (Za7 (v3)  y4_0 1 2))])) (live := [0]) (u := vf) (bl := [some (.cells (Zc Zb L0) 54)]) (ob := [(((y4_0.length : Int) != (1 : Int)), true), (dP (Zaz #[vs 1 0 v3.length v3.length] (v3)  y4_0 1 2), true), (dS (Zc Zb v3), true), ((y2_0 != (0 : Int)), false), (dP (Z6 #[vs 1 0 v3.length v3.length] (v3)  y2_0 1 2), true), (dS (Zc Zb v3), true), (dP (0 = L0.length ∧ Zp (L0.length * 4) (List.drop 0 (Zc Zb L0)) = some [] ∧ Zz ZP [] = true), true), ((decide ((v4 : Int) < a1)), false)]) (fun gv => by kernel_rfl) (oD <| Zd (Zk (Za8 #[vs 1 0 v3.length v3.length] (v3)  y4_0 N c4 1 2 rfl (by decide) (by decide))) <| oR <| oE <| Zd (Zk (ZA #[vs 1 0 v3.length v3.length] (v3)  y2_0 N c2 1 2 rfl (by decide) (by decide))) <| oR <| Zd (Zk ⟨by omega, by rw [show L0.length = 0 by omega]; rfl, rfl⟩) <| oN Zf) rfl (by decide) (by rfl) rr ⟨(Zh (E := Zb) (α := RA) _ L0 _), trivial⟩
      ·
       exact Mach.ok_head (bK := Za0 2) (M := Z3 L0 a1 N) (cd := 1000000) (cm := 0) (y := (.h2m0 (v3) (a1) : law24_standsX)) (fu := 4000) (orc := (Zj [(0, false), (1, false), (2, false)] [] [] [] [(0, .ap0), (1, (Z9 (v3)  y2_0 1 2)), (2, (Za7 (v3)  y4_0 1 2))])) (live := [0, 1]) (tv := fun _ => [some (vs 1 0 v3.length v3.length), some (vi a1)]) (bl := [some (.cells (Zc Zb L0) 54), some (.cells (Zc Zb v3) 54)]) (ob := [(((y4_0.length : Int) != (1 : Int)), false), (dP (Zaz #[vs 1 0 v3.length v3.length] (v3)  y4_0 1 2), true), (dS (Zc Zb v3), true), ((y2_0 != (0 : Int)), false), (dP (Z6 #[vs 1 0 v3.length v3.length] (v3)  y2_0 1 2), true), (dS (Zc Zb v3), true), (dP (0 = L0.length ∧ Zp (L0.length * 4) (List.drop 0 (Zc Zb L0)) = some [] ∧ Zz ZP [] = true), true), ((decide ((v4 : Int) < a1)), false)]) rfl rfl (show ∀ j ∈ Zl (Za0 2).2, j ∈ Zl (ZaY 1) from by decide +kernel) (fun gv => by kernel_rfl) (oE <| Zd (Zk (Za8 #[vs 1 0 v3.length v3.length] (v3)  y4_0 N c4 1 2 rfl (by decide) (by decide))) <| oR <| oE <| Zd (Zk (ZA #[vs 1 0 v3.length v3.length] (v3)  y2_0 N c2 1 2 rfl (by decide) (by decide))) <| oR <| Zd (Zk ⟨by omega, by rw [show L0.length = 0 by omega]; rfl, rfl⟩) <| oN Zf) rfl (by decide) (by rfl) (fun _ => ⟨rr, ⟨rr, trivial⟩⟩) ⟨(Zh (E := Zb) (α := RA) _ L0 _), ⟨(Zh (E := Zb) (α := RA) _ v3 _), trivial⟩⟩
  ·
   refine Mach.ok_ite (fun g2 => ?_) (fun g2 => ?_)
   ·
    refine Mach.ok_ite (fun g3 => ?_) (fun g3 => ?_)
    ·
     refine Mach.ok_bind (fun z4 c4 => ?_)
     cases z4 with
     | r0 y4_0 =>
      refine Mach.ok_ite (fun g5 => ?_) (fun g5 => ?_)
      ·
       exact Mach.ok_fin (M := Z3 L0 a1 N) (cd := 1000000) (cm := 0) (r := (.r0 (false) : Zx)) (fu := 4000) (orc := (Zj [(0, false), (1, true)] [] [] [] [(0, .ap L0.length (Zc Zb L0) (Zc Zb (v3 ++ L0))), (1, (Z9 ((v3 ++ L0))  y4_0 2 3))])) (live := [0]) (u := vf) (bl := [some (.cells (Zc Zb L0) 54)]) (ob := [((y4_0 != (0 : Int)), true), (dP (Z6 #[vs 2 0 (v3.length + L0.length) (v3.length + L0.length)] ((v3 ++ L0))  y4_0 2 3), true), (dS (Zc Zb (v3 ++ L0)), true), (dP ((L0.length = L0.length ∧ Zp (L0.length * 4) (List.drop 0 (Zc Zb L0)) = some (Zc Zb L0) ∧ Zz ZP (Zc Zb L0) = true) ∧ 0 < L0.length ∧ L0.length ≤ 100000 ∧ v3.length < v3.length + L0.length ∧ v3.length ≤ 100000 ∧ v3.length * 4 ≤ (List.length (Zc Zb v3)) ∧ List.take (v3.length * 4) (Zc Zb v3) ++ (Zc Zb L0) = (Zc Zb (v3 ++ L0))), true), ((decide ((v4 : Int) < a1)), false)]) (fun gv => by kernel_rfl) (oD <| Zd (Zk (ZA #[vs 2 0 (v3.length + L0.length) (v3.length + L0.length)] ((v3 ++ L0))  y4_0 N c4 2 3 (ZbX (Za (ZO rfl eqA eqA) rfl)) (by decide) (by decide))) <| oR <| Zd (Zk ⟨⟨rfl, (Zb4 (E := Zb) (L := L0) (a := 0) (n := L0.length) (by omega) (by show _ = _ * 4; omega) (show _ = _ * 4 from rfl) (by rw [List.drop_zero, List.take_of_length_le (by omega)]))⟩, by omega, by omega, ltA, by omega, (Zbm (E := Zb) (L := v3) (M := L0) (n := v3.length) (show _ = _ * 4 from rfl) (by omega) (R := (v3 ++ L0)) (by rw [List.take_of_length_le (by omega)]))⟩) <| oN Zf) rfl (by decide) (by rfl) rr ⟨(Zh (E := Zb) (α := RA) _ L0 _), trivial⟩
      ·
       refine Mach.ok_bind (fun z6 c6 => ?_)
       cases z6 with
       | r0 =>
        exact Mach.ok_fin (M := Z3 L0 a1 N) (cd := 1000000) (cm := 0) (r := (.r0 (false) : Zx)) (fu := 4000) (orc := (Zj [(0, false), (1, false)] [] [] [] [(0, .ap L0.length (Zc Zb L0) (Zc Zb (v3 ++ L0))), (1, (Z9 ((v3 ++ L0))  y4_0 2 3)), (2, (ZcU ((v3 ++ L0))   2 3))])) (live := [0]) (u := vf) (bl := [some (.cells (Zc Zb L0) 54)]) (ob := [(dP (Zc5 #[vs 2 0 (v3.length + L0.length) (v3.length + L0.length)] ((v3 ++ L0))   2 3), true), (dS (Zc Zb (v3 ++ L0)), true), ((y4_0 != (0 : Int)), false), (dP (Z6 #[vs 2 0 (v3.length + L0.length) (v3.length + L0.length)] ((v3 ++ L0))  y4_0 2 3), true), (dS (Zc Zb (v3 ++ L0)), true), (dP ((L0.length = L0.length ∧ Zp (L0.length * 4) (List.drop 0 (Zc Zb L0)) = some (Zc Zb L0) ∧ Zz ZP (Zc Zb L0) = true) ∧ 0 < L0.length ∧ L0.length ≤ 100000 ∧ v3.length < v3.length + L0.length ∧ v3.length ≤ 100000 ∧ v3.length * 4 ≤ (List.length (Zc Zb v3)) ∧ List.take (v3.length * 4) (Zc Zb v3) ++ (Zc Zb L0) = (Zc Zb (v3 ++ L0))), true), ((decide ((v4 : Int) < a1)), false)]) (fun gv => by kernel_rfl) (Zd (Zk (ZcV #[vs 2 0 (v3.length + L0.length) (v3.length + L0.length)] ((v3 ++ L0))   N c6 2 3 (ZbX (Za (ZO rfl eqA eqA) rfl)) (by decide) (by decide))) <| oR <| oE <| Zd (Zk (ZA #[vs 2 0 (v3.length + L0.length) (v3.length + L0.length)] ((v3 ++ L0))  y4_0 N c4 2 3 (ZbX (Za (ZO rfl eqA eqA) rfl)) (by decide) (by decide))) <| oR <| Zd (Zk ⟨⟨rfl, (Zb4 (E := Zb) (L := L0) (a := 0) (n := L0.length) (by omega) (by show _ = _ * 4; omega) (show _ = _ * 4 from rfl) (by rw [List.drop_zero, List.take_of_length_le (by omega)]))⟩, by omega, by omega, ltA, by omega, (Zbm (E := Zb) (L := v3) (M := L0) (n := v3.length) (show _ = _ * 4 from rfl) (by omega) (R := (v3 ++ L0)) (by rw [List.take_of_length_le (by omega)]))⟩) <| oN Zf) rfl (by decide) (by rfl) rr ⟨(Zh (E := Zb) (α := RA) _ L0 _), trivial⟩
       | r1 y6_0 =>
        refine Mach.ok_ite (fun g7 => ?_) (fun g7 => ?_)
        ·
         exact Mach.ok_fin (M := Z3 L0 a1 N) (cd := 1000000) (cm := 0) (r := (.r0 (false) : Zx)) (fu := 4000) (orc := (Zj [(0, false), (1, false), (2, true)] [] [] [] [(0, .ap L0.length (Zc Zb L0) (Zc Zb (v3 ++ L0))), (1, (Z9 ((v3 ++ L0))  y4_0 2 3)), (2, (Za7 ((v3 ++ L0))  y6_0 2 3))])) (live := [0]) (u := vf) (bl := [some (.cells (Zc Zb L0) 54)]) (ob := [(((y6_0.length : Int) != (1 : Int)), true), (dP (Zaz #[vs 2 0 (v3.length + L0.length) (v3.length + L0.length)] ((v3 ++ L0))  y6_0 2 3), true), (dS (Zc Zb (v3 ++ L0)), true), ((y4_0 != (0 : Int)), false), (dP (Z6 #[vs 2 0 (v3.length + L0.length) (v3.length + L0.length)] ((v3 ++ L0))  y4_0 2 3), true), (dS (Zc Zb (v3 ++ L0)), true), (dP ((L0.length = L0.length ∧ Zp (L0.length * 4) (List.drop 0 (Zc Zb L0)) = some (Zc Zb L0) ∧ Zz ZP (Zc Zb L0) = true) ∧ 0 < L0.length ∧ L0.length ≤ 100000 ∧ v3.length < v3.length + L0.length ∧ v3.length ≤ 100000 ∧ v3.length * 4 ≤ (List.length (Zc Zb v3)) ∧ List.take (v3.length * 4) (Zc Zb v3) ++ (Zc Zb L0) = (Zc Zb (v3 ++ L0))), true), ((decide ((v4 : Int) < a1)), false)]) (fun gv => by kernel_rfl) (oD <| Zd (Zk (Za8 #[vs 2 0 (v3.length + L0.length) (v3.length + L0.length)] ((v3 ++ L0))  y6_0 N c6 2 3 (ZbX (Za (ZO rfl eqA eqA) rfl)) (by decide) (by decide))) <| oR <| oE <| Zd (Zk (ZA #[vs 2 0 (v3.length + L0.length) (v3.length + L0.length)] ((v3 ++ L0))  y4_0 N c4 2 3 (ZbX (Za (ZO rfl eqA eqA) rfl)) (by decide) (by decide))) <| oR <| Zd (Zk ⟨⟨rfl, (Zb4 (E := Zb) (L := L0) (a := 0) (n := L0.length) (by omega) (by show _ = _ * 4; omega) (show _ = _ * 4 from rfl) (by rw [List.drop_zero, List.take_of_length_le (by omega)]))⟩, by omega, by omega, ltA, by omega, (Zbm (E := Zb) (L := v3) (M := L0) (n := v3.length) (show _ = _ * 4 from rfl) (by omega) (R := (v3 ++ L0)) (by rw [List.take_of_length_le (by omega)]))⟩) <| oN Zf) rfl (by decide) (by rfl) rr ⟨(Zh (E := Zb) (α := RA) _ L0 _), trivial⟩
        ·
         exact Mach.ok_head (bK := Za0 2) (M := Z3 L0 a1 N) (cd := 1000000) (cm := 0) (y := (.h2m0 ((v3 ++ L0)) (a1) : law24_standsX)) (fu := 4000) (orc := (Zj [(0, false), (1, false), (2, false)] [] [] [] [(0, .ap L0.length (Zc Zb L0) (Zc Zb (v3 ++ L0))), (1, (Z9 ((v3 ++ L0))  y4_0 2 3)), (2, (Za7 ((v3 ++ L0))  y6_0 2 3))])) (live := [0, 2]) (tv := fun _ => [some (vs 2 0 (v3.length + L0.length) (v3.length + L0.length)), some (vi a1)]) (bl := [some (.cells (Zc Zb L0) 54), some (.cells (Zc Zb (v3 ++ L0)) 54)]) (ob := [(((y6_0.length : Int) != (1 : Int)), false), (dP (Zaz #[vs 2 0 (v3.length + L0.length) (v3.length + L0.length)] ((v3 ++ L0))  y6_0 2 3), true), (dS (Zc Zb (v3 ++ L0)), true), ((y4_0 != (0 : Int)), false), (dP (Z6 #[vs 2 0 (v3.length + L0.length) (v3.length + L0.length)] ((v3 ++ L0))  y4_0 2 3), true), (dS (Zc Zb (v3 ++ L0)), true), (dP ((L0.length = L0.length ∧ Zp (L0.length * 4) (List.drop 0 (Zc Zb L0)) = some (Zc Zb L0) ∧ Zz ZP (Zc Zb L0) = true) ∧ 0 < L0.length ∧ L0.length ≤ 100000 ∧ v3.length < v3.length + L0.length ∧ v3.length ≤ 100000 ∧ v3.length * 4 ≤ (List.length (Zc Zb v3)) ∧ List.take (v3.length * 4) (Zc Zb v3) ++ (Zc Zb L0) = (Zc Zb (v3 ++ L0))), true), ((decide ((v4 : Int) < a1)), false)]) rfl rfl (show ∀ j ∈ Zl (Za0 2).2, j ∈ Zl (ZaY 1) from by decide +kernel) (fun gv => by kernel_rfl) (oE <| Zd (Zk (Za8 #[vs 2 0 (v3.length + L0.length) (v3.length + L0.length)] ((v3 ++ L0))  y6_0 N c6 2 3 (ZbX (Za (ZO rfl eqA eqA) rfl)) (by decide) (by decide))) <| oR <| oE <| Zd (Zk (ZA #[vs 2 0 (v3.length + L0.length) (v3.length + L0.length)] ((v3 ++ L0))  y4_0 N c4 2 3 (ZbX (Za (ZO rfl eqA eqA) rfl)) (by decide) (by decide))) <| oR <| Zd (Zk ⟨⟨rfl, (Zb4 (E := Zb) (L := L0) (a := 0) (n := L0.length) (by omega) (by show _ = _ * 4; omega) (show _ = _ * 4 from rfl) (by rw [List.drop_zero, List.take_of_length_le (by omega)]))⟩, by omega, by omega, ltA, by omega, (Zbm (E := Zb) (L := v3) (M := L0) (n := v3.length) (show _ = _ * 4 from rfl) (by omega) (R := (v3 ++ L0)) (by rw [List.take_of_length_le (by omega)]))⟩) <| oN Zf) rfl (by decide) (by rfl) (fun _ => ⟨⟨Eq.trans (show (vs 1 0 (v3 ++ L0).length (v3 ++ L0).length : Value) = vs 1 0 (v3.length + L0.length) (v3.length + L0.length) from (ZO rfl eqA eqA)) (by rfl), by rfl⟩, ⟨rr, trivial⟩⟩) ⟨(Zh (E := Zb) (α := RA) _ L0 _), ⟨(Zh (E := Zb) (α := RA) _ (v3 ++ L0) _), trivial⟩⟩
    ·
     exact Mach.ok_none
   ·
    exact Mach.ok_none

theorem Zkt (L0 : List RA) (a1 : Int) (v1 : List RA) (v2 : Int) (N : Nat) : (Z3 L0 a1 N).Ok Tryz.prog Zs (.h2m0 v1 v2 : law24_standsX) (Zbp L0 a1 N (.h2m0 v1 v2 : law24_standsX)) := by
 show (Z3 L0 a1 N).Ok Tryz.prog Zs (.h2m0 v1 v2 : law24_standsX) (Zb2 L0 a1 N v1 v2)
 unfold Zb2
 refine Mach.ok_ite (fun g0 => ?_) (fun g0 => ?_)
 ·
  refine Mach.ok_ite (fun g1 => ?_) (fun g1 => ?_)
  ·
   refine Mach.ok_ite (fun g2 => ?_) (fun g2 => ?_)
   ·
    refine Mach.ok_bind (fun z3 c3 => ?_)
    cases z3 with
    | r0 y3_0 y3_1 =>
     refine Mach.ok_ite (fun g4 => ?_) (fun g4 => ?_)
     ·
      exact Mach.ok_fin (M := Z3 L0 a1 N) (cd := 1000000) (cm := 0) (r := (.r0 (false) : Zx)) (fu := 4000) (orc := (Zj [(0, true), (1, true), (2, true)] [] [(0, (v2).toNat)] [(0, [.i (v1.getD (v2).toNat RA.z).a0])] [(0, (Zbb (v1) (v2)  y3_0 y3_1 1 2))])) (live := [0]) (u := vf) (bl := [some (.cells (Zc Zb L0) 54)]) (ob := [((decide (y3_0 < (0 : Int))), true), (dP (ZaK #[vs 1 0 v1.length v1.length, vi v2] (v1) (v2)  y3_0 y3_1 1 2), true), (dS (Zc Zb v1), true), (((v1.getD (v2).toNat RA.z).a0 == (11 : Int)), true), (ZE (Zp 1 (List.drop ((0 + ((v2).toNat * 4)) + 0) (Zc Zb v1))) [.i (v1.getD (v2).toNat RA.z).a0], true), (Nat.blt (v2).toNat v1.length, true), (v2 == Int.ofNat (v2).toNat, true), ((decide (v2 < (v1.length : Int))), true)]) (fun gv => by kernel_rfl) (oY <| Zd (Zk (Zbc #[vs 1 0 v1.length v1.length, vi v2] (v1) (v2)  y3_0 y3_1 N c3 1 2 rfl (by decide) (by decide))) <| oR <| oT <| Zd (Zq (E := Zb) (L := v1) (i := (v2).toNat) (q := 0) (by omega) (show ((0 + ((v2).toNat * 4)) + 0) = (v2).toNat * 4 + 0 from by omega) (show 0 + 1 ≤ 4 from by decide) rfl rfl) <| oB <| oI <| oY Zf) rfl (by decide) (by rfl) rr ⟨(Zh (E := Zb) (α := RA) _ L0 _), trivial⟩
     ·
      exact Mach.ok_next (M := Z3 L0 a1 N) (cd := 1000000) (cm := 0) (y := (.h2m0 (v1) ((IntKind.i64.wrap (v2 + (1 : Int)))) : law24_standsX)) (fu := 4000) (orc := (Zj [(0, true), (1, true), (2, false)] [] [(0, (v2).toNat)] [(0, [.i (v1.getD (v2).toNat RA.z).a0])] [(0, (Zbb (v1) (v2)  y3_0 y3_1 1 2))])) (live := [0, 1]) (tv := fun _ => [some (vs 1 0 v1.length v1.length), some (vi (IntKind.i64.wrap (v2 + (1 : Int))))]) (bl := [some (.cells (Zc Zb L0) 54), some (.cells (Zc Zb v1) 54)]) (ob := [((decide (y3_0 < (0 : Int))), false), (dP (ZaK #[vs 1 0 v1.length v1.length, vi v2] (v1) (v2)  y3_0 y3_1 1 2), true), (dS (Zc Zb v1), true), (((v1.getD (v2).toNat RA.z).a0 == (11 : Int)), true), (ZE (Zp 1 (List.drop ((0 + ((v2).toNat * 4)) + 0) (Zc Zb v1))) [.i (v1.getD (v2).toNat RA.z).a0], true), (Nat.blt (v2).toNat v1.length, true), (v2 == Int.ofNat (v2).toNat, true), ((decide (v2 < (v1.length : Int))), true)]) rfl (show 2 ∈ Zl (ZaY 2) from by decide +kernel) (fun gv => by kernel_rfl) (oN <| Zd (Zk (Zbc #[vs 1 0 v1.length v1.length, vi v2] (v1) (v2)  y3_0 y3_1 N c3 1 2 rfl (by decide) (by decide))) <| oR <| oT <| Zd (Zq (E := Zb) (L := v1) (i := (v2).toNat) (q := 0) (by omega) (show ((0 + ((v2).toNat * 4)) + 0) = (v2).toNat * 4 + 0 from by omega) (show 0 + 1 ≤ 4 from by decide) rfl rfl) <| oB <| oI <| oY Zf) rfl (by decide) (by rfl) (fun _ => ⟨rr, ⟨rr, trivial⟩⟩) ⟨(Zh (E := Zb) (α := RA) _ L0 _), ⟨(Zh (E := Zb) (α := RA) _ v1 _), trivial⟩⟩
   ·
    refine Mach.ok_ite (fun g3 => ?_) (fun g3 => ?_)
    ·
     refine Mach.ok_bind (fun z4 c4 => ?_)
     cases z4 with
     | r0 y4_0 y4_1 =>
      refine Mach.ok_ite (fun g5 => ?_) (fun g5 => ?_)
      ·
       exact Mach.ok_fin (M := Z3 L0 a1 N) (cd := 1000000) (cm := 0) (r := (.r0 (false) : Zx)) (fu := 4000) (orc := (Zj [(0, true), (1, false), (2, true), (3, true)] [] [(0, (v2).toNat)] [(0, [.i (v1.getD (v2).toNat RA.z).a0])] [(0, (Zbb (v1) (v2)  y4_0 y4_1 1 2))])) (live := [0]) (u := vf) (bl := [some (.cells (Zc Zb L0) 54)]) (ob := [((decide (y4_0 < (0 : Int))), true), (dP (ZaK #[vs 1 0 v1.length v1.length, vi v2] (v1) (v2)  y4_0 y4_1 1 2), true), (dS (Zc Zb v1), true), (((v1.getD (v2).toNat RA.z).a0 == (12 : Int)), true), (((v1.getD (v2).toNat RA.z).a0 == (11 : Int)), false), (ZE (Zp 1 (List.drop ((0 + ((v2).toNat * 4)) + 0) (Zc Zb v1))) [.i (v1.getD (v2).toNat RA.z).a0], true), (Nat.blt (v2).toNat v1.length, true), (v2 == Int.ofNat (v2).toNat, true), ((decide (v2 < (v1.length : Int))), true)]) (fun gv => by kernel_rfl) (oY <| Zd (Zk (Zbc #[vs 1 0 v1.length v1.length, vi v2] (v1) (v2)  y4_0 y4_1 N c4 1 2 rfl (by decide) (by decide))) <| oR <| oT <| oF <| Zd (Zq (E := Zb) (L := v1) (i := (v2).toNat) (q := 0) (by omega) (show ((0 + ((v2).toNat * 4)) + 0) = (v2).toNat * 4 + 0 from by omega) (show 0 + 1 ≤ 4 from by decide) rfl rfl) <| oB <| oI <| oY Zf) rfl (by decide) (by rfl) rr ⟨(Zh (E := Zb) (α := RA) _ L0 _), trivial⟩
      ·
       exact Mach.ok_next (M := Z3 L0 a1 N) (cd := 1000000) (cm := 0) (y := (.h2m0 (v1) ((IntKind.i64.wrap (v2 + (1 : Int)))) : law24_standsX)) (fu := 4000) (orc := (Zj [(0, true), (1, false), (2, true), (3, false)] [] [(0, (v2).toNat)] [(0, [.i (v1.getD (v2).toNat RA.z).a0])] [(0, (Zbb (v1) (v2)  y4_0 y4_1 1 2))])) (live := [0, 1]) (tv := fun _ => [some (vs 1 0 v1.length v1.length), some (vi (IntKind.i64.wrap (v2 + (1 : Int))))]) (bl := [some (.cells (Zc Zb L0) 54), some (.cells (Zc Zb v1) 54)]) (ob := [((decide (y4_0 < (0 : Int))), false), (dP (ZaK #[vs 1 0 v1.length v1.length, vi v2] (v1) (v2)  y4_0 y4_1 1 2), true), (dS (Zc Zb v1), true), (((v1.getD (v2).toNat RA.z).a0 == (12 : Int)), true), (((v1.getD (v2).toNat RA.z).a0 == (11 : Int)), false), (ZE (Zp 1 (List.drop ((0 + ((v2).toNat * 4)) + 0) (Zc Zb v1))) [.i (v1.getD (v2).toNat RA.z).a0], true), (Nat.blt (v2).toNat v1.length, true), (v2 == Int.ofNat (v2).toNat, true), ((decide (v2 < (v1.length : Int))), true)]) rfl (show 2 ∈ Zl (ZaY 2) from by decide +kernel) (fun gv => by kernel_rfl) (oN <| Zd (Zk (Zbc #[vs 1 0 v1.length v1.length, vi v2] (v1) (v2)  y4_0 y4_1 N c4 1 2 rfl (by decide) (by decide))) <| oR <| oT <| oF <| Zd (Zq (E := Zb) (L := v1) (i := (v2).toNat) (q := 0) (by omega) (show ((0 + ((v2).toNat * 4)) + 0) = (v2).toNat * 4 + 0 from by omega) (show 0 + 1 ≤ 4 from by decide) rfl rfl) <| oB <| oI <| oY Zf) rfl (by decide) (by rfl) (fun _ => ⟨rr, ⟨rr, trivial⟩⟩) ⟨(Zh (E := Zb) (α := RA) _ L0 _), ⟨(Zh (E := Zb) (α := RA) _ v1 _), trivial⟩⟩
    ·
     refine Mach.ok_ite (fun g4 => ?_) (fun g4 => ?_)
     ·
      refine Mach.ok_bind (fun z5 c5 => ?_)
      cases z5 with
      | r0 y5_0 y5_1 =>
       refine Mach.ok_ite (fun g6 => ?_) (fun g6 => ?_)
       ·
        exact Mach.ok_fin (M := Z3 L0 a1 N) (cd := 1000000) (cm := 0) (r := (.r0 (false) : Zx)) (fu := 4000) (orc := (Zj [(0, true), (1, false), (2, false), (3, true), (4, true)] [] [(0, (v2).toNat)] [(0, [.i (v1.getD (v2).toNat RA.z).a0])] [(0, (Zbb (v1) (v2)  y5_0 y5_1 1 2))])) (live := [0]) (u := vf) (bl := [some (.cells (Zc Zb L0) 54)]) (ob := [((decide (y5_0 < (0 : Int))), true), (dP (ZaK #[vs 1 0 v1.length v1.length, vi v2] (v1) (v2)  y5_0 y5_1 1 2), true), (dS (Zc Zb v1), true), (((v1.getD (v2).toNat RA.z).a0 == (13 : Int)), true), (((v1.getD (v2).toNat RA.z).a0 == (12 : Int)), false), (((v1.getD (v2).toNat RA.z).a0 == (11 : Int)), false), (ZE (Zp 1 (List.drop ((0 + ((v2).toNat * 4)) + 0) (Zc Zb v1))) [.i (v1.getD (v2).toNat RA.z).a0], true), (Nat.blt (v2).toNat v1.length, true), (v2 == Int.ofNat (v2).toNat, true), ((decide (v2 < (v1.length : Int))), true)]) (fun gv => by kernel_rfl) (oY <| Zd (Zk (Zbc #[vs 1 0 v1.length v1.length, vi v2] (v1) (v2)  y5_0 y5_1 N c5 1 2 rfl (by decide) (by decide))) <| oR <| oT <| oF <| oF <| Zd (Zq (E := Zb) (L := v1) (i := (v2).toNat) (q := 0) (by omega) (show ((0 + ((v2).toNat * 4)) + 0) = (v2).toNat * 4 + 0 from by omega) (show 0 + 1 ≤ 4 from by decide) rfl rfl) <| oB <| oI <| oY Zf) rfl (by decide) (by rfl) rr ⟨(Zh (E := Zb) (α := RA) _ L0 _), trivial⟩
       ·
        exact Mach.ok_next (M := Z3 L0 a1 N) (cd := 1000000) (cm := 0) (y := (.h2m0 (v1) ((IntKind.i64.wrap (v2 + (1 : Int)))) : law24_standsX)) (fu := 4000) (orc := (Zj [(0, true), (1, false), (2, false), (3, true), (4, false)] [] [(0, (v2).toNat)] [(0, [.i (v1.getD (v2).toNat RA.z).a0])] [(0, (Zbb (v1) (v2)  y5_0 y5_1 1 2))])) (live := [0, 1]) (tv := fun _ => [some (vs 1 0 v1.length v1.length), some (vi (IntKind.i64.wrap (v2 + (1 : Int))))]) (bl := [some (.cells (Zc Zb L0) 54), some (.cells (Zc Zb v1) 54)]) (ob := [((decide (y5_0 < (0 : Int))), false), (dP (ZaK #[vs 1 0 v1.length v1.length, vi v2] (v1) (v2)  y5_0 y5_1 1 2), true), (dS (Zc Zb v1), true), (((v1.getD (v2).toNat RA.z).a0 == (13 : Int)), true), (((v1.getD (v2).toNat RA.z).a0 == (12 : Int)), false), (((v1.getD (v2).toNat RA.z).a0 == (11 : Int)), false), (ZE (Zp 1 (List.drop ((0 + ((v2).toNat * 4)) + 0) (Zc Zb v1))) [.i (v1.getD (v2).toNat RA.z).a0], true), (Nat.blt (v2).toNat v1.length, true), (v2 == Int.ofNat (v2).toNat, true), ((decide (v2 < (v1.length : Int))), true)]) rfl (show 2 ∈ Zl (ZaY 2) from by decide +kernel) (fun gv => by kernel_rfl) (oN <| Zd (Zk (Zbc #[vs 1 0 v1.length v1.length, vi v2] (v1) (v2)  y5_0 y5_1 N c5 1 2 rfl (by decide) (by decide))) <| oR <| oT <| oF <| oF <| Zd (Zq (E := Zb) (L := v1) (i := (v2).toNat) (q := 0) (by omega) (show ((0 + ((v2).toNat * 4)) + 0) = (v2).toNat * 4 + 0 from by omega) (show 0 + 1 ≤ 4 from by decide) rfl rfl) <| oB <| oI <| oY Zf) rfl (by decide) (by rfl) (fun _ => ⟨rr, ⟨rr, trivial⟩⟩) ⟨(Zh (E := Zb) (α := RA) _ L0 _), ⟨(Zh (E := Zb) (α := RA) _ v1 _), trivial⟩⟩
     ·
      refine Mach.ok_ite (fun g5 => ?_) (fun g5 => ?_)
      ·
       refine Mach.ok_bind (fun z6 c6 => ?_)
       cases z6 with
       | r0 y6_0 y6_1 =>
        refine Mach.ok_ite (fun g7 => ?_) (fun g7 => ?_)
        ·
         exact Mach.ok_fin (M := Z3 L0 a1 N) (cd := 1000000) (cm := 0) (r := (.r0 (false) : Zx)) (fu := 4000) (orc := (Zj [(0, true), (1, false), (2, false), (3, false), (4, true), (5, true)] [] [(0, (v2).toNat)] [(0, [.i (v1.getD (v2).toNat RA.z).a0])] [(0, (Zbb (v1) (v2)  y6_0 y6_1 1 2))])) (live := [0]) (u := vf) (bl := [some (.cells (Zc Zb L0) 54)]) (ob := [((decide (y6_0 < (0 : Int))), true), (dP (ZaK #[vs 1 0 v1.length v1.length, vi v2] (v1) (v2)  y6_0 y6_1 1 2), true), (dS (Zc Zb v1), true), (((v1.getD (v2).toNat RA.z).a0 == (14 : Int)), true), (((v1.getD (v2).toNat RA.z).a0 == (13 : Int)), false), (((v1.getD (v2).toNat RA.z).a0 == (12 : Int)), false), (((v1.getD (v2).toNat RA.z).a0 == (11 : Int)), false), (ZE (Zp 1 (List.drop ((0 + ((v2).toNat * 4)) + 0) (Zc Zb v1))) [.i (v1.getD (v2).toNat RA.z).a0], true), (Nat.blt (v2).toNat v1.length, true), (v2 == Int.ofNat (v2).toNat, true), ((decide (v2 < (v1.length : Int))), true)]) (fun gv => by kernel_rfl) (oY <| Zd (Zk (Zbc #[vs 1 0 v1.length v1.length, vi v2] (v1) (v2)  y6_0 y6_1 N c6 1 2 rfl (by decide) (by decide))) <| oR <| oT <| oF <| oF <| oF <| Zd (Zq (E := Zb) (L := v1) (i := (v2).toNat) (q := 0) (by omega) (show ((0 + ((v2).toNat * 4)) + 0) = (v2).toNat * 4 + 0 from by omega) (show 0 + 1 ≤ 4 from by decide) rfl rfl) <| oB <| oI <| oY Zf) rfl (by decide) (by rfl) rr ⟨(Zh (E := Zb) (α := RA) _ L0 _), trivial⟩
        ·
         exact Mach.ok_next (M := Z3 L0 a1 N) (cd := 1000000) (cm := 0) (y := (.h2m0 (v1) ((IntKind.i64.wrap (v2 + (1 : Int)))) : law24_standsX)) (fu := 4000) (orc := (Zj [(0, true), (1, false), (2, false), (3, false), (4, true), (5, false)] [] [(0, (v2).toNat)] [(0, [.i (v1.getD (v2).toNat RA.z).a0])] [(0, (Zbb (v1) (v2)  y6_0 y6_1 1 2))])) (live := [0, 1]) (tv := fun _ => [some (vs 1 0 v1.length v1.length), some (vi (IntKind.i64.wrap (v2 + (1 : Int))))]) (bl := [some (.cells (Zc Zb L0) 54), some (.cells (Zc Zb v1) 54)]) (ob := [((decide (y6_0 < (0 : Int))), false), (dP (ZaK #[vs 1 0 v1.length v1.length, vi v2] (v1) (v2)  y6_0 y6_1 1 2), true), (dS (Zc Zb v1), true), (((v1.getD (v2).toNat RA.z).a0 == (14 : Int)), true), (((v1.getD (v2).toNat RA.z).a0 == (13 : Int)), false), (((v1.getD (v2).toNat RA.z).a0 == (12 : Int)), false), (((v1.getD (v2).toNat RA.z).a0 == (11 : Int)), false), (ZE (Zp 1 (List.drop ((0 + ((v2).toNat * 4)) + 0) (Zc Zb v1))) [.i (v1.getD (v2).toNat RA.z).a0], true), (Nat.blt (v2).toNat v1.length, true), (v2 == Int.ofNat (v2).toNat, true), ((decide (v2 < (v1.length : Int))), true)]) rfl (show 2 ∈ Zl (ZaY 2) from by decide +kernel) (fun gv => by kernel_rfl) (oN <| Zd (Zk (Zbc #[vs 1 0 v1.length v1.length, vi v2] (v1) (v2)  y6_0 y6_1 N c6 1 2 rfl (by decide) (by decide))) <| oR <| oT <| oF <| oF <| oF <| Zd (Zq (E := Zb) (L := v1) (i := (v2).toNat) (q := 0) (by omega) (show ((0 + ((v2).toNat * 4)) + 0) = (v2).toNat * 4 + 0 from by omega) (show 0 + 1 ≤ 4 from by decide) rfl rfl) <| oB <| oI <| oY Zf) rfl (by decide) (by rfl) (fun _ => ⟨rr, ⟨rr, trivial⟩⟩) ⟨(Zh (E := Zb) (α := RA) _ L0 _), ⟨(Zh (E := Zb) (α := RA) _ v1 _), trivial⟩⟩
      ·
       refine Mach.ok_ite (fun g6 => ?_) (fun g6 => ?_)
       ·
        refine Mach.ok_bind (fun z7 c7 => ?_)
        cases z7 with
        | r0 y7_0 y7_1 =>
         refine Mach.ok_ite (fun g8 => ?_) (fun g8 => ?_)
         ·
          exact Mach.ok_fin (M := Z3 L0 a1 N) (cd := 1000000) (cm := 0) (r := (.r0 (false) : Zx)) (fu := 4000) (orc := (Zj [(0, true), (1, false), (2, false), (3, false), (4, false), (5, true), (6, true)] [] [(0, (v2).toNat)] [(0, [.i (v1.getD (v2).toNat RA.z).a0])] [(0, (Zbb (v1) (v2)  y7_0 y7_1 1 2))])) (live := [0]) (u := vf) (bl := [some (.cells (Zc Zb L0) 54)]) (ob := [((decide (y7_0 < (0 : Int))), true), (dP (ZaK #[vs 1 0 v1.length v1.length, vi v2] (v1) (v2)  y7_0 y7_1 1 2), true), (dS (Zc Zb v1), true), (((v1.getD (v2).toNat RA.z).a0 == (18 : Int)), true), (((v1.getD (v2).toNat RA.z).a0 == (14 : Int)), false), (((v1.getD (v2).toNat RA.z).a0 == (13 : Int)), false), (((v1.getD (v2).toNat RA.z).a0 == (12 : Int)), false), (((v1.getD (v2).toNat RA.z).a0 == (11 : Int)), false), (ZE (Zp 1 (List.drop ((0 + ((v2).toNat * 4)) + 0) (Zc Zb v1))) [.i (v1.getD (v2).toNat RA.z).a0], true), (Nat.blt (v2).toNat v1.length, true), (v2 == Int.ofNat (v2).toNat, true), ((decide (v2 < (v1.length : Int))), true)]) (fun gv => by kernel_rfl) (oY <| Zd (Zk (Zbc #[vs 1 0 v1.length v1.length, vi v2] (v1) (v2)  y7_0 y7_1 N c7 1 2 rfl (by decide) (by decide))) <| oR <| oT <| oF <| oF <| oF <| oF <| Zd (Zq (E := Zb) (L := v1) (i := (v2).toNat) (q := 0) (by omega) (show ((0 + ((v2).toNat * 4)) + 0) = (v2).toNat * 4 + 0 from by omega) (show 0 + 1 ≤ 4 from by decide) rfl rfl) <| oB <| oI <| oY Zf) rfl (by decide) (by rfl) rr ⟨(Zh (E := Zb) (α := RA) _ L0 _), trivial⟩
         ·
          exact Mach.ok_next (M := Z3 L0 a1 N) (cd := 1000000) (cm := 0) (y := (.h2m0 (v1) ((IntKind.i64.wrap (v2 + (1 : Int)))) : law24_standsX)) (fu := 4000) (orc := (Zj [(0, true), (1, false), (2, false), (3, false), (4, false), (5, true), (6, false)] [] [(0, (v2).toNat)] [(0, [.i (v1.getD (v2).toNat RA.z).a0])] [(0, (Zbb (v1) (v2)  y7_0 y7_1 1 2))])) (live := [0, 1]) (tv := fun _ => [some (vs 1 0 v1.length v1.length), some (vi (IntKind.i64.wrap (v2 + (1 : Int))))]) (bl := [some (.cells (Zc Zb L0) 54), some (.cells (Zc Zb v1) 54)]) (ob := [((decide (y7_0 < (0 : Int))), false), (dP (ZaK #[vs 1 0 v1.length v1.length, vi v2] (v1) (v2)  y7_0 y7_1 1 2), true), (dS (Zc Zb v1), true), (((v1.getD (v2).toNat RA.z).a0 == (18 : Int)), true), (((v1.getD (v2).toNat RA.z).a0 == (14 : Int)), false), (((v1.getD (v2).toNat RA.z).a0 == (13 : Int)), false), (((v1.getD (v2).toNat RA.z).a0 == (12 : Int)), false), (((v1.getD (v2).toNat RA.z).a0 == (11 : Int)), false), (ZE (Zp 1 (List.drop ((0 + ((v2).toNat * 4)) + 0) (Zc Zb v1))) [.i (v1.getD (v2).toNat RA.z).a0], true), (Nat.blt (v2).toNat v1.length, true), (v2 == Int.ofNat (v2).toNat, true), ((decide (v2 < (v1.length : Int))), true)]) rfl (show 2 ∈ Zl (ZaY 2) from by decide +kernel) (fun gv => by kernel_rfl) (oN <| Zd (Zk (Zbc #[vs 1 0 v1.length v1.length, vi v2] (v1) (v2)  y7_0 y7_1 N c7 1 2 rfl (by decide) (by decide))) <| oR <| oT <| oF <| oF <| oF <| oF <| Zd (Zq (E := Zb) (L := v1) (i := (v2).toNat) (q := 0) (by omega) (show ((0 + ((v2).toNat * 4)) + 0) = (v2).toNat * 4 + 0 from by omega) (show 0 + 1 ≤ 4 from by decide) rfl rfl) <| oB <| oI <| oY Zf) rfl (by decide) (by rfl) (fun _ => ⟨rr, ⟨rr, trivial⟩⟩) ⟨(Zh (E := Zb) (α := RA) _ L0 _), ⟨(Zh (E := Zb) (α := RA) _ v1 _), trivial⟩⟩
       ·
        refine Mach.ok_ite (fun g7 => ?_) (fun g7 => ?_)
        ·
         exact Mach.ok_fin (M := Z3 L0 a1 N) (cd := 1000000) (cm := 0) (r := (.r0 (false) : Zx)) (fu := 4000) (orc := (Zj [(0, true), (1, false), (2, false), (3, false), (4, false), (5, false), (6, true)] [] [(0, (v2).toNat)] [(0, [.i (v1.getD (v2).toNat RA.z).a0])] [])) (live := [0]) (u := vf) (bl := [some (.cells (Zc Zb L0) 54)]) (ob := [(((v1.getD (v2).toNat RA.z).a0 == (20 : Int)), true), (((v1.getD (v2).toNat RA.z).a0 == (18 : Int)), false), (((v1.getD (v2).toNat RA.z).a0 == (14 : Int)), false), (((v1.getD (v2).toNat RA.z).a0 == (13 : Int)), false), (((v1.getD (v2).toNat RA.z).a0 == (12 : Int)), false), (((v1.getD (v2).toNat RA.z).a0 == (11 : Int)), false), (ZE (Zp 1 (List.drop ((0 + ((v2).toNat * 4)) + 0) (Zc Zb v1))) [.i (v1.getD (v2).toNat RA.z).a0], true), (Nat.blt (v2).toNat v1.length, true), (v2 == Int.ofNat (v2).toNat, true), ((decide (v2 < (v1.length : Int))), true)]) (fun gv => by kernel_rfl) (oT <| oF <| oF <| oF <| oF <| oF <| Zd (Zq (E := Zb) (L := v1) (i := (v2).toNat) (q := 0) (by omega) (show ((0 + ((v2).toNat * 4)) + 0) = (v2).toNat * 4 + 0 from by omega) (show 0 + 1 ≤ 4 from by decide) rfl rfl) <| oB <| oI <| oY Zf) rfl (by decide) (by rfl) rr ⟨(Zh (E := Zb) (α := RA) _ L0 _), trivial⟩
        ·
         exact Mach.ok_next (M := Z3 L0 a1 N) (cd := 1000000) (cm := 0) (y := (.h2m0 (v1) ((IntKind.i64.wrap (v2 + (1 : Int)))) : law24_standsX)) (fu := 4000) (orc := (Zj [(0, true), (1, false), (2, false), (3, false), (4, false), (5, false), (6, false)] [] [(0, (v2).toNat)] [(0, [.i (v1.getD (v2).toNat RA.z).a0])] [])) (live := [0, 1]) (tv := fun _ => [some (vs 1 0 v1.length v1.length), some (vi (IntKind.i64.wrap (v2 + (1 : Int))))]) (bl := [some (.cells (Zc Zb L0) 54), some (.cells (Zc Zb v1) 54)]) (ob := [(((v1.getD (v2).toNat RA.z).a0 == (20 : Int)), false), (((v1.getD (v2).toNat RA.z).a0 == (18 : Int)), false), (((v1.getD (v2).toNat RA.z).a0 == (14 : Int)), false), (((v1.getD (v2).toNat RA.z).a0 == (13 : Int)), false), (((v1.getD (v2).toNat RA.z).a0 == (12 : Int)), false), (((v1.getD (v2).toNat RA.z).a0 == (11 : Int)), false), (ZE (Zp 1 (List.drop ((0 + ((v2).toNat * 4)) + 0) (Zc Zb v1))) [.i (v1.getD (v2).toNat RA.z).a0], true), (Nat.blt (v2).toNat v1.length, true), (v2 == Int.ofNat (v2).toNat, true), ((decide (v2 < (v1.length : Int))), true)]) rfl (show 2 ∈ Zl (ZaY 2) from by decide +kernel) (fun gv => by kernel_rfl) (oF <| oF <| oF <| oF <| oF <| oF <| Zd (Zq (E := Zb) (L := v1) (i := (v2).toNat) (q := 0) (by omega) (show ((0 + ((v2).toNat * 4)) + 0) = (v2).toNat * 4 + 0 from by omega) (show 0 + 1 ≤ 4 from by decide) rfl rfl) <| oB <| oI <| oY Zf) rfl (by decide) (by rfl) (fun _ => ⟨rr, ⟨rr, trivial⟩⟩) ⟨(Zh (E := Zb) (α := RA) _ L0 _), ⟨(Zh (E := Zb) (α := RA) _ v1 _), trivial⟩⟩
  ·
   exact Mach.ok_none
 ·
  exact Mach.ok_fin (M := Z3 L0 a1 N) (cd := 1000000) (cm := 0) (r := (.r0 (true) : Zx)) (fu := 4000) (orc := (Zj [(0, false)] [] [] [] [])) (live := [0]) (u := vT) (bl := [some (.cells (Zc Zb L0) 54)]) (ob := [((decide (v2 < (v1.length : Int))), false)]) (fun gv => by kernel_rfl) (oN Zf) rfl (by decide) (by rfl) rr ⟨(Zh (E := Zb) (α := RA) _ L0 _), trivial⟩

theorem Zm0 (L0 : List RA) (a1 : Int) (N : Nat) : (Z3 L0 a1 N).Enter Tryz.prog Zs #[vs 0 0 L0.length L0.length, vi a1, vf] (ZfG L0 a1 N) := by
 unfold ZfG
 exact Mach.en_head (bK := Za0 1) (M := Z3 L0 a1 N) (cd := 1000000) (cm := 0) (y := (.h1m0 : law24_standsX)) (fu := 4000) (orc := (Zj [] [] [] [] [])) (live := [0]) (tv := [some (vs 0 0 L0.length L0.length), some (vi a1), some (vf), some (vn), some (vq)]) (bl := [some (.cells (Zc Zb L0) 54)]) (ob := []) rfl rfl (show Zl (Za0 1).2 = [] from rfl) (by kernel_rfl) Zf rfl (by decide) (by rfl) ⟨rr, ⟨rr, ⟨rr, ⟨rr, ⟨rr, trivial⟩⟩⟩⟩⟩ ⟨(Zh (E := Zb) (α := RA) _ L0 _), trivial⟩

theorem ZkQ (L0 : List RA) (a1 : Int) (N : Nat) (r : Zx) (h : ZU L0 a1 N = some r) : LSpec Tryz.prog 10 #[vs 0 0 L0.length L0.length, vi a1, vf] [.cells (Zc Zb L0) 54] (Zj2 L0 a1 r) (Zik L0 a1 r) :=
 Mach.spec ZaP (Z3 L0 a1 N) Tryz.func10 (by kernel_rfl) (by kernel_rfl) (fun x => by cases x <;> exact Zan _ rfl) (fun r => by cases r <;> exact Zan _ rfl) (fun x => by
  cases x with
  | h1m0 => exact fun _ => (show ¬ (1 ∈ Zl (Za0 1).2) from by decide +kernel)
  | h1m1 _ _ => exact fun _ => (show ¬ (1 ∈ Zl (Za0 1).2) from by decide +kernel)
  | h2m0 _ _ => exact fun _ => (show ¬ (2 ∈ Zl (Za0 2).2) from by decide +kernel)
  ) (fun x => (show (Z3 L0 a1 N).Ok Tryz.prog Zs x (Zbp L0 a1 N x) from by
  cases x with
  | h1m0 => exact Zkr L0 a1 N
  | h1m1 v3 v4 => exact Zks L0 a1 v3 v4 N
  | h2m0 v1 v2 => exact Zkt L0 a1 v1 v2 N
  )) (Zm0 L0 a1 N) (n := N) h

noncomputable def Zbd (L0 : List RA) (a1 : Int) (w1 : Bool) (k0 n : Nat) : ZaF := .call [(k0, .cells (Zc Zb L0) 54)] (Value.bool w1) [] 0
def ZaL (A : Array Value) (L0 : List RA) (a1 : Int) (w1 : Bool) (k0 n : Nat) : Prop := ZH Tryz.prog 10 A [(k0, .cells (Zc Zb L0) 54)] (Value.bool w1) [] n 0

theorem Zbe (A : Array Value) (L0 : List RA) (a1 : Int) (w1 : Bool) (N : Nat) (h : ZU L0 a1 N = some (.r0 w1)) (k0 n : Nat) (hA : A = #[vs k0 0 L0.length L0.length, vi a1, vf]) (hnd : ([k0] : List Nat).Nodup) (hlt : ∀ k ∈ ([k0] : List Nat), k < n) : ZaL A L0 a1 w1 k0 n :=
 ZX hA (LSpec.callL (show LSpec Tryz.prog 10 #[vs 0 0 L0.length L0.length, vi a1, vf] [.cells (Zc Zb L0) 54] (Value.bool w1) [some (.cells (Zc Zb L0) 54)] from ZkQ L0 a1 N _ h) [k0] n [] rfl hnd hlt (show 1 ≤ 1 from by decide) (show ∀ j ∈ ([] : List Nat), j < 1 from by decide) (by rfl) ⟨(ZJ _ _ _), trivial⟩ (by rfl) ⟨(ZJ _ _ _), trivial⟩ ⟨.inr rfl, trivial⟩ rfl rfl rfl (Za (ZS rfl (Zax _ _ _)) rfl) rfl)

noncomputable def Zhs (L0 : List RA) (a1 : Int) : Z0 → Value
 | .r0 w1 => Value.bool w1
noncomputable def Zha (L0 : List RA) (a1 : Int) : Z0 → List (Option AObj)
 | .r0 w1 => [some (.cells (Zc Zb L0) 54)]

def Zl2 : law24_stands_2X → Nat
 | .h1m0 => 1
 | .h1m1 v3 v4 => 1
noncomputable def Zm1 (L0 : List RA) (a1 : Int) : law24_stands_2X → List (Nat × Value)
 | .h1m0 => [(0, vs 0 0 L0.length L0.length), (1, vi a1), (2, vT), (7, vn), (8, vq)]
 | .h1m1 v3 v4 => [(0, vs 0 0 L0.length L0.length), (1, vi a1), (2, vT), (7, vs 1 0 v3.length v3.length), (8, vi (v4 : Int))]
noncomputable def Zm2 (L0 : List RA) (a1 : Int) : law24_stands_2X → List (Option AObj)
 | .h1m0 => [some (.cells (Zc Zb L0) 54)]
 | .h1m1 v3 v4 => [some (.cells (Zc Zb L0) 54), some (.cells (Zc Zb v3) 54)]

noncomputable def Zcp : Nat → Code × List Za5
 | 1 => ZbE [1, 1, 0, 1, 3] (ZcJ Tryz.f10) []
 | _ => (.skip, [])
def Zhb : Nat → Bool
 | 1 => true
 | _ => true
noncomputable def Zht (i : Nat) : List Za5 := match Zhb i with | true => .rnd i :: (Zcp i).2 | false => (Zcp i).2

noncomputable def ZI (L0 : List RA) (a1 : Int) (N : Nat) : Mach := ⟨Tryz.f10, [.cells (Zc Zb L0) 54], law24_stands_2X, Z0, ZbG L0 a1 N, Zl2, Zcp, Zhb, Zm1 L0 a1, Zm2 L0 a1, Zhs L0 a1, Zha L0 a1⟩

theorem ZiV (L0 : List RA) (a1 : Int) (N : Nat) : (ZI L0 a1 N).Ok Tryz.prog Zs (.h1m0 : law24_stands_2X) (ZbG L0 a1 N (.h1m0 : law24_stands_2X)) := by
 show (ZI L0 a1 N).Ok Tryz.prog Zs (.h1m0 : law24_stands_2X) (Zbg L0 a1 N)
 unfold Zbg
 refine Mach.ok_ite (fun g0 => ?_) (fun g0 => ?_)
 ·
  exact Mach.ok_next (M := ZI L0 a1 N) (cd := 1000000) (cm := 0) (y := (.h1m1 (([(⟨(19 : Int), (0 : Int), (0 : Int), (0 : Int)⟩ : RA)] : List RA)) (1) : law24_stands_2X)) (fu := 4000) (orc := (Zj [(0, true)] [] [] [] [])) (live := [0, 2]) (tv := fun _ => [some (vs 0 0 L0.length L0.length), some (vi a1), some (vT), some (vs 2 0 1 1), some (vi (1 : Int))]) (bl := [some (.cells (Zc Zb L0) 54), some (.cells [vi (19 : Int), vq, vq, vq] 54)]) (ob := [((decide ((0 : Int) < a1)), true)]) rfl (show 1 ∈ Zl (Zht 1) from by decide +kernel) (fun gv => by kernel_rfl) (oY Zf) rfl (by decide) (by rfl) (fun _ => ⟨rr, ⟨rr, ⟨rr, ⟨⟨Eq.trans (show (vs 1 0 ([(⟨(19 : Int), (0 : Int), (0 : Int), (0 : Int)⟩ : RA)] : List RA).length ([(⟨(19 : Int), (0 : Int), (0 : Int), (0 : Int)⟩ : RA)] : List RA).length : Value) = vs 1 0 1 1 from (ZO rfl eqA eqA)) (by rfl), by rfl⟩, ⟨⟨Eq.trans (show (vi ((1 : Nat) : Int) : Value) = vi (1 : Int) from (congrArg (Value.int .i64) (by first | rfl | omega))) (by rfl), by rfl⟩, trivial⟩⟩⟩⟩⟩) ⟨(Zh (E := Zb) (α := RA) _ L0 _), ⟨(Zbv (E := Zb) _ (L := ([(⟨(19 : Int), (0 : Int), (0 : Int), (0 : Int)⟩ : RA)] : List RA)) _ (show ([vi (19 : Int), vq, vq, vq] : List Value) = Zc Zb ([(⟨(19 : Int), (0 : Int), (0 : Int), (0 : Int)⟩ : RA)] : List RA) from rfl)), trivial⟩⟩
 ·
  refine Mach.ok_ite (fun g1 => ?_) (fun g1 => ?_)
  ·
   refine Mach.ok_bind (fun z2 c2 => ?_)
   cases z2 with
   | r0 =>
    exact Mach.ok_fin (M := ZI L0 a1 N) (cd := 1000000) (cm := 0) (r := (.r0 (false) : Z0)) (fu := 4000) (orc := (Zj [(0, false)] [] [] [] [(0, .ap0), (1, (Zjt     1))])) (live := [0]) (u := vf) (bl := [some (.cells (Zc Zb L0) 54)]) (ob := [(dP (Zgt #[vn]     1), true), (dP (0 = L0.length ∧ Zp (L0.length * 4) (List.drop 0 (Zc Zb L0)) = some [] ∧ Zz ZP [] = true), true), ((decide ((0 : Int) < a1)), false)]) (fun gv => by kernel_rfl) (Zd (Zk (Zju #[vn]    N c2  1 rfl (by decide) (by decide))) <| Zd (Zk ⟨by omega, by rw [show L0.length = 0 by omega]; rfl, rfl⟩) <| oN Zf) rfl (by decide) (by rfl) rr ⟨(Zh (E := Zb) (α := RA) _ L0 _), trivial⟩
  ·
   refine Mach.ok_ite (fun g2 => ?_) (fun g2 => ?_)
   ·
    refine Mach.ok_bind (fun z3 c3 => ?_)
    cases z3 with
    | r0 y3_0 =>
     refine Mach.ok_ite (fun g4 => ?_) (fun g4 => ?_)
     ·
      exact Mach.ok_fin (M := ZI L0 a1 N) (cd := 1000000) (cm := 0) (r := (.r0 (false) : Z0)) (fu := 4000) (orc := (Zj [(0, false), (1, true)] [] [] [] [(0, .ap L0.length (Zc Zb L0) (Zc Zb L0)), (1, (Z9 (L0)  y3_0 1 2))])) (live := [0]) (u := vf) (bl := [some (.cells (Zc Zb L0) 54)]) (ob := [((y3_0 != (0 : Int)), true), (dP (Z6 #[vs 1 0 L0.length L0.length] (L0)  y3_0 1 2), true), (dS (Zc Zb L0), true), (dP ((L0.length = L0.length ∧ Zp (L0.length * 4) (List.drop 0 (Zc Zb L0)) = some (Zc Zb L0) ∧ Zz ZP (Zc Zb L0) = true) ∧ 0 < L0.length ∧ L0.length ≤ 100000 ∧ (Zc Zb L0) = (Zc Zb L0)), true), ((decide ((0 : Int) < a1)), false)]) (fun gv => by kernel_rfl) (oD <| Zd (Zk (ZA #[vs 1 0 L0.length L0.length] (L0)  y3_0 N c3 1 2 rfl (by decide) (by decide))) <| oR <| Zd (Zk ⟨⟨rfl, (Zb4 (E := Zb) (L := L0) (a := 0) (n := L0.length) (by omega) (by show _ = _ * 4; omega) (show _ = _ * 4 from rfl) (by rw [List.drop_zero, List.take_of_length_le (by omega)]))⟩, by omega, by omega, rfl⟩) <| oN Zf) rfl (by decide) (by rfl) rr ⟨(Zh (E := Zb) (α := RA) _ L0 _), trivial⟩
     ·
      refine Mach.ok_bind (fun z5 c5 => ?_)
      cases z5 with
      | r0 =>
       exact Mach.ok_fin (M := ZI L0 a1 N) (cd := 1000000) (cm := 0) (r := (.r0 (true) : Z0)) (fu := 4000) (orc := (Zj [(0, false), (1, false)] [] [] [] [(0, .ap L0.length (Zc Zb L0) (Zc Zb L0)), (1, (Z9 (L0)  y3_0 1 2)), (2, (ZcU (L0)   1 2))])) (live := [0]) (u := vT) (bl := [some (.cells (Zc Zb L0) 54)]) (ob := [(dP (Zc5 #[vs 1 0 L0.length L0.length] (L0)   1 2), true), (dS (Zc Zb L0), true), ((y3_0 != (0 : Int)), false), (dP (Z6 #[vs 1 0 L0.length L0.length] (L0)  y3_0 1 2), true), (dS (Zc Zb L0), true), (dP ((L0.length = L0.length ∧ Zp (L0.length * 4) (List.drop 0 (Zc Zb L0)) = some (Zc Zb L0) ∧ Zz ZP (Zc Zb L0) = true) ∧ 0 < L0.length ∧ L0.length ≤ 100000 ∧ (Zc Zb L0) = (Zc Zb L0)), true), ((decide ((0 : Int) < a1)), false)]) (fun gv => by kernel_rfl) (Zd (Zk (ZcV #[vs 1 0 L0.length L0.length] (L0)   N c5 1 2 rfl (by decide) (by decide))) <| oR <| oE <| Zd (Zk (ZA #[vs 1 0 L0.length L0.length] (L0)  y3_0 N c3 1 2 rfl (by decide) (by decide))) <| oR <| Zd (Zk ⟨⟨rfl, (Zb4 (E := Zb) (L := L0) (a := 0) (n := L0.length) (by omega) (by show _ = _ * 4; omega) (show _ = _ * 4 from rfl) (by rw [List.drop_zero, List.take_of_length_le (by omega)]))⟩, by omega, by omega, rfl⟩) <| oN Zf) rfl (by decide) (by rfl) rr ⟨(Zh (E := Zb) (α := RA) _ L0 _), trivial⟩
      | r1 y5_0 =>
       refine Mach.ok_ite (fun g6 => ?_) (fun g6 => ?_)
       ·
        exact Mach.ok_fin (M := ZI L0 a1 N) (cd := 1000000) (cm := 0) (r := (.r0 (true) : Z0)) (fu := 4000) (orc := (Zj [(0, false), (1, false), (2, true)] [] [] [] [(0, .ap L0.length (Zc Zb L0) (Zc Zb L0)), (1, (Z9 (L0)  y3_0 1 2)), (2, (Za7 (L0)  y5_0 1 2))])) (live := [0]) (u := vT) (bl := [some (.cells (Zc Zb L0) 54)]) (ob := [(((y5_0.length : Int) == (0 : Int)), true), (dP (Zaz #[vs 1 0 L0.length L0.length] (L0)  y5_0 1 2), true), (dS (Zc Zb L0), true), ((y3_0 != (0 : Int)), false), (dP (Z6 #[vs 1 0 L0.length L0.length] (L0)  y3_0 1 2), true), (dS (Zc Zb L0), true), (dP ((L0.length = L0.length ∧ Zp (L0.length * 4) (List.drop 0 (Zc Zb L0)) = some (Zc Zb L0) ∧ Zz ZP (Zc Zb L0) = true) ∧ 0 < L0.length ∧ L0.length ≤ 100000 ∧ (Zc Zb L0) = (Zc Zb L0)), true), ((decide ((0 : Int) < a1)), false)]) (fun gv => by kernel_rfl) (oT <| Zd (Zk (Za8 #[vs 1 0 L0.length L0.length] (L0)  y5_0 N c5 1 2 rfl (by decide) (by decide))) <| oR <| oE <| Zd (Zk (ZA #[vs 1 0 L0.length L0.length] (L0)  y3_0 N c3 1 2 rfl (by decide) (by decide))) <| oR <| Zd (Zk ⟨⟨rfl, (Zb4 (E := Zb) (L := L0) (a := 0) (n := L0.length) (by omega) (by show _ = _ * 4; omega) (show _ = _ * 4 from rfl) (by rw [List.drop_zero, List.take_of_length_le (by omega)]))⟩, by omega, by omega, rfl⟩) <| oN Zf) rfl (by decide) (by rfl) rr ⟨(Zh (E := Zb) (α := RA) _ L0 _), trivial⟩
       ·
        exact Mach.ok_fin (M := ZI L0 a1 N) (cd := 1000000) (cm := 0) (r := (.r0 (false) : Z0)) (fu := 4000) (orc := (Zj [(0, false), (1, false), (2, false)] [] [] [] [(0, .ap L0.length (Zc Zb L0) (Zc Zb L0)), (1, (Z9 (L0)  y3_0 1 2)), (2, (Za7 (L0)  y5_0 1 2))])) (live := [0]) (u := vf) (bl := [some (.cells (Zc Zb L0) 54)]) (ob := [(((y5_0.length : Int) == (0 : Int)), false), (dP (Zaz #[vs 1 0 L0.length L0.length] (L0)  y5_0 1 2), true), (dS (Zc Zb L0), true), ((y3_0 != (0 : Int)), false), (dP (Z6 #[vs 1 0 L0.length L0.length] (L0)  y3_0 1 2), true), (dS (Zc Zb L0), true), (dP ((L0.length = L0.length ∧ Zp (L0.length * 4) (List.drop 0 (Zc Zb L0)) = some (Zc Zb L0) ∧ Zz ZP (Zc Zb L0) = true) ∧ 0 < L0.length ∧ L0.length ≤ 100000 ∧ (Zc Zb L0) = (Zc Zb L0)), true), ((decide ((0 : Int) < a1)), false)]) (fun gv => by kernel_rfl) (oF <| Zd (Zk (Za8 #[vs 1 0 L0.length L0.length] (L0)  y5_0 N c5 1 2 rfl (by decide) (by decide))) <| oR <| oE <| Zd (Zk (ZA #[vs 1 0 L0.length L0.length] (L0)  y3_0 N c3 1 2 rfl (by decide) (by decide))) <| oR <| Zd (Zk ⟨⟨rfl, (Zb4 (E := Zb) (L := L0) (a := 0) (n := L0.length) (by omega) (by show _ = _ * 4; omega) (show _ = _ * 4 from rfl) (by rw [List.drop_zero, List.take_of_length_le (by omega)]))⟩, by omega, by omega, rfl⟩) <| oN Zf) rfl (by decide) (by rfl) rr ⟨(Zh (E := Zb) (α := RA) _ L0 _), trivial⟩
   ·
    exact Mach.ok_none

theorem ZiW (L0 : List RA) (a1 : Int) (v3 : List RA) (v4 N : Nat) : (ZI L0 a1 N).Ok Tryz.prog Zs (.h1m1 v3 v4 : law24_stands_2X) (ZbG L0 a1 N (.h1m1 v3 v4 : law24_stands_2X)) := by
 show (ZI L0 a1 N).Ok Tryz.prog Zs (.h1m1 v3 v4 : law24_stands_2X) (Zbh L0 a1 N v3 v4)
 unfold Zbh
 refine Mach.ok_ite (fun g0 => ?_) (fun g0 => ?_)
 ·
  refine Mach.ok_ite (fun g1 => ?_) (fun g1 => ?_)
  ·
   refine Mach.ok_ite (fun g2 => ?_) (fun g2 => ?_)
   ·
    exact Mach.ok_next (M := ZI L0 a1 N) (cd := 1000000) (cm := 0) (y := (.h1m1 ((v3 ++ ([(⟨(19 : Int), (0 : Int), (0 : Int), (0 : Int)⟩ : RA)] : List RA))) ((v4 + 1)) : law24_stands_2X)) (fu := 4000) (orc := (Zj [(0, true)] [(0, (((v4 + 1) : Nat) : Int))] [] [] [(0, .ap 1 [vi (19 : Int), vq, vq, vq] (Zc Zb (v3 ++ ([(⟨(19 : Int), (0 : Int), (0 : Int), (0 : Int)⟩ : RA)] : List RA))))])) (live := [0, 3]) (tv := fun _ => [some (vs 0 0 L0.length L0.length), some (vi a1), some (vT), some (vs 3 0 (v3.length + 1) (v3.length + 1)), some (vi (((v4 + 1) : Nat) : Int))]) (bl := [some (.cells (Zc Zb L0) 54), some (.cells (Zc Zb (v3 ++ ([(⟨(19 : Int), (0 : Int), (0 : Int), (0 : Int)⟩ : RA)] : List RA))) 54)]) (ob := [((IntKind.i64.wrap ((v4 : Int) + (1 : Int))) == (((v4 + 1) : Nat) : Int), true), (dP ((1 = 1 ∧ Zp (1 * 4) (List.drop 0 [vi (19 : Int), vq, vq, vq]) = some [vi (19 : Int), vq, vq, vq] ∧ Zz ZP [vi (19 : Int), vq, vq, vq] = true) ∧ 0 < 1 ∧ 1 ≤ 100000 ∧ v3.length < v3.length + 1 ∧ v3.length ≤ 100000 ∧ v3.length * 4 ≤ (List.length (Zc Zb v3)) ∧ List.take (v3.length * 4) (Zc Zb v3) ++ [vi (19 : Int), vq, vq, vq] = (Zc Zb (v3 ++ ([(⟨(19 : Int), (0 : Int), (0 : Int), (0 : Int)⟩ : RA)] : List RA)))), true), ((decide ((v4 : Int) < a1)), true)]) rfl (show 1 ∈ Zl (Zht 1) from by decide +kernel) (fun gv => by kernel_rfl) (Zd (beq_iff_eq.2 ((wrap_i64 ltA).trans (by first | rfl | omega))) <| Zd (Zk ⟨⟨rfl, ⟨rfl, rfl⟩⟩, by omega, by omega, ltA, by omega, (Zbm (E := Zb) (L := v3) (M := ([(⟨(19 : Int), (0 : Int), (0 : Int), (0 : Int)⟩ : RA)] : List RA)) (n := v3.length) (show _ = _ * 4 from rfl) (by omega) (R := (v3 ++ ([(⟨(19 : Int), (0 : Int), (0 : Int), (0 : Int)⟩ : RA)] : List RA))) (by rw [List.take_of_length_le (by omega)]))⟩) <| oY Zf) rfl (by decide) (by rfl) (fun _ => ⟨rr, ⟨rr, ⟨rr, ⟨⟨Eq.trans (show (vs 1 0 (v3 ++ ([(⟨(19 : Int), (0 : Int), (0 : Int), (0 : Int)⟩ : RA)] : List RA)).length (v3 ++ ([(⟨(19 : Int), (0 : Int), (0 : Int), (0 : Int)⟩ : RA)] : List RA)).length : Value) = vs 1 0 (v3.length + 1) (v3.length + 1) from (ZO rfl eqA eqA)) (by rfl), by rfl⟩, ⟨rr, trivial⟩⟩⟩⟩⟩) ⟨(Zh (E := Zb) (α := RA) _ L0 _), ⟨(Zh (E := Zb) (α := RA) _ (v3 ++ ([(⟨(19 : Int), (0 : Int), (0 : Int), (0 : Int)⟩ : RA)] : List RA)) _), trivial⟩⟩
   ·
    exact Mach.ok_none
  ·
   exact Mach.ok_none
 ·
  refine Mach.ok_ite (fun g1 => ?_) (fun g1 => ?_)
  ·
   refine Mach.ok_bind (fun z2 c2 => ?_)
   cases z2 with
   | r0 y2_0 =>
    refine Mach.ok_ite (fun g3 => ?_) (fun g3 => ?_)
    ·
     exact Mach.ok_fin (M := ZI L0 a1 N) (cd := 1000000) (cm := 0) (r := (.r0 (false) : Z0)) (fu := 4000) (orc := (Zj [(0, false), (1, true)] [] [] [] [(0, .ap0), (1, (Z9 (v3)  y2_0 1 2))])) (live := [0]) (u := vf) (bl := [some (.cells (Zc Zb L0) 54)]) (ob := [((y2_0 != (0 : Int)), true), (dP (Z6 #[vs 1 0 v3.length v3.length] (v3)  y2_0 1 2), true), (dS (Zc Zb v3), true), (dP (0 = L0.length ∧ Zp (L0.length * 4) (List.drop 0 (Zc Zb L0)) = some [] ∧ Zz ZP [] = true), true), ((decide ((v4 : Int) < a1)), false)]) (fun gv => by kernel_rfl) (oD <| Zd (Zk (ZA #[vs 1 0 v3.length v3.length] (v3)  y2_0 N c2 1 2 rfl (by decide) (by decide))) <| oR <| Zd (Zk ⟨by omega, by rw [show L0.length = 0 by omega]; rfl, rfl⟩) <| oN Zf) rfl (by decide) (by rfl) rr ⟨(Zh (E := Zb) (α := RA) _ L0 _), trivial⟩
    ·
     refine Mach.ok_bind (fun z4 c4 => ?_)
     cases z4 with
     | r0 =>
      exact Mach.ok_fin (M := ZI L0 a1 N) (cd := 1000000) (cm := 0) (r := (.r0 (true) : Z0)) (fu := 4000) (orc := (Zj [(0, false), (1, false)] [] [] [] [(0, .ap0), (1, (Z9 (v3)  y2_0 1 2)), (2, (ZcU (v3)   1 2))])) (live := [0]) (u := vT) (bl := [some (.cells (Zc Zb L0) 54)]) (ob := [(dP (Zc5 #[vs 1 0 v3.length v3.length] (v3)   1 2), true), (dS (Zc Zb v3), true), ((y2_0 != (0 : Int)), false), (dP (Z6 #[vs 1 0 v3.length v3.length] (v3)  y2_0 1 2), true), (dS (Zc Zb v3), true), (dP (0 = L0.length ∧ Zp (L0.length * 4) (List.drop 0 (Zc Zb L0)) = some [] ∧ Zz ZP [] = true), true), ((decide ((v4 : Int) < a1)), false)]) (fun gv => by kernel_rfl) (Zd (Zk (ZcV #[vs 1 0 v3.length v3.length] (v3)   N c4 1 2 rfl (by decide) (by decide))) <| oR <| oE <| Zd (Zk (ZA #[vs 1 0 v3.length v3.length] (v3)  y2_0 N c2 1 2 rfl (by decide) (by decide))) <| oR <| Zd (Zk ⟨by omega, by rw [show L0.length = 0 by omega]; rfl, rfl⟩) <| oN Zf) rfl (by decide) (by rfl) rr ⟨(Zh (E := Zb) (α := RA) _ L0 _), trivial⟩
     | r1 y4_0 =>
      refine Mach.ok_ite (fun g5 => ?_) (fun g5 => ?_)
      ·
       exact Mach.ok_fin (M := ZI L0 a1 N) (cd := 1000000) (cm := 0) (r := (.r0 (true) : Z0)) (fu := 4000) (orc := (Zj [(0, false), (1, false), (2, true)] [] [] [] [(0, .ap0), (1, (Z9 (v3)  y2_0 1 2)), (2, (Za7 (v3)  y4_0 1 2))])) (live := [0]) (u := vT) (bl := [some (.cells (Zc Zb L0) 54)]) (ob := [(((y4_0.length : Int) == (0 : Int)), true), (dP (Zaz #[vs 1 0 v3.length v3.length] (v3)  y4_0 1 2), true), (dS (Zc Zb v3), true), ((y2_0 != (0 : Int)), false), (dP (Z6 #[vs 1 0 v3.length v3.length] (v3)  y2_0 1 2), true), (dS (Zc Zb v3), true), (dP (0 = L0.length ∧ Zp (L0.length * 4) (List.drop 0 (Zc Zb L0)) = some [] ∧ Zz ZP [] = true), true), ((decide ((v4 : Int) < a1)), false)]) (fun gv => by kernel_rfl) (oT <| Zd (Zk (Za8 #[vs 1 0 v3.length v3.length] (v3)  y4_0 N c4 1 2 rfl (by decide) (by decide))) <| oR <| oE <| Zd (Zk (ZA #[vs 1 0 v3.length v3.length] (v3)  y2_0 N c2 1 2 rfl (by decide) (by decide))) <| oR <| Zd (Zk ⟨by omega, by rw [show L0.length = 0 by omega]; rfl, rfl⟩) <| oN Zf) rfl (by decide) (by rfl) rr ⟨(Zh (E := Zb) (α := RA) _ L0 _), trivial⟩
      ·
       exact Mach.ok_fin (M := ZI L0 a1 N) (cd := 1000000) (cm := 0) (r := (.r0 (false) : Z0)) (fu := 4000) (orc := (Zj [(0, false), (1, false), (2, false)] [] [] [] [(0, .ap0), (1, (Z9 (v3)  y2_0 1 2)), (2, (Za7 (v3)  y4_0 1 2))])) (live := [0]) (u := vf) (bl := [some (.cells (Zc Zb L0) 54)]) (ob := [(((y4_0.length : Int) == (0 : Int)), false), (dP (Zaz #[vs 1 0 v3.length v3.length] (v3)  y4_0 1 2), true), (dS (Zc Zb v3), true), ((y2_0 != (0 : Int)), false), (dP (Z6 #[vs 1 0 v3.length v3.length] (v3)  y2_0 1 2), true), (dS (Zc Zb v3), true), (dP (0 = L0.length ∧ Zp (L0.length * 4) (List.drop 0 (Zc Zb L0)) = some [] ∧ Zz ZP [] = true), true), ((decide ((v4 : Int) < a1)), false)]) (fun gv => by kernel_rfl) (oF <| Zd (Zk (Za8 #[vs 1 0 v3.length v3.length] (v3)  y4_0 N c4 1 2 rfl (by decide) (by decide))) <| oR <| oE <| Zd (Zk (ZA #[vs 1 0 v3.length v3.length] (v3)  y2_0 N c2 1 2 rfl (by decide) (by decide))) <| oR <| Zd (Zk ⟨by omega, by rw [show L0.length = 0 by omega]; rfl, rfl⟩) <| oN Zf) rfl (by decide) (by rfl) rr ⟨(Zh (E := Zb) (α := RA) _ L0 _), trivial⟩
  ·
   refine Mach.ok_ite (fun g2 => ?_) (fun g2 => ?_)
   ·
    refine Mach.ok_ite (fun g3 => ?_) (fun g3 => ?_)
    ·
     refine Mach.ok_bind (fun z4 c4 => ?_)
     cases z4 with
     | r0 y4_0 =>
      refine Mach.ok_ite (fun g5 => ?_) (fun g5 => ?_)
      ·
       exact Mach.ok_fin (M := ZI L0 a1 N) (cd := 1000000) (cm := 0) (r := (.r0 (false) : Z0)) (fu := 4000) (orc := (Zj [(0, false), (1, true)] [] [] [] [(0, .ap L0.length (Zc Zb L0) (Zc Zb (v3 ++ L0))), (1, (Z9 ((v3 ++ L0))  y4_0 2 3))])) (live := [0]) (u := vf) (bl := [some (.cells (Zc Zb L0) 54)]) (ob := [((y4_0 != (0 : Int)), true), (dP (Z6 #[vs 2 0 (v3.length + L0.length) (v3.length + L0.length)] ((v3 ++ L0))  y4_0 2 3), true), (dS (Zc Zb (v3 ++ L0)), true), (dP ((L0.length = L0.length ∧ Zp (L0.length * 4) (List.drop 0 (Zc Zb L0)) = some (Zc Zb L0) ∧ Zz ZP (Zc Zb L0) = true) ∧ 0 < L0.length ∧ L0.length ≤ 100000 ∧ v3.length < v3.length + L0.length ∧ v3.length ≤ 100000 ∧ v3.length * 4 ≤ (List.length (Zc Zb v3)) ∧ List.take (v3.length * 4) (Zc Zb v3) ++ (Zc Zb L0) = (Zc Zb (v3 ++ L0))), true), ((decide ((v4 : Int) < a1)), false)]) (fun gv => by kernel_rfl) (oD <| Zd (Zk (ZA #[vs 2 0 (v3.length + L0.length) (v3.length + L0.length)] ((v3 ++ L0))  y4_0 N c4 2 3 (ZbX (Za (ZO rfl eqA eqA) rfl)) (by decide) (by decide))) <| oR <| Zd (Zk ⟨⟨rfl, (Zb4 (E := Zb) (L := L0) (a := 0) (n := L0.length) (by omega) (by show _ = _ * 4; omega) (show _ = _ * 4 from rfl) (by rw [List.drop_zero, List.take_of_length_le (by omega)]))⟩, by omega, by omega, ltA, by omega, (Zbm (E := Zb) (L := v3) (M := L0) (n := v3.length) (show _ = _ * 4 from rfl) (by omega) (R := (v3 ++ L0)) (by rw [List.take_of_length_le (by omega)]))⟩) <| oN Zf) rfl (by decide) (by rfl) rr ⟨(Zh (E := Zb) (α := RA) _ L0 _), trivial⟩
      ·
       refine Mach.ok_bind (fun z6 c6 => ?_)
       cases z6 with
       | r0 =>
        exact Mach.ok_fin (M := ZI L0 a1 N) (cd := 1000000) (cm := 0) (r := (.r0 (true) : Z0)) (fu := 4000) (orc := (Zj [(0, false), (1, false)] [] [] [] [(0, .ap L0.length (Zc Zb L0) (Zc Zb (v3 ++ L0))), (1, (Z9 ((v3 ++ L0))  y4_0 2 3)), (2, (ZcU ((v3 ++ L0))   2 3))])) (live := [0]) (u := vT) (bl := [some (.cells (Zc Zb L0) 54)]) (ob := [(dP (Zc5 #[vs 2 0 (v3.length + L0.length) (v3.length + L0.length)] ((v3 ++ L0))   2 3), true), (dS (Zc Zb (v3 ++ L0)), true), ((y4_0 != (0 : Int)), false), (dP (Z6 #[vs 2 0 (v3.length + L0.length) (v3.length + L0.length)] ((v3 ++ L0))  y4_0 2 3), true), (dS (Zc Zb (v3 ++ L0)), true), (dP ((L0.length = L0.length ∧ Zp (L0.length * 4) (List.drop 0 (Zc Zb L0)) = some (Zc Zb L0) ∧ Zz ZP (Zc Zb L0) = true) ∧ 0 < L0.length ∧ L0.length ≤ 100000 ∧ v3.length < v3.length + L0.length ∧ v3.length ≤ 100000 ∧ v3.length * 4 ≤ (List.length (Zc Zb v3)) ∧ List.take (v3.length * 4) (Zc Zb v3) ++ (Zc Zb L0) = (Zc Zb (v3 ++ L0))), true), ((decide ((v4 : Int) < a1)), false)]) (fun gv => by kernel_rfl) (Zd (Zk (ZcV #[vs 2 0 (v3.length + L0.length) (v3.length + L0.length)] ((v3 ++ L0))   N c6 2 3 (ZbX (Za (ZO rfl eqA eqA) rfl)) (by decide) (by decide))) <| oR <| oE <| Zd (Zk (ZA #[vs 2 0 (v3.length + L0.length) (v3.length + L0.length)] ((v3 ++ L0))  y4_0 N c4 2 3 (ZbX (Za (ZO rfl eqA eqA) rfl)) (by decide) (by decide))) <| oR <| Zd (Zk ⟨⟨rfl, (Zb4 (E := Zb) (L := L0) (a := 0) (n := L0.length) (by omega) (by show _ = _ * 4; omega) (show _ = _ * 4 from rfl) (by rw [List.drop_zero, List.take_of_length_le (by omega)]))⟩, by omega, by omega, ltA, by omega, (Zbm (E := Zb) (L := v3) (M := L0) (n := v3.length) (show _ = _ * 4 from rfl) (by omega) (R := (v3 ++ L0)) (by rw [List.take_of_length_le (by omega)]))⟩) <| oN Zf) rfl (by decide) (by rfl) rr ⟨(Zh (E := Zb) (α := RA) _ L0 _), trivial⟩
       | r1 y6_0 =>
        refine Mach.ok_ite (fun g7 => ?_) (fun g7 => ?_)
        ·
         exact Mach.ok_fin (M := ZI L0 a1 N) (cd := 1000000) (cm := 0) (r := (.r0 (true) : Z0)) (fu := 4000) (orc := (Zj [(0, false), (1, false), (2, true)] [] [] [] [(0, .ap L0.length (Zc Zb L0) (Zc Zb (v3 ++ L0))), (1, (Z9 ((v3 ++ L0))  y4_0 2 3)), (2, (Za7 ((v3 ++ L0))  y6_0 2 3))])) (live := [0]) (u := vT) (bl := [some (.cells (Zc Zb L0) 54)]) (ob := [(((y6_0.length : Int) == (0 : Int)), true), (dP (Zaz #[vs 2 0 (v3.length + L0.length) (v3.length + L0.length)] ((v3 ++ L0))  y6_0 2 3), true), (dS (Zc Zb (v3 ++ L0)), true), ((y4_0 != (0 : Int)), false), (dP (Z6 #[vs 2 0 (v3.length + L0.length) (v3.length + L0.length)] ((v3 ++ L0))  y4_0 2 3), true), (dS (Zc Zb (v3 ++ L0)), true), (dP ((L0.length = L0.length ∧ Zp (L0.length * 4) (List.drop 0 (Zc Zb L0)) = some (Zc Zb L0) ∧ Zz ZP (Zc Zb L0) = true) ∧ 0 < L0.length ∧ L0.length ≤ 100000 ∧ v3.length < v3.length + L0.length ∧ v3.length ≤ 100000 ∧ v3.length * 4 ≤ (List.length (Zc Zb v3)) ∧ List.take (v3.length * 4) (Zc Zb v3) ++ (Zc Zb L0) = (Zc Zb (v3 ++ L0))), true), ((decide ((v4 : Int) < a1)), false)]) (fun gv => by kernel_rfl) (oT <| Zd (Zk (Za8 #[vs 2 0 (v3.length + L0.length) (v3.length + L0.length)] ((v3 ++ L0))  y6_0 N c6 2 3 (ZbX (Za (ZO rfl eqA eqA) rfl)) (by decide) (by decide))) <| oR <| oE <| Zd (Zk (ZA #[vs 2 0 (v3.length + L0.length) (v3.length + L0.length)] ((v3 ++ L0))  y4_0 N c4 2 3 (ZbX (Za (ZO rfl eqA eqA) rfl)) (by decide) (by decide))) <| oR <| Zd (Zk ⟨⟨rfl, (Zb4 (E := Zb) (L := L0) (a := 0) (n := L0.length) (by omega) (by show _ = _ * 4; omega) (show _ = _ * 4 from rfl) (by rw [List.drop_zero, List.take_of_length_le (by omega)]))⟩, by omega, by omega, ltA, by omega, (Zbm (E := Zb) (L := v3) (M := L0) (n := v3.length) (show _ = _ * 4 from rfl) (by omega) (R := (v3 ++ L0)) (by rw [List.take_of_length_le (by omega)]))⟩) <| oN Zf) rfl (by decide) (by rfl) rr ⟨(Zh (E := Zb) (α := RA) _ L0 _), trivial⟩
        ·
         exact Mach.ok_fin (M := ZI L0 a1 N) (cd := 1000000) (cm := 0) (r := (.r0 (false) : Z0)) (fu := 4000) (orc := (Zj [(0, false), (1, false), (2, false)] [] [] [] [(0, .ap L0.length (Zc Zb L0) (Zc Zb (v3 ++ L0))), (1, (Z9 ((v3 ++ L0))  y4_0 2 3)), (2, (Za7 ((v3 ++ L0))  y6_0 2 3))])) (live := [0]) (u := vf) (bl := [some (.cells (Zc Zb L0) 54)]) (ob := [(((y6_0.length : Int) == (0 : Int)), false), (dP (Zaz #[vs 2 0 (v3.length + L0.length) (v3.length + L0.length)] ((v3 ++ L0))  y6_0 2 3), true), (dS (Zc Zb (v3 ++ L0)), true), ((y4_0 != (0 : Int)), false), (dP (Z6 #[vs 2 0 (v3.length + L0.length) (v3.length + L0.length)] ((v3 ++ L0))  y4_0 2 3), true), (dS (Zc Zb (v3 ++ L0)), true), (dP ((L0.length = L0.length ∧ Zp (L0.length * 4) (List.drop 0 (Zc Zb L0)) = some (Zc Zb L0) ∧ Zz ZP (Zc Zb L0) = true) ∧ 0 < L0.length ∧ L0.length ≤ 100000 ∧ v3.length < v3.length + L0.length ∧ v3.length ≤ 100000 ∧ v3.length * 4 ≤ (List.length (Zc Zb v3)) ∧ List.take (v3.length * 4) (Zc Zb v3) ++ (Zc Zb L0) = (Zc Zb (v3 ++ L0))), true), ((decide ((v4 : Int) < a1)), false)]) (fun gv => by kernel_rfl) (oF <| Zd (Zk (Za8 #[vs 2 0 (v3.length + L0.length) (v3.length + L0.length)] ((v3 ++ L0))  y6_0 N c6 2 3 (ZbX (Za (ZO rfl eqA eqA) rfl)) (by decide) (by decide))) <| oR <| oE <| Zd (Zk (ZA #[vs 2 0 (v3.length + L0.length) (v3.length + L0.length)] ((v3 ++ L0))  y4_0 N c4 2 3 (ZbX (Za (ZO rfl eqA eqA) rfl)) (by decide) (by decide))) <| oR <| Zd (Zk ⟨⟨rfl, (Zb4 (E := Zb) (L := L0) (a := 0) (n := L0.length) (by omega) (by show _ = _ * 4; omega) (show _ = _ * 4 from rfl) (by rw [List.drop_zero, List.take_of_length_le (by omega)]))⟩, by omega, by omega, ltA, by omega, (Zbm (E := Zb) (L := v3) (M := L0) (n := v3.length) (show _ = _ * 4 from rfl) (by omega) (R := (v3 ++ L0)) (by rw [List.take_of_length_le (by omega)]))⟩) <| oN Zf) rfl (by decide) (by rfl) rr ⟨(Zh (E := Zb) (α := RA) _ L0 _), trivial⟩
    ·
     exact Mach.ok_none
   ·
    exact Mach.ok_none

theorem ZkR (L0 : List RA) (a1 : Int) (N : Nat) : (ZI L0 a1 N).Enter Tryz.prog Zs #[vs 0 0 L0.length L0.length, vi a1, vT] (ZeS L0 a1 N) := by
 unfold ZeS
 exact Mach.en_head (bK := Zcp 1) (M := ZI L0 a1 N) (cd := 1000000) (cm := 0) (y := (.h1m0 : law24_stands_2X)) (fu := 4000) (orc := (Zj [] [] [] [] [])) (live := [0]) (tv := [some (vs 0 0 L0.length L0.length), some (vi a1), some (vT), some (vn), some (vq)]) (bl := [some (.cells (Zc Zb L0) 54)]) (ob := []) rfl rfl (show Zl (Zcp 1).2 = [] from rfl) (by kernel_rfl) Zf rfl (by decide) (by rfl) ⟨rr, ⟨rr, ⟨rr, ⟨rr, ⟨rr, trivial⟩⟩⟩⟩⟩ ⟨(Zh (E := Zb) (α := RA) _ L0 _), trivial⟩

theorem Zj9 (L0 : List RA) (a1 : Int) (N : Nat) (r : Z0) (h : Zas L0 a1 N = some r) : LSpec Tryz.prog 10 #[vs 0 0 L0.length L0.length, vi a1, vT] [.cells (Zc Zb L0) 54] (Zhs L0 a1 r) (Zha L0 a1 r) :=
 Mach.spec ZaP (ZI L0 a1 N) Tryz.func10 (by kernel_rfl) (by kernel_rfl) (fun x => by cases x <;> exact Zan _ rfl) (fun r => by cases r <;> exact Zan _ rfl) (fun x => by
  cases x with
  | h1m0 => exact fun _ => (show ¬ (1 ∈ Zl (Zcp 1).2) from by decide +kernel)
  | h1m1 _ _ => exact fun _ => (show ¬ (1 ∈ Zl (Zcp 1).2) from by decide +kernel)
  ) (fun x => (show (ZI L0 a1 N).Ok Tryz.prog Zs x (ZbG L0 a1 N x) from by
  cases x with
  | h1m0 => exact ZiV L0 a1 N
  | h1m1 v3 v4 => exact ZiW L0 a1 v3 v4 N
  )) (ZkR L0 a1 N) (n := N) h

noncomputable def Zbq (L0 : List RA) (a1 : Int) (w1 : Bool) (k0 n : Nat) : ZaF := .call [(k0, .cells (Zc Zb L0) 54)] (Value.bool w1) [] 0
def ZaU (A : Array Value) (L0 : List RA) (a1 : Int) (w1 : Bool) (k0 n : Nat) : Prop := ZH Tryz.prog 10 A [(k0, .cells (Zc Zb L0) 54)] (Value.bool w1) [] n 0

theorem Zbr (A : Array Value) (L0 : List RA) (a1 : Int) (w1 : Bool) (N : Nat) (h : Zas L0 a1 N = some (.r0 w1)) (k0 n : Nat) (hA : A = #[vs k0 0 L0.length L0.length, vi a1, vT]) (hnd : ([k0] : List Nat).Nodup) (hlt : ∀ k ∈ ([k0] : List Nat), k < n) : ZaU A L0 a1 w1 k0 n :=
 ZX hA (LSpec.callL (show LSpec Tryz.prog 10 #[vs 0 0 L0.length L0.length, vi a1, vT] [.cells (Zc Zb L0) 54] (Value.bool w1) [some (.cells (Zc Zb L0) 54)] from Zj9 L0 a1 N _ h) [k0] n [] rfl hnd hlt (show 1 ≤ 1 from by decide) (show ∀ j ∈ ([] : List Nat), j < 1 from by decide) (by rfl) ⟨(ZJ _ _ _), trivial⟩ (by rfl) ⟨(ZJ _ _ _), trivial⟩ ⟨.inr rfl, trivial⟩ rfl rfl rfl (Za (ZS rfl (Zax _ _ _)) rfl) rfl)

noncomputable def Znb : Zew → Value
 | .r0 => vq
noncomputable def Zm3 : Zew → List (Option AObj)
 | .r0 => [some cz0]

theorem Zku (N : Nat) (r : Zew) (h : Zgl N = some r) : LSpec Tryz.prog 29 #[vs 0 0 109 109] [cz0] (Znb r) (Zm3 r) := by
 cases r
 exact Zqj (by kernel_rfl) (by kernel_rfl) (by kernel_rfl) (by kernel_rfl) (Zge (([(⟨(1 : Int), (1 : Int), (5 : Int), (0 : Int)⟩ : RA), (⟨(10 : Int), (0 : Int), (0 : Int), (0 : Int)⟩ : RA), (⟨(15 : Int), (0 : Int), (0 : Int), (0 : Int)⟩ : RA), (⟨(13 : Int), (2 : Int), (0 : Int), (2 : Int)⟩ : RA), (⟨(9 : Int), (2 : Int), (27 : Int), (0 : Int)⟩ : RA), (⟨(13 : Int), (3 : Int), (2 : Int), (1 : Int)⟩ : RA), (⟨(6 : Int), (4 : Int), (3 : Int), (1 : Int)⟩ : RA), (⟨(9 : Int), (4 : Int), (24 : Int), (0 : Int)⟩ : RA), (⟨(13 : Int), (5 : Int), (2 : Int), (0 : Int)⟩ : RA), (⟨(9 : Int), (5 : Int), (18 : Int), (0 : Int)⟩ : RA), (⟨(13 : Int), (3 : Int), (5 : Int), (1 : Int)⟩ : RA), (⟨(6 : Int), (4 : Int), (3 : Int), (1 : Int)⟩ : RA), (⟨(9 : Int), (4 : Int), (15 : Int), (0 : Int)⟩ : RA), (⟨(3 : Int), (2 : Int), (5 : Int), (0 : Int)⟩ : RA), (⟨(8 : Int), (8 : Int), (0 : Int), (0 : Int)⟩ : RA), (⟨(7 : Int), (4 : Int), (3 : Int), (1 : Int)⟩ : RA), (⟨(9 : Int), (4 : Int), (18 : Int), (0 : Int)⟩ : RA), (⟨(8 : Int), (33 : Int), (0 : Int), (0 : Int)⟩ : RA), (⟨(11 : Int), (6 : Int), (2 : Int), (1 : Int)⟩ : RA), (⟨(14 : Int), (6 : Int), (1 : Int), (1 : Int)⟩ : RA), (⟨(14 : Int), (6 : Int), (0 : Int), (5 : Int)⟩ : RA), (⟨(14 : Int), (2 : Int), (0 : Int), (6 : Int)⟩ : RA), (⟨(1 : Int), (7 : Int), (1 : Int), (0 : Int)⟩ : RA), (⟨(8 : Int), (34 : Int), (0 : Int), (0 : Int)⟩ : RA), (⟨(7 : Int), (4 : Int), (3 : Int), (1 : Int)⟩ : RA), (⟨(9 : Int), (4 : Int), (27 : Int), (0 : Int)⟩ : RA), (⟨(8 : Int), (33 : Int), (0 : Int), (0 : Int)⟩ : RA), (⟨(11 : Int), (6 : Int), (2 : Int), (1 : Int)⟩ : RA), (⟨(14 : Int), (6 : Int), (1 : Int), (1 : Int)⟩ : RA), (⟨(14 : Int), (6 : Int), (0 : Int), (2 : Int)⟩ : RA), (⟨(14 : Int), (0 : Int), (2 : Int), (6 : Int)⟩ : RA), (⟨(1 : Int), (7 : Int), (1 : Int), (0 : Int)⟩ : RA), (⟨(8 : Int), (34 : Int), (0 : Int), (0 : Int)⟩ : RA), (⟨(1 : Int), (7 : Int), (0 : Int), (0 : Int)⟩ : RA), (⟨(17 : Int), (0 : Int), (0 : Int), (0 : Int)⟩ : RA), (⟨(19 : Int), (7 : Int), (0 : Int), (0 : Int)⟩ : RA), (⟨(1 : Int), (1 : Int), (3 : Int), (0 : Int)⟩ : RA), (⟨(10 : Int), (0 : Int), (0 : Int), (0 : Int)⟩ : RA), (⟨(15 : Int), (0 : Int), (0 : Int), (0 : Int)⟩ : RA), (⟨(13 : Int), (2 : Int), (0 : Int), (2 : Int)⟩ : RA), (⟨(9 : Int), (2 : Int), (63 : Int), (0 : Int)⟩ : RA), (⟨(13 : Int), (3 : Int), (2 : Int), (1 : Int)⟩ : RA), (⟨(6 : Int), (4 : Int), (3 : Int), (1 : Int)⟩ : RA), (⟨(9 : Int), (4 : Int), (60 : Int), (0 : Int)⟩ : RA), (⟨(13 : Int), (5 : Int), (2 : Int), (0 : Int)⟩ : RA), (⟨(9 : Int), (5 : Int), (54 : Int), (0 : Int)⟩ : RA), (⟨(13 : Int), (3 : Int), (5 : Int), (1 : Int)⟩ : RA), (⟨(6 : Int), (4 : Int), (3 : Int), (1 : Int)⟩ : RA), (⟨(9 : Int), (4 : Int), (51 : Int), (0 : Int)⟩ : RA), (⟨(3 : Int), (2 : Int), (5 : Int), (0 : Int)⟩ : RA), (⟨(8 : Int), (44 : Int), (0 : Int), (0 : Int)⟩ : RA), (⟨(7 : Int), (4 : Int), (3 : Int), (1 : Int)⟩ : RA), (⟨(9 : Int), (4 : Int), (54 : Int), (0 : Int)⟩ : RA), (⟨(8 : Int), (69 : Int), (0 : Int), (0 : Int)⟩ : RA), (⟨(11 : Int), (6 : Int), (2 : Int), (1 : Int)⟩ : RA), (⟨(14 : Int), (6 : Int), (1 : Int), (1 : Int)⟩ : RA), (⟨(14 : Int), (6 : Int), (0 : Int), (5 : Int)⟩ : RA), (⟨(14 : Int), (2 : Int), (0 : Int), (6 : Int)⟩ : RA), (⟨(1 : Int), (7 : Int), (1 : Int), (0 : Int)⟩ : RA), (⟨(8 : Int), (70 : Int), (0 : Int), (0 : Int)⟩ : RA), (⟨(7 : Int), (4 : Int), (3 : Int), (1 : Int)⟩ : RA), (⟨(9 : Int), (4 : Int), (63 : Int), (0 : Int)⟩ : RA), (⟨(8 : Int), (69 : Int), (0 : Int), (0 : Int)⟩ : RA), (⟨(11 : Int), (6 : Int), (2 : Int), (1 : Int)⟩ : RA), (⟨(14 : Int), (6 : Int), (1 : Int), (1 : Int)⟩ : RA), (⟨(14 : Int), (6 : Int), (0 : Int), (2 : Int)⟩ : RA), (⟨(14 : Int), (0 : Int), (2 : Int), (6 : Int)⟩ : RA), (⟨(1 : Int), (7 : Int), (1 : Int), (0 : Int)⟩ : RA), (⟨(8 : Int), (70 : Int), (0 : Int), (0 : Int)⟩ : RA), (⟨(1 : Int), (7 : Int), (0 : Int), (0 : Int)⟩ : RA), (⟨(17 : Int), (0 : Int), (0 : Int), (0 : Int)⟩ : RA), (⟨(19 : Int), (7 : Int), (0 : Int), (0 : Int)⟩ : RA), (⟨(1 : Int), (1 : Int), (5 : Int), (0 : Int)⟩ : RA), (⟨(10 : Int), (0 : Int), (0 : Int), (0 : Int)⟩ : RA), (⟨(15 : Int), (0 : Int), (0 : Int), (0 : Int)⟩ : RA), (⟨(13 : Int), (2 : Int), (0 : Int), (2 : Int)⟩ : RA), (⟨(9 : Int), (2 : Int), (99 : Int), (0 : Int)⟩ : RA), (⟨(13 : Int), (3 : Int), (2 : Int), (1 : Int)⟩ : RA), (⟨(6 : Int), (4 : Int), (3 : Int), (1 : Int)⟩ : RA), (⟨(9 : Int), (4 : Int), (96 : Int), (0 : Int)⟩ : RA), (⟨(13 : Int), (5 : Int), (2 : Int), (0 : Int)⟩ : RA), (⟨(9 : Int), (5 : Int), (90 : Int), (0 : Int)⟩ : RA), (⟨(13 : Int), (3 : Int), (5 : Int), (1 : Int)⟩ : RA), (⟨(6 : Int), (4 : Int), (3 : Int), (1 : Int)⟩ : RA), (⟨(9 : Int), (4 : Int), (87 : Int), (0 : Int)⟩ : RA), (⟨(3 : Int), (2 : Int), (5 : Int), (0 : Int)⟩ : RA), (⟨(8 : Int), (80 : Int), (0 : Int), (0 : Int)⟩ : RA), (⟨(7 : Int), (4 : Int), (3 : Int), (1 : Int)⟩ : RA), (⟨(9 : Int), (4 : Int), (90 : Int), (0 : Int)⟩ : RA), (⟨(8 : Int), (105 : Int), (0 : Int), (0 : Int)⟩ : RA), (⟨(11 : Int), (6 : Int), (2 : Int), (1 : Int)⟩ : RA), (⟨(14 : Int), (6 : Int), (1 : Int), (1 : Int)⟩ : RA), (⟨(14 : Int), (6 : Int), (0 : Int), (5 : Int)⟩ : RA), (⟨(14 : Int), (2 : Int), (0 : Int), (6 : Int)⟩ : RA), (⟨(1 : Int), (7 : Int), (1 : Int), (0 : Int)⟩ : RA), (⟨(8 : Int), (106 : Int), (0 : Int), (0 : Int)⟩ : RA), (⟨(7 : Int), (4 : Int), (3 : Int), (1 : Int)⟩ : RA), (⟨(9 : Int), (4 : Int), (99 : Int), (0 : Int)⟩ : RA), (⟨(8 : Int), (105 : Int), (0 : Int), (0 : Int)⟩ : RA), (⟨(11 : Int), (6 : Int), (2 : Int), (1 : Int)⟩ : RA), (⟨(14 : Int), (6 : Int), (1 : Int), (1 : Int)⟩ : RA), (⟨(14 : Int), (6 : Int), (0 : Int), (2 : Int)⟩ : RA), (⟨(14 : Int), (0 : Int), (2 : Int), (6 : Int)⟩ : RA), (⟨(1 : Int), (7 : Int), (1 : Int), (0 : Int)⟩ : RA), (⟨(8 : Int), (106 : Int), (0 : Int), (0 : Int)⟩ : RA), (⟨(1 : Int), (7 : Int), (0 : Int), (0 : Int)⟩ : RA), (⟨(17 : Int), (0 : Int), (0 : Int), (0 : Int)⟩ : RA), (⟨(19 : Int), (7 : Int), (0 : Int), (0 : Int)⟩ : RA), (⟨(20 : Int), (0 : Int), (0 : Int), (0 : Int)⟩ : RA)] : List RA)) 100000 (.r0 ((0 : Int))) (by kernel_rfl))

noncomputable def Zm4  (k0 n : Nat) : ZaF := .call [(k0, cz0)] (vq) [] 0
def Zhu (A : Array Value)  (k0 n : Nat) : Prop := ZH Tryz.prog 29 A [(k0, cz0)] (vq) [] n 0

theorem Zm5 (A : Array Value)  (N : Nat) (h : Zgl  N = some (.r0)) (k0 n : Nat) (hA : A = #[vs k0 0 109 109]) (hnd : ([k0] : List Nat).Nodup) (hlt : ∀ k ∈ ([k0] : List Nat), k < n) : Zhu A  k0 n :=
 ZX hA (LSpec.callL (show LSpec Tryz.prog 29 #[vs 0 0 109 109] [cz0] (vq) [some cz0] from Zku  N _ h) [k0] n [] rfl hnd hlt (show 1 ≤ 1 from by decide) (show ∀ j ∈ ([] : List Nat), j < 1 from by decide) (by rfl) ⟨rfl, trivial⟩ (by rfl) ⟨rfl, trivial⟩ ⟨.inr rfl, trivial⟩ rfl rfl rfl (Za (ZS rfl rfl) rfl) rfl)

noncomputable def Zlh (L0 : List RA) (a1 : Int) : Zat → Value
 | .r0 w1 => vi w1
noncomputable def Zkv (L0 : List RA) (a1 : Int) : Zat → List (Option AObj)
 | .r0 w1 => [some (.cells (Zc Zb L0) 54)]

def Zpf : ZQ → Nat
 | .h1m0 v1 v2 => 1
noncomputable def ZpM (L0 : List RA) (a1 : Int) : ZQ → List (Nat × Value)
 | .h1m0 v1 v2 => [(0, vs 0 0 L0.length L0.length), (5, vi (v1 : Int)), (6, vi v2)]
noncomputable def ZpN (L0 : List RA) (a1 : Int) : ZQ → List (Option AObj)
 | .h1m0 v1 v2 => [some (.cells (Zc Zb L0) 54)]

noncomputable def ZcQ : Nat → Code × List Za5
 | 1 => ZbE [1, 1, 3, 1, 4, 1, 0, 1, 3] (ZcJ Tryz.f113) []
 | _ => (.skip, [])
def Zkw : Nat → Bool
 | 1 => true
 | _ => true
noncomputable def ZeF (i : Nat) : List Za5 := match Zkw i with | true => .rnd i :: (ZcQ i).2 | false => (ZcQ i).2

noncomputable def Zay (L0 : List RA) (a1 : Int) (N : Nat) : Mach := ⟨Tryz.f113, [.cells (Zc Zb L0) 54], ZQ, Zat, Zex L0 a1 N, Zpf, ZcQ, Zkw, ZpM L0 a1, ZpN L0 a1, Zlh L0 a1, Zkv L0 a1⟩

theorem Zl3 (L0 : List RA) (a1 : Int) (v1 : Nat) (v2 : Int) (N : Nat) : (Zay L0 a1 N).Ok Tryz.prog Zs (.h1m0 v1 v2 : ZQ) (Zex L0 a1 N (.h1m0 v1 v2 : ZQ)) := by
 show (Zay L0 a1 N).Ok Tryz.prog Zs (.h1m0 v1 v2 : ZQ) (Zfp L0 a1 N v1 v2)
 unfold Zfp
 refine Mach.ok_ite (fun g0 => ?_) (fun g0 => ?_)
 ·
  refine Mach.ok_ite (fun g1 => ?_) (fun g1 => ?_)
  ·
   refine Mach.ok_ite (fun g2 => ?_) (fun g2 => ?_)
   ·
    refine Mach.ok_ite (fun g3 => ?_) (fun g3 => ?_)
    ·
     exact Mach.ok_fin (M := Zay L0 a1 N) (cd := 1000000) (cm := 0) (r := (.r0 (v2) : Zat)) (fu := 4000) (orc := (Zj [(0, true), (1, true), (2, true)] [] [(0, (v2).toNat)] [(0, [.i (L0.getD (v2).toNat RA.z).a0])] [])) (live := [0]) (u := vi v2) (bl := [some (.cells (Zc Zb L0) 54)]) (ob := [(((L0.getD (v2).toNat RA.z).a0 == (17 : Int)), true), (ZE (Zp 1 (List.drop ((0 + ((v2).toNat * 4)) + 0) (Zc Zb L0))) [.i (L0.getD (v2).toNat RA.z).a0], true), (Nat.blt (v2).toNat L0.length, true), (v2 == Int.ofNat (v2).toNat, true), (((v1 : Int) == (0 : Int)), true), ((decide (v2 < (L0.length : Int))), true)]) (fun gv => by kernel_rfl) (oT <| Zd (Zq (E := Zb) (L := L0) (i := (v2).toNat) (q := 0) (by omega) (show ((0 + ((v2).toNat * 4)) + 0) = (v2).toNat * 4 + 0 from by omega) (show 0 + 1 ≤ 4 from by decide) rfl rfl) <| oB <| oI <| oT <| oY Zf) rfl (by decide) (by rfl) rr ⟨(Zh (E := Zb) (α := RA) _ L0 _), trivial⟩
    ·
     refine Mach.ok_ite (fun g4 => ?_) (fun g4 => ?_)
     ·
      exact Mach.ok_fin (M := Zay L0 a1 N) (cd := 1000000) (cm := 0) (r := (.r0 (v2) : Zat)) (fu := 4000) (orc := (Zj [(0, true), (1, true), (2, false), (3, true)] [] [(0, (v2).toNat), (1, (v2).toNat)] [(0, [.i (L0.getD (v2).toNat RA.z).a0]), (1, [.i (L0.getD (v2).toNat RA.z).a0])] [])) (live := [0]) (u := vi v2) (bl := [some (.cells (Zc Zb L0) 54)]) (ob := [(((L0.getD (v2).toNat RA.z).a0 == (16 : Int)), true), (ZE (Zp 1 (List.drop ((0 + ((v2).toNat * 4)) + 0) (Zc Zb L0))) [.i (L0.getD (v2).toNat RA.z).a0], true), (Nat.blt (v2).toNat L0.length, true), (v2 == Int.ofNat (v2).toNat, true), (((L0.getD (v2).toNat RA.z).a0 == (17 : Int)), false), (ZE (Zp 1 (List.drop ((0 + ((v2).toNat * 4)) + 0) (Zc Zb L0))) [.i (L0.getD (v2).toNat RA.z).a0], true), (Nat.blt (v2).toNat L0.length, true), (v2 == Int.ofNat (v2).toNat, true), (((v1 : Int) == (0 : Int)), true), ((decide (v2 < (L0.length : Int))), true)]) (fun gv => by kernel_rfl) (oT <| Zd (Zq (E := Zb) (L := L0) (i := (v2).toNat) (q := 0) (by omega) (show ((0 + ((v2).toNat * 4)) + 0) = (v2).toNat * 4 + 0 from by omega) (show 0 + 1 ≤ 4 from by decide) rfl rfl) <| oB <| oI <| oF <| Zd (Zq (E := Zb) (L := L0) (i := (v2).toNat) (q := 0) (by omega) (show ((0 + ((v2).toNat * 4)) + 0) = (v2).toNat * 4 + 0 from by omega) (show 0 + 1 ≤ 4 from by decide) rfl rfl) <| oB <| oI <| oT <| oY Zf) rfl (by decide) (by rfl) rr ⟨(Zh (E := Zb) (α := RA) _ L0 _), trivial⟩
     ·
      refine Mach.ok_ite (fun g5 => ?_) (fun g5 => ?_)
      ·
       exact Mach.ok_next (M := Zay L0 a1 N) (cd := 1000000) (cm := 0) (y := (.h1m0 ((v1 + 1)) ((IntKind.i64.wrap (v2 + (1 : Int)))) : ZQ)) (fu := 4000) (orc := (Zj [(0, true), (1, true), (2, false), (3, false), (4, true), (5, false)] [(0, (((v1 + 1) : Nat) : Int))] [(0, (v2).toNat), (1, (v2).toNat), (2, (v2).toNat), (3, (v2).toNat)] [(0, [.i (L0.getD (v2).toNat RA.z).a0]), (1, [.i (L0.getD (v2).toNat RA.z).a0]), (2, [.i (L0.getD (v2).toNat RA.z).a0]), (3, [.i (L0.getD (v2).toNat RA.z).a0])] [])) (live := [0]) (tv := fun _ => [some (vs 0 0 L0.length L0.length), some (vi (((v1 + 1) : Nat) : Int)), some (vi (IntKind.i64.wrap (v2 + (1 : Int))))]) (bl := [some (.cells (Zc Zb L0) 54)]) (ob := [(((L0.getD (v2).toNat RA.z).a0 == (17 : Int)), false), (ZE (Zp 1 (List.drop ((0 + ((v2).toNat * 4)) + 0) (Zc Zb L0))) [.i (L0.getD (v2).toNat RA.z).a0], true), (Nat.blt (v2).toNat L0.length, true), (v2 == Int.ofNat (v2).toNat, true), ((IntKind.i64.wrap ((v1 : Int) + (1 : Int))) == (((v1 + 1) : Nat) : Int), true), (((L0.getD (v2).toNat RA.z).a0 == (15 : Int)), true), (ZE (Zp 1 (List.drop ((0 + ((v2).toNat * 4)) + 0) (Zc Zb L0))) [.i (L0.getD (v2).toNat RA.z).a0], true), (Nat.blt (v2).toNat L0.length, true), (v2 == Int.ofNat (v2).toNat, true), (((L0.getD (v2).toNat RA.z).a0 == (16 : Int)), false), (ZE (Zp 1 (List.drop ((0 + ((v2).toNat * 4)) + 0) (Zc Zb L0))) [.i (L0.getD (v2).toNat RA.z).a0], true), (Nat.blt (v2).toNat L0.length, true), (v2 == Int.ofNat (v2).toNat, true), (((L0.getD (v2).toNat RA.z).a0 == (17 : Int)), false), (ZE (Zp 1 (List.drop ((0 + ((v2).toNat * 4)) + 0) (Zc Zb L0))) [.i (L0.getD (v2).toNat RA.z).a0], true), (Nat.blt (v2).toNat L0.length, true), (v2 == Int.ofNat (v2).toNat, true), (((v1 : Int) == (0 : Int)), true), ((decide (v2 < (L0.length : Int))), true)]) rfl (show 1 ∈ Zl (ZeF 1) from by decide +kernel) (fun gv => by kernel_rfl) (oF <| Zd (Zq (E := Zb) (L := L0) (i := (v2).toNat) (q := 0) (by omega) (show ((0 + ((v2).toNat * 4)) + 0) = (v2).toNat * 4 + 0 from by omega) (show 0 + 1 ≤ 4 from by decide) rfl rfl) <| oB <| oI <| Zd (beq_iff_eq.2 ((wrap_i64 ltA).trans (by first | rfl | omega))) <| oT <| Zd (Zq (E := Zb) (L := L0) (i := (v2).toNat) (q := 0) (by omega) (show ((0 + ((v2).toNat * 4)) + 0) = (v2).toNat * 4 + 0 from by omega) (show 0 + 1 ≤ 4 from by decide) rfl rfl) <| oB <| oI <| oF <| Zd (Zq (E := Zb) (L := L0) (i := (v2).toNat) (q := 0) (by omega) (show ((0 + ((v2).toNat * 4)) + 0) = (v2).toNat * 4 + 0 from by omega) (show 0 + 1 ≤ 4 from by decide) rfl rfl) <| oB <| oI <| oF <| Zd (Zq (E := Zb) (L := L0) (i := (v2).toNat) (q := 0) (by omega) (show ((0 + ((v2).toNat * 4)) + 0) = (v2).toNat * 4 + 0 from by omega) (show 0 + 1 ≤ 4 from by decide) rfl rfl) <| oB <| oI <| oT <| oY Zf) rfl (by decide) (by rfl) (fun _ => ⟨rr, ⟨rr, ⟨rr, trivial⟩⟩⟩) ⟨(Zh (E := Zb) (α := RA) _ L0 _), trivial⟩
      ·
       exact Mach.ok_next (M := Zay L0 a1 N) (cd := 1000000) (cm := 0) (y := (.h1m0 (v1) ((IntKind.i64.wrap (v2 + (1 : Int)))) : ZQ)) (fu := 4000) (orc := (Zj [(0, true), (1, true), (2, false), (3, false), (4, false), (5, false)] [] [(0, (v2).toNat), (1, (v2).toNat), (2, (v2).toNat), (3, (v2).toNat)] [(0, [.i (L0.getD (v2).toNat RA.z).a0]), (1, [.i (L0.getD (v2).toNat RA.z).a0]), (2, [.i (L0.getD (v2).toNat RA.z).a0]), (3, [.i (L0.getD (v2).toNat RA.z).a0])] [])) (live := [0]) (tv := fun _ => [some (vs 0 0 L0.length L0.length), some (vi (v1 : Int)), some (vi (IntKind.i64.wrap (v2 + (1 : Int))))]) (bl := [some (.cells (Zc Zb L0) 54)]) (ob := [(((L0.getD (v2).toNat RA.z).a0 == (17 : Int)), false), (ZE (Zp 1 (List.drop ((0 + ((v2).toNat * 4)) + 0) (Zc Zb L0))) [.i (L0.getD (v2).toNat RA.z).a0], true), (Nat.blt (v2).toNat L0.length, true), (v2 == Int.ofNat (v2).toNat, true), (((L0.getD (v2).toNat RA.z).a0 == (15 : Int)), false), (ZE (Zp 1 (List.drop ((0 + ((v2).toNat * 4)) + 0) (Zc Zb L0))) [.i (L0.getD (v2).toNat RA.z).a0], true), (Nat.blt (v2).toNat L0.length, true), (v2 == Int.ofNat (v2).toNat, true), (((L0.getD (v2).toNat RA.z).a0 == (16 : Int)), false), (ZE (Zp 1 (List.drop ((0 + ((v2).toNat * 4)) + 0) (Zc Zb L0))) [.i (L0.getD (v2).toNat RA.z).a0], true), (Nat.blt (v2).toNat L0.length, true), (v2 == Int.ofNat (v2).toNat, true), (((L0.getD (v2).toNat RA.z).a0 == (17 : Int)), false), (ZE (Zp 1 (List.drop ((0 + ((v2).toNat * 4)) + 0) (Zc Zb L0))) [.i (L0.getD (v2).toNat RA.z).a0], true), (Nat.blt (v2).toNat L0.length, true), (v2 == Int.ofNat (v2).toNat, true), (((v1 : Int) == (0 : Int)), true), ((decide (v2 < (L0.length : Int))), true)]) rfl (show 1 ∈ Zl (ZeF 1) from by decide +kernel) (fun gv => by kernel_rfl) (oF <| Zd (Zq (E := Zb) (L := L0) (i := (v2).toNat) (q := 0) (by omega) (show ((0 + ((v2).toNat * 4)) + 0) = (v2).toNat * 4 + 0 from by omega) (show 0 + 1 ≤ 4 from by decide) rfl rfl) <| oB <| oI <| oF <| Zd (Zq (E := Zb) (L := L0) (i := (v2).toNat) (q := 0) (by omega) (show ((0 + ((v2).toNat * 4)) + 0) = (v2).toNat * 4 + 0 from by omega) (show 0 + 1 ≤ 4 from by decide) rfl rfl) <| oB <| oI <| oF <| Zd (Zq (E := Zb) (L := L0) (i := (v2).toNat) (q := 0) (by omega) (show ((0 + ((v2).toNat * 4)) + 0) = (v2).toNat * 4 + 0 from by omega) (show 0 + 1 ≤ 4 from by decide) rfl rfl) <| oB <| oI <| oF <| Zd (Zq (E := Zb) (L := L0) (i := (v2).toNat) (q := 0) (by omega) (show ((0 + ((v2).toNat * 4)) + 0) = (v2).toNat * 4 + 0 from by omega) (show 0 + 1 ≤ 4 from by decide) rfl rfl) <| oB <| oI <| oT <| oY Zf) rfl (by decide) (by rfl) (fun _ => ⟨rr, ⟨rr, ⟨rr, trivial⟩⟩⟩) ⟨(Zh (E := Zb) (α := RA) _ L0 _), trivial⟩
   ·
    exact Mach.ok_none
  ·
   refine Mach.ok_ite (fun g2 => ?_) (fun g2 => ?_)
   ·
    refine Mach.ok_ite (fun g3 => ?_) (fun g3 => ?_)
    ·
     refine Mach.ok_ite (fun g4 => ?_) (fun g4 => ?_)
     ·
      exact Mach.ok_next (M := Zay L0 a1 N) (cd := 1000000) (cm := 0) (y := (.h1m0 ((v1 + 1)) ((IntKind.i64.wrap (v2 + (1 : Int)))) : ZQ)) (fu := 4000) (orc := (Zj [(0, true), (1, false), (2, true), (3, false)] [(0, (((v1 + 1) : Nat) : Int))] [(0, (v2).toNat), (1, (v2).toNat)] [(0, [.i (L0.getD (v2).toNat RA.z).a0]), (1, [.i (L0.getD (v2).toNat RA.z).a0])] [])) (live := [0]) (tv := fun _ => [some (vs 0 0 L0.length L0.length), some (vi (((v1 + 1) : Nat) : Int)), some (vi (IntKind.i64.wrap (v2 + (1 : Int))))]) (bl := [some (.cells (Zc Zb L0) 54)]) (ob := [(((L0.getD (v2).toNat RA.z).a0 == (17 : Int)), false), (ZE (Zp 1 (List.drop ((0 + ((v2).toNat * 4)) + 0) (Zc Zb L0))) [.i (L0.getD (v2).toNat RA.z).a0], true), (Nat.blt (v2).toNat L0.length, true), (v2 == Int.ofNat (v2).toNat, true), ((IntKind.i64.wrap ((v1 : Int) + (1 : Int))) == (((v1 + 1) : Nat) : Int), true), (((L0.getD (v2).toNat RA.z).a0 == (15 : Int)), true), (ZE (Zp 1 (List.drop ((0 + ((v2).toNat * 4)) + 0) (Zc Zb L0))) [.i (L0.getD (v2).toNat RA.z).a0], true), (Nat.blt (v2).toNat L0.length, true), (v2 == Int.ofNat (v2).toNat, true), (((v1 : Int) == (0 : Int)), false), ((decide (v2 < (L0.length : Int))), true)]) rfl (show 1 ∈ Zl (ZeF 1) from by decide +kernel) (fun gv => by kernel_rfl) (oF <| Zd (Zq (E := Zb) (L := L0) (i := (v2).toNat) (q := 0) (by omega) (show ((0 + ((v2).toNat * 4)) + 0) = (v2).toNat * 4 + 0 from by omega) (show 0 + 1 ≤ 4 from by decide) rfl rfl) <| oB <| oI <| Zd (beq_iff_eq.2 ((wrap_i64 ltA).trans (by first | rfl | omega))) <| oT <| Zd (Zq (E := Zb) (L := L0) (i := (v2).toNat) (q := 0) (by omega) (show ((0 + ((v2).toNat * 4)) + 0) = (v2).toNat * 4 + 0 from by omega) (show 0 + 1 ≤ 4 from by decide) rfl rfl) <| oB <| oI <| oF <| oY Zf) rfl (by decide) (by rfl) (fun _ => ⟨rr, ⟨rr, ⟨rr, trivial⟩⟩⟩) ⟨(Zh (E := Zb) (α := RA) _ L0 _), trivial⟩
     ·
      exact Mach.ok_none
    ·
     refine Mach.ok_ite (fun g4 => ?_) (fun g4 => ?_)
     ·
      refine Mach.ok_ite (fun g5 => ?_) (fun g5 => ?_)
      ·
       exact Mach.ok_next (M := Zay L0 a1 N) (cd := 1000000) (cm := 0) (y := (.h1m0 ((v1 - 1)) ((IntKind.i64.wrap (v2 + (1 : Int)))) : ZQ)) (fu := 4000) (orc := (Zj [(0, true), (1, false), (2, false), (3, true)] [(0, (((v1 - 1) : Nat) : Int))] [(0, (v2).toNat), (1, (v2).toNat)] [(0, [.i (L0.getD (v2).toNat RA.z).a0]), (1, [.i (L0.getD (v2).toNat RA.z).a0])] [])) (live := [0]) (tv := fun _ => [some (vs 0 0 L0.length L0.length), some (vi (((v1 - 1) : Nat) : Int)), some (vi (IntKind.i64.wrap (v2 + (1 : Int))))]) (bl := [some (.cells (Zc Zb L0) 54)]) (ob := [((IntKind.i64.wrap ((v1 : Int) - (1 : Int))) == (((v1 - 1) : Nat) : Int), true), (((L0.getD (v2).toNat RA.z).a0 == (17 : Int)), true), (ZE (Zp 1 (List.drop ((0 + ((v2).toNat * 4)) + 0) (Zc Zb L0))) [.i (L0.getD (v2).toNat RA.z).a0], true), (Nat.blt (v2).toNat L0.length, true), (v2 == Int.ofNat (v2).toNat, true), (((L0.getD (v2).toNat RA.z).a0 == (15 : Int)), false), (ZE (Zp 1 (List.drop ((0 + ((v2).toNat * 4)) + 0) (Zc Zb L0))) [.i (L0.getD (v2).toNat RA.z).a0], true), (Nat.blt (v2).toNat L0.length, true), (v2 == Int.ofNat (v2).toNat, true), (((v1 : Int) == (0 : Int)), false), ((decide (v2 < (L0.length : Int))), true)]) rfl (show 1 ∈ Zl (ZeF 1) from by decide +kernel) (fun gv => by kernel_rfl) (Zd (beq_iff_eq.2 ((wrap_i64 ltA).trans (by first | rfl | omega))) <| oT <| Zd (Zq (E := Zb) (L := L0) (i := (v2).toNat) (q := 0) (by omega) (show ((0 + ((v2).toNat * 4)) + 0) = (v2).toNat * 4 + 0 from by omega) (show 0 + 1 ≤ 4 from by decide) rfl rfl) <| oB <| oI <| oF <| Zd (Zq (E := Zb) (L := L0) (i := (v2).toNat) (q := 0) (by omega) (show ((0 + ((v2).toNat * 4)) + 0) = (v2).toNat * 4 + 0 from by omega) (show 0 + 1 ≤ 4 from by decide) rfl rfl) <| oB <| oI <| oF <| oY Zf) rfl (by decide) (by rfl) (fun _ => ⟨rr, ⟨rr, ⟨rr, trivial⟩⟩⟩) ⟨(Zh (E := Zb) (α := RA) _ L0 _), trivial⟩
      ·
       exact Mach.ok_none
     ·
      exact Mach.ok_next (M := Zay L0 a1 N) (cd := 1000000) (cm := 0) (y := (.h1m0 (v1) ((IntKind.i64.wrap (v2 + (1 : Int)))) : ZQ)) (fu := 4000) (orc := (Zj [(0, true), (1, false), (2, false), (3, false)] [] [(0, (v2).toNat), (1, (v2).toNat)] [(0, [.i (L0.getD (v2).toNat RA.z).a0]), (1, [.i (L0.getD (v2).toNat RA.z).a0])] [])) (live := [0]) (tv := fun _ => [some (vs 0 0 L0.length L0.length), some (vi (v1 : Int)), some (vi (IntKind.i64.wrap (v2 + (1 : Int))))]) (bl := [some (.cells (Zc Zb L0) 54)]) (ob := [(((L0.getD (v2).toNat RA.z).a0 == (17 : Int)), false), (ZE (Zp 1 (List.drop ((0 + ((v2).toNat * 4)) + 0) (Zc Zb L0))) [.i (L0.getD (v2).toNat RA.z).a0], true), (Nat.blt (v2).toNat L0.length, true), (v2 == Int.ofNat (v2).toNat, true), (((L0.getD (v2).toNat RA.z).a0 == (15 : Int)), false), (ZE (Zp 1 (List.drop ((0 + ((v2).toNat * 4)) + 0) (Zc Zb L0))) [.i (L0.getD (v2).toNat RA.z).a0], true), (Nat.blt (v2).toNat L0.length, true), (v2 == Int.ofNat (v2).toNat, true), (((v1 : Int) == (0 : Int)), false), ((decide (v2 < (L0.length : Int))), true)]) rfl (show 1 ∈ Zl (ZeF 1) from by decide +kernel) (fun gv => by kernel_rfl) (oF <| Zd (Zq (E := Zb) (L := L0) (i := (v2).toNat) (q := 0) (by omega) (show ((0 + ((v2).toNat * 4)) + 0) = (v2).toNat * 4 + 0 from by omega) (show 0 + 1 ≤ 4 from by decide) rfl rfl) <| oB <| oI <| oF <| Zd (Zq (E := Zb) (L := L0) (i := (v2).toNat) (q := 0) (by omega) (show ((0 + ((v2).toNat * 4)) + 0) = (v2).toNat * 4 + 0 from by omega) (show 0 + 1 ≤ 4 from by decide) rfl rfl) <| oB <| oI <| oF <| oY Zf) rfl (by decide) (by rfl) (fun _ => ⟨rr, ⟨rr, ⟨rr, trivial⟩⟩⟩) ⟨(Zh (E := Zb) (α := RA) _ L0 _), trivial⟩
   ·
    exact Mach.ok_none
 ·
  exact Mach.ok_fin (M := Zay L0 a1 N) (cd := 1000000) (cm := 0) (r := (.r0 ((-1 : Int)) : Zat)) (fu := 4000) (orc := (Zj [(0, false)] [] [] [] [])) (live := [0]) (u := vi (-1 : Int)) (bl := [some (.cells (Zc Zb L0) 54)]) (ob := [((decide (v2 < (L0.length : Int))), false)]) (fun gv => by kernel_rfl) (oN Zf) rfl (by decide) (by rfl) rr ⟨(Zh (E := Zb) (α := RA) _ L0 _), trivial⟩

end Ev
end Go.Proofs.YtnfmhpnogfppiaaGreat
/- Calls do what the plain functions say. -/
namespace Go.Proofs.YtnfmhpnogfppiaaGreat
open Go.RowKit
namespace Ev
set_option linter.unusedVariables false
set_option maxRecDepth 100000
theorem ZnQ (L0 : List RA) (a1 : Int) (N : Nat) : (Zay L0 a1 N).Enter Tryz.prog Zs #[vs 0 0 L0.length L0.length, vi a1] (ZgS L0 a1 N) := by
 unfold ZgS
 refine Mach.en_ite (fun g0 => ?_) (fun g0 => ?_)
 ·
  refine Mach.en_ite (fun g1 => ?_) (fun g1 => ?_)
  ·
   refine Mach.en_ite (fun g2 => ?_) (fun g2 => ?_)
   ·
    exact Mach.en_head (bK := ZcQ 1) (M := Zay L0 a1 N) (cd := 1000000) (cm := 0) (y := (.h1m0 (0) ((IntKind.i64.wrap (a1 + (1 : Int)))) : ZQ)) (fu := 4000) (orc := (Zj [(0, true)] [] [(0, (a1).toNat)] [(0, [.i (L0.getD (a1).toNat RA.z).a0])] [])) (live := [0]) (tv := [some (vs 0 0 L0.length L0.length), some (vq), some (vi (IntKind.i64.wrap (a1 + (1 : Int))))]) (bl := [some (.cells (Zc Zb L0) 54)]) (ob := [(((L0.getD (a1).toNat RA.z).a0 == (15 : Int)), true), (ZE (Zp 1 (List.drop ((0 + ((a1).toNat * 4)) + 0) (Zc Zb L0))) [.i (L0.getD (a1).toNat RA.z).a0], true), (Nat.blt (a1).toNat L0.length, true), (a1 == Int.ofNat (a1).toNat, true)]) rfl rfl (show Zl (ZcQ 1).2 = [] from rfl) (by kernel_rfl) (oT <| Zd (Zq (E := Zb) (L := L0) (i := (a1).toNat) (q := 0) (by omega) (show ((0 + ((a1).toNat * 4)) + 0) = (a1).toNat * 4 + 0 from by omega) (show 0 + 1 ≤ 4 from by decide) rfl rfl) <| oB <| oI Zf) rfl (by decide) (by rfl) ⟨rr, ⟨⟨Eq.trans (show (vi ((0 : Nat) : Int) : Value) = vq from (congrArg (Value.int .i64) (by first | rfl | omega))) (by rfl), by rfl⟩, ⟨rr, trivial⟩⟩⟩ ⟨(Zh (E := Zb) (α := RA) _ L0 _), trivial⟩
   ·
    refine Mach.en_ite (fun g3 => ?_) (fun g3 => ?_)
    ·
     exact Mach.en_head (bK := ZcQ 1) (M := Zay L0 a1 N) (cd := 1000000) (cm := 0) (y := (.h1m0 (0) ((IntKind.i64.wrap (a1 + (1 : Int)))) : ZQ)) (fu := 4000) (orc := (Zj [(0, false), (1, true)] [] [(0, (a1).toNat)] [(0, [.i (L0.getD (a1).toNat RA.z).a0])] [])) (live := [0]) (tv := [some (vs 0 0 L0.length L0.length), some (vq), some (vi (IntKind.i64.wrap (a1 + (1 : Int))))]) (bl := [some (.cells (Zc Zb L0) 54)]) (ob := [(((L0.getD (a1).toNat RA.z).a0 == (16 : Int)), true), (((L0.getD (a1).toNat RA.z).a0 == (15 : Int)), false), (ZE (Zp 1 (List.drop ((0 + ((a1).toNat * 4)) + 0) (Zc Zb L0))) [.i (L0.getD (a1).toNat RA.z).a0], true), (Nat.blt (a1).toNat L0.length, true), (a1 == Int.ofNat (a1).toNat, true)]) rfl rfl (show Zl (ZcQ 1).2 = [] from rfl) (by kernel_rfl) (oT <| oF <| Zd (Zq (E := Zb) (L := L0) (i := (a1).toNat) (q := 0) (by omega) (show ((0 + ((a1).toNat * 4)) + 0) = (a1).toNat * 4 + 0 from by omega) (show 0 + 1 ≤ 4 from by decide) rfl rfl) <| oB <| oI Zf) rfl (by decide) (by rfl) ⟨rr, ⟨⟨Eq.trans (show (vi ((0 : Nat) : Int) : Value) = vq from (congrArg (Value.int .i64) (by first | rfl | omega))) (by rfl), by rfl⟩, ⟨rr, trivial⟩⟩⟩ ⟨(Zh (E := Zb) (α := RA) _ L0 _), trivial⟩
    ·
     refine Mach.en_ite (fun g4 => ?_) (fun g4 => ?_)
     ·
      refine Mach.en_bind (fun z5 c5 => ?_)
      cases z5 with
      | r0 y5_0 y5_1 =>
       exact Mach.en_fin (M := Zay L0 a1 N) (cd := 1000000) (cm := 0) (r := (.r0 (y5_0) : Zat)) (fu := 4000) (orc := (Zj [(0, false), (1, false), (2, true)] [] [(0, (a1).toNat)] [(0, [.i (L0.getD (a1).toNat RA.z).a0])] [(0, (ZcS (L0) (a1)  y5_0 y5_1 0 1))])) (live := [0]) (u := vi y5_0) (bl := [some (.cells (Zc Zb L0) 54)]) (ob := [(dP (Zc4 #[vs 0 0 L0.length L0.length, vi a1] (L0) (a1)  y5_0 y5_1 0 1), true), (dS (Zc Zb L0), true), (((L0.getD (a1).toNat RA.z).a0 == (17 : Int)), true), (((L0.getD (a1).toNat RA.z).a0 == (16 : Int)), false), (((L0.getD (a1).toNat RA.z).a0 == (15 : Int)), false), (ZE (Zp 1 (List.drop ((0 + ((a1).toNat * 4)) + 0) (Zc Zb L0))) [.i (L0.getD (a1).toNat RA.z).a0], true), (Nat.blt (a1).toNat L0.length, true), (a1 == Int.ofNat (a1).toNat, true)]) (by kernel_rfl) (Zd (Zk (ZcT #[vs 0 0 L0.length L0.length, vi a1] (L0) (a1)  y5_0 y5_1 N c5 0 1 rfl (by decide) (by decide))) <| oR <| oT <| oF <| oF <| Zd (Zq (E := Zb) (L := L0) (i := (a1).toNat) (q := 0) (by omega) (show ((0 + ((a1).toNat * 4)) + 0) = (a1).toNat * 4 + 0 from by omega) (show 0 + 1 ≤ 4 from by decide) rfl rfl) <| oB <| oI Zf) rfl (by decide) (by rfl) rr ⟨(Zh (E := Zb) (α := RA) _ L0 _), trivial⟩
     ·
      exact Mach.en_fin (M := Zay L0 a1 N) (cd := 1000000) (cm := 0) (r := (.r0 ((-1 : Int)) : Zat)) (fu := 4000) (orc := (Zj [(0, false), (1, false), (2, false)] [] [(0, (a1).toNat)] [(0, [.i (L0.getD (a1).toNat RA.z).a0])] [])) (live := [0]) (u := vi (-1 : Int)) (bl := [some (.cells (Zc Zb L0) 54)]) (ob := [(((L0.getD (a1).toNat RA.z).a0 == (17 : Int)), false), (((L0.getD (a1).toNat RA.z).a0 == (16 : Int)), false), (((L0.getD (a1).toNat RA.z).a0 == (15 : Int)), false), (ZE (Zp 1 (List.drop ((0 + ((a1).toNat * 4)) + 0) (Zc Zb L0))) [.i (L0.getD (a1).toNat RA.z).a0], true), (Nat.blt (a1).toNat L0.length, true), (a1 == Int.ofNat (a1).toNat, true)]) (by kernel_rfl) (oF <| oF <| oF <| Zd (Zq (E := Zb) (L := L0) (i := (a1).toNat) (q := 0) (by omega) (show ((0 + ((a1).toNat * 4)) + 0) = (a1).toNat * 4 + 0 from by omega) (show 0 + 1 ≤ 4 from by decide) rfl rfl) <| oB <| oI Zf) rfl (by decide) (by rfl) rr ⟨(Zh (E := Zb) (α := RA) _ L0 _), trivial⟩
  ·
   exact Mach.en_none
 ·
  exact Mach.en_none

theorem Zm6 (L0 : List RA) (a1 : Int) (N : Nat) (r : Zat) (h : Zg7 L0 a1 N = some r) : LSpec Tryz.prog 113 #[vs 0 0 L0.length L0.length, vi a1] [.cells (Zc Zb L0) 54] (Zlh L0 a1 r) (Zkv L0 a1 r) :=
 Mach.spec ZaP (Zay L0 a1 N) Tryz.func113 (by kernel_rfl) (by kernel_rfl) (fun x => by cases x <;> exact Zan _ rfl) (fun r => by cases r <;> exact Zan _ rfl) (fun x => by
  cases x with
  | h1m0 _ _ => exact fun _ => (show ¬ (1 ∈ Zl (ZcQ 1).2) from by decide +kernel)
  ) (fun x => (show (Zay L0 a1 N).Ok Tryz.prog Zs x (Zex L0 a1 N x) from by
  cases x with
  | h1m0 v1 v2 => exact Zl3 L0 a1 v1 v2 N
  )) (ZnQ L0 a1 N) (n := N) h

noncomputable def Zkx (L0 : List RA) (a1 w1 : Int) (k0 n : Nat) : ZaF := .call [(k0, .cells (Zc Zb L0) 54)] (vi w1) [] 0
def Zhc (A : Array Value) (L0 : List RA) (a1 w1 : Int) (k0 n : Nat) : Prop := ZH Tryz.prog 113 A [(k0, .cells (Zc Zb L0) 54)] (vi w1) [] n 0

theorem Zky (A : Array Value) (L0 : List RA) (a1 w1 : Int) (N : Nat) (h : Zg7 L0 a1 N = some (.r0 w1)) (k0 n : Nat) (hA : A = #[vs k0 0 L0.length L0.length, vi a1]) (hnd : ([k0] : List Nat).Nodup) (hlt : ∀ k ∈ ([k0] : List Nat), k < n) : Zhc A L0 a1 w1 k0 n :=
 ZX hA (LSpec.callL (show LSpec Tryz.prog 113 #[vs 0 0 L0.length L0.length, vi a1] [.cells (Zc Zb L0) 54] (vi w1) [some (.cells (Zc Zb L0) 54)] from Zm6 L0 a1 N _ h) [k0] n [] rfl hnd hlt (show 1 ≤ 1 from by decide) (show ∀ j ∈ ([] : List Nat), j < 1 from by decide) (by rfl) ⟨(ZJ _ _ _), trivial⟩ (by rfl) ⟨(ZJ _ _ _), trivial⟩ ⟨.inr rfl, trivial⟩ rfl rfl rfl (Za (ZS rfl (Zax _ _ _)) rfl) rfl)

noncomputable def Zkz (L0 : List RA) : Za1 → Value
 | .r0 w1 => Value.tuple #[vn, vi w1]
 | .r1 w1 => Value.tuple #[vs 1 0 w1.length w1.length, vq]
noncomputable def Zj3 (L0 : List RA) : Za1 → List (Option AObj)
 | .r0 w1 => [some (.cells (Zc Zb L0) 54)]
 | .r1 w1 => [some (.cells (Zc Zb L0) 54), some (.cells (Zc eI w1) 3)]

def ZnR : ZV → Nat
 | .h1m0 => 1
 | .h1m1 v1 v2 => 1
noncomputable def Zpg (L0 : List RA) : ZV → List (Nat × Value)
 | .h1m0 => [(0, vs 0 0 L0.length L0.length), (5, vn), (6, vq)]
 | .h1m1 v1 v2 => [(0, vs 0 0 L0.length L0.length), (5, vs 1 0 v1.length v1.length), (6, vi (v2 : Int))]
noncomputable def Zph (L0 : List RA) : ZV → List (Option AObj)
 | .h1m0 => [some (.cells (Zc Zb L0) 54)]
 | .h1m1 v1 v2 => [some (.cells (Zc Zb L0) 54), some (.cells (Zc eI v1) 3)]

noncomputable def Zdb : Nat → Code × List Za5
 | 1 => ZbE [1, 1, 1, 1, 0, 1, 3] (ZcJ Tryz.f101) []
 | _ => (.skip, [])
def Zj4 : Nat → Bool
 | 1 => true
 | _ => true
noncomputable def Zk0 (i : Nat) : List Za5 := match Zj4 i with | true => .rnd i :: (Zdb i).2 | false => (Zdb i).2

noncomputable def ZaM (L0 : List RA) (N : Nat) : Mach := ⟨Tryz.f101, [.cells (Zc Zb L0) 54], ZV, Za1, Zdn L0 N, ZnR, Zdb, Zj4, Zpg L0, Zph L0, Zkz L0, Zj3 L0⟩

theorem ZkS (L0 : List RA) (N : Nat) : (ZaM L0 N).Ok Tryz.prog Zs (.h1m0 : ZV) (Zdn L0 N (.h1m0 : ZV)) := by
 show (ZaM L0 N).Ok Tryz.prog Zs (.h1m0 : ZV) (ZeT L0 N)
 unfold ZeT
 refine Mach.ok_ite (fun g0 => ?_) (fun g0 => ?_)
 ·
  refine Mach.ok_bind (fun z1 c1 => ?_)
  cases z1 with
  | r0 y1_0 =>
   exact Mach.ok_next (M := ZaM L0 N) (cd := 1000000) (cm := 0) (y := (.h1m1 (([y1_0] : List Int)) (1) : ZV)) (fu := 4000) (orc := (Zj [(0, true)] [] [] [] [(0, (Zkx (L0) ((0 : Int))  y1_0 0 1))])) (live := [0, 2]) (tv := fun _ => [some (vs 0 0 L0.length L0.length), some (vs 2 0 1 1), some (vi (1 : Int))]) (bl := [some (.cells (Zc Zb L0) 54), some (.cells [vi y1_0] 3)]) (ob := [(dP (Zhc #[vs 0 0 L0.length L0.length, vq] (L0) ((0 : Int))  y1_0 0 1), true), (dS (Zc Zb L0), true), ((decide ((0 : Int) < (L0.length : Int))), true)]) rfl (show 1 ∈ Zl (Zk0 1) from by decide +kernel) (fun gv => by kernel_rfl) (Zd (Zk (Zky #[vs 0 0 L0.length L0.length, vq] (L0) ((0 : Int))  y1_0 N c1 0 1 rfl (by decide) (by decide))) <| oR <| oY Zf) rfl (by decide) (by rfl) (fun _ => ⟨rr, ⟨⟨Eq.trans (show (vs 1 0 ([y1_0] : List Int).length ([y1_0] : List Int).length : Value) = vs 1 0 1 1 from (ZO rfl eqA eqA)) (by rfl), by rfl⟩, ⟨⟨Eq.trans (show (vi ((1 : Nat) : Int) : Value) = vi (1 : Int) from (congrArg (Value.int .i64) (by first | rfl | omega))) (by rfl), by rfl⟩, trivial⟩⟩⟩) ⟨(Zh (E := Zb) (α := RA) _ L0 _), ⟨(Zbv (E := eI) _ (L := ([y1_0] : List Int)) _ (show ([vi y1_0] : List Value) = Zc eI ([y1_0] : List Int) from rfl)), trivial⟩⟩
 ·
  exact Mach.ok_fin (M := ZaM L0 N) (cd := 1000000) (cm := 0) (r := (.r0 ((0 : Int)) : Za1)) (fu := 4000) (orc := (Zj [(0, false)] [] [] [] [])) (live := [0]) (u := Value.tuple #[vn, vq]) (bl := [some (.cells (Zc Zb L0) 54)]) (ob := [((decide ((0 : Int) < (L0.length : Int))), false)]) (fun gv => by kernel_rfl) (oN Zf) rfl (by decide) (by rfl) rr ⟨(Zh (E := Zb) (α := RA) _ L0 _), trivial⟩

theorem ZkT (L0 : List RA) (v1 : List Int) (v2 N : Nat) : (ZaM L0 N).Ok Tryz.prog Zs (.h1m1 v1 v2 : ZV) (Zdn L0 N (.h1m1 v1 v2 : ZV)) := by
 show (ZaM L0 N).Ok Tryz.prog Zs (.h1m1 v1 v2 : ZV) (ZeU L0 N v1 v2)
 unfold ZeU
 refine Mach.ok_ite (fun g0 => ?_) (fun g0 => ?_)
 ·
  refine Mach.ok_bind (fun z1 c1 => ?_)
  cases z1 with
  | r0 y1_0 =>
   refine Mach.ok_ite (fun g2 => ?_) (fun g2 => ?_)
   ·
    refine Mach.ok_ite (fun g3 => ?_) (fun g3 => ?_)
    ·
     exact Mach.ok_next (M := ZaM L0 N) (cd := 1000000) (cm := 0) (y := (.h1m1 ((v1 ++ ([y1_0] : List Int))) ((v2 + 1)) : ZV)) (fu := 4000) (orc := (Zj [(0, true)] [(0, (((v2 + 1) : Nat) : Int))] [] [] [(0, (Zkx (L0) ((v2 : Int))  y1_0 0 2)), (1, .ap 1 [vi y1_0] (Zc eI (v1 ++ ([y1_0] : List Int))))])) (live := [0, 3]) (tv := fun _ => [some (vs 0 0 L0.length L0.length), some (vs 3 0 (v1.length + 1) (v1.length + 1)), some (vi (((v2 + 1) : Nat) : Int))]) (bl := [some (.cells (Zc Zb L0) 54), some (.cells (Zc eI (v1 ++ ([y1_0] : List Int))) 3)]) (ob := [((IntKind.i64.wrap ((v2 : Int) + (1 : Int))) == (((v2 + 1) : Nat) : Int), true), (dP ((1 = 1 ∧ Zp (1 * 1) (List.drop 0 [vi y1_0]) = some [vi y1_0] ∧ Zz ZP [vi y1_0] = true) ∧ 0 < 1 ∧ 1 ≤ 100000 ∧ v1.length < v1.length + 1 ∧ v1.length ≤ 100000 ∧ v1.length * 1 ≤ (List.length (Zc eI v1)) ∧ List.take (v1.length * 1) (Zc eI v1) ++ [vi y1_0] = (Zc eI (v1 ++ ([y1_0] : List Int)))), true), (dP (Zhc #[vs 0 0 L0.length L0.length, vi (v2 : Int)] (L0) ((v2 : Int))  y1_0 0 2), true), (dS (Zc Zb L0), true), ((decide ((v2 : Int) < (L0.length : Int))), true)]) rfl (show 1 ∈ Zl (Zk0 1) from by decide +kernel) (fun gv => by kernel_rfl) (Zd (beq_iff_eq.2 ((wrap_i64 ltA).trans (by first | rfl | omega))) <| Zd (Zk ⟨⟨rfl, ⟨rfl, rfl⟩⟩, by omega, by omega, ltA, by omega, (Zbm (E := eI) (L := v1) (M := ([y1_0] : List Int)) (n := v1.length) (show _ = _ * 1 from rfl) (by omega) (R := (v1 ++ ([y1_0] : List Int))) (by rw [List.take_of_length_le (by omega)]))⟩) <| Zd (Zk (Zky #[vs 0 0 L0.length L0.length, vi (v2 : Int)] (L0) ((v2 : Int))  y1_0 N c1 0 2 rfl (by decide) (by decide))) <| oR <| oY Zf) rfl (by decide) (by rfl) (fun _ => ⟨rr, ⟨⟨Eq.trans (show (vs 1 0 (v1 ++ ([y1_0] : List Int)).length (v1 ++ ([y1_0] : List Int)).length : Value) = vs 1 0 (v1.length + 1) (v1.length + 1) from (ZO rfl eqA eqA)) (by rfl), by rfl⟩, ⟨rr, trivial⟩⟩⟩) ⟨(Zh (E := Zb) (α := RA) _ L0 _), ⟨(Zh (E := eI) (α := Int) _ (v1 ++ ([y1_0] : List Int)) _), trivial⟩⟩
    ·
     exact Mach.ok_none
   ·
    exact Mach.ok_none
 ·
  exact Mach.ok_fin (M := ZaM L0 N) (cd := 1000000) (cm := 0) (r := (.r1 (v1) : Za1)) (fu := 4000) (orc := (Zj [(0, false)] [] [] [] [])) (live := [0, 1]) (u := Value.tuple #[vs 1 0 v1.length v1.length, vq]) (bl := [some (.cells (Zc Zb L0) 54), some (.cells (Zc eI v1) 3)]) (ob := [((decide ((v2 : Int) < (L0.length : Int))), false)]) (fun gv => by kernel_rfl) (oN Zf) rfl (by decide) (by rfl) rr ⟨(Zh (E := Zb) (α := RA) _ L0 _), ⟨(Zh (E := eI) (α := Int) _ v1 _), trivial⟩⟩

theorem Znc (L0 : List RA) (N : Nat) : (ZaM L0 N).Enter Tryz.prog Zs #[vs 0 0 L0.length L0.length] (Zgm L0 N) := by
 unfold Zgm
 refine Mach.en_bind (fun z0 c0 => ?_)
 cases z0 with
 | r0 y0_0 =>
  refine Mach.en_ite (fun g1 => ?_) (fun g1 => ?_)
  ·
   exact Mach.en_fin (M := ZaM L0 N) (cd := 1000000) (cm := 0) (r := (.r0 (y0_0) : Za1)) (fu := 4000) (orc := (Zj [(0, true)] [] [] [] [(0, (Z9 (L0)  y0_0 0 1))])) (live := [0]) (u := Value.tuple #[vn, vi y0_0]) (bl := [some (.cells (Zc Zb L0) 54)]) (ob := [((y0_0 != (0 : Int)), true), (dP (Z6 #[vs 0 0 L0.length L0.length] (L0)  y0_0 0 1), true), (dS (Zc Zb L0), true)]) (by kernel_rfl) (oD <| Zd (Zk (ZA #[vs 0 0 L0.length L0.length] (L0)  y0_0 N c0 0 1 rfl (by decide) (by decide))) <| oR Zf) rfl (by decide) (by rfl) rr ⟨(Zh (E := Zb) (α := RA) _ L0 _), trivial⟩
  ·
   exact Mach.en_head (bK := Zdb 1) (M := ZaM L0 N) (cd := 1000000) (cm := 0) (y := (.h1m0 : ZV)) (fu := 4000) (orc := (Zj [(0, false)] [] [] [] [(0, (Z9 (L0)  y0_0 0 1))])) (live := [0]) (tv := [some (vs 0 0 L0.length L0.length), some (vn), some (vq)]) (bl := [some (.cells (Zc Zb L0) 54)]) (ob := [((y0_0 != (0 : Int)), false), (dP (Z6 #[vs 0 0 L0.length L0.length] (L0)  y0_0 0 1), true), (dS (Zc Zb L0), true)]) rfl rfl (show Zl (Zdb 1).2 = [] from rfl) (by kernel_rfl) (oE <| Zd (Zk (ZA #[vs 0 0 L0.length L0.length] (L0)  y0_0 N c0 0 1 rfl (by decide) (by decide))) <| oR Zf) rfl (by decide) (by rfl) ⟨rr, ⟨rr, ⟨rr, trivial⟩⟩⟩ ⟨(Zh (E := Zb) (α := RA) _ L0 _), trivial⟩

theorem Zl4 (L0 : List RA) (N : Nat) (r : Za1) (h : ZpI L0 N = some r) : LSpec Tryz.prog 101 #[vs 0 0 L0.length L0.length] [.cells (Zc Zb L0) 54] (Zkz L0 r) (Zj3 L0 r) :=
 Mach.spec ZaP (ZaM L0 N) Tryz.func101 (by kernel_rfl) (by kernel_rfl) (fun x => by cases x <;> exact Zan _ rfl) (fun r => by cases r <;> exact Zan _ rfl) (fun x => by
  cases x with
  | h1m0 => exact fun _ => (show ¬ (1 ∈ Zl (Zdb 1).2) from by decide +kernel)
  | h1m1 _ _ => exact fun _ => (show ¬ (1 ∈ Zl (Zdb 1).2) from by decide +kernel)
  ) (fun x => (show (ZaM L0 N).Ok Tryz.prog Zs x (Zdn L0 N x) from by
  cases x with
  | h1m0 => exact ZkS L0 N
  | h1m1 v1 v2 => exact ZkT L0 v1 v2 N
  )) (Znc L0 N) (n := N) h

noncomputable def Znd : Zey → Value
 | .r0 => Value.tuple #[vs 1 0 109 109, vq]
noncomputable def Zm7 : Zey → List (Option AObj)
 | .r0 => [some cz0, some cz1]

theorem Zk1 (N : Nat) (r : Zey) (h : ZcF N = some r) : LSpec Tryz.prog 101 #[vs 0 0 109 109] [cz0] (Znd r) (Zm7 r) := by
 cases r
 exact Zqj (by kernel_rfl) (by kernel_rfl) (by kernel_rfl) (by kernel_rfl) (Zl4 (([(⟨(1 : Int), (1 : Int), (5 : Int), (0 : Int)⟩ : RA), (⟨(10 : Int), (0 : Int), (0 : Int), (0 : Int)⟩ : RA), (⟨(15 : Int), (0 : Int), (0 : Int), (0 : Int)⟩ : RA), (⟨(13 : Int), (2 : Int), (0 : Int), (2 : Int)⟩ : RA), (⟨(9 : Int), (2 : Int), (27 : Int), (0 : Int)⟩ : RA), (⟨(13 : Int), (3 : Int), (2 : Int), (1 : Int)⟩ : RA), (⟨(6 : Int), (4 : Int), (3 : Int), (1 : Int)⟩ : RA), (⟨(9 : Int), (4 : Int), (24 : Int), (0 : Int)⟩ : RA), (⟨(13 : Int), (5 : Int), (2 : Int), (0 : Int)⟩ : RA), (⟨(9 : Int), (5 : Int), (18 : Int), (0 : Int)⟩ : RA), (⟨(13 : Int), (3 : Int), (5 : Int), (1 : Int)⟩ : RA), (⟨(6 : Int), (4 : Int), (3 : Int), (1 : Int)⟩ : RA), (⟨(9 : Int), (4 : Int), (15 : Int), (0 : Int)⟩ : RA), (⟨(3 : Int), (2 : Int), (5 : Int), (0 : Int)⟩ : RA), (⟨(8 : Int), (8 : Int), (0 : Int), (0 : Int)⟩ : RA), (⟨(7 : Int), (4 : Int), (3 : Int), (1 : Int)⟩ : RA), (⟨(9 : Int), (4 : Int), (18 : Int), (0 : Int)⟩ : RA), (⟨(8 : Int), (33 : Int), (0 : Int), (0 : Int)⟩ : RA), (⟨(11 : Int), (6 : Int), (2 : Int), (1 : Int)⟩ : RA), (⟨(14 : Int), (6 : Int), (1 : Int), (1 : Int)⟩ : RA), (⟨(14 : Int), (6 : Int), (0 : Int), (5 : Int)⟩ : RA), (⟨(14 : Int), (2 : Int), (0 : Int), (6 : Int)⟩ : RA), (⟨(1 : Int), (7 : Int), (1 : Int), (0 : Int)⟩ : RA), (⟨(8 : Int), (34 : Int), (0 : Int), (0 : Int)⟩ : RA), (⟨(7 : Int), (4 : Int), (3 : Int), (1 : Int)⟩ : RA), (⟨(9 : Int), (4 : Int), (27 : Int), (0 : Int)⟩ : RA), (⟨(8 : Int), (33 : Int), (0 : Int), (0 : Int)⟩ : RA), (⟨(11 : Int), (6 : Int), (2 : Int), (1 : Int)⟩ : RA), (⟨(14 : Int), (6 : Int), (1 : Int), (1 : Int)⟩ : RA), (⟨(14 : Int), (6 : Int), (0 : Int), (2 : Int)⟩ : RA), (⟨(14 : Int), (0 : Int), (2 : Int), (6 : Int)⟩ : RA), (⟨(1 : Int), (7 : Int), (1 : Int), (0 : Int)⟩ : RA), (⟨(8 : Int), (34 : Int), (0 : Int), (0 : Int)⟩ : RA), (⟨(1 : Int), (7 : Int), (0 : Int), (0 : Int)⟩ : RA), (⟨(17 : Int), (0 : Int), (0 : Int), (0 : Int)⟩ : RA), (⟨(19 : Int), (7 : Int), (0 : Int), (0 : Int)⟩ : RA), (⟨(1 : Int), (1 : Int), (3 : Int), (0 : Int)⟩ : RA), (⟨(10 : Int), (0 : Int), (0 : Int), (0 : Int)⟩ : RA), (⟨(15 : Int), (0 : Int), (0 : Int), (0 : Int)⟩ : RA), (⟨(13 : Int), (2 : Int), (0 : Int), (2 : Int)⟩ : RA), (⟨(9 : Int), (2 : Int), (63 : Int), (0 : Int)⟩ : RA), (⟨(13 : Int), (3 : Int), (2 : Int), (1 : Int)⟩ : RA), (⟨(6 : Int), (4 : Int), (3 : Int), (1 : Int)⟩ : RA), (⟨(9 : Int), (4 : Int), (60 : Int), (0 : Int)⟩ : RA), (⟨(13 : Int), (5 : Int), (2 : Int), (0 : Int)⟩ : RA), (⟨(9 : Int), (5 : Int), (54 : Int), (0 : Int)⟩ : RA), (⟨(13 : Int), (3 : Int), (5 : Int), (1 : Int)⟩ : RA), (⟨(6 : Int), (4 : Int), (3 : Int), (1 : Int)⟩ : RA), (⟨(9 : Int), (4 : Int), (51 : Int), (0 : Int)⟩ : RA), (⟨(3 : Int), (2 : Int), (5 : Int), (0 : Int)⟩ : RA), (⟨(8 : Int), (44 : Int), (0 : Int), (0 : Int)⟩ : RA), (⟨(7 : Int), (4 : Int), (3 : Int), (1 : Int)⟩ : RA), (⟨(9 : Int), (4 : Int), (54 : Int), (0 : Int)⟩ : RA), (⟨(8 : Int), (69 : Int), (0 : Int), (0 : Int)⟩ : RA), (⟨(11 : Int), (6 : Int), (2 : Int), (1 : Int)⟩ : RA), (⟨(14 : Int), (6 : Int), (1 : Int), (1 : Int)⟩ : RA), (⟨(14 : Int), (6 : Int), (0 : Int), (5 : Int)⟩ : RA), (⟨(14 : Int), (2 : Int), (0 : Int), (6 : Int)⟩ : RA), (⟨(1 : Int), (7 : Int), (1 : Int), (0 : Int)⟩ : RA), (⟨(8 : Int), (70 : Int), (0 : Int), (0 : Int)⟩ : RA), (⟨(7 : Int), (4 : Int), (3 : Int), (1 : Int)⟩ : RA), (⟨(9 : Int), (4 : Int), (63 : Int), (0 : Int)⟩ : RA), (⟨(8 : Int), (69 : Int), (0 : Int), (0 : Int)⟩ : RA), (⟨(11 : Int), (6 : Int), (2 : Int), (1 : Int)⟩ : RA), (⟨(14 : Int), (6 : Int), (1 : Int), (1 : Int)⟩ : RA), (⟨(14 : Int), (6 : Int), (0 : Int), (2 : Int)⟩ : RA), (⟨(14 : Int), (0 : Int), (2 : Int), (6 : Int)⟩ : RA), (⟨(1 : Int), (7 : Int), (1 : Int), (0 : Int)⟩ : RA), (⟨(8 : Int), (70 : Int), (0 : Int), (0 : Int)⟩ : RA), (⟨(1 : Int), (7 : Int), (0 : Int), (0 : Int)⟩ : RA), (⟨(17 : Int), (0 : Int), (0 : Int), (0 : Int)⟩ : RA), (⟨(19 : Int), (7 : Int), (0 : Int), (0 : Int)⟩ : RA), (⟨(1 : Int), (1 : Int), (5 : Int), (0 : Int)⟩ : RA), (⟨(10 : Int), (0 : Int), (0 : Int), (0 : Int)⟩ : RA), (⟨(15 : Int), (0 : Int), (0 : Int), (0 : Int)⟩ : RA), (⟨(13 : Int), (2 : Int), (0 : Int), (2 : Int)⟩ : RA), (⟨(9 : Int), (2 : Int), (99 : Int), (0 : Int)⟩ : RA), (⟨(13 : Int), (3 : Int), (2 : Int), (1 : Int)⟩ : RA), (⟨(6 : Int), (4 : Int), (3 : Int), (1 : Int)⟩ : RA), (⟨(9 : Int), (4 : Int), (96 : Int), (0 : Int)⟩ : RA), (⟨(13 : Int), (5 : Int), (2 : Int), (0 : Int)⟩ : RA), (⟨(9 : Int), (5 : Int), (90 : Int), (0 : Int)⟩ : RA), (⟨(13 : Int), (3 : Int), (5 : Int), (1 : Int)⟩ : RA), (⟨(6 : Int), (4 : Int), (3 : Int), (1 : Int)⟩ : RA), (⟨(9 : Int), (4 : Int), (87 : Int), (0 : Int)⟩ : RA), (⟨(3 : Int), (2 : Int), (5 : Int), (0 : Int)⟩ : RA), (⟨(8 : Int), (80 : Int), (0 : Int), (0 : Int)⟩ : RA), (⟨(7 : Int), (4 : Int), (3 : Int), (1 : Int)⟩ : RA), (⟨(9 : Int), (4 : Int), (90 : Int), (0 : Int)⟩ : RA), (⟨(8 : Int), (105 : Int), (0 : Int), (0 : Int)⟩ : RA), (⟨(11 : Int), (6 : Int), (2 : Int), (1 : Int)⟩ : RA), (⟨(14 : Int), (6 : Int), (1 : Int), (1 : Int)⟩ : RA), (⟨(14 : Int), (6 : Int), (0 : Int), (5 : Int)⟩ : RA), (⟨(14 : Int), (2 : Int), (0 : Int), (6 : Int)⟩ : RA), (⟨(1 : Int), (7 : Int), (1 : Int), (0 : Int)⟩ : RA), (⟨(8 : Int), (106 : Int), (0 : Int), (0 : Int)⟩ : RA), (⟨(7 : Int), (4 : Int), (3 : Int), (1 : Int)⟩ : RA), (⟨(9 : Int), (4 : Int), (99 : Int), (0 : Int)⟩ : RA), (⟨(8 : Int), (105 : Int), (0 : Int), (0 : Int)⟩ : RA), (⟨(11 : Int), (6 : Int), (2 : Int), (1 : Int)⟩ : RA), (⟨(14 : Int), (6 : Int), (1 : Int), (1 : Int)⟩ : RA), (⟨(14 : Int), (6 : Int), (0 : Int), (2 : Int)⟩ : RA), (⟨(14 : Int), (0 : Int), (2 : Int), (6 : Int)⟩ : RA), (⟨(1 : Int), (7 : Int), (1 : Int), (0 : Int)⟩ : RA), (⟨(8 : Int), (106 : Int), (0 : Int), (0 : Int)⟩ : RA), (⟨(1 : Int), (7 : Int), (0 : Int), (0 : Int)⟩ : RA), (⟨(17 : Int), (0 : Int), (0 : Int), (0 : Int)⟩ : RA), (⟨(19 : Int), (7 : Int), (0 : Int), (0 : Int)⟩ : RA), (⟨(20 : Int), (0 : Int), (0 : Int), (0 : Int)⟩ : RA)] : List RA)) 100000 (.r1 (([(-1 : Int), (-1 : Int), (34 : Int), (-1 : Int), (-1 : Int), (-1 : Int), (-1 : Int), (-1 : Int), (-1 : Int), (-1 : Int), (-1 : Int), (-1 : Int), (-1 : Int), (-1 : Int), (-1 : Int), (-1 : Int), (-1 : Int), (-1 : Int), (-1 : Int), (-1 : Int), (-1 : Int), (-1 : Int), (-1 : Int), (-1 : Int), (-1 : Int), (-1 : Int), (-1 : Int), (-1 : Int), (-1 : Int), (-1 : Int), (-1 : Int), (-1 : Int), (-1 : Int), (-1 : Int), (2 : Int), (-1 : Int), (-1 : Int), (-1 : Int), (70 : Int), (-1 : Int), (-1 : Int), (-1 : Int), (-1 : Int), (-1 : Int), (-1 : Int), (-1 : Int), (-1 : Int), (-1 : Int), (-1 : Int), (-1 : Int), (-1 : Int), (-1 : Int), (-1 : Int), (-1 : Int), (-1 : Int), (-1 : Int), (-1 : Int), (-1 : Int), (-1 : Int), (-1 : Int), (-1 : Int), (-1 : Int), (-1 : Int), (-1 : Int), (-1 : Int), (-1 : Int), (-1 : Int), (-1 : Int), (-1 : Int), (-1 : Int), (38 : Int), (-1 : Int), (-1 : Int), (-1 : Int), (106 : Int), (-1 : Int), (-1 : Int), (-1 : Int), (-1 : Int), (-1 : Int), (-1 : Int), (-1 : Int), (-1 : Int), (-1 : Int), (-1 : Int), (-1 : Int), (-1 : Int), (-1 : Int), (-1 : Int), (-1 : Int), (-1 : Int), (-1 : Int), (-1 : Int), (-1 : Int), (-1 : Int), (-1 : Int), (-1 : Int), (-1 : Int), (-1 : Int), (-1 : Int), (-1 : Int), (-1 : Int), (-1 : Int), (-1 : Int), (-1 : Int), (-1 : Int), (74 : Int), (-1 : Int), (-1 : Int)] : List Int))) (by kernel_rfl))

noncomputable def Zdq  (k0 n : Nat) : ZaF := .call [(k0, cz0)] (Value.tuple #[vs n 0 109 109, vq]) [(n, some cz1)] 1
def ZcB (A : Array Value)  (k0 n : Nat) : Prop := ZH Tryz.prog 101 A [(k0, cz0)] (Value.tuple #[vs n 0 109 109, vq]) [(n, some cz1)] n 1

theorem Zdr (A : Array Value)  (N : Nat) (h : ZcF  N = some (.r0)) (k0 n : Nat) (hA : A = #[vs k0 0 109 109]) (hnd : ([k0] : List Nat).Nodup) (hlt : ∀ k ∈ ([k0] : List Nat), k < n) : ZcB A  k0 n :=
 ZX hA (LSpec.callL (show LSpec Tryz.prog 101 #[vs 0 0 109 109] [cz0] (Value.tuple #[vs 1 0 109 109, vq]) [some cz0, some cz1] from Zk1  N _ h) [k0] n [1] rfl hnd hlt (show 1 ≤ 2 from by decide) (show ∀ j ∈ ([1] : List Nat), j < 2 from by decide) (by rfl) ⟨rfl, trivial⟩ (by rfl) ⟨rfl, ⟨rfl, trivial⟩⟩ ⟨.inr rfl, ⟨(by decide), trivial⟩⟩ rfl rfl rfl (Za (ZS rfl rfl) rfl) (Za (ZS rfl (Zbk rfl)) rfl))

noncomputable def Zli  : ZY → Value
 | .r0 => Value.tuple #[Value.agg #[vs 2 0 1 1, vs 3 0 1 1, vs 4 0 3 3], vs 5 0 3 3, vT]
noncomputable def Zk2  : ZY → List (Option AObj)
 | .r0 => [some (.cells [vs 1 0 109 109] 22), some cz0, some (.cells [vs 6 0 109 109] 22), some cz7, some cz3, some (.cells [vq, vq, vq] 3), some cz0, some Zpb, some cz4, some (.cells [vi (2 : Int), vq, vi (1 : Int), vi (5 : Int)] 36), some ZdK]

noncomputable def ZG : FuncId → Option Ext := fun f => bif Nat.beq f 71 || Nat.beq f 58 || Nat.beq f 72 then none else Zs f
theorem Zne : Fit Tryz.prog ZG := ZoX ZaP _

end Ev
end Go.Proofs.YtnfmhpnogfppiaaGreat
/- Calls do what the plain functions say. -/
namespace Go.Proofs.YtnfmhpnogfppiaaGreat
open Go.RowKit
namespace Ev
set_option linter.unusedVariables false
set_option maxRecDepth 100000
def Zpi : Zn → Nat
 | .h1m0 => 1
 | .h2m0 => 2
 | .h2m1 => 2
 | .h2m2 => 2
 | .h2m3 => 2
 | .h3m0 => 3
 | .h3m1 => 3
 | .h3m2 => 3
 | .h3m3 => 3
 | .h3m4 => 3
 | .h3m5 => 3
 | .h3m6 => 3
 | .h3m7 => 3
noncomputable def ZpO  : Zn → List (Nat × Value)
 | .h1m0 => [(0, vs 0 0 1 1), (1, vn), (2, vi (100 : Int)), (6, vp 2 0), (9, vp 3 0), (11, vq), (12, vn), (13, vq)]
 | .h2m0 => [(0, vs 0 0 1 1), (2, vi (100 : Int)), (6, vp 2 0), (9, vp 3 0), (11, vq), (12, vn), (17, vq)]
 | .h2m1 => [(0, vs 0 0 1 1), (2, vi (100 : Int)), (6, vp 2 0), (9, vp 3 0), (11, vi (1 : Int)), (12, vs 4 0 1 1), (17, vi (1 : Int))]
 | .h2m2 => [(0, vs 0 0 1 1), (2, vi (100 : Int)), (6, vp 2 0), (9, vp 3 0), (11, vi (2 : Int)), (12, vs 4 0 2 2), (17, vi (2 : Int))]
 | .h2m3 => [(0, vs 0 0 1 1), (2, vi (100 : Int)), (6, vp 2 0), (9, vp 3 0), (11, vi (2 : Int)), (12, vs 4 0 3 3), (17, vi (3 : Int))]
 | .h3m0 => [(0, vs 0 0 1 1), (2, vi (100 : Int)), (6, vp 2 0), (9, vp 3 0), (11, vq), (12, vn), (17, vq), (18, vf), (19, vq)]
 | .h3m1 => [(0, vs 0 0 1 1), (2, vi (100 : Int)), (6, vp 2 0), (9, vp 3 0), (11, vi (1 : Int)), (12, vs 4 0 1 1), (17, vq), (18, vT), (19, vi (1 : Int))]
 | .h3m2 => [(0, vs 0 0 1 1), (2, vi (100 : Int)), (6, vp 2 0), (9, vp 3 0), (11, vi (1 : Int)), (12, vs 4 0 1 1), (17, vi (1 : Int)), (18, vf), (19, vq)]
 | .h3m3 => [(0, vs 0 0 1 1), (2, vi (100 : Int)), (6, vp 2 0), (9, vp 3 0), (11, vi (2 : Int)), (12, vs 4 0 2 2), (17, vi (1 : Int)), (18, vT), (19, vi (1 : Int))]
 | .h3m4 => [(0, vs 0 0 1 1), (2, vi (100 : Int)), (6, vp 2 0), (9, vp 3 0), (11, vi (2 : Int)), (12, vs 4 0 2 2), (17, vi (2 : Int)), (18, vf), (19, vq)]
 | .h3m5 => [(0, vs 0 0 1 1), (2, vi (100 : Int)), (6, vp 2 0), (9, vp 3 0), (11, vi (2 : Int)), (12, vs 4 0 3 3), (17, vi (2 : Int)), (18, vT), (19, vi (1 : Int))]
 | .h3m6 => [(0, vs 0 0 1 1), (2, vi (100 : Int)), (6, vp 2 0), (9, vp 3 0), (11, vi (2 : Int)), (12, vs 4 0 3 3), (17, vi (3 : Int)), (18, vf), (19, vq)]
 | .h3m7 => [(0, vs 0 0 1 1), (2, vi (100 : Int)), (6, vp 2 0), (9, vp 3 0), (11, vi (2 : Int)), (12, vs 4 0 3 3), (17, vi (3 : Int)), (18, vf), (19, vi (1 : Int))]
noncomputable def ZpP  : Zn → List (Option AObj)
 | .h1m0 => [some (.cells [vs 1 0 109 109] 22), some cz0, some (.cells [vn, vn, vn] 78), some (.cells [vs 4 0 1 1, vs 5 0 1 1, vs 6 0 1 1] 78), some (.cells [vs 7 0 109 109] 22), some ZmP, some Zpa, some cz0, some cz6]
 | .h2m0 => [some (.cells [vs 1 0 109 109] 22), some cz0, some (.cells [vn, vn, vn] 78), some (.cells [vs 4 0 1 1, vs 5 0 1 1, vs 6 0 1 1] 78), some (.cells [vs 7 0 109 109] 22), some ZmP, some Zpa, some cz0, some cz6]
 | .h2m1 => [some (.cells [vs 1 0 109 109] 22), some cz0, some (.cells [vn, vn, vn] 78), some (.cells [vs 5 0 1 1, vs 6 0 1 1, vs 7 0 2 2] 78), some (.cells [vq] 3), some (.cells [vs 8 0 109 109] 22), some ZoY, some ZoZ, some cz0, some (.cells [] 36), some cz5, some (.cells [vi (2 : Int), vq, vi (1 : Int), vi (5 : Int)] 36)]
 | .h2m2 => [some (.cells [vs 1 0 109 109] 22), some cz0, some (.cells [vn, vn, vn] 78), some (.cells [vs 5 0 1 1, vs 6 0 1 1, vs 7 0 3 3] 78), some (.cells [vq, vq] 3), some (.cells [vs 8 0 109 109] 22), some cz9, some cz2, some cz0, some (.cells [vi (1 : Int), vi (1 : Int)] 36), some cz4, some (.cells [vi (2 : Int), vq, vi (1 : Int), vi (5 : Int)] 36), some ZdK]
 | .h2m3 => [some (.cells [vs 1 0 109 109] 22), some cz0, some (.cells [vn, vn, vn] 78), some (.cells [vs 5 0 1 1, vs 6 0 1 1, vs 7 0 3 3] 78), some (.cells [vq, vq, vq] 3), some (.cells [vs 8 0 109 109] 22), some cz8, some cz2, some cz0, some (.cells [vi (1 : Int), vi (1 : Int), vi (1 : Int), vi (1 : Int)] 36), some cz4, some (.cells [vi (2 : Int), vq, vi (1 : Int), vi (5 : Int)] 36), some ZdK]
 | .h3m0 => [some (.cells [vs 1 0 109 109] 22), some cz0, some (.cells [vn, vn, vn] 78), some (.cells [vs 4 0 1 1, vs 5 0 1 1, vs 6 0 1 1] 78), some (.cells [vs 7 0 109 109] 22), some ZmP, some Zpa, some cz0, some cz6]
 | .h3m1 => [some (.cells [vs 1 0 109 109] 22), some cz0, some (.cells [vn, vn, vn] 78), some (.cells [vs 5 0 1 1, vs 6 0 1 1, vs 7 0 2 2] 78), some (.cells [vq] 3), some (.cells [vs 8 0 109 109] 22), some ZoY, some ZoZ, some cz0, some (.cells [] 36), some cz5, some (.cells [vi (2 : Int), vq, vi (1 : Int), vi (5 : Int)] 36)]
 | .h3m2 => [some (.cells [vs 1 0 109 109] 22), some cz0, some (.cells [vn, vn, vn] 78), some (.cells [vs 5 0 1 1, vs 6 0 1 1, vs 7 0 2 2] 78), some (.cells [vq] 3), some (.cells [vs 8 0 109 109] 22), some ZoY, some ZoZ, some cz0, some (.cells [] 36), some cz5, some (.cells [vi (2 : Int), vq, vi (1 : Int), vi (5 : Int)] 36)]
 | .h3m3 => [some (.cells [vs 1 0 109 109] 22), some cz0, some (.cells [vn, vn, vn] 78), some (.cells [vs 5 0 1 1, vs 6 0 1 1, vs 7 0 3 3] 78), some (.cells [vq, vq] 3), some (.cells [vs 8 0 109 109] 22), some cz9, some cz2, some cz0, some (.cells [vi (1 : Int), vi (1 : Int)] 36), some cz4, some (.cells [vi (2 : Int), vq, vi (1 : Int), vi (5 : Int)] 36), some ZdK]
 | .h3m4 => [some (.cells [vs 1 0 109 109] 22), some cz0, some (.cells [vn, vn, vn] 78), some (.cells [vs 5 0 1 1, vs 6 0 1 1, vs 7 0 3 3] 78), some (.cells [vq, vq] 3), some (.cells [vs 8 0 109 109] 22), some cz9, some cz2, some cz0, some (.cells [vi (1 : Int), vi (1 : Int)] 36), some cz4, some (.cells [vi (2 : Int), vq, vi (1 : Int), vi (5 : Int)] 36), some ZdK]
 | .h3m5 => [some (.cells [vs 1 0 109 109] 22), some cz0, some (.cells [vn, vn, vn] 78), some (.cells [vs 5 0 1 1, vs 6 0 1 1, vs 7 0 3 3] 78), some (.cells [vq, vq, vq] 3), some (.cells [vs 8 0 109 109] 22), some cz8, some cz2, some cz0, some (.cells [vi (1 : Int), vi (1 : Int), vi (1 : Int), vi (1 : Int)] 36), some cz4, some (.cells [vi (2 : Int), vq, vi (1 : Int), vi (5 : Int)] 36), some ZdK]
 | .h3m6 => [some (.cells [vs 1 0 109 109] 22), some cz0, some (.cells [vn, vn, vn] 78), some (.cells [vs 5 0 1 1, vs 6 0 1 1, vs 7 0 3 3] 78), some (.cells [vq, vq, vq] 3), some (.cells [vs 8 0 109 109] 22), some cz8, some cz2, some cz0, some (.cells [vi (1 : Int), vi (1 : Int), vi (1 : Int), vi (1 : Int)] 36), some cz4, some (.cells [vi (2 : Int), vq, vi (1 : Int), vi (5 : Int)] 36), some ZdK]
 | .h3m7 => [some (.cells [vs 1 0 109 109] 22), some cz0, some (.cells [vn, vn, vn] 78), some (.cells [vs 5 0 1 1, vs 6 0 1 1, vs 7 0 3 3] 78), some (.cells [vq, vq, vq] 3), some (.cells [vs 8 0 109 109] 22), some cz8, some cz2, some cz0, some (.cells [vi (1 : Int), vi (1 : Int), vi (1 : Int), vi (1 : Int)] 36), some cz4, some (.cells [vi (2 : Int), vq, vi (1 : Int), vi (5 : Int)] 36), some ZdK]

noncomputable def ZN : Nat → Code × List Za5
 | 1 => ZbE [1, 1, 1, 1, 1, 0, 1, 3] (ZcJ Tryz.f33) []
 | 2 => ZbE [1, 1, 1, 1, 1, 1, 0, 1, 3] (ZcJ Tryz.f33) []
 | 3 => ZbE [1, 1, 1, 1, 1, 1, 0, 1, 3, 8, 1, 0, 3, 1, 0, 1, 3] (ZcJ Tryz.f33) []
 | _ => (.skip, [])
def Zk3 : Nat → Bool
 | 1 => true
 | 2 => true
 | 3 => true
 | _ => true
noncomputable def Zbu (i : Nat) : List Za5 := match Zk3 i with | true => .rnd i :: (ZN i).2 | false => (ZN i).2

noncomputable def Z5  (N : Nat) : Mach := ⟨Tryz.f33, [.cells [vs 1 0 109 109] 22, cz0], Zn, ZY, Zae  N, Zpi, ZN, Zk3, ZpO , ZpP , Zli , Zk2 ⟩

theorem Zl5  (N : Nat) : (Z5  N).Ok Tryz.prog ZG (.h1m0 : Zn) (Zae  N (.h1m0 : Zn)) := by
 show (Z5  N).Ok Tryz.prog ZG (.h1m0 : Zn) (Zfq  N)
 unfold Zfq
 exact Mach.ok_head (bK := ZN 2) (M := Z5  N) (cd := 1000000) (cm := 0) (y := (.h2m0 : Zn)) (fu := 4000) (orc := (Zj [] [] [] [] [])) (live := [0, 1, 2, 3, 4, 5, 6, 7, 8]) (tv := fun _ => [some (vs 0 0 1 1), some (vi (100 : Int)), some (vp 2 0), some (vp 3 0), some (vq), some (vn), some (vq)]) (bl := [some (.cells [vs 1 0 109 109] 22), some cz0, some (.cells [vn, vn, vn] 78), some (.cells [vs 4 0 1 1, vs 5 0 1 1, vs 6 0 1 1] 78), some (.cells [vs 7 0 109 109] 22), some ZmP, some Zpa, some cz0, some cz6]) (ob := []) rfl rfl (show ∀ j ∈ Zl (ZN 2).2, j ∈ Zl (Zbu 1) from by decide +kernel) (fun gv => by kernel_rfl) Zf rfl (by decide) (by rfl) (fun _ => ⟨rr, ⟨rr, ⟨rr, ⟨rr, ⟨rr, ⟨rr, ⟨rr, trivial⟩⟩⟩⟩⟩⟩⟩) ⟨⟨rfl, ⟨[], by rfl⟩, by rfl⟩, ⟨⟨rfl, ⟨[], by rfl⟩, by rfl⟩, ⟨⟨rfl, ⟨[], by rfl⟩, by rfl⟩, ⟨⟨rfl, ⟨[], by rfl⟩, by rfl⟩, ⟨⟨rfl, ⟨[], by rfl⟩, by rfl⟩, ⟨⟨rfl, ⟨[], by rfl⟩, by rfl⟩, ⟨⟨rfl, ⟨[], by rfl⟩, by rfl⟩, ⟨⟨rfl, ⟨[], by rfl⟩, by rfl⟩, ⟨⟨rfl, ⟨[], by rfl⟩, by rfl⟩, trivial⟩⟩⟩⟩⟩⟩⟩⟩⟩

theorem Zl6  (N : Nat) : (Z5  N).Ok Tryz.prog ZG (.h2m0 : Zn) (Zae  N (.h2m0 : Zn)) := by
 show (Z5  N).Ok Tryz.prog ZG (.h2m0 : Zn) (Zfr  N)
 unfold Zfr
 exact Mach.ok_head (bK := ZN 3) (M := Z5  N) (cd := 1000000) (cm := 0) (y := (.h3m0 : Zn)) (fu := 4000) (orc := (Zj [] [] [] [] [])) (live := [0, 1, 2, 3, 4, 5, 6, 7, 8]) (tv := fun _ => [some (vs 0 0 1 1), some (vi (100 : Int)), some (vp 2 0), some (vp 3 0), some (vq), some (vn), some (vq), some (vf), some (vq)]) (bl := [some (.cells [vs 1 0 109 109] 22), some cz0, some (.cells [vn, vn, vn] 78), some (.cells [vs 4 0 1 1, vs 5 0 1 1, vs 6 0 1 1] 78), some (.cells [vs 7 0 109 109] 22), some ZmP, some Zpa, some cz0, some cz6]) (ob := []) rfl rfl (show ∀ j ∈ Zl (ZN 3).2, j ∈ Zl (Zbu 2) from by decide +kernel) (fun gv => by kernel_rfl) Zf rfl (by decide) (by rfl) (fun _ => ⟨rr, ⟨rr, ⟨rr, ⟨rr, ⟨rr, ⟨rr, ⟨rr, ⟨rr, ⟨rr, trivial⟩⟩⟩⟩⟩⟩⟩⟩⟩) ⟨⟨rfl, ⟨[], by rfl⟩, by rfl⟩, ⟨⟨rfl, ⟨[], by rfl⟩, by rfl⟩, ⟨⟨rfl, ⟨[], by rfl⟩, by rfl⟩, ⟨⟨rfl, ⟨[], by rfl⟩, by rfl⟩, ⟨⟨rfl, ⟨[], by rfl⟩, by rfl⟩, ⟨⟨rfl, ⟨[], by rfl⟩, by rfl⟩, ⟨⟨rfl, ⟨[], by rfl⟩, by rfl⟩, ⟨⟨rfl, ⟨[], by rfl⟩, by rfl⟩, ⟨⟨rfl, ⟨[], by rfl⟩, by rfl⟩, trivial⟩⟩⟩⟩⟩⟩⟩⟩⟩

theorem Zl7  (N : Nat) : (Z5  N).Ok Tryz.prog ZG (.h2m1 : Zn) (Zae  N (.h2m1 : Zn)) := by
 show (Z5  N).Ok Tryz.prog ZG (.h2m1 : Zn) (Zfs  N)
 unfold Zfs
 exact Mach.ok_head (bK := ZN 3) (M := Z5  N) (cd := 1000000) (cm := 0) (y := (.h3m2 : Zn)) (fu := 4000) (orc := (Zj [] [] [] [] [])) (live := [0, 1, 2, 3, 4, 5, 6, 7, 8, 9, 10, 11]) (tv := fun _ => [some (vs 0 0 1 1), some (vi (100 : Int)), some (vp 2 0), some (vp 3 0), some (vi (1 : Int)), some (vs 4 0 1 1), some (vi (1 : Int)), some (vf), some (vq)]) (bl := [some (.cells [vs 1 0 109 109] 22), some cz0, some (.cells [vn, vn, vn] 78), some (.cells [vs 5 0 1 1, vs 6 0 1 1, vs 7 0 2 2] 78), some (.cells [vq] 3), some (.cells [vs 8 0 109 109] 22), some ZoY, some ZoZ, some cz0, some (.cells [] 36), some cz5, some (.cells [vi (2 : Int), vq, vi (1 : Int), vi (5 : Int)] 36)]) (ob := []) rfl rfl (show ∀ j ∈ Zl (ZN 3).2, j ∈ Zl (Zbu 2) from by decide +kernel) (fun gv => by kernel_rfl) Zf rfl (by decide) (by rfl) (fun _ => ⟨rr, ⟨rr, ⟨rr, ⟨rr, ⟨rr, ⟨rr, ⟨rr, ⟨rr, ⟨rr, trivial⟩⟩⟩⟩⟩⟩⟩⟩⟩) ⟨⟨rfl, ⟨[], by rfl⟩, by rfl⟩, ⟨⟨rfl, ⟨[], by rfl⟩, by rfl⟩, ⟨⟨rfl, ⟨[], by rfl⟩, by rfl⟩, ⟨⟨rfl, ⟨[], by rfl⟩, by rfl⟩, ⟨⟨rfl, ⟨[], by rfl⟩, by rfl⟩, ⟨⟨rfl, ⟨[], by rfl⟩, by rfl⟩, ⟨⟨rfl, ⟨[], by rfl⟩, by rfl⟩, ⟨⟨rfl, ⟨[], by rfl⟩, by rfl⟩, ⟨⟨rfl, ⟨[], by rfl⟩, by rfl⟩, ⟨⟨rfl, ⟨[], by rfl⟩, by rfl⟩, ⟨⟨rfl, ⟨[], by rfl⟩, by rfl⟩, ⟨⟨rfl, ⟨[], by rfl⟩, by rfl⟩, trivial⟩⟩⟩⟩⟩⟩⟩⟩⟩⟩⟩⟩

theorem Zl8  (N : Nat) : (Z5  N).Ok Tryz.prog ZG (.h2m2 : Zn) (Zae  N (.h2m2 : Zn)) := by
 show (Z5  N).Ok Tryz.prog ZG (.h2m2 : Zn) (Zft  N)
 unfold Zft
 exact Mach.ok_head (bK := ZN 3) (M := Z5  N) (cd := 1000000) (cm := 0) (y := (.h3m4 : Zn)) (fu := 4000) (orc := (Zj [] [] [] [] [])) (live := [0, 1, 2, 3, 4, 5, 6, 7, 8, 9, 10, 11, 12]) (tv := fun _ => [some (vs 0 0 1 1), some (vi (100 : Int)), some (vp 2 0), some (vp 3 0), some (vi (2 : Int)), some (vs 4 0 2 2), some (vi (2 : Int)), some (vf), some (vq)]) (bl := [some (.cells [vs 1 0 109 109] 22), some cz0, some (.cells [vn, vn, vn] 78), some (.cells [vs 5 0 1 1, vs 6 0 1 1, vs 7 0 3 3] 78), some (.cells [vq, vq] 3), some (.cells [vs 8 0 109 109] 22), some cz9, some cz2, some cz0, some (.cells [vi (1 : Int), vi (1 : Int)] 36), some cz4, some (.cells [vi (2 : Int), vq, vi (1 : Int), vi (5 : Int)] 36), some ZdK]) (ob := []) rfl rfl (show ∀ j ∈ Zl (ZN 3).2, j ∈ Zl (Zbu 2) from by decide +kernel) (fun gv => by kernel_rfl) Zf rfl (by decide) (by rfl) (fun _ => ⟨rr, ⟨rr, ⟨rr, ⟨rr, ⟨rr, ⟨rr, ⟨rr, ⟨rr, ⟨rr, trivial⟩⟩⟩⟩⟩⟩⟩⟩⟩) ⟨⟨rfl, ⟨[], by rfl⟩, by rfl⟩, ⟨⟨rfl, ⟨[], by rfl⟩, by rfl⟩, ⟨⟨rfl, ⟨[], by rfl⟩, by rfl⟩, ⟨⟨rfl, ⟨[], by rfl⟩, by rfl⟩, ⟨⟨rfl, ⟨[], by rfl⟩, by rfl⟩, ⟨⟨rfl, ⟨[], by rfl⟩, by rfl⟩, ⟨⟨rfl, ⟨[], by rfl⟩, by rfl⟩, ⟨⟨rfl, ⟨[], by rfl⟩, by rfl⟩, ⟨⟨rfl, ⟨[], by rfl⟩, by rfl⟩, ⟨⟨rfl, ⟨[], by rfl⟩, by rfl⟩, ⟨⟨rfl, ⟨[], by rfl⟩, by rfl⟩, ⟨⟨rfl, ⟨[], by rfl⟩, by rfl⟩, ⟨⟨rfl, ⟨[], by rfl⟩, by rfl⟩, trivial⟩⟩⟩⟩⟩⟩⟩⟩⟩⟩⟩⟩⟩

theorem Zl9  (N : Nat) : (Z5  N).Ok Tryz.prog ZG (.h2m3 : Zn) (Zae  N (.h2m3 : Zn)) := by
 show (Z5  N).Ok Tryz.prog ZG (.h2m3 : Zn) (Zfu  N)
 unfold Zfu
 exact Mach.ok_head (bK := ZN 3) (M := Z5  N) (cd := 1000000) (cm := 0) (y := (.h3m6 : Zn)) (fu := 4000) (orc := (Zj [] [] [] [] [])) (live := [0, 1, 2, 3, 4, 5, 6, 7, 8, 9, 10, 11, 12]) (tv := fun _ => [some (vs 0 0 1 1), some (vi (100 : Int)), some (vp 2 0), some (vp 3 0), some (vi (2 : Int)), some (vs 4 0 3 3), some (vi (3 : Int)), some (vf), some (vq)]) (bl := [some (.cells [vs 1 0 109 109] 22), some cz0, some (.cells [vn, vn, vn] 78), some (.cells [vs 5 0 1 1, vs 6 0 1 1, vs 7 0 3 3] 78), some (.cells [vq, vq, vq] 3), some (.cells [vs 8 0 109 109] 22), some cz8, some cz2, some cz0, some (.cells [vi (1 : Int), vi (1 : Int), vi (1 : Int), vi (1 : Int)] 36), some cz4, some (.cells [vi (2 : Int), vq, vi (1 : Int), vi (5 : Int)] 36), some ZdK]) (ob := []) rfl rfl (show ∀ j ∈ Zl (ZN 3).2, j ∈ Zl (Zbu 2) from by decide +kernel) (fun gv => by kernel_rfl) Zf rfl (by decide) (by rfl) (fun _ => ⟨rr, ⟨rr, ⟨rr, ⟨rr, ⟨rr, ⟨rr, ⟨rr, ⟨rr, ⟨rr, trivial⟩⟩⟩⟩⟩⟩⟩⟩⟩) ⟨⟨rfl, ⟨[], by rfl⟩, by rfl⟩, ⟨⟨rfl, ⟨[], by rfl⟩, by rfl⟩, ⟨⟨rfl, ⟨[], by rfl⟩, by rfl⟩, ⟨⟨rfl, ⟨[], by rfl⟩, by rfl⟩, ⟨⟨rfl, ⟨[], by rfl⟩, by rfl⟩, ⟨⟨rfl, ⟨[], by rfl⟩, by rfl⟩, ⟨⟨rfl, ⟨[], by rfl⟩, by rfl⟩, ⟨⟨rfl, ⟨[], by rfl⟩, by rfl⟩, ⟨⟨rfl, ⟨[], by rfl⟩, by rfl⟩, ⟨⟨rfl, ⟨[], by rfl⟩, by rfl⟩, ⟨⟨rfl, ⟨[], by rfl⟩, by rfl⟩, ⟨⟨rfl, ⟨[], by rfl⟩, by rfl⟩, ⟨⟨rfl, ⟨[], by rfl⟩, by rfl⟩, trivial⟩⟩⟩⟩⟩⟩⟩⟩⟩⟩⟩⟩⟩

end Ev
end Go.Proofs.YtnfmhpnogfppiaaGreat
