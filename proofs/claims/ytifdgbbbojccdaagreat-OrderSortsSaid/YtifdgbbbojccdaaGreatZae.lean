/- The law OrderSorts, for every input. -/
import Derived.Test.YtifdgbbbojccdaaGreatZad
import Derived.Test.YtifdgbbbojccdaaGreatZac
import Derived.StillTail
import Derived.OrdersHeld
import Derived.WideBlind
/- Calls do what the plain functions say. -/
namespace Go.Proofs.YtifdgbbbojccdaaGreat
open Go.RowKit
namespace Ev
set_option linter.unusedVariables false
set_option maxRecDepth 100000
theorem ZhR (L0 L1 : List R_iiiiiiAi) (v2 N : Nat) : (Za2 L0 L1 N).Ok Tryz.prog Zp (.h1m0 v2 : ZA) (Zcy L0 L1 N (.h1m0 v2 : ZA)) := by
 show (Za2 L0 L1 N).Ok Tryz.prog Zp (.h1m0 v2 : ZA) (Zdt L0 L1 N v2)
 unfold Zdt
 refine Mach.ok_ite (fun g0 => ?_) (fun g0 => ?_)
 ·
  refine Mach.ok_ite (fun g1 => ?_) (fun g1 => ?_)
  ·
   refine Mach.ok_bind (fun z2 c2 => ?_)
   cases z2 with
   | r0 y2_0 =>
    refine Mach.ok_ite (fun g3 => ?_) (fun g3 => ?_)
    ·
     exact Mach.ok_fin (M := Za2 L0 L1 N) (cd := 1000000) (cm := 0) (r := (.r0 (false) : ZI)) (fu := 4000) (orc := (Zm [(0, true), (1, true)] [] [(0, v2), (1, v2)] [(0, [.i (L0.getD v2 R_iiiiiiAi.z).a0, .i (L0.getD v2 R_iiiiiiAi.z).a1, .i (L0.getD v2 R_iiiiiiAi.z).a2, .i (L0.getD v2 R_iiiiiiAi.z).a3, .i (L0.getD v2 R_iiiiiiAi.z).a4, .i (L0.getD v2 R_iiiiiiAi.z).a5, (mc E_ii (L0.getD v2 R_iiiiiiAi.z).a6), .i (L0.getD v2 R_iiiiiiAi.z).a7]), (1, [.i (L1.getD v2 R_iiiiiiAi.z).a0, .i (L1.getD v2 R_iiiiiiAi.z).a1, .i (L1.getD v2 R_iiiiiiAi.z).a2, .i (L1.getD v2 R_iiiiiiAi.z).a3, .i (L1.getD v2 R_iiiiiiAi.z).a4, .i (L1.getD v2 R_iiiiiiAi.z).a5, (mc E_ii (L1.getD v2 R_iiiiiiAi.z).a6), .i (L1.getD v2 R_iiiiiiAi.z).a7])] [(0, (ZcM ((L0.getD v2 R_iiiiiiAi.z).a0) ((L0.getD v2 R_iiiiiiAi.z).a1) ((L0.getD v2 R_iiiiiiAi.z).a2) ((L0.getD v2 R_iiiiiiAi.z).a3) ((L0.getD v2 R_iiiiiiAi.z).a4) ((L0.getD v2 R_iiiiiiAi.z).a5) ((L0.getD v2 R_iiiiiiAi.z).a6) ((L0.getD v2 R_iiiiiiAi.z).a7) ((L1.getD v2 R_iiiiiiAi.z).a0) ((L1.getD v2 R_iiiiiiAi.z).a1) ((L1.getD v2 R_iiiiiiAi.z).a2) ((L1.getD v2 R_iiiiiiAi.z).a3) ((L1.getD v2 R_iiiiiiAi.z).a4) ((L1.getD v2 R_iiiiiiAi.z).a5) ((L1.getD v2 R_iiiiiiAi.z).a6) ((L1.getD v2 R_iiiiiiAi.z).a7)  y2_0  1))])) (live := [0]) (u := vf) (bl := [some (.cells (Zb E_iiiiiiAi L1) 27)]) (ob := [((!y2_0), true), (dP (Zcf #[Value.agg #[vi (L0.getD v2 R_iiiiiiAi.z).a0, vi (L0.getD v2 R_iiiiiiAi.z).a1, vi (L0.getD v2 R_iiiiiiAi.z).a2, vi (L0.getD v2 R_iiiiiiAi.z).a3, vi (L0.getD v2 R_iiiiiiAi.z).a4, vi (L0.getD v2 R_iiiiiiAi.z).a5, ms E_ii (L0.getD v2 R_iiiiiiAi.z).a6, vi (L0.getD v2 R_iiiiiiAi.z).a7], Value.agg #[vi (L1.getD v2 R_iiiiiiAi.z).a0, vi (L1.getD v2 R_iiiiiiAi.z).a1, vi (L1.getD v2 R_iiiiiiAi.z).a2, vi (L1.getD v2 R_iiiiiiAi.z).a3, vi (L1.getD v2 R_iiiiiiAi.z).a4, vi (L1.getD v2 R_iiiiiiAi.z).a5, ms E_ii (L1.getD v2 R_iiiiiiAi.z).a6, vi (L1.getD v2 R_iiiiiiAi.z).a7]] ((L0.getD v2 R_iiiiiiAi.z).a0) ((L0.getD v2 R_iiiiiiAi.z).a1) ((L0.getD v2 R_iiiiiiAi.z).a2) ((L0.getD v2 R_iiiiiiAi.z).a3) ((L0.getD v2 R_iiiiiiAi.z).a4) ((L0.getD v2 R_iiiiiiAi.z).a5) ((L0.getD v2 R_iiiiiiAi.z).a6) ((L0.getD v2 R_iiiiiiAi.z).a7) ((L1.getD v2 R_iiiiiiAi.z).a0) ((L1.getD v2 R_iiiiiiAi.z).a1) ((L1.getD v2 R_iiiiiiAi.z).a2) ((L1.getD v2 R_iiiiiiAi.z).a3) ((L1.getD v2 R_iiiiiiAi.z).a4) ((L1.getD v2 R_iiiiiiAi.z).a5) ((L1.getD v2 R_iiiiiiAi.z).a6) ((L1.getD v2 R_iiiiiiAi.z).a7)  y2_0  1), true), (Z1 (Zl 8 (List.drop (0 + (v2 * 8)) (Zb E_iiiiiiAi L1))) [.i (L1.getD v2 R_iiiiiiAi.z).a0, .i (L1.getD v2 R_iiiiiiAi.z).a1, .i (L1.getD v2 R_iiiiiiAi.z).a2, .i (L1.getD v2 R_iiiiiiAi.z).a3, .i (L1.getD v2 R_iiiiiiAi.z).a4, .i (L1.getD v2 R_iiiiiiAi.z).a5, (mc E_ii (L1.getD v2 R_iiiiiiAi.z).a6), .i (L1.getD v2 R_iiiiiiAi.z).a7], true), (Nat.blt v2 L1.length, true), ((v2 : Int) == Int.ofNat v2, true), (dP (Zao (code (ZU E_iiiiiiAi L0)) (0 + (v2 * 8)) 8 = some [.i (L0.getD v2 R_iiiiiiAi.z).a0, .i (L0.getD v2 R_iiiiiiAi.z).a1, .i (L0.getD v2 R_iiiiiiAi.z).a2, .i (L0.getD v2 R_iiiiiiAi.z).a3, .i (L0.getD v2 R_iiiiiiAi.z).a4, .i (L0.getD v2 R_iiiiiiAi.z).a5, (mc E_ii (L0.getD v2 R_iiiiiiAi.z).a6), .i (L0.getD v2 R_iiiiiiAi.z).a7]), true), (Nat.blt v2 L0.length, true), ((v2 : Int) == Int.ofNat v2, true), ((decide ((v2 : Int) < (L0.length : Int))), true)]) (fun gv => by kernel_rfl) (Za (Zjk (by first | assumption | simp_all)) <| Za (Ze (ZcN #[Value.agg #[vi (L0.getD v2 R_iiiiiiAi.z).a0, vi (L0.getD v2 R_iiiiiiAi.z).a1, vi (L0.getD v2 R_iiiiiiAi.z).a2, vi (L0.getD v2 R_iiiiiiAi.z).a3, vi (L0.getD v2 R_iiiiiiAi.z).a4, vi (L0.getD v2 R_iiiiiiAi.z).a5, ms E_ii (L0.getD v2 R_iiiiiiAi.z).a6, vi (L0.getD v2 R_iiiiiiAi.z).a7], Value.agg #[vi (L1.getD v2 R_iiiiiiAi.z).a0, vi (L1.getD v2 R_iiiiiiAi.z).a1, vi (L1.getD v2 R_iiiiiiAi.z).a2, vi (L1.getD v2 R_iiiiiiAi.z).a3, vi (L1.getD v2 R_iiiiiiAi.z).a4, vi (L1.getD v2 R_iiiiiiAi.z).a5, ms E_ii (L1.getD v2 R_iiiiiiAi.z).a6, vi (L1.getD v2 R_iiiiiiAi.z).a7]] ((L0.getD v2 R_iiiiiiAi.z).a0) ((L0.getD v2 R_iiiiiiAi.z).a1) ((L0.getD v2 R_iiiiiiAi.z).a2) ((L0.getD v2 R_iiiiiiAi.z).a3) ((L0.getD v2 R_iiiiiiAi.z).a4) ((L0.getD v2 R_iiiiiiAi.z).a5) ((L0.getD v2 R_iiiiiiAi.z).a6) ((L0.getD v2 R_iiiiiiAi.z).a7) ((L1.getD v2 R_iiiiiiAi.z).a0) ((L1.getD v2 R_iiiiiiAi.z).a1) ((L1.getD v2 R_iiiiiiAi.z).a2) ((L1.getD v2 R_iiiiiiAi.z).a3) ((L1.getD v2 R_iiiiiiAi.z).a4) ((L1.getD v2 R_iiiiiiAi.z).a5) ((L1.getD v2 R_iiiiiiAi.z).a6) ((L1.getD v2 R_iiiiiiAi.z).a7)  y2_0 N c2  1 rfl (by decide) (by decide))) <| Za (Zo (E := E_iiiiiiAi) (L := L1) (i := v2) (q := 0) (by omega) (show (0 + (v2 * 8)) = v2 * 8 + 0 from by omega) (show 0 + 8 ≤ 8 from by decide) rfl rfl) <| oB <| oI <| Za (Ze (ZcE (E := E_iiiiiiAi) (L := L0) (i := v2) (q := 0) (by omega) (show (0 + (v2 * 8)) = v2 * 8 + 0 from by omega) (show 0 + 8 ≤ 8 from by decide) rfl)) <| oB <| oI <| oY Zf) rfl (by decide) (by rfl) rr ⟨(Zi (E := E_iiiiiiAi) (α := R_iiiiiiAi) _ L1 _), trivial⟩
    ·
     refine Mach.ok_ite (fun g4 => ?_) (fun g4 => ?_)
     ·
      exact Mach.ok_next (M := Za2 L0 L1 N) (cd := 1000000) (cm := 0) (y := (.h1m0 ((v2 + 1)) : ZA)) (fu := 4000) (orc := (Zm [(0, true), (1, false)] [(0, (((v2 + 1) : Nat) : Int))] [(0, v2), (1, v2)] [(0, [.i (L0.getD v2 R_iiiiiiAi.z).a0, .i (L0.getD v2 R_iiiiiiAi.z).a1, .i (L0.getD v2 R_iiiiiiAi.z).a2, .i (L0.getD v2 R_iiiiiiAi.z).a3, .i (L0.getD v2 R_iiiiiiAi.z).a4, .i (L0.getD v2 R_iiiiiiAi.z).a5, (mc E_ii (L0.getD v2 R_iiiiiiAi.z).a6), .i (L0.getD v2 R_iiiiiiAi.z).a7]), (1, [.i (L1.getD v2 R_iiiiiiAi.z).a0, .i (L1.getD v2 R_iiiiiiAi.z).a1, .i (L1.getD v2 R_iiiiiiAi.z).a2, .i (L1.getD v2 R_iiiiiiAi.z).a3, .i (L1.getD v2 R_iiiiiiAi.z).a4, .i (L1.getD v2 R_iiiiiiAi.z).a5, (mc E_ii (L1.getD v2 R_iiiiiiAi.z).a6), .i (L1.getD v2 R_iiiiiiAi.z).a7])] [(0, (ZcM ((L0.getD v2 R_iiiiiiAi.z).a0) ((L0.getD v2 R_iiiiiiAi.z).a1) ((L0.getD v2 R_iiiiiiAi.z).a2) ((L0.getD v2 R_iiiiiiAi.z).a3) ((L0.getD v2 R_iiiiiiAi.z).a4) ((L0.getD v2 R_iiiiiiAi.z).a5) ((L0.getD v2 R_iiiiiiAi.z).a6) ((L0.getD v2 R_iiiiiiAi.z).a7) ((L1.getD v2 R_iiiiiiAi.z).a0) ((L1.getD v2 R_iiiiiiAi.z).a1) ((L1.getD v2 R_iiiiiiAi.z).a2) ((L1.getD v2 R_iiiiiiAi.z).a3) ((L1.getD v2 R_iiiiiiAi.z).a4) ((L1.getD v2 R_iiiiiiAi.z).a5) ((L1.getD v2 R_iiiiiiAi.z).a6) ((L1.getD v2 R_iiiiiiAi.z).a7)  y2_0  1))])) (live := [0]) (tv := fun _ => [some (ms E_iiiiiiAi L0), some (vs 0 0 L1.length L1.length), some (vi (((v2 + 1) : Nat) : Int))]) (bl := [some (.cells (Zb E_iiiiiiAi L1) 27)]) (ob := [((IntKind.i64.wrap ((v2 : Int) + (1 : Int))) == (((v2 + 1) : Nat) : Int), true), ((!y2_0), false), (dP (Zcf #[Value.agg #[vi (L0.getD v2 R_iiiiiiAi.z).a0, vi (L0.getD v2 R_iiiiiiAi.z).a1, vi (L0.getD v2 R_iiiiiiAi.z).a2, vi (L0.getD v2 R_iiiiiiAi.z).a3, vi (L0.getD v2 R_iiiiiiAi.z).a4, vi (L0.getD v2 R_iiiiiiAi.z).a5, ms E_ii (L0.getD v2 R_iiiiiiAi.z).a6, vi (L0.getD v2 R_iiiiiiAi.z).a7], Value.agg #[vi (L1.getD v2 R_iiiiiiAi.z).a0, vi (L1.getD v2 R_iiiiiiAi.z).a1, vi (L1.getD v2 R_iiiiiiAi.z).a2, vi (L1.getD v2 R_iiiiiiAi.z).a3, vi (L1.getD v2 R_iiiiiiAi.z).a4, vi (L1.getD v2 R_iiiiiiAi.z).a5, ms E_ii (L1.getD v2 R_iiiiiiAi.z).a6, vi (L1.getD v2 R_iiiiiiAi.z).a7]] ((L0.getD v2 R_iiiiiiAi.z).a0) ((L0.getD v2 R_iiiiiiAi.z).a1) ((L0.getD v2 R_iiiiiiAi.z).a2) ((L0.getD v2 R_iiiiiiAi.z).a3) ((L0.getD v2 R_iiiiiiAi.z).a4) ((L0.getD v2 R_iiiiiiAi.z).a5) ((L0.getD v2 R_iiiiiiAi.z).a6) ((L0.getD v2 R_iiiiiiAi.z).a7) ((L1.getD v2 R_iiiiiiAi.z).a0) ((L1.getD v2 R_iiiiiiAi.z).a1) ((L1.getD v2 R_iiiiiiAi.z).a2) ((L1.getD v2 R_iiiiiiAi.z).a3) ((L1.getD v2 R_iiiiiiAi.z).a4) ((L1.getD v2 R_iiiiiiAi.z).a5) ((L1.getD v2 R_iiiiiiAi.z).a6) ((L1.getD v2 R_iiiiiiAi.z).a7)  y2_0  1), true), (Z1 (Zl 8 (List.drop (0 + (v2 * 8)) (Zb E_iiiiiiAi L1))) [.i (L1.getD v2 R_iiiiiiAi.z).a0, .i (L1.getD v2 R_iiiiiiAi.z).a1, .i (L1.getD v2 R_iiiiiiAi.z).a2, .i (L1.getD v2 R_iiiiiiAi.z).a3, .i (L1.getD v2 R_iiiiiiAi.z).a4, .i (L1.getD v2 R_iiiiiiAi.z).a5, (mc E_ii (L1.getD v2 R_iiiiiiAi.z).a6), .i (L1.getD v2 R_iiiiiiAi.z).a7], true), (Nat.blt v2 L1.length, true), ((v2 : Int) == Int.ofNat v2, true), (dP (Zao (code (ZU E_iiiiiiAi L0)) (0 + (v2 * 8)) 8 = some [.i (L0.getD v2 R_iiiiiiAi.z).a0, .i (L0.getD v2 R_iiiiiiAi.z).a1, .i (L0.getD v2 R_iiiiiiAi.z).a2, .i (L0.getD v2 R_iiiiiiAi.z).a3, .i (L0.getD v2 R_iiiiiiAi.z).a4, .i (L0.getD v2 R_iiiiiiAi.z).a5, (mc E_ii (L0.getD v2 R_iiiiiiAi.z).a6), .i (L0.getD v2 R_iiiiiiAi.z).a7]), true), (Nat.blt v2 L0.length, true), ((v2 : Int) == Int.ofNat v2, true), ((decide ((v2 : Int) < (L0.length : Int))), true)]) rfl (show 1 ∈ Zv (ZkI 1) from by decide +kernel) (fun gv => by kernel_rfl) (Za (beq_iff_eq.2 ((wrap_i64 ltA).trans (by first | rfl | omega))) <| Za (ZhG (by first | assumption | exact Decidable.not_not.1 (by assumption) | simp_all)) <| Za (Ze (ZcN #[Value.agg #[vi (L0.getD v2 R_iiiiiiAi.z).a0, vi (L0.getD v2 R_iiiiiiAi.z).a1, vi (L0.getD v2 R_iiiiiiAi.z).a2, vi (L0.getD v2 R_iiiiiiAi.z).a3, vi (L0.getD v2 R_iiiiiiAi.z).a4, vi (L0.getD v2 R_iiiiiiAi.z).a5, ms E_ii (L0.getD v2 R_iiiiiiAi.z).a6, vi (L0.getD v2 R_iiiiiiAi.z).a7], Value.agg #[vi (L1.getD v2 R_iiiiiiAi.z).a0, vi (L1.getD v2 R_iiiiiiAi.z).a1, vi (L1.getD v2 R_iiiiiiAi.z).a2, vi (L1.getD v2 R_iiiiiiAi.z).a3, vi (L1.getD v2 R_iiiiiiAi.z).a4, vi (L1.getD v2 R_iiiiiiAi.z).a5, ms E_ii (L1.getD v2 R_iiiiiiAi.z).a6, vi (L1.getD v2 R_iiiiiiAi.z).a7]] ((L0.getD v2 R_iiiiiiAi.z).a0) ((L0.getD v2 R_iiiiiiAi.z).a1) ((L0.getD v2 R_iiiiiiAi.z).a2) ((L0.getD v2 R_iiiiiiAi.z).a3) ((L0.getD v2 R_iiiiiiAi.z).a4) ((L0.getD v2 R_iiiiiiAi.z).a5) ((L0.getD v2 R_iiiiiiAi.z).a6) ((L0.getD v2 R_iiiiiiAi.z).a7) ((L1.getD v2 R_iiiiiiAi.z).a0) ((L1.getD v2 R_iiiiiiAi.z).a1) ((L1.getD v2 R_iiiiiiAi.z).a2) ((L1.getD v2 R_iiiiiiAi.z).a3) ((L1.getD v2 R_iiiiiiAi.z).a4) ((L1.getD v2 R_iiiiiiAi.z).a5) ((L1.getD v2 R_iiiiiiAi.z).a6) ((L1.getD v2 R_iiiiiiAi.z).a7)  y2_0 N c2  1 rfl (by decide) (by decide))) <| Za (Zo (E := E_iiiiiiAi) (L := L1) (i := v2) (q := 0) (by omega) (show (0 + (v2 * 8)) = v2 * 8 + 0 from by omega) (show 0 + 8 ≤ 8 from by decide) rfl rfl) <| oB <| oI <| Za (Ze (ZcE (E := E_iiiiiiAi) (L := L0) (i := v2) (q := 0) (by omega) (show (0 + (v2 * 8)) = v2 * 8 + 0 from by omega) (show 0 + 8 ≤ 8 from by decide) rfl)) <| oB <| oI <| oY Zf) rfl (by decide) (by rfl) (fun _ => ⟨rr, ⟨rr, ⟨rr, trivial⟩⟩⟩) ⟨(Zi (E := E_iiiiiiAi) (α := R_iiiiiiAi) _ L1 _), trivial⟩
     ·
      exact Mach.ok_none
  ·
   exact Mach.ok_none
 ·
  exact Mach.ok_fin (M := Za2 L0 L1 N) (cd := 1000000) (cm := 0) (r := (.r0 (true) : ZI)) (fu := 4000) (orc := (Zm [(0, false)] [] [] [] [])) (live := [0]) (u := vT) (bl := [some (.cells (Zb E_iiiiiiAi L1) 27)]) (ob := [((decide ((v2 : Int) < (L0.length : Int))), false)]) (fun gv => by kernel_rfl) (oN Zf) rfl (by decide) (by rfl) rr ⟨(Zi (E := E_iiiiiiAi) (α := R_iiiiiiAi) _ L1 _), trivial⟩

theorem Zj4 (L0 L1 : List R_iiiiiiAi) (N : Nat) : (Za2 L0 L1 N).Enter Tryz.prog Zp #[ms E_iiiiiiAi L0, vs 0 0 L1.length L1.length] (Zep L0 L1 N) := by
 unfold Zep
 refine Mach.en_ite (fun g0 => ?_) (fun g0 => ?_)
 ·
  exact Mach.en_fin (M := Za2 L0 L1 N) (cd := 1000000) (cm := 0) (r := (.r0 (false) : ZI)) (fu := 4000) (orc := (Zm [(0, true)] [] [] [] [])) (live := [0]) (u := vf) (bl := [some (.cells (Zb E_iiiiiiAi L1) 27)]) (ob := [(((L0.length : Int) != (L1.length : Int)), true)]) (by kernel_rfl) (oD Zf) rfl (by decide) (by rfl) rr ⟨(Zi (E := E_iiiiiiAi) (α := R_iiiiiiAi) _ L1 _), trivial⟩
 ·
  exact Mach.en_head (bK := ZbR 1) (M := Za2 L0 L1 N) (cd := 1000000) (cm := 0) (y := (.h1m0 (0) : ZA)) (fu := 4000) (orc := (Zm [(0, false)] [] [] [] [])) (live := [0]) (tv := [some (ms E_iiiiiiAi L0), some (vs 0 0 L1.length L1.length), some (vq)]) (bl := [some (.cells (Zb E_iiiiiiAi L1) 27)]) (ob := [(((L0.length : Int) != (L1.length : Int)), false)]) rfl rfl (show Zv (ZbR 1).2 = [] from rfl) (by kernel_rfl) (oE Zf) rfl (by decide) (by rfl) ⟨rr, ⟨rr, ⟨⟨Eq.trans (show (vi ((0 : Nat) : Int) : Value) = vq from (congrArg (Value.int .i64) (by first | rfl | omega))) (by rfl), by rfl⟩, trivial⟩⟩⟩ ⟨(Zi (E := E_iiiiiiAi) (α := R_iiiiiiAi) _ L1 _), trivial⟩

theorem Ziv (L0 L1 : List R_iiiiiiAi) (N : Nat) (r : ZI) (h : Zfn L0 L1 N = some r) : LSpec Tryz.prog 8 #[ms E_iiiiiiAi L0, vs 0 0 L1.length L1.length] [.cells (Zb E_iiiiiiAi L1) 27] (ZgW L0 L1 r) (Zgf L0 L1 r) :=
 Mach.spec ZbX (Za2 L0 L1 N) Tryz.func8 (by kernel_rfl) (by kernel_rfl) (fun x => by cases x <;> exact Zad _ rfl) (fun r => by cases r <;> exact Zad _ rfl) (fun x => by
  cases x with
  | h1m0 _ => exact fun _ => (show ¬ (1 ∈ Zv (ZbR 1).2) from by decide +kernel)
  ) (fun x => (show (Za2 L0 L1 N).Ok Tryz.prog Zp x (Zcy L0 L1 N x) from by
  cases x with
  | h1m0 v2 => exact ZhR L0 L1 v2 N
  )) (Zj4 L0 L1 N) (n := N) h

noncomputable def Zex (L0 L1 : List R_iiiiiiAi) (w1 : Bool) (k0 n : Nat) : Zbh := .call [(k0, .cells (Zb E_iiiiiiAi L1) 27)] (Value.bool w1) [] 0
def ZcO (A : Array Value) (L0 L1 : List R_iiiiiiAi) (w1 : Bool) (k0 n : Nat) : Prop := Z3 Tryz.prog 8 A [(k0, .cells (Zb E_iiiiiiAi L1) 27)] (Value.bool w1) [] n 0

theorem Zey (A : Array Value) (L0 L1 : List R_iiiiiiAi) (w1 : Bool) (N : Nat) (h : Zfn L0 L1 N = some (.r0 w1)) (k0 n : Nat) (hA : A = #[ms E_iiiiiiAi L0, vs k0 0 L1.length L1.length]) (hnd : ([k0] : List Nat).Nodup) (hlt : ∀ k ∈ ([k0] : List Nat), k < n) : ZcO A L0 L1 w1 k0 n :=
 Zal hA (LSpec.callL (show LSpec Tryz.prog 8 #[ms E_iiiiiiAi L0, vs 0 0 L1.length L1.length] [.cells (Zb E_iiiiiiAi L1) 27] (Value.bool w1) [some (.cells (Zb E_iiiiiiAi L1) 27)] from Ziv L0 L1 N _ h) [k0] n [] rfl hnd hlt (show 1 ≤ 1 from by decide) (show ∀ j ∈ ([] : List Nat), j < 1 from by decide) (by rfl) ⟨(Zy _ _ _), trivial⟩ (by rfl) ⟨(Zy _ _ _), trivial⟩ ⟨.inr rfl, trivial⟩ rfl rfl rfl (ZaS (ZaT rfl (Za9 _ _ _)) rfl) rfl)

noncomputable def ZgX (L0 : List R_iiiiiiAi) (n1 : Nat) : Zaa → Value
 | .r0 w1 => Value.bool w1
noncomputable def Zgh (L0 : List R_iiiiiiAi) (n1 : Nat) : Zaa → List (Option AObj)
 | .r0 w1 => [some (.cells (Zb E_iiiiiiAi L0) 27)]

def ZjU : ZS → Nat
 | .h1m0 => 1
noncomputable def ZkJ (L0 : List R_iiiiiiAi) (n1 : Nat) : ZS → List (Nat × Value)
 | .h1m0 => [(0, vs 0 0 n1 n1), (1, vn), (5, vq)]
noncomputable def ZkK (L0 : List R_iiiiiiAi) (n1 : Nat) : ZS → List (Option AObj)
 | .h1m0 => [some (.cells (Zb E_iiiiiiAi L0) 27)]

noncomputable def Zd2 : Nat → Code × List Zap
 | 1 => ZaU [1, 1, 0, 1, 3] (ZbW Tryz.f8) []
 | _ => (.skip, [])
def ZjV : Nat → Bool
 | 1 => true
 | _ => true
noncomputable def ZaW (L0 : List R_iiiiiiAi) (n1 N : Nat) : Mach := ⟨Tryz.f8, [.cells (Zb E_iiiiiiAi L0) 27], ZS, Zaa, Zcz L0 n1 N, ZjU, Zd2, ZjV, ZkJ L0 n1, ZkK L0 n1, ZgX L0 n1, Zgh L0 n1⟩

theorem ZhS (L0 : List R_iiiiiiAi) (n1 N : Nat) : (ZaW L0 n1 N).Ok Tryz.prog Zp (.h1m0 : ZS) (Zcz L0 n1 N (.h1m0 : ZS)) := by
 show (ZaW L0 n1 N).Ok Tryz.prog Zp (.h1m0 : ZS) (Zdu L0 n1 N)
 unfold Zdu
 refine Mach.ok_ite (fun g0 => ?_) (fun g0 => ?_)
 ·
  exact Mach.ok_none
 ·
  exact Mach.ok_fin (M := ZaW L0 n1 N) (cd := 1000000) (cm := 0) (r := (.r0 (true) : Zaa)) (fu := 4000) (orc := (Zm [(0, false)] [] [] [] [])) (live := [0]) (u := vT) (bl := [some (.cells (Zb E_iiiiiiAi L0) 27)]) (ob := [((decide ((0 : Int) < (n1 : Int))), false)]) (fun gv => by kernel_rfl) (oN Zf) rfl (by decide) (by rfl) rr ⟨(Zi (E := E_iiiiiiAi) (α := R_iiiiiiAi) _ L0 _), trivial⟩

theorem Zj5 (L0 : List R_iiiiiiAi) (n1 N : Nat) : (ZaW L0 n1 N).Enter Tryz.prog Zp #[vs 0 0 n1 n1, vn] (Zeq L0 n1 N) := by
 unfold Zeq
 refine Mach.en_ite (fun g0 => ?_) (fun g0 => ?_)
 ·
  exact Mach.en_fin (M := ZaW L0 n1 N) (cd := 1000000) (cm := 0) (r := (.r0 (false) : Zaa)) (fu := 4000) (orc := (Zm [(0, true)] [] [] [] [])) (live := [0]) (u := vf) (bl := [some (.cells (Zb E_iiiiiiAi L0) 27)]) (ob := [(((n1 : Int) != (0 : Int)), true)]) (by kernel_rfl) (oD Zf) rfl (by decide) (by rfl) rr ⟨(Zi (E := E_iiiiiiAi) (α := R_iiiiiiAi) _ L0 _), trivial⟩
 ·
  exact Mach.en_head (bK := Zd2 1) (M := ZaW L0 n1 N) (cd := 1000000) (cm := 0) (y := (.h1m0 : ZS)) (fu := 4000) (orc := (Zm [(0, false)] [] [] [] [])) (live := [0]) (tv := [some (vs 0 0 n1 n1), some (vn), some (vq)]) (bl := [some (.cells (Zb E_iiiiiiAi L0) 27)]) (ob := [(((n1 : Int) != (0 : Int)), false)]) rfl rfl (show Zv (Zd2 1).2 = [] from rfl) (by kernel_rfl) (oE Zf) rfl (by decide) (by rfl) ⟨rr, ⟨rr, ⟨rr, trivial⟩⟩⟩ ⟨(Zi (E := E_iiiiiiAi) (α := R_iiiiiiAi) _ L0 _), trivial⟩

theorem Ziw (L0 : List R_iiiiiiAi) (n1 N : Nat) (r : Zaa) (h : Zfo L0 n1 N = some r) : LSpec Tryz.prog 8 #[vs 0 0 n1 n1, vn] [.cells (Zb E_iiiiiiAi L0) 27] (ZgX L0 n1 r) (Zgh L0 n1 r) :=
 Mach.spec ZbX (ZaW L0 n1 N) Tryz.func8 (by kernel_rfl) (by kernel_rfl) (fun x => by cases x <;> exact Zad _ rfl) (fun r => by cases r <;> exact Zad _ rfl) (fun x => by
  cases x with
  | h1m0 => exact fun _ => (show ¬ (1 ∈ Zv (Zd2 1).2) from by decide +kernel)
  ) (fun x => (show (ZaW L0 n1 N).Ok Tryz.prog Zp x (Zcz L0 n1 N x) from by
  cases x with
  | h1m0 => exact ZhS L0 n1 N
  )) (Zj5 L0 n1 N) (n := N) h

noncomputable def ZcP (L0 : List R_iiiiiiAi) (n1 : Nat) (w1 : Bool) (k0 n : Nat) : Zbh := .call [(k0, .cells (Zb E_iiiiiiAi L0) 27)] (Value.bool w1) [] 0
def Zcg (A : Array Value) (L0 : List R_iiiiiiAi) (n1 : Nat) (w1 : Bool) (k0 n : Nat) : Prop := Z3 Tryz.prog 8 A [(k0, .cells (Zb E_iiiiiiAi L0) 27)] (Value.bool w1) [] n 0

theorem ZcQ (A : Array Value) (L0 : List R_iiiiiiAi) (n1 : Nat) (w1 : Bool) (N : Nat) (h : Zfo L0 n1 N = some (.r0 w1)) (k0 n : Nat) (hA : A = #[vs k0 0 n1 n1, vn]) (hnd : ([k0] : List Nat).Nodup) (hlt : ∀ k ∈ ([k0] : List Nat), k < n) : Zcg A L0 n1 w1 k0 n :=
 Zal hA (LSpec.callL (show LSpec Tryz.prog 8 #[vs 0 0 n1 n1, vn] [.cells (Zb E_iiiiiiAi L0) 27] (Value.bool w1) [some (.cells (Zb E_iiiiiiAi L0) 27)] from Ziw L0 n1 N _ h) [k0] n [] rfl hnd hlt (show 1 ≤ 1 from by decide) (show ∀ j ∈ ([] : List Nat), j < 1 from by decide) (by rfl) ⟨(Zy _ _ _), trivial⟩ (by rfl) ⟨(Zy _ _ _), trivial⟩ ⟨.inr rfl, trivial⟩ rfl rfl rfl (ZaS (ZaT rfl (Za9 _ _ _)) rfl) rfl)

noncomputable def ZgY (L0 : List R_iiiiiiAi) (n1 : Nat) (L2 : List R_iiiiiiAi) : ZJ → Value
 | .r0 w2 => Value.bool w2
noncomputable def Zgi (L0 : List R_iiiiiiAi) (n1 : Nat) (L2 : List R_iiiiiiAi) : ZJ → List (Option AObj)
 | .r0 w2 => [some (.cells (Zb E_iiiiiiAi L0) 27), some (.cells (Zb E_iiiiiiAi L2) 27)]

def ZjW : ZB → Nat
 | .h1m0 v3 => 1
noncomputable def ZkL (L0 : List R_iiiiiiAi) (n1 : Nat) (L2 : List R_iiiiiiAi) : ZB → List (Nat × Value)
 | .h1m0 v3 => [(0, vs 0 0 n1 n1), (1, vs 1 0 L2.length L2.length), (5, vi (v3 : Int))]
noncomputable def ZkM (L0 : List R_iiiiiiAi) (n1 : Nat) (L2 : List R_iiiiiiAi) : ZB → List (Option AObj)
 | .h1m0 v3 => [some (.cells (Zb E_iiiiiiAi L0) 27), some (.cells (Zb E_iiiiiiAi L2) 27)]

noncomputable def ZbS : Nat → Code × List Zap
 | 1 => ZaU [1, 1, 0, 1, 3] (ZbW Tryz.f8) []
 | _ => (.skip, [])
def Zgj : Nat → Bool
 | 1 => true
 | _ => true
noncomputable def ZkN (i : Nat) : List Zap := match Zgj i with | true => .rnd i :: (ZbS i).2 | false => (ZbS i).2

noncomputable def Za3 (L0 : List R_iiiiiiAi) (n1 : Nat) (L2 : List R_iiiiiiAi) (N : Nat) : Mach := ⟨Tryz.f8, [.cells (Zb E_iiiiiiAi L0) 27, .cells (Zb E_iiiiiiAi L2) 27], ZB, ZJ, ZbG L0 n1 L2 N, ZjW, ZbS, Zgj, ZkL L0 n1 L2, ZkM L0 n1 L2, ZgY L0 n1 L2, Zgi L0 n1 L2⟩

theorem ZhT (L0 : List R_iiiiiiAi) (n1 : Nat) (L2 : List R_iiiiiiAi) (v3 N : Nat) : (Za3 L0 n1 L2 N).Ok Tryz.prog Zp (.h1m0 v3 : ZB) (ZbG L0 n1 L2 N (.h1m0 v3 : ZB)) := by
 show (Za3 L0 n1 L2 N).Ok Tryz.prog Zp (.h1m0 v3 : ZB) (ZaH L0 n1 L2 N v3)
 unfold ZaH
 refine Mach.ok_ite (fun g0 => ?_) (fun g0 => ?_)
 ·
  refine Mach.ok_ite (fun g1 => ?_) (fun g1 => ?_)
  ·
   refine Mach.ok_ite (fun g2 => ?_) (fun g2 => ?_)
   ·
    refine Mach.ok_bind (fun z3 c3 => ?_)
    cases z3 with
    | r0 y3_0 =>
     refine Mach.ok_ite (fun g4 => ?_) (fun g4 => ?_)
     ·
      exact Mach.ok_fin (M := Za3 L0 n1 L2 N) (cd := 1000000) (cm := 0) (r := (.r0 (false) : ZJ)) (fu := 4000) (orc := (Zm [(0, true), (1, true)] [] [(0, v3), (1, v3)] [(0, [.i (L0.getD v3 R_iiiiiiAi.z).a0, .i (L0.getD v3 R_iiiiiiAi.z).a1, .i (L0.getD v3 R_iiiiiiAi.z).a2, .i (L0.getD v3 R_iiiiiiAi.z).a3, .i (L0.getD v3 R_iiiiiiAi.z).a4, .i (L0.getD v3 R_iiiiiiAi.z).a5, (mc E_ii (L0.getD v3 R_iiiiiiAi.z).a6), .i (L0.getD v3 R_iiiiiiAi.z).a7]), (1, [.i (L2.getD v3 R_iiiiiiAi.z).a0, .i (L2.getD v3 R_iiiiiiAi.z).a1, .i (L2.getD v3 R_iiiiiiAi.z).a2, .i (L2.getD v3 R_iiiiiiAi.z).a3, .i (L2.getD v3 R_iiiiiiAi.z).a4, .i (L2.getD v3 R_iiiiiiAi.z).a5, (mc E_ii (L2.getD v3 R_iiiiiiAi.z).a6), .i (L2.getD v3 R_iiiiiiAi.z).a7])] [(0, (ZcM ((L0.getD v3 R_iiiiiiAi.z).a0) ((L0.getD v3 R_iiiiiiAi.z).a1) ((L0.getD v3 R_iiiiiiAi.z).a2) ((L0.getD v3 R_iiiiiiAi.z).a3) ((L0.getD v3 R_iiiiiiAi.z).a4) ((L0.getD v3 R_iiiiiiAi.z).a5) ((L0.getD v3 R_iiiiiiAi.z).a6) ((L0.getD v3 R_iiiiiiAi.z).a7) ((L2.getD v3 R_iiiiiiAi.z).a0) ((L2.getD v3 R_iiiiiiAi.z).a1) ((L2.getD v3 R_iiiiiiAi.z).a2) ((L2.getD v3 R_iiiiiiAi.z).a3) ((L2.getD v3 R_iiiiiiAi.z).a4) ((L2.getD v3 R_iiiiiiAi.z).a5) ((L2.getD v3 R_iiiiiiAi.z).a6) ((L2.getD v3 R_iiiiiiAi.z).a7)  y3_0  2))])) (live := [0, 1]) (u := vf) (bl := [some (.cells (Zb E_iiiiiiAi L0) 27), some (.cells (Zb E_iiiiiiAi L2) 27)]) (ob := [((!y3_0), true), (dP (Zcf #[Value.agg #[vi (L0.getD v3 R_iiiiiiAi.z).a0, vi (L0.getD v3 R_iiiiiiAi.z).a1, vi (L0.getD v3 R_iiiiiiAi.z).a2, vi (L0.getD v3 R_iiiiiiAi.z).a3, vi (L0.getD v3 R_iiiiiiAi.z).a4, vi (L0.getD v3 R_iiiiiiAi.z).a5, ms E_ii (L0.getD v3 R_iiiiiiAi.z).a6, vi (L0.getD v3 R_iiiiiiAi.z).a7], Value.agg #[vi (L2.getD v3 R_iiiiiiAi.z).a0, vi (L2.getD v3 R_iiiiiiAi.z).a1, vi (L2.getD v3 R_iiiiiiAi.z).a2, vi (L2.getD v3 R_iiiiiiAi.z).a3, vi (L2.getD v3 R_iiiiiiAi.z).a4, vi (L2.getD v3 R_iiiiiiAi.z).a5, ms E_ii (L2.getD v3 R_iiiiiiAi.z).a6, vi (L2.getD v3 R_iiiiiiAi.z).a7]] ((L0.getD v3 R_iiiiiiAi.z).a0) ((L0.getD v3 R_iiiiiiAi.z).a1) ((L0.getD v3 R_iiiiiiAi.z).a2) ((L0.getD v3 R_iiiiiiAi.z).a3) ((L0.getD v3 R_iiiiiiAi.z).a4) ((L0.getD v3 R_iiiiiiAi.z).a5) ((L0.getD v3 R_iiiiiiAi.z).a6) ((L0.getD v3 R_iiiiiiAi.z).a7) ((L2.getD v3 R_iiiiiiAi.z).a0) ((L2.getD v3 R_iiiiiiAi.z).a1) ((L2.getD v3 R_iiiiiiAi.z).a2) ((L2.getD v3 R_iiiiiiAi.z).a3) ((L2.getD v3 R_iiiiiiAi.z).a4) ((L2.getD v3 R_iiiiiiAi.z).a5) ((L2.getD v3 R_iiiiiiAi.z).a6) ((L2.getD v3 R_iiiiiiAi.z).a7)  y3_0  2), true), (Z1 (Zl 8 (List.drop (0 + (v3 * 8)) (Zb E_iiiiiiAi L2))) [.i (L2.getD v3 R_iiiiiiAi.z).a0, .i (L2.getD v3 R_iiiiiiAi.z).a1, .i (L2.getD v3 R_iiiiiiAi.z).a2, .i (L2.getD v3 R_iiiiiiAi.z).a3, .i (L2.getD v3 R_iiiiiiAi.z).a4, .i (L2.getD v3 R_iiiiiiAi.z).a5, (mc E_ii (L2.getD v3 R_iiiiiiAi.z).a6), .i (L2.getD v3 R_iiiiiiAi.z).a7], true), (Nat.blt v3 L2.length, true), ((v3 : Int) == Int.ofNat v3, true), (Z1 (Zl 8 (List.drop (0 + (v3 * 8)) (Zb E_iiiiiiAi L0))) [.i (L0.getD v3 R_iiiiiiAi.z).a0, .i (L0.getD v3 R_iiiiiiAi.z).a1, .i (L0.getD v3 R_iiiiiiAi.z).a2, .i (L0.getD v3 R_iiiiiiAi.z).a3, .i (L0.getD v3 R_iiiiiiAi.z).a4, .i (L0.getD v3 R_iiiiiiAi.z).a5, (mc E_ii (L0.getD v3 R_iiiiiiAi.z).a6), .i (L0.getD v3 R_iiiiiiAi.z).a7], true), (Nat.blt v3 n1, true), ((v3 : Int) == Int.ofNat v3, true), ((decide ((v3 : Int) < (n1 : Int))), true)]) (fun gv => by kernel_rfl) (Za (Zjk (by first | assumption | simp_all)) <| Za (Ze (ZcN #[Value.agg #[vi (L0.getD v3 R_iiiiiiAi.z).a0, vi (L0.getD v3 R_iiiiiiAi.z).a1, vi (L0.getD v3 R_iiiiiiAi.z).a2, vi (L0.getD v3 R_iiiiiiAi.z).a3, vi (L0.getD v3 R_iiiiiiAi.z).a4, vi (L0.getD v3 R_iiiiiiAi.z).a5, ms E_ii (L0.getD v3 R_iiiiiiAi.z).a6, vi (L0.getD v3 R_iiiiiiAi.z).a7], Value.agg #[vi (L2.getD v3 R_iiiiiiAi.z).a0, vi (L2.getD v3 R_iiiiiiAi.z).a1, vi (L2.getD v3 R_iiiiiiAi.z).a2, vi (L2.getD v3 R_iiiiiiAi.z).a3, vi (L2.getD v3 R_iiiiiiAi.z).a4, vi (L2.getD v3 R_iiiiiiAi.z).a5, ms E_ii (L2.getD v3 R_iiiiiiAi.z).a6, vi (L2.getD v3 R_iiiiiiAi.z).a7]] ((L0.getD v3 R_iiiiiiAi.z).a0) ((L0.getD v3 R_iiiiiiAi.z).a1) ((L0.getD v3 R_iiiiiiAi.z).a2) ((L0.getD v3 R_iiiiiiAi.z).a3) ((L0.getD v3 R_iiiiiiAi.z).a4) ((L0.getD v3 R_iiiiiiAi.z).a5) ((L0.getD v3 R_iiiiiiAi.z).a6) ((L0.getD v3 R_iiiiiiAi.z).a7) ((L2.getD v3 R_iiiiiiAi.z).a0) ((L2.getD v3 R_iiiiiiAi.z).a1) ((L2.getD v3 R_iiiiiiAi.z).a2) ((L2.getD v3 R_iiiiiiAi.z).a3) ((L2.getD v3 R_iiiiiiAi.z).a4) ((L2.getD v3 R_iiiiiiAi.z).a5) ((L2.getD v3 R_iiiiiiAi.z).a6) ((L2.getD v3 R_iiiiiiAi.z).a7)  y3_0 N c3  2 rfl (by decide) (by decide))) <| Za (Zo (E := E_iiiiiiAi) (L := L2) (i := v3) (q := 0) (by omega) (show (0 + (v3 * 8)) = v3 * 8 + 0 from by omega) (show 0 + 8 ≤ 8 from by decide) rfl rfl) <| oB <| oI <| Za (Zo (E := E_iiiiiiAi) (L := L0) (i := v3) (q := 0) (by omega) (show (0 + (v3 * 8)) = v3 * 8 + 0 from by omega) (show 0 + 8 ≤ 8 from by decide) rfl rfl) <| oB <| oI <| oY Zf) rfl (by decide) (by rfl) rr ⟨(Zi (E := E_iiiiiiAi) (α := R_iiiiiiAi) _ L0 _), ⟨(Zi (E := E_iiiiiiAi) (α := R_iiiiiiAi) _ L2 _), trivial⟩⟩
     ·
      refine Mach.ok_ite (fun g5 => ?_) (fun g5 => ?_)
      ·
       exact Mach.ok_next (M := Za3 L0 n1 L2 N) (cd := 1000000) (cm := 0) (y := (.h1m0 ((v3 + 1)) : ZB)) (fu := 4000) (orc := (Zm [(0, true), (1, false)] [(0, (((v3 + 1) : Nat) : Int))] [(0, v3), (1, v3)] [(0, [.i (L0.getD v3 R_iiiiiiAi.z).a0, .i (L0.getD v3 R_iiiiiiAi.z).a1, .i (L0.getD v3 R_iiiiiiAi.z).a2, .i (L0.getD v3 R_iiiiiiAi.z).a3, .i (L0.getD v3 R_iiiiiiAi.z).a4, .i (L0.getD v3 R_iiiiiiAi.z).a5, (mc E_ii (L0.getD v3 R_iiiiiiAi.z).a6), .i (L0.getD v3 R_iiiiiiAi.z).a7]), (1, [.i (L2.getD v3 R_iiiiiiAi.z).a0, .i (L2.getD v3 R_iiiiiiAi.z).a1, .i (L2.getD v3 R_iiiiiiAi.z).a2, .i (L2.getD v3 R_iiiiiiAi.z).a3, .i (L2.getD v3 R_iiiiiiAi.z).a4, .i (L2.getD v3 R_iiiiiiAi.z).a5, (mc E_ii (L2.getD v3 R_iiiiiiAi.z).a6), .i (L2.getD v3 R_iiiiiiAi.z).a7])] [(0, (ZcM ((L0.getD v3 R_iiiiiiAi.z).a0) ((L0.getD v3 R_iiiiiiAi.z).a1) ((L0.getD v3 R_iiiiiiAi.z).a2) ((L0.getD v3 R_iiiiiiAi.z).a3) ((L0.getD v3 R_iiiiiiAi.z).a4) ((L0.getD v3 R_iiiiiiAi.z).a5) ((L0.getD v3 R_iiiiiiAi.z).a6) ((L0.getD v3 R_iiiiiiAi.z).a7) ((L2.getD v3 R_iiiiiiAi.z).a0) ((L2.getD v3 R_iiiiiiAi.z).a1) ((L2.getD v3 R_iiiiiiAi.z).a2) ((L2.getD v3 R_iiiiiiAi.z).a3) ((L2.getD v3 R_iiiiiiAi.z).a4) ((L2.getD v3 R_iiiiiiAi.z).a5) ((L2.getD v3 R_iiiiiiAi.z).a6) ((L2.getD v3 R_iiiiiiAi.z).a7)  y3_0  2))])) (live := [0, 1]) (tv := fun _ => [some (vs 0 0 n1 n1), some (vs 1 0 L2.length L2.length), some (vi (((v3 + 1) : Nat) : Int))]) (bl := [some (.cells (Zb E_iiiiiiAi L0) 27), some (.cells (Zb E_iiiiiiAi L2) 27)]) (ob := [((IntKind.i64.wrap ((v3 : Int) + (1 : Int))) == (((v3 + 1) : Nat) : Int), true), ((!y3_0), false), (dP (Zcf #[Value.agg #[vi (L0.getD v3 R_iiiiiiAi.z).a0, vi (L0.getD v3 R_iiiiiiAi.z).a1, vi (L0.getD v3 R_iiiiiiAi.z).a2, vi (L0.getD v3 R_iiiiiiAi.z).a3, vi (L0.getD v3 R_iiiiiiAi.z).a4, vi (L0.getD v3 R_iiiiiiAi.z).a5, ms E_ii (L0.getD v3 R_iiiiiiAi.z).a6, vi (L0.getD v3 R_iiiiiiAi.z).a7], Value.agg #[vi (L2.getD v3 R_iiiiiiAi.z).a0, vi (L2.getD v3 R_iiiiiiAi.z).a1, vi (L2.getD v3 R_iiiiiiAi.z).a2, vi (L2.getD v3 R_iiiiiiAi.z).a3, vi (L2.getD v3 R_iiiiiiAi.z).a4, vi (L2.getD v3 R_iiiiiiAi.z).a5, ms E_ii (L2.getD v3 R_iiiiiiAi.z).a6, vi (L2.getD v3 R_iiiiiiAi.z).a7]] ((L0.getD v3 R_iiiiiiAi.z).a0) ((L0.getD v3 R_iiiiiiAi.z).a1) ((L0.getD v3 R_iiiiiiAi.z).a2) ((L0.getD v3 R_iiiiiiAi.z).a3) ((L0.getD v3 R_iiiiiiAi.z).a4) ((L0.getD v3 R_iiiiiiAi.z).a5) ((L0.getD v3 R_iiiiiiAi.z).a6) ((L0.getD v3 R_iiiiiiAi.z).a7) ((L2.getD v3 R_iiiiiiAi.z).a0) ((L2.getD v3 R_iiiiiiAi.z).a1) ((L2.getD v3 R_iiiiiiAi.z).a2) ((L2.getD v3 R_iiiiiiAi.z).a3) ((L2.getD v3 R_iiiiiiAi.z).a4) ((L2.getD v3 R_iiiiiiAi.z).a5) ((L2.getD v3 R_iiiiiiAi.z).a6) ((L2.getD v3 R_iiiiiiAi.z).a7)  y3_0  2), true), (Z1 (Zl 8 (List.drop (0 + (v3 * 8)) (Zb E_iiiiiiAi L2))) [.i (L2.getD v3 R_iiiiiiAi.z).a0, .i (L2.getD v3 R_iiiiiiAi.z).a1, .i (L2.getD v3 R_iiiiiiAi.z).a2, .i (L2.getD v3 R_iiiiiiAi.z).a3, .i (L2.getD v3 R_iiiiiiAi.z).a4, .i (L2.getD v3 R_iiiiiiAi.z).a5, (mc E_ii (L2.getD v3 R_iiiiiiAi.z).a6), .i (L2.getD v3 R_iiiiiiAi.z).a7], true), (Nat.blt v3 L2.length, true), ((v3 : Int) == Int.ofNat v3, true), (Z1 (Zl 8 (List.drop (0 + (v3 * 8)) (Zb E_iiiiiiAi L0))) [.i (L0.getD v3 R_iiiiiiAi.z).a0, .i (L0.getD v3 R_iiiiiiAi.z).a1, .i (L0.getD v3 R_iiiiiiAi.z).a2, .i (L0.getD v3 R_iiiiiiAi.z).a3, .i (L0.getD v3 R_iiiiiiAi.z).a4, .i (L0.getD v3 R_iiiiiiAi.z).a5, (mc E_ii (L0.getD v3 R_iiiiiiAi.z).a6), .i (L0.getD v3 R_iiiiiiAi.z).a7], true), (Nat.blt v3 n1, true), ((v3 : Int) == Int.ofNat v3, true), ((decide ((v3 : Int) < (n1 : Int))), true)]) rfl (show 1 ∈ Zv (ZkN 1) from by decide +kernel) (fun gv => by kernel_rfl) (Za (beq_iff_eq.2 ((wrap_i64 ltA).trans (by first | rfl | omega))) <| Za (ZhG (by first | assumption | exact Decidable.not_not.1 (by assumption) | simp_all)) <| Za (Ze (ZcN #[Value.agg #[vi (L0.getD v3 R_iiiiiiAi.z).a0, vi (L0.getD v3 R_iiiiiiAi.z).a1, vi (L0.getD v3 R_iiiiiiAi.z).a2, vi (L0.getD v3 R_iiiiiiAi.z).a3, vi (L0.getD v3 R_iiiiiiAi.z).a4, vi (L0.getD v3 R_iiiiiiAi.z).a5, ms E_ii (L0.getD v3 R_iiiiiiAi.z).a6, vi (L0.getD v3 R_iiiiiiAi.z).a7], Value.agg #[vi (L2.getD v3 R_iiiiiiAi.z).a0, vi (L2.getD v3 R_iiiiiiAi.z).a1, vi (L2.getD v3 R_iiiiiiAi.z).a2, vi (L2.getD v3 R_iiiiiiAi.z).a3, vi (L2.getD v3 R_iiiiiiAi.z).a4, vi (L2.getD v3 R_iiiiiiAi.z).a5, ms E_ii (L2.getD v3 R_iiiiiiAi.z).a6, vi (L2.getD v3 R_iiiiiiAi.z).a7]] ((L0.getD v3 R_iiiiiiAi.z).a0) ((L0.getD v3 R_iiiiiiAi.z).a1) ((L0.getD v3 R_iiiiiiAi.z).a2) ((L0.getD v3 R_iiiiiiAi.z).a3) ((L0.getD v3 R_iiiiiiAi.z).a4) ((L0.getD v3 R_iiiiiiAi.z).a5) ((L0.getD v3 R_iiiiiiAi.z).a6) ((L0.getD v3 R_iiiiiiAi.z).a7) ((L2.getD v3 R_iiiiiiAi.z).a0) ((L2.getD v3 R_iiiiiiAi.z).a1) ((L2.getD v3 R_iiiiiiAi.z).a2) ((L2.getD v3 R_iiiiiiAi.z).a3) ((L2.getD v3 R_iiiiiiAi.z).a4) ((L2.getD v3 R_iiiiiiAi.z).a5) ((L2.getD v3 R_iiiiiiAi.z).a6) ((L2.getD v3 R_iiiiiiAi.z).a7)  y3_0 N c3  2 rfl (by decide) (by decide))) <| Za (Zo (E := E_iiiiiiAi) (L := L2) (i := v3) (q := 0) (by omega) (show (0 + (v3 * 8)) = v3 * 8 + 0 from by omega) (show 0 + 8 ≤ 8 from by decide) rfl rfl) <| oB <| oI <| Za (Zo (E := E_iiiiiiAi) (L := L0) (i := v3) (q := 0) (by omega) (show (0 + (v3 * 8)) = v3 * 8 + 0 from by omega) (show 0 + 8 ≤ 8 from by decide) rfl rfl) <| oB <| oI <| oY Zf) rfl (by decide) (by rfl) (fun _ => ⟨rr, ⟨rr, ⟨rr, trivial⟩⟩⟩) ⟨(Zi (E := E_iiiiiiAi) (α := R_iiiiiiAi) _ L0 _), ⟨(Zi (E := E_iiiiiiAi) (α := R_iiiiiiAi) _ L2 _), trivial⟩⟩
      ·
       exact Mach.ok_none
   ·
    exact Mach.ok_none
  ·
   exact Mach.ok_none
 ·
  exact Mach.ok_fin (M := Za3 L0 n1 L2 N) (cd := 1000000) (cm := 0) (r := (.r0 (true) : ZJ)) (fu := 4000) (orc := (Zm [(0, false)] [] [] [] [])) (live := [0, 1]) (u := vT) (bl := [some (.cells (Zb E_iiiiiiAi L0) 27), some (.cells (Zb E_iiiiiiAi L2) 27)]) (ob := [((decide ((v3 : Int) < (n1 : Int))), false)]) (fun gv => by kernel_rfl) (oN Zf) rfl (by decide) (by rfl) rr ⟨(Zi (E := E_iiiiiiAi) (α := R_iiiiiiAi) _ L0 _), ⟨(Zi (E := E_iiiiiiAi) (α := R_iiiiiiAi) _ L2 _), trivial⟩⟩

theorem Zj6 (L0 : List R_iiiiiiAi) (n1 : Nat) (L2 : List R_iiiiiiAi) (N : Nat) : (Za3 L0 n1 L2 N).Enter Tryz.prog Zp #[vs 0 0 n1 n1, vs 1 0 L2.length L2.length] (ZcK L0 n1 L2 N) := by
 unfold ZcK
 refine Mach.en_ite (fun g0 => ?_) (fun g0 => ?_)
 ·
  exact Mach.en_fin (M := Za3 L0 n1 L2 N) (cd := 1000000) (cm := 0) (r := (.r0 (false) : ZJ)) (fu := 4000) (orc := (Zm [(0, true)] [] [] [] [])) (live := [0, 1]) (u := vf) (bl := [some (.cells (Zb E_iiiiiiAi L0) 27), some (.cells (Zb E_iiiiiiAi L2) 27)]) (ob := [(((n1 : Int) != (L2.length : Int)), true)]) (by kernel_rfl) (oD Zf) rfl (by decide) (by rfl) rr ⟨(Zi (E := E_iiiiiiAi) (α := R_iiiiiiAi) _ L0 _), ⟨(Zi (E := E_iiiiiiAi) (α := R_iiiiiiAi) _ L2 _), trivial⟩⟩
 ·
  exact Mach.en_head (bK := ZbS 1) (M := Za3 L0 n1 L2 N) (cd := 1000000) (cm := 0) (y := (.h1m0 (0) : ZB)) (fu := 4000) (orc := (Zm [(0, false)] [] [] [] [])) (live := [0, 1]) (tv := [some (vs 0 0 n1 n1), some (vs 1 0 L2.length L2.length), some (vq)]) (bl := [some (.cells (Zb E_iiiiiiAi L0) 27), some (.cells (Zb E_iiiiiiAi L2) 27)]) (ob := [(((n1 : Int) != (L2.length : Int)), false)]) rfl rfl (show Zv (ZbS 1).2 = [] from rfl) (by kernel_rfl) (oE Zf) rfl (by decide) (by rfl) ⟨rr, ⟨rr, ⟨⟨Eq.trans (show (vi ((0 : Nat) : Int) : Value) = vq from (congrArg (Value.int .i64) (by first | rfl | omega))) (by rfl), by rfl⟩, trivial⟩⟩⟩ ⟨(Zi (E := E_iiiiiiAi) (α := R_iiiiiiAi) _ L0 _), ⟨(Zi (E := E_iiiiiiAi) (α := R_iiiiiiAi) _ L2 _), trivial⟩⟩

theorem Zix (L0 : List R_iiiiiiAi) (n1 : Nat) (L2 : List R_iiiiiiAi) (N : Nat) (r : ZJ) (h : ZdI L0 n1 L2 N = some r) : LSpec Tryz.prog 8 #[vs 0 0 n1 n1, vs 1 0 L2.length L2.length] [.cells (Zb E_iiiiiiAi L0) 27, .cells (Zb E_iiiiiiAi L2) 27] (ZgY L0 n1 L2 r) (Zgi L0 n1 L2 r) :=
 Mach.spec ZbX (Za3 L0 n1 L2 N) Tryz.func8 (by kernel_rfl) (by kernel_rfl) (fun x => by cases x <;> exact Zad _ rfl) (fun r => by cases r <;> exact Zad _ rfl) (fun x => by
  cases x with
  | h1m0 _ => exact fun _ => (show ¬ (1 ∈ Zv (ZbS 1).2) from by decide +kernel)
  ) (fun x => (show (Za3 L0 n1 L2 N).Ok Tryz.prog Zp x (ZbG L0 n1 L2 N x) from by
  cases x with
  | h1m0 v3 => exact ZhT L0 n1 L2 v3 N
  )) (Zj6 L0 n1 L2 N) (n := N) h

noncomputable def Zez (L0 : List R_iiiiiiAi) (n1 : Nat) (L2 : List R_iiiiiiAi) (w2 : Bool) (k0 k1 n : Nat) : Zbh := .call [(k0, .cells (Zb E_iiiiiiAi L0) 27), (k1, .cells (Zb E_iiiiiiAi L2) 27)] (Value.bool w2) [] 0
def ZcR (A : Array Value) (L0 : List R_iiiiiiAi) (n1 : Nat) (L2 : List R_iiiiiiAi) (w2 : Bool) (k0 k1 n : Nat) : Prop := Z3 Tryz.prog 8 A [(k0, .cells (Zb E_iiiiiiAi L0) 27), (k1, .cells (Zb E_iiiiiiAi L2) 27)] (Value.bool w2) [] n 0

theorem Ze0 (A : Array Value) (L0 : List R_iiiiiiAi) (n1 : Nat) (L2 : List R_iiiiiiAi) (w2 : Bool) (N : Nat) (h : ZdI L0 n1 L2 N = some (.r0 w2)) (k0 k1 n : Nat) (hA : A = #[vs k0 0 n1 n1, vs k1 0 L2.length L2.length]) (hnd : ([k0, k1] : List Nat).Nodup) (hlt : ∀ k ∈ ([k0, k1] : List Nat), k < n) : ZcR A L0 n1 L2 w2 k0 k1 n :=
 Zal hA (LSpec.callL (show LSpec Tryz.prog 8 #[vs 0 0 n1 n1, vs 1 0 L2.length L2.length] [.cells (Zb E_iiiiiiAi L0) 27, .cells (Zb E_iiiiiiAi L2) 27] (Value.bool w2) [some (.cells (Zb E_iiiiiiAi L0) 27), some (.cells (Zb E_iiiiiiAi L2) 27)] from Zix L0 n1 L2 N _ h) [k0, k1] n [] rfl hnd hlt (show 2 ≤ 2 from by decide) (show ∀ j ∈ ([] : List Nat), j < 2 from by decide) (by rfl) ⟨(Zy _ _ _), ⟨(Zy _ _ _), trivial⟩⟩ (by rfl) ⟨(Zy _ _ _), ⟨(Zy _ _ _), trivial⟩⟩ ⟨.inr rfl, ⟨.inr rfl, trivial⟩⟩ rfl rfl rfl (ZaS (ZaT rfl (Za9 _ _ _)) (ZaS (ZaT rfl (Za9 _ _ _)) rfl)) rfl)

noncomputable def Zgk (L0 : List R_iiiiiiAi) (a1 a2 a3 a4 a5 a6 : Int) (L7 : List R_ii) (a8 a9 a10 a11 a12 a13 a14 : Int) (L15 : List R_ii) (a16 : Int) : Zh → Value
 | .r0 w0 => Value.bool w0
noncomputable def ZfT (L0 : List R_iiiiiiAi) (a1 a2 a3 a4 a5 a6 : Int) (L7 : List R_ii) (a8 a9 a10 a11 a12 a13 a14 : Int) (L15 : List R_ii) (a16 : Int) : Zh → List (Option AObj)
 | .r0 w0 => []

theorem ZiA (L0 : List R_iiiiiiAi) (a1 a2 a3 a4 a5 a6 : Int) (L7 : List R_ii) (a8 a9 a10 a11 a12 a13 a14 : Int) (L15 : List R_ii) (a16 : Int) (N : Nat) : Fx Tryz.prog Zp Tryz.f3 [] #[ms E_iiiiiiAi L0, Value.agg #[vi a1, vi a2, vi a3, vi a4, vi a5, vi a6, ms E_ii L7, vi a8], Value.agg #[vi a9, vi a10, vi a11, vi a12, vi a13, vi a14, ms E_ii L15, vi a16]] (Zgk L0 a1 a2 a3 a4 a5 a6 L7 a8 a9 a10 a11 a12 a13 a14 L15 a16) (ZfT L0 a1 a2 a3 a4 a5 a6 L7 a8 a9 a10 a11 a12 a13 a14 L15 a16) (Zcw L0 a1 a2 a3 a4 a5 a6 L7 a8 a9 a10 a11 a12 a13 a14 L15 a16 N) := by
 unfold Zcw
 refine ZbL (fun z0 c0 => ?_)
 cases z0 with
 | r0 =>
  refine ZbL (fun z1 c1 => ?_)
  cases z1 with
  | r0 =>
   refine ZbL (fun z2 c2 => ?_)
   cases z2 with
   | r0 =>
    refine ZbL (fun z3 c3 => ?_)
    cases z3 with
    | r0 y3_0 =>
     refine Zcd (fun g4 => ?_) (fun g4 => ?_)
     ·
      subst g4
      by_cases g5 : a6 < a12
      ·
       exact Zan (r := (.r0 (true) : Zh)) (fu := 4000) (orc := (Zm [(1, true), (2, true)] [] [] [] [(0, (Zhv (L0)    2)), (1, (ZgN     2)), (2, (ZgP     2)), (3, (Zb3 (([] : List R_iiiiiiAi))  true  2))])) (live := []) (u := vT) (bl := []) (ob := [((decide (a6 < a12)), true), ((decide (a6 < a12)), true), (dP (Zbf #[ms E_iiiiiiAi ([] : List R_iiiiiiAi), vn] (([] : List R_iiiiiiAi))  true  2), true), (dP (Zfq #[vn]     2), true), (dP (Zfp #[vn]     2), true), (dP (Zf9 #[ms E_iiiiiiAi L0] (L0)    2), true)]) (by kernel_rfl) (oY <| oY <| Za (Ze (Zb4 #[ms E_iiiiiiAi ([] : List R_iiiiiiAi), vn] (([] : List R_iiiiiiAi))  true N c3  2 rfl (by decide) (by decide))) <| Za (Ze (ZgQ #[vn]    N c2  2 rfl (by decide) (by decide))) <| Za (Ze (ZgO #[vn]    N c1  2 rfl (by decide) (by decide))) <| Za (Ze (Zhw #[ms E_iiiiiiAi L0] (L0)   N c0  2 rfl (by decide) (by decide))) Zf) rfl (by decide) (by rfl) rr trivial
      ·
       exact Zan (r := (.r0 (true) : Zh)) (fu := 4000) (orc := (Zm [(1, false), (2, false)] [] [] [] [(0, (Zhv (L0)    2)), (1, (ZgN     2)), (2, (ZgP     2)), (3, (Zb3 (([] : List R_iiiiiiAi))  true  2))])) (live := []) (u := vT) (bl := []) (ob := [((decide (a6 < a12)), false), ((decide (a6 < a12)), false), (dP (Zbf #[ms E_iiiiiiAi ([] : List R_iiiiiiAi), vn] (([] : List R_iiiiiiAi))  true  2), true), (dP (Zfq #[vn]     2), true), (dP (Zfp #[vn]     2), true), (dP (Zf9 #[ms E_iiiiiiAi L0] (L0)    2), true)]) (by kernel_rfl) (oN <| oN <| Za (Ze (Zb4 #[ms E_iiiiiiAi ([] : List R_iiiiiiAi), vn] (([] : List R_iiiiiiAi))  true N c3  2 rfl (by decide) (by decide))) <| Za (Ze (ZgQ #[vn]    N c2  2 rfl (by decide) (by decide))) <| Za (Ze (ZgO #[vn]    N c1  2 rfl (by decide) (by decide))) <| Za (Ze (Zhw #[ms E_iiiiiiAi L0] (L0)   N c0  2 rfl (by decide) (by decide))) Zf) rfl (by decide) (by rfl) rr trivial
     ·
      obtain rfl : y3_0 = false := by simpa using g4
      exact Zan (r := (.r0 (false) : Zh)) (fu := 4000) (orc := (Zm [] [] [] [] [(0, (Zhv (L0)    2)), (1, (ZgN     2)), (2, (ZgP     2)), (3, (Zb3 (([] : List R_iiiiiiAi))  false  2))])) (live := []) (u := vf) (bl := []) (ob := [(dP (Zbf #[ms E_iiiiiiAi ([] : List R_iiiiiiAi), vn] (([] : List R_iiiiiiAi))  false  2), true), (dP (Zfq #[vn]     2), true), (dP (Zfp #[vn]     2), true), (dP (Zf9 #[ms E_iiiiiiAi L0] (L0)    2), true)]) (by kernel_rfl) (Za (Ze (Zb4 #[ms E_iiiiiiAi ([] : List R_iiiiiiAi), vn] (([] : List R_iiiiiiAi))  false N c3  2 rfl (by decide) (by decide))) <| Za (Ze (ZgQ #[vn]    N c2  2 rfl (by decide) (by decide))) <| Za (Ze (ZgO #[vn]    N c1  2 rfl (by decide) (by decide))) <| Za (Ze (Zhw #[ms E_iiiiiiAi L0] (L0)   N c0  2 rfl (by decide) (by decide))) Zf) rfl (by decide) (by rfl) rr trivial
 | r1 y0_0 =>
  refine ZbL (fun z1 c1 => ?_)
  cases z1 with
  | r0 =>
   refine ZbL (fun z2 c2 => ?_)
   cases z2 with
   | r0 y2_0 =>
    refine ZbL (fun z3 c3 => ?_)
    cases z3 with
    | r0 =>
     refine Zcd (fun g4 => ?_) (fun g4 => ?_)
     ·
      by_cases g5 : a6 < a12
      ·
       exact Zan (r := (.r0 (true) : Zh)) (fu := 4000) (orc := (Zm [(0, true), (1, true), (2, true)] [] [] [] [(0, (ZV (L0)  y0_0  2)), (1, (Zda (y0_0)   2 3)), (2, (ZaC (y0_0)  y2_0 2 3)), (3, (Zeu     3))])) (live := []) (u := vT) (bl := []) (ob := [((decide (a6 < a12)), true), ((decide (a6 < a12)), true), (((220 : Int) == y2_0), true), (dP (ZcL #[vn, vn]     3), true), (dP (Zau #[vs 2 0 y0_0.length y0_0.length] (y0_0)  y2_0 2 3), true), (dS (Zb E_iiiiiiAi y0_0), true), (dP (Zcq #[vs 2 0 y0_0.length y0_0.length] (y0_0)   2 3), true), (dS (Zb E_iiiiiiAi y0_0), true), (dP (ZM #[ms E_iiiiiiAi L0] (L0)  y0_0  2), true)]) (by kernel_rfl) (oY <| oY <| oT <| Za (Ze (Zev #[vn, vn]    N c3  3 rfl (by decide) (by decide))) <| Za (Ze (ZaD #[vs 2 0 y0_0.length y0_0.length] (y0_0)  y2_0 N c2 2 3 rfl (by decide) (by decide))) <| oR <| Za (Ze (Zdb #[vs 2 0 y0_0.length y0_0.length] (y0_0)   N c1 2 3 rfl (by decide) (by decide))) <| oR <| Za (Ze (ZW #[ms E_iiiiiiAi L0] (L0)  y0_0 N c0  2 rfl (by decide) (by decide))) Zf) rfl (by decide) (by rfl) rr trivial
      ·
       exact Zan (r := (.r0 (true) : Zh)) (fu := 4000) (orc := (Zm [(0, true), (1, false), (2, false)] [] [] [] [(0, (ZV (L0)  y0_0  2)), (1, (Zda (y0_0)   2 3)), (2, (ZaC (y0_0)  y2_0 2 3)), (3, (Zeu     3))])) (live := []) (u := vT) (bl := []) (ob := [((decide (a6 < a12)), false), ((decide (a6 < a12)), false), (((220 : Int) == y2_0), true), (dP (ZcL #[vn, vn]     3), true), (dP (Zau #[vs 2 0 y0_0.length y0_0.length] (y0_0)  y2_0 2 3), true), (dS (Zb E_iiiiiiAi y0_0), true), (dP (Zcq #[vs 2 0 y0_0.length y0_0.length] (y0_0)   2 3), true), (dS (Zb E_iiiiiiAi y0_0), true), (dP (ZM #[ms E_iiiiiiAi L0] (L0)  y0_0  2), true)]) (by kernel_rfl) (oN <| oN <| oT <| Za (Ze (Zev #[vn, vn]    N c3  3 rfl (by decide) (by decide))) <| Za (Ze (ZaD #[vs 2 0 y0_0.length y0_0.length] (y0_0)  y2_0 N c2 2 3 rfl (by decide) (by decide))) <| oR <| Za (Ze (Zdb #[vs 2 0 y0_0.length y0_0.length] (y0_0)   N c1 2 3 rfl (by decide) (by decide))) <| oR <| Za (Ze (ZW #[ms E_iiiiiiAi L0] (L0)  y0_0 N c0  2 rfl (by decide) (by decide))) Zf) rfl (by decide) (by rfl) rr trivial
     ·
      exact Zan (r := (.r0 (false) : Zh)) (fu := 4000) (orc := (Zm [(0, false)] [] [] [] [(0, (ZV (L0)  y0_0  2)), (1, (Zda (y0_0)   2 3)), (2, (ZaC (y0_0)  y2_0 2 3)), (3, (Zeu     3))])) (live := []) (u := vf) (bl := []) (ob := [(((220 : Int) == y2_0), false), (dP (ZcL #[vn, vn]     3), true), (dP (Zau #[vs 2 0 y0_0.length y0_0.length] (y0_0)  y2_0 2 3), true), (dS (Zb E_iiiiiiAi y0_0), true), (dP (Zcq #[vs 2 0 y0_0.length y0_0.length] (y0_0)   2 3), true), (dS (Zb E_iiiiiiAi y0_0), true), (dP (ZM #[ms E_iiiiiiAi L0] (L0)  y0_0  2), true)]) (by kernel_rfl) (oF <| Za (Ze (Zev #[vn, vn]    N c3  3 rfl (by decide) (by decide))) <| Za (Ze (ZaD #[vs 2 0 y0_0.length y0_0.length] (y0_0)  y2_0 N c2 2 3 rfl (by decide) (by decide))) <| oR <| Za (Ze (Zdb #[vs 2 0 y0_0.length y0_0.length] (y0_0)   N c1 2 3 rfl (by decide) (by decide))) <| oR <| Za (Ze (ZW #[ms E_iiiiiiAi L0] (L0)  y0_0 N c0  2 rfl (by decide) (by decide))) Zf) rfl (by decide) (by rfl) rr trivial
   | r1 y2_0 =>
    refine ZbL (fun z3 c3 => ?_)
    cases z3 with
    | r0 y3_0 =>
     refine Zcd (fun g4 => ?_) (fun g4 => ?_)
     ·
      subst g4
      exact Zan (r := (.r0 (false) : Zh)) (fu := 4000) (orc := (Zm [] [] [] [] [(0, (ZV (L0)  y0_0  2)), (1, (Zda (y0_0)   2 3)), (2, (Zbs (y0_0)  y2_0 2 3)), (3, (Zgc (y2_0)  true 3 4))])) (live := []) (u := vf) (bl := []) (ob := [(dP (Zew #[vn, vs 3 0 y2_0.length y2_0.length] (y2_0)  true 3 4), true), (dS (Zb E_iiiiiiAi y2_0), true), (dP (Zbb #[vs 2 0 y0_0.length y0_0.length] (y0_0)  y2_0 2 3), true), (dS (Zb E_iiiiiiAi y0_0), true), (dP (Zcq #[vs 2 0 y0_0.length y0_0.length] (y0_0)   2 3), true), (dS (Zb E_iiiiiiAi y0_0), true), (dP (ZM #[ms E_iiiiiiAi L0] (L0)  y0_0  2), true)]) (by kernel_rfl) (Za (Ze (Zgd #[vn, vs 3 0 y2_0.length y2_0.length] (y2_0)  true N c3 3 4 rfl (by decide) (by decide))) <| oR <| Za (Ze (Zbt #[vs 2 0 y0_0.length y0_0.length] (y0_0)  y2_0 N c2 2 3 rfl (by decide) (by decide))) <| oR <| Za (Ze (Zdb #[vs 2 0 y0_0.length y0_0.length] (y0_0)   N c1 2 3 rfl (by decide) (by decide))) <| oR <| Za (Ze (ZW #[ms E_iiiiiiAi L0] (L0)  y0_0 N c0  2 rfl (by decide) (by decide))) Zf) rfl (by decide) (by rfl) rr trivial
     ·
      obtain rfl : y3_0 = false := by simpa using g4
      exact Zan (r := (.r0 (false) : Zh)) (fu := 4000) (orc := (Zm [] [] [] [] [(0, (ZV (L0)  y0_0  2)), (1, (Zda (y0_0)   2 3)), (2, (Zbs (y0_0)  y2_0 2 3)), (3, (Zgc (y2_0)  false 3 4))])) (live := []) (u := vf) (bl := []) (ob := [(dP (Zew #[vn, vs 3 0 y2_0.length y2_0.length] (y2_0)  false 3 4), true), (dS (Zb E_iiiiiiAi y2_0), true), (dP (Zbb #[vs 2 0 y0_0.length y0_0.length] (y0_0)  y2_0 2 3), true), (dS (Zb E_iiiiiiAi y0_0), true), (dP (Zcq #[vs 2 0 y0_0.length y0_0.length] (y0_0)   2 3), true), (dS (Zb E_iiiiiiAi y0_0), true), (dP (ZM #[ms E_iiiiiiAi L0] (L0)  y0_0  2), true)]) (by kernel_rfl) (Za (Ze (Zgd #[vn, vs 3 0 y2_0.length y2_0.length] (y2_0)  false N c3 3 4 rfl (by decide) (by decide))) <| oR <| Za (Ze (Zbt #[vs 2 0 y0_0.length y0_0.length] (y0_0)  y2_0 N c2 2 3 rfl (by decide) (by decide))) <| oR <| Za (Ze (Zdb #[vs 2 0 y0_0.length y0_0.length] (y0_0)   N c1 2 3 rfl (by decide) (by decide))) <| oR <| Za (Ze (ZW #[ms E_iiiiiiAi L0] (L0)  y0_0 N c0  2 rfl (by decide) (by decide))) Zf) rfl (by decide) (by rfl) rr trivial
  | r1 =>
   refine ZbL (fun z2 c2 => ?_)
   cases z2 with
   | r0 y2_0 =>
    refine ZbL (fun z3 c3 => ?_)
    cases z3 with
    | r0 y3_0 =>
     refine Zcd (fun g4 => ?_) (fun g4 => ?_)
     ·
      subst g4
      refine Zcd (fun g5 => ?_) (fun g5 => ?_)
      ·
       by_cases g6 : a6 < a12
       ·
        exact Zan (r := (.r0 (true) : Zh)) (fu := 4000) (orc := (Zm [(0, true), (1, true), (2, true)] [] [] [] [(0, (ZV (L0)  y0_0  2)), (1, (ZbN (y0_0)   2 3)), (2, (ZaC (y0_0)  y2_0 2 3)), (3, (Zb3 (([] : List R_iiiiiiAi))  true  3))])) (live := []) (u := vT) (bl := []) (ob := [((decide (a6 < a12)), true), ((decide (a6 < a12)), true), (((0 : Int) == y2_0), true), (dP (Zbf #[ms E_iiiiiiAi ([] : List R_iiiiiiAi), vn] (([] : List R_iiiiiiAi))  true  3), true), (dP (Zau #[vs 2 0 y0_0.length y0_0.length] (y0_0)  y2_0 2 3), true), (dS (Zb E_iiiiiiAi y0_0), true), (dP (Zbq #[vs 2 0 y0_0.length y0_0.length] (y0_0)   2 3), true), (dS (Zb E_iiiiiiAi y0_0), true), (dP (ZM #[ms E_iiiiiiAi L0] (L0)  y0_0  2), true)]) (by kernel_rfl) (oY <| oY <| oT <| Za (Ze (Zb4 #[ms E_iiiiiiAi ([] : List R_iiiiiiAi), vn] (([] : List R_iiiiiiAi))  true N c3  3 rfl (by decide) (by decide))) <| Za (Ze (ZaD #[vs 2 0 y0_0.length y0_0.length] (y0_0)  y2_0 N c2 2 3 rfl (by decide) (by decide))) <| oR <| Za (Ze (ZbO #[vs 2 0 y0_0.length y0_0.length] (y0_0)   N c1 2 3 rfl (by decide) (by decide))) <| oR <| Za (Ze (ZW #[ms E_iiiiiiAi L0] (L0)  y0_0 N c0  2 rfl (by decide) (by decide))) Zf) rfl (by decide) (by rfl) rr trivial
       ·
        exact Zan (r := (.r0 (true) : Zh)) (fu := 4000) (orc := (Zm [(0, true), (1, false), (2, false)] [] [] [] [(0, (ZV (L0)  y0_0  2)), (1, (ZbN (y0_0)   2 3)), (2, (ZaC (y0_0)  y2_0 2 3)), (3, (Zb3 (([] : List R_iiiiiiAi))  true  3))])) (live := []) (u := vT) (bl := []) (ob := [((decide (a6 < a12)), false), ((decide (a6 < a12)), false), (((0 : Int) == y2_0), true), (dP (Zbf #[ms E_iiiiiiAi ([] : List R_iiiiiiAi), vn] (([] : List R_iiiiiiAi))  true  3), true), (dP (Zau #[vs 2 0 y0_0.length y0_0.length] (y0_0)  y2_0 2 3), true), (dS (Zb E_iiiiiiAi y0_0), true), (dP (Zbq #[vs 2 0 y0_0.length y0_0.length] (y0_0)   2 3), true), (dS (Zb E_iiiiiiAi y0_0), true), (dP (ZM #[ms E_iiiiiiAi L0] (L0)  y0_0  2), true)]) (by kernel_rfl) (oN <| oN <| oT <| Za (Ze (Zb4 #[ms E_iiiiiiAi ([] : List R_iiiiiiAi), vn] (([] : List R_iiiiiiAi))  true N c3  3 rfl (by decide) (by decide))) <| Za (Ze (ZaD #[vs 2 0 y0_0.length y0_0.length] (y0_0)  y2_0 N c2 2 3 rfl (by decide) (by decide))) <| oR <| Za (Ze (ZbO #[vs 2 0 y0_0.length y0_0.length] (y0_0)   N c1 2 3 rfl (by decide) (by decide))) <| oR <| Za (Ze (ZW #[ms E_iiiiiiAi L0] (L0)  y0_0 N c0  2 rfl (by decide) (by decide))) Zf) rfl (by decide) (by rfl) rr trivial
      ·
       exact Zan (r := (.r0 (false) : Zh)) (fu := 4000) (orc := (Zm [(0, false)] [] [] [] [(0, (ZV (L0)  y0_0  2)), (1, (ZbN (y0_0)   2 3)), (2, (ZaC (y0_0)  y2_0 2 3)), (3, (Zb3 (([] : List R_iiiiiiAi))  true  3))])) (live := []) (u := vf) (bl := []) (ob := [(((0 : Int) == y2_0), false), (dP (Zbf #[ms E_iiiiiiAi ([] : List R_iiiiiiAi), vn] (([] : List R_iiiiiiAi))  true  3), true), (dP (Zau #[vs 2 0 y0_0.length y0_0.length] (y0_0)  y2_0 2 3), true), (dS (Zb E_iiiiiiAi y0_0), true), (dP (Zbq #[vs 2 0 y0_0.length y0_0.length] (y0_0)   2 3), true), (dS (Zb E_iiiiiiAi y0_0), true), (dP (ZM #[ms E_iiiiiiAi L0] (L0)  y0_0  2), true)]) (by kernel_rfl) (oF <| Za (Ze (Zb4 #[ms E_iiiiiiAi ([] : List R_iiiiiiAi), vn] (([] : List R_iiiiiiAi))  true N c3  3 rfl (by decide) (by decide))) <| Za (Ze (ZaD #[vs 2 0 y0_0.length y0_0.length] (y0_0)  y2_0 N c2 2 3 rfl (by decide) (by decide))) <| oR <| Za (Ze (ZbO #[vs 2 0 y0_0.length y0_0.length] (y0_0)   N c1 2 3 rfl (by decide) (by decide))) <| oR <| Za (Ze (ZW #[ms E_iiiiiiAi L0] (L0)  y0_0 N c0  2 rfl (by decide) (by decide))) Zf) rfl (by decide) (by rfl) rr trivial
     ·
      obtain rfl : y3_0 = false := by simpa using g4
      exact Zan (r := (.r0 (false) : Zh)) (fu := 4000) (orc := (Zm [] [] [] [] [(0, (ZV (L0)  y0_0  2)), (1, (ZbN (y0_0)   2 3)), (2, (ZaC (y0_0)  y2_0 2 3)), (3, (Zb3 (([] : List R_iiiiiiAi))  false  3))])) (live := []) (u := vf) (bl := []) (ob := [(dP (Zbf #[ms E_iiiiiiAi ([] : List R_iiiiiiAi), vn] (([] : List R_iiiiiiAi))  false  3), true), (dP (Zau #[vs 2 0 y0_0.length y0_0.length] (y0_0)  y2_0 2 3), true), (dS (Zb E_iiiiiiAi y0_0), true), (dP (Zbq #[vs 2 0 y0_0.length y0_0.length] (y0_0)   2 3), true), (dS (Zb E_iiiiiiAi y0_0), true), (dP (ZM #[ms E_iiiiiiAi L0] (L0)  y0_0  2), true)]) (by kernel_rfl) (Za (Ze (Zb4 #[ms E_iiiiiiAi ([] : List R_iiiiiiAi), vn] (([] : List R_iiiiiiAi))  false N c3  3 rfl (by decide) (by decide))) <| Za (Ze (ZaD #[vs 2 0 y0_0.length y0_0.length] (y0_0)  y2_0 N c2 2 3 rfl (by decide) (by decide))) <| oR <| Za (Ze (ZbO #[vs 2 0 y0_0.length y0_0.length] (y0_0)   N c1 2 3 rfl (by decide) (by decide))) <| oR <| Za (Ze (ZW #[ms E_iiiiiiAi L0] (L0)  y0_0 N c0  2 rfl (by decide) (by decide))) Zf) rfl (by decide) (by rfl) rr trivial
   | r1 y2_0 =>
    refine ZbL (fun z3 c3 => ?_)
    cases z3 with
    | r0 y3_0 =>
     refine Zcd (fun g4 => ?_) (fun g4 => ?_)
     ·
      subst g4
      by_cases g5 : a6 < a12
      ·
       exact Zan (r := (.r0 (true) : Zh)) (fu := 4000) (orc := (Zm [(1, true), (2, true)] [] [] [] [(0, (ZV (L0)  y0_0  2)), (1, (ZbN (y0_0)   2 3)), (2, (Zbs (y0_0)  y2_0 2 3)), (3, (Zex (([] : List R_iiiiiiAi)) (y2_0)  true 3 4))])) (live := []) (u := vT) (bl := []) (ob := [((decide (a6 < a12)), true), ((decide (a6 < a12)), true), (dP (ZcO #[ms E_iiiiiiAi ([] : List R_iiiiiiAi), vs 3 0 y2_0.length y2_0.length] (([] : List R_iiiiiiAi)) (y2_0)  true 3 4), true), (dS (Zb E_iiiiiiAi y2_0), true), (dP (Zbb #[vs 2 0 y0_0.length y0_0.length] (y0_0)  y2_0 2 3), true), (dS (Zb E_iiiiiiAi y0_0), true), (dP (Zbq #[vs 2 0 y0_0.length y0_0.length] (y0_0)   2 3), true), (dS (Zb E_iiiiiiAi y0_0), true), (dP (ZM #[ms E_iiiiiiAi L0] (L0)  y0_0  2), true)]) (by kernel_rfl) (oY <| oY <| Za (Ze (Zey #[ms E_iiiiiiAi ([] : List R_iiiiiiAi), vs 3 0 y2_0.length y2_0.length] (([] : List R_iiiiiiAi)) (y2_0)  true N c3 3 4 rfl (by decide) (by decide))) <| oR <| Za (Ze (Zbt #[vs 2 0 y0_0.length y0_0.length] (y0_0)  y2_0 N c2 2 3 rfl (by decide) (by decide))) <| oR <| Za (Ze (ZbO #[vs 2 0 y0_0.length y0_0.length] (y0_0)   N c1 2 3 rfl (by decide) (by decide))) <| oR <| Za (Ze (ZW #[ms E_iiiiiiAi L0] (L0)  y0_0 N c0  2 rfl (by decide) (by decide))) Zf) rfl (by decide) (by rfl) rr trivial
      ·
       exact Zan (r := (.r0 (true) : Zh)) (fu := 4000) (orc := (Zm [(1, false), (2, false)] [] [] [] [(0, (ZV (L0)  y0_0  2)), (1, (ZbN (y0_0)   2 3)), (2, (Zbs (y0_0)  y2_0 2 3)), (3, (Zex (([] : List R_iiiiiiAi)) (y2_0)  true 3 4))])) (live := []) (u := vT) (bl := []) (ob := [((decide (a6 < a12)), false), ((decide (a6 < a12)), false), (dP (ZcO #[ms E_iiiiiiAi ([] : List R_iiiiiiAi), vs 3 0 y2_0.length y2_0.length] (([] : List R_iiiiiiAi)) (y2_0)  true 3 4), true), (dS (Zb E_iiiiiiAi y2_0), true), (dP (Zbb #[vs 2 0 y0_0.length y0_0.length] (y0_0)  y2_0 2 3), true), (dS (Zb E_iiiiiiAi y0_0), true), (dP (Zbq #[vs 2 0 y0_0.length y0_0.length] (y0_0)   2 3), true), (dS (Zb E_iiiiiiAi y0_0), true), (dP (ZM #[ms E_iiiiiiAi L0] (L0)  y0_0  2), true)]) (by kernel_rfl) (oN <| oN <| Za (Ze (Zey #[ms E_iiiiiiAi ([] : List R_iiiiiiAi), vs 3 0 y2_0.length y2_0.length] (([] : List R_iiiiiiAi)) (y2_0)  true N c3 3 4 rfl (by decide) (by decide))) <| oR <| Za (Ze (Zbt #[vs 2 0 y0_0.length y0_0.length] (y0_0)  y2_0 N c2 2 3 rfl (by decide) (by decide))) <| oR <| Za (Ze (ZbO #[vs 2 0 y0_0.length y0_0.length] (y0_0)   N c1 2 3 rfl (by decide) (by decide))) <| oR <| Za (Ze (ZW #[ms E_iiiiiiAi L0] (L0)  y0_0 N c0  2 rfl (by decide) (by decide))) Zf) rfl (by decide) (by rfl) rr trivial
     ·
      obtain rfl : y3_0 = false := by simpa using g4
      exact Zan (r := (.r0 (false) : Zh)) (fu := 4000) (orc := (Zm [] [] [] [] [(0, (ZV (L0)  y0_0  2)), (1, (ZbN (y0_0)   2 3)), (2, (Zbs (y0_0)  y2_0 2 3)), (3, (Zex (([] : List R_iiiiiiAi)) (y2_0)  false 3 4))])) (live := []) (u := vf) (bl := []) (ob := [(dP (ZcO #[ms E_iiiiiiAi ([] : List R_iiiiiiAi), vs 3 0 y2_0.length y2_0.length] (([] : List R_iiiiiiAi)) (y2_0)  false 3 4), true), (dS (Zb E_iiiiiiAi y2_0), true), (dP (Zbb #[vs 2 0 y0_0.length y0_0.length] (y0_0)  y2_0 2 3), true), (dS (Zb E_iiiiiiAi y0_0), true), (dP (Zbq #[vs 2 0 y0_0.length y0_0.length] (y0_0)   2 3), true), (dS (Zb E_iiiiiiAi y0_0), true), (dP (ZM #[ms E_iiiiiiAi L0] (L0)  y0_0  2), true)]) (by kernel_rfl) (Za (Ze (Zey #[ms E_iiiiiiAi ([] : List R_iiiiiiAi), vs 3 0 y2_0.length y2_0.length] (([] : List R_iiiiiiAi)) (y2_0)  false N c3 3 4 rfl (by decide) (by decide))) <| oR <| Za (Ze (Zbt #[vs 2 0 y0_0.length y0_0.length] (y0_0)  y2_0 N c2 2 3 rfl (by decide) (by decide))) <| oR <| Za (Ze (ZbO #[vs 2 0 y0_0.length y0_0.length] (y0_0)   N c1 2 3 rfl (by decide) (by decide))) <| oR <| Za (Ze (ZW #[ms E_iiiiiiAi L0] (L0)  y0_0 N c0  2 rfl (by decide) (by decide))) Zf) rfl (by decide) (by rfl) rr trivial
  | r2 y1_0 =>
   refine ZbL (fun z2 c2 => ?_)
   cases z2 with
   | r0 y2_0 =>
    refine ZbL (fun z3 c3 => ?_)
    cases z3 with
    | r0 y3_0 =>
     refine Zcd (fun g4 => ?_) (fun g4 => ?_)
     ·
      subst g4
      refine Zcd (fun g5 => ?_) (fun g5 => ?_)
      ·
       by_cases g6 : a6 < a12
       ·
        exact Zan (r := (.r0 (true) : Zh)) (fu := 4000) (orc := (Zm [(0, true), (1, true), (2, true)] [] [] [] [(0, (ZV (L0)  y0_0  2)), (1, (ZbP (y0_0)  y1_0 2 3)), (2, (ZaC (y0_0)  y2_0 2 4)), (3, (ZcP (y1_0) (y0_0.length)  true 3 4))])) (live := []) (u := vT) (bl := []) (ob := [((decide (a6 < a12)), true), ((decide (a6 < a12)), true), (((0 : Int) == y2_0), true), (dP (Zcg #[vs 3 0 y0_0.length y0_0.length, vn] (y1_0) (y0_0.length)  true 3 4), true), (dS (Zb E_iiiiiiAi y1_0), true), (dP (Zau #[vs 2 0 y0_0.length y0_0.length] (y0_0)  y2_0 2 4), true), (dS (Zb E_iiiiiiAi y0_0), true), (dP (Zbr #[vs 2 0 y0_0.length y0_0.length] (y0_0)  y1_0 2 3), true), (dS (Zb E_iiiiiiAi y0_0), true), (dP (ZM #[ms E_iiiiiiAi L0] (L0)  y0_0  2), true)]) (by kernel_rfl) (oY <| oY <| oT <| Za (Ze (ZcQ #[vs 3 0 y0_0.length y0_0.length, vn] (y1_0) (y0_0.length)  true N c3 3 4 rfl (by decide) (by decide))) <| oR <| Za (Ze (ZaD #[vs 2 0 y0_0.length y0_0.length] (y0_0)  y2_0 N c2 2 4 rfl (by decide) (by decide))) <| oR <| Za (Ze (ZbQ #[vs 2 0 y0_0.length y0_0.length] (y0_0)  y1_0 N c1 2 3 rfl (by decide) (by decide))) <| oR <| Za (Ze (ZW #[ms E_iiiiiiAi L0] (L0)  y0_0 N c0  2 rfl (by decide) (by decide))) Zf) rfl (by decide) (by rfl) rr trivial
       ·
        exact Zan (r := (.r0 (true) : Zh)) (fu := 4000) (orc := (Zm [(0, true), (1, false), (2, false)] [] [] [] [(0, (ZV (L0)  y0_0  2)), (1, (ZbP (y0_0)  y1_0 2 3)), (2, (ZaC (y0_0)  y2_0 2 4)), (3, (ZcP (y1_0) (y0_0.length)  true 3 4))])) (live := []) (u := vT) (bl := []) (ob := [((decide (a6 < a12)), false), ((decide (a6 < a12)), false), (((0 : Int) == y2_0), true), (dP (Zcg #[vs 3 0 y0_0.length y0_0.length, vn] (y1_0) (y0_0.length)  true 3 4), true), (dS (Zb E_iiiiiiAi y1_0), true), (dP (Zau #[vs 2 0 y0_0.length y0_0.length] (y0_0)  y2_0 2 4), true), (dS (Zb E_iiiiiiAi y0_0), true), (dP (Zbr #[vs 2 0 y0_0.length y0_0.length] (y0_0)  y1_0 2 3), true), (dS (Zb E_iiiiiiAi y0_0), true), (dP (ZM #[ms E_iiiiiiAi L0] (L0)  y0_0  2), true)]) (by kernel_rfl) (oN <| oN <| oT <| Za (Ze (ZcQ #[vs 3 0 y0_0.length y0_0.length, vn] (y1_0) (y0_0.length)  true N c3 3 4 rfl (by decide) (by decide))) <| oR <| Za (Ze (ZaD #[vs 2 0 y0_0.length y0_0.length] (y0_0)  y2_0 N c2 2 4 rfl (by decide) (by decide))) <| oR <| Za (Ze (ZbQ #[vs 2 0 y0_0.length y0_0.length] (y0_0)  y1_0 N c1 2 3 rfl (by decide) (by decide))) <| oR <| Za (Ze (ZW #[ms E_iiiiiiAi L0] (L0)  y0_0 N c0  2 rfl (by decide) (by decide))) Zf) rfl (by decide) (by rfl) rr trivial
      ·
       exact Zan (r := (.r0 (false) : Zh)) (fu := 4000) (orc := (Zm [(0, false)] [] [] [] [(0, (ZV (L0)  y0_0  2)), (1, (ZbP (y0_0)  y1_0 2 3)), (2, (ZaC (y0_0)  y2_0 2 4)), (3, (ZcP (y1_0) (y0_0.length)  true 3 4))])) (live := []) (u := vf) (bl := []) (ob := [(((0 : Int) == y2_0), false), (dP (Zcg #[vs 3 0 y0_0.length y0_0.length, vn] (y1_0) (y0_0.length)  true 3 4), true), (dS (Zb E_iiiiiiAi y1_0), true), (dP (Zau #[vs 2 0 y0_0.length y0_0.length] (y0_0)  y2_0 2 4), true), (dS (Zb E_iiiiiiAi y0_0), true), (dP (Zbr #[vs 2 0 y0_0.length y0_0.length] (y0_0)  y1_0 2 3), true), (dS (Zb E_iiiiiiAi y0_0), true), (dP (ZM #[ms E_iiiiiiAi L0] (L0)  y0_0  2), true)]) (by kernel_rfl) (oF <| Za (Ze (ZcQ #[vs 3 0 y0_0.length y0_0.length, vn] (y1_0) (y0_0.length)  true N c3 3 4 rfl (by decide) (by decide))) <| oR <| Za (Ze (ZaD #[vs 2 0 y0_0.length y0_0.length] (y0_0)  y2_0 N c2 2 4 rfl (by decide) (by decide))) <| oR <| Za (Ze (ZbQ #[vs 2 0 y0_0.length y0_0.length] (y0_0)  y1_0 N c1 2 3 rfl (by decide) (by decide))) <| oR <| Za (Ze (ZW #[ms E_iiiiiiAi L0] (L0)  y0_0 N c0  2 rfl (by decide) (by decide))) Zf) rfl (by decide) (by rfl) rr trivial
     ·
      obtain rfl : y3_0 = false := by simpa using g4
      exact Zan (r := (.r0 (false) : Zh)) (fu := 4000) (orc := (Zm [] [] [] [] [(0, (ZV (L0)  y0_0  2)), (1, (ZbP (y0_0)  y1_0 2 3)), (2, (ZaC (y0_0)  y2_0 2 4)), (3, (ZcP (y1_0) (y0_0.length)  false 3 4))])) (live := []) (u := vf) (bl := []) (ob := [(dP (Zcg #[vs 3 0 y0_0.length y0_0.length, vn] (y1_0) (y0_0.length)  false 3 4), true), (dS (Zb E_iiiiiiAi y1_0), true), (dP (Zau #[vs 2 0 y0_0.length y0_0.length] (y0_0)  y2_0 2 4), true), (dS (Zb E_iiiiiiAi y0_0), true), (dP (Zbr #[vs 2 0 y0_0.length y0_0.length] (y0_0)  y1_0 2 3), true), (dS (Zb E_iiiiiiAi y0_0), true), (dP (ZM #[ms E_iiiiiiAi L0] (L0)  y0_0  2), true)]) (by kernel_rfl) (Za (Ze (ZcQ #[vs 3 0 y0_0.length y0_0.length, vn] (y1_0) (y0_0.length)  false N c3 3 4 rfl (by decide) (by decide))) <| oR <| Za (Ze (ZaD #[vs 2 0 y0_0.length y0_0.length] (y0_0)  y2_0 N c2 2 4 rfl (by decide) (by decide))) <| oR <| Za (Ze (ZbQ #[vs 2 0 y0_0.length y0_0.length] (y0_0)  y1_0 N c1 2 3 rfl (by decide) (by decide))) <| oR <| Za (Ze (ZW #[ms E_iiiiiiAi L0] (L0)  y0_0 N c0  2 rfl (by decide) (by decide))) Zf) rfl (by decide) (by rfl) rr trivial
   | r1 y2_0 =>
    refine ZbL (fun z3 c3 => ?_)
    cases z3 with
    | r0 y3_0 =>
     refine Zcd (fun g4 => ?_) (fun g4 => ?_)
     ·
      subst g4
      by_cases g5 : a6 < a12
      ·
       exact Zan (r := (.r0 (true) : Zh)) (fu := 4000) (orc := (Zm [(1, true), (2, true)] [] [] [] [(0, (ZV (L0)  y0_0  2)), (1, (ZbP (y0_0)  y1_0 2 3)), (2, (Zbs (y0_0)  y2_0 2 4)), (3, (Zez (y1_0) (y0_0.length) (y2_0)  true 3 4 5))])) (live := []) (u := vT) (bl := []) (ob := [((decide (a6 < a12)), true), ((decide (a6 < a12)), true), (dP (ZcR #[vs 3 0 y0_0.length y0_0.length, vs 4 0 y2_0.length y2_0.length] (y1_0) (y0_0.length) (y2_0)  true 3 4 5), true), (dS (Zb E_iiiiiiAi y1_0), true), (dS (Zb E_iiiiiiAi y2_0), true), (dP (Zbb #[vs 2 0 y0_0.length y0_0.length] (y0_0)  y2_0 2 4), true), (dS (Zb E_iiiiiiAi y0_0), true), (dP (Zbr #[vs 2 0 y0_0.length y0_0.length] (y0_0)  y1_0 2 3), true), (dS (Zb E_iiiiiiAi y0_0), true), (dP (ZM #[ms E_iiiiiiAi L0] (L0)  y0_0  2), true)]) (by kernel_rfl) (oY <| oY <| Za (Ze (Ze0 #[vs 3 0 y0_0.length y0_0.length, vs 4 0 y2_0.length y2_0.length] (y1_0) (y0_0.length) (y2_0)  true N c3 3 4 5 rfl (by decide) (by decide))) <| oR <| oR <| Za (Ze (Zbt #[vs 2 0 y0_0.length y0_0.length] (y0_0)  y2_0 N c2 2 4 rfl (by decide) (by decide))) <| oR <| Za (Ze (ZbQ #[vs 2 0 y0_0.length y0_0.length] (y0_0)  y1_0 N c1 2 3 rfl (by decide) (by decide))) <| oR <| Za (Ze (ZW #[ms E_iiiiiiAi L0] (L0)  y0_0 N c0  2 rfl (by decide) (by decide))) Zf) rfl (by decide) (by rfl) rr trivial
      ·
       exact Zan (r := (.r0 (true) : Zh)) (fu := 4000) (orc := (Zm [(1, false), (2, false)] [] [] [] [(0, (ZV (L0)  y0_0  2)), (1, (ZbP (y0_0)  y1_0 2 3)), (2, (Zbs (y0_0)  y2_0 2 4)), (3, (Zez (y1_0) (y0_0.length) (y2_0)  true 3 4 5))])) (live := []) (u := vT) (bl := []) (ob := [((decide (a6 < a12)), false), ((decide (a6 < a12)), false), (dP (ZcR #[vs 3 0 y0_0.length y0_0.length, vs 4 0 y2_0.length y2_0.length] (y1_0) (y0_0.length) (y2_0)  true 3 4 5), true), (dS (Zb E_iiiiiiAi y1_0), true), (dS (Zb E_iiiiiiAi y2_0), true), (dP (Zbb #[vs 2 0 y0_0.length y0_0.length] (y0_0)  y2_0 2 4), true), (dS (Zb E_iiiiiiAi y0_0), true), (dP (Zbr #[vs 2 0 y0_0.length y0_0.length] (y0_0)  y1_0 2 3), true), (dS (Zb E_iiiiiiAi y0_0), true), (dP (ZM #[ms E_iiiiiiAi L0] (L0)  y0_0  2), true)]) (by kernel_rfl) (oN <| oN <| Za (Ze (Ze0 #[vs 3 0 y0_0.length y0_0.length, vs 4 0 y2_0.length y2_0.length] (y1_0) (y0_0.length) (y2_0)  true N c3 3 4 5 rfl (by decide) (by decide))) <| oR <| oR <| Za (Ze (Zbt #[vs 2 0 y0_0.length y0_0.length] (y0_0)  y2_0 N c2 2 4 rfl (by decide) (by decide))) <| oR <| Za (Ze (ZbQ #[vs 2 0 y0_0.length y0_0.length] (y0_0)  y1_0 N c1 2 3 rfl (by decide) (by decide))) <| oR <| Za (Ze (ZW #[ms E_iiiiiiAi L0] (L0)  y0_0 N c0  2 rfl (by decide) (by decide))) Zf) rfl (by decide) (by rfl) rr trivial
     ·
      obtain rfl : y3_0 = false := by simpa using g4
      exact Zan (r := (.r0 (false) : Zh)) (fu := 4000) (orc := (Zm [] [] [] [] [(0, (ZV (L0)  y0_0  2)), (1, (ZbP (y0_0)  y1_0 2 3)), (2, (Zbs (y0_0)  y2_0 2 4)), (3, (Zez (y1_0) (y0_0.length) (y2_0)  false 3 4 5))])) (live := []) (u := vf) (bl := []) (ob := [(dP (ZcR #[vs 3 0 y0_0.length y0_0.length, vs 4 0 y2_0.length y2_0.length] (y1_0) (y0_0.length) (y2_0)  false 3 4 5), true), (dS (Zb E_iiiiiiAi y1_0), true), (dS (Zb E_iiiiiiAi y2_0), true), (dP (Zbb #[vs 2 0 y0_0.length y0_0.length] (y0_0)  y2_0 2 4), true), (dS (Zb E_iiiiiiAi y0_0), true), (dP (Zbr #[vs 2 0 y0_0.length y0_0.length] (y0_0)  y1_0 2 3), true), (dS (Zb E_iiiiiiAi y0_0), true), (dP (ZM #[ms E_iiiiiiAi L0] (L0)  y0_0  2), true)]) (by kernel_rfl) (Za (Ze (Ze0 #[vs 3 0 y0_0.length y0_0.length, vs 4 0 y2_0.length y2_0.length] (y1_0) (y0_0.length) (y2_0)  false N c3 3 4 5 rfl (by decide) (by decide))) <| oR <| oR <| Za (Ze (Zbt #[vs 2 0 y0_0.length y0_0.length] (y0_0)  y2_0 N c2 2 4 rfl (by decide) (by decide))) <| oR <| Za (Ze (ZbQ #[vs 2 0 y0_0.length y0_0.length] (y0_0)  y1_0 N c1 2 3 rfl (by decide) (by decide))) <| oR <| Za (Ze (ZW #[ms E_iiiiiiAi L0] (L0)  y0_0 N c0  2 rfl (by decide) (by decide))) Zf) rfl (by decide) (by rfl) rr trivial

theorem ZhU (L0 : List R_iiiiiiAi) (a1 a2 a3 a4 a5 a6 : Int) (L7 : List R_ii) (a8 a9 a10 a11 a12 a13 a14 : Int) (L15 : List R_ii) (a16 : Int) (N : Nat) (r : Zh) (h : Zcw L0 a1 a2 a3 a4 a5 a6 L7 a8 a9 a10 a11 a12 a13 a14 L15 a16 N = some r) : LSpec Tryz.prog 3 #[ms E_iiiiiiAi L0, Value.agg #[vi a1, vi a2, vi a3, vi a4, vi a5, vi a6, ms E_ii L7, vi a8], Value.agg #[vi a9, vi a10, vi a11, vi a12, vi a13, vi a14, ms E_ii L15, vi a16]] [] (Zgk L0 a1 a2 a3 a4 a5 a6 L7 a8 a9 a10 a11 a12 a13 a14 L15 a16 r) (ZfT L0 a1 a2 a3 a4 a5 a6 L7 a8 a9 a10 a11 a12 a13 a14 L15 a16 r) :=
 ZoC ZbX Tryz.func3 (by kernel_rfl) (by kernel_rfl) (fun r => by cases r <;> exact Zad _ rfl) (ZiA L0 a1 a2 a3 a4 a5 a6 L7 a8 a9 a10 a11 a12 a13 a14 L15 a16 N) h

end Ev
end Go.Proofs.YtifdgbbbojccdaaGreat
/- Plain lemmas: machines step by step, lists by their places. -/
namespace Go.Proofs.YtifdgbbbojccdaaGreat
open Go.RowKit
namespace Ev
section
variable {X R : Type} {step : X → Option (X ⊕ R)} {n : Nat} {x y : X} {r : R}
theorem ZaX (h : step x = some (.inl y)) : ZaZ step (n + 1) x = ZaZ step n y := by simp [ZaZ, h]
theorem Zaz (h : step x = some (.inr r)) : ZaZ step (n + 1) x = some r := by simp [ZaZ, h]
theorem Zl3 {o : Option (X ⊕ R)} (h : o = some (.inl x)) : goM step n o = ZaZ step n x := by subst h; rfl
theorem ZrG {o : Option (X ⊕ R)} (h : o = some (.inr r)) : goM step n o = some r := by subst h; rfl
end
section
variable {α : Type}
theorem Zj7 {L : List α} {i : Nat} (h : i < L.length) (d : α) : L.take i ++ [L.getD i d] = L.take (i + 1) := by
 rw [List.take_succ_eq_append_getElem h, List.getD_eq_getElem?_getD, List.getElem?_eq_getElem h, Option.getD_some]
end
theorem Zd {α : Type} {c : Prop} [Decidable c] {a b r : α} (h : c) (e : a = r) : (if c then a else b) = r := by rw [if_pos h]; exact e
theorem Zq {α : Type} {c : Prop} [Decidable c] {a b r : α} (h : ¬ c) (e : b = r) : (if c then a else b) = r := by rw [if_neg h]; exact e
theorem Zam {α β : Type} {o : Option α} {a : α} {k : α → Option β} {r : Option β} (h : o = some a) (e : k a = r) : o.bind k = r := by rw [h]; exact e
theorem w64 {x : Int} (h1 : -9223372036854775808 ≤ x) (h2 : x ≤ 9223372036854775807) : IntKind.i64.wrap x = x := wrap_i64 ⟨h1, h2⟩
end Ev
end Go.Proofs.YtifdgbbbojccdaaGreat
/- Events that may be a run: plain. -/
namespace Go.Proofs.YtifdgbbbojccdaaGreat
open Go.RowKit
namespace Ev
namespace Os
set_option linter.unusedVariables false
set_option linter.unusedSimpArgs false
abbrev Rc := R_iiiiiiAi
abbrev ev (K : List Rc) (i : Nat) : Rc := K.getD i R_iiiiiiAi.z
theorem ZqY {L : List Rc} {N : Nat} : ∀ d v1 v2 f, v1.length = v2 → v2 + d = 30 → 1 ≤ v2 → d < f → (∀ x ∈ v1, x.a6.length ≤ 12) → ∃ K : List Rc, ZaZ (Zbj L N) f (.h1m1 v1 v2) = some (.r1 K) ∧ K ≠ [] ∧ K.length ≤ 30 ∧ ∀ x ∈ K, x.a6.length ≤ 12 := by
 intro d
 induction d with
 | zero =>
  intro v1 v2 f h1 h2 h3 hf hA
  obtain ⟨f, rfl⟩ : ∃ g, f = g + 1 := ⟨f - 1, by omega⟩
  refine ⟨v1, Zaz ?_, fun e => by subst e; simp at h1; omega, by omega, hA⟩
  show ZaA L N v1 v2 = _
  unfold ZaA
  by_cases c : (v2 : Int) < (L.length : Int)
  ·exact Zd c <| Zq (by omega) rfl
  ·exact Zq c rfl
 | succ d ih =>
  intro v1 v2 f h1 h2 h3 hf hA
  obtain ⟨f, rfl⟩ : ∃ g, f = g + 1 := ⟨f - 1, by omega⟩
  by_cases c : (v2 : Int) < (L.length : Int)
  ·obtain ⟨x, hs, hx⟩ : ∃ x : Rc, Zbj L N (.h1m1 v1 v2) = some (.inl (.h1m1 (v1 ++ [x]) (v2 + 1))) ∧ x.a6.length ≤ 12 := by
    by_cases c2 : (12 : Int) < (((L.getD v2 R_iiiiiiAi.z).a6.length : Nat) : Int)
    ·refine ⟨(⟨(L.getD v2 R_iiiiiiAi.z).a0, (L.getD v2 R_iiiiiiAi.z).a1, (L.getD v2 R_iiiiiiAi.z).a2, (L.getD v2 R_iiiiiiAi.z).a3, (L.getD v2 R_iiiiiiAi.z).a4, (L.getD v2 R_iiiiiiAi.z).a5, ((L.getD v2 R_iiiiiiAi.z).a6.take 12), (L.getD v2 R_iiiiiiAi.z).a7⟩ : Rc), ?_, by show (List.take 12 _).length ≤ 12; rw [List.length_take]; omega⟩
     show ZaA L N v1 v2 = _
     unfold ZaA
     exact Zd c <| Zd (by omega) <| Zd c2 <| Zd (by omega) rfl
    ·refine ⟨(⟨(L.getD v2 R_iiiiiiAi.z).a0, (L.getD v2 R_iiiiiiAi.z).a1, (L.getD v2 R_iiiiiiAi.z).a2, (L.getD v2 R_iiiiiiAi.z).a3, (L.getD v2 R_iiiiiiAi.z).a4, (L.getD v2 R_iiiiiiAi.z).a5, (L.getD v2 R_iiiiiiAi.z).a6, (L.getD v2 R_iiiiiiAi.z).a7⟩ : Rc), ?_, by show (L.getD v2 R_iiiiiiAi.z).a6.length ≤ 12; omega⟩
     show ZaA L N v1 v2 = _
     unfold ZaA
     exact Zd c <| Zd (by omega) <| Zq c2 <| Zd (by omega) rfl
   rw [ZaX hs]
   exact ih (v1 ++ [x]) (v2 + 1) f (by simp; omega) (by omega) (by omega) (by omega) fun y hy => by
    rcases List.mem_append.1 hy with h | h
    ·exact hA y h
    ·rw [List.mem_singleton.1 h]; exact hx
  ·refine ⟨v1, Zaz ?_, fun e => by subst e; simp at h1; omega, by omega, hA⟩
   show ZaA L N v1 v2 = _
   unfold ZaA
   exact Zq c rfl
theorem Zsa {L : List Rc} {N : Nat} (hN : 1000 ≤ N) : ZeQ L N = some .r0 ∨ ∃ K : List Rc, ZeQ L N = some (.r1 K) ∧ K ≠ [] ∧ K.length ≤ 30 ∧ ∀ x ∈ K, x.a6.length ≤ 12 := by
 obtain ⟨N', rfl⟩ : ∃ g, N = g + 1 := ⟨N - 1, by omega⟩
 by_cases c : (0 : Int) < (L.length : Int)
 ·refine .inr ?_
  obtain ⟨x, hs, hx⟩ : ∃ x : Rc, Zbj L (N' + 1) .h1m0 = some (.inl (.h1m1 [x] 1)) ∧ x.a6.length ≤ 12 := by
   by_cases c2 : (12 : Int) < (((L.getD 0 R_iiiiiiAi.z).a6.length : Nat) : Int)
   ·refine ⟨(⟨(L.getD 0 R_iiiiiiAi.z).a0, (L.getD 0 R_iiiiiiAi.z).a1, (L.getD 0 R_iiiiiiAi.z).a2, (L.getD 0 R_iiiiiiAi.z).a3, (L.getD 0 R_iiiiiiAi.z).a4, (L.getD 0 R_iiiiiiAi.z).a5, ((L.getD 0 R_iiiiiiAi.z).a6.take 12), (L.getD 0 R_iiiiiiAi.z).a7⟩ : Rc), ?_, by show (List.take 12 _).length ≤ 12; rw [List.length_take]; omega⟩
    show Zba L (N' + 1) = _
    unfold Zba
    exact Zd c <| Zd c2 rfl
   ·refine ⟨(⟨(L.getD 0 R_iiiiiiAi.z).a0, (L.getD 0 R_iiiiiiAi.z).a1, (L.getD 0 R_iiiiiiAi.z).a2, (L.getD 0 R_iiiiiiAi.z).a3, (L.getD 0 R_iiiiiiAi.z).a4, (L.getD 0 R_iiiiiiAi.z).a5, (L.getD 0 R_iiiiiiAi.z).a6, (L.getD 0 R_iiiiiiAi.z).a7⟩ : Rc), ?_, by show (L.getD 0 R_iiiiiiAi.z).a6.length ≤ 12; omega⟩
    show Zba L (N' + 1) = _
    unfold Zba
    exact Zd c <| Zq c2 rfl
  obtain ⟨K, h1, h2⟩ := ZqY (L := L) (N := N' + 1) 29 [x] 1 N' rfl (by omega) (by omega) (by omega) (fun y hy => by rw [List.mem_singleton.1 hy]; exact hx)
  exact ⟨K, (ZaX hs).trans h1, h2⟩
 ·refine .inl (Zaz (?_ : Zbj L (N' + 1) .h1m0 = _))
  show Zba L (N' + 1) = _
  unfold Zba
  exact Zq c rfl
theorem ZlT (a v k : Int) : ∀ M : List R_ii, ZdB (Zaw M a v) k = (decide (a = k) || ZdB M k)
 | [] => by simp [Zaw, ZdB]; rfl
 | x :: M => by
  unfold Zaw
  by_cases h : x.a0 = a
  ·rw [if_pos h]
   unfold ZdB
   rw [List.any_cons, List.any_cons, h]
   show ((a == k) || _) = _
   by_cases hk : a = k
   ·simp [hk]
   ·simp [hk]
  ·rw [if_neg h]
   have ih := ZlT a v k M
   unfold ZdB at ih ⊢
   rw [List.any_cons, List.any_cons, ih]
   cases (x.a0 == k) <;> cases (decide (a = k)) <;> rfl
theorem ZoM (a v k : Int) : ∀ M : List R_ii, ZaJ (Zaw M a v) k = if a = k then v else ZaJ M k
 | [] => by
  by_cases h : a = k
  ·rw [if_pos h]; simp [Zaw, ZaJ, h]
  ·rw [if_neg h]; simp [Zaw, ZaJ, h]
 | x :: M => by
  unfold Zaw
  by_cases h : x.a0 = a
  ·rw [if_pos h]
   by_cases hk : a = k
   ·rw [if_pos hk]; simp [ZaJ, hk]
   ·rw [if_neg hk]
    have h2 : ¬ x.a0 = k := fun e => hk (h.symm.trans e)
    simp [ZaJ, hk, h2]
  ·rw [if_neg h]
   have ih := ZoM a v k M
   by_cases hk : x.a0 = k
   ·have h2 : ¬ a = k := fun e => h (hk.trans e.symm)
    rw [if_neg h2]; simp [ZaJ, hk]
   ·have e1 : ∀ M', ZaJ (x :: M') k = ZaJ M' k := fun M' => by simp [ZaJ, hk]
    rw [e1, e1]; exact ih
def Zdd (K : List Rc) (t : Int) : Nat → Option Int
 | 0 => none
 | n + 1 => if (ev K n).a1 = t then some (ev K n).a5 else Zdd K t n
theorem ZfC {K : List Rc} {t : Int} {n : Nat} (e : (ev K n).a1 = t) : Zdd K t (n + 1) = some (ev K n).a5 := if_pos e
theorem Zgz {K : List Rc} {t : Int} {n : Nat} (e : ¬ (ev K n).a1 = t) : Zdd K t (n + 1) = Zdd K t n := if_neg e
structure Good (K : List Rc) (i : Nat) : Prop where
 b : ¬ (ev K i).a3 < 1
 m : ¬ (ev K i).a4 < (ev K i).a3
 e : ¬ (ev K i).a5 < (ev K i).a4
 d : ∀ k, k < i → (ev K k).a4 ≠ (ev K i).a4
 l : ∀ x, Zdd K (ev K i).a1 i = some x → x < (ev K i).a3
structure Inv (K : List Rc) (v1 v2 : List R_ii) (n : Nat) : Prop where
 m : ∀ k, ZdB v1 k = true ↔ ∃ j, j < n ∧ (ev K j).a4 = k
 h : ∀ t, ZdB v2 t = (Zdd K t n).isSome
 g : ∀ t x, Zdd K t n = some x → ZaJ v2 t = x
theorem Inv.next {K : List Rc} {v1 v2 : List R_ii} {n : Nat} (h : Inv K v1 v2 n) (q : Int) : Inv K (Zaw v1 (ev K n).a4 q) (Zaw v2 (ev K n).a1 (ev K n).a5) (n + 1) := by
 refine ⟨fun k => ?_, fun t => ?_, fun t x hx => ?_⟩
 ·rw [ZlT]
  simp only [Bool.or_eq_true, decide_eq_true_eq, h.m]
  constructor
  ·rintro (e | ⟨j, h1, h2⟩)
   ·exact ⟨n, by omega, e⟩
   ·exact ⟨j, by omega, h2⟩
  ·rintro ⟨j, h1, h2⟩
   by_cases e : j = n
   ·subst e; exact .inl h2
   ·exact .inr ⟨j, by omega, h2⟩
 ·rw [ZlT, h.h]
  by_cases e : (ev K n).a1 = t
  ·rw [ZfC e, decide_eq_true e]; rfl
  ·rw [Zgz e, decide_eq_false e]; rfl
 ·rw [ZoM]
  by_cases e : (ev K n).a1 = t
  ·rw [if_pos e]
   rw [ZfC e] at hx
   exact Option.some.inj hx
  ·rw [if_neg e]
   rw [Zgz e] at hx
   exact h.g t x hx
theorem ZqZ {K : List Rc} {N : Nat} (hK : K.length ≤ 100000) : ∀ d n v1 v2 f, n + d = K.length → d < f → Inv K v1 v2 n → (∀ i, i < n → Good K i) → ∃ b, ZaZ (Zae K N) f (.h1m0 v1 v2 n) = some (.r0 b) ∧ (b = true ↔ ∀ i, i < K.length → Good K i) := by
 intro d
 induction d with
 | zero =>
  intro n v1 v2 f hd hf hI hG
  obtain ⟨f, rfl⟩ : ∃ g, f = g + 1 := ⟨f - 1, by omega⟩
  refine ⟨true, Zaz ?_, fun _ i hi => hG i (by omega), fun _ => rfl⟩
  show Zu K N v1 v2 n = _
  unfold Zu
  exact Zq (by omega) rfl
 | succ d ih =>
  intro n v1 v2 f hd hf hI hG
  obtain ⟨f, rfl⟩ : ∃ g, f = g + 1 := ⟨f - 1, by omega⟩
  have bad : Zae K N (.h1m0 v1 v2 n) = some (.inr (.r0 false)) → ¬ Good K n → ∃ b, ZaZ (Zae K N) (f + 1) (.h1m0 v1 v2 n) = some (.r0 b) ∧ (b = true ↔ ∀ i, i < K.length → Good K i) := fun hs hg => ⟨false, Zaz hs, fun q => (by cases q), fun q => absurd (q n (by omega)) hg⟩
  have good : Zae K N (.h1m0 v1 v2 n) = some (.inl (.h1m0 (Zaw v1 (ev K n).a4 (n : Int)) (Zaw v2 (ev K n).a1 (ev K n).a5) (n + 1))) → Good K n → ∃ b, ZaZ (Zae K N) (f + 1) (.h1m0 v1 v2 n) = some (.r0 b) ∧ (b = true ↔ ∀ i, i < K.length → Good K i) := fun hs hg => by
   rw [ZaX hs]
   exact ih (n + 1) _ _ f (by omega) (by omega) (hI.next _) fun i hi => by
    by_cases e : i = n
    ·subst e; exact hg
    ·exact hG i (by omega)
  have hs : ∀ r, Zu K N v1 v2 n = r → Zae K N (.h1m0 v1 v2 n) = r := fun r h => h
  have h0 : (n : Int) < (K.length : Int) := by omega
  have hh := hI.h (ev K n).a1
  by_cases c0 : ZdB v2 (ev K n).a1 = true
  ·obtain ⟨x, hx⟩ : ∃ x, Zdd K (ev K n).a1 n = some x := Option.isSome_iff_exists.1 (by rw [← hh]; exact c0)
   have hg := hI.g _ _ hx
   by_cases c1 : (ev K n).a3 < 1
   ·exact bad (hs _ (by unfold Zu; exact Zd h0 <| Zd c0 <| Zd c1 rfl)) fun q => q.b c1
   by_cases c2 : (ev K n).a4 < (ev K n).a3
   ·exact bad (hs _ (by unfold Zu; exact Zd h0 <| Zd c0 <| Zq c1 <| Zd c2 rfl)) fun q => q.m c2
   by_cases c3 : (ev K n).a5 < (ev K n).a4
   ·exact bad (hs _ (by unfold Zu; exact Zd h0 <| Zd c0 <| Zq c1 <| Zq c2 <| Zd c3 rfl)) fun q => q.e c3
   by_cases c4 : (ev K n).a3 ≤ ZaJ v2 (ev K n).a1
   ·exact bad (hs _ (by unfold Zu; exact Zd h0 <| Zd c0 <| Zq c1 <| Zq c2 <| Zq c3 <| Zd c4 rfl)) fun q => by have := q.l x hx; omega
   by_cases c5 : ZdB v1 (ev K n).a4 = true
   ·exact bad (hs _ (by unfold Zu; exact Zd h0 <| Zd c0 <| Zq c1 <| Zq c2 <| Zq c3 <| Zq c4 <| Zd c5 rfl)) fun q => by
     obtain ⟨j, h1, h2⟩ := (hI.m _).1 c5
     exact q.d j h1 h2
   exact good (hs _ (by unfold Zu; exact Zd h0 <| Zd c0 <| Zq c1 <| Zq c2 <| Zq c3 <| Zq c4 <| Zq c5 <| Zd (by omega) rfl)) ⟨c1, c2, c3, fun k hk e => c5 ((hI.m _).2 ⟨k, hk, e⟩), fun y hy => by rw [hx] at hy; injection hy with hy; omega⟩
  ·have hx : Zdd K (ev K n).a1 n = none := by
    cases e : Zdd K (ev K n).a1 n with
    | none => rfl
    | some y => rw [e] at hh; exact absurd hh c0
   by_cases c1 : (ev K n).a3 < 1
   ·exact bad (hs _ (by unfold Zu; exact Zd h0 <| Zq c0 <| Zd c1 rfl)) fun q => q.b c1
   by_cases c2 : (ev K n).a4 < (ev K n).a3
   ·exact bad (hs _ (by unfold Zu; exact Zd h0 <| Zq c0 <| Zq c1 <| Zd c2 rfl)) fun q => q.m c2
   by_cases c3 : (ev K n).a5 < (ev K n).a4
   ·exact bad (hs _ (by unfold Zu; exact Zd h0 <| Zq c0 <| Zq c1 <| Zq c2 <| Zd c3 rfl)) fun q => q.e c3
   by_cases c5 : ZdB v1 (ev K n).a4 = true
   ·exact bad (hs _ (by unfold Zu; exact Zd h0 <| Zq c0 <| Zq c1 <| Zq c2 <| Zq c3 <| Zd c5 rfl)) fun q => by
     obtain ⟨j, h1, h2⟩ := (hI.m _).1 c5
     exact q.d j h1 h2
   exact good (hs _ (by unfold Zu; exact Zd h0 <| Zq c0 <| Zq c1 <| Zq c2 <| Zq c3 <| Zq c5 <| Zd (by omega) rfl)) ⟨c1, c2, c3, fun k hk e => c5 ((hI.m _).2 ⟨k, hk, e⟩), fun y hy => by rw [hx] at hy; cases hy⟩
theorem Zqq {K : List Rc} {N : Nat} (hK : K.length ≤ 100) (hN : 1000 ≤ N) : ∃ b, Zeg K N = some (.r0 b) ∧ (b = true ↔ ∀ i, i < K.length → Good K i) :=
 ZqZ (by omega) K.length 0 [] [] N (by omega) (by omega) ⟨fun k => ⟨fun h => by simp [ZdB] at h, fun ⟨j, h, _⟩ => by omega⟩, fun t => rfl, fun t x h => by cases h⟩ fun i hi => by omega
theorem Zra {K : List Rc} (h : ∀ i, i < K.length → Good K i) : K.Pairwise fun a b => ZX a ≠ ZX b := by
 rw [List.pairwise_iff_getElem]
 intro i j hi hj hij e
 have g := (h j hj).d i hij
 have e1 : ev K i = K[i] := by simp [ev, List.getD_eq_getElem?_getD, hi]
 have e2 : ev K j = K[j] := by simp [ev, List.getD_eq_getElem?_getD, hj]
 rw [e1, e2] at g
 exact g e
theorem Zqr {K : List Rc} (h : ∀ i, i < K.length → Good K i) : (Zdq ZX K).Pairwise fun a b => ZX a < ZX b := Zn9 ZX (Zra h)
theorem Zrb {K : List Rc} {N : Nat} (hK : K.length ≤ 100) {M : List Rc} (hM : M.length = K.length) (hA : ∀ x ∈ M, x.a6.length ≤ 100000) : ∀ d n f, n + d = K.length → d < f → ZaZ (Zbm K N) f (.h1m1 M n) = some (.r2 M) := by
 intro d
 induction d with
 | zero =>
  intro n f hd hf
  obtain ⟨f, rfl⟩ : ∃ g, f = g + 1 := ⟨f - 1, by omega⟩
  refine Zaz ?_
  show Zbc K N M n = _
  unfold Zbc
  exact Zq (by omega) rfl
 | succ d ih =>
  intro n f hd hf
  obtain ⟨f, rfl⟩ : ∃ g, f = g + 1 := ⟨f - 1, by omega⟩
  have hn : n < M.length := by omega
  have e : M.set n (ev M n) = M := by
   have e1 : ev M n = M[n] := by simp [ev, List.getD_eq_getElem?_getD, hn]
   rw [e1]; exact List.set_getElem_self hn
  have hs : Zbm K N (.h1m1 M n) = some (.inl (.h1m1 (M.set n (ev M n)) (n + 1))) := by
   show Zbc K N M n = _
   unfold Zbc
   refine Zd (by omega) <| Zd hn <| Zam (a := .r0) ?_ <| Zd (by omega) rfl
   unfold Za4
   refine if_pos (hA _ ?_)
   have e1 : M.getD n R_iiiiiiAi.z = M[n] := by simp [List.getD_eq_getElem?_getD, hn]
   rw [e1]; exact List.getElem_mem hn
  rw [ZaX hs, e]
  exact ih (n + 1) f (by omega) (by omega)
theorem Zqs {K : List Rc} {N : Nat} (hK : K.length ≤ 100) (hne : K ≠ []) (hN : 1000 ≤ N) (hA : ∀ x ∈ K, x.a6.length ≤ 100000) (h : ∀ i, i < K.length → Good K i) : Zcv K N = some (.r2 (Zdq ZX K)) := by
 obtain ⟨b, h1, h2⟩ := Zqq (N := N) hK hN
 obtain rfl : b = true := h2.2 h
 have h3 : K.length ≠ 0 := fun e => hne (List.length_eq_zero_iff.1 e)
 refine (Zl3 (x := .h1m1 (Zdq ZX K) 0) ?_).trans (Zrb hK (ZcA ZX K).length_eq (fun x hx => hA x ((ZcA ZX K).subset hx)) K.length 0 N (by omega) (by omega))
 unfold Zcp
 have hc : Z4 K N = some .r1 := by
  unfold Z4
  exact Zq (by omega) <| Zd (by omega) rfl
 have hf : Z6 K N = some (.r0 (Zdq ZX K)) := by
  unfold Z6
  exact if_pos ⟨Zqr h, by omega⟩
 exact Zam h1 <| Zq (by decide) <| Zam hc <| Zam hf rfl
theorem Zrc {K : List Rc} {N : Nat} (hK : K.length ≤ 100) (hN : 1000 ≤ N) (h : ¬ ∀ i, i < K.length → Good K i) : Zcv K N = some .r0 := by
 obtain ⟨b, h1, h2⟩ := Zqq (N := N) hK hN
 have hb : b = false := by
  cases b with
  | false => rfl
  | true => exact absurd (h2.1 rfl) h
 subst hb
 refine ZrG (?_ : Zcp K N = _)
 unfold Zcp
 exact Zam h1 <| Zd (by decide) rfl
theorem Zrd {N : Nat} (hN : 1000 ≤ N) : Zgv N = some .r0 := by
 obtain ⟨N', rfl⟩ : ∃ g, N = g + 1 := ⟨N - 1, by omega⟩
 have h1 : Zfh (N' + 1) = some .r0 := by
  show ZaZ (ZbM (N' + 1)) (N' + 1) .h1m0 = _
  exact Zaz (show ZbM (N' + 1) .h1m0 = some (.inr .r0) from rfl)
 have h2 : ZdX (N' + 1) = some (.inl .h1m0) := by
  unfold ZdX
  exact Zam h1 <| Zam (show ZaE (N' + 1) = some .r0 from rfl) <| Zam (show ZC ([] : List Rc) (N' + 1) = some .r0 from rfl) rfl
 exact (Zl3 h2).trans (Zaz (show ZcY (N' + 1) .h1m0 = some (.inr .r0) from rfl))
end Os
end Ev
end Go.Proofs.YtifdgbbbojccdaaGreat
/- The document sorts: plain. -/
namespace Go.Proofs.YtifdgbbbojccdaaGreat
open Go.RowKit
namespace Ev
namespace Os
set_option linter.unusedVariables false
set_option linter.unusedSimpArgs false
theorem Zp7 {K : List Rc} {i N : Nat} (hK : K.length ≤ 100) (hi : i < K.length) : ∀ (n : Nat) (fl : Bool) (v : Int) (f : Nat), v = (n : Int) - 1 → n ≤ i → n < f → ∃ b, ZaZ (Zay K (i : Int) N) f (.h1m0 fl v) = some (.r0 b) ∧ (b = true ↔ (∀ k, k < n → (ev K k).a4 ≠ (ev K i).a4) ∧ (fl = true → ∀ x, Zdd K (ev K i).a1 n = some x → x < (ev K i).a3)) := by
 intro n
 induction n with
 | zero =>
  intro fl v f hv hn hf
  obtain ⟨f, rfl⟩ : ∃ g, f = g + 1 := ⟨f - 1, by omega⟩
  refine ⟨true, Zaz ?_, fun _ => ⟨fun k hk => by omega, fun _ x hx => by cases hx⟩, fun _ => rfl⟩
  show Zai K (i : Int) N fl v = _
  unfold Zai
  cases fl with
  | true => exact Zd rfl <| Zq (by omega) rfl
  | false => exact Zq (by decide) <| Zq (by omega) rfl
 | succ n ih =>
  intro fl v f hv hn hf
  obtain ⟨f, rfl⟩ : ∃ g, f = g + 1 := ⟨f - 1, by omega⟩
  have e1 : v.toNat = n := by omega
  have e2 : IntKind.i64.wrap (v - 1) = (n : Int) - 1 := by rw [w64 (by omega) (by omega)]; omega
  have e3 : (i : Int).toNat = i := Int.toNat_natCast i
  have hs : ∀ r, Zai K (i : Int) N fl v = r → Zay K (i : Int) N (.h1m0 fl v) = r := fun r h => h
  by_cases c4 : (ev K n).a4 = (ev K i).a4
  ·refine ⟨false, Zaz (hs _ ?_), fun q => (by cases q), fun q => absurd c4 (q.1 n (by omega))⟩
   unfold Zai
   rw [e1, e3]
   cases fl with
   | true => exact Zd rfl <| Zd (by omega) <| Zd (by omega) <| Zd c4 rfl
   | false => exact Zq (by decide) <| Zd (by omega) <| Zd (by omega) <| Zd c4 rfl
  have near : ∀ k, k < n + 1 → (k < n → (ev K k).a4 ≠ (ev K i).a4) → (ev K k).a4 ≠ (ev K i).a4 := fun k hk h => by
   by_cases e : k = n
   ·subst e; exact c4
   ·exact h (by omega)
  cases fl with
  | false =>
   obtain ⟨b, h1, h2⟩ := ih false ((n : Int) - 1) f rfl (by omega) (by omega)
   have hst : Zay K (i : Int) N (.h1m0 false v) = some (.inl (.h1m0 false ((n : Int) - 1))) := by
    refine hs _ ?_
    unfold Zai
    rw [e1, e3, e2]
    exact Zq (by decide) <| Zd (by omega) <| Zd (by omega) <| Zq c4 rfl
   exact ⟨b, (ZaX hst).trans h1, h2.trans ⟨fun q => ⟨fun k hk => near k hk (q.1 k), fun q2 => by cases q2⟩, fun q => ⟨fun k hk => q.1 k (by omega), fun q2 => by cases q2⟩⟩⟩
  | true =>
   by_cases c1 : (ev K n).a1 = (ev K i).a1
   ·by_cases c5 : (ev K i).a3 ≤ (ev K n).a5
    ·refine ⟨false, Zaz (hs _ ?_), fun q => (by cases q), fun q => ?_⟩
     ·unfold Zai
      rw [e1, e3]
      exact Zd rfl <| Zd (by omega) <| Zd (by omega) <| Zq c4 <| Zd c1 <| Zd c5 rfl
     ·have := q.2 rfl _ (ZfC c1); omega
    ·obtain ⟨b, h1, h2⟩ := ih false ((n : Int) - 1) f rfl (by omega) (by omega)
     have hst : Zay K (i : Int) N (.h1m0 true v) = some (.inl (.h1m0 false ((n : Int) - 1))) := by
      refine hs _ ?_
      unfold Zai
      rw [e1, e3, e2]
      exact Zd rfl <| Zd (by omega) <| Zd (by omega) <| Zq c4 <| Zd c1 <| Zq c5 rfl
     exact ⟨b, (ZaX hst).trans h1, h2.trans ⟨fun q => ⟨fun k hk => near k hk (q.1 k), fun _ x hx => by rw [ZfC c1] at hx; injection hx with hx; omega⟩, fun q => ⟨fun k hk => q.1 k (by omega), fun q2 => by cases q2⟩⟩⟩
   ·obtain ⟨b, h1, h2⟩ := ih true ((n : Int) - 1) f rfl (by omega) (by omega)
    have hst : Zay K (i : Int) N (.h1m0 true v) = some (.inl (.h1m0 true ((n : Int) - 1))) := by
     refine hs _ ?_
     unfold Zai
     rw [e1, e3, e2]
     exact Zd rfl <| Zd (by omega) <| Zd (by omega) <| Zq c4 <| Zq c1 rfl
    exact ⟨b, (ZaX hst).trans h1, h2.trans ⟨fun q => ⟨fun k hk => near k hk (q.1 k), fun _ x hx => q.2 rfl x (by rw [Zgz c1] at hx; exact hx)⟩, fun q => ⟨fun k hk => q.1 k (by omega), fun _ x hx => q.2 rfl x (by rw [Zgz c1]; exact hx)⟩⟩⟩
theorem ZnL {K : List Rc} {i N : Nat} (hK : K.length ≤ 100) (hi : i < K.length) (hN : 1000 ≤ N) : ∃ b, Ze6 K (i : Int) N = some (.r0 b) ∧ (b = true ↔ Good K i) := by
 have e3 : (i : Int).toNat = i := Int.toNat_natCast i
 have hs : ∀ r, Zbk K (i : Int) N = r → goM (Zay K (i : Int) N) N (Zbk K (i : Int) N) = goM (Zay K (i : Int) N) N r := fun r h => by rw [h]
 by_cases c1 : (ev K i).a3 < 1
 ·refine ⟨false, (hs (some (.inr (.r0 false))) ?_).trans rfl, fun q => (by cases q), fun q => absurd c1 q.b⟩
  unfold Zbk; rw [e3]
  exact Zd (by omega) <| Zd hi <| Zd c1 rfl
 by_cases c2 : (ev K i).a4 < (ev K i).a3
 ·refine ⟨false, (hs (some (.inr (.r0 false))) ?_).trans rfl, fun q => (by cases q), fun q => absurd c2 q.m⟩
  unfold Zbk; rw [e3]
  exact Zd (by omega) <| Zd hi <| Zq c1 <| Zd c2 rfl
 by_cases c3 : (ev K i).a5 < (ev K i).a4
 ·refine ⟨false, (hs (some (.inr (.r0 false))) ?_).trans rfl, fun q => (by cases q), fun q => absurd c3 q.e⟩
  unfold Zbk; rw [e3]
  exact Zd (by omega) <| Zd hi <| Zq c1 <| Zq c2 <| Zd c3 rfl
 obtain ⟨b, h1, h2⟩ := Zp7 (N := N) hK hi i true ((i : Int) - 1) N rfl (Nat.le_refl _) (by omega)
 refine ⟨b, (hs (some (.inl (.h1m0 true ((i : Int) - 1)))) ?_).trans h1, h2.trans ⟨fun q => ⟨c1, c2, c3, q.1, q.2 rfl⟩, fun q => ⟨q.d, fun _ => q.l⟩⟩⟩
 unfold Zbk; rw [e3, w64 (by omega) (by omega)]
 exact Zd (by omega) <| Zd hi <| Zq c1 <| Zq c2 <| Zq c3 rfl
def ins (v : List Rc) (j : Nat) (x : Rc) : List Rc := v.take j ++ x :: v.drop j
theorem ZnM (v : List Rc) (j : Nat) (x : Rc) : (ins v j x).Perm (x :: v) := by
 unfold ins
 have h := List.perm_middle (a := x) (l₁ := v.take j) (l₂ := v.drop j)
 rwa [List.take_append_drop] at h
theorem Zqt {v : List Rc} {j : Nat} {x : Rc} (hs : v.Pairwise fun a b => ZX a < ZX b) (h1 : ∀ a ∈ v.take j, ZX a < ZX x) (h2 : ∀ a ∈ v.drop j, ZX x < ZX a) : (ins v j x).Pairwise fun a b => ZX a < ZX b := by
 unfold ins
 refine List.pairwise_append.2 ⟨hs.sublist (List.take_sublist _ _), List.pairwise_cons.2 ⟨h2, hs.sublist (List.drop_sublist _ _)⟩, fun a ha b hb => ?_⟩
 have := h1 a ha
 rcases List.mem_cons.1 hb with rfl | hb
 ·exact this
 ·have := h2 b hb; omega
theorem ZnN {v : List Rc} {j : Nat} (h : j < v.length) : ev v j = v[j] := by simp [ev, List.getD_eq_getElem?_getD, h]
theorem Zre {K v : List Rc} {n N : Nat} (hK : K.length ≤ 100) (hv : v.length ≤ 100) (hn : n < K.length) (hs : v.Pairwise fun a b => ZX a < ZX b) (hd : ∀ a ∈ v, ZX a ≠ ZX (ev K n)) : ∀ d j f, j + d = v.length → d < f → (∀ a ∈ v.take j, ZX a < ZX (ev K n)) → ∃ V g, ZaZ (Zt K N) f (.h2m1 v n j) = ZaZ (Zt K N) g (.h1m1 V (n + 1)) ∧ f ≤ g + d + 1 ∧ V.Perm (ev K n :: v) ∧ V.Pairwise fun a b => ZX a < ZX b := by
 intro d
 induction d with
 | zero =>
  intro j f hj hf h1
  obtain ⟨f, rfl⟩ : ∃ g, f = g + 1 := ⟨f - 1, by omega⟩
  obtain rfl : j = v.length := by omega
  have hins : ins v v.length (ev K n) = v ++ [ev K n] := by simp [ins]
  have hst : Zt K N (.h2m1 v n v.length) = some (.inl (.h1m1 (ins v v.length (ev K n)) (n + 1))) := by
   show Za7 K N v n v.length = _
   unfold Za7
   rw [hins, Nat.sub_zero]
   by_cases c : v.length = 0
   ·have : v = [] := List.length_eq_zero_iff.1 c
    subst this
    exact Zq (by omega) <| Zd (by omega) <| Zd rfl <| Zd hn <| Zd (by omega) rfl
   ·rw [List.take_length]
    exact Zq (by omega) <| Zd (by omega) <| Zq c <| Zd (by omega) <| Zd hn <| Zd (by omega) rfl
  exact ⟨_, f, ZaX hst, by omega, ZnM _ _ _, Zqt hs h1 (by simp)⟩
 | succ d ih =>
  intro j f hj hf h1
  obtain ⟨f, rfl⟩ : ∃ g, f = g + 1 := ⟨f - 1, by omega⟩
  have hjl : j < v.length := by omega
  have e1 := ZnN hjl
  by_cases c : (ev v j).a4 < (ev K n).a4
  ·have hst : Zt K N (.h2m1 v n j) = some (.inl (.h2m1 v n (j + 1))) := by
    show Za7 K N v n j = _
    unfold Za7
    exact Zd (by omega) <| Zd hn <| Zd c <| Zd (by omega) rfl
   obtain ⟨V, g, q1, q2, q3⟩ := ih (j + 1) f (by omega) (by omega) (fun a ha => by
    rw [← Zj7 hjl R_iiiiiiAi.z] at ha
    rcases List.mem_append.1 ha with h | h
    ·exact h1 a h
    ·rw [List.mem_singleton.1 h]; exact c)
   exact ⟨V, g, (ZaX hst).trans q1, by omega, q3⟩
  ·have hdr : (v.drop j).take (v.length - j) = v.drop j := List.take_of_length_le (by rw [List.length_drop]; exact Nat.le_refl _)
   have h2 : ∀ a ∈ v.drop j, ZX (ev K n) < ZX a := fun a ha => by
    obtain ⟨i, hi, rfl⟩ := List.mem_iff_getElem.1 ha
    rw [List.getElem_drop]
    have hil : j + i < v.length := by rw [List.length_drop] at hi; omega
    have hne := hd v[j] (List.getElem_mem hjl)
    have hle : ¬ ZX v[j] < ZX (ev K n) := by rw [e1] at c; exact c
    by_cases e : i = 0
    ·subst e
     show ZX (ev K n) < ZX v[j]
     omega
    ·have := List.pairwise_iff_getElem.1 hs j (j + i) hjl hil (by omega)
     omega
   have hst : Zt K N (.h2m1 v n j) = some (.inl (.h1m1 (ins v j (ev K n)) (n + 1))) := by
    show Za7 K N v n j = _
    unfold Za7
    rw [hdr, Nat.sub_zero]
    by_cases c0 : j = 0
    ·subst c0
     exact Zd (by omega) <| Zd hn <| Zq c <| Zd rfl <| Zd (by omega) <| Zd (by omega) rfl
    ·have e2 : ins v j (ev K n) = (v.take j ++ [ev K n]) ++ v.drop j := by simp [ins]
     rw [e2]
     exact Zd (by omega) <| Zd hn <| Zq c <| Zq c0 <| Zd (by omega) <| Zd (by omega) <| Zd (by omega) <| Zd (by omega) rfl
   exact ⟨_, f, ZaX hst, by omega, ZnM _ _ _, Zqt hs h1 h2⟩
theorem Zp8 {K : List Rc} {N : Nat} (hK : K.length ≤ 100) (hN : 1000 ≤ N) : ∀ d n v f, n + d = K.length → 200 * d < f → v.Perm (K.take n) → (v.Pairwise fun a b => ZX a < ZX b) → (∀ i, i < n → Good K i) →
  ((∀ i, i < K.length → Good K i) ∧ ∃ V : List Rc, ZaZ (Zt K N) f (.h1m1 v n) = some (.r1 V) ∧ V.Perm K ∧ V.Pairwise fun a b => ZX a < ZX b) ∨ ((¬ ∀ i, i < K.length → Good K i) ∧ ZaZ (Zt K N) f (.h1m1 v n) = some (.r0 220)) := by
 intro d
 induction d with
 | zero =>
  intro n v f hd hf hp hs hG
  obtain ⟨f, rfl⟩ : ∃ g, f = g + 1 := ⟨f - 1, by omega⟩
  refine .inl ⟨fun i hi => hG i (by omega), v, Zaz ?_, by rwa [List.take_of_length_le (by omega)] at hp, hs⟩
  show Za6 K N v n = _
  unfold Za6
  exact Zq (by omega) rfl
 | succ d ih =>
  intro n v f hd hf hp hs hG
  obtain ⟨f, rfl⟩ : ∃ g, f = g + 1 := ⟨f - 1, by omega⟩
  have hn : n < K.length := by omega
  have hvl : v.length = n := by rw [hp.length_eq, List.length_take]; omega
  obtain ⟨b, a1, a2⟩ := ZnL (N := N) hK hn hN
  cases b with
  | false =>
   refine .inr ⟨fun q => absurd (a2.2 (q n hn)) (by decide), Zaz ?_⟩
   show Za6 K N v n = _
   unfold Za6
   exact Zd (by omega) <| Zam a1 <| Zd (by decide) rfl
  | true =>
   have hg := a2.1 rfl
   have hst : Zt K N (.h1m1 v n) = some (.inl (.h2m1 v n 0)) := by
    show Za6 K N v n = _
    unfold Za6
    exact Zd (by omega) <| Zam a1 <| Zq (by decide) rfl
   obtain ⟨V, g, q1, q2, q3, q4⟩ := Zre (N := N) hK (by omega) hn hs (fun a ha e => by
    have hm : a ∈ K.take n := hp.subset ha
    obtain ⟨i, hi, rfl⟩ := List.mem_iff_getElem.1 hm
    have hin : i < n := by rw [List.length_take] at hi; omega
    refine hg.d i hin ?_
    rw [ZnN (show i < K.length by omega)]
    rw [List.getElem_take] at e
    exact e) v.length 0 f (by omega) (by omega) (fun a ha => by simp at ha)
   have hst2 := (ZaX (n := f) hst).trans q1
   rw [hst2]
   refine ih (n + 1) V g (by omega) (by omega) ?_ q4 fun i hi => by
    by_cases e : i = n
    ·subst e; exact hg
    ·exact hG i (by omega)
   rw [← Zj7 hn R_iiiiiiAi.z]
   exact q3.trans ((hp.cons _).trans (List.perm_append_singleton _ _).symm)
theorem Zrf {K : List Rc} {N : Nat} (hK : K.length ≤ 100) (hne : K ≠ []) (hN : 90000 ≤ N) : ((∀ i, i < K.length → Good K i) ∧ Zb1 K N = some (.r1 (Zdq ZX K))) ∨ ((¬ ∀ i, i < K.length → Good K i) ∧ Zb1 K N = some (.r0 220)) := by
 have hl : 0 < K.length := Nat.pos_of_ne_zero fun e => hne (List.length_eq_zero_iff.1 e)
 obtain ⟨N', hN'⟩ : ∃ g, N = (g + 1) + 1 := ⟨N - 2, by omega⟩
 obtain ⟨b, a1, a2⟩ := ZnL (N := N) hK hl (by omega)
 have hgo : ∀ r, ZaZ (Zt K N) N .h1m0 = r → Zb1 K N = r := fun r h => h
 cases b with
 | false =>
  refine .inr ⟨fun q => absurd (a2.2 (q 0 hl)) (by decide), hgo _ ?_⟩
  have hst : Zt K N .h1m0 = some (.inr (.r0 220)) := by
   show Zbd K N = _
   unfold Zbd
   exact Zd (by omega) <| Zam a1 <| Zd (by decide) rfl
  conv => lhs; arg 2; rw [hN']
  exact Zaz hst
 | true =>
  have hg := a2.1 rfl
  have h1 : Zt K N .h1m0 = some (.inl .h2m0) := by
   show Zbd K N = _
   unfold Zbd
   exact Zd (by omega) <| Zam a1 <| Zq (by decide) rfl
  have h2 : Zt K N .h2m0 = some (.inl (.h1m1 [ev K 0] 1)) := by
   show Zce K N = _
   unfold Zce
   exact Zd hl rfl
  have hit : ZaZ (Zt K N) N .h1m0 = ZaZ (Zt K N) N' (.h1m1 [ev K 0] 1) := by
   conv => lhs; arg 2; rw [hN']
   exact (ZaX h1).trans (ZaX h2)
  have ht : K.take 1 = [ev K 0] := by
   have := Zj7 (L := K) (i := 0) hl R_iiiiiiAi.z
   simpa using this.symm
  have hg1 : ∀ i, i < 1 → Good K i := fun i hi => by
   rw [Nat.lt_one_iff.1 hi]
   exact hg
  rcases Zp8 (N := N) hK (by omega) (K.length - 1) 1 [ev K 0] N' (by omega) (by omega) (by rw [ht]) (by simp) hg1 with ⟨q, V, v1, v2, v3⟩ | ⟨q, v1⟩
  ·have : V = Zdq ZX K := Zlp (key := ZX) (v2.trans (ZcA ZX K).symm) (v3.imp fun h => by omega) (Zqr q)
   subst this
   exact .inl ⟨q, hgo _ (hit.trans v1)⟩
  ·exact .inr ⟨q, hgo _ (hit.trans v1)⟩
theorem Zqu {M : List R_ii} {N : Nat} (hM : M.length ≤ 1000) : ∀ d i f, i + d = M.length → d < f → ZaZ (ZcZ M M N) f (.h1m0 i) = some (.r0 true) := by
 intro d
 induction d with
 | zero =>
  intro i f hd hf
  obtain ⟨f, rfl⟩ : ∃ g, f = g + 1 := ⟨f - 1, by omega⟩
  refine Zaz ?_
  show Zb2 M M N i = _
  unfold Zb2
  exact Zq (by omega) rfl
 | succ d ih =>
  intro i f hd hf
  obtain ⟨f, rfl⟩ : ∃ g, f = g + 1 := ⟨f - 1, by omega⟩
  refine (ZaX (y := .h1m0 (i + 1)) ?_).trans (ih (i + 1) f (by omega) (by omega))
  show Zb2 M M N i = _
  unfold Zb2
  exact Zd (by omega) <| Zd (by omega) <| Zq (fun q => q ⟨rfl, rfl⟩) <| Zd (by omega) rfl
theorem Zp9 {x : Rc} {N : Nat} (hx : x.a6.length ≤ 1000) (hN : 2000 ≤ N) : Zbe x.a0 x.a1 x.a2 x.a3 x.a4 x.a5 x.a6 x.a7 x.a0 x.a1 x.a2 x.a3 x.a4 x.a5 x.a6 x.a7 N = some (.r0 true) := by
 have h : Zgx x.a6 x.a6 N = some (.r0 true) := by
  refine (Zl3 (x := .h1m0 0) ?_).trans (Zqu hx x.a6.length 0 N (by omega) (by omega))
  unfold Zfm
  exact Zq (fun q => q rfl) rfl
 unfold Zbe
 exact Zd rfl <| Zd rfl <| Zd rfl <| Zd rfl <| Zd rfl <| Zd rfl <| Zd rfl <| Zam h rfl
theorem Zqv {S : List Rc} {N : Nat} (hN : 2000 ≤ N) (hA : ∀ x ∈ S, x.a6.length ≤ 1000) (hS : S.length ≤ 100) : ∀ d i f, i + d = S.length → d < f → ZaZ (ZbG S S.length S N) f (.h1m0 i) = some (.r0 true) := by
 intro d
 induction d with
 | zero =>
  intro i f hd hf
  obtain ⟨f, rfl⟩ : ∃ g, f = g + 1 := ⟨f - 1, by omega⟩
  refine Zaz ?_
  show ZaH S S.length S N i = _
  unfold ZaH
  exact Zq (by omega) rfl
 | succ d ih =>
  intro i f hd hf
  obtain ⟨f, rfl⟩ : ∃ g, f = g + 1 := ⟨f - 1, by omega⟩
  refine (ZaX (y := .h1m0 (i + 1)) ?_).trans (ih (i + 1) f (by omega) (by omega))
  show ZaH S S.length S N i = _
  unfold ZaH
  have hi : i < S.length := by omega
  exact Zd (by omega) <| Zd hi <| Zd hi <| Zam (Zp9 (x := ev S i) (hA _ (by rw [ZnN hi]; exact List.getElem_mem hi)) hN) <| Zq (by decide) <| Zd (by omega) rfl
theorem Zrg {S : List Rc} {N : Nat} (hN : 2000 ≤ N) (hA : ∀ x ∈ S, x.a6.length ≤ 1000) (hS : S.length ≤ 100) : ZdI S S.length S N = some (.r0 true) := by
 refine (Zl3 (x := .h1m0 0) ?_).trans (Zqv hN hA hS S.length 0 N (by omega) (by omega))
 unfold ZcK
 exact Zq (fun q => q rfl) rfl
theorem runs (L : List Rc) (a1 a2 a3 a4 a5 a6 : Int) (L7 : List R_ii) (a8 a9 a10 a11 a12 a13 a14 : Int) (L15 : List R_ii) (a16 : Int) : Zcw L a1 a2 a3 a4 a5 a6 L7 a8 a9 a10 a11 a12 a13 a14 L15 a16 100000 = some (.r0 true) := by
 have hnil1 : Zgw 100000 = some .r0 := by
  show ZaZ (Zco 100000) (99999 + 1) .h1m0 = _
  exact Zaz (show Zco 100000 .h1m0 = some (.inr .r0) from rfl)
 have hnil2 : Zd3 ([] : List Rc) 100000 = some (.r0 true) := by
  show ZaZ (Zb9 ([] : List Rc) 100000) (99999 + 1) .h1m0 = _
  exact Zaz (show Zb9 ([] : List Rc) 100000 .h1m0 = some (.inr (.r0 true)) from rfl)
 have hnil3 : ZdH 100000 = some .r0 := by
  show ZaZ (Zbg 100000) (99999 + 1) .h1m0 = _
  exact Zaz (show Zbg 100000 .h1m0 = some (.inr .r0) from rfl)
 unfold Zcw
 rcases Zsa (L := L) (N := 100000) (by omega) with h | ⟨K, h, h1, h2, hA⟩
 ·exact Zam h <| Zam (Zrd (by omega)) <| Zam hnil1 <| Zam hnil2 <| Zd rfl rfl
 ·rcases Zrf (K := K) (N := 100000) (by omega) h1 (by omega) with ⟨hg, hr⟩ | ⟨hg, hr⟩
  ·have hl := (ZcA ZX K).length_eq
   have hsa := Zrg (S := Zdq ZX K) (N := 100000) (by omega) (fun x hx => by have := hA x ((ZcA ZX K).subset hx); omega) (by omega)
   rw [hl] at hsa
   exact Zam h <| Zam (Zqs (by omega) h1 (by omega) (fun x hx => by have := hA x hx; omega) hg) <| Zam hr <| Zam hsa <| Zd rfl rfl
  ·exact Zam h <| Zam (Zrc (by omega) (by omega) hg) <| Zam hr <| Zam hnil3 <| Zd rfl rfl
end Os
end Ev
end Go.Proofs.YtifdgbbbojccdaaGreat
/- A region that draws its order, whose first operations only read (and make memory in calls), and whose last ones, in a forced order among themselves, make and write new memory: but these may come up early. -/
namespace Go.Proofs.YtifdgbbbojccdaaGreat
open Go.RowKit

section
variable {P : Program}

def Calm (P : Program) (W : World) (o : Oper) (a : Act) (v : Value) : Prop :=
 ∀ w, Below W.heap.size W w → o.quietAt P a (fun w' => Below w.heap.size w w') w v

def YieldsC (P : Program) (ops : Array Oper) (W : World) (o : Oper) (v : Value) (a : Act) : Prop :=
 (Region.wanted o (yielded ops a.tmps) = true ∧ Calm P W o a v) ∨ (Region.wanted o (yielded ops a.tmps) = false ∧ v = undef)
theorem Zmp {a b c : World} (h : Below a.heap.size a b) (k : Below b.heap.size b c) : Below a.heap.size a c := h.trans (k.mono h.size)

def Closed (md : Region.Mode) (ops : Array Oper) (listed : Array Bool) : Prop :=
 ∀ j oj, ops[j]? = some oj → listed.getD j false = true → ∀ e ∈ oj.after, Region.binds md e = true → listed.getD e.on false = true
def ZnO (md : Region.Mode) (ops : Array Oper) : Nat → Nat → Nat → Bool
 | 0, _, _ => false
 | f + 1, t, i => Region.waitsFor md ops t i || (List.range ops.size).any fun k => Region.waitsFor md ops t k && ZnO md ops f k i
theorem Closed.waits {md : Region.Mode} {ops : Array Oper} {listed : Array Bool} (h : Closed md ops listed) : ∀ (f t i : Nat), listed.getD t false = true → ZnO md ops f t i = true → listed.getD i false = true
 | 0, _, _, _, hw => by cases hw
 | f + 1, t, i, ht, hw => by
  simp only [ZnO, Bool.or_eq_true, List.any_eq_true, Bool.and_eq_true] at hw
  rcases hw with hw | ⟨k, _, hw, hr⟩
  ·obtain ⟨o, ho, e, he, hb, rfl⟩ := Region.waitsFor_spec hw
   exact h t o ho ht e he hb
  ·obtain ⟨o, ho, e, he, hb, rfl⟩ := Region.waitsFor_spec hw
   exact h.waits f e.on i (h t o ho ht e he hb) hr

theorem YieldsC.wpOp {ops : Array Oper} {W : World} {i : Nat} {o : Oper} {v : Value} {a : Act} {w : World} (hi : ops[i]? = some o) (hy : YieldsC P ops W o v a) (hb : Below W.heap.size W w)
  {K : Act → World → Prop} {Q : Exit → Act → World → Prop} (h : ∀ w', Below w.heap.size w w' → K (a.put o.dst v) w') : wpOp P ops Q i K a w := by
 unfold Go.wpOp
 simp only [hi]
 rcases hy with ⟨hw, hv⟩ | ⟨hw, rfl⟩
 ·simp only [hw, if_true]
  exact .inl (Oper.wp_of_quiet (C := fun w' => Below w.heap.size w w') (K := fun a' => a' = a.put o.dst v) (Below.refl _ _) (fun a' w' hw' ha => by subst ha; exact h w' hw')
   ⟨v, fun w1 hw1 => by
    have h1 := hv w1 (Zmp hb hw1)
    unfold Oper.quietAt at h1 ⊢
    generalize (execOp a.eval o).run P w1 = r at *
    cases r with
    | ok n w' =>
     cases n <;> simp only [Oper.quietUpon] at h1 ⊢
     case value u => exact h1
     case skip => exact h1
     case enter f args => exact ⟨h1.1, h1.2.mono fun e w2 ⟨he, hb2⟩ => ⟨he, Zmp hw1 hb2⟩⟩
    | halt x w' => simp only [Oper.quietUpon] at h1, rfl⟩)
 ·simp only [hw, Bool.false_eq_true, if_false]
  exact h w (Below.refl _ _)

end
theorem Has.grown {W W' : World} {b : Nat} {cs : List Value} {g : Nat} (h : Has W b cs) (hg : W.grownBy W' (some g)) (hne : b ≠ g) : Has W' b cs := by
 have e : W'.heap[b]? = W.heap[b]? := hg.block b h.1 (fun e => hne (by injection e))
 exact ⟨Nat.lt_of_lt_of_le h.1 hg.size, fun i v hi => ⟨(World.cell?_of_block (a := ⟨b, i, none⟩) e).trans (h.2 i v hi).1, (World.frozen?_of_block (a := ⟨b, i, none⟩) e).trans (h.2 i v hi).2⟩⟩
end Go.Proofs.YtifdgbbbojccdaaGreat
/- The law OrderSorts, for every input. -/
namespace Go.Proofs.YtifdgbbbojccdaaGreat
open Go.ChangeShapes Go.WideShapes Go.ChangeAt Go.RowKit
namespace Ev
namespace OrderSorts
set_option linter.unusedVariables false
def Zrh (x : R_ii) : Prop := (IntKind.i64.min ≤ x.a0 ∧ x.a0 ≤ IntKind.i64.max) ∧ (IntKind.i64.min ≤ x.a1 ∧ x.a1 ≤ IntKind.i64.max)
theorem el1 {H : Type} {enc : TypeId × Value → H} {w : World} {cs : List Value} (hl : cs.length = 2) (h : Trd enc Tryz.prog w 43 cs) : ∃ x : R_ii, DecL w cs (E_ii.cel x) ∧ Zrh x := by
 have h0 := Zqj (by kernel_rfl : Tryz.prog.cellsOf 43 = 2) hl h
 have h1 := ZcF 0 1 2 Tryz.underlying43 h0 0 (te := 41) (o' := 0) (by kernel_rfl) rfl (by kernel_rfl) (by kernel_rfl) (by decide)
 obtain ⟨x0, e0, b0⟩ := Zfg Tryz.underlying41 (by kernel_rfl) h1
 have h2 := ZcF 1 1 2 Tryz.underlying43 h0 1 (te := 3) (o' := 1) (by kernel_rfl) rfl (by kernel_rfl) (by kernel_rfl) (by decide)
 obtain ⟨x1, e1, b1⟩ := Zfg Tryz.underlying3 (by kernel_rfl) h2
 refine ⟨(⟨x0, x1⟩ : R_ii), ZoF (by rw [hl, Enc.clen]; rfl) (fun j y hy => ?_), ⟨b0, b1⟩⟩
 have := (Zd9 (w := w) (k := 0) e0 .i (Zd9 (w := w) (k := 1) e1 .i (Zqi (w := w)))) j y hy
 simpa using this
def el0R (x : R_iiiiiiAi) : Prop := (IntKind.i64.min ≤ x.a0 ∧ x.a0 ≤ IntKind.i64.max) ∧ (IntKind.i64.min ≤ x.a1 ∧ x.a1 ≤ IntKind.i64.max) ∧ (IntKind.i64.min ≤ x.a2 ∧ x.a2 ≤ IntKind.i64.max) ∧ (IntKind.i64.min ≤ x.a3 ∧ x.a3 ≤ IntKind.i64.max) ∧ (IntKind.i64.min ≤ x.a4 ∧ x.a4 ≤ IntKind.i64.max) ∧ (IntKind.i64.min ≤ x.a5 ∧ x.a5 ≤ IntKind.i64.max) ∧ (x.a6.length ≤ 9223372036854775807 ∧ ∀ y ∈ x.a6, Zrh y) ∧ (IntKind.i64.min ≤ x.a7 ∧ x.a7 ≤ IntKind.i64.max)
theorem el0 {H : Type} {enc : TypeId × Value → H} {w : World} {cs : List Value} (hl : cs.length = 8) (h : Trd enc Tryz.prog w 27 cs) : ∃ x : R_iiiiiiAi, DecL w cs (E_iiiiiiAi.cel x) ∧ el0R x := by
 have h0 := Zqj (by kernel_rfl : Tryz.prog.cellsOf 27 = 8) hl h
 have h1 := ZcF 0 1 8 Tryz.underlying27 h0 0 (te := 23) (o' := 0) (by kernel_rfl) rfl (by kernel_rfl) (by kernel_rfl) (by decide)
 obtain ⟨x0, e0, b0⟩ := Zfg Tryz.underlying23 (by kernel_rfl) h1
 have h2 := ZcF 1 1 8 Tryz.underlying27 h0 1 (te := 3) (o' := 1) (by kernel_rfl) rfl (by kernel_rfl) (by kernel_rfl) (by decide)
 obtain ⟨x1, e1, b1⟩ := Zfg Tryz.underlying3 (by kernel_rfl) h2
 have h3 := ZcF 2 1 8 Tryz.underlying27 h0 2 (te := 3) (o' := 2) (by kernel_rfl) rfl (by kernel_rfl) (by kernel_rfl) (by decide)
 obtain ⟨x2, e2, b2⟩ := Zfg Tryz.underlying3 (by kernel_rfl) h3
 have h4 := ZcF 3 1 8 Tryz.underlying27 h0 3 (te := 3) (o' := 3) (by kernel_rfl) rfl (by kernel_rfl) (by kernel_rfl) (by decide)
 obtain ⟨x3, e3, b3⟩ := Zfg Tryz.underlying3 (by kernel_rfl) h4
 have h5 := ZcF 4 1 8 Tryz.underlying27 h0 4 (te := 3) (o' := 4) (by kernel_rfl) rfl (by kernel_rfl) (by kernel_rfl) (by decide)
 obtain ⟨x4, e4, b4⟩ := Zfg Tryz.underlying3 (by kernel_rfl) h5
 have h6 := ZcF 5 1 8 Tryz.underlying27 h0 5 (te := 3) (o' := 5) (by kernel_rfl) rfl (by kernel_rfl) (by kernel_rfl) (by decide)
 obtain ⟨x5, e5, b5⟩ := Zfg Tryz.underlying3 (by kernel_rfl) h6
 have h7 := ZcF 6 1 8 Tryz.underlying27 h0 6 (te := 24) (o' := 6) (by kernel_rfl) rfl (by kernel_rfl) (by kernel_rfl) (by decide)
 obtain ⟨x6, v6, e6, d6, b6⟩ := ZqS (E := E_ii) (Q := Zrh) Tryz.underlying24 (by kernel_rfl) (by kernel_rfl) (by decide) (fun _ => el1) h7
 have h8 := ZcF 7 1 8 Tryz.underlying27 h0 7 (te := 25) (o' := 7) (by kernel_rfl) rfl (by kernel_rfl) (by kernel_rfl) (by decide)
 obtain ⟨x7, e7, b7⟩ := Zfg Tryz.underlying25 (by kernel_rfl) h8
 refine ⟨(⟨x0, x1, x2, x3, x4, x5, x6, x7⟩ : R_iiiiiiAi), ZoF (by rw [hl, Enc.clen]; rfl) (fun j y hy => ?_), ⟨b0, b1, b2, b3, b4, b5, b6, b7⟩⟩
 have := (Zd9 (w := w) (k := 0) e0 .i (Zd9 (w := w) (k := 1) e1 .i (Zd9 (w := w) (k := 2) e2 .i (Zd9 (w := w) (k := 3) e3 .i (Zd9 (w := w) (k := 4) e4 .i (Zd9 (w := w) (k := 5) e5 .i (Zd9 (w := w) (k := 6) e6 d6 (Zd9 (w := w) (k := 7) e7 .i (Zqi (w := w)))))))))) j y hy
 simpa using this
noncomputable def ZrH : List TypeId := (Tryz.prog.cellTypes Tryz.prog.depth 27).getD []
noncomputable def ZrI : List TypeId := (Tryz.prog.cellTypes Tryz.prog.depth 27).getD []
theorem own : ownKnob Tryz.prog.godebug = none := by kernel_rfl
set_option maxRecDepth 100000 in
theorem lifted (os : Os) (started : os.Started) (H : Type) (enc : TypeId × Value → H) :
  ReturnsInHanded {} Tryz.checked os 3 .any (Rows.orderSortsSpec.pre6 enc Tryz.prog Tryz.f3 Rows.orderSortsRow.domain false) (Rows.orderSortsSpec.post enc Tryz.prog Tryz.f3 false true false false) := by
 refine ZpY (C := Tryz.checked) own started (by kernel_rfl) Tryz.func3 rfl rfl Tryz.underlying4 ?_ (by kernel_rfl) (by kernel_rfl)
  (ChangeSpec.witness6 (enc := enc) (C := Tryz.checked) false ⟨#[], #[.slice none 0 0, .agg #[.int .i64 0, .int .i64 0, .int .i64 0, .int .i64 0, .int .i64 0, .int .i64 0, .slice none 0 0, .int .i64 0], .agg #[.int .i64 0, .int .i64 0, .int .i64 0, .int .i64 0, .int .i64 0, .int .i64 0, .slice none 0 0, .int .i64 0]], []⟩ 8 (by kernel_rfl) (by kernel_rfl) (by kernel_rfl) (by kernel_rfl)) ?_
 ·intro ds hlen
  have hlen : ds.length = 3 := hlen.trans (by kernel_rfl)
  match ds, hlen with
  | [_, _, _], _ => rfl
 intro W base args ds p hval hA hlt hsz
 rw [Tryz.params3] at hA hval
 obtain ⟨v0, vs0, d0, ds0, p0, q0, hargs, rfl, rfl, h0, r0⟩ := trodAll_cons hA
 obtain ⟨v1, vs1, d1, ds1, p1, q1, rfl, rfl, rfl, h1, r1⟩ := trodAll_cons r0
 obtain ⟨v2, vs2, d2, ds2, p2, q2, rfl, rfl, rfl, h2, r2⟩ := trodAll_cons r1
 obtain ⟨rfl, rfl, rfl⟩ := trodAll_nil r2
 obtain rfl : args = #[v0, v1, v2] := by cases args; simp_all
 obtain ⟨a0, l0, c0, rfl⟩ := Go.WideShapes.okWide_slice Tryz.underlying22 (hval 0 22 v0 rfl rfl)
 obtain ⟨L0, u0, e0, D0, n0, m0⟩ := Zmn (E := E_iiiiiiAi) (Q := el0R) Tryz.underlying22 (by kernel_rfl) (by decide) (fun _ => el0) (ZlJ h0)
 obtain rfl : u0 = .slice a0 l0 c0 := by have := e0; simp [Value.cells] at this; exact this.symm
 obtain ⟨cs1, rfl, hl1, hc1⟩ := Zjc (ts := ZrH) (by kernel_rfl) (by kernel_rfl) (by kernel_rfl) (hval 1 27 v1 rfl rfl)
 obtain ⟨x1, D1, m1⟩ := el0 (show cs1.length = 8 from hl1.trans (by kernel_rfl)) (by have q := ZlJ h1; simp [Value.cells] at q; exact q)
 obtain ⟨cs2, rfl, hl2, hc2⟩ := Zjc (ts := ZrI) (by kernel_rfl) (by kernel_rfl) (by kernel_rfl) (hval 2 27 v2 rfl rfl)
 obtain ⟨x2, D2, m2⟩ := el0 (show cs2.length = 8 from hl2.trans (by kernel_rfl)) (by have q := ZlJ h2; simp [Value.cells] at q; exact q)
 exact ZrX (ZhU L0 x1.a0 x1.a1 x1.a2 x1.a3 x1.a4 x1.a5 x1.a6 x1.a7 x2.a0 x2.a1 x2.a2 x2.a3 x2.a4 x2.a5 x2.a6 x2.a7 100000 _ (Os.runs L0 x1.a0 x1.a1 x1.a2 x1.a3 x1.a4 x1.a5 x1.a6 x1.a7 x2.a0 x2.a1 x2.a2 x2.a3 x2.a4 x2.a5 x2.a6 x2.a7)) (Zkt (show VR (ιMk W) (ms E_iiiiiiAi L0) _ from D0.vr) (Zkt (show VR (ιMk W) (.agg #[Value.int .i64 x1.a0, Value.int .i64 x1.a1, Value.int .i64 x1.a2, Value.int .i64 x1.a3, Value.int .i64 x1.a4, Value.int .i64 x1.a5, ms E_ii x1.a6, Value.int .i64 x1.a7]) _ from .aggl D1.vr) (Zkt (show VR (ιMk W) (.agg #[Value.int .i64 x2.a0, Value.int .i64 x2.a1, Value.int .i64 x2.a2, Value.int .i64 x2.a3, Value.int .i64 x2.a4, Value.int .i64 x2.a5, ms E_ii x2.a6, Value.int .i64 x2.a7]) _ from .aggl D2.vr) Zrz))) rfl
theorem over : Rows.orderSortsRow.holds Tryz.pinned (OpenSpec.ofChange Rows.orderSortsSpec) :=
 OpenClaim.holds_of_wide 3 Tryz.f3 rfl rfl rfl rfl rfl rfl rfl ⟨rfl, rfl, rfl, rfl, rfl⟩ rfl rfl rfl rfl rfl (by kernel_rfl) Tryz.func3 (by kernel_rfl)
  (of_decide_eq_true (by kernel_rfl)) (by unfold Func.isWrapper; first | (rw [if_pos (by decide +kernel)]; kernel_rfl) | (rw [if_neg (by decide +kernel)]; exact ⟨rfl, rfl⟩))
  (fun os started H enc _ => lifted os started H enc)
theorem proved : Rows.OrderSortsSaid := over
#print axioms proved
end OrderSorts
end Ev
end Go.Proofs.YtifdgbbbojccdaaGreat
