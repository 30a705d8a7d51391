/- The law FifoItems, for every input. -/
import Derived.Test.YtpfmkkookmofcaaGreatZae
import Derived.Test.YtpfmkkookmofcaaGreatZac
import Derived.StillTail
import Derived.OrdersHeld
import Derived.WideBlind
/- Calls do what the plain functions say. -/
namespace Go.Proofs.YtpfmkkookmofcaaGreat
open Go.RowKit
namespace Ev
set_option linter.unusedVariables false
set_option maxRecDepth 100000
theorem ZjZ (L0 : List R_iiiiiiiA) (a1 a2 a3 : Int) (v1 : List RA) (v2 v3 v4 v5 v6 v7 v8 : Int) (v9 : List R_ii) (v10 v11 v12 v13 v16 v17 : Int) (N : Nat) : (Z5 L0 a1 a2 a3 N).Ok Tryz.prog Zw (.h2m0 v1 v2 v3 v4 v5 v6 v7 v8 v9 v10 v11 v12 v13 v16 v17 : ZD) (ZQ L0 a1 a2 a3 N (.h2m0 v1 v2 v3 v4 v5 v6 v7 v8 v9 v10 v11 v12 v13 v16 v17 : ZD)) := by
 show (Z5 L0 a1 a2 a3 N).Ok Tryz.prog Zw (.h2m0 v1 v2 v3 v4 v5 v6 v7 v8 v9 v10 v11 v12 v13 v16 v17 : ZD) (Zck L0 a1 a2 a3 N v1 v2 v3 v4 v5 v6 v7 v8 v9 v10 v11 v12 v13 v16 v17)
 unfold Zck
 refine Mach.ok_ite (fun g0 => ?_) (fun g0 => ?_)
 ·
  refine Mach.ok_ite (fun g1 => ?_) (fun g1 => ?_)
  ·
   exact Mach.ok_fin (M := Z5 L0 a1 a2 a3 N) (cd := 1000000) (cm := 0) (r := (.r0 ((240 : Int)) : Zp)) (fu := 4000) (orc := (Zi [(0, true), (2, true)] [] [] [] [])) (live := [0]) (u := Value.tuple #[vn, vi (240 : Int)]) (bl := [some (.cells (Zd E_iiiiiiiA L0) 42)]) (ob := [((!(((2 : Int) == v10) && (((0 : Int) == v11) && true))), true), (((v16 == (2 : Int)) && ((v17 == (0 : Int)) && true)), true)]) (fun gv => by kernel_rfl) (Zb (by rw [Bool.not_eq_true']; exact Bool.eq_false_iff.2 (by simp only [ne_eq, Bool.and_true, Bool.and_eq_true, beq_iff_eq]; first | omega | (intro hh; simp_all; done) | (intro hh; grind))) <| Zb (by first | (simp only [beq_self_eq_true, Bool.and_self]; done) | (simp only [Bool.and_true, Bool.and_eq_true, beq_iff_eq] <;> first | omega | (simp_all; done) | grind)) Ze) rfl (by decide) (by rfl) rr ⟨(Zh (E := E_iiiiiiiA) (α := R_iiiiiiiA) _ L0 _), trivial⟩
  ·
   refine Mach.ok_ite (fun g2 => ?_) (fun g2 => ?_)
   ·
    exact Mach.ok_fin (M := Z5 L0 a1 a2 a3 N) (cd := 1000000) (cm := 0) (r := (.r0 ((240 : Int)) : Zp)) (fu := 4000) (orc := (Zi [(0, true), (2, false), (3, true)] [] [] [] [])) (live := [0]) (u := Value.tuple #[vn, vi (240 : Int)]) (bl := [some (.cells (Zd E_iiiiiiiA L0) 42)]) (ob := [((v13 != (0 : Int)), true), ((!(((2 : Int) == v10) && (((0 : Int) == v11) && true))), false), (((v16 == (2 : Int)) && ((v17 == (0 : Int)) && true)), true)]) (fun gv => by kernel_rfl) (oD <| Zb (by rw [Bool.not_eq_false']; first | (simp only [beq_self_eq_true, Bool.and_self]; done) | (simp only [Bool.and_true, Bool.and_eq_true, beq_iff_eq] <;> first | omega | (simp_all; done) | grind)) <| Zb (by first | (simp only [beq_self_eq_true, Bool.and_self]; done) | (simp only [Bool.and_true, Bool.and_eq_true, beq_iff_eq] <;> first | omega | (simp_all; done) | grind)) Ze) rfl (by decide) (by rfl) rr ⟨(Zh (E := E_iiiiiiiA) (α := R_iiiiiiiA) _ L0 _), trivial⟩
   ·
    exact Mach.ok_fin (M := Z5 L0 a1 a2 a3 N) (cd := 1000000) (cm := 0) (r := (.r0 ((0 : Int)) : Zp)) (fu := 4000) (orc := (Zi [(0, true), (2, false), (3, false)] [] [] [] [])) (live := [0]) (u := Value.tuple #[vn, vq]) (bl := [some (.cells (Zd E_iiiiiiiA L0) 42)]) (ob := [((v13 != (0 : Int)), false), ((!(((2 : Int) == v10) && (((0 : Int) == v11) && true))), false), (((v16 == (2 : Int)) && ((v17 == (0 : Int)) && true)), true)]) (fun gv => by kernel_rfl) (oE <| Zb (by rw [Bool.not_eq_false']; first | (simp only [beq_self_eq_true, Bool.and_self]; done) | (simp only [Bool.and_true, Bool.and_eq_true, beq_iff_eq] <;> first | omega | (simp_all; done) | grind)) <| Zb (by first | (simp only [beq_self_eq_true, Bool.and_self]; done) | (simp only [Bool.and_true, Bool.and_eq_true, beq_iff_eq] <;> first | omega | (simp_all; done) | grind)) Ze) rfl (by decide) (by rfl) rr ⟨(Zh (E := E_iiiiiiiA) (α := R_iiiiiiiA) _ L0 _), trivial⟩
 ·
  refine Mach.ok_bind (fun z1 c1 => ?_)
  cases z1 with
  | r0 =>
   exact Mach.ok_fin (M := Z5 L0 a1 a2 a3 N) (cd := 1000000) (cm := 0) (r := (.r0 ((240 : Int)) : Zp)) (fu := 4000) (orc := (Zi [(0, false)] [] [] [] [(1, (ZeK (v16) (v17) (v1) (L0)   2 1 8 0 11))])) (live := [0]) (u := Value.tuple #[vn, vi (240 : Int)]) (bl := [some (.cells (Zd E_iiiiiiiA L0) 42)]) (ob := [(dP (Zd4 #[Value.agg #[vi v16, vi v17], vp 2 0, vp 1 0] (v16) (v17) (v1) (L0)   2 1 8 0 11), true), (dS [Value.map (some 8)], true), (dS [vs 0 0 L0.length L0.length], true), (dS (Z0 v1), true), (dS (Zd E_iiiiiiiA L0), true), (((v16 == (2 : Int)) && ((v17 == (0 : Int)) && true)), false)]) (fun gv => by kernel_rfl) (Zb (Zg (ZeL #[Value.agg #[vi v16, vi v17], vp 2 0, vp 1 0] (v16) (v17) (v1) (L0)   N c1 2 1 8 0 11 rfl (by decide) (by decide))) <| Zb (Zg (Za rfl rfl)) <| Zb (Zg (Za rfl rfl)) <| Zb (Zg (congrArg Z0 (by first | rfl | simp))) <| oR <| Zb (Bool.eq_false_iff.2 (by simp only [ne_eq, Bool.and_true, Bool.and_eq_true, beq_iff_eq]; first | omega | (intro hh; simp_all; done) | (intro hh; grind))) Ze) rfl (by decide) (by rfl) rr ⟨(Zh (E := E_iiiiiiiA) (α := R_iiiiiiiA) _ L0 _), trivial⟩
  | r1 =>
   refine Mach.ok_bind (fun z2 c2 => ?_)
   cases z2 with
   | r0 y2_0 =>
    refine Mach.ok_ite (fun g3 => ?_) (fun g3 => ?_)
    ·
     exact Mach.ok_fin (M := Z5 L0 a1 a2 a3 N) (cd := 1000000) (cm := 0) (r := (.r0 ((240 : Int)) : Zp)) (fu := 4000) (orc := (Zi [(0, false), (3, true)] [] [] [] [(1, (Zaf (v16) (v17) (v1) (L0)   2 1 8 0 11)), (3, (ZcA ((L0.getD ((Zc v1 v16 v17)).toNat R_iiiiiiiA.z).a0) ((L0.getD ((Zc v1 v16 v17)).toNat R_iiiiiiiA.z).a1) ((L0.getD ((Zc v1 v16 v17)).toNat R_iiiiiiiA.z).a2) ((L0.getD ((Zc v1 v16 v17)).toNat R_iiiiiiiA.z).a3) ((L0.getD ((Zc v1 v16 v17)).toNat R_iiiiiiiA.z).a4) ((L0.getD ((Zc v1 v16 v17)).toNat R_iiiiiiiA.z).a5) ((L0.getD ((Zc v1 v16 v17)).toNat R_iiiiiiiA.z).a6) ((L0.getD ((Zc v1 v16 v17)).toNat R_iiiiiiiA.z).a7)  y2_0  11))])) (live := [0]) (u := Value.tuple #[vn, vi (240 : Int)]) (bl := [some (.cells (Zd E_iiiiiiiA L0) 42)]) (ob := [((!y2_0), true), (dP (Zcj #[Value.agg #[vi (L0.getD ((Zc v1 v16 v17)).toNat R_iiiiiiiA.z).a0, vi (L0.getD ((Zc v1 v16 v17)).toNat R_iiiiiiiA.z).a1, vi (L0.getD ((Zc v1 v16 v17)).toNat R_iiiiiiiA.z).a2, vi (L0.getD ((Zc v1 v16 v17)).toNat R_iiiiiiiA.z).a3, vi (L0.getD ((Zc v1 v16 v17)).toNat R_iiiiiiiA.z).a4, vi (L0.getD ((Zc v1 v16 v17)).toNat R_iiiiiiiA.z).a5, vi (L0.getD ((Zc v1 v16 v17)).toNat R_iiiiiiiA.z).a6, ms E_ii (L0.getD ((Zc v1 v16 v17)).toNat R_iiiiiiiA.z).a7]] ((L0.getD ((Zc v1 v16 v17)).toNat R_iiiiiiiA.z).a0) ((L0.getD ((Zc v1 v16 v17)).toNat R_iiiiiiiA.z).a1) ((L0.getD ((Zc v1 v16 v17)).toNat R_iiiiiiiA.z).a2) ((L0.getD ((Zc v1 v16 v17)).toNat R_iiiiiiiA.z).a3) ((L0.getD ((Zc v1 v16 v17)).toNat R_iiiiiiiA.z).a4) ((L0.getD ((Zc v1 v16 v17)).toNat R_iiiiiiiA.z).a5) ((L0.getD ((Zc v1 v16 v17)).toNat R_iiiiiiiA.z).a6) ((L0.getD ((Zc v1 v16 v17)).toNat R_iiiiiiiA.z).a7)  y2_0  11), true), (dP (Zaa #[Value.agg #[vi v16, vi v17], vp 2 0, vp 1 0] (v16) (v17) (v1) (L0)   2 1 8 0 11), true), (dS [Value.map (some 8)], true), (dS [vs 0 0 L0.length L0.length], true), (dS (Z0 v1), true), (dS (Zd E_iiiiiiiA L0), true), (((v16 == (2 : Int)) && ((v17 == (0 : Int)) && true)), false)]) (fun gv => by kernel_rfl) (Zb (Zfh (by first | assumption | simp_all)) <| Zb (Zg (ZcB #[Value.agg #[vi (L0.getD ((Zc v1 v16 v17)).toNat R_iiiiiiiA.z).a0, vi (L0.getD ((Zc v1 v16 v17)).toNat R_iiiiiiiA.z).a1, vi (L0.getD ((Zc v1 v16 v17)).toNat R_iiiiiiiA.z).a2, vi (L0.getD ((Zc v1 v16 v17)).toNat R_iiiiiiiA.z).a3, vi (L0.getD ((Zc v1 v16 v17)).toNat R_iiiiiiiA.z).a4, vi (L0.getD ((Zc v1 v16 v17)).toNat R_iiiiiiiA.z).a5, vi (L0.getD ((Zc v1 v16 v17)).toNat R_iiiiiiiA.z).a6, ms E_ii (L0.getD ((Zc v1 v16 v17)).toNat R_iiiiiiiA.z).a7]] ((L0.getD ((Zc v1 v16 v17)).toNat R_iiiiiiiA.z).a0) ((L0.getD ((Zc v1 v16 v17)).toNat R_iiiiiiiA.z).a1) ((L0.getD ((Zc v1 v16 v17)).toNat R_iiiiiiiA.z).a2) ((L0.getD ((Zc v1 v16 v17)).toNat R_iiiiiiiA.z).a3) ((L0.getD ((Zc v1 v16 v17)).toNat R_iiiiiiiA.z).a4) ((L0.getD ((Zc v1 v16 v17)).toNat R_iiiiiiiA.z).a5) ((L0.getD ((Zc v1 v16 v17)).toNat R_iiiiiiiA.z).a6) ((L0.getD ((Zc v1 v16 v17)).toNat R_iiiiiiiA.z).a7)  y2_0 N c2  11 rfl (by decide) (by decide))) <| Zb (Zg (Zag #[Value.agg #[vi v16, vi v17], vp 2 0, vp 1 0] (v16) (v17) (v1) (L0)   N c1 2 1 8 0 11 rfl (by decide) (by decide))) <| Zb (Zg (Za rfl rfl)) <| Zb (Zg (Za rfl rfl)) <| Zb (Zg (congrArg Z0 (by first | rfl | simp))) <| oR <| Zb (Bool.eq_false_iff.2 (by simp only [ne_eq, Bool.and_true, Bool.and_eq_true, beq_iff_eq]; first | omega | (intro hh; simp_all; done) | (intro hh; grind))) Ze) rfl (by decide) (by rfl) rr ⟨(Zh (E := E_iiiiiiiA) (α := R_iiiiiiiA) _ L0 _), trivial⟩
    ·
     refine Mach.ok_ite (fun g4 => ?_) (fun g4 => ?_)
     ·
      exact Mach.ok_fin (M := Z5 L0 a1 a2 a3 N) (cd := 1000000) (cm := 0) (r := (.r0 ((240 : Int)) : Zp)) (fu := 4000) (orc := (Zi [(0, false), (3, false), (4, true)] [] [] [] [(1, (Zaf (v16) (v17) (v1) (L0)   2 1 8 0 11)), (3, (ZcA ((L0.getD ((Zc v1 v16 v17)).toNat R_iiiiiiiA.z).a0) ((L0.getD ((Zc v1 v16 v17)).toNat R_iiiiiiiA.z).a1) ((L0.getD ((Zc v1 v16 v17)).toNat R_iiiiiiiA.z).a2) ((L0.getD ((Zc v1 v16 v17)).toNat R_iiiiiiiA.z).a3) ((L0.getD ((Zc v1 v16 v17)).toNat R_iiiiiiiA.z).a4) ((L0.getD ((Zc v1 v16 v17)).toNat R_iiiiiiiA.z).a5) ((L0.getD ((Zc v1 v16 v17)).toNat R_iiiiiiiA.z).a6) ((L0.getD ((Zc v1 v16 v17)).toNat R_iiiiiiiA.z).a7)  y2_0  11))])) (live := [0]) (u := Value.tuple #[vn, vi (240 : Int)]) (bl := [some (.cells (Zd E_iiiiiiiA L0) 42)]) (ob := [(((0 : Int) == (L0.length : Int)), true), ((!y2_0), false), (dP (Zcj #[Value.agg #[vi (L0.getD ((Zc v1 v16 v17)).toNat R_iiiiiiiA.z).a0, vi (L0.getD ((Zc v1 v16 v17)).toNat R_iiiiiiiA.z).a1, vi (L0.getD ((Zc v1 v16 v17)).toNat R_iiiiiiiA.z).a2, vi (L0.getD ((Zc v1 v16 v17)).toNat R_iiiiiiiA.z).a3, vi (L0.getD ((Zc v1 v16 v17)).toNat R_iiiiiiiA.z).a4, vi (L0.getD ((Zc v1 v16 v17)).toNat R_iiiiiiiA.z).a5, vi (L0.getD ((Zc v1 v16 v17)).toNat R_iiiiiiiA.z).a6, ms E_ii (L0.getD ((Zc v1 v16 v17)).toNat R_iiiiiiiA.z).a7]] ((L0.getD ((Zc v1 v16 v17)).toNat R_iiiiiiiA.z).a0) ((L0.getD ((Zc v1 v16 v17)).toNat R_iiiiiiiA.z).a1) ((L0.getD ((Zc v1 v16 v17)).toNat R_iiiiiiiA.z).a2) ((L0.getD ((Zc v1 v16 v17)).toNat R_iiiiiiiA.z).a3) ((L0.getD ((Zc v1 v16 v17)).toNat R_iiiiiiiA.z).a4) ((L0.getD ((Zc v1 v16 v17)).toNat R_iiiiiiiA.z).a5) ((L0.getD ((Zc v1 v16 v17)).toNat R_iiiiiiiA.z).a6) ((L0.getD ((Zc v1 v16 v17)).toNat R_iiiiiiiA.z).a7)  y2_0  11), true), (dP (Zaa #[Value.agg #[vi v16, vi v17], vp 2 0, vp 1 0] (v16) (v17) (v1) (L0)   2 1 8 0 11), true), (dS [Value.map (some 8)], true), (dS [vs 0 0 L0.length L0.length], true), (dS (Z0 v1), true), (dS (Zd E_iiiiiiiA L0), true), (((v16 == (2 : Int)) && ((v17 == (0 : Int)) && true)), false)]) (fun gv => by kernel_rfl) (oT <| Zb (Zdi (by first | assumption | exact Decidable.not_not.1 (by assumption) | simp_all)) <| Zb (Zg (ZcB #[Value.agg #[vi (L0.getD ((Zc v1 v16 v17)).toNat R_iiiiiiiA.z).a0, vi (L0.getD ((Zc v1 v16 v17)).toNat R_iiiiiiiA.z).a1, vi (L0.getD ((Zc v1 v16 v17)).toNat R_iiiiiiiA.z).a2, vi (L0.getD ((Zc v1 v16 v17)).toNat R_iiiiiiiA.z).a3, vi (L0.getD ((Zc v1 v16 v17)).toNat R_iiiiiiiA.z).a4, vi (L0.getD ((Zc v1 v16 v17)).toNat R_iiiiiiiA.z).a5, vi (L0.getD ((Zc v1 v16 v17)).toNat R_iiiiiiiA.z).a6, ms E_ii (L0.getD ((Zc v1 v16 v17)).toNat R_iiiiiiiA.z).a7]] ((L0.getD ((Zc v1 v16 v17)).toNat R_iiiiiiiA.z).a0) ((L0.getD ((Zc v1 v16 v17)).toNat R_iiiiiiiA.z).a1) ((L0.getD ((Zc v1 v16 v17)).toNat R_iiiiiiiA.z).a2) ((L0.getD ((Zc v1 v16 v17)).toNat R_iiiiiiiA.z).a3) ((L0.getD ((Zc v1 v16 v17)).toNat R_iiiiiiiA.z).a4) ((L0.getD ((Zc v1 v16 v17)).toNat R_iiiiiiiA.z).a5) ((L0.getD ((Zc v1 v16 v17)).toNat R_iiiiiiiA.z).a6) ((L0.getD ((Zc v1 v16 v17)).toNat R_iiiiiiiA.z).a7)  y2_0 N c2  11 rfl (by decide) (by decide))) <| Zb (Zg (Zag #[Value.agg #[vi v16, vi v17], vp 2 0, vp 1 0] (v16) (v17) (v1) (L0)   N c1 2 1 8 0 11 rfl (by decide) (by decide))) <| Zb (Zg (Za rfl rfl)) <| Zb (Zg (Za rfl rfl)) <| Zb (Zg (congrArg Z0 (by first | rfl | simp))) <| oR <| Zb (Bool.eq_false_iff.2 (by simp only [ne_eq, Bool.and_true, Bool.and_eq_true, beq_iff_eq]; first | omega | (intro hh; simp_all; done) | (intro hh; grind))) Ze) rfl (by decide) (by rfl) rr ⟨(Zh (E := E_iiiiiiiA) (α := R_iiiiiiiA) _ L0 _), trivial⟩
     ·
      refine Mach.ok_ite (fun g5 => ?_) (fun g5 => ?_)
      ·
       exact Mach.ok_next (M := Z5 L0 a1 a2 a3 N) (cd := 1000000) (cm := 0) (y := (.h2m1 (([((L0.getD ((Zc v1 v16 v17)).toNat R_iiiiiiiA.z).a7.getD 1 R_ii.z).a1] : List Int)) (v1) ((L0.getD ((Zc v1 v16 v17)).toNat R_iiiiiiiA.z).a0) ((L0.getD ((Zc v1 v16 v17)).toNat R_iiiiiiiA.z).a1) ((L0.getD ((Zc v1 v16 v17)).toNat R_iiiiiiiA.z).a2) ((L0.getD ((Zc v1 v16 v17)).toNat R_iiiiiiiA.z).a3) ((L0.getD ((Zc v1 v16 v17)).toNat R_iiiiiiiA.z).a4) ((L0.getD ((Zc v1 v16 v17)).toNat R_iiiiiiiA.z).a5) ((L0.getD ((Zc v1 v16 v17)).toNat R_iiiiiiiA.z).a6) ((L0.getD ((Zc v1 v16 v17)).toNat R_iiiiiiiA.z).a7) (v10) (v11) (v12) (v13) (v16) (v17) (((L0.getD ((Zc v1 v16 v17)).toNat R_iiiiiiiA.z).a7.getD 0 R_ii.z).a0) (((L0.getD ((Zc v1 v16 v17)).toNat R_iiiiiiiA.z).a7.getD 0 R_ii.z).a1) : ZD)) (fu := 4000) (orc := (Zi [(0, false), (3, false), (4, false)] [] [(0, 1), (1, 0)] [(6, [.i ((L0.getD ((Zc v1 v16 v17)).toNat R_iiiiiiiA.z).a7.getD 1 R_ii.z).a1]), (10, [.i ((L0.getD ((Zc v1 v16 v17)).toNat R_iiiiiiiA.z).a7.getD 0 R_ii.z).a0, .i ((L0.getD ((Zc v1 v16 v17)).toNat R_iiiiiiiA.z).a7.getD 0 R_ii.z).a1])] [(1, (Zaf (v16) (v17) (v1) (L0)   2 1 8 0 11)), (3, (ZcA ((L0.getD ((Zc v1 v16 v17)).toNat R_iiiiiiiA.z).a0) ((L0.getD ((Zc v1 v16 v17)).toNat R_iiiiiiiA.z).a1) ((L0.getD ((Zc v1 v16 v17)).toNat R_iiiiiiiA.z).a2) ((L0.getD ((Zc v1 v16 v17)).toNat R_iiiiiiiA.z).a3) ((L0.getD ((Zc v1 v16 v17)).toNat R_iiiiiiiA.z).a4) ((L0.getD ((Zc v1 v16 v17)).toNat R_iiiiiiiA.z).a5) ((L0.getD ((Zc v1 v16 v17)).toNat R_iiiiiiiA.z).a6) ((L0.getD ((Zc v1 v16 v17)).toNat R_iiiiiiiA.z).a7)  y2_0  11))])) (live := [0, 1, 2, 3, 4, 5, 12, 6, 13, 8]) (tv := fun _ => [some (vp 1 0), some (Value.func (.func 32) #[] #[vp 2 0, vp 1 0]), some (vp 3 0), some (vp 4 0), some (vp 5 0), some (vs 12 0 1 1), some (vp 6 0), some (vp 13 0)]) (bl := [some (.cells (Zd E_iiiiiiiA L0) 42), some (.cells [vs 0 0 L0.length L0.length] 33), some (.cells [Value.map (some 8)] 85), some (.cells [vi (L0.getD ((Zc v1 v16 v17)).toNat R_iiiiiiiA.z).a0, vi (L0.getD ((Zc v1 v16 v17)).toNat R_iiiiiiiA.z).a1, vi (L0.getD ((Zc v1 v16 v17)).toNat R_iiiiiiiA.z).a2, vi (L0.getD ((Zc v1 v16 v17)).toNat R_iiiiiiiA.z).a3, vi (L0.getD ((Zc v1 v16 v17)).toNat R_iiiiiiiA.z).a4, vi (L0.getD ((Zc v1 v16 v17)).toNat R_iiiiiiiA.z).a5, vi (L0.getD ((Zc v1 v16 v17)).toNat R_iiiiiiiA.z).a6, ms E_ii (L0.getD ((Zc v1 v16 v17)).toNat R_iiiiiiiA.z).a7] 42), some (.cells [vi v10, vi v11] 36), some (.cells [vi v12, vi v13] 36), some (.cells [vi ((L0.getD ((Zc v1 v16 v17)).toNat R_iiiiiiiA.z).a7.getD 1 R_ii.z).a1] 3), some (.cells [vi v16, vi v17] 36), some (.cells [vi ((L0.getD ((Zc v1 v16 v17)).toNat R_iiiiiiiA.z).a7.getD 0 R_ii.z).a0, vi ((L0.getD ((Zc v1 v16 v17)).toNat R_iiiiiiiA.z).a7.getD 0 R_ii.z).a1] 36), some (.ro (Z0 v1) true)]) (ob := [(dP (ZN (code (ZG E_ii (L0.getD ((Zc v1 v16 v17)).toNat R_iiiiiiiA.z).a7)) (0 + (0 * 2)) 2 = some [.i ((L0.getD ((Zc v1 v16 v17)).toNat R_iiiiiiiA.z).a7.getD 0 R_ii.z).a0, .i ((L0.getD ((Zc v1 v16 v17)).toNat R_iiiiiiiA.z).a7.getD 0 R_ii.z).a1]), true), (Nat.blt 0 (L0.getD ((Zc v1 v16 v17)).toNat R_iiiiiiiA.z).a7.length, true), ((0 : Int) == Int.ofNat 0, true), (dP (ZN (code (ZG E_ii (L0.getD ((Zc v1 v16 v17)).toNat R_iiiiiiiA.z).a7)) ((0 + (1 * 2)) + 1) 1 = some [.i ((L0.getD ((Zc v1 v16 v17)).toNat R_iiiiiiiA.z).a7.getD 1 R_ii.z).a1]), true), (Nat.blt 1 (L0.getD ((Zc v1 v16 v17)).toNat R_iiiiiiiA.z).a7.length, true), ((1 : Int) == Int.ofNat 1, true), (((0 : Int) == (L0.length : Int)), false), ((!y2_0), false), (dP (Zcj #[Value.agg #[vi (L0.getD ((Zc v1 v16 v17)).toNat R_iiiiiiiA.z).a0, vi (L0.getD ((Zc v1 v16 v17)).toNat R_iiiiiiiA.z).a1, vi (L0.getD ((Zc v1 v16 v17)).toNat R_iiiiiiiA.z).a2, vi (L0.getD ((Zc v1 v16 v17)).toNat R_iiiiiiiA.z).a3, vi (L0.getD ((Zc v1 v16 v17)).toNat R_iiiiiiiA.z).a4, vi (L0.getD ((Zc v1 v16 v17)).toNat R_iiiiiiiA.z).a5, vi (L0.getD ((Zc v1 v16 v17)).toNat R_iiiiiiiA.z).a6, ms E_ii (L0.getD ((Zc v1 v16 v17)).toNat R_iiiiiiiA.z).a7]] ((L0.getD ((Zc v1 v16 v17)).toNat R_iiiiiiiA.z).a0) ((L0.getD ((Zc v1 v16 v17)).toNat R_iiiiiiiA.z).a1) ((L0.getD ((Zc v1 v16 v17)).toNat R_iiiiiiiA.z).a2) ((L0.getD ((Zc v1 v16 v17)).toNat R_iiiiiiiA.z).a3) ((L0.getD ((Zc v1 v16 v17)).toNat R_iiiiiiiA.z).a4) ((L0.getD ((Zc v1 v16 v17)).toNat R_iiiiiiiA.z).a5) ((L0.getD ((Zc v1 v16 v17)).toNat R_iiiiiiiA.z).a6) ((L0.getD ((Zc v1 v16 v17)).toNat R_iiiiiiiA.z).a7)  y2_0  11), true), (dP (Zaa #[Value.agg #[vi v16, vi v17], vp 2 0, vp 1 0] (v16) (v17) (v1) (L0)   2 1 8 0 11), true), (dS [Value.map (some 8)], true), (dS [vs 0 0 L0.length L0.length], true), (dS (Z0 v1), true), (dS (Zd E_iiiiiiiA L0), true), (((v16 == (2 : Int)) && ((v17 == (0 : Int)) && true)), false)]) rfl (show 2 ∈ Zx (Ze7 2) from by decide +kernel) (fun gv => by kernel_rfl) (Zb (Zg (ZA (E := E_ii) (L := (L0.getD ((Zc v1 v16 v17)).toNat R_iiiiiiiA.z).a7) (i := 0) (q := 0) ltA (show (0 + (0 * 2)) = 0 * 2 + 0 from by omega) (show 0 + 2 ≤ 2 from by decide) rfl)) <| oL <| oI <| Zb (Zg (ZA (E := E_ii) (L := (L0.getD ((Zc v1 v16 v17)).toNat R_iiiiiiiA.z).a7) (i := 1) (q := 1) ltA (show ((0 + (1 * 2)) + 1) = 1 * 2 + 1 from by omega) (show 1 + 1 ≤ 2 from by decide) rfl)) <| oL <| oI <| oF <| Zb (Zdi (by first | assumption | exact Decidable.not_not.1 (by assumption) | simp_all)) <| Zb (Zg (ZcB #[Value.agg #[vi (L0.getD ((Zc v1 v16 v17)).toNat R_iiiiiiiA.z).a0, vi (L0.getD ((Zc v1 v16 v17)).toNat R_iiiiiiiA.z).a1, vi (L0.getD ((Zc v1 v16 v17)).toNat R_iiiiiiiA.z).a2, vi (L0.getD ((Zc v1 v16 v17)).toNat R_iiiiiiiA.z).a3, vi (L0.getD ((Zc v1 v16 v17)).toNat R_iiiiiiiA.z).a4, vi (L0.getD ((Zc v1 v16 v17)).toNat R_iiiiiiiA.z).a5, vi (L0.getD ((Zc v1 v16 v17)).toNat R_iiiiiiiA.z).a6, ms E_ii (L0.getD ((Zc v1 v16 v17)).toNat R_iiiiiiiA.z).a7]] ((L0.getD ((Zc v1 v16 v17)).toNat R_iiiiiiiA.z).a0) ((L0.getD ((Zc v1 v16 v17)).toNat R_iiiiiiiA.z).a1) ((L0.getD ((Zc v1 v16 v17)).toNat R_iiiiiiiA.z).a2) ((L0.getD ((Zc v1 v16 v17)).toNat R_iiiiiiiA.z).a3) ((L0.getD ((Zc v1 v16 v17)).toNat R_iiiiiiiA.z).a4) ((L0.getD ((Zc v1 v16 v17)).toNat R_iiiiiiiA.z).a5) ((L0.getD ((Zc v1 v16 v17)).toNat R_iiiiiiiA.z).a6) ((L0.getD ((Zc v1 v16 v17)).toNat R_iiiiiiiA.z).a7)  y2_0 N c2  11 rfl (by decide) (by decide))) <| Zb (Zg (Zag #[Value.agg #[vi v16, vi v17], vp 2 0, vp 1 0] (v16) (v17) (v1) (L0)   N c1 2 1 8 0 11 rfl (by decide) (by decide))) <| Zb (Zg (Za rfl rfl)) <| Zb (Zg (Za rfl rfl)) <| Zb (Zg (congrArg Z0 (by first | rfl | simp))) <| oR <| Zb (Bool.eq_false_iff.2 (by simp only [ne_eq, Bool.and_true, Bool.and_eq_true, beq_iff_eq]; first | omega | (intro hh; simp_all; done) | (intro hh; grind))) Ze) rfl (by decide) (by rfl) (fun _ => ⟨rr, ⟨rr, ⟨rr, ⟨rr, ⟨rr, ⟨⟨Eq.trans (show (vs 6 0 ([((L0.getD ((Zc v1 v16 v17)).toNat R_iiiiiiiA.z).a7.getD 1 R_ii.z).a1] : List Int).length ([((L0.getD ((Zc v1 v16 v17)).toNat R_iiiiiiiA.z).a7.getD 1 R_ii.z).a1] : List Int).length : Value) = vs 6 0 1 1 from (Zbe rfl eqA eqA)) (by rfl), by rfl⟩, ⟨rr, ⟨rr, trivial⟩⟩⟩⟩⟩⟩⟩⟩) ⟨(Zh (E := E_iiiiiiiA) (α := R_iiiiiiiA) _ L0 _), ⟨⟨rfl, ⟨[], by rfl⟩, by rfl⟩, ⟨⟨rfl, ⟨[], by rfl⟩, by rfl⟩, ⟨⟨rfl, ⟨[], by rfl⟩, by rfl⟩, ⟨⟨rfl, ⟨[], by rfl⟩, by rfl⟩, ⟨⟨rfl, ⟨[], by rfl⟩, by rfl⟩, ⟨(ZcL (E := eI) _ (L := ([((L0.getD ((Zc v1 v16 v17)).toNat R_iiiiiiiA.z).a7.getD 1 R_ii.z).a1] : List Int)) _ (show ([vi ((L0.getD ((Zc v1 v16 v17)).toNat R_iiiiiiiA.z).a7.getD 1 R_ii.z).a1] : List Value) = Zd eI ([((L0.getD ((Zc v1 v16 v17)).toNat R_iiiiiiiA.z).a7.getD 1 R_ii.z).a1] : List Int) from rfl)), ⟨⟨rfl, ⟨[], by rfl⟩, by rfl⟩, ⟨⟨rfl, ⟨[], by rfl⟩, by rfl⟩, ⟨(show Z0 v1 = Z0 v1 from rfl), trivial⟩⟩⟩⟩⟩⟩⟩⟩⟩⟩
      ·
       exact Mach.ok_none

theorem Zka (L0 : List R_iiiiiiiA) (a1 a2 a3 : Int) (v1 : List Int) (v2 : List RA) (v3 v4 v5 v6 v7 v8 v9 : Int) (v10 : List R_ii) (v11 v12 v13 v14 v15 v16 v17 v18 : Int) (N : Nat) : (Z5 L0 a1 a2 a3 N).Ok Tryz.prog Zw (.h2m1 v1 v2 v3 v4 v5 v6 v7 v8 v9 v10 v11 v12 v13 v14 v15 v16 v17 v18 : ZD) (ZQ L0 a1 a2 a3 N (.h2m1 v1 v2 v3 v4 v5 v6 v7 v8 v9 v10 v11 v12 v13 v14 v15 v16 v17 v18 : ZD)) := by
 show (Z5 L0 a1 a2 a3 N).Ok Tryz.prog Zw (.h2m1 v1 v2 v3 v4 v5 v6 v7 v8 v9 v10 v11 v12 v13 v14 v15 v16 v17 v18 : ZD) (Zbp L0 a1 a2 a3 N v1 v2 v3 v4 v5 v6 v7 v8 v9 v10 v11 v12 v13 v14 v15 v16 v17 v18)
 unfold Zbp
 refine Mach.ok_ite (fun g0 => ?_) (fun g0 => ?_)
 ·
  refine Mach.ok_ite (fun g1 => ?_) (fun g1 => ?_)
  ·
   exact Mach.ok_fin (M := Z5 L0 a1 a2 a3 N) (cd := 1000000) (cm := 0) (r := (.r0 ((240 : Int)) : Zp)) (fu := 4000) (orc := (Zi [(0, true), (2, true)] [] [] [] [])) (live := [0]) (u := Value.tuple #[vn, vi (240 : Int)]) (bl := [some (.cells (Zd E_iiiiiiiA L0) 42)]) (ob := [((!((v15 == v11) && ((v16 == v12) && true))), true), (((v17 == (2 : Int)) && ((v18 == (0 : Int)) && true)), true)]) (fun gv => by kernel_rfl) (Zb (by rw [Bool.not_eq_true']; exact Bool.eq_false_iff.2 (by simp only [ne_eq, Bool.and_true, Bool.and_eq_true, beq_iff_eq]; first | omega | (intro hh; simp_all; done) | (intro hh; grind))) <| Zb (by first | (simp only [beq_self_eq_true, Bool.and_self]; done) | (simp only [Bool.and_true, Bool.and_eq_true, beq_iff_eq] <;> first | omega | (simp_all; done) | grind)) Ze) rfl (by decide) (by rfl) rr ⟨(Zh (E := E_iiiiiiiA) (α := R_iiiiiiiA) _ L0 _), trivial⟩
  ·
   refine Mach.ok_ite (fun g2 => ?_) (fun g2 => ?_)
   ·
    exact Mach.ok_fin (M := Z5 L0 a1 a2 a3 N) (cd := 1000000) (cm := 0) (r := (.r0 ((240 : Int)) : Zp)) (fu := 4000) (orc := (Zi [(0, true), (2, false), (3, true)] [] [] [] [])) (live := [0]) (u := Value.tuple #[vn, vi (240 : Int)]) (bl := [some (.cells (Zd E_iiiiiiiA L0) 42)]) (ob := [((v14 != (v1.length : Int)), true), ((!((v15 == v11) && ((v16 == v12) && true))), false), (((v17 == (2 : Int)) && ((v18 == (0 : Int)) && true)), true)]) (fun gv => by kernel_rfl) (oD <| Zb (by rw [Bool.not_eq_false']; first | (simp only [beq_self_eq_true, Bool.and_self]; done) | (simp only [Bool.and_true, Bool.and_eq_true, beq_iff_eq] <;> first | omega | (simp_all; done) | grind)) <| Zb (by first | (simp only [beq_self_eq_true, Bool.and_self]; done) | (simp only [Bool.and_true, Bool.and_eq_true, beq_iff_eq] <;> first | omega | (simp_all; done) | grind)) Ze) rfl (by decide) (by rfl) rr ⟨(Zh (E := E_iiiiiiiA) (α := R_iiiiiiiA) _ L0 _), trivial⟩
   ·
    exact Mach.ok_fin (M := Z5 L0 a1 a2 a3 N) (cd := 1000000) (cm := 0) (r := (.r1 (v1) : Zp)) (fu := 4000) (orc := (Zi [(0, true), (2, false), (3, false)] [] [] [] [])) (live := [0, 6]) (u := Value.tuple #[vs 6 0 v1.length v1.length, vq]) (bl := [some (.cells (Zd E_iiiiiiiA L0) 42), some (.cells (Zd eI v1) 3)]) (ob := [((v14 != (v1.length : Int)), false), ((!((v15 == v11) && ((v16 == v12) && true))), false), (((v17 == (2 : Int)) && ((v18 == (0 : Int)) && true)), true)]) (fun gv => by kernel_rfl) (oE <| Zb (by rw [Bool.not_eq_false']; first | (simp only [beq_self_eq_true, Bool.and_self]; done) | (simp only [Bool.and_true, Bool.and_eq_true, beq_iff_eq] <;> first | omega | (simp_all; done) | grind)) <| Zb (by first | (simp only [beq_self_eq_true, Bool.and_self]; done) | (simp only [Bool.and_true, Bool.and_eq_true, beq_iff_eq] <;> first | omega | (simp_all; done) | grind)) Ze) rfl (by decide) (by rfl) rr ⟨(Zh (E := E_iiiiiiiA) (α := R_iiiiiiiA) _ L0 _), ⟨(Zh (E := eI) (α := Int) _ v1 _), trivial⟩⟩
 ·
  refine Mach.ok_bind (fun z1 c1 => ?_)
  cases z1 with
  | r0 =>
   exact Mach.ok_fin (M := Z5 L0 a1 a2 a3 N) (cd := 1000000) (cm := 0) (r := (.r0 ((240 : Int)) : Zp)) (fu := 4000) (orc := (Zi [(0, false)] [] [] [] [(1, (ZeK (v17) (v18) (v2) (L0)   2 1 9 0 12))])) (live := [0]) (u := Value.tuple #[vn, vi (240 : Int)]) (bl := [some (.cells (Zd E_iiiiiiiA L0) 42)]) (ob := [(dP (Zd4 #[Value.agg #[vi v17, vi v18], vp 2 0, vp 1 0] (v17) (v18) (v2) (L0)   2 1 9 0 12), true), (dS [Value.map (some 9)], true), (dS [vs 0 0 L0.length L0.length], true), (dS (Z0 v2), true), (dS (Zd E_iiiiiiiA L0), true), (((v17 == (2 : Int)) && ((v18 == (0 : Int)) && true)), false)]) (fun gv => by kernel_rfl) (Zb (Zg (ZeL #[Value.agg #[vi v17, vi v18], vp 2 0, vp 1 0] (v17) (v18) (v2) (L0)   N c1 2 1 9 0 12 rfl (by decide) (by decide))) <| Zb (Zg (Za rfl rfl)) <| Zb (Zg (Za rfl rfl)) <| Zb (Zg (congrArg Z0 (by first | rfl | simp))) <| oR <| Zb (Bool.eq_false_iff.2 (by simp only [ne_eq, Bool.and_true, Bool.and_eq_true, beq_iff_eq]; first | omega | (intro hh; simp_all; done) | (intro hh; grind))) Ze) rfl (by decide) (by rfl) rr ⟨(Zh (E := E_iiiiiiiA) (α := R_iiiiiiiA) _ L0 _), trivial⟩
  | r1 =>
   refine Mach.ok_bind (fun z2 c2 => ?_)
   cases z2 with
   | r0 y2_0 =>
    refine Mach.ok_ite (fun g3 => ?_) (fun g3 => ?_)
    ·
     exact Mach.ok_fin (M := Z5 L0 a1 a2 a3 N) (cd := 1000000) (cm := 0) (r := (.r0 ((240 : Int)) : Zp)) (fu := 4000) (orc := (Zi [(0, false), (3, true)] [] [] [] [(1, (Zaf (v17) (v18) (v2) (L0)   2 1 9 0 12)), (3, (ZcA ((L0.getD ((Zc v2 v17 v18)).toNat R_iiiiiiiA.z).a0) ((L0.getD ((Zc v2 v17 v18)).toNat R_iiiiiiiA.z).a1) ((L0.getD ((Zc v2 v17 v18)).toNat R_iiiiiiiA.z).a2) ((L0.getD ((Zc v2 v17 v18)).toNat R_iiiiiiiA.z).a3) ((L0.getD ((Zc v2 v17 v18)).toNat R_iiiiiiiA.z).a4) ((L0.getD ((Zc v2 v17 v18)).toNat R_iiiiiiiA.z).a5) ((L0.getD ((Zc v2 v17 v18)).toNat R_iiiiiiiA.z).a6) ((L0.getD ((Zc v2 v17 v18)).toNat R_iiiiiiiA.z).a7)  y2_0  12))])) (live := [0]) (u := Value.tuple #[vn, vi (240 : Int)]) (bl := [some (.cells (Zd E_iiiiiiiA L0) 42)]) (ob := [((!y2_0), true), (dP (Zcj #[Value.agg #[vi (L0.getD ((Zc v2 v17 v18)).toNat R_iiiiiiiA.z).a0, vi (L0.getD ((Zc v2 v17 v18)).toNat R_iiiiiiiA.z).a1, vi (L0.getD ((Zc v2 v17 v18)).toNat R_iiiiiiiA.z).a2, vi (L0.getD ((Zc v2 v17 v18)).toNat R_iiiiiiiA.z).a3, vi (L0.getD ((Zc v2 v17 v18)).toNat R_iiiiiiiA.z).a4, vi (L0.getD ((Zc v2 v17 v18)).toNat R_iiiiiiiA.z).a5, vi (L0.getD ((Zc v2 v17 v18)).toNat R_iiiiiiiA.z).a6, ms E_ii (L0.getD ((Zc v2 v17 v18)).toNat R_iiiiiiiA.z).a7]] ((L0.getD ((Zc v2 v17 v18)).toNat R_iiiiiiiA.z).a0) ((L0.getD ((Zc v2 v17 v18)).toNat R_iiiiiiiA.z).a1) ((L0.getD ((Zc v2 v17 v18)).toNat R_iiiiiiiA.z).a2) ((L0.getD ((Zc v2 v17 v18)).toNat R_iiiiiiiA.z).a3) ((L0.getD ((Zc v2 v17 v18)).toNat R_iiiiiiiA.z).a4) ((L0.getD ((Zc v2 v17 v18)).toNat R_iiiiiiiA.z).a5) ((L0.getD ((Zc v2 v17 v18)).toNat R_iiiiiiiA.z).a6) ((L0.getD ((Zc v2 v17 v18)).toNat R_iiiiiiiA.z).a7)  y2_0  12), true), (dP (Zaa #[Value.agg #[vi v17, vi v18], vp 2 0, vp 1 0] (v17) (v18) (v2) (L0)   2 1 9 0 12), true), (dS [Value.map (some 9)], true), (dS [vs 0 0 L0.length L0.length], true), (dS (Z0 v2), true), (dS (Zd E_iiiiiiiA L0), true), (((v17 == (2 : Int)) && ((v18 == (0 : Int)) && true)), false)]) (fun gv => by kernel_rfl) (Zb (Zfh (by first | assumption | simp_all)) <| Zb (Zg (ZcB #[Value.agg #[vi (L0.getD ((Zc v2 v17 v18)).toNat R_iiiiiiiA.z).a0, vi (L0.getD ((Zc v2 v17 v18)).toNat R_iiiiiiiA.z).a1, vi (L0.getD ((Zc v2 v17 v18)).toNat R_iiiiiiiA.z).a2, vi (L0.getD ((Zc v2 v17 v18)).toNat R_iiiiiiiA.z).a3, vi (L0.getD ((Zc v2 v17 v18)).toNat R_iiiiiiiA.z).a4, vi (L0.getD ((Zc v2 v17 v18)).toNat R_iiiiiiiA.z).a5, vi (L0.getD ((Zc v2 v17 v18)).toNat R_iiiiiiiA.z).a6, ms E_ii (L0.getD ((Zc v2 v17 v18)).toNat R_iiiiiiiA.z).a7]] ((L0.getD ((Zc v2 v17 v18)).toNat R_iiiiiiiA.z).a0) ((L0.getD ((Zc v2 v17 v18)).toNat R_iiiiiiiA.z).a1) ((L0.getD ((Zc v2 v17 v18)).toNat R_iiiiiiiA.z).a2) ((L0.getD ((Zc v2 v17 v18)).toNat R_iiiiiiiA.z).a3) ((L0.getD ((Zc v2 v17 v18)).toNat R_iiiiiiiA.z).a4) ((L0.getD ((Zc v2 v17 v18)).toNat R_iiiiiiiA.z).a5) ((L0.getD ((Zc v2 v17 v18)).toNat R_iiiiiiiA.z).a6) ((L0.getD ((Zc v2 v17 v18)).toNat R_iiiiiiiA.z).a7)  y2_0 N c2  12 rfl (by decide) (by decide))) <| Zb (Zg (Zag #[Value.agg #[vi v17, vi v18], vp 2 0, vp 1 0] (v17) (v18) (v2) (L0)   N c1 2 1 9 0 12 rfl (by decide) (by decide))) <| Zb (Zg (Za rfl rfl)) <| Zb (Zg (Za rfl rfl)) <| Zb (Zg (congrArg Z0 (by first | rfl | simp))) <| oR <| Zb (Bool.eq_false_iff.2 (by simp only [ne_eq, Bool.and_true, Bool.and_eq_true, beq_iff_eq]; first | omega | (intro hh; simp_all; done) | (intro hh; grind))) Ze) rfl (by decide) (by rfl) rr ⟨(Zh (E := E_iiiiiiiA) (α := R_iiiiiiiA) _ L0 _), trivial⟩
    ·
     refine Mach.ok_ite (fun g4 => ?_) (fun g4 => ?_)
     ·
      exact Mach.ok_fin (M := Z5 L0 a1 a2 a3 N) (cd := 1000000) (cm := 0) (r := (.r0 ((240 : Int)) : Zp)) (fu := 4000) (orc := (Zi [(0, false), (3, false), (4, true)] [] [] [] [(1, (Zaf (v17) (v18) (v2) (L0)   2 1 9 0 12)), (3, (ZcA ((L0.getD ((Zc v2 v17 v18)).toNat R_iiiiiiiA.z).a0) ((L0.getD ((Zc v2 v17 v18)).toNat R_iiiiiiiA.z).a1) ((L0.getD ((Zc v2 v17 v18)).toNat R_iiiiiiiA.z).a2) ((L0.getD ((Zc v2 v17 v18)).toNat R_iiiiiiiA.z).a3) ((L0.getD ((Zc v2 v17 v18)).toNat R_iiiiiiiA.z).a4) ((L0.getD ((Zc v2 v17 v18)).toNat R_iiiiiiiA.z).a5) ((L0.getD ((Zc v2 v17 v18)).toNat R_iiiiiiiA.z).a6) ((L0.getD ((Zc v2 v17 v18)).toNat R_iiiiiiiA.z).a7)  y2_0  12))])) (live := [0]) (u := Value.tuple #[vn, vi (240 : Int)]) (bl := [some (.cells (Zd E_iiiiiiiA L0) 42)]) (ob := [(((v1.length : Int) == (L0.length : Int)), true), ((!y2_0), false), (dP (Zcj #[Value.agg #[vi (L0.getD ((Zc v2 v17 v18)).toNat R_iiiiiiiA.z).a0, vi (L0.getD ((Zc v2 v17 v18)).toNat R_iiiiiiiA.z).a1, vi (L0.getD ((Zc v2 v17 v18)).toNat R_iiiiiiiA.z).a2, vi (L0.getD ((Zc v2 v17 v18)).toNat R_iiiiiiiA.z).a3, vi (L0.getD ((Zc v2 v17 v18)).toNat R_iiiiiiiA.z).a4, vi (L0.getD ((Zc v2 v17 v18)).toNat R_iiiiiiiA.z).a5, vi (L0.getD ((Zc v2 v17 v18)).toNat R_iiiiiiiA.z).a6, ms E_ii (L0.getD ((Zc v2 v17 v18)).toNat R_iiiiiiiA.z).a7]] ((L0.getD ((Zc v2 v17 v18)).toNat R_iiiiiiiA.z).a0) ((L0.getD ((Zc v2 v17 v18)).toNat R_iiiiiiiA.z).a1) ((L0.getD ((Zc v2 v17 v18)).toNat R_iiiiiiiA.z).a2) ((L0.getD ((Zc v2 v17 v18)).toNat R_iiiiiiiA.z).a3) ((L0.getD ((Zc v2 v17 v18)).toNat R_iiiiiiiA.z).a4) ((L0.getD ((Zc v2 v17 v18)).toNat R_iiiiiiiA.z).a5) ((L0.getD ((Zc v2 v17 v18)).toNat R_iiiiiiiA.z).a6) ((L0.getD ((Zc v2 v17 v18)).toNat R_iiiiiiiA.z).a7)  y2_0  12), true), (dP (Zaa #[Value.agg #[vi v17, vi v18], vp 2 0, vp 1 0] (v17) (v18) (v2) (L0)   2 1 9 0 12), true), (dS [Value.map (some 9)], true), (dS [vs 0 0 L0.length L0.length], true), (dS (Z0 v2), true), (dS (Zd E_iiiiiiiA L0), true), (((v17 == (2 : Int)) && ((v18 == (0 : Int)) && true)), false)]) (fun gv => by kernel_rfl) (oT <| Zb (Zdi (by first | assumption | exact Decidable.not_not.1 (by assumption) | simp_all)) <| Zb (Zg (ZcB #[Value.agg #[vi (L0.getD ((Zc v2 v17 v18)).toNat R_iiiiiiiA.z).a0, vi (L0.getD ((Zc v2 v17 v18)).toNat R_iiiiiiiA.z).a1, vi (L0.getD ((Zc v2 v17 v18)).toNat R_iiiiiiiA.z).a2, vi (L0.getD ((Zc v2 v17 v18)).toNat R_iiiiiiiA.z).a3, vi (L0.getD ((Zc v2 v17 v18)).toNat R_iiiiiiiA.z).a4, vi (L0.getD ((Zc v2 v17 v18)).toNat R_iiiiiiiA.z).a5, vi (L0.getD ((Zc v2 v17 v18)).toNat R_iiiiiiiA.z).a6, ms E_ii (L0.getD ((Zc v2 v17 v18)).toNat R_iiiiiiiA.z).a7]] ((L0.getD ((Zc v2 v17 v18)).toNat R_iiiiiiiA.z).a0) ((L0.getD ((Zc v2 v17 v18)).toNat R_iiiiiiiA.z).a1) ((L0.getD ((Zc v2 v17 v18)).toNat R_iiiiiiiA.z).a2) ((L0.getD ((Zc v2 v17 v18)).toNat R_iiiiiiiA.z).a3) ((L0.getD ((Zc v2 v17 v18)).toNat R_iiiiiiiA.z).a4) ((L0.getD ((Zc v2 v17 v18)).toNat R_iiiiiiiA.z).a5) ((L0.getD ((Zc v2 v17 v18)).toNat R_iiiiiiiA.z).a6) ((L0.getD ((Zc v2 v17 v18)).toNat R_iiiiiiiA.z).a7)  y2_0 N c2  12 rfl (by decide) (by decide))) <| Zb (Zg (Zag #[Value.agg #[vi v17, vi v18], vp 2 0, vp 1 0] (v17) (v18) (v2) (L0)   N c1 2 1 9 0 12 rfl (by decide) (by decide))) <| Zb (Zg (Za rfl rfl)) <| Zb (Zg (Za rfl rfl)) <| Zb (Zg (congrArg Z0 (by first | rfl | simp))) <| oR <| Zb (Bool.eq_false_iff.2 (by simp only [ne_eq, Bool.and_true, Bool.and_eq_true, beq_iff_eq]; first | omega | (intro hh; simp_all; done) | (intro hh; grind))) Ze) rfl (by decide) (by rfl) rr ⟨(Zh (E := E_iiiiiiiA) (α := R_iiiiiiiA) _ L0 _), trivial⟩
     ·
      refine Mach.ok_ite (fun g5 => ?_) (fun g5 => ?_)
      ·
       refine Mach.ok_ite (fun g6 => ?_) (fun g6 => ?_)
       ·
        exact Mach.ok_next (M := Z5 L0 a1 a2 a3 N) (cd := 1000000) (cm := 0) (y := (.h2m1 ((v1 ++ ([((L0.getD ((Zc v2 v17 v18)).toNat R_iiiiiiiA.z).a7.getD 1 R_ii.z).a1] : List Int))) (v2) ((L0.getD ((Zc v2 v17 v18)).toNat R_iiiiiiiA.z).a0) ((L0.getD ((Zc v2 v17 v18)).toNat R_iiiiiiiA.z).a1) ((L0.getD ((Zc v2 v17 v18)).toNat R_iiiiiiiA.z).a2) ((L0.getD ((Zc v2 v17 v18)).toNat R_iiiiiiiA.z).a3) ((L0.getD ((Zc v2 v17 v18)).toNat R_iiiiiiiA.z).a4) ((L0.getD ((Zc v2 v17 v18)).toNat R_iiiiiiiA.z).a5) ((L0.getD ((Zc v2 v17 v18)).toNat R_iiiiiiiA.z).a6) ((L0.getD ((Zc v2 v17 v18)).toNat R_iiiiiiiA.z).a7) (v11) (v12) (v13) (v14) (v17) (v18) (((L0.getD ((Zc v2 v17 v18)).toNat R_iiiiiiiA.z).a7.getD 0 R_ii.z).a0) (((L0.getD ((Zc v2 v17 v18)).toNat R_iiiiiiiA.z).a7.getD 0 R_ii.z).a1) : ZD)) (fu := 4000) (orc := (Zi [(0, false), (3, false), (4, false)] [] [(0, 1), (1, 0)] [(6, [.i ((L0.getD ((Zc v2 v17 v18)).toNat R_iiiiiiiA.z).a7.getD 1 R_ii.z).a1]), (10, [.i ((L0.getD ((Zc v2 v17 v18)).toNat R_iiiiiiiA.z).a7.getD 0 R_ii.z).a0, .i ((L0.getD ((Zc v2 v17 v18)).toNat R_iiiiiiiA.z).a7.getD 0 R_ii.z).a1])] [(1, (Zaf (v17) (v18) (v2) (L0)   2 1 9 0 12)), (3, (ZcA ((L0.getD ((Zc v2 v17 v18)).toNat R_iiiiiiiA.z).a0) ((L0.getD ((Zc v2 v17 v18)).toNat R_iiiiiiiA.z).a1) ((L0.getD ((Zc v2 v17 v18)).toNat R_iiiiiiiA.z).a2) ((L0.getD ((Zc v2 v17 v18)).toNat R_iiiiiiiA.z).a3) ((L0.getD ((Zc v2 v17 v18)).toNat R_iiiiiiiA.z).a4) ((L0.getD ((Zc v2 v17 v18)).toNat R_iiiiiiiA.z).a5) ((L0.getD ((Zc v2 v17 v18)).toNat R_iiiiiiiA.z).a6) ((L0.getD ((Zc v2 v17 v18)).toNat R_iiiiiiiA.z).a7)  y2_0  12)), (4, .ap 1 [vi ((L0.getD ((Zc v2 v17 v18)).toNat R_iiiiiiiA.z).a7.getD 1 R_ii.z).a1] (Zd eI (v1 ++ ([((L0.getD ((Zc v2 v17 v18)).toNat R_iiiiiiiA.z).a7.getD 1 R_ii.z).a1] : List Int))))])) (live := [0, 1, 2, 3, 4, 5, 13, 7, 14, 9]) (tv := fun _ => [some (vp 1 0), some (Value.func (.func 32) #[] #[vp 2 0, vp 1 0]), some (vp 3 0), some (vp 4 0), some (vp 5 0), some (vs 13 0 (v1.length + 1) (v1.length + 1)), some (vp 7 0), some (vp 14 0)]) (bl := [some (.cells (Zd E_iiiiiiiA L0) 42), some (.cells [vs 0 0 L0.length L0.length] 33), some (.cells [Value.map (some 9)] 85), some (.cells [vi (L0.getD ((Zc v2 v17 v18)).toNat R_iiiiiiiA.z).a0, vi (L0.getD ((Zc v2 v17 v18)).toNat R_iiiiiiiA.z).a1, vi (L0.getD ((Zc v2 v17 v18)).toNat R_iiiiiiiA.z).a2, vi (L0.getD ((Zc v2 v17 v18)).toNat R_iiiiiiiA.z).a3, vi (L0.getD ((Zc v2 v17 v18)).toNat R_iiiiiiiA.z).a4, vi (L0.getD ((Zc v2 v17 v18)).toNat R_iiiiiiiA.z).a5, vi (L0.getD ((Zc v2 v17 v18)).toNat R_iiiiiiiA.z).a6, ms E_ii (L0.getD ((Zc v2 v17 v18)).toNat R_iiiiiiiA.z).a7] 42), some (.cells [vi v11, vi v12] 36), some (.cells [vi v13, vi v14] 36), some (.cells (Zd eI (v1 ++ ([((L0.getD ((Zc v2 v17 v18)).toNat R_iiiiiiiA.z).a7.getD 1 R_ii.z).a1] : List Int))) 3), some (.cells [vi v17, vi v18] 36), some (.cells [vi ((L0.getD ((Zc v2 v17 v18)).toNat R_iiiiiiiA.z).a7.getD 0 R_ii.z).a0, vi ((L0.getD ((Zc v2 v17 v18)).toNat R_iiiiiiiA.z).a7.getD 0 R_ii.z).a1] 36), some (.ro (Z0 v2) true)]) (ob := [(dP (ZN (code (ZG E_ii (L0.getD ((Zc v2 v17 v18)).toNat R_iiiiiiiA.z).a7)) (0 + (0 * 2)) 2 = some [.i ((L0.getD ((Zc v2 v17 v18)).toNat R_iiiiiiiA.z).a7.getD 0 R_ii.z).a0, .i ((L0.getD ((Zc v2 v17 v18)).toNat R_iiiiiiiA.z).a7.getD 0 R_ii.z).a1]), true), (Nat.blt 0 (L0.getD ((Zc v2 v17 v18)).toNat R_iiiiiiiA.z).a7.length, true), ((0 : Int) == Int.ofNat 0, true), (dP ((1 = 1 ∧ Zs (1 * 1) (List.drop 0 [vi ((L0.getD ((Zc v2 v17 v18)).toNat R_iiiiiiiA.z).a7.getD 1 R_ii.z).a1]) = some [vi ((L0.getD ((Zc v2 v17 v18)).toNat R_iiiiiiiA.z).a7.getD 1 R_ii.z).a1] ∧ Z8 ZaK [vi ((L0.getD ((Zc v2 v17 v18)).toNat R_iiiiiiiA.z).a7.getD 1 R_ii.z).a1] = true) ∧ 0 < 1 ∧ 1 ≤ 100000 ∧ v1.length < v1.length + 1 ∧ v1.length ≤ 100000 ∧ v1.length * 1 ≤ (List.length (Zd eI v1)) ∧ List.take (v1.length * 1) (Zd eI v1) ++ [vi ((L0.getD ((Zc v2 v17 v18)).toNat R_iiiiiiiA.z).a7.getD 1 R_ii.z).a1] = (Zd eI (v1 ++ ([((L0.getD ((Zc v2 v17 v18)).toNat R_iiiiiiiA.z).a7.getD 1 R_ii.z).a1] : List Int)))), true), (dP (ZN (code (ZG E_ii (L0.getD ((Zc v2 v17 v18)).toNat R_iiiiiiiA.z).a7)) ((0 + (1 * 2)) + 1) 1 = some [.i ((L0.getD ((Zc v2 v17 v18)).toNat R_iiiiiiiA.z).a7.getD 1 R_ii.z).a1]), true), (Nat.blt 1 (L0.getD ((Zc v2 v17 v18)).toNat R_iiiiiiiA.z).a7.length, true), ((1 : Int) == Int.ofNat 1, true), (((v1.length : Int) == (L0.length : Int)), false), ((!y2_0), false), (dP (Zcj #[Value.agg #[vi (L0.getD ((Zc v2 v17 v18)).toNat R_iiiiiiiA.z).a0, vi (L0.getD ((Zc v2 v17 v18)).toNat R_iiiiiiiA.z).a1, vi (L0.getD ((Zc v2 v17 v18)).toNat R_iiiiiiiA.z).a2, vi (L0.getD ((Zc v2 v17 v18)).toNat R_iiiiiiiA.z).a3, vi (L0.getD ((Zc v2 v17 v18)).toNat R_iiiiiiiA.z).a4, vi (L0.getD ((Zc v2 v17 v18)).toNat R_iiiiiiiA.z).a5, vi (L0.getD ((Zc v2 v17 v18)).toNat R_iiiiiiiA.z).a6, ms E_ii (L0.getD ((Zc v2 v17 v18)).toNat R_iiiiiiiA.z).a7]] ((L0.getD ((Zc v2 v17 v18)).toNat R_iiiiiiiA.z).a0) ((L0.getD ((Zc v2 v17 v18)).toNat R_iiiiiiiA.z).a1) ((L0.getD ((Zc v2 v17 v18)).toNat R_iiiiiiiA.z).a2) ((L0.getD ((Zc v2 v17 v18)).toNat R_iiiiiiiA.z).a3) ((L0.getD ((Zc v2 v17 v18)).toNat R_iiiiiiiA.z).a4) ((L0.getD ((Zc v2 v17 v18)).toNat R_iiiiiiiA.z).a5) ((L0.getD ((Zc v2 v17 v18)).toNat R_iiiiiiiA.z).a6) ((L0.getD ((Zc v2 v17 v18)).toNat R_iiiiiiiA.z).a7)  y2_0  12), true), (dP (Zaa #[Value.agg #[vi v17, vi v18], vp 2 0, vp 1 0] (v17) (v18) (v2) (L0)   2 1 9 0 12), true), (dS [Value.map (some 9)], true), (dS [vs 0 0 L0.length L0.length], true), (dS (Z0 v2), true), (dS (Zd E_iiiiiiiA L0), true), (((v17 == (2 : Int)) && ((v18 == (0 : Int)) && true)), false)]) rfl (show 2 ∈ Zx (Ze7 2) from by decide +kernel) (fun gv => by kernel_rfl) (Zb (Zg (ZA (E := E_ii) (L := (L0.getD ((Zc v2 v17 v18)).toNat R_iiiiiiiA.z).a7) (i := 0) (q := 0) ltA (show (0 + (0 * 2)) = 0 * 2 + 0 from by omega) (show 0 + 2 ≤ 2 from by decide) rfl)) <| oL <| oI <| Zb (Zg ⟨⟨rfl, ⟨rfl, rfl⟩⟩, by omega, by omega, ltA, by omega, (Zdx (E := eI) (L := v1) (M := ([((L0.getD ((Zc v2 v17 v18)).toNat R_iiiiiiiA.z).a7.getD 1 R_ii.z).a1] : List Int)) (n := v1.length) (show _ = _ * 1 from rfl) (by omega) (R := (v1 ++ ([((L0.getD ((Zc v2 v17 v18)).toNat R_iiiiiiiA.z).a7.getD 1 R_ii.z).a1] : List Int))) (by rw [List.take_of_length_le (by omega)]))⟩) <| Zb (Zg (ZA (E := E_ii) (L := (L0.getD ((Zc v2 v17 v18)).toNat R_iiiiiiiA.z).a7) (i := 1) (q := 1) ltA (show ((0 + (1 * 2)) + 1) = 1 * 2 + 1 from by omega) (show 1 + 1 ≤ 2 from by decide) rfl)) <| oL <| oI <| oF <| Zb (Zdi (by first | assumption | exact Decidable.not_not.1 (by assumption) | simp_all)) <| Zb (Zg (ZcB #[Value.agg #[vi (L0.getD ((Zc v2 v17 v18)).toNat R_iiiiiiiA.z).a0, vi (L0.getD ((Zc v2 v17 v18)).toNat R_iiiiiiiA.z).a1, vi (L0.getD ((Zc v2 v17 v18)).toNat R_iiiiiiiA.z).a2, vi (L0.getD ((Zc v2 v17 v18)).toNat R_iiiiiiiA.z).a3, vi (L0.getD ((Zc v2 v17 v18)).toNat R_iiiiiiiA.z).a4, vi (L0.getD ((Zc v2 v17 v18)).toNat R_iiiiiiiA.z).a5, vi (L0.getD ((Zc v2 v17 v18)).toNat R_iiiiiiiA.z).a6, ms E_ii (L0.getD ((Zc v2 v17 v18)).toNat R_iiiiiiiA.z).a7]] ((L0.getD ((Zc v2 v17 v18)).toNat R_iiiiiiiA.z).a0) ((L0.getD ((Zc v2 v17 v18)).toNat R_iiiiiiiA.z).a1) ((L0.getD ((Zc v2 v17 v18)).toNat R_iiiiiiiA.z).a2) ((L0.getD ((Zc v2 v17 v18)).toNat R_iiiiiiiA.z).a3) ((L0.getD ((Zc v2 v17 v18)).toNat R_iiiiiiiA.z).a4) ((L0.getD ((Zc v2 v17 v18)).toNat R_iiiiiiiA.z).a5) ((L0.getD ((Zc v2 v17 v18)).toNat R_iiiiiiiA.z).a6) ((L0.getD ((Zc v2 v17 v18)).toNat R_iiiiiiiA.z).a7)  y2_0 N c2  12 rfl (by decide) (by decide))) <| Zb (Zg (Zag #[Value.agg #[vi v17, vi v18], vp 2 0, vp 1 0] (v17) (v18) (v2) (L0)   N c1 2 1 9 0 12 rfl (by decide) (by decide))) <| Zb (Zg (Za rfl rfl)) <| Zb (Zg (Za rfl rfl)) <| Zb (Zg (congrArg Z0 (by first | rfl | simp))) <| oR <| Zb (Bool.eq_false_iff.2 (by simp only [ne_eq, Bool.and_true, Bool.and_eq_true, beq_iff_eq]; first | omega | (intro hh; simp_all; done) | (intro hh; grind))) Ze) rfl (by decide) (by rfl) (fun _ => ⟨rr, ⟨rr, ⟨rr, ⟨rr, ⟨rr, ⟨⟨Eq.trans (show (vs 6 0 (v1 ++ ([((L0.getD ((Zc v2 v17 v18)).toNat R_iiiiiiiA.z).a7.getD 1 R_ii.z).a1] : List Int)).length (v1 ++ ([((L0.getD ((Zc v2 v17 v18)).toNat R_iiiiiiiA.z).a7.getD 1 R_ii.z).a1] : List Int)).length : Value) = vs 6 0 (v1.length + 1) (v1.length + 1) from (Zbe rfl eqA eqA)) (by rfl), by rfl⟩, ⟨rr, ⟨rr, trivial⟩⟩⟩⟩⟩⟩⟩⟩) ⟨(Zh (E := E_iiiiiiiA) (α := R_iiiiiiiA) _ L0 _), ⟨⟨rfl, ⟨[], by rfl⟩, by rfl⟩, ⟨⟨rfl, ⟨[], by rfl⟩, by rfl⟩, ⟨⟨rfl, ⟨[], by rfl⟩, by rfl⟩, ⟨⟨rfl, ⟨[], by rfl⟩, by rfl⟩, ⟨⟨rfl, ⟨[], by rfl⟩, by rfl⟩, ⟨(Zh (E := eI) (α := Int) _ (v1 ++ ([((L0.getD ((Zc v2 v17 v18)).toNat R_iiiiiiiA.z).a7.getD 1 R_ii.z).a1] : List Int)) _), ⟨⟨rfl, ⟨[], by rfl⟩, by rfl⟩, ⟨⟨rfl, ⟨[], by rfl⟩, by rfl⟩, ⟨(show Z0 v2 = Z0 v2 from rfl), trivial⟩⟩⟩⟩⟩⟩⟩⟩⟩⟩
       ·
        exact Mach.ok_none
      ·
       exact Mach.ok_none

theorem Zmi (L0 : List R_iiiiiiiA) (a1 a2 a3 : Int) (N : Nat) : (Z5 L0 a1 a2 a3 N).Enter Tryz.prog Zw #[vs 0 0 L0.length L0.length, Value.agg #[vi a1, vi a2], vi a3] (Zeh L0 a1 a2 a3 N) := by
 unfold Zeh
 refine Mach.en_ite (fun g0 => ?_) (fun g0 => ?_)
 ·
  exact Mach.en_head (bK := Zbl 1) (M := Z5 L0 a1 a2 a3 N) (cd := 1000000) (cm := 0) (y := (.h1m0 (((L0.length : Int) - (1 : Int))) (([] : List RA)) : ZD)) (fu := 4000) (orc := (Zi [] [(0, ((L0.length : Int) - (1 : Int)))] [] [] [])) (live := [0, 1, 2, 4, 3]) (tv := [some (vi a3), some (vp 1 0), some (vp 2 0), some (vp 4 0), some (vi ((L0.length : Int) - (1 : Int)))]) (bl := [some (.cells (Zd E_iiiiiiiA L0) 42), some (.cells [vs 0 0 L0.length L0.length] 33), some (.cells [vi a1, vi a2] 36), some (.cells [Value.map (some 3)] 85), some (.ro (Z0 ([] : List RA)) true)]) (ob := [((IntKind.i64.wrap ((L0.length : Int) - (1 : Int))) == ((L0.length : Int) - (1 : Int)), true)]) rfl rfl (show Zx (Zbl 1).2 = [] from rfl) (by kernel_rfl) (Zb (beq_iff_eq.2 ((wrap_i64 ltA).trans (by first | rfl | omega))) Ze) rfl (by decide) (by rfl) ⟨rr, ⟨rr, ⟨rr, ⟨rr, ⟨rr, trivial⟩⟩⟩⟩⟩ ⟨(Zh (E := E_iiiiiiiA) (α := R_iiiiiiiA) _ L0 _), ⟨⟨rfl, ⟨[], by rfl⟩, by rfl⟩, ⟨⟨rfl, ⟨[], by rfl⟩, by rfl⟩, ⟨⟨rfl, ⟨[], by rfl⟩, by rfl⟩, ⟨(show Z0 ([] : List RA) = Z0 ([] : List RA) from rfl), trivial⟩⟩⟩⟩⟩
 ·
  exact Mach.en_none

theorem Zgw (L0 : List R_iiiiiiiA) (a1 a2 a3 : Int) (N : Nat) (r : Zp) (h : Zc3 L0 a1 a2 a3 N = some r) : LSpec Tryz.prog 11 #[vs 0 0 L0.length L0.length, Value.agg #[vi a1, vi a2], vi a3] [.cells (Zd E_iiiiiiiA L0) 42] (ZiY L0 a1 a2 a3 r) (Zia L0 a1 a2 a3 r) :=
 Mach.spec ZaC (Z5 L0 a1 a2 a3 N) Tryz.func11 (by kernel_rfl) (by kernel_rfl) (fun x => by cases x <;> exact ZS _ rfl) (fun r => by cases r <;> exact ZS _ rfl) (fun x => by
  cases x with
  | h1m0 _ _ => exact fun _ => (show ¬ (1 ∈ Zx (Zbl 1).2) from by decide +kernel)
  | h2m0 _ _ _ _ _ _ _ _ _ _ _ _ _ _ _ => exact fun _ => (show ¬ (2 ∈ Zx (Zbl 2).2) from by decide +kernel)
  | h2m1 _ _ _ _ _ _ _ _ _ _ _ _ _ _ _ _ _ _ => exact fun _ => (show ¬ (2 ∈ Zx (Zbl 2).2) from by decide +kernel)
  ) (fun x => (show (Z5 L0 a1 a2 a3 N).Ok Tryz.prog Zw x (ZQ L0 a1 a2 a3 N x) from by
  cases x with
  | h1m0 v2 v5 => exact ZjY L0 a1 a2 a3 v2 v5 N
  | h2m0 v1 v2 v3 v4 v5 v6 v7 v8 v9 v10 v11 v12 v13 v16 v17 => exact ZjZ L0 a1 a2 a3 v1 v2 v3 v4 v5 v6 v7 v8 v9 v10 v11 v12 v13 v16 v17 N
  | h2m1 v1 v2 v3 v4 v5 v6 v7 v8 v9 v10 v11 v12 v13 v14 v15 v16 v17 v18 => exact Zka L0 a1 a2 a3 v1 v2 v3 v4 v5 v6 v7 v8 v9 v10 v11 v12 v13 v14 v15 v16 v17 v18 N
  )) (Zmi L0 a1 a2 a3 N) (n := N) h

noncomputable def ZaX (L0 : List R_iiiiiiiA) (a1 a2 a3 w1 : Int) (k0 n : Nat) : ZaD := .call [(k0, .cells (Zd E_iiiiiiiA L0) 42)] (Value.tuple #[vn, vi w1]) [] 0
def ZaI (A : Array Value) (L0 : List R_iiiiiiiA) (a1 a2 a3 w1 : Int) (k0 n : Nat) : Prop := ZF Tryz.prog 11 A [(k0, .cells (Zd E_iiiiiiiA L0) 42)] (Value.tuple #[vn, vi w1]) [] n 0

theorem ZaY (A : Array Value) (L0 : List R_iiiiiiiA) (a1 a2 a3 w1 : Int) (N : Nat) (h : Zc3 L0 a1 a2 a3 N = some (.r0 w1)) (k0 n : Nat) (hA : A = #[vs k0 0 L0.length L0.length, Value.agg #[vi a1, vi a2], vi a3]) (hnd : ([k0] : List Nat).Nodup) (hlt : ∀ k ∈ ([k0] : List Nat), k < n) : ZaI A L0 a1 a2 a3 w1 k0 n :=
 ZU hA (LSpec.callL (show LSpec Tryz.prog 11 #[vs 0 0 L0.length L0.length, Value.agg #[vi a1, vi a2], vi a3] [.cells (Zd E_iiiiiiiA L0) 42] (Value.tuple #[vn, vi w1]) [some (.cells (Zd E_iiiiiiiA L0) 42)] from Zgw L0 a1 a2 a3 N _ h) [k0] n [] rfl hnd hlt (show 1 ≤ 1 from by decide) (show ∀ j ∈ ([] : List Nat), j < 1 from by decide) (by rfl) ⟨(Z6 _ _ _), trivial⟩ (by rfl) ⟨(Z6 _ _ _), trivial⟩ ⟨.inr rfl, trivial⟩ rfl rfl rfl (Za (ZE rfl (Zae _ _ _)) rfl) rfl)

noncomputable def ZaZ (L0 : List R_iiiiiiiA) (a1 a2 a3 : Int) (w1 : List Int) (k0 n : Nat) : ZaD := .call [(k0, .cells (Zd E_iiiiiiiA L0) 42)] (Value.tuple #[vs n 0 w1.length w1.length, vq]) [(n, some (.cells (Zd eI w1) 3))] 1
def ZaJ (A : Array Value) (L0 : List R_iiiiiiiA) (a1 a2 a3 : Int) (w1 : List Int) (k0 n : Nat) : Prop := ZF Tryz.prog 11 A [(k0, .cells (Zd E_iiiiiiiA L0) 42)] (Value.tuple #[vs n 0 w1.length w1.length, vq]) [(n, some (.cells (Zd eI w1) 3))] n 1

theorem Zba (A : Array Value) (L0 : List R_iiiiiiiA) (a1 a2 a3 : Int) (w1 : List Int) (N : Nat) (h : Zc3 L0 a1 a2 a3 N = some (.r1 w1)) (k0 n : Nat) (hA : A = #[vs k0 0 L0.length L0.length, Value.agg #[vi a1, vi a2], vi a3]) (hnd : ([k0] : List Nat).Nodup) (hlt : ∀ k ∈ ([k0] : List Nat), k < n) : ZaJ A L0 a1 a2 a3 w1 k0 n :=
 ZU hA (LSpec.callL (show LSpec Tryz.prog 11 #[vs 0 0 L0.length L0.length, Value.agg #[vi a1, vi a2], vi a3] [.cells (Zd E_iiiiiiiA L0) 42] (Value.tuple #[vs 1 0 w1.length w1.length, vq]) [some (.cells (Zd E_iiiiiiiA L0) 42), some (.cells (Zd eI w1) 3)] from Zgw L0 a1 a2 a3 N _ h) [k0] n [1] rfl hnd hlt (show 1 ≤ 2 from by decide) (show ∀ j ∈ ([1] : List Nat), j < 2 from by decide) (by rfl) ⟨(Z6 _ _ _), trivial⟩ (by rfl) ⟨(Z6 _ _ _), ⟨(Z6 _ _ _), trivial⟩⟩ ⟨.inr rfl, ⟨(by decide), trivial⟩⟩ rfl rfl rfl (Za (ZE rfl (Zae _ _ _)) rfl) (Za (ZE rfl (ZbI (Zae _ _ _))) rfl))

noncomputable def ZiZ (L0 : List R_iiiiiiiA) (a1 a2 : Int) : Za2 → Value
 | .r0 w1 w2 w3 w4 w5 w6 w7 w8 => Value.tuple #[Value.agg #[vi w1, vi w2, vi w3, vi w4, vi w5, vi w6, vi w7, ms E_ii w8], vT]
 | .r1 => Value.tuple #[Value.agg #[vq, vq, vq, vq, vq, vq, vq, vn], vf]
noncomputable def Zic (L0 : List R_iiiiiiiA) (a1 a2 : Int) : Za2 → List (Option AObj)
 | .r0 w1 w2 w3 w4 w5 w6 w7 w8 => [some (.cells (Zd E_iiiiiiiA L0) 42)]
 | .r1 => [some (.cells (Zd E_iiiiiiiA L0) 42)]

def ZmH : Zao → Nat
 | .h1m0 v1 => 1
noncomputable def ZnA (L0 : List R_iiiiiiiA) (a1 a2 : Int) : Zao → List (Nat × Value)
 | .h1m0 v1 => [(0, vs 0 0 L0.length L0.length), (3, vp 1 0), (4, vp 2 0), (6, vi (v1 : Int))]
noncomputable def ZnB (L0 : List R_iiiiiiiA) (a1 a2 : Int) : Zao → List (Option AObj)
 | .h1m0 v1 => [some (.cells (Zd E_iiiiiiiA L0) 42), some (.cells [vi a1, vi a2] 36), some (.cells [vq, vq, vq, vq, vq, vq, vq, vn] 42)]

noncomputable def ZcC : Nat → Code × List Zaw
 | 1 => ZaQ [1, 0, 1, 3] (Zb5 Tryz.f39) []
 | _ => (.skip, [])
def Zid : Nat → Bool
 | 1 => true
 | _ => true
noncomputable def ZnC (i : Nat) : List Zaw := match Zid i with | true => .rnd i :: (ZcC i).2 | false => (ZcC i).2

noncomputable def Zb0 (L0 : List R_iiiiiiiA) (a1 a2 : Int) (N : Nat) : Mach := ⟨Tryz.f39, [.cells (Zd E_iiiiiiiA L0) 42], Zao, Za2, Zbf L0 a1 a2 N, ZmH, ZcC, Zid, ZnA L0 a1 a2, ZnB L0 a1 a2, ZiZ L0 a1 a2, Zic L0 a1 a2⟩

theorem Zkb (L0 : List R_iiiiiiiA) (a1 a2 : Int) (v1 N : Nat) : (Zb0 L0 a1 a2 N).Ok Tryz.prog Zw (.h1m0 v1 : Zao) (Zbf L0 a1 a2 N (.h1m0 v1 : Zao)) := by
 show (Zb0 L0 a1 a2 N).Ok Tryz.prog Zw (.h1m0 v1 : Zao) (ZaE L0 a1 a2 N v1)
 unfold ZaE
 refine Mach.ok_ite (fun g0 => ?_) (fun g0 => ?_)
 ·
  refine Mach.ok_ite (fun g1 => ?_) (fun g1 => ?_)
  ·
   exact Mach.ok_fin (M := Zb0 L0 a1 a2 N) (cd := 1000000) (cm := 0) (r := (.r0 ((L0.getD v1 R_iiiiiiiA.z).a0) ((L0.getD v1 R_iiiiiiiA.z).a1) ((L0.getD v1 R_iiiiiiiA.z).a2) ((L0.getD v1 R_iiiiiiiA.z).a3) ((L0.getD v1 R_iiiiiiiA.z).a4) ((L0.getD v1 R_iiiiiiiA.z).a5) ((L0.getD v1 R_iiiiiiiA.z).a6) ((L0.getD v1 R_iiiiiiiA.z).a7) : Za2)) (fu := 4000) (orc := (Zi [(0, true), (1, true)] [] [(0, v1), (1, v1)] [(0, [.i (L0.getD v1 R_iiiiiiiA.z).a0, .i (L0.getD v1 R_iiiiiiiA.z).a1]), (2, [.i (L0.getD v1 R_iiiiiiiA.z).a0, .i (L0.getD v1 R_iiiiiiiA.z).a1, .i (L0.getD v1 R_iiiiiiiA.z).a2, .i (L0.getD v1 R_iiiiiiiA.z).a3, .i (L0.getD v1 R_iiiiiiiA.z).a4, .i (L0.getD v1 R_iiiiiiiA.z).a5, .i (L0.getD v1 R_iiiiiiiA.z).a6, (mc E_ii (L0.getD v1 R_iiiiiiiA.z).a7)])] [])) (live := [0]) (u := Value.tuple #[Value.agg #[vi (L0.getD v1 R_iiiiiiiA.z).a0, vi (L0.getD v1 R_iiiiiiiA.z).a1, vi (L0.getD v1 R_iiiiiiiA.z).a2, vi (L0.getD v1 R_iiiiiiiA.z).a3, vi (L0.getD v1 R_iiiiiiiA.z).a4, vi (L0.getD v1 R_iiiiiiiA.z).a5, vi (L0.getD v1 R_iiiiiiiA.z).a6, ms E_ii (L0.getD v1 R_iiiiiiiA.z).a7], vT]) (bl := [some (.cells (Zd E_iiiiiiiA L0) 42)]) (ob := [(ZC (Zs 8 (List.drop (0 + (v1 * 8)) (Zd E_iiiiiiiA L0))) [.i (L0.getD v1 R_iiiiiiiA.z).a0, .i (L0.getD v1 R_iiiiiiiA.z).a1, .i (L0.getD v1 R_iiiiiiiA.z).a2, .i (L0.getD v1 R_iiiiiiiA.z).a3, .i (L0.getD v1 R_iiiiiiiA.z).a4, .i (L0.getD v1 R_iiiiiiiA.z).a5, .i (L0.getD v1 R_iiiiiiiA.z).a6, (mc E_ii (L0.getD v1 R_iiiiiiiA.z).a7)], true), (Nat.blt v1 L0.length, true), ((v1 : Int) == Int.ofNat v1, true), ((((L0.getD v1 R_iiiiiiiA.z).a0 == a1) && (((L0.getD v1 R_iiiiiiiA.z).a1 == a2) && true)), true), (ZC (Zs 2 (List.drop ((0 + (v1 * 8)) + 0) (Zd E_iiiiiiiA L0))) [.i (L0.getD v1 R_iiiiiiiA.z).a0, .i (L0.getD v1 R_iiiiiiiA.z).a1], true), (Nat.blt v1 L0.length, true), ((v1 : Int) == Int.ofNat v1, true), ((decide ((v1 : Int) < (L0.length : Int))), true)]) (fun gv => by kernel_rfl) (Zb (Zq (E := E_iiiiiiiA) (L := L0) (i := v1) (q := 0) (by omega) (show (0 + (v1 * 8)) = v1 * 8 + 0 from by omega) (show 0 + 8 ≤ 8 from by decide) rfl rfl) <| oB <| oI <| Zb (by first | (simp only [beq_self_eq_true, Bool.and_self]; done) | (simp only [Bool.and_true, Bool.and_eq_true, beq_iff_eq] <;> first | omega | (simp_all; done) | grind)) <| Zb (Zq (E := E_iiiiiiiA) (L := L0) (i := v1) (q := 0) (by omega) (show ((0 + (v1 * 8)) + 0) = v1 * 8 + 0 from by omega) (show 0 + 2 ≤ 8 from by decide) rfl rfl) <| oB <| oI <| oY Ze) rfl (by decide) (by rfl) rr ⟨(Zh (E := E_iiiiiiiA) (α := R_iiiiiiiA) _ L0 _), trivial⟩
  ·
   refine Mach.ok_ite (fun g2 => ?_) (fun g2 => ?_)
   ·
    exact Mach.ok_next (M := Zb0 L0 a1 a2 N) (cd := 1000000) (cm := 0) (y := (.h1m0 ((v1 + 1)) : Zao)) (fu := 4000) (orc := (Zi [(0, true), (1, false)] [(0, (((v1 + 1) : Nat) : Int))] [(0, v1)] [(0, [.i (L0.getD v1 R_iiiiiiiA.z).a0, .i (L0.getD v1 R_iiiiiiiA.z).a1])] [])) (live := [0, 1, 2]) (tv := fun _ => [some (vs 0 0 L0.length L0.length), some (vp 1 0), some (vp 2 0), some (vi (((v1 + 1) : Nat) : Int))]) (bl := [some (.cells (Zd E_iiiiiiiA L0) 42), some (.cells [vi a1, vi a2] 36), some (.cells [vq, vq, vq, vq, vq, vq, vq, vn] 42)]) (ob := [((IntKind.i64.wrap ((v1 : Int) + (1 : Int))) == (((v1 + 1) : Nat) : Int), true), ((((L0.getD v1 R_iiiiiiiA.z).a0 == a1) && (((L0.getD v1 R_iiiiiiiA.z).a1 == a2) && true)), false), (ZC (Zs 2 (List.drop ((0 + (v1 * 8)) + 0) (Zd E_iiiiiiiA L0))) [.i (L0.getD v1 R_iiiiiiiA.z).a0, .i (L0.getD v1 R_iiiiiiiA.z).a1], true), (Nat.blt v1 L0.length, true), ((v1 : Int) == Int.ofNat v1, true), ((decide ((v1 : Int) < (L0.length : Int))), true)]) rfl (show 1 ∈ Zx (ZnC 1) from by decide +kernel) (fun gv => by kernel_rfl) (Zb (beq_iff_eq.2 ((wrap_i64 ltA).trans (by first | rfl | omega))) <| Zb (Bool.eq_false_iff.2 (by simp only [ne_eq, Bool.and_true, Bool.and_eq_true, beq_iff_eq]; first | omega | (intro hh; simp_all; done) | (intro hh; grind))) <| Zb (Zq (E := E_iiiiiiiA) (L := L0) (i := v1) (q := 0) (by omega) (show ((0 + (v1 * 8)) + 0) = v1 * 8 + 0 from by omega) (show 0 + 2 ≤ 8 from by decide) rfl rfl) <| oB <| oI <| oY Ze) rfl (by decide) (by rfl) (fun _ => ⟨rr, ⟨rr, ⟨rr, ⟨rr, trivial⟩⟩⟩⟩) ⟨(Zh (E := E_iiiiiiiA) (α := R_iiiiiiiA) _ L0 _), ⟨⟨rfl, ⟨[], by rfl⟩, by rfl⟩, ⟨⟨rfl, ⟨[], by rfl⟩, by rfl⟩, trivial⟩⟩⟩
   ·
    exact Mach.ok_none
 ·
  exact Mach.ok_fin (M := Zb0 L0 a1 a2 N) (cd := 1000000) (cm := 0) (r := (.r1 : Za2)) (fu := 4000) (orc := (Zi [(0, false)] [] [] [] [])) (live := [0]) (u := Value.tuple #[Value.agg #[vq, vq, vq, vq, vq, vq, vq, vn], vf]) (bl := [some (.cells (Zd E_iiiiiiiA L0) 42)]) (ob := [((decide ((v1 : Int) < (L0.length : Int))), false)]) (fun gv => by kernel_rfl) (oN Ze) rfl (by decide) (by rfl) rr ⟨(Zh (E := E_iiiiiiiA) (α := R_iiiiiiiA) _ L0 _), trivial⟩

theorem Zmj (L0 : List R_iiiiiiiA) (a1 a2 : Int) (N : Nat) : (Zb0 L0 a1 a2 N).Enter Tryz.prog Zw #[vs 0 0 L0.length L0.length, Value.agg #[vi a1, vi a2]] (ZfE L0 a1 a2 N) := by
 unfold ZfE
 exact Mach.en_head (bK := ZcC 1) (M := Zb0 L0 a1 a2 N) (cd := 1000000) (cm := 0) (y := (.h1m0 (0) : Zao)) (fu := 4000) (orc := (Zi [] [] [] [] [])) (live := [0, 1, 2]) (tv := [some (vs 0 0 L0.length L0.length), some (vp 1 0), some (vp 2 0), some (vq)]) (bl := [some (.cells (Zd E_iiiiiiiA L0) 42), some (.cells [vi a1, vi a2] 36), some (.cells [vq, vq, vq, vq, vq, vq, vq, vn] 42)]) (ob := []) rfl rfl (show Zx (ZcC 1).2 = [] from rfl) (by kernel_rfl) Ze rfl (by decide) (by rfl) ⟨rr, ⟨rr, ⟨rr, ⟨⟨Eq.trans (show (vi ((0 : Nat) : Int) : Value) = vq from (congrArg (Value.int .i64) (by first | rfl | omega))) (by rfl), by rfl⟩, trivial⟩⟩⟩⟩ ⟨(Zh (E := E_iiiiiiiA) (α := R_iiiiiiiA) _ L0 _), ⟨⟨rfl, ⟨[], by rfl⟩, by rfl⟩, ⟨⟨rfl, ⟨[], by rfl⟩, by rfl⟩, trivial⟩⟩⟩

theorem Zgx (L0 : List R_iiiiiiiA) (a1 a2 : Int) (N : Nat) (r : Za2) (h : ZbC L0 a1 a2 N = some r) : LSpec Tryz.prog 39 #[vs 0 0 L0.length L0.length, Value.agg #[vi a1, vi a2]] [.cells (Zd E_iiiiiiiA L0) 42] (ZiZ L0 a1 a2 r) (Zic L0 a1 a2 r) :=
 Mach.spec ZaC (Zb0 L0 a1 a2 N) Tryz.func39 (by kernel_rfl) (by kernel_rfl) (fun x => by cases x <;> exact ZS _ rfl) (fun r => by cases r <;> exact ZS _ rfl) (fun x => by
  cases x with
  | h1m0 _ => exact fun _ => (show ¬ (1 ∈ Zx (ZcC 1).2) from by decide +kernel)
  ) (fun x => (show (Zb0 L0 a1 a2 N).Ok Tryz.prog Zw x (Zbf L0 a1 a2 N x) from by
  cases x with
  | h1m0 v1 => exact Zkb L0 a1 a2 v1 N
  )) (Zmj L0 a1 a2 N) (n := N) h

noncomputable def ZL (L0 : List R_iiiiiiiA) (a1 a2 w1 w2 w3 w4 w5 w6 w7 : Int) (w8 : List R_ii) (k0 n : Nat) : ZaD := .call [(k0, .cells (Zd E_iiiiiiiA L0) 42)] (Value.tuple #[Value.agg #[vi w1, vi w2, vi w3, vi w4, vi w5, vi w6, vi w7, ms E_ii w8], vT]) [] 0
def ZI (A : Array Value) (L0 : List R_iiiiiiiA) (a1 a2 w1 w2 w3 w4 w5 w6 w7 : Int) (w8 : List R_ii) (k0 n : Nat) : Prop := ZF Tryz.prog 39 A [(k0, .cells (Zd E_iiiiiiiA L0) 42)] (Value.tuple #[Value.agg #[vi w1, vi w2, vi w3, vi w4, vi w5, vi w6, vi w7, ms E_ii w8], vT]) [] n 0

theorem ZM (A : Array Value) (L0 : List R_iiiiiiiA) (a1 a2 w1 w2 w3 w4 w5 w6 w7 : Int) (w8 : List R_ii) (N : Nat) (h : ZbC L0 a1 a2 N = some (.r0 w1 w2 w3 w4 w5 w6 w7 w8)) (k0 n : Nat) (hA : A = #[vs k0 0 L0.length L0.length, Value.agg #[vi a1, vi a2]]) (hnd : ([k0] : List Nat).Nodup) (hlt : ∀ k ∈ ([k0] : List Nat), k < n) : ZI A L0 a1 a2 w1 w2 w3 w4 w5 w6 w7 w8 k0 n :=
 ZU hA (LSpec.callL (show LSpec Tryz.prog 39 #[vs 0 0 L0.length L0.length, Value.agg #[vi a1, vi a2]] [.cells (Zd E_iiiiiiiA L0) 42] (Value.tuple #[Value.agg #[vi w1, vi w2, vi w3, vi w4, vi w5, vi w6, vi w7, ms E_ii w8], vT]) [some (.cells (Zd E_iiiiiiiA L0) 42)] from Zgx L0 a1 a2 N _ h) [k0] n [] rfl hnd hlt (show 1 ≤ 1 from by decide) (show ∀ j ∈ ([] : List Nat), j < 1 from by decide) (by rfl) ⟨(Z6 _ _ _), trivial⟩ (by rfl) ⟨(Z6 _ _ _), trivial⟩ ⟨.inr rfl, trivial⟩ rfl rfl rfl (Za (ZE rfl (Zae _ _ _)) rfl) rfl)

noncomputable def ZbS (L0 : List R_iiiiiiiA) (a1 a2 : Int) (k0 n : Nat) : ZaD := .call [(k0, .cells (Zd E_iiiiiiiA L0) 42)] (Value.tuple #[Value.agg #[vq, vq, vq, vq, vq, vq, vq, vn], vf]) [] 0
def Zb3 (A : Array Value) (L0 : List R_iiiiiiiA) (a1 a2 : Int) (k0 n : Nat) : Prop := ZF Tryz.prog 39 A [(k0, .cells (Zd E_iiiiiiiA L0) 42)] (Value.tuple #[Value.agg #[vq, vq, vq, vq, vq, vq, vq, vn], vf]) [] n 0

theorem ZbT (A : Array Value) (L0 : List R_iiiiiiiA) (a1 a2 : Int) (N : Nat) (h : ZbC L0 a1 a2 N = some (.r1)) (k0 n : Nat) (hA : A = #[vs k0 0 L0.length L0.length, Value.agg #[vi a1, vi a2]]) (hnd : ([k0] : List Nat).Nodup) (hlt : ∀ k ∈ ([k0] : List Nat), k < n) : Zb3 A L0 a1 a2 k0 n :=
 ZU hA (LSpec.callL (show LSpec Tryz.prog 39 #[vs 0 0 L0.length L0.length, Value.agg #[vi a1, vi a2]] [.cells (Zd E_iiiiiiiA L0) 42] (Value.tuple #[Value.agg #[vq, vq, vq, vq, vq, vq, vq, vn], vf]) [some (.cells (Zd E_iiiiiiiA L0) 42)] from Zgx L0 a1 a2 N _ h) [k0] n [] rfl hnd hlt (show 1 ≤ 1 from by decide) (show ∀ j ∈ ([] : List Nat), j < 1 from by decide) (by rfl) ⟨(Z6 _ _ _), trivial⟩ (by rfl) ⟨(Z6 _ _ _), trivial⟩ ⟨.inr rfl, trivial⟩ rfl rfl rfl (Za (ZE rfl (Zae _ _ _)) rfl) rfl)

noncomputable def Zie (L0 : List R_iiiiiiiA) (a1 a2 a3 : Int) : Zj → Value
 | .r0 w1 => Value.tuple #[vn, vi w1]
 | .r1 w1 => Value.tuple #[vs 1 0 w1.length w1.length, vq]
noncomputable def Zh1 (L0 : List R_iiiiiiiA) (a1 a2 a3 : Int) : Zj → List (Option AObj)
 | .r0 w1 => [some (.cells (Zd E_iiiiiiiA L0) 42)]
 | .r1 w1 => [some (.cells (Zd E_iiiiiiiA L0) 42), some (.cells (Zd eI w1) 3)]

def Zmk : ZK → Nat
 | .h1m0 v2 v3 v4 v5 v6 v7 => 1
 | .h1m1 v1 v2 v3 v4 v5 v6 v7 v8 v9 v10 => 1
noncomputable def ZmI (L0 : List R_iiiiiiiA) (a1 a2 a3 : Int) : ZK → List (Nat × Value)
 | .h1m0 v2 v3 v4 v5 v6 v7 => [(0, vs 0 0 L0.length L0.length), (10, vp 1 0), (11, vp 2 0), (12, vp 3 0), (13, vn), (14, vp 4 0), (15, vq)]
 | .h1m1 v1 v2 v3 v4 v5 v6 v7 v8 v9 v10 => [(0, vs 0 0 L0.length L0.length), (10, vp 1 0), (11, vp 2 0), (12, vp 3 0), (13, vs 4 0 v1.length v1.length), (14, vp 5 0), (15, vi (v2 : Int))]
noncomputable def ZmJ (L0 : List R_iiiiiiiA) (a1 a2 a3 : Int) : ZK → List (Option AObj)
 | .h1m0 v2 v3 v4 v5 v6 v7 => [some (.cells (Zd E_iiiiiiiA L0) 42), some (.cells [vi v2, vi v3] 36), some (.cells [vi v4, vi v5] 36), some (.cells [vi v6, vi v7] 36), some (.cells [vi (2 : Int), vq] 36)]
 | .h1m1 v1 v2 v3 v4 v5 v6 v7 v8 v9 v10 => [some (.cells (Zd E_iiiiiiiA L0) 42), some (.cells [vi v3, vi v4] 36), some (.cells [vi v5, vi v6] 36), some (.cells [vi v7, vi v8] 36), some (.cells (Zd eI v1) 3), some (.cells [vi v9, vi v10] 36)]

noncomputable def ZbU : Nat → Code × List Zaw
 | 1 => ZaQ [1, 1, 1, 1, 1, 1, 1, 0, 1, 3] (Zb5 Tryz.f12) []
 | _ => (.skip, [])
def Zh2 : Nat → Bool
 | 1 => true
 | _ => true
noncomputable def Zif (i : Nat) : List Zaw := match Zh2 i with | true => .rnd i :: (ZbU i).2 | false => (ZbU i).2

noncomputable def Zr (L0 : List R_iiiiiiiA) (a1 a2 a3 : Int) (N : Nat) : Mach := ⟨Tryz.f12, [.cells (Zd E_iiiiiiiA L0) 42], ZK, Zj, Za0 L0 a1 a2 a3 N, Zmk, ZbU, Zh2, ZmI L0 a1 a2 a3, ZmJ L0 a1 a2 a3, Zie L0 a1 a2 a3, Zh1 L0 a1 a2 a3⟩

theorem Zjd (L0 : List R_iiiiiiiA) (a1 a2 a3 v2 v3 v4 v5 v6 v7 : Int) (N : Nat) : (Zr L0 a1 a2 a3 N).Ok Tryz.prog Zw (.h1m0 v2 v3 v4 v5 v6 v7 : ZK) (Za0 L0 a1 a2 a3 N (.h1m0 v2 v3 v4 v5 v6 v7 : ZK)) := by
 show (Zr L0 a1 a2 a3 N).Ok Tryz.prog Zw (.h1m0 v2 v3 v4 v5 v6 v7 : ZK) (Zcb L0 a1 a2 a3 N v2 v3 v4 v5 v6 v7)
 unfold Zcb
 refine Mach.ok_ite (fun g0 => ?_) (fun g0 => ?_)
 ·
  refine Mach.ok_ite (fun g1 => ?_) (fun g1 => ?_)
  ·
   exact Mach.ok_fin (M := Zr L0 a1 a2 a3 N) (cd := 1000000) (cm := 0) (r := (.r0 ((240 : Int)) : Zj)) (fu := 4000) (orc := (Zi [(0, true), (1, true), (2, true)] [] [] [] [])) (live := [0]) (u := Value.tuple #[vn, vi (240 : Int)]) (bl := [some (.cells (Zd E_iiiiiiiA L0) 42)]) (ob := [((!(((2 : Int) == v4) && (((0 : Int) == v5) && true))), true), (((v2 == (2 : Int)) && ((v3 == (0 : Int)) && true)), true), ((decide ((0 : Int) ≤ (L0.length : Int))), true)]) (fun gv => by kernel_rfl) (Zb (by rw [Bool.not_eq_true']; exact Bool.eq_false_iff.2 (by simp only [ne_eq, Bool.and_true, Bool.and_eq_true, beq_iff_eq]; first | omega | (intro hh; simp_all; done) | (intro hh; grind))) <| Zb (by first | (simp only [beq_self_eq_true, Bool.and_self]; done) | (simp only [Bool.and_true, Bool.and_eq_true, beq_iff_eq] <;> first | omega | (simp_all; done) | grind)) <| oY Ze) rfl (by decide) (by rfl) rr ⟨(Zh (E := E_iiiiiiiA) (α := R_iiiiiiiA) _ L0 _), trivial⟩
  ·
   refine Mach.ok_ite (fun g2 => ?_) (fun g2 => ?_)
   ·
    exact Mach.ok_fin (M := Zr L0 a1 a2 a3 N) (cd := 1000000) (cm := 0) (r := (.r0 ((240 : Int)) : Zj)) (fu := 4000) (orc := (Zi [(0, true), (1, true), (2, false), (3, true)] [] [] [] [])) (live := [0]) (u := Value.tuple #[vn, vi (240 : Int)]) (bl := [some (.cells (Zd E_iiiiiiiA L0) 42)]) (ob := [((v7 != (0 : Int)), true), ((!(((2 : Int) == v4) && (((0 : Int) == v5) && true))), false), (((v2 == (2 : Int)) && ((v3 == (0 : Int)) && true)), true), ((decide ((0 : Int) ≤ (L0.length : Int))), true)]) (fun gv => by kernel_rfl) (oD <| Zb (by rw [Bool.not_eq_false']; first | (simp only [beq_self_eq_true, Bool.and_self]; done) | (simp only [Bool.and_true, Bool.and_eq_true, beq_iff_eq] <;> first | omega | (simp_all; done) | grind)) <| Zb (by first | (simp only [beq_self_eq_true, Bool.and_self]; done) | (simp only [Bool.and_true, Bool.and_eq_true, beq_iff_eq] <;> first | omega | (simp_all; done) | grind)) <| oY Ze) rfl (by decide) (by rfl) rr ⟨(Zh (E := E_iiiiiiiA) (α := R_iiiiiiiA) _ L0 _), trivial⟩
   ·
    exact Mach.ok_fin (M := Zr L0 a1 a2 a3 N) (cd := 1000000) (cm := 0) (r := (.r0 ((0 : Int)) : Zj)) (fu := 4000) (orc := (Zi [(0, true), (1, true), (2, false), (3, false)] [] [] [] [])) (live := [0]) (u := Value.tuple #[vn, vq]) (bl := [some (.cells (Zd E_iiiiiiiA L0) 42)]) (ob := [((v7 != (0 : Int)), false), ((!(((2 : Int) == v4) && (((0 : Int) == v5) && true))), false), (((v2 == (2 : Int)) && ((v3 == (0 : Int)) && true)), true), ((decide ((0 : Int) ≤ (L0.length : Int))), true)]) (fun gv => by kernel_rfl) (oE <| Zb (by rw [Bool.not_eq_false']; first | (simp only [beq_self_eq_true, Bool.and_self]; done) | (simp only [Bool.and_true, Bool.and_eq_true, beq_iff_eq] <;> first | omega | (simp_all; done) | grind)) <| Zb (by first | (simp only [beq_self_eq_true, Bool.and_self]; done) | (simp only [Bool.and_true, Bool.and_eq_true, beq_iff_eq] <;> first | omega | (simp_all; done) | grind)) <| oY Ze) rfl (by decide) (by rfl) rr ⟨(Zh (E := E_iiiiiiiA) (α := R_iiiiiiiA) _ L0 _), trivial⟩
 ·
  refine Mach.ok_bind (fun z1 c1 => ?_)
  cases z1 with
  | r0 y1_0 y1_1 y1_2 y1_3 y1_4 y1_5 y1_6 y1_7 =>
   refine Mach.ok_ite (fun g2 => ?_) (fun g2 => ?_)
   ·
    exact Mach.ok_fin (M := Zr L0 a1 a2 a3 N) (cd := 1000000) (cm := 0) (r := (.r0 ((240 : Int)) : Zj)) (fu := 4000) (orc := (Zi [(0, true), (1, false), (2, true)] [] [] [] [(1, (ZL (L0) (v2) (v3)  y1_0 y1_1 y1_2 y1_3 y1_4 y1_5 y1_6 y1_7 0 7))])) (live := [0]) (u := Value.tuple #[vn, vi (240 : Int)]) (bl := [some (.cells (Zd E_iiiiiiiA L0) 42)]) (ob := [((v2 != (2 : Int)), true), (dP (ZI #[vs 0 0 L0.length L0.length, Value.agg #[vi v2, vi v3]] (L0) (v2) (v3)  y1_0 y1_1 y1_2 y1_3 y1_4 y1_5 y1_6 y1_7 0 7), true), (dS (Zd E_iiiiiiiA L0), true), (((v2 == (2 : Int)) && ((v3 == (0 : Int)) && true)), false), ((decide ((0 : Int) ≤ (L0.length : Int))), true)]) (fun gv => by kernel_rfl) (oD <| Zb (Zg (ZM #[vs 0 0 L0.length L0.length, Value.agg #[vi v2, vi v3]] (L0) (v2) (v3)  y1_0 y1_1 y1_2 y1_3 y1_4 y1_5 y1_6 y1_7 N c1 0 7 rfl (by decide) (by decide))) <| oR <| Zb (Bool.eq_false_iff.2 (by simp only [ne_eq, Bool.and_true, Bool.and_eq_true, beq_iff_eq]; first | omega | (intro hh; simp_all; done) | (intro hh; grind))) <| oY Ze) rfl (by decide) (by rfl) rr ⟨(Zh (E := E_iiiiiiiA) (α := R_iiiiiiiA) _ L0 _), trivial⟩
   ·
    refine Mach.ok_ite (fun g3 => ?_) (fun g3 => ?_)
    ·
     exact Mach.ok_fin (M := Zr L0 a1 a2 a3 N) (cd := 1000000) (cm := 0) (r := (.r0 ((240 : Int)) : Zj)) (fu := 4000) (orc := (Zi [(0, true), (1, false), (2, false), (4, true)] [] [] [] [(1, (ZL (L0) (v2) (v3)  y1_0 y1_1 y1_2 y1_3 y1_4 y1_5 y1_6 y1_7 0 7))])) (live := [0]) (u := Value.tuple #[vn, vi (240 : Int)]) (bl := [some (.cells (Zd E_iiiiiiiA L0) 42)]) (ob := [((y1_5 == (3 : Int)), true), ((v2 != (2 : Int)), false), (dP (ZI #[vs 0 0 L0.length L0.length, Value.agg #[vi v2, vi v3]] (L0) (v2) (v3)  y1_0 y1_1 y1_2 y1_3 y1_4 y1_5 y1_6 y1_7 0 7), true), (dS (Zd E_iiiiiiiA L0), true), (((v2 == (2 : Int)) && ((v3 == (0 : Int)) && true)), false), ((decide ((0 : Int) ≤ (L0.length : Int))), true)]) (fun gv => by kernel_rfl) (oT <| oE <| Zb (Zg (ZM #[vs 0 0 L0.length L0.length, Value.agg #[vi v2, vi v3]] (L0) (v2) (v3)  y1_0 y1_1 y1_2 y1_3 y1_4 y1_5 y1_6 y1_7 N c1 0 7 rfl (by decide) (by decide))) <| oR <| Zb (Bool.eq_false_iff.2 (by simp only [ne_eq, Bool.and_true, Bool.and_eq_true, beq_iff_eq]; first | omega | (intro hh; simp_all; done) | (intro hh; grind))) <| oY Ze) rfl (by decide) (by rfl) rr ⟨(Zh (E := E_iiiiiiiA) (α := R_iiiiiiiA) _ L0 _), trivial⟩
    ·
     refine Mach.ok_ite (fun g4 => ?_) (fun g4 => ?_)
     ·
      exact Mach.ok_fin (M := Zr L0 a1 a2 a3 N) (cd := 1000000) (cm := 0) (r := (.r0 ((240 : Int)) : Zj)) (fu := 4000) (orc := (Zi [(0, true), (1, false), (2, false), (4, false), (5, true)] [] [] [] [(1, (ZL (L0) (v2) (v3)  y1_0 y1_1 y1_2 y1_3 y1_4 y1_5 y1_6 y1_7 0 7))])) (live := [0]) (u := Value.tuple #[vn, vi (240 : Int)]) (bl := [some (.cells (Zd E_iiiiiiiA L0) 42)]) (ob := [(((y1_7.length : Int) != (2 : Int)), true), ((y1_5 == (3 : Int)), false), ((v2 != (2 : Int)), false), (dP (ZI #[vs 0 0 L0.length L0.length, Value.agg #[vi v2, vi v3]] (L0) (v2) (v3)  y1_0 y1_1 y1_2 y1_3 y1_4 y1_5 y1_6 y1_7 0 7), true), (dS (Zd E_iiiiiiiA L0), true), (((v2 == (2 : Int)) && ((v3 == (0 : Int)) && true)), false), ((decide ((0 : Int) ≤ (L0.length : Int))), true)]) (fun gv => by kernel_rfl) (oD <| oF <| oE <| Zb (Zg (ZM #[vs 0 0 L0.length L0.length, Value.agg #[vi v2, vi v3]] (L0) (v2) (v3)  y1_0 y1_1 y1_2 y1_3 y1_4 y1_5 y1_6 y1_7 N c1 0 7 rfl (by decide) (by decide))) <| oR <| Zb (Bool.eq_false_iff.2 (by simp only [ne_eq, Bool.and_true, Bool.and_eq_true, beq_iff_eq]; first | omega | (intro hh; simp_all; done) | (intro hh; grind))) <| oY Ze) rfl (by decide) (by rfl) rr ⟨(Zh (E := E_iiiiiiiA) (α := R_iiiiiiiA) _ L0 _), trivial⟩
     ·
      refine Mach.ok_ite (fun g5 => ?_) (fun g5 => ?_)
      ·
       exact Mach.ok_fin (M := Zr L0 a1 a2 a3 N) (cd := 1000000) (cm := 0) (r := (.r0 ((240 : Int)) : Zj)) (fu := 4000) (orc := (Zi [(0, true), (1, false), (2, false), (4, false), (5, false), (6, true)] [] [(0, 0)] [(7, [.i (y1_7.getD 0 R_ii.z).a0])] [(1, (ZL (L0) (v2) (v3)  y1_0 y1_1 y1_2 y1_3 y1_4 y1_5 y1_6 y1_7 0 7))])) (live := [0]) (u := Value.tuple #[vn, vi (240 : Int)]) (bl := [some (.cells (Zd E_iiiiiiiA L0) 42)]) (ob := [(((y1_7.getD 0 R_ii.z).a0 != (2 : Int)), true), (dP (ZN (code (ZG E_ii y1_7)) ((0 + (0 * 2)) + 0) 1 = some [.i (y1_7.getD 0 R_ii.z).a0]), true), (Nat.blt 0 y1_7.length, true), ((0 : Int) == Int.ofNat 0, true), (((y1_7.length : Int) != (2 : Int)), false), ((y1_5 == (3 : Int)), false), ((v2 != (2 : Int)), false), (dP (ZI #[vs 0 0 L0.length L0.length, Value.agg #[vi v2, vi v3]] (L0) (v2) (v3)  y1_0 y1_1 y1_2 y1_3 y1_4 y1_5 y1_6 y1_7 0 7), true), (dS (Zd E_iiiiiiiA L0), true), (((v2 == (2 : Int)) && ((v3 == (0 : Int)) && true)), false), ((decide ((0 : Int) ≤ (L0.length : Int))), true)]) (fun gv => by kernel_rfl) (oD <| Zb (Zg (ZA (E := E_ii) (L := y1_7) (i := 0) (q := 0) (by omega) (show ((0 + (0 * 2)) + 0) = 0 * 2 + 0 from by omega) (show 0 + 1 ≤ 2 from by decide) rfl)) <| oB <| oI <| oE <| oF <| oE <| Zb (Zg (ZM #[vs 0 0 L0.length L0.length, Value.agg #[vi v2, vi v3]] (L0) (v2) (v3)  y1_0 y1_1 y1_2 y1_3 y1_4 y1_5 y1_6 y1_7 N c1 0 7 rfl (by decide) (by decide))) <| oR <| Zb (Bool.eq_false_iff.2 (by simp only [ne_eq, Bool.and_true, Bool.and_eq_true, beq_iff_eq]; first | omega | (intro hh; simp_all; done) | (intro hh; grind))) <| oY Ze) rfl (by decide) (by rfl) rr ⟨(Zh (E := E_iiiiiiiA) (α := R_iiiiiiiA) _ L0 _), trivial⟩
      ·
       refine Mach.ok_ite (fun g6 => ?_) (fun g6 => ?_)
       ·
        exact Mach.ok_fin (M := Zr L0 a1 a2 a3 N) (cd := 1000000) (cm := 0) (r := (.r0 ((240 : Int)) : Zj)) (fu := 4000) (orc := (Zi [(0, true), (1, false), (2, false), (4, false), (5, false), (6, false), (7, true)] [] [(0, 0), (1, 1)] [(7, [.i (y1_7.getD 0 R_ii.z).a0]), (9, [.i (y1_7.getD 1 R_ii.z).a0])] [(1, (ZL (L0) (v2) (v3)  y1_0 y1_1 y1_2 y1_3 y1_4 y1_5 y1_6 y1_7 0 7))])) (live := [0]) (u := Value.tuple #[vn, vi (240 : Int)]) (bl := [some (.cells (Zd E_iiiiiiiA L0) 42)]) (ob := [(((y1_7.getD 1 R_ii.z).a0 != (1 : Int)), true), (dP (ZN (code (ZG E_ii y1_7)) ((0 + (1 * 2)) + 0) 1 = some [.i (y1_7.getD 1 R_ii.z).a0]), true), (Nat.blt 1 y1_7.length, true), ((1 : Int) == Int.ofNat 1, true), (((y1_7.getD 0 R_ii.z).a0 != (2 : Int)), false), (dP (ZN (code (ZG E_ii y1_7)) ((0 + (0 * 2)) + 0) 1 = some [.i (y1_7.getD 0 R_ii.z).a0]), true), (Nat.blt 0 y1_7.length, true), ((0 : Int) == Int.ofNat 0, true), (((y1_7.length : Int) != (2 : Int)), false), ((y1_5 == (3 : Int)), false), ((v2 != (2 : Int)), false), (dP (ZI #[vs 0 0 L0.length L0.length, Value.agg #[vi v2, vi v3]] (L0) (v2) (v3)  y1_0 y1_1 y1_2 y1_3 y1_4 y1_5 y1_6 y1_7 0 7), true), (dS (Zd E_iiiiiiiA L0), true), (((v2 == (2 : Int)) && ((v3 == (0 : Int)) && true)), false), ((decide ((0 : Int) ≤ (L0.length : Int))), true)]) (fun gv => by kernel_rfl) (oD <| Zb (Zg (ZA (E := E_ii) (L := y1_7) (i := 1) (q := 0) (by omega) (show ((0 + (1 * 2)) + 0) = 1 * 2 + 0 from by omega) (show 0 + 1 ≤ 2 from by decide) rfl)) <| oB <| oI <| oE <| Zb (Zg (ZA (E := E_ii) (L := y1_7) (i := 0) (q := 0) (by omega) (show ((0 + (0 * 2)) + 0) = 0 * 2 + 0 from by omega) (show 0 + 1 ≤ 2 from by decide) rfl)) <| oB <| oI <| oE <| oF <| oE <| Zb (Zg (ZM #[vs 0 0 L0.length L0.length, Value.agg #[vi v2, vi v3]] (L0) (v2) (v3)  y1_0 y1_1 y1_2 y1_3 y1_4 y1_5 y1_6 y1_7 N c1 0 7 rfl (by decide) (by decide))) <| oR <| Zb (Bool.eq_false_iff.2 (by simp only [ne_eq, Bool.and_true, Bool.and_eq_true, beq_iff_eq]; first | omega | (intro hh; simp_all; done) | (intro hh; grind))) <| oY Ze) rfl (by decide) (by rfl) rr ⟨(Zh (E := E_iiiiiiiA) (α := R_iiiiiiiA) _ L0 _), trivial⟩
       ·
        exact Mach.ok_next (M := Zr L0 a1 a2 a3 N) (cd := 1000000) (cm := 0) (y := (.h1m1 (([(y1_7.getD 1 R_ii.z).a1] : List Int)) (1) ((y1_7.getD 0 R_ii.z).a0) ((y1_7.getD 0 R_ii.z).a1) (v4) (v5) (v6) (v7) (v2) (v3) : ZK)) (fu := 4000) (orc := (Zi [(0, true), (1, false), (2, false), (4, false), (5, false), (6, false), (7, false)] [] [(0, 0), (1, 1), (2, 1), (3, 0)] [(7, [.i (y1_7.getD 0 R_ii.z).a0]), (9, [.i (y1_7.getD 1 R_ii.z).a0]), (11, [.i (y1_7.getD 1 R_ii.z).a1]), (14, [.i (y1_7.getD 0 R_ii.z).a0, .i (y1_7.getD 0 R_ii.z).a1])] [(1, (ZL (L0) (v2) (v3)  y1_0 y1_1 y1_2 y1_3 y1_4 y1_5 y1_6 y1_7 0 7))])) (live := [0, 1, 2, 3, 9, 4]) (tv := fun _ => [some (vs 0 0 L0.length L0.length), some (vp 1 0), some (vp 2 0), some (vp 3 0), some (vs 9 0 1 1), some (vp 4 0), some (vi (1 : Int))]) (bl := [some (.cells (Zd E_iiiiiiiA L0) 42), some (.cells [vi (y1_7.getD 0 R_ii.z).a0, vi (y1_7.getD 0 R_ii.z).a1] 36), some (.cells [vi v4, vi v5] 36), some (.cells [vi v6, vi v7] 36), some (.cells [vi (y1_7.getD 1 R_ii.z).a1] 3), some (.cells [vi v2, vi v3] 36)]) (ob := [(dP (ZN (code (ZG E_ii y1_7)) (0 + (0 * 2)) 2 = some [.i (y1_7.getD 0 R_ii.z).a0, .i (y1_7.getD 0 R_ii.z).a1]), true), (Nat.blt 0 y1_7.length, true), ((0 : Int) == Int.ofNat 0, true), (dP (ZN (code (ZG E_ii y1_7)) ((0 + (1 * 2)) + 1) 1 = some [.i (y1_7.getD 1 R_ii.z).a1]), true), (Nat.blt 1 y1_7.length, true), ((1 : Int) == Int.ofNat 1, true), (((y1_7.getD 1 R_ii.z).a0 != (1 : Int)), false), (dP (ZN (code (ZG E_ii y1_7)) ((0 + (1 * 2)) + 0) 1 = some [.i (y1_7.getD 1 R_ii.z).a0]), true), (Nat.blt 1 y1_7.length, true), ((1 : Int) == Int.ofNat 1, true), (((y1_7.getD 0 R_ii.z).a0 != (2 : Int)), false), (dP (ZN (code (ZG E_ii y1_7)) ((0 + (0 * 2)) + 0) 1 = some [.i (y1_7.getD 0 R_ii.z).a0]), true), (Nat.blt 0 y1_7.length, true), ((0 : Int) == Int.ofNat 0, true), (((y1_7.length : Int) != (2 : Int)), false), ((y1_5 == (3 : Int)), false), ((v2 != (2 : Int)), false), (dP (ZI #[vs 0 0 L0.length L0.length, Value.agg #[vi v2, vi v3]] (L0) (v2) (v3)  y1_0 y1_1 y1_2 y1_3 y1_4 y1_5 y1_6 y1_7 0 7), true), (dS (Zd E_iiiiiiiA L0), true), (((v2 == (2 : Int)) && ((v3 == (0 : Int)) && true)), false), ((decide ((0 : Int) ≤ (L0.length : Int))), true)]) rfl (show 1 ∈ Zx (Zif 1) from by decide +kernel) (fun gv => by kernel_rfl) (Zb (Zg (ZA (E := E_ii) (L := y1_7) (i := 0) (q := 0) (by omega) (show (0 + (0 * 2)) = 0 * 2 + 0 from by omega) (show 0 + 2 ≤ 2 from by decide) rfl)) <| oB <| oI <| Zb (Zg (ZA (E := E_ii) (L := y1_7) (i := 1) (q := 1) (by omega) (show ((0 + (1 * 2)) + 1) = 1 * 2 + 1 from by omega) (show 1 + 1 ≤ 2 from by decide) rfl)) <| oB <| oI <| oE <| Zb (Zg (ZA (E := E_ii) (L := y1_7) (i := 1) (q := 0) (by omega) (show ((0 + (1 * 2)) + 0) = 1 * 2 + 0 from by omega) (show 0 + 1 ≤ 2 from by decide) rfl)) <| oB <| oI <| oE <| Zb (Zg (ZA (E := E_ii) (L := y1_7) (i := 0) (q := 0) (by omega) (show ((0 + (0 * 2)) + 0) = 0 * 2 + 0 from by omega) (show 0 + 1 ≤ 2 from by decide) rfl)) <| oB <| oI <| oE <| oF <| oE <| Zb (Zg (ZM #[vs 0 0 L0.length L0.length, Value.agg #[vi v2, vi v3]] (L0) (v2) (v3)  y1_0 y1_1 y1_2 y1_3 y1_4 y1_5 y1_6 y1_7 N c1 0 7 rfl (by decide) (by decide))) <| oR <| Zb (Bool.eq_false_iff.2 (by simp only [ne_eq, Bool.and_true, Bool.and_eq_true, beq_iff_eq]; first | omega | (intro hh; simp_all; done) | (intro hh; grind))) <| oY Ze) rfl (by decide) (by rfl) (fun _ => ⟨rr, ⟨rr, ⟨rr, ⟨rr, ⟨⟨Eq.trans (show (vs 4 0 ([(y1_7.getD 1 R_ii.z).a1] : List Int).length ([(y1_7.getD 1 R_ii.z).a1] : List Int).length : Value) = vs 4 0 1 1 from (Zbe rfl eqA eqA)) (by rfl), by rfl⟩, ⟨rr, ⟨⟨Eq.trans (show (vi ((1 : Nat) : Int) : Value) = vi (1 : Int) from (congrArg (Value.int .i64) (by first | rfl | omega))) (by rfl), by rfl⟩, trivial⟩⟩⟩⟩⟩⟩⟩) ⟨(Zh (E := E_iiiiiiiA) (α := R_iiiiiiiA) _ L0 _), ⟨⟨rfl, ⟨[], by rfl⟩, by rfl⟩, ⟨⟨rfl, ⟨[], by rfl⟩, by rfl⟩, ⟨⟨rfl, ⟨[], by rfl⟩, by rfl⟩, ⟨(ZcL (E := eI) _ (L := ([(y1_7.getD 1 R_ii.z).a1] : List Int)) _ (show ([vi (y1_7.getD 1 R_ii.z).a1] : List Value) = Zd eI ([(y1_7.getD 1 R_ii.z).a1] : List Int) from rfl)), ⟨⟨rfl, ⟨[], by rfl⟩, by rfl⟩, trivial⟩⟩⟩⟩⟩⟩
  | r1 =>
   by_cases g2 : ¬ (v2 = (2 : Int))
   ·
    exact Mach.ok_fin (M := Zr L0 a1 a2 a3 N) (cd := 1000000) (cm := 0) (r := (.r0 ((240 : Int)) : Zj)) (fu := 4000) (orc := (Zi [(0, true), (1, false), (2, true)] [] [] [] [(1, (ZbS (L0) (v2) (v3)   0 7))])) (live := [0]) (u := Value.tuple #[vn, vi (240 : Int)]) (bl := [some (.cells (Zd E_iiiiiiiA L0) 42)]) (ob := [((v2 != (2 : Int)), true), (dP (Zb3 #[vs 0 0 L0.length L0.length, Value.agg #[vi v2, vi v3]] (L0) (v2) (v3)   0 7), true), (dS (Zd E_iiiiiiiA L0), true), (((v2 == (2 : Int)) && ((v3 == (0 : Int)) && true)), false), ((decide ((0 : Int) ≤ (L0.length : Int))), true)]) (fun gv => by kernel_rfl) (oD <| Zb (Zg (ZbT #[vs 0 0 L0.length L0.length, Value.agg #[vi v2, vi v3]] (L0) (v2) (v3)   N c1 0 7 rfl (by decide) (by decide))) <| oR <| Zb (Bool.eq_false_iff.2 (by simp only [ne_eq, Bool.and_true, Bool.and_eq_true, beq_iff_eq]; first | omega | (intro hh; simp_all; done) | (intro hh; grind))) <| oY Ze) rfl (by decide) (by rfl) rr ⟨(Zh (E := E_iiiiiiiA) (α := R_iiiiiiiA) _ L0 _), trivial⟩
   ·
    exact Mach.ok_fin (M := Zr L0 a1 a2 a3 N) (cd := 1000000) (cm := 0) (r := (.r0 ((240 : Int)) : Zj)) (fu := 4000) (orc := (Zi [(0, true), (1, false), (2, false)] [] [] [] [(1, (ZbS (L0) (v2) (v3)   0 7))])) (live := [0]) (u := Value.tuple #[vn, vi (240 : Int)]) (bl := [some (.cells (Zd E_iiiiiiiA L0) 42)]) (ob := [((v2 != (2 : Int)), false), (dP (Zb3 #[vs 0 0 L0.length L0.length, Value.agg #[vi v2, vi v3]] (L0) (v2) (v3)   0 7), true), (dS (Zd E_iiiiiiiA L0), true), (((v2 == (2 : Int)) && ((v3 == (0 : Int)) && true)), false), ((decide ((0 : Int) ≤ (L0.length : Int))), true)]) (fun gv => by kernel_rfl) (oE <| Zb (Zg (ZbT #[vs 0 0 L0.length L0.length, Value.agg #[vi v2, vi v3]] (L0) (v2) (v3)   N c1 0 7 rfl (by decide) (by decide))) <| oR <| Zb (Bool.eq_false_iff.2 (by simp only [ne_eq, Bool.and_true, Bool.and_eq_true, beq_iff_eq]; first | omega | (intro hh; simp_all; done) | (intro hh; grind))) <| oY Ze) rfl (by decide) (by rfl) rr ⟨(Zh (E := E_iiiiiiiA) (α := R_iiiiiiiA) _ L0 _), trivial⟩

theorem Zje (L0 : List R_iiiiiiiA) (a1 a2 a3 : Int) (v1 : List Int) (v2 : Nat) (v3 v4 v5 v6 v7 v8 v9 v10 : Int) (N : Nat) : (Zr L0 a1 a2 a3 N).Ok Tryz.prog Zw (.h1m1 v1 v2 v3 v4 v5 v6 v7 v8 v9 v10 : ZK) (Za0 L0 a1 a2 a3 N (.h1m1 v1 v2 v3 v4 v5 v6 v7 v8 v9 v10 : ZK)) := by
 show (Zr L0 a1 a2 a3 N).Ok Tryz.prog Zw (.h1m1 v1 v2 v3 v4 v5 v6 v7 v8 v9 v10 : ZK) (Za8 L0 a1 a2 a3 N v1 v2 v3 v4 v5 v6 v7 v8 v9 v10)
 unfold Za8
 refine Mach.ok_ite (fun g0 => ?_) (fun g0 => ?_)
 ·
  refine Mach.ok_ite (fun g1 => ?_) (fun g1 => ?_)
  ·
   refine Mach.ok_ite (fun g2 => ?_) (fun g2 => ?_)
   ·
    exact Mach.ok_fin (M := Zr L0 a1 a2 a3 N) (cd := 1000000) (cm := 0) (r := (.r0 ((240 : Int)) : Zj)) (fu := 4000) (orc := (Zi [(0, true), (1, true), (2, true)] [] [] [] [])) (live := [0]) (u := Value.tuple #[vn, vi (240 : Int)]) (bl := [some (.cells (Zd E_iiiiiiiA L0) 42)]) (ob := [((!((v9 == v5) && ((v10 == v6) && true))), true), (((v3 == (2 : Int)) && ((v4 == (0 : Int)) && true)), true), ((decide ((v2 : Int) ≤ (L0.length : Int))), true)]) (fun gv => by kernel_rfl) (Zb (by rw [Bool.not_eq_true']; exact Bool.eq_false_iff.2 (by simp only [ne_eq, Bool.and_true, Bool.and_eq_true, beq_iff_eq]; first | omega | (intro hh; simp_all; done) | (intro hh; grind))) <| Zb (by first | (simp only [beq_self_eq_true, Bool.and_self]; done) | (simp only [Bool.and_true, Bool.and_eq_true, beq_iff_eq] <;> first | omega | (simp_all; done) | grind)) <| oY Ze) rfl (by decide) (by rfl) rr ⟨(Zh (E := E_iiiiiiiA) (α := R_iiiiiiiA) _ L0 _), trivial⟩
   ·
    refine Mach.ok_ite (fun g3 => ?_) (fun g3 => ?_)
    ·
     exact Mach.ok_fin (M := Zr L0 a1 a2 a3 N) (cd := 1000000) (cm := 0) (r := (.r0 ((240 : Int)) : Zj)) (fu := 4000) (orc := (Zi [(0, true), (1, true), (2, false), (3, true)] [] [] [] [])) (live := [0]) (u := Value.tuple #[vn, vi (240 : Int)]) (bl := [some (.cells (Zd E_iiiiiiiA L0) 42)]) (ob := [((v8 != (v1.length : Int)), true), ((!((v9 == v5) && ((v10 == v6) && true))), false), (((v3 == (2 : Int)) && ((v4 == (0 : Int)) && true)), true), ((decide ((v2 : Int) ≤ (L0.length : Int))), true)]) (fun gv => by kernel_rfl) (oD <| Zb (by rw [Bool.not_eq_false']; first | (simp only [beq_self_eq_true, Bool.and_self]; done) | (simp only [Bool.and_true, Bool.and_eq_true, beq_iff_eq] <;> first | omega | (simp_all; done) | grind)) <| Zb (by first | (simp only [beq_self_eq_true, Bool.and_self]; done) | (simp only [Bool.and_true, Bool.and_eq_true, beq_iff_eq] <;> first | omega | (simp_all; done) | grind)) <| oY Ze) rfl (by decide) (by rfl) rr ⟨(Zh (E := E_iiiiiiiA) (α := R_iiiiiiiA) _ L0 _), trivial⟩
    ·
     exact Mach.ok_fin (M := Zr L0 a1 a2 a3 N) (cd := 1000000) (cm := 0) (r := (.r1 (v1) : Zj)) (fu := 4000) (orc := (Zi [(0, true), (1, true), (2, false), (3, false)] [] [] [] [])) (live := [0, 4]) (u := Value.tuple #[vs 4 0 v1.length v1.length, vq]) (bl := [some (.cells (Zd E_iiiiiiiA L0) 42), some (.cells (Zd eI v1) 3)]) (ob := [((v8 != (v1.length : Int)), false), ((!((v9 == v5) && ((v10 == v6) && true))), false), (((v3 == (2 : Int)) && ((v4 == (0 : Int)) && true)), true), ((decide ((v2 : Int) ≤ (L0.length : Int))), true)]) (fun gv => by kernel_rfl) (oE <| Zb (by rw [Bool.not_eq_false']; first | (simp only [beq_self_eq_true, Bool.and_self]; done) | (simp only [Bool.and_true, Bool.and_eq_true, beq_iff_eq] <;> first | omega | (simp_all; done) | grind)) <| Zb (by first | (simp only [beq_self_eq_true, Bool.and_self]; done) | (simp only [Bool.and_true, Bool.and_eq_true, beq_iff_eq] <;> first | omega | (simp_all; done) | grind)) <| oY Ze) rfl (by decide) (by rfl) rr ⟨(Zh (E := E_iiiiiiiA) (α := R_iiiiiiiA) _ L0 _), ⟨(Zh (E := eI) (α := Int) _ v1 _), trivial⟩⟩
  ·
   refine Mach.ok_bind (fun z2 c2 => ?_)
   cases z2 with
   | r0 y2_0 y2_1 y2_2 y2_3 y2_4 y2_5 y2_6 y2_7 =>
    refine Mach.ok_ite (fun g3 => ?_) (fun g3 => ?_)
    ·
     exact Mach.ok_fin (M := Zr L0 a1 a2 a3 N) (cd := 1000000) (cm := 0) (r := (.r0 ((240 : Int)) : Zj)) (fu := 4000) (orc := (Zi [(0, true), (1, false), (2, true)] [] [] [] [(1, (ZL (L0) (v3) (v4)  y2_0 y2_1 y2_2 y2_3 y2_4 y2_5 y2_6 y2_7 0 8))])) (live := [0]) (u := Value.tuple #[vn, vi (240 : Int)]) (bl := [some (.cells (Zd E_iiiiiiiA L0) 42)]) (ob := [((v3 != (2 : Int)), true), (dP (ZI #[vs 0 0 L0.length L0.length, Value.agg #[vi v3, vi v4]] (L0) (v3) (v4)  y2_0 y2_1 y2_2 y2_3 y2_4 y2_5 y2_6 y2_7 0 8), true), (dS (Zd E_iiiiiiiA L0), true), (((v3 == (2 : Int)) && ((v4 == (0 : Int)) && true)), false), ((decide ((v2 : Int) ≤ (L0.length : Int))), true)]) (fun gv => by kernel_rfl) (oD <| Zb (Zg (ZM #[vs 0 0 L0.length L0.length, Value.agg #[vi v3, vi v4]] (L0) (v3) (v4)  y2_0 y2_1 y2_2 y2_3 y2_4 y2_5 y2_6 y2_7 N c2 0 8 rfl (by decide) (by decide))) <| oR <| Zb (Bool.eq_false_iff.2 (by simp only [ne_eq, Bool.and_true, Bool.and_eq_true, beq_iff_eq]; first | omega | (intro hh; simp_all; done) | (intro hh; grind))) <| oY Ze) rfl (by decide) (by rfl) rr ⟨(Zh (E := E_iiiiiiiA) (α := R_iiiiiiiA) _ L0 _), trivial⟩
    ·
     refine Mach.ok_ite (fun g4 => ?_) (fun g4 => ?_)
     ·
      exact Mach.ok_fin (M := Zr L0 a1 a2 a3 N) (cd := 1000000) (cm := 0) (r := (.r0 ((240 : Int)) : Zj)) (fu := 4000) (orc := (Zi [(0, true), (1, false), (2, false), (4, true)] [] [] [] [(1, (ZL (L0) (v3) (v4)  y2_0 y2_1 y2_2 y2_3 y2_4 y2_5 y2_6 y2_7 0 8))])) (live := [0]) (u := Value.tuple #[vn, vi (240 : Int)]) (bl := [some (.cells (Zd E_iiiiiiiA L0) 42)]) (ob := [((y2_5 == (3 : Int)), true), ((v3 != (2 : Int)), false), (dP (ZI #[vs 0 0 L0.length L0.length, Value.agg #[vi v3, vi v4]] (L0) (v3) (v4)  y2_0 y2_1 y2_2 y2_3 y2_4 y2_5 y2_6 y2_7 0 8), true), (dS (Zd E_iiiiiiiA L0), true), (((v3 == (2 : Int)) && ((v4 == (0 : Int)) && true)), false), ((decide ((v2 : Int) ≤ (L0.length : Int))), true)]) (fun gv => by kernel_rfl) (oT <| oE <| Zb (Zg (ZM #[vs 0 0 L0.length L0.length, Value.agg #[vi v3, vi v4]] (L0) (v3) (v4)  y2_0 y2_1 y2_2 y2_3 y2_4 y2_5 y2_6 y2_7 N c2 0 8 rfl (by decide) (by decide))) <| oR <| Zb (Bool.eq_false_iff.2 (by simp only [ne_eq, Bool.and_true, Bool.and_eq_true, beq_iff_eq]; first | omega | (intro hh; simp_all; done) | (intro hh; grind))) <| oY Ze) rfl (by decide) (by rfl) rr ⟨(Zh (E := E_iiiiiiiA) (α := R_iiiiiiiA) _ L0 _), trivial⟩
     ·
      refine Mach.ok_ite (fun g5 => ?_) (fun g5 => ?_)
      ·
       exact Mach.ok_fin (M := Zr L0 a1 a2 a3 N) (cd := 1000000) (cm := 0) (r := (.r0 ((240 : Int)) : Zj)) (fu := 4000) (orc := (Zi [(0, true), (1, false), (2, false), (4, false), (5, true)] [] [] [] [(1, (ZL (L0) (v3) (v4)  y2_0 y2_1 y2_2 y2_3 y2_4 y2_5 y2_6 y2_7 0 8))])) (live := [0]) (u := Value.tuple #[vn, vi (240 : Int)]) (bl := [some (.cells (Zd E_iiiiiiiA L0) 42)]) (ob := [(((y2_7.length : Int) != (2 : Int)), true), ((y2_5 == (3 : Int)), false), ((v3 != (2 : Int)), false), (dP (ZI #[vs 0 0 L0.length L0.length, Value.agg #[vi v3, vi v4]] (L0) (v3) (v4)  y2_0 y2_1 y2_2 y2_3 y2_4 y2_5 y2_6 y2_7 0 8), true), (dS (Zd E_iiiiiiiA L0), true), (((v3 == (2 : Int)) && ((v4 == (0 : Int)) && true)), false), ((decide ((v2 : Int) ≤ (L0.length : Int))), true)]) (fun gv => by kernel_rfl) (oD <| oF <| oE <| Zb (Zg (ZM #[vs 0 0 L0.length L0.length, Value.agg #[vi v3, vi v4]] (L0) (v3) (v4)  y2_0 y2_1 y2_2 y2_3 y2_4 y2_5 y2_6 y2_7 N c2 0 8 rfl (by decide) (by decide))) <| oR <| Zb (Bool.eq_false_iff.2 (by simp only [ne_eq, Bool.and_true, Bool.and_eq_true, beq_iff_eq]; first | omega | (intro hh; simp_all; done) | (intro hh; grind))) <| oY Ze) rfl (by decide) (by rfl) rr ⟨(Zh (E := E_iiiiiiiA) (α := R_iiiiiiiA) _ L0 _), trivial⟩
      ·
       refine Mach.ok_ite (fun g6 => ?_) (fun g6 => ?_)
       ·
        exact Mach.ok_fin (M := Zr L0 a1 a2 a3 N) (cd := 1000000) (cm := 0) (r := (.r0 ((240 : Int)) : Zj)) (fu := 4000) (orc := (Zi [(0, true), (1, false), (2, false), (4, false), (5, false), (6, true)] [] [(0, 0)] [(7, [.i (y2_7.getD 0 R_ii.z).a0])] [(1, (ZL (L0) (v3) (v4)  y2_0 y2_1 y2_2 y2_3 y2_4 y2_5 y2_6 y2_7 0 8))])) (live := [0]) (u := Value.tuple #[vn, vi (240 : Int)]) (bl := [some (.cells (Zd E_iiiiiiiA L0) 42)]) (ob := [(((y2_7.getD 0 R_ii.z).a0 != (2 : Int)), true), (dP (ZN (code (ZG E_ii y2_7)) ((0 + (0 * 2)) + 0) 1 = some [.i (y2_7.getD 0 R_ii.z).a0]), true), (Nat.blt 0 y2_7.length, true), ((0 : Int) == Int.ofNat 0, true), (((y2_7.length : Int) != (2 : Int)), false), ((y2_5 == (3 : Int)), false), ((v3 != (2 : Int)), false), (dP (ZI #[vs 0 0 L0.length L0.length, Value.agg #[vi v3, vi v4]] (L0) (v3) (v4)  y2_0 y2_1 y2_2 y2_3 y2_4 y2_5 y2_6 y2_7 0 8), true), (dS (Zd E_iiiiiiiA L0), true), (((v3 == (2 : Int)) && ((v4 == (0 : Int)) && true)), false), ((decide ((v2 : Int) ≤ (L0.length : Int))), true)]) (fun gv => by kernel_rfl) (oD <| Zb (Zg (ZA (E := E_ii) (L := y2_7) (i := 0) (q := 0) (by omega) (show ((0 + (0 * 2)) + 0) = 0 * 2 + 0 from by omega) (show 0 + 1 ≤ 2 from by decide) rfl)) <| oB <| oI <| oE <| oF <| oE <| Zb (Zg (ZM #[vs 0 0 L0.length L0.length, Value.agg #[vi v3, vi v4]] (L0) (v3) (v4)  y2_0 y2_1 y2_2 y2_3 y2_4 y2_5 y2_6 y2_7 N c2 0 8 rfl (by decide) (by decide))) <| oR <| Zb (Bool.eq_false_iff.2 (by simp only [ne_eq, Bool.and_true, Bool.and_eq_true, beq_iff_eq]; first | omega | (intro hh; simp_all; done) | (intro hh; grind))) <| oY Ze) rfl (by decide) (by rfl) rr ⟨(Zh (E := E_iiiiiiiA) (α := R_iiiiiiiA) _ L0 _), trivial⟩
       ·
        refine Mach.ok_ite (fun g7 => ?_) (fun g7 => ?_)
        ·
         exact Mach.ok_fin (M := Zr L0 a1 a2 a3 N) (cd := 1000000) (cm := 0) (r := (.r0 ((240 : Int)) : Zj)) (fu := 4000) (orc := (Zi [(0, true), (1, false), (2, false), (4, false), (5, false), (6, false), (7, true)] [] [(0, 0), (1, 1)] [(7, [.i (y2_7.getD 0 R_ii.z).a0]), (9, [.i (y2_7.getD 1 R_ii.z).a0])] [(1, (ZL (L0) (v3) (v4)  y2_0 y2_1 y2_2 y2_3 y2_4 y2_5 y2_6 y2_7 0 8))])) (live := [0]) (u := Value.tuple #[vn, vi (240 : Int)]) (bl := [some (.cells (Zd E_iiiiiiiA L0) 42)]) (ob := [(((y2_7.getD 1 R_ii.z).a0 != (1 : Int)), true), (dP (ZN (code (ZG E_ii y2_7)) ((0 + (1 * 2)) + 0) 1 = some [.i (y2_7.getD 1 R_ii.z).a0]), true), (Nat.blt 1 y2_7.length, true), ((1 : Int) == Int.ofNat 1, true), (((y2_7.getD 0 R_ii.z).a0 != (2 : Int)), false), (dP (ZN (code (ZG E_ii y2_7)) ((0 + (0 * 2)) + 0) 1 = some [.i (y2_7.getD 0 R_ii.z).a0]), true), (Nat.blt 0 y2_7.length, true), ((0 : Int) == Int.ofNat 0, true), (((y2_7.length : Int) != (2 : Int)), false), ((y2_5 == (3 : Int)), false), ((v3 != (2 : Int)), false), (dP (ZI #[vs 0 0 L0.length L0.length, Value.agg #[vi v3, vi v4]] (L0) (v3) (v4)  y2_0 y2_1 y2_2 y2_3 y2_4 y2_5 y2_6 y2_7 0 8), true), (dS (Zd E_iiiiiiiA L0), true), (((v3 == (2 : Int)) && ((v4 == (0 : Int)) && true)), false), ((decide ((v2 : Int) ≤ (L0.length : Int))), true)]) (fun gv => by kernel_rfl) (oD <| Zb (Zg (ZA (E := E_ii) (L := y2_7) (i := 1) (q := 0) (by omega) (show ((0 + (1 * 2)) + 0) = 1 * 2 + 0 from by omega) (show 0 + 1 ≤ 2 from by decide) rfl)) <| oB <| oI <| oE <| Zb (Zg (ZA (E := E_ii) (L := y2_7) (i := 0) (q := 0) (by omega) (show ((0 + (0 * 2)) + 0) = 0 * 2 + 0 from by omega) (show 0 + 1 ≤ 2 from by decide) rfl)) <| oB <| oI <| oE <| oF <| oE <| Zb (Zg (ZM #[vs 0 0 L0.length L0.length, Value.agg #[vi v3, vi v4]] (L0) (v3) (v4)  y2_0 y2_1 y2_2 y2_3 y2_4 y2_5 y2_6 y2_7 N c2 0 8 rfl (by decide) (by decide))) <| oR <| Zb (Bool.eq_false_iff.2 (by simp only [ne_eq, Bool.and_true, Bool.and_eq_true, beq_iff_eq]; first | omega | (intro hh; simp_all; done) | (intro hh; grind))) <| oY Ze) rfl (by decide) (by rfl) rr ⟨(Zh (E := E_iiiiiiiA) (α := R_iiiiiiiA) _ L0 _), trivial⟩
        ·
         refine Mach.ok_ite (fun g8 => ?_) (fun g8 => ?_)
         ·
          refine Mach.ok_ite (fun g9 => ?_) (fun g9 => ?_)
          ·
           exact Mach.ok_next (M := Zr L0 a1 a2 a3 N) (cd := 1000000) (cm := 0) (y := (.h1m1 ((v1 ++ ([(y2_7.getD 1 R_ii.z).a1] : List Int))) ((v2 + 1)) ((y2_7.getD 0 R_ii.z).a0) ((y2_7.getD 0 R_ii.z).a1) (v5) (v6) (v7) (v8) (v3) (v4) : ZK)) (fu := 4000) (orc := (Zi [(0, true), (1, false), (2, false), (4, false), (5, false), (6, false), (7, false)] [(0, (((v2 + 1) : Nat) : Int))] [(0, 0), (1, 1), (2, 1), (3, 0)] [(7, [.i (y2_7.getD 0 R_ii.z).a0]), (9, [.i (y2_7.getD 1 R_ii.z).a0]), (11, [.i (y2_7.getD 1 R_ii.z).a1]), (14, [.i (y2_7.getD 0 R_ii.z).a0, .i (y2_7.getD 0 R_ii.z).a1])] [(1, (ZL (L0) (v3) (v4)  y2_0 y2_1 y2_2 y2_3 y2_4 y2_5 y2_6 y2_7 0 8)), (3, .ap 1 [vi (y2_7.getD 1 R_ii.z).a1] (Zd eI (v1 ++ ([(y2_7.getD 1 R_ii.z).a1] : List Int))))])) (live := [0, 1, 2, 3, 10, 5]) (tv := fun _ => [some (vs 0 0 L0.length L0.length), some (vp 1 0), some (vp 2 0), some (vp 3 0), some (vs 10 0 (v1.length + 1) (v1.length + 1)), some (vp 5 0), some (vi (((v2 + 1) : Nat) : Int))]) (bl := [some (.cells (Zd E_iiiiiiiA L0) 42), some (.cells [vi (y2_7.getD 0 R_ii.z).a0, vi (y2_7.getD 0 R_ii.z).a1] 36), some (.cells [vi v5, vi v6] 36), some (.cells [vi v7, vi v8] 36), some (.cells (Zd eI (v1 ++ ([(y2_7.getD 1 R_ii.z).a1] : List Int))) 3), some (.cells [vi v3, vi v4] 36)]) (ob := [((IntKind.i64.wrap ((v2 : Int) + (1 : Int))) == (((v2 + 1) : Nat) : Int), true), (dP (ZN (code (ZG E_ii y2_7)) (0 + (0 * 2)) 2 = some [.i (y2_7.getD 0 R_ii.z).a0, .i (y2_7.getD 0 R_ii.z).a1]), true), (Nat.blt 0 y2_7.length, true), ((0 : Int) == Int.ofNat 0, true), (dP ((1 = 1 ∧ Zs (1 * 1) (List.drop 0 [vi (y2_7.getD 1 R_ii.z).a1]) = some [vi (y2_7.getD 1 R_ii.z).a1] ∧ Z8 ZaK [vi (y2_7.getD 1 R_ii.z).a1] = true) ∧ 0 < 1 ∧ 1 ≤ 100000 ∧ v1.length < v1.length + 1 ∧ v1.length ≤ 100000 ∧ v1.length * 1 ≤ (List.length (Zd eI v1)) ∧ List.take (v1.length * 1) (Zd eI v1) ++ [vi (y2_7.getD 1 R_ii.z).a1] = (Zd eI (v1 ++ ([(y2_7.getD 1 R_ii.z).a1] : List Int)))), true), (dP (ZN (code (ZG E_ii y2_7)) ((0 + (1 * 2)) + 1) 1 = some [.i (y2_7.getD 1 R_ii.z).a1]), true), (Nat.blt 1 y2_7.length, true), ((1 : Int) == Int.ofNat 1, true), (((y2_7.getD 1 R_ii.z).a0 != (1 : Int)), false), (dP (ZN (code (ZG E_ii y2_7)) ((0 + (1 * 2)) + 0) 1 = some [.i (y2_7.getD 1 R_ii.z).a0]), true), (Nat.blt 1 y2_7.length, true), ((1 : Int) == Int.ofNat 1, true), (((y2_7.getD 0 R_ii.z).a0 != (2 : Int)), false), (dP (ZN (code (ZG E_ii y2_7)) ((0 + (0 * 2)) + 0) 1 = some [.i (y2_7.getD 0 R_ii.z).a0]), true), (Nat.blt 0 y2_7.length, true), ((0 : Int) == Int.ofNat 0, true), (((y2_7.length : Int) != (2 : Int)), false), ((y2_5 == (3 : Int)), false), ((v3 != (2 : Int)), false), (dP (ZI #[vs 0 0 L0.length L0.length, Value.agg #[vi v3, vi v4]] (L0) (v3) (v4)  y2_0 y2_1 y2_2 y2_3 y2_4 y2_5 y2_6 y2_7 0 8), true), (dS (Zd E_iiiiiiiA L0), true), (((v3 == (2 : Int)) && ((v4 == (0 : Int)) && true)), false), ((decide ((v2 : Int) ≤ (L0.length : Int))), true)]) rfl (show 1 ∈ Zx (Zif 1) from by decide +kernel) (fun gv => by kernel_rfl) (Zb (beq_iff_eq.2 ((wrap_i64 ltA).trans (by first | rfl | omega))) <| Zb (Zg (ZA (E := E_ii) (L := y2_7) (i := 0) (q := 0) (by omega) (show (0 + (0 * 2)) = 0 * 2 + 0 from by omega) (show 0 + 2 ≤ 2 from by decide) rfl)) <| oB <| oI <| Zb (Zg ⟨⟨rfl, ⟨rfl, rfl⟩⟩, by omega, by omega, ltA, by omega, (Zdx (E := eI) (L := v1) (M := ([(y2_7.getD 1 R_ii.z).a1] : List Int)) (n := v1.length) (show _ = _ * 1 from rfl) (by omega) (R := (v1 ++ ([(y2_7.getD 1 R_ii.z).a1] : List Int))) (by rw [List.take_of_length_le (by omega)]))⟩) <| Zb (Zg (ZA (E := E_ii) (L := y2_7) (i := 1) (q := 1) (by omega) (show ((0 + (1 * 2)) + 1) = 1 * 2 + 1 from by omega) (show 1 + 1 ≤ 2 from by decide) rfl)) <| oB <| oI <| oE <| Zb (Zg (ZA (E := E_ii) (L := y2_7) (i := 1) (q := 0) (by omega) (show ((0 + (1 * 2)) + 0) = 1 * 2 + 0 from by omega) (show 0 + 1 ≤ 2 from by decide) rfl)) <| oB <| oI <| oE <| Zb (Zg (ZA (E := E_ii) (L := y2_7) (i := 0) (q := 0) (by omega) (show ((0 + (0 * 2)) + 0) = 0 * 2 + 0 from by omega) (show 0 + 1 ≤ 2 from by decide) rfl)) <| oB <| oI <| oE <| oF <| oE <| Zb (Zg (ZM #[vs 0 0 L0.length L0.length, Value.agg #[vi v3, vi v4]] (L0) (v3) (v4)  y2_0 y2_1 y2_2 y2_3 y2_4 y2_5 y2_6 y2_7 N c2 0 8 rfl (by decide) (by decide))) <| oR <| Zb (Bool.eq_false_iff.2 (by simp only [ne_eq, Bool.and_true, Bool.and_eq_true, beq_iff_eq]; first | omega | (intro hh; simp_all; done) | (intro hh; grind))) <| oY Ze) rfl (by decide) (by rfl) (fun _ => ⟨rr, ⟨rr, ⟨rr, ⟨rr, ⟨⟨Eq.trans (show (vs 4 0 (v1 ++ ([(y2_7.getD 1 R_ii.z).a1] : List Int)).length (v1 ++ ([(y2_7.getD 1 R_ii.z).a1] : List Int)).length : Value) = vs 4 0 (v1.length + 1) (v1.length + 1) from (Zbe rfl eqA eqA)) (by rfl), by rfl⟩, ⟨rr, ⟨rr, trivial⟩⟩⟩⟩⟩⟩⟩) ⟨(Zh (E := E_iiiiiiiA) (α := R_iiiiiiiA) _ L0 _), ⟨⟨rfl, ⟨[], by rfl⟩, by rfl⟩, ⟨⟨rfl, ⟨[], by rfl⟩, by rfl⟩, ⟨⟨rfl, ⟨[], by rfl⟩, by rfl⟩, ⟨(Zh (E := eI) (α := Int) _ (v1 ++ ([(y2_7.getD 1 R_ii.z).a1] : List Int)) _), ⟨⟨rfl, ⟨[], by rfl⟩, by rfl⟩, trivial⟩⟩⟩⟩⟩⟩
          ·
           exact Mach.ok_none
         ·
          exact Mach.ok_none
   | r1 =>
    by_cases g3 : ¬ (v3 = (2 : Int))
    ·
     exact Mach.ok_fin (M := Zr L0 a1 a2 a3 N) (cd := 1000000) (cm := 0) (r := (.r0 ((240 : Int)) : Zj)) (fu := 4000) (orc := (Zi [(0, true), (1, false), (2, true)] [] [] [] [(1, (ZbS (L0) (v3) (v4)   0 8))])) (live := [0]) (u := Value.tuple #[vn, vi (240 : Int)]) (bl := [some (.cells (Zd E_iiiiiiiA L0) 42)]) (ob := [((v3 != (2 : Int)), true), (dP (Zb3 #[vs 0 0 L0.length L0.length, Value.agg #[vi v3, vi v4]] (L0) (v3) (v4)   0 8), true), (dS (Zd E_iiiiiiiA L0), true), (((v3 == (2 : Int)) && ((v4 == (0 : Int)) && true)), false), ((decide ((v2 : Int) ≤ (L0.length : Int))), true)]) (fun gv => by kernel_rfl) (oD <| Zb (Zg (ZbT #[vs 0 0 L0.length L0.length, Value.agg #[vi v3, vi v4]] (L0) (v3) (v4)   N c2 0 8 rfl (by decide) (by decide))) <| oR <| Zb (Bool.eq_false_iff.2 (by simp only [ne_eq, Bool.and_true, Bool.and_eq_true, beq_iff_eq]; first | omega | (intro hh; simp_all; done) | (intro hh; grind))) <| oY Ze) rfl (by decide) (by rfl) rr ⟨(Zh (E := E_iiiiiiiA) (α := R_iiiiiiiA) _ L0 _), trivial⟩
    ·
     exact Mach.ok_fin (M := Zr L0 a1 a2 a3 N) (cd := 1000000) (cm := 0) (r := (.r0 ((240 : Int)) : Zj)) (fu := 4000) (orc := (Zi [(0, true), (1, false), (2, false)] [] [] [] [(1, (ZbS (L0) (v3) (v4)   0 8))])) (live := [0]) (u := Value.tuple #[vn, vi (240 : Int)]) (bl := [some (.cells (Zd E_iiiiiiiA L0) 42)]) (ob := [((v3 != (2 : Int)), false), (dP (Zb3 #[vs 0 0 L0.length L0.length, Value.agg #[vi v3, vi v4]] (L0) (v3) (v4)   0 8), true), (dS (Zd E_iiiiiiiA L0), true), (((v3 == (2 : Int)) && ((v4 == (0 : Int)) && true)), false), ((decide ((v2 : Int) ≤ (L0.length : Int))), true)]) (fun gv => by kernel_rfl) (oE <| Zb (Zg (ZbT #[vs 0 0 L0.length L0.length, Value.agg #[vi v3, vi v4]] (L0) (v3) (v4)   N c2 0 8 rfl (by decide) (by decide))) <| oR <| Zb (Bool.eq_false_iff.2 (by simp only [ne_eq, Bool.and_true, Bool.and_eq_true, beq_iff_eq]; first | omega | (intro hh; simp_all; done) | (intro hh; grind))) <| oY Ze) rfl (by decide) (by rfl) rr ⟨(Zh (E := E_iiiiiiiA) (α := R_iiiiiiiA) _ L0 _), trivial⟩
 ·
  exact Mach.ok_fin (M := Zr L0 a1 a2 a3 N) (cd := 1000000) (cm := 0) (r := (.r0 ((240 : Int)) : Zj)) (fu := 4000) (orc := (Zi [(0, false)] [] [] [] [])) (live := [0]) (u := Value.tuple #[vn, vi (240 : Int)]) (bl := [some (.cells (Zd E_iiiiiiiA L0) 42)]) (ob := [((decide ((v2 : Int) ≤ (L0.length : Int))), false)]) (fun gv => by kernel_rfl) (oN Ze) rfl (by decide) (by rfl) rr ⟨(Zh (E := E_iiiiiiiA) (α := R_iiiiiiiA) _ L0 _), trivial⟩

theorem Zl2 (L0 : List R_iiiiiiiA) (a1 a2 a3 : Int) (N : Nat) : (Zr L0 a1 a2 a3 N).Enter Tryz.prog Zw #[vs 0 0 L0.length L0.length, Value.agg #[vi a1, vi a2], vi a3] (Zce L0 a1 a2 a3 N) := by
 unfold Zce
 refine Mach.en_bind (fun z0 c0 => ?_)
 cases z0 with
 | r0 y0_0 y0_1 y0_2 y0_3 y0_4 y0_5 y0_6 y0_7 =>
  refine Mach.en_ite (fun g1 => ?_) (fun g1 => ?_)
  ·
   exact Mach.en_fin (M := Zr L0 a1 a2 a3 N) (cd := 1000000) (cm := 0) (r := (.r0 ((240 : Int)) : Zj)) (fu := 4000) (orc := (Zi [(0, true)] [] [] [] [(0, (ZL (L0) (a1) (a2)  y0_0 y0_1 y0_2 y0_3 y0_4 y0_5 y0_6 y0_7 0 2))])) (live := [0]) (u := Value.tuple #[vn, vi (240 : Int)]) (bl := [some (.cells (Zd E_iiiiiiiA L0) 42)]) (ob := [((decide (a3 < (0 : Int))), true), (dP (ZI #[vs 0 0 L0.length L0.length, Value.agg #[vi a1, vi a2]] (L0) (a1) (a2)  y0_0 y0_1 y0_2 y0_3 y0_4 y0_5 y0_6 y0_7 0 2), true), (dS (Zd E_iiiiiiiA L0), true)]) (by kernel_rfl) (oY <| Zb (Zg (ZM #[vs 0 0 L0.length L0.length, Value.agg #[vi a1, vi a2]] (L0) (a1) (a2)  y0_0 y0_1 y0_2 y0_3 y0_4 y0_5 y0_6 y0_7 N c0 0 2 rfl (by decide) (by decide))) <| oR Ze) rfl (by decide) (by rfl) rr ⟨(Zh (E := E_iiiiiiiA) (α := R_iiiiiiiA) _ L0 _), trivial⟩
  ·
   refine Mach.en_ite (fun g2 => ?_) (fun g2 => ?_)
   ·
    exact Mach.en_fin (M := Zr L0 a1 a2 a3 N) (cd := 1000000) (cm := 0) (r := (.r0 ((240 : Int)) : Zj)) (fu := 4000) (orc := (Zi [(0, false), (1, true)] [] [] [] [(0, (ZL (L0) (a1) (a2)  y0_0 y0_1 y0_2 y0_3 y0_4 y0_5 y0_6 y0_7 0 2))])) (live := [0]) (u := Value.tuple #[vn, vi (240 : Int)]) (bl := [some (.cells (Zd E_iiiiiiiA L0) 42)]) (ob := [((decide (a3 > (3 : Int))), true), ((decide (a3 < (0 : Int))), false), (dP (ZI #[vs 0 0 L0.length L0.length, Value.agg #[vi a1, vi a2]] (L0) (a1) (a2)  y0_0 y0_1 y0_2 y0_3 y0_4 y0_5 y0_6 y0_7 0 2), true), (dS (Zd E_iiiiiiiA L0), true)]) (by kernel_rfl) (oY <| oN <| Zb (Zg (ZM #[vs 0 0 L0.length L0.length, Value.agg #[vi a1, vi a2]] (L0) (a1) (a2)  y0_0 y0_1 y0_2 y0_3 y0_4 y0_5 y0_6 y0_7 N c0 0 2 rfl (by decide) (by decide))) <| oR Ze) rfl (by decide) (by rfl) rr ⟨(Zh (E := E_iiiiiiiA) (α := R_iiiiiiiA) _ L0 _), trivial⟩
   ·
    refine Mach.en_ite (fun g3 => ?_) (fun g3 => ?_)
    ·
     exact Mach.en_fin (M := Zr L0 a1 a2 a3 N) (cd := 1000000) (cm := 0) (r := (.r0 ((240 : Int)) : Zj)) (fu := 4000) (orc := (Zi [(0, false), (1, false), (3, true)] [] [] [] [(0, (ZL (L0) (a1) (a2)  y0_0 y0_1 y0_2 y0_3 y0_4 y0_5 y0_6 y0_7 0 2))])) (live := [0]) (u := Value.tuple #[vn, vi (240 : Int)]) (bl := [some (.cells (Zd E_iiiiiiiA L0) 42)]) (ob := [((a1 != (2 : Int)), true), ((decide (a3 > (3 : Int))), false), ((decide (a3 < (0 : Int))), false), (dP (ZI #[vs 0 0 L0.length L0.length, Value.agg #[vi a1, vi a2]] (L0) (a1) (a2)  y0_0 y0_1 y0_2 y0_3 y0_4 y0_5 y0_6 y0_7 0 2), true), (dS (Zd E_iiiiiiiA L0), true)]) (by kernel_rfl) (oD <| oN <| oN <| Zb (Zg (ZM #[vs 0 0 L0.length L0.length, Value.agg #[vi a1, vi a2]] (L0) (a1) (a2)  y0_0 y0_1 y0_2 y0_3 y0_4 y0_5 y0_6 y0_7 N c0 0 2 rfl (by decide) (by decide))) <| oR Ze) rfl (by decide) (by rfl) rr ⟨(Zh (E := E_iiiiiiiA) (α := R_iiiiiiiA) _ L0 _), trivial⟩
    ·
     refine Mach.en_ite (fun g4 => ?_) (fun g4 => ?_)
     ·
      exact Mach.en_fin (M := Zr L0 a1 a2 a3 N) (cd := 1000000) (cm := 0) (r := (.r0 ((240 : Int)) : Zj)) (fu := 4000) (orc := (Zi [(0, false), (1, false), (3, false), (4, true)] [] [] [] [(0, (ZL (L0) (a1) (a2)  y0_0 y0_1 y0_2 y0_3 y0_4 y0_5 y0_6 y0_7 0 2))])) (live := [0]) (u := Value.tuple #[vn, vi (240 : Int)]) (bl := [some (.cells (Zd E_iiiiiiiA L0) 42)]) (ob := [((a2 == (0 : Int)), true), ((a1 != (2 : Int)), false), ((decide (a3 > (3 : Int))), false), ((decide (a3 < (0 : Int))), false), (dP (ZI #[vs 0 0 L0.length L0.length, Value.agg #[vi a1, vi a2]] (L0) (a1) (a2)  y0_0 y0_1 y0_2 y0_3 y0_4 y0_5 y0_6 y0_7 0 2), true), (dS (Zd E_iiiiiiiA L0), true)]) (by kernel_rfl) (oT <| oE <| oN <| oN <| Zb (Zg (ZM #[vs 0 0 L0.length L0.length, Value.agg #[vi a1, vi a2]] (L0) (a1) (a2)  y0_0 y0_1 y0_2 y0_3 y0_4 y0_5 y0_6 y0_7 N c0 0 2 rfl (by decide) (by decide))) <| oR Ze) rfl (by decide) (by rfl) rr ⟨(Zh (E := E_iiiiiiiA) (α := R_iiiiiiiA) _ L0 _), trivial⟩
     ·
      refine Mach.en_ite (fun g5 => ?_) (fun g5 => ?_)
      ·
       exact Mach.en_fin (M := Zr L0 a1 a2 a3 N) (cd := 1000000) (cm := 0) (r := (.r0 ((240 : Int)) : Zj)) (fu := 4000) (orc := (Zi [(0, false), (1, false), (3, false), (4, false), (5, true)] [] [] [] [(0, (ZL (L0) (a1) (a2)  y0_0 y0_1 y0_2 y0_3 y0_4 y0_5 y0_6 y0_7 0 2))])) (live := [0]) (u := Value.tuple #[vn, vi (240 : Int)]) (bl := [some (.cells (Zd E_iiiiiiiA L0) 42)]) (ob := [((decide ((y0_7.length : Int) < (12 : Int))), true), ((a2 == (0 : Int)), false), ((a1 != (2 : Int)), false), ((decide (a3 > (3 : Int))), false), ((decide (a3 < (0 : Int))), false), (dP (ZI #[vs 0 0 L0.length L0.length, Value.agg #[vi a1, vi a2]] (L0) (a1) (a2)  y0_0 y0_1 y0_2 y0_3 y0_4 y0_5 y0_6 y0_7 0 2), true), (dS (Zd E_iiiiiiiA L0), true)]) (by kernel_rfl) (oY <| oF <| oE <| oN <| oN <| Zb (Zg (ZM #[vs 0 0 L0.length L0.length, Value.agg #[vi a1, vi a2]] (L0) (a1) (a2)  y0_0 y0_1 y0_2 y0_3 y0_4 y0_5 y0_6 y0_7 N c0 0 2 rfl (by decide) (by decide))) <| oR Ze) rfl (by decide) (by rfl) rr ⟨(Zh (E := E_iiiiiiiA) (α := R_iiiiiiiA) _ L0 _), trivial⟩
      ·
       refine Mach.en_ite (fun g6 => ?_) (fun g6 => ?_)
       ·
        exact Mach.en_fin (M := Zr L0 a1 a2 a3 N) (cd := 1000000) (cm := 0) (r := (.r0 ((240 : Int)) : Zj)) (fu := 4000) (orc := (Zi [(0, false), (1, false), (3, false), (4, false), (5, false), (6, true)] [(0, ((2 : Int) * a3)), (1, ((2 : Int) * a3)), (2, (((2 : Int) * a3) + (1 : Int))), (3, ((8 : Int) + a3))] [(0, (((2 : Int) * a3)).toNat), (1, ((((2 : Int) * a3) + (1 : Int))).toNat), (2, (((8 : Int) + a3)).toNat)] [(5, [.i (y0_7.getD (((2 : Int) * a3)).toNat R_ii.z).a0, .i (y0_7.getD (((2 : Int) * a3)).toNat R_ii.z).a1]), (7, [.i (y0_7.getD ((((2 : Int) * a3) + (1 : Int))).toNat R_ii.z).a0, .i (y0_7.getD ((((2 : Int) * a3) + (1 : Int))).toNat R_ii.z).a1]), (9, [.i (y0_7.getD (((8 : Int) + a3)).toNat R_ii.z).a0, .i (y0_7.getD (((8 : Int) + a3)).toNat R_ii.z).a1])] [(0, (ZL (L0) (a1) (a2)  y0_0 y0_1 y0_2 y0_3 y0_4 y0_5 y0_6 y0_7 0 2))])) (live := [0]) (u := Value.tuple #[vn, vi (240 : Int)]) (bl := [some (.cells (Zd E_iiiiiiiA L0) 42)]) (ob := [(((y0_7.getD (((2 : Int) * a3)).toNat R_ii.z).a0 != (2 : Int)), true), (dP (ZN (code (ZG E_ii y0_7)) (0 + ((((8 : Int) + a3)).toNat * 2)) 2 = some [.i (y0_7.getD (((8 : Int) + a3)).toNat R_ii.z).a0, .i (y0_7.getD (((8 : Int) + a3)).toNat R_ii.z).a1]), true), (Nat.blt (((8 : Int) + a3)).toNat y0_7.length, true), (((8 : Int) + a3) == Int.ofNat (((8 : Int) + a3)).toNat, true), ((IntKind.i64.wrap ((8 : Int) + a3)) == ((8 : Int) + a3), true), (dP (ZN (code (ZG E_ii y0_7)) (0 + (((((2 : Int) * a3) + (1 : Int))).toNat * 2)) 2 = some [.i (y0_7.getD ((((2 : Int) * a3) + (1 : Int))).toNat R_ii.z).a0, .i (y0_7.getD ((((2 : Int) * a3) + (1 : Int))).toNat R_ii.z).a1]), true), (Nat.blt ((((2 : Int) * a3) + (1 : Int))).toNat y0_7.length, true), ((((2 : Int) * a3) + (1 : Int)) == Int.ofNat ((((2 : Int) * a3) + (1 : Int))).toNat, true), ((IntKind.i64.wrap (((2 : Int) * a3) + (1 : Int))) == (((2 : Int) * a3) + (1 : Int)), true), ((IntKind.i64.wrap ((2 : Int) * a3)) == ((2 : Int) * a3), true), (dP (ZN (code (ZG E_ii y0_7)) (0 + ((((2 : Int) * a3)).toNat * 2)) 2 = some [.i (y0_7.getD (((2 : Int) * a3)).toNat R_ii.z).a0, .i (y0_7.getD (((2 : Int) * a3)).toNat R_ii.z).a1]), true), (Nat.blt (((2 : Int) * a3)).toNat y0_7.length, true), (((2 : Int) * a3) == Int.ofNat (((2 : Int) * a3)).toNat, true), ((IntKind.i64.wrap ((2 : Int) * a3)) == ((2 : Int) * a3), true), ((decide ((y0_7.length : Int) < (12 : Int))), false), ((a2 == (0 : Int)), false), ((a1 != (2 : Int)), false), ((decide (a3 > (3 : Int))), false), ((decide (a3 < (0 : Int))), false), (dP (ZI #[vs 0 0 L0.length L0.length, Value.agg #[vi a1, vi a2]] (L0) (a1) (a2)  y0_0 y0_1 y0_2 y0_3 y0_4 y0_5 y0_6 y0_7 0 2), true), (dS (Zd E_iiiiiiiA L0), true)]) (by kernel_rfl) (oD <| Zb (Zg (ZA (E := E_ii) (L := y0_7) (i := (((8 : Int) + a3)).toNat) (q := 0) (by omega) (show (0 + ((((8 : Int) + a3)).toNat * 2)) = (((8 : Int) + a3)).toNat * 2 + 0 from by omega) (show 0 + 2 ≤ 2 from by decide) rfl)) <| oB <| oI <| Zb (beq_iff_eq.2 ((wrap_i64 ltA).trans (by first | rfl | omega))) <| Zb (Zg (ZA (E := E_ii) (L := y0_7) (i := ((((2 : Int) * a3) + (1 : Int))).toNat) (q := 0) (by omega) (show (0 + (((((2 : Int) * a3) + (1 : Int))).toNat * 2)) = ((((2 : Int) * a3) + (1 : Int))).toNat * 2 + 0 from by omega) (show 0 + 2 ≤ 2 from by decide) rfl)) <| oB <| oI <| Zb (beq_iff_eq.2 ((wrap_i64 ltA).trans (by first | rfl | omega))) <| Zb (beq_iff_eq.2 ((wrap_i64 ltA).trans (by first | rfl | omega))) <| Zb (Zg (ZA (E := E_ii) (L := y0_7) (i := (((2 : Int) * a3)).toNat) (q := 0) (by omega) (show (0 + ((((2 : Int) * a3)).toNat * 2)) = (((2 : Int) * a3)).toNat * 2 + 0 from by omega) (show 0 + 2 ≤ 2 from by decide) rfl)) <| oB <| oI <| Zb (beq_iff_eq.2 ((wrap_i64 ltA).trans (by first | rfl | omega))) <| oN <| oF <| oE <| oN <| oN <| Zb (Zg (ZM #[vs 0 0 L0.length L0.length, Value.agg #[vi a1, vi a2]] (L0) (a1) (a2)  y0_0 y0_1 y0_2 y0_3 y0_4 y0_5 y0_6 y0_7 N c0 0 2 rfl (by decide) (by decide))) <| oR Ze) rfl (by decide) (by rfl) rr ⟨(Zh (E := E_iiiiiiiA) (α := R_iiiiiiiA) _ L0 _), trivial⟩
       ·
        refine Mach.en_ite (fun g7 => ?_) (fun g7 => ?_)
        ·
         exact Mach.en_fin (M := Zr L0 a1 a2 a3 N) (cd := 1000000) (cm := 0) (r := (.r0 ((240 : Int)) : Zj)) (fu := 4000) (orc := (Zi [(0, false), (1, false), (3, false), (4, false), (5, false), (6, false), (7, true)] [(0, ((2 : Int) * a3)), (1, ((2 : Int) * a3)), (2, (((2 : Int) * a3) + (1 : Int))), (3, ((8 : Int) + a3))] [(0, (((2 : Int) * a3)).toNat), (1, ((((2 : Int) * a3) + (1 : Int))).toNat), (2, (((8 : Int) + a3)).toNat)] [(5, [.i (y0_7.getD (((2 : Int) * a3)).toNat R_ii.z).a0, .i (y0_7.getD (((2 : Int) * a3)).toNat R_ii.z).a1]), (7, [.i (y0_7.getD ((((2 : Int) * a3) + (1 : Int))).toNat R_ii.z).a0, .i (y0_7.getD ((((2 : Int) * a3) + (1 : Int))).toNat R_ii.z).a1]), (9, [.i (y0_7.getD (((8 : Int) + a3)).toNat R_ii.z).a0, .i (y0_7.getD (((8 : Int) + a3)).toNat R_ii.z).a1])] [(0, (ZL (L0) (a1) (a2)  y0_0 y0_1 y0_2 y0_3 y0_4 y0_5 y0_6 y0_7 0 2))])) (live := [0]) (u := Value.tuple #[vn, vi (240 : Int)]) (bl := [some (.cells (Zd E_iiiiiiiA L0) 42)]) (ob := [(((y0_7.getD ((((2 : Int) * a3) + (1 : Int))).toNat R_ii.z).a0 != (2 : Int)), true), (((y0_7.getD (((2 : Int) * a3)).toNat R_ii.z).a0 != (2 : Int)), false), (dP (ZN (code (ZG E_ii y0_7)) (0 + ((((8 : Int) + a3)).toNat * 2)) 2 = some [.i (y0_7.getD (((8 : Int) + a3)).toNat R_ii.z).a0, .i (y0_7.getD (((8 : Int) + a3)).toNat R_ii.z).a1]), true), (Nat.blt (((8 : Int) + a3)).toNat y0_7.length, true), (((8 : Int) + a3) == Int.ofNat (((8 : Int) + a3)).toNat, true), ((IntKind.i64.wrap ((8 : Int) + a3)) == ((8 : Int) + a3), true), (dP (ZN (code (ZG E_ii y0_7)) (0 + (((((2 : Int) * a3) + (1 : Int))).toNat * 2)) 2 = some [.i (y0_7.getD ((((2 : Int) * a3) + (1 : Int))).toNat R_ii.z).a0, .i (y0_7.getD ((((2 : Int) * a3) + (1 : Int))).toNat R_ii.z).a1]), true), (Nat.blt ((((2 : Int) * a3) + (1 : Int))).toNat y0_7.length, true), ((((2 : Int) * a3) + (1 : Int)) == Int.ofNat ((((2 : Int) * a3) + (1 : Int))).toNat, true), ((IntKind.i64.wrap (((2 : Int) * a3) + (1 : Int))) == (((2 : Int) * a3) + (1 : Int)), true), ((IntKind.i64.wrap ((2 : Int) * a3)) == ((2 : Int) * a3), true), (dP (ZN (code (ZG E_ii y0_7)) (0 + ((((2 : Int) * a3)).toNat * 2)) 2 = some [.i (y0_7.getD (((2 : Int) * a3)).toNat R_ii.z).a0, .i (y0_7.getD (((2 : Int) * a3)).toNat R_ii.z).a1]), true), (Nat.blt (((2 : Int) * a3)).toNat y0_7.length, true), (((2 : Int) * a3) == Int.ofNat (((2 : Int) * a3)).toNat, true), ((IntKind.i64.wrap ((2 : Int) * a3)) == ((2 : Int) * a3), true), ((decide ((y0_7.length : Int) < (12 : Int))), false), ((a2 == (0 : Int)), false), ((a1 != (2 : Int)), false), ((decide (a3 > (3 : Int))), false), ((decide (a3 < (0 : Int))), false), (dP (ZI #[vs 0 0 L0.length L0.length, Value.agg #[vi a1, vi a2]] (L0) (a1) (a2)  y0_0 y0_1 y0_2 y0_3 y0_4 y0_5 y0_6 y0_7 0 2), true), (dS (Zd E_iiiiiiiA L0), true)]) (by kernel_rfl) (oD <| oE <| Zb (Zg (ZA (E := E_ii) (L := y0_7) (i := (((8 : Int) + a3)).toNat) (q := 0) (by omega) (show (0 + ((((8 : Int) + a3)).toNat * 2)) = (((8 : Int) + a3)).toNat * 2 + 0 from by omega) (show 0 + 2 ≤ 2 from by decide) rfl)) <| oB <| oI <| Zb (beq_iff_eq.2 ((wrap_i64 ltA).trans (by first | rfl | omega))) <| Zb (Zg (ZA (E := E_ii) (L := y0_7) (i := ((((2 : Int) * a3) + (1 : Int))).toNat) (q := 0) (by omega) (show (0 + (((((2 : Int) * a3) + (1 : Int))).toNat * 2)) = ((((2 : Int) * a3) + (1 : Int))).toNat * 2 + 0 from by omega) (show 0 + 2 ≤ 2 from by decide) rfl)) <| oB <| oI <| Zb (beq_iff_eq.2 ((wrap_i64 ltA).trans (by first | rfl | omega))) <| Zb (beq_iff_eq.2 ((wrap_i64 ltA).trans (by first | rfl | omega))) <| Zb (Zg (ZA (E := E_ii) (L := y0_7) (i := (((2 : Int) * a3)).toNat) (q := 0) (by omega) (show (0 + ((((2 : Int) * a3)).toNat * 2)) = (((2 : Int) * a3)).toNat * 2 + 0 from by omega) (show 0 + 2 ≤ 2 from by decide) rfl)) <| oB <| oI <| Zb (beq_iff_eq.2 ((wrap_i64 ltA).trans (by first | rfl | omega))) <| oN <| oF <| oE <| oN <| oN <| Zb (Zg (ZM #[vs 0 0 L0.length L0.length, Value.agg #[vi a1, vi a2]] (L0) (a1) (a2)  y0_0 y0_1 y0_2 y0_3 y0_4 y0_5 y0_6 y0_7 N c0 0 2 rfl (by decide) (by decide))) <| oR Ze) rfl (by decide) (by rfl) rr ⟨(Zh (E := E_iiiiiiiA) (α := R_iiiiiiiA) _ L0 _), trivial⟩
        ·
         refine Mach.en_ite (fun g8 => ?_) (fun g8 => ?_)
         ·
          exact Mach.en_fin (M := Zr L0 a1 a2 a3 N) (cd := 1000000) (cm := 0) (r := (.r0 ((240 : Int)) : Zj)) (fu := 4000) (orc := (Zi [(0, false), (1, false), (3, false), (4, false), (5, false), (6, false), (7, false), (8, true)] [(0, ((2 : Int) * a3)), (1, ((2 : Int) * a3)), (2, (((2 : Int) * a3) + (1 : Int))), (3, ((8 : Int) + a3))] [(0, (((2 : Int) * a3)).toNat), (1, ((((2 : Int) * a3) + (1 : Int))).toNat), (2, (((8 : Int) + a3)).toNat)] [(5, [.i (y0_7.getD (((2 : Int) * a3)).toNat R_ii.z).a0, .i (y0_7.getD (((2 : Int) * a3)).toNat R_ii.z).a1]), (7, [.i (y0_7.getD ((((2 : Int) * a3) + (1 : Int))).toNat R_ii.z).a0, .i (y0_7.getD ((((2 : Int) * a3) + (1 : Int))).toNat R_ii.z).a1]), (9, [.i (y0_7.getD (((8 : Int) + a3)).toNat R_ii.z).a0, .i (y0_7.getD (((8 : Int) + a3)).toNat R_ii.z).a1])] [(0, (ZL (L0) (a1) (a2)  y0_0 y0_1 y0_2 y0_3 y0_4 y0_5 y0_6 y0_7 0 2))])) (live := [0]) (u := Value.tuple #[vn, vi (240 : Int)]) (bl := [some (.cells (Zd E_iiiiiiiA L0) 42)]) (ob := [(((y0_7.getD (((8 : Int) + a3)).toNat R_ii.z).a0 != (1 : Int)), true), (((y0_7.getD ((((2 : Int) * a3) + (1 : Int))).toNat R_ii.z).a0 != (2 : Int)), false), (((y0_7.getD (((2 : Int) * a3)).toNat R_ii.z).a0 != (2 : Int)), false), (dP (ZN (code (ZG E_ii y0_7)) (0 + ((((8 : Int) + a3)).toNat * 2)) 2 = some [.i (y0_7.getD (((8 : Int) + a3)).toNat R_ii.z).a0, .i (y0_7.getD (((8 : Int) + a3)).toNat R_ii.z).a1]), true), (Nat.blt (((8 : Int) + a3)).toNat y0_7.length, true), (((8 : Int) + a3) == Int.ofNat (((8 : Int) + a3)).toNat, true), ((IntKind.i64.wrap ((8 : Int) + a3)) == ((8 : Int) + a3), true), (dP (ZN (code (ZG E_ii y0_7)) (0 + (((((2 : Int) * a3) + (1 : Int))).toNat * 2)) 2 = some [.i (y0_7.getD ((((2 : Int) * a3) + (1 : Int))).toNat R_ii.z).a0, .i (y0_7.getD ((((2 : Int) * a3) + (1 : Int))).toNat R_ii.z).a1]), true), (Nat.blt ((((2 : Int) * a3) + (1 : Int))).toNat y0_7.length, true), ((((2 : Int) * a3) + (1 : Int)) == Int.ofNat ((((2 : Int) * a3) + (1 : Int))).toNat, true), ((IntKind.i64.wrap (((2 : Int) * a3) + (1 : Int))) == (((2 : Int) * a3) + (1 : Int)), true), ((IntKind.i64.wrap ((2 : Int) * a3)) == ((2 : Int) * a3), true), (dP (ZN (code (ZG E_ii y0_7)) (0 + ((((2 : Int) * a3)).toNat * 2)) 2 = some [.i (y0_7.getD (((2 : Int) * a3)).toNat R_ii.z).a0, .i (y0_7.getD (((2 : Int) * a3)).toNat R_ii.z).a1]), true), (Nat.blt (((2 : Int) * a3)).toNat y0_7.length, true), (((2 : Int) * a3) == Int.ofNat (((2 : Int) * a3)).toNat, true), ((IntKind.i64.wrap ((2 : Int) * a3)) == ((2 : Int) * a3), true), ((decide ((y0_7.length : Int) < (12 : Int))), false), ((a2 == (0 : Int)), false), ((a1 != (2 : Int)), false), ((decide (a3 > (3 : Int))), false), ((decide (a3 < (0 : Int))), false), (dP (ZI #[vs 0 0 L0.length L0.length, Value.agg #[vi a1, vi a2]] (L0) (a1) (a2)  y0_0 y0_1 y0_2 y0_3 y0_4 y0_5 y0_6 y0_7 0 2), true), (dS (Zd E_iiiiiiiA L0), true)]) (by kernel_rfl) (oD <| oE <| oE <| Zb (Zg (ZA (E := E_ii) (L := y0_7) (i := (((8 : Int) + a3)).toNat) (q := 0) (by omega) (show (0 + ((((8 : Int) + a3)).toNat * 2)) = (((8 : Int) + a3)).toNat * 2 + 0 from by omega) (show 0 + 2 ≤ 2 from by decide) rfl)) <| oB <| oI <| Zb (beq_iff_eq.2 ((wrap_i64 ltA).trans (by first | rfl | omega))) <| Zb (Zg (ZA (E := E_ii) (L := y0_7) (i := ((((2 : Int) * a3) + (1 : Int))).toNat) (q := 0) (by omega) (show (0 + (((((2 : Int) * a3) + (1 : Int))).toNat * 2)) = ((((2 : Int) * a3) + (1 : Int))).toNat * 2 + 0 from by omega) (show 0 + 2 ≤ 2 from by decide) rfl)) <| oB <| oI <| Zb (beq_iff_eq.2 ((wrap_i64 ltA).trans (by first | rfl | omega))) <| Zb (beq_iff_eq.2 ((wrap_i64 ltA).trans (by first | rfl | omega))) <| Zb (Zg (ZA (E := E_ii) (L := y0_7) (i := (((2 : Int) * a3)).toNat) (q := 0) (by omega) (show (0 + ((((2 : Int) * a3)).toNat * 2)) = (((2 : Int) * a3)).toNat * 2 + 0 from by omega) (show 0 + 2 ≤ 2 from by decide) rfl)) <| oB <| oI <| Zb (beq_iff_eq.2 ((wrap_i64 ltA).trans (by first | rfl | omega))) <| oN <| oF <| oE <| oN <| oN <| Zb (Zg (ZM #[vs 0 0 L0.length L0.length, Value.agg #[vi a1, vi a2]] (L0) (a1) (a2)  y0_0 y0_1 y0_2 y0_3 y0_4 y0_5 y0_6 y0_7 N c0 0 2 rfl (by decide) (by decide))) <| oR Ze) rfl (by decide) (by rfl) rr ⟨(Zh (E := E_iiiiiiiA) (α := R_iiiiiiiA) _ L0 _), trivial⟩
         ·
          exact Mach.en_head (bK := ZbU 1) (M := Zr L0 a1 a2 a3 N) (cd := 1000000) (cm := 0) (y := (.h1m0 ((y0_7.getD (((2 : Int) * a3)).toNat R_ii.z).a0) ((y0_7.getD (((2 : Int) * a3)).toNat R_ii.z).a1) ((y0_7.getD ((((2 : Int) * a3) + (1 : Int))).toNat R_ii.z).a0) ((y0_7.getD ((((2 : Int) * a3) + (1 : Int))).toNat R_ii.z).a1) ((y0_7.getD (((8 : Int) + a3)).toNat R_ii.z).a0) ((y0_7.getD (((8 : Int) + a3)).toNat R_ii.z).a1) : ZK)) (fu := 4000) (orc := (Zi [(0, false), (1, false), (3, false), (4, false), (5, false), (6, false), (7, false), (8, false)] [(0, ((2 : Int) * a3)), (1, ((2 : Int) * a3)), (2, (((2 : Int) * a3) + (1 : Int))), (3, ((8 : Int) + a3))] [(0, (((2 : Int) * a3)).toNat), (1, ((((2 : Int) * a3) + (1 : Int))).toNat), (2, (((8 : Int) + a3)).toNat)] [(5, [.i (y0_7.getD (((2 : Int) * a3)).toNat R_ii.z).a0, .i (y0_7.getD (((2 : Int) * a3)).toNat R_ii.z).a1]), (7, [.i (y0_7.getD ((((2 : Int) * a3) + (1 : Int))).toNat R_ii.z).a0, .i (y0_7.getD ((((2 : Int) * a3) + (1 : Int))).toNat R_ii.z).a1]), (9, [.i (y0_7.getD (((8 : Int) + a3)).toNat R_ii.z).a0, .i (y0_7.getD (((8 : Int) + a3)).toNat R_ii.z).a1])] [(0, (ZL (L0) (a1) (a2)  y0_0 y0_1 y0_2 y0_3 y0_4 y0_5 y0_6 y0_7 0 2))])) (live := [0, 3, 4, 5, 7]) (tv := [some (vs 0 0 L0.length L0.length), some (vp 3 0), some (vp 4 0), some (vp 5 0), some (vn), some (vp 7 0), some (vq)]) (bl := [some (.cells (Zd E_iiiiiiiA L0) 42), some (.cells [vi (y0_7.getD (((2 : Int) * a3)).toNat R_ii.z).a0, vi (y0_7.getD (((2 : Int) * a3)).toNat R_ii.z).a1] 36), some (.cells [vi (y0_7.getD ((((2 : Int) * a3) + (1 : Int))).toNat R_ii.z).a0, vi (y0_7.getD ((((2 : Int) * a3) + (1 : Int))).toNat R_ii.z).a1] 36), some (.cells [vi (y0_7.getD (((8 : Int) + a3)).toNat R_ii.z).a0, vi (y0_7.getD (((8 : Int) + a3)).toNat R_ii.z).a1] 36), some (.cells [vi (2 : Int), vq] 36)]) (ob := [(((y0_7.getD (((8 : Int) + a3)).toNat R_ii.z).a0 != (1 : Int)), false), (((y0_7.getD ((((2 : Int) * a3) + (1 : Int))).toNat R_ii.z).a0 != (2 : Int)), false), (((y0_7.getD (((2 : Int) * a3)).toNat R_ii.z).a0 != (2 : Int)), false), (dP (ZN (code (ZG E_ii y0_7)) (0 + ((((8 : Int) + a3)).toNat * 2)) 2 = some [.i (y0_7.getD (((8 : Int) + a3)).toNat R_ii.z).a0, .i (y0_7.getD (((8 : Int) + a3)).toNat R_ii.z).a1]), true), (Nat.blt (((8 : Int) + a3)).toNat y0_7.length, true), (((8 : Int) + a3) == Int.ofNat (((8 : Int) + a3)).toNat, true), ((IntKind.i64.wrap ((8 : Int) + a3)) == ((8 : Int) + a3), true), (dP (ZN (code (ZG E_ii y0_7)) (0 + (((((2 : Int) * a3) + (1 : Int))).toNat * 2)) 2 = some [.i (y0_7.getD ((((2 : Int) * a3) + (1 : Int))).toNat R_ii.z).a0, .i (y0_7.getD ((((2 : Int) * a3) + (1 : Int))).toNat R_ii.z).a1]), true), (Nat.blt ((((2 : Int) * a3) + (1 : Int))).toNat y0_7.length, true), ((((2 : Int) * a3) + (1 : Int)) == Int.ofNat ((((2 : Int) * a3) + (1 : Int))).toNat, true), ((IntKind.i64.wrap (((2 : Int) * a3) + (1 : Int))) == (((2 : Int) * a3) + (1 : Int)), true), ((IntKind.i64.wrap ((2 : Int) * a3)) == ((2 : Int) * a3), true), (dP (ZN (code (ZG E_ii y0_7)) (0 + ((((2 : Int) * a3)).toNat * 2)) 2 = some [.i (y0_7.getD (((2 : Int) * a3)).toNat R_ii.z).a0, .i (y0_7.getD (((2 : Int) * a3)).toNat R_ii.z).a1]), true), (Nat.blt (((2 : Int) * a3)).toNat y0_7.length, true), (((2 : Int) * a3) == Int.ofNat (((2 : Int) * a3)).toNat, true), ((IntKind.i64.wrap ((2 : Int) * a3)) == ((2 : Int) * a3), true), ((decide ((y0_7.length : Int) < (12 : Int))), false), ((a2 == (0 : Int)), false), ((a1 != (2 : Int)), false), ((decide (a3 > (3 : Int))), false), ((decide (a3 < (0 : Int))), false), (dP (ZI #[vs 0 0 L0.length L0.length, Value.agg #[vi a1, vi a2]] (L0) (a1) (a2)  y0_0 y0_1 y0_2 y0_3 y0_4 y0_5 y0_6 y0_7 0 2), true), (dS (Zd E_iiiiiiiA L0), true)]) rfl rfl (show Zx (ZbU 1).2 = [] from rfl) (by kernel_rfl) (oE <| oE <| oE <| Zb (Zg (ZA (E := E_ii) (L := y0_7) (i := (((8 : Int) + a3)).toNat) (q := 0) (by omega) (show (0 + ((((8 : Int) + a3)).toNat * 2)) = (((8 : Int) + a3)).toNat * 2 + 0 from by omega) (show 0 + 2 ≤ 2 from by decide) rfl)) <| oB <| oI <| Zb (beq_iff_eq.2 ((wrap_i64 ltA).trans (by first | rfl | omega))) <| Zb (Zg (ZA (E := E_ii) (L := y0_7) (i := ((((2 : Int) * a3) + (1 : Int))).toNat) (q := 0) (by omega) (show (0 + (((((2 : Int) * a3) + (1 : Int))).toNat * 2)) = ((((2 : Int) * a3) + (1 : Int))).toNat * 2 + 0 from by omega) (show 0 + 2 ≤ 2 from by decide) rfl)) <| oB <| oI <| Zb (beq_iff_eq.2 ((wrap_i64 ltA).trans (by first | rfl | omega))) <| Zb (beq_iff_eq.2 ((wrap_i64 ltA).trans (by first | rfl | omega))) <| Zb (Zg (ZA (E := E_ii) (L := y0_7) (i := (((2 : Int) * a3)).toNat) (q := 0) (by omega) (show (0 + ((((2 : Int) * a3)).toNat * 2)) = (((2 : Int) * a3)).toNat * 2 + 0 from by omega) (show 0 + 2 ≤ 2 from by decide) rfl)) <| oB <| oI <| Zb (beq_iff_eq.2 ((wrap_i64 ltA).trans (by first | rfl | omega))) <| oN <| oF <| oE <| oN <| oN <| Zb (Zg (ZM #[vs 0 0 L0.length L0.length, Value.agg #[vi a1, vi a2]] (L0) (a1) (a2)  y0_0 y0_1 y0_2 y0_3 y0_4 y0_5 y0_6 y0_7 N c0 0 2 rfl (by decide) (by decide))) <| oR Ze) rfl (by decide) (by rfl) ⟨rr, ⟨rr, ⟨rr, ⟨rr, ⟨rr, ⟨rr, ⟨rr, trivial⟩⟩⟩⟩⟩⟩⟩ ⟨(Zh (E := E_iiiiiiiA) (α := R_iiiiiiiA) _ L0 _), ⟨⟨rfl, ⟨[], by rfl⟩, by rfl⟩, ⟨⟨rfl, ⟨[], by rfl⟩, by rfl⟩, ⟨⟨rfl, ⟨[], by rfl⟩, by rfl⟩, ⟨⟨rfl, ⟨[], by rfl⟩, by rfl⟩, trivial⟩⟩⟩⟩⟩
 | r1 =>
  by_cases g1 : a3 < (0 : Int)
  ·
   exact Mach.en_fin (M := Zr L0 a1 a2 a3 N) (cd := 1000000) (cm := 0) (r := (.r0 ((240 : Int)) : Zj)) (fu := 4000) (orc := (Zi [(0, true)] [] [] [] [(0, (ZbS (L0) (a1) (a2)   0 2))])) (live := [0]) (u := Value.tuple #[vn, vi (240 : Int)]) (bl := [some (.cells (Zd E_iiiiiiiA L0) 42)]) (ob := [((decide (a3 < (0 : Int))), true), (dP (Zb3 #[vs 0 0 L0.length L0.length, Value.agg #[vi a1, vi a2]] (L0) (a1) (a2)   0 2), true), (dS (Zd E_iiiiiiiA L0), true)]) (by kernel_rfl) (oY <| Zb (Zg (ZbT #[vs 0 0 L0.length L0.length, Value.agg #[vi a1, vi a2]] (L0) (a1) (a2)   N c0 0 2 rfl (by decide) (by decide))) <| oR Ze) rfl (by decide) (by rfl) rr ⟨(Zh (E := E_iiiiiiiA) (α := R_iiiiiiiA) _ L0 _), trivial⟩
  ·
   by_cases g2 : (3 : Int) < a3
   ·
    exact Mach.en_fin (M := Zr L0 a1 a2 a3 N) (cd := 1000000) (cm := 0) (r := (.r0 ((240 : Int)) : Zj)) (fu := 4000) (orc := (Zi [(0, false), (1, true)] [] [] [] [(0, (ZbS (L0) (a1) (a2)   0 2))])) (live := [0]) (u := Value.tuple #[vn, vi (240 : Int)]) (bl := [some (.cells (Zd E_iiiiiiiA L0) 42)]) (ob := [((decide (a3 > (3 : Int))), true), ((decide (a3 < (0 : Int))), false), (dP (Zb3 #[vs 0 0 L0.length L0.length, Value.agg #[vi a1, vi a2]] (L0) (a1) (a2)   0 2), true), (dS (Zd E_iiiiiiiA L0), true)]) (by kernel_rfl) (oY <| oN <| Zb (Zg (ZbT #[vs 0 0 L0.length L0.length, Value.agg #[vi a1, vi a2]] (L0) (a1) (a2)   N c0 0 2 rfl (by decide) (by decide))) <| oR Ze) rfl (by decide) (by rfl) rr ⟨(Zh (E := E_iiiiiiiA) (α := R_iiiiiiiA) _ L0 _), trivial⟩
   ·
    exact Mach.en_fin (M := Zr L0 a1 a2 a3 N) (cd := 1000000) (cm := 0) (r := (.r0 ((240 : Int)) : Zj)) (fu := 4000) (orc := (Zi [(0, false), (1, false)] [] [] [] [(0, (ZbS (L0) (a1) (a2)   0 2))])) (live := [0]) (u := Value.tuple #[vn, vi (240 : Int)]) (bl := [some (.cells (Zd E_iiiiiiiA L0) 42)]) (ob := [((decide (a3 > (3 : Int))), false), ((decide (a3 < (0 : Int))), false), (dP (Zb3 #[vs 0 0 L0.length L0.length, Value.agg #[vi a1, vi a2]] (L0) (a1) (a2)   0 2), true), (dS (Zd E_iiiiiiiA L0), true)]) (by kernel_rfl) (oN <| oN <| Zb (Zg (ZbT #[vs 0 0 L0.length L0.length, Value.agg #[vi a1, vi a2]] (L0) (a1) (a2)   N c0 0 2 rfl (by decide) (by decide))) <| oR Ze) rfl (by decide) (by rfl) rr ⟨(Zh (E := E_iiiiiiiA) (α := R_iiiiiiiA) _ L0 _), trivial⟩

theorem Zgk (L0 : List R_iiiiiiiA) (a1 a2 a3 : Int) (N : Nat) (r : Zj) (h : Zbv L0 a1 a2 a3 N = some r) : LSpec Tryz.prog 12 #[vs 0 0 L0.length L0.length, Value.agg #[vi a1, vi a2], vi a3] [.cells (Zd E_iiiiiiiA L0) 42] (Zie L0 a1 a2 a3 r) (Zh1 L0 a1 a2 a3 r) :=
 Mach.spec ZaC (Zr L0 a1 a2 a3 N) Tryz.func12 (by kernel_rfl) (by kernel_rfl) (fun x => by cases x <;> exact ZS _ rfl) (fun r => by cases r <;> exact ZS _ rfl) (fun x => by
  cases x with
  | h1m0 _ _ _ _ _ _ => exact fun _ => (show ¬ (1 ∈ Zx (ZbU 1).2) from by decide +kernel)
  | h1m1 _ _ _ _ _ _ _ _ _ _ => exact fun _ => (show ¬ (1 ∈ Zx (ZbU 1).2) from by decide +kernel)
  ) (fun x => (show (Zr L0 a1 a2 a3 N).Ok Tryz.prog Zw x (Za0 L0 a1 a2 a3 N x) from by
  cases x with
  | h1m0 v2 v3 v4 v5 v6 v7 => exact Zjd L0 a1 a2 a3 v2 v3 v4 v5 v6 v7 N
  | h1m1 v1 v2 v3 v4 v5 v6 v7 v8 v9 v10 => exact Zje L0 a1 a2 a3 v1 v2 v3 v4 v5 v6 v7 v8 v9 v10 N
  )) (Zl2 L0 a1 a2 a3 N) (n := N) h

noncomputable def ZaM (L0 : List R_iiiiiiiA) (a1 a2 a3 w1 : Int) (k0 n : Nat) : ZaD := .call [(k0, .cells (Zd E_iiiiiiiA L0) 42)] (Value.tuple #[vn, vi w1]) [] 0
def Za9 (A : Array Value) (L0 : List R_iiiiiiiA) (a1 a2 a3 w1 : Int) (k0 n : Nat) : Prop := ZF Tryz.prog 12 A [(k0, .cells (Zd E_iiiiiiiA L0) 42)] (Value.tuple #[vn, vi w1]) [] n 0

theorem ZaN (A : Array Value) (L0 : List R_iiiiiiiA) (a1 a2 a3 w1 : Int) (N : Nat) (h : Zbv L0 a1 a2 a3 N = some (.r0 w1)) (k0 n : Nat) (hA : A = #[vs k0 0 L0.length L0.length, Value.agg #[vi a1, vi a2], vi a3]) (hnd : ([k0] : List Nat).Nodup) (hlt : ∀ k ∈ ([k0] : List Nat), k < n) : Za9 A L0 a1 a2 a3 w1 k0 n :=
 ZU hA (LSpec.callL (show LSpec Tryz.prog 12 #[vs 0 0 L0.length L0.length, Value.agg #[vi a1, vi a2], vi a3] [.cells (Zd E_iiiiiiiA L0) 42] (Value.tuple #[vn, vi w1]) [some (.cells (Zd E_iiiiiiiA L0) 42)] from Zgk L0 a1 a2 a3 N _ h) [k0] n [] rfl hnd hlt (show 1 ≤ 1 from by decide) (show ∀ j ∈ ([] : List Nat), j < 1 from by decide) (by rfl) ⟨(Z6 _ _ _), trivial⟩ (by rfl) ⟨(Z6 _ _ _), trivial⟩ ⟨.inr rfl, trivial⟩ rfl rfl rfl (Za (ZE rfl (Zae _ _ _)) rfl) rfl)

noncomputable def ZaO (L0 : List R_iiiiiiiA) (a1 a2 a3 : Int) (w1 : List Int) (k0 n : Nat) : ZaD := .call [(k0, .cells (Zd E_iiiiiiiA L0) 42)] (Value.tuple #[vs n 0 w1.length w1.length, vq]) [(n, some (.cells (Zd eI w1) 3))] 1
def ZaA (A : Array Value) (L0 : List R_iiiiiiiA) (a1 a2 a3 : Int) (w1 : List Int) (k0 n : Nat) : Prop := ZF Tryz.prog 12 A [(k0, .cells (Zd E_iiiiiiiA L0) 42)] (Value.tuple #[vs n 0 w1.length w1.length, vq]) [(n, some (.cells (Zd eI w1) 3))] n 1

theorem ZaP (A : Array Value) (L0 : List R_iiiiiiiA) (a1 a2 a3 : Int) (w1 : List Int) (N : Nat) (h : Zbv L0 a1 a2 a3 N = some (.r1 w1)) (k0 n : Nat) (hA : A = #[vs k0 0 L0.length L0.length, Value.agg #[vi a1, vi a2], vi a3]) (hnd : ([k0] : List Nat).Nodup) (hlt : ∀ k ∈ ([k0] : List Nat), k < n) : ZaA A L0 a1 a2 a3 w1 k0 n :=
 ZU hA (LSpec.callL (show LSpec Tryz.prog 12 #[vs 0 0 L0.length L0.length, Value.agg #[vi a1, vi a2], vi a3] [.cells (Zd E_iiiiiiiA L0) 42] (Value.tuple #[vs 1 0 w1.length w1.length, vq]) [some (.cells (Zd E_iiiiiiiA L0) 42), some (.cells (Zd eI w1) 3)] from Zgk L0 a1 a2 a3 N _ h) [k0] n [1] rfl hnd hlt (show 1 ≤ 2 from by decide) (show ∀ j ∈ ([1] : List Nat), j < 2 from by decide) (by rfl) ⟨(Z6 _ _ _), trivial⟩ (by rfl) ⟨(Z6 _ _ _), ⟨(Z6 _ _ _), trivial⟩⟩ ⟨.inr rfl, ⟨(by decide), trivial⟩⟩ rfl rfl rfl (Za (ZE rfl (Zae _ _ _)) rfl) (Za (ZE rfl (ZbI (Zae _ _ _))) rfl))

noncomputable def Zja (L0 : List Int) : ZaF → Value
 | .r0 w1 => Value.bool w1
noncomputable def Zig (L0 : List Int) : ZaF → List (Option AObj)
 | .r0 w1 => [some (.cells (Zd eI L0) 3)]

def ZmK : Za3 → Nat
 | .h1m0 => 1
noncomputable def ZnD (L0 : List Int) : Za3 → List (Nat × Value)
 | .h1m0 => [(0, vn), (1, vs 0 0 L0.length L0.length), (5, vq)]
noncomputable def ZnE (L0 : List Int) : Za3 → List (Option AObj)
 | .h1m0 => [some (.cells (Zd eI L0) 3)]

noncomputable def Ze8 : Nat → Code × List Zaw
 | 1 => ZaQ [1, 1, 0, 1, 3] (Zb5 Tryz.f13) []
 | _ => (.skip, [])
def ZmL : Nat → Bool
 | 1 => true
 | _ => true
noncomputable def ZbM (L0 : List Int) (N : Nat) : Mach := ⟨Tryz.f13, [.cells (Zd eI L0) 3], Za3, ZaF, Zd1 L0 N, ZmK, Ze8, ZmL, ZnD L0, ZnE L0, Zja L0, Zig L0⟩

theorem Zkc (L0 : List Int) (N : Nat) : (ZbM L0 N).Ok Tryz.prog Zw (.h1m0 : Za3) (Zd1 L0 N (.h1m0 : Za3)) := by
 show (ZbM L0 N).Ok Tryz.prog Zw (.h1m0 : Za3) (Zer L0 N)
 unfold Zer
 exact Mach.ok_fin (M := ZbM L0 N) (cd := 1000000) (cm := 0) (r := (.r0 (true) : ZaF)) (fu := 4000) (orc := (Zi [] [] [] [] [])) (live := [0]) (u := vT) (bl := [some (.cells (Zd eI L0) 3)]) (ob := []) (fun gv => by kernel_rfl) Ze rfl (by decide) (by rfl) rr ⟨(Zh (E := eI) (α := Int) _ L0 _), trivial⟩

theorem Zml (L0 : List Int) (N : Nat) : (ZbM L0 N).Enter Tryz.prog Zw #[vn, vs 0 0 L0.length L0.length] (ZfF L0 N) := by
 unfold ZfF
 refine Mach.en_ite (fun g0 => ?_) (fun g0 => ?_)
 ·
  exact Mach.en_fin (M := ZbM L0 N) (cd := 1000000) (cm := 0) (r := (.r0 (false) : ZaF)) (fu := 4000) (orc := (Zi [(0, true)] [] [] [] [])) (live := [0]) (u := vf) (bl := [some (.cells (Zd eI L0) 3)]) (ob := [(((0 : Int) != (L0.length : Int)), true)]) (by kernel_rfl) (oD Ze) rfl (by decide) (by rfl) rr ⟨(Zh (E := eI) (α := Int) _ L0 _), trivial⟩
 ·
  exact Mach.en_head (bK := Ze8 1) (M := ZbM L0 N) (cd := 1000000) (cm := 0) (y := (.h1m0 : Za3)) (fu := 4000) (orc := (Zi [(0, false)] [] [] [] [])) (live := [0]) (tv := [some (vn), some (vs 0 0 L0.length L0.length), some (vq)]) (bl := [some (.cells (Zd eI L0) 3)]) (ob := [(((0 : Int) != (L0.length : Int)), false)]) rfl rfl (show Zx (Ze8 1).2 = [] from rfl) (by kernel_rfl) (oE Ze) rfl (by decide) (by rfl) ⟨rr, ⟨rr, ⟨rr, trivial⟩⟩⟩ ⟨(Zh (E := eI) (α := Int) _ L0 _), trivial⟩

theorem Zk4 (L0 : List Int) (N : Nat) (r : ZaF) (h : Zfz L0 N = some r) : LSpec Tryz.prog 13 #[vn, vs 0 0 L0.length L0.length] [.cells (Zd eI L0) 3] (Zja L0 r) (Zig L0 r) :=
 Mach.spec ZaC (ZbM L0 N) Tryz.func13 (by kernel_rfl) (by kernel_rfl) (fun x => by cases x <;> exact ZS _ rfl) (fun r => by cases r <;> exact ZS _ rfl) (fun x => by
  cases x with
  | h1m0 => exact fun _ => (show ¬ (1 ∈ Zx (Ze8 1).2) from by decide +kernel)
  ) (fun x => (show (ZbM L0 N).Ok Tryz.prog Zw x (Zd1 L0 N x) from by
  cases x with
  | h1m0 => exact Zkc L0 N
  )) (Zml L0 N) (n := N) h

noncomputable def Zcu (L0 : List Int) (w1 : Bool) (k0 n : Nat) : ZaD := .call [(k0, .cells (Zd eI L0) 3)] (Value.bool w1) [] 0
def ZbV (A : Array Value) (L0 : List Int) (w1 : Bool) (k0 n : Nat) : Prop := ZF Tryz.prog 13 A [(k0, .cells (Zd eI L0) 3)] (Value.bool w1) [] n 0

theorem Zcv (A : Array Value) (L0 : List Int) (w1 : Bool) (N : Nat) (h : Zfz L0 N = some (.r0 w1)) (k0 n : Nat) (hA : A = #[vn, vs k0 0 L0.length L0.length]) (hnd : ([k0] : List Nat).Nodup) (hlt : ∀ k ∈ ([k0] : List Nat), k < n) : ZbV A L0 w1 k0 n :=
 ZU hA (LSpec.callL (show LSpec Tryz.prog 13 #[vn, vs 0 0 L0.length L0.length] [.cells (Zd eI L0) 3] (Value.bool w1) [some (.cells (Zd eI L0) 3)] from Zk4 L0 N _ h) [k0] n [] rfl hnd hlt (show 1 ≤ 1 from by decide) (show ∀ j ∈ ([] : List Nat), j < 1 from by decide) (by rfl) ⟨(Z6 _ _ _), trivial⟩ (by rfl) ⟨(Z6 _ _ _), trivial⟩ ⟨.inr rfl, trivial⟩ rfl rfl rfl (Za (ZE rfl (Zae _ _ _)) rfl) rfl)

noncomputable def Zjb (L0 : List Int) : ZaG → Value
 | .r0 w1 => Value.bool w1
noncomputable def Zih (L0 : List Int) : ZaG → List (Option AObj)
 | .r0 w1 => [some (.cells (Zd eI L0) 3)]

def ZmM : Za4 → Nat
 | .h1m0 => 1
noncomputable def ZnF (L0 : List Int) : Za4 → List (Nat × Value)
 | .h1m0 => [(0, vs 0 0 L0.length L0.length), (1, vn), (5, vq)]
noncomputable def ZnG (L0 : List Int) : Za4 → List (Option AObj)
 | .h1m0 => [some (.cells (Zd eI L0) 3)]

noncomputable def Ze9 : Nat → Code × List Zaw
 | 1 => ZaQ [1, 1, 0, 1, 3] (Zb5 Tryz.f13) []
 | _ => (.skip, [])
def ZmN : Nat → Bool
 | 1 => true
 | _ => true
noncomputable def ZbN (L0 : List Int) (N : Nat) : Mach := ⟨Tryz.f13, [.cells (Zd eI L0) 3], Za4, ZaG, Zd2 L0 N, ZmM, Ze9, ZmN, ZnF L0, ZnG L0, Zjb L0, Zih L0⟩

theorem Zkd (L0 : List Int) (N : Nat) : (ZbN L0 N).Ok Tryz.prog Zw (.h1m0 : Za4) (Zd2 L0 N (.h1m0 : Za4)) := by
 show (ZbN L0 N).Ok Tryz.prog Zw (.h1m0 : Za4) (Zes L0 N)
 unfold Zes
 refine Mach.ok_ite (fun g0 => ?_) (fun g0 => ?_)
 ·
  exact Mach.ok_none
 ·
  exact Mach.ok_fin (M := ZbN L0 N) (cd := 1000000) (cm := 0) (r := (.r0 (true) : ZaG)) (fu := 4000) (orc := (Zi [(0, false)] [] [] [] [])) (live := [0]) (u := vT) (bl := [some (.cells (Zd eI L0) 3)]) (ob := [((decide ((0 : Int) < (L0.length : Int))), false)]) (fun gv => by kernel_rfl) (oN Ze) rfl (by decide) (by rfl) rr ⟨(Zh (E := eI) (α := Int) _ L0 _), trivial⟩

theorem Zmm (L0 : List Int) (N : Nat) : (ZbN L0 N).Enter Tryz.prog Zw #[vs 0 0 L0.length L0.length, vn] (ZfG L0 N) := by
 unfold ZfG
 refine Mach.en_ite (fun g0 => ?_) (fun g0 => ?_)
 ·
  exact Mach.en_fin (M := ZbN L0 N) (cd := 1000000) (cm := 0) (r := (.r0 (false) : ZaG)) (fu := 4000) (orc := (Zi [(0, true)] [] [] [] [])) (live := [0]) (u := vf) (bl := [some (.cells (Zd eI L0) 3)]) (ob := [(((L0.length : Int) != (0 : Int)), true)]) (by kernel_rfl) (oD Ze) rfl (by decide) (by rfl) rr ⟨(Zh (E := eI) (α := Int) _ L0 _), trivial⟩
 ·
  exact Mach.en_head (bK := Ze9 1) (M := ZbN L0 N) (cd := 1000000) (cm := 0) (y := (.h1m0 : Za4)) (fu := 4000) (orc := (Zi [(0, false)] [] [] [] [])) (live := [0]) (tv := [some (vs 0 0 L0.length L0.length), some (vn), some (vq)]) (bl := [some (.cells (Zd eI L0) 3)]) (ob := [(((L0.length : Int) != (0 : Int)), false)]) rfl rfl (show Zx (Ze9 1).2 = [] from rfl) (by kernel_rfl) (oE Ze) rfl (by decide) (by rfl) ⟨rr, ⟨rr, ⟨rr, trivial⟩⟩⟩ ⟨(Zh (E := eI) (α := Int) _ L0 _), trivial⟩

theorem Zk5 (L0 : List Int) (N : Nat) (r : ZaG) (h : Zf0 L0 N = some r) : LSpec Tryz.prog 13 #[vs 0 0 L0.length L0.length, vn] [.cells (Zd eI L0) 3] (Zjb L0 r) (Zih L0 r) :=
 Mach.spec ZaC (ZbN L0 N) Tryz.func13 (by kernel_rfl) (by kernel_rfl) (fun x => by cases x <;> exact ZS _ rfl) (fun r => by cases r <;> exact ZS _ rfl) (fun x => by
  cases x with
  | h1m0 => exact fun _ => (show ¬ (1 ∈ Zx (Ze9 1).2) from by decide +kernel)
  ) (fun x => (show (ZbN L0 N).Ok Tryz.prog Zw x (Zd2 L0 N x) from by
  cases x with
  | h1m0 => exact Zkd L0 N
  )) (Zmm L0 N) (n := N) h

noncomputable def Zcw (L0 : List Int) (w1 : Bool) (k0 n : Nat) : ZaD := .call [(k0, .cells (Zd eI L0) 3)] (Value.bool w1) [] 0
def ZbW (A : Array Value) (L0 : List Int) (w1 : Bool) (k0 n : Nat) : Prop := ZF Tryz.prog 13 A [(k0, .cells (Zd eI L0) 3)] (Value.bool w1) [] n 0

theorem Zcx (A : Array Value) (L0 : List Int) (w1 : Bool) (N : Nat) (h : Zf0 L0 N = some (.r0 w1)) (k0 n : Nat) (hA : A = #[vs k0 0 L0.length L0.length, vn]) (hnd : ([k0] : List Nat).Nodup) (hlt : ∀ k ∈ ([k0] : List Nat), k < n) : ZbW A L0 w1 k0 n :=
 ZU hA (LSpec.callL (show LSpec Tryz.prog 13 #[vs 0 0 L0.length L0.length, vn] [.cells (Zd eI L0) 3] (Value.bool w1) [some (.cells (Zd eI L0) 3)] from Zk5 L0 N _ h) [k0] n [] rfl hnd hlt (show 1 ≤ 1 from by decide) (show ∀ j ∈ ([] : List Nat), j < 1 from by decide) (by rfl) ⟨(Z6 _ _ _), trivial⟩ (by rfl) ⟨(Z6 _ _ _), trivial⟩ ⟨.inr rfl, trivial⟩ rfl rfl rfl (Za (ZE rfl (Zae _ _ _)) rfl) rfl)

noncomputable def Zjc (L0 L1 : List Int) : Zav → Value
 | .r0 w2 => Value.bool w2
noncomputable def Zii (L0 L1 : List Int) : Zav → List (Option AObj)
 | .r0 w2 => [some (.cells (Zd eI L0) 3), some (.cells (Zd eI L1) 3)]

def ZmO : Zap → Nat
 | .h1m0 v2 => 1
noncomputable def ZnH (L0 L1 : List Int) : Zap → List (Nat × Value)
 | .h1m0 v2 => [(0, vs 0 0 L0.length L0.length), (1, vs 1 0 L1.length L1.length), (5, vi (v2 : Int))]
noncomputable def ZnI (L0 L1 : List Int) : Zap → List (Option AObj)
 | .h1m0 v2 => [some (.cells (Zd eI L0) 3), some (.cells (Zd eI L1) 3)]

noncomputable def ZcD : Nat → Code × List Zaw
 | 1 => ZaQ [1, 1, 0, 1, 3] (Zb5 Tryz.f13) []
 | _ => (.skip, [])
def Zij : Nat → Bool
 | 1 => true
 | _ => true
noncomputable def ZnJ (i : Nat) : List Zaw := match Zij i with | true => .rnd i :: (ZcD i).2 | false => (ZcD i).2

noncomputable def Zbm (L0 L1 : List Int) (N : Nat) : Mach := ⟨Tryz.f13, [.cells (Zd eI L0) 3, .cells (Zd eI L1) 3], Zap, Zav, Zc4 L0 L1 N, ZmO, ZcD, Zij, ZnH L0 L1, ZnI L0 L1, Zjc L0 L1, Zii L0 L1⟩

theorem Zke (L0 L1 : List Int) (v2 N : Nat) : (Zbm L0 L1 N).Ok Tryz.prog Zw (.h1m0 v2 : Zap) (Zc4 L0 L1 N (.h1m0 v2 : Zap)) := by
 show (Zbm L0 L1 N).Ok Tryz.prog Zw (.h1m0 v2 : Zap) (Zbq L0 L1 N v2)
 unfold Zbq
 refine Mach.ok_ite (fun g0 => ?_) (fun g0 => ?_)
 ·
  refine Mach.ok_ite (fun g1 => ?_) (fun g1 => ?_)
  ·
   refine Mach.ok_ite (fun g2 => ?_) (fun g2 => ?_)
   ·
    exact Mach.ok_fin (M := Zbm L0 L1 N) (cd := 1000000) (cm := 0) (r := (.r0 (false) : Zav)) (fu := 4000) (orc := (Zi [(0, true), (1, true)] [] [(0, v2), (1, v2)] [(0, [.i (L0.getD v2 0)]), (1, [.i (L1.getD v2 0)])] [])) (live := [0, 1]) (u := vf) (bl := [some (.cells (Zd eI L0) 3), some (.cells (Zd eI L1) 3)]) (ob := [(((L0.getD v2 0) != (L1.getD v2 0)), true), (ZC (Zs 1 (List.drop (0 + (v2 * 1)) (Zd eI L1))) [.i (L1.getD v2 0)], true), (Nat.blt v2 L1.length, true), ((v2 : Int) == Int.ofNat v2, true), (ZC (Zs 1 (List.drop (0 + (v2 * 1)) (Zd eI L0))) [.i (L0.getD v2 0)], true), (Nat.blt v2 L0.length, true), ((v2 : Int) == Int.ofNat v2, true), ((decide ((v2 : Int) < (L0.length : Int))), true)]) (fun gv => by kernel_rfl) (oD <| Zb (Zq (E := eI) (L := L1) (i := v2) (q := 0) (by omega) (show (0 + (v2 * 1)) = v2 * 1 + 0 from by omega) (show 0 + 1 ≤ 1 from by decide) rfl rfl) <| oB <| oI <| Zb (Zq (E := eI) (L := L0) (i := v2) (q := 0) (by omega) (show (0 + (v2 * 1)) = v2 * 1 + 0 from by omega) (show 0 + 1 ≤ 1 from by decide) rfl rfl) <| oB <| oI <| oY Ze) rfl (by decide) (by rfl) rr ⟨(Zh (E := eI) (α := Int) _ L0 _), ⟨(Zh (E := eI) (α := Int) _ L1 _), trivial⟩⟩
   ·
    refine Mach.ok_ite (fun g3 => ?_) (fun g3 => ?_)
    ·
     exact Mach.ok_next (M := Zbm L0 L1 N) (cd := 1000000) (cm := 0) (y := (.h1m0 ((v2 + 1)) : Zap)) (fu := 4000) (orc := (Zi [(0, true), (1, false)] [(0, (((v2 + 1) : Nat) : Int))] [(0, v2), (1, v2)] [(0, [.i (L0.getD v2 0)]), (1, [.i (L1.getD v2 0)])] [])) (live := [0, 1]) (tv := fun _ => [some (vs 0 0 L0.length L0.length), some (vs 1 0 L1.length L1.length), some (vi (((v2 + 1) : Nat) : Int))]) (bl := [some (.cells (Zd eI L0) 3), some (.cells (Zd eI L1) 3)]) (ob := [((IntKind.i64.wrap ((v2 : Int) + (1 : Int))) == (((v2 + 1) : Nat) : Int), true), (((L0.getD v2 0) != (L1.getD v2 0)), false), (ZC (Zs 1 (List.drop (0 + (v2 * 1)) (Zd eI L1))) [.i (L1.getD v2 0)], true), (Nat.blt v2 L1.length, true), ((v2 : Int) == Int.ofNat v2, true), (ZC (Zs 1 (List.drop (0 + (v2 * 1)) (Zd eI L0))) [.i (L0.getD v2 0)], true), (Nat.blt v2 L0.length, true), ((v2 : Int) == Int.ofNat v2, true), ((decide ((v2 : Int) < (L0.length : Int))), true)]) rfl (show 1 ∈ Zx (ZnJ 1) from by decide +kernel) (fun gv => by kernel_rfl) (Zb (beq_iff_eq.2 ((wrap_i64 ltA).trans (by first | rfl | omega))) <| oE <| Zb (Zq (E := eI) (L := L1) (i := v2) (q := 0) (by omega) (show (0 + (v2 * 1)) = v2 * 1 + 0 from by omega) (show 0 + 1 ≤ 1 from by decide) rfl rfl) <| oB <| oI <| Zb (Zq (E := eI) (L := L0) (i := v2) (q := 0) (by omega) (show (0 + (v2 * 1)) = v2 * 1 + 0 from by omega) (show 0 + 1 ≤ 1 from by decide) rfl rfl) <| oB <| oI <| oY Ze) rfl (by decide) (by rfl) (fun _ => ⟨rr, ⟨rr, ⟨rr, trivial⟩⟩⟩) ⟨(Zh (E := eI) (α := Int) _ L0 _), ⟨(Zh (E := eI) (α := Int) _ L1 _), trivial⟩⟩
    ·
     exact Mach.ok_none
  ·
   exact Mach.ok_none
 ·
  exact Mach.ok_fin (M := Zbm L0 L1 N) (cd := 1000000) (cm := 0) (r := (.r0 (true) : Zav)) (fu := 4000) (orc := (Zi [(0, false)] [] [] [] [])) (live := [0, 1]) (u := vT) (bl := [some (.cells (Zd eI L0) 3), some (.cells (Zd eI L1) 3)]) (ob := [((decide ((v2 : Int) < (L0.length : Int))), false)]) (fun gv => by kernel_rfl) (oN Ze) rfl (by decide) (by rfl) rr ⟨(Zh (E := eI) (α := Int) _ L0 _), ⟨(Zh (E := eI) (α := Int) _ L1 _), trivial⟩⟩

theorem Zmn (L0 L1 : List Int) (N : Nat) : (Zbm L0 L1 N).Enter Tryz.prog Zw #[vs 0 0 L0.length L0.length, vs 1 0 L1.length L1.length] (Zei L0 L1 N) := by
 unfold Zei
 refine Mach.en_ite (fun g0 => ?_) (fun g0 => ?_)
 ·
  exact Mach.en_fin (M := Zbm L0 L1 N) (cd := 1000000) (cm := 0) (r := (.r0 (false) : Zav)) (fu := 4000) (orc := (Zi [(0, true)] [] [] [] [])) (live := [0, 1]) (u := vf) (bl := [some (.cells (Zd eI L0) 3), some (.cells (Zd eI L1) 3)]) (ob := [(((L0.length : Int) != (L1.length : Int)), true)]) (by kernel_rfl) (oD Ze) rfl (by decide) (by rfl) rr ⟨(Zh (E := eI) (α := Int) _ L0 _), ⟨(Zh (E := eI) (α := Int) _ L1 _), trivial⟩⟩
 ·
  exact Mach.en_head (bK := ZcD 1) (M := Zbm L0 L1 N) (cd := 1000000) (cm := 0) (y := (.h1m0 (0) : Zap)) (fu := 4000) (orc := (Zi [(0, false)] [] [] [] [])) (live := [0, 1]) (tv := [some (vs 0 0 L0.length L0.length), some (vs 1 0 L1.length L1.length), some (vq)]) (bl := [some (.cells (Zd eI L0) 3), some (.cells (Zd eI L1) 3)]) (ob := [(((L0.length : Int) != (L1.length : Int)), false)]) rfl rfl (show Zx (ZcD 1).2 = [] from rfl) (by kernel_rfl) (oE Ze) rfl (by decide) (by rfl) ⟨rr, ⟨rr, ⟨⟨Eq.trans (show (vi ((0 : Nat) : Int) : Value) = vq from (congrArg (Value.int .i64) (by first | rfl | omega))) (by rfl), by rfl⟩, trivial⟩⟩⟩ ⟨(Zh (E := eI) (α := Int) _ L0 _), ⟨(Zh (E := eI) (α := Int) _ L1 _), trivial⟩⟩

theorem Zk6 (L0 L1 : List Int) (N : Nat) (r : Zav) (h : ZdO L0 L1 N = some r) : LSpec Tryz.prog 13 #[vs 0 0 L0.length L0.length, vs 1 0 L1.length L1.length] [.cells (Zd eI L0) 3, .cells (Zd eI L1) 3] (Zjc L0 L1 r) (Zii L0 L1 r) :=
 Mach.spec ZaC (Zbm L0 L1 N) Tryz.func13 (by kernel_rfl) (by kernel_rfl) (fun x => by cases x <;> exact ZS _ rfl) (fun r => by cases r <;> exact ZS _ rfl) (fun x => by
  cases x with
  | h1m0 _ => exact fun _ => (show ¬ (1 ∈ Zx (ZcD 1).2) from by decide +kernel)
  ) (fun x => (show (Zbm L0 L1 N).Ok Tryz.prog Zw x (Zc4 L0 L1 N x) from by
  cases x with
  | h1m0 v2 => exact Zke L0 L1 v2 N
  )) (Zmn L0 L1 N) (n := N) h

noncomputable def Zep (L0 L1 : List Int) (w2 : Bool) (k0 k1 n : Nat) : ZaD := .call [(k0, .cells (Zd eI L0) 3), (k1, .cells (Zd eI L1) 3)] (Value.bool w2) [] 0
def Zdp (A : Array Value) (L0 L1 : List Int) (w2 : Bool) (k0 k1 n : Nat) : Prop := ZF Tryz.prog 13 A [(k0, .cells (Zd eI L0) 3), (k1, .cells (Zd eI L1) 3)] (Value.bool w2) [] n 0

theorem Zeq (A : Array Value) (L0 L1 : List Int) (w2 : Bool) (N : Nat) (h : ZdO L0 L1 N = some (.r0 w2)) (k0 k1 n : Nat) (hA : A = #[vs k0 0 L0.length L0.length, vs k1 0 L1.length L1.length]) (hnd : ([k0, k1] : List Nat).Nodup) (hlt : ∀ k ∈ ([k0, k1] : List Nat), k < n) : Zdp A L0 L1 w2 k0 k1 n :=
 ZU hA (LSpec.callL (show LSpec Tryz.prog 13 #[vs 0 0 L0.length L0.length, vs 1 0 L1.length L1.length] [.cells (Zd eI L0) 3, .cells (Zd eI L1) 3] (Value.bool w2) [some (.cells (Zd eI L0) 3), some (.cells (Zd eI L1) 3)] from Zk6 L0 L1 N _ h) [k0, k1] n [] rfl hnd hlt (show 2 ≤ 2 from by decide) (show ∀ j ∈ ([] : List Nat), j < 2 from by decide) (by rfl) ⟨(Z6 _ _ _), ⟨(Z6 _ _ _), trivial⟩⟩ (by rfl) ⟨(Z6 _ _ _), ⟨(Z6 _ _ _), trivial⟩⟩ ⟨.inr rfl, ⟨.inr rfl, trivial⟩⟩ rfl rfl rfl (Za (ZE rfl (Zae _ _ _)) (Za (ZE rfl (Zae _ _ _)) rfl)) rfl)

noncomputable def Zhl (L0 : List R_iiiiiiiA) (a1 a2 a3 : Int) : Zl → Value
 | .r0 w0 => Value.bool w0
noncomputable def Zgy (L0 : List R_iiiiiiiA) (a1 a2 a3 : Int) : Zl → List (Option AObj)
 | .r0 w0 => []

def Zk7 : law32_FifoItemsX → Nat
 | .h1m0 => 1
 | .h1m1 v2 v3 => 1
noncomputable def Zl3 (L0 : List R_iiiiiiiA) (a1 a2 a3 : Int) : law32_FifoItemsX → List (Nat × Value)
 | .h1m0 => [(0, ms E_iiiiiiiA L0), (2, vi a3), (4, vp 0 0), (7, vn), (8, vq)]
 | .h1m1 v2 v3 => [(0, ms E_iiiiiiiA L0), (2, vi a3), (4, vp 0 0), (7, vs 1 0 v2.length v2.length), (8, vi (v3 : Int))]
noncomputable def Zl4 (L0 : List R_iiiiiiiA) (a1 a2 a3 : Int) : law32_FifoItemsX → List (Option AObj)
 | .h1m0 => [some (.cells [vi a1, vi a2] 36)]
 | .h1m1 v2 v3 => [some (.cells [vi a1, vi a2] 36), some (.cells (Zd E_iiiiiiiA v2) 42)]

noncomputable def Zb1 : Nat → Code × List Zaw
 | 1 => ZaQ [1, 1, 0, 1, 3] (Zb5 Tryz.f4) []
 | _ => (.skip, [])
def Zgz : Nat → Bool
 | 1 => true
 | _ => true
noncomputable def Zd5 (i : Nat) : List Zaw := match Zgz i with | true => .rnd i :: (Zb1 i).2 | false => (Zb1 i).2

noncomputable def Zu (L0 : List R_iiiiiiiA) (a1 a2 a3 : Int) (N : Nat) : Mach := ⟨Tryz.f4, [], law32_FifoItemsX, Zl, Zam L0 a1 a2 a3 N, Zk7, Zb1, Zgz, Zl3 L0 a1 a2 a3, Zl4 L0 a1 a2 a3, Zhl L0 a1 a2 a3, Zgy L0 a1 a2 a3⟩

theorem Zik (L0 : List R_iiiiiiiA) (a1 a2 a3 : Int) (N : Nat) : (Zu L0 a1 a2 a3 N).Ok Tryz.prog Zw (.h1m0 : law32_FifoItemsX) (Zam L0 a1 a2 a3 N (.h1m0 : law32_FifoItemsX)) := by
 show (Zu L0 a1 a2 a3 N).Ok Tryz.prog Zw (.h1m0 : law32_FifoItemsX) (Zar L0 a1 a2 a3 N)
 unfold Zar
 refine Mach.ok_ite (fun g0 => ?_) (fun g0 => ?_)
 ·
  refine Mach.ok_ite (fun g1 => ?_) (fun g1 => ?_)
  ·
   exact Mach.ok_next (M := Zu L0 a1 a2 a3 N) (cd := 1000000) (cm := 0) (y := (.h1m1 (([(⟨(L0.getD 0 R_iiiiiiiA.z).a0, (L0.getD 0 R_iiiiiiiA.z).a1, (L0.getD 0 R_iiiiiiiA.z).a2, (L0.getD 0 R_iiiiiiiA.z).a3, (L0.getD 0 R_iiiiiiiA.z).a4, (L0.getD 0 R_iiiiiiiA.z).a5, (L0.getD 0 R_iiiiiiiA.z).a6, ((L0.getD 0 R_iiiiiiiA.z).a7.take 16)⟩ : R_iiiiiiiA)] : List R_iiiiiiiA)) (1) : law32_FifoItemsX)) (fu := 4000) (orc := (Zi [(0, true), (2, true)] [] [(0, 0)] [(0, [.i (L0.getD 0 R_iiiiiiiA.z).a0, .i (L0.getD 0 R_iiiiiiiA.z).a1, .i (L0.getD 0 R_iiiiiiiA.z).a2, .i (L0.getD 0 R_iiiiiiiA.z).a3, .i (L0.getD 0 R_iiiiiiiA.z).a4, .i (L0.getD 0 R_iiiiiiiA.z).a5, .i (L0.getD 0 R_iiiiiiiA.z).a6, (mc E_ii (L0.getD 0 R_iiiiiiiA.z).a7)])] [(1, .ms 0 16 ((L0.getD 0 R_iiiiiiiA.z).a7.take 16).length (ZG E_ii ((L0.getD 0 R_iiiiiiiA.z).a7.take 16)))])) (live := [0, 3]) (tv := fun _ => [some (ms E_iiiiiiiA L0), some (vi a3), some (vp 0 0), some (vs 3 0 1 1), some (vi (1 : Int))]) (bl := [some (.cells [vi a1, vi a2] 36), some (.cells [vi (L0.getD 0 R_iiiiiiiA.z).a0, vi (L0.getD 0 R_iiiiiiiA.z).a1, vi (L0.getD 0 R_iiiiiiiA.z).a2, vi (L0.getD 0 R_iiiiiiiA.z).a3, vi (L0.getD 0 R_iiiiiiiA.z).a4, vi (L0.getD 0 R_iiiiiiiA.z).a5, vi (L0.getD 0 R_iiiiiiiA.z).a6, ms E_ii ((L0.getD 0 R_iiiiiiiA.z).a7.take 16)] 42)]) (ob := [(dP (0 ≤ 16 ∧ 16 ≤ (L0.getD 0 R_iiiiiiiA.z).a7.length ∧ ZN (code (ZG E_ii (L0.getD 0 R_iiiiiiiA.z).a7)) (0 + 0 * 2) (ZG E_ii ((L0.getD 0 R_iiiiiiiA.z).a7.take 16)).length = some (ZG E_ii ((L0.getD 0 R_iiiiiiiA.z).a7.take 16)) ∧ (16 - 0) * 2 = (ZG E_ii ((L0.getD 0 R_iiiiiiiA.z).a7.take 16)).length ∧ ((L0.getD 0 R_iiiiiiiA.z).a7.take 16).length = 16 - 0), true), ((16 : Int) == Int.ofNat 16, true), (dS 0, true), ((decide ((((L0.getD 0 R_iiiiiiiA.z).a7.length : Nat) : Int) > (16 : Int))), true), (dP (ZN (code (ZG E_iiiiiiiA L0)) (0 + (0 * 8)) 8 = some [.i (L0.getD 0 R_iiiiiiiA.z).a0, .i (L0.getD 0 R_iiiiiiiA.z).a1, .i (L0.getD 0 R_iiiiiiiA.z).a2, .i (L0.getD 0 R_iiiiiiiA.z).a3, .i (L0.getD 0 R_iiiiiiiA.z).a4, .i (L0.getD 0 R_iiiiiiiA.z).a5, .i (L0.getD 0 R_iiiiiiiA.z).a6, (mc E_ii (L0.getD 0 R_iiiiiiiA.z).a7)]), true), (Nat.blt 0 L0.length, true), ((0 : Int) == Int.ofNat 0, true), ((decide ((0 : Int) < (L0.length : Int))), true)]) rfl (show 1 ∈ Zx (Zd5 1) from by decide +kernel) (fun gv => by kernel_rfl) (Zb (Zg (Zst (E := E_ii) (L := (L0.getD 0 R_iiiiiiiA.z).a7) (R := ((L0.getD 0 R_iiiiiiiA.z).a7.take 16)) (l := 0) (h := 16) (size := 2) ltA ltA (by decide) (by simp))) <| oI <| oR <| oY <| Zb (Zg (ZA (E := E_iiiiiiiA) (L := L0) (i := 0) (q := 0) (by omega) (show (0 + (0 * 8)) = 0 * 8 + 0 from by omega) (show 0 + 8 ≤ 8 from by decide) rfl)) <| oB <| oI <| oY Ze) rfl (by decide) (by rfl) (fun _ => ⟨rr, ⟨rr, ⟨rr, ⟨⟨Eq.trans (show (vs 1 0 ([(⟨(L0.getD 0 R_iiiiiiiA.z).a0, (L0.getD 0 R_iiiiiiiA.z).a1, (L0.getD 0 R_iiiiiiiA.z).a2, (L0.getD 0 R_iiiiiiiA.z).a3, (L0.getD 0 R_iiiiiiiA.z).a4, (L0.getD 0 R_iiiiiiiA.z).a5, (L0.getD 0 R_iiiiiiiA.z).a6, ((L0.getD 0 R_iiiiiiiA.z).a7.take 16)⟩ : R_iiiiiiiA)] : List R_iiiiiiiA).length ([(⟨(L0.getD 0 R_iiiiiiiA.z).a0, (L0.getD 0 R_iiiiiiiA.z).a1, (L0.getD 0 R_iiiiiiiA.z).a2, (L0.getD 0 R_iiiiiiiA.z).a3, (L0.getD 0 R_iiiiiiiA.z).a4, (L0.getD 0 R_iiiiiiiA.z).a5, (L0.getD 0 R_iiiiiiiA.z).a6, ((L0.getD 0 R_iiiiiiiA.z).a7.take 16)⟩ : R_iiiiiiiA)] : List R_iiiiiiiA).length : Value) = vs 1 0 1 1 from (Zbe rfl eqA eqA)) (by rfl), by rfl⟩, ⟨⟨Eq.trans (show (vi ((1 : Nat) : Int) : Value) = vi (1 : Int) from (congrArg (Value.int .i64) (by first | rfl | omega))) (by rfl), by rfl⟩, trivial⟩⟩⟩⟩⟩) ⟨⟨rfl, ⟨[], by rfl⟩, by rfl⟩, ⟨(ZcL (E := E_iiiiiiiA) _ (L := ([(⟨(L0.getD 0 R_iiiiiiiA.z).a0, (L0.getD 0 R_iiiiiiiA.z).a1, (L0.getD 0 R_iiiiiiiA.z).a2, (L0.getD 0 R_iiiiiiiA.z).a3, (L0.getD 0 R_iiiiiiiA.z).a4, (L0.getD 0 R_iiiiiiiA.z).a5, (L0.getD 0 R_iiiiiiiA.z).a6, ((L0.getD 0 R_iiiiiiiA.z).a7.take 16)⟩ : R_iiiiiiiA)] : List R_iiiiiiiA)) _ (show ([vi (L0.getD 0 R_iiiiiiiA.z).a0, vi (L0.getD 0 R_iiiiiiiA.z).a1, vi (L0.getD 0 R_iiiiiiiA.z).a2, vi (L0.getD 0 R_iiiiiiiA.z).a3, vi (L0.getD 0 R_iiiiiiiA.z).a4, vi (L0.getD 0 R_iiiiiiiA.z).a5, vi (L0.getD 0 R_iiiiiiiA.z).a6, ms E_ii ((L0.getD 0 R_iiiiiiiA.z).a7.take 16)] : List Value) = Zd E_iiiiiiiA ([(⟨(L0.getD 0 R_iiiiiiiA.z).a0, (L0.getD 0 R_iiiiiiiA.z).a1, (L0.getD 0 R_iiiiiiiA.z).a2, (L0.getD 0 R_iiiiiiiA.z).a3, (L0.getD 0 R_iiiiiiiA.z).a4, (L0.getD 0 R_iiiiiiiA.z).a5, (L0.getD 0 R_iiiiiiiA.z).a6, ((L0.getD 0 R_iiiiiiiA.z).a7.take 16)⟩ : R_iiiiiiiA)] : List R_iiiiiiiA) from rfl)), trivial⟩⟩
  ·
   exact Mach.ok_next (M := Zu L0 a1 a2 a3 N) (cd := 1000000) (cm := 0) (y := (.h1m1 (([(⟨(L0.getD 0 R_iiiiiiiA.z).a0, (L0.getD 0 R_iiiiiiiA.z).a1, (L0.getD 0 R_iiiiiiiA.z).a2, (L0.getD 0 R_iiiiiiiA.z).a3, (L0.getD 0 R_iiiiiiiA.z).a4, (L0.getD 0 R_iiiiiiiA.z).a5, (L0.getD 0 R_iiiiiiiA.z).a6, (L0.getD 0 R_iiiiiiiA.z).a7⟩ : R_iiiiiiiA)] : List R_iiiiiiiA)) (1) : law32_FifoItemsX)) (fu := 4000) (orc := (Zi [(0, true), (2, false)] [] [(0, 0)] [(0, [.i (L0.getD 0 R_iiiiiiiA.z).a0, .i (L0.getD 0 R_iiiiiiiA.z).a1, .i (L0.getD 0 R_iiiiiiiA.z).a2, .i (L0.getD 0 R_iiiiiiiA.z).a3, .i (L0.getD 0 R_iiiiiiiA.z).a4, .i (L0.getD 0 R_iiiiiiiA.z).a5, .i (L0.getD 0 R_iiiiiiiA.z).a6, (mc E_ii (L0.getD 0 R_iiiiiiiA.z).a7)])] [])) (live := [0, 3]) (tv := fun _ => [some (ms E_iiiiiiiA L0), some (vi a3), some (vp 0 0), some (vs 3 0 1 1), some (vi (1 : Int))]) (bl := [some (.cells [vi a1, vi a2] 36), some (.cells [vi (L0.getD 0 R_iiiiiiiA.z).a0, vi (L0.getD 0 R_iiiiiiiA.z).a1, vi (L0.getD 0 R_iiiiiiiA.z).a2, vi (L0.getD 0 R_iiiiiiiA.z).a3, vi (L0.getD 0 R_iiiiiiiA.z).a4, vi (L0.getD 0 R_iiiiiiiA.z).a5, vi (L0.getD 0 R_iiiiiiiA.z).a6, ms E_ii (L0.getD 0 R_iiiiiiiA.z).a7] 42)]) (ob := [((decide ((((L0.getD 0 R_iiiiiiiA.z).a7.length : Nat) : Int) > (16 : Int))), false), (dP (ZN (code (ZG E_iiiiiiiA L0)) (0 + (0 * 8)) 8 = some [.i (L0.getD 0 R_iiiiiiiA.z).a0, .i (L0.getD 0 R_iiiiiiiA.z).a1, .i (L0.getD 0 R_iiiiiiiA.z).a2, .i (L0.getD 0 R_iiiiiiiA.z).a3, .i (L0.getD 0 R_iiiiiiiA.z).a4, .i (L0.getD 0 R_iiiiiiiA.z).a5, .i (L0.getD 0 R_iiiiiiiA.z).a6, (mc E_ii (L0.getD 0 R_iiiiiiiA.z).a7)]), true), (Nat.blt 0 L0.length, true), ((0 : Int) == Int.ofNat 0, true), ((decide ((0 : Int) < (L0.length : Int))), true)]) rfl (show 1 ∈ Zx (Zd5 1) from by decide +kernel) (fun gv => by kernel_rfl) (oN <| Zb (Zg (ZA (E := E_iiiiiiiA) (L := L0) (i := 0) (q := 0) (by omega) (show (0 + (0 * 8)) = 0 * 8 + 0 from by omega) (show 0 + 8 ≤ 8 from by decide) rfl)) <| oB <| oI <| oY Ze) rfl (by decide) (by rfl) (fun _ => ⟨rr, ⟨rr, ⟨rr, ⟨⟨Eq.trans (show (vs 1 0 ([(⟨(L0.getD 0 R_iiiiiiiA.z).a0, (L0.getD 0 R_iiiiiiiA.z).a1, (L0.getD 0 R_iiiiiiiA.z).a2, (L0.getD 0 R_iiiiiiiA.z).a3, (L0.getD 0 R_iiiiiiiA.z).a4, (L0.getD 0 R_iiiiiiiA.z).a5, (L0.getD 0 R_iiiiiiiA.z).a6, (L0.getD 0 R_iiiiiiiA.z).a7⟩ : R_iiiiiiiA)] : List R_iiiiiiiA).length ([(⟨(L0.getD 0 R_iiiiiiiA.z).a0, (L0.getD 0 R_iiiiiiiA.z).a1, (L0.getD 0 R_iiiiiiiA.z).a2, (L0.getD 0 R_iiiiiiiA.z).a3, (L0.getD 0 R_iiiiiiiA.z).a4, (L0.getD 0 R_iiiiiiiA.z).a5, (L0.getD 0 R_iiiiiiiA.z).a6, (L0.getD 0 R_iiiiiiiA.z).a7⟩ : R_iiiiiiiA)] : List R_iiiiiiiA).length : Value) = vs 1 0 1 1 from (Zbe rfl eqA eqA)) (by rfl), by rfl⟩, ⟨⟨Eq.trans (show (vi ((1 : Nat) : Int) : Value) = vi (1 : Int) from (congrArg (Value.int .i64) (by first | rfl | omega))) (by rfl), by rfl⟩, trivial⟩⟩⟩⟩⟩) ⟨⟨rfl, ⟨[], by rfl⟩, by rfl⟩, ⟨(ZcL (E := E_iiiiiiiA) _ (L := ([(⟨(L0.getD 0 R_iiiiiiiA.z).a0, (L0.getD 0 R_iiiiiiiA.z).a1, (L0.getD 0 R_iiiiiiiA.z).a2, (L0.getD 0 R_iiiiiiiA.z).a3, (L0.getD 0 R_iiiiiiiA.z).a4, (L0.getD 0 R_iiiiiiiA.z).a5, (L0.getD 0 R_iiiiiiiA.z).a6, (L0.getD 0 R_iiiiiiiA.z).a7⟩ : R_iiiiiiiA)] : List R_iiiiiiiA)) _ (show ([vi (L0.getD 0 R_iiiiiiiA.z).a0, vi (L0.getD 0 R_iiiiiiiA.z).a1, vi (L0.getD 0 R_iiiiiiiA.z).a2, vi (L0.getD 0 R_iiiiiiiA.z).a3, vi (L0.getD 0 R_iiiiiiiA.z).a4, vi (L0.getD 0 R_iiiiiiiA.z).a5, vi (L0.getD 0 R_iiiiiiiA.z).a6, ms E_ii (L0.getD 0 R_iiiiiiiA.z).a7] : List Value) = Zd E_iiiiiiiA ([(⟨(L0.getD 0 R_iiiiiiiA.z).a0, (L0.getD 0 R_iiiiiiiA.z).a1, (L0.getD 0 R_iiiiiiiA.z).a2, (L0.getD 0 R_iiiiiiiA.z).a3, (L0.getD 0 R_iiiiiiiA.z).a4, (L0.getD 0 R_iiiiiiiA.z).a5, (L0.getD 0 R_iiiiiiiA.z).a6, (L0.getD 0 R_iiiiiiiA.z).a7⟩ : R_iiiiiiiA)] : List R_iiiiiiiA) from rfl)), trivial⟩⟩
 ·
  refine Mach.ok_bind (fun z1 c1 => ?_)
  cases z1 with
  | r0 =>
   refine Mach.ok_bind (fun z2 c2 => ?_)
   cases z2 with
   | r0 =>
    refine Mach.ok_bind (fun z3 c3 => ?_)
    cases z3 with
    | r0 =>
     refine Mach.ok_bind (fun z4 c4 => ?_)
     cases z4 with
     | r0 =>
      exact Mach.ok_fin (M := Zu L0 a1 a2 a3 N) (cd := 1000000) (cm := 0) (r := (.r0 (true) : Zl)) (fu := 4000) (orc := (Zi [(0, false)] [] [] [] [(0, (ZoT (a1) (a2) (a3)    1)), (1, (Znv (a1) (a2) (a3)    1)), (2, (ZdP     1)), (3, (Zby     1))])) (live := []) (u := vT) (bl := []) (ob := [(dP (Zbk #[]     1), true), (dP (Zdk #[vn, vn]     1), true), (dP (ZiG #[vn, Value.agg #[vi a1, vi a2], vi a3] (a1) (a2) (a3)    1), true), (dP (ZjC #[vn, Value.agg #[vi a1, vi a2], vi a3] (a1) (a2) (a3)    1), true), ((decide ((0 : Int) < (L0.length : Int))), false)]) (fun gv => by kernel_rfl) (Zb (Zg (Zbz #[]    N c4  1 rfl (by decide) (by decide))) <| Zb (Zg (ZdQ #[vn, vn]    N c3  1 rfl (by decide) (by decide))) <| Zb (Zg (Znw #[vn, Value.agg #[vi a1, vi a2], vi a3] (a1) (a2) (a3)   N c2  1 rfl (by decide) (by decide))) <| Zb (Zg (ZoU #[vn, Value.agg #[vi a1, vi a2], vi a3] (a1) (a2) (a3)   N c1  1 rfl (by decide) (by decide))) <| oN Ze) rfl (by decide) (by rfl) rr trivial

theorem Zil (L0 : List R_iiiiiiiA) (a1 a2 a3 : Int) (v2 : List R_iiiiiiiA) (v3 N : Nat) : (Zu L0 a1 a2 a3 N).Ok Tryz.prog Zw (.h1m1 v2 v3 : law32_FifoItemsX) (Zam L0 a1 a2 a3 N (.h1m1 v2 v3 : law32_FifoItemsX)) := by
 show (Zu L0 a1 a2 a3 N).Ok Tryz.prog Zw (.h1m1 v2 v3 : law32_FifoItemsX) (ZZ L0 a1 a2 a3 N v2 v3)
 unfold ZZ
 refine Mach.ok_ite (fun g0 => ?_) (fun g0 => ?_)
 ·
  refine Mach.ok_ite (fun g1 => ?_) (fun g1 => ?_)
  ·
   refine Mach.ok_ite (fun g2 => ?_) (fun g2 => ?_)
   ·
    refine Mach.ok_ite (fun g3 => ?_) (fun g3 => ?_)
    ·
     exact Mach.ok_next (M := Zu L0 a1 a2 a3 N) (cd := 1000000) (cm := 0) (y := (.h1m1 ((v2 ++ ([(⟨(L0.getD v3 R_iiiiiiiA.z).a0, (L0.getD v3 R_iiiiiiiA.z).a1, (L0.getD v3 R_iiiiiiiA.z).a2, (L0.getD v3 R_iiiiiiiA.z).a3, (L0.getD v3 R_iiiiiiiA.z).a4, (L0.getD v3 R_iiiiiiiA.z).a5, (L0.getD v3 R_iiiiiiiA.z).a6, ((L0.getD v3 R_iiiiiiiA.z).a7.take 16)⟩ : R_iiiiiiiA)] : List R_iiiiiiiA))) ((v3 + 1)) : law32_FifoItemsX)) (fu := 4000) (orc := (Zi [(0, true), (1, true), (2, true)] [(0, (((v3 + 1) : Nat) : Int))] [(0, v3)] [(0, [.i (L0.getD v3 R_iiiiiiiA.z).a0, .i (L0.getD v3 R_iiiiiiiA.z).a1, .i (L0.getD v3 R_iiiiiiiA.z).a2, .i (L0.getD v3 R_iiiiiiiA.z).a3, .i (L0.getD v3 R_iiiiiiiA.z).a4, .i (L0.getD v3 R_iiiiiiiA.z).a5, .i (L0.getD v3 R_iiiiiiiA.z).a6, (mc E_ii (L0.getD v3 R_iiiiiiiA.z).a7)])] [(1, .ms 0 16 ((L0.getD v3 R_iiiiiiiA.z).a7.take 16).length (ZG E_ii ((L0.getD v3 R_iiiiiiiA.z).a7.take 16))), (3, .ap 1 [vi (L0.getD v3 R_iiiiiiiA.z).a0, vi (L0.getD v3 R_iiiiiiiA.z).a1, vi (L0.getD v3 R_iiiiiiiA.z).a2, vi (L0.getD v3 R_iiiiiiiA.z).a3, vi (L0.getD v3 R_iiiiiiiA.z).a4, vi (L0.getD v3 R_iiiiiiiA.z).a5, vi (L0.getD v3 R_iiiiiiiA.z).a6, ms E_ii ((L0.getD v3 R_iiiiiiiA.z).a7.take 16)] (Zd E_iiiiiiiA (v2 ++ ([(⟨(L0.getD v3 R_iiiiiiiA.z).a0, (L0.getD v3 R_iiiiiiiA.z).a1, (L0.getD v3 R_iiiiiiiA.z).a2, (L0.getD v3 R_iiiiiiiA.z).a3, (L0.getD v3 R_iiiiiiiA.z).a4, (L0.getD v3 R_iiiiiiiA.z).a5, (L0.getD v3 R_iiiiiiiA.z).a6, ((L0.getD v3 R_iiiiiiiA.z).a7.take 16)⟩ : R_iiiiiiiA)] : List R_iiiiiiiA))))])) (live := [0, 4]) (tv := fun _ => [some (ms E_iiiiiiiA L0), some (vi a3), some (vp 0 0), some (vs 4 0 (v2.length + 1) (v2.length + 1)), some (vi (((v3 + 1) : Nat) : Int))]) (bl := [some (.cells [vi a1, vi a2] 36), some (.cells (Zd E_iiiiiiiA (v2 ++ ([(⟨(L0.getD v3 R_iiiiiiiA.z).a0, (L0.getD v3 R_iiiiiiiA.z).a1, (L0.getD v3 R_iiiiiiiA.z).a2, (L0.getD v3 R_iiiiiiiA.z).a3, (L0.getD v3 R_iiiiiiiA.z).a4, (L0.getD v3 R_iiiiiiiA.z).a5, (L0.getD v3 R_iiiiiiiA.z).a6, ((L0.getD v3 R_iiiiiiiA.z).a7.take 16)⟩ : R_iiiiiiiA)] : List R_iiiiiiiA))) 42)]) (ob := [((IntKind.i64.wrap ((v3 : Int) + (1 : Int))) == (((v3 + 1) : Nat) : Int), true), (dP ((1 = 1 ∧ Zs (1 * 8) (List.drop 0 [vi (L0.getD v3 R_iiiiiiiA.z).a0, vi (L0.getD v3 R_iiiiiiiA.z).a1, vi (L0.getD v3 R_iiiiiiiA.z).a2, vi (L0.getD v3 R_iiiiiiiA.z).a3, vi (L0.getD v3 R_iiiiiiiA.z).a4, vi (L0.getD v3 R_iiiiiiiA.z).a5, vi (L0.getD v3 R_iiiiiiiA.z).a6, ms E_ii ((L0.getD v3 R_iiiiiiiA.z).a7.take 16)]) = some [vi (L0.getD v3 R_iiiiiiiA.z).a0, vi (L0.getD v3 R_iiiiiiiA.z).a1, vi (L0.getD v3 R_iiiiiiiA.z).a2, vi (L0.getD v3 R_iiiiiiiA.z).a3, vi (L0.getD v3 R_iiiiiiiA.z).a4, vi (L0.getD v3 R_iiiiiiiA.z).a5, vi (L0.getD v3 R_iiiiiiiA.z).a6, ms E_ii ((L0.getD v3 R_iiiiiiiA.z).a7.take 16)] ∧ Z8 ZaK [vi (L0.getD v3 R_iiiiiiiA.z).a0, vi (L0.getD v3 R_iiiiiiiA.z).a1, vi (L0.getD v3 R_iiiiiiiA.z).a2, vi (L0.getD v3 R_iiiiiiiA.z).a3, vi (L0.getD v3 R_iiiiiiiA.z).a4, vi (L0.getD v3 R_iiiiiiiA.z).a5, vi (L0.getD v3 R_iiiiiiiA.z).a6, ms E_ii ((L0.getD v3 R_iiiiiiiA.z).a7.take 16)] = true) ∧ 0 < 1 ∧ 1 ≤ 100000 ∧ v2.length < v2.length + 1 ∧ v2.length ≤ 100000 ∧ v2.length * 8 ≤ (List.length (Zd E_iiiiiiiA v2)) ∧ List.take (v2.length * 8) (Zd E_iiiiiiiA v2) ++ [vi (L0.getD v3 R_iiiiiiiA.z).a0, vi (L0.getD v3 R_iiiiiiiA.z).a1, vi (L0.getD v3 R_iiiiiiiA.z).a2, vi (L0.getD v3 R_iiiiiiiA.z).a3, vi (L0.getD v3 R_iiiiiiiA.z).a4, vi (L0.getD v3 R_iiiiiiiA.z).a5, vi (L0.getD v3 R_iiiiiiiA.z).a6, ms E_ii ((L0.getD v3 R_iiiiiiiA.z).a7.take 16)] = (Zd E_iiiiiiiA (v2 ++ ([(⟨(L0.getD v3 R_iiiiiiiA.z).a0, (L0.getD v3 R_iiiiiiiA.z).a1, (L0.getD v3 R_iiiiiiiA.z).a2, (L0.getD v3 R_iiiiiiiA.z).a3, (L0.getD v3 R_iiiiiiiA.z).a4, (L0.getD v3 R_iiiiiiiA.z).a5, (L0.getD v3 R_iiiiiiiA.z).a6, ((L0.getD v3 R_iiiiiiiA.z).a7.take 16)⟩ : R_iiiiiiiA)] : List R_iiiiiiiA)))), true), (dP (0 ≤ 16 ∧ 16 ≤ (L0.getD v3 R_iiiiiiiA.z).a7.length ∧ ZN (code (ZG E_ii (L0.getD v3 R_iiiiiiiA.z).a7)) (0 + 0 * 2) (ZG E_ii ((L0.getD v3 R_iiiiiiiA.z).a7.take 16)).length = some (ZG E_ii ((L0.getD v3 R_iiiiiiiA.z).a7.take 16)) ∧ (16 - 0) * 2 = (ZG E_ii ((L0.getD v3 R_iiiiiiiA.z).a7.take 16)).length ∧ ((L0.getD v3 R_iiiiiiiA.z).a7.take 16).length = 16 - 0), true), ((16 : Int) == Int.ofNat 16, true), (dS 0, true), ((decide ((((L0.getD v3 R_iiiiiiiA.z).a7.length : Nat) : Int) > (16 : Int))), true), (dP (ZN (code (ZG E_iiiiiiiA L0)) (0 + (v3 * 8)) 8 = some [.i (L0.getD v3 R_iiiiiiiA.z).a0, .i (L0.getD v3 R_iiiiiiiA.z).a1, .i (L0.getD v3 R_iiiiiiiA.z).a2, .i (L0.getD v3 R_iiiiiiiA.z).a3, .i (L0.getD v3 R_iiiiiiiA.z).a4, .i (L0.getD v3 R_iiiiiiiA.z).a5, .i (L0.getD v3 R_iiiiiiiA.z).a6, (mc E_ii (L0.getD v3 R_iiiiiiiA.z).a7)]), true), (Nat.blt v3 L0.length, true), ((v3 : Int) == Int.ofNat v3, true), ((decide ((v3 : Int) < (14 : Int))), true), ((decide ((v3 : Int) < (L0.length : Int))), true)]) rfl (show 1 ∈ Zx (Zd5 1) from by decide +kernel) (fun gv => by kernel_rfl) (Zb (beq_iff_eq.2 ((wrap_i64 ltA).trans (by first | rfl | omega))) <| Zb (Zg ⟨⟨rfl, ⟨rfl, rfl⟩⟩, by omega, by omega, ltA, by omega, (Zdx (E := E_iiiiiiiA) (L := v2) (M := ([(⟨(L0.getD v3 R_iiiiiiiA.z).a0, (L0.getD v3 R_iiiiiiiA.z).a1, (L0.getD v3 R_iiiiiiiA.z).a2, (L0.getD v3 R_iiiiiiiA.z).a3, (L0.getD v3 R_iiiiiiiA.z).a4, (L0.getD v3 R_iiiiiiiA.z).a5, (L0.getD v3 R_iiiiiiiA.z).a6, ((L0.getD v3 R_iiiiiiiA.z).a7.take 16)⟩ : R_iiiiiiiA)] : List R_iiiiiiiA)) (n := v2.length) (show _ = _ * 8 from rfl) (by omega) (R := (v2 ++ ([(⟨(L0.getD v3 R_iiiiiiiA.z).a0, (L0.getD v3 R_iiiiiiiA.z).a1, (L0.getD v3 R_iiiiiiiA.z).a2, (L0.getD v3 R_iiiiiiiA.z).a3, (L0.getD v3 R_iiiiiiiA.z).a4, (L0.getD v3 R_iiiiiiiA.z).a5, (L0.getD v3 R_iiiiiiiA.z).a6, ((L0.getD v3 R_iiiiiiiA.z).a7.take 16)⟩ : R_iiiiiiiA)] : List R_iiiiiiiA))) (by rw [List.take_of_length_le (by omega)]))⟩) <| Zb (Zg (Zst (E := E_ii) (L := (L0.getD v3 R_iiiiiiiA.z).a7) (R := ((L0.getD v3 R_iiiiiiiA.z).a7.take 16)) (l := 0) (h := 16) (size := 2) ltA ltA (by decide) (by simp))) <| oI <| oR <| oY <| Zb (Zg (ZA (E := E_iiiiiiiA) (L := L0) (i := v3) (q := 0) (by omega) (show (0 + (v3 * 8)) = v3 * 8 + 0 from by omega) (show 0 + 8 ≤ 8 from by decide) rfl)) <| oB <| oI <| oY <| oY Ze) rfl (by decide) (by rfl) (fun _ => ⟨rr, ⟨rr, ⟨rr, ⟨⟨Eq.trans (show (vs 1 0 (v2 ++ ([(⟨(L0.getD v3 R_iiiiiiiA.z).a0, (L0.getD v3 R_iiiiiiiA.z).a1, (L0.getD v3 R_iiiiiiiA.z).a2, (L0.getD v3 R_iiiiiiiA.z).a3, (L0.getD v3 R_iiiiiiiA.z).a4, (L0.getD v3 R_iiiiiiiA.z).a5, (L0.getD v3 R_iiiiiiiA.z).a6, ((L0.getD v3 R_iiiiiiiA.z).a7.take 16)⟩ : R_iiiiiiiA)] : List R_iiiiiiiA)).length (v2 ++ ([(⟨(L0.getD v3 R_iiiiiiiA.z).a0, (L0.getD v3 R_iiiiiiiA.z).a1, (L0.getD v3 R_iiiiiiiA.z).a2, (L0.getD v3 R_iiiiiiiA.z).a3, (L0.getD v3 R_iiiiiiiA.z).a4, (L0.getD v3 R_iiiiiiiA.z).a5, (L0.getD v3 R_iiiiiiiA.z).a6, ((L0.getD v3 R_iiiiiiiA.z).a7.take 16)⟩ : R_iiiiiiiA)] : List R_iiiiiiiA)).length : Value) = vs 1 0 (v2.length + 1) (v2.length + 1) from (Zbe rfl eqA eqA)) (by rfl), by rfl⟩, ⟨rr, trivial⟩⟩⟩⟩⟩) ⟨⟨rfl, ⟨[], by rfl⟩, by rfl⟩, ⟨(Zh (E := E_iiiiiiiA) (α := R_iiiiiiiA) _ (v2 ++ ([(⟨(L0.getD v3 R_iiiiiiiA.z).a0, (L0.getD v3 R_iiiiiiiA.z).a1, (L0.getD v3 R_iiiiiiiA.z).a2, (L0.getD v3 R_iiiiiiiA.z).a3, (L0.getD v3 R_iiiiiiiA.z).a4, (L0.getD v3 R_iiiiiiiA.z).a5, (L0.getD v3 R_iiiiiiiA.z).a6, ((L0.getD v3 R_iiiiiiiA.z).a7.take 16)⟩ : R_iiiiiiiA)] : List R_iiiiiiiA)) _), trivial⟩⟩
    ·
     exact Mach.ok_none
   ·
    refine Mach.ok_ite (fun g3 => ?_) (fun g3 => ?_)
    ·
     exact Mach.ok_next (M := Zu L0 a1 a2 a3 N) (cd := 1000000) (cm := 0) (y := (.h1m1 ((v2 ++ ([(⟨(L0.getD v3 R_iiiiiiiA.z).a0, (L0.getD v3 R_iiiiiiiA.z).a1, (L0.getD v3 R_iiiiiiiA.z).a2, (L0.getD v3 R_iiiiiiiA.z).a3, (L0.getD v3 R_iiiiiiiA.z).a4, (L0.getD v3 R_iiiiiiiA.z).a5, (L0.getD v3 R_iiiiiiiA.z).a6, (L0.getD v3 R_iiiiiiiA.z).a7⟩ : R_iiiiiiiA)] : List R_iiiiiiiA))) ((v3 + 1)) : law32_FifoItemsX)) (fu := 4000) (orc := (Zi [(0, true), (1, true), (2, false)] [(0, (((v3 + 1) : Nat) : Int))] [(0, v3)] [(0, [.i (L0.getD v3 R_iiiiiiiA.z).a0, .i (L0.getD v3 R_iiiiiiiA.z).a1, .i (L0.getD v3 R_iiiiiiiA.z).a2, .i (L0.getD v3 R_iiiiiiiA.z).a3, .i (L0.getD v3 R_iiiiiiiA.z).a4, .i (L0.getD v3 R_iiiiiiiA.z).a5, .i (L0.getD v3 R_iiiiiiiA.z).a6, (mc E_ii (L0.getD v3 R_iiiiiiiA.z).a7)])] [(1, .ap 1 [vi (L0.getD v3 R_iiiiiiiA.z).a0, vi (L0.getD v3 R_iiiiiiiA.z).a1, vi (L0.getD v3 R_iiiiiiiA.z).a2, vi (L0.getD v3 R_iiiiiiiA.z).a3, vi (L0.getD v3 R_iiiiiiiA.z).a4, vi (L0.getD v3 R_iiiiiiiA.z).a5, vi (L0.getD v3 R_iiiiiiiA.z).a6, ms E_ii (L0.getD v3 R_iiiiiiiA.z).a7] (Zd E_iiiiiiiA (v2 ++ ([(⟨(L0.getD v3 R_iiiiiiiA.z).a0, (L0.getD v3 R_iiiiiiiA.z).a1, (L0.getD v3 R_iiiiiiiA.z).a2, (L0.getD v3 R_iiiiiiiA.z).a3, (L0.getD v3 R_iiiiiiiA.z).a4, (L0.getD v3 R_iiiiiiiA.z).a5, (L0.getD v3 R_iiiiiiiA.z).a6, (L0.getD v3 R_iiiiiiiA.z).a7⟩ : R_iiiiiiiA)] : List R_iiiiiiiA))))])) (live := [0, 4]) (tv := fun _ => [some (ms E_iiiiiiiA L0), some (vi a3), some (vp 0 0), some (vs 4 0 (v2.length + 1) (v2.length + 1)), some (vi (((v3 + 1) : Nat) : Int))]) (bl := [some (.cells [vi a1, vi a2] 36), some (.cells (Zd E_iiiiiiiA (v2 ++ ([(⟨(L0.getD v3 R_iiiiiiiA.z).a0, (L0.getD v3 R_iiiiiiiA.z).a1, (L0.getD v3 R_iiiiiiiA.z).a2, (L0.getD v3 R_iiiiiiiA.z).a3, (L0.getD v3 R_iiiiiiiA.z).a4, (L0.getD v3 R_iiiiiiiA.z).a5, (L0.getD v3 R_iiiiiiiA.z).a6, (L0.getD v3 R_iiiiiiiA.z).a7⟩ : R_iiiiiiiA)] : List R_iiiiiiiA))) 42)]) (ob := [((IntKind.i64.wrap ((v3 : Int) + (1 : Int))) == (((v3 + 1) : Nat) : Int), true), (dP ((1 = 1 ∧ Zs (1 * 8) (List.drop 0 [vi (L0.getD v3 R_iiiiiiiA.z).a0, vi (L0.getD v3 R_iiiiiiiA.z).a1, vi (L0.getD v3 R_iiiiiiiA.z).a2, vi (L0.getD v3 R_iiiiiiiA.z).a3, vi (L0.getD v3 R_iiiiiiiA.z).a4, vi (L0.getD v3 R_iiiiiiiA.z).a5, vi (L0.getD v3 R_iiiiiiiA.z).a6, ms E_ii (L0.getD v3 R_iiiiiiiA.z).a7]) = some [vi (L0.getD v3 R_iiiiiiiA.z).a0, vi (L0.getD v3 R_iiiiiiiA.z).a1, vi (L0.getD v3 R_iiiiiiiA.z).a2, vi (L0.getD v3 R_iiiiiiiA.z).a3, vi (L0.getD v3 R_iiiiiiiA.z).a4, vi (L0.getD v3 R_iiiiiiiA.z).a5, vi (L0.getD v3 R_iiiiiiiA.z).a6, ms E_ii (L0.getD v3 R_iiiiiiiA.z).a7] ∧ Z8 ZaK [vi (L0.getD v3 R_iiiiiiiA.z).a0, vi (L0.getD v3 R_iiiiiiiA.z).a1, vi (L0.getD v3 R_iiiiiiiA.z).a2, vi (L0.getD v3 R_iiiiiiiA.z).a3, vi (L0.getD v3 R_iiiiiiiA.z).a4, vi (L0.getD v3 R_iiiiiiiA.z).a5, vi (L0.getD v3 R_iiiiiiiA.z).a6, ms E_ii (L0.getD v3 R_iiiiiiiA.z).a7] = true) ∧ 0 < 1 ∧ 1 ≤ 100000 ∧ v2.length < v2.length + 1 ∧ v2.length ≤ 100000 ∧ v2.length * 8 ≤ (List.length (Zd E_iiiiiiiA v2)) ∧ List.take (v2.length * 8) (Zd E_iiiiiiiA v2) ++ [vi (L0.getD v3 R_iiiiiiiA.z).a0, vi (L0.getD v3 R_iiiiiiiA.z).a1, vi (L0.getD v3 R_iiiiiiiA.z).a2, vi (L0.getD v3 R_iiiiiiiA.z).a3, vi (L0.getD v3 R_iiiiiiiA.z).a4, vi (L0.getD v3 R_iiiiiiiA.z).a5, vi (L0.getD v3 R_iiiiiiiA.z).a6, ms E_ii (L0.getD v3 R_iiiiiiiA.z).a7] = (Zd E_iiiiiiiA (v2 ++ ([(⟨(L0.getD v3 R_iiiiiiiA.z).a0, (L0.getD v3 R_iiiiiiiA.z).a1, (L0.getD v3 R_iiiiiiiA.z).a2, (L0.getD v3 R_iiiiiiiA.z).a3, (L0.getD v3 R_iiiiiiiA.z).a4, (L0.getD v3 R_iiiiiiiA.z).a5, (L0.getD v3 R_iiiiiiiA.z).a6, (L0.getD v3 R_iiiiiiiA.z).a7⟩ : R_iiiiiiiA)] : List R_iiiiiiiA)))), true), ((decide ((((L0.getD v3 R_iiiiiiiA.z).a7.length : Nat) : Int) > (16 : Int))), false), (dP (ZN (code (ZG E_iiiiiiiA L0)) (0 + (v3 * 8)) 8 = some [.i (L0.getD v3 R_iiiiiiiA.z).a0, .i (L0.getD v3 R_iiiiiiiA.z).a1, .i (L0.getD v3 R_iiiiiiiA.z).a2, .i (L0.getD v3 R_iiiiiiiA.z).a3, .i (L0.getD v3 R_iiiiiiiA.z).a4, .i (L0.getD v3 R_iiiiiiiA.z).a5, .i (L0.getD v3 R_iiiiiiiA.z).a6, (mc E_ii (L0.getD v3 R_iiiiiiiA.z).a7)]), true), (Nat.blt v3 L0.length, true), ((v3 : Int) == Int.ofNat v3, true), ((decide ((v3 : Int) < (14 : Int))), true), ((decide ((v3 : Int) < (L0.length : Int))), true)]) rfl (show 1 ∈ Zx (Zd5 1) from by decide +kernel) (fun gv => by kernel_rfl) (Zb (beq_iff_eq.2 ((wrap_i64 ltA).trans (by first | rfl | omega))) <| Zb (Zg ⟨⟨rfl, ⟨rfl, rfl⟩⟩, by omega, by omega, ltA, by omega, (Zdx (E := E_iiiiiiiA) (L := v2) (M := ([(⟨(L0.getD v3 R_iiiiiiiA.z).a0, (L0.getD v3 R_iiiiiiiA.z).a1, (L0.getD v3 R_iiiiiiiA.z).a2, (L0.getD v3 R_iiiiiiiA.z).a3, (L0.getD v3 R_iiiiiiiA.z).a4, (L0.getD v3 R_iiiiiiiA.z).a5, (L0.getD v3 R_iiiiiiiA.z).a6, (L0.getD v3 R_iiiiiiiA.z).a7⟩ : R_iiiiiiiA)] : List R_iiiiiiiA)) (n := v2.length) (show _ = _ * 8 from rfl) (by omega) (R := (v2 ++ ([(⟨(L0.getD v3 R_iiiiiiiA.z).a0, (L0.getD v3 R_iiiiiiiA.z).a1, (L0.getD v3 R_iiiiiiiA.z).a2, (L0.getD v3 R_iiiiiiiA.z).a3, (L0.getD v3 R_iiiiiiiA.z).a4, (L0.getD v3 R_iiiiiiiA.z).a5, (L0.getD v3 R_iiiiiiiA.z).a6, (L0.getD v3 R_iiiiiiiA.z).a7⟩ : R_iiiiiiiA)] : List R_iiiiiiiA))) (by rw [List.take_of_length_le (by omega)]))⟩) <| oN <| Zb (Zg (ZA (E := E_iiiiiiiA) (L := L0) (i := v3) (q := 0) (by omega) (show (0 + (v3 * 8)) = v3 * 8 + 0 from by omega) (show 0 + 8 ≤ 8 from by decide) rfl)) <| oB <| oI <| oY <| oY Ze) rfl (by decide) (by rfl) (fun _ => ⟨rr, ⟨rr, ⟨rr, ⟨⟨Eq.trans (show (vs 1 0 (v2 ++ ([(⟨(L0.getD v3 R_iiiiiiiA.z).a0, (L0.getD v3 R_iiiiiiiA.z).a1, (L0.getD v3 R_iiiiiiiA.z).a2, (L0.getD v3 R_iiiiiiiA.z).a3, (L0.getD v3 R_iiiiiiiA.z).a4, (L0.getD v3 R_iiiiiiiA.z).a5, (L0.getD v3 R_iiiiiiiA.z).a6, (L0.getD v3 R_iiiiiiiA.z).a7⟩ : R_iiiiiiiA)] : List R_iiiiiiiA)).length (v2 ++ ([(⟨(L0.getD v3 R_iiiiiiiA.z).a0, (L0.getD v3 R_iiiiiiiA.z).a1, (L0.getD v3 R_iiiiiiiA.z).a2, (L0.getD v3 R_iiiiiiiA.z).a3, (L0.getD v3 R_iiiiiiiA.z).a4, (L0.getD v3 R_iiiiiiiA.z).a5, (L0.getD v3 R_iiiiiiiA.z).a6, (L0.getD v3 R_iiiiiiiA.z).a7⟩ : R_iiiiiiiA)] : List R_iiiiiiiA)).length : Value) = vs 1 0 (v2.length + 1) (v2.length + 1) from (Zbe rfl eqA eqA)) (by rfl), by rfl⟩, ⟨rr, trivial⟩⟩⟩⟩⟩) ⟨⟨rfl, ⟨[], by rfl⟩, by rfl⟩, ⟨(Zh (E := E_iiiiiiiA) (α := R_iiiiiiiA) _ (v2 ++ ([(⟨(L0.getD v3 R_iiiiiiiA.z).a0, (L0.getD v3 R_iiiiiiiA.z).a1, (L0.getD v3 R_iiiiiiiA.z).a2, (L0.getD v3 R_iiiiiiiA.z).a3, (L0.getD v3 R_iiiiiiiA.z).a4, (L0.getD v3 R_iiiiiiiA.z).a5, (L0.getD v3 R_iiiiiiiA.z).a6, (L0.getD v3 R_iiiiiiiA.z).a7⟩ : R_iiiiiiiA)] : List R_iiiiiiiA)) _), trivial⟩⟩
    ·
     exact Mach.ok_none
  ·
   refine Mach.ok_bind (fun z2 c2 => ?_)
   cases z2 with
   | r0 y2_0 =>
    refine Mach.ok_bind (fun z3 c3 => ?_)
    cases z3 with
    | r0 y3_0 =>
     refine Mach.ok_bind (fun z4 c4 => ?_)
     cases z4 with
     | r0 =>
      refine Mach.ok_ite (fun g5 => ?_) (fun g5 => ?_)
      ·
       refine Mach.ok_bind (fun z6 c6 => ?_)
       cases z6 with
       | r0 =>
        exact Mach.ok_fin (M := Zu L0 a1 a2 a3 N) (cd := 1000000) (cm := 0) (r := (.r0 (true) : Zl)) (fu := 4000) (orc := (Zi [(0, true), (1, false), (2, true)] [] [] [] [(0, (ZaX (v2) (a1) (a2) (a3)  y2_0 1 2)), (1, (ZaM (v2) (a1) (a2) (a3)  y3_0 1 2)), (2, (ZdP     2)), (3, (Zby     2))])) (live := []) (u := vT) (bl := []) (ob := [(dP (Zbk #[]     2), true), ((y2_0 == y3_0), true), (dP (Zdk #[vn, vn]     2), true), (dP (Za9 #[vs 1 0 v2.length v2.length, Value.agg #[vi a1, vi a2], vi a3] (v2) (a1) (a2) (a3)  y3_0 1 2), true), (dS (Zd E_iiiiiiiA v2), true), (dP (ZaI #[vs 1 0 v2.length v2.length, Value.agg #[vi a1, vi a2], vi a3] (v2) (a1) (a2) (a3)  y2_0 1 2), true), (dS (Zd E_iiiiiiiA v2), true), ((decide ((v3 : Int) < (14 : Int))), false), ((decide ((v3 : Int) < (L0.length : Int))), true)]) (fun gv => by kernel_rfl) (Zb (Zg (Zbz #[]    N c6  2 rfl (by decide) (by decide))) <| oT <| Zb (Zg (ZdQ #[vn, vn]    N c4  2 rfl (by decide) (by decide))) <| Zb (Zg (ZaN #[vs 1 0 v2.length v2.length, Value.agg #[vi a1, vi a2], vi a3] (v2) (a1) (a2) (a3)  y3_0 N c3 1 2 rfl (by decide) (by decide))) <| oR <| Zb (Zg (ZaY #[vs 1 0 v2.length v2.length, Value.agg #[vi a1, vi a2], vi a3] (v2) (a1) (a2) (a3)  y2_0 N c2 1 2 rfl (by decide) (by decide))) <| oR <| oN <| oY Ze) rfl (by decide) (by rfl) rr trivial
      ·
       exact Mach.ok_fin (M := Zu L0 a1 a2 a3 N) (cd := 1000000) (cm := 0) (r := (.r0 (false) : Zl)) (fu := 4000) (orc := (Zi [(0, true), (1, false), (2, false)] [] [] [] [(0, (ZaX (v2) (a1) (a2) (a3)  y2_0 1 2)), (1, (ZaM (v2) (a1) (a2) (a3)  y3_0 1 2)), (2, (ZdP     2))])) (live := []) (u := vf) (bl := []) (ob := [((y2_0 == y3_0), false), (dP (Zdk #[vn, vn]     2), true), (dP (Za9 #[vs 1 0 v2.length v2.length, Value.agg #[vi a1, vi a2], vi a3] (v2) (a1) (a2) (a3)  y3_0 1 2), true), (dS (Zd E_iiiiiiiA v2), true), (dP (ZaI #[vs 1 0 v2.length v2.length, Value.agg #[vi a1, vi a2], vi a3] (v2) (a1) (a2) (a3)  y2_0 1 2), true), (dS (Zd E_iiiiiiiA v2), true), ((decide ((v3 : Int) < (14 : Int))), false), ((decide ((v3 : Int) < (L0.length : Int))), true)]) (fun gv => by kernel_rfl) (oF <| Zb (Zg (ZdQ #[vn, vn]    N c4  2 rfl (by decide) (by decide))) <| Zb (Zg (ZaN #[vs 1 0 v2.length v2.length, Value.agg #[vi a1, vi a2], vi a3] (v2) (a1) (a2) (a3)  y3_0 N c3 1 2 rfl (by decide) (by decide))) <| oR <| Zb (Zg (ZaY #[vs 1 0 v2.length v2.length, Value.agg #[vi a1, vi a2], vi a3] (v2) (a1) (a2) (a3)  y2_0 N c2 1 2 rfl (by decide) (by decide))) <| oR <| oN <| oY Ze) rfl (by decide) (by rfl) rr trivial
    | r1 y3_0 =>
     refine Mach.ok_bind (fun z4 c4 => ?_)
     cases z4 with
     | r0 y4_0 =>
      refine Mach.ok_ite (fun g5 => ?_) (fun g5 => ?_)
      ·
       subst g5
       refine Mach.ok_ite (fun g6 => ?_) (fun g6 => ?_)
       ·
        refine Mach.ok_bind (fun z7 c7 => ?_)
        cases z7 with
        | r0 =>
         exact Mach.ok_fin (M := Zu L0 a1 a2 a3 N) (cd := 1000000) (cm := 0) (r := (.r0 (true) : Zl)) (fu := 4000) (orc := (Zi [(0, true), (1, false), (2, true)] [] [] [] [(0, (ZaX (v2) (a1) (a2) (a3)  y2_0 1 2)), (1, (ZaO (v2) (a1) (a2) (a3)  y3_0 1 2)), (2, (Zcu (y3_0)  true 2 3)), (3, (Zby     3))])) (live := []) (u := vT) (bl := []) (ob := [(dP (Zbk #[]     3), true), ((y2_0 == (0 : Int)), true), (dP (ZbV #[vn, vs 2 0 y3_0.length y3_0.length] (y3_0)  true 2 3), true), (dS (Zd eI y3_0), true), (dP (ZaA #[vs 1 0 v2.length v2.length, Value.agg #[vi a1, vi a2], vi a3] (v2) (a1) (a2) (a3)  y3_0 1 2), true), (dS (Zd E_iiiiiiiA v2), true), (dP (ZaI #[vs 1 0 v2.length v2.length, Value.agg #[vi a1, vi a2], vi a3] (v2) (a1) (a2) (a3)  y2_0 1 2), true), (dS (Zd E_iiiiiiiA v2), true), ((decide ((v3 : Int) < (14 : Int))), false), ((decide ((v3 : Int) < (L0.length : Int))), true)]) (fun gv => by kernel_rfl) (Zb (Zg (Zbz #[]    N c7  3 rfl (by decide) (by decide))) <| oT <| Zb (Zg (Zcv #[vn, vs 2 0 y3_0.length y3_0.length] (y3_0)  true N c4 2 3 rfl (by decide) (by decide))) <| oR <| Zb (Zg (ZaP #[vs 1 0 v2.length v2.length, Value.agg #[vi a1, vi a2], vi a3] (v2) (a1) (a2) (a3)  y3_0 N c3 1 2 rfl (by decide) (by decide))) <| oR <| Zb (Zg (ZaY #[vs 1 0 v2.length v2.length, Value.agg #[vi a1, vi a2], vi a3] (v2) (a1) (a2) (a3)  y2_0 N c2 1 2 rfl (by decide) (by decide))) <| oR <| oN <| oY Ze) rfl (by decide) (by rfl) rr trivial
       ·
        exact Mach.ok_fin (M := Zu L0 a1 a2 a3 N) (cd := 1000000) (cm := 0) (r := (.r0 (false) : Zl)) (fu := 4000) (orc := (Zi [(0, true), (1, false), (2, false)] [] [] [] [(0, (ZaX (v2) (a1) (a2) (a3)  y2_0 1 2)), (1, (ZaO (v2) (a1) (a2) (a3)  y3_0 1 2)), (2, (Zcu (y3_0)  true 2 3))])) (live := []) (u := vf) (bl := []) (ob := [((y2_0 == (0 : Int)), false), (dP (ZbV #[vn, vs 2 0 y3_0.length y3_0.length] (y3_0)  true 2 3), true), (dS (Zd eI y3_0), true), (dP (ZaA #[vs 1 0 v2.length v2.length, Value.agg #[vi a1, vi a2], vi a3] (v2) (a1) (a2) (a3)  y3_0 1 2), true), (dS (Zd E_iiiiiiiA v2), true), (dP (ZaI #[vs 1 0 v2.length v2.length, Value.agg #[vi a1, vi a2], vi a3] (v2) (a1) (a2) (a3)  y2_0 1 2), true), (dS (Zd E_iiiiiiiA v2), true), ((decide ((v3 : Int) < (14 : Int))), false), ((decide ((v3 : Int) < (L0.length : Int))), true)]) (fun gv => by kernel_rfl) (oF <| Zb (Zg (Zcv #[vn, vs 2 0 y3_0.length y3_0.length] (y3_0)  true N c4 2 3 rfl (by decide) (by decide))) <| oR <| Zb (Zg (ZaP #[vs 1 0 v2.length v2.length, Value.agg #[vi a1, vi a2], vi a3] (v2) (a1) (a2) (a3)  y3_0 N c3 1 2 rfl (by decide) (by decide))) <| oR <| Zb (Zg (ZaY #[vs 1 0 v2.length v2.length, Value.agg #[vi a1, vi a2], vi a3] (v2) (a1) (a2) (a3)  y2_0 N c2 1 2 rfl (by decide) (by decide))) <| oR <| oN <| oY Ze) rfl (by decide) (by rfl) rr trivial
      ·
       obtain rfl : y4_0 = false := by simpa using g5
       exact Mach.ok_fin (M := Zu L0 a1 a2 a3 N) (cd := 1000000) (cm := 0) (r := (.r0 (false) : Zl)) (fu := 4000) (orc := (Zi [(0, true), (1, false)] [] [] [] [(0, (ZaX (v2) (a1) (a2) (a3)  y2_0 1 2)), (1, (ZaO (v2) (a1) (a2) (a3)  y3_0 1 2)), (2, (Zcu (y3_0)  false 2 3))])) (live := []) (u := vf) (bl := []) (ob := [(dP (ZbV #[vn, vs 2 0 y3_0.length y3_0.length] (y3_0)  false 2 3), true), (dS (Zd eI y3_0), true), (dP (ZaA #[vs 1 0 v2.length v2.length, Value.agg #[vi a1, vi a2], vi a3] (v2) (a1) (a2) (a3)  y3_0 1 2), true), (dS (Zd E_iiiiiiiA v2), true), (dP (ZaI #[vs 1 0 v2.length v2.length, Value.agg #[vi a1, vi a2], vi a3] (v2) (a1) (a2) (a3)  y2_0 1 2), true), (dS (Zd E_iiiiiiiA v2), true), ((decide ((v3 : Int) < (14 : Int))), false), ((decide ((v3 : Int) < (L0.length : Int))), true)]) (fun gv => by kernel_rfl) (Zb (Zg (Zcv #[vn, vs 2 0 y3_0.length y3_0.length] (y3_0)  false N c4 2 3 rfl (by decide) (by decide))) <| oR <| Zb (Zg (ZaP #[vs 1 0 v2.length v2.length, Value.agg #[vi a1, vi a2], vi a3] (v2) (a1) (a2) (a3)  y3_0 N c3 1 2 rfl (by decide) (by decide))) <| oR <| Zb (Zg (ZaY #[vs 1 0 v2.length v2.length, Value.agg #[vi a1, vi a2], vi a3] (v2) (a1) (a2) (a3)  y2_0 N c2 1 2 rfl (by decide) (by decide))) <| oR <| oN <| oY Ze) rfl (by decide) (by rfl) rr trivial
   | r1 y2_0 =>
    refine Mach.ok_bind (fun z3 c3 => ?_)
    cases z3 with
    | r0 y3_0 =>
     refine Mach.ok_bind (fun z4 c4 => ?_)
     cases z4 with
     | r0 y4_0 =>
      refine Mach.ok_ite (fun g5 => ?_) (fun g5 => ?_)
      ·
       subst g5
       refine Mach.ok_ite (fun g6 => ?_) (fun g6 => ?_)
       ·
        refine Mach.ok_bind (fun z7 c7 => ?_)
        cases z7 with
        | r0 =>
         exact Mach.ok_fin (M := Zu L0 a1 a2 a3 N) (cd := 1000000) (cm := 0) (r := (.r0 (true) : Zl)) (fu := 4000) (orc := (Zi [(0, true), (1, false), (2, true)] [] [] [] [(0, (ZaZ (v2) (a1) (a2) (a3)  y2_0 1 2)), (1, (ZaM (v2) (a1) (a2) (a3)  y3_0 1 3)), (2, (Zcw (y2_0)  true 2 3)), (3, (Zby     3))])) (live := []) (u := vT) (bl := []) (ob := [(dP (Zbk #[]     3), true), (((0 : Int) == y3_0), true), (dP (ZbW #[vs 2 0 y2_0.length y2_0.length, vn] (y2_0)  true 2 3), true), (dS (Zd eI y2_0), true), (dP (Za9 #[vs 1 0 v2.length v2.length, Value.agg #[vi a1, vi a2], vi a3] (v2) (a1) (a2) (a3)  y3_0 1 3), true), (dS (Zd E_iiiiiiiA v2), true), (dP (ZaJ #[vs 1 0 v2.length v2.length, Value.agg #[vi a1, vi a2], vi a3] (v2) (a1) (a2) (a3)  y2_0 1 2), true), (dS (Zd E_iiiiiiiA v2), true), ((decide ((v3 : Int) < (14 : Int))), false), ((decide ((v3 : Int) < (L0.length : Int))), true)]) (fun gv => by kernel_rfl) (Zb (Zg (Zbz #[]    N c7  3 rfl (by decide) (by decide))) <| oT <| Zb (Zg (Zcx #[vs 2 0 y2_0.length y2_0.length, vn] (y2_0)  true N c4 2 3 rfl (by decide) (by decide))) <| oR <| Zb (Zg (ZaN #[vs 1 0 v2.length v2.length, Value.agg #[vi a1, vi a2], vi a3] (v2) (a1) (a2) (a3)  y3_0 N c3 1 3 rfl (by decide) (by decide))) <| oR <| Zb (Zg (Zba #[vs 1 0 v2.length v2.length, Value.agg #[vi a1, vi a2], vi a3] (v2) (a1) (a2) (a3)  y2_0 N c2 1 2 rfl (by decide) (by decide))) <| oR <| oN <| oY Ze) rfl (by decide) (by rfl) rr trivial
       ·
        exact Mach.ok_fin (M := Zu L0 a1 a2 a3 N) (cd := 1000000) (cm := 0) (r := (.r0 (false) : Zl)) (fu := 4000) (orc := (Zi [(0, true), (1, false), (2, false)] [] [] [] [(0, (ZaZ (v2) (a1) (a2) (a3)  y2_0 1 2)), (1, (ZaM (v2) (a1) (a2) (a3)  y3_0 1 3)), (2, (Zcw (y2_0)  true 2 3))])) (live := []) (u := vf) (bl := []) (ob := [(((0 : Int) == y3_0), false), (dP (ZbW #[vs 2 0 y2_0.length y2_0.length, vn] (y2_0)  true 2 3), true), (dS (Zd eI y2_0), true), (dP (Za9 #[vs 1 0 v2.length v2.length, Value.agg #[vi a1, vi a2], vi a3] (v2) (a1) (a2) (a3)  y3_0 1 3), true), (dS (Zd E_iiiiiiiA v2), true), (dP (ZaJ #[vs 1 0 v2.length v2.length, Value.agg #[vi a1, vi a2], vi a3] (v2) (a1) (a2) (a3)  y2_0 1 2), true), (dS (Zd E_iiiiiiiA v2), true), ((decide ((v3 : Int) < (14 : Int))), false), ((decide ((v3 : Int) < (L0.length : Int))), true)]) (fun gv => by kernel_rfl) (oF <| Zb (Zg (Zcx #[vs 2 0 y2_0.length y2_0.length, vn] (y2_0)  true N c4 2 3 rfl (by decide) (by decide))) <| oR <| Zb (Zg (ZaN #[vs 1 0 v2.length v2.length, Value.agg #[vi a1, vi a2], vi a3] (v2) (a1) (a2) (a3)  y3_0 N c3 1 3 rfl (by decide) (by decide))) <| oR <| Zb (Zg (Zba #[vs 1 0 v2.length v2.length, Value.agg #[vi a1, vi a2], vi a3] (v2) (a1) (a2) (a3)  y2_0 N c2 1 2 rfl (by decide) (by decide))) <| oR <| oN <| oY Ze) rfl (by decide) (by rfl) rr trivial
      ·
       obtain rfl : y4_0 = false := by simpa using g5
       exact Mach.ok_fin (M := Zu L0 a1 a2 a3 N) (cd := 1000000) (cm := 0) (r := (.r0 (false) : Zl)) (fu := 4000) (orc := (Zi [(0, true), (1, false)] [] [] [] [(0, (ZaZ (v2) (a1) (a2) (a3)  y2_0 1 2)), (1, (ZaM (v2) (a1) (a2) (a3)  y3_0 1 3)), (2, (Zcw (y2_0)  false 2 3))])) (live := []) (u := vf) (bl := []) (ob := [(dP (ZbW #[vs 2 0 y2_0.length y2_0.length, vn] (y2_0)  false 2 3), true), (dS (Zd eI y2_0), true), (dP (Za9 #[vs 1 0 v2.length v2.length, Value.agg #[vi a1, vi a2], vi a3] (v2) (a1) (a2) (a3)  y3_0 1 3), true), (dS (Zd E_iiiiiiiA v2), true), (dP (ZaJ #[vs 1 0 v2.length v2.length, Value.agg #[vi a1, vi a2], vi a3] (v2) (a1) (a2) (a3)  y2_0 1 2), true), (dS (Zd E_iiiiiiiA v2), true), ((decide ((v3 : Int) < (14 : Int))), false), ((decide ((v3 : Int) < (L0.length : Int))), true)]) (fun gv => by kernel_rfl) (Zb (Zg (Zcx #[vs 2 0 y2_0.length y2_0.length, vn] (y2_0)  false N c4 2 3 rfl (by decide) (by decide))) <| oR <| Zb (Zg (ZaN #[vs 1 0 v2.length v2.length, Value.agg #[vi a1, vi a2], vi a3] (v2) (a1) (a2) (a3)  y3_0 N c3 1 3 rfl (by decide) (by decide))) <| oR <| Zb (Zg (Zba #[vs 1 0 v2.length v2.length, Value.agg #[vi a1, vi a2], vi a3] (v2) (a1) (a2) (a3)  y2_0 N c2 1 2 rfl (by decide) (by decide))) <| oR <| oN <| oY Ze) rfl (by decide) (by rfl) rr trivial
    | r1 y3_0 =>
     refine Mach.ok_bind (fun z4 c4 => ?_)
     cases z4 with
     | r0 y4_0 =>
      refine Mach.ok_ite (fun g5 => ?_) (fun g5 => ?_)
      ·
       subst g5
       refine Mach.ok_bind (fun z6 c6 => ?_)
       cases z6 with
       | r0 =>
        exact Mach.ok_fin (M := Zu L0 a1 a2 a3 N) (cd := 1000000) (cm := 0) (r := (.r0 (true) : Zl)) (fu := 4000) (orc := (Zi [(0, true), (1, false)] [] [] [] [(0, (ZaZ (v2) (a1) (a2) (a3)  y2_0 1 2)), (1, (ZaO (v2) (a1) (a2) (a3)  y3_0 1 3)), (2, (Zep (y2_0) (y3_0)  true 2 3 4)), (3, (Zby     4))])) (live := []) (u := vT) (bl := []) (ob := [(dP (Zbk #[]     4), true), (dP (Zdp #[vs 2 0 y2_0.length y2_0.length, vs 3 0 y3_0.length y3_0.length] (y2_0) (y3_0)  true 2 3 4), true), (dS (Zd eI y2_0), true), (dS (Zd eI y3_0), true), (dP (ZaA #[vs 1 0 v2.length v2.length, Value.agg #[vi a1, vi a2], vi a3] (v2) (a1) (a2) (a3)  y3_0 1 3), true), (dS (Zd E_iiiiiiiA v2), true), (dP (ZaJ #[vs 1 0 v2.length v2.length, Value.agg #[vi a1, vi a2], vi a3] (v2) (a1) (a2) (a3)  y2_0 1 2), true), (dS (Zd E_iiiiiiiA v2), true), ((decide ((v3 : Int) < (14 : Int))), false), ((decide ((v3 : Int) < (L0.length : Int))), true)]) (fun gv => by kernel_rfl) (Zb (Zg (Zbz #[]    N c6  4 rfl (by decide) (by decide))) <| Zb (Zg (Zeq #[vs 2 0 y2_0.length y2_0.length, vs 3 0 y3_0.length y3_0.length] (y2_0) (y3_0)  true N c4 2 3 4 rfl (by decide) (by decide))) <| oR <| oR <| Zb (Zg (ZaP #[vs 1 0 v2.length v2.length, Value.agg #[vi a1, vi a2], vi a3] (v2) (a1) (a2) (a3)  y3_0 N c3 1 3 rfl (by decide) (by decide))) <| oR <| Zb (Zg (Zba #[vs 1 0 v2.length v2.length, Value.agg #[vi a1, vi a2], vi a3] (v2) (a1) (a2) (a3)  y2_0 N c2 1 2 rfl (by decide) (by decide))) <| oR <| oN <| oY Ze) rfl (by decide) (by rfl) rr trivial
      ·
       obtain rfl : y4_0 = false := by simpa using g5
       exact Mach.ok_fin (M := Zu L0 a1 a2 a3 N) (cd := 1000000) (cm := 0) (r := (.r0 (false) : Zl)) (fu := 4000) (orc := (Zi [(0, true), (1, false)] [] [] [] [(0, (ZaZ (v2) (a1) (a2) (a3)  y2_0 1 2)), (1, (ZaO (v2) (a1) (a2) (a3)  y3_0 1 3)), (2, (Zep (y2_0) (y3_0)  false 2 3 4))])) (live := []) (u := vf) (bl := []) (ob := [(dP (Zdp #[vs 2 0 y2_0.length y2_0.length, vs 3 0 y3_0.length y3_0.length] (y2_0) (y3_0)  false 2 3 4), true), (dS (Zd eI y2_0), true), (dS (Zd eI y3_0), true), (dP (ZaA #[vs 1 0 v2.length v2.length, Value.agg #[vi a1, vi a2], vi a3] (v2) (a1) (a2) (a3)  y3_0 1 3), true), (dS (Zd E_iiiiiiiA v2), true), (dP (ZaJ #[vs 1 0 v2.length v2.length, Value.agg #[vi a1, vi a2], vi a3] (v2) (a1) (a2) (a3)  y2_0 1 2), true), (dS (Zd E_iiiiiiiA v2), true), ((decide ((v3 : Int) < (14 : Int))), false), ((decide ((v3 : Int) < (L0.length : Int))), true)]) (fun gv => by kernel_rfl) (Zb (Zg (Zeq #[vs 2 0 y2_0.length y2_0.length, vs 3 0 y3_0.length y3_0.length] (y2_0) (y3_0)  false N c4 2 3 4 rfl (by decide) (by decide))) <| oR <| oR <| Zb (Zg (ZaP #[vs 1 0 v2.length v2.length, Value.agg #[vi a1, vi a2], vi a3] (v2) (a1) (a2) (a3)  y3_0 N c3 1 3 rfl (by decide) (by decide))) <| oR <| Zb (Zg (Zba #[vs 1 0 v2.length v2.length, Value.agg #[vi a1, vi a2], vi a3] (v2) (a1) (a2) (a3)  y2_0 N c2 1 2 rfl (by decide) (by decide))) <| oR <| oN <| oY Ze) rfl (by decide) (by rfl) rr trivial
 ·
  refine Mach.ok_bind (fun z1 c1 => ?_)
  cases z1 with
  | r0 y1_0 =>
   refine Mach.ok_bind (fun z2 c2 => ?_)
   cases z2 with
   | r0 y2_0 =>
    refine Mach.ok_bind (fun z3 c3 => ?_)
    cases z3 with
    | r0 =>
     refine Mach.ok_ite (fun g4 => ?_) (fun g4 => ?_)
     ·
      refine Mach.ok_bind (fun z5 c5 => ?_)
      cases z5 with
      | r0 =>
       exact Mach.ok_fin (M := Zu L0 a1 a2 a3 N) (cd := 1000000) (cm := 0) (r := (.r0 (true) : Zl)) (fu := 4000) (orc := (Zi [(0, false), (1, true)] [] [] [] [(0, (ZaX (v2) (a1) (a2) (a3)  y1_0 1 2)), (1, (ZaM (v2) (a1) (a2) (a3)  y2_0 1 2)), (2, (ZdP     2)), (3, (Zby     2))])) (live := []) (u := vT) (bl := []) (ob := [(dP (Zbk #[]     2), true), ((y1_0 == y2_0), true), (dP (Zdk #[vn, vn]     2), true), (dP (Za9 #[vs 1 0 v2.length v2.length, Value.agg #[vi a1, vi a2], vi a3] (v2) (a1) (a2) (a3)  y2_0 1 2), true), (dS (Zd E_iiiiiiiA v2), true), (dP (ZaI #[vs 1 0 v2.length v2.length, Value.agg #[vi a1, vi a2], vi a3] (v2) (a1) (a2) (a3)  y1_0 1 2), true), (dS (Zd E_iiiiiiiA v2), true), ((decide ((v3 : Int) < (L0.length : Int))), false)]) (fun gv => by kernel_rfl) (Zb (Zg (Zbz #[]    N c5  2 rfl (by decide) (by decide))) <| oT <| Zb (Zg (ZdQ #[vn, vn]    N c3  2 rfl (by decide) (by decide))) <| Zb (Zg (ZaN #[vs 1 0 v2.length v2.length, Value.agg #[vi a1, vi a2], vi a3] (v2) (a1) (a2) (a3)  y2_0 N c2 1 2 rfl (by decide) (by decide))) <| oR <| Zb (Zg (ZaY #[vs 1 0 v2.length v2.length, Value.agg #[vi a1, vi a2], vi a3] (v2) (a1) (a2) (a3)  y1_0 N c1 1 2 rfl (by decide) (by decide))) <| oR <| oN Ze) rfl (by decide) (by rfl) rr trivial
     ·
      exact Mach.ok_fin (M := Zu L0 a1 a2 a3 N) (cd := 1000000) (cm := 0) (r := (.r0 (false) : Zl)) (fu := 4000) (orc := (Zi [(0, false), (1, false)] [] [] [] [(0, (ZaX (v2) (a1) (a2) (a3)  y1_0 1 2)), (1, (ZaM (v2) (a1) (a2) (a3)  y2_0 1 2)), (2, (ZdP     2))])) (live := []) (u := vf) (bl := []) (ob := [((y1_0 == y2_0), false), (dP (Zdk #[vn, vn]     2), true), (dP (Za9 #[vs 1 0 v2.length v2.length, Value.agg #[vi a1, vi a2], vi a3] (v2) (a1) (a2) (a3)  y2_0 1 2), true), (dS (Zd E_iiiiiiiA v2), true), (dP (ZaI #[vs 1 0 v2.length v2.length, Value.agg #[vi a1, vi a2], vi a3] (v2) (a1) (a2) (a3)  y1_0 1 2), true), (dS (Zd E_iiiiiiiA v2), true), ((decide ((v3 : Int) < (L0.length : Int))), false)]) (fun gv => by kernel_rfl) (oF <| Zb (Zg (ZdQ #[vn, vn]    N c3  2 rfl (by decide) (by decide))) <| Zb (Zg (ZaN #[vs 1 0 v2.length v2.length, Value.agg #[vi a1, vi a2], vi a3] (v2) (a1) (a2) (a3)  y2_0 N c2 1 2 rfl (by decide) (by decide))) <| oR <| Zb (Zg (ZaY #[vs 1 0 v2.length v2.length, Value.agg #[vi a1, vi a2], vi a3] (v2) (a1) (a2) (a3)  y1_0 N c1 1 2 rfl (by decide) (by decide))) <| oR <| oN Ze) rfl (by decide) (by rfl) rr trivial
   | r1 y2_0 =>
    refine Mach.ok_bind (fun z3 c3 => ?_)
    cases z3 with
    | r0 y3_0 =>
     refine Mach.ok_ite (fun g4 => ?_) (fun g4 => ?_)
     ·
      subst g4
      refine Mach.ok_ite (fun g5 => ?_) (fun g5 => ?_)
      ·
       refine Mach.ok_bind (fun z6 c6 => ?_)
       cases z6 with
       | r0 =>
        exact Mach.ok_fin (M := Zu L0 a1 a2 a3 N) (cd := 1000000) (cm := 0) (r := (.r0 (true) : Zl)) (fu := 4000) (orc := (Zi [(0, false), (1, true)] [] [] [] [(0, (ZaX (v2) (a1) (a2) (a3)  y1_0 1 2)), (1, (ZaO (v2) (a1) (a2) (a3)  y2_0 1 2)), (2, (Zcu (y2_0)  true 2 3)), (3, (Zby     3))])) (live := []) (u := vT) (bl := []) (ob := [(dP (Zbk #[]     3), true), ((y1_0 == (0 : Int)), true), (dP (ZbV #[vn, vs 2 0 y2_0.length y2_0.length] (y2_0)  true 2 3), true), (dS (Zd eI y2_0), true), (dP (ZaA #[vs 1 0 v2.length v2.length, Value.agg #[vi a1, vi a2], vi a3] (v2) (a1) (a2) (a3)  y2_0 1 2), true), (dS (Zd E_iiiiiiiA v2), true), (dP (ZaI #[vs 1 0 v2.length v2.length, Value.agg #[vi a1, vi a2], vi a3] (v2) (a1) (a2) (a3)  y1_0 1 2), true), (dS (Zd E_iiiiiiiA v2), true), ((decide ((v3 : Int) < (L0.length : Int))), false)]) (fun gv => by kernel_rfl) (Zb (Zg (Zbz #[]    N c6  3 rfl (by decide) (by decide))) <| oT <| Zb (Zg (Zcv #[vn, vs 2 0 y2_0.length y2_0.length] (y2_0)  true N c3 2 3 rfl (by decide) (by decide))) <| oR <| Zb (Zg (ZaP #[vs 1 0 v2.length v2.length, Value.agg #[vi a1, vi a2], vi a3] (v2) (a1) (a2) (a3)  y2_0 N c2 1 2 rfl (by decide) (by decide))) <| oR <| Zb (Zg (ZaY #[vs 1 0 v2.length v2.length, Value.agg #[vi a1, vi a2], vi a3] (v2) (a1) (a2) (a3)  y1_0 N c1 1 2 rfl (by decide) (by decide))) <| oR <| oN Ze) rfl (by decide) (by rfl) rr trivial
      ·
       exact Mach.ok_fin (M := Zu L0 a1 a2 a3 N) (cd := 1000000) (cm := 0) (r := (.r0 (false) : Zl)) (fu := 4000) (orc := (Zi [(0, false), (1, false)] [] [] [] [(0, (ZaX (v2) (a1) (a2) (a3)  y1_0 1 2)), (1, (ZaO (v2) (a1) (a2) (a3)  y2_0 1 2)), (2, (Zcu (y2_0)  true 2 3))])) (live := []) (u := vf) (bl := []) (ob := [((y1_0 == (0 : Int)), false), (dP (ZbV #[vn, vs 2 0 y2_0.length y2_0.length] (y2_0)  true 2 3), true), (dS (Zd eI y2_0), true), (dP (ZaA #[vs 1 0 v2.length v2.length, Value.agg #[vi a1, vi a2], vi a3] (v2) (a1) (a2) (a3)  y2_0 1 2), true), (dS (Zd E_iiiiiiiA v2), true), (dP (ZaI #[vs 1 0 v2.length v2.length, Value.agg #[vi a1, vi a2], vi a3] (v2) (a1) (a2) (a3)  y1_0 1 2), true), (dS (Zd E_iiiiiiiA v2), true), ((decide ((v3 : Int) < (L0.length : Int))), false)]) (fun gv => by kernel_rfl) (oF <| Zb (Zg (Zcv #[vn, vs 2 0 y2_0.length y2_0.length] (y2_0)  true N c3 2 3 rfl (by decide) (by decide))) <| oR <| Zb (Zg (ZaP #[vs 1 0 v2.length v2.length, Value.agg #[vi a1, vi a2], vi a3] (v2) (a1) (a2) (a3)  y2_0 N c2 1 2 rfl (by decide) (by decide))) <| oR <| Zb (Zg (ZaY #[vs 1 0 v2.length v2.length, Value.agg #[vi a1, vi a2], vi a3] (v2) (a1) (a2) (a3)  y1_0 N c1 1 2 rfl (by decide) (by decide))) <| oR <| oN Ze) rfl (by decide) (by rfl) rr trivial
     ·
      obtain rfl : y3_0 = false := by simpa using g4
      exact Mach.ok_fin (M := Zu L0 a1 a2 a3 N) (cd := 1000000) (cm := 0) (r := (.r0 (false) : Zl)) (fu := 4000) (orc := (Zi [(0, false)] [] [] [] [(0, (ZaX (v2) (a1) (a2) (a3)  y1_0 1 2)), (1, (ZaO (v2) (a1) (a2) (a3)  y2_0 1 2)), (2, (Zcu (y2_0)  false 2 3))])) (live := []) (u := vf) (bl := []) (ob := [(dP (ZbV #[vn, vs 2 0 y2_0.length y2_0.length] (y2_0)  false 2 3), true), (dS (Zd eI y2_0), true), (dP (ZaA #[vs 1 0 v2.length v2.length, Value.agg #[vi a1, vi a2], vi a3] (v2) (a1) (a2) (a3)  y2_0 1 2), true), (dS (Zd E_iiiiiiiA v2), true), (dP (ZaI #[vs 1 0 v2.length v2.length, Value.agg #[vi a1, vi a2], vi a3] (v2) (a1) (a2) (a3)  y1_0 1 2), true), (dS (Zd E_iiiiiiiA v2), true), ((decide ((v3 : Int) < (L0.length : Int))), false)]) (fun gv => by kernel_rfl) (Zb (Zg (Zcv #[vn, vs 2 0 y2_0.length y2_0.length] (y2_0)  false N c3 2 3 rfl (by decide) (by decide))) <| oR <| Zb (Zg (ZaP #[vs 1 0 v2.length v2.length, Value.agg #[vi a1, vi a2], vi a3] (v2) (a1) (a2) (a3)  y2_0 N c2 1 2 rfl (by decide) (by decide))) <| oR <| Zb (Zg (ZaY #[vs 1 0 v2.length v2.length, Value.agg #[vi a1, vi a2], vi a3] (v2) (a1) (a2) (a3)  y1_0 N c1 1 2 rfl (by decide) (by decide))) <| oR <| oN Ze) rfl (by decide) (by rfl) rr trivial
  | r1 y1_0 =>
   refine Mach.ok_bind (fun z2 c2 => ?_)
   cases z2 with
   | r0 y2_0 =>
    refine Mach.ok_bind (fun z3 c3 => ?_)
    cases z3 with
    | r0 y3_0 =>
     refine Mach.ok_ite (fun g4 => ?_) (fun g4 => ?_)
     ·
      subst g4
      refine Mach.ok_ite (fun g5 => ?_) (fun g5 => ?_)
      ·
       refine Mach.ok_bind (fun z6 c6 => ?_)
       cases z6 with
       | r0 =>
        exact Mach.ok_fin (M := Zu L0 a1 a2 a3 N) (cd := 1000000) (cm := 0) (r := (.r0 (true) : Zl)) (fu := 4000) (orc := (Zi [(0, false), (1, true)] [] [] [] [(0, (ZaZ (v2) (a1) (a2) (a3)  y1_0 1 2)), (1, (ZaM (v2) (a1) (a2) (a3)  y2_0 1 3)), (2, (Zcw (y1_0)  true 2 3)), (3, (Zby     3))])) (live := []) (u := vT) (bl := []) (ob := [(dP (Zbk #[]     3), true), (((0 : Int) == y2_0), true), (dP (ZbW #[vs 2 0 y1_0.length y1_0.length, vn] (y1_0)  true 2 3), true), (dS (Zd eI y1_0), true), (dP (Za9 #[vs 1 0 v2.length v2.length, Value.agg #[vi a1, vi a2], vi a3] (v2) (a1) (a2) (a3)  y2_0 1 3), true), (dS (Zd E_iiiiiiiA v2), true), (dP (ZaJ #[vs 1 0 v2.length v2.length, Value.agg #[vi a1, vi a2], vi a3] (v2) (a1) (a2) (a3)  y1_0 1 2), true), (dS (Zd E_iiiiiiiA v2), true), ((decide ((v3 : Int) < (L0.length : Int))), false)]) (fun gv => by kernel_rfl) (Zb (Zg (Zbz #[]    N c6  3 rfl (by decide) (by decide))) <| oT <| Zb (Zg (Zcx #[vs 2 0 y1_0.length y1_0.length, vn] (y1_0)  true N c3 2 3 rfl (by decide) (by decide))) <| oR <| Zb (Zg (ZaN #[vs 1 0 v2.length v2.length, Value.agg #[vi a1, vi a2], vi a3] (v2) (a1) (a2) (a3)  y2_0 N c2 1 3 rfl (by decide) (by decide))) <| oR <| Zb (Zg (Zba #[vs 1 0 v2.length v2.length, Value.agg #[vi a1, vi a2], vi a3] (v2) (a1) (a2) (a3)  y1_0 N c1 1 2 rfl (by decide) (by decide))) <| oR <| oN Ze) rfl (by decide) (by rfl) rr trivial
      ·
       exact Mach.ok_fin (M := Zu L0 a1 a2 a3 N) (cd := 1000000) (cm := 0) (r := (.r0 (false) : Zl)) (fu := 4000) (orc := (Zi [(0, false), (1, false)] [] [] [] [(0, (ZaZ (v2) (a1) (a2) (a3)  y1_0 1 2)), (1, (ZaM (v2) (a1) (a2) (a3)  y2_0 1 3)), (2, (Zcw (y1_0)  true 2 3))])) (live := []) (u := vf) (bl := []) (ob := [(((0 : Int) == y2_0), false), (dP (ZbW #[vs 2 0 y1_0.length y1_0.length, vn] (y1_0)  true 2 3), true), (dS (Zd eI y1_0), true), (dP (Za9 #[vs 1 0 v2.length v2.length, Value.agg #[vi a1, vi a2], vi a3] (v2) (a1) (a2) (a3)  y2_0 1 3), true), (dS (Zd E_iiiiiiiA v2), true), (dP (ZaJ #[vs 1 0 v2.length v2.length, Value.agg #[vi a1, vi a2], vi a3] (v2) (a1) (a2) (a3)  y1_0 1 2), true), (dS (Zd E_iiiiiiiA v2), true), ((decide ((v3 : Int) < (L0.length : Int))), false)]) (fun gv => by kernel_rfl) (oF <| Zb (Zg (Zcx #[vs 2 0 y1_0.length y1_0.length, vn] (y1_0)  true N c3 2 3 rfl (by decide) (by decide))) <| oR <| Zb (Zg (ZaN #[vs 1 0 v2.length v2.length, Value.agg #[vi a1, vi a2], vi a3] (v2) (a1) (a2) (a3)  y2_0 N c2 1 3 rfl (by decide) (by decide))) <| oR <| Zb (Zg (Zba #[vs 1 0 v2.length v2.length, Value.agg #[vi a1, vi a2], vi a3] (v2) (a1) (a2) (a3)  y1_0 N c1 1 2 rfl (by decide) (by decide))) <| oR <| oN Ze) rfl (by decide) (by rfl) rr trivial
     ·
      obtain rfl : y3_0 = false := by simpa using g4
      exact Mach.ok_fin (M := Zu L0 a1 a2 a3 N) (cd := 1000000) (cm := 0) (r := (.r0 (false) : Zl)) (fu := 4000) (orc := (Zi [(0, false)] [] [] [] [(0, (ZaZ (v2) (a1) (a2) (a3)  y1_0 1 2)), (1, (ZaM (v2) (a1) (a2) (a3)  y2_0 1 3)), (2, (Zcw (y1_0)  false 2 3))])) (live := []) (u := vf) (bl := []) (ob := [(dP (ZbW #[vs 2 0 y1_0.length y1_0.length, vn] (y1_0)  false 2 3), true), (dS (Zd eI y1_0), true), (dP (Za9 #[vs 1 0 v2.length v2.length, Value.agg #[vi a1, vi a2], vi a3] (v2) (a1) (a2) (a3)  y2_0 1 3), true), (dS (Zd E_iiiiiiiA v2), true), (dP (ZaJ #[vs 1 0 v2.length v2.length, Value.agg #[vi a1, vi a2], vi a3] (v2) (a1) (a2) (a3)  y1_0 1 2), true), (dS (Zd E_iiiiiiiA v2), true), ((decide ((v3 : Int) < (L0.length : Int))), false)]) (fun gv => by kernel_rfl) (Zb (Zg (Zcx #[vs 2 0 y1_0.length y1_0.length, vn] (y1_0)  false N c3 2 3 rfl (by decide) (by decide))) <| oR <| Zb (Zg (ZaN #[vs 1 0 v2.length v2.length, Value.agg #[vi a1, vi a2], vi a3] (v2) (a1) (a2) (a3)  y2_0 N c2 1 3 rfl (by decide) (by decide))) <| oR <| Zb (Zg (Zba #[vs 1 0 v2.length v2.length, Value.agg #[vi a1, vi a2], vi a3] (v2) (a1) (a2) (a3)  y1_0 N c1 1 2 rfl (by decide) (by decide))) <| oR <| oN Ze) rfl (by decide) (by rfl) rr trivial
   | r1 y2_0 =>
    refine Mach.ok_bind (fun z3 c3 => ?_)
    cases z3 with
    | r0 y3_0 =>
     refine Mach.ok_ite (fun g4 => ?_) (fun g4 => ?_)
     ·
      subst g4
      refine Mach.ok_bind (fun z5 c5 => ?_)
      cases z5 with
      | r0 =>
       exact Mach.ok_fin (M := Zu L0 a1 a2 a3 N) (cd := 1000000) (cm := 0) (r := (.r0 (true) : Zl)) (fu := 4000) (orc := (Zi [(0, false)] [] [] [] [(0, (ZaZ (v2) (a1) (a2) (a3)  y1_0 1 2)), (1, (ZaO (v2) (a1) (a2) (a3)  y2_0 1 3)), (2, (Zep (y1_0) (y2_0)  true 2 3 4)), (3, (Zby     4))])) (live := []) (u := vT) (bl := []) (ob := [(dP (Zbk #[]     4), true), (dP (Zdp #[vs 2 0 y1_0.length y1_0.length, vs 3 0 y2_0.length y2_0.length] (y1_0) (y2_0)  true 2 3 4), true), (dS (Zd eI y1_0), true), (dS (Zd eI y2_0), true), (dP (ZaA #[vs 1 0 v2.length v2.length, Value.agg #[vi a1, vi a2], vi a3] (v2) (a1) (a2) (a3)  y2_0 1 3), true), (dS (Zd E_iiiiiiiA v2), true), (dP (ZaJ #[vs 1 0 v2.length v2.length, Value.agg #[vi a1, vi a2], vi a3] (v2) (a1) (a2) (a3)  y1_0 1 2), true), (dS (Zd E_iiiiiiiA v2), true), ((decide ((v3 : Int) < (L0.length : Int))), false)]) (fun gv => by kernel_rfl) (Zb (Zg (Zbz #[]    N c5  4 rfl (by decide) (by decide))) <| Zb (Zg (Zeq #[vs 2 0 y1_0.length y1_0.length, vs 3 0 y2_0.length y2_0.length] (y1_0) (y2_0)  true N c3 2 3 4 rfl (by decide) (by decide))) <| oR <| oR <| Zb (Zg (ZaP #[vs 1 0 v2.length v2.length, Value.agg #[vi a1, vi a2], vi a3] (v2) (a1) (a2) (a3)  y2_0 N c2 1 3 rfl (by decide) (by decide))) <| oR <| Zb (Zg (Zba #[vs 1 0 v2.length v2.length, Value.agg #[vi a1, vi a2], vi a3] (v2) (a1) (a2) (a3)  y1_0 N c1 1 2 rfl (by decide) (by decide))) <| oR <| oN Ze) rfl (by decide) (by rfl) rr trivial
     ·
      obtain rfl : y3_0 = false := by simpa using g4
      exact Mach.ok_fin (M := Zu L0 a1 a2 a3 N) (cd := 1000000) (cm := 0) (r := (.r0 (false) : Zl)) (fu := 4000) (orc := (Zi [(0, false)] [] [] [] [(0, (ZaZ (v2) (a1) (a2) (a3)  y1_0 1 2)), (1, (ZaO (v2) (a1) (a2) (a3)  y2_0 1 3)), (2, (Zep (y1_0) (y2_0)  false 2 3 4))])) (live := []) (u := vf) (bl := []) (ob := [(dP (Zdp #[vs 2 0 y1_0.length y1_0.length, vs 3 0 y2_0.length y2_0.length] (y1_0) (y2_0)  false 2 3 4), true), (dS (Zd eI y1_0), true), (dS (Zd eI y2_0), true), (dP (ZaA #[vs 1 0 v2.length v2.length, Value.agg #[vi a1, vi a2], vi a3] (v2) (a1) (a2) (a3)  y2_0 1 3), true), (dS (Zd E_iiiiiiiA v2), true), (dP (ZaJ #[vs 1 0 v2.length v2.length, Value.agg #[vi a1, vi a2], vi a3] (v2) (a1) (a2) (a3)  y1_0 1 2), true), (dS (Zd E_iiiiiiiA v2), true), ((decide ((v3 : Int) < (L0.length : Int))), false)]) (fun gv => by kernel_rfl) (Zb (Zg (Zeq #[vs 2 0 y1_0.length y1_0.length, vs 3 0 y2_0.length y2_0.length] (y1_0) (y2_0)  false N c3 2 3 4 rfl (by decide) (by decide))) <| oR <| oR <| Zb (Zg (ZaP #[vs 1 0 v2.length v2.length, Value.agg #[vi a1, vi a2], vi a3] (v2) (a1) (a2) (a3)  y2_0 N c2 1 3 rfl (by decide) (by decide))) <| oR <| Zb (Zg (Zba #[vs 1 0 v2.length v2.length, Value.agg #[vi a1, vi a2], vi a3] (v2) (a1) (a2) (a3)  y1_0 N c1 1 2 rfl (by decide) (by decide))) <| oR <| oN Ze) rfl (by decide) (by rfl) rr trivial

theorem Zkf (L0 : List R_iiiiiiiA) (a1 a2 a3 : Int) (N : Nat) : (Zu L0 a1 a2 a3 N).Enter Tryz.prog Zw #[ms E_iiiiiiiA L0, Value.agg #[vi a1, vi a2], vi a3] (Zet L0 a1 a2 a3 N) := by
 unfold Zet
 exact Mach.en_head (bK := Zb1 1) (M := Zu L0 a1 a2 a3 N) (cd := 1000000) (cm := 0) (y := (.h1m0 : law32_FifoItemsX)) (fu := 4000) (orc := (Zi [] [] [] [] [])) (live := [0]) (tv := [some (ms E_iiiiiiiA L0), some (vi a3), some (vp 0 0), some (vn), some (vq)]) (bl := [some (.cells [vi a1, vi a2] 36)]) (ob := []) rfl rfl (show Zx (Zb1 1).2 = [] from rfl) (by kernel_rfl) Ze rfl (by decide) (by rfl) ⟨rr, ⟨rr, ⟨rr, ⟨rr, ⟨rr, trivial⟩⟩⟩⟩⟩ ⟨⟨rfl, ⟨[], by rfl⟩, by rfl⟩, trivial⟩

theorem Zi8 (L0 : List R_iiiiiiiA) (a1 a2 a3 : Int) (N : Nat) (r : Zl) (h : Zhw L0 a1 a2 a3 N = some r) : LSpec Tryz.prog 4 #[ms E_iiiiiiiA L0, Value.agg #[vi a1, vi a2], vi a3] [] (Zhl L0 a1 a2 a3 r) (Zgy L0 a1 a2 a3 r) :=
 Mach.spec ZaC (Zu L0 a1 a2 a3 N) Tryz.func4 (by kernel_rfl) (by kernel_rfl) (fun x => by cases x <;> exact ZS _ rfl) (fun r => by cases r <;> exact ZS _ rfl) (fun x => by
  cases x with
  | h1m0 => exact fun _ => (show ¬ (1 ∈ Zx (Zb1 1).2) from by decide +kernel)
  | h1m1 _ _ => exact fun _ => (show ¬ (1 ∈ Zx (Zb1 1).2) from by decide +kernel)
  ) (fun x => (show (Zu L0 a1 a2 a3 N).Ok Tryz.prog Zw x (Zam L0 a1 a2 a3 N x) from by
  cases x with
  | h1m0 => exact Zik L0 a1 a2 a3 N
  | h1m1 v2 v3 => exact Zil L0 a1 a2 a3 v2 v3 N
  )) (Zkf L0 a1 a2 a3 N) (n := N) h

end Ev
end Go.Proofs.YtpfmkkookmofcaaGreat
/- Plain lemmas: machines step by step, lists by their places. -/
namespace Go.Proofs.YtpfmkkookmofcaaGreat
open Go.RowKit
namespace Ev
section
variable {X R : Type} {step : X → Option (X ⊕ R)} {n : Nat} {x y : X} {r : R}
theorem ZbO (h : step x = some (.inl y)) : Zb6 step (n + 1) x = Zb6 step n y := by simp [Zb6, h]
theorem Zo (h : step x = some (.inr r)) : Zb6 step (n + 1) x = some r := by simp [Zb6, h]
theorem Zhm {o : Option (X ⊕ R)} (h : o = some (.inl x)) : goM step n o = Zb6 step n x := by subst h; rfl
theorem ZeW {o : Option (X ⊕ R)} (h : o = some (.inr r)) : goM step n o = some r := by subst h; rfl
end
section
variable {α : Type}
end
theorem Zpk {α : Type} {c : Prop} [Decidable c] {a b r : α} (h1 : c → a = r) (h2 : ¬ c → b = r) : (if c then a else b) = r := by
 by_cases h : c
 ·rw [if_pos h]; exact h1 h
 ·rw [if_neg h]; exact h2 h
theorem ZR {α : Type} {c : Prop} [Decidable c] {a b r : α} (h : c) (e : a = r) : (if c then a else b) = r := by rw [if_pos h]; exact e
theorem Zbu {α : Type} {c : Prop} [Decidable c] {a b r : α} (h : ¬ c) (e : b = r) : (if c then a else b) = r := by rw [if_neg h]; exact e
theorem Zat {α β : Type} {o : Option α} {a : α} {k : α → Option β} {r : Option β} (h : o = some a) (e : k a = r) : o.bind k = r := by rw [h]; exact e
theorem w64 {x : Int} (h1 : -9223372036854775808 ≤ x) (h2 : x ≤ 9223372036854775807) : IntKind.i64.wrap x = x := wrap_i64 ⟨h1, h2⟩
end Ev
end Go.Proofs.YtpfmkkookmofcaaGreat
/- Look-ups, by a map and along the row: plain. -/
namespace Go.Proofs.YtpfmkkookmofcaaGreat
open Go.RowKit
namespace Ev
namespace Pi
set_option linter.unusedVariables false
set_option linter.unusedSimpArgs false
abbrev Ob := R_iiiiiiiA
def ZfT (L : List Ob) (k l : Int) (j : Nat) : Prop := (L.getD j R_iiiiiiiA.z).a0 = k ∧ (L.getD j R_iiiiiiiA.z).a1 = l
instance (L : List Ob) (k l : Int) (j : Nat) : Decidable (ZfT L k l j) := by unfold ZfT; infer_instance
def hit (L : List Ob) (j : Nat) : Za2 := .r0 (L.getD j R_iiiiiiiA.z).a0 (L.getD j R_iiiiiiiA.z).a1 (L.getD j R_iiiiiiiA.z).a2 (L.getD j R_iiiiiiiA.z).a3 (L.getD j R_iiiiiiiA.z).a4 (L.getD j R_iiiiiiiA.z).a5 (L.getD j R_iiiiiiiA.z).a6 (L.getD j R_iiiiiiiA.z).a7
theorem ZrA {L : List Ob} {k l : Int} {N : Nat} (hL : L.length ≤ 1000) : ∀ d i f, i + d = L.length → d < f →
  (∃ j, i ≤ j ∧ j < L.length ∧ ZfT L k l j ∧ (∀ q, i ≤ q → q < j → ¬ ZfT L k l q) ∧ Zb6 (Zbf L k l N) f (.h1m0 i) = some (hit L j)) ∨ ((∀ q, i ≤ q → q < L.length → ¬ ZfT L k l q) ∧ Zb6 (Zbf L k l N) f (.h1m0 i) = some .r1) := by
 intro d
 induction d with
 | zero =>
  intro i f hi hf
  obtain ⟨f, rfl⟩ : ∃ j, f = j + 1 := ⟨f - 1, by omega⟩
  refine .inr ⟨fun q h1 h2 => by omega, Zo ?_⟩
  show ZaE L k l N i = _
  unfold ZaE
  exact Zbu (by omega) rfl
 | succ d ih =>
  intro i f hi hf
  obtain ⟨f, rfl⟩ : ∃ j, f = j + 1 := ⟨f - 1, by omega⟩
  by_cases h : ZfT L k l i
  ·refine .inl ⟨i, Nat.le_refl _, by omega, h, fun q h1 h2 => by omega, Zo ?_⟩
   show ZaE L k l N i = _
   unfold ZaE
   exact ZR (by omega) (ZR h rfl)
  ·have hs : Zbf L k l N (.h1m0 i) = some (.inl (.h1m0 (i + 1))) := by
    show ZaE L k l N i = _
    unfold ZaE
    exact ZR (by omega) (Zbu h (ZR (by omega) rfl))
   rcases ih (i + 1) f (by omega) (by omega) with ⟨j, h1, h2, h3, h4, h5⟩ | ⟨h1, h2⟩
   ·refine .inl ⟨j, by omega, h2, h3, fun q q1 q2 => ?_, (ZbO hs).trans h5⟩
    by_cases e : q = i
    ·subst e; exact h
    ·exact h4 q (by omega) q2
   ·refine .inr ⟨fun q q1 q2 => ?_, (ZbO hs).trans h2⟩
    by_cases e : q = i
    ·subst e; exact h
    ·exact h1 q (by omega) q2
theorem Zqm (a b v k l : Int) : ∀ M : List RA, Zda (ZbY M a b v) k l = ((k == a && l == b) || Zda M k l)
 | [] => by simp [ZbY, Zda]
 | x :: M => by
  unfold ZbY
  by_cases h : (a == x.a0 && b == x.a1) = true
  ·rw [if_pos h]
   simp only [Bool.and_eq_true, beq_iff_eq] at h
   simp [Zda, h.1, h.2]
  ·rw [if_neg h]
   have ih := Zqm a b v k l M
   unfold Zda at ih ⊢
   rw [List.any_cons, List.any_cons, ih]
   cases (k == x.a0 && l == x.a1) <;> cases (k == a && l == b) <;> rfl
theorem Zqn (a b v k l : Int) : ∀ M : List RA, Zc (ZbY M a b v) k l = if k = a ∧ l = b then v else Zc M k l
 | [] => by
  by_cases h : k = a ∧ l = b
  ·rw [if_pos h]; simp [ZbY, Zc, h.1, h.2]
  ·rw [if_neg h]
   have h' : (k == a && l == b) = false := by cases e : (k == a && l == b) with
    | false => rfl
    | true => simp only [Bool.and_eq_true, beq_iff_eq] at e; exact absurd e h
   simp [ZbY, Zc, h']
 | x :: M => by
  unfold ZbY
  by_cases h : (a == x.a0 && b == x.a1) = true
  ·rw [if_pos h]
   simp only [Bool.and_eq_true, beq_iff_eq] at h
   by_cases hk : k = a ∧ l = b
   ·rw [if_pos hk]; simp [Zc, hk.1, hk.2]
   ·rw [if_neg hk]
    have h' : (k == a && l == b) = false := by cases e : (k == a && l == b) with
     | false => rfl
     | true => simp only [Bool.and_eq_true, beq_iff_eq] at e; exact absurd e hk
    have h'' : (k == x.a0 && l == x.a1) = false := by rw [← h.1, ← h.2]; exact h'
    simp only [Zc, List.find?_cons, h', h'']
  ·rw [if_neg h]
   have ih := Zqn a b v k l M
   cases e : (k == x.a0 && l == x.a1) with
   | true =>
    have hk : ¬ (k = a ∧ l = b) := fun q => by rw [q.1, q.2] at e; exact h e
    rw [if_neg hk]
    simp only [Zc, List.find?_cons, e]
   | false =>
    simp only [Zc, List.find?_cons, e] at ih ⊢
    exact ih
def MI (L : List Ob) (i : Nat) (M : List RA) : Prop := ∀ k l, (∃ j, i ≤ j ∧ j < L.length ∧ ZfT L k l j ∧ (∀ q, i ≤ q → q < j → ¬ ZfT L k l q) ∧ Zda M k l = true ∧ Zc M k l = (j : Int)) ∨ ((∀ q, i ≤ q → q < L.length → ¬ ZfT L k l q) ∧ Zda M k l = false)
theorem ZsT (L : List Ob) : MI L L.length [] := fun k l => .inr ⟨fun q h1 h2 => by omega, rfl⟩
theorem ZsU {L : List Ob} {i : Nat} {M : List RA} (hi : i < L.length) (h : MI L (i + 1) M) : MI L i (ZbY M (L.getD i R_iiiiiiiA.z).a0 (L.getD i R_iiiiiiiA.z).a1 (i : Int)) := by
 intro k l
 rw [Zqm, Zqn]
 by_cases hk : ZfT L k l i
 ·refine .inl ⟨i, Nat.le_refl _, hi, hk, fun q h1 h2 => by omega, ?_, if_pos ⟨hk.1.symm, hk.2.symm⟩⟩
  rw [hk.1, hk.2]; simp
 ·have hn : ¬ (k = (L.getD i R_iiiiiiiA.z).a0 ∧ l = (L.getD i R_iiiiiiiA.z).a1) := fun q => hk ⟨q.1.symm, q.2.symm⟩
  have hb : (k == (L.getD i R_iiiiiiiA.z).a0 && l == (L.getD i R_iiiiiiiA.z).a1) = false := by
   cases e : (k == (L.getD i R_iiiiiiiA.z).a0 && l == (L.getD i R_iiiiiiiA.z).a1) with
   | false => rfl
   | true => simp only [Bool.and_eq_true, beq_iff_eq] at e; exact absurd e hn
  rw [if_neg hn, hb, Bool.false_or]
  rcases h k l with ⟨j, h1, h2, h3, h4, h5, h6⟩ | ⟨h1, h2⟩
  ·refine .inl ⟨j, by omega, h2, h3, fun q q1 q2 => ?_, h5, h6⟩
   by_cases e : q = i
   ·subst e; exact hk
   ·exact h4 q (by omega) q2
  ·refine .inr ⟨fun q q1 q2 => ?_, h2⟩
   by_cases e : q = i
   ·subst e; exact hk
   ·exact h1 q (by omega) q2
theorem Zan {L : List Ob} {M : List RA} {N : Nat} (h : MI L 0 M) (hL : L.length ≤ 1000) (hN : 2000 ≤ N) (k l : Int) :
  (∃ j, j < L.length ∧ (Zc M k l).toNat = j ∧ ZbC L k l N = some (hit L j) ∧ Za1 k l M L N = some (if k = 2 ∧ ¬ l = 0 then .r1 else .r0)) ∨ (ZbC L k l N = some .r1 ∧ Za1 k l M L N = some .r0) := by
 have hf := ZrA (k := k) (l := l) (N := N) hL L.length 0 N (by omega) (by omega)
 have hg : ZbC L k l N = Zb6 (Zbf L k l N) N (.h1m0 0) := Zhm rfl
 rw [hg]
 rcases h k l with ⟨j, h1, h2, h3, h4, h5, h6⟩ | ⟨h1, h2⟩
 ·rcases hf with ⟨j', q1, q2, q3, q4, q5⟩ | ⟨q1, q2⟩
  ·have e : j' = j := by
    rcases Nat.lt_trichotomy j j' with e | e | e
    ·exact absurd h3 (q4 j (by omega) e)
    ·exact e.symm
    ·exact absurd q3 (h4 j' (by omega) e)
   subst e
   refine .inl ⟨j', h2, by rw [h6]; rfl, q5, ?_⟩
   unfold Za1
   refine ZR h5 ?_
   by_cases hk : k = 2
   ·by_cases hl : l = 0
    ·exact (Zbu (fun q => q hk) (ZR ⟨hk, hl⟩ rfl)).trans (congrArg some (if_neg (fun q => q.2 hl)).symm)
    ·exact (Zbu (fun q => q hk) (Zbu (fun q => hl q.2) (ZR (by omega) (ZR (by rw [h6]; exact h2) rfl)))).trans (congrArg some (if_pos ⟨hk, hl⟩).symm)
   ·exact (ZR hk rfl).trans (congrArg some (if_neg (fun q => hk q.1)).symm)
  ·exact absurd h3 (q1 j (by omega) h2)
 ·rcases hf with ⟨j', q1, q2, q3, q4, q5⟩ | ⟨q1, q2⟩
  ·exact absurd q3 (h1 j' (by omega) q2)
  ·refine .inr ⟨q2, ?_⟩
   unfold Za1
   exact Zbu (by rw [h2]; simp) rfl
theorem built {L : List Ob} {a1 a2 a3 : Int} {N : Nat} (hL : L.length ≤ 1000) : ∀ i f M, i ≤ L.length → MI L i M → ∃ M', MI L 0 M' ∧ Zb6 (ZQ L a1 a2 a3 N) (f + i) (.h1m0 ((i : Int) - 1) M) = Zb6 (ZQ L a1 a2 a3 N) f (.h1m0 (-1) M')
 | 0, f, M, _, h => ⟨M, h, rfl⟩
 | i + 1, f, M, hi, h => by
  obtain ⟨M', h1, h2⟩ := built (a1 := a1) (a2 := a2) (a3 := a3) (N := N) hL i f _ (by omega) (ZsU (by omega) h)
  refine ⟨M', h1, (ZbO (n := f + i) ?_).trans h2⟩
  show Zbo L a1 a2 a3 N _ _ = _
  unfold Zbo
  have e : (((i + 1 : Nat) : Int) - 1) = (i : Int) := by omega
  rw [e]
  have ew : IntKind.i64.wrap ((i : Int) - 1) = (i : Int) - 1 := w64 (by omega) (by omega)
  refine ZR (by omega) (ZR (by show i < L.length; omega) ?_)
  rw [ew]; rfl
def Zh3 (x : Ob) : Prop := x.a5 ≠ 3 ∧ (x.a7.length : Int) = 2 ∧ (x.a7.getD 0 R_ii.z).a0 = 2 ∧ (x.a7.getD 1 R_ii.z).a0 = 1
instance (x : Ob) : Decidable (Zh3 x) := by unfold Zh3; infer_instance
theorem ZmP (x : Ob) (N : Nat) : Zcp x.a0 x.a1 x.a2 x.a3 x.a4 x.a5 x.a6 x.a7 N = some (.r0 (decide (Zh3 x))) := by
 unfold Zcp
 by_cases h1 : x.a5 = 3
 ·rw [decide_eq_false (show ¬ Zh3 x from fun q => q.1 h1)]; exact Zbu (fun q => q h1) rfl
 ·refine ZR h1 ?_
  by_cases h2 : (x.a7.length : Int) = 2
  ·refine ZR h2 ?_
   by_cases h3 : (x.a7.getD 0 R_ii.z).a0 = 2
   ·refine ZR h3 ?_
    by_cases h4 : (x.a7.getD 1 R_ii.z).a0 = 1
    ·rw [decide_eq_true (show Zh3 x from ⟨h1, h2, h3, h4⟩)]; exact ZR h4 rfl
    ·rw [decide_eq_false (show ¬ Zh3 x from fun q => h4 q.2.2.2)]; exact Zbu h4 rfl
   ·rw [decide_eq_false (show ¬ Zh3 x from fun q => h3 q.2.2.1)]; exact Zbu h3 rfl
  ·rw [decide_eq_false (show ¬ Zh3 x from fun q => h2 q.2.1)]; exact Zbu h2 rfl
end Pi
end Ev
end Go.Proofs.YtpfmkkookmofcaaGreat
/- The ZqU: plain. -/
namespace Go.Proofs.YtpfmkkookmofcaaGreat
open Go.RowKit
namespace Ev
namespace Pi
set_option linter.unusedVariables false
set_option linter.unusedSimpArgs false
def eqR : Zp → Zj → Prop
 | .r0 a, .r0 b => a = b
 | .r1 l, .r1 m => l = m ∧ l.length ≤ 1000
 | _, _ => False
section
variable {L : List Ob} {M : List RA} {a1 a2 a3 : Int} {N : Nat}
theorem ZqU (hM : MI L 0 M) (hL : L.length ≤ 1000) (hN : 2000 ≤ N) : ∀ m f g out v3 v4 v5 v6 v7 v8 v9 v10 la lb ma mb ea eb va vb, out.length + m = L.length → m < f → m + 1 < g →
  ∃ rp rd, Zb6 (ZQ L a1 a2 a3 N) f (.h2m1 out M v3 v4 v5 v6 v7 v8 v9 v10 la lb ma mb ea eb va vb) = some rp ∧ Zb6 (Za0 L a1 a2 a3 N) g (.h1m1 out out.length va vb la lb ma mb ea eb) = some rd ∧ eqR rp rd := by
 intro m
 induction m with
 | zero =>
  intro f g out v3 v4 v5 v6 v7 v8 v9 v10 la lb ma mb ea eb va vb hm hf hg
  obtain ⟨f, rfl⟩ : ∃ j, f = j + 1 := ⟨f - 1, by omega⟩
  obtain ⟨g, rfl⟩ : ∃ j, g = j + 1 := ⟨g - 1, by omega⟩
  have hP : ZQ L a1 a2 a3 N (.h2m1 out M v3 v4 v5 v6 v7 v8 v9 v10 la lb ma mb ea eb va vb) = Zbp L a1 a2 a3 N out M v3 v4 v5 v6 v7 v8 v9 v10 la lb ma mb ea eb va vb := rfl
  have hD : Za0 L a1 a2 a3 N (.h1m1 out out.length va vb la lb ma mb ea eb) = Za8 L a1 a2 a3 N out out.length va vb la lb ma mb ea eb := rfl
  unfold Zbp at hP
  unfold Za8 at hD
  rw [if_pos (by omega)] at hD
  by_cases h0 : va = 2 ∧ vb = 0
  ·rw [if_pos h0] at hP hD
   by_cases h1 : ea = la ∧ eb = lb
   ·rw [if_neg (fun q => q h1)] at hP hD
    by_cases h2 : mb = (out.length : Int)
    ·rw [if_neg (fun q => q h2)] at hP hD
     exact ⟨_, _, Zo hP, Zo hD, ⟨rfl, by omega⟩⟩
    ·rw [if_pos h2] at hP hD
     exact ⟨_, _, Zo hP, Zo hD, rfl⟩
   ·rw [if_pos h1] at hP hD
    exact ⟨_, _, Zo hP, Zo hD, rfl⟩
  ·rw [if_neg h0] at hP hD
   rcases Zan hM hL hN va vb with ⟨j, hj, hg, hF, hP'⟩ | ⟨hF, hP'⟩
   ·rw [hF] at hD
    rw [hP', hg] at hP
    simp only [hit, Option.bind_some] at hD
    by_cases h2 : va = 2
    ·have hb : ¬ vb = 0 := fun q => h0 ⟨h2, q⟩
     rw [if_pos ⟨h2, hb⟩] at hP
     simp only [Option.bind_some] at hP
     rw [ZmP] at hP
     simp only [Option.bind_some] at hP
     rw [if_neg (fun q => q h2)] at hD
     by_cases h5 : (L.getD j R_iiiiiiiA.z).a5 = 3
     ·rw [if_pos (by rw [decide_eq_true_eq]; exact fun q => q.1 h5)] at hP
      rw [if_pos h5] at hD
      exact ⟨_, _, Zo hP, Zo hD, rfl⟩
     ·rw [if_neg h5] at hD
      by_cases h6 : (((L.getD j R_iiiiiiiA.z).a7.length : Nat) : Int) = 2
      ·rw [if_neg (fun q => q h6)] at hD
       by_cases h7 : ((L.getD j R_iiiiiiiA.z).a7.getD 0 R_ii.z).a0 = 2
       ·rw [if_neg (fun q => q h7)] at hD
        by_cases h8 : ((L.getD j R_iiiiiiiA.z).a7.getD 1 R_ii.z).a0 = 1
        ·rw [if_neg (fun q => q h8)] at hD
         rw [if_neg (by rw [decide_eq_true_eq]; exact fun q => q ⟨h5, h6, h7, h8⟩)] at hP
         rw [if_pos (by omega)] at hP
         rw [if_pos (by omega), if_pos (by omega)] at hD
         obtain ⟨g, rfl⟩ : ∃ j, g = j + 1 := ⟨g - 1, by omega⟩
         refine ⟨_, .r0 240, Zo hP, (ZbO hD).trans (Zo ?_), rfl⟩
         show Za8 L a1 a2 a3 N _ _ _ _ _ _ _ _ _ _ = _
         unfold Za8
         exact Zbu (by omega) rfl
        ·rw [if_pos h8] at hD
         rw [if_pos (by rw [decide_eq_true_eq]; exact fun q => h8 q.2.2.2)] at hP
         exact ⟨_, _, Zo hP, Zo hD, rfl⟩
       ·rw [if_pos h7] at hD
        rw [if_pos (by rw [decide_eq_true_eq]; exact fun q => h7 q.2.2.1)] at hP
        exact ⟨_, _, Zo hP, Zo hD, rfl⟩
      ·rw [if_pos h6] at hD
       rw [if_pos (by rw [decide_eq_true_eq]; exact fun q => h6 q.2.1)] at hP
       exact ⟨_, _, Zo hP, Zo hD, rfl⟩
    ·rw [if_neg (fun q => h2 q.1)] at hP
     simp only [Option.bind_some] at hP
     rw [if_pos h2] at hD
     exact ⟨_, _, Zo hP, Zo hD, rfl⟩
   ·rw [hF] at hD
    rw [hP'] at hP
    simp only [Option.bind_some] at hP hD
    exact ⟨_, _, Zo hP, Zo hD, rfl⟩
 | succ m ih =>
  intro f g out v3 v4 v5 v6 v7 v8 v9 v10 la lb ma mb ea eb va vb hm hf hg
  obtain ⟨f, rfl⟩ : ∃ j, f = j + 1 := ⟨f - 1, by omega⟩
  obtain ⟨g, rfl⟩ : ∃ j, g = j + 1 := ⟨g - 1, by omega⟩
  have hP : ZQ L a1 a2 a3 N (.h2m1 out M v3 v4 v5 v6 v7 v8 v9 v10 la lb ma mb ea eb va vb) = Zbp L a1 a2 a3 N out M v3 v4 v5 v6 v7 v8 v9 v10 la lb ma mb ea eb va vb := rfl
  have hD : Za0 L a1 a2 a3 N (.h1m1 out out.length va vb la lb ma mb ea eb) = Za8 L a1 a2 a3 N out out.length va vb la lb ma mb ea eb := rfl
  unfold Zbp at hP
  unfold Za8 at hD
  rw [if_pos (by omega)] at hD
  by_cases h0 : va = 2 ∧ vb = 0
  ·rw [if_pos h0] at hP hD
   by_cases h1 : ea = la ∧ eb = lb
   ·rw [if_neg (fun q => q h1)] at hP hD
    by_cases h2 : mb = (out.length : Int)
    ·rw [if_neg (fun q => q h2)] at hP hD
     exact ⟨_, _, Zo hP, Zo hD, ⟨rfl, by omega⟩⟩
    ·rw [if_pos h2] at hP hD
     exact ⟨_, _, Zo hP, Zo hD, rfl⟩
   ·rw [if_pos h1] at hP hD
    exact ⟨_, _, Zo hP, Zo hD, rfl⟩
  ·rw [if_neg h0] at hP hD
   rcases Zan hM hL hN va vb with ⟨j, hj, hg, hF, hP'⟩ | ⟨hF, hP'⟩
   ·rw [hF] at hD
    rw [hP', hg] at hP
    simp only [hit, Option.bind_some] at hD
    by_cases h2 : va = 2
    ·have hb : ¬ vb = 0 := fun q => h0 ⟨h2, q⟩
     rw [if_pos ⟨h2, hb⟩] at hP
     simp only [Option.bind_some] at hP
     rw [ZmP] at hP
     simp only [Option.bind_some] at hP
     rw [if_neg (fun q => q h2)] at hD
     by_cases h5 : (L.getD j R_iiiiiiiA.z).a5 = 3
     ·rw [if_pos (by rw [decide_eq_true_eq]; exact fun q => q.1 h5)] at hP
      rw [if_pos h5] at hD
      exact ⟨_, _, Zo hP, Zo hD, rfl⟩
     ·rw [if_neg h5] at hD
      by_cases h6 : (((L.getD j R_iiiiiiiA.z).a7.length : Nat) : Int) = 2
      ·rw [if_neg (fun q => q h6)] at hD
       by_cases h7 : ((L.getD j R_iiiiiiiA.z).a7.getD 0 R_ii.z).a0 = 2
       ·rw [if_neg (fun q => q h7)] at hD
        by_cases h8 : ((L.getD j R_iiiiiiiA.z).a7.getD 1 R_ii.z).a0 = 1
        ·rw [if_neg (fun q => q h8)] at hD
         rw [if_neg (by rw [decide_eq_true_eq]; exact fun q => q ⟨h5, h6, h7, h8⟩)] at hP
         rw [if_neg (by omega), if_pos (by omega), if_pos (by omega)] at hP
         rw [if_pos (by omega), if_pos (by omega)] at hD
         have el : (out ++ [((L.getD j R_iiiiiiiA.z).a7.getD 1 R_ii.z).a1]).length = out.length + 1 := by simp
         obtain ⟨rp, rd, k1, k2, k3⟩ := ih f g (out ++ [((L.getD j R_iiiiiiiA.z).a7.getD 1 R_ii.z).a1]) (L.getD j R_iiiiiiiA.z).a0 (L.getD j R_iiiiiiiA.z).a1 (L.getD j R_iiiiiiiA.z).a2 (L.getD j R_iiiiiiiA.z).a3 (L.getD j R_iiiiiiiA.z).a4 (L.getD j R_iiiiiiiA.z).a5 (L.getD j R_iiiiiiiA.z).a6 (L.getD j R_iiiiiiiA.z).a7 la lb ma mb va vb ((L.getD j R_iiiiiiiA.z).a7.getD 0 R_ii.z).a0 ((L.getD j R_iiiiiiiA.z).a7.getD 0 R_ii.z).a1 (by omega) (by omega) (by omega)
         rw [el] at k2
         exact ⟨rp, rd, (ZbO hP).trans k1, (ZbO hD).trans k2, k3⟩
        ·rw [if_pos h8] at hD
         rw [if_pos (by rw [decide_eq_true_eq]; exact fun q => h8 q.2.2.2)] at hP
         exact ⟨_, _, Zo hP, Zo hD, rfl⟩
       ·rw [if_pos h7] at hD
        rw [if_pos (by rw [decide_eq_true_eq]; exact fun q => h7 q.2.2.1)] at hP
        exact ⟨_, _, Zo hP, Zo hD, rfl⟩
      ·rw [if_pos h6] at hD
       rw [if_pos (by rw [decide_eq_true_eq]; exact fun q => h6 q.2.1)] at hP
       exact ⟨_, _, Zo hP, Zo hD, rfl⟩
    ·rw [if_neg (fun q => h2 q.1)] at hP
     simp only [Option.bind_some] at hP
     rw [if_pos h2] at hD
     exact ⟨_, _, Zo hP, Zo hD, rfl⟩
   ·rw [hF] at hD
    rw [hP'] at hP
    simp only [Option.bind_some] at hP hD
    exact ⟨_, _, Zo hP, Zo hD, rfl⟩
theorem walk0 (hM : MI L 0 M) (hL : L.length ≤ 1000) (hN : 2000 ≤ N) (f g : Nat) (v3 v4 v5 v6 v7 v8 v9 : Int) (v10 : List R_ii) (la lb ma mb va vb : Int) (hf : L.length + 1 < f) (hg : L.length + 2 < g) :
  ∃ rp rd, Zb6 (ZQ L a1 a2 a3 N) f (.h2m0 M v3 v4 v5 v6 v7 v8 v9 v10 la lb ma mb va vb) = some rp ∧ Zb6 (Za0 L a1 a2 a3 N) g (.h1m0 va vb la lb ma mb) = some rd ∧ eqR rp rd := by
  obtain ⟨f, rfl⟩ : ∃ j, f = j + 1 := ⟨f - 1, by omega⟩
  obtain ⟨g, rfl⟩ : ∃ j, g = j + 1 := ⟨g - 1, by omega⟩
  have hP : ZQ L a1 a2 a3 N (.h2m0 M v3 v4 v5 v6 v7 v8 v9 v10 la lb ma mb va vb) = Zck L a1 a2 a3 N M v3 v4 v5 v6 v7 v8 v9 v10 la lb ma mb va vb := rfl
  have hD : Za0 L a1 a2 a3 N (.h1m0 va vb la lb ma mb) = Zcb L a1 a2 a3 N va vb la lb ma mb := rfl
  unfold Zck at hP
  unfold Zcb at hD
  by_cases h0 : va = 2 ∧ vb = 0
  ·rw [if_pos h0] at hP hD
   by_cases h1 : (2 : Int) = la ∧ (0 : Int) = lb
   ·rw [if_neg (fun q => q h1)] at hP hD
    by_cases h2 : mb = 0
    ·rw [if_neg (fun q => q h2)] at hP hD
     exact ⟨_, _, Zo hP, Zo hD, rfl⟩
    ·rw [if_pos h2] at hP hD
     exact ⟨_, _, Zo hP, Zo hD, rfl⟩
   ·rw [if_pos h1] at hP hD
    exact ⟨_, _, Zo hP, Zo hD, rfl⟩
  ·rw [if_neg h0] at hP hD
   rcases Zan hM hL hN va vb with ⟨j, hj, hg, hF, hP'⟩ | ⟨hF, hP'⟩
   ·rw [hF] at hD
    rw [hP', hg] at hP
    simp only [hit, Option.bind_some] at hD
    by_cases h2 : va = 2
    ·have hb : ¬ vb = 0 := fun q => h0 ⟨h2, q⟩
     rw [if_pos ⟨h2, hb⟩] at hP
     simp only [Option.bind_some] at hP
     rw [ZmP] at hP
     simp only [Option.bind_some] at hP
     rw [if_neg (fun q => q h2)] at hD
     by_cases h5 : (L.getD j R_iiiiiiiA.z).a5 = 3
     ·rw [if_pos (by rw [decide_eq_true_eq]; exact fun q => q.1 h5)] at hP
      rw [if_pos h5] at hD
      exact ⟨_, _, Zo hP, Zo hD, rfl⟩
     ·rw [if_neg h5] at hD
      by_cases h6 : (((L.getD j R_iiiiiiiA.z).a7.length : Nat) : Int) = 2
      ·rw [if_neg (fun q => q h6)] at hD
       by_cases h7 : ((L.getD j R_iiiiiiiA.z).a7.getD 0 R_ii.z).a0 = 2
       ·rw [if_neg (fun q => q h7)] at hD
        by_cases h8 : ((L.getD j R_iiiiiiiA.z).a7.getD 1 R_ii.z).a0 = 1
        ·rw [if_neg (fun q => q h8)] at hD
         rw [if_neg (by rw [decide_eq_true_eq]; exact fun q => q ⟨h5, h6, h7, h8⟩)] at hP
         rw [if_neg (by omega), if_pos (by omega)] at hP
         obtain ⟨rp, rd, k1, k2, k3⟩ := ZqU (a1 := a1) (a2 := a2) (a3 := a3) hM hL hN (L.length - 1) f g [((L.getD j R_iiiiiiiA.z).a7.getD 1 R_ii.z).a1] (L.getD j R_iiiiiiiA.z).a0 (L.getD j R_iiiiiiiA.z).a1 (L.getD j R_iiiiiiiA.z).a2 (L.getD j R_iiiiiiiA.z).a3 (L.getD j R_iiiiiiiA.z).a4 (L.getD j R_iiiiiiiA.z).a5 (L.getD j R_iiiiiiiA.z).a6 (L.getD j R_iiiiiiiA.z).a7 la lb ma mb va vb ((L.getD j R_iiiiiiiA.z).a7.getD 0 R_ii.z).a0 ((L.getD j R_iiiiiiiA.z).a7.getD 0 R_ii.z).a1 (by simp; omega) (by omega) (by omega)
         exact ⟨rp, rd, (ZbO hP).trans k1, (ZbO hD).trans k2, k3⟩
        ·rw [if_pos h8] at hD
         rw [if_pos (by rw [decide_eq_true_eq]; exact fun q => h8 q.2.2.2)] at hP
         exact ⟨_, _, Zo hP, Zo hD, rfl⟩
       ·rw [if_pos h7] at hD
        rw [if_pos (by rw [decide_eq_true_eq]; exact fun q => h7 q.2.2.1)] at hP
        exact ⟨_, _, Zo hP, Zo hD, rfl⟩
      ·rw [if_pos h6] at hD
       rw [if_pos (by rw [decide_eq_true_eq]; exact fun q => h6 q.2.1)] at hP
       exact ⟨_, _, Zo hP, Zo hD, rfl⟩
    ·rw [if_neg (fun q => h2 q.1)] at hP
     simp only [Option.bind_some] at hP
     rw [if_pos h2] at hD
     exact ⟨_, _, Zo hP, Zo hD, rfl⟩
   ·rw [hF] at hD
    rw [hP'] at hP
    simp only [Option.bind_some] at hP hD
    exact ⟨_, _, Zo hP, Zo hD, rfl⟩
theorem Zsm (hL : L.length ≤ 1000) (hN : 10000 ≤ N) : ∃ rp rd, Zc3 L a1 a2 a3 N = some rp ∧ Zbv L a1 a2 a3 N = some rd ∧ eqR rp rd := by
 obtain ⟨n, rfl⟩ : ∃ n, N = (n + 1) + L.length := ⟨N - L.length - 1, by omega⟩
 obtain ⟨M, hM, hb⟩ := built (a1 := a1) (a2 := a2) (a3 := a3) (N := (n + 1) + L.length) hL L.length (n + 1) [] (Nat.le_refl _) (ZsT L)
 have hp : Zc3 L a1 a2 a3 ((n + 1) + L.length) = Zb6 (ZQ L a1 a2 a3 ((n + 1) + L.length)) (n + 1) (.h1m0 (-1) M) := (Zhm (x := .h1m0 ((L.length : Int) - 1) []) (by unfold Zeh; exact ZR (by omega) rfl)).trans hb
 rw [hp]
 have hP : ZQ L a1 a2 a3 ((n + 1) + L.length) (.h1m0 (-1) M) = Zbo L a1 a2 a3 ((n + 1) + L.length) (-1) M := rfl
 unfold Zbo at hP
 rw [if_neg (by omega)] at hP
 have hD : Zce L a1 a2 a3 ((n + 1) + L.length) = Zce L a1 a2 a3 ((n + 1) + L.length) := rfl
 conv at hD => rhs; unfold Zce
 rcases Zan hM hL (show 2000 ≤ (n + 1) + L.length by omega) a1 a2 with ⟨j, hj, hg, hF, hP'⟩ | ⟨hF, hP'⟩
 ·rw [hF] at hD
  rw [hP', hg] at hP
  simp only [hit, Option.bind_some] at hD
  have bad : (¬ (a1 = 2 ∧ ¬ a2 = 0)) → ∃ rp rd, Zb6 (ZQ L a1 a2 a3 ((n + 1) + L.length)) (n + 1) (.h1m0 (-1) M) = some rp ∧ Zbv L a1 a2 a3 ((n + 1) + L.length) = some rd ∧ eqR rp rd := fun q => by
   rw [if_neg q] at hP
   simp only [Option.bind_some] at hP
   refine ⟨_, .r0 240, Zo hP, ZeW (hD.trans ?_), rfl⟩
   refine Zpk (fun _ => rfl) (fun _ => Zpk (fun _ => rfl) (fun _ => Zpk (fun _ => rfl) (fun h1 => ZR ?_ rfl)))
   exact Classical.byContradiction fun h2 => q ⟨Classical.byContradiction h1, h2⟩
  by_cases hq : a1 = 2 ∧ ¬ a2 = 0
  ·rw [if_pos hq] at hP
   simp only [Option.bind_some] at hP
   by_cases h3 : 0 ≤ a3
   ·rw [if_pos h3] at hP
    rw [if_neg (by omega)] at hD
    by_cases h4 : a3 ≤ 3
    ·rw [if_pos h4] at hP
     rw [if_neg (by omega), if_neg (fun q => q hq.1), if_neg hq.2] at hD
     by_cases h5 : (((L.getD j R_iiiiiiiA.z).a7.length : Nat) : Int) < 12
     ·rw [if_pos h5] at hP hD
      exact ⟨_, _, Zo hP, ZeW hD, rfl⟩
     ·rw [if_neg h5] at hP hD
      by_cases h6 : ((L.getD j R_iiiiiiiA.z).a7.getD ((2 : Int) * a3).toNat R_ii.z).a0 = 2
      ·rw [if_neg (fun q => q h6)] at hP hD
       by_cases h7 : ((L.getD j R_iiiiiiiA.z).a7.getD (((2 : Int) * a3) + 1).toNat R_ii.z).a0 = 2
       ·rw [if_neg (fun q => q h7)] at hP hD
        by_cases h8 : ((L.getD j R_iiiiiiiA.z).a7.getD ((8 : Int) + a3).toNat R_ii.z).a0 = 1
        ·rw [if_neg (fun q => q h8)] at hP hD
         obtain ⟨rp, rd, k1, k2, k3⟩ := walk0 (a1 := a1) (a2 := a2) (a3 := a3) hM hL (show 2000 ≤ (n + 1) + L.length by omega) n ((n + 1) + L.length) _ _ _ _ _ _ _ _ _ _ _ _ _ _ (by omega) (by omega)
         exact ⟨rp, rd, (ZbO hP).trans k1, (Zhm hD).trans k2, k3⟩
        ·rw [if_pos h8] at hP hD
         exact ⟨_, _, Zo hP, ZeW hD, rfl⟩
       ·rw [if_pos h7] at hP hD
        exact ⟨_, _, Zo hP, ZeW hD, rfl⟩
      ·rw [if_pos h6] at hP hD
       exact ⟨_, _, Zo hP, ZeW hD, rfl⟩
    ·rw [if_neg h4] at hP
     rw [if_pos (by omega)] at hD
     exact ⟨_, _, Zo hP, ZeW hD, rfl⟩
   ·rw [if_neg h3] at hP
    rw [if_pos (by omega)] at hD
    exact ⟨_, _, Zo hP, ZeW hD, rfl⟩
  ·exact bad hq
 ·rw [hF] at hD
  rw [hP'] at hP
  simp only [Option.bind_some] at hP hD
  exact ⟨_, _, Zo hP, ZeW hD, rfl⟩
end
end Pi
end Ev
end Go.Proofs.YtpfmkkookmofcaaGreat
/- The law: plain. -/
namespace Go.Proofs.YtpfmkkookmofcaaGreat
open Go.RowKit
namespace Ev
namespace Pi
set_option linter.unusedVariables false
set_option linter.unusedSimpArgs false
theorem ZqV (l : List Int) (N : Nat) (hl : l.length ≤ 1000) (hN : 2000 ≤ N) : ZdO l l N = some (.r0 true) := by
 refine (Zhm (x := .h1m0 0) ?_).trans ?_
 ·unfold Zei
  exact Zbu (fun q => q rfl) rfl
 have go : ∀ d k f, k + d = l.length → d < f → Zb6 (Zc4 l l N) f (.h1m0 k) = some (.r0 true) := by
  intro d
  induction d with
  | zero =>
   intro k f hk hf
   obtain ⟨f, rfl⟩ : ∃ j, f = j + 1 := ⟨f - 1, by omega⟩
   refine Zo ?_
   show Zbq l l N k = _
   unfold Zbq
   exact Zbu (by omega) rfl
  | succ d ih =>
   intro k f hk hf
   obtain ⟨f, rfl⟩ : ∃ j, f = j + 1 := ⟨f - 1, by omega⟩
   refine (ZbO ?_).trans (ih (k + 1) f (by omega) (by omega))
   show Zbq l l N k = _
   unfold Zbq
   exact ZR (by omega) (ZR (by omega) (Zbu (fun q => q rfl) (ZR (by omega) rfl)))
 exact go l.length 0 N (by omega) (by omega)
theorem ZeM : ZaL 100000 = some .r0 := by kernel_rfl
theorem ZnU : Zed 100000 = some .r0 := by kernel_rfl
theorem p0 (a b c : Int) : Zg8 a b c 100000 = some .r0 := by
 have h : Zc1 a b [] 100000 = some .r0 := by unfold Zc1; exact Zbu (by simp [Zda]) rfl
 refine (Zhm (x := fifo_ItemsX.h1m0) rfl).trans ?_
 refine Zo (n := 99999) ?_
 show ZcM a b c 100000 = _
 unfold ZcM
 exact Zat h rfl
theorem d0 (a b c : Int) : ZcU a b c 100000 = some .r0 := by
 have h : Zg9 a b 100000 = some .r0 := by
  refine (Zhm (x := ref16_FindX.h1m0) rfl).trans ?_
  exact Zo (n := 99999) rfl
 unfold ZcU
 exact Zat h rfl
theorem round (L0 : List Ob) (a1 a2 a3 : Int) : ∀ d k f v, k + d = 14 → d < f → v.length = k → Zb6 (Zam L0 a1 a2 a3 100000) f (.h1m1 v k) = some (.r0 true) := by
 intro d
 induction d with
 | zero =>
  intro k f v hk hf hv
  obtain ⟨f, rfl⟩ : ∃ j, f = j + 1 := ⟨f - 1, by omega⟩
  refine Zo ?_
  show ZZ L0 a1 a2 a3 100000 v k = _
  unfold ZZ
  by_cases h : k < L0.length
  ·
   obtain ⟨rp, rd, k1, k2, k3⟩ := Zsm (L := v) (a1 := a1) (a2 := a2) (a3 := a3) (N := 100000) (by omega) (by decide)
   refine ZR (by omega) (Zbu (by omega) ?_)
   refine Zat k1 ?_
   cases rp with
   | r0 x =>
    refine Zat k2 ?_
    cases rd with
    | r0 y => exact Zat ZnU (ZR k3 (Zat ZeM rfl))
    | r1 m => exact k3.elim
   | r1 l =>
    refine Zat k2 ?_
    cases rd with
    | r0 y => exact k3.elim
    | r1 m =>
     obtain ⟨rfl, hl⟩ := k3
     exact Zat (ZqV l 100000 hl (by decide)) (ZR rfl (Zat ZeM rfl))
  ·
   obtain ⟨rp, rd, k1, k2, k3⟩ := Zsm (L := v) (a1 := a1) (a2 := a2) (a3 := a3) (N := 100000) (by omega) (by decide)
   refine Zbu (by omega) ?_
   refine Zat k1 ?_
   cases rp with
   | r0 x =>
    refine Zat k2 ?_
    cases rd with
    | r0 y => exact Zat ZnU (ZR k3 (Zat ZeM rfl))
    | r1 m => exact k3.elim
   | r1 l =>
    refine Zat k2 ?_
    cases rd with
    | r0 y => exact k3.elim
    | r1 m =>
     obtain ⟨rfl, hl⟩ := k3
     exact Zat (ZqV l 100000 hl (by decide)) (ZR rfl (Zat ZeM rfl))
 | succ d ih =>
  intro k f v hk hf hv
  obtain ⟨f, rfl⟩ : ∃ j, f = j + 1 := ⟨f - 1, by omega⟩
  by_cases h : k < L0.length
  ·have go : ∀ x : Ob, Zam L0 a1 a2 a3 100000 (.h1m1 v k) = some (.inl (.h1m1 (v ++ [x]) (k + 1))) → Zb6 (Zam L0 a1 a2 a3 100000) (f + 1) (.h1m1 v k) = some (.r0 true) := fun x hx =>
    (ZbO hx).trans (ih (k + 1) f _ (by omega) (by omega) (by simp [hv]))
   by_cases h16 : (16 : Int) < (((L0.getD k R_iiiiiiiA.z).a7.length : Nat) : Int)
   ·refine go ⟨(L0.getD k R_iiiiiiiA.z).a0, (L0.getD k R_iiiiiiiA.z).a1, (L0.getD k R_iiiiiiiA.z).a2, (L0.getD k R_iiiiiiiA.z).a3, (L0.getD k R_iiiiiiiA.z).a4, (L0.getD k R_iiiiiiiA.z).a5, (L0.getD k R_iiiiiiiA.z).a6, ((L0.getD k R_iiiiiiiA.z).a7.take 16)⟩ ?_
    show ZZ L0 a1 a2 a3 100000 v k = _
    unfold ZZ
    exact ZR (by omega) (ZR (by omega) (ZR h16 (ZR (by omega) rfl)))
   ·refine go ⟨(L0.getD k R_iiiiiiiA.z).a0, (L0.getD k R_iiiiiiiA.z).a1, (L0.getD k R_iiiiiiiA.z).a2, (L0.getD k R_iiiiiiiA.z).a3, (L0.getD k R_iiiiiiiA.z).a4, (L0.getD k R_iiiiiiiA.z).a5, (L0.getD k R_iiiiiiiA.z).a6, (L0.getD k R_iiiiiiiA.z).a7⟩ ?_
    show ZZ L0 a1 a2 a3 100000 v k = _
    unfold ZZ
    exact ZR (by omega) (ZR (by omega) (Zbu h16 (ZR (by omega) rfl)))
  ·refine Zo ?_
   show ZZ L0 a1 a2 a3 100000 v k = _
   unfold ZZ
   obtain ⟨rp, rd, k1, k2, k3⟩ := Zsm (L := v) (a1 := a1) (a2 := a2) (a3 := a3) (N := 100000) (by omega) (by decide)
   refine Zbu (by omega) ?_
   refine Zat k1 ?_
   cases rp with
   | r0 x =>
    refine Zat k2 ?_
    cases rd with
    | r0 y => exact Zat ZnU (ZR k3 (Zat ZeM rfl))
    | r1 m => exact k3.elim
   | r1 l =>
    refine Zat k2 ?_
    cases rd with
    | r0 y => exact k3.elim
    | r1 m =>
     obtain ⟨rfl, hl⟩ := k3
     exact Zat (ZqV l 100000 hl (by decide)) (ZR rfl (Zat ZeM rfl))
theorem runs (L0 : List Ob) (a1 a2 a3 : Int) : Zhw L0 a1 a2 a3 100000 = some (.r0 true) := by
 refine (Zhm (x := law32_FifoItemsX.h1m0) rfl).trans ?_
 by_cases h : 0 < L0.length
 ·have go : ∀ x : Ob, Zam L0 a1 a2 a3 100000 .h1m0 = some (.inl (.h1m1 [x] 1)) → Zb6 (Zam L0 a1 a2 a3 100000) (99999 + 1) .h1m0 = some (.r0 true) := fun x hx =>
   (ZbO hx).trans (round L0 a1 a2 a3 13 1 99999 _ (by omega) (by omega) rfl)
  by_cases h16 : (16 : Int) < (((L0.getD 0 R_iiiiiiiA.z).a7.length : Nat) : Int)
  ·refine go ⟨(L0.getD 0 R_iiiiiiiA.z).a0, (L0.getD 0 R_iiiiiiiA.z).a1, (L0.getD 0 R_iiiiiiiA.z).a2, (L0.getD 0 R_iiiiiiiA.z).a3, (L0.getD 0 R_iiiiiiiA.z).a4, (L0.getD 0 R_iiiiiiiA.z).a5, (L0.getD 0 R_iiiiiiiA.z).a6, ((L0.getD 0 R_iiiiiiiA.z).a7.take 16)⟩ ?_
   show Zar L0 a1 a2 a3 100000 = _
   unfold Zar
   exact ZR (by omega) (ZR h16 rfl)
  ·refine go ⟨(L0.getD 0 R_iiiiiiiA.z).a0, (L0.getD 0 R_iiiiiiiA.z).a1, (L0.getD 0 R_iiiiiiiA.z).a2, (L0.getD 0 R_iiiiiiiA.z).a3, (L0.getD 0 R_iiiiiiiA.z).a4, (L0.getD 0 R_iiiiiiiA.z).a5, (L0.getD 0 R_iiiiiiiA.z).a6, (L0.getD 0 R_iiiiiiiA.z).a7⟩ ?_
   show Zar L0 a1 a2 a3 100000 = _
   unfold Zar
   exact ZR (by omega) (Zbu h16 rfl)
 ·refine Zo (n := 99999) ?_
  show Zar L0 a1 a2 a3 100000 = _
  unfold Zar
  exact Zbu (by omega) (Zat (p0 a1 a2 a3) (Zat (d0 a1 a2 a3) (Zat ZnU (Zat ZeM rfl))))
end Pi
end Ev
end Go.Proofs.YtpfmkkookmofcaaGreat
/- A region that draws its order, whose first operations only read (and make memory in calls), and whose last ones, in a forced order among themselves, make and write new memory: but these may come up early. -/
namespace Go.Proofs.YtpfmkkookmofcaaGreat
open Go.RowKit

section
variable {P : Program}

def Calm (P : Program) (W : World) (o : Oper) (a : Act) (v : Value) : Prop :=
 ∀ w, Below W.heap.size W w → o.quietAt P a (fun w' => Below w.heap.size w w') w v

def YieldsC (P : Program) (ops : Array Oper) (W : World) (o : Oper) (v : Value) (a : Act) : Prop :=
 (Region.wanted o (yielded ops a.tmps) = true ∧ Calm P W o a v) ∨ (Region.wanted o (yielded ops a.tmps) = false ∧ v = undef)
theorem Znm {a b c : World} (h : Below a.heap.size a b) (k : Below b.heap.size b c) : Below a.heap.size a c := h.trans (k.mono h.size)

def Closed (md : Region.Mode) (ops : Array Oper) (listed : Array Bool) : Prop :=
 ∀ j oj, ops[j]? = some oj → listed.getD j false = true → ∀ e ∈ oj.after, Region.binds md e = true → listed.getD e.on false = true
def Zpl (md : Region.Mode) (ops : Array Oper) : Nat → Nat → Nat → Bool
 | 0, _, _ => false
 | f + 1, t, i => Region.waitsFor md ops t i || (List.range ops.size).any fun k => Region.waitsFor md ops t k && Zpl md ops f k i
theorem Closed.waits {md : Region.Mode} {ops : Array Oper} {listed : Array Bool} (h : Closed md ops listed) : ∀ (f t i : Nat), listed.getD t false = true → Zpl md ops f t i = true → listed.getD i false = true
 | 0, _, _, _, hw => by cases hw
 | f + 1, t, i, ht, hw => by
  simp only [Zpl, Bool.or_eq_true, List.any_eq_true, Bool.and_eq_true] at hw
  rcases hw with hw | ⟨k, _, hw, hr⟩
  ·obtain ⟨o, ho, e, he, hb, rfl⟩ := Region.waitsFor_spec hw
   exact h t o ho ht e he hb
  ·obtain ⟨o, ho, e, he, hb, rfl⟩ := Region.waitsFor_spec hw
   exact h.waits f e.on i (h t o ho ht e he hb) hr

theorem YieldsC.wpOp {ops : Array Oper} {W : World} {i : Nat} {o : Oper} {v : Value} {a : Act} {w : World} (hi : ops[i]? = some o) (hy : YieldsC P ops W o v a) (hb : Below W.heap.size W w)
  {K : Act → World → Prop} {Q : Exit → Act → World → Prop} (h : ∀ w', Below w.heap.size w w' → K (a.put o.dst v) w') : wpOp P ops Q i K a w := by
 unfold Go.wpOp
 simp only [hi]
 rcases hy with ⟨hw, hv⟩ | ⟨hw, rfl⟩
 ·simp only [hw, if_true]
  exact .inl (Oper.wp_of_quiet (C := fun w' => Below w.heap.size w w') (K := fun a' => a' = a.put o.dst v) (Below.refl _ _) (fun a' w' hw' ha => by subst ha; exact h w' hw')
   ⟨v, fun w1 hw1 => by
    have h1 := hv w1 (Znm hb hw1)
    unfold Oper.quietAt at h1 ⊢
    generalize (execOp a.eval o).run P w1 = r at *
    cases r with
    | ok n w' =>
     cases n <;> simp only [Oper.quietUpon] at h1 ⊢
     case value u => exact h1
     case skip => exact h1
     case enter f args => exact ⟨h1.1, h1.2.mono fun e w2 ⟨he, hb2⟩ => ⟨he, Znm hw1 hb2⟩⟩
    | halt x w' => simp only [Oper.quietUpon] at h1, rfl⟩)
 ·simp only [hw, Bool.false_eq_true, if_false]
  exact h w (Below.refl _ _)

end
end Go.Proofs.YtpfmkkookmofcaaGreat
/- The law FifoItems, for every input. -/
namespace Go.Proofs.YtpfmkkookmofcaaGreat
open Go.ChangeShapes Go.WideShapes Go.ChangeAt Go.RowKit
namespace Ev
namespace FifoItems
set_option linter.unusedVariables false
def Zsn (x : R_ii) : Prop := (IntKind.i64.min ≤ x.a0 ∧ x.a0 ≤ IntKind.i64.max) ∧ (IntKind.i64.min ≤ x.a1 ∧ x.a1 ≤ IntKind.i64.max)
theorem el1 {H : Type} {enc : TypeId × Value → H} {w : World} {cs : List Value} (hl : cs.length = 2) (h : Trd enc Tryz.prog w 36 cs) : ∃ x : R_ii, DecL w cs (E_ii.cel x) ∧ Zsn x := by
 have h0 := Zr7 (by kernel_rfl : Tryz.prog.cellsOf 36 = 2) hl h
 have h1 := Zch 0 1 2 Tryz.underlying36 h0 0 (te := 34) (o' := 0) (by kernel_rfl) rfl (by kernel_rfl) (by kernel_rfl) (by decide)
 obtain ⟨x0, e0, b0⟩ := Zfi Tryz.underlying34 (by kernel_rfl) h1
 have h2 := Zch 1 1 2 Tryz.underlying36 h0 1 (te := 3) (o' := 1) (by kernel_rfl) rfl (by kernel_rfl) (by kernel_rfl) (by decide)
 obtain ⟨x1, e1, b1⟩ := Zfi Tryz.underlying3 (by kernel_rfl) h2
 refine ⟨(⟨x0, x1⟩ : R_ii), Zqh (by rw [hl, Enc.clen]; rfl) (fun j y hy => ?_), ⟨b0, b1⟩⟩
 have := (ZdB (w := w) (k := 0) e0 .i (ZdB (w := w) (k := 1) e1 .i (Zr6 (w := w)))) j y hy
 simpa using this
def el0R (x : R_iiiiiiiA) : Prop := (IntKind.i64.min ≤ x.a0 ∧ x.a0 ≤ IntKind.i64.max) ∧ (IntKind.i64.min ≤ x.a1 ∧ x.a1 ≤ IntKind.i64.max) ∧ (IntKind.i64.min ≤ x.a2 ∧ x.a2 ≤ IntKind.i64.max) ∧ (IntKind.i64.min ≤ x.a3 ∧ x.a3 ≤ IntKind.i64.max) ∧ (IntKind.i64.min ≤ x.a4 ∧ x.a4 ≤ IntKind.i64.max) ∧ (IntKind.i64.min ≤ x.a5 ∧ x.a5 ≤ IntKind.i64.max) ∧ (IntKind.i64.min ≤ x.a6 ∧ x.a6 ≤ IntKind.i64.max) ∧ (x.a7.length ≤ 9223372036854775807 ∧ ∀ y ∈ x.a7, Zsn y)
theorem el0 {H : Type} {enc : TypeId × Value → H} {w : World} {cs : List Value} (hl : cs.length = 8) (h : Trd enc Tryz.prog w 42 cs) : ∃ x : R_iiiiiiiA, DecL w cs (E_iiiiiiiA.cel x) ∧ el0R x := by
 have h0 := Zr7 (by kernel_rfl : Tryz.prog.cellsOf 42 = 8) hl h
 have h1 := Zch 0 2 8 Tryz.underlying42 h0 0 (te := 36) (o' := 0) (by kernel_rfl) rfl (by kernel_rfl) (by kernel_rfl) (by decide)
 have h2 := Zch 0 1 2 Tryz.underlying36 h1 0 (te := 34) (o' := 0) (by kernel_rfl) rfl (by kernel_rfl) (by kernel_rfl) (by decide)
 obtain ⟨x0, e0, b0⟩ := Zfi Tryz.underlying34 (by kernel_rfl) h2
 have h3 := Zch 1 1 2 Tryz.underlying36 h1 1 (te := 3) (o' := 1) (by kernel_rfl) rfl (by kernel_rfl) (by kernel_rfl) (by decide)
 obtain ⟨x1, e1, b1⟩ := Zfi Tryz.underlying3 (by kernel_rfl) h3
 have h4 := Zch 2 5 8 Tryz.underlying42 h0 1 (te := 39) (o' := 2) (by kernel_rfl) rfl (by kernel_rfl) (by kernel_rfl) (by decide)
 have h5 := Zch 0 1 5 Tryz.underlying39 h4 0 (te := 3) (o' := 2) (by kernel_rfl) rfl (by kernel_rfl) (by kernel_rfl) (by decide)
 obtain ⟨x2, e2, b2⟩ := Zfi Tryz.underlying3 (by kernel_rfl) h5
 have h6 := Zch 1 1 5 Tryz.underlying39 h4 1 (te := 3) (o' := 3) (by kernel_rfl) rfl (by kernel_rfl) (by kernel_rfl) (by decide)
 obtain ⟨x3, e3, b3⟩ := Zfi Tryz.underlying3 (by kernel_rfl) h6
 have h7 := Zch 2 1 5 Tryz.underlying39 h4 2 (te := 3) (o' := 4) (by kernel_rfl) rfl (by kernel_rfl) (by kernel_rfl) (by decide)
 obtain ⟨x4, e4, b4⟩ := Zfi Tryz.underlying3 (by kernel_rfl) h7
 have h8 := Zch 3 1 5 Tryz.underlying39 h4 3 (te := 37) (o' := 5) (by kernel_rfl) rfl (by kernel_rfl) (by kernel_rfl) (by decide)
 obtain ⟨x5, e5, b5⟩ := Zfi Tryz.underlying37 (by kernel_rfl) h8
 have h9 := Zch 4 1 5 Tryz.underlying39 h4 4 (te := 3) (o' := 6) (by kernel_rfl) rfl (by kernel_rfl) (by kernel_rfl) (by decide)
 obtain ⟨x6, e6, b6⟩ := Zfi Tryz.underlying3 (by kernel_rfl) h9
 have h10 := Zch 7 1 8 Tryz.underlying42 h0 2 (te := 40) (o' := 7) (by kernel_rfl) rfl (by kernel_rfl) (by kernel_rfl) (by decide)
 obtain ⟨x7, v7, e7, d7, b7⟩ := Zsl (E := E_ii) (Q := Zsn) Tryz.underlying40 (by kernel_rfl) (by kernel_rfl) (by decide) (fun _ => el1) h10
 refine ⟨(⟨x0, x1, x2, x3, x4, x5, x6, x7⟩ : R_iiiiiiiA), Zqh (by rw [hl, Enc.clen]; rfl) (fun j y hy => ?_), ⟨b0, b1, b2, b3, b4, b5, b6, b7⟩⟩
 have := (ZdB (w := w) (k := 0) e0 .i (ZdB (w := w) (k := 1) e1 .i (ZdB (w := w) (k := 2) e2 .i (ZdB (w := w) (k := 3) e3 .i (ZdB (w := w) (k := 4) e4 .i (ZdB (w := w) (k := 5) e5 .i (ZdB (w := w) (k := 6) e6 .i (ZdB (w := w) (k := 7) e7 d7 (Zr6 (w := w)))))))))) j y hy
 simpa using this
noncomputable def ZsD : List TypeId := (Tryz.prog.cellTypes Tryz.prog.depth 36).getD []
theorem own : ownKnob Tryz.prog.godebug = none := by kernel_rfl
set_option maxRecDepth 100000 in
theorem lifted (os : Os) (started : os.Started) (H : Type) (enc : TypeId × Value → H) :
  ReturnsInHanded {} Tryz.checked os 4 .any (Rows.fifoItemsSpec.pre6 enc Tryz.prog Tryz.f4 Rows.fifoItemsRow.domain false) (Rows.fifoItemsSpec.post enc Tryz.prog Tryz.f4 false true false false) := by
 refine Zru (C := Tryz.checked) own started (by kernel_rfl) Tryz.func4 rfl rfl Tryz.underlying4 ?_ (by kernel_rfl) (by kernel_rfl)
  (ChangeSpec.witness6 (enc := enc) (C := Tryz.checked) false ⟨#[], #[.slice none 0 0, .agg #[.int .i64 0, .int .i64 0], .int .i64 0], []⟩ 8 (by kernel_rfl) (by kernel_rfl) (by kernel_rfl) (by kernel_rfl)) ?_
 ·intro ds hlen
  have hlen : ds.length = 3 := hlen.trans (by kernel_rfl)
  match ds, hlen with
  | [_, _, _], _ => rfl
 intro W base args ds p hval hA hlt hsz
 rw [Tryz.params4] at hA hval
 obtain ⟨v0, vs0, d0, ds0, p0, q0, hargs, rfl, rfl, h0, r0⟩ := trodAll_cons hA
 obtain ⟨v1, vs1, d1, ds1, p1, q1, rfl, rfl, rfl, h1, r1⟩ := trodAll_cons r0
 obtain ⟨v2, vs2, d2, ds2, p2, q2, rfl, rfl, rfl, h2, r2⟩ := trodAll_cons r1
 obtain ⟨rfl, rfl, rfl⟩ := trodAll_nil r2
 obtain rfl : args = #[v0, v1, v2] := by cases args; simp_all
 obtain ⟨a0, l0, c0, rfl⟩ := Go.WideShapes.okWide_slice Tryz.underlying33 (hval 0 33 v0 rfl rfl)
 obtain ⟨L0, u0, e0, D0, n0, m0⟩ := Znk (E := E_iiiiiiiA) (Q := el0R) Tryz.underlying33 (by kernel_rfl) (by decide) (fun _ => el0) (Zqi h0)
 obtain rfl : u0 = .slice a0 l0 c0 := by have := e0; simp [Value.cells] at this; exact this.symm
 obtain ⟨cs1, rfl, hl1, hc1⟩ := ZoA (ts := ZsD) (by kernel_rfl) (by kernel_rfl) (by kernel_rfl) (hval 1 36 v1 rfl rfl)
 obtain ⟨x1, D1, m1⟩ := el1 (show cs1.length = 2 from hl1.trans (by kernel_rfl)) (by have q := Zqi h1; simp [Value.cells] at q; exact q)
 obtain ⟨z2, rfl, w2⟩ := ZqO (k := .i64) (by kernel_rfl) (ZqP (by kernel_rfl) (hval 2 3 v2 rfl rfl))
 exact ZsO (Zi8 L0 x1.a0 x1.a1 z2 100000 _ (Pi.runs L0 x1.a0 x1.a1 z2)) (ZkX (show VR (ιMk W) (ms E_iiiiiiiA L0) _ from D0.vr) (ZkX (show VR (ιMk W) (.agg #[Value.int .i64 x1.a0, Value.int .i64 x1.a1]) _ from .aggl D1.vr) (ZkX (.atom rfl) Zs4))) rfl
theorem over : Rows.fifoItemsRow.holds Tryz.pinned (OpenSpec.ofChange Rows.fifoItemsSpec) :=
 OpenClaim.holds_of_wide 4 Tryz.f4 rfl rfl rfl rfl rfl rfl rfl ⟨rfl, rfl, rfl, rfl, rfl⟩ rfl rfl rfl rfl rfl (by kernel_rfl) Tryz.func4 (by kernel_rfl)
  (of_decide_eq_true (by kernel_rfl)) (by unfold Func.isWrapper; first | (rw [if_pos (by decide +kernel)]; kernel_rfl) | (rw [if_neg (by decide +kernel)]; exact ⟨rfl, rfl⟩))
  (fun os started H enc _ => lifted os started H enc)
theorem proved : Rows.FifoItemsSaid := over
#print axioms proved
end FifoItems
end Ev
end Go.Proofs.YtpfmkkookmofcaaGreat
