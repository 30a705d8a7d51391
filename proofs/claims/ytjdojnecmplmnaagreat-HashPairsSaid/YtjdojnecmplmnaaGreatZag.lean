/- The law HashPairs, for every input. -/
import Derived.Test.YtjdojnecmplmnaaGreatZaf
import Derived.Test.YtjdojnecmplmnaaGreatZac
import Derived.Test.YtjdojnecmplmnaaGreatZad
import Derived.StillTail
import Derived.OrdersHeld
import Derived.WideBlind
set_option linter.unusedSimpArgs false
set_option linter.unusedVariables false
/- Calls do what the plain functions say. -/
namespace Go.Proofs.YtjdojnecmplmnaaGreat
open Go.RowKit
namespace Ev
set_option linter.unusedVariables false
set_option maxRecDepth 100000
theorem Zlw (L0 : List Ro) (v1 : List R_ii) (v2 v3 : Nat) (v4 v5 v6 v7 v8 v9 v10 : Int) (v11 : List R_ii) (v12 v13 : Int) (N : Nat) : (Z9 L0 N).Ok Tryz.prog Zw (.h2m1 v1 v2 v3 v4 v5 v6 v7 v8 v9 v10 v11 v12 v13 : ref31_Pairs_2X) (ZaL L0 N (.h2m1 v1 v2 v3 v4 v5 v6 v7 v8 v9 v10 v11 v12 v13 : ref31_Pairs_2X)) := by
 show (Z9 L0 N).Ok Tryz.prog Zw (.h2m1 v1 v2 v3 v4 v5 v6 v7 v8 v9 v10 v11 v12 v13 : ref31_Pairs_2X) (Zbo L0 N v1 v2 v3 v4 v5 v6 v7 v8 v9 v10 v11 v12 v13)
 unfold Zbo
 refine Mach.ok_ite (fun g0 => ?_) (fun g0 => ?_)
 ·
  refine Mach.ok_bind (fun z1 c1 => ?_)
  cases z1 with
  | r0 y1_0 y1_1 y1_2 y1_3 y1_4 y1_5 y1_6 y1_7 =>
   refine Mach.ok_ite (fun g2 => ?_) (fun _ => Mach.ok_none)
   refine Mach.ok_ite (fun g3 => ?_) (fun g3 => ?_)
   ·
    exact Mach.ok_fin (M := Z9 L0 N) (cd := 1000000) (cm := 0) (r := (.r0 (false) : Zt)) (fu := 4000) (orc := (Zr [(0, true), (2, true)] [(0, (((v2 + 1) : Nat) : Int))] [] [] [(0, (Zay (L0) (v12) (v13)  y1_0 y1_1 y1_2 y1_3 y1_4 y1_5 y1_6 y1_7 0 4))])) (live := [0]) (u := Value.tuple #[vn, vf]) (bl := [some (.cells (Zd Eo L0) 31)]) (ob := [((decide ((((v2 + 1) : Nat) : Int) > (L0.length : Int))), true), ((IntKind.i64.wrap ((v2 : Int) + (1 : Int))) == (((v2 + 1) : Nat) : Int), true), (dP (Zav #[vs 0 0 L0.length L0.length, Value.agg #[vi v12, vi v13]] (L0) (v12) (v13)  y1_0 y1_1 y1_2 y1_3 y1_4 y1_5 y1_6 y1_7 0 4), true), (dS (Zd Eo L0), true), ((!((v12 == (2 : Int)) && ((v13 == (0 : Int)) && true))), true)]) (fun gv => by kernel_rfl) (oY <| Zc (beq_iff_eq.2 ((wrap_i64 ltA).trans (by first | rfl | omega))) <| Zc (Zl (Zaz #[vs 0 0 L0.length L0.length, Value.agg #[vi v12, vi v13]] (L0) (v12) (v13)  y1_0 y1_1 y1_2 y1_3 y1_4 y1_5 y1_6 y1_7 N c1 0 4 rfl (by decide) (by decide))) <| oR <| Zc (by rw [Bool.not_eq_true']; exact Bool.eq_false_iff.2 (by simp only [ne_eq, Bool.and_true, Bool.and_eq_true, beq_iff_eq]; first | omega | (intro hh; simp_all; done) | (intro hh; grind))) Zi) rfl (by decide) (by rfl) rr ⟨(Zj (E := Eo) (α := Ro) _ L0 _), trivial⟩
   ·
    refine Mach.ok_ite (fun g4 => ?_) (fun g4 => ?_)
    ·
     exact Mach.ok_fin (M := Z9 L0 N) (cd := 1000000) (cm := 0) (r := (.r0 (false) : Zt)) (fu := 4000) (orc := (Zr [(0, true), (2, false), (3, true)] [(0, (((v2 + 1) : Nat) : Int))] [] [] [(0, (Zay (L0) (v12) (v13)  y1_0 y1_1 y1_2 y1_3 y1_4 y1_5 y1_6 y1_7 0 4))])) (live := [0]) (u := Value.tuple #[vn, vf]) (bl := [some (.cells (Zd Eo L0) 31)]) (ob := [((v12 != (2 : Int)), true), ((decide ((((v2 + 1) : Nat) : Int) > (L0.length : Int))), false), ((IntKind.i64.wrap ((v2 : Int) + (1 : Int))) == (((v2 + 1) : Nat) : Int), true), (dP (Zav #[vs 0 0 L0.length L0.length, Value.agg #[vi v12, vi v13]] (L0) (v12) (v13)  y1_0 y1_1 y1_2 y1_3 y1_4 y1_5 y1_6 y1_7 0 4), true), (dS (Zd Eo L0), true), ((!((v12 == (2 : Int)) && ((v13 == (0 : Int)) && true))), true)]) (fun gv => by kernel_rfl) (oD <| oN <| Zc (beq_iff_eq.2 ((wrap_i64 ltA).trans (by first | rfl | omega))) <| Zc (Zl (Zaz #[vs 0 0 L0.length L0.length, Value.agg #[vi v12, vi v13]] (L0) (v12) (v13)  y1_0 y1_1 y1_2 y1_3 y1_4 y1_5 y1_6 y1_7 N c1 0 4 rfl (by decide) (by decide))) <| oR <| Zc (by rw [Bool.not_eq_true']; exact Bool.eq_false_iff.2 (by simp only [ne_eq, Bool.and_true, Bool.and_eq_true, beq_iff_eq]; first | omega | (intro hh; simp_all; done) | (intro hh; grind))) Zi) rfl (by decide) (by rfl) rr ⟨(Zj (E := Eo) (α := Ro) _ L0 _), trivial⟩
    ·
     refine Mach.ok_ite (fun g5 => ?_) (fun g5 => ?_)
     ·
      exact Mach.ok_fin (M := Z9 L0 N) (cd := 1000000) (cm := 0) (r := (.r0 (false) : Zt)) (fu := 4000) (orc := (Zr [(0, true), (2, false), (3, false), (4, true)] [(0, (((v2 + 1) : Nat) : Int))] [] [] [(0, (Zay (L0) (v12) (v13)  y1_0 y1_1 y1_2 y1_3 y1_4 y1_5 y1_6 y1_7 0 4))])) (live := [0]) (u := Value.tuple #[vn, vf]) (bl := [some (.cells (Zd Eo L0) 31)]) (ob := [((y1_5 == (3 : Int)), true), ((v12 != (2 : Int)), false), ((decide ((((v2 + 1) : Nat) : Int) > (L0.length : Int))), false), ((IntKind.i64.wrap ((v2 : Int) + (1 : Int))) == (((v2 + 1) : Nat) : Int), true), (dP (Zav #[vs 0 0 L0.length L0.length, Value.agg #[vi v12, vi v13]] (L0) (v12) (v13)  y1_0 y1_1 y1_2 y1_3 y1_4 y1_5 y1_6 y1_7 0 4), true), (dS (Zd Eo L0), true), ((!((v12 == (2 : Int)) && ((v13 == (0 : Int)) && true))), true)]) (fun gv => by kernel_rfl) (oT <| oE <| oN <| Zc (beq_iff_eq.2 ((wrap_i64 ltA).trans (by first | rfl | omega))) <| Zc (Zl (Zaz #[vs 0 0 L0.length L0.length, Value.agg #[vi v12, vi v13]] (L0) (v12) (v13)  y1_0 y1_1 y1_2 y1_3 y1_4 y1_5 y1_6 y1_7 N c1 0 4 rfl (by decide) (by decide))) <| oR <| Zc (by rw [Bool.not_eq_true']; exact Bool.eq_false_iff.2 (by simp only [ne_eq, Bool.and_true, Bool.and_eq_true, beq_iff_eq]; first | omega | (intro hh; simp_all; done) | (intro hh; grind))) Zi) rfl (by decide) (by rfl) rr ⟨(Zj (E := Eo) (α := Ro) _ L0 _), trivial⟩
     ·
      refine Mach.ok_ite (fun g6 => ?_) (fun g6 => ?_)
      ·
       exact Mach.ok_fin (M := Z9 L0 N) (cd := 1000000) (cm := 0) (r := (.r0 (false) : Zt)) (fu := 4000) (orc := (Zr [(0, true), (2, false), (3, false), (4, false), (5, true)] [(0, (((v2 + 1) : Nat) : Int))] [] [] [(0, (Zay (L0) (v12) (v13)  y1_0 y1_1 y1_2 y1_3 y1_4 y1_5 y1_6 y1_7 0 4))])) (live := [0]) (u := Value.tuple #[vn, vf]) (bl := [some (.cells (Zd Eo L0) 31)]) (ob := [(((y1_7.length : Int) != (3 : Int)), true), ((y1_5 == (3 : Int)), false), ((v12 != (2 : Int)), false), ((decide ((((v2 + 1) : Nat) : Int) > (L0.length : Int))), false), ((IntKind.i64.wrap ((v2 : Int) + (1 : Int))) == (((v2 + 1) : Nat) : Int), true), (dP (Zav #[vs 0 0 L0.length L0.length, Value.agg #[vi v12, vi v13]] (L0) (v12) (v13)  y1_0 y1_1 y1_2 y1_3 y1_4 y1_5 y1_6 y1_7 0 4), true), (dS (Zd Eo L0), true), ((!((v12 == (2 : Int)) && ((v13 == (0 : Int)) && true))), true)]) (fun gv => by kernel_rfl) (oD <| oF <| oE <| oN <| Zc (beq_iff_eq.2 ((wrap_i64 ltA).trans (by first | rfl | omega))) <| Zc (Zl (Zaz #[vs 0 0 L0.length L0.length, Value.agg #[vi v12, vi v13]] (L0) (v12) (v13)  y1_0 y1_1 y1_2 y1_3 y1_4 y1_5 y1_6 y1_7 N c1 0 4 rfl (by decide) (by decide))) <| oR <| Zc (by rw [Bool.not_eq_true']; exact Bool.eq_false_iff.2 (by simp only [ne_eq, Bool.and_true, Bool.and_eq_true, beq_iff_eq]; first | omega | (intro hh; simp_all; done) | (intro hh; grind))) Zi) rfl (by decide) (by rfl) rr ⟨(Zj (E := Eo) (α := Ro) _ L0 _), trivial⟩
      ·
       refine Mach.ok_ite (fun g7 => ?_) (fun g7 => ?_)
       ·
        exact Mach.ok_fin (M := Z9 L0 N) (cd := 1000000) (cm := 0) (r := (.r0 (false) : Zt)) (fu := 4000) (orc := (Zr [(0, true), (2, false), (3, false), (4, false), (5, false), (6, true)] [(0, (((v2 + 1) : Nat) : Int))] [(0, 0)] [(6, [.i (y1_7.getD 0 R_ii.z).a0])] [(0, (Zay (L0) (v12) (v13)  y1_0 y1_1 y1_2 y1_3 y1_4 y1_5 y1_6 y1_7 0 4))])) (live := [0]) (u := Value.tuple #[vn, vf]) (bl := [some (.cells (Zd Eo L0) 31)]) (ob := [(((y1_7.getD 0 R_ii.z).a0 != (2 : Int)), true), (dP (ZT (code (ZI E_ii y1_7)) ((0 + (0 * 2)) + 0) 1 = some [.i (y1_7.getD 0 R_ii.z).a0]), true), (Nat.blt 0 y1_7.length, true), ((0 : Int) == Int.ofNat 0, true), (((y1_7.length : Int) != (3 : Int)), false), ((y1_5 == (3 : Int)), false), ((v12 != (2 : Int)), false), ((decide ((((v2 + 1) : Nat) : Int) > (L0.length : Int))), false), ((IntKind.i64.wrap ((v2 : Int) + (1 : Int))) == (((v2 + 1) : Nat) : Int), true), (dP (Zav #[vs 0 0 L0.length L0.length, Value.agg #[vi v12, vi v13]] (L0) (v12) (v13)  y1_0 y1_1 y1_2 y1_3 y1_4 y1_5 y1_6 y1_7 0 4), true), (dS (Zd Eo L0), true), ((!((v12 == (2 : Int)) && ((v13 == (0 : Int)) && true))), true)]) (fun gv => by kernel_rfl) (oD <| Zc (Zl (Z0 (E := E_ii) (L := y1_7) (i := 0) (q := 0) (by omega) (show ((0 + (0 * 2)) + 0) = 0 * 2 + 0 from by omega) (show 0 + 1 ≤ 2 from by decide) rfl)) <| oB <| oI <| oE <| oF <| oE <| oN <| Zc (beq_iff_eq.2 ((wrap_i64 ltA).trans (by first | rfl | omega))) <| Zc (Zl (Zaz #[vs 0 0 L0.length L0.length, Value.agg #[vi v12, vi v13]] (L0) (v12) (v13)  y1_0 y1_1 y1_2 y1_3 y1_4 y1_5 y1_6 y1_7 N c1 0 4 rfl (by decide) (by decide))) <| oR <| Zc (by rw [Bool.not_eq_true']; exact Bool.eq_false_iff.2 (by simp only [ne_eq, Bool.and_true, Bool.and_eq_true, beq_iff_eq]; first | omega | (intro hh; simp_all; done) | (intro hh; grind))) Zi) rfl (by decide) (by rfl) rr ⟨(Zj (E := Eo) (α := Ro) _ L0 _), trivial⟩
       ·
        refine Mach.ok_ite (fun g8 => ?_) (fun g8 => ?_)
        ·
         exact Mach.ok_fin (M := Z9 L0 N) (cd := 1000000) (cm := 0) (r := (.r0 (false) : Zt)) (fu := 4000) (orc := (Zr [(0, true), (2, false), (3, false), (4, false), (5, false), (6, false), (7, true)] [(0, (((v2 + 1) : Nat) : Int))] [(0, 0), (1, 1)] [(6, [.i (y1_7.getD 0 R_ii.z).a0]), (8, [.i (y1_7.getD 1 R_ii.z).a0])] [(0, (Zay (L0) (v12) (v13)  y1_0 y1_1 y1_2 y1_3 y1_4 y1_5 y1_6 y1_7 0 4))])) (live := [0]) (u := Value.tuple #[vn, vf]) (bl := [some (.cells (Zd Eo L0) 31)]) (ob := [(((y1_7.getD 1 R_ii.z).a0 != (1 : Int)), true), (dP (ZT (code (ZI E_ii y1_7)) ((0 + (1 * 2)) + 0) 1 = some [.i (y1_7.getD 1 R_ii.z).a0]), true), (Nat.blt 1 y1_7.length, true), ((1 : Int) == Int.ofNat 1, true), (((y1_7.getD 0 R_ii.z).a0 != (2 : Int)), false), (dP (ZT (code (ZI E_ii y1_7)) ((0 + (0 * 2)) + 0) 1 = some [.i (y1_7.getD 0 R_ii.z).a0]), true), (Nat.blt 0 y1_7.length, true), ((0 : Int) == Int.ofNat 0, true), (((y1_7.length : Int) != (3 : Int)), false), ((y1_5 == (3 : Int)), false), ((v12 != (2 : Int)), false), ((decide ((((v2 + 1) : Nat) : Int) > (L0.length : Int))), false), ((IntKind.i64.wrap ((v2 : Int) + (1 : Int))) == (((v2 + 1) : Nat) : Int), true), (dP (Zav #[vs 0 0 L0.length L0.length, Value.agg #[vi v12, vi v13]] (L0) (v12) (v13)  y1_0 y1_1 y1_2 y1_3 y1_4 y1_5 y1_6 y1_7 0 4), true), (dS (Zd Eo L0), true), ((!((v12 == (2 : Int)) && ((v13 == (0 : Int)) && true))), true)]) (fun gv => by kernel_rfl) (oD <| Zc (Zl (Z0 (E := E_ii) (L := y1_7) (i := 1) (q := 0) (by omega) (show ((0 + (1 * 2)) + 0) = 1 * 2 + 0 from by omega) (show 0 + 1 ≤ 2 from by decide) rfl)) <| oB <| oI <| oE <| Zc (Zl (Z0 (E := E_ii) (L := y1_7) (i := 0) (q := 0) (by omega) (show ((0 + (0 * 2)) + 0) = 0 * 2 + 0 from by omega) (show 0 + 1 ≤ 2 from by decide) rfl)) <| oB <| oI <| oE <| oF <| oE <| oN <| Zc (beq_iff_eq.2 ((wrap_i64 ltA).trans (by first | rfl | omega))) <| Zc (Zl (Zaz #[vs 0 0 L0.length L0.length, Value.agg #[vi v12, vi v13]] (L0) (v12) (v13)  y1_0 y1_1 y1_2 y1_3 y1_4 y1_5 y1_6 y1_7 N c1 0 4 rfl (by decide) (by decide))) <| oR <| Zc (by rw [Bool.not_eq_true']; exact Bool.eq_false_iff.2 (by simp only [ne_eq, Bool.and_true, Bool.and_eq_true, beq_iff_eq]; first | omega | (intro hh; simp_all; done) | (intro hh; grind))) Zi) rfl (by decide) (by rfl) rr ⟨(Zj (E := Eo) (α := Ro) _ L0 _), trivial⟩
        ·
         refine Mach.ok_ite (fun g9 => ?_) (fun g9 => ?_)
         ·
          exact Mach.ok_fin (M := Z9 L0 N) (cd := 1000000) (cm := 0) (r := (.r0 (false) : Zt)) (fu := 4000) (orc := (Zr [(0, true), (2, false), (3, false), (4, false), (5, false), (6, false), (7, false), (8, true)] [(0, (((v2 + 1) : Nat) : Int))] [(0, 0), (1, 1), (2, 2)] [(6, [.i (y1_7.getD 0 R_ii.z).a0]), (8, [.i (y1_7.getD 1 R_ii.z).a0]), (10, [.i (y1_7.getD 2 R_ii.z).a0])] [(0, (Zay (L0) (v12) (v13)  y1_0 y1_1 y1_2 y1_3 y1_4 y1_5 y1_6 y1_7 0 4))])) (live := [0]) (u := Value.tuple #[vn, vf]) (bl := [some (.cells (Zd Eo L0) 31)]) (ob := [(((y1_7.getD 2 R_ii.z).a0 != (1 : Int)), true), (dP (ZT (code (ZI E_ii y1_7)) ((0 + (2 * 2)) + 0) 1 = some [.i (y1_7.getD 2 R_ii.z).a0]), true), (Nat.blt 2 y1_7.length, true), ((2 : Int) == Int.ofNat 2, true), (((y1_7.getD 1 R_ii.z).a0 != (1 : Int)), false), (dP (ZT (code (ZI E_ii y1_7)) ((0 + (1 * 2)) + 0) 1 = some [.i (y1_7.getD 1 R_ii.z).a0]), true), (Nat.blt 1 y1_7.length, true), ((1 : Int) == Int.ofNat 1, true), (((y1_7.getD 0 R_ii.z).a0 != (2 : Int)), false), (dP (ZT (code (ZI E_ii y1_7)) ((0 + (0 * 2)) + 0) 1 = some [.i (y1_7.getD 0 R_ii.z).a0]), true), (Nat.blt 0 y1_7.length, true), ((0 : Int) == Int.ofNat 0, true), (((y1_7.length : Int) != (3 : Int)), false), ((y1_5 == (3 : Int)), false), ((v12 != (2 : Int)), false), ((decide ((((v2 + 1) : Nat) : Int) > (L0.length : Int))), false), ((IntKind.i64.wrap ((v2 : Int) + (1 : Int))) == (((v2 + 1) : Nat) : Int), true), (dP (Zav #[vs 0 0 L0.length L0.length, Value.agg #[vi v12, vi v13]] (L0) (v12) (v13)  y1_0 y1_1 y1_2 y1_3 y1_4 y1_5 y1_6 y1_7 0 4), true), (dS (Zd Eo L0), true), ((!((v12 == (2 : Int)) && ((v13 == (0 : Int)) && true))), true)]) (fun gv => by kernel_rfl) (oD <| Zc (Zl (Z0 (E := E_ii) (L := y1_7) (i := 2) (q := 0) (by omega) (show ((0 + (2 * 2)) + 0) = 2 * 2 + 0 from by omega) (show 0 + 1 ≤ 2 from by decide) rfl)) <| oB <| oI <| oE <| Zc (Zl (Z0 (E := E_ii) (L := y1_7) (i := 1) (q := 0) (by omega) (show ((0 + (1 * 2)) + 0) = 1 * 2 + 0 from by omega) (show 0 + 1 ≤ 2 from by decide) rfl)) <| oB <| oI <| oE <| Zc (Zl (Z0 (E := E_ii) (L := y1_7) (i := 0) (q := 0) (by omega) (show ((0 + (0 * 2)) + 0) = 0 * 2 + 0 from by omega) (show 0 + 1 ≤ 2 from by decide) rfl)) <| oB <| oI <| oE <| oF <| oE <| oN <| Zc (beq_iff_eq.2 ((wrap_i64 ltA).trans (by first | rfl | omega))) <| Zc (Zl (Zaz #[vs 0 0 L0.length L0.length, Value.agg #[vi v12, vi v13]] (L0) (v12) (v13)  y1_0 y1_1 y1_2 y1_3 y1_4 y1_5 y1_6 y1_7 N c1 0 4 rfl (by decide) (by decide))) <| oR <| Zc (by rw [Bool.not_eq_true']; exact Bool.eq_false_iff.2 (by simp only [ne_eq, Bool.and_true, Bool.and_eq_true, beq_iff_eq]; first | omega | (intro hh; simp_all; done) | (intro hh; grind))) Zi) rfl (by decide) (by rfl) rr ⟨(Zj (E := Eo) (α := Ro) _ L0 _), trivial⟩
         ·
          refine Mach.ok_ite (fun g10 => ?_) (fun g10 => ?_)
          ·
           have ht := tb8 (y1_7.getD 1 R_ii.z).a1
           exact Mach.ok_fin (M := Z9 L0 N) (cd := 1000000) (cm := 0) (r := (.r0 (false) : Zt)) (fu := 4000) (orc := (Zr [(0, true), (2, false), (3, false), (4, false), (5, false), (6, false), (7, false), (8, false), (9, true)] [(0, (((v2 + 1) : Nat) : Int)), (2, ((Int.tmod (y1_7.getD 1 R_ii.z).a1 (8 : Int)) + (8 : Int))), (3, (((Int.tmod (y1_7.getD 1 R_ii.z).a1 (8 : Int)) + (8 : Int)) % (8 : Int)))] [(0, 0), (1, 1), (2, 2), (3, 1)] [(6, [.i (y1_7.getD 0 R_ii.z).a0]), (8, [.i (y1_7.getD 1 R_ii.z).a0]), (10, [.i (y1_7.getD 2 R_ii.z).a0]), (12, [.i (y1_7.getD 1 R_ii.z).a1])] [(0, (Zay (L0) (v12) (v13)  y1_0 y1_1 y1_2 y1_3 y1_4 y1_5 y1_6 y1_7 0 4))])) (live := [0]) (u := Value.tuple #[vn, vf]) (bl := [some (.cells (Zd Eo L0) 31)]) (ob := [(((((Int.tmod (y1_7.getD 1 R_ii.z).a1 (8 : Int)) + (8 : Int)) % (8 : Int)) != (v3 : Int)), true), ((Int.tmod ((Int.tmod (y1_7.getD 1 R_ii.z).a1 (8 : Int)) + (8 : Int)) (8 : Int)) == (((Int.tmod (y1_7.getD 1 R_ii.z).a1 (8 : Int)) + (8 : Int)) % (8 : Int)), true), ((IntKind.i64.wrap ((Int.tmod (y1_7.getD 1 R_ii.z).a1 (8 : Int)) + (8 : Int))) == ((Int.tmod (y1_7.getD 1 R_ii.z).a1 (8 : Int)) + (8 : Int)), true), (dP (ZT (code (ZI E_ii y1_7)) ((0 + (1 * 2)) + 1) 1 = some [.i (y1_7.getD 1 R_ii.z).a1]), true), (Nat.blt 1 y1_7.length, true), ((1 : Int) == Int.ofNat 1, true), (((y1_7.getD 2 R_ii.z).a0 != (1 : Int)), false), (dP (ZT (code (ZI E_ii y1_7)) ((0 + (2 * 2)) + 0) 1 = some [.i (y1_7.getD 2 R_ii.z).a0]), true), (Nat.blt 2 y1_7.length, true), ((2 : Int) == Int.ofNat 2, true), (((y1_7.getD 1 R_ii.z).a0 != (1 : Int)), false), (dP (ZT (code (ZI E_ii y1_7)) ((0 + (1 * 2)) + 0) 1 = some [.i (y1_7.getD 1 R_ii.z).a0]), true), (Nat.blt 1 y1_7.length, true), ((1 : Int) == Int.ofNat 1, true), (((y1_7.getD 0 R_ii.z).a0 != (2 : Int)), false), (dP (ZT (code (ZI E_ii y1_7)) ((0 + (0 * 2)) + 0) 1 = some [.i (y1_7.getD 0 R_ii.z).a0]), true), (Nat.blt 0 y1_7.length, true), ((0 : Int) == Int.ofNat 0, true), (((y1_7.length : Int) != (3 : Int)), false), ((y1_5 == (3 : Int)), false), ((v12 != (2 : Int)), false), ((decide ((((v2 + 1) : Nat) : Int) > (L0.length : Int))), false), ((IntKind.i64.wrap ((v2 : Int) + (1 : Int))) == (((v2 + 1) : Nat) : Int), true), (dP (Zav #[vs 0 0 L0.length L0.length, Value.agg #[vi v12, vi v13]] (L0) (v12) (v13)  y1_0 y1_1 y1_2 y1_3 y1_4 y1_5 y1_6 y1_7 0 4), true), (dS (Zd Eo L0), true), ((!((v12 == (2 : Int)) && ((v13 == (0 : Int)) && true))), true)]) (fun gv => by kernel_rfl) (oD <| Zc (beq_iff_eq.2 (Zj1 (by omega))) <| Zc (beq_iff_eq.2 ((wrap_i64 ltA).trans (by first | rfl | omega))) <| Zc (Zl (Z0 (E := E_ii) (L := y1_7) (i := 1) (q := 1) (by omega) (show ((0 + (1 * 2)) + 1) = 1 * 2 + 1 from by omega) (show 1 + 1 ≤ 2 from by decide) rfl)) <| oB <| oI <| oE <| Zc (Zl (Z0 (E := E_ii) (L := y1_7) (i := 2) (q := 0) (by omega) (show ((0 + (2 * 2)) + 0) = 2 * 2 + 0 from by omega) (show 0 + 1 ≤ 2 from by decide) rfl)) <| oB <| oI <| oE <| Zc (Zl (Z0 (E := E_ii) (L := y1_7) (i := 1) (q := 0) (by omega) (show ((0 + (1 * 2)) + 0) = 1 * 2 + 0 from by omega) (show 0 + 1 ≤ 2 from by decide) rfl)) <| oB <| oI <| oE <| Zc (Zl (Z0 (E := E_ii) (L := y1_7) (i := 0) (q := 0) (by omega) (show ((0 + (0 * 2)) + 0) = 0 * 2 + 0 from by omega) (show 0 + 1 ≤ 2 from by decide) rfl)) <| oB <| oI <| oE <| oF <| oE <| oN <| Zc (beq_iff_eq.2 ((wrap_i64 ltA).trans (by first | rfl | omega))) <| Zc (Zl (Zaz #[vs 0 0 L0.length L0.length, Value.agg #[vi v12, vi v13]] (L0) (v12) (v13)  y1_0 y1_1 y1_2 y1_3 y1_4 y1_5 y1_6 y1_7 N c1 0 4 rfl (by decide) (by decide))) <| oR <| Zc (by rw [Bool.not_eq_true']; exact Bool.eq_false_iff.2 (by simp only [ne_eq, Bool.and_true, Bool.and_eq_true, beq_iff_eq]; first | omega | (intro hh; simp_all; done) | (intro hh; grind))) Zi) rfl (by decide) (by rfl) rr ⟨(Zj (E := Eo) (α := Ro) _ L0 _), trivial⟩
          ·
           refine Mach.ok_bind (fun z11 c11 => ?_)
           cases z11 with
           | r0 =>
            have ht := tb8 (y1_7.getD 1 R_ii.z).a1
            exact Mach.ok_fin (M := Z9 L0 N) (cd := 1000000) (cm := 0) (r := (.r0 (false) : Zt)) (fu := 4000) (orc := (Zr [(0, true), (2, false), (3, false), (4, false), (5, false), (6, false), (7, false), (8, false), (9, false)] [(0, (((v2 + 1) : Nat) : Int)), (2, ((Int.tmod (y1_7.getD 1 R_ii.z).a1 (8 : Int)) + (8 : Int))), (3, (((Int.tmod (y1_7.getD 1 R_ii.z).a1 (8 : Int)) + (8 : Int)) % (8 : Int)))] [(0, 0), (1, 1), (2, 2), (3, 1), (4, 1), (5, 2)] [(6, [.i (y1_7.getD 0 R_ii.z).a0]), (8, [.i (y1_7.getD 1 R_ii.z).a0]), (10, [.i (y1_7.getD 2 R_ii.z).a0]), (12, [.i (y1_7.getD 1 R_ii.z).a1]), (14, [.i (y1_7.getD 1 R_ii.z).a1]), (16, [.i (y1_7.getD 2 R_ii.z).a1])] [(0, (Zay (L0) (v12) (v13)  y1_0 y1_1 y1_2 y1_3 y1_4 y1_5 y1_6 y1_7 0 4)), (4, (Zpf (v1) ((y1_7.getD 1 R_ii.z).a1) ((y1_7.getD 2 R_ii.z).a1)   2 5))])) (live := [0]) (u := Value.tuple #[vn, vf]) (bl := [some (.cells (Zd Eo L0) 31)]) (ob := [(dP (Zk7 #[vs 2 0 v1.length v1.length, Value.agg #[vi (y1_7.getD 1 R_ii.z).a1, vi (y1_7.getD 2 R_ii.z).a1]] (v1) ((y1_7.getD 1 R_ii.z).a1) ((y1_7.getD 2 R_ii.z).a1)   2 5), true), (dS (Zd E_ii v1), true), (dP (ZT (code (ZI E_ii y1_7)) ((0 + (2 * 2)) + 1) 1 = some [.i (y1_7.getD 2 R_ii.z).a1]), true), (Nat.blt 2 y1_7.length, true), ((2 : Int) == Int.ofNat 2, true), (dP (ZT (code (ZI E_ii y1_7)) ((0 + (1 * 2)) + 1) 1 = some [.i (y1_7.getD 1 R_ii.z).a1]), true), (Nat.blt 1 y1_7.length, true), ((1 : Int) == Int.ofNat 1, true), (((((Int.tmod (y1_7.getD 1 R_ii.z).a1 (8 : Int)) + (8 : Int)) % (8 : Int)) != (v3 : Int)), false), ((Int.tmod ((Int.tmod (y1_7.getD 1 R_ii.z).a1 (8 : Int)) + (8 : Int)) (8 : Int)) == (((Int.tmod (y1_7.getD 1 R_ii.z).a1 (8 : Int)) + (8 : Int)) % (8 : Int)), true), ((IntKind.i64.wrap ((Int.tmod (y1_7.getD 1 R_ii.z).a1 (8 : Int)) + (8 : Int))) == ((Int.tmod (y1_7.getD 1 R_ii.z).a1 (8 : Int)) + (8 : Int)), true), (dP (ZT (code (ZI E_ii y1_7)) ((0 + (1 * 2)) + 1) 1 = some [.i (y1_7.getD 1 R_ii.z).a1]), true), (Nat.blt 1 y1_7.length, true), ((1 : Int) == Int.ofNat 1, true), (((y1_7.getD 2 R_ii.z).a0 != (1 : Int)), false), (dP (ZT (code (ZI E_ii y1_7)) ((0 + (2 * 2)) + 0) 1 = some [.i (y1_7.getD 2 R_ii.z).a0]), true), (Nat.blt 2 y1_7.length, true), ((2 : Int) == Int.ofNat 2, true), (((y1_7.getD 1 R_ii.z).a0 != (1 : Int)), false), (dP (ZT (code (ZI E_ii y1_7)) ((0 + (1 * 2)) + 0) 1 = some [.i (y1_7.getD 1 R_ii.z).a0]), true), (Nat.blt 1 y1_7.length, true), ((1 : Int) == Int.ofNat 1, true), (((y1_7.getD 0 R_ii.z).a0 != (2 : Int)), false), (dP (ZT (code (ZI E_ii y1_7)) ((0 + (0 * 2)) + 0) 1 = some [.i (y1_7.getD 0 R_ii.z).a0]), true), (Nat.blt 0 y1_7.length, true), ((0 : Int) == Int.ofNat 0, true), (((y1_7.length : Int) != (3 : Int)), false), ((y1_5 == (3 : Int)), false), ((v12 != (2 : Int)), false), ((decide ((((v2 + 1) : Nat) : Int) > (L0.length : Int))), false), ((IntKind.i64.wrap ((v2 : Int) + (1 : Int))) == (((v2 + 1) : Nat) : Int), true), (dP (Zav #[vs 0 0 L0.length L0.length, Value.agg #[vi v12, vi v13]] (L0) (v12) (v13)  y1_0 y1_1 y1_2 y1_3 y1_4 y1_5 y1_6 y1_7 0 4), true), (dS (Zd Eo L0), true), ((!((v12 == (2 : Int)) && ((v13 == (0 : Int)) && true))), true)]) (fun gv => by kernel_rfl) (Zc (Zl (Zpg #[vs 2 0 v1.length v1.length, Value.agg #[vi (y1_7.getD 1 R_ii.z).a1, vi (y1_7.getD 2 R_ii.z).a1]] (v1) ((y1_7.getD 1 R_ii.z).a1) ((y1_7.getD 2 R_ii.z).a1)   N c11 2 5 rfl (by decide) (by decide))) <| oR <| Zc (Zl (Z0 (E := E_ii) (L := y1_7) (i := 2) (q := 1) (by omega) (show ((0 + (2 * 2)) + 1) = 2 * 2 + 1 from by omega) (show 1 + 1 ≤ 2 from by decide) rfl)) <| oB <| oI <| Zc (Zl (Z0 (E := E_ii) (L := y1_7) (i := 1) (q := 1) (by omega) (show ((0 + (1 * 2)) + 1) = 1 * 2 + 1 from by omega) (show 1 + 1 ≤ 2 from by decide) rfl)) <| oB <| oI <| oE <| Zc (beq_iff_eq.2 (Zj1 (by omega))) <| Zc (beq_iff_eq.2 ((wrap_i64 ltA).trans (by first | rfl | omega))) <| Zc (Zl (Z0 (E := E_ii) (L := y1_7) (i := 1) (q := 1) (by omega) (show ((0 + (1 * 2)) + 1) = 1 * 2 + 1 from by omega) (show 1 + 1 ≤ 2 from by decide) rfl)) <| oB <| oI <| oE <| Zc (Zl (Z0 (E := E_ii) (L := y1_7) (i := 2) (q := 0) (by omega) (show ((0 + (2 * 2)) + 0) = 2 * 2 + 0 from by omega) (show 0 + 1 ≤ 2 from by decide) rfl)) <| oB <| oI <| oE <| Zc (Zl (Z0 (E := E_ii) (L := y1_7) (i := 1) (q := 0) (by omega) (show ((0 + (1 * 2)) + 0) = 1 * 2 + 0 from by omega) (show 0 + 1 ≤ 2 from by decide) rfl)) <| oB <| oI <| oE <| Zc (Zl (Z0 (E := E_ii) (L := y1_7) (i := 0) (q := 0) (by omega) (show ((0 + (0 * 2)) + 0) = 0 * 2 + 0 from by omega) (show 0 + 1 ≤ 2 from by decide) rfl)) <| oB <| oI <| oE <| oF <| oE <| oN <| Zc (beq_iff_eq.2 ((wrap_i64 ltA).trans (by first | rfl | omega))) <| Zc (Zl (Zaz #[vs 0 0 L0.length L0.length, Value.agg #[vi v12, vi v13]] (L0) (v12) (v13)  y1_0 y1_1 y1_2 y1_3 y1_4 y1_5 y1_6 y1_7 N c1 0 4 rfl (by decide) (by decide))) <| oR <| Zc (by rw [Bool.not_eq_true']; exact Bool.eq_false_iff.2 (by simp only [ne_eq, Bool.and_true, Bool.and_eq_true, beq_iff_eq]; first | omega | (intro hh; simp_all; done) | (intro hh; grind))) Zi) rfl (by decide) (by rfl) rr ⟨(Zj (E := Eo) (α := Ro) _ L0 _), trivial⟩
           | r1 y11_0 =>
            have ht := tb8 (y1_7.getD 1 R_ii.z).a1
            exact Mach.ok_next (M := Z9 L0 N) (cd := 1000000) (cm := 0) (y := (.h2m1 (y11_0) ((v2 + 1)) (v3) (v4) (v5) (v6) (v7) (v8) (v9) (v10) (v11) ((y1_7.getD 0 R_ii.z).a0) ((y1_7.getD 0 R_ii.z).a1) : ref31_Pairs_2X)) (fu := 4000) (orc := (Zr [(0, true), (2, false), (3, false), (4, false), (5, false), (6, false), (7, false), (8, false), (9, false)] [(0, (((v2 + 1) : Nat) : Int)), (2, ((Int.tmod (y1_7.getD 1 R_ii.z).a1 (8 : Int)) + (8 : Int))), (3, (((Int.tmod (y1_7.getD 1 R_ii.z).a1 (8 : Int)) + (8 : Int)) % (8 : Int)))] [(0, 0), (1, 1), (2, 2), (3, 1), (4, 1), (5, 2), (6, 0)] [(6, [.i (y1_7.getD 0 R_ii.z).a0]), (8, [.i (y1_7.getD 1 R_ii.z).a0]), (10, [.i (y1_7.getD 2 R_ii.z).a0]), (12, [.i (y1_7.getD 1 R_ii.z).a1]), (14, [.i (y1_7.getD 1 R_ii.z).a1]), (16, [.i (y1_7.getD 2 R_ii.z).a1]), (18, [.i (y1_7.getD 0 R_ii.z).a0, .i (y1_7.getD 0 R_ii.z).a1])] [(0, (Zay (L0) (v12) (v13)  y1_0 y1_1 y1_2 y1_3 y1_4 y1_5 y1_6 y1_7 0 4)), (4, (Zph (v1) ((y1_7.getD 1 R_ii.z).a1) ((y1_7.getD 2 R_ii.z).a1)  y11_0 2 5))])) (live := [0, 1, 5, 6]) (tv := fun _ => [some (vs 0 0 L0.length L0.length), some (vp 1 0), some (vs 5 0 y11_0.length y11_0.length), some (vi (((v2 + 1) : Nat) : Int)), some (vi (v3 : Int)), some (vp 6 0)]) (bl := [some (.cells (Zd Eo L0) 31), some (.cells [vi v4, vi v5, vi v6, vi v7, vi v8, vi v9, vi v10, ms E_ii v11] 31), some (.cells (Zd E_ii y11_0) 43), some (.cells [vi (y1_7.getD 0 R_ii.z).a0, vi (y1_7.getD 0 R_ii.z).a1] 25)]) (ob := [(dP (ZT (code (ZI E_ii y1_7)) (0 + (0 * 2)) 2 = some [.i (y1_7.getD 0 R_ii.z).a0, .i (y1_7.getD 0 R_ii.z).a1]), true), (Nat.blt 0 y1_7.length, true), ((0 : Int) == Int.ofNat 0, true), (dP (Zk8 #[vs 2 0 v1.length v1.length, Value.agg #[vi (y1_7.getD 1 R_ii.z).a1, vi (y1_7.getD 2 R_ii.z).a1]] (v1) ((y1_7.getD 1 R_ii.z).a1) ((y1_7.getD 2 R_ii.z).a1)  y11_0 2 5), true), (dS (Zd E_ii v1), true), (dP (ZT (code (ZI E_ii y1_7)) ((0 + (2 * 2)) + 1) 1 = some [.i (y1_7.getD 2 R_ii.z).a1]), true), (Nat.blt 2 y1_7.length, true), ((2 : Int) == Int.ofNat 2, true), (dP (ZT (code (ZI E_ii y1_7)) ((0 + (1 * 2)) + 1) 1 = some [.i (y1_7.getD 1 R_ii.z).a1]), true), (Nat.blt 1 y1_7.length, true), ((1 : Int) == Int.ofNat 1, true), (((((Int.tmod (y1_7.getD 1 R_ii.z).a1 (8 : Int)) + (8 : Int)) % (8 : Int)) != (v3 : Int)), false), ((Int.tmod ((Int.tmod (y1_7.getD 1 R_ii.z).a1 (8 : Int)) + (8 : Int)) (8 : Int)) == (((Int.tmod (y1_7.getD 1 R_ii.z).a1 (8 : Int)) + (8 : Int)) % (8 : Int)), true), ((IntKind.i64.wrap ((Int.tmod (y1_7.getD 1 R_ii.z).a1 (8 : Int)) + (8 : Int))) == ((Int.tmod (y1_7.getD 1 R_ii.z).a1 (8 : Int)) + (8 : Int)), true), (dP (ZT (code (ZI E_ii y1_7)) ((0 + (1 * 2)) + 1) 1 = some [.i (y1_7.getD 1 R_ii.z).a1]), true), (Nat.blt 1 y1_7.length, true), ((1 : Int) == Int.ofNat 1, true), (((y1_7.getD 2 R_ii.z).a0 != (1 : Int)), false), (dP (ZT (code (ZI E_ii y1_7)) ((0 + (2 * 2)) + 0) 1 = some [.i (y1_7.getD 2 R_ii.z).a0]), true), (Nat.blt 2 y1_7.length, true), ((2 : Int) == Int.ofNat 2, true), (((y1_7.getD 1 R_ii.z).a0 != (1 : Int)), false), (dP (ZT (code (ZI E_ii y1_7)) ((0 + (1 * 2)) + 0) 1 = some [.i (y1_7.getD 1 R_ii.z).a0]), true), (Nat.blt 1 y1_7.length, true), ((1 : Int) == Int.ofNat 1, true), (((y1_7.getD 0 R_ii.z).a0 != (2 : Int)), false), (dP (ZT (code (ZI E_ii y1_7)) ((0 + (0 * 2)) + 0) 1 = some [.i (y1_7.getD 0 R_ii.z).a0]), true), (Nat.blt 0 y1_7.length, true), ((0 : Int) == Int.ofNat 0, true), (((y1_7.length : Int) != (3 : Int)), false), ((y1_5 == (3 : Int)), false), ((v12 != (2 : Int)), false), ((decide ((((v2 + 1) : Nat) : Int) > (L0.length : Int))), false), ((IntKind.i64.wrap ((v2 : Int) + (1 : Int))) == (((v2 + 1) : Nat) : Int), true), (dP (Zav #[vs 0 0 L0.length L0.length, Value.agg #[vi v12, vi v13]] (L0) (v12) (v13)  y1_0 y1_1 y1_2 y1_3 y1_4 y1_5 y1_6 y1_7 0 4), true), (dS (Zd Eo L0), true), ((!((v12 == (2 : Int)) && ((v13 == (0 : Int)) && true))), true)]) rfl (show 2 ∈ Zq (Zec 2) from by decide +kernel) (fun gv => by kernel_rfl) (Zc (Zl (Z0 (E := E_ii) (L := y1_7) (i := 0) (q := 0) (by omega) (show (0 + (0 * 2)) = 0 * 2 + 0 from by omega) (show 0 + 2 ≤ 2 from by decide) rfl)) <| oB <| oI <| Zc (Zl (Zpi #[vs 2 0 v1.length v1.length, Value.agg #[vi (y1_7.getD 1 R_ii.z).a1, vi (y1_7.getD 2 R_ii.z).a1]] (v1) ((y1_7.getD 1 R_ii.z).a1) ((y1_7.getD 2 R_ii.z).a1)  y11_0 N c11 2 5 rfl (by decide) (by decide))) <| oR <| Zc (Zl (Z0 (E := E_ii) (L := y1_7) (i := 2) (q := 1) (by omega) (show ((0 + (2 * 2)) + 1) = 2 * 2 + 1 from by omega) (show 1 + 1 ≤ 2 from by decide) rfl)) <| oB <| oI <| Zc (Zl (Z0 (E := E_ii) (L := y1_7) (i := 1) (q := 1) (by omega) (show ((0 + (1 * 2)) + 1) = 1 * 2 + 1 from by omega) (show 1 + 1 ≤ 2 from by decide) rfl)) <| oB <| oI <| oE <| Zc (beq_iff_eq.2 (Zj1 (by omega))) <| Zc (beq_iff_eq.2 ((wrap_i64 ltA).trans (by first | rfl | omega))) <| Zc (Zl (Z0 (E := E_ii) (L := y1_7) (i := 1) (q := 1) (by omega) (show ((0 + (1 * 2)) + 1) = 1 * 2 + 1 from by omega) (show 1 + 1 ≤ 2 from by decide) rfl)) <| oB <| oI <| oE <| Zc (Zl (Z0 (E := E_ii) (L := y1_7) (i := 2) (q := 0) (by omega) (show ((0 + (2 * 2)) + 0) = 2 * 2 + 0 from by omega) (show 0 + 1 ≤ 2 from by decide) rfl)) <| oB <| oI <| oE <| Zc (Zl (Z0 (E := E_ii) (L := y1_7) (i := 1) (q := 0) (by omega) (show ((0 + (1 * 2)) + 0) = 1 * 2 + 0 from by omega) (show 0 + 1 ≤ 2 from by decide) rfl)) <| oB <| oI <| oE <| Zc (Zl (Z0 (E := E_ii) (L := y1_7) (i := 0) (q := 0) (by omega) (show ((0 + (0 * 2)) + 0) = 0 * 2 + 0 from by omega) (show 0 + 1 ≤ 2 from by decide) rfl)) <| oB <| oI <| oE <| oF <| oE <| oN <| Zc (beq_iff_eq.2 ((wrap_i64 ltA).trans (by first | rfl | omega))) <| Zc (Zl (Zaz #[vs 0 0 L0.length L0.length, Value.agg #[vi v12, vi v13]] (L0) (v12) (v13)  y1_0 y1_1 y1_2 y1_3 y1_4 y1_5 y1_6 y1_7 N c1 0 4 rfl (by decide) (by decide))) <| oR <| Zc (by rw [Bool.not_eq_true']; exact Bool.eq_false_iff.2 (by simp only [ne_eq, Bool.and_true, Bool.and_eq_true, beq_iff_eq]; first | omega | (intro hh; simp_all; done) | (intro hh; grind))) Zi) rfl (by decide) (by rfl) (fun _ => ⟨rr, ⟨rr, ⟨rr, ⟨rr, ⟨rr, ⟨rr, trivial⟩⟩⟩⟩⟩⟩) ⟨(Zj (E := Eo) (α := Ro) _ L0 _), ⟨sm, ⟨(Zj (E := E_ii) (α := R_ii) _ y11_0 _), ⟨sm, trivial⟩⟩⟩⟩
  | r1 =>
   refine Mach.ok_ite (fun g2 => ?_) (fun _ => Mach.ok_none)
   exact Mach.ok_fin (M := Z9 L0 N) (cd := 1000000) (cm := 0) (r := (.r0 (false) : Zt)) (fu := 4000) (orc := (Zr [(0, true)] [(0, (((v2 + 1) : Nat) : Int))] [] [] [(0, (Zip (L0) (v12) (v13)   0 4))])) (live := [0]) (u := Value.tuple #[vn, vf]) (bl := [some (.cells (Zd Eo L0) 31)]) (ob := [((IntKind.i64.wrap ((v2 : Int) + (1 : Int))) == (((v2 + 1) : Nat) : Int), true), (dP (Zgx #[vs 0 0 L0.length L0.length, Value.agg #[vi v12, vi v13]] (L0) (v12) (v13)   0 4), true), (dS (Zd Eo L0), true), ((!((v12 == (2 : Int)) && ((v13 == (0 : Int)) && true))), true)]) (fun gv => by kernel_rfl) (Zc (beq_iff_eq.2 ((wrap_i64 ltA).trans (by first | rfl | omega))) <| Zc (Zl (Ziq #[vs 0 0 L0.length L0.length, Value.agg #[vi v12, vi v13]] (L0) (v12) (v13)   N c1 0 4 rfl (by decide) (by decide))) <| oR <| Zc (by rw [Bool.not_eq_true']; exact Bool.eq_false_iff.2 (by simp only [ne_eq, Bool.and_true, Bool.and_eq_true, beq_iff_eq]; first | omega | (intro hh; simp_all; done) | (intro hh; grind))) Zi) rfl (by decide) (by rfl) rr ⟨(Zj (E := Eo) (α := Ro) _ L0 _), trivial⟩
 ·
  refine Mach.ok_ite (fun g1 => ?_) (fun _ => Mach.ok_none)
  exact Mach.ok_next (M := Z9 L0 N) (cd := 1000000) (cm := 0) (y := (.h1m1 (v1) (v2) ((v3 + 1)) (v4) (v5) (v6) (v7) (v8) (v9) (v10) (v11) : ref31_Pairs_2X)) (fu := 4000) (orc := (Zr [(0, false)] [(0, (((v3 + 1) : Nat) : Int))] [] [] [])) (live := [0, 1, 2]) (tv := fun _ => [some (vs 0 0 L0.length L0.length), some (vp 1 0), some (vs 2 0 v1.length v1.length), some (vi (v2 : Int)), some (vi (((v3 + 1) : Nat) : Int))]) (bl := [some (.cells (Zd Eo L0) 31), some (.cells [vi v4, vi v5, vi v6, vi v7, vi v8, vi v9, vi v10, ms E_ii v11] 31), some (.cells (Zd E_ii v1) 43)]) (ob := [((IntKind.i64.wrap ((v3 : Int) + (1 : Int))) == (((v3 + 1) : Nat) : Int), true), ((!((v12 == (2 : Int)) && ((v13 == (0 : Int)) && true))), false)]) rfl (show 1 ∈ Zq (Zec 2) from by decide +kernel) (fun gv => by kernel_rfl) (Zc (beq_iff_eq.2 ((wrap_i64 ltA).trans (by first | rfl | omega))) <| Zc (by rw [Bool.not_eq_false']; first | (simp only [beq_self_eq_true, Bool.and_self]; done) | (simp only [Bool.and_true, Bool.and_eq_true, beq_iff_eq] <;> first | omega | (simp_all; done) | grind)) Zi) rfl (by decide) (by rfl) (fun _ => ⟨rr, ⟨rr, ⟨rr, ⟨rr, ⟨rr, trivial⟩⟩⟩⟩⟩) ⟨(Zj (E := Eo) (α := Ro) _ L0 _), ⟨sm, ⟨(Zj (E := E_ii) (α := R_ii) _ v1 _), trivial⟩⟩⟩

theorem Zob (L0 : List Ro) (N : Nat) : (Z9 L0 N).Enter Tryz.prog Zw #[vs 0 0 L0.length L0.length] (ZdJ L0 N) := by
 unfold ZdJ
 refine Mach.en_bind (fun z0 c0 => ?_)
 cases z0 with
 | r0 y0_0 y0_1 y0_2 y0_3 y0_4 y0_5 y0_6 y0_7 =>
  refine Mach.en_ite (fun g1 => ?_) (fun g1 => ?_)
  ·
   exact Mach.en_fin (M := Z9 L0 N) (cd := 1000000) (cm := 0) (r := (.r0 (false) : Zt)) (fu := 4000) (orc := (Zr [(1, true)] [] [] [] [(0, (Zay (L0) ((2 : Int)) ((1048577 : Int))  y0_0 y0_1 y0_2 y0_3 y0_4 y0_5 y0_6 y0_7 0 1))])) (live := [0]) (u := Value.tuple #[vn, vf]) (bl := [some (.cells (Zd Eo L0) 31)]) (ob := [((decide ((y0_7.length : Int) < (8 : Int))), true), (dP (Zav #[vs 0 0 L0.length L0.length, Value.agg #[vi (2 : Int), vi (1048577 : Int)]] (L0) ((2 : Int)) ((1048577 : Int))  y0_0 y0_1 y0_2 y0_3 y0_4 y0_5 y0_6 y0_7 0 1), true), (dS (Zd Eo L0), true)]) (by kernel_rfl) (oY <| Zc (Zl (Zaz #[vs 0 0 L0.length L0.length, Value.agg #[vi (2 : Int), vi (1048577 : Int)]] (L0) ((2 : Int)) ((1048577 : Int))  y0_0 y0_1 y0_2 y0_3 y0_4 y0_5 y0_6 y0_7 N c0 0 1 rfl (by decide) (by decide))) <| oR Zi) rfl (by decide) (by rfl) rr ⟨(Zj (E := Eo) (α := Ro) _ L0 _), trivial⟩
  ·
   exact Mach.en_head (bK := Zb7 1) (M := Z9 L0 N) (cd := 1000000) (cm := 0) (y := (.h1m0 (0) (y0_0) (y0_1) (y0_2) (y0_3) (y0_4) (y0_5) (y0_6) (y0_7) : ref31_Pairs_2X)) (fu := 4000) (orc := (Zr [(1, false)] [] [] [] [(0, (Zay (L0) ((2 : Int)) ((1048577 : Int))  y0_0 y0_1 y0_2 y0_3 y0_4 y0_5 y0_6 y0_7 0 1))])) (live := [0, 1]) (tv := [some (vs 0 0 L0.length L0.length), some (vp 1 0), some (vn), some (vq), some (vq)]) (bl := [some (.cells (Zd Eo L0) 31), some (.cells [vi y0_0, vi y0_1, vi y0_2, vi y0_3, vi y0_4, vi y0_5, vi y0_6, ms E_ii y0_7] 31)]) (ob := [((decide ((y0_7.length : Int) < (8 : Int))), false), (dP (Zav #[vs 0 0 L0.length L0.length, Value.agg #[vi (2 : Int), vi (1048577 : Int)]] (L0) ((2 : Int)) ((1048577 : Int))  y0_0 y0_1 y0_2 y0_3 y0_4 y0_5 y0_6 y0_7 0 1), true), (dS (Zd Eo L0), true)]) rfl rfl (show Zq (Zb7 1).2 = [] from rfl) (by kernel_rfl) (oN <| Zc (Zl (Zaz #[vs 0 0 L0.length L0.length, Value.agg #[vi (2 : Int), vi (1048577 : Int)]] (L0) ((2 : Int)) ((1048577 : Int))  y0_0 y0_1 y0_2 y0_3 y0_4 y0_5 y0_6 y0_7 N c0 0 1 rfl (by decide) (by decide))) <| oR Zi) rfl (by decide) (by rfl) ⟨rr, ⟨rr, ⟨rr, ⟨rr, ⟨⟨Eq.trans (show (vi ((0 : Nat) : Int) : Value) = vq from (congrArg (Value.int .i64) (by first | rfl | omega))) (by rfl), by rfl⟩, trivial⟩⟩⟩⟩⟩ ⟨(Zj (E := Eo) (α := Ro) _ L0 _), ⟨sm, trivial⟩⟩
 | r1 =>
  exact Mach.en_fin (M := Z9 L0 N) (cd := 1000000) (cm := 0) (r := (.r0 (false) : Zt)) (fu := 4000) (orc := (Zr [] [] [] [] [(0, (Zip (L0) ((2 : Int)) ((1048577 : Int))   0 1))])) (live := [0]) (u := Value.tuple #[vn, vf]) (bl := [some (.cells (Zd Eo L0) 31)]) (ob := [(dP (Zgx #[vs 0 0 L0.length L0.length, Value.agg #[vi (2 : Int), vi (1048577 : Int)]] (L0) ((2 : Int)) ((1048577 : Int))   0 1), true), (dS (Zd Eo L0), true)]) (by kernel_rfl) (Zc (Zl (Ziq #[vs 0 0 L0.length L0.length, Value.agg #[vi (2 : Int), vi (1048577 : Int)]] (L0) ((2 : Int)) ((1048577 : Int))   N c0 0 1 rfl (by decide) (by decide))) <| oR Zi) rfl (by decide) (by rfl) rr ⟨(Zj (E := Eo) (α := Ro) _ L0 _), trivial⟩

theorem ZiF (L0 : List Ro) (N : Nat) (r : Zt) (h : ZbI L0 N = some r) : LSpec Tryz.prog 5 #[vs 0 0 L0.length L0.length] [.cells (Zd Eo L0) 31] (Zk9 L0 r) (ZjS L0 r) :=
 Mach.spec ZcD (Z9 L0 N) Tryz.func5 (by kernel_rfl) (by kernel_rfl) (fun x => by cases x <;> exact ZaI _ rfl) (fun r => by cases r <;> exact ZaI _ rfl) (fun x => by
  cases x with
  | h1m0 _ _ _ _ _ _ _ _ _ => exact fun _ => (show ¬ (1 ∈ Zq (Zb7 1).2) from by decide +kernel)
  | h1m1 _ _ _ _ _ _ _ _ _ _ _ => exact fun _ => (show ¬ (1 ∈ Zq (Zb7 1).2) from by decide +kernel)
  | h2m0 _ _ _ _ _ _ _ _ _ _ _ => exact fun _ => (show ¬ (2 ∈ Zq (Zb7 2).2) from by decide +kernel)
  | h2m1 _ _ _ _ _ _ _ _ _ _ _ _ _ => exact fun _ => (show ¬ (2 ∈ Zq (Zb7 2).2) from by decide +kernel)
  ) (fun x => (show (Z9 L0 N).Ok Tryz.prog Zw x (ZaL L0 N x) from by
  cases x with
  | h1m0 v2 v3 v4 v5 v6 v7 v8 v9 v10 => exact Zlt L0 v2 v3 v4 v5 v6 v7 v8 v9 v10 N
  | h1m1 v1 v2 v3 v4 v5 v6 v7 v8 v9 v10 v11 => exact Zlu L0 v1 v2 v3 v4 v5 v6 v7 v8 v9 v10 v11 N
  | h2m0 v2 v3 v4 v5 v6 v7 v8 v9 v10 v11 v12 => exact Zlv L0 v2 v3 v4 v5 v6 v7 v8 v9 v10 v11 v12 N
  | h2m1 v1 v2 v3 v4 v5 v6 v7 v8 v9 v10 v11 v12 v13 => exact Zlw L0 v1 v2 v3 v4 v5 v6 v7 v8 v9 v10 v11 v12 v13 N
  )) (Zob L0 N) (n := N) h

noncomputable def Zcb (L0 : List Ro) (w1 : Bool) (k0 n : Nat) : ZcQ := .call [(k0, .cells (Zd Eo L0) 31)] (Value.tuple #[vn, Value.bool w1]) [] 0
def ZbK (A : Array Value) (L0 : List Ro) (w1 : Bool) (k0 n : Nat) : Prop := ZaB Tryz.prog 5 A [(k0, .cells (Zd Eo L0) 31)] (Value.tuple #[vn, Value.bool w1]) [] n 0

theorem Zcc (A : Array Value) (L0 : List Ro) (w1 : Bool) (N : Nat) (h : ZbI L0 N = some (.r0 w1)) (k0 n : Nat) (hA : A = #[vs k0 0 L0.length L0.length]) (hnd : ([k0] : List Nat).Nodup) (hlt : ∀ k ∈ ([k0] : List Nat), k < n) : ZbK A L0 w1 k0 n :=
 ZbB hA (LSpec.callL (show LSpec Tryz.prog 5 #[vs 0 0 L0.length L0.length] [.cells (Zd Eo L0) 31] (Value.tuple #[vn, Value.bool w1]) [some (.cells (Zd Eo L0) 31)] from ZiF L0 N _ h) [k0] n [] rfl hnd hlt (show 1 ≤ 1 from by decide) (show ∀ j ∈ ([] : List Nat), j < 1 from by decide) (by rfl) ⟨(Zah _ _ _), trivial⟩ (by rfl) ⟨(Zah _ _ _), trivial⟩ ⟨.inr rfl, trivial⟩ rfl rfl rfl (ZaK (Zbz rfl (Zbg _ _ _)) rfl) rfl)

noncomputable def Zcd (L0 : List Ro) (w1 : List R_ii) (k0 n : Nat) : ZcQ := .call [(k0, .cells (Zd Eo L0) 31)] (Value.tuple #[vs n 0 w1.length w1.length, vT]) [(n, some (.cells (Zd E_ii w1) 43))] 1
def ZbL (A : Array Value) (L0 : List Ro) (w1 : List R_ii) (k0 n : Nat) : Prop := ZaB Tryz.prog 5 A [(k0, .cells (Zd Eo L0) 31)] (Value.tuple #[vs n 0 w1.length w1.length, vT]) [(n, some (.cells (Zd E_ii w1) 43))] n 1

theorem Zce (A : Array Value) (L0 : List Ro) (w1 : List R_ii) (N : Nat) (h : ZbI L0 N = some (.r1 w1)) (k0 n : Nat) (hA : A = #[vs k0 0 L0.length L0.length]) (hnd : ([k0] : List Nat).Nodup) (hlt : ∀ k ∈ ([k0] : List Nat), k < n) : ZbL A L0 w1 k0 n :=
 ZbB hA (LSpec.callL (show LSpec Tryz.prog 5 #[vs 0 0 L0.length L0.length] [.cells (Zd Eo L0) 31] (Value.tuple #[vs 1 0 w1.length w1.length, vT]) [some (.cells (Zd Eo L0) 31), some (.cells (Zd E_ii w1) 43)] from ZiF L0 N _ h) [k0] n [1] rfl hnd hlt (show 1 ≤ 2 from by decide) (show ∀ j ∈ ([1] : List Nat), j < 2 from by decide) (by rfl) ⟨(Zah _ _ _), trivial⟩ (by rfl) ⟨(Zah _ _ _), ⟨(Zah _ _ _), trivial⟩⟩ ⟨.inr rfl, ⟨(by decide), trivial⟩⟩ rfl rfl rfl (ZaK (Zbz rfl (Zbg _ _ _)) rfl) (ZaK (Zbz rfl (Zf1 (Zbg _ _ _))) rfl))

noncomputable def ZiG (L0 : List R_ii) : Zbd → Value
 | .r0 w1 => Value.bool w1
noncomputable def Zib (L0 : List R_ii) : Zbd → List (Option AObj)
 | .r0 w1 => [some (.cells (Zd E_ii L0) 43)]

def Zlx : ZaM → Nat
 | .h1m0 => 1
noncomputable def ZmH (L0 : List R_ii) : ZaM → List (Nat × Value)
 | .h1m0 => [(0, vn), (1, vs 0 0 L0.length L0.length), (5, vq)]
noncomputable def ZmI (L0 : List R_ii) : ZaM → List (Option AObj)
 | .h1m0 => [some (.cells (Zd E_ii L0) 43)]

noncomputable def Ze8 : Nat → Code × List ZaO
 | 1 => ZaV [1, 1, 0, 1, 3] (Zbr Tryz.f6) []
 | _ => (.skip, [])
def Zly : Nat → Bool
 | 1 => true
 | _ => true
noncomputable def Zch (L0 : List R_ii) (N : Nat) : Mach := ⟨Tryz.f6, [.cells (Zd E_ii L0) 43], ZaM, Zbd, ZdK L0 N, Zlx, Ze8, Zly, ZmH L0, ZmI L0, ZiG L0, Zib L0⟩

theorem ZjH (L0 : List R_ii) (N : Nat) : (Zch L0 N).Ok Tryz.prog Zw (.h1m0 : ZaM) (ZdK L0 N (.h1m0 : ZaM)) := by
 show (Zch L0 N).Ok Tryz.prog Zw (.h1m0 : ZaM) (ZeF L0 N)
 unfold ZeF
 exact Mach.ok_fin (M := Zch L0 N) (cd := 1000000) (cm := 0) (r := (.r0 (true) : Zbd)) (fu := 4000) (orc := (Zr [] [] [] [] [])) (live := [0]) (u := vT) (bl := [some (.cells (Zd E_ii L0) 43)]) (ob := []) (fun gv => by kernel_rfl) Zi rfl (by decide) (by rfl) rr ⟨(Zj (E := E_ii) (α := R_ii) _ L0 _), trivial⟩

theorem Zlb (L0 : List R_ii) (N : Nat) : (Zch L0 N).Enter Tryz.prog Zw #[vn, vs 0 0 L0.length L0.length] (Zf6 L0 N) := by
 unfold Zf6
 refine Mach.en_ite (fun g0 => ?_) (fun g0 => ?_)
 ·
  exact Mach.en_fin (M := Zch L0 N) (cd := 1000000) (cm := 0) (r := (.r0 (false) : Zbd)) (fu := 4000) (orc := (Zr [(0, true)] [] [] [] [])) (live := [0]) (u := vf) (bl := [some (.cells (Zd E_ii L0) 43)]) (ob := [(((0 : Int) != (L0.length : Int)), true)]) (by kernel_rfl) (oD Zi) rfl (by decide) (by rfl) rr ⟨(Zj (E := E_ii) (α := R_ii) _ L0 _), trivial⟩
 ·
  exact Mach.en_head (bK := Ze8 1) (M := Zch L0 N) (cd := 1000000) (cm := 0) (y := (.h1m0 : ZaM)) (fu := 4000) (orc := (Zr [(0, false)] [] [] [] [])) (live := [0]) (tv := [some (vn), some (vs 0 0 L0.length L0.length), some (vq)]) (bl := [some (.cells (Zd E_ii L0) 43)]) (ob := [(((0 : Int) != (L0.length : Int)), false)]) rfl rfl (show Zq (Ze8 1).2 = [] from rfl) (by kernel_rfl) (oE Zi) rfl (by decide) (by rfl) ⟨rr, ⟨rr, ⟨rr, trivial⟩⟩⟩ ⟨(Zj (E := E_ii) (α := R_ii) _ L0 _), trivial⟩

theorem Zke (L0 : List R_ii) (N : Nat) (r : Zbd) (h : ZeS L0 N = some r) : LSpec Tryz.prog 6 #[vn, vs 0 0 L0.length L0.length] [.cells (Zd E_ii L0) 43] (ZiG L0 r) (Zib L0 r) :=
 Mach.spec ZcD (Zch L0 N) Tryz.func6 (by kernel_rfl) (by kernel_rfl) (fun x => by cases x <;> exact ZaI _ rfl) (fun r => by cases r <;> exact ZaI _ rfl) (fun x => by
  cases x with
  | h1m0 => exact fun _ => (show ¬ (1 ∈ Zq (Ze8 1).2) from by decide +kernel)
  ) (fun x => (show (Zch L0 N).Ok Tryz.prog Zw x (ZdK L0 N x) from by
  cases x with
  | h1m0 => exact ZjH L0 N
  )) (Zlb L0 N) (n := N) h

noncomputable def ZcM (L0 : List R_ii) (w1 : Bool) (k0 n : Nat) : ZcQ := .call [(k0, .cells (Zd E_ii L0) 43)] (Value.bool w1) [] 0
def Zc1 (A : Array Value) (L0 : List R_ii) (w1 : Bool) (k0 n : Nat) : Prop := ZaB Tryz.prog 6 A [(k0, .cells (Zd E_ii L0) 43)] (Value.bool w1) [] n 0

theorem ZcN (A : Array Value) (L0 : List R_ii) (w1 : Bool) (N : Nat) (h : ZeS L0 N = some (.r0 w1)) (k0 n : Nat) (hA : A = #[vn, vs k0 0 L0.length L0.length]) (hnd : ([k0] : List Nat).Nodup) (hlt : ∀ k ∈ ([k0] : List Nat), k < n) : Zc1 A L0 w1 k0 n :=
 ZbB hA (LSpec.callL (show LSpec Tryz.prog 6 #[vn, vs 0 0 L0.length L0.length] [.cells (Zd E_ii L0) 43] (Value.bool w1) [some (.cells (Zd E_ii L0) 43)] from Zke L0 N _ h) [k0] n [] rfl hnd hlt (show 1 ≤ 1 from by decide) (show ∀ j ∈ ([] : List Nat), j < 1 from by decide) (by rfl) ⟨(Zah _ _ _), trivial⟩ (by rfl) ⟨(Zah _ _ _), trivial⟩ ⟨.inr rfl, trivial⟩ rfl rfl rfl (ZaK (Zbz rfl (Zbg _ _ _)) rfl) rfl)

noncomputable def ZiH (L0 : List R_ii) (n1 : Nat) : Zbe → Value
 | .r0 w1 => Value.bool w1
noncomputable def Zic (L0 : List R_ii) (n1 : Nat) : Zbe → List (Option AObj)
 | .r0 w1 => [some (.cells (Zd E_ii L0) 43)]

def Zlz : ZaN → Nat
 | .h1m0 => 1
noncomputable def ZmJ (L0 : List R_ii) (n1 : Nat) : ZaN → List (Nat × Value)
 | .h1m0 => [(0, vs 0 0 n1 n1), (1, vn), (5, vq)]
noncomputable def ZmK (L0 : List R_ii) (n1 : Nat) : ZaN → List (Option AObj)
 | .h1m0 => [some (.cells (Zd E_ii L0) 43)]

noncomputable def Ze9 : Nat → Code × List ZaO
 | 1 => ZaV [1, 1, 0, 1, 3] (Zbr Tryz.f6) []
 | _ => (.skip, [])
def Zl0 : Nat → Bool
 | 1 => true
 | _ => true
noncomputable def Zci (L0 : List R_ii) (n1 N : Nat) : Mach := ⟨Tryz.f6, [.cells (Zd E_ii L0) 43], ZaN, Zbe, ZdL L0 n1 N, Zlz, Ze9, Zl0, ZmJ L0 n1, ZmK L0 n1, ZiH L0 n1, Zic L0 n1⟩

theorem ZjI (L0 : List R_ii) (n1 N : Nat) : (Zci L0 n1 N).Ok Tryz.prog Zw (.h1m0 : ZaN) (ZdL L0 n1 N (.h1m0 : ZaN)) := by
 show (Zci L0 n1 N).Ok Tryz.prog Zw (.h1m0 : ZaN) (ZeG L0 n1 N)
 unfold ZeG
 refine Mach.ok_ite (fun _ => Mach.ok_none) (fun g0 => ?_)
 exact Mach.ok_fin (M := Zci L0 n1 N) (cd := 1000000) (cm := 0) (r := (.r0 (true) : Zbe)) (fu := 4000) (orc := (Zr [(0, false)] [] [] [] [])) (live := [0]) (u := vT) (bl := [some (.cells (Zd E_ii L0) 43)]) (ob := [((decide ((0 : Int) < (n1 : Int))), false)]) (fun gv => by kernel_rfl) (oN Zi) rfl (by decide) (by rfl) rr ⟨(Zj (E := E_ii) (α := R_ii) _ L0 _), trivial⟩

theorem Zlc (L0 : List R_ii) (n1 N : Nat) : (Zci L0 n1 N).Enter Tryz.prog Zw #[vs 0 0 n1 n1, vn] (Zf7 L0 n1 N) := by
 unfold Zf7
 refine Mach.en_ite (fun g0 => ?_) (fun g0 => ?_)
 ·
  exact Mach.en_fin (M := Zci L0 n1 N) (cd := 1000000) (cm := 0) (r := (.r0 (false) : Zbe)) (fu := 4000) (orc := (Zr [(0, true)] [] [] [] [])) (live := [0]) (u := vf) (bl := [some (.cells (Zd E_ii L0) 43)]) (ob := [(((n1 : Int) != (0 : Int)), true)]) (by kernel_rfl) (oD Zi) rfl (by decide) (by rfl) rr ⟨(Zj (E := E_ii) (α := R_ii) _ L0 _), trivial⟩
 ·
  exact Mach.en_head (bK := Ze9 1) (M := Zci L0 n1 N) (cd := 1000000) (cm := 0) (y := (.h1m0 : ZaN)) (fu := 4000) (orc := (Zr [(0, false)] [] [] [] [])) (live := [0]) (tv := [some (vs 0 0 n1 n1), some (vn), some (vq)]) (bl := [some (.cells (Zd E_ii L0) 43)]) (ob := [(((n1 : Int) != (0 : Int)), false)]) rfl rfl (show Zq (Ze9 1).2 = [] from rfl) (by kernel_rfl) (oE Zi) rfl (by decide) (by rfl) ⟨rr, ⟨rr, ⟨rr, trivial⟩⟩⟩ ⟨(Zj (E := E_ii) (α := R_ii) _ L0 _), trivial⟩

theorem Zkf (L0 : List R_ii) (n1 N : Nat) (r : Zbe) (h : ZeT L0 n1 N = some r) : LSpec Tryz.prog 6 #[vs 0 0 n1 n1, vn] [.cells (Zd E_ii L0) 43] (ZiH L0 n1 r) (Zic L0 n1 r) :=
 Mach.spec ZcD (Zci L0 n1 N) Tryz.func6 (by kernel_rfl) (by kernel_rfl) (fun x => by cases x <;> exact ZaI _ rfl) (fun r => by cases r <;> exact ZaI _ rfl) (fun x => by
  cases x with
  | h1m0 => exact fun _ => (show ¬ (1 ∈ Zq (Ze9 1).2) from by decide +kernel)
  ) (fun x => (show (Zci L0 n1 N).Ok Tryz.prog Zw x (ZdL L0 n1 N x) from by
  cases x with
  | h1m0 => exact ZjI L0 n1 N
  )) (Zlc L0 n1 N) (n := N) h

noncomputable def ZcO (L0 : List R_ii) (n1 : Nat) (w1 : Bool) (k0 n : Nat) : ZcQ := .call [(k0, .cells (Zd E_ii L0) 43)] (Value.bool w1) [] 0
def Zc2 (A : Array Value) (L0 : List R_ii) (n1 : Nat) (w1 : Bool) (k0 n : Nat) : Prop := ZaB Tryz.prog 6 A [(k0, .cells (Zd E_ii L0) 43)] (Value.bool w1) [] n 0

theorem ZcP (A : Array Value) (L0 : List R_ii) (n1 : Nat) (w1 : Bool) (N : Nat) (h : ZeT L0 n1 N = some (.r0 w1)) (k0 n : Nat) (hA : A = #[vs k0 0 n1 n1, vn]) (hnd : ([k0] : List Nat).Nodup) (hlt : ∀ k ∈ ([k0] : List Nat), k < n) : Zc2 A L0 n1 w1 k0 n :=
 ZbB hA (LSpec.callL (show LSpec Tryz.prog 6 #[vs 0 0 n1 n1, vn] [.cells (Zd E_ii L0) 43] (Value.bool w1) [some (.cells (Zd E_ii L0) 43)] from Zkf L0 n1 N _ h) [k0] n [] rfl hnd hlt (show 1 ≤ 1 from by decide) (show ∀ j ∈ ([] : List Nat), j < 1 from by decide) (by rfl) ⟨(Zah _ _ _), trivial⟩ (by rfl) ⟨(Zah _ _ _), trivial⟩ ⟨.inr rfl, trivial⟩ rfl rfl rfl (ZaK (Zbz rfl (Zbg _ _ _)) rfl) rfl)

noncomputable def ZiI (L0 : List R_ii) (n1 : Nat) (L2 : List R_ii) : ZaG → Value
 | .r0 w2 => Value.bool w2
noncomputable def Zid (L0 : List R_ii) (n1 : Nat) (L2 : List R_ii) : ZaG → List (Option AObj)
 | .r0 w2 => [some (.cells (Zd E_ii L0) 43), some (.cells (Zd E_ii L2) 43)]

def Zl1 : Za8 → Nat
 | .h1m0 v3 => 1
noncomputable def ZmL (L0 : List R_ii) (n1 : Nat) (L2 : List R_ii) : Za8 → List (Nat × Value)
 | .h1m0 v3 => [(0, vs 0 0 n1 n1), (1, vs 1 0 L2.length L2.length), (5, vi (v3 : Int))]
noncomputable def ZmM (L0 : List R_ii) (n1 : Nat) (L2 : List R_ii) : Za8 → List (Option AObj)
 | .h1m0 v3 => [some (.cells (Zd E_ii L0) 43), some (.cells (Zd E_ii L2) 43)]

noncomputable def Zde : Nat → Code × List ZaO
 | 1 => ZaV [1, 1, 0, 1, 3] (Zbr Tryz.f6) []
 | _ => (.skip, [])
def Zie : Nat → Bool
 | 1 => true
 | _ => true
noncomputable def ZmN (i : Nat) : List ZaO := match Zie i with | true => .rnd i :: (Zde i).2 | false => (Zde i).2

noncomputable def Zb5 (L0 : List R_ii) (n1 : Nat) (L2 : List R_ii) (N : Nat) : Mach := ⟨Tryz.f6, [.cells (Zd E_ii L0) 43, .cells (Zd E_ii L2) 43], Za8, ZaG, Zdb L0 n1 L2 N, Zl1, Zde, Zie, ZmL L0 n1 L2, ZmM L0 n1 L2, ZiI L0 n1 L2, Zid L0 n1 L2⟩

theorem ZjJ (L0 : List R_ii) (n1 : Nat) (L2 : List R_ii) (v3 N : Nat) : (Zb5 L0 n1 L2 N).Ok Tryz.prog Zw (.h1m0 v3 : Za8) (Zdb L0 n1 L2 N (.h1m0 v3 : Za8)) := by
 show (Zb5 L0 n1 L2 N).Ok Tryz.prog Zw (.h1m0 v3 : Za8) (ZbP L0 n1 L2 N v3)
 unfold ZbP
 refine Mach.ok_ite (fun g0 => ?_) (fun g0 => ?_)
 ·
  refine Mach.ok_ite (fun g1 => ?_) (fun _ => Mach.ok_none)
  refine Mach.ok_ite (fun g2 => ?_) (fun _ => Mach.ok_none)
  refine Mach.ok_ite (fun g3 => ?_) (fun g3 => ?_)
  ·
   exact Mach.ok_fin (M := Zb5 L0 n1 L2 N) (cd := 1000000) (cm := 0) (r := (.r0 (false) : ZaG)) (fu := 4000) (orc := (Zr [(0, true), (1, true)] [] [(0, v3), (1, v3)] [(0, [.i (L0.getD v3 R_ii.z).a0, .i (L0.getD v3 R_ii.z).a1]), (1, [.i (L2.getD v3 R_ii.z).a0, .i (L2.getD v3 R_ii.z).a1])] [])) (live := [0, 1]) (u := vf) (bl := [some (.cells (Zd E_ii L0) 43), some (.cells (Zd E_ii L2) 43)]) (ob := [((!(((L0.getD v3 R_ii.z).a0 == (L2.getD v3 R_ii.z).a0) && (((L0.getD v3 R_ii.z).a1 == (L2.getD v3 R_ii.z).a1) && true))), true), (ZS (Z3 2 (List.drop (0 + (v3 * 2)) (Zd E_ii L2))) [.i (L2.getD v3 R_ii.z).a0, .i (L2.getD v3 R_ii.z).a1], true), (Nat.blt v3 L2.length, true), ((v3 : Int) == Int.ofNat v3, true), (ZS (Z3 2 (List.drop (0 + (v3 * 2)) (Zd E_ii L0))) [.i (L0.getD v3 R_ii.z).a0, .i (L0.getD v3 R_ii.z).a1], true), (Nat.blt v3 n1, true), ((v3 : Int) == Int.ofNat v3, true), ((decide ((v3 : Int) < (n1 : Int))), true)]) (fun gv => by kernel_rfl) (Zc (by rw [Bool.not_eq_true']; exact Bool.eq_false_iff.2 (by simp only [ne_eq, Bool.and_true, Bool.and_eq_true, beq_iff_eq]; first | omega | (intro hh; simp_all; done) | (intro hh; grind))) <| Zc (Zy (E := E_ii) (L := L2) (i := v3) (q := 0) (by omega) (show (0 + (v3 * 2)) = v3 * 2 + 0 from by omega) (show 0 + 2 ≤ 2 from by decide) rfl rfl) <| oB <| oI <| Zc (Zy (E := E_ii) (L := L0) (i := v3) (q := 0) (by omega) (show (0 + (v3 * 2)) = v3 * 2 + 0 from by omega) (show 0 + 2 ≤ 2 from by decide) rfl rfl) <| oB <| oI <| oY Zi) rfl (by decide) (by rfl) rr ⟨(Zj (E := E_ii) (α := R_ii) _ L0 _), ⟨(Zj (E := E_ii) (α := R_ii) _ L2 _), trivial⟩⟩
  ·
   refine Mach.ok_ite (fun g4 => ?_) (fun _ => Mach.ok_none)
   exact Mach.ok_next (M := Zb5 L0 n1 L2 N) (cd := 1000000) (cm := 0) (y := (.h1m0 ((v3 + 1)) : Za8)) (fu := 4000) (orc := (Zr [(0, true), (1, false)] [(0, (((v3 + 1) : Nat) : Int))] [(0, v3), (1, v3)] [(0, [.i (L0.getD v3 R_ii.z).a0, .i (L0.getD v3 R_ii.z).a1]), (1, [.i (L2.getD v3 R_ii.z).a0, .i (L2.getD v3 R_ii.z).a1])] [])) (live := [0, 1]) (tv := fun _ => [some (vs 0 0 n1 n1), some (vs 1 0 L2.length L2.length), some (vi (((v3 + 1) : Nat) : Int))]) (bl := [some (.cells (Zd E_ii L0) 43), some (.cells (Zd E_ii L2) 43)]) (ob := [((IntKind.i64.wrap ((v3 : Int) + (1 : Int))) == (((v3 + 1) : Nat) : Int), true), ((!(((L0.getD v3 R_ii.z).a0 == (L2.getD v3 R_ii.z).a0) && (((L0.getD v3 R_ii.z).a1 == (L2.getD v3 R_ii.z).a1) && true))), false), (ZS (Z3 2 (List.drop (0 + (v3 * 2)) (Zd E_ii L2))) [.i (L2.getD v3 R_ii.z).a0, .i (L2.getD v3 R_ii.z).a1], true), (Nat.blt v3 L2.length, true), ((v3 : Int) == Int.ofNat v3, true), (ZS (Z3 2 (List.drop (0 + (v3 * 2)) (Zd E_ii L0))) [.i (L0.getD v3 R_ii.z).a0, .i (L0.getD v3 R_ii.z).a1], true), (Nat.blt v3 n1, true), ((v3 : Int) == Int.ofNat v3, true), ((decide ((v3 : Int) < (n1 : Int))), true)]) rfl (show 1 ∈ Zq (ZmN 1) from by decide +kernel) (fun gv => by kernel_rfl) (Zc (beq_iff_eq.2 ((wrap_i64 ltA).trans (by first | rfl | omega))) <| Zc (by rw [Bool.not_eq_false']; first | (simp only [beq_self_eq_true, Bool.and_self]; done) | (simp only [Bool.and_true, Bool.and_eq_true, beq_iff_eq] <;> first | omega | (simp_all; done) | grind)) <| Zc (Zy (E := E_ii) (L := L2) (i := v3) (q := 0) (by omega) (show (0 + (v3 * 2)) = v3 * 2 + 0 from by omega) (show 0 + 2 ≤ 2 from by decide) rfl rfl) <| oB <| oI <| Zc (Zy (E := E_ii) (L := L0) (i := v3) (q := 0) (by omega) (show (0 + (v3 * 2)) = v3 * 2 + 0 from by omega) (show 0 + 2 ≤ 2 from by decide) rfl rfl) <| oB <| oI <| oY Zi) rfl (by decide) (by rfl) (fun _ => ⟨rr, ⟨rr, ⟨rr, trivial⟩⟩⟩) ⟨(Zj (E := E_ii) (α := R_ii) _ L0 _), ⟨(Zj (E := E_ii) (α := R_ii) _ L2 _), trivial⟩⟩
 ·
  exact Mach.ok_fin (M := Zb5 L0 n1 L2 N) (cd := 1000000) (cm := 0) (r := (.r0 (true) : ZaG)) (fu := 4000) (orc := (Zr [(0, false)] [] [] [] [])) (live := [0, 1]) (u := vT) (bl := [some (.cells (Zd E_ii L0) 43), some (.cells (Zd E_ii L2) 43)]) (ob := [((decide ((v3 : Int) < (n1 : Int))), false)]) (fun gv => by kernel_rfl) (oN Zi) rfl (by decide) (by rfl) rr ⟨(Zj (E := E_ii) (α := R_ii) _ L0 _), ⟨(Zj (E := E_ii) (α := R_ii) _ L2 _), trivial⟩⟩

theorem Zld (L0 : List R_ii) (n1 : Nat) (L2 : List R_ii) (N : Nat) : (Zb5 L0 n1 L2 N).Enter Tryz.prog Zw #[vs 0 0 n1 n1, vs 1 0 L2.length L2.length] (Zei L0 n1 L2 N) := by
 unfold Zei
 refine Mach.en_ite (fun g0 => ?_) (fun g0 => ?_)
 ·
  exact Mach.en_fin (M := Zb5 L0 n1 L2 N) (cd := 1000000) (cm := 0) (r := (.r0 (false) : ZaG)) (fu := 4000) (orc := (Zr [(0, true)] [] [] [] [])) (live := [0, 1]) (u := vf) (bl := [some (.cells (Zd E_ii L0) 43), some (.cells (Zd E_ii L2) 43)]) (ob := [(((n1 : Int) != (L2.length : Int)), true)]) (by kernel_rfl) (oD Zi) rfl (by decide) (by rfl) rr ⟨(Zj (E := E_ii) (α := R_ii) _ L0 _), ⟨(Zj (E := E_ii) (α := R_ii) _ L2 _), trivial⟩⟩
 ·
  exact Mach.en_head (bK := Zde 1) (M := Zb5 L0 n1 L2 N) (cd := 1000000) (cm := 0) (y := (.h1m0 (0) : Za8)) (fu := 4000) (orc := (Zr [(0, false)] [] [] [] [])) (live := [0, 1]) (tv := [some (vs 0 0 n1 n1), some (vs 1 0 L2.length L2.length), some (vq)]) (bl := [some (.cells (Zd E_ii L0) 43), some (.cells (Zd E_ii L2) 43)]) (ob := [(((n1 : Int) != (L2.length : Int)), false)]) rfl rfl (show Zq (Zde 1).2 = [] from rfl) (by kernel_rfl) (oE Zi) rfl (by decide) (by rfl) ⟨rr, ⟨rr, ⟨⟨Eq.trans (show (vi ((0 : Nat) : Int) : Value) = vq from (congrArg (Value.int .i64) (by first | rfl | omega))) (by rfl), by rfl⟩, trivial⟩⟩⟩ ⟨(Zj (E := E_ii) (α := R_ii) _ L0 _), ⟨(Zj (E := E_ii) (α := R_ii) _ L2 _), trivial⟩⟩

theorem Zkg (L0 : List R_ii) (n1 : Nat) (L2 : List R_ii) (N : Nat) (r : ZaG) (h : Zdu L0 n1 L2 N = some r) : LSpec Tryz.prog 6 #[vs 0 0 n1 n1, vs 1 0 L2.length L2.length] [.cells (Zd E_ii L0) 43, .cells (Zd E_ii L2) 43] (ZiI L0 n1 L2 r) (Zid L0 n1 L2 r) :=
 Mach.spec ZcD (Zb5 L0 n1 L2 N) Tryz.func6 (by kernel_rfl) (by kernel_rfl) (fun x => by cases x <;> exact ZaI _ rfl) (fun r => by cases r <;> exact ZaI _ rfl) (fun x => by
  cases x with
  | h1m0 _ => exact fun _ => (show ¬ (1 ∈ Zq (Zde 1).2) from by decide +kernel)
  ) (fun x => (show (Zb5 L0 n1 L2 N).Ok Tryz.prog Zw x (Zdb L0 n1 L2 N x) from by
  cases x with
  | h1m0 v3 => exact ZjJ L0 n1 L2 v3 N
  )) (Zld L0 n1 L2 N) (n := N) h

noncomputable def Zej (L0 : List R_ii) (n1 : Nat) (L2 : List R_ii) (w2 : Bool) (k0 k1 n : Nat) : ZcQ := .call [(k0, .cells (Zd E_ii L0) 43), (k1, .cells (Zd E_ii L2) 43)] (Value.bool w2) [] 0
def Zd7 (A : Array Value) (L0 : List R_ii) (n1 : Nat) (L2 : List R_ii) (w2 : Bool) (k0 k1 n : Nat) : Prop := ZaB Tryz.prog 6 A [(k0, .cells (Zd E_ii L0) 43), (k1, .cells (Zd E_ii L2) 43)] (Value.bool w2) [] n 0

theorem Zek (A : Array Value) (L0 : List R_ii) (n1 : Nat) (L2 : List R_ii) (w2 : Bool) (N : Nat) (h : Zdu L0 n1 L2 N = some (.r0 w2)) (k0 k1 n : Nat) (hA : A = #[vs k0 0 n1 n1, vs k1 0 L2.length L2.length]) (hnd : ([k0, k1] : List Nat).Nodup) (hlt : ∀ k ∈ ([k0, k1] : List Nat), k < n) : Zd7 A L0 n1 L2 w2 k0 k1 n :=
 ZbB hA (LSpec.callL (show LSpec Tryz.prog 6 #[vs 0 0 n1 n1, vs 1 0 L2.length L2.length] [.cells (Zd E_ii L0) 43, .cells (Zd E_ii L2) 43] (Value.bool w2) [some (.cells (Zd E_ii L0) 43), some (.cells (Zd E_ii L2) 43)] from Zkg L0 n1 L2 N _ h) [k0, k1] n [] rfl hnd hlt (show 2 ≤ 2 from by decide) (show ∀ j ∈ ([] : List Nat), j < 2 from by decide) (by rfl) ⟨(Zah _ _ _), ⟨(Zah _ _ _), trivial⟩⟩ (by rfl) ⟨(Zah _ _ _), ⟨(Zah _ _ _), trivial⟩⟩ ⟨.inr rfl, ⟨.inr rfl, trivial⟩⟩ rfl rfl rfl (ZaK (Zbz rfl (Zbg _ _ _)) (ZaK (Zbz rfl (Zbg _ _ _)) rfl)) rfl)

noncomputable def ZjE (L0 : List Ro) : Zs → Value
 | .r0 w0 => Value.bool w0
noncomputable def ZiU (L0 : List Ro) : Zs → List (Option AObj)
 | .r0 w0 => []

def Znz : law31_HashPairsX → Nat
 | .h1m0 => 1
 | .h1m1 v1 v2 => 1
noncomputable def Zoc (L0 : List Ro) : law31_HashPairsX → List (Nat × Value)
 | .h1m0 => [(0, ms Eo L0), (3, vn), (4, vq)]
 | .h1m1 v1 v2 => [(0, ms Eo L0), (3, vs 0 0 v1.length v1.length), (4, vi (v2 : Int))]
noncomputable def Zod (L0 : List Ro) : law31_HashPairsX → List (Option AObj)
 | .h1m0 => []
 | .h1m1 v1 v2 => [some (.cells (Zd Eo v1) 31)]

noncomputable def ZcY : Nat → Code × List ZaO
 | 1 => ZaV [1, 1, 0, 1, 3] (Zbr Tryz.f3) []
 | _ => (.skip, [])
def ZiV : Nat → Bool
 | 1 => true
 | _ => true
noncomputable def ZjF (i : Nat) : List ZaO := match ZiV i with | true => .rnd i :: (ZcY i).2 | false => (ZcY i).2

noncomputable def ZJ (L0 : List Ro) (N : Nat) : Mach := ⟨Tryz.f3, [], law31_HashPairsX, Zs, ZcL L0 N, Znz, ZcY, ZiV, Zoc L0, Zod L0, ZjE L0, ZiU L0⟩

theorem ZkA (L0 : List Ro) (N : Nat) : (ZJ L0 N).Ok Tryz.prog Zw (.h1m0 : law31_HashPairsX) (ZcL L0 N (.h1m0 : law31_HashPairsX)) := by
 show (ZJ L0 N).Ok Tryz.prog Zw (.h1m0 : law31_HashPairsX) (Zck L0 N)
 unfold Zck
 refine Mach.ok_ite (fun g0 => ?_) (fun g0 => ?_)
 ·
  exact Mach.ok_next (M := ZJ L0 N) (cd := 1000000) (cm := 0) (y := (.h1m1 (([(⟨(L0.getD 0 Ro.z).a0, (L0.getD 0 Ro.z).a1, (L0.getD 0 Ro.z).a2, (L0.getD 0 Ro.z).a3, (L0.getD 0 Ro.z).a4, (L0.getD 0 Ro.z).a5, (L0.getD 0 Ro.z).a6, ((L0.getD 0 Ro.z).a7.take ((if (16 : Int) < (((L0.getD 0 Ro.z).a7.length : Nat) : Int) then (16 : Int) else (((L0.getD 0 Ro.z).a7.length : Nat) : Int))).toNat)⟩ : Ro)] : List Ro)) (1) : law31_HashPairsX)) (fu := 4000) (orc := (Zr [(0, true)] [] [(0, 0)] [(0, [.i (L0.getD 0 Ro.z).a0, .i (L0.getD 0 Ro.z).a1, .i (L0.getD 0 Ro.z).a2, .i (L0.getD 0 Ro.z).a3, .i (L0.getD 0 Ro.z).a4, .i (L0.getD 0 Ro.z).a5, .i (L0.getD 0 Ro.z).a6, (mc E_ii (L0.getD 0 Ro.z).a7)])] [(1, .ms 0 ((if (16 : Int) < (((L0.getD 0 Ro.z).a7.length : Nat) : Int) then (16 : Int) else (((L0.getD 0 Ro.z).a7.length : Nat) : Int))).toNat ((L0.getD 0 Ro.z).a7.take ((if (16 : Int) < (((L0.getD 0 Ro.z).a7.length : Nat) : Int) then (16 : Int) else (((L0.getD 0 Ro.z).a7.length : Nat) : Int))).toNat).length (ZI E_ii ((L0.getD 0 Ro.z).a7.take ((if (16 : Int) < (((L0.getD 0 Ro.z).a7.length : Nat) : Int) then (16 : Int) else (((L0.getD 0 Ro.z).a7.length : Nat) : Int))).toNat)))])) (live := [2]) (tv := fun _ => [some (ms Eo L0), some (vs 2 0 1 1), some (vi (1 : Int))]) (bl := [some (.cells [vi (L0.getD 0 Ro.z).a0, vi (L0.getD 0 Ro.z).a1, vi (L0.getD 0 Ro.z).a2, vi (L0.getD 0 Ro.z).a3, vi (L0.getD 0 Ro.z).a4, vi (L0.getD 0 Ro.z).a5, vi (L0.getD 0 Ro.z).a6, ms E_ii ((L0.getD 0 Ro.z).a7.take ((if (16 : Int) < (((L0.getD 0 Ro.z).a7.length : Nat) : Int) then (16 : Int) else (((L0.getD 0 Ro.z).a7.length : Nat) : Int))).toNat)] 31)]) (ob := [(dP (0 ≤ ((if (16 : Int) < (((L0.getD 0 Ro.z).a7.length : Nat) : Int) then (16 : Int) else (((L0.getD 0 Ro.z).a7.length : Nat) : Int))).toNat ∧ ((if (16 : Int) < (((L0.getD 0 Ro.z).a7.length : Nat) : Int) then (16 : Int) else (((L0.getD 0 Ro.z).a7.length : Nat) : Int))).toNat ≤ (L0.getD 0 Ro.z).a7.length ∧ ZT (code (ZI E_ii (L0.getD 0 Ro.z).a7)) (0 + 0 * 2) (ZI E_ii ((L0.getD 0 Ro.z).a7.take ((if (16 : Int) < (((L0.getD 0 Ro.z).a7.length : Nat) : Int) then (16 : Int) else (((L0.getD 0 Ro.z).a7.length : Nat) : Int))).toNat)).length = some (ZI E_ii ((L0.getD 0 Ro.z).a7.take ((if (16 : Int) < (((L0.getD 0 Ro.z).a7.length : Nat) : Int) then (16 : Int) else (((L0.getD 0 Ro.z).a7.length : Nat) : Int))).toNat)) ∧ (((if (16 : Int) < (((L0.getD 0 Ro.z).a7.length : Nat) : Int) then (16 : Int) else (((L0.getD 0 Ro.z).a7.length : Nat) : Int))).toNat - 0) * 2 = (ZI E_ii ((L0.getD 0 Ro.z).a7.take ((if (16 : Int) < (((L0.getD 0 Ro.z).a7.length : Nat) : Int) then (16 : Int) else (((L0.getD 0 Ro.z).a7.length : Nat) : Int))).toNat)).length ∧ ((L0.getD 0 Ro.z).a7.take ((if (16 : Int) < (((L0.getD 0 Ro.z).a7.length : Nat) : Int) then (16 : Int) else (((L0.getD 0 Ro.z).a7.length : Nat) : Int))).toNat).length = ((if (16 : Int) < (((L0.getD 0 Ro.z).a7.length : Nat) : Int) then (16 : Int) else (((L0.getD 0 Ro.z).a7.length : Nat) : Int))).toNat - 0), true), ((if (16 : Int) < (((L0.getD 0 Ro.z).a7.length : Nat) : Int) then (16 : Int) else (((L0.getD 0 Ro.z).a7.length : Nat) : Int)) == Int.ofNat ((if (16 : Int) < (((L0.getD 0 Ro.z).a7.length : Nat) : Int) then (16 : Int) else (((L0.getD 0 Ro.z).a7.length : Nat) : Int))).toNat, true), (dS 0, true), (dP (ZT (code (ZI Eo L0)) (0 + (0 * 8)) 8 = some [.i (L0.getD 0 Ro.z).a0, .i (L0.getD 0 Ro.z).a1, .i (L0.getD 0 Ro.z).a2, .i (L0.getD 0 Ro.z).a3, .i (L0.getD 0 Ro.z).a4, .i (L0.getD 0 Ro.z).a5, .i (L0.getD 0 Ro.z).a6, (mc E_ii (L0.getD 0 Ro.z).a7)]), true), (Nat.blt 0 L0.length, true), ((0 : Int) == Int.ofNat 0, true), ((decide ((0 : Int) < (L0.length : Int))), true)]) rfl (show 1 ∈ Zq (ZjF 1) from by decide +kernel) (fun gv => by kernel_rfl) (Zc (Zl (ZsY (E := E_ii) (L := (L0.getD 0 Ro.z).a7) (R := ((L0.getD 0 Ro.z).a7.take ((if (16 : Int) < (((L0.getD 0 Ro.z).a7.length : Nat) : Int) then (16 : Int) else (((L0.getD 0 Ro.z).a7.length : Nat) : Int))).toNat)) (l := 0) (h := ((if (16 : Int) < (((L0.getD 0 Ro.z).a7.length : Nat) : Int) then (16 : Int) else (((L0.getD 0 Ro.z).a7.length : Nat) : Int))).toNat) (size := 2) ltA ltA (by decide) (by simp))) <| oI <| oR <| Zc (Zl (Z0 (E := Eo) (L := L0) (i := 0) (q := 0) (by omega) (show (0 + (0 * 8)) = 0 * 8 + 0 from by omega) (show 0 + 8 ≤ 8 from by decide) rfl)) <| oB <| oI <| oY Zi) rfl (by decide) (by rfl) (fun _ => ⟨rr, ⟨⟨Eq.trans (show (vs 0 0 ([(⟨(L0.getD 0 Ro.z).a0, (L0.getD 0 Ro.z).a1, (L0.getD 0 Ro.z).a2, (L0.getD 0 Ro.z).a3, (L0.getD 0 Ro.z).a4, (L0.getD 0 Ro.z).a5, (L0.getD 0 Ro.z).a6, ((L0.getD 0 Ro.z).a7.take ((if (16 : Int) < (((L0.getD 0 Ro.z).a7.length : Nat) : Int) then (16 : Int) else (((L0.getD 0 Ro.z).a7.length : Nat) : Int))).toNat)⟩ : Ro)] : List Ro).length ([(⟨(L0.getD 0 Ro.z).a0, (L0.getD 0 Ro.z).a1, (L0.getD 0 Ro.z).a2, (L0.getD 0 Ro.z).a3, (L0.getD 0 Ro.z).a4, (L0.getD 0 Ro.z).a5, (L0.getD 0 Ro.z).a6, ((L0.getD 0 Ro.z).a7.take ((if (16 : Int) < (((L0.getD 0 Ro.z).a7.length : Nat) : Int) then (16 : Int) else (((L0.getD 0 Ro.z).a7.length : Nat) : Int))).toNat)⟩ : Ro)] : List Ro).length : Value) = vs 0 0 1 1 from (ZbN rfl eqA eqA)) (by rfl), by rfl⟩, ⟨⟨Eq.trans (show (vi ((1 : Nat) : Int) : Value) = vi (1 : Int) from (congrArg (Value.int .i64) (by first | rfl | omega))) (by rfl), by rfl⟩, trivial⟩⟩⟩) ⟨(Zje (E := Eo) _ (L := ([(⟨(L0.getD 0 Ro.z).a0, (L0.getD 0 Ro.z).a1, (L0.getD 0 Ro.z).a2, (L0.getD 0 Ro.z).a3, (L0.getD 0 Ro.z).a4, (L0.getD 0 Ro.z).a5, (L0.getD 0 Ro.z).a6, ((L0.getD 0 Ro.z).a7.take ((if (16 : Int) < (((L0.getD 0 Ro.z).a7.length : Nat) : Int) then (16 : Int) else (((L0.getD 0 Ro.z).a7.length : Nat) : Int))).toNat)⟩ : Ro)] : List Ro)) _ (show ([vi (L0.getD 0 Ro.z).a0, vi (L0.getD 0 Ro.z).a1, vi (L0.getD 0 Ro.z).a2, vi (L0.getD 0 Ro.z).a3, vi (L0.getD 0 Ro.z).a4, vi (L0.getD 0 Ro.z).a5, vi (L0.getD 0 Ro.z).a6, ms E_ii ((L0.getD 0 Ro.z).a7.take ((if (16 : Int) < (((L0.getD 0 Ro.z).a7.length : Nat) : Int) then (16 : Int) else (((L0.getD 0 Ro.z).a7.length : Nat) : Int))).toNat)] : List Value) = Zd Eo ([(⟨(L0.getD 0 Ro.z).a0, (L0.getD 0 Ro.z).a1, (L0.getD 0 Ro.z).a2, (L0.getD 0 Ro.z).a3, (L0.getD 0 Ro.z).a4, (L0.getD 0 Ro.z).a5, (L0.getD 0 Ro.z).a6, ((L0.getD 0 Ro.z).a7.take ((if (16 : Int) < (((L0.getD 0 Ro.z).a7.length : Nat) : Int) then (16 : Int) else (((L0.getD 0 Ro.z).a7.length : Nat) : Int))).toNat)⟩ : Ro)] : List Ro) from rfl)), trivial⟩
 ·
  refine Mach.ok_bind (fun z1 c1 => ?_)
  cases z1 with
  | r0 =>
   refine Mach.ok_bind (fun z2 c2 => ?_)
   cases z2 with
   | r0 =>
    refine Mach.ok_bind (fun z3 c3 => ?_)
    cases z3 with
    | r0 =>
     refine Mach.ok_bind (fun z4 c4 => ?_)
     cases z4 with
     | r0 =>
      exact Mach.ok_fin (M := ZJ L0 N) (cd := 1000000) (cm := 0) (r := (.r0 (true) : Zs)) (fu := 4000) (orc := (Zr [(0, false)] [] [] [] [(0, (Zra     0)), (1, (ZpG     0)), (2, (ZdO     0)), (3, (ZcT     0))])) (live := []) (u := vT) (bl := []) (ob := [(dP (ZcF #[]     0), true), (dP (Zdv #[vn, vn]     0), true), (dP (Zln #[vn]     0), true), (dP (Zmf #[vn]     0), true), ((decide ((0 : Int) < (L0.length : Int))), false)]) (fun gv => by kernel_rfl) (Zc (Zl (ZcU #[]    N c4  0 rfl (by decide) (by decide))) <| Zc (Zl (ZdP #[vn, vn]    N c3  0 rfl (by decide) (by decide))) <| Zc (Zl (ZpH #[vn]    N c2  0 rfl (by decide) (by decide))) <| Zc (Zl (Zrb #[vn]    N c1  0 rfl (by decide) (by decide))) <| oN Zi) rfl (by decide) (by rfl) rr trivial

theorem ZkB (L0 v1 : List Ro) (v2 N : Nat) : (ZJ L0 N).Ok Tryz.prog Zw (.h1m1 v1 v2 : law31_HashPairsX) (ZcL L0 N (.h1m1 v1 v2 : law31_HashPairsX)) := by
 show (ZJ L0 N).Ok Tryz.prog Zw (.h1m1 v1 v2 : law31_HashPairsX) (Zcl L0 N v1 v2)
 unfold Zcl
 refine Mach.ok_ite (fun g0 => ?_) (fun g0 => ?_)
 ·
  refine Mach.ok_ite (fun g1 => ?_) (fun g1 => ?_)
  ·
   refine Mach.ok_ite (fun g2 => ?_) (fun _ => Mach.ok_none)
   exact Mach.ok_next (M := ZJ L0 N) (cd := 1000000) (cm := 0) (y := (.h1m1 ((v1 ++ ([(⟨(L0.getD v2 Ro.z).a0, (L0.getD v2 Ro.z).a1, (L0.getD v2 Ro.z).a2, (L0.getD v2 Ro.z).a3, (L0.getD v2 Ro.z).a4, (L0.getD v2 Ro.z).a5, (L0.getD v2 Ro.z).a6, ((L0.getD v2 Ro.z).a7.take ((if (16 : Int) < (((L0.getD v2 Ro.z).a7.length : Nat) : Int) then (16 : Int) else (((L0.getD v2 Ro.z).a7.length : Nat) : Int))).toNat)⟩ : Ro)] : List Ro))) ((v2 + 1)) : law31_HashPairsX)) (fu := 4000) (orc := (Zr [(0, true), (1, true)] [(0, (((v2 + 1) : Nat) : Int))] [(0, v2)] [(0, [.i (L0.getD v2 Ro.z).a0, .i (L0.getD v2 Ro.z).a1, .i (L0.getD v2 Ro.z).a2, .i (L0.getD v2 Ro.z).a3, .i (L0.getD v2 Ro.z).a4, .i (L0.getD v2 Ro.z).a5, .i (L0.getD v2 Ro.z).a6, (mc E_ii (L0.getD v2 Ro.z).a7)])] [(1, .ms 0 ((if (16 : Int) < (((L0.getD v2 Ro.z).a7.length : Nat) : Int) then (16 : Int) else (((L0.getD v2 Ro.z).a7.length : Nat) : Int))).toNat ((L0.getD v2 Ro.z).a7.take ((if (16 : Int) < (((L0.getD v2 Ro.z).a7.length : Nat) : Int) then (16 : Int) else (((L0.getD v2 Ro.z).a7.length : Nat) : Int))).toNat).length (ZI E_ii ((L0.getD v2 Ro.z).a7.take ((if (16 : Int) < (((L0.getD v2 Ro.z).a7.length : Nat) : Int) then (16 : Int) else (((L0.getD v2 Ro.z).a7.length : Nat) : Int))).toNat))), (3, .ap 1 [vi (L0.getD v2 Ro.z).a0, vi (L0.getD v2 Ro.z).a1, vi (L0.getD v2 Ro.z).a2, vi (L0.getD v2 Ro.z).a3, vi (L0.getD v2 Ro.z).a4, vi (L0.getD v2 Ro.z).a5, vi (L0.getD v2 Ro.z).a6, ms E_ii ((L0.getD v2 Ro.z).a7.take ((if (16 : Int) < (((L0.getD v2 Ro.z).a7.length : Nat) : Int) then (16 : Int) else (((L0.getD v2 Ro.z).a7.length : Nat) : Int))).toNat)] (Zd Eo (v1 ++ ([(⟨(L0.getD v2 Ro.z).a0, (L0.getD v2 Ro.z).a1, (L0.getD v2 Ro.z).a2, (L0.getD v2 Ro.z).a3, (L0.getD v2 Ro.z).a4, (L0.getD v2 Ro.z).a5, (L0.getD v2 Ro.z).a6, ((L0.getD v2 Ro.z).a7.take ((if (16 : Int) < (((L0.getD v2 Ro.z).a7.length : Nat) : Int) then (16 : Int) else (((L0.getD v2 Ro.z).a7.length : Nat) : Int))).toNat)⟩ : Ro)] : List Ro))))])) (live := [3]) (tv := fun _ => [some (ms Eo L0), some (vs 3 0 (v1.length + 1) (v1.length + 1)), some (vi (((v2 + 1) : Nat) : Int))]) (bl := [some (.cells (Zd Eo (v1 ++ ([(⟨(L0.getD v2 Ro.z).a0, (L0.getD v2 Ro.z).a1, (L0.getD v2 Ro.z).a2, (L0.getD v2 Ro.z).a3, (L0.getD v2 Ro.z).a4, (L0.getD v2 Ro.z).a5, (L0.getD v2 Ro.z).a6, ((L0.getD v2 Ro.z).a7.take ((if (16 : Int) < (((L0.getD v2 Ro.z).a7.length : Nat) : Int) then (16 : Int) else (((L0.getD v2 Ro.z).a7.length : Nat) : Int))).toNat)⟩ : Ro)] : List Ro))) 31)]) (ob := [((IntKind.i64.wrap ((v2 : Int) + (1 : Int))) == (((v2 + 1) : Nat) : Int), true), (dP ((1 = 1 ∧ Z3 (1 * 8) (List.drop 0 [vi (L0.getD v2 Ro.z).a0, vi (L0.getD v2 Ro.z).a1, vi (L0.getD v2 Ro.z).a2, vi (L0.getD v2 Ro.z).a3, vi (L0.getD v2 Ro.z).a4, vi (L0.getD v2 Ro.z).a5, vi (L0.getD v2 Ro.z).a6, ms E_ii ((L0.getD v2 Ro.z).a7.take ((if (16 : Int) < (((L0.getD v2 Ro.z).a7.length : Nat) : Int) then (16 : Int) else (((L0.getD v2 Ro.z).a7.length : Nat) : Int))).toNat)]) = some [vi (L0.getD v2 Ro.z).a0, vi (L0.getD v2 Ro.z).a1, vi (L0.getD v2 Ro.z).a2, vi (L0.getD v2 Ro.z).a3, vi (L0.getD v2 Ro.z).a4, vi (L0.getD v2 Ro.z).a5, vi (L0.getD v2 Ro.z).a6, ms E_ii ((L0.getD v2 Ro.z).a7.take ((if (16 : Int) < (((L0.getD v2 Ro.z).a7.length : Nat) : Int) then (16 : Int) else (((L0.getD v2 Ro.z).a7.length : Nat) : Int))).toNat)] ∧ ZU ZbR [vi (L0.getD v2 Ro.z).a0, vi (L0.getD v2 Ro.z).a1, vi (L0.getD v2 Ro.z).a2, vi (L0.getD v2 Ro.z).a3, vi (L0.getD v2 Ro.z).a4, vi (L0.getD v2 Ro.z).a5, vi (L0.getD v2 Ro.z).a6, ms E_ii ((L0.getD v2 Ro.z).a7.take ((if (16 : Int) < (((L0.getD v2 Ro.z).a7.length : Nat) : Int) then (16 : Int) else (((L0.getD v2 Ro.z).a7.length : Nat) : Int))).toNat)] = true) ∧ 0 < 1 ∧ 1 ≤ 100000 ∧ v1.length < v1.length + 1 ∧ v1.length ≤ 100000 ∧ v1.length * 8 ≤ (List.length (Zd Eo v1)) ∧ List.take (v1.length * 8) (Zd Eo v1) ++ [vi (L0.getD v2 Ro.z).a0, vi (L0.getD v2 Ro.z).a1, vi (L0.getD v2 Ro.z).a2, vi (L0.getD v2 Ro.z).a3, vi (L0.getD v2 Ro.z).a4, vi (L0.getD v2 Ro.z).a5, vi (L0.getD v2 Ro.z).a6, ms E_ii ((L0.getD v2 Ro.z).a7.take ((if (16 : Int) < (((L0.getD v2 Ro.z).a7.length : Nat) : Int) then (16 : Int) else (((L0.getD v2 Ro.z).a7.length : Nat) : Int))).toNat)] = (Zd Eo (v1 ++ ([(⟨(L0.getD v2 Ro.z).a0, (L0.getD v2 Ro.z).a1, (L0.getD v2 Ro.z).a2, (L0.getD v2 Ro.z).a3, (L0.getD v2 Ro.z).a4, (L0.getD v2 Ro.z).a5, (L0.getD v2 Ro.z).a6, ((L0.getD v2 Ro.z).a7.take ((if (16 : Int) < (((L0.getD v2 Ro.z).a7.length : Nat) : Int) then (16 : Int) else (((L0.getD v2 Ro.z).a7.length : Nat) : Int))).toNat)⟩ : Ro)] : List Ro)))), true), (dP (0 ≤ ((if (16 : Int) < (((L0.getD v2 Ro.z).a7.length : Nat) : Int) then (16 : Int) else (((L0.getD v2 Ro.z).a7.length : Nat) : Int))).toNat ∧ ((if (16 : Int) < (((L0.getD v2 Ro.z).a7.length : Nat) : Int) then (16 : Int) else (((L0.getD v2 Ro.z).a7.length : Nat) : Int))).toNat ≤ (L0.getD v2 Ro.z).a7.length ∧ ZT (code (ZI E_ii (L0.getD v2 Ro.z).a7)) (0 + 0 * 2) (ZI E_ii ((L0.getD v2 Ro.z).a7.take ((if (16 : Int) < (((L0.getD v2 Ro.z).a7.length : Nat) : Int) then (16 : Int) else (((L0.getD v2 Ro.z).a7.length : Nat) : Int))).toNat)).length = some (ZI E_ii ((L0.getD v2 Ro.z).a7.take ((if (16 : Int) < (((L0.getD v2 Ro.z).a7.length : Nat) : Int) then (16 : Int) else (((L0.getD v2 Ro.z).a7.length : Nat) : Int))).toNat)) ∧ (((if (16 : Int) < (((L0.getD v2 Ro.z).a7.length : Nat) : Int) then (16 : Int) else (((L0.getD v2 Ro.z).a7.length : Nat) : Int))).toNat - 0) * 2 = (ZI E_ii ((L0.getD v2 Ro.z).a7.take ((if (16 : Int) < (((L0.getD v2 Ro.z).a7.length : Nat) : Int) then (16 : Int) else (((L0.getD v2 Ro.z).a7.length : Nat) : Int))).toNat)).length ∧ ((L0.getD v2 Ro.z).a7.take ((if (16 : Int) < (((L0.getD v2 Ro.z).a7.length : Nat) : Int) then (16 : Int) else (((L0.getD v2 Ro.z).a7.length : Nat) : Int))).toNat).length = ((if (16 : Int) < (((L0.getD v2 Ro.z).a7.length : Nat) : Int) then (16 : Int) else (((L0.getD v2 Ro.z).a7.length : Nat) : Int))).toNat - 0), true), ((if (16 : Int) < (((L0.getD v2 Ro.z).a7.length : Nat) : Int) then (16 : Int) else (((L0.getD v2 Ro.z).a7.length : Nat) : Int)) == Int.ofNat ((if (16 : Int) < (((L0.getD v2 Ro.z).a7.length : Nat) : Int) then (16 : Int) else (((L0.getD v2 Ro.z).a7.length : Nat) : Int))).toNat, true), (dS 0, true), (dP (ZT (code (ZI Eo L0)) (0 + (v2 * 8)) 8 = some [.i (L0.getD v2 Ro.z).a0, .i (L0.getD v2 Ro.z).a1, .i (L0.getD v2 Ro.z).a2, .i (L0.getD v2 Ro.z).a3, .i (L0.getD v2 Ro.z).a4, .i (L0.getD v2 Ro.z).a5, .i (L0.getD v2 Ro.z).a6, (mc E_ii (L0.getD v2 Ro.z).a7)]), true), (Nat.blt v2 L0.length, true), ((v2 : Int) == Int.ofNat v2, true), ((decide ((v2 : Int) < (40 : Int))), true), ((decide ((v2 : Int) < (L0.length : Int))), true)]) rfl (show 1 ∈ Zq (ZjF 1) from by decide +kernel) (fun gv => by kernel_rfl) (Zc (beq_iff_eq.2 ((wrap_i64 ltA).trans (by first | rfl | omega))) <| Zc (Zl ⟨⟨rfl, ⟨rfl, rfl⟩⟩, by omega, by omega, ltA, by omega, (Zgf (E := Eo) (L := v1) (M := ([(⟨(L0.getD v2 Ro.z).a0, (L0.getD v2 Ro.z).a1, (L0.getD v2 Ro.z).a2, (L0.getD v2 Ro.z).a3, (L0.getD v2 Ro.z).a4, (L0.getD v2 Ro.z).a5, (L0.getD v2 Ro.z).a6, ((L0.getD v2 Ro.z).a7.take ((if (16 : Int) < (((L0.getD v2 Ro.z).a7.length : Nat) : Int) then (16 : Int) else (((L0.getD v2 Ro.z).a7.length : Nat) : Int))).toNat)⟩ : Ro)] : List Ro)) (n := v1.length) (show _ = _ * 8 from rfl) (by omega) (R := (v1 ++ ([(⟨(L0.getD v2 Ro.z).a0, (L0.getD v2 Ro.z).a1, (L0.getD v2 Ro.z).a2, (L0.getD v2 Ro.z).a3, (L0.getD v2 Ro.z).a4, (L0.getD v2 Ro.z).a5, (L0.getD v2 Ro.z).a6, ((L0.getD v2 Ro.z).a7.take ((if (16 : Int) < (((L0.getD v2 Ro.z).a7.length : Nat) : Int) then (16 : Int) else (((L0.getD v2 Ro.z).a7.length : Nat) : Int))).toNat)⟩ : Ro)] : List Ro))) (by rw [List.take_of_length_le (by omega)]))⟩) <| Zc (Zl (ZsY (E := E_ii) (L := (L0.getD v2 Ro.z).a7) (R := ((L0.getD v2 Ro.z).a7.take ((if (16 : Int) < (((L0.getD v2 Ro.z).a7.length : Nat) : Int) then (16 : Int) else (((L0.getD v2 Ro.z).a7.length : Nat) : Int))).toNat)) (l := 0) (h := ((if (16 : Int) < (((L0.getD v2 Ro.z).a7.length : Nat) : Int) then (16 : Int) else (((L0.getD v2 Ro.z).a7.length : Nat) : Int))).toNat) (size := 2) ltA ltA (by decide) (by simp))) <| oI <| oR <| Zc (Zl (Z0 (E := Eo) (L := L0) (i := v2) (q := 0) (by omega) (show (0 + (v2 * 8)) = v2 * 8 + 0 from by omega) (show 0 + 8 ≤ 8 from by decide) rfl)) <| oB <| oI <| oY <| oY Zi) rfl (by decide) (by rfl) (fun _ => ⟨rr, ⟨⟨Eq.trans (show (vs 0 0 (v1 ++ ([(⟨(L0.getD v2 Ro.z).a0, (L0.getD v2 Ro.z).a1, (L0.getD v2 Ro.z).a2, (L0.getD v2 Ro.z).a3, (L0.getD v2 Ro.z).a4, (L0.getD v2 Ro.z).a5, (L0.getD v2 Ro.z).a6, ((L0.getD v2 Ro.z).a7.take ((if (16 : Int) < (((L0.getD v2 Ro.z).a7.length : Nat) : Int) then (16 : Int) else (((L0.getD v2 Ro.z).a7.length : Nat) : Int))).toNat)⟩ : Ro)] : List Ro)).length (v1 ++ ([(⟨(L0.getD v2 Ro.z).a0, (L0.getD v2 Ro.z).a1, (L0.getD v2 Ro.z).a2, (L0.getD v2 Ro.z).a3, (L0.getD v2 Ro.z).a4, (L0.getD v2 Ro.z).a5, (L0.getD v2 Ro.z).a6, ((L0.getD v2 Ro.z).a7.take ((if (16 : Int) < (((L0.getD v2 Ro.z).a7.length : Nat) : Int) then (16 : Int) else (((L0.getD v2 Ro.z).a7.length : Nat) : Int))).toNat)⟩ : Ro)] : List Ro)).length : Value) = vs 0 0 (v1.length + 1) (v1.length + 1) from (ZbN rfl eqA eqA)) (by rfl), by rfl⟩, ⟨rr, trivial⟩⟩⟩) ⟨(Zj (E := Eo) (α := Ro) _ (v1 ++ ([(⟨(L0.getD v2 Ro.z).a0, (L0.getD v2 Ro.z).a1, (L0.getD v2 Ro.z).a2, (L0.getD v2 Ro.z).a3, (L0.getD v2 Ro.z).a4, (L0.getD v2 Ro.z).a5, (L0.getD v2 Ro.z).a6, ((L0.getD v2 Ro.z).a7.take ((if (16 : Int) < (((L0.getD v2 Ro.z).a7.length : Nat) : Int) then (16 : Int) else (((L0.getD v2 Ro.z).a7.length : Nat) : Int))).toNat)⟩ : Ro)] : List Ro)) _), trivial⟩
  ·
   refine Mach.ok_bind (fun z2 c2 => ?_)
   cases z2 with
   | r0 y2_0 =>
    refine Mach.ok_bind (fun z3 c3 => ?_)
    cases z3 with
    | r0 y3_0 =>
     refine Mach.ok_bind (fun z4 c4 => ?_)
     cases z4 with
     | r0 =>
      refine Mach.ok_ite (fun g5 => ?_) (fun g5 => ?_)
      ·
       refine Mach.ok_bind (fun z6 c6 => ?_)
       cases z6 with
       | r0 =>
        exact Mach.ok_fin (M := ZJ L0 N) (cd := 1000000) (cm := 0) (r := (.r0 (true) : Zs)) (fu := 4000) (orc := (Zr [(0, true), (1, false), (2, true)] [] [] [] [(0, (Zcv (v1)  y2_0 0 1)), (1, (Zcb (v1)  y3_0 0 1)), (2, (ZdO     1)), (3, (ZcT     1))])) (live := []) (u := vT) (bl := []) (ob := [(dP (ZcF #[]     1), true), ((y2_0 == y3_0), true), (dP (Zdv #[vn, vn]     1), true), (dP (ZbK #[vs 0 0 v1.length v1.length] (v1)  y3_0 0 1), true), (dS (Zd Eo v1), true), (dP (ZbX #[vs 0 0 v1.length v1.length] (v1)  y2_0 0 1), true), (dS (Zd Eo v1), true), ((decide ((v2 : Int) < (40 : Int))), false), ((decide ((v2 : Int) < (L0.length : Int))), true)]) (fun gv => by kernel_rfl) (Zc (Zl (ZcU #[]    N c6  1 rfl (by decide) (by decide))) <| Zc (Zne (by first | assumption | rfl | simp_all)) <| Zc (Zl (ZdP #[vn, vn]    N c4  1 rfl (by decide) (by decide))) <| Zc (Zl (Zcc #[vs 0 0 v1.length v1.length] (v1)  y3_0 N c3 0 1 rfl (by decide) (by decide))) <| oR <| Zc (Zl (Zcw #[vs 0 0 v1.length v1.length] (v1)  y2_0 N c2 0 1 rfl (by decide) (by decide))) <| oR <| oN <| oY Zi) rfl (by decide) (by rfl) rr trivial
      ·
       exact Mach.ok_fin (M := ZJ L0 N) (cd := 1000000) (cm := 0) (r := (.r0 (false) : Zs)) (fu := 4000) (orc := (Zr [(0, true), (1, false), (2, false)] [] [] [] [(0, (Zcv (v1)  y2_0 0 1)), (1, (Zcb (v1)  y3_0 0 1)), (2, (ZdO     1))])) (live := []) (u := vf) (bl := []) (ob := [((y2_0 == y3_0), false), (dP (Zdv #[vn, vn]     1), true), (dP (ZbK #[vs 0 0 v1.length v1.length] (v1)  y3_0 0 1), true), (dS (Zd Eo v1), true), (dP (ZbX #[vs 0 0 v1.length v1.length] (v1)  y2_0 0 1), true), (dS (Zd Eo v1), true), ((decide ((v2 : Int) < (40 : Int))), false), ((decide ((v2 : Int) < (L0.length : Int))), true)]) (fun gv => by kernel_rfl) (Zc (Znf (by first | assumption | rfl | simp_all)) <| Zc (Zl (ZdP #[vn, vn]    N c4  1 rfl (by decide) (by decide))) <| Zc (Zl (Zcc #[vs 0 0 v1.length v1.length] (v1)  y3_0 N c3 0 1 rfl (by decide) (by decide))) <| oR <| Zc (Zl (Zcw #[vs 0 0 v1.length v1.length] (v1)  y2_0 N c2 0 1 rfl (by decide) (by decide))) <| oR <| oN <| oY Zi) rfl (by decide) (by rfl) rr trivial
    | r1 y3_0 =>
     refine Mach.ok_bind (fun z4 c4 => ?_)
     cases z4 with
     | r0 y4_0 =>
      refine Mach.ok_ite (fun g5 => ?_) (fun g5 => ?_)
      ·
       subst g5
       refine Mach.ok_ite (fun g6 => ?_) (fun g6 => ?_)
       ·
        refine Mach.ok_bind (fun z7 c7 => ?_)
        cases z7 with
        | r0 =>
         exact Mach.ok_fin (M := ZJ L0 N) (cd := 1000000) (cm := 0) (r := (.r0 (true) : Zs)) (fu := 4000) (orc := (Zr [(0, true), (1, false), (2, true)] [] [] [] [(0, (Zcv (v1)  y2_0 0 1)), (1, (Zcd (v1)  y3_0 0 1)), (2, (ZcM (y3_0)  true 1 2)), (3, (ZcT     2))])) (live := []) (u := vT) (bl := []) (ob := [(dP (ZcF #[]     2), true), ((y2_0 == true), true), (dP (Zc1 #[vn, vs 1 0 y3_0.length y3_0.length] (y3_0)  true 1 2), true), (dS (Zd E_ii y3_0), true), (dP (ZbL #[vs 0 0 v1.length v1.length] (v1)  y3_0 0 1), true), (dS (Zd Eo v1), true), (dP (ZbX #[vs 0 0 v1.length v1.length] (v1)  y2_0 0 1), true), (dS (Zd Eo v1), true), ((decide ((v2 : Int) < (40 : Int))), false), ((decide ((v2 : Int) < (L0.length : Int))), true)]) (fun gv => by kernel_rfl) (Zc (Zl (ZcU #[]    N c7  2 rfl (by decide) (by decide))) <| Zc (Zne (by first | assumption | rfl | simp_all)) <| Zc (Zl (ZcN #[vn, vs 1 0 y3_0.length y3_0.length] (y3_0)  true N c4 1 2 rfl (by decide) (by decide))) <| oR <| Zc (Zl (Zce #[vs 0 0 v1.length v1.length] (v1)  y3_0 N c3 0 1 rfl (by decide) (by decide))) <| oR <| Zc (Zl (Zcw #[vs 0 0 v1.length v1.length] (v1)  y2_0 N c2 0 1 rfl (by decide) (by decide))) <| oR <| oN <| oY Zi) rfl (by decide) (by rfl) rr trivial
       ·
        exact Mach.ok_fin (M := ZJ L0 N) (cd := 1000000) (cm := 0) (r := (.r0 (false) : Zs)) (fu := 4000) (orc := (Zr [(0, true), (1, false), (2, false)] [] [] [] [(0, (Zcv (v1)  y2_0 0 1)), (1, (Zcd (v1)  y3_0 0 1)), (2, (ZcM (y3_0)  true 1 2))])) (live := []) (u := vf) (bl := []) (ob := [((y2_0 == true), false), (dP (Zc1 #[vn, vs 1 0 y3_0.length y3_0.length] (y3_0)  true 1 2), true), (dS (Zd E_ii y3_0), true), (dP (ZbL #[vs 0 0 v1.length v1.length] (v1)  y3_0 0 1), true), (dS (Zd Eo v1), true), (dP (ZbX #[vs 0 0 v1.length v1.length] (v1)  y2_0 0 1), true), (dS (Zd Eo v1), true), ((decide ((v2 : Int) < (40 : Int))), false), ((decide ((v2 : Int) < (L0.length : Int))), true)]) (fun gv => by kernel_rfl) (Zc (Znf (by first | assumption | rfl | simp_all)) <| Zc (Zl (ZcN #[vn, vs 1 0 y3_0.length y3_0.length] (y3_0)  true N c4 1 2 rfl (by decide) (by decide))) <| oR <| Zc (Zl (Zce #[vs 0 0 v1.length v1.length] (v1)  y3_0 N c3 0 1 rfl (by decide) (by decide))) <| oR <| Zc (Zl (Zcw #[vs 0 0 v1.length v1.length] (v1)  y2_0 N c2 0 1 rfl (by decide) (by decide))) <| oR <| oN <| oY Zi) rfl (by decide) (by rfl) rr trivial
      ·
       obtain rfl : y4_0 = false := by simpa using g5
       exact Mach.ok_fin (M := ZJ L0 N) (cd := 1000000) (cm := 0) (r := (.r0 (false) : Zs)) (fu := 4000) (orc := (Zr [(0, true), (1, false)] [] [] [] [(0, (Zcv (v1)  y2_0 0 1)), (1, (Zcd (v1)  y3_0 0 1)), (2, (ZcM (y3_0)  false 1 2))])) (live := []) (u := vf) (bl := []) (ob := [(dP (Zc1 #[vn, vs 1 0 y3_0.length y3_0.length] (y3_0)  false 1 2), true), (dS (Zd E_ii y3_0), true), (dP (ZbL #[vs 0 0 v1.length v1.length] (v1)  y3_0 0 1), true), (dS (Zd Eo v1), true), (dP (ZbX #[vs 0 0 v1.length v1.length] (v1)  y2_0 0 1), true), (dS (Zd Eo v1), true), ((decide ((v2 : Int) < (40 : Int))), false), ((decide ((v2 : Int) < (L0.length : Int))), true)]) (fun gv => by kernel_rfl) (Zc (Zl (ZcN #[vn, vs 1 0 y3_0.length y3_0.length] (y3_0)  false N c4 1 2 rfl (by decide) (by decide))) <| oR <| Zc (Zl (Zce #[vs 0 0 v1.length v1.length] (v1)  y3_0 N c3 0 1 rfl (by decide) (by decide))) <| oR <| Zc (Zl (Zcw #[vs 0 0 v1.length v1.length] (v1)  y2_0 N c2 0 1 rfl (by decide) (by decide))) <| oR <| oN <| oY Zi) rfl (by decide) (by rfl) rr trivial
   | r1 y2_0 y2_1 =>
    refine Mach.ok_bind (fun z3 c3 => ?_)
    cases z3 with
    | r0 y3_0 =>
     refine Mach.ok_bind (fun z4 c4 => ?_)
     cases z4 with
     | r0 y4_0 =>
      refine Mach.ok_ite (fun g5 => ?_) (fun g5 => ?_)
      ·
       subst g5
       refine Mach.ok_ite (fun g6 => ?_) (fun g6 => ?_)
       ·
        refine Mach.ok_bind (fun z7 c7 => ?_)
        cases z7 with
        | r0 =>
         exact Mach.ok_fin (M := ZJ L0 N) (cd := 1000000) (cm := 0) (r := (.r0 (true) : Zs)) (fu := 4000) (orc := (Zr [(0, true), (1, false), (2, true)] [] [] [] [(0, (Zcx (v1)  y2_0 y2_1 0 1)), (1, (Zcb (v1)  y3_0 0 2)), (2, (ZcO (y2_0) (y2_1)  true 1 2)), (3, (ZcT     2))])) (live := []) (u := vT) (bl := []) (ob := [(dP (ZcF #[]     2), true), ((true == y3_0), true), (dP (Zc2 #[vs 1 0 y2_1 y2_1, vn] (y2_0) (y2_1)  true 1 2), true), (dS (Zd E_ii y2_0), true), (dP (ZbK #[vs 0 0 v1.length v1.length] (v1)  y3_0 0 2), true), (dS (Zd Eo v1), true), (dP (ZbY #[vs 0 0 v1.length v1.length] (v1)  y2_0 y2_1 0 1), true), (dS (Zd Eo v1), true), ((decide ((v2 : Int) < (40 : Int))), false), ((decide ((v2 : Int) < (L0.length : Int))), true)]) (fun gv => by kernel_rfl) (Zc (Zl (ZcU #[]    N c7  2 rfl (by decide) (by decide))) <| Zc (Zne (by first | assumption | rfl | simp_all)) <| Zc (Zl (ZcP #[vs 1 0 y2_1 y2_1, vn] (y2_0) (y2_1)  true N c4 1 2 rfl (by decide) (by decide))) <| oR <| Zc (Zl (Zcc #[vs 0 0 v1.length v1.length] (v1)  y3_0 N c3 0 2 rfl (by decide) (by decide))) <| oR <| Zc (Zl (Zcy #[vs 0 0 v1.length v1.length] (v1)  y2_0 y2_1 N c2 0 1 rfl (by decide) (by decide))) <| oR <| oN <| oY Zi) rfl (by decide) (by rfl) rr trivial
       ·
        exact Mach.ok_fin (M := ZJ L0 N) (cd := 1000000) (cm := 0) (r := (.r0 (false) : Zs)) (fu := 4000) (orc := (Zr [(0, true), (1, false), (2, false)] [] [] [] [(0, (Zcx (v1)  y2_0 y2_1 0 1)), (1, (Zcb (v1)  y3_0 0 2)), (2, (ZcO (y2_0) (y2_1)  true 1 2))])) (live := []) (u := vf) (bl := []) (ob := [((true == y3_0), false), (dP (Zc2 #[vs 1 0 y2_1 y2_1, vn] (y2_0) (y2_1)  true 1 2), true), (dS (Zd E_ii y2_0), true), (dP (ZbK #[vs 0 0 v1.length v1.length] (v1)  y3_0 0 2), true), (dS (Zd Eo v1), true), (dP (ZbY #[vs 0 0 v1.length v1.length] (v1)  y2_0 y2_1 0 1), true), (dS (Zd Eo v1), true), ((decide ((v2 : Int) < (40 : Int))), false), ((decide ((v2 : Int) < (L0.length : Int))), true)]) (fun gv => by kernel_rfl) (Zc (Znf (by first | assumption | rfl | simp_all)) <| Zc (Zl (ZcP #[vs 1 0 y2_1 y2_1, vn] (y2_0) (y2_1)  true N c4 1 2 rfl (by decide) (by decide))) <| oR <| Zc (Zl (Zcc #[vs 0 0 v1.length v1.length] (v1)  y3_0 N c3 0 2 rfl (by decide) (by decide))) <| oR <| Zc (Zl (Zcy #[vs 0 0 v1.length v1.length] (v1)  y2_0 y2_1 N c2 0 1 rfl (by decide) (by decide))) <| oR <| oN <| oY Zi) rfl (by decide) (by rfl) rr trivial
      ·
       obtain rfl : y4_0 = false := by simpa using g5
       exact Mach.ok_fin (M := ZJ L0 N) (cd := 1000000) (cm := 0) (r := (.r0 (false) : Zs)) (fu := 4000) (orc := (Zr [(0, true), (1, false)] [] [] [] [(0, (Zcx (v1)  y2_0 y2_1 0 1)), (1, (Zcb (v1)  y3_0 0 2)), (2, (ZcO (y2_0) (y2_1)  false 1 2))])) (live := []) (u := vf) (bl := []) (ob := [(dP (Zc2 #[vs 1 0 y2_1 y2_1, vn] (y2_0) (y2_1)  false 1 2), true), (dS (Zd E_ii y2_0), true), (dP (ZbK #[vs 0 0 v1.length v1.length] (v1)  y3_0 0 2), true), (dS (Zd Eo v1), true), (dP (ZbY #[vs 0 0 v1.length v1.length] (v1)  y2_0 y2_1 0 1), true), (dS (Zd Eo v1), true), ((decide ((v2 : Int) < (40 : Int))), false), ((decide ((v2 : Int) < (L0.length : Int))), true)]) (fun gv => by kernel_rfl) (Zc (Zl (ZcP #[vs 1 0 y2_1 y2_1, vn] (y2_0) (y2_1)  false N c4 1 2 rfl (by decide) (by decide))) <| oR <| Zc (Zl (Zcc #[vs 0 0 v1.length v1.length] (v1)  y3_0 N c3 0 2 rfl (by decide) (by decide))) <| oR <| Zc (Zl (Zcy #[vs 0 0 v1.length v1.length] (v1)  y2_0 y2_1 N c2 0 1 rfl (by decide) (by decide))) <| oR <| oN <| oY Zi) rfl (by decide) (by rfl) rr trivial
    | r1 y3_0 =>
     refine Mach.ok_bind (fun z4 c4 => ?_)
     cases z4 with
     | r0 y4_0 =>
      refine Mach.ok_ite (fun g5 => ?_) (fun g5 => ?_)
      ·
       subst g5
       refine Mach.ok_bind (fun z6 c6 => ?_)
       cases z6 with
       | r0 =>
        exact Mach.ok_fin (M := ZJ L0 N) (cd := 1000000) (cm := 0) (r := (.r0 (true) : Zs)) (fu := 4000) (orc := (Zr [(0, true), (1, false)] [] [] [] [(0, (Zcx (v1)  y2_0 y2_1 0 1)), (1, (Zcd (v1)  y3_0 0 2)), (2, (Zej (y2_0) (y2_1) (y3_0)  true 1 2 3)), (3, (ZcT     3))])) (live := []) (u := vT) (bl := []) (ob := [(dP (ZcF #[]     3), true), (dP (Zd7 #[vs 1 0 y2_1 y2_1, vs 2 0 y3_0.length y3_0.length] (y2_0) (y2_1) (y3_0)  true 1 2 3), true), (dS (Zd E_ii y2_0), true), (dS (Zd E_ii y3_0), true), (dP (ZbL #[vs 0 0 v1.length v1.length] (v1)  y3_0 0 2), true), (dS (Zd Eo v1), true), (dP (ZbY #[vs 0 0 v1.length v1.length] (v1)  y2_0 y2_1 0 1), true), (dS (Zd Eo v1), true), ((decide ((v2 : Int) < (40 : Int))), false), ((decide ((v2 : Int) < (L0.length : Int))), true)]) (fun gv => by kernel_rfl) (Zc (Zl (ZcU #[]    N c6  3 rfl (by decide) (by decide))) <| Zc (Zl (Zek #[vs 1 0 y2_1 y2_1, vs 2 0 y3_0.length y3_0.length] (y2_0) (y2_1) (y3_0)  true N c4 1 2 3 rfl (by decide) (by decide))) <| oR <| oR <| Zc (Zl (Zce #[vs 0 0 v1.length v1.length] (v1)  y3_0 N c3 0 2 rfl (by decide) (by decide))) <| oR <| Zc (Zl (Zcy #[vs 0 0 v1.length v1.length] (v1)  y2_0 y2_1 N c2 0 1 rfl (by decide) (by decide))) <| oR <| oN <| oY Zi) rfl (by decide) (by rfl) rr trivial
      ·
       obtain rfl : y4_0 = false := by simpa using g5
       exact Mach.ok_fin (M := ZJ L0 N) (cd := 1000000) (cm := 0) (r := (.r0 (false) : Zs)) (fu := 4000) (orc := (Zr [(0, true), (1, false)] [] [] [] [(0, (Zcx (v1)  y2_0 y2_1 0 1)), (1, (Zcd (v1)  y3_0 0 2)), (2, (Zej (y2_0) (y2_1) (y3_0)  false 1 2 3))])) (live := []) (u := vf) (bl := []) (ob := [(dP (Zd7 #[vs 1 0 y2_1 y2_1, vs 2 0 y3_0.length y3_0.length] (y2_0) (y2_1) (y3_0)  false 1 2 3), true), (dS (Zd E_ii y2_0), true), (dS (Zd E_ii y3_0), true), (dP (ZbL #[vs 0 0 v1.length v1.length] (v1)  y3_0 0 2), true), (dS (Zd Eo v1), true), (dP (ZbY #[vs 0 0 v1.length v1.length] (v1)  y2_0 y2_1 0 1), true), (dS (Zd Eo v1), true), ((decide ((v2 : Int) < (40 : Int))), false), ((decide ((v2 : Int) < (L0.length : Int))), true)]) (fun gv => by kernel_rfl) (Zc (Zl (Zek #[vs 1 0 y2_1 y2_1, vs 2 0 y3_0.length y3_0.length] (y2_0) (y2_1) (y3_0)  false N c4 1 2 3 rfl (by decide) (by decide))) <| oR <| oR <| Zc (Zl (Zce #[vs 0 0 v1.length v1.length] (v1)  y3_0 N c3 0 2 rfl (by decide) (by decide))) <| oR <| Zc (Zl (Zcy #[vs 0 0 v1.length v1.length] (v1)  y2_0 y2_1 N c2 0 1 rfl (by decide) (by decide))) <| oR <| oN <| oY Zi) rfl (by decide) (by rfl) rr trivial
 ·
  refine Mach.ok_bind (fun z1 c1 => ?_)
  cases z1 with
  | r0 y1_0 =>
   refine Mach.ok_bind (fun z2 c2 => ?_)
   cases z2 with
   | r0 y2_0 =>
    refine Mach.ok_bind (fun z3 c3 => ?_)
    cases z3 with
    | r0 =>
     refine Mach.ok_ite (fun g4 => ?_) (fun g4 => ?_)
     ·
      refine Mach.ok_bind (fun z5 c5 => ?_)
      cases z5 with
      | r0 =>
       exact Mach.ok_fin (M := ZJ L0 N) (cd := 1000000) (cm := 0) (r := (.r0 (true) : Zs)) (fu := 4000) (orc := (Zr [(0, false), (1, true)] [] [] [] [(0, (Zcv (v1)  y1_0 0 1)), (1, (Zcb (v1)  y2_0 0 1)), (2, (ZdO     1)), (3, (ZcT     1))])) (live := []) (u := vT) (bl := []) (ob := [(dP (ZcF #[]     1), true), ((y1_0 == y2_0), true), (dP (Zdv #[vn, vn]     1), true), (dP (ZbK #[vs 0 0 v1.length v1.length] (v1)  y2_0 0 1), true), (dS (Zd Eo v1), true), (dP (ZbX #[vs 0 0 v1.length v1.length] (v1)  y1_0 0 1), true), (dS (Zd Eo v1), true), ((decide ((v2 : Int) < (L0.length : Int))), false)]) (fun gv => by kernel_rfl) (Zc (Zl (ZcU #[]    N c5  1 rfl (by decide) (by decide))) <| Zc (Zne (by first | assumption | rfl | simp_all)) <| Zc (Zl (ZdP #[vn, vn]    N c3  1 rfl (by decide) (by decide))) <| Zc (Zl (Zcc #[vs 0 0 v1.length v1.length] (v1)  y2_0 N c2 0 1 rfl (by decide) (by decide))) <| oR <| Zc (Zl (Zcw #[vs 0 0 v1.length v1.length] (v1)  y1_0 N c1 0 1 rfl (by decide) (by decide))) <| oR <| oN Zi) rfl (by decide) (by rfl) rr trivial
     ·
      exact Mach.ok_fin (M := ZJ L0 N) (cd := 1000000) (cm := 0) (r := (.r0 (false) : Zs)) (fu := 4000) (orc := (Zr [(0, false), (1, false)] [] [] [] [(0, (Zcv (v1)  y1_0 0 1)), (1, (Zcb (v1)  y2_0 0 1)), (2, (ZdO     1))])) (live := []) (u := vf) (bl := []) (ob := [((y1_0 == y2_0), false), (dP (Zdv #[vn, vn]     1), true), (dP (ZbK #[vs 0 0 v1.length v1.length] (v1)  y2_0 0 1), true), (dS (Zd Eo v1), true), (dP (ZbX #[vs 0 0 v1.length v1.length] (v1)  y1_0 0 1), true), (dS (Zd Eo v1), true), ((decide ((v2 : Int) < (L0.length : Int))), false)]) (fun gv => by kernel_rfl) (Zc (Znf (by first | assumption | rfl | simp_all)) <| Zc (Zl (ZdP #[vn, vn]    N c3  1 rfl (by decide) (by decide))) <| Zc (Zl (Zcc #[vs 0 0 v1.length v1.length] (v1)  y2_0 N c2 0 1 rfl (by decide) (by decide))) <| oR <| Zc (Zl (Zcw #[vs 0 0 v1.length v1.length] (v1)  y1_0 N c1 0 1 rfl (by decide) (by decide))) <| oR <| oN Zi) rfl (by decide) (by rfl) rr trivial
   | r1 y2_0 =>
    refine Mach.ok_bind (fun z3 c3 => ?_)
    cases z3 with
    | r0 y3_0 =>
     refine Mach.ok_ite (fun g4 => ?_) (fun g4 => ?_)
     ·
      subst g4
      refine Mach.ok_ite (fun g5 => ?_) (fun g5 => ?_)
      ·
       refine Mach.ok_bind (fun z6 c6 => ?_)
       cases z6 with
       | r0 =>
        exact Mach.ok_fin (M := ZJ L0 N) (cd := 1000000) (cm := 0) (r := (.r0 (true) : Zs)) (fu := 4000) (orc := (Zr [(0, false), (1, true)] [] [] [] [(0, (Zcv (v1)  y1_0 0 1)), (1, (Zcd (v1)  y2_0 0 1)), (2, (ZcM (y2_0)  true 1 2)), (3, (ZcT     2))])) (live := []) (u := vT) (bl := []) (ob := [(dP (ZcF #[]     2), true), ((y1_0 == true), true), (dP (Zc1 #[vn, vs 1 0 y2_0.length y2_0.length] (y2_0)  true 1 2), true), (dS (Zd E_ii y2_0), true), (dP (ZbL #[vs 0 0 v1.length v1.length] (v1)  y2_0 0 1), true), (dS (Zd Eo v1), true), (dP (ZbX #[vs 0 0 v1.length v1.length] (v1)  y1_0 0 1), true), (dS (Zd Eo v1), true), ((decide ((v2 : Int) < (L0.length : Int))), false)]) (fun gv => by kernel_rfl) (Zc (Zl (ZcU #[]    N c6  2 rfl (by decide) (by decide))) <| Zc (Zne (by first | assumption | rfl | simp_all)) <| Zc (Zl (ZcN #[vn, vs 1 0 y2_0.length y2_0.length] (y2_0)  true N c3 1 2 rfl (by decide) (by decide))) <| oR <| Zc (Zl (Zce #[vs 0 0 v1.length v1.length] (v1)  y2_0 N c2 0 1 rfl (by decide) (by decide))) <| oR <| Zc (Zl (Zcw #[vs 0 0 v1.length v1.length] (v1)  y1_0 N c1 0 1 rfl (by decide) (by decide))) <| oR <| oN Zi) rfl (by decide) (by rfl) rr trivial
      ·
       exact Mach.ok_fin (M := ZJ L0 N) (cd := 1000000) (cm := 0) (r := (.r0 (false) : Zs)) (fu := 4000) (orc := (Zr [(0, false), (1, false)] [] [] [] [(0, (Zcv (v1)  y1_0 0 1)), (1, (Zcd (v1)  y2_0 0 1)), (2, (ZcM (y2_0)  true 1 2))])) (live := []) (u := vf) (bl := []) (ob := [((y1_0 == true), false), (dP (Zc1 #[vn, vs 1 0 y2_0.length y2_0.length] (y2_0)  true 1 2), true), (dS (Zd E_ii y2_0), true), (dP (ZbL #[vs 0 0 v1.length v1.length] (v1)  y2_0 0 1), true), (dS (Zd Eo v1), true), (dP (ZbX #[vs 0 0 v1.length v1.length] (v1)  y1_0 0 1), true), (dS (Zd Eo v1), true), ((decide ((v2 : Int) < (L0.length : Int))), false)]) (fun gv => by kernel_rfl) (Zc (Znf (by first | assumption | rfl | simp_all)) <| Zc (Zl (ZcN #[vn, vs 1 0 y2_0.length y2_0.length] (y2_0)  true N c3 1 2 rfl (by decide) (by decide))) <| oR <| Zc (Zl (Zce #[vs 0 0 v1.length v1.length] (v1)  y2_0 N c2 0 1 rfl (by decide) (by decide))) <| oR <| Zc (Zl (Zcw #[vs 0 0 v1.length v1.length] (v1)  y1_0 N c1 0 1 rfl (by decide) (by decide))) <| oR <| oN Zi) rfl (by decide) (by rfl) rr trivial
     ·
      obtain rfl : y3_0 = false := by simpa using g4
      exact Mach.ok_fin (M := ZJ L0 N) (cd := 1000000) (cm := 0) (r := (.r0 (false) : Zs)) (fu := 4000) (orc := (Zr [(0, false)] [] [] [] [(0, (Zcv (v1)  y1_0 0 1)), (1, (Zcd (v1)  y2_0 0 1)), (2, (ZcM (y2_0)  false 1 2))])) (live := []) (u := vf) (bl := []) (ob := [(dP (Zc1 #[vn, vs 1 0 y2_0.length y2_0.length] (y2_0)  false 1 2), true), (dS (Zd E_ii y2_0), true), (dP (ZbL #[vs 0 0 v1.length v1.length] (v1)  y2_0 0 1), true), (dS (Zd Eo v1), true), (dP (ZbX #[vs 0 0 v1.length v1.length] (v1)  y1_0 0 1), true), (dS (Zd Eo v1), true), ((decide ((v2 : Int) < (L0.length : Int))), false)]) (fun gv => by kernel_rfl) (Zc (Zl (ZcN #[vn, vs 1 0 y2_0.length y2_0.length] (y2_0)  false N c3 1 2 rfl (by decide) (by decide))) <| oR <| Zc (Zl (Zce #[vs 0 0 v1.length v1.length] (v1)  y2_0 N c2 0 1 rfl (by decide) (by decide))) <| oR <| Zc (Zl (Zcw #[vs 0 0 v1.length v1.length] (v1)  y1_0 N c1 0 1 rfl (by decide) (by decide))) <| oR <| oN Zi) rfl (by decide) (by rfl) rr trivial
  | r1 y1_0 y1_1 =>
   refine Mach.ok_bind (fun z2 c2 => ?_)
   cases z2 with
   | r0 y2_0 =>
    refine Mach.ok_bind (fun z3 c3 => ?_)
    cases z3 with
    | r0 y3_0 =>
     refine Mach.ok_ite (fun g4 => ?_) (fun g4 => ?_)
     ·
      subst g4
      refine Mach.ok_ite (fun g5 => ?_) (fun g5 => ?_)
      ·
       refine Mach.ok_bind (fun z6 c6 => ?_)
       cases z6 with
       | r0 =>
        exact Mach.ok_fin (M := ZJ L0 N) (cd := 1000000) (cm := 0) (r := (.r0 (true) : Zs)) (fu := 4000) (orc := (Zr [(0, false), (1, true)] [] [] [] [(0, (Zcx (v1)  y1_0 y1_1 0 1)), (1, (Zcb (v1)  y2_0 0 2)), (2, (ZcO (y1_0) (y1_1)  true 1 2)), (3, (ZcT     2))])) (live := []) (u := vT) (bl := []) (ob := [(dP (ZcF #[]     2), true), ((true == y2_0), true), (dP (Zc2 #[vs 1 0 y1_1 y1_1, vn] (y1_0) (y1_1)  true 1 2), true), (dS (Zd E_ii y1_0), true), (dP (ZbK #[vs 0 0 v1.length v1.length] (v1)  y2_0 0 2), true), (dS (Zd Eo v1), true), (dP (ZbY #[vs 0 0 v1.length v1.length] (v1)  y1_0 y1_1 0 1), true), (dS (Zd Eo v1), true), ((decide ((v2 : Int) < (L0.length : Int))), false)]) (fun gv => by kernel_rfl) (Zc (Zl (ZcU #[]    N c6  2 rfl (by decide) (by decide))) <| Zc (Zne (by first | assumption | rfl | simp_all)) <| Zc (Zl (ZcP #[vs 1 0 y1_1 y1_1, vn] (y1_0) (y1_1)  true N c3 1 2 rfl (by decide) (by decide))) <| oR <| Zc (Zl (Zcc #[vs 0 0 v1.length v1.length] (v1)  y2_0 N c2 0 2 rfl (by decide) (by decide))) <| oR <| Zc (Zl (Zcy #[vs 0 0 v1.length v1.length] (v1)  y1_0 y1_1 N c1 0 1 rfl (by decide) (by decide))) <| oR <| oN Zi) rfl (by decide) (by rfl) rr trivial
      ·
       exact Mach.ok_fin (M := ZJ L0 N) (cd := 1000000) (cm := 0) (r := (.r0 (false) : Zs)) (fu := 4000) (orc := (Zr [(0, false), (1, false)] [] [] [] [(0, (Zcx (v1)  y1_0 y1_1 0 1)), (1, (Zcb (v1)  y2_0 0 2)), (2, (ZcO (y1_0) (y1_1)  true 1 2))])) (live := []) (u := vf) (bl := []) (ob := [((true == y2_0), false), (dP (Zc2 #[vs 1 0 y1_1 y1_1, vn] (y1_0) (y1_1)  true 1 2), true), (dS (Zd E_ii y1_0), true), (dP (ZbK #[vs 0 0 v1.length v1.length] (v1)  y2_0 0 2), true), (dS (Zd Eo v1), true), (dP (ZbY #[vs 0 0 v1.length v1.length] (v1)  y1_0 y1_1 0 1), true), (dS (Zd Eo v1), true), ((decide ((v2 : Int) < (L0.length : Int))), false)]) (fun gv => by kernel_rfl) (Zc (Znf (by first | assumption | rfl | simp_all)) <| Zc (Zl (ZcP #[vs 1 0 y1_1 y1_1, vn] (y1_0) (y1_1)  true N c3 1 2 rfl (by decide) (by decide))) <| oR <| Zc (Zl (Zcc #[vs 0 0 v1.length v1.length] (v1)  y2_0 N c2 0 2 rfl (by decide) (by decide))) <| oR <| Zc (Zl (Zcy #[vs 0 0 v1.length v1.length] (v1)  y1_0 y1_1 N c1 0 1 rfl (by decide) (by decide))) <| oR <| oN Zi) rfl (by decide) (by rfl) rr trivial
     ·
      obtain rfl : y3_0 = false := by simpa using g4
      exact Mach.ok_fin (M := ZJ L0 N) (cd := 1000000) (cm := 0) (r := (.r0 (false) : Zs)) (fu := 4000) (orc := (Zr [(0, false)] [] [] [] [(0, (Zcx (v1)  y1_0 y1_1 0 1)), (1, (Zcb (v1)  y2_0 0 2)), (2, (ZcO (y1_0) (y1_1)  false 1 2))])) (live := []) (u := vf) (bl := []) (ob := [(dP (Zc2 #[vs 1 0 y1_1 y1_1, vn] (y1_0) (y1_1)  false 1 2), true), (dS (Zd E_ii y1_0), true), (dP (ZbK #[vs 0 0 v1.length v1.length] (v1)  y2_0 0 2), true), (dS (Zd Eo v1), true), (dP (ZbY #[vs 0 0 v1.length v1.length] (v1)  y1_0 y1_1 0 1), true), (dS (Zd Eo v1), true), ((decide ((v2 : Int) < (L0.length : Int))), false)]) (fun gv => by kernel_rfl) (Zc (Zl (ZcP #[vs 1 0 y1_1 y1_1, vn] (y1_0) (y1_1)  false N c3 1 2 rfl (by decide) (by decide))) <| oR <| Zc (Zl (Zcc #[vs 0 0 v1.length v1.length] (v1)  y2_0 N c2 0 2 rfl (by decide) (by decide))) <| oR <| Zc (Zl (Zcy #[vs 0 0 v1.length v1.length] (v1)  y1_0 y1_1 N c1 0 1 rfl (by decide) (by decide))) <| oR <| oN Zi) rfl (by decide) (by rfl) rr trivial
   | r1 y2_0 =>
    refine Mach.ok_bind (fun z3 c3 => ?_)
    cases z3 with
    | r0 y3_0 =>
     refine Mach.ok_ite (fun g4 => ?_) (fun g4 => ?_)
     ·
      subst g4
      refine Mach.ok_bind (fun z5 c5 => ?_)
      cases z5 with
      | r0 =>
       exact Mach.ok_fin (M := ZJ L0 N) (cd := 1000000) (cm := 0) (r := (.r0 (true) : Zs)) (fu := 4000) (orc := (Zr [(0, false)] [] [] [] [(0, (Zcx (v1)  y1_0 y1_1 0 1)), (1, (Zcd (v1)  y2_0 0 2)), (2, (Zej (y1_0) (y1_1) (y2_0)  true 1 2 3)), (3, (ZcT     3))])) (live := []) (u := vT) (bl := []) (ob := [(dP (ZcF #[]     3), true), (dP (Zd7 #[vs 1 0 y1_1 y1_1, vs 2 0 y2_0.length y2_0.length] (y1_0) (y1_1) (y2_0)  true 1 2 3), true), (dS (Zd E_ii y1_0), true), (dS (Zd E_ii y2_0), true), (dP (ZbL #[vs 0 0 v1.length v1.length] (v1)  y2_0 0 2), true), (dS (Zd Eo v1), true), (dP (ZbY #[vs 0 0 v1.length v1.length] (v1)  y1_0 y1_1 0 1), true), (dS (Zd Eo v1), true), ((decide ((v2 : Int) < (L0.length : Int))), false)]) (fun gv => by kernel_rfl) (Zc (Zl (ZcU #[]    N c5  3 rfl (by decide) (by decide))) <| Zc (Zl (Zek #[vs 1 0 y1_1 y1_1, vs 2 0 y2_0.length y2_0.length] (y1_0) (y1_1) (y2_0)  true N c3 1 2 3 rfl (by decide) (by decide))) <| oR <| oR <| Zc (Zl (Zce #[vs 0 0 v1.length v1.length] (v1)  y2_0 N c2 0 2 rfl (by decide) (by decide))) <| oR <| Zc (Zl (Zcy #[vs 0 0 v1.length v1.length] (v1)  y1_0 y1_1 N c1 0 1 rfl (by decide) (by decide))) <| oR <| oN Zi) rfl (by decide) (by rfl) rr trivial
     ·
      obtain rfl : y3_0 = false := by simpa using g4
      exact Mach.ok_fin (M := ZJ L0 N) (cd := 1000000) (cm := 0) (r := (.r0 (false) : Zs)) (fu := 4000) (orc := (Zr [(0, false)] [] [] [] [(0, (Zcx (v1)  y1_0 y1_1 0 1)), (1, (Zcd (v1)  y2_0 0 2)), (2, (Zej (y1_0) (y1_1) (y2_0)  false 1 2 3))])) (live := []) (u := vf) (bl := []) (ob := [(dP (Zd7 #[vs 1 0 y1_1 y1_1, vs 2 0 y2_0.length y2_0.length] (y1_0) (y1_1) (y2_0)  false 1 2 3), true), (dS (Zd E_ii y1_0), true), (dS (Zd E_ii y2_0), true), (dP (ZbL #[vs 0 0 v1.length v1.length] (v1)  y2_0 0 2), true), (dS (Zd Eo v1), true), (dP (ZbY #[vs 0 0 v1.length v1.length] (v1)  y1_0 y1_1 0 1), true), (dS (Zd Eo v1), true), ((decide ((v2 : Int) < (L0.length : Int))), false)]) (fun gv => by kernel_rfl) (Zc (Zl (Zek #[vs 1 0 y1_1 y1_1, vs 2 0 y2_0.length y2_0.length] (y1_0) (y1_1) (y2_0)  false N c3 1 2 3 rfl (by decide) (by decide))) <| oR <| oR <| Zc (Zl (Zce #[vs 0 0 v1.length v1.length] (v1)  y2_0 N c2 0 2 rfl (by decide) (by decide))) <| oR <| Zc (Zl (Zcy #[vs 0 0 v1.length v1.length] (v1)  y1_0 y1_1 N c1 0 1 rfl (by decide) (by decide))) <| oR <| oN Zi) rfl (by decide) (by rfl) rr trivial

theorem ZmO (L0 : List Ro) (N : Nat) : (ZJ L0 N).Enter Tryz.prog Zw #[ms Eo L0] (ZgL L0 N) := by
 unfold ZgL
 exact Mach.en_head (bK := ZcY 1) (M := ZJ L0 N) (cd := 1000000) (cm := 0) (y := (.h1m0 : law31_HashPairsX)) (fu := 4000) (orc := (Zr [] [] [] [] [])) (live := []) (tv := [some (ms Eo L0), some (vn), some (vq)]) (bl := []) (ob := []) rfl rfl (show Zq (ZcY 1).2 = [] from rfl) (by kernel_rfl) Zi rfl (by decide) (by rfl) ⟨rr, ⟨rr, ⟨rr, trivial⟩⟩⟩ trivial

theorem Zle (L0 : List Ro) (N : Nat) (r : Zs) (h : ZhV L0 N = some r) : LSpec Tryz.prog 3 #[ms Eo L0] [] (ZjE L0 r) (ZiU L0 r) :=
 Mach.spec ZcD (ZJ L0 N) Tryz.func3 (by kernel_rfl) (by kernel_rfl) (fun x => by cases x <;> exact ZaI _ rfl) (fun r => by cases r <;> exact ZaI _ rfl) (fun x => by
  cases x with
  | h1m0 => exact fun _ => (show ¬ (1 ∈ Zq (ZcY 1).2) from by decide +kernel)
  | h1m1 _ _ => exact fun _ => (show ¬ (1 ∈ Zq (ZcY 1).2) from by decide +kernel)
  ) (fun x => (show (ZJ L0 N).Ok Tryz.prog Zw x (ZcL L0 N x) from by
  cases x with
  | h1m0 => exact ZkA L0 N
  | h1m1 v1 v2 => exact ZkB L0 v1 v2 N
  )) (ZmO L0 N) (n := N) h

end Ev
end Go.Proofs.YtjdojnecmplmnaaGreat
/- Plain lemmas: machines step by step, lists by their places. -/
namespace Go.Proofs.YtjdojnecmplmnaaGreat
open Go.RowKit
namespace Ev
section
variable {X R : Type} {step : X → Option (X ⊕ R)} {n : Nat} {x y : X} {r : R}
theorem ZL (h : step x = some (.inl y)) : Zbq step (n + 1) x = Zbq step n y := by simp [Zbq, h]
theorem ZaH (h : step x = some (.inr r)) : Zbq step (n + 1) x = some r := by simp [Zbq, h]
theorem Zf4 : ∀ {n m : Nat} {x : X} {r : R}, n ≤ m → Zbq step n x = some r → Zbq step m x = some r
 | 0, _, _, _, _, h => by cases h
 | n + 1, 0, _, _, h, _ => by omega
 | n + 1, m + 1, x, r, h, e => by
  simp only [Zbq] at e ⊢
  cases hs : step x with
  | none => rw [hs] at e; cases e
  | some y =>
   rw [hs] at e
   cases y with
   | inl y => exact Zf4 (by omega) e
   | inr r' => exact e
theorem ZeA {o : Option (X ⊕ R)} (h : o = some (.inl x)) : goM step n o = Zbq step n x := by subst h; rfl
theorem Zso {o : Option (X ⊕ R)} (h : o = some (.inr r)) : goM step n o = some r := by subst h; rfl
end
section
variable {α : Type}
theorem ZpS {L : List α} {i : Nat} {v d : α} (h : i < L.length) : (L.set i v).getD i d = v := by simp [h]
theorem ZrQ {L : List α} {i j : Nat} {v d : α} (h : i ≠ j) : (L.set i v).getD j d = L.getD j d := by simp [List.getElem?_set_ne h]
theorem Zrm {L : List α} {i j : Nat} {v d : α} (h : i < L.length) : (L.set i v).getD j d = if j = i then v else L.getD j d := by
 by_cases e : j = i
 ·subst e; rw [if_pos rfl, ZpS h]
 ·rw [if_neg e, ZrQ (fun h => e h.symm)]
end
theorem ZbM {α : Type} {c : Prop} [Decidable c] {a b r : α} (h1 : c → a = r) (h2 : ¬ c → b = r) : (if c then a else b) = r := by
 by_cases h : c
 ·rw [if_pos h]; exact h1 h
 ·rw [if_neg h]; exact h2 h
theorem Za {α : Type} {c : Prop} [Decidable c] {a b r : α} (h : c) (e : a = r) : (if c then a else b) = r := by rw [if_pos h]; exact e
theorem Z2 {α : Type} {c : Prop} [Decidable c] {a b r : α} (h : ¬ c) (e : b = r) : (if c then a else b) = r := by rw [if_neg h]; exact e
theorem Zaf {α β : Type} {o : Option α} {a : α} {k : α → Option β} {r : Option β} (h : o = some a) (e : k a = r) : o.bind k = r := by rw [h]; exact e
theorem w64 {x : Int} (h1 : -9223372036854775808 ≤ x) (h2 : x ≤ 9223372036854775807) : IntKind.i64.wrap x = x := wrap_i64 ⟨h1, h2⟩
end Ev
end Go.Proofs.YtjdojnecmplmnaaGreat
/- Look-ups, by a map and along the row: plain. -/
namespace Go.Proofs.YtjdojnecmplmnaaGreat
open Go.RowKit
namespace Ev
namespace Hp
set_option linter.unusedVariables false
set_option linter.unusedSimpArgs false
abbrev Ob := Ro
abbrev oz : Ob := Ro.z
abbrev vz : R_ii := R_ii.z
def Ziy (L : List Ob) (k l : Int) (j : Nat) : Prop := (L.getD j Ro.z).a0 = k ∧ (L.getD j Ro.z).a1 = l
instance (L : List Ob) (k l : Int) (j : Nat) : Decidable (Ziy L k l j) := by unfold Ziy; infer_instance
def hit (L : List Ob) (j : Nat) : ZbH := .r0 (L.getD j Ro.z).a0 (L.getD j Ro.z).a1 (L.getD j Ro.z).a2 (L.getD j Ro.z).a3 (L.getD j Ro.z).a4 (L.getD j Ro.z).a5 (L.getD j Ro.z).a6 (L.getD j Ro.z).a7
theorem ZtE {L : List Ob} {k l : Int} {N : Nat} (hL : L.length ≤ 1000) : ∀ d i f, i + d = L.length → d < f →
  (∃ j, i ≤ j ∧ j < L.length ∧ Ziy L k l j ∧ (∀ q, i ≤ q → q < j → ¬ Ziy L k l q) ∧ Zbq (Zc9 L k l N) f (.h1m0 i) = some (hit L j)) ∨ ((∀ q, i ≤ q → q < L.length → ¬ Ziy L k l q) ∧ Zbq (Zc9 L k l N) f (.h1m0 i) = some .r1) := by
 intro d
 induction d with
 | zero =>
  intro i f hi hf
  obtain ⟨f, rfl⟩ : ∃ j, f = j + 1 := ⟨f - 1, by omega⟩
  refine .inr ⟨fun q h1 h2 => by omega, ZaH ?_⟩
  show ZbV L k l N i = _
  unfold ZbV
  exact Z2 (by omega) rfl
 | succ d ih =>
  intro i f hi hf
  obtain ⟨f, rfl⟩ : ∃ j, f = j + 1 := ⟨f - 1, by omega⟩
  by_cases h : Ziy L k l i
  ·refine .inl ⟨i, Nat.le_refl _, by omega, h, fun q h1 h2 => by omega, ZaH ?_⟩
   show ZbV L k l N i = _
   unfold ZbV
   exact Za (by omega) (Za h rfl)
  ·have hs : Zc9 L k l N (.h1m0 i) = some (.inl (.h1m0 (i + 1))) := by
    show ZbV L k l N i = _
    unfold ZbV
    exact Za (by omega) (Z2 h (Za (by omega) rfl))
   rcases ih (i + 1) f (by omega) (by omega) with ⟨j, h1, h2, h3, h4, h5⟩ | ⟨h1, h2⟩
   ·refine .inl ⟨j, by omega, h2, h3, fun q q1 q2 => ?_, (ZL hs).trans h5⟩
    by_cases e : q = i
    ·subst e; exact h
    ·exact h4 q (by omega) q2
   ·refine .inr ⟨fun q q1 q2 => ?_, (ZL hs).trans h2⟩
    by_cases e : q = i
    ·subst e; exact h
    ·exact h1 q (by omega) q2
theorem Zsp (a b v k l : Int) : ∀ M : List RA, Zd3 (ZdD M a b v) k l = ((k == a && l == b) || Zd3 M k l)
 | [] => by simp [ZdD, Zd3]
 | x :: M => by
  unfold ZdD
  by_cases h : (a == x.a0 && b == x.a1) = true
  ·rw [if_pos h]
   simp only [Bool.and_eq_true, beq_iff_eq] at h
   simp [Zd3, h.1, h.2]
  ·rw [if_neg h]
   have ih := Zsp a b v k l M
   unfold Zd3 at ih ⊢
   rw [List.any_cons, List.any_cons, ih]
   cases (k == x.a0 && l == x.a1) <;> cases (k == a && l == b) <;> rfl
theorem Zsq (a b v k l : Int) : ∀ M : List RA, Zb (ZdD M a b v) k l = if k = a ∧ l = b then v else Zb M k l
 | [] => by
  by_cases h : k = a ∧ l = b
  ·rw [if_pos h]; simp [ZdD, Zb, h.1, h.2]
  ·rw [if_neg h]
   have h' : (k == a && l == b) = false := by cases e : (k == a && l == b) with
    | false => rfl
    | true => simp only [Bool.and_eq_true, beq_iff_eq] at e; exact absurd e h
   simp [ZdD, Zb, h']
 | x :: M => by
  unfold ZdD
  by_cases h : (a == x.a0 && b == x.a1) = true
  ·rw [if_pos h]
   simp only [Bool.and_eq_true, beq_iff_eq] at h
   by_cases hk : k = a ∧ l = b
   ·rw [if_pos hk]; simp [Zb, hk.1, hk.2]
   ·rw [if_neg hk]
    have h' : (k == a && l == b) = false := by cases e : (k == a && l == b) with
     | false => rfl
     | true => simp only [Bool.and_eq_true, beq_iff_eq] at e; exact absurd e hk
    have h'' : (k == x.a0 && l == x.a1) = false := by rw [← h.1, ← h.2]; exact h'
    simp only [Zb, List.find?_cons, h', h'']
  ·rw [if_neg h]
   have ih := Zsq a b v k l M
   cases e : (k == x.a0 && l == x.a1) with
   | true =>
    have hk : ¬ (k = a ∧ l = b) := fun q => by rw [q.1, q.2] at e; exact h e
    rw [if_neg hk]
    simp only [Zb, List.find?_cons, e]
   | false =>
    simp only [Zb, List.find?_cons, e] at ih ⊢
    exact ih
def MI (L : List Ob) (i : Nat) (M : List RA) : Prop := ∀ k l, (∃ j, i ≤ j ∧ j < L.length ∧ Ziy L k l j ∧ (∀ q, i ≤ q → q < j → ¬ Ziy L k l q) ∧ Zd3 M k l = true ∧ Zb M k l = (j : Int)) ∨ ((∀ q, i ≤ q → q < L.length → ¬ Ziy L k l q) ∧ Zd3 M k l = false)
theorem Zv7 (L : List Ob) : MI L L.length [] := fun k l => .inr ⟨fun q h1 h2 => by omega, rfl⟩
theorem Zv8 {L : List Ob} {i : Nat} {M : List RA} (hi : i < L.length) (h : MI L (i + 1) M) : MI L i (ZdD M (L.getD i Ro.z).a0 (L.getD i Ro.z).a1 (i : Int)) := by
 intro k l
 rw [Zsp, Zsq]
 by_cases hk : Ziy L k l i
 ·refine .inl ⟨i, Nat.le_refl _, hi, hk, fun q h1 h2 => by omega, ?_, if_pos ⟨hk.1.symm, hk.2.symm⟩⟩
  rw [hk.1, hk.2]; simp
 ·have hn : ¬ (k = (L.getD i Ro.z).a0 ∧ l = (L.getD i Ro.z).a1) := fun q => hk ⟨q.1.symm, q.2.symm⟩
  have hb : (k == (L.getD i Ro.z).a0 && l == (L.getD i Ro.z).a1) = false := by
   cases e : (k == (L.getD i Ro.z).a0 && l == (L.getD i Ro.z).a1) with
   | false => rfl
   | true => simp only [Bool.and_eq_true, beq_iff_eq] at e; exact absurd e hn
  rw [if_neg hn, hb, Bool.false_or]
  rcases h k l with ⟨j, h1, h2, h3, h4, h5, h6⟩ | ⟨h1, h2⟩
  ·refine .inl ⟨j, by omega, h2, h3, fun q q1 q2 => ?_, h5, h6⟩
   by_cases e : q = i
   ·subst e; exact hk
   ·exact h4 q (by omega) q2
  ·refine .inr ⟨fun q q1 q2 => ?_, h2⟩
   by_cases e : q = i
   ·subst e; exact hk
   ·exact h1 q (by omega) q2
theorem ZoB {L : List Ob} {A : List RA} (h : MI L 0 A) (hL : L.length ≤ 1000) (k l : Int) : (∃ j, j < L.length ∧ Zd3 A k l = true ∧ Zb A k l = (j : Int) ∧ Zdo L k l 100000 = some (hit L j)) ∨ (¬ (Zd3 A k l = true) ∧ Zdo L k l 100000 = some .r1) := by
 have hf := ZtE (k := k) (l := l) (N := 100000) hL L.length 0 100000 (by omega) (by omega)
 have hg : Zdo L k l 100000 = Zbq (Zc9 L k l 100000) 100000 (.h1m0 0) := ZeA rfl
 rw [hg]
 rcases h k l with ⟨j, h1, h2, h3, h4, h5, h6⟩ | ⟨h1, h2⟩
 ·rcases hf with ⟨j', q1, q2, q3, q4, q5⟩ | ⟨q1, q2⟩
  ·have e : j' = j := by
    rcases Nat.lt_trichotomy j j' with e | e | e
    ·exact absurd h3 (q4 j (by omega) e)
    ·exact e.symm
    ·exact absurd q3 (h4 j' (by omega) e)
   subst e
   exact .inl ⟨j', h2, h5, h6, q5⟩
  ·exact absurd h3 (q1 j (by omega) h2)
 ·rcases hf with ⟨j', q1, q2, q3, q4, q5⟩ | ⟨q1, q2⟩
  ·exact absurd q3 (h1 j' (by omega) q2)
  ·exact .inr ⟨by rw [h2]; simp, q2⟩
theorem built {L : List Ob} (hL : L.length ≤ 1000) : ∀ i A, i ≤ L.length → MI L i A → ∃ A', MI L 0 A' ∧ ∀ c r, Zbq (Zaw L 100000) c (.h1m0 A' (-1)) = some r → Zbq (Zaw L 100000) (c + i) (.h1m0 A ((i : Int) - 1)) = some r
 | 0, A, _, h => ⟨A, h, fun c r k => k⟩
 | i + 1, A, hi, h => by
  obtain ⟨A', h1, h2⟩ := built hL i _ (by omega) (Zv8 (by omega) h)
  refine ⟨A', h1, fun c r k => (ZL (n := c + i) ?_).trans (h2 c r k)⟩
  show Zbv L 100000 _ _ = _
  unfold Zbv
  have e : (((i + 1 : Nat) : Int) - 1) = (i : Int) := by omega
  rw [e]
  have ew : IntKind.i64.wrap ((i : Int) - 1) = (i : Int) - 1 := w64 (by omega) (by omega)
  refine Za (by omega) (Za (by show i < L.length; omega) ?_)
  rw [ew]; rfl
end Hp
end Ev
end Go.Proofs.YtjdojnecmplmnaaGreat
/- Rows that are sorted in place: what swaps leave as it is, and the loops of a stable sort. -/
namespace Go.Proofs.YtjdojnecmplmnaaGreat
open Go.RowKit
namespace Ev
set_option linter.unusedVariables false
set_option linter.unusedSimpArgs false
namespace Srt
section
variable {α : Type} {d : α} {key : α → Int}
def sw (d : α) (L : List α) (i j : Nat) : List α := (L.set i (L.getD j d)).set j (L.getD i d)
theorem Zv9 (L : List α) (i j : Nat) : (sw d L i j).length = L.length := by simp [sw]
theorem ZkC {L : List α} {i j : Nat} (hi : i < L.length) (hj : j < L.length) (x : Nat) : (sw d L i j).getD x d = if x = j then L.getD i d else if x = i then L.getD j d else L.getD x d := by
 unfold sw
 rw [Zrm (by simpa using hj)]
 by_cases h : x = j
 ·rw [if_pos h, if_pos h]
 ·rw [if_neg h, if_neg h, Zrm hi]
theorem Zvl {L : List α} {i j : Nat} (hi : i < L.length) (hj : j < L.length) : (sw d L i j).Perm L := by
 have h := @List.set_set_perm _ L i j hi hj
 have e1 : L.getD j d = L[j] := by simp [List.getD, hj]
 have e2 : L.getD i d = L[i] := by simp [List.getD, hi]
 unfold sw
 rw [e1, e2]
 exact h
structure Ch (d : α) (a b : Nat) (L L' : List α) : Prop where
 perm : L'.Perm L
 frame : ∀ i, (i < a ∨ b ≤ i) → L'.getD i d = L.getD i d
 sub : ∀ i, a ≤ i → i < b → ∃ j, a ≤ j ∧ j < b ∧ L'.getD i d = L.getD j d
theorem Ch.len {a b : Nat} {L L' : List α} (h : Ch d a b L L') : L'.length = L.length := h.perm.length_eq
theorem Ch.refl (a b : Nat) (L : List α) : Ch d a b L L := ⟨List.Perm.refl _, fun _ _ => rfl, fun i h1 h2 => ⟨i, h1, h2, rfl⟩⟩
theorem Ch.trans {a b : Nat} {L M N : List α} (h : Ch d a b L M) (g : Ch d a b M N) : Ch d a b L N :=
 ⟨g.perm.trans h.perm, fun i hi => (g.frame i hi).trans (h.frame i hi), fun i h1 h2 => by
  obtain ⟨j, q1, q2, q3⟩ := g.sub i h1 h2
  obtain ⟨k, r1, r2, r3⟩ := h.sub j q1 q2
  exact ⟨k, r1, r2, q3.trans r3⟩⟩
theorem Ch.wide {a b a' b' : Nat} {L L' : List α} (h : Ch d a b L L') (ha : a' ≤ a) (hb : b ≤ b') : Ch d a' b' L L' :=
 ⟨h.perm, fun i hi => h.frame i (by omega), fun i h1 h2 => by
  by_cases hi : a ≤ i ∧ i < b
  ·obtain ⟨j, q1, q2, q3⟩ := h.sub i hi.1 hi.2
   exact ⟨j, by omega, by omega, q3⟩
  ·exact ⟨i, h1, h2, h.frame i (by omega)⟩⟩
theorem Zqd {a b i j : Nat} {L : List α} (hi : a ≤ i ∧ i < b) (hj : a ≤ j ∧ j < b) (hb : b ≤ L.length) : Ch d a b L (sw d L i j) := by
 refine ⟨Zvl (by omega) (by omega), fun x hx => ?_, fun x h1 h2 => ?_⟩
 ·rw [ZkC (by omega) (by omega), if_neg (by omega), if_neg (by omega)]
 ·rw [ZkC (by omega) (by omega)]
  by_cases e : x = j
  ·rw [if_pos e]; exact ⟨i, hi.1, hi.2, rfl⟩
  ·rw [if_neg e]
   by_cases e2 : x = i
   ·rw [if_pos e2]; exact ⟨j, hj.1, hj.2, rfl⟩
   ·rw [if_neg e2]; exact ⟨x, h1, h2, rfl⟩
def Up (d : α) (key : α → Int) (a b : Nat) (L : List α) : Prop := ∀ x y, a ≤ x → x < y → y < b → key (L.getD x d) ≤ key (L.getD y d)
theorem Up.le {a b : Nat} {L : List α} (h : Up d key a b L) {x y : Nat} (h1 : a ≤ x) (h2 : x ≤ y) (h3 : y < b) : key (L.getD x d) ≤ key (L.getD y d) := by
 by_cases e : x = y
 ·subst e; exact Int.le_refl _
 ·exact h x y h1 (by omega) h3
theorem Up.part {a b a' b' : Nat} {L : List α} (h : Up d key a b L) (ha : a ≤ a') (hb : b' ≤ b) : Up d key a' b' L := fun x y h1 h2 h3 => h x y (by omega) h2 (by omega)
theorem Up.same {a b : Nat} {L M : List α} (h : Up d key a b L) (e : ∀ i, a ≤ i → i < b → M.getD i d = L.getD i d) : Up d key a b M := fun x y h1 h2 h3 => by
 rw [e x h1 (by omega), e y (by omega) h3]
 exact h x y h1 h2 h3
def Ins (d : α) (key : α → Int) (a i j : Nat) (L : List α) : Prop :=
 (∀ x y, a ≤ x → x < y → y ≤ i → x ≠ j → y ≠ j → key (L.getD x d) ≤ key (L.getD y d)) ∧ ∀ y, j < y → y ≤ i → key (L.getD j d) ≤ key (L.getD y d)
theorem ZmP {a i : Nat} {L : List α} (h : Up d key a i L) : Ins d key a i i L := ⟨fun x y h1 h2 h3 _ h5 => h x y h1 h2 (by omega), fun y h1 h2 => by omega⟩
theorem Zrn {a i j : Nat} {L : List α} (h : Ins d key a i j L) (hj : a < j) (hji : j ≤ i) (hi : i < L.length) (hk : key (L.getD j d) ≤ key (L.getD (j - 1) d)) : Ins d key a i (j - 1) (sw d L j (j - 1)) := by
 have g : ∀ x, (sw d L j (j - 1)).getD x d = if x = j - 1 then L.getD j d else if x = j then L.getD (j - 1) d else L.getD x d := ZkC (by omega) (by omega)
 refine ⟨fun x y h1 h2 h3 h4 h5 => ?_, fun y h1 h2 => ?_⟩
 ·rw [g x, g y, if_neg h4, if_neg h5]
  by_cases e1 : x = j
  ·rw [if_pos e1, if_neg (by omega)]
   exact h.1 (j - 1) y (by omega) (by omega) h3 (by omega) (by omega)
  ·rw [if_neg e1]
   by_cases e2 : y = j
   ·rw [if_pos e2]
    by_cases e3 : x = j - 1
    ·omega
    ·exact h.1 x (j - 1) h1 (by omega) (by omega) e1 (by omega)
   ·rw [if_neg e2]
    exact h.1 x y h1 h2 h3 e1 e2
 ·rw [g (j - 1), if_pos rfl, g y, if_neg (by omega)]
  by_cases e : y = j
  ·rw [if_pos e]; exact hk
  ·rw [if_neg e]; exact h.2 y (by omega) h2
theorem Zng {a i j : Nat} {L : List α} (h : Ins d key a i j L) (hj : a ≤ j) (hji : j ≤ i) (hk : j = a ∨ key (L.getD (j - 1) d) ≤ key (L.getD j d)) : Up d key a (i + 1) L := by
 intro x y h1 h2 h3
 by_cases e1 : x = j
 ·subst e1; exact h.2 y h2 (by omega)
 ·by_cases e2 : y = j
  ·subst e2
   rcases hk with hk | hk
   ·omega
   ·by_cases e3 : x = y - 1
    ·subst e3; exact hk
    ·exact Int.le_trans (h.1 x (y - 1) h1 (by omega) (by omega) e1 (by omega)) hk
  ·exact h.1 x y h1 h2 (by omega) e1 e2
def Asc (d : α) (key : α → Int) (a b i k : Nat) (L : List α) : Prop :=
 (∀ x y, a ≤ x → x < y → y < b → x ≠ k → y ≠ k → key (L.getD x d) ≤ key (L.getD y d)) ∧ (∀ x, a ≤ x → x < k → key (L.getD x d) ≤ key (L.getD k d)) ∧ (∀ h, k < h → h < i → key (L.getD h d) ≤ key (L.getD k d)) ∧ ∀ h, k < h → i ≤ h → h < b → key (L.getD k d) ≤ key (L.getD h d)
theorem Zp6 {a b i : Nat} {L : List α} (h : Up d key (a + 1) b L) (h1 : ∀ h, a < h → h < i → key (L.getD h d) ≤ key (L.getD a d)) (h2 : ∀ h, a < h → i ≤ h → h < b → key (L.getD a d) ≤ key (L.getD h d)) : Asc d key a b i a L :=
 ⟨fun x y q1 q2 q3 q4 q5 => h x y (by omega) q2 q3, fun x q1 q2 => by omega, h1, h2⟩
theorem Zu8 {a b i k : Nat} {L : List α} (h : Asc d key a b i k L) (ha : a ≤ k) (hk : k + 1 < i) (hi : i ≤ b) (hb : b ≤ L.length) : Asc d key a b i (k + 1) (sw d L k (k + 1)) := by
 have g : ∀ x, (sw d L k (k + 1)).getD x d = if x = k + 1 then L.getD k d else if x = k then L.getD (k + 1) d else L.getD x d := ZkC (by omega) (by omega)
 obtain ⟨p1, p2, p3, p4⟩ := h
 refine ⟨fun x y q1 q2 q3 q4 q5 => ?_, fun x q1 q2 => ?_, fun x q1 q2 => ?_, fun x q1 q2 q3 => ?_⟩
 ·rw [g x, g y, if_neg q4, if_neg q5]
  by_cases e1 : x = k
  ·rw [if_pos e1, if_neg (by omega)]
   exact p1 (k + 1) y (by omega) (by omega) q3 (by omega) (by omega)
  ·rw [if_neg e1]
   by_cases e2 : y = k
   ·rw [if_pos e2]; exact p1 x (k + 1) q1 (by omega) (by omega) e1 (by omega)
   ·rw [if_neg e2]; exact p1 x y q1 q2 q3 e1 e2
 ·rw [g (k + 1), if_pos rfl, g x, if_neg (by omega)]
  by_cases e : x = k
  ·rw [if_pos e]; exact p3 (k + 1) (by omega) hk
  ·rw [if_neg e]; exact p2 x q1 (by omega)
 ·rw [g (k + 1), if_pos rfl, g x, if_neg (by omega), if_neg (by omega)]
  exact p3 x (by omega) q2
 ·rw [g (k + 1), if_pos rfl, g x, if_neg (by omega), if_neg (by omega)]
  exact p4 x (by omega) q2 q3
theorem Zsr {a b i k : Nat} {L : List α} (h : Asc d key a b i k L) (ha : a ≤ k) (hk : i ≤ k + 1) : Up d key a b L := by
 obtain ⟨p1, p2, p3, p4⟩ := h
 intro x y q1 q2 q3
 by_cases e1 : x = k
 ·subst e1; exact p4 y q2 (by omega) q3
 ·by_cases e2 : y = k
  ·subst e2; exact p2 x q1 q2
  ·exact p1 x y q1 q2 q3 e1 e2
def Des (d : α) (key : α → Int) (a m i k : Nat) (L : List α) : Prop :=
 Ins d key a m k L ∧ (∀ h, i ≤ h → h < k → key (L.getD k d) ≤ key (L.getD h d)) ∧ ∀ h, a ≤ h → h < i → key (L.getD h d) ≤ key (L.getD k d)
theorem Zu9 {a m i k : Nat} {L : List α} (h : Des d key a m i k L) (ha : a ≤ i) (hk : i < k) (hm : k ≤ m) (hb : m < L.length) : Des d key a m i (k - 1) (sw d L k (k - 1)) := by
 have g : ∀ x, (sw d L k (k - 1)).getD x d = if x = k - 1 then L.getD k d else if x = k then L.getD (k - 1) d else L.getD x d := ZkC (by omega) (by omega)
 obtain ⟨p1, p2, p3⟩ := h
 refine ⟨Zrn p1 (by omega) hm hb (p2 (k - 1) (by omega) (by omega)), fun x q1 q2 => ?_, fun x q1 q2 => ?_⟩
 ·rw [g (k - 1), if_pos rfl, g x, if_neg (by omega), if_neg (by omega)]
  exact p2 x q1 (by omega)
 ·rw [g (k - 1), if_pos rfl, g x, if_neg (by omega), if_neg (by omega)]
  exact p3 x q1 q2
theorem Zss {a m i k : Nat} {L : List α} (h : Des d key a m i k L) (ha : a ≤ i) (hk : k = i) (hm : k ≤ m) : Up d key a (m + 1) L := by
 subst hk
 refine Zng h.1 ha hm ?_
 by_cases e : k = a
 ·exact .inl e
 ·exact .inr (h.2.2 (k - 1) (by omega) (by omega))
def swr (d : α) (L : List α) (a b : Nat) : Nat → List α
 | 0 => L
 | k + 1 => sw d (swr d L a b k) (a + k) (b + k)
theorem Zf5 (L : List α) (a b : Nat) : ∀ k, (swr d L a b k).length = L.length
 | 0 => rfl
 | k + 1 => (Zv9 _ _ _).trans (Zf5 L a b k)
theorem ZoC {L : List α} {a b p q : Nat} (hp : p ≤ a ∧ p ≤ b) (hq : q ≤ L.length) : ∀ k, a + k ≤ q → b + k ≤ q → Ch d p q L (swr d L a b k)
 | 0, _, _ => Ch.refl _ _ _
 | k + 1, h1, h2 => (ZoC hp hq k (by omega) (by omega)).trans (Zqd (by omega) (by omega) (by rw [Zf5]; exact hq))
theorem Znh {L : List α} {a b : Nat} (x : Nat) : ∀ k, a + k ≤ b → b + k ≤ L.length → (swr d L a b k).getD x d = if a ≤ x ∧ x < a + k then L.getD (x + (b - a)) d else if b ≤ x ∧ x < b + k then L.getD (x - (b - a)) d else L.getD x d
 | 0, _, _ => by rw [if_neg (by omega), if_neg (by omega)]; rfl
 | k + 1, h1, h2 => by
  have ih := fun y => Znh (L := L) (a := a) (b := b) y k (by omega) (by omega)
  show (sw d (swr d L a b k) (a + k) (b + k)).getD x d = _
  rw [ZkC (by rw [Zf5]; omega) (by rw [Zf5]; omega), ih x, ih (a + k), ih (b + k)]
  by_cases e1 : x = b + k
  ·subst e1
   rw [if_pos rfl, if_neg (by omega), if_neg (by omega), if_neg (by omega), if_pos (by omega)]
   congr 1; omega
  ·rw [if_neg e1]
   by_cases e2 : x = a + k
   ·subst e2
    rw [if_pos rfl, if_neg (by omega), if_neg (by omega), if_pos (by omega)]
    congr 1; omega
   ·rw [if_neg e2]
    by_cases e3 : a ≤ x ∧ x < a + k
    ·rw [if_pos e3, if_pos (by omega)]
    ·rw [if_neg e3]
     by_cases e4 : b ≤ x ∧ x < b + k
     ·rw [if_pos e4, if_neg (by omega), if_pos (by omega)]
     ·rw [if_neg e4, if_neg (by omega), if_neg (by omega)]
structure Rot (d : α) (p m q : Nat) (L L' : List α) : Prop where
 ch : Ch d p q L L'
 lo : ∀ x, p ≤ x → x < p + (q - m) → L'.getD x d = L.getD (x + (m - p)) d
 hi : ∀ x, p + (q - m) ≤ x → x < q → L'.getD x d = L.getD (x - (q - m)) d
theorem Zro {p m q : Nat} {L : List α} (h : p = m ∨ m = q) (hpm : p ≤ m) (hmq : m ≤ q) : Rot d p m q L L :=
 ⟨Ch.refl _ _ _, fun x h1 h2 => by rw [show x + (m - p) = x from by omega], fun x h1 h2 => by rw [show x - (q - m) = x from by omega]⟩
theorem ZuA {p m q j : Nat} {L L' : List α} (hj : q = m + j) (hp : p + j < m) (hq : q ≤ L.length) (h : Rot d (p + j) m q (swr d L p m j) L') : Rot d p m q L L' := by
 have g := fun x => Znh (L := L) (d := d) (a := p) (b := m) x j (by omega) (by omega)
 have c : Ch d p q L (swr d L p m j) := ZoC (by omega) hq j (by omega) (by omega)
 refine ⟨c.trans (h.ch.wide (by omega) (Nat.le_refl _)), fun x h1 h2 => ?_, fun x h1 h2 => ?_⟩
 ·rw [h.ch.frame x (by omega), g x, if_pos (by omega)]
 ·by_cases e : x < p + j + (q - m)
  ·rw [h.lo x (by omega) e, g _, if_neg (by omega), if_pos (by omega)]
   congr 1; omega
  ·rw [h.hi x (by omega) h2, g _, if_neg (by omega), if_neg (by omega)]
theorem ZtF {p m q i : Nat} {L L' : List α} (hi : m = p + i) (hp : m + i < q) (hq : q ≤ L.length) (h : Rot d p m (q - i) (swr d L p (q - i) i) L') : Rot d p m q L L' := by
 have g := fun x => Znh (L := L) (d := d) (a := p) (b := q - i) x i (by omega) (by omega)
 have c : Ch d p q L (swr d L p (q - i) i) := ZoC (by omega) hq i (by omega) (by omega)
 refine ⟨c.trans (h.ch.wide (Nat.le_refl _) (by omega)), fun x h1 h2 => ?_, fun x h1 h2 => ?_⟩
 ·by_cases e : x < p + (q - i - m)
  ·rw [h.lo x h1 e, g _, if_neg (by omega), if_neg (by omega)]
  ·rw [h.hi x (by omega) (by omega), g _, if_pos (by omega)]
   congr 1; omega
 ·rw [h.ch.frame x (by omega), g x, if_neg (by omega), if_pos (by omega)]
  congr 1; omega
theorem Zvm {p m q i : Nat} {L : List α} (hi : m = p + i) (hq : q = m + i) (hl : q ≤ L.length) : Rot d p m q L (swr d L p m i) := by
 have g := fun x => Znh (L := L) (d := d) (a := p) (b := m) x i (by omega) (by omega)
 refine ⟨ZoC (by omega) hl i (by omega) (by omega), fun x h1 h2 => ?_, fun x h1 h2 => ?_⟩
 ·rw [g x, if_pos (by omega)]
 ·rw [g x, if_neg (by omega), if_pos (by omega)]; congr 1; omega
def ZuS (d : α) (key : α → Int) (a m b : Nat) (L : List α) : Prop := ∀ x y, a ≤ x → x < m → m ≤ y → y < b → key (L.getD x d) ≤ key (L.getD y d)
theorem ZrR {a m b mid s e : Nat} {L L1 : List α} (h1 : Up d key a m L) (h2 : Up d key m b L) (ham : a < m) (hmb : m < b) (hmid : mid = (a + b) / 2) (he : e + s = mid + m)
  (hs : (mid < m ∧ mid + m ≤ s + b ∧ s ≤ mid) ∨ (m ≤ mid ∧ a ≤ s ∧ s ≤ m))
  (hlo : ∀ c, a ≤ c → mid + m ≤ c + b → c < s → key (L.getD c d) ≤ key (L.getD (mid + m - 1 - c) d)) (hhi : ∀ c, s ≤ c → c < m → c < mid → key (L.getD (mid + m - 1 - c) d) ≤ key (L.getD c d)) (r : Rot d s m e L L1) :
  (a ≤ s ∧ s ≤ m ∧ m ≤ e ∧ e ≤ b ∧ s ≤ mid ∧ mid ≤ e ∧ a < mid ∧ mid < b) ∧ Up d key a s L1 ∧ Up d key s mid L1 ∧ Up d key mid e L1 ∧ Up d key e b L1 ∧ ZuS d key a mid b L1 := by
 have hb : a ≤ s ∧ s ≤ m ∧ m ≤ e ∧ e ≤ b ∧ s ≤ mid ∧ mid ≤ e ∧ a < mid ∧ mid < b := by omega
 obtain ⟨b1, b2, b3, b4, b5, b6, b7, b8⟩ := hb
 have g1 : ∀ x, x < s → L1.getD x d = L.getD x d := fun x hx => r.ch.frame x (.inl hx)
 have g2 : ∀ x, s ≤ x → x < mid → L1.getD x d = L.getD (x + (m - s)) d := fun x p q => r.lo x p (by omega)
 have g3 : ∀ x, mid ≤ x → x < e → L1.getD x d = L.getD (x - (e - m)) d := fun x p q => r.hi x (by omega) q
 have g4 : ∀ x, e ≤ x → L1.getD x d = L.getD x d := fun x hx => r.ch.frame x (.inr hx)
 refine ⟨⟨b1, b2, b3, b4, b5, b6, b7, b8⟩, fun x y p q w => ?_, fun x y p q w => ?_, fun x y p q w => ?_, fun x y p q w => ?_, fun x y p q w z => ?_⟩
 ·rw [g1 x (by omega), g1 y w]; exact h1 x y p q (by omega)
 ·rw [g2 x p (by omega), g2 y (by omega) w]; exact h2 _ _ (by omega) (by omega) (by omega)
 ·rw [g3 x p (by omega), g3 y (by omega) w]; exact h1 _ _ (by omega) (by omega) (by omega)
 ·rw [g4 x p, g4 y (by omega)]; exact h2 x y (by omega) q w
 ·by_cases e1 : x < s
  ·rw [g1 x e1]
   by_cases e2 : y < e
   ·rw [g3 y w e2]; exact h1 x _ p (by omega) (by omega)
   ·rw [g4 y (by omega)]
    have k := hlo (s - 1) (by omega) (by omega) (by omega)
    rw [show mid + m - 1 - (s - 1) = e from by omega] at k
    exact Int.le_trans (h1.le p (show x ≤ s - 1 by omega) (by omega)) (Int.le_trans k (h2.le b3 (by omega) z))
  ·rw [g2 x (by omega) q]
   by_cases e2 : y < e
   ·rw [g3 y w e2]
    have k := hhi s (Nat.le_refl _) (by omega) (by omega)
    rw [show mid + m - 1 - s = e - 1 from by omega] at k
    exact Int.le_trans (h2.le (by omega) (show x + (m - s) ≤ e - 1 by omega) (by omega)) (Int.le_trans k (h1.le b1 (by omega) (by omega)))
   ·rw [g4 y (by omega)]; exact h2 _ _ (by omega) (by omega) z
theorem ZoD {a mid b : Nat} {L1 L2 L3 : List α} (hc : ZuS d key a mid b L1) (c1 : Ch d a mid L1 L2) (u1 : Up d key a mid L2) (c2 : Ch d mid b L2 L3) (u2 : Up d key mid b L3) (ha : a ≤ mid) (hb : mid ≤ b) : Up d key a b L3 ∧ Ch d a b L1 L3 := by
 refine ⟨fun x y p q w => ?_, (c1.wide (Nat.le_refl _) hb).trans (c2.wide ha (Nat.le_refl _))⟩
 by_cases e1 : y < mid
 ·rw [c2.frame x (by omega), c2.frame y (by omega)]; exact u1 x y p q e1
 ·by_cases e2 : mid ≤ x
  ·exact u2 x y e2 q w
  ·obtain ⟨i, i1, i2, i3⟩ := c1.sub x p (by omega)
   obtain ⟨j, j1, j2, j3⟩ := c2.sub y (by omega) w
   rw [c2.frame x (by omega), i3, j3, c1.frame j (by omega)]
   exact hc i j i1 i2 j1 j2
end
end Srt
end Ev
end Go.Proofs.YtjdojnecmplmnaaGreat
/- A stable sort by keys: what the plain functions come to. -/
namespace Go.Proofs.YtjdojnecmplmnaaGreat
open Go.RowKit
namespace Ev
set_option linter.unusedVariables false
set_option linter.unusedSimpArgs false
namespace Hs
open Srt
abbrev z : R_ii := R_ii.z
theorem ZtG {X R : Type} {step : X → Option (X ⊕ R)} {n : Nat} {x y : X} (h : step x = step y) : Zbq step (n + 1) x = Zbq step (n + 1) y := by simp only [Zbq, h]
abbrev ky : R_ii → Int := R_ii.a0
theorem Zpl {L : List R_ii} {n1 n2 : Nat} {x y w : Int} {a b n : Nat} (e1 : n1 = L.length) (e2 : n2 = L.length) (hx : x = (a : Int)) (hy : y = (b : Int)) (hw : w = (n : Int)) (h1 : a + n ≤ b) (h2 : b + n ≤ L.length) (h3 : L.length ≤ 1000) : Zar L n1 n2 x y w 100000 = some (.r0 (swr z L a b n)) := by
 subst hx hy hw
 have go : ∀ (d k f : Nat), k + d = n → d < f → Zbq (Zbm L n1 n2 a b n 100000) f (.h1m0 (swr z L a b k) k) = some (.r0 (swr z L a b n)) := by
  intro d
  induction d with
  | zero =>
   intro k f hk hf
   obtain ⟨f, rfl⟩ : ∃ j, f = j + 1 := ⟨f - 1, by omega⟩
   obtain rfl : k = n := by omega
   refine ZaH ?_
   show Za4 L n1 n2 a b k 100000 (swr z L a b k) k = _
   unfold Za4
   exact Za (by omega) (Za (by omega) (Za (by omega) (Za (by omega) (Za (by omega) (Za (by omega) (Za e1 (Za e2 (Za h3 (Za (Zf5 _ _ _ _) (Z2 (by omega) rfl))))))))))
  | succ d ih =>
   intro k f hk hf
   obtain ⟨f, rfl⟩ : ∃ j, f = j + 1 := ⟨f - 1, by omega⟩
   refine (ZL (y := .h1m0 (swr z L a b (k + 1)) (k + 1)) ?_).trans (ih (k + 1) f (by omega) (by omega))
   show Za4 L n1 n2 a b n 100000 (swr z L a b k) k = _
   unfold Za4
   refine Za (by omega) (Za (by omega) (Za (by omega) (Za (by omega) (Za (by omega) (Za (by omega) (Za e1 (Za e2 (Za h3 (Za (Zf5 _ _ _ _) (Za (by omega) (Za (by rw [Zf5]; omega) (Za (by rw [Zf5]; omega) (?_)))))))))))))
   rw [show ((a : Int) + (k : Int)).toNat = a + k from by omega, show ((b : Int) + (k : Int)).toNat = b + k from by omega]
   rfl
 unfold Zar
 refine (ZeA (x := .h1m0 L 0) ?_).trans (go n 0 100000 (by omega) (by omega))
 unfold ZbS
 exact Za (by omega) (Za (by omega) (Za (by omega) (Za (by omega) (Za (by omega) (Za (by omega) (Za e1 (Za e2 (Za h3 (rfl)))))))))
theorem ZuB {L : List R_ii} {n1 n2 : Nat} {p m q : Nat} (e1 : n1 = L.length) (e2 : n2 = L.length) (h3 : L.length ≤ 1000) (hp : p < m) (hm : m < q) (hq : q ≤ L.length) : ∀ (s i j : Nat) (V : List R_ii) (f : Nat), i + j ≤ s → 1 ≤ i → 1 ≤ j → i ≤ m → m + j ≤ L.length → V.length = L.length → s < f → ∃ L', Zbq (Zaj L n1 n2 p m q 100000) f (.h1m1 V i j) = some (.r0 L') ∧ Rot z (m - i) m (m + j) V L' := by
 intro s
 induction s with
 | zero => intro i j V f h1 h2 h3; omega
 | succ s ih =>
  intro i j V f hs hi hj him hjm hV hf
  obtain ⟨f, rfl⟩ : ∃ k, f = k + 1 := ⟨f - 1, by omega⟩
  by_cases c1 : i = j
  ·subst c1
   refine ⟨swr z V (m - i) m i, ZaH ?_, Zvm (by omega) rfl (by omega)⟩
   show Zac L n1 n2 p m q 100000 V i i = _
   unfold Zac
   exact Za (by omega) (Za (by omega) (Za (by omega) (Za (by omega) (Za (by omega) (Za (by omega) (Za e1 (Za e2 (Za h3 (Za hV (Za (by omega) (Za (by omega) (Za (by omega) (Za (by omega) (Z2 (by omega) (Zaf (Zpl hV.symm hV.symm (show _ = ((m - i : Nat) : Int) by omega) rfl rfl (by omega) (by omega) (by omega)) rfl)))))))))))))))
  ·by_cases c2 : j < i
   ·obtain ⟨L', r1, r2⟩ := ih (i - j) j (swr z V (m - i) m j) f (by omega) (by omega) hj (by omega) hjm ((Zf5 _ _ _ _).trans hV) (by omega)
    refine ⟨L', (ZL (y := .h1m1 (swr z V (m - i) m j) (i - j : Nat) j) ?_).trans r1, ZuA (j := j) rfl (by omega) (by omega) (by rwa [show m - i + j = m - (i - j) from by omega])⟩
    show Zac L n1 n2 p m q 100000 V i j = _
    unfold Zac
    refine Za (by omega) (Za (by omega) (Za (by omega) (Za (by omega) (Za (by omega) (Za (by omega) (Za e1 (Za e2 (Za h3 (Za hV (Za (by omega) (Za (by omega) (Za (by omega) (Za (by omega) (Za (by omega) (Za (by omega) (Zaf (Zpl (a := m - i) (n := j) hV.symm hV.symm (by omega) rfl rfl (by omega) (by omega) (by omega)) ?_))))))))))))))))
    show some (Sum.inl (slices_rotateCmpFunc_api_PairX.h1m1 _ ((i : Int) - (j : Int)) (j : Int))) = _
    rw [show (i : Int) - (j : Int) = ((i - j : Nat) : Int) from by omega]
   ·obtain ⟨L', r1, r2⟩ := ih i (j - i) (swr z V (m - i) (m + j - i) i) f (by omega) hi (by omega) him (by omega) ((Zf5 _ _ _ _).trans hV) (by omega)
    refine ⟨L', (ZL (y := .h1m1 (swr z V (m - i) (m + j - i) i) i (j - i : Nat)) ?_).trans r1, ZtF (i := i) (by omega) (by omega) (by omega) (by rwa [show m + (j - i) = m + j - i from by omega] at r2)⟩
    show Zac L n1 n2 p m q 100000 V i j = _
    unfold Zac
    refine Za (by omega) (Za (by omega) (Za (by omega) (Za (by omega) (Za (by omega) (Za (by omega) (Za e1 (Za e2 (Za h3 (Za hV (Za (by omega) (Za (by omega) (Za (by omega) (Za (by omega) (Za (by omega) (Z2 (by omega) (Zaf (Zpl (a := m - i) (b := m + j - i) (n := i) hV.symm hV.symm (by omega) (by omega) rfl (by omega) (by omega) (by omega)) ?_))))))))))))))))
    show some (Sum.inl (slices_rotateCmpFunc_api_PairX.h1m1 _ (i : Int) ((j : Int) - (i : Int)))) = _
    rw [show (j : Int) - (i : Int) = ((j - i : Nat) : Int) from by omega]
theorem ZtH {L : List R_ii} {n1 n2 : Nat} {p m q : Nat} (e1 : n1 = L.length) (e2 : n2 = L.length) (h3 : L.length ≤ 1000) (hp : p < m) (hm : m < q) (hq : q ≤ L.length) : Zbu L n1 n2 p m q 100000 = Zac L n1 n2 p m q 100000 L ((m - p : Nat) : Int) ((q - m : Nat) : Int) := by
 have k1 : (m : Int) - (p : Int) = ((m - p : Nat) : Int) := by omega
 have k2 : (q : Int) - (m : Int) = ((q - m : Nat) : Int) := by omega
 have gd : ∀ {c : Prop} [Decidable c] {A B : Option (slices_rotateCmpFunc_api_PairX ⊕ ZP)}, c → (if c then A else B) = A := fun h => if_pos h
 unfold Zbu Zac
 rw [k1, k2]
 rw [gd (show (0 : Int) ≤ (p : Int) by omega), gd (show (p : Int) ≤ 1000 by omega), gd (show (0 : Int) ≤ (m : Int) by omega), gd (show (m : Int) ≤ 1000 by omega), gd (show (0 : Int) ≤ (q : Int) by omega), gd (show (q : Int) ≤ 1000 by omega), gd e1, gd e2, gd h3]
 rw [gd (show (0 : Int) ≤ (p : Int) by omega), gd (show (p : Int) ≤ 1000 by omega), gd (show (0 : Int) ≤ (m : Int) by omega), gd (show (m : Int) ≤ 1000 by omega), gd (show (0 : Int) ≤ (q : Int) by omega), gd (show (q : Int) ≤ 1000 by omega), gd e1, gd e2, gd h3, gd (show L.length = L.length from rfl), gd (show (0 : Int) ≤ ((m - p : Nat) : Int) by omega), gd (show ((m - p : Nat) : Int) ≤ 2000 by omega), gd (show (0 : Int) ≤ ((q - m : Nat) : Int) by omega), gd (show ((q - m : Nat) : Int) ≤ 2000 by omega)]
theorem ZvA {L : List R_ii} {n1 n2 : Nat} {x y w : Int} {p m q : Nat} (e1 : n1 = L.length) (e2 : n2 = L.length) (h3 : L.length ≤ 1000) (hx : x = (p : Int)) (hy : y = (m : Int)) (hw : w = (q : Int)) (hp : p < m) (hm : m < q) (hq : q ≤ L.length) : ∃ L', ZbQ L n1 n2 x y w 100000 = some (.r0 L') ∧ Rot z p m q L L' := by
 subst hx hy hw
 obtain ⟨L', r1, r2⟩ := ZuB e1 e2 h3 hp hm hq 2000 (m - p) (q - m) L 100000 (by omega) (by omega) (by omega) (by omega) (by omega) rfl (by omega)
 rw [show m - (m - p) = p from by omega, show m + (q - m) = q from by omega] at r2
 refine ⟨L', ?_, r2⟩
 unfold ZbQ
 refine (ZeA (x := .h1m0) ?_).trans ((show Zbq (Zaj L n1 n2 p m q 100000) (99999 + 1) .h1m0 = Zbq (Zaj L n1 n2 p m q 100000) (99999 + 1) (.h1m1 L ((m - p : Nat) : Int) ((q - m : Nat) : Int)) from ?_).trans r1)
 ·unfold Zco
  exact Za (by omega) (Za (by omega) (Za (by omega) (Za (by omega) (Za (by omega) (Za (by omega) (Za e1 (Za e2 (Za h3 (rfl)))))))))
 ·have k : Zaj L n1 n2 p m q 100000 .h1m0 = Zaj L n1 n2 p m q 100000 (.h1m1 L ((m - p : Nat) : Int) ((q - m : Nat) : Int)) := ZtH e1 e2 h3 hp hm hq
  exact ZtG k
theorem ZmQ {L : List R_ii} {n1 n2 : Nat} {x y : Int} {a b : Nat} (e1 : n1 = L.length) (e2 : n2 = L.length) (h3 : L.length ≤ 40) (hx : x = (a : Int)) (hy : y = (b : Int)) (hab : a ≤ b) (hb : b ≤ L.length) : ∃ L', Zas L n1 n2 x y 100000 = some (.r0 L') ∧ Ch z a b L L' ∧ Srt.Up z ky a b L' := by
 subst hx hy
 have inner : ∀ (i : Nat) (F : Nat), i < b → (∀ V, Srt.Up z ky a (i + 1) V → Ch z a b L V → ∃ L', Zbq (Zag L n1 n2 a b 100000) F (.h1m0 V ((i + 1 : Nat) : Int)) = some (.r0 L') ∧ Ch z a b L L' ∧ Srt.Up z ky a b L') → ∀ (j : Nat) (V : List R_ii), a ≤ j → j ≤ i → Ins z ky a i j V → Ch z a b L V → ∃ L', Zbq (Zag L n1 n2 a b 100000) (F + j + 1) (.h2m0 V i j) = some (.r0 L') ∧ Ch z a b L L' ∧ Srt.Up z ky a b L' := by
  intro i F hi K j
  induction j with
  | zero =>
   intro V ha hj hI hC
   have hl := hC.len
   obtain ⟨L', r1, r2⟩ := K V (Zng hI ha hj (.inl (by omega))) hC
   refine ⟨L', (ZL (y := .h1m0 V ((i + 1 : Nat) : Int)) ?_).trans r1, r2⟩
   show ZH L n1 n2 a b 100000 V i (0 : Nat) = _
   unfold ZH
   exact Za (by omega) (Za (by omega) (Za (by omega) (Za (by omega) (Za e1 (Za e2 (Za (by omega) (Za hl (Za (by omega) (Za (by omega) (Za (by omega) (Za (by omega) (Z2 (by omega) rfl))))))))))))
  | succ j ih =>
   intro V ha hj hI hC
   have hl := hC.len
   by_cases c1 : a < j + 1
   ·by_cases c2 : ky (V.getD (j + 1) z) < ky (V.getD j z)
    ·obtain ⟨L', r1, r2⟩ := ih (sw z V (j + 1) j) (by omega) (by omega) (Zrn hI c1 hj (by omega) (Int.le_of_lt c2)) (hC.trans (Zqd (by omega) (by omega) (by omega)))
     refine ⟨L', (ZL (y := .h2m0 (sw z V (j + 1) j) i j) ?_).trans r1, r2⟩
     show ZH L n1 n2 a b 100000 V i ((j + 1 : Nat) : Int) = _
     unfold ZH
     rw [show ((j + 1 : Nat) : Int) - 1 = (j : Int) from by omega, Int.toNat_natCast, Int.toNat_natCast]
     exact Za (by omega) (Za (by omega) (Za (by omega) (Za (by omega) (Za e1 (Za e2 (Za (by omega) (Za hl (Za (by omega) (Za (by omega) (Za (by omega) (Za (by omega) (Za (by omega) (Za (by omega) (Za c2 (rfl)))))))))))))))
    ·obtain ⟨L', r1, r2⟩ := K V (Zng hI ha hj (.inr (Int.not_lt.1 c2))) hC
     refine ⟨L', (Zf4 (n := F + 1) (by omega) ((ZL (y := .h1m0 V ((i + 1 : Nat) : Int)) ?_).trans r1)), r2⟩
     show ZH L n1 n2 a b 100000 V i ((j + 1 : Nat) : Int) = _
     unfold ZH
     rw [show ((j + 1 : Nat) : Int) - 1 = (j : Int) from by omega, Int.toNat_natCast, Int.toNat_natCast]
     exact Za (by omega) (Za (by omega) (Za (by omega) (Za (by omega) (Za e1 (Za e2 (Za (by omega) (Za hl (Za (by omega) (Za (by omega) (Za (by omega) (Za (by omega) (Za (by omega) (Za (by omega) (Z2 c2 rfl))))))))))))))
   ·obtain ⟨L', r1, r2⟩ := K V (Zng hI ha hj (.inl (by omega))) hC
    refine ⟨L', (Zf4 (n := F + 1) (by omega) ((ZL (y := .h1m0 V ((i + 1 : Nat) : Int)) ?_).trans r1)), r2⟩
    show ZH L n1 n2 a b 100000 V i ((j + 1 : Nat) : Int) = _
    unfold ZH
    exact Za (by omega) (Za (by omega) (Za (by omega) (Za (by omega) (Za e1 (Za e2 (Za (by omega) (Za hl (Za (by omega) (Za (by omega) (Za (by omega) (Za (by omega) (Z2 (by omega) rfl))))))))))))
 have outer : ∀ (d i : Nat) (V : List R_ii), b ≤ i + d → a ≤ i → i ≤ 41 → Srt.Up z ky a i V → Ch z a b L V → ∃ L', Zbq (Zag L n1 n2 a b 100000) (50 * d + 1) (.h1m0 V i) = some (.r0 L') ∧ Ch z a b L L' ∧ Srt.Up z ky a b L' := by
  intro d
  induction d with
  | zero =>
   intro i V hd ha hi hU hC
   have hl := hC.len
   refine ⟨V, ZaH ?_, hC, hU.part (Nat.le_refl _) (by omega)⟩
   show ZX L n1 n2 a b 100000 V i = _
   unfold ZX
   exact Za (by omega) (Za (by omega) (Za (by omega) (Za (by omega) (Za e1 (Za e2 (Za (by omega) (Za hl (Za (by omega) (Za (by omega) (Z2 (by omega) rfl))))))))))
  | succ d ih =>
   intro i V hd ha hi hU hC
   have hl := hC.len
   by_cases c : i < b
   ·obtain ⟨L', r1, r2⟩ := inner i (50 * d + 1) c (fun W hW hCW => ih (i + 1) W (by omega) (by omega) (by omega) hW hCW) i V ha (Nat.le_refl _) (ZmP hU) hC
    refine ⟨L', Zf4 (n := 50 * d + 1 + i + 1 + 1) (by omega) ((ZL (y := .h2m0 V i i) ?_).trans r1), r2⟩
    show ZX L n1 n2 a b 100000 V i = _
    unfold ZX
    exact Za (by omega) (Za (by omega) (Za (by omega) (Za (by omega) (Za e1 (Za e2 (Za (by omega) (Za hl (Za (by omega) (Za (by omega) (Za (by omega) (rfl)))))))))))
   ·refine ⟨V, Zf4 (n := 1) (by omega) (ZaH ?_), hC, hU.part (Nat.le_refl _) (by omega)⟩
    show ZX L n1 n2 a b 100000 V i = _
    unfold ZX
    exact Za (by omega) (Za (by omega) (Za (by omega) (Za (by omega) (Za e1 (Za e2 (Za (by omega) (Za hl (Za (by omega) (Za (by omega) (Z2 (by omega) rfl))))))))))
 obtain ⟨L', r1, r2⟩ := outer 41 (a + 1) L (by omega) (by omega) (by omega) (fun x y h1 h2 h3 => by omega) (Ch.refl _ _ _)
 refine ⟨L', ?_, r2⟩
 unfold Zas
 refine (ZeA (x := .h1m0 L ((a + 1 : Nat) : Int)) ?_).trans (Zf4 (by omega) r1)
 unfold Zb1
 exact Za (by omega) (Za (by omega) (Za (by omega) (Za (by omega) (Za e1 (Za e2 (Za (by omega) (rfl)))))))
theorem Zrp {L : List R_ii} {n1 n2 : Nat} {rec : List R_ii → Nat → Nat → Int → Int → Int → Option Zf} {a m b : Nat} (e1 : n1 = L.length) (e2 : n2 = L.length) (h3 : L.length ≤ 1000) (ham : a ≤ m) (hmb : m ≤ b) (hb : b ≤ L.length) {i : Nat} (hi : i ≤ b) : ∀ (s k : Nat) (V : List R_ii) (f : Nat), i ≤ k + s → a ≤ k → k < b → Asc z ky a b i k V → Ch z a b L V → s < f → ∃ L', Zbq (ZF rec L n1 n2 a m b 100000) f (.h4m0 V i k) = some (.r0 L') ∧ Ch z a b L L' ∧ Srt.Up z ky a b L' := by
 intro s
 induction s with
 | zero =>
  intro k V f hs ha hk hA hC hf
  obtain ⟨f, rfl⟩ : ∃ k, f = k + 1 := ⟨f - 1, by omega⟩
  have hl := hC.len
  refine ⟨V, ZaH ?_, hC, Zsr hA ha (by omega)⟩
  show Zam rec L n1 n2 a m b 100000 V i k = _
  unfold Zam
  exact Za (by omega) (Za (by omega) (Za (by omega) (Za (by omega) (Za (by omega) (Za (by omega) (Za e1 (Za e2 (Za h3 (Za hl (Za (by omega) (Za (by omega) (Za (by omega) (Za (by omega) (Z2 (by omega) rfl))))))))))))))
 | succ s ih =>
  intro k V f hs ha hk hA hC hf
  obtain ⟨f, rfl⟩ : ∃ k, f = k + 1 := ⟨f - 1, by omega⟩
  have hl := hC.len
  by_cases c : k + 1 < i
  ·obtain ⟨L', r1, r2⟩ := ih (k + 1) (sw z V k (k + 1)) f (by omega) (by omega) (by omega) (Zu8 hA ha c hi (by omega)) (hC.trans (Zqd (by omega) (by omega) (by omega))) (by omega)
   refine ⟨L', (ZL (y := .h4m0 (sw z V k (k + 1)) i ((k + 1 : Nat) : Int)) ?_).trans r1, r2⟩
   show Zam rec L n1 n2 a m b 100000 V i k = _
   unfold Zam
   rw [show (k : Int) + 1 = ((k + 1 : Nat) : Int) from by omega, Int.toNat_natCast, Int.toNat_natCast]
   exact Za (by omega) (Za (by omega) (Za (by omega) (Za (by omega) (Za (by omega) (Za (by omega) (Za e1 (Za e2 (Za h3 (Za hl (Za (by omega) (Za (by omega) (Za (by omega) (Za (by omega) (Za (by omega) (Za (by omega) (rfl))))))))))))))))
  ·refine ⟨V, ZaH ?_, hC, Zsr hA ha (by omega)⟩
   show Zam rec L n1 n2 a m b 100000 V i k = _
   unfold Zam
   exact Za (by omega) (Za (by omega) (Za (by omega) (Za (by omega) (Za (by omega) (Za (by omega) (Za e1 (Za e2 (Za h3 (Za hl (Za (by omega) (Za (by omega) (Za (by omega) (Za (by omega) (Z2 (by omega) rfl))))))))))))))
theorem Zrq {L : List R_ii} {n1 n2 : Nat} {rec : List R_ii → Nat → Nat → Int → Int → Int → Option Zf} {a m b : Nat} (e1 : n1 = L.length) (e2 : n2 = L.length) (h3 : L.length ≤ 1000) (ham : a ≤ m) (hmb : b = m + 1) (hb : b ≤ L.length) {i : Nat} (hi : a ≤ i) : ∀ (k : Nat) (V : List R_ii) (f : Nat), i ≤ k → k ≤ m → Des z ky a m i k V → Ch z a b L V → k < f → ∃ L', Zbq (ZF rec L n1 n2 a m b 100000) f (.h5m0 V i k) = some (.r0 L') ∧ Ch z a b L L' ∧ Srt.Up z ky a b L' := by
 intro k
 induction k with
 | zero =>
  intro V f hik hk hD hC hf
  obtain ⟨f, rfl⟩ : ∃ k, f = k + 1 := ⟨f - 1, by omega⟩
  have hl := hC.len
  refine ⟨V, ZaH ?_, hC, hmb ▸ Zss hD hi (by omega) hk⟩
  show Zan rec L n1 n2 a m b 100000 V i (0 : Nat) = _
  unfold Zan
  exact Za (by omega) (Za (by omega) (Za (by omega) (Za (by omega) (Za (by omega) (Za (by omega) (Za e1 (Za e2 (Za h3 (Za hl (Za (by omega) (Za (by omega) (Za (by omega) (Za (by omega) (Z2 (by omega) rfl))))))))))))))
 | succ k ih =>
  intro V f hik hk hD hC hf
  obtain ⟨f, rfl⟩ : ∃ k, f = k + 1 := ⟨f - 1, by omega⟩
  have hl := hC.len
  by_cases c : i < k + 1
  ·obtain ⟨L', r1, r2⟩ := ih (sw z V (k + 1) k) f (by omega) (by omega) (Zu9 hD hi c hk (by omega)) (hC.trans (Zqd (by omega) (by omega) (by omega))) (by omega)
   refine ⟨L', (ZL (y := .h5m0 (sw z V (k + 1) k) i k) ?_).trans r1, r2⟩
   show Zan rec L n1 n2 a m b 100000 V i ((k + 1 : Nat) : Int) = _
   unfold Zan
   rw [show ((k + 1 : Nat) : Int) - 1 = (k : Int) from by omega, Int.toNat_natCast, Int.toNat_natCast]
   exact Za (by omega) (Za (by omega) (Za (by omega) (Za (by omega) (Za (by omega) (Za (by omega) (Za e1 (Za e2 (Za h3 (Za hl (Za (by omega) (Za (by omega) (Za (by omega) (Za (by omega) (Za (by omega) (Za (by omega) (Za (by omega) (rfl)))))))))))))))))
  ·refine ⟨V, ZaH ?_, hC, hmb ▸ Zss hD hi (by omega) hk⟩
   show Zan rec L n1 n2 a m b 100000 V i ((k + 1 : Nat) : Int) = _
   unfold Zan
   exact Za (by omega) (Za (by omega) (Za (by omega) (Za (by omega) (Za (by omega) (Za (by omega) (Za e1 (Za e2 (Za h3 (Za hl (Za (by omega) (Za (by omega) (Za (by omega) (Za (by omega) (Z2 (by omega) rfl))))))))))))))
theorem ZuC {L : List R_ii} {n1 n2 : Nat} {rec : List R_ii → Nat → Nat → Int → Int → Int → Option Zf} {a m b : Nat} (e1 : n1 = L.length) (e2 : n2 = L.length) (h3 : L.length ≤ 1000) (ham : m = a + 1) (hmb : m < b) (hb : b ≤ L.length) (hU : Srt.Up z ky m b L) : ∀ (s i j : Nat) (f : Nat), j ≤ i + s → m ≤ i → i ≤ j → j ≤ b → (∀ h, m ≤ h → h < i → ky (L.getD h z) ≤ ky (L.getD a z)) → (∀ h, j ≤ h → h < b → ky (L.getD a z) ≤ ky (L.getD h z)) → s + 1100 < f → ∃ L', Zbq (ZF rec L n1 n2 a m b 100000) f (.h1m0 i j) = some (.r0 L') ∧ Ch z a b L L' ∧ Srt.Up z ky a b L' := by
 intro s
 induction s with
 | zero =>
  intro i j f hs hm hij hj q1 q2 hf
  obtain ⟨f, rfl⟩ : ∃ k, f = k + 1 := ⟨f - 1, by omega⟩
  obtain ⟨L', r1, r2⟩ := Zrp (rec := rec) e1 e2 h3 (show a ≤ m by omega) (show m ≤ b by omega) hb (i := i) (by omega) 1050 a L f (by omega) (Nat.le_refl _) (by omega) (Zp6 (ham ▸ hU) (fun h h1 h2 => q1 h (by omega) h2) (fun h h1 h2 h3 => q2 h (by omega) h3)) (Ch.refl _ _ _) (by omega)
  refine ⟨L', (ZL (y := .h4m0 L i a) ?_).trans r1, r2⟩
  show ZV rec L n1 n2 a m b 100000 i j = _
  unfold ZV
  exact Za (by omega) (Za (by omega) (Za (by omega) (Za (by omega) (Za (by omega) (Za (by omega) (Za e1 (Za e2 (Za h3 (Za (by omega) (Za (by omega) (Za (by omega) (Za (by omega) (Z2 (by omega) rfl)))))))))))))
 | succ s ih =>
  intro i j f hs hm hij hj q1 q2 hf
  obtain ⟨f, rfl⟩ : ∃ k, f = k + 1 := ⟨f - 1, by omega⟩
  by_cases c : i < j
  ·have eh : ((i : Int) + (j : Int)) / 2 = (((i + j) / 2 : Nat) : Int) := by omega
   by_cases c2 : ky (L.getD ((i + j) / 2) z) < ky (L.getD a z)
   ·obtain ⟨L', r1, r2⟩ := ih ((i + j) / 2 + 1) j f (by omega) (by omega) (by omega) hj (fun h h1 h2 => Int.le_trans (hU.le h1 (show h ≤ (i + j) / 2 by omega) (by omega)) (Int.le_of_lt c2)) q2 (by omega)
    refine ⟨L', (ZL (y := .h1m0 (((i + j) / 2 + 1 : Nat) : Int) j) ?_).trans r1, r2⟩
    show ZV rec L n1 n2 a m b 100000 i j = _
    unfold ZV
    rw [eh, Int.toNat_natCast, Int.toNat_natCast]
    exact Za (by omega) (Za (by omega) (Za (by omega) (Za (by omega) (Za (by omega) (Za (by omega) (Za e1 (Za e2 (Za h3 (Za (by omega) (Za (by omega) (Za (by omega) (Za (by omega) (Za (by omega) (Za (by omega) (Za (by omega) (Za c2 (rfl)))))))))))))))))
   ·obtain ⟨L', r1, r2⟩ := ih i ((i + j) / 2) f (by omega) hm (by omega) (by omega) q1 (fun h h1 h2 => Int.le_trans (Int.not_lt.1 c2) (hU.le (by omega) h1 h2)) (by omega)
    refine ⟨L', (ZL (y := .h1m0 i (((i + j) / 2 : Nat) : Int)) ?_).trans r1, r2⟩
    show ZV rec L n1 n2 a m b 100000 i j = _
    unfold ZV
    rw [eh, Int.toNat_natCast, Int.toNat_natCast]
    exact Za (by omega) (Za (by omega) (Za (by omega) (Za (by omega) (Za (by omega) (Za (by omega) (Za e1 (Za e2 (Za h3 (Za (by omega) (Za (by omega) (Za (by omega) (Za (by omega) (Za (by omega) (Za (by omega) (Za (by omega) (Z2 c2 rfl))))))))))))))))
  ·obtain ⟨L', r1, r2⟩ := Zrp (rec := rec) e1 e2 h3 (show a ≤ m by omega) (show m ≤ b by omega) hb (i := i) (by omega) 1050 a L f (by omega) (Nat.le_refl _) (by omega) (Zp6 (ham ▸ hU) (fun h h1 h2 => q1 h (by omega) h2) (fun h h1 h2 h3 => q2 h (by omega) h3)) (Ch.refl _ _ _) (by omega)
   refine ⟨L', (ZL (y := .h4m0 L i a) ?_).trans r1, r2⟩
   show ZV rec L n1 n2 a m b 100000 i j = _
   unfold ZV
   exact Za (by omega) (Za (by omega) (Za (by omega) (Za (by omega) (Za (by omega) (Za (by omega) (Za e1 (Za e2 (Za h3 (Za (by omega) (Za (by omega) (Za (by omega) (Za (by omega) (Z2 (by omega) rfl)))))))))))))
theorem ZtI {L : List R_ii} {n1 n2 : Nat} {rec : List R_ii → Nat → Nat → Int → Int → Int → Option Zf} {a m b : Nat} (e1 : n1 = L.length) (e2 : n2 = L.length) (h3 : L.length ≤ 1000) (ham : a < m) (hmb : b = m + 1) (hb : b ≤ L.length) (hU : Srt.Up z ky a m L) : ∀ (s i j : Nat) (f : Nat), j ≤ i + s → a ≤ i → i ≤ j → j ≤ m → (∀ h, a ≤ h → h < i → ky (L.getD h z) ≤ ky (L.getD m z)) → (∀ h, j ≤ h → h < m → ky (L.getD m z) ≤ ky (L.getD h z)) → s + 1100 < f → ∃ L', Zbq (ZF rec L n1 n2 a m b 100000) f (.h2m0 i j) = some (.r0 L') ∧ Ch z a b L L' ∧ Srt.Up z ky a b L' := by
 intro s
 induction s with
 | zero =>
  intro i j f hs hm hij hj q1 q2 hf
  obtain ⟨f, rfl⟩ : ∃ k, f = k + 1 := ⟨f - 1, by omega⟩
  obtain ⟨L', r1, r2⟩ := Zrq (rec := rec) e1 e2 h3 (show a ≤ m by omega) hmb hb (i := i) hm m L f (by omega) (Nat.le_refl _) ⟨ZmP hU, fun h h1 h2 => q2 h (by omega) h2, q1⟩ (Ch.refl _ _ _) (by omega)
  refine ⟨L', (ZL (y := .h5m0 L i m) ?_).trans r1, r2⟩
  show ZW rec L n1 n2 a m b 100000 i j = _
  unfold ZW
  exact Za (by omega) (Za (by omega) (Za (by omega) (Za (by omega) (Za (by omega) (Za (by omega) (Za e1 (Za e2 (Za h3 (Za (by omega) (Za (by omega) (Za (by omega) (Za (by omega) (Z2 (by omega) rfl)))))))))))))
 | succ s ih =>
  intro i j f hs hm hij hj q1 q2 hf
  obtain ⟨f, rfl⟩ : ∃ k, f = k + 1 := ⟨f - 1, by omega⟩
  by_cases c : i < j
  ·have eh : ((i : Int) + (j : Int)) / 2 = (((i + j) / 2 : Nat) : Int) := by omega
   by_cases c2 : ky (L.getD m z) < ky (L.getD ((i + j) / 2) z)
   ·obtain ⟨L', r1, r2⟩ := ih i ((i + j) / 2) f (by omega) hm (by omega) (by omega) q1 (fun h h1 h2 => Int.le_trans (Int.le_of_lt c2) (hU.le (by omega) h1 h2)) (by omega)
    refine ⟨L', (ZL (y := .h2m0 i (((i + j) / 2 : Nat) : Int)) ?_).trans r1, r2⟩
    show ZW rec L n1 n2 a m b 100000 i j = _
    unfold ZW
    rw [eh, Int.toNat_natCast, Int.toNat_natCast]
    exact Za (by omega) (Za (by omega) (Za (by omega) (Za (by omega) (Za (by omega) (Za (by omega) (Za e1 (Za e2 (Za h3 (Za (by omega) (Za (by omega) (Za (by omega) (Za (by omega) (Za (by omega) (Za (by omega) (Za (by omega) (Za c2 (rfl)))))))))))))))))
   ·obtain ⟨L', r1, r2⟩ := ih ((i + j) / 2 + 1) j f (by omega) (by omega) (by omega) hj (fun h h1 h2 => Int.le_trans (hU.le h1 (show h ≤ (i + j) / 2 by omega) (by omega)) (Int.not_lt.1 c2)) q2 (by omega)
    refine ⟨L', (ZL (y := .h2m0 (((i + j) / 2 + 1 : Nat) : Int) j) ?_).trans r1, r2⟩
    show ZW rec L n1 n2 a m b 100000 i j = _
    unfold ZW
    rw [eh, Int.toNat_natCast, Int.toNat_natCast]
    exact Za (by omega) (Za (by omega) (Za (by omega) (Za (by omega) (Za (by omega) (Za (by omega) (Za e1 (Za e2 (Za h3 (Za (by omega) (Za (by omega) (Za (by omega) (Za (by omega) (Za (by omega) (Za (by omega) (Za (by omega) (Z2 c2 rfl))))))))))))))))
  ·obtain ⟨L', r1, r2⟩ := Zrq (rec := rec) e1 e2 h3 (show a ≤ m by omega) hmb hb (i := i) hm m L f (by omega) (Nat.le_refl _) ⟨ZmP hU, fun h h1 h2 => q2 h (by omega) h2, q1⟩ (Ch.refl _ _ _) (by omega)
   refine ⟨L', (ZL (y := .h5m0 L i m) ?_).trans r1, r2⟩
   show ZW rec L n1 n2 a m b 100000 i j = _
   unfold ZW
   exact Za (by omega) (Za (by omega) (Za (by omega) (Za (by omega) (Za (by omega) (Za (by omega) (Za e1 (Za e2 (Za h3 (Za (by omega) (Za (by omega) (Za (by omega) (Za (by omega) (Z2 (by omega) rfl)))))))))))))
def Rec (n : Nat) (rec : List R_ii → Nat → Nat → Int → Int → Int → Option Zf) : Prop :=
 ∀ (L : List R_ii) (n1 n2 : Nat) (x y w : Int) (a m b : Nat), n1 = L.length → n2 = L.length → L.length ≤ 1000 → x = (a : Int) → y = (m : Int) → w = (b : Int) → a < m → m < b → b ≤ L.length → b - a < n → Srt.Up z ky a m L → Srt.Up z ky m b L → ∃ L', rec L n1 n2 x y w = some (.r0 L') ∧ Ch z a b L L' ∧ Srt.Up z ky a b L'
theorem fin {L : List R_ii} {n1 n2 : Nat} {rec : List R_ii → Nat → Nat → Int → Int → Int → Option Zf} {a m b mid : Nat} (e1 : n1 = L.length) (e2 : n2 = L.length) (h3 : L.length ≤ 1000) (ham : a < m) (hmb : m < b) (hb : b ≤ L.length) (hmid : mid = (a + b) / 2) (hR : Rec (b - a) rec) (hU1 : Srt.Up z ky a m L) (hU2 : Srt.Up z ky m b L) (i j f : Nat) (hij : i = j) (hr : (mid < m ∧ mid + m ≤ i + b ∧ i ≤ mid) ∨ (m ≤ mid ∧ a ≤ i ∧ i ≤ m))
  (q1 : ∀ c, a ≤ c → mid + m ≤ c + b → c < i → ky (L.getD c z) ≤ ky (L.getD (mid + m - 1 - c) z)) (q2 : ∀ c, j ≤ c → c < m → c < mid → ky (L.getD (mid + m - 1 - c) z) ≤ ky (L.getD c z)) (hf : 0 < f) : ∃ L', Zbq (ZF rec L n1 n2 a m b 100000) f (.h3m0 i j) = some (.r0 L') ∧ Ch z a b L L' ∧ Srt.Up z ky a b L' := by
 have em : ((a : Int) + (b : Int)) / 2 = (mid : Int) := by omega
 subst hij
 obtain ⟨f, rfl⟩ : ∃ k, f = k + 1 := ⟨f - 1, by omega⟩
 obtain ⟨e, he⟩ : ∃ e, e + i = mid + m := ⟨mid + m - i, by omega⟩
 have ee : (mid : Int) + (m : Int) - (i : Int) = (e : Int) := by omega
 have all : ∀ L1, Rot z i m e L L1 → (a < i ∧ i < mid → ∃ L2, rec L1 L.length L.length a i mid = some (.r0 L2) ∧ Ch z a mid L1 L2 ∧ Srt.Up z ky a mid L2) ∧ (¬ (a < i ∧ i < mid) → Srt.Up z ky a mid L1) ∧ (∀ L2, Ch z a mid L1 L2 → Srt.Up z ky a mid L2 → (mid < e ∧ e < b → ∃ L3, rec L2 L.length L.length mid e b = some (.r0 L3) ∧ Ch z a b L L3 ∧ Srt.Up z ky a b L3) ∧ (¬ (mid < e ∧ e < b) → Ch z a b L L2 ∧ Srt.Up z ky a b L2)) := by
  intro L1 r
  obtain ⟨⟨b1, b2, b3, b4, b5, b6, b7, b8⟩, u1, u2, u3, u4, cr⟩ := ZrR hU1 hU2 ham hmb hmid he hr q1 q2 r
  have l1 := r.ch.len
  have c1 : Ch z a b L L1 := r.ch.wide b1 b4
  refine ⟨fun h => hR L1 _ _ _ _ _ a i mid l1.symm l1.symm (by omega) rfl rfl rfl h.1 h.2 (by omega) (by omega) u1 u2, fun h => ?_, fun L2 k1 k2 => ⟨fun h => ?_, fun h => ?_⟩⟩
  ·by_cases h1 : a < i
   ·exact (show i = mid by omega) ▸ u1
   ·exact (show i = a by omega) ▸ u2
  ·have l2 := k1.len
   obtain ⟨L3, t1, t2, t3⟩ := hR L2 L.length L.length mid e b mid e b (by omega) (by omega) (by omega) rfl rfl rfl h.1 h.2 (by omega) (by omega) (u3.same fun x p q => k1.frame x (by omega)) (u4.same fun x p q => k1.frame x (by omega))
   obtain ⟨t4, t5⟩ := ZoD cr k1 k2 t2 t3 (by omega) (by omega)
   exact ⟨L3, t1, c1.trans t5, t4⟩
  ·have u5 : Srt.Up z ky mid b L2 := by
    by_cases h1 : mid < e
    ·exact ((show e = b by omega) ▸ u3).same fun x p q => k1.frame x (by omega)
    ·exact ((show e = mid by omega) ▸ u4).same fun x p q => k1.frame x (by omega)
   obtain ⟨t4, t5⟩ := ZoD cr k1 k2 (Ch.refl _ _ _) u5 (by omega) (by omega)
   exact ⟨c1.trans t5, t4⟩
 have hbd : a ≤ i ∧ i ≤ m ∧ m ≤ e ∧ e ≤ b ∧ i ≤ mid ∧ mid ≤ e := by omega
 suffices h : ∃ L', Z6 rec L n1 n2 a m b 100000 i i = some (.inr (.r0 L')) ∧ Ch z a b L L' ∧ Srt.Up z ky a b L' by
  obtain ⟨L', k1, k2⟩ := h
  exact ⟨L', ZaH k1, k2⟩
 by_cases c1 : i < m
 ·by_cases c2 : m < e
  ·obtain ⟨L1, k1, k2⟩ := ZvA (L := L) rfl rfl h3 (rfl : (i : Int) = _) (rfl : (m : Int) = _) (rfl : (e : Int) = _) c1 c2 (by omega)
   obtain ⟨p1, p2, p3⟩ := all L1 k2
   by_cases c3 : a < i
   ·obtain ⟨L2, t1, t2, t3⟩ := p1 ⟨c3, by omega⟩
    obtain ⟨w1, w2⟩ := p3 L2 t2 t3
    by_cases c4 : e < b
    ·obtain ⟨L3, v1, v2⟩ := w1 ⟨by omega, c4⟩
     refine ⟨L3, ?_, v2⟩
     unfold Z6
     rw [em, ee]
     exact Za (by omega) (Za (by omega) (Za (by omega) (Za (by omega) (Za (by omega) (Za (by omega) (Za e1 (Za e2 (Za h3 (Za (by omega) (Za (by omega) (Za (by omega) (Za (by omega) (Z2 (by omega) (Za (by omega) (Za (by omega) (Zaf k1 (Za (by omega) (Zaf t1 (Za (by omega) (Zaf v1 rfl))))))))))))))))))))
    ·refine ⟨L2, ?_, w2 (by omega)⟩
     unfold Z6
     rw [em, ee]
     exact Za (by omega) (Za (by omega) (Za (by omega) (Za (by omega) (Za (by omega) (Za (by omega) (Za e1 (Za e2 (Za h3 (Za (by omega) (Za (by omega) (Za (by omega) (Za (by omega) (Z2 (by omega) (Za (by omega) (Za (by omega) (Zaf k1 (Za (by omega) (Zaf t1 (Z2 (by omega) rfl)))))))))))))))))))
   ·obtain ⟨w1, w2⟩ := p3 L1 (Ch.refl _ _ _) (p2 (by omega))
    by_cases c4 : e < b
    ·obtain ⟨L3, v1, v2⟩ := w1 ⟨by omega, c4⟩
     refine ⟨L3, ?_, v2⟩
     unfold Z6
     rw [em, ee]
     exact Za (by omega) (Za (by omega) (Za (by omega) (Za (by omega) (Za (by omega) (Za (by omega) (Za e1 (Za e2 (Za h3 (Za (by omega) (Za (by omega) (Za (by omega) (Za (by omega) (Z2 (by omega) (Za (by omega) (Za (by omega) (Zaf k1 (Z2 (by omega) (Za (by omega) (Zaf v1 rfl)))))))))))))))))))
    ·refine ⟨L1, ?_, w2 (by omega)⟩
     unfold Z6
     rw [em, ee]
     exact Za (by omega) (Za (by omega) (Za (by omega) (Za (by omega) (Za (by omega) (Za (by omega) (Za e1 (Za e2 (Za h3 (Za (by omega) (Za (by omega) (Za (by omega) (Za (by omega) (Z2 (by omega) (Za (by omega) (Za (by omega) (Zaf k1 (Z2 (by omega) (Z2 (by omega) rfl))))))))))))))))))
  ·obtain ⟨p1, p2, p3⟩ := all L (Zro (.inr (by omega)) (by omega) (by omega))
   obtain ⟨w1, w2⟩ := p3 L (Ch.refl _ _ _) (p2 (by omega))
   by_cases c3 : a < i
   ·by_cases c4 : e < b
    ·by_cases c5 : mid < e
     ·obtain ⟨L3, v1, v2⟩ := w1 ⟨c5, c4⟩
      refine ⟨L3, ?_, v2⟩
      unfold Z6
      rw [em, ee]
      exact Za (by omega) (Za (by omega) (Za (by omega) (Za (by omega) (Za (by omega) (Za (by omega) (Za e1 (Za e2 (Za h3 (Za (by omega) (Za (by omega) (Za (by omega) (Za (by omega) (Z2 (by omega) (Za (by omega) (Z2 (by omega) (Za (by omega) (Za (by omega) (Zaf v1 rfl))))))))))))))))))
     ·omega
    ·refine ⟨L, ?_, w2 (by omega)⟩
     unfold Z6
     rw [em, ee]
     exact Za (by omega) (Za (by omega) (Za (by omega) (Za (by omega) (Za (by omega) (Za (by omega) (Za e1 (Za e2 (Za h3 (Za (by omega) (Za (by omega) (Za (by omega) (Za (by omega) (Z2 (by omega) (Za (by omega) (Z2 (by omega) (Za (by omega) (Z2 (by omega) rfl)))))))))))))))))
   ·omega
 ·obtain ⟨p1, p2, p3⟩ := all L (Zro (.inl (by omega)) (by omega) (by omega))
  by_cases c3 : a < i
  ·by_cases c4 : i < mid
   ·obtain ⟨L2, t1, t2, t3⟩ := p1 ⟨c3, c4⟩
    obtain ⟨w1, w2⟩ := p3 L2 t2 t3
    refine ⟨L2, ?_, w2 (by omega)⟩
    unfold Z6
    rw [em, ee]
    exact Za (by omega) (Za (by omega) (Za (by omega) (Za (by omega) (Za (by omega) (Za (by omega) (Za e1 (Za e2 (Za h3 (Za (by omega) (Za (by omega) (Za (by omega) (Za (by omega) (Z2 (by omega) (Z2 (by omega) (Za (by omega) (Za (by omega) (Zaf t1 rfl)))))))))))))))))
   ·obtain ⟨w1, w2⟩ := p3 L (Ch.refl _ _ _) (p2 (by omega))
    refine ⟨L, ?_, w2 (by omega)⟩
    unfold Z6
    rw [em, ee]
    exact Za (by omega) (Za (by omega) (Za (by omega) (Za (by omega) (Za (by omega) (Za (by omega) (Za e1 (Za e2 (Za h3 (Za (by omega) (Za (by omega) (Za (by omega) (Za (by omega) (Z2 (by omega) (Z2 (by omega) (Za (by omega) (Z2 (by omega) rfl))))))))))))))))
  ·omega
theorem ZtJ {L : List R_ii} {n1 n2 : Nat} {rec : List R_ii → Nat → Nat → Int → Int → Int → Option Zf} {a m b mid : Nat} (e1 : n1 = L.length) (e2 : n2 = L.length) (h3 : L.length ≤ 1000) (ham : a < m) (hmb : m < b) (hb : b ≤ L.length) (hmid : mid = (a + b) / 2) (hR : Rec (b - a) rec) (hU1 : Srt.Up z ky a m L) (hU2 : Srt.Up z ky m b L) : ∀ (s i j : Nat) (f : Nat), j ≤ i + s → i ≤ j → ((mid < m ∧ mid + m ≤ i + b ∧ j ≤ mid) ∨ (m ≤ mid ∧ a ≤ i ∧ j ≤ m)) →
  (∀ c, a ≤ c → mid + m ≤ c + b → c < i → ky (L.getD c z) ≤ ky (L.getD (mid + m - 1 - c) z)) → (∀ c, j ≤ c → c < m → c < mid → ky (L.getD (mid + m - 1 - c) z) ≤ ky (L.getD c z)) → s + 2 < f → ∃ L', Zbq (ZF rec L n1 n2 a m b 100000) f (.h3m0 i j) = some (.r0 L') ∧ Ch z a b L L' ∧ Srt.Up z ky a b L' := by
 have em : ((a : Int) + (b : Int)) / 2 = (mid : Int) := by omega
 intro s
 induction s with
 | zero => intro i j f hs hij hr q1 q2 hf; exact fin e1 e2 h3 ham hmb hb hmid hR hU1 hU2 i j f (by omega) (by omega) q1 q2 (by omega)
 | succ s ih =>
  intro i j f hs hij hr q1 q2 hf
  by_cases c : i < j
  ·obtain ⟨f, rfl⟩ : ∃ k, f = k + 1 := ⟨f - 1, by omega⟩
   have eh : ((i : Int) + (j : Int)) / 2 = (((i + j) / 2 : Nat) : Int) := by omega
   have ep : (mid : Int) + (m : Int) - 1 - (((i + j) / 2 : Nat) : Int) = ((mid + m - 1 - (i + j) / 2 : Nat) : Int) := by omega
   by_cases c2 : ky (L.getD (mid + m - 1 - (i + j) / 2) z) < ky (L.getD ((i + j) / 2) z)
   ·obtain ⟨L', r1, r2⟩ := ih i ((i + j) / 2) f (by omega) (by omega) (by omega) q1 (fun h h1 h2 h3 => Int.le_trans (hU2.le (show m ≤ mid + m - 1 - h by omega) (show mid + m - 1 - h ≤ mid + m - 1 - (i + j) / 2 by omega) (by omega)) (Int.le_trans (Int.le_of_lt c2) (hU1.le (by omega) h1 h2))) (by omega)
    refine ⟨L', (ZL (y := .h3m0 i (((i + j) / 2 : Nat) : Int)) ?_).trans r1, r2⟩
    show Z6 rec L n1 n2 a m b 100000 i j = _
    unfold Z6
    rw [em, eh, ep, Int.toNat_natCast, Int.toNat_natCast]
    exact Za (by omega) (Za (by omega) (Za (by omega) (Za (by omega) (Za (by omega) (Za (by omega) (Za e1 (Za e2 (Za h3 (Za (by omega) (Za (by omega) (Za (by omega) (Za (by omega) (Za (by omega) (Za (by omega) (Za (by omega) (Za (by omega) (Za c2 (rfl))))))))))))))))))
   ·obtain ⟨L', r1, r2⟩ := ih ((i + j) / 2 + 1) j f (by omega) (by omega) (by omega) (fun h h1 h2 h3 => Int.le_trans (hU1.le h1 (show h ≤ (i + j) / 2 by omega) (by omega)) (Int.le_trans (Int.not_lt.1 c2) (hU2.le (show m ≤ mid + m - 1 - (i + j) / 2 by omega) (by omega) (by omega)))) q2 (by omega)
    refine ⟨L', (ZL (y := .h3m0 (((i + j) / 2 + 1 : Nat) : Int) j) ?_).trans r1, r2⟩
    show Z6 rec L n1 n2 a m b 100000 i j = _
    unfold Z6
    rw [em, eh, ep, Int.toNat_natCast, Int.toNat_natCast]
    exact Za (by omega) (Za (by omega) (Za (by omega) (Za (by omega) (Za (by omega) (Za (by omega) (Za e1 (Za e2 (Za h3 (Za (by omega) (Za (by omega) (Za (by omega) (Za (by omega) (Za (by omega) (Za (by omega) (Za (by omega) (Za (by omega) (Z2 c2 rfl)))))))))))))))))
  ·exact fin e1 e2 h3 ham hmb hb hmid hR hU1 hU2 i j f (by omega) (by omega) q1 q2 (by omega)
theorem ZuD (n : Nat) : Rec n (Z4 100000 n) := by
 induction n with
 | zero => intro L n1 n2 x y w a m b e1 e2 h3 hx hy hw ham hmb hb hn; omega
 | succ n ih =>
  intro L n1 n2 x y w a m b e1 e2 h3 hx hy hw ham hmb hb hn hU1 hU2
  subst hx hy hw
  have hR : Rec (b - a) (Z4 100000 n) := fun L n1 n2 x y w a' m' b' q1 q2 q3 q4 q5 q6 q7 q8 q9 q10 => ih L n1 n2 x y w a' m' b' q1 q2 q3 q4 q5 q6 q7 q8 q9 (by omega)
  have em : ((a : Int) + (b : Int)) / 2 = (((a + b) / 2 : Nat) : Int) := by omega
  by_cases c1 : m = a + 1
  ·obtain ⟨L', r1, r2⟩ := ZuC (rec := Z4 100000 n) e1 e2 h3 c1 hmb hb hU2 1000 m b 100000 (by omega) (Nat.le_refl _) (by omega) (Nat.le_refl _) (fun h h1 h2 => by omega) (fun h h1 h2 => by omega) (by omega)
   refine ⟨L', (ZeA (x := .h1m0 m b) ?_).trans r1, r2⟩
   unfold ZaJ
   exact Za (by omega) (Za (by omega) (Za (by omega) (Za (by omega) (Za (by omega) (Za (by omega) (Za e1 (Za e2 (Za h3 (Za (by omega) (rfl))))))))))
  ·by_cases c2 : b = m + 1
   ·obtain ⟨L', r1, r2⟩ := ZtI (rec := Z4 100000 n) e1 e2 h3 ham c2 hb hU1 1000 a m 100000 (by omega) (Nat.le_refl _) (by omega) (Nat.le_refl _) (fun h h1 h2 => by omega) (fun h h1 h2 => by omega) (by omega)
    refine ⟨L', (ZeA (x := .h2m0 a m) ?_).trans r1, r2⟩
    unfold ZaJ
    exact Za (by omega) (Za (by omega) (Za (by omega) (Za (by omega) (Za (by omega) (Za (by omega) (Za e1 (Za e2 (Za h3 (Z2 (by omega) (Za (by omega) rfl))))))))))
   ·by_cases c3 : (a + b) / 2 < m
    ·obtain ⟨L', r1, r2⟩ := ZtJ (rec := Z4 100000 n) e1 e2 h3 ham hmb hb rfl hR hU1 hU2 1000 ((a + b) / 2 + m - b) ((a + b) / 2) 100000 (by omega) (by omega) (by omega) (fun c h1 h2 h3 => by omega) (fun c h1 h2 h3 => by omega) (by omega)
     refine ⟨L', (ZeA (x := .h3m0 (((a + b) / 2 + m - b : Nat) : Int) (((a + b) / 2 : Nat) : Int)) ?_).trans r1, r2⟩
     unfold ZaJ
     rw [em, show (((a + b) / 2 : Nat) : Int) + (m : Int) - (b : Int) = (((a + b) / 2 + m - b : Nat) : Int) from by omega]
     exact Za (by omega) (Za (by omega) (Za (by omega) (Za (by omega) (Za (by omega) (Za (by omega) (Za e1 (Za e2 (Za h3 (Z2 (by omega) (Z2 (by omega) (Za (by omega) rfl)))))))))))
    ·obtain ⟨L', r1, r2⟩ := ZtJ (rec := Z4 100000 n) e1 e2 h3 ham hmb hb rfl hR hU1 hU2 1000 a m 100000 (by omega) (by omega) (by omega) (fun c h1 h2 h3 => by omega) (fun c h1 h2 h3 => by omega) (by omega)
     refine ⟨L', (ZeA (x := .h3m0 a m) ?_).trans r1, r2⟩
     unfold ZaJ
     rw [em]
     exact Za (by omega) (Za (by omega) (Za (by omega) (Za (by omega) (Za (by omega) (Za (by omega) (Za e1 (Za e2 (Za h3 (Z2 (by omega) (Z2 (by omega) (Z2 (by omega) rfl)))))))))))
theorem Zvn {L V : List R_ii} {n1 : Nat} {x y w : Int} {m b : Nat} (e1 : n1 = V.length) (h3 : V.length ≤ 1000) (hx : x = ((0 : Nat) : Int)) (hy : y = (m : Int)) (hw : w = (b : Int)) (hm : 0 < m) (hmb : m < b) (hb : b ≤ V.length) (hC : Ch z 0 b L V) (hU1 : Srt.Up z ky 0 m V) (hU2 : Srt.Up z ky m b V) : ∃ L', ZaP V n1 n1 x y w 100000 = some (.r0 L') ∧ Ch z 0 b L L' ∧ Srt.Up z ky 0 b L' := by
 obtain ⟨L', r1, r2, r3⟩ := ZuD 100000 V n1 n1 x y w 0 m b e1 e1 h3 hx hy hw hm hmb hb (by omega) hU1 hU2
 exact ⟨L', r1, hC.trans r2, r3⟩
theorem ZtK {L : List R_ii} {n : Nat} (hn : n = L.length) (h3 : n ≤ 40) : ∃ L', ZbD L L.length L.length (L.length : Int) 100000 = some (.r0 L') ∧ Ch z 0 n L L' ∧ Srt.Up z ky 0 n L' := by
 have G : ∀ {V : List R_ii}, Ch z 0 n L V → V.length = L.length := fun h => h.len
 suffices h : ∃ L', Zbq (ZO L L.length L.length (L.length : Int) 100000) 100000 .h1m0 = some (.r0 L') ∧ Ch z 0 n L L' ∧ Srt.Up z ky 0 n L' by
  obtain ⟨L', k1, k2⟩ := h
  refine ⟨L', ?_, k2⟩
  unfold ZbD
  refine (ZeA (x := .h1m0) ?_).trans k1
  unfold ZbZ
  exact Za (by omega) (Za (by omega) (Za rfl (Za rfl (Za (by omega) (rfl)))))
 have E2 : ∀ (V : List R_ii) (v : Int) (f : Nat), Ch z 0 n L V → 0 ≤ v → v ≤ 2000 → (n : Int) ≤ v → 0 < f → Zbq (ZO L L.length L.length (L.length : Int) 100000) f (.h2m0 V L.length v) = some (.r0 V) := by
  intro V v f hV h0 h1 h2 hf
  obtain ⟨f, rfl⟩ : ∃ k, f = k + 1 := ⟨f - 1, by omega⟩
  refine ZaH ?_
  show Za7 L L.length L.length (L.length : Int) 100000 V L.length v = _
  unfold Za7
  exact Za (by omega) (Za (by omega) (Za rfl (Za rfl (Za (by omega) (Za (G hV) (Za h0 (Za h1 (Z2 (by omega) rfl))))))))
 have E1 : ∀ (V : List R_ii) (f : Nat), 20 < n → Ch z 0 n L V → Srt.Up z ky 0 20 V → Srt.Up z ky 20 n V → 10 < f → ∃ L', Zbq (ZO L L.length L.length (L.length : Int) 100000) f (.h2m0 V L.length 20) = some (.r0 L') ∧ Ch z 0 n L L' ∧ Srt.Up z ky 0 n L' := by
  intro V f hn20 hV u1 u2 hf
  obtain ⟨f, rfl⟩ : ∃ k, f = k + 1 + 1 + 1 := ⟨f - 3, by omega⟩
  obtain ⟨L', r1, r2, r3⟩ := Zvn (L := L) (V := V) (n1 := L.length) (x := 0) (y := 0 + 20) (w := (L.length : Int)) (m := 20) (b := n) (G hV).symm (by have := G hV; omega) rfl rfl (by omega) (by omega) hn20 (by have := G hV; omega) hV u1 u2
  have s1 : Za7 L L.length L.length (L.length : Int) 100000 V L.length 20 = some (.inl (.h3m1 V L.length 20 0 40)) := by
   unfold Za7
   exact Za (by omega) (Za (by omega) (Za rfl (Za rfl (Za (by omega) (Za (G hV) (Za (by omega) (Za (by omega) (Za (by omega) (rfl)))))))))
  by_cases c : n = 40
  ·refine ⟨L', (ZL (y := .h3m1 V L.length 20 0 40) s1).trans ((ZL (y := .h3m1 L' L.length 20 40 80) ?_).trans ((ZL (y := .h2m0 L' L.length 40) ?_).trans (E2 L' 40 f r2 (by omega) (by omega) (by omega) (by omega)))), r2, r3⟩
   ·show Zap L L.length L.length (L.length : Int) 100000 V L.length 20 0 40 = _
    unfold Zap
    exact Za (by omega) (Za (by omega) (Za rfl (Za rfl (Za (by omega) (Za (G hV) (Za (by omega) (Za (by omega) (Za (by omega) (Za (by omega) (Za (by omega) (Za (by omega) (Za (by omega) (Zaf (show _ = _ from by have q : (L.length : Int) = 40 := (by omega); rw [q] at r1; exact r1) rfl)))))))))))))
   ·show Zap L L.length L.length (L.length : Int) 100000 L' L.length 20 40 80 = _
    unfold Zap
    exact Za (by omega) (Za (by omega) (Za rfl (Za rfl (Za (by omega) (Za (G r2) (Za (by omega) (Za (by omega) (Za (by omega) (Za (by omega) (Za (by omega) (Za (by omega) (Z2 (by omega) (Z2 (by omega) rfl)))))))))))))
  ·refine ⟨L', (ZL (y := .h3m1 V L.length 20 0 40) s1).trans ((ZL (y := .h2m0 L' L.length 40) ?_).trans (E2 L' 40 (f + 1) r2 (by omega) (by omega) (by omega) (by omega))), r2, r3⟩
   show Zap L L.length L.length (L.length : Int) 100000 V L.length 20 0 40 = _
   unfold Zap
   exact Za (by omega) (Za (by omega) (Za rfl (Za rfl (Za (by omega) (Za (G hV) (Za (by omega) (Za (by omega) (Za (by omega) (Za (by omega) (Za (by omega) (Za (by omega) (Z2 (by omega) (Za (by omega) (Zaf r1 rfl))))))))))))))
 by_cases c1 : n < 20
 ·obtain ⟨V, r1, r2, r3⟩ := ZmQ (L := L) (n1 := L.length) (n2 := L.length) (x := 0) (y := (L.length : Int)) (a := 0) (b := n) rfl rfl (by omega) rfl (by omega) (by omega) (by omega)
  refine ⟨V, (ZL (n := 99999) (y := .h2m0 V L.length 20) ?_).trans (E2 V 20 99999 r2 (by omega) (by omega) (by omega) (by omega)), r2, r3⟩
  show Za6 L L.length L.length (L.length : Int) 100000 = _
  unfold Za6
  exact Za (by omega) (Za (by omega) (Za rfl (Za rfl (Za (by omega) (Z2 (by omega) (Zaf r1 rfl))))))
 ·obtain ⟨V, r1, r2, r3⟩ := ZmQ (L := L) (n1 := L.length) (n2 := L.length) (x := 0) (y := 20) (a := 0) (b := 20) rfl rfl (by omega) rfl rfl (by omega) (by omega)
  have s1 : Za6 L L.length L.length (L.length : Int) 100000 = some (.inl (.h1m1 V 20 40)) := by
   unfold Za6
   exact Za (by omega) (Za (by omega) (Za rfl (Za rfl (Za (by omega) (Za (by omega) (Zaf r1 rfl))))))
  have lV := r2.len
  by_cases c2 : n = 40
  ·obtain ⟨V2, t1, t2, t3⟩ := ZmQ (L := V) (n1 := L.length) (n2 := L.length) (x := ((20 : Nat) : Int)) (y := ((40 : Nat) : Int)) (a := 20) (b := 40) lV.symm lV.symm (by omega) rfl rfl (by omega) (by omega)
   have lV2 := t2.len
   obtain ⟨V3, w1, w2, w3⟩ := ZmQ (L := V2) (n1 := L.length) (n2 := L.length) (x := ((40 : Nat) : Int)) (y := (L.length : Int)) (a := 40) (b := 40) (by omega) (by omega) (by omega) rfl (by omega) (by omega) (by omega)
   have cc : Ch z 0 n L V3 := ((r2.wide (Nat.le_refl _) (by omega)).trans (t2.wide (by omega) (by omega))).trans (w2.wide (by omega) (by omega))
   obtain ⟨L', z1, z2⟩ := E1 V3 99997 (by omega) cc ((r3.same fun i h1 h2 => t2.frame i (by omega)).same fun i h1 h2 => w2.frame i (by omega)) (c2 ▸ t3.same fun i h1 h2 => w2.frame i (by omega)) (by omega)
   refine ⟨L', (ZL (n := 99999) (y := .h1m1 V 20 40) s1).trans ((ZL (n := 99998) (y := .h1m1 V2 40 60) ?_).trans ((ZL (n := 99997) (y := .h2m0 V3 L.length 20) ?_).trans z1)), z2⟩
   ·show Zao L L.length L.length (L.length : Int) 100000 V 20 40 = _
    unfold Zao
    exact Za (by omega) (Za (by omega) (Za rfl (Za rfl (Za (by omega) (Za lV (Za (by omega) (Zaf t1 rfl)))))))
   ·show Zao L L.length L.length (L.length : Int) 100000 V2 40 60 = _
    unfold Zao
    exact Za (by omega) (Za (by omega) (Za rfl (Za rfl (Za (by omega) (Za (lV2.trans lV) (Z2 (by omega) (Zaf w1 rfl)))))))
  ·obtain ⟨V2, t1, t2, t3⟩ := ZmQ (L := V) (n1 := L.length) (n2 := L.length) (x := ((20 : Nat) : Int)) (y := (L.length : Int)) (a := 20) (b := n) lV.symm lV.symm (by omega) rfl (by omega) (by omega) (by omega)
   have cc : Ch z 0 n L V2 := (r2.wide (Nat.le_refl _) (by omega)).trans (t2.wide (by omega) (Nat.le_refl _))
   have u1 : Srt.Up z ky 0 20 V2 := r3.same fun i h1 h2 => t2.frame i (by omega)
   have s2 : Zao L L.length L.length (L.length : Int) 100000 V 20 40 = some (.inl (.h2m0 V2 L.length 20)) := by
    unfold Zao
    exact Za (by omega) (Za (by omega) (Za rfl (Za rfl (Za (by omega) (Za lV (Z2 (by omega) (Zaf t1 rfl)))))))
   by_cases c3 : n = 20
   ·exact ⟨V2, (ZL (n := 99999) (y := .h1m1 V 20 40) s1).trans ((ZL (n := 99998) (y := .h2m0 V2 L.length 20) s2).trans (E2 V2 20 99998 cc (by omega) (by omega) (by omega) (by omega))), cc, c3 ▸ u1⟩
   ·obtain ⟨L', z1, z2⟩ := E1 V2 99998 (by omega) cc u1 t3 (by omega)
    exact ⟨L', (ZL (n := 99999) (y := .h1m1 V 20 40) s1).trans ((ZL (n := 99998) (y := .h2m0 V2 L.length 20) s2).trans z1), z2⟩
theorem sort_at {L : List R_ii} (h : L.length ≤ 40) : ∃ L', ZZ L L.length L.length 100000 = some (.r0 L') ∧ L'.Perm L ∧ Srt.Up z ky 0 L.length L' := by
 obtain ⟨L', r1, r2, r3⟩ := ZtK (L := L) rfl h
 refine ⟨L', ?_, r2.perm, r3⟩
 unfold ZZ
 exact Za rfl (Za rfl (Za (by omega) (Zaf r1 rfl)))
end Hs
end Ev
end Go.Proofs.YtjdojnecmplmnaaGreat
/- HashPairs: the ZcJ along the chains, in ZuJ. -/
namespace Go.Proofs.YtjdojnecmplmnaaGreat
open Go.RowKit
namespace Ev
set_option linter.unusedVariables false
set_option linter.unusedSimpArgs false
namespace Hp
def okE (x : Ob) (b : Nat) : Prop := ¬ x.a5 = 3 ∧ (x.a7.length : Int) = 3 ∧ (x.a7.getD 0 vz).a0 = 2 ∧ (x.a7.getD 1 vz).a0 = 1 ∧ (x.a7.getD 2 vz).a0 = 1 ∧ (x.a7.getD 1 vz).a1 % 8 = (b : Int)
instance (x : Ob) (b : Nat) : Decidable (okE x b) := by unfold okE; infer_instance
def atE (L : List Ob) (A : List RA) (k l : Int) : Ob := L.getD (Zb A k l).toNat oz
def goE (L : List Ob) (A : List RA) (k l : Int) (b : Nat) (P : List R_ii) : Prop := k = 2 ∧ Zd3 A k l = true ∧ okE (atE L A k l) b ∧ P.length < L.length
instance (L : List Ob) (A : List RA) (k l : Int) (b : Nat) (P : List R_ii) : Decidable (goE L A k l b P) := by unfold goE; infer_instance
def pr (x : Ob) : R_ii := ⟨(x.a7.getD 1 vz).a1, (x.a7.getD 2 vz).a1⟩
def ZcJ (L : List Ob) (A : List RA) (F : List R_ii) : Nat → Nat → Int → Int → List R_ii → Option (List R_ii)
 | 0, _, _, _, _ => none
 | f + 1, b, k, l, P =>
  if k = 2 ∧ l = 0 then
   if b + 1 < 8 then ZcJ L A F f (b + 1) (F.getD (b + 1) vz).a0 (F.getD (b + 1) vz).a1 P else some P
  else
  if goE L A k l b P then ZcJ L A F f b ((atE L A k l).a7.getD 0 vz).a0 ((atE L A k l).a7.getD 0 vz).a1 (P ++ [pr (atE L A k l)]) else none
theorem Zoe {L : List Ob} {A : List RA} {F : List R_ii} : ∀ f b k l P P', ZcJ L A F f b k l P = some P' → ∃ Q, P' = P ++ Q
 | 0, _, _, _, _, _, h => by cases h
 | f + 1, b, k, l, P, P', h => by
  unfold ZcJ at h
  by_cases h1 : k = 2 ∧ l = 0
  ·rw [if_pos h1] at h
   by_cases h2 : b + 1 < 8
   ·rw [if_pos h2] at h; exact Zoe f _ _ _ _ _ h
   ·rw [if_neg h2] at h; exact ⟨[], by rw [← Option.some.inj h, List.append_nil]⟩
  ·rw [if_neg h1] at h
   by_cases h2 : goE L A k l b P
   ·rw [if_pos h2] at h
    obtain ⟨Q, q⟩ := Zoe f _ _ _ _ _ h
    exact ⟨pr (atE L A k l) :: Q, by rw [q, List.append_assoc]; rfl⟩
   ·rw [if_neg h2] at h; cases h
def adj : List R_ii → Bool
 | x :: y :: t => decide (y.a0 = x.a0) || adj (y :: t)
 | _ => false
theorem Zlf {S : List R_ii} {i : Nat} (h : i < S.length) : S.drop i = S.getD i vz :: S.drop (i + 1) := by
 rw [List.drop_eq_getElem_cons h]
 simp [List.getD, h]
def srt (P : List R_ii) : List R_ii := match ZZ P P.length P.length 100000 with | some (.r0 S) => S | none => []
theorem ZtL {P : List R_ii} (h : P.length ≤ 40) : ZZ P P.length P.length 100000 = some (.r0 (srt P)) ∧ (srt P).Perm P ∧ Srt.Up vz R_ii.a0 0 P.length (srt P) := by
 obtain ⟨S, r1, r2, r3⟩ := Hs.sort_at h
 have e : srt P = S := by unfold srt; rw [r1]
 exact ⟨by rw [e]; exact r1, by rw [e]; exact r2, by rw [e]; exact r3⟩
def finP : Option (List R_ii) → hash_Pairs_2R
 | none => .r0 false
 | some [] => .r0 true
 | some (p :: Q) => if adj (srt (p :: Q)) = true then .r0 false else .r1 (srt (p :: Q)) (p :: Q).length
def stP (A : List RA) (F : List R_ii) (P : List R_ii) (b : Nat) (k l : Int) : Zu := match P with
 | [] => .h3m0 A b F F.length b k l
 | p :: Q => .h3m1 A (p :: Q) b F F.length b k l
def stQ (A : List RA) (F : List R_ii) (P : List R_ii) (v : Nat) : Zu := match P with
 | [] => .h2m0 A F F.length v
 | p :: Q => .h2m1 A (p :: Q) F F.length v
section
variable {L : List Ob} {A : List RA} {F : List R_ii}
theorem ZuE {S : List R_ii} (hS : S.length ≤ 40) : ∀ d i, i + d = S.length → 1 ≤ i → ∃ c, c ≤ d + 1 ∧ Zbq (Zaw L 100000) c (.h4m1 S S.length i) = some (if adj (S.drop (i - 1)) = true then .r0 false else .r1 S S.length) := by
 intro d
 induction d with
 | zero =>
  intro i hi h1
  refine ⟨1, by omega, ZaH ?_⟩
  have e : adj (S.drop (i - 1)) = false := by
   rw [Zlf (by omega), List.drop_of_length_le (by omega)]; rfl
  rw [e]
  show ZbU L 100000 S S.length i = _
  unfold ZbU
  exact Z2 (by omega) rfl
 | succ d ih =>
  intro i hi h1
  have e : S.drop (i - 1) = S.getD (i - 1) vz :: S.getD i vz :: S.drop (i + 1) := by
   rw [Zlf (by omega), show i - 1 + 1 = i from by omega, Zlf (by omega)]
  have ei : ((i : Int) - 1).toNat = i - 1 := by omega
  by_cases h : (S.getD i vz).a0 = (S.getD (i - 1) vz).a0
  ·refine ⟨1, by omega, ZaH ?_⟩
   rw [e, show adj (S.getD (i - 1) vz :: S.getD i vz :: S.drop (i + 1)) = true from by unfold adj; rw [decide_eq_true h]; rfl]
   show ZbU L 100000 S S.length i = _
   unfold ZbU
   rw [ei]
   exact Za (by omega) (Za (by omega) (Za (by omega) (Za (by omega) (Za h rfl))))
  ·obtain ⟨c, c1, c2⟩ := ih (i + 1) (by omega) (by omega)
   refine ⟨c + 1, by omega, (ZL (y := .h4m1 S S.length (i + 1)) ?_).trans (c2.trans ?_)⟩
   ·show ZbU L 100000 S S.length i = _
    unfold ZbU
    rw [ei]
    exact Za (by omega) (Za (by omega) (Za (by omega) (Za (by omega) (Z2 h (Za (by omega) rfl)))))
   ·rw [e, show i + 1 - 1 = i from by omega, Zlf (show i < S.length by omega), show adj (S.getD (i - 1) vz :: S.getD i vz :: S.drop (i + 1)) = adj (S.getD i vz :: S.drop (i + 1)) from by rw [adj, decide_eq_false h, Bool.false_or]]
theorem ZuF (hL : L.length ≤ 40) (P : List R_ii) (hP : P.length ≤ L.length) (v : Nat) (hv : ¬ v < F.length) : ∃ c, c ≤ 60 ∧ Zbq (Zaw L 100000) c (stQ A F P v) = some (finP (some P)) := by
 cases P with
 | nil =>
  refine ⟨2, by omega, (ZL (y := .h4m0) ?_).trans (ZaH rfl)⟩
  show ZbT L 100000 A F F.length v = _
  unfold ZbT
  exact Z2 (by omega) (Zaf (show ZaC 100000 = some .r0 from rfl) rfl)
 | cons p Q =>
  have hl : (p :: Q).length ≤ 40 := by omega
  obtain ⟨r1, r2, r3⟩ := ZtL hl
  have hs : (srt (p :: Q)).length = (p :: Q).length := r2.length_eq
  obtain ⟨c, c1, c2⟩ := ZuE (L := L) (S := srt (p :: Q)) (by omega) ((srt (p :: Q)).length - 1) 1 (by rw [hs]; simp; omega) (Nat.le_refl _)
  refine ⟨c + 1, by omega, (ZL (y := .h4m1 (srt (p :: Q)) (srt (p :: Q)).length 1) ?_).trans (c2.trans ?_)⟩
  ·show ZcI L 100000 A (p :: Q) F F.length v = _
   unfold ZcI
   rw [hs]
   exact Z2 (by omega) (Zaf r1 rfl)
  ·rw [show 1 - 1 = 0 from rfl, List.drop_zero, hs]; rfl
theorem ZtM (hL : 1 ≤ L.length ∧ L.length ≤ 40) (hA : MI L 0 A) {k l : Int} {b : Nat} {P : List R_ii} (hb : b < 8) (h : goE L A k l b P) (hl : ¬ (k = 2 ∧ l = 0)) : Zaw L 100000 (stP A F P b k l) = some (.inl (stP A F (P ++ [pr (atE L A k l)]) b ((atE L A k l).a7.getD 0 vz).a0 ((atE L A k l).a7.getD 0 vz).a1)) := by
 obtain ⟨g1, g2, ⟨g3, g4, g5, g6, g7, g8⟩, g9⟩ := h
 have hl' : ¬ l = 0 := fun e => hl ⟨g1, e⟩
 have hj : 0 ≤ Zb A k l ∧ (Zb A k l).toNat < L.length := by
  rcases ZoB hA (by omega) k l with ⟨j, j1, j2, j3, _⟩ | ⟨j1, _⟩
  ·rw [j3]; exact ⟨by omega, by simpa using j1⟩
  ·exact absurd g2 j1
 cases P with
 | nil =>
  show ZaY L 100000 A b F F.length b k l = _
  unfold ZaY
  exact Z2 (fun q => q g1) (Za hl' (Za g2 (Za hj.1 (Za hj.2 (Za g3 (Za g4 (Za g5 (Za g6 (Za g7 (Z2 (fun q => q g8) rfl))))))))))
 | cons p Q =>
  show ZaZ L 100000 A (p :: Q) b F F.length b k l = _
  unfold ZaZ
  exact Z2 (fun q => q g1) (Za hl' (Za g2 (Za hj.1 (Za hj.2 (Za g3 (Za g4 (Za g5 (Za g6 (Za g7 (Z2 (fun q => q g8) (Z2 (by omega) (Za (by omega) rfl))))))))))))
theorem ZtN (hL : 1 ≤ L.length ∧ L.length ≤ 40) (hA : MI L 0 A) {k l : Int} {b : Nat} {P : List R_ii} (hP : P.length ≤ L.length) (h : ¬ goE L A k l b P) (hl : ¬ (k = 2 ∧ l = 0)) : Zaw L 100000 (stP A F P b k l) = some (.inr (.r0 false)) := by
 by_cases g1 : k = 2
 ·have hl' : ¬ l = 0 := fun e => hl ⟨g1, e⟩
  by_cases g2 : Zd3 A k l = true
  ·have hj : 0 ≤ Zb A k l ∧ (Zb A k l).toNat < L.length := by
    rcases ZoB hA (by omega) k l with ⟨j, j1, j2, j3, _⟩ | ⟨j1, _⟩
    ·rw [j3]; exact ⟨by omega, by simpa using j1⟩
    ·exact absurd g2 j1
   cases P with
   | nil =>
    show ZaY L 100000 A b F F.length b k l = _
    unfold ZaY
    refine Z2 (fun q => q g1) (Za hl' (Za g2 (Za hj.1 (Za hj.2 ?_))))
    refine ZbM (fun g3 => ZbM (fun g4 => ZbM (fun g5 => ZbM (fun g6 => ZbM (fun g7 => ZbM (fun g8 => rfl) (fun g8 => ?_)) (fun _ => rfl)) (fun _ => rfl)) (fun _ => rfl)) (fun _ => rfl)) (fun _ => rfl)
    exact absurd ⟨g1, g2, ⟨g3, g4, g5, g6, g7, Decidable.not_not.1 g8⟩, by simp; omega⟩ h
   | cons p Q =>
    show ZaZ L 100000 A (p :: Q) b F F.length b k l = _
    unfold ZaZ
    refine Z2 (fun q => q g1) (Za hl' (Za g2 (Za hj.1 (Za hj.2 ?_))))
    refine ZbM (fun g3 => ZbM (fun g4 => ZbM (fun g5 => ZbM (fun g6 => ZbM (fun g7 => ZbM (fun g8 => rfl) (fun g8 => ZbM (fun g9 => rfl) (fun g9 => ?_))) (fun _ => rfl)) (fun _ => rfl)) (fun _ => rfl)) (fun _ => rfl)) (fun _ => rfl)
    exact absurd ⟨g1, g2, ⟨g3, g4, g5, g6, g7, Decidable.not_not.1 g8⟩, by omega⟩ h
  ·cases P with
   | nil =>
    show ZaY L 100000 A b F F.length b k l = _
    unfold ZaY
    exact Z2 (fun q => q g1) (Za hl' (Z2 g2 rfl))
   | cons p Q =>
    show ZaZ L 100000 A (p :: Q) b F F.length b k l = _
    unfold ZaZ
    exact Z2 (fun q => q g1) (Za hl' (Z2 g2 rfl))
 ·cases P with
  | nil =>
   show ZaY L 100000 A b F F.length b k l = _
   unfold ZaY
   exact Za g1 rfl
  | cons p Q =>
   show ZaZ L 100000 A (p :: Q) b F F.length b k l = _
   unfold ZaZ
   exact Za g1 rfl
theorem ZnD {k l : Int} {b : Nat} {P : List R_ii} (hb : b < 8) (hl : k = 2 ∧ l = 0) : Zaw L 100000 (stP A F P b k l) = some (.inl (stQ A F P (b + 1))) := by
 cases P with
 | nil =>
  show ZaY L 100000 A b F F.length b k l = _
  unfold ZaY
  exact Z2 (fun q => q hl.1) (Z2 (fun q => q hl.2) (Za (by omega) rfl))
 | cons p Q =>
  show ZaZ L 100000 A (p :: Q) b F F.length b k l = _
  unfold ZaZ
  exact Z2 (fun q => q hl.1) (Z2 (fun q => q hl.2) (Za (by omega) rfl))
theorem ZtO (hL : 1 ≤ L.length ∧ L.length ≤ 40) (hF : F.length = 8) (hA : MI L 0 A) : ∀ f b k l P, b < 8 → P.length ≤ L.length → (7 - b) + (L.length - P.length) < f → ∃ c, c ≤ 3 * f + 100 ∧ Zbq (Zaw L 100000) c (stP A F P b k l) = some (finP (ZcJ L A F f b k l P)) := by
 intro f
 induction f with
 | zero => intro b k l P h1 h2 h3; omega
 | succ f ih =>
  intro b k l P hb hP hf
  by_cases h1 : k = 2 ∧ l = 0
  ·by_cases h2 : b + 1 < 8
   ·obtain ⟨c, c1, c2⟩ := ih (b + 1) (F.getD (b + 1) vz).a0 (F.getD (b + 1) vz).a1 P h2 hP (by omega)
    refine ⟨c + 1 + 1, by omega, ?_⟩
    rw [show ZcJ L A F (f + 1) b k l P = ZcJ L A F f (b + 1) (F.getD (b + 1) vz).a0 (F.getD (b + 1) vz).a1 P from by rw [ZcJ, if_pos h1, if_pos h2]]
    refine (ZL (ZnD hb h1)).trans ((ZL ?_).trans c2)
    cases P with
    | nil =>
     show ZbT L 100000 A F F.length (b + 1) = _
     unfold ZbT
     exact Za (by omega) (Za (by omega) rfl)
    | cons p Q =>
     show ZcI L 100000 A (p :: Q) F F.length (b + 1) = _
     unfold ZcI
     exact Za (by omega) (Za (by omega) rfl)
   ·obtain ⟨c, c1, c2⟩ := ZuF (A := A) (F := F) hL.2 P hP (b + 1) (by omega)
    refine ⟨c + 1, by omega, ?_⟩
    rw [show ZcJ L A F (f + 1) b k l P = some P from by rw [ZcJ, if_pos h1, if_neg h2]]
    exact (ZL (ZnD hb h1)).trans c2
  ·by_cases h2 : goE L A k l b P
   ·have h9 := h2.2.2.2
    obtain ⟨c, c1, c2⟩ := ih b ((atE L A k l).a7.getD 0 vz).a0 ((atE L A k l).a7.getD 0 vz).a1 (P ++ [pr (atE L A k l)]) hb (by simp; omega) (by simp; omega)
    refine ⟨c + 1, by omega, ?_⟩
    rw [show ZcJ L A F (f + 1) b k l P = _ from by rw [ZcJ, if_neg h1, if_pos h2]]
    exact (ZL (ZtM hL hA hb h2 h1)).trans c2
   ·refine ⟨1, by omega, ?_⟩
    rw [show ZcJ L A F (f + 1) b k l P = none from by rw [ZcJ, if_neg h1, if_neg h2]]
    exact ZaH (ZtN hL hA hP h2 h1)
end
end Hp
end Ev
end Go.Proofs.YtjdojnecmplmnaaGreat
/- HashPairs: the document's ZcJ along the chains. -/
namespace Go.Proofs.YtjdojnecmplmnaaGreat
open Go.RowKit
namespace Ev
set_option linter.unusedVariables false
set_option linter.unusedSimpArgs false
namespace Hp
abbrev Lt (l : List R_ii) : Prop := l.Pairwise fun a b => a.a0 < b.a0
theorem Zrr {out : List R_ii} (h : Lt out) {i : Nat} (hi : i ≤ out.length) (p : R_ii) (h1 : ∀ j, j < i → (out.getD j vz).a0 < p.a0) (h2 : ∀ j, i ≤ j → j < out.length → p.a0 < (out.getD j vz).a0) : (out.take i ++ p :: out.drop i).Perm (p :: out) ∧ Lt (out.take i ++ p :: out.drop i) ∧ ∀ x ∈ out, x.a0 ≠ p.a0 := by
 have hT : ∀ x ∈ out.take i, x.a0 < p.a0 := fun x hx => by
  obtain ⟨j, hj, rfl⟩ := List.mem_iff_getElem.1 hx
  have hj' : j < i ∧ j < out.length := by simpa [List.length_take, Nat.lt_min] using hj
  have := h1 j hj'.1
  rw [show out.getD j vz = out[j] from by simp [List.getD, hj'.2]] at this
  simpa using this
 have hD : ∀ x ∈ out.drop i, p.a0 < x.a0 := fun x hx => by
  obtain ⟨j, hj, rfl⟩ := List.mem_iff_getElem.1 hx
  have hj' : i + j < out.length := by simp at hj; omega
  have := h2 (i + j) (by omega) hj'
  rw [show out.getD (i + j) vz = out[i + j] from by simp [List.getD, hj']] at this
  simpa using this
 have e : out.take i ++ out.drop i = out := List.take_append_drop i out
 have h' : Lt (out.take i ++ out.drop i) := by rw [e]; exact h
 obtain ⟨a1, a2, a3⟩ := List.pairwise_append.1 h'
 refine ⟨?_, List.pairwise_append.2 ⟨a1, List.pairwise_cons.2 ⟨hD, a2⟩, fun x hx y hy => ?_⟩, fun x hx => ?_⟩
 ·have := @List.perm_middle _ p (out.take i) (out.drop i)
  rw [e] at this
  exact this
 ·rcases List.mem_cons.1 hy with q | q
  ·subst q; exact hT x hx
  ·exact Int.lt_trans (hT x hx) (hD y q)
 ·rw [← e] at hx
  rcases List.mem_append.1 hx with q | q
  ·have := hT x q; omega
  ·have := hD x q; omega
theorem ZtP {out : List R_ii} (h : Lt out) (hl : out.length ≤ 1000) (a1 a2 : Int) : ∀ d i, i + d = out.length → (∀ j, j < i → (out.getD j vz).a0 < a1) → ∃ c, c ≤ d + 1 ∧ ((Zbq (ZcA out a1 a2 100000) c (.h1m0 i) = some .r0 ∧ ∃ x ∈ out, x.a0 = a1) ∨ ∃ o, Zbq (ZcA out a1 a2 100000) c (.h1m0 i) = some (.r1 o) ∧ o.Perm (⟨a1, a2⟩ :: out) ∧ Lt o ∧ ∀ x ∈ out, x.a0 ≠ a1) := by
 intro d
 induction d with
 | zero =>
  intro i hi h1
  have hh := Zrr h (show i ≤ out.length by omega) ⟨a1, a2⟩ h1 (fun j q1 q2 => by omega)
  refine ⟨1, by omega, .inr ⟨_, ZaH ?_, hh⟩⟩
  show Zbw out a1 a2 100000 i = _
  unfold Zbw
  refine Z2 (by omega) (Za (by omega) ?_)
  rw [List.drop_of_length_le (show out.length ≤ i by omega)]
  by_cases c : i = 0
  ·subst c
   exact Za rfl rfl
  ·exact Z2 (by omega) (Za (by omega) rfl)
 | succ d ih =>
  intro i hi h1
  by_cases c : (out.getD i vz).a0 < a1
  ·obtain ⟨c', k1, k2⟩ := ih (i + 1) (by omega) (fun j hj => by
    by_cases e : j = i
    ·subst e; exact c
    ·exact h1 j (by omega))
   have hs : ZcA out a1 a2 100000 (.h1m0 i) = some (.inl (.h1m0 (i + 1))) := by
    show Zbw out a1 a2 100000 i = _
    unfold Zbw
    exact Za (by omega) (Za c (Za (by omega) rfl))
   refine ⟨c' + 1, by omega, ?_⟩
   rw [ZL hs]
   exact k2
  ·by_cases c2 : (out.getD i vz).a0 = a1
   ·refine ⟨1, by omega, .inl ⟨ZaH ?_, out.getD i vz, ?_, c2⟩⟩
    ·show Zbw out a1 a2 100000 i = _
     unfold Zbw
     exact Za (by omega) (Z2 c (Za c2 rfl))
    ·rw [show out.getD i vz = out[i]'(by omega) from by simp [List.getD, show i < out.length by omega]]
     exact List.getElem_mem _
   ·have hh := Zrr h (show i ≤ out.length by omega) ⟨a1, a2⟩ h1 (fun j q1 q2 => by
     have : (out.getD i vz).a0 ≤ (out.getD j vz).a0 := by
      by_cases e : j = i
      ·subst e; exact Int.le_refl _
      ·have := List.pairwise_iff_getElem.1 h i j (by omega) q2 (by omega)
       rw [show out.getD i vz = out[i]'(by omega) from by simp [List.getD, show i < out.length by omega], show out.getD j vz = out[j] from by simp [List.getD, q2]]
       exact Int.le_of_lt this
     show a1 < _
     omega)
    refine ⟨1, by omega, .inr ⟨_, ZaH ?_, hh⟩⟩
    show Zbw out a1 a2 100000 i = _
    unfold Zbw
    have et : (out.drop i).take (out.length - i) = out.drop i := List.take_of_length_le (by simp)
    refine Za (by omega) (Z2 c (Z2 c2 ?_))
    rw [et]
    by_cases c3 : i = 0
    ·subst c3
     exact Za rfl (Za (by omega) rfl)
    ·refine Z2 (by omega) (Za (by omega) (Za (by omega) (Za (by omega) ?_)))
     rw [Nat.sub_zero, List.append_assoc]
     rfl
theorem Zvo {out : List R_ii} (h : Lt out) (hl : out.length ≤ 1000) (a1 a2 : Int) : (ZdE out a1 a2 100000 = some .r0 ∧ ∃ x ∈ out, x.a0 = a1) ∨ ∃ o, ZdE out a1 a2 100000 = some (.r1 o) ∧ o.Perm (⟨a1, a2⟩ :: out) ∧ Lt o ∧ ∀ x ∈ out, x.a0 ≠ a1 := by
 obtain ⟨c, c1, c2⟩ := ZtP h hl a1 a2 out.length 0 (by omega) (fun j hj => by omega)
 have e : ∀ {r}, Zbq (ZcA out a1 a2 100000) c (.h1m0 0) = some r → ZdE out a1 a2 100000 = some r := fun q => (ZeA rfl).trans (Zf4 (by omega) q)
 rcases c2 with ⟨q1, q2⟩ | ⟨o, q1, q2⟩
 ·exact .inl ⟨e q1, q2⟩
 ·exact .inr ⟨o, e q1, q2⟩
def DR : Option (List R_ii) → Zt → Prop
 | none, r => r = .r0 false
 | some P, r => ((P.map R_ii.a0).Nodup → (P = [] ∧ r = .r0 true) ∨ (P ≠ [] ∧ ∃ o, r = .r1 o ∧ o.Perm P ∧ Lt o)) ∧ (¬ (P.map R_ii.a0).Nodup → r = .r0 false)
def stD (x : Ob) (out : List R_ii) (b : Nat) (k l : Int) : ref31_Pairs_2X := match out with
 | [] => .h2m0 b x.a0 x.a1 x.a2 x.a3 x.a4 x.a5 x.a6 x.a7 k l
 | p :: Q => .h2m1 (p :: Q) (p :: Q).length b x.a0 x.a1 x.a2 x.a3 x.a4 x.a5 x.a6 x.a7 k l
def stE (x : Ob) (out : List R_ii) (b : Nat) : ref31_Pairs_2X := match out with
 | [] => .h1m0 b x.a0 x.a1 x.a2 x.a3 x.a4 x.a5 x.a6 x.a7
 | p :: Q => .h1m1 (p :: Q) (p :: Q).length b x.a0 x.a1 x.a2 x.a3 x.a4 x.a5 x.a6 x.a7
section
variable {L : List Ob} {A : List RA} {F : List R_ii} {x : Ob}
theorem md (k : Int) : (Int.tmod k 8 + 8) % 8 = k % 8 := by
 have h := Int.mul_tdiv_add_tmod k 8
 omega
theorem ZuG (hL : 1 ≤ L.length ∧ L.length ≤ 40) (hA : MI L 0 A) {k l : Int} {b : Nat} {out : List R_ii} (hP : out.length ≤ L.length) (h : ¬ goE L A k l b out) (hl : ¬ (k = 2 ∧ l = 0)) : ZaL L 100000 (stD x out b k l) = some (.inr (.r0 false)) := by
 rcases ZoB hA (show L.length ≤ 1000 by omega) k l with ⟨j, j1, j2, j3, j4⟩ | ⟨j1, j4⟩
 ·have ej : L.getD j oz = atE L A k l := by unfold atE; rw [j3]; rfl
  have hh : ¬ (k = 2 ∧ okE (L.getD j oz) b ∧ out.length < L.length) := fun q => h ⟨q.1, j2, ej ▸ q.2.1, q.2.2⟩
  cases out with
  | nil =>
   show Zbn L 100000 b x.a0 x.a1 x.a2 x.a3 x.a4 x.a5 x.a6 x.a7 k l = _
   unfold Zbn
   refine Za hl (Zaf j4 ?_)
   refine ZbM (fun _ => rfl) (fun c0 => ZbM (fun _ => rfl) (fun c1 => ZbM (fun _ => rfl) (fun c2 => ZbM (fun _ => rfl) (fun c3 => ZbM (fun _ => rfl) (fun c4 => ZbM (fun _ => rfl) (fun c5 => ZbM (fun _ => rfl) (fun c6 => ZbM (fun _ => rfl) (fun c7 => ?_))))))))
   refine absurd ⟨Decidable.not_not.1 c1, ⟨c2, Decidable.not_not.1 c3, Decidable.not_not.1 c4, Decidable.not_not.1 c5, Decidable.not_not.1 c6, ?_⟩, by simp; omega⟩ hh
   have := Decidable.not_not.1 c7
   rw [md] at this
   exact this
  | cons p Q =>
   show Zbo L 100000 (p :: Q) (p :: Q).length b x.a0 x.a1 x.a2 x.a3 x.a4 x.a5 x.a6 x.a7 k l = _
   unfold Zbo
   refine Za hl (Zaf j4 (Za (by omega) ?_))
   refine ZbM (fun _ => rfl) (fun c0 => ZbM (fun _ => rfl) (fun c1 => ZbM (fun _ => rfl) (fun c2 => ZbM (fun _ => rfl) (fun c3 => ZbM (fun _ => rfl) (fun c4 => ZbM (fun _ => rfl) (fun c5 => ZbM (fun _ => rfl) (fun c6 => ZbM (fun _ => rfl) (fun c7 => ?_))))))))
   refine absurd ⟨Decidable.not_not.1 c1, ⟨c2, Decidable.not_not.1 c3, Decidable.not_not.1 c4, Decidable.not_not.1 c5, Decidable.not_not.1 c6, ?_⟩, by omega⟩ hh
   have := Decidable.not_not.1 c7
   rw [md] at this
   exact this
 ·cases out with
  | nil =>
   show Zbn L 100000 b x.a0 x.a1 x.a2 x.a3 x.a4 x.a5 x.a6 x.a7 k l = _
   unfold Zbn
   exact Za hl (Zaf j4 rfl)
  | cons p Q =>
   show Zbo L 100000 (p :: Q) (p :: Q).length b x.a0 x.a1 x.a2 x.a3 x.a4 x.a5 x.a6 x.a7 k l = _
   unfold Zbo
   exact Za hl (Zaf j4 (Za (by omega) rfl))
theorem ZuH (hL : 1 ≤ L.length ∧ L.length ≤ 40) (hA : MI L 0 A) {k l : Int} {b : Nat} {out : List R_ii} (ho : Lt out) (h : goE L A k l b out) (hl : ¬ (k = 2 ∧ l = 0)) : (ZaL L 100000 (stD x out b k l) = some (.inr (.r0 false)) ∧ ∃ y ∈ out, y.a0 = (pr (atE L A k l)).a0) ∨ ∃ o, ZaL L 100000 (stD x out b k l) = some (.inl (stD x o b ((atE L A k l).a7.getD 0 vz).a0 ((atE L A k l).a7.getD 0 vz).a1)) ∧ o.Perm (pr (atE L A k l) :: out) ∧ Lt o := by
 obtain ⟨g1, g2, g3, g9⟩ := h
 rcases ZoB hA (show L.length ≤ 1000 by omega) k l with ⟨j, j1, j2, j3, j4⟩ | ⟨j1, j4⟩
 ·have ej : L.getD j oz = atE L A k l := by unfold atE; rw [j3]; rfl
  rw [← ej] at g3 ⊢
  obtain ⟨g3, g4, g5, g6, g7, g8⟩ := g3
  rw [← md] at g8
  cases out with
  | nil =>
   refine .inr ⟨[pr (L.getD j oz)], ?_, List.Perm.refl _, List.pairwise_singleton _ _⟩
   show Zbn L 100000 b x.a0 x.a1 x.a2 x.a3 x.a4 x.a5 x.a6 x.a7 k l = _
   unfold Zbn
   refine Za hl (Zaf j4 ?_)
   exact Z2 (by omega) (Z2 (fun q => q g1) (Z2 g3 (Z2 (fun q => q g4) (Z2 (fun q => q g5) (Z2 (fun q => q g6) (Z2 (fun q => q g7) (Z2 (fun q => q g8) (Zaf (show Zjg _ _ 100000 = some .r0 from rfl) rfl))))))))
  | cons p Q =>
   have hs : ∀ {r}, ZdE (p :: Q) ((L.getD j oz).a7.getD 1 vz).a1 ((L.getD j oz).a7.getD 2 vz).a1 100000 = some r → ZaL L 100000 (stD x (p :: Q) b k l) = (match r with | .r0 => some (.inr (.r0 false)) | .r1 o => some (.inl (.h2m1 o ((p :: Q).length + 1) b x.a0 x.a1 x.a2 x.a3 x.a4 x.a5 x.a6 x.a7 ((L.getD j oz).a7.getD 0 vz).a0 ((L.getD j oz).a7.getD 0 vz).a1))) := fun {r} hr => by
    show Zbo L 100000 (p :: Q) (p :: Q).length b x.a0 x.a1 x.a2 x.a3 x.a4 x.a5 x.a6 x.a7 k l = _
    unfold Zbo
    refine Za hl (Zaf j4 (Za (by omega) ?_))
    refine Z2 (by omega) (Z2 (fun q => q g1) (Z2 g3 (Z2 (fun q => q g4) (Z2 (fun q => q g5) (Z2 (fun q => q g6) (Z2 (fun q => q g7) (Z2 (fun q => q g8) (Zaf hr ?_))))))))
    cases r <;> rfl
   rcases Zvo ho (by omega) ((L.getD j oz).a7.getD 1 vz).a1 ((L.getD j oz).a7.getD 2 vz).a1 with ⟨w1, w2⟩ | ⟨o, w1, w2, w3, w4⟩
   ·exact .inl ⟨hs w1, w2⟩
   ·refine .inr ⟨o, (hs w1).trans ?_, w2, w3⟩
    have e := w2.length_eq
    cases o with
    | nil => simp at e
    | cons q R =>
     show some (Sum.inl (ref31_Pairs_2X.h2m1 (q :: R) ((p :: Q).length + 1) _ _ _ _ _ _ _ _ _ _ _)) = some (Sum.inl (ref31_Pairs_2X.h2m1 (q :: R) (q :: R).length _ _ _ _ _ _ _ _ _ _ _))
     rw [e]; rfl
 ·exact absurd g2 j1
theorem Zlg {k l : Int} {b : Nat} {out : List R_ii} (hb : b < 8) (hl : k = 2 ∧ l = 0) : ZaL L 100000 (stD x out b k l) = some (.inl (stE x out (b + 1))) := by
 cases out with
 | nil =>
  show Zbn L 100000 b x.a0 x.a1 x.a2 x.a3 x.a4 x.a5 x.a6 x.a7 k l = _
  unfold Zbn
  exact Z2 (fun q => q hl) (Za (by omega) rfl)
 | cons p Q =>
  show Zbo L 100000 (p :: Q) (p :: Q).length b x.a0 x.a1 x.a2 x.a3 x.a4 x.a5 x.a6 x.a7 k l = _
  unfold Zbo
  exact Z2 (fun q => q hl) (Za (by omega) rfl)
theorem Zrs (hx : 8 ≤ x.a7.length) {b : Nat} {out : List R_ii} (hb : b < 8) : ZaL L 100000 (stE x out b) = some (.inl (stD x out b (x.a7.getD b vz).a0 (x.a7.getD b vz).a1)) := by
 cases out with
 | nil =>
  show ZcB L 100000 b x.a0 x.a1 x.a2 x.a3 x.a4 x.a5 x.a6 x.a7 = _
  unfold ZcB
  exact Za (by omega) (Za (by omega) rfl)
 | cons p Q =>
  show ZcC L 100000 (p :: Q) (p :: Q).length b x.a0 x.a1 x.a2 x.a3 x.a4 x.a5 x.a6 x.a7 = _
  unfold ZcC
  exact Za (by omega) (Za (by omega) rfl)
theorem ZoE {l : List R_ii} (h : Lt l) : (l.map R_ii.a0).Nodup := by
 unfold List.Nodup
 rw [List.pairwise_map]
 exact h.imp fun q => by omega
theorem ZuI (hL : 1 ≤ L.length ∧ L.length ≤ 40) (hF : F = x.a7.take 8) (hx : 8 ≤ x.a7.length) (hA : MI L 0 A) : ∀ f b k l P out, b < 8 → P.length ≤ L.length → (7 - b) + (L.length - P.length) < f → out.Perm P → Lt out → ∃ c, c ≤ 3 * f + 100 ∧ ∃ r, Zbq (ZaL L 100000) c (stD x out b k l) = some r ∧ DR (ZcJ L A F f b k l P) r := by
 intro f
 induction f with
 | zero => intro b k l P out h1 h2 h3; omega
 | succ f ih =>
  intro b k l P out hb hP hf hp ho
  have hlen := hp.length_eq
  by_cases h1 : k = 2 ∧ l = 0
  ·by_cases h2 : b + 1 < 8
   ·have eF : F.getD (b + 1) vz = x.a7.getD (b + 1) vz := by
     rw [hF]; simp [List.getD, List.getElem?_take, h2]
    obtain ⟨c, c1, r, c2, c3⟩ := ih (b + 1) (F.getD (b + 1) vz).a0 (F.getD (b + 1) vz).a1 P out h2 hP (by omega) hp ho
    refine ⟨c + 1 + 1, by omega, r, ?_, ?_⟩
    ·rw [eF] at c2
     exact (ZL (Zlg hb h1)).trans ((ZL (Zrs hx h2)).trans c2)
    ·rw [show ZcJ L A F (f + 1) b k l P = ZcJ L A F f (b + 1) (F.getD (b + 1) vz).a0 (F.getD (b + 1) vz).a1 P from by rw [ZcJ, if_pos h1, if_pos h2]]
     exact c3
   ·rw [show ZcJ L A F (f + 1) b k l P = some P from by rw [ZcJ, if_pos h1, if_neg h2]]
    have hn : (P.map R_ii.a0).Nodup := (hp.map R_ii.a0).nodup_iff.1 (ZoE ho)
    cases out with
    | nil =>
     refine ⟨1 + 1, by omega, .r0 true, (ZL (Zlg hb h1)).trans (ZaH ?_), fun _ => .inl ⟨List.length_eq_zero_iff.1 hlen.symm, rfl⟩, fun q => absurd hn q⟩
     show ZcB L 100000 (b + 1) x.a0 x.a1 x.a2 x.a3 x.a4 x.a5 x.a6 x.a7 = _
     unfold ZcB
     exact Z2 (by omega) rfl
    | cons p Q =>
     refine ⟨1 + 1, by omega, .r1 (p :: Q), (ZL (Zlg hb h1)).trans (ZaH ?_), fun _ => .inr ⟨fun q => by subst q; simp at hlen, _, rfl, hp, ho⟩, fun q => absurd hn q⟩
     show ZcC L 100000 (p :: Q) (p :: Q).length (b + 1) x.a0 x.a1 x.a2 x.a3 x.a4 x.a5 x.a6 x.a7 = _
     unfold ZcC
     exact Z2 (by omega) rfl
  ·by_cases h2 : goE L A k l b P
   ·have h2' : goE L A k l b out := ⟨h2.1, h2.2.1, h2.2.2.1, by have := h2.2.2.2; omega⟩
    have h9 := h2.2.2.2
    rw [show ZcJ L A F (f + 1) b k l P = ZcJ L A F f b ((atE L A k l).a7.getD 0 vz).a0 ((atE L A k l).a7.getD 0 vz).a1 (P ++ [pr (atE L A k l)]) from by rw [ZcJ, if_neg h1, if_pos h2]]
    rcases ZuH (x := x) hL hA ho h2' h1 with ⟨d1, y, d2, d3⟩ | ⟨o, d1, d2, d3⟩
    ·refine ⟨1, by omega, .r0 false, ZaH d1, ?_⟩
     cases hw : ZcJ L A F f b ((atE L A k l).a7.getD 0 vz).a0 ((atE L A k l).a7.getD 0 vz).a1 (P ++ [pr (atE L A k l)]) with
     | none => rfl
     | some P' =>
      obtain ⟨Q, rfl⟩ := Zoe _ _ _ _ _ _ hw
      refine ⟨fun hn => ?_, fun _ => rfl⟩
      exfalso
      rw [List.map_append, List.map_append] at hn
      have hn1 := (List.nodup_append.1 hn).1
      have hn2 := (List.nodup_append.1 hn1).2.2
      exact hn2 y.a0 (List.mem_map.2 ⟨y, hp.subset d2, rfl⟩) (pr (atE L A k l)).a0 (by simp) d3
    ·obtain ⟨c, c1, r, c2, c3⟩ := ih b ((atE L A k l).a7.getD 0 vz).a0 ((atE L A k l).a7.getD 0 vz).a1 (P ++ [pr (atE L A k l)]) o hb (by simp; omega) (by simp; omega) (d2.trans ((hp.cons _).trans (List.perm_append_singleton _ _).symm)) d3
     exact ⟨c + 1, by omega, r, (ZL d1).trans c2, c3⟩
   ·have h2' : ¬ goE L A k l b out := fun q => h2 ⟨q.1, q.2.1, q.2.2.1, by have := q.2.2.2; omega⟩
    rw [show ZcJ L A F (f + 1) b k l P = none from by rw [ZcJ, if_neg h1, if_neg h2]]
    exact ⟨1, by omega, .r0 false, ZaH (ZuG hL hA (by omega) h2' h1), rfl⟩
end
end Hp
end Ev
end Go.Proofs.YtjdojnecmplmnaaGreat
/- HashPairs: what the plain functions come to. -/
namespace Go.Proofs.YtjdojnecmplmnaaGreat
open Go.RowKit
namespace Ev
set_option linter.unusedVariables false
set_option linter.unusedSimpArgs false
namespace Hp
theorem Zof {L : List Ob} {A : List RA} {F : List R_ii} : ∀ f b k l P P', ZcJ L A F f b k l P = some P' → P.length ≤ L.length → P'.length ≤ L.length
 | 0, _, _, _, _, _, h, _ => by cases h
 | f + 1, b, k, l, P, P', h, hP => by
  unfold ZcJ at h
  by_cases h1 : k = 2 ∧ l = 0
  ·rw [if_pos h1] at h
   by_cases h2 : b + 1 < 8
   ·rw [if_pos h2] at h; exact Zof f _ _ _ _ _ h hP
   ·rw [if_neg h2] at h; rw [← Option.some.inj h]; exact hP
  ·rw [if_neg h1] at h
   by_cases h2 : goE L A k l b P
   ·rw [if_pos h2] at h
    have := h2.2.2.2
    exact Zof f _ _ _ _ _ h (by simp; omega)
   ·rw [if_neg h2] at h; cases h
theorem Zvp {p : R_ii} {S : List R_ii} (h : Srt.Up vz R_ii.a0 0 (p :: S).length (p :: S)) : Srt.Up vz R_ii.a0 0 S.length S := fun x y h1 h2 h3 => h (x + 1) (y + 1) (by omega) (by omega) (by simpa using h3)
theorem Ztb : ∀ {S : List R_ii}, Srt.Up vz R_ii.a0 0 S.length S → adj S = false → Lt S
 | [], _, _ => List.Pairwise.nil
 | [p], _, _ => List.pairwise_singleton _ _
 | p :: q :: S, hu, ha => by
  have ha' : decide (q.a0 = p.a0) = false ∧ adj (q :: S) = false := by
   rw [adj] at ha
   cases e1 : decide (q.a0 = p.a0) <;> rw [e1] at ha <;> simp_all
  have ih := Ztb (Zvp hu) ha'.2
  have hpq : p.a0 < q.a0 := by
   have h1 : p.a0 ≤ q.a0 := hu 0 1 (by omega) (by omega) (by simp)
   have h2 : ¬ q.a0 = p.a0 := of_decide_eq_false ha'.1
   omega
  refine List.pairwise_cons.2 ⟨fun y hy => ?_, ih⟩
  rcases List.mem_cons.1 hy with e | e
  ·subst e; exact hpq
  ·exact Int.lt_trans hpq ((List.pairwise_cons.1 ih).1 y e)
theorem Zst : ∀ {S : List R_ii}, adj S = true → ¬ (S.map R_ii.a0).Nodup
 | [], h, _ => by cases h
 | [p], h, _ => by cases h
 | p :: q :: S, h, hn => by
  rw [adj, Bool.or_eq_true] at h
  have hc := List.nodup_cons.1 hn
  rcases h with h | h
  ·exact hc.1 (List.mem_cons.2 (.inl (of_decide_eq_true h).symm))
  ·exact Zst h hc.2
theorem ZtQ {S o : List R_ii} (h1 : Lt S) (h2 : Lt o) (hp : S.Perm o) : S = o :=
 List.Perm.eq_of_pairwise (le := fun a b => a.a0 < b.a0 ∨ a = b) (fun a b _ _ h3 h4 => by
  rcases h3 with h3 | h3
  ·rcases h4 with h4 | h4
   ·omega
   ·exact h4.symm
  ·exact h3) (h1.imp fun h => .inl h) (h2.imp fun h => .inl h) hp
theorem ZuJ {L : List Ob} (hL : 1 ≤ L.length ∧ L.length ≤ 40) : (∃ b, Zdn L 100000 = some (.r0 b) ∧ ZbI L 100000 = some (.r0 b)) ∨ ∃ S, S.length ≤ 40 ∧ Zdn L 100000 = some (.r1 S S.length) ∧ ZbI L 100000 = some (.r1 S) := by
 obtain ⟨A, hA, hb⟩ := built (show L.length ≤ 1000 by omega) L.length [] (Nat.le_refl _) (Zv7 L)
 have hp : ∀ {c r}, c ≤ 1000 → Zbq (Zaw L 100000) c (.h1m0 A (-1)) = some r → Zdn L 100000 = some r := fun {c r} h1 h2 => by
  unfold Zdn
  refine (ZeA (x := .h1m0 [] ((L.length : Int) - 1)) ?_).trans (Zf4 (by omega) (hb c r h2))
  unfold Zgq
  exact Za (by omega) rfl
 rcases ZoB hA (show L.length ≤ 1000 by omega) 2 1048577 with ⟨j, j1, j2, j3, j4⟩ | ⟨j1, j4⟩
 ·have ej : (Zb A 2 1048577).toNat = j := by rw [j3]; rfl
  by_cases h8 : (((L.getD j oz).a7.length : Nat) : Int) < 8
  ·refine .inl ⟨false, hp (c := 1) (by omega) (ZaH ?_), ?_⟩
   ·show Zbv L 100000 A (-1) = _
    unfold Zbv
    refine Z2 (by omega) (Za j2 (Za (by omega) (Za (by omega) ?_)))
    rw [ej]
    exact Za h8 rfl
   ·unfold ZbI
    refine Zso ?_
    unfold ZdJ
    exact Zaf j4 (Za h8 rfl)
  ·have hx : 8 ≤ (L.getD j oz).a7.length := by omega
   have hF : ((L.getD j oz).a7.take 8).length = 8 := by rw [List.length_take]; omega
   have eF : ((L.getD j oz).a7.take 8).getD 0 vz = (L.getD j oz).a7.getD 0 vz := by
    simp [List.getD, List.getElem?_take]
   obtain ⟨c, c1, c2⟩ := ZtO hL hF hA 60 0 (((L.getD j oz).a7.take 8).getD 0 vz).a0 (((L.getD j oz).a7.take 8).getD 0 vz).a1 [] (by omega) (by simp) (by simp; omega)
   obtain ⟨e, e1, rd, e2, e3⟩ := ZuI (F := (L.getD j oz).a7.take 8) (x := L.getD j oz) hL rfl hx hA 60 0 (((L.getD j oz).a7.take 8).getD 0 vz).a0 (((L.getD j oz).a7.take 8).getD 0 vz).a1 [] [] (by omega) (by simp) (by simp; omega) (List.Perm.refl _) List.Pairwise.nil
   have P1 := hp (c := c + 1 + 1) (by omega) ((ZL (y := .h2m0 A ((L.getD j oz).a7.take 8) ((L.getD j oz).a7.take 8).length 0) (by
    show Zbv L 100000 A (-1) = _
    unfold Zbv
    refine Z2 (by omega) (Za j2 (Za (by omega) (Za (by omega) ?_)))
    rw [ej]
    exact Z2 h8 rfl)).trans ((ZL (y := stP A ((L.getD j oz).a7.take 8) [] 0 (((L.getD j oz).a7.take 8).getD 0 vz).a0 (((L.getD j oz).a7.take 8).getD 0 vz).a1) (by
    show ZbT L 100000 A ((L.getD j oz).a7.take 8) ((L.getD j oz).a7.take 8).length 0 = _
    unfold ZbT
    exact Za (by omega) (Za (by omega) rfl))).trans c2))
   have D1 : ZbI L 100000 = some rd := by
    unfold ZbI
    refine (ZeA (x := stE (L.getD j oz) [] 0) ?_).trans (Zf4 (n := e + 1) (by omega) ((ZL (Zrs hx (by omega))).trans (by rw [← eF]; exact e2)))
    unfold ZdJ
    exact Zaf j4 (Z2 h8 rfl)
   cases hw : ZcJ L A ((L.getD j oz).a7.take 8) 60 0 (((L.getD j oz).a7.take 8).getD 0 vz).a0 (((L.getD j oz).a7.take 8).getD 0 vz).a1 [] with
   | none =>
    rw [hw] at P1 e3
    exact .inl ⟨false, P1, D1.trans (congrArg some e3)⟩
   | some P =>
    have hl := Zof _ _ _ _ _ _ hw (by simp)
    rw [hw] at P1 e3
    obtain ⟨d1, d2⟩ := e3
    cases P with
    | nil =>
     rcases d1 List.nodup_nil with ⟨_, q⟩ | ⟨q, _⟩
     ·exact .inl ⟨true, P1, D1.trans (congrArg some q)⟩
     ·exact absurd rfl q
    | cons p Q =>
     obtain ⟨s1, s2, s3⟩ := ZtL (show (p :: Q).length ≤ 40 by omega)
     have hs : (srt (p :: Q)).length = (p :: Q).length := s2.length_eq
     have hu : Srt.Up vz R_ii.a0 0 (srt (p :: Q)).length (srt (p :: Q)) := by rw [hs]; exact s3
     by_cases hn : ((p :: Q).map R_ii.a0).Nodup
     ·rcases d1 hn with ⟨q, _⟩ | ⟨_, o, q1, q2, q3⟩
      ·cases q
      ·have ha : adj (srt (p :: Q)) = false := by
        cases ha : adj (srt (p :: Q)) with
        | false => rfl
        | true => exact absurd ((s2.map R_ii.a0).nodup_iff.2 hn) (Zst ha)
       have eo : srt (p :: Q) = o := ZtQ (Ztb hu ha) q3 (s2.trans q2.symm)
       refine .inr ⟨o, by rw [← eo, hs]; omega, P1.trans ?_, D1.trans (congrArg some q1)⟩
       show some (if adj (srt (p :: Q)) = true then hash_Pairs_2R.r0 false else .r1 (srt (p :: Q)) (p :: Q).length) = _
       rw [ha, if_neg (by decide), ← hs, eo]
     ·have ha : adj (srt (p :: Q)) = true := by
       cases ha : adj (srt (p :: Q)) with
       | true => rfl
       | false => exact absurd ((s2.map R_ii.a0).nodup_iff.1 (ZoE (Ztb hu ha))) hn
      refine .inl ⟨false, P1.trans ?_, D1.trans (congrArg some (d2 hn))⟩
      show some (if adj (srt (p :: Q)) = true then hash_Pairs_2R.r0 false else .r1 (srt (p :: Q)) (p :: Q).length) = _
      rw [if_pos ha]
 ·refine .inl ⟨false, hp (c := 1) (by omega) (ZaH ?_), ?_⟩
  ·show Zbv L 100000 A (-1) = _
   unfold Zbv
   exact Z2 (by omega) (Z2 j1 rfl)
  ·unfold ZbI
   refine Zso ?_
   unfold ZdJ
   exact Zaf j4 rfl
theorem Zvq {S : List R_ii} (hS : S.length ≤ 1000) : Zdu S S.length S 100000 = some (.r0 true) := by
 have go : ∀ d i f, i + d = S.length → d < f → Zbq (Zdb S S.length S 100000) f (.h1m0 i) = some (.r0 true) := by
  intro d
  induction d with
  | zero =>
   intro i f hi hf
   obtain ⟨f, rfl⟩ : ∃ j, f = j + 1 := ⟨f - 1, by omega⟩
   refine ZaH ?_
   show ZbP S S.length S 100000 i = _
   unfold ZbP
   exact Z2 (by omega) rfl
  | succ d ih =>
   intro i f hi hf
   obtain ⟨f, rfl⟩ : ∃ j, f = j + 1 := ⟨f - 1, by omega⟩
   refine (ZL (y := .h1m0 (i + 1)) ?_).trans (ih (i + 1) f (by omega) (by omega))
   show ZbP S S.length S 100000 i = _
   unfold ZbP
   exact Za (by omega) (Za (by omega) (Za (by omega) (Z2 (fun q => q ⟨rfl, rfl⟩) (Za (by omega) rfl))))
 unfold Zdu
 refine (ZeA (x := .h1m0 0) ?_).trans (go S.length 0 100000 (by omega) (by omega))
 unfold Zei
 exact Z2 (fun q => q rfl) rfl
theorem ZjG : ZcE 100000 = some .r0 := rfl
theorem ZtR {L V : List Ob} {i : Nat} (hV : 1 ≤ V.length ∧ V.length ≤ 40) (hi : ¬ ((i : Int) < (L.length : Int) ∧ (i : Int) < 40)) : Zcl L 100000 V i = some (.inr (.r0 true)) := by
 unfold Zcl
 rcases ZuJ hV with ⟨b, p1, p2⟩ | ⟨S, hS, p1, p2⟩
 ·by_cases h1 : (i : Int) < (L.length : Int)
  ·exact Za h1 (Z2 (fun q => hi ⟨h1, q⟩) (Zaf p1 (Zaf p2 (Zaf (show ZcK 100000 = some .r0 from rfl) (Za rfl (Zaf ZjG rfl))))))
  ·exact Z2 h1 (Zaf p1 (Zaf p2 (Zaf (show ZcK 100000 = some .r0 from rfl) (Za rfl (Zaf ZjG rfl)))))
 ·have hs := Zvq (show S.length ≤ 1000 by omega)
  by_cases h1 : (i : Int) < (L.length : Int)
  ·exact Za h1 (Z2 (fun q => hi ⟨h1, q⟩) (Zaf p1 (Zaf p2 (Zaf hs (Za rfl (Zaf ZjG rfl))))))
  ·exact Z2 h1 (Zaf p1 (Zaf p2 (Zaf hs (Za rfl (Zaf ZjG rfl)))))
def few1 (L : List Ob) (i : Nat) : Ob := ⟨(L.getD i oz).a0, (L.getD i oz).a1, (L.getD i oz).a2, (L.getD i oz).a3, (L.getD i oz).a4, (L.getD i oz).a5, (L.getD i oz).a6, ((L.getD i oz).a7.take ((if (16 : Int) < (((L.getD i oz).a7.length : Nat) : Int) then (16 : Int) else (((L.getD i oz).a7.length : Nat) : Int))).toNat)⟩
theorem ZuK {L : List Ob} : ∀ d i (V : List Ob), 1 ≤ i → i + d = 40 → V.length = i → Zbq (ZcL L 100000) (d + 1) (.h1m1 V i) = some (.r0 true) := by
 intro d
 induction d with
 | zero =>
  intro i V h1 hi hV
  exact ZaH (ZtR (by omega) (by omega))
 | succ d ih =>
  intro i V h1 hi hV
  by_cases c : (i : Int) < (L.length : Int) ∧ (i : Int) < 40
  ·refine (ZL (n := d + 1) (y := .h1m1 (V ++ [few1 L i]) (i + 1)) ?_).trans (ih (i + 1) _ (by omega) (by omega) ?_)
   ·show Zcl L 100000 V i = _
    unfold Zcl
    exact Za c.1 (Za c.2 (Za (by omega) rfl))
   ·simp [hV]
  ·exact ZaH (ZtR (by omega) c)
theorem runs (L : List Ob) : ZhV L 100000 = some (.r0 true) := by
 unfold ZhV
 refine (ZeA (x := law31_HashPairsX.h1m0) rfl).trans ?_
 by_cases h : (0 : Int) < (L.length : Int)
 ·refine (ZL (n := 99999) (y := .h1m1 [few1 L 0] 1) ?_).trans (Zf4 (n := 39 + 1) (by omega) (ZuK (L := L) 39 1 _ (Nat.le_refl _) rfl ?_))
  ·show Zck L 100000 = _
   unfold Zck
   exact Za h rfl
  ·rfl
 ·refine ZaH (n := 99999) ?_
  show Zck L 100000 = _
  unfold Zck
  exact Z2 h (Zaf (show Zjf 100000 = some .r0 from rfl) (Zaf (show Zf3 100000 = some .r0 from rfl) (Zaf (show ZcK 100000 = some .r0 from rfl) (Zaf ZjG rfl))))
end Hp
end Ev
end Go.Proofs.YtjdojnecmplmnaaGreat
/- Paths of a law, by the runner. -/
namespace Go.Proofs.YtjdojnecmplmnaaGreat
open Go.ChangeShapes Go.WideShapes Go.ChangeAt Go.RowKit
namespace Ev
set_option maxRecDepth 100000
namespace HashPairs
theorem ZcZ {a b : Bool} (h : a = true) (k : b = true) : (a && b) = true := by rw [h, k]; rfl
theorem jl0 : ((Rows.hashPairsRow).wf (OpenSpec.ofChange (Rows.hashPairsSpec))) = true := by kernel_rfl
theorem jl1 : (laidOutB (Tryz.pinned.checked.prog)) = true := by kernel_rfl
theorem jl2 : (mapsRowed (Tryz.pinned.checked.prog)) = true := by kernel_rfl
theorem jl3 : ((Tryz.f3).params.all ((Tryz.pinned.checked.prog).readableRec ·)) = true := by kernel_rfl
theorem jl4 : (namedTie (Tryz.pinned.checked.prog) (Rows.hashPairsRow).named (Rows.hashPairsSpec).vars) = true := by kernel_rfl
theorem jl5 : (((Rows.hashPairsRow).stops == [])) = true := by kernel_rfl
theorem jl6 : (((Tryz.pinned.checked.prog).stops == [])) = true := by kernel_rfl
theorem jl7 : (((Rows.hashPairsRow).knobs == [])) = true := by kernel_rfl
theorem jl8 : (((Tryz.pinned.checked.prog).stopKnobs == [])) = true := by kernel_rfl
theorem jl9 : (((Rows.hashPairsRow).inPlace == (Tryz.pinned.checked.prog).inPlace 3)) = true := by kernel_rfl
theorem jl10 : (((Rows.hashPairsRow).unfollowed == (Tryz.pinned.checked.prog).unfollowed 3)) = true := by kernel_rfl
theorem jl11 : (((Rows.hashPairsRow).recurses == (Tryz.pinned.checked.prog).recurses 3)) = true := by kernel_rfl
theorem jl12 : (((Rows.hashPairsRow).named == (Tryz.pinned.checked.prog).varsNamed 3)) = true := by kernel_rfl
theorem jl13 : (((Rows.hashPairsRow).maps == ((Tryz.f3).params.toList ++ (Rows.hashPairsSpec).plain.varTypes (Tryz.pinned.checked.prog)).any ((Tryz.pinned.checked.prog).mapsRec ·))) = true := by kernel_rfl
theorem jl14 : (((Rows.hashPairsRow).ifaces == ((Tryz.f3).params.toList ++ (Rows.hashPairsSpec).plain.varTypes (Tryz.pinned.checked.prog)).any ((Tryz.pinned.checked.prog).ifacesRec ·))) = true := by kernel_rfl
theorem jl15 : (((Rows.hashPairsRow).mapsOut == (Tryz.pinned.checked.prog).mapsAmong (Tryz.f3).resultTypes.toList)) = true := by kernel_rfl
theorem jl16 : (((Rows.hashPairsRow).loops == ((Tryz.f3).params.toList ++ (Rows.hashPairsSpec).plain.varTypes (Tryz.pinned.checked.prog)).any ((Tryz.pinned.checked.prog).loopsFrom ·))) = true := by kernel_rfl
theorem jl17 : (((Rows.hashPairsRow).wideKeys == ((Tryz.f3).params.toList ++ (Rows.hashPairsSpec).plain.varTypes (Tryz.pinned.checked.prog) ++ (Tryz.f3).resultTypes.toList).any ((Tryz.pinned.checked.prog).wideKeysFrom ·))) = true := by kernel_rfl
theorem jl18 : ((Rows.hashPairsSpec).vars.all ((Tryz.pinned.checked.prog).varReadable ·)) = true := by kernel_rfl
theorem jl19 : ((Tryz.f3).resultTypes.all (fun tt => (Tryz.pinned.checked.prog).readableRec tt && decide (tt < (Tryz.pinned.checked.prog).types.size))) = true := by kernel_rfl
theorem jl20 : (((Rows.hashPairsRow).ifacesOut == (Tryz.f3).resultTypes.toList.any ((Tryz.pinned.checked.prog).ifacesRec ·))) = true := by kernel_rfl
theorem jl21 : (((Rows.hashPairsRow).loopsOut == (Tryz.f3).resultTypes.toList.any ((Tryz.pinned.checked.prog).loopsFrom ·))) = true := by kernel_rfl
theorem jl22 : (((Rows.hashPairsRow).plainKeys == (Tryz.pinned.checked.prog).plainKeys)) = true := by kernel_rfl
theorem jl23 : ((Rows.hashPairsRow).shortTexts.isNone) = true := by kernel_rfl
theorem jl24 : ((Tryz.pinned.checked.prog).stopsHeard) = true := by kernel_rfl
theorem jl25 : ((Tryz.pinned.checked.prog).mayEnter) = true := by kernel_rfl
theorem jl26 : (((Rows.hashPairsRow).lifted == (Tryz.pinned.checked.prog).liftsFinal)) = true := by kernel_rfl
theorem jl27 : (((Tryz.pinned.checked.prog).make == some (Rows.hashPairsRow).make)) = true := by kernel_rfl
theorem jl28 : (((Rows.hashPairsRow).kinds == (if (Rows.hashPairsRow).domain.isEmpty then [] else (Tryz.f3).params.toList.map fun tt => match (Tryz.pinned.checked.prog).underlying tt with | some (.int k) => some k | _ => none))) = true := by kernel_rfl
theorem jl29 : (((Rows.hashPairsRow).pinned == (Rows.hashPairsRow).pinnedBy)) = true := by kernel_rfl
theorem jl30 : (((Rows.hashPairsRow).veiled == ((Tryz.f3).params.toList ++ (Rows.hashPairsSpec).plain.varTypes (Tryz.pinned.checked.prog) ++ (Tryz.f3).resultTypes.toList).any ((Tryz.pinned.checked.prog).veiledRec ·))) = true := by kernel_rfl
theorem jl31 : ((Rows.hashPairsRow).veiledFits (Tryz.pinned.checked.prog) (Tryz.f3).params.toList ((Tryz.f3).params.toList ++ (Rows.hashPairsSpec).plain.varTypes (Tryz.pinned.checked.prog) ++ (Tryz.f3).resultTypes.toList)) = true := by kernel_rfl
theorem ZtS : joinedFacts Tryz.pinned.checked.prog 3 Tryz.f3 Rows.hashPairsSpec Rows.hashPairsRow = true := (ZcZ (ZcZ (ZcZ (ZcZ (ZcZ (ZcZ (ZcZ (ZcZ (ZcZ (ZcZ (ZcZ (ZcZ (ZcZ (ZcZ (ZcZ (ZcZ (ZcZ (ZcZ (ZcZ (ZcZ (ZcZ (ZcZ (ZcZ (ZcZ (ZcZ (ZcZ (ZcZ (ZcZ (ZcZ (ZcZ (ZcZ jl0 jl1) jl2) jl3) jl4) jl5) jl6) jl7) jl8) jl9) jl10) jl11) jl12) jl13) jl14) jl15) jl16) jl17) jl18) jl19) jl20) jl21) jl22) jl23) jl24) jl25) jl26) jl27) jl28) jl29) jl30) jl31)
end HashPairs
end Ev
end Go.Proofs.YtjdojnecmplmnaaGreat
/- A region that draws its order, whose first operations only read (and make memory in calls), and whose last ones, in a forced order among themselves, make and write new memory: but these may come up early. -/
namespace Go.Proofs.YtjdojnecmplmnaaGreat
open Go.RowKit

section
variable {P : Program}

def Calm (P : Program) (W : World) (o : Oper) (a : Act) (v : Value) : Prop :=
 ∀ w, Below W.heap.size W w → o.quietAt P a (fun w' => Below w.heap.size w w') w v

def YieldsC (P : Program) (ops : Array Oper) (W : World) (o : Oper) (v : Value) (a : Act) : Prop :=
 (Region.wanted o (yielded ops a.tmps) = true ∧ Calm P W o a v) ∨ (Region.wanted o (yielded ops a.tmps) = false ∧ v = undef)
theorem Zp7 {a b c : World} (h : Below a.heap.size a b) (k : Below b.heap.size b c) : Below a.heap.size a c := h.trans (k.mono h.size)

def Closed (md : Region.Mode) (ops : Array Oper) (listed : Array Bool) : Prop :=
 ∀ j oj, ops[j]? = some oj → listed.getD j false = true → ∀ e ∈ oj.after, Region.binds md e = true → listed.getD e.on false = true
def Zrt (md : Region.Mode) (ops : Array Oper) : Nat → Nat → Nat → Bool
 | 0, _, _ => false
 | f + 1, t, i => Region.waitsFor md ops t i || (List.range ops.size).any fun k => Region.waitsFor md ops t k && Zrt md ops f k i
theorem Closed.waits {md : Region.Mode} {ops : Array Oper} {listed : Array Bool} (h : Closed md ops listed) : ∀ (f t i : Nat), listed.getD t false = true → Zrt md ops f t i = true → listed.getD i false = true
 | 0, _, _, _, hw => by cases hw
 | f + 1, t, i, ht, hw => by
  simp only [Zrt, Bool.or_eq_true, List.any_eq_true, Bool.and_eq_true] at hw
  rcases hw with hw | ⟨k, _, hw, hr⟩
  ·obtain ⟨o, ho, e, he, hb, rfl⟩ := Region.waitsFor_spec hw
   exact h t o ho ht e he hb
  ·obtain ⟨o, ho, e, he, hb, rfl⟩ := Region.waitsFor_spec hw
   exact h.waits f e.on i (h t o ho ht e he hb) hr

theorem YieldsC.wpOp {ops : Array Oper} {W : World} {i : Nat} {o : Oper} {v : Value} {a : Act} {w : World} (hi : ops[i]? = some o) (hy : YieldsC P ops W o v a) (hb : Below W.heap.size W w)
  {K : Act → World → Prop} {Q : Exit → Act → World → Prop} (h : ∀ w', Below w.heap.size w w' → K (a.put o.dst v) w') : wpOp P ops Q i K a w := by
 unfold Go.wpOp
 simp only [hi]
 rcases hy with ⟨hw, hv⟩ | ⟨hw, rfl⟩
 ·simp only [hw, if_true]
  exact .inl (Oper.wp_of_quiet (C := fun w' => Below w.heap.size w w') (K := fun a' => a' = a.put o.dst v) (Below.refl _ _) (fun a' w' hw' ha => by subst ha; exact h w' hw')
   ⟨v, fun w1 hw1 => by
    have h1 := hv w1 (Zp7 hb hw1)
    unfold Oper.quietAt at h1 ⊢
    generalize (execOp a.eval o).run P w1 = r at *
    cases r with
    | ok n w' =>
     cases n <;> simp only [Oper.quietUpon] at h1 ⊢
     case value u => exact h1
     case skip => exact h1
     case enter f args => exact ⟨h1.1, h1.2.mono fun e w2 ⟨he, hb2⟩ => ⟨he, Zp7 hw1 hb2⟩⟩
    | halt x w' => simp only [Oper.quietUpon] at h1, rfl⟩)
 ·simp only [hw, Bool.false_eq_true, if_false]
  exact h w (Below.refl _ _)

end
end Go.Proofs.YtjdojnecmplmnaaGreat
/- The law HashPairs, for every input. -/
namespace Go.Proofs.YtjdojnecmplmnaaGreat
open Go.ChangeShapes Go.WideShapes Go.ChangeAt Go.RowKit
namespace Ev
namespace HashPairs
set_option linter.unusedVariables false
def ZuL (x : R_ii) : Prop := (IntKind.i64.min ≤ x.a0 ∧ x.a0 ≤ IntKind.i64.max) ∧ (IntKind.i64.min ≤ x.a1 ∧ x.a1 ≤ IntKind.i64.max)
theorem el1 {H : Type} {enc : TypeId × Value → H} {w : World} {cs : List Value} (hl : cs.length = 2) (h : Trd enc Tryz.prog w 25 cs) : ∃ x : R_ii, DecL w cs (E_ii.cel x) ∧ ZuL x := by
 have h0 := ZtC (by kernel_rfl : Tryz.prog.cellsOf 25 = 2) hl h
 have h1 := ZdN 0 1 2 Tryz.underlying25 h0 0 (te := 23) (o' := 0) (by kernel_rfl) rfl (by kernel_rfl) (by kernel_rfl) (by decide)
 obtain ⟨x0, e0, b0⟩ := ZhR Tryz.underlying23 (by kernel_rfl) h1
 have h2 := ZdN 1 1 2 Tryz.underlying25 h0 1 (te := 3) (o' := 1) (by kernel_rfl) rfl (by kernel_rfl) (by kernel_rfl) (by decide)
 obtain ⟨x1, e1, b1⟩ := ZhR Tryz.underlying3 (by kernel_rfl) h2
 refine ⟨(⟨x0, x1⟩ : R_ii), Zsl (by rw [hl, Enc.clen]; rfl) (fun j y hy => ?_), ⟨b0, b1⟩⟩
 have := (Zf2 (w := w) (k := 0) e0 .i (Zf2 (w := w) (k := 1) e1 .i (ZtB (w := w)))) j y hy
 simpa using this
def el0R (x : Ro) : Prop := (IntKind.i64.min ≤ x.a0 ∧ x.a0 ≤ IntKind.i64.max) ∧ (IntKind.i64.min ≤ x.a1 ∧ x.a1 ≤ IntKind.i64.max) ∧ (IntKind.i64.min ≤ x.a2 ∧ x.a2 ≤ IntKind.i64.max) ∧ (IntKind.i64.min ≤ x.a3 ∧ x.a3 ≤ IntKind.i64.max) ∧ (IntKind.i64.min ≤ x.a4 ∧ x.a4 ≤ IntKind.i64.max) ∧ (IntKind.i64.min ≤ x.a5 ∧ x.a5 ≤ IntKind.i64.max) ∧ (IntKind.i64.min ≤ x.a6 ∧ x.a6 ≤ IntKind.i64.max) ∧ (x.a7.length ≤ 9223372036854775807 ∧ ∀ y ∈ x.a7, ZuL y)
theorem el0 {H : Type} {enc : TypeId × Value → H} {w : World} {cs : List Value} (hl : cs.length = 8) (h : Trd enc Tryz.prog w 31 cs) : ∃ x : Ro, DecL w cs (Eo.cel x) ∧ el0R x := by
 have h0 := ZtC (by kernel_rfl : Tryz.prog.cellsOf 31 = 8) hl h
 have h1 := ZdN 0 2 8 Tryz.underlying31 h0 0 (te := 25) (o' := 0) (by kernel_rfl) rfl (by kernel_rfl) (by kernel_rfl) (by decide)
 have h2 := ZdN 0 1 2 Tryz.underlying25 h1 0 (te := 23) (o' := 0) (by kernel_rfl) rfl (by kernel_rfl) (by kernel_rfl) (by decide)
 obtain ⟨x0, e0, b0⟩ := ZhR Tryz.underlying23 (by kernel_rfl) h2
 have h3 := ZdN 1 1 2 Tryz.underlying25 h1 1 (te := 3) (o' := 1) (by kernel_rfl) rfl (by kernel_rfl) (by kernel_rfl) (by decide)
 obtain ⟨x1, e1, b1⟩ := ZhR Tryz.underlying3 (by kernel_rfl) h3
 have h4 := ZdN 2 5 8 Tryz.underlying31 h0 1 (te := 28) (o' := 2) (by kernel_rfl) rfl (by kernel_rfl) (by kernel_rfl) (by decide)
 have h5 := ZdN 0 1 5 Tryz.underlying28 h4 0 (te := 3) (o' := 2) (by kernel_rfl) rfl (by kernel_rfl) (by kernel_rfl) (by decide)
 obtain ⟨x2, e2, b2⟩ := ZhR Tryz.underlying3 (by kernel_rfl) h5
 have h6 := ZdN 1 1 5 Tryz.underlying28 h4 1 (te := 3) (o' := 3) (by kernel_rfl) rfl (by kernel_rfl) (by kernel_rfl) (by decide)
 obtain ⟨x3, e3, b3⟩ := ZhR Tryz.underlying3 (by kernel_rfl) h6
 have h7 := ZdN 2 1 5 Tryz.underlying28 h4 2 (te := 3) (o' := 4) (by kernel_rfl) rfl (by kernel_rfl) (by kernel_rfl) (by decide)
 obtain ⟨x4, e4, b4⟩ := ZhR Tryz.underlying3 (by kernel_rfl) h7
 have h8 := ZdN 3 1 5 Tryz.underlying28 h4 3 (te := 26) (o' := 5) (by kernel_rfl) rfl (by kernel_rfl) (by kernel_rfl) (by decide)
 obtain ⟨x5, e5, b5⟩ := ZhR Tryz.underlying26 (by kernel_rfl) h8
 have h9 := ZdN 4 1 5 Tryz.underlying28 h4 4 (te := 3) (o' := 6) (by kernel_rfl) rfl (by kernel_rfl) (by kernel_rfl) (by decide)
 obtain ⟨x6, e6, b6⟩ := ZhR Tryz.underlying3 (by kernel_rfl) h9
 have h10 := ZdN 7 1 8 Tryz.underlying31 h0 2 (te := 29) (o' := 7) (by kernel_rfl) rfl (by kernel_rfl) (by kernel_rfl) (by decide)
 obtain ⟨x7, v7, e7, d7, b7⟩ := Zu2 (E := E_ii) (Q := ZuL) Tryz.underlying29 (by kernel_rfl) (by kernel_rfl) (by decide) (fun _ => el1) h10
 refine ⟨(⟨x0, x1, x2, x3, x4, x5, x6, x7⟩ : Ro), Zsl (by rw [hl, Enc.clen]; rfl) (fun j y hy => ?_), ⟨b0, b1, b2, b3, b4, b5, b6, b7⟩⟩
 have := (Zf2 (w := w) (k := 0) e0 .i (Zf2 (w := w) (k := 1) e1 .i (Zf2 (w := w) (k := 2) e2 .i (Zf2 (w := w) (k := 3) e3 .i (Zf2 (w := w) (k := 4) e4 .i (Zf2 (w := w) (k := 5) e5 .i (Zf2 (w := w) (k := 6) e6 .i (Zf2 (w := w) (k := 7) e7 d7 (ZtB (w := w)))))))))) j y hy
 simpa using this
theorem own : ownKnob Tryz.prog.godebug = none := by kernel_rfl
set_option maxRecDepth 100000 in
theorem lifted (os : Os) (started : os.Started) (H : Type) (enc : TypeId × Value → H) :
  ReturnsInHanded {} Tryz.checked os 3 .any (Rows.hashPairsSpec.pre6 enc Tryz.prog Tryz.f3 Rows.hashPairsRow.domain false) (Rows.hashPairsSpec.post enc Tryz.prog Tryz.f3 false true false false) := by
 refine Zt0 (C := Tryz.checked) own started (by kernel_rfl) Tryz.func3 rfl rfl Tryz.underlying4 ?_ (by kernel_rfl) (by kernel_rfl)
  (ChangeSpec.witness6 (enc := enc) (C := Tryz.checked) false ⟨#[], #[.slice none 0 0], []⟩ 8 (by kernel_rfl) (by kernel_rfl) (by kernel_rfl) (by kernel_rfl)) ?_
 ·intro ds hlen
  have hlen : ds.length = 1 := hlen.trans (by kernel_rfl)
  match ds, hlen with
  | [_], _ => rfl
 intro W base args ds p hval hA hlt hsz
 rw [Tryz.params3] at hA hval
 obtain ⟨v0, vs0, d0, ds0, p0, q0, hargs, rfl, rfl, h0, r0⟩ := trodAll_cons hA
 obtain ⟨rfl, rfl, rfl⟩ := trodAll_nil r0
 obtain rfl : args = #[v0] := by cases args; simp_all
 obtain ⟨a0, l0, c0, rfl⟩ := Go.WideShapes.okWide_slice Tryz.underlying22 (hval 0 22 v0 rfl rfl)
 obtain ⟨L0, u0, e0, D0, n0, m0⟩ := Zp5 (E := Eo) (Q := el0R) Tryz.underlying22 (by kernel_rfl) (by decide) (fun _ => el0) (Zvi h0)
 obtain rfl : u0 = .slice a0 l0 c0 := by have := e0; simp [Value.cells] at this; exact this.symm
 exact Zv2 (Zle L0 100000 _ (Hp.runs L0)) (Zuk (show VR (ιMk W) (ms Eo L0) _ from D0.vr) Zvc) rfl
theorem over : Rows.hashPairsRow.holds Tryz.pinned (OpenSpec.ofChange Rows.hashPairsSpec) :=
 OpenClaim.holds_of_wide 3 Tryz.f3 rfl rfl rfl rfl rfl rfl rfl ⟨rfl, rfl, rfl, rfl, rfl⟩ rfl rfl rfl rfl rfl (by kernel_rfl) Tryz.func3 ZtS
  (of_decide_eq_true (by kernel_rfl)) (by unfold Func.isWrapper; first | (rw [if_pos (by decide +kernel)]; kernel_rfl) | (rw [if_neg (by decide +kernel)]; exact ⟨rfl, rfl⟩))
  (fun os started H enc _ => lifted os started H enc)
theorem proved : Rows.HashPairsSaid := over
#print axioms proved
end HashPairs
end Ev
end Go.Proofs.YtjdojnecmplmnaaGreat
