/- The law MemRuns, for every input. -/
import Derived.Test.YtfbpdjledonagaaZae
import Derived.Test.YtfbpdjledonagaaZac
import Derived.Test.YtfbpdjledonagaaZab
import Derived.StillTail
import Derived.OrdersHeld
import Derived.WideBlind
/- Calls do what the plain functions say. -/
namespace Go.Proofs.Ytfbpdjledonagaa
open Go.RowKit
namespace Ev
set_option linter.unusedVariables false
set_option maxRecDepth 100000
theorem ZgU (a0 a1 a2 a3 a4 a5 a6 a7 : Int) (L8 : List RC) (v2 v3 v4 : Nat) (v13 : List RA) (v30 : Int) (v34 : List RA) (v35 v36 v37 v38 : Int) (v39 : Bool) (v43 v44 v49 : List Int) (N : Nat) : (Zg a0 a1 a2 a3 a4 a5 a6 a7 L8 N).Ok Try.prog ZQ (.h7m0 v2 v3 v4 v13 v30 v34 v35 v36 v37 v38 v39 v43 v44 v49 : Zf) (ZL a0 a1 a2 a3 a4 a5 a6 a7 L8 N (.h7m0 v2 v3 v4 v13 v30 v34 v35 v36 v37 v38 v39 v43 v44 v49 : Zf)) := by
 show (Zg a0 a1 a2 a3 a4 a5 a6 a7 L8 N).Ok Try.prog ZQ (.h7m0 v2 v3 v4 v13 v30 v34 v35 v36 v37 v38 v39 v43 v44 v49 : Zf) (Zch a0 a1 a2 a3 a4 a5 a6 a7 L8 N v2 v3 v4 v13 v30 v34 v35 v36 v37 v38 v39 v43 v44 v49)
 unfold Zch
 refine Mach.ok_ite (fun g0 => ?_) (fun g0 => ?_)
 ·
  refine Mach.ok_ite (fun g1 => ?_) (fun g1 => ?_)
  ·
   refine Mach.ok_ite (fun g2 => ?_) (fun g2 => ?_)
   ·
    refine Mach.ok_ite (fun g3 => ?_) (fun g3 => ?_)
    ·
     refine Mach.ok_ite (fun g4 => ?_) (fun g4 => ?_)
     ·
      refine Mach.ok_ite (fun g5 => ?_) (fun g5 => ?_)
      ·
       refine Mach.ok_ite (fun g6 => ?_) (fun g6 => ?_)
       ·
        refine Mach.ok_ite (fun g7 => ?_) (fun g7 => ?_)
        ·
         refine Mach.ok_ite (fun g8 => ?_) (fun g8 => ?_)
         ·
          refine Mach.ok_ite (fun g9 => ?_) (fun g9 => ?_)
          ·
           exact Mach.ok_fin (M := Zg a0 a1 a2 a3 a4 a5 a6 a7 L8 N) (cd := 1000000) (cm := 0) (r := (.r0 (false) : Zn)) (fu := 4000) (orc := (Zo [(0, true), (1, true)] [] [] [] [])) (live := []) (u := vf) (bl := []) (ob := [(((v3 : Int) != (v4 : Int)), true), ((decide (v36 < (0 : Int))), true)]) (fun gv => by kernel_rfl) (oD <| oY Zi) rfl (by decide) (by rfl) rr trivial
          ·
           refine Mach.ok_ite (fun g10 => ?_) (fun g10 => ?_)
           ·
            exact Mach.ok_next (M := Zg a0 a1 a2 a3 a4 a5 a6 a7 L8 N) (cd := 1000000) (cm := 0) (y := (.h1m1 ((v2 + 1)) (v13) (v30) (v34) (v43) (v44) (v49) : Zf)) (fu := 4000) (orc := (Zo [(0, true), (1, false), (3, true), (5, true), (10, true), (12, true), (19, true), (21, true), (28, true), (30, false), (32, true), (34, false)] [(0, (((v2 + 1) : Nat) : Int))] [] [] [])) (live := [0, 1, 2, 4, 5, 6, 7, 8, 9, 10, 11, 12, 13, 14, 15, 16]) (tv := fun _ => [some (vi a7), some (ms E_iiiib L8), some (vp 0 0), some (vp 1 0), some (vp 2 0), some (vi (((v2 + 1) : Nat) : Int))]) (bl := [some (.cells [vi a0, vi a1, vi a2, vi a3, vi a4, vi a5, vi a6] 24), some (.cells (Zk Ze 64 [vi a7] v13 [vi a0, vi a1, vi a2, vi a3, vi a4, vi a5, vi a6, vp 4 0, vp 5 0, vp 6 0, vp 7 0]) 111), some (.cells [vi a0, vi a1, vi a2, vi a3, vi a4, vi a5, vi a6, vi a0, vs 8 0 1 1, vn, vs 9 0 (a1).toNat (a1).toNat, vi v30, vq, vq, vs 10 0 (a7).toNat (a7).toNat, vs 11 0 v34.length v34.length] 43), some (.cells [vi a0, vs 12 0 17 17, vs 13 0 17 17, vn, vn, vn, vn, vn, vn, vn, vn, vn, vn, vn, vn, vn, vn, vn, vn, vn] 134), some (.cells [vs 14 0 v43.length v43.length, vs 15 0 v44.length v44.length] 158), some (.cells [vi a4, vq, vq] 163), some (.cells (Zk eI 64 [vi a7] v49 []) 171), some (kza), some (.cells (Zb Zp (List.replicate (a1).toNat (⟨(0 : Int), (0 : Int), (0 : Int)⟩ : RB))) 89), some (.cells (Zb eI (List.replicate (a7).toNat (0 : Int))) 3), some (.cells (Zb Ze v34) 63), some (.cells (Zb Zl klc) 129), some (.cells (Zb Zj kla) 72), some (.cells (Zb eI v43) 155), some (.cells (Zb eI v44) 155), some (.cells (Zb Zj klb) 72)]) (ob := [((IntKind.i64.wrap ((v2 : Int) + (1 : Int))) == (((v2 + 1) : Nat) : Int), true), ((a7 != a7), false), ((decide (a7 > (0 : Int))), true), ((!((a0 == a0) && ((a1 == a1) && ((a2 == a2) && ((a3 == a3) && ((a4 == a4) && ((a5 == a5) && ((a6 == a6) && true)))))))), false), ((decide (a7 > (0 : Int))), true), ((decide (v36 < (0 : Int))), true), ((decide (a7 > (0 : Int))), true), ((decide (v36 < (0 : Int))), true), ((decide (a7 > (0 : Int))), true), ((decide (v36 < (0 : Int))), true), ((decide (a7 > (0 : Int))), true), (((v3 : Int) != (v4 : Int)), false), ((decide (v36 < (0 : Int))), true)]) rfl (show 1 ∈ Zy (Zr 7) from by decide +kernel) (fun gv => by kernel_rfl) (Zc (beq_iff_eq.2 ((wrap_i64 ltA).trans (by first | rfl | omega))) <| oE <| oY <| Zc (by rw [Bool.not_eq_false']; first | (simp only [beq_self_eq_true, Bool.and_self]; done) | (simp only [Bool.and_true, Bool.and_eq_true, beq_iff_eq] <;> first | omega | (simp_all; done) | grind)) <| oY <| oY <| oY <| oY <| oY <| oY <| oY <| oE <| oY Zi) rfl (by decide) (by rfl) (fun _ => ⟨rr, ⟨rr, ⟨rr, ⟨rr, ⟨rr, ⟨rr, trivial⟩⟩⟩⟩⟩⟩) ⟨⟨rfl, ⟨[], by rfl⟩, by rfl⟩, ⟨⟨rfl, ⟨[], by kernel_rfl⟩, by kernel_rfl⟩, ⟨⟨rfl, ⟨[], by rfl⟩, by rfl⟩, ⟨⟨rfl, ⟨[], by rfl⟩, by rfl⟩, ⟨⟨rfl, ⟨[], by rfl⟩, by rfl⟩, ⟨⟨rfl, ⟨[], by rfl⟩, by rfl⟩, ⟨⟨rfl, ⟨[], by kernel_rfl⟩, by kernel_rfl⟩, ⟨⟨rfl, ⟨[], by rfl⟩, by rfl⟩, ⟨(Za (E := Zp) (α := RB) _ (List.replicate (a1).toNat (⟨(0 : Int), (0 : Int), (0 : Int)⟩ : RB)) _), ⟨(Za (E := eI) (α := Int) _ (List.replicate (a7).toNat (0 : Int)) _), ⟨(Za (E := Ze) (α := RA) _ v34 _), ⟨(Za (E := Zl) (α := RD) _ klc _), ⟨(Za (E := Zj) (α := R_ii) _ kla _), ⟨(Za (E := eI) (α := Int) _ v43 _), ⟨(Za (E := eI) (α := Int) _ v44 _), ⟨(Za (E := Zj) (α := R_ii) _ klb _), trivial⟩⟩⟩⟩⟩⟩⟩⟩⟩⟩⟩⟩⟩⟩⟩⟩
           ·
            exact Mach.ok_none
         ·
          refine Mach.ok_ite (fun g9 => ?_) (fun g9 => ?_)
          ·
           refine Mach.ok_ite (fun g10 => ?_) (fun g10 => ?_)
           ·
            exact Mach.ok_fin (M := Zg a0 a1 a2 a3 a4 a5 a6 a7 L8 N) (cd := 1000000) (cm := 0) (r := (.r0 (false) : Zn)) (fu := 4000) (orc := (Zo [(0, false), (1, true), (2, true)] [] [] [] [])) (live := []) (u := vf) (bl := []) (ob := [(((v3 : Int) != (v4 : Int)), true), ((decide (v36 ≥ (v34.length : Int))), true), ((decide (v36 < (0 : Int))), false)]) (fun gv => by kernel_rfl) (oD <| oY <| oN Zi) rfl (by decide) (by rfl) rr trivial
           ·
            refine Mach.ok_ite (fun g11 => ?_) (fun g11 => ?_)
            ·
             refine Mach.ok_ite (fun g12 => ?_) (fun g12 => ?_)
             ·
              exact Mach.ok_next (M := Zg a0 a1 a2 a3 a4 a5 a6 a7 L8 N) (cd := 1000000) (cm := 0) (y := (.h1m1 ((v2 + 1)) (v13) (v30) (v34) (v43) (v44) (v49) : Zf)) (fu := 4000) (orc := (Zo [(0, false), (1, true), (2, false), (4, true), (6, false), (7, true), (12, true), (14, false), (15, true), (22, true), (24, false), (25, true), (32, true), (34, false), (36, true), (38, false)] [(0, (((v2 + 1) : Nat) : Int))] [] [] [])) (live := [0, 1, 2, 4, 5, 6, 7, 8, 9, 10, 11, 12, 13, 14, 15, 16]) (tv := fun _ => [some (vi a7), some (ms E_iiiib L8), some (vp 0 0), some (vp 1 0), some (vp 2 0), some (vi (((v2 + 1) : Nat) : Int))]) (bl := [some (.cells [vi a0, vi a1, vi a2, vi a3, vi a4, vi a5, vi a6] 24), some (.cells (Zk Ze 64 [vi a7] v13 [vi a0, vi a1, vi a2, vi a3, vi a4, vi a5, vi a6, vp 4 0, vp 5 0, vp 6 0, vp 7 0]) 111), some (.cells [vi a0, vi a1, vi a2, vi a3, vi a4, vi a5, vi a6, vi a0, vs 8 0 1 1, vn, vs 9 0 (a1).toNat (a1).toNat, vi v30, vq, vq, vs 10 0 (a7).toNat (a7).toNat, vs 11 0 v34.length v34.length] 43), some (.cells [vi a0, vs 12 0 17 17, vs 13 0 17 17, vn, vn, vn, vn, vn, vn, vn, vn, vn, vn, vn, vn, vn, vn, vn, vn, vn] 134), some (.cells [vs 14 0 v43.length v43.length, vs 15 0 v44.length v44.length] 158), some (.cells [vi a4, vq, vq] 163), some (.cells (Zk eI 64 [vi a7] v49 []) 171), some (kza), some (.cells (Zb Zp (List.replicate (a1).toNat (⟨(0 : Int), (0 : Int), (0 : Int)⟩ : RB))) 89), some (.cells (Zb eI (List.replicate (a7).toNat (0 : Int))) 3), some (.cells (Zb Ze v34) 63), some (.cells (Zb Zl klc) 129), some (.cells (Zb Zj kla) 72), some (.cells (Zb eI v43) 155), some (.cells (Zb eI v44) 155), some (.cells (Zb Zj klb) 72)]) (ob := [((IntKind.i64.wrap ((v2 : Int) + (1 : Int))) == (((v2 + 1) : Nat) : Int), true), ((a7 != a7), false), ((decide (a7 > (0 : Int))), true), ((!((a0 == a0) && ((a1 == a1) && ((a2 == a2) && ((a3 == a3) && ((a4 == a4) && ((a5 == a5) && ((a6 == a6) && true)))))))), false), ((decide (a7 > (0 : Int))), true), ((decide (v36 ≥ a7)), true), ((decide (v36 < (0 : Int))), false), ((decide (a7 > (0 : Int))), true), ((decide (v36 ≥ a7)), true), ((decide (v36 < (0 : Int))), false), ((decide (a7 > (0 : Int))), true), ((decide (v36 ≥ a7)), true), ((decide (v36 < (0 : Int))), false), ((decide (a7 > (0 : Int))), true), (((v3 : Int) != (v4 : Int)), false), ((decide (v36 ≥ (v34.length : Int))), true), ((decide (v36 < (0 : Int))), false)]) rfl (show 1 ∈ Zy (Zr 7) from by decide +kernel) (fun gv => by kernel_rfl) (Zc (beq_iff_eq.2 ((wrap_i64 ltA).trans (by first | rfl | omega))) <| oE <| oY <| Zc (by rw [Bool.not_eq_false']; first | (simp only [beq_self_eq_true, Bool.and_self]; done) | (simp only [Bool.and_true, Bool.and_eq_true, beq_iff_eq] <;> first | omega | (simp_all; done) | grind)) <| oY <| oY <| oN <| oY <| oY <| oN <| oY <| oY <| oN <| oY <| oE <| oY <| oN Zi) rfl (by decide) (by rfl) (fun _ => ⟨rr, ⟨rr, ⟨rr, ⟨rr, ⟨rr, ⟨rr, trivial⟩⟩⟩⟩⟩⟩) ⟨⟨rfl, ⟨[], by rfl⟩, by rfl⟩, ⟨⟨rfl, ⟨[], by kernel_rfl⟩, by kernel_rfl⟩, ⟨⟨rfl, ⟨[], by rfl⟩, by rfl⟩, ⟨⟨rfl, ⟨[], by rfl⟩, by rfl⟩, ⟨⟨rfl, ⟨[], by rfl⟩, by rfl⟩, ⟨⟨rfl, ⟨[], by rfl⟩, by rfl⟩, ⟨⟨rfl, ⟨[], by kernel_rfl⟩, by kernel_rfl⟩, ⟨⟨rfl, ⟨[], by rfl⟩, by rfl⟩, ⟨(Za (E := Zp) (α := RB) _ (List.replicate (a1).toNat (⟨(0 : Int), (0 : Int), (0 : Int)⟩ : RB)) _), ⟨(Za (E := eI) (α := Int) _ (List.replicate (a7).toNat (0 : Int)) _), ⟨(Za (E := Ze) (α := RA) _ v34 _), ⟨(Za (E := Zl) (α := RD) _ klc _), ⟨(Za (E := Zj) (α := R_ii) _ kla _), ⟨(Za (E := eI) (α := Int) _ v43 _), ⟨(Za (E := eI) (α := Int) _ v44 _), ⟨(Za (E := Zj) (α := R_ii) _ klb _), trivial⟩⟩⟩⟩⟩⟩⟩⟩⟩⟩⟩⟩⟩⟩⟩⟩
             ·
              exact Mach.ok_none
            ·
             refine Mach.ok_ite (fun g12 => ?_) (fun g12 => ?_)
             ·
              exact Mach.ok_fin (M := Zg a0 a1 a2 a3 a4 a5 a6 a7 L8 N) (cd := 1000000) (cm := 0) (r := (.r0 (false) : Zn)) (fu := 4000) (orc := (Zo [(0, false), (1, true), (2, false), (4, true), (6, false), (7, false), (10, true)] [] [(0, (v36).toNat)] [(6, [.i (v13.getD (v36).toNat RA.z).a0, .b (v13.getD (v36).toNat RA.z).a1, .b (v13.getD (v36).toNat RA.z).a2])] [])) (live := []) (u := vf) (bl := []) (ob := [(((v13.getD (v36).toNat RA.z).a0 != (0 : Int)), true), (Z0 (Zs 3 (List.drop (1 + ((v36).toNat * 3)) (Zk Ze 64 [vi a7] v13 [vi a0, vi a1, vi a2, vi a3, vi a4, vi a5, vi a6, vp 4 0, vp 5 0, vp 6 0, vp 7 0]))) [.i (v13.getD (v36).toNat RA.z).a0, .b (v13.getD (v36).toNat RA.z).a1, .b (v13.getD (v36).toNat RA.z).a2], true), (Nat.blt (v36).toNat 64, true), (v36 == Int.ofNat (v36).toNat, true), ((decide (v36 ≥ a7)), false), ((decide (v36 < (0 : Int))), false), ((decide (a7 > (0 : Int))), true), (((v3 : Int) != (v4 : Int)), false), ((decide (v36 ≥ (v34.length : Int))), true), ((decide (v36 < (0 : Int))), false)]) (fun gv => by kernel_rfl) (oD <| Zc (Z3 (E := Ze) (L := v13) (n := 64) (p := 1) (i := (v36).toNat) (q := 0) rfl (by omega) (show (1 + ((v36).toNat * 3)) = 1 + (v36).toNat * 3 + 0 from by omega) (show 0 + 3 ≤ 3 from by decide) rfl rfl) <| oB <| oI <| oN <| oN <| oY <| oE <| oY <| oN Zi) rfl (by decide) (by rfl) rr trivial
             ·
              refine Mach.ok_ite (fun g13 => ?_) (fun g13 => ?_)
              ·
               exact Mach.ok_fin (M := Zg a0 a1 a2 a3 a4 a5 a6 a7 L8 N) (cd := 1000000) (cm := 0) (r := (.r0 (false) : Zn)) (fu := 4000) (orc := (Zo [(0, false), (1, true), (2, false), (4, true), (6, false), (7, false), (10, false), (12, true), (14, false), (15, false), (18, true)] [] [(0, (v36).toNat), (1, (v36).toNat)] [(6, [.i (v13.getD (v36).toNat RA.z).a0, .b (v13.getD (v36).toNat RA.z).a1, .b (v13.getD (v36).toNat RA.z).a2]), (11, [.i (v13.getD (v36).toNat RA.z).a0, .b (v13.getD (v36).toNat RA.z).a1, .b (v13.getD (v36).toNat RA.z).a2])] [])) (live := []) (u := vf) (bl := []) (ob := [((v13.getD (v36).toNat RA.z).a1, true), (Z0 (Zs 3 (List.drop (1 + ((v36).toNat * 3)) (Zk Ze 64 [vi a7] v13 [vi a0, vi a1, vi a2, vi a3, vi a4, vi a5, vi a6, vp 4 0, vp 5 0, vp 6 0, vp 7 0]))) [.i (v13.getD (v36).toNat RA.z).a0, .b (v13.getD (v36).toNat RA.z).a1, .b (v13.getD (v36).toNat RA.z).a2], true), (Nat.blt (v36).toNat 64, true), (v36 == Int.ofNat (v36).toNat, true), ((decide (v36 ≥ a7)), false), ((decide (v36 < (0 : Int))), false), ((decide (a7 > (0 : Int))), true), (((v13.getD (v36).toNat RA.z).a0 != (0 : Int)), false), (Z0 (Zs 3 (List.drop (1 + ((v36).toNat * 3)) (Zk Ze 64 [vi a7] v13 [vi a0, vi a1, vi a2, vi a3, vi a4, vi a5, vi a6, vp 4 0, vp 5 0, vp 6 0, vp 7 0]))) [.i (v13.getD (v36).toNat RA.z).a0, .b (v13.getD (v36).toNat RA.z).a1, .b (v13.getD (v36).toNat RA.z).a2], true), (Nat.blt (v36).toNat 64, true), (v36 == Int.ofNat (v36).toNat, true), ((decide (v36 ≥ a7)), false), ((decide (v36 < (0 : Int))), false), ((decide (a7 > (0 : Int))), true), (((v3 : Int) != (v4 : Int)), false), ((decide (v36 ≥ (v34.length : Int))), true), ((decide (v36 < (0 : Int))), false)]) (fun gv => by kernel_rfl) (Zc (by assumption) <| Zc (Z3 (E := Ze) (L := v13) (n := 64) (p := 1) (i := (v36).toNat) (q := 0) rfl (by omega) (show (1 + ((v36).toNat * 3)) = 1 + (v36).toNat * 3 + 0 from by omega) (show 0 + 3 ≤ 3 from by decide) rfl rfl) <| oB <| oI <| oN <| oN <| oY <| oE <| Zc (Z3 (E := Ze) (L := v13) (n := 64) (p := 1) (i := (v36).toNat) (q := 0) rfl (by omega) (show (1 + ((v36).toNat * 3)) = 1 + (v36).toNat * 3 + 0 from by omega) (show 0 + 3 ≤ 3 from by decide) rfl rfl) <| oB <| oI <| oN <| oN <| oY <| oE <| oY <| oN Zi) rfl (by decide) (by rfl) rr trivial
              ·
               refine Mach.ok_ite (fun g14 => ?_) (fun g14 => ?_)
               ·
                exact Mach.ok_fin (M := Zg a0 a1 a2 a3 a4 a5 a6 a7 L8 N) (cd := 1000000) (cm := 0) (r := (.r0 (false) : Zn)) (fu := 4000) (orc := (Zo [(0, false), (1, true), (2, false), (4, true), (6, false), (7, false), (10, false), (12, true), (14, false), (15, false), (18, false), (22, true), (24, false), (25, false), (28, true)] [] [(0, (v36).toNat), (1, (v36).toNat), (2, (v36).toNat)] [(6, [.i (v13.getD (v36).toNat RA.z).a0, .b (v13.getD (v36).toNat RA.z).a1, .b (v13.getD (v36).toNat RA.z).a2]), (11, [.i (v13.getD (v36).toNat RA.z).a0, .b (v13.getD (v36).toNat RA.z).a1, .b (v13.getD (v36).toNat RA.z).a2]), (16, [.i (v13.getD (v36).toNat RA.z).a0, .b (v13.getD (v36).toNat RA.z).a1, .b (v13.getD (v36).toNat RA.z).a2])] [])) (live := []) (u := vf) (bl := []) (ob := [((v13.getD (v36).toNat RA.z).a2, true), (Z0 (Zs 3 (List.drop (1 + ((v36).toNat * 3)) (Zk Ze 64 [vi a7] v13 [vi a0, vi a1, vi a2, vi a3, vi a4, vi a5, vi a6, vp 4 0, vp 5 0, vp 6 0, vp 7 0]))) [.i (v13.getD (v36).toNat RA.z).a0, .b (v13.getD (v36).toNat RA.z).a1, .b (v13.getD (v36).toNat RA.z).a2], true), (Nat.blt (v36).toNat 64, true), (v36 == Int.ofNat (v36).toNat, true), ((decide (v36 ≥ a7)), false), ((decide (v36 < (0 : Int))), false), ((decide (a7 > (0 : Int))), true), ((v13.getD (v36).toNat RA.z).a1, false), (Z0 (Zs 3 (List.drop (1 + ((v36).toNat * 3)) (Zk Ze 64 [vi a7] v13 [vi a0, vi a1, vi a2, vi a3, vi a4, vi a5, vi a6, vp 4 0, vp 5 0, vp 6 0, vp 7 0]))) [.i (v13.getD (v36).toNat RA.z).a0, .b (v13.getD (v36).toNat RA.z).a1, .b (v13.getD (v36).toNat RA.z).a2], true), (Nat.blt (v36).toNat 64, true), (v36 == Int.ofNat (v36).toNat, true), ((decide (v36 ≥ a7)), false), ((decide (v36 < (0 : Int))), false), ((decide (a7 > (0 : Int))), true), (((v13.getD (v36).toNat RA.z).a0 != (0 : Int)), false), (Z0 (Zs 3 (List.drop (1 + ((v36).toNat * 3)) (Zk Ze 64 [vi a7] v13 [vi a0, vi a1, vi a2, vi a3, vi a4, vi a5, vi a6, vp 4 0, vp 5 0, vp 6 0, vp 7 0]))) [.i (v13.getD (v36).toNat RA.z).a0, .b (v13.getD (v36).toNat RA.z).a1, .b (v13.getD (v36).toNat RA.z).a2], true), (Nat.blt (v36).toNat 64, true), (v36 == Int.ofNat (v36).toNat, true), ((decide (v36 ≥ a7)), false), ((decide (v36 < (0 : Int))), false), ((decide (a7 > (0 : Int))), true), (((v3 : Int) != (v4 : Int)), false), ((decide (v36 ≥ (v34.length : Int))), true), ((decide (v36 < (0 : Int))), false)]) (fun gv => by kernel_rfl) (Zc (by assumption) <| Zc (Z3 (E := Ze) (L := v13) (n := 64) (p := 1) (i := (v36).toNat) (q := 0) rfl (by omega) (show (1 + ((v36).toNat * 3)) = 1 + (v36).toNat * 3 + 0 from by omega) (show 0 + 3 ≤ 3 from by decide) rfl rfl) <| oB <| oI <| oN <| oN <| oY <| Zc (Bool.eq_false_iff.2 (by assumption)) <| Zc (Z3 (E := Ze) (L := v13) (n := 64) (p := 1) (i := (v36).toNat) (q := 0) rfl (by omega) (show (1 + ((v36).toNat * 3)) = 1 + (v36).toNat * 3 + 0 from by omega) (show 0 + 3 ≤ 3 from by decide) rfl rfl) <| oB <| oI <| oN <| oN <| oY <| oE <| Zc (Z3 (E := Ze) (L := v13) (n := 64) (p := 1) (i := (v36).toNat) (q := 0) rfl (by omega) (show (1 + ((v36).toNat * 3)) = 1 + (v36).toNat * 3 + 0 from by omega) (show 0 + 3 ≤ 3 from by decide) rfl rfl) <| oB <| oI <| oN <| oN <| oY <| oE <| oY <| oN Zi) rfl (by decide) (by rfl) rr trivial
               ·
                refine Mach.ok_ite (fun g15 => ?_) (fun g15 => ?_)
                ·
                 exact Mach.ok_next (M := Zg a0 a1 a2 a3 a4 a5 a6 a7 L8 N) (cd := 1000000) (cm := 0) (y := (.h1m1 ((v2 + 1)) (v13) (v30) (v34) (v43) (v44) (v49) : Zf)) (fu := 4000) (orc := (Zo [(0, false), (1, true), (2, false), (4, true), (6, false), (7, false), (10, false), (12, true), (14, false), (15, false), (18, false), (22, true), (24, false), (25, false), (28, false), (32, true), (34, false), (36, true), (38, false)] [(0, (((v2 + 1) : Nat) : Int))] [(0, (v36).toNat), (1, (v36).toNat), (2, (v36).toNat)] [(6, [.i (v13.getD (v36).toNat RA.z).a0, .b (v13.getD (v36).toNat RA.z).a1, .b (v13.getD (v36).toNat RA.z).a2]), (11, [.i (v13.getD (v36).toNat RA.z).a0, .b (v13.getD (v36).toNat RA.z).a1, .b (v13.getD (v36).toNat RA.z).a2]), (16, [.i (v13.getD (v36).toNat RA.z).a0, .b (v13.getD (v36).toNat RA.z).a1, .b (v13.getD (v36).toNat RA.z).a2])] [])) (live := [0, 1, 2, 4, 5, 6, 7, 8, 9, 10, 11, 12, 13, 14, 15, 16]) (tv := fun _ => [some (vi a7), some (ms E_iiiib L8), some (vp 0 0), some (vp 1 0), some (vp 2 0), some (vi (((v2 + 1) : Nat) : Int))]) (bl := [some (.cells [vi a0, vi a1, vi a2, vi a3, vi a4, vi a5, vi a6] 24), some (.cells (Zk Ze 64 [vi a7] v13 [vi a0, vi a1, vi a2, vi a3, vi a4, vi a5, vi a6, vp 4 0, vp 5 0, vp 6 0, vp 7 0]) 111), some (.cells [vi a0, vi a1, vi a2, vi a3, vi a4, vi a5, vi a6, vi a0, vs 8 0 1 1, vn, vs 9 0 (a1).toNat (a1).toNat, vi v30, vq, vq, vs 10 0 (a7).toNat (a7).toNat, vs 11 0 v34.length v34.length] 43), some (.cells [vi a0, vs 12 0 17 17, vs 13 0 17 17, vn, vn, vn, vn, vn, vn, vn, vn, vn, vn, vn, vn, vn, vn, vn, vn, vn] 134), some (.cells [vs 14 0 v43.length v43.length, vs 15 0 v44.length v44.length] 158), some (.cells [vi a4, vq, vq] 163), some (.cells (Zk eI 64 [vi a7] v49 []) 171), some (kza), some (.cells (Zb Zp (List.replicate (a1).toNat (⟨(0 : Int), (0 : Int), (0 : Int)⟩ : RB))) 89), some (.cells (Zb eI (List.replicate (a7).toNat (0 : Int))) 3), some (.cells (Zb Ze v34) 63), some (.cells (Zb Zl klc) 129), some (.cells (Zb Zj kla) 72), some (.cells (Zb eI v43) 155), some (.cells (Zb eI v44) 155), some (.cells (Zb Zj klb) 72)]) (ob := [((IntKind.i64.wrap ((v2 : Int) + (1 : Int))) == (((v2 + 1) : Nat) : Int), true), ((a7 != a7), false), ((decide (a7 > (0 : Int))), true), ((!((a0 == a0) && ((a1 == a1) && ((a2 == a2) && ((a3 == a3) && ((a4 == a4) && ((a5 == a5) && ((a6 == a6) && true)))))))), false), ((decide (a7 > (0 : Int))), true), ((v13.getD (v36).toNat RA.z).a2, false), (Z0 (Zs 3 (List.drop (1 + ((v36).toNat * 3)) (Zk Ze 64 [vi a7] v13 [vi a0, vi a1, vi a2, vi a3, vi a4, vi a5, vi a6, vp 4 0, vp 5 0, vp 6 0, vp 7 0]))) [.i (v13.getD (v36).toNat RA.z).a0, .b (v13.getD (v36).toNat RA.z).a1, .b (v13.getD (v36).toNat RA.z).a2], true), (Nat.blt (v36).toNat 64, true), (v36 == Int.ofNat (v36).toNat, true), ((decide (v36 ≥ a7)), false), ((decide (v36 < (0 : Int))), false), ((decide (a7 > (0 : Int))), true), ((v13.getD (v36).toNat RA.z).a1, false), (Z0 (Zs 3 (List.drop (1 + ((v36).toNat * 3)) (Zk Ze 64 [vi a7] v13 [vi a0, vi a1, vi a2, vi a3, vi a4, vi a5, vi a6, vp 4 0, vp 5 0, vp 6 0, vp 7 0]))) [.i (v13.getD (v36).toNat RA.z).a0, .b (v13.getD (v36).toNat RA.z).a1, .b (v13.getD (v36).toNat RA.z).a2], true), (Nat.blt (v36).toNat 64, true), (v36 == Int.ofNat (v36).toNat, true), ((decide (v36 ≥ a7)), false), ((decide (v36 < (0 : Int))), false), ((decide (a7 > (0 : Int))), true), (((v13.getD (v36).toNat RA.z).a0 != (0 : Int)), false), (Z0 (Zs 3 (List.drop (1 + ((v36).toNat * 3)) (Zk Ze 64 [vi a7] v13 [vi a0, vi a1, vi a2, vi a3, vi a4, vi a5, vi a6, vp 4 0, vp 5 0, vp 6 0, vp 7 0]))) [.i (v13.getD (v36).toNat RA.z).a0, .b (v13.getD (v36).toNat RA.z).a1, .b (v13.getD (v36).toNat RA.z).a2], true), (Nat.blt (v36).toNat 64, true), (v36 == Int.ofNat (v36).toNat, true), ((decide (v36 ≥ a7)), false), ((decide (v36 < (0 : Int))), false), ((decide (a7 > (0 : Int))), true), (((v3 : Int) != (v4 : Int)), false), ((decide (v36 ≥ (v34.length : Int))), true), ((decide (v36 < (0 : Int))), false)]) rfl (show 1 ∈ Zy (Zr 7) from by decide +kernel) (fun gv => by kernel_rfl) (Zc (beq_iff_eq.2 ((wrap_i64 ltA).trans (by first | rfl | omega))) <| oE <| oY <| Zc (by rw [Bool.not_eq_false']; first | (simp only [beq_self_eq_true, Bool.and_self]; done) | (simp only [Bool.and_true, Bool.and_eq_true, beq_iff_eq] <;> first | omega | (simp_all; done) | grind)) <| oY <| Zc (Bool.eq_false_iff.2 (by assumption)) <| Zc (Z3 (E := Ze) (L := v13) (n := 64) (p := 1) (i := (v36).toNat) (q := 0) rfl (by omega) (show (1 + ((v36).toNat * 3)) = 1 + (v36).toNat * 3 + 0 from by omega) (show 0 + 3 ≤ 3 from by decide) rfl rfl) <| oB <| oI <| oN <| oN <| oY <| Zc (Bool.eq_false_iff.2 (by assumption)) <| Zc (Z3 (E := Ze) (L := v13) (n := 64) (p := 1) (i := (v36).toNat) (q := 0) rfl (by omega) (show (1 + ((v36).toNat * 3)) = 1 + (v36).toNat * 3 + 0 from by omega) (show 0 + 3 ≤ 3 from by decide) rfl rfl) <| oB <| oI <| oN <| oN <| oY <| oE <| Zc (Z3 (E := Ze) (L := v13) (n := 64) (p := 1) (i := (v36).toNat) (q := 0) rfl (by omega) (show (1 + ((v36).toNat * 3)) = 1 + (v36).toNat * 3 + 0 from by omega) (show 0 + 3 ≤ 3 from by decide) rfl rfl) <| oB <| oI <| oN <| oN <| oY <| oE <| oY <| oN Zi) rfl (by decide) (by rfl) (fun _ => ⟨rr, ⟨rr, ⟨rr, ⟨rr, ⟨rr, ⟨rr, trivial⟩⟩⟩⟩⟩⟩) ⟨⟨rfl, ⟨[], by rfl⟩, by rfl⟩, ⟨⟨rfl, ⟨[], by kernel_rfl⟩, by kernel_rfl⟩, ⟨⟨rfl, ⟨[], by rfl⟩, by rfl⟩, ⟨⟨rfl, ⟨[], by rfl⟩, by rfl⟩, ⟨⟨rfl, ⟨[], by rfl⟩, by rfl⟩, ⟨⟨rfl, ⟨[], by rfl⟩, by rfl⟩, ⟨⟨rfl, ⟨[], by kernel_rfl⟩, by kernel_rfl⟩, ⟨⟨rfl, ⟨[], by rfl⟩, by rfl⟩, ⟨(Za (E := Zp) (α := RB) _ (List.replicate (a1).toNat (⟨(0 : Int), (0 : Int), (0 : Int)⟩ : RB)) _), ⟨(Za (E := eI) (α := Int) _ (List.replicate (a7).toNat (0 : Int)) _), ⟨(Za (E := Ze) (α := RA) _ v34 _), ⟨(Za (E := Zl) (α := RD) _ klc _), ⟨(Za (E := Zj) (α := R_ii) _ kla _), ⟨(Za (E := eI) (α := Int) _ v43 _), ⟨(Za (E := eI) (α := Int) _ v44 _), ⟨(Za (E := Zj) (α := R_ii) _ klb _), trivial⟩⟩⟩⟩⟩⟩⟩⟩⟩⟩⟩⟩⟩⟩⟩⟩
                ·
                 exact Mach.ok_none
          ·
           refine Mach.ok_ite (fun g10 => ?_) (fun g10 => ?_)
           ·
            exact Mach.ok_fin (M := Zg a0 a1 a2 a3 a4 a5 a6 a7 L8 N) (cd := 1000000) (cm := 0) (r := (.r0 (false) : Zn)) (fu := 4000) (orc := (Zo [(0, false), (1, false), (2, true)] [] [(0, (v36).toNat)] [(4, [.i (v34.getD (v36).toNat RA.z).a0, .b (v34.getD (v36).toNat RA.z).a1, .b (v34.getD (v36).toNat RA.z).a2])] [])) (live := []) (u := vf) (bl := []) (ob := [(((v3 : Int) != (v4 : Int)), true), (Z0 (Zs 3 (List.drop (0 + ((v36).toNat * 3)) (Zb Ze v34))) [.i (v34.getD (v36).toNat RA.z).a0, .b (v34.getD (v36).toNat RA.z).a1, .b (v34.getD (v36).toNat RA.z).a2], true), (Nat.blt (v36).toNat v34.length, true), (v36 == Int.ofNat (v36).toNat, true), ((decide (v36 ≥ (v34.length : Int))), false), ((decide (v36 < (0 : Int))), false)]) (fun gv => by kernel_rfl) (oD <| Zc (ZD (E := Ze) (L := v34) (i := (v36).toNat) (q := 0) (by omega) (show (0 + ((v36).toNat * 3)) = (v36).toNat * 3 + 0 from by omega) (show 0 + 3 ≤ 3 from by decide) rfl rfl) <| oB <| oI <| oN <| oN Zi) rfl (by decide) (by rfl) rr trivial
           ·
            refine Mach.ok_ite (fun g11 => ?_) (fun g11 => ?_)
            ·
             refine Mach.ok_ite (fun g12 => ?_) (fun g12 => ?_)
             ·
              exact Mach.ok_fin (M := Zg a0 a1 a2 a3 a4 a5 a6 a7 L8 N) (cd := 1000000) (cm := 0) (r := (.r0 (false) : Zn)) (fu := 4000) (orc := (Zo [(0, false), (1, false), (2, false), (4, true), (6, false), (7, true), (10, true)] [] [(0, (v36).toNat)] [(4, [.i (v34.getD (v36).toNat RA.z).a0, .b (v34.getD (v36).toNat RA.z).a1, .b (v34.getD (v36).toNat RA.z).a2])] [])) (live := []) (u := vf) (bl := []) (ob := [(((0 : Int) != (v34.getD (v36).toNat RA.z).a0), true), ((decide (v36 ≥ a7)), true), ((decide (v36 < (0 : Int))), false), ((decide (a7 > (0 : Int))), true), (((v3 : Int) != (v4 : Int)), false), (Z0 (Zs 3 (List.drop (0 + ((v36).toNat * 3)) (Zb Ze v34))) [.i (v34.getD (v36).toNat RA.z).a0, .b (v34.getD (v36).toNat RA.z).a1, .b (v34.getD (v36).toNat RA.z).a2], true), (Nat.blt (v36).toNat v34.length, true), (v36 == Int.ofNat (v36).toNat, true), ((decide (v36 ≥ (v34.length : Int))), false), ((decide (v36 < (0 : Int))), false)]) (fun gv => by kernel_rfl) (oD <| oY <| oN <| oY <| oE <| Zc (ZD (E := Ze) (L := v34) (i := (v36).toNat) (q := 0) (by omega) (show (0 + ((v36).toNat * 3)) = (v36).toNat * 3 + 0 from by omega) (show 0 + 3 ≤ 3 from by decide) rfl rfl) <| oB <| oI <| oN <| oN Zi) rfl (by decide) (by rfl) rr trivial
             ·
              refine Mach.ok_ite (fun g13 => ?_) (fun g13 => ?_)
              ·
               exact Mach.ok_fin (M := Zg a0 a1 a2 a3 a4 a5 a6 a7 L8 N) (cd := 1000000) (cm := 0) (r := (.r0 (false) : Zn)) (fu := 4000) (orc := (Zo [(0, false), (1, false), (2, false), (4, true), (6, false), (7, true), (10, false), (12, true), (14, false), (15, true), (19, true)] [] [(0, (v36).toNat)] [(4, [.i (v34.getD (v36).toNat RA.z).a0, .b (v34.getD (v36).toNat RA.z).a1, .b (v34.getD (v36).toNat RA.z).a2])] [])) (live := []) (u := vf) (bl := []) (ob := [((v34.getD (v36).toNat RA.z).a1, true), ((decide (v36 ≥ a7)), true), ((decide (v36 < (0 : Int))), false), ((decide (a7 > (0 : Int))), true), (((0 : Int) != (v34.getD (v36).toNat RA.z).a0), false), ((decide (v36 ≥ a7)), true), ((decide (v36 < (0 : Int))), false), ((decide (a7 > (0 : Int))), true), (((v3 : Int) != (v4 : Int)), false), (Z0 (Zs 3 (List.drop (0 + ((v36).toNat * 3)) (Zb Ze v34))) [.i (v34.getD (v36).toNat RA.z).a0, .b (v34.getD (v36).toNat RA.z).a1, .b (v34.getD (v36).toNat RA.z).a2], true), (Nat.blt (v36).toNat v34.length, true), (v36 == Int.ofNat (v36).toNat, true), ((decide (v36 ≥ (v34.length : Int))), false), ((decide (v36 < (0 : Int))), false)]) (fun gv => by kernel_rfl) (Zc (by assumption) <| oY <| oN <| oY <| oE <| oY <| oN <| oY <| oE <| Zc (ZD (E := Ze) (L := v34) (i := (v36).toNat) (q := 0) (by omega) (show (0 + ((v36).toNat * 3)) = (v36).toNat * 3 + 0 from by omega) (show 0 + 3 ≤ 3 from by decide) rfl rfl) <| oB <| oI <| oN <| oN Zi) rfl (by decide) (by rfl) rr trivial
              ·
               refine Mach.ok_ite (fun g14 => ?_) (fun g14 => ?_)
               ·
                exact Mach.ok_fin (M := Zg a0 a1 a2 a3 a4 a5 a6 a7 L8 N) (cd := 1000000) (cm := 0) (r := (.r0 (false) : Zn)) (fu := 4000) (orc := (Zo [(0, false), (1, false), (2, false), (4, true), (6, false), (7, true), (10, false), (12, true), (14, false), (15, true), (19, false), (22, true), (24, false), (25, true), (29, true)] [] [(0, (v36).toNat)] [(4, [.i (v34.getD (v36).toNat RA.z).a0, .b (v34.getD (v36).toNat RA.z).a1, .b (v34.getD (v36).toNat RA.z).a2])] [])) (live := []) (u := vf) (bl := []) (ob := [((v34.getD (v36).toNat RA.z).a2, true), ((decide (v36 ≥ a7)), true), ((decide (v36 < (0 : Int))), false), ((decide (a7 > (0 : Int))), true), ((v34.getD (v36).toNat RA.z).a1, false), ((decide (v36 ≥ a7)), true), ((decide (v36 < (0 : Int))), false), ((decide (a7 > (0 : Int))), true), (((0 : Int) != (v34.getD (v36).toNat RA.z).a0), false), ((decide (v36 ≥ a7)), true), ((decide (v36 < (0 : Int))), false), ((decide (a7 > (0 : Int))), true), (((v3 : Int) != (v4 : Int)), false), (Z0 (Zs 3 (List.drop (0 + ((v36).toNat * 3)) (Zb Ze v34))) [.i (v34.getD (v36).toNat RA.z).a0, .b (v34.getD (v36).toNat RA.z).a1, .b (v34.getD (v36).toNat RA.z).a2], true), (Nat.blt (v36).toNat v34.length, true), (v36 == Int.ofNat (v36).toNat, true), ((decide (v36 ≥ (v34.length : Int))), false), ((decide (v36 < (0 : Int))), false)]) (fun gv => by kernel_rfl) (Zc (by assumption) <| oY <| oN <| oY <| Zc (Bool.eq_false_iff.2 (by assumption)) <| oY <| oN <| oY <| oE <| oY <| oN <| oY <| oE <| Zc (ZD (E := Ze) (L := v34) (i := (v36).toNat) (q := 0) (by omega) (show (0 + ((v36).toNat * 3)) = (v36).toNat * 3 + 0 from by omega) (show 0 + 3 ≤ 3 from by decide) rfl rfl) <| oB <| oI <| oN <| oN Zi) rfl (by decide) (by rfl) rr trivial
               ·
                refine Mach.ok_ite (fun g15 => ?_) (fun g15 => ?_)
                ·
                 exact Mach.ok_next (M := Zg a0 a1 a2 a3 a4 a5 a6 a7 L8 N) (cd := 1000000) (cm := 0) (y := (.h1m1 ((v2 + 1)) (v13) (v30) (v34) (v43) (v44) (v49) : Zf)) (fu := 4000) (orc := (Zo [(0, false), (1, false), (2, false), (4, true), (6, false), (7, true), (10, false), (12, true), (14, false), (15, true), (19, false), (22, true), (24, false), (25, true), (29, false), (32, true), (34, false), (36, true), (38, false)] [(0, (((v2 + 1) : Nat) : Int))] [(0, (v36).toNat)] [(4, [.i (v34.getD (v36).toNat RA.z).a0, .b (v34.getD (v36).toNat RA.z).a1, .b (v34.getD (v36).toNat RA.z).a2])] [])) (live := [0, 1, 2, 4, 5, 6, 7, 8, 9, 10, 11, 12, 13, 14, 15, 16]) (tv := fun _ => [some (vi a7), some (ms E_iiiib L8), some (vp 0 0), some (vp 1 0), some (vp 2 0), some (vi (((v2 + 1) : Nat) : Int))]) (bl := [some (.cells [vi a0, vi a1, vi a2, vi a3, vi a4, vi a5, vi a6] 24), some (.cells (Zk Ze 64 [vi a7] v13 [vi a0, vi a1, vi a2, vi a3, vi a4, vi a5, vi a6, vp 4 0, vp 5 0, vp 6 0, vp 7 0]) 111), some (.cells [vi a0, vi a1, vi a2, vi a3, vi a4, vi a5, vi a6, vi a0, vs 8 0 1 1, vn, vs 9 0 (a1).toNat (a1).toNat, vi v30, vq, vq, vs 10 0 (a7).toNat (a7).toNat, vs 11 0 v34.length v34.length] 43), some (.cells [vi a0, vs 12 0 17 17, vs 13 0 17 17, vn, vn, vn, vn, vn, vn, vn, vn, vn, vn, vn, vn, vn, vn, vn, vn, vn] 134), some (.cells [vs 14 0 v43.length v43.length, vs 15 0 v44.length v44.length] 158), some (.cells [vi a4, vq, vq] 163), some (.cells (Zk eI 64 [vi a7] v49 []) 171), some (kza), some (.cells (Zb Zp (List.replicate (a1).toNat (⟨(0 : Int), (0 : Int), (0 : Int)⟩ : RB))) 89), some (.cells (Zb eI (List.replicate (a7).toNat (0 : Int))) 3), some (.cells (Zb Ze v34) 63), some (.cells (Zb Zl klc) 129), some (.cells (Zb Zj kla) 72), some (.cells (Zb eI v43) 155), some (.cells (Zb eI v44) 155), some (.cells (Zb Zj klb) 72)]) (ob := [((IntKind.i64.wrap ((v2 : Int) + (1 : Int))) == (((v2 + 1) : Nat) : Int), true), ((a7 != a7), false), ((decide (a7 > (0 : Int))), true), ((!((a0 == a0) && ((a1 == a1) && ((a2 == a2) && ((a3 == a3) && ((a4 == a4) && ((a5 == a5) && ((a6 == a6) && true)))))))), false), ((decide (a7 > (0 : Int))), true), ((v34.getD (v36).toNat RA.z).a2, false), ((decide (v36 ≥ a7)), true), ((decide (v36 < (0 : Int))), false), ((decide (a7 > (0 : Int))), true), ((v34.getD (v36).toNat RA.z).a1, false), ((decide (v36 ≥ a7)), true), ((decide (v36 < (0 : Int))), false), ((decide (a7 > (0 : Int))), true), (((0 : Int) != (v34.getD (v36).toNat RA.z).a0), false), ((decide (v36 ≥ a7)), true), ((decide (v36 < (0 : Int))), false), ((decide (a7 > (0 : Int))), true), (((v3 : Int) != (v4 : Int)), false), (Z0 (Zs 3 (List.drop (0 + ((v36).toNat * 3)) (Zb Ze v34))) [.i (v34.getD (v36).toNat RA.z).a0, .b (v34.getD (v36).toNat RA.z).a1, .b (v34.getD (v36).toNat RA.z).a2], true), (Nat.blt (v36).toNat v34.length, true), (v36 == Int.ofNat (v36).toNat, true), ((decide (v36 ≥ (v34.length : Int))), false), ((decide (v36 < (0 : Int))), false)]) rfl (show 1 ∈ Zy (Zr 7) from by decide +kernel) (fun gv => by kernel_rfl) (Zc (beq_iff_eq.2 ((wrap_i64 ltA).trans (by first | rfl | omega))) <| oE <| oY <| Zc (by rw [Bool.not_eq_false']; first | (simp only [beq_self_eq_true, Bool.and_self]; done) | (simp only [Bool.and_true, Bool.and_eq_true, beq_iff_eq] <;> first | omega | (simp_all; done) | grind)) <| oY <| Zc (Bool.eq_false_iff.2 (by assumption)) <| oY <| oN <| oY <| Zc (Bool.eq_false_iff.2 (by assumption)) <| oY <| oN <| oY <| oE <| oY <| oN <| oY <| oE <| Zc (ZD (E := Ze) (L := v34) (i := (v36).toNat) (q := 0) (by omega) (show (0 + ((v36).toNat * 3)) = (v36).toNat * 3 + 0 from by omega) (show 0 + 3 ≤ 3 from by decide) rfl rfl) <| oB <| oI <| oN <| oN Zi) rfl (by decide) (by rfl) (fun _ => ⟨rr, ⟨rr, ⟨rr, ⟨rr, ⟨rr, ⟨rr, trivial⟩⟩⟩⟩⟩⟩) ⟨⟨rfl, ⟨[], by rfl⟩, by rfl⟩, ⟨⟨rfl, ⟨[], by kernel_rfl⟩, by kernel_rfl⟩, ⟨⟨rfl, ⟨[], by rfl⟩, by rfl⟩, ⟨⟨rfl, ⟨[], by rfl⟩, by rfl⟩, ⟨⟨rfl, ⟨[], by rfl⟩, by rfl⟩, ⟨⟨rfl, ⟨[], by rfl⟩, by rfl⟩, ⟨⟨rfl, ⟨[], by kernel_rfl⟩, by kernel_rfl⟩, ⟨⟨rfl, ⟨[], by rfl⟩, by rfl⟩, ⟨(Za (E := Zp) (α := RB) _ (List.replicate (a1).toNat (⟨(0 : Int), (0 : Int), (0 : Int)⟩ : RB)) _), ⟨(Za (E := eI) (α := Int) _ (List.replicate (a7).toNat (0 : Int)) _), ⟨(Za (E := Ze) (α := RA) _ v34 _), ⟨(Za (E := Zl) (α := RD) _ klc _), ⟨(Za (E := Zj) (α := R_ii) _ kla _), ⟨(Za (E := eI) (α := Int) _ v43 _), ⟨(Za (E := eI) (α := Int) _ v44 _), ⟨(Za (E := Zj) (α := R_ii) _ klb _), trivial⟩⟩⟩⟩⟩⟩⟩⟩⟩⟩⟩⟩⟩⟩⟩⟩
                ·
                 exact Mach.ok_none
            ·
             refine Mach.ok_ite (fun g12 => ?_) (fun g12 => ?_)
             ·
              exact Mach.ok_fin (M := Zg a0 a1 a2 a3 a4 a5 a6 a7 L8 N) (cd := 1000000) (cm := 0) (r := (.r0 (false) : Zn)) (fu := 4000) (orc := (Zo [(0, false), (1, false), (2, false), (4, true), (6, false), (7, false), (10, true)] [] [(0, (v36).toNat), (1, (v36).toNat)] [(4, [.i (v34.getD (v36).toNat RA.z).a0, .b (v34.getD (v36).toNat RA.z).a1, .b (v34.getD (v36).toNat RA.z).a2]), (8, [.i (v13.getD (v36).toNat RA.z).a0, .b (v13.getD (v36).toNat RA.z).a1, .b (v13.getD (v36).toNat RA.z).a2])] [])) (live := []) (u := vf) (bl := []) (ob := [(((v13.getD (v36).toNat RA.z).a0 != (v34.getD (v36).toNat RA.z).a0), true), (Z0 (Zs 3 (List.drop (1 + ((v36).toNat * 3)) (Zk Ze 64 [vi a7] v13 [vi a0, vi a1, vi a2, vi a3, vi a4, vi a5, vi a6, vp 4 0, vp 5 0, vp 6 0, vp 7 0]))) [.i (v13.getD (v36).toNat RA.z).a0, .b (v13.getD (v36).toNat RA.z).a1, .b (v13.getD (v36).toNat RA.z).a2], true), (Nat.blt (v36).toNat 64, true), (v36 == Int.ofNat (v36).toNat, true), ((decide (v36 ≥ a7)), false), ((decide (v36 < (0 : Int))), false), ((decide (a7 > (0 : Int))), true), (((v3 : Int) != (v4 : Int)), false), (Z0 (Zs 3 (List.drop (0 + ((v36).toNat * 3)) (Zb Ze v34))) [.i (v34.getD (v36).toNat RA.z).a0, .b (v34.getD (v36).toNat RA.z).a1, .b (v34.getD (v36).toNat RA.z).a2], true), (Nat.blt (v36).toNat v34.length, true), (v36 == Int.ofNat (v36).toNat, true), ((decide (v36 ≥ (v34.length : Int))), false), ((decide (v36 < (0 : Int))), false)]) (fun gv => by kernel_rfl) (oD <| Zc (Z3 (E := Ze) (L := v13) (n := 64) (p := 1) (i := (v36).toNat) (q := 0) rfl (by omega) (show (1 + ((v36).toNat * 3)) = 1 + (v36).toNat * 3 + 0 from by omega) (show 0 + 3 ≤ 3 from by decide) rfl rfl) <| oB <| oI <| oN <| oN <| oY <| oE <| Zc (ZD (E := Ze) (L := v34) (i := (v36).toNat) (q := 0) (by omega) (show (0 + ((v36).toNat * 3)) = (v36).toNat * 3 + 0 from by omega) (show 0 + 3 ≤ 3 from by decide) rfl rfl) <| oB <| oI <| oN <| oN Zi) rfl (by decide) (by rfl) rr trivial
             ·
              refine Mach.ok_ite (fun g13 => ?_) (fun g13 => ?_)
              ·
               refine Mach.ok_ite (fun g14 => ?_) (fun g14 => ?_)
               ·
                refine Mach.ok_ite (fun g15 => ?_) (fun g15 => ?_)
                ·
                 refine Mach.ok_ite (fun g16 => ?_) (fun g16 => ?_)
                 ·
                  refine Mach.ok_ite (fun g17 => ?_) (fun g17 => ?_)
                  ·
                   exact Mach.ok_next (M := Zg a0 a1 a2 a3 a4 a5 a6 a7 L8 N) (cd := 1000000) (cm := 0) (y := (.h1m1 ((v2 + 1)) (v13) (v30) (v34) (v43) (v44) (v49) : Zf)) (fu := 4000) (orc := (Zo [(0, false), (1, false), (2, false), (4, true), (6, false), (7, false), (10, false), (12, true), (14, false), (15, false), (18, true), (19, true), (22, true), (24, false), (25, false), (28, true), (29, true), (32, true), (34, false), (36, true), (38, false)] [(0, (((v2 + 1) : Nat) : Int))] [(0, (v36).toNat), (1, (v36).toNat), (2, (v36).toNat), (3, (v36).toNat)] [(4, [.i (v34.getD (v36).toNat RA.z).a0, .b (v34.getD (v36).toNat RA.z).a1, .b (v34.getD (v36).toNat RA.z).a2]), (8, [.i (v13.getD (v36).toNat RA.z).a0, .b (v13.getD (v36).toNat RA.z).a1, .b (v13.getD (v36).toNat RA.z).a2]), (13, [.i (v13.getD (v36).toNat RA.z).a0, .b (v13.getD (v36).toNat RA.z).a1, .b (v13.getD (v36).toNat RA.z).a2]), (18, [.i (v13.getD (v36).toNat RA.z).a0, .b (v13.getD (v36).toNat RA.z).a1, .b (v13.getD (v36).toNat RA.z).a2])] [])) (live := [0, 1, 2, 4, 5, 6, 7, 8, 9, 10, 11, 12, 13, 14, 15, 16]) (tv := fun _ => [some (vi a7), some (ms E_iiiib L8), some (vp 0 0), some (vp 1 0), some (vp 2 0), some (vi (((v2 + 1) : Nat) : Int))]) (bl := [some (.cells [vi a0, vi a1, vi a2, vi a3, vi a4, vi a5, vi a6] 24), some (.cells (Zk Ze 64 [vi a7] v13 [vi a0, vi a1, vi a2, vi a3, vi a4, vi a5, vi a6, vp 4 0, vp 5 0, vp 6 0, vp 7 0]) 111), some (.cells [vi a0, vi a1, vi a2, vi a3, vi a4, vi a5, vi a6, vi a0, vs 8 0 1 1, vn, vs 9 0 (a1).toNat (a1).toNat, vi v30, vq, vq, vs 10 0 (a7).toNat (a7).toNat, vs 11 0 v34.length v34.length] 43), some (.cells [vi a0, vs 12 0 17 17, vs 13 0 17 17, vn, vn, vn, vn, vn, vn, vn, vn, vn, vn, vn, vn, vn, vn, vn, vn, vn] 134), some (.cells [vs 14 0 v43.length v43.length, vs 15 0 v44.length v44.length] 158), some (.cells [vi a4, vq, vq] 163), some (.cells (Zk eI 64 [vi a7] v49 []) 171), some (kza), some (.cells (Zb Zp (List.replicate (a1).toNat (⟨(0 : Int), (0 : Int), (0 : Int)⟩ : RB))) 89), some (.cells (Zb eI (List.replicate (a7).toNat (0 : Int))) 3), some (.cells (Zb Ze v34) 63), some (.cells (Zb Zl klc) 129), some (.cells (Zb Zj kla) 72), some (.cells (Zb eI v43) 155), some (.cells (Zb eI v44) 155), some (.cells (Zb Zj klb) 72)]) (ob := [((IntKind.i64.wrap ((v2 : Int) + (1 : Int))) == (((v2 + 1) : Nat) : Int), true), ((a7 != a7), false), ((decide (a7 > (0 : Int))), true), ((!((a0 == a0) && ((a1 == a1) && ((a2 == a2) && ((a3 == a3) && ((a4 == a4) && ((a5 == a5) && ((a6 == a6) && true)))))))), false), ((decide (a7 > (0 : Int))), true), ((v34.getD (v36).toNat RA.z).a2, true), ((v13.getD (v36).toNat RA.z).a2, true), (Z0 (Zs 3 (List.drop (1 + ((v36).toNat * 3)) (Zk Ze 64 [vi a7] v13 [vi a0, vi a1, vi a2, vi a3, vi a4, vi a5, vi a6, vp 4 0, vp 5 0, vp 6 0, vp 7 0]))) [.i (v13.getD (v36).toNat RA.z).a0, .b (v13.getD (v36).toNat RA.z).a1, .b (v13.getD (v36).toNat RA.z).a2], true), (Nat.blt (v36).toNat 64, true), (v36 == Int.ofNat (v36).toNat, true), ((decide (v36 ≥ a7)), false), ((decide (v36 < (0 : Int))), false), ((decide (a7 > (0 : Int))), true), ((v34.getD (v36).toNat RA.z).a1, true), ((v13.getD (v36).toNat RA.z).a1, true), (Z0 (Zs 3 (List.drop (1 + ((v36).toNat * 3)) (Zk Ze 64 [vi a7] v13 [vi a0, vi a1, vi a2, vi a3, vi a4, vi a5, vi a6, vp 4 0, vp 5 0, vp 6 0, vp 7 0]))) [.i (v13.getD (v36).toNat RA.z).a0, .b (v13.getD (v36).toNat RA.z).a1, .b (v13.getD (v36).toNat RA.z).a2], true), (Nat.blt (v36).toNat 64, true), (v36 == Int.ofNat (v36).toNat, true), ((decide (v36 ≥ a7)), false), ((decide (v36 < (0 : Int))), false), ((decide (a7 > (0 : Int))), true), (((v13.getD (v36).toNat RA.z).a0 != (v34.getD (v36).toNat RA.z).a0), false), (Z0 (Zs 3 (List.drop (1 + ((v36).toNat * 3)) (Zk Ze 64 [vi a7] v13 [vi a0, vi a1, vi a2, vi a3, vi a4, vi a5, vi a6, vp 4 0, vp 5 0, vp 6 0, vp 7 0]))) [.i (v13.getD (v36).toNat RA.z).a0, .b (v13.getD (v36).toNat RA.z).a1, .b (v13.getD (v36).toNat RA.z).a2], true), (Nat.blt (v36).toNat 64, true), (v36 == Int.ofNat (v36).toNat, true), ((decide (v36 ≥ a7)), false), ((decide (v36 < (0 : Int))), false), ((decide (a7 > (0 : Int))), true), (((v3 : Int) != (v4 : Int)), false), (Z0 (Zs 3 (List.drop (0 + ((v36).toNat * 3)) (Zb Ze v34))) [.i (v34.getD (v36).toNat RA.z).a0, .b (v34.getD (v36).toNat RA.z).a1, .b (v34.getD (v36).toNat RA.z).a2], true), (Nat.blt (v36).toNat v34.length, true), (v36 == Int.ofNat (v36).toNat, true), ((decide (v36 ≥ (v34.length : Int))), false), ((decide (v36 < (0 : Int))), false)]) rfl (show 1 ∈ Zy (Zr 7) from by decide +kernel) (fun gv => by kernel_rfl) (Zc (beq_iff_eq.2 ((wrap_i64 ltA).trans (by first | rfl | omega))) <| oE <| oY <| Zc (by rw [Bool.not_eq_false']; first | (simp only [beq_self_eq_true, Bool.and_self]; done) | (simp only [Bool.and_true, Bool.and_eq_true, beq_iff_eq] <;> first | omega | (simp_all; done) | grind)) <| oY <| Zc (by assumption) <| Zc (by assumption) <| Zc (Z3 (E := Ze) (L := v13) (n := 64) (p := 1) (i := (v36).toNat) (q := 0) rfl (by omega) (show (1 + ((v36).toNat * 3)) = 1 + (v36).toNat * 3 + 0 from by omega) (show 0 + 3 ≤ 3 from by decide) rfl rfl) <| oB <| oI <| oN <| oN <| oY <| Zc (by assumption) <| Zc (by assumption) <| Zc (Z3 (E := Ze) (L := v13) (n := 64) (p := 1) (i := (v36).toNat) (q := 0) rfl (by omega) (show (1 + ((v36).toNat * 3)) = 1 + (v36).toNat * 3 + 0 from by omega) (show 0 + 3 ≤ 3 from by decide) rfl rfl) <| oB <| oI <| oN <| oN <| oY <| oE <| Zc (Z3 (E := Ze) (L := v13) (n := 64) (p := 1) (i := (v36).toNat) (q := 0) rfl (by omega) (show (1 + ((v36).toNat * 3)) = 1 + (v36).toNat * 3 + 0 from by omega) (show 0 + 3 ≤ 3 from by decide) rfl rfl) <| oB <| oI <| oN <| oN <| oY <| oE <| Zc (ZD (E := Ze) (L := v34) (i := (v36).toNat) (q := 0) (by omega) (show (0 + ((v36).toNat * 3)) = (v36).toNat * 3 + 0 from by omega) (show 0 + 3 ≤ 3 from by decide) rfl rfl) <| oB <| oI <| oN <| oN Zi) rfl (by decide) (by rfl) (fun _ => ⟨rr, ⟨rr, ⟨rr, ⟨rr, ⟨rr, ⟨rr, trivial⟩⟩⟩⟩⟩⟩) ⟨⟨rfl, ⟨[], by rfl⟩, by rfl⟩, ⟨⟨rfl, ⟨[], by kernel_rfl⟩, by kernel_rfl⟩, ⟨⟨rfl, ⟨[], by rfl⟩, by rfl⟩, ⟨⟨rfl, ⟨[], by rfl⟩, by rfl⟩, ⟨⟨rfl, ⟨[], by rfl⟩, by rfl⟩, ⟨⟨rfl, ⟨[], by rfl⟩, by rfl⟩, ⟨⟨rfl, ⟨[], by kernel_rfl⟩, by kernel_rfl⟩, ⟨⟨rfl, ⟨[], by rfl⟩, by rfl⟩, ⟨(Za (E := Zp) (α := RB) _ (List.replicate (a1).toNat (⟨(0 : Int), (0 : Int), (0 : Int)⟩ : RB)) _), ⟨(Za (E := eI) (α := Int) _ (List.replicate (a7).toNat (0 : Int)) _), ⟨(Za (E := Ze) (α := RA) _ v34 _), ⟨(Za (E := Zl) (α := RD) _ klc _), ⟨(Za (E := Zj) (α := R_ii) _ kla _), ⟨(Za (E := eI) (α := Int) _ v43 _), ⟨(Za (E := eI) (α := Int) _ v44 _), ⟨(Za (E := Zj) (α := R_ii) _ klb _), trivial⟩⟩⟩⟩⟩⟩⟩⟩⟩⟩⟩⟩⟩⟩⟩⟩
                  ·
                   exact Mach.ok_none
                 ·
                  exact Mach.ok_fin (M := Zg a0 a1 a2 a3 a4 a5 a6 a7 L8 N) (cd := 1000000) (cm := 0) (r := (.r0 (false) : Zn)) (fu := 4000) (orc := (Zo [(0, false), (1, false), (2, false), (4, true), (6, false), (7, false), (10, false), (12, true), (14, false), (15, false), (18, true), (19, true), (22, true), (24, false), (25, false), (28, true), (29, false)] [] [(0, (v36).toNat), (1, (v36).toNat), (2, (v36).toNat), (3, (v36).toNat)] [(4, [.i (v34.getD (v36).toNat RA.z).a0, .b (v34.getD (v36).toNat RA.z).a1, .b (v34.getD (v36).toNat RA.z).a2]), (8, [.i (v13.getD (v36).toNat RA.z).a0, .b (v13.getD (v36).toNat RA.z).a1, .b (v13.getD (v36).toNat RA.z).a2]), (13, [.i (v13.getD (v36).toNat RA.z).a0, .b (v13.getD (v36).toNat RA.z).a1, .b (v13.getD (v36).toNat RA.z).a2]), (18, [.i (v13.getD (v36).toNat RA.z).a0, .b (v13.getD (v36).toNat RA.z).a1, .b (v13.getD (v36).toNat RA.z).a2])] [])) (live := []) (u := vf) (bl := []) (ob := [((v34.getD (v36).toNat RA.z).a2, false), ((v13.getD (v36).toNat RA.z).a2, true), (Z0 (Zs 3 (List.drop (1 + ((v36).toNat * 3)) (Zk Ze 64 [vi a7] v13 [vi a0, vi a1, vi a2, vi a3, vi a4, vi a5, vi a6, vp 4 0, vp 5 0, vp 6 0, vp 7 0]))) [.i (v13.getD (v36).toNat RA.z).a0, .b (v13.getD (v36).toNat RA.z).a1, .b (v13.getD (v36).toNat RA.z).a2], true), (Nat.blt (v36).toNat 64, true), (v36 == Int.ofNat (v36).toNat, true), ((decide (v36 ≥ a7)), false), ((decide (v36 < (0 : Int))), false), ((decide (a7 > (0 : Int))), true), ((v34.getD (v36).toNat RA.z).a1, true), ((v13.getD (v36).toNat RA.z).a1, true), (Z0 (Zs 3 (List.drop (1 + ((v36).toNat * 3)) (Zk Ze 64 [vi a7] v13 [vi a0, vi a1, vi a2, vi a3, vi a4, vi a5, vi a6, vp 4 0, vp 5 0, vp 6 0, vp 7 0]))) [.i (v13.getD (v36).toNat RA.z).a0, .b (v13.getD (v36).toNat RA.z).a1, .b (v13.getD (v36).toNat RA.z).a2], true), (Nat.blt (v36).toNat 64, true), (v36 == Int.ofNat (v36).toNat, true), ((decide (v36 ≥ a7)), false), ((decide (v36 < (0 : Int))), false), ((decide (a7 > (0 : Int))), true), (((v13.getD (v36).toNat RA.z).a0 != (v34.getD (v36).toNat RA.z).a0), false), (Z0 (Zs 3 (List.drop (1 + ((v36).toNat * 3)) (Zk Ze 64 [vi a7] v13 [vi a0, vi a1, vi a2, vi a3, vi a4, vi a5, vi a6, vp 4 0, vp 5 0, vp 6 0, vp 7 0]))) [.i (v13.getD (v36).toNat RA.z).a0, .b (v13.getD (v36).toNat RA.z).a1, .b (v13.getD (v36).toNat RA.z).a2], true), (Nat.blt (v36).toNat 64, true), (v36 == Int.ofNat (v36).toNat, true), ((decide (v36 ≥ a7)), false), ((decide (v36 < (0 : Int))), false), ((decide (a7 > (0 : Int))), true), (((v3 : Int) != (v4 : Int)), false), (Z0 (Zs 3 (List.drop (0 + ((v36).toNat * 3)) (Zb Ze v34))) [.i (v34.getD (v36).toNat RA.z).a0, .b (v34.getD (v36).toNat RA.z).a1, .b (v34.getD (v36).toNat RA.z).a2], true), (Nat.blt (v36).toNat v34.length, true), (v36 == Int.ofNat (v36).toNat, true), ((decide (v36 ≥ (v34.length : Int))), false), ((decide (v36 < (0 : Int))), false)]) (fun gv => by kernel_rfl) (Zc (Bool.eq_false_iff.2 (by assumption)) <| Zc (by assumption) <| Zc (Z3 (E := Ze) (L := v13) (n := 64) (p := 1) (i := (v36).toNat) (q := 0) rfl (by omega) (show (1 + ((v36).toNat * 3)) = 1 + (v36).toNat * 3 + 0 from by omega) (show 0 + 3 ≤ 3 from by decide) rfl rfl) <| oB <| oI <| oN <| oN <| oY <| Zc (by assumption) <| Zc (by assumption) <| Zc (Z3 (E := Ze) (L := v13) (n := 64) (p := 1) (i := (v36).toNat) (q := 0) rfl (by omega) (show (1 + ((v36).toNat * 3)) = 1 + (v36).toNat * 3 + 0 from by omega) (show 0 + 3 ≤ 3 from by decide) rfl rfl) <| oB <| oI <| oN <| oN <| oY <| oE <| Zc (Z3 (E := Ze) (L := v13) (n := 64) (p := 1) (i := (v36).toNat) (q := 0) rfl (by omega) (show (1 + ((v36).toNat * 3)) = 1 + (v36).toNat * 3 + 0 from by omega) (show 0 + 3 ≤ 3 from by decide) rfl rfl) <| oB <| oI <| oN <| oN <| oY <| oE <| Zc (ZD (E := Ze) (L := v34) (i := (v36).toNat) (q := 0) (by omega) (show (0 + ((v36).toNat * 3)) = (v36).toNat * 3 + 0 from by omega) (show 0 + 3 ≤ 3 from by decide) rfl rfl) <| oB <| oI <| oN <| oN Zi) rfl (by decide) (by rfl) rr trivial
                ·
                 refine Mach.ok_ite (fun g16 => ?_) (fun g16 => ?_)
                 ·
                  exact Mach.ok_fin (M := Zg a0 a1 a2 a3 a4 a5 a6 a7 L8 N) (cd := 1000000) (cm := 0) (r := (.r0 (false) : Zn)) (fu := 4000) (orc := (Zo [(0, false), (1, false), (2, false), (4, true), (6, false), (7, false), (10, false), (12, true), (14, false), (15, false), (18, true), (19, true), (22, true), (24, false), (25, false), (28, false), (29, true)] [] [(0, (v36).toNat), (1, (v36).toNat), (2, (v36).toNat), (3, (v36).toNat)] [(4, [.i (v34.getD (v36).toNat RA.z).a0, .b (v34.getD (v36).toNat RA.z).a1, .b (v34.getD (v36).toNat RA.z).a2]), (8, [.i (v13.getD (v36).toNat RA.z).a0, .b (v13.getD (v36).toNat RA.z).a1, .b (v13.getD (v36).toNat RA.z).a2]), (13, [.i (v13.getD (v36).toNat RA.z).a0, .b (v13.getD (v36).toNat RA.z).a1, .b (v13.getD (v36).toNat RA.z).a2]), (18, [.i (v13.getD (v36).toNat RA.z).a0, .b (v13.getD (v36).toNat RA.z).a1, .b (v13.getD (v36).toNat RA.z).a2])] [])) (live := []) (u := vf) (bl := []) (ob := [((v34.getD (v36).toNat RA.z).a2, true), ((v13.getD (v36).toNat RA.z).a2, false), (Z0 (Zs 3 (List.drop (1 + ((v36).toNat * 3)) (Zk Ze 64 [vi a7] v13 [vi a0, vi a1, vi a2, vi a3, vi a4, vi a5, vi a6, vp 4 0, vp 5 0, vp 6 0, vp 7 0]))) [.i (v13.getD (v36).toNat RA.z).a0, .b (v13.getD (v36).toNat RA.z).a1, .b (v13.getD (v36).toNat RA.z).a2], true), (Nat.blt (v36).toNat 64, true), (v36 == Int.ofNat (v36).toNat, true), ((decide (v36 ≥ a7)), false), ((decide (v36 < (0 : Int))), false), ((decide (a7 > (0 : Int))), true), ((v34.getD (v36).toNat RA.z).a1, true), ((v13.getD (v36).toNat RA.z).a1, true), (Z0 (Zs 3 (List.drop (1 + ((v36).toNat * 3)) (Zk Ze 64 [vi a7] v13 [vi a0, vi a1, vi a2, vi a3, vi a4, vi a5, vi a6, vp 4 0, vp 5 0, vp 6 0, vp 7 0]))) [.i (v13.getD (v36).toNat RA.z).a0, .b (v13.getD (v36).toNat RA.z).a1, .b (v13.getD (v36).toNat RA.z).a2], true), (Nat.blt (v36).toNat 64, true), (v36 == Int.ofNat (v36).toNat, true), ((decide (v36 ≥ a7)), false), ((decide (v36 < (0 : Int))), false), ((decide (a7 > (0 : Int))), true), (((v13.getD (v36).toNat RA.z).a0 != (v34.getD (v36).toNat RA.z).a0), false), (Z0 (Zs 3 (List.drop (1 + ((v36).toNat * 3)) (Zk Ze 64 [vi a7] v13 [vi a0, vi a1, vi a2, vi a3, vi a4, vi a5, vi a6, vp 4 0, vp 5 0, vp 6 0, vp 7 0]))) [.i (v13.getD (v36).toNat RA.z).a0, .b (v13.getD (v36).toNat RA.z).a1, .b (v13.getD (v36).toNat RA.z).a2], true), (Nat.blt (v36).toNat 64, true), (v36 == Int.ofNat (v36).toNat, true), ((decide (v36 ≥ a7)), false), ((decide (v36 < (0 : Int))), false), ((decide (a7 > (0 : Int))), true), (((v3 : Int) != (v4 : Int)), false), (Z0 (Zs 3 (List.drop (0 + ((v36).toNat * 3)) (Zb Ze v34))) [.i (v34.getD (v36).toNat RA.z).a0, .b (v34.getD (v36).toNat RA.z).a1, .b (v34.getD (v36).toNat RA.z).a2], true), (Nat.blt (v36).toNat v34.length, true), (v36 == Int.ofNat (v36).toNat, true), ((decide (v36 ≥ (v34.length : Int))), false), ((decide (v36 < (0 : Int))), false)]) (fun gv => by kernel_rfl) (Zc (by assumption) <| Zc (Bool.eq_false_iff.2 (by assumption)) <| Zc (Z3 (E := Ze) (L := v13) (n := 64) (p := 1) (i := (v36).toNat) (q := 0) rfl (by omega) (show (1 + ((v36).toNat * 3)) = 1 + (v36).toNat * 3 + 0 from by omega) (show 0 + 3 ≤ 3 from by decide) rfl rfl) <| oB <| oI <| oN <| oN <| oY <| Zc (by assumption) <| Zc (by assumption) <| Zc (Z3 (E := Ze) (L := v13) (n := 64) (p := 1) (i := (v36).toNat) (q := 0) rfl (by omega) (show (1 + ((v36).toNat * 3)) = 1 + (v36).toNat * 3 + 0 from by omega) (show 0 + 3 ≤ 3 from by decide) rfl rfl) <| oB <| oI <| oN <| oN <| oY <| oE <| Zc (Z3 (E := Ze) (L := v13) (n := 64) (p := 1) (i := (v36).toNat) (q := 0) rfl (by omega) (show (1 + ((v36).toNat * 3)) = 1 + (v36).toNat * 3 + 0 from by omega) (show 0 + 3 ≤ 3 from by decide) rfl rfl) <| oB <| oI <| oN <| oN <| oY <| oE <| Zc (ZD (E := Ze) (L := v34) (i := (v36).toNat) (q := 0) (by omega) (show (0 + ((v36).toNat * 3)) = (v36).toNat * 3 + 0 from by omega) (show 0 + 3 ≤ 3 from by decide) rfl rfl) <| oB <| oI <| oN <| oN Zi) rfl (by decide) (by rfl) rr trivial
                 ·
                  refine Mach.ok_ite (fun g17 => ?_) (fun g17 => ?_)
                  ·
                   exact Mach.ok_next (M := Zg a0 a1 a2 a3 a4 a5 a6 a7 L8 N) (cd := 1000000) (cm := 0) (y := (.h1m1 ((v2 + 1)) (v13) (v30) (v34) (v43) (v44) (v49) : Zf)) (fu := 4000) (orc := (Zo [(0, false), (1, false), (2, false), (4, true), (6, false), (7, false), (10, false), (12, true), (14, false), (15, false), (18, true), (19, true), (22, true), (24, false), (25, false), (28, false), (29, false), (32, true), (34, false), (36, true), (38, false)] [(0, (((v2 + 1) : Nat) : Int))] [(0, (v36).toNat), (1, (v36).toNat), (2, (v36).toNat), (3, (v36).toNat)] [(4, [.i (v34.getD (v36).toNat RA.z).a0, .b (v34.getD (v36).toNat RA.z).a1, .b (v34.getD (v36).toNat RA.z).a2]), (8, [.i (v13.getD (v36).toNat RA.z).a0, .b (v13.getD (v36).toNat RA.z).a1, .b (v13.getD (v36).toNat RA.z).a2]), (13, [.i (v13.getD (v36).toNat RA.z).a0, .b (v13.getD (v36).toNat RA.z).a1, .b (v13.getD (v36).toNat RA.z).a2]), (18, [.i (v13.getD (v36).toNat RA.z).a0, .b (v13.getD (v36).toNat RA.z).a1, .b (v13.getD (v36).toNat RA.z).a2])] [])) (live := [0, 1, 2, 4, 5, 6, 7, 8, 9, 10, 11, 12, 13, 14, 15, 16]) (tv := fun _ => [some (vi a7), some (ms E_iiiib L8), some (vp 0 0), some (vp 1 0), some (vp 2 0), some (vi (((v2 + 1) : Nat) : Int))]) (bl := [some (.cells [vi a0, vi a1, vi a2, vi a3, vi a4, vi a5, vi a6] 24), some (.cells (Zk Ze 64 [vi a7] v13 [vi a0, vi a1, vi a2, vi a3, vi a4, vi a5, vi a6, vp 4 0, vp 5 0, vp 6 0, vp 7 0]) 111), some (.cells [vi a0, vi a1, vi a2, vi a3, vi a4, vi a5, vi a6, vi a0, vs 8 0 1 1, vn, vs 9 0 (a1).toNat (a1).toNat, vi v30, vq, vq, vs 10 0 (a7).toNat (a7).toNat, vs 11 0 v34.length v34.length] 43), some (.cells [vi a0, vs 12 0 17 17, vs 13 0 17 17, vn, vn, vn, vn, vn, vn, vn, vn, vn, vn, vn, vn, vn, vn, vn, vn, vn] 134), some (.cells [vs 14 0 v43.length v43.length, vs 15 0 v44.length v44.length] 158), some (.cells [vi a4, vq, vq] 163), some (.cells (Zk eI 64 [vi a7] v49 []) 171), some (kza), some (.cells (Zb Zp (List.replicate (a1).toNat (⟨(0 : Int), (0 : Int), (0 : Int)⟩ : RB))) 89), some (.cells (Zb eI (List.replicate (a7).toNat (0 : Int))) 3), some (.cells (Zb Ze v34) 63), some (.cells (Zb Zl klc) 129), some (.cells (Zb Zj kla) 72), some (.cells (Zb eI v43) 155), some (.cells (Zb eI v44) 155), some (.cells (Zb Zj klb) 72)]) (ob := [((IntKind.i64.wrap ((v2 : Int) + (1 : Int))) == (((v2 + 1) : Nat) : Int), true), ((a7 != a7), false), ((decide (a7 > (0 : Int))), true), ((!((a0 == a0) && ((a1 == a1) && ((a2 == a2) && ((a3 == a3) && ((a4 == a4) && ((a5 == a5) && ((a6 == a6) && true)))))))), false), ((decide (a7 > (0 : Int))), true), ((v34.getD (v36).toNat RA.z).a2, false), ((v13.getD (v36).toNat RA.z).a2, false), (Z0 (Zs 3 (List.drop (1 + ((v36).toNat * 3)) (Zk Ze 64 [vi a7] v13 [vi a0, vi a1, vi a2, vi a3, vi a4, vi a5, vi a6, vp 4 0, vp 5 0, vp 6 0, vp 7 0]))) [.i (v13.getD (v36).toNat RA.z).a0, .b (v13.getD (v36).toNat RA.z).a1, .b (v13.getD (v36).toNat RA.z).a2], true), (Nat.blt (v36).toNat 64, true), (v36 == Int.ofNat (v36).toNat, true), ((decide (v36 ≥ a7)), false), ((decide (v36 < (0 : Int))), false), ((decide (a7 > (0 : Int))), true), ((v34.getD (v36).toNat RA.z).a1, true), ((v13.getD (v36).toNat RA.z).a1, true), (Z0 (Zs 3 (List.drop (1 + ((v36).toNat * 3)) (Zk Ze 64 [vi a7] v13 [vi a0, vi a1, vi a2, vi a3, vi a4, vi a5, vi a6, vp 4 0, vp 5 0, vp 6 0, vp 7 0]))) [.i (v13.getD (v36).toNat RA.z).a0, .b (v13.getD (v36).toNat RA.z).a1, .b (v13.getD (v36).toNat RA.z).a2], true), (Nat.blt (v36).toNat 64, true), (v36 == Int.ofNat (v36).toNat, true), ((decide (v36 ≥ a7)), false), ((decide (v36 < (0 : Int))), false), ((decide (a7 > (0 : Int))), true), (((v13.getD (v36).toNat RA.z).a0 != (v34.getD (v36).toNat RA.z).a0), false), (Z0 (Zs 3 (List.drop (1 + ((v36).toNat * 3)) (Zk Ze 64 [vi a7] v13 [vi a0, vi a1, vi a2, vi a3, vi a4, vi a5, vi a6, vp 4 0, vp 5 0, vp 6 0, vp 7 0]))) [.i (v13.getD (v36).toNat RA.z).a0, .b (v13.getD (v36).toNat RA.z).a1, .b (v13.getD (v36).toNat RA.z).a2], true), (Nat.blt (v36).toNat 64, true), (v36 == Int.ofNat (v36).toNat, true), ((decide (v36 ≥ a7)), false), ((decide (v36 < (0 : Int))), false), ((decide (a7 > (0 : Int))), true), (((v3 : Int) != (v4 : Int)), false), (Z0 (Zs 3 (List.drop (0 + ((v36).toNat * 3)) (Zb Ze v34))) [.i (v34.getD (v36).toNat RA.z).a0, .b (v34.getD (v36).toNat RA.z).a1, .b (v34.getD (v36).toNat RA.z).a2], true), (Nat.blt (v36).toNat v34.length, true), (v36 == Int.ofNat (v36).toNat, true), ((decide (v36 ≥ (v34.length : Int))), false), ((decide (v36 < (0 : Int))), false)]) rfl (show 1 ∈ Zy (Zr 7) from by decide +kernel) (fun gv => by kernel_rfl) (Zc (beq_iff_eq.2 ((wrap_i64 ltA).trans (by first | rfl | omega))) <| oE <| oY <| Zc (by rw [Bool.not_eq_false']; first | (simp only [beq_self_eq_true, Bool.and_self]; done) | (simp only [Bool.and_true, Bool.and_eq_true, beq_iff_eq] <;> first | omega | (simp_all; done) | grind)) <| oY <| Zc (Bool.eq_false_iff.2 (by assumption)) <| Zc (Bool.eq_false_iff.2 (by assumption)) <| Zc (Z3 (E := Ze) (L := v13) (n := 64) (p := 1) (i := (v36).toNat) (q := 0) rfl (by omega) (show (1 + ((v36).toNat * 3)) = 1 + (v36).toNat * 3 + 0 from by omega) (show 0 + 3 ≤ 3 from by decide) rfl rfl) <| oB <| oI <| oN <| oN <| oY <| Zc (by assumption) <| Zc (by assumption) <| Zc (Z3 (E := Ze) (L := v13) (n := 64) (p := 1) (i := (v36).toNat) (q := 0) rfl (by omega) (show (1 + ((v36).toNat * 3)) = 1 + (v36).toNat * 3 + 0 from by omega) (show 0 + 3 ≤ 3 from by decide) rfl rfl) <| oB <| oI <| oN <| oN <| oY <| oE <| Zc (Z3 (E := Ze) (L := v13) (n := 64) (p := 1) (i := (v36).toNat) (q := 0) rfl (by omega) (show (1 + ((v36).toNat * 3)) = 1 + (v36).toNat * 3 + 0 from by omega) (show 0 + 3 ≤ 3 from by decide) rfl rfl) <| oB <| oI <| oN <| oN <| oY <| oE <| Zc (ZD (E := Ze) (L := v34) (i := (v36).toNat) (q := 0) (by omega) (show (0 + ((v36).toNat * 3)) = (v36).toNat * 3 + 0 from by omega) (show 0 + 3 ≤ 3 from by decide) rfl rfl) <| oB <| oI <| oN <| oN Zi) rfl (by decide) (by rfl) (fun _ => ⟨rr, ⟨rr, ⟨rr, ⟨rr, ⟨rr, ⟨rr, trivial⟩⟩⟩⟩⟩⟩) ⟨⟨rfl, ⟨[], by rfl⟩, by rfl⟩, ⟨⟨rfl, ⟨[], by kernel_rfl⟩, by kernel_rfl⟩, ⟨⟨rfl, ⟨[], by rfl⟩, by rfl⟩, ⟨⟨rfl, ⟨[], by rfl⟩, by rfl⟩, ⟨⟨rfl, ⟨[], by rfl⟩, by rfl⟩, ⟨⟨rfl, ⟨[], by rfl⟩, by rfl⟩, ⟨⟨rfl, ⟨[], by kernel_rfl⟩, by kernel_rfl⟩, ⟨⟨rfl, ⟨[], by rfl⟩, by rfl⟩, ⟨(Za (E := Zp) (α := RB) _ (List.replicate (a1).toNat (⟨(0 : Int), (0 : Int), (0 : Int)⟩ : RB)) _), ⟨(Za (E := eI) (α := Int) _ (List.replicate (a7).toNat (0 : Int)) _), ⟨(Za (E := Ze) (α := RA) _ v34 _), ⟨(Za (E := Zl) (α := RD) _ klc _), ⟨(Za (E := Zj) (α := R_ii) _ kla _), ⟨(Za (E := eI) (α := Int) _ v43 _), ⟨(Za (E := eI) (α := Int) _ v44 _), ⟨(Za (E := Zj) (α := R_ii) _ klb _), trivial⟩⟩⟩⟩⟩⟩⟩⟩⟩⟩⟩⟩⟩⟩⟩⟩
                  ·
                   exact Mach.ok_none
               ·
                exact Mach.ok_fin (M := Zg a0 a1 a2 a3 a4 a5 a6 a7 L8 N) (cd := 1000000) (cm := 0) (r := (.r0 (false) : Zn)) (fu := 4000) (orc := (Zo [(0, false), (1, false), (2, false), (4, true), (6, false), (7, false), (10, false), (12, true), (14, false), (15, false), (18, true), (19, false)] [] [(0, (v36).toNat), (1, (v36).toNat), (2, (v36).toNat)] [(4, [.i (v34.getD (v36).toNat RA.z).a0, .b (v34.getD (v36).toNat RA.z).a1, .b (v34.getD (v36).toNat RA.z).a2]), (8, [.i (v13.getD (v36).toNat RA.z).a0, .b (v13.getD (v36).toNat RA.z).a1, .b (v13.getD (v36).toNat RA.z).a2]), (13, [.i (v13.getD (v36).toNat RA.z).a0, .b (v13.getD (v36).toNat RA.z).a1, .b (v13.getD (v36).toNat RA.z).a2])] [])) (live := []) (u := vf) (bl := []) (ob := [((v34.getD (v36).toNat RA.z).a1, false), ((v13.getD (v36).toNat RA.z).a1, true), (Z0 (Zs 3 (List.drop (1 + ((v36).toNat * 3)) (Zk Ze 64 [vi a7] v13 [vi a0, vi a1, vi a2, vi a3, vi a4, vi a5, vi a6, vp 4 0, vp 5 0, vp 6 0, vp 7 0]))) [.i (v13.getD (v36).toNat RA.z).a0, .b (v13.getD (v36).toNat RA.z).a1, .b (v13.getD (v36).toNat RA.z).a2], true), (Nat.blt (v36).toNat 64, true), (v36 == Int.ofNat (v36).toNat, true), ((decide (v36 ≥ a7)), false), ((decide (v36 < (0 : Int))), false), ((decide (a7 > (0 : Int))), true), (((v13.getD (v36).toNat RA.z).a0 != (v34.getD (v36).toNat RA.z).a0), false), (Z0 (Zs 3 (List.drop (1 + ((v36).toNat * 3)) (Zk Ze 64 [vi a7] v13 [vi a0, vi a1, vi a2, vi a3, vi a4, vi a5, vi a6, vp 4 0, vp 5 0, vp 6 0, vp 7 0]))) [.i (v13.getD (v36).toNat RA.z).a0, .b (v13.getD (v36).toNat RA.z).a1, .b (v13.getD (v36).toNat RA.z).a2], true), (Nat.blt (v36).toNat 64, true), (v36 == Int.ofNat (v36).toNat, true), ((decide (v36 ≥ a7)), false), ((decide (v36 < (0 : Int))), false), ((decide (a7 > (0 : Int))), true), (((v3 : Int) != (v4 : Int)), false), (Z0 (Zs 3 (List.drop (0 + ((v36).toNat * 3)) (Zb Ze v34))) [.i (v34.getD (v36).toNat RA.z).a0, .b (v34.getD (v36).toNat RA.z).a1, .b (v34.getD (v36).toNat RA.z).a2], true), (Nat.blt (v36).toNat v34.length, true), (v36 == Int.ofNat (v36).toNat, true), ((decide (v36 ≥ (v34.length : Int))), false), ((decide (v36 < (0 : Int))), false)]) (fun gv => by kernel_rfl) (Zc (Bool.eq_false_iff.2 (by assumption)) <| Zc (by assumption) <| Zc (Z3 (E := Ze) (L := v13) (n := 64) (p := 1) (i := (v36).toNat) (q := 0) rfl (by omega) (show (1 + ((v36).toNat * 3)) = 1 + (v36).toNat * 3 + 0 from by omega) (show 0 + 3 ≤ 3 from by decide) rfl rfl) <| oB <| oI <| oN <| oN <| oY <| oE <| Zc (Z3 (E := Ze) (L := v13) (n := 64) (p := 1) (i := (v36).toNat) (q := 0) rfl (by omega) (show (1 + ((v36).toNat * 3)) = 1 + (v36).toNat * 3 + 0 from by omega) (show 0 + 3 ≤ 3 from by decide) rfl rfl) <| oB <| oI <| oN <| oN <| oY <| oE <| Zc (ZD (E := Ze) (L := v34) (i := (v36).toNat) (q := 0) (by omega) (show (0 + ((v36).toNat * 3)) = (v36).toNat * 3 + 0 from by omega) (show 0 + 3 ≤ 3 from by decide) rfl rfl) <| oB <| oI <| oN <| oN Zi) rfl (by decide) (by rfl) rr trivial
              ·
               refine Mach.ok_ite (fun g14 => ?_) (fun g14 => ?_)
               ·
                exact Mach.ok_fin (M := Zg a0 a1 a2 a3 a4 a5 a6 a7 L8 N) (cd := 1000000) (cm := 0) (r := (.r0 (false) : Zn)) (fu := 4000) (orc := (Zo [(0, false), (1, false), (2, false), (4, true), (6, false), (7, false), (10, false), (12, true), (14, false), (15, false), (18, false), (19, true)] [] [(0, (v36).toNat), (1, (v36).toNat), (2, (v36).toNat)] [(4, [.i (v34.getD (v36).toNat RA.z).a0, .b (v34.getD (v36).toNat RA.z).a1, .b (v34.getD (v36).toNat RA.z).a2]), (8, [.i (v13.getD (v36).toNat RA.z).a0, .b (v13.getD (v36).toNat RA.z).a1, .b (v13.getD (v36).toNat RA.z).a2]), (13, [.i (v13.getD (v36).toNat RA.z).a0, .b (v13.getD (v36).toNat RA.z).a1, .b (v13.getD (v36).toNat RA.z).a2])] [])) (live := []) (u := vf) (bl := []) (ob := [((v34.getD (v36).toNat RA.z).a1, true), ((v13.getD (v36).toNat RA.z).a1, false), (Z0 (Zs 3 (List.drop (1 + ((v36).toNat * 3)) (Zk Ze 64 [vi a7] v13 [vi a0, vi a1, vi a2, vi a3, vi a4, vi a5, vi a6, vp 4 0, vp 5 0, vp 6 0, vp 7 0]))) [.i (v13.getD (v36).toNat RA.z).a0, .b (v13.getD (v36).toNat RA.z).a1, .b (v13.getD (v36).toNat RA.z).a2], true), (Nat.blt (v36).toNat 64, true), (v36 == Int.ofNat (v36).toNat, true), ((decide (v36 ≥ a7)), false), ((decide (v36 < (0 : Int))), false), ((decide (a7 > (0 : Int))), true), (((v13.getD (v36).toNat RA.z).a0 != (v34.getD (v36).toNat RA.z).a0), false), (Z0 (Zs 3 (List.drop (1 + ((v36).toNat * 3)) (Zk Ze 64 [vi a7] v13 [vi a0, vi a1, vi a2, vi a3, vi a4, vi a5, vi a6, vp 4 0, vp 5 0, vp 6 0, vp 7 0]))) [.i (v13.getD (v36).toNat RA.z).a0, .b (v13.getD (v36).toNat RA.z).a1, .b (v13.getD (v36).toNat RA.z).a2], true), (Nat.blt (v36).toNat 64, true), (v36 == Int.ofNat (v36).toNat, true), ((decide (v36 ≥ a7)), false), ((decide (v36 < (0 : Int))), false), ((decide (a7 > (0 : Int))), true), (((v3 : Int) != (v4 : Int)), false), (Z0 (Zs 3 (List.drop (0 + ((v36).toNat * 3)) (Zb Ze v34))) [.i (v34.getD (v36).toNat RA.z).a0, .b (v34.getD (v36).toNat RA.z).a1, .b (v34.getD (v36).toNat RA.z).a2], true), (Nat.blt (v36).toNat v34.length, true), (v36 == Int.ofNat (v36).toNat, true), ((decide (v36 ≥ (v34.length : Int))), false), ((decide (v36 < (0 : Int))), false)]) (fun gv => by kernel_rfl) (Zc (by assumption) <| Zc (Bool.eq_false_iff.2 (by assumption)) <| Zc (Z3 (E := Ze) (L := v13) (n := 64) (p := 1) (i := (v36).toNat) (q := 0) rfl (by omega) (show (1 + ((v36).toNat * 3)) = 1 + (v36).toNat * 3 + 0 from by omega) (show 0 + 3 ≤ 3 from by decide) rfl rfl) <| oB <| oI <| oN <| oN <| oY <| oE <| Zc (Z3 (E := Ze) (L := v13) (n := 64) (p := 1) (i := (v36).toNat) (q := 0) rfl (by omega) (show (1 + ((v36).toNat * 3)) = 1 + (v36).toNat * 3 + 0 from by omega) (show 0 + 3 ≤ 3 from by decide) rfl rfl) <| oB <| oI <| oN <| oN <| oY <| oE <| Zc (ZD (E := Ze) (L := v34) (i := (v36).toNat) (q := 0) (by omega) (show (0 + ((v36).toNat * 3)) = (v36).toNat * 3 + 0 from by omega) (show 0 + 3 ≤ 3 from by decide) rfl rfl) <| oB <| oI <| oN <| oN Zi) rfl (by decide) (by rfl) rr trivial
               ·
                refine Mach.ok_ite (fun g15 => ?_) (fun g15 => ?_)
                ·
                 refine Mach.ok_ite (fun g16 => ?_) (fun g16 => ?_)
                 ·
                  refine Mach.ok_ite (fun g17 => ?_) (fun g17 => ?_)
                  ·
                   exact Mach.ok_next (M := Zg a0 a1 a2 a3 a4 a5 a6 a7 L8 N) (cd := 1000000) (cm := 0) (y := (.h1m1 ((v2 + 1)) (v13) (v30) (v34) (v43) (v44) (v49) : Zf)) (fu := 4000) (orc := (Zo [(0, false), (1, false), (2, false), (4, true), (6, false), (7, false), (10, false), (12, true), (14, false), (15, false), (18, false), (19, false), (22, true), (24, false), (25, false), (28, true), (29, true), (32, true), (34, false), (36, true), (38, false)] [(0, (((v2 + 1) : Nat) : Int))] [(0, (v36).toNat), (1, (v36).toNat), (2, (v36).toNat), (3, (v36).toNat)] [(4, [.i (v34.getD (v36).toNat RA.z).a0, .b (v34.getD (v36).toNat RA.z).a1, .b (v34.getD (v36).toNat RA.z).a2]), (8, [.i (v13.getD (v36).toNat RA.z).a0, .b (v13.getD (v36).toNat RA.z).a1, .b (v13.getD (v36).toNat RA.z).a2]), (13, [.i (v13.getD (v36).toNat RA.z).a0, .b (v13.getD (v36).toNat RA.z).a1, .b (v13.getD (v36).toNat RA.z).a2]), (18, [.i (v13.getD (v36).toNat RA.z).a0, .b (v13.getD (v36).toNat RA.z).a1, .b (v13.getD (v36).toNat RA.z).a2])] [])) (live := [0, 1, 2, 4, 5, 6, 7, 8, 9, 10, 11, 12, 13, 14, 15, 16]) (tv := fun _ => [some (vi a7), some (ms E_iiiib L8), some (vp 0 0), some (vp 1 0), some (vp 2 0), some (vi (((v2 + 1) : Nat) : Int))]) (bl := [some (.cells [vi a0, vi a1, vi a2, vi a3, vi a4, vi a5, vi a6] 24), some (.cells (Zk Ze 64 [vi a7] v13 [vi a0, vi a1, vi a2, vi a3, vi a4, vi a5, vi a6, vp 4 0, vp 5 0, vp 6 0, vp 7 0]) 111), some (.cells [vi a0, vi a1, vi a2, vi a3, vi a4, vi a5, vi a6, vi a0, vs 8 0 1 1, vn, vs 9 0 (a1).toNat (a1).toNat, vi v30, vq, vq, vs 10 0 (a7).toNat (a7).toNat, vs 11 0 v34.length v34.length] 43), some (.cells [vi a0, vs 12 0 17 17, vs 13 0 17 17, vn, vn, vn, vn, vn, vn, vn, vn, vn, vn, vn, vn, vn, vn, vn, vn, vn] 134), some (.cells [vs 14 0 v43.length v43.length, vs 15 0 v44.length v44.length] 158), some (.cells [vi a4, vq, vq] 163), some (.cells (Zk eI 64 [vi a7] v49 []) 171), some (kza), some (.cells (Zb Zp (List.replicate (a1).toNat (⟨(0 : Int), (0 : Int), (0 : Int)⟩ : RB))) 89), some (.cells (Zb eI (List.replicate (a7).toNat (0 : Int))) 3), some (.cells (Zb Ze v34) 63), some (.cells (Zb Zl klc) 129), some (.cells (Zb Zj kla) 72), some (.cells (Zb eI v43) 155), some (.cells (Zb eI v44) 155), some (.cells (Zb Zj klb) 72)]) (ob := [((IntKind.i64.wrap ((v2 : Int) + (1 : Int))) == (((v2 + 1) : Nat) : Int), true), ((a7 != a7), false), ((decide (a7 > (0 : Int))), true), ((!((a0 == a0) && ((a1 == a1) && ((a2 == a2) && ((a3 == a3) && ((a4 == a4) && ((a5 == a5) && ((a6 == a6) && true)))))))), false), ((decide (a7 > (0 : Int))), true), ((v34.getD (v36).toNat RA.z).a2, true), ((v13.getD (v36).toNat RA.z).a2, true), (Z0 (Zs 3 (List.drop (1 + ((v36).toNat * 3)) (Zk Ze 64 [vi a7] v13 [vi a0, vi a1, vi a2, vi a3, vi a4, vi a5, vi a6, vp 4 0, vp 5 0, vp 6 0, vp 7 0]))) [.i (v13.getD (v36).toNat RA.z).a0, .b (v13.getD (v36).toNat RA.z).a1, .b (v13.getD (v36).toNat RA.z).a2], true), (Nat.blt (v36).toNat 64, true), (v36 == Int.ofNat (v36).toNat, true), ((decide (v36 ≥ a7)), false), ((decide (v36 < (0 : Int))), false), ((decide (a7 > (0 : Int))), true), ((v34.getD (v36).toNat RA.z).a1, false), ((v13.getD (v36).toNat RA.z).a1, false), (Z0 (Zs 3 (List.drop (1 + ((v36).toNat * 3)) (Zk Ze 64 [vi a7] v13 [vi a0, vi a1, vi a2, vi a3, vi a4, vi a5, vi a6, vp 4 0, vp 5 0, vp 6 0, vp 7 0]))) [.i (v13.getD (v36).toNat RA.z).a0, .b (v13.getD (v36).toNat RA.z).a1, .b (v13.getD (v36).toNat RA.z).a2], true), (Nat.blt (v36).toNat 64, true), (v36 == Int.ofNat (v36).toNat, true), ((decide (v36 ≥ a7)), false), ((decide (v36 < (0 : Int))), false), ((decide (a7 > (0 : Int))), true), (((v13.getD (v36).toNat RA.z).a0 != (v34.getD (v36).toNat RA.z).a0), false), (Z0 (Zs 3 (List.drop (1 + ((v36).toNat * 3)) (Zk Ze 64 [vi a7] v13 [vi a0, vi a1, vi a2, vi a3, vi a4, vi a5, vi a6, vp 4 0, vp 5 0, vp 6 0, vp 7 0]))) [.i (v13.getD (v36).toNat RA.z).a0, .b (v13.getD (v36).toNat RA.z).a1, .b (v13.getD (v36).toNat RA.z).a2], true), (Nat.blt (v36).toNat 64, true), (v36 == Int.ofNat (v36).toNat, true), ((decide (v36 ≥ a7)), false), ((decide (v36 < (0 : Int))), false), ((decide (a7 > (0 : Int))), true), (((v3 : Int) != (v4 : Int)), false), (Z0 (Zs 3 (List.drop (0 + ((v36).toNat * 3)) (Zb Ze v34))) [.i (v34.getD (v36).toNat RA.z).a0, .b (v34.getD (v36).toNat RA.z).a1, .b (v34.getD (v36).toNat RA.z).a2], true), (Nat.blt (v36).toNat v34.length, true), (v36 == Int.ofNat (v36).toNat, true), ((decide (v36 ≥ (v34.length : Int))), false), ((decide (v36 < (0 : Int))), false)]) rfl (show 1 ∈ Zy (Zr 7) from by decide +kernel) (fun gv => by kernel_rfl) (Zc (beq_iff_eq.2 ((wrap_i64 ltA).trans (by first | rfl | omega))) <| oE <| oY <| Zc (by rw [Bool.not_eq_false']; first | (simp only [beq_self_eq_true, Bool.and_self]; done) | (simp only [Bool.and_true, Bool.and_eq_true, beq_iff_eq] <;> first | omega | (simp_all; done) | grind)) <| oY <| Zc (by assumption) <| Zc (by assumption) <| Zc (Z3 (E := Ze) (L := v13) (n := 64) (p := 1) (i := (v36).toNat) (q := 0) rfl (by omega) (show (1 + ((v36).toNat * 3)) = 1 + (v36).toNat * 3 + 0 from by omega) (show 0 + 3 ≤ 3 from by decide) rfl rfl) <| oB <| oI <| oN <| oN <| oY <| Zc (Bool.eq_false_iff.2 (by assumption)) <| Zc (Bool.eq_false_iff.2 (by assumption)) <| Zc (Z3 (E := Ze) (L := v13) (n := 64) (p := 1) (i := (v36).toNat) (q := 0) rfl (by omega) (show (1 + ((v36).toNat * 3)) = 1 + (v36).toNat * 3 + 0 from by omega) (show 0 + 3 ≤ 3 from by decide) rfl rfl) <| oB <| oI <| oN <| oN <| oY <| oE <| Zc (Z3 (E := Ze) (L := v13) (n := 64) (p := 1) (i := (v36).toNat) (q := 0) rfl (by omega) (show (1 + ((v36).toNat * 3)) = 1 + (v36).toNat * 3 + 0 from by omega) (show 0 + 3 ≤ 3 from by decide) rfl rfl) <| oB <| oI <| oN <| oN <| oY <| oE <| Zc (ZD (E := Ze) (L := v34) (i := (v36).toNat) (q := 0) (by omega) (show (0 + ((v36).toNat * 3)) = (v36).toNat * 3 + 0 from by omega) (show 0 + 3 ≤ 3 from by decide) rfl rfl) <| oB <| oI <| oN <| oN Zi) rfl (by decide) (by rfl) (fun _ => ⟨rr, ⟨rr, ⟨rr, ⟨rr, ⟨rr, ⟨rr, trivial⟩⟩⟩⟩⟩⟩) ⟨⟨rfl, ⟨[], by rfl⟩, by rfl⟩, ⟨⟨rfl, ⟨[], by kernel_rfl⟩, by kernel_rfl⟩, ⟨⟨rfl, ⟨[], by rfl⟩, by rfl⟩, ⟨⟨rfl, ⟨[], by rfl⟩, by rfl⟩, ⟨⟨rfl, ⟨[], by rfl⟩, by rfl⟩, ⟨⟨rfl, ⟨[], by rfl⟩, by rfl⟩, ⟨⟨rfl, ⟨[], by kernel_rfl⟩, by kernel_rfl⟩, ⟨⟨rfl, ⟨[], by rfl⟩, by rfl⟩, ⟨(Za (E := Zp) (α := RB) _ (List.replicate (a1).toNat (⟨(0 : Int), (0 : Int), (0 : Int)⟩ : RB)) _), ⟨(Za (E := eI) (α := Int) _ (List.replicate (a7).toNat (0 : Int)) _), ⟨(Za (E := Ze) (α := RA) _ v34 _), ⟨(Za (E := Zl) (α := RD) _ klc _), ⟨(Za (E := Zj) (α := R_ii) _ kla _), ⟨(Za (E := eI) (α := Int) _ v43 _), ⟨(Za (E := eI) (α := Int) _ v44 _), ⟨(Za (E := Zj) (α := R_ii) _ klb _), trivial⟩⟩⟩⟩⟩⟩⟩⟩⟩⟩⟩⟩⟩⟩⟩⟩
                  ·
                   exact Mach.ok_none
                 ·
                  exact Mach.ok_fin (M := Zg a0 a1 a2 a3 a4 a5 a6 a7 L8 N) (cd := 1000000) (cm := 0) (r := (.r0 (false) : Zn)) (fu := 4000) (orc := (Zo [(0, false), (1, false), (2, false), (4, true), (6, false), (7, false), (10, false), (12, true), (14, false), (15, false), (18, false), (19, false), (22, true), (24, false), (25, false), (28, true), (29, false)] [] [(0, (v36).toNat), (1, (v36).toNat), (2, (v36).toNat), (3, (v36).toNat)] [(4, [.i (v34.getD (v36).toNat RA.z).a0, .b (v34.getD (v36).toNat RA.z).a1, .b (v34.getD (v36).toNat RA.z).a2]), (8, [.i (v13.getD (v36).toNat RA.z).a0, .b (v13.getD (v36).toNat RA.z).a1, .b (v13.getD (v36).toNat RA.z).a2]), (13, [.i (v13.getD (v36).toNat RA.z).a0, .b (v13.getD (v36).toNat RA.z).a1, .b (v13.getD (v36).toNat RA.z).a2]), (18, [.i (v13.getD (v36).toNat RA.z).a0, .b (v13.getD (v36).toNat RA.z).a1, .b (v13.getD (v36).toNat RA.z).a2])] [])) (live := []) (u := vf) (bl := []) (ob := [((v34.getD (v36).toNat RA.z).a2, false), ((v13.getD (v36).toNat RA.z).a2, true), (Z0 (Zs 3 (List.drop (1 + ((v36).toNat * 3)) (Zk Ze 64 [vi a7] v13 [vi a0, vi a1, vi a2, vi a3, vi a4, vi a5, vi a6, vp 4 0, vp 5 0, vp 6 0, vp 7 0]))) [.i (v13.getD (v36).toNat RA.z).a0, .b (v13.getD (v36).toNat RA.z).a1, .b (v13.getD (v36).toNat RA.z).a2], true), (Nat.blt (v36).toNat 64, true), (v36 == Int.ofNat (v36).toNat, true), ((decide (v36 ≥ a7)), false), ((decide (v36 < (0 : Int))), false), ((decide (a7 > (0 : Int))), true), ((v34.getD (v36).toNat RA.z).a1, false), ((v13.getD (v36).toNat RA.z).a1, false), (Z0 (Zs 3 (List.drop (1 + ((v36).toNat * 3)) (Zk Ze 64 [vi a7] v13 [vi a0, vi a1, vi a2, vi a3, vi a4, vi a5, vi a6, vp 4 0, vp 5 0, vp 6 0, vp 7 0]))) [.i (v13.getD (v36).toNat RA.z).a0, .b (v13.getD (v36).toNat RA.z).a1, .b (v13.getD (v36).toNat RA.z).a2], true), (Nat.blt (v36).toNat 64, true), (v36 == Int.ofNat (v36).toNat, true), ((decide (v36 ≥ a7)), false), ((decide (v36 < (0 : Int))), false), ((decide (a7 > (0 : Int))), true), (((v13.getD (v36).toNat RA.z).a0 != (v34.getD (v36).toNat RA.z).a0), false), (Z0 (Zs 3 (List.drop (1 + ((v36).toNat * 3)) (Zk Ze 64 [vi a7] v13 [vi a0, vi a1, vi a2, vi a3, vi a4, vi a5, vi a6, vp 4 0, vp 5 0, vp 6 0, vp 7 0]))) [.i (v13.getD (v36).toNat RA.z).a0, .b (v13.getD (v36).toNat RA.z).a1, .b (v13.getD (v36).toNat RA.z).a2], true), (Nat.blt (v36).toNat 64, true), (v36 == Int.ofNat (v36).toNat, true), ((decide (v36 ≥ a7)), false), ((decide (v36 < (0 : Int))), false), ((decide (a7 > (0 : Int))), true), (((v3 : Int) != (v4 : Int)), false), (Z0 (Zs 3 (List.drop (0 + ((v36).toNat * 3)) (Zb Ze v34))) [.i (v34.getD (v36).toNat RA.z).a0, .b (v34.getD (v36).toNat RA.z).a1, .b (v34.getD (v36).toNat RA.z).a2], true), (Nat.blt (v36).toNat v34.length, true), (v36 == Int.ofNat (v36).toNat, true), ((decide (v36 ≥ (v34.length : Int))), false), ((decide (v36 < (0 : Int))), false)]) (fun gv => by kernel_rfl) (Zc (Bool.eq_false_iff.2 (by assumption)) <| Zc (by assumption) <| Zc (Z3 (E := Ze) (L := v13) (n := 64) (p := 1) (i := (v36).toNat) (q := 0) rfl (by omega) (show (1 + ((v36).toNat * 3)) = 1 + (v36).toNat * 3 + 0 from by omega) (show 0 + 3 ≤ 3 from by decide) rfl rfl) <| oB <| oI <| oN <| oN <| oY <| Zc (Bool.eq_false_iff.2 (by assumption)) <| Zc (Bool.eq_false_iff.2 (by assumption)) <| Zc (Z3 (E := Ze) (L := v13) (n := 64) (p := 1) (i := (v36).toNat) (q := 0) rfl (by omega) (show (1 + ((v36).toNat * 3)) = 1 + (v36).toNat * 3 + 0 from by omega) (show 0 + 3 ≤ 3 from by decide) rfl rfl) <| oB <| oI <| oN <| oN <| oY <| oE <| Zc (Z3 (E := Ze) (L := v13) (n := 64) (p := 1) (i := (v36).toNat) (q := 0) rfl (by omega) (show (1 + ((v36).toNat * 3)) = 1 + (v36).toNat * 3 + 0 from by omega) (show 0 + 3 ≤ 3 from by decide) rfl rfl) <| oB <| oI <| oN <| oN <| oY <| oE <| Zc (ZD (E := Ze) (L := v34) (i := (v36).toNat) (q := 0) (by omega) (show (0 + ((v36).toNat * 3)) = (v36).toNat * 3 + 0 from by omega) (show 0 + 3 ≤ 3 from by decide) rfl rfl) <| oB <| oI <| oN <| oN Zi) rfl (by decide) (by rfl) rr trivial
                ·
                 refine Mach.ok_ite (fun g16 => ?_) (fun g16 => ?_)
                 ·
                  exact Mach.ok_fin (M := Zg a0 a1 a2 a3 a4 a5 a6 a7 L8 N) (cd := 1000000) (cm := 0) (r := (.r0 (false) : Zn)) (fu := 4000) (orc := (Zo [(0, false), (1, false), (2, false), (4, true), (6, false), (7, false), (10, false), (12, true), (14, false), (15, false), (18, false), (19, false), (22, true), (24, false), (25, false), (28, false), (29, true)] [] [(0, (v36).toNat), (1, (v36).toNat), (2, (v36).toNat), (3, (v36).toNat)] [(4, [.i (v34.getD (v36).toNat RA.z).a0, .b (v34.getD (v36).toNat RA.z).a1, .b (v34.getD (v36).toNat RA.z).a2]), (8, [.i (v13.getD (v36).toNat RA.z).a0, .b (v13.getD (v36).toNat RA.z).a1, .b (v13.getD (v36).toNat RA.z).a2]), (13, [.i (v13.getD (v36).toNat RA.z).a0, .b (v13.getD (v36).toNat RA.z).a1, .b (v13.getD (v36).toNat RA.z).a2]), (18, [.i (v13.getD (v36).toNat RA.z).a0, .b (v13.getD (v36).toNat RA.z).a1, .b (v13.getD (v36).toNat RA.z).a2])] [])) (live := []) (u := vf) (bl := []) (ob := [((v34.getD (v36).toNat RA.z).a2, true), ((v13.getD (v36).toNat RA.z).a2, false), (Z0 (Zs 3 (List.drop (1 + ((v36).toNat * 3)) (Zk Ze 64 [vi a7] v13 [vi a0, vi a1, vi a2, vi a3, vi a4, vi a5, vi a6, vp 4 0, vp 5 0, vp 6 0, vp 7 0]))) [.i (v13.getD (v36).toNat RA.z).a0, .b (v13.getD (v36).toNat RA.z).a1, .b (v13.getD (v36).toNat RA.z).a2], true), (Nat.blt (v36).toNat 64, true), (v36 == Int.ofNat (v36).toNat, true), ((decide (v36 ≥ a7)), false), ((decide (v36 < (0 : Int))), false), ((decide (a7 > (0 : Int))), true), ((v34.getD (v36).toNat RA.z).a1, false), ((v13.getD (v36).toNat RA.z).a1, false), (Z0 (Zs 3 (List.drop (1 + ((v36).toNat * 3)) (Zk Ze 64 [vi a7] v13 [vi a0, vi a1, vi a2, vi a3, vi a4, vi a5, vi a6, vp 4 0, vp 5 0, vp 6 0, vp 7 0]))) [.i (v13.getD (v36).toNat RA.z).a0, .b (v13.getD (v36).toNat RA.z).a1, .b (v13.getD (v36).toNat RA.z).a2], true), (Nat.blt (v36).toNat 64, true), (v36 == Int.ofNat (v36).toNat, true), ((decide (v36 ≥ a7)), false), ((decide (v36 < (0 : Int))), false), ((decide (a7 > (0 : Int))), true), (((v13.getD (v36).toNat RA.z).a0 != (v34.getD (v36).toNat RA.z).a0), false), (Z0 (Zs 3 (List.drop (1 + ((v36).toNat * 3)) (Zk Ze 64 [vi a7] v13 [vi a0, vi a1, vi a2, vi a3, vi a4, vi a5, vi a6, vp 4 0, vp 5 0, vp 6 0, vp 7 0]))) [.i (v13.getD (v36).toNat RA.z).a0, .b (v13.getD (v36).toNat RA.z).a1, .b (v13.getD (v36).toNat RA.z).a2], true), (Nat.blt (v36).toNat 64, true), (v36 == Int.ofNat (v36).toNat, true), ((decide (v36 ≥ a7)), false), ((decide (v36 < (0 : Int))), false), ((decide (a7 > (0 : Int))), true), (((v3 : Int) != (v4 : Int)), false), (Z0 (Zs 3 (List.drop (0 + ((v36).toNat * 3)) (Zb Ze v34))) [.i (v34.getD (v36).toNat RA.z).a0, .b (v34.getD (v36).toNat RA.z).a1, .b (v34.getD (v36).toNat RA.z).a2], true), (Nat.blt (v36).toNat v34.length, true), (v36 == Int.ofNat (v36).toNat, true), ((decide (v36 ≥ (v34.length : Int))), false), ((decide (v36 < (0 : Int))), false)]) (fun gv => by kernel_rfl) (Zc (by assumption) <| Zc (Bool.eq_false_iff.2 (by assumption)) <| Zc (Z3 (E := Ze) (L := v13) (n := 64) (p := 1) (i := (v36).toNat) (q := 0) rfl (by omega) (show (1 + ((v36).toNat * 3)) = 1 + (v36).toNat * 3 + 0 from by omega) (show 0 + 3 ≤ 3 from by decide) rfl rfl) <| oB <| oI <| oN <| oN <| oY <| Zc (Bool.eq_false_iff.2 (by assumption)) <| Zc (Bool.eq_false_iff.2 (by assumption)) <| Zc (Z3 (E := Ze) (L := v13) (n := 64) (p := 1) (i := (v36).toNat) (q := 0) rfl (by omega) (show (1 + ((v36).toNat * 3)) = 1 + (v36).toNat * 3 + 0 from by omega) (show 0 + 3 ≤ 3 from by decide) rfl rfl) <| oB <| oI <| oN <| oN <| oY <| oE <| Zc (Z3 (E := Ze) (L := v13) (n := 64) (p := 1) (i := (v36).toNat) (q := 0) rfl (by omega) (show (1 + ((v36).toNat * 3)) = 1 + (v36).toNat * 3 + 0 from by omega) (show 0 + 3 ≤ 3 from by decide) rfl rfl) <| oB <| oI <| oN <| oN <| oY <| oE <| Zc (ZD (E := Ze) (L := v34) (i := (v36).toNat) (q := 0) (by omega) (show (0 + ((v36).toNat * 3)) = (v36).toNat * 3 + 0 from by omega) (show 0 + 3 ≤ 3 from by decide) rfl rfl) <| oB <| oI <| oN <| oN Zi) rfl (by decide) (by rfl) rr trivial
                 ·
                  refine Mach.ok_ite (fun g17 => ?_) (fun g17 => ?_)
                  ·
                   exact Mach.ok_next (M := Zg a0 a1 a2 a3 a4 a5 a6 a7 L8 N) (cd := 1000000) (cm := 0) (y := (.h1m1 ((v2 + 1)) (v13) (v30) (v34) (v43) (v44) (v49) : Zf)) (fu := 4000) (orc := (Zo [(0, false), (1, false), (2, false), (4, true), (6, false), (7, false), (10, false), (12, true), (14, false), (15, false), (18, false), (19, false), (22, true), (24, false), (25, false), (28, false), (29, false), (32, true), (34, false), (36, true), (38, false)] [(0, (((v2 + 1) : Nat) : Int))] [(0, (v36).toNat), (1, (v36).toNat), (2, (v36).toNat), (3, (v36).toNat)] [(4, [.i (v34.getD (v36).toNat RA.z).a0, .b (v34.getD (v36).toNat RA.z).a1, .b (v34.getD (v36).toNat RA.z).a2]), (8, [.i (v13.getD (v36).toNat RA.z).a0, .b (v13.getD (v36).toNat RA.z).a1, .b (v13.getD (v36).toNat RA.z).a2]), (13, [.i (v13.getD (v36).toNat RA.z).a0, .b (v13.getD (v36).toNat RA.z).a1, .b (v13.getD (v36).toNat RA.z).a2]), (18, [.i (v13.getD (v36).toNat RA.z).a0, .b (v13.getD (v36).toNat RA.z).a1, .b (v13.getD (v36).toNat RA.z).a2])] [])) (live := [0, 1, 2, 4, 5, 6, 7, 8, 9, 10, 11, 12, 13, 14, 15, 16]) (tv := fun _ => [some (vi a7), some (ms E_iiiib L8), some (vp 0 0), some (vp 1 0), some (vp 2 0), some (vi (((v2 + 1) : Nat) : Int))]) (bl := [some (.cells [vi a0, vi a1, vi a2, vi a3, vi a4, vi a5, vi a6] 24), some (.cells (Zk Ze 64 [vi a7] v13 [vi a0, vi a1, vi a2, vi a3, vi a4, vi a5, vi a6, vp 4 0, vp 5 0, vp 6 0, vp 7 0]) 111), some (.cells [vi a0, vi a1, vi a2, vi a3, vi a4, vi a5, vi a6, vi a0, vs 8 0 1 1, vn, vs 9 0 (a1).toNat (a1).toNat, vi v30, vq, vq, vs 10 0 (a7).toNat (a7).toNat, vs 11 0 v34.length v34.length] 43), some (.cells [vi a0, vs 12 0 17 17, vs 13 0 17 17, vn, vn, vn, vn, vn, vn, vn, vn, vn, vn, vn, vn, vn, vn, vn, vn, vn] 134), some (.cells [vs 14 0 v43.length v43.length, vs 15 0 v44.length v44.length] 158), some (.cells [vi a4, vq, vq] 163), some (.cells (Zk eI 64 [vi a7] v49 []) 171), some (kza), some (.cells (Zb Zp (List.replicate (a1).toNat (⟨(0 : Int), (0 : Int), (0 : Int)⟩ : RB))) 89), some (.cells (Zb eI (List.replicate (a7).toNat (0 : Int))) 3), some (.cells (Zb Ze v34) 63), some (.cells (Zb Zl klc) 129), some (.cells (Zb Zj kla) 72), some (.cells (Zb eI v43) 155), some (.cells (Zb eI v44) 155), some (.cells (Zb Zj klb) 72)]) (ob := [((IntKind.i64.wrap ((v2 : Int) + (1 : Int))) == (((v2 + 1) : Nat) : Int), true), ((a7 != a7), false), ((decide (a7 > (0 : Int))), true), ((!((a0 == a0) && ((a1 == a1) && ((a2 == a2) && ((a3 == a3) && ((a4 == a4) && ((a5 == a5) && ((a6 == a6) && true)))))))), false), ((decide (a7 > (0 : Int))), true), ((v34.getD (v36).toNat RA.z).a2, false), ((v13.getD (v36).toNat RA.z).a2, false), (Z0 (Zs 3 (List.drop (1 + ((v36).toNat * 3)) (Zk Ze 64 [vi a7] v13 [vi a0, vi a1, vi a2, vi a3, vi a4, vi a5, vi a6, vp 4 0, vp 5 0, vp 6 0, vp 7 0]))) [.i (v13.getD (v36).toNat RA.z).a0, .b (v13.getD (v36).toNat RA.z).a1, .b (v13.getD (v36).toNat RA.z).a2], true), (Nat.blt (v36).toNat 64, true), (v36 == Int.ofNat (v36).toNat, true), ((decide (v36 ≥ a7)), false), ((decide (v36 < (0 : Int))), false), ((decide (a7 > (0 : Int))), true), ((v34.getD (v36).toNat RA.z).a1, false), ((v13.getD (v36).toNat RA.z).a1, false), (Z0 (Zs 3 (List.drop (1 + ((v36).toNat * 3)) (Zk Ze 64 [vi a7] v13 [vi a0, vi a1, vi a2, vi a3, vi a4, vi a5, vi a6, vp 4 0, vp 5 0, vp 6 0, vp 7 0]))) [.i (v13.getD (v36).toNat RA.z).a0, .b (v13.getD (v36).toNat RA.z).a1, .b (v13.getD (v36).toNat RA.z).a2], true), (Nat.blt (v36).toNat 64, true), (v36 == Int.ofNat (v36).toNat, true), ((decide (v36 ≥ a7)), false), ((decide (v36 < (0 : Int))), false), ((decide (a7 > (0 : Int))), true), (((v13.getD (v36).toNat RA.z).a0 != (v34.getD (v36).toNat RA.z).a0), false), (Z0 (Zs 3 (List.drop (1 + ((v36).toNat * 3)) (Zk Ze 64 [vi a7] v13 [vi a0, vi a1, vi a2, vi a3, vi a4, vi a5, vi a6, vp 4 0, vp 5 0, vp 6 0, vp 7 0]))) [.i (v13.getD (v36).toNat RA.z).a0, .b (v13.getD (v36).toNat RA.z).a1, .b (v13.getD (v36).toNat RA.z).a2], true), (Nat.blt (v36).toNat 64, true), (v36 == Int.ofNat (v36).toNat, true), ((decide (v36 ≥ a7)), false), ((decide (v36 < (0 : Int))), false), ((decide (a7 > (0 : Int))), true), (((v3 : Int) != (v4 : Int)), false), (Z0 (Zs 3 (List.drop (0 + ((v36).toNat * 3)) (Zb Ze v34))) [.i (v34.getD (v36).toNat RA.z).a0, .b (v34.getD (v36).toNat RA.z).a1, .b (v34.getD (v36).toNat RA.z).a2], true), (Nat.blt (v36).toNat v34.length, true), (v36 == Int.ofNat (v36).toNat, true), ((decide (v36 ≥ (v34.length : Int))), false), ((decide (v36 < (0 : Int))), false)]) rfl (show 1 ∈ Zy (Zr 7) from by decide +kernel) (fun gv => by kernel_rfl) (Zc (beq_iff_eq.2 ((wrap_i64 ltA).trans (by first | rfl | omega))) <| oE <| oY <| Zc (by rw [Bool.not_eq_false']; first | (simp only [beq_self_eq_true, Bool.and_self]; done) | (simp only [Bool.and_true, Bool.and_eq_true, beq_iff_eq] <;> first | omega | (simp_all; done) | grind)) <| oY <| Zc (Bool.eq_false_iff.2 (by assumption)) <| Zc (Bool.eq_false_iff.2 (by assumption)) <| Zc (Z3 (E := Ze) (L := v13) (n := 64) (p := 1) (i := (v36).toNat) (q := 0) rfl (by omega) (show (1 + ((v36).toNat * 3)) = 1 + (v36).toNat * 3 + 0 from by omega) (show 0 + 3 ≤ 3 from by decide) rfl rfl) <| oB <| oI <| oN <| oN <| oY <| Zc (Bool.eq_false_iff.2 (by assumption)) <| Zc (Bool.eq_false_iff.2 (by assumption)) <| Zc (Z3 (E := Ze) (L := v13) (n := 64) (p := 1) (i := (v36).toNat) (q := 0) rfl (by omega) (show (1 + ((v36).toNat * 3)) = 1 + (v36).toNat * 3 + 0 from by omega) (show 0 + 3 ≤ 3 from by decide) rfl rfl) <| oB <| oI <| oN <| oN <| oY <| oE <| Zc (Z3 (E := Ze) (L := v13) (n := 64) (p := 1) (i := (v36).toNat) (q := 0) rfl (by omega) (show (1 + ((v36).toNat * 3)) = 1 + (v36).toNat * 3 + 0 from by omega) (show 0 + 3 ≤ 3 from by decide) rfl rfl) <| oB <| oI <| oN <| oN <| oY <| oE <| Zc (ZD (E := Ze) (L := v34) (i := (v36).toNat) (q := 0) (by omega) (show (0 + ((v36).toNat * 3)) = (v36).toNat * 3 + 0 from by omega) (show 0 + 3 ≤ 3 from by decide) rfl rfl) <| oB <| oI <| oN <| oN Zi) rfl (by decide) (by rfl) (fun _ => ⟨rr, ⟨rr, ⟨rr, ⟨rr, ⟨rr, ⟨rr, trivial⟩⟩⟩⟩⟩⟩) ⟨⟨rfl, ⟨[], by rfl⟩, by rfl⟩, ⟨⟨rfl, ⟨[], by kernel_rfl⟩, by kernel_rfl⟩, ⟨⟨rfl, ⟨[], by rfl⟩, by rfl⟩, ⟨⟨rfl, ⟨[], by rfl⟩, by rfl⟩, ⟨⟨rfl, ⟨[], by rfl⟩, by rfl⟩, ⟨⟨rfl, ⟨[], by rfl⟩, by rfl⟩, ⟨⟨rfl, ⟨[], by kernel_rfl⟩, by kernel_rfl⟩, ⟨⟨rfl, ⟨[], by rfl⟩, by rfl⟩, ⟨(Za (E := Zp) (α := RB) _ (List.replicate (a1).toNat (⟨(0 : Int), (0 : Int), (0 : Int)⟩ : RB)) _), ⟨(Za (E := eI) (α := Int) _ (List.replicate (a7).toNat (0 : Int)) _), ⟨(Za (E := Ze) (α := RA) _ v34 _), ⟨(Za (E := Zl) (α := RD) _ klc _), ⟨(Za (E := Zj) (α := R_ii) _ kla _), ⟨(Za (E := eI) (α := Int) _ v43 _), ⟨(Za (E := eI) (α := Int) _ v44 _), ⟨(Za (E := Zj) (α := R_ii) _ klb _), trivial⟩⟩⟩⟩⟩⟩⟩⟩⟩⟩⟩⟩⟩⟩⟩⟩
                  ·
                   exact Mach.ok_none
        ·
         exact Mach.ok_none
       ·
        exact Mach.ok_none
      ·
       exact Mach.ok_none
     ·
      exact Mach.ok_none
    ·
     exact Mach.ok_none
   ·
    exact Mach.ok_none
  ·
   exact Mach.ok_none
 ·
  exact Mach.ok_none

theorem ZgV (a0 a1 a2 a3 a4 a5 a6 a7 : Int) (L8 : List RC) (v2 : Nat) (v13 : List RA) (v30 : Int) (v34 : List RA) (v35 v36 v37 v38 : Int) (v39 : Bool) (v41 : List RA) (v52 v53 v58 v71 v72 v77 : List Int) (N : Nat) : (Zg a0 a1 a2 a3 a4 a5 a6 a7 L8 N).Ok Try.prog ZQ (.h8m0 v2 v13 v30 v34 v35 v36 v37 v38 v39 v41 v52 v53 v58 v71 v72 v77 : Zf) (ZL a0 a1 a2 a3 a4 a5 a6 a7 L8 N (.h8m0 v2 v13 v30 v34 v35 v36 v37 v38 v39 v41 v52 v53 v58 v71 v72 v77 : Zf)) := by
 show (Zg a0 a1 a2 a3 a4 a5 a6 a7 L8 N).Ok Try.prog ZQ (.h8m0 v2 v13 v30 v34 v35 v36 v37 v38 v39 v41 v52 v53 v58 v71 v72 v77 : Zf) (Zdi a0 a1 a2 a3 a4 a5 a6 a7 L8 N v2 v13 v30 v34 v35 v36 v37 v38 v39 v41 v52 v53 v58 v71 v72 v77)
 unfold Zdi
 refine Mach.ok_ite (fun g0 => ?_) (fun g0 => ?_)
 ·
  refine Mach.ok_ite (fun g1 => ?_) (fun g1 => ?_)
  ·
   refine Mach.ok_ite (fun g2 => ?_) (fun g2 => ?_)
   ·
    refine Mach.ok_ite (fun g3 => ?_) (fun g3 => ?_)
    ·
     refine Mach.ok_ite (fun g4 => ?_) (fun g4 => ?_)
     ·
      refine Mach.ok_ite (fun g5 => ?_) (fun g5 => ?_)
      ·
       refine Mach.ok_ite (fun g6 => ?_) (fun g6 => ?_)
       ·
        refine Mach.ok_ite (fun g7 => ?_) (fun g7 => ?_)
        ·
         refine Mach.ok_ite (fun g8 => ?_) (fun g8 => ?_)
         ·
          exact Mach.ok_cut (bK := Zh 9) (M := Zg a0 a1 a2 a3 a4 a5 a6 a7 L8 N) (cd := 7) (cm := 0) (y := (.h9m0 (v2) (v13) (v30) (v34) (v35) (v36) (v37) (v38) (v39) (v41) (v52) (v53) (v58) (v71) (v72) (v77) : Zf)) (fu := 4000) (orc := (Zo [(1, true), (4, false), (8, true)] [] [] [] [])) (live := [0, 1, 2, 3, 4, 5, 6, 7, 8, 9, 10, 11, 12, 13, 14, 15, 16, 17, 18, 19, 20, 21, 22, 23, 24, 25]) (tv := fun _ => [some (vi a7), some (ms E_iiiib L8), some (vp 0 0), some (vp 1 0), some (vp 2 0), some (vi (v2 : Int)), some (vp 3 0), some (vq), some (vq), some (vp 4 0)]) (bl := [some (.cells [vi a0, vi a1, vi a2, vi a3, vi a4, vi a5, vi a6] 24), some (.cells (Zk Ze 64 [vi a7] v13 [vi a0, vi a1, vi a2, vi a3, vi a4, vi a5, vi a6, vp 5 0, vp 6 0, vp 7 0, vp 8 0]) 111), some (.cells [vi a0, vi a1, vi a2, vi a3, vi a4, vi a5, vi a6, vi a0, vs 9 0 1 1, vn, vs 10 0 (a1).toNat (a1).toNat, vi v30, vq, vq, vs 11 0 (a7).toNat (a7).toNat, vs 12 0 v34.length v34.length] 43), some (.cells [vi v35, vi v36, vi v37, vi v38, Value.bool v39] 50), some (.cells (Zk Ze 64 [vi a7] v41 [vi a0, vi a1, vi a2, vi a3, vi a4, vi a5, vi a6, vp 13 0, vp 14 0, vp 15 0, vp 16 0]) 111), some (.cells [vi a0, vs 17 0 17 17, vs 18 0 17 17, vn, vn, vn, vn, vn, vn, vn, vn, vn, vn, vn, vn, vn, vn, vn, vn, vn] 134), some (.cells [vs 19 0 v52.length v52.length, vs 20 0 v53.length v53.length] 158), some (.cells [vi a4, vq, vq] 163), some (.cells (Zk eI 64 [vi a7] v58 []) 171), some (kzb), some (.cells (Zb Zp (List.replicate (a1).toNat (⟨(0 : Int), (0 : Int), (0 : Int)⟩ : RB))) 89), some (.cells (Zb eI (List.replicate (a7).toNat (0 : Int))) 3), some (.cells (Zb Ze v34) 63), some (.cells [vi a0, vs 22 0 17 17, vs 23 0 17 17, vn, vn, vn, vn, vn, vn, vn, vn, vn, vn, vn, vn, vn, vn, vn, vn, vn] 134), some (.cells [vs 24 0 v71.length v71.length, vs 25 0 v72.length v72.length] 158), some (.cells [vi a4, vq, vq] 163), some (.cells (Zk eI 64 [vi a7] v77 []) 171), some (.cells (Zb Zl klc) 129), some (.cells (Zb Zj kla) 72), some (.cells (Zb eI v52) 155), some (.cells (Zb eI v53) 155), some (.cells (Zb Zj klb) 72), some (.cells (Zb Zl klc) 129), some (.cells (Zb Zj kla) 72), some (.cells (Zb eI v71) 155), some (.cells (Zb eI v72) 155)]) (ob := [(((v41.getD 0 RA.z).a0 != (0 : Int)), true), ((decide ((0 : Int) ≥ a7)), false), ((decide (a7 > (0 : Int))), true)]) rfl rfl (show ∀ j ∈ Zy (Zh 9).2, j ∈ Zy (Zr 8) from by decide +kernel) (fun gv => by kernel_rfl) (oD <| oN <| oY Zi) rfl (by decide) (by rfl) (fun _ => ⟨rr, ⟨rr, ⟨rr, ⟨rr, ⟨rr, ⟨rr, ⟨rr, ⟨rr, ⟨rr, ⟨rr, trivial⟩⟩⟩⟩⟩⟩⟩⟩⟩⟩) ⟨⟨rfl, ⟨[], by rfl⟩, by rfl⟩, ⟨⟨rfl, ⟨[], by kernel_rfl⟩, by kernel_rfl⟩, ⟨⟨rfl, ⟨[], by rfl⟩, by rfl⟩, ⟨⟨rfl, ⟨[], by rfl⟩, by rfl⟩, ⟨⟨rfl, ⟨[], by kernel_rfl⟩, by kernel_rfl⟩, ⟨⟨rfl, ⟨[], by rfl⟩, by rfl⟩, ⟨⟨rfl, ⟨[], by rfl⟩, by rfl⟩, ⟨⟨rfl, ⟨[], by rfl⟩, by rfl⟩, ⟨⟨rfl, ⟨[], by kernel_rfl⟩, by kernel_rfl⟩, ⟨⟨rfl, ⟨[], by rfl⟩, by rfl⟩, ⟨(Za (E := Zp) (α := RB) _ (List.replicate (a1).toNat (⟨(0 : Int), (0 : Int), (0 : Int)⟩ : RB)) _), ⟨(Za (E := eI) (α := Int) _ (List.replicate (a7).toNat (0 : Int)) _), ⟨(Za (E := Ze) (α := RA) _ v34 _), ⟨⟨rfl, ⟨[], by rfl⟩, by rfl⟩, ⟨⟨rfl, ⟨[], by rfl⟩, by rfl⟩, ⟨⟨rfl, ⟨[], by rfl⟩, by rfl⟩, ⟨⟨rfl, ⟨[], by kernel_rfl⟩, by kernel_rfl⟩, ⟨(Za (E := Zl) (α := RD) _ klc _), ⟨(Za (E := Zj) (α := R_ii) _ kla _), ⟨(Za (E := eI) (α := Int) _ v52 _), ⟨(Za (E := eI) (α := Int) _ v53 _), ⟨(Za (E := Zj) (α := R_ii) _ klb _), ⟨(Za (E := Zl) (α := RD) _ klc _), ⟨(Za (E := Zj) (α := R_ii) _ kla _), ⟨(Za (E := eI) (α := Int) _ v71 _), ⟨(Za (E := eI) (α := Int) _ v72 _), trivial⟩⟩⟩⟩⟩⟩⟩⟩⟩⟩⟩⟩⟩⟩⟩⟩⟩⟩⟩⟩⟩⟩⟩⟩⟩⟩
         ·
          exact Mach.ok_cut (bK := Zh 9) (M := Zg a0 a1 a2 a3 a4 a5 a6 a7 L8 N) (cd := 7) (cm := 0) (y := (.h9m0 (v2) (v13) (v30) (v34) (v35) (v36) (v37) (v38) (v39) (([(⟨(99 : Int), false, false⟩ : RA), (⟨(v41.getD 1 RA.z).a0, (v41.getD 1 RA.z).a1, (v41.getD 1 RA.z).a2⟩ : RA), (⟨(v41.getD 2 RA.z).a0, (v41.getD 2 RA.z).a1, (v41.getD 2 RA.z).a2⟩ : RA), (⟨(v41.getD 3 RA.z).a0, (v41.getD 3 RA.z).a1, (v41.getD 3 RA.z).a2⟩ : RA), (⟨(v41.getD 4 RA.z).a0, (v41.getD 4 RA.z).a1, (v41.getD 4 RA.z).a2⟩ : RA), (⟨(v41.getD 5 RA.z).a0, (v41.getD 5 RA.z).a1, (v41.getD 5 RA.z).a2⟩ : RA), (⟨(v41.getD 6 RA.z).a0, (v41.getD 6 RA.z).a1, (v41.getD 6 RA.z).a2⟩ : RA), (⟨(v41.getD 7 RA.z).a0, (v41.getD 7 RA.z).a1, (v41.getD 7 RA.z).a2⟩ : RA), (⟨(v41.getD 8 RA.z).a0, (v41.getD 8 RA.z).a1, (v41.getD 8 RA.z).a2⟩ : RA), (⟨(v41.getD 9 RA.z).a0, (v41.getD 9 RA.z).a1, (v41.getD 9 RA.z).a2⟩ : RA), (⟨(v41.getD 10 RA.z).a0, (v41.getD 10 RA.z).a1, (v41.getD 10 RA.z).a2⟩ : RA), (⟨(v41.getD 11 RA.z).a0, (v41.getD 11 RA.z).a1, (v41.getD 11 RA.z).a2⟩ : RA), (⟨(v41.getD 12 RA.z).a0, (v41.getD 12 RA.z).a1, (v41.getD 12 RA.z).a2⟩ : RA), (⟨(v41.getD 13 RA.z).a0, (v41.getD 13 RA.z).a1, (v41.getD 13 RA.z).a2⟩ : RA), (⟨(v41.getD 14 RA.z).a0, (v41.getD 14 RA.z).a1, (v41.getD 14 RA.z).a2⟩ : RA), (⟨(v41.getD 15 RA.z).a0, (v41.getD 15 RA.z).a1, (v41.getD 15 RA.z).a2⟩ : RA), (⟨(v41.getD 16 RA.z).a0, (v41.getD 16 RA.z).a1, (v41.getD 16 RA.z).a2⟩ : RA), (⟨(v41.getD 17 RA.z).a0, (v41.getD 17 RA.z).a1, (v41.getD 17 RA.z).a2⟩ : RA), (⟨(v41.getD 18 RA.z).a0, (v41.getD 18 RA.z).a1, (v41.getD 18 RA.z).a2⟩ : RA), (⟨(v41.getD 19 RA.z).a0, (v41.getD 19 RA.z).a1, (v41.getD 19 RA.z).a2⟩ : RA), (⟨(v41.getD 20 RA.z).a0, (v41.getD 20 RA.z).a1, (v41.getD 20 RA.z).a2⟩ : RA), (⟨(v41.getD 21 RA.z).a0, (v41.getD 21 RA.z).a1, (v41.getD 21 RA.z).a2⟩ : RA), (⟨(v41.getD 22 RA.z).a0, (v41.getD 22 RA.z).a1, (v41.getD 22 RA.z).a2⟩ : RA), (⟨(v41.getD 23 RA.z).a0, (v41.getD 23 RA.z).a1, (v41.getD 23 RA.z).a2⟩ : RA), (⟨(v41.getD 24 RA.z).a0, (v41.getD 24 RA.z).a1, (v41.getD 24 RA.z).a2⟩ : RA), (⟨(v41.getD 25 RA.z).a0, (v41.getD 25 RA.z).a1, (v41.getD 25 RA.z).a2⟩ : RA), (⟨(v41.getD 26 RA.z).a0, (v41.getD 26 RA.z).a1, (v41.getD 26 RA.z).a2⟩ : RA), (⟨(v41.getD 27 RA.z).a0, (v41.getD 27 RA.z).a1, (v41.getD 27 RA.z).a2⟩ : RA), (⟨(v41.getD 28 RA.z).a0, (v41.getD 28 RA.z).a1, (v41.getD 28 RA.z).a2⟩ : RA), (⟨(v41.getD 29 RA.z).a0, (v41.getD 29 RA.z).a1, (v41.getD 29 RA.z).a2⟩ : RA), (⟨(v41.getD 30 RA.z).a0, (v41.getD 30 RA.z).a1, (v41.getD 30 RA.z).a2⟩ : RA), (⟨(v41.getD 31 RA.z).a0, (v41.getD 31 RA.z).a1, (v41.getD 31 RA.z).a2⟩ : RA), (⟨(v41.getD 32 RA.z).a0, (v41.getD 32 RA.z).a1, (v41.getD 32 RA.z).a2⟩ : RA), (⟨(v41.getD 33 RA.z).a0, (v41.getD 33 RA.z).a1, (v41.getD 33 RA.z).a2⟩ : RA), (⟨(v41.getD 34 RA.z).a0, (v41.getD 34 RA.z).a1, (v41.getD 34 RA.z).a2⟩ : RA), (⟨(v41.getD 35 RA.z).a0, (v41.getD 35 RA.z).a1, (v41.getD 35 RA.z).a2⟩ : RA), (⟨(v41.getD 36 RA.z).a0, (v41.getD 36 RA.z).a1, (v41.getD 36 RA.z).a2⟩ : RA), (⟨(v41.getD 37 RA.z).a0, (v41.getD 37 RA.z).a1, (v41.getD 37 RA.z).a2⟩ : RA), (⟨(v41.getD 38 RA.z).a0, (v41.getD 38 RA.z).a1, (v41.getD 38 RA.z).a2⟩ : RA), (⟨(v41.getD 39 RA.z).a0, (v41.getD 39 RA.z).a1, (v41.getD 39 RA.z).a2⟩ : RA), (⟨(v41.getD 40 RA.z).a0, (v41.getD 40 RA.z).a1, (v41.getD 40 RA.z).a2⟩ : RA), (⟨(v41.getD 41 RA.z).a0, (v41.getD 41 RA.z).a1, (v41.getD 41 RA.z).a2⟩ : RA), (⟨(v41.getD 42 RA.z).a0, (v41.getD 42 RA.z).a1, (v41.getD 42 RA.z).a2⟩ : RA), (⟨(v41.getD 43 RA.z).a0, (v41.getD 43 RA.z).a1, (v41.getD 43 RA.z).a2⟩ : RA), (⟨(v41.getD 44 RA.z).a0, (v41.getD 44 RA.z).a1, (v41.getD 44 RA.z).a2⟩ : RA), (⟨(v41.getD 45 RA.z).a0, (v41.getD 45 RA.z).a1, (v41.getD 45 RA.z).a2⟩ : RA), (⟨(v41.getD 46 RA.z).a0, (v41.getD 46 RA.z).a1, (v41.getD 46 RA.z).a2⟩ : RA), (⟨(v41.getD 47 RA.z).a0, (v41.getD 47 RA.z).a1, (v41.getD 47 RA.z).a2⟩ : RA), (⟨(v41.getD 48 RA.z).a0, (v41.getD 48 RA.z).a1, (v41.getD 48 RA.z).a2⟩ : RA), (⟨(v41.getD 49 RA.z).a0, (v41.getD 49 RA.z).a1, (v41.getD 49 RA.z).a2⟩ : RA), (⟨(v41.getD 50 RA.z).a0, (v41.getD 50 RA.z).a1, (v41.getD 50 RA.z).a2⟩ : RA), (⟨(v41.getD 51 RA.z).a0, (v41.getD 51 RA.z).a1, (v41.getD 51 RA.z).a2⟩ : RA), (⟨(v41.getD 52 RA.z).a0, (v41.getD 52 RA.z).a1, (v41.getD 52 RA.z).a2⟩ : RA), (⟨(v41.getD 53 RA.z).a0, (v41.getD 53 RA.z).a1, (v41.getD 53 RA.z).a2⟩ : RA), (⟨(v41.getD 54 RA.z).a0, (v41.getD 54 RA.z).a1, (v41.getD 54 RA.z).a2⟩ : RA), (⟨(v41.getD 55 RA.z).a0, (v41.getD 55 RA.z).a1, (v41.getD 55 RA.z).a2⟩ : RA), (⟨(v41.getD 56 RA.z).a0, (v41.getD 56 RA.z).a1, (v41.getD 56 RA.z).a2⟩ : RA), (⟨(v41.getD 57 RA.z).a0, (v41.getD 57 RA.z).a1, (v41.getD 57 RA.z).a2⟩ : RA), (⟨(v41.getD 58 RA.z).a0, (v41.getD 58 RA.z).a1, (v41.getD 58 RA.z).a2⟩ : RA), (⟨(v41.getD 59 RA.z).a0, (v41.getD 59 RA.z).a1, (v41.getD 59 RA.z).a2⟩ : RA), (⟨(v41.getD 60 RA.z).a0, (v41.getD 60 RA.z).a1, (v41.getD 60 RA.z).a2⟩ : RA), (⟨(v41.getD 61 RA.z).a0, (v41.getD 61 RA.z).a1, (v41.getD 61 RA.z).a2⟩ : RA), (⟨(v41.getD 62 RA.z).a0, (v41.getD 62 RA.z).a1, (v41.getD 62 RA.z).a2⟩ : RA), (⟨(v41.getD 63 RA.z).a0, (v41.getD 63 RA.z).a1, (v41.getD 63 RA.z).a2⟩ : RA)] : List RA)) (v52) (v53) (v58) (v71) (v72) (v77) : Zf)) (fu := 4000) (orc := (Zo [(1, true), (4, false), (8, false)] [] [] [] [])) (live := [0, 1, 2, 3, 4, 5, 6, 7, 8, 9, 10, 11, 12, 13, 14, 15, 16, 17, 18, 19, 20, 21, 22, 23, 24, 25]) (tv := fun _ => [some (vi a7), some (ms E_iiiib L8), some (vp 0 0), some (vp 1 0), some (vp 2 0), some (vi (v2 : Int)), some (vp 3 0), some (vq), some (vq), some (vp 4 0)]) (bl := [some (.cells [vi a0, vi a1, vi a2, vi a3, vi a4, vi a5, vi a6] 24), some (.cells (Zk Ze 64 [vi a7] v13 [vi a0, vi a1, vi a2, vi a3, vi a4, vi a5, vi a6, vp 5 0, vp 6 0, vp 7 0, vp 8 0]) 111), some (.cells [vi a0, vi a1, vi a2, vi a3, vi a4, vi a5, vi a6, vi a0, vs 9 0 1 1, vn, vs 10 0 (a1).toNat (a1).toNat, vi v30, vq, vq, vs 11 0 (a7).toNat (a7).toNat, vs 12 0 v34.length v34.length] 43), some (.cells [vi v35, vi v36, vi v37, vi v38, Value.bool v39] 50), some (.cells (Zk Ze 64 [vi a7] ([(⟨(99 : Int), false, false⟩ : RA), (⟨(v41.getD 1 RA.z).a0, (v41.getD 1 RA.z).a1, (v41.getD 1 RA.z).a2⟩ : RA), (⟨(v41.getD 2 RA.z).a0, (v41.getD 2 RA.z).a1, (v41.getD 2 RA.z).a2⟩ : RA), (⟨(v41.getD 3 RA.z).a0, (v41.getD 3 RA.z).a1, (v41.getD 3 RA.z).a2⟩ : RA), (⟨(v41.getD 4 RA.z).a0, (v41.getD 4 RA.z).a1, (v41.getD 4 RA.z).a2⟩ : RA), (⟨(v41.getD 5 RA.z).a0, (v41.getD 5 RA.z).a1, (v41.getD 5 RA.z).a2⟩ : RA), (⟨(v41.getD 6 RA.z).a0, (v41.getD 6 RA.z).a1, (v41.getD 6 RA.z).a2⟩ : RA), (⟨(v41.getD 7 RA.z).a0, (v41.getD 7 RA.z).a1, (v41.getD 7 RA.z).a2⟩ : RA), (⟨(v41.getD 8 RA.z).a0, (v41.getD 8 RA.z).a1, (v41.getD 8 RA.z).a2⟩ : RA), (⟨(v41.getD 9 RA.z).a0, (v41.getD 9 RA.z).a1, (v41.getD 9 RA.z).a2⟩ : RA), (⟨(v41.getD 10 RA.z).a0, (v41.getD 10 RA.z).a1, (v41.getD 10 RA.z).a2⟩ : RA), (⟨(v41.getD 11 RA.z).a0, (v41.getD 11 RA.z).a1, (v41.getD 11 RA.z).a2⟩ : RA), (⟨(v41.getD 12 RA.z).a0, (v41.getD 12 RA.z).a1, (v41.getD 12 RA.z).a2⟩ : RA), (⟨(v41.getD 13 RA.z).a0, (v41.getD 13 RA.z).a1, (v41.getD 13 RA.z).a2⟩ : RA), (⟨(v41.getD 14 RA.z).a0, (v41.getD 14 RA.z).a1, (v41.getD 14 RA.z).a2⟩ : RA), (⟨(v41.getD 15 RA.z).a0, (v41.getD 15 RA.z).a1, (v41.getD 15 RA.z).a2⟩ : RA), (⟨(v41.getD 16 RA.z).a0, (v41.getD 16 RA.z).a1, (v41.getD 16 RA.z).a2⟩ : RA), (⟨(v41.getD 17 RA.z).a0, (v41.getD 17 RA.z).a1, (v41.getD 17 RA.z).a2⟩ : RA), (⟨(v41.getD 18 RA.z).a0, (v41.getD 18 RA.z).a1, (v41.getD 18 RA.z).a2⟩ : RA), (⟨(v41.getD 19 RA.z).a0, (v41.getD 19 RA.z).a1, (v41.getD 19 RA.z).a2⟩ : RA), (⟨(v41.getD 20 RA.z).a0, (v41.getD 20 RA.z).a1, (v41.getD 20 RA.z).a2⟩ : RA), (⟨(v41.getD 21 RA.z).a0, (v41.getD 21 RA.z).a1, (v41.getD 21 RA.z).a2⟩ : RA), (⟨(v41.getD 22 RA.z).a0, (v41.getD 22 RA.z).a1, (v41.getD 22 RA.z).a2⟩ : RA), (⟨(v41.getD 23 RA.z).a0, (v41.getD 23 RA.z).a1, (v41.getD 23 RA.z).a2⟩ : RA), (⟨(v41.getD 24 RA.z).a0, (v41.getD 24 RA.z).a1, (v41.getD 24 RA.z).a2⟩ : RA), (⟨(v41.getD 25 RA.z).a0, (v41.getD 25 RA.z).a1, (v41.getD 25 RA.z).a2⟩ : RA), (⟨(v41.getD 26 RA.z).a0, (v41.getD 26 RA.z).a1, (v41.getD 26 RA.z).a2⟩ : RA), (⟨(v41.getD 27 RA.z).a0, (v41.getD 27 RA.z).a1, (v41.getD 27 RA.z).a2⟩ : RA), (⟨(v41.getD 28 RA.z).a0, (v41.getD 28 RA.z).a1, (v41.getD 28 RA.z).a2⟩ : RA), (⟨(v41.getD 29 RA.z).a0, (v41.getD 29 RA.z).a1, (v41.getD 29 RA.z).a2⟩ : RA), (⟨(v41.getD 30 RA.z).a0, (v41.getD 30 RA.z).a1, (v41.getD 30 RA.z).a2⟩ : RA), (⟨(v41.getD 31 RA.z).a0, (v41.getD 31 RA.z).a1, (v41.getD 31 RA.z).a2⟩ : RA), (⟨(v41.getD 32 RA.z).a0, (v41.getD 32 RA.z).a1, (v41.getD 32 RA.z).a2⟩ : RA), (⟨(v41.getD 33 RA.z).a0, (v41.getD 33 RA.z).a1, (v41.getD 33 RA.z).a2⟩ : RA), (⟨(v41.getD 34 RA.z).a0, (v41.getD 34 RA.z).a1, (v41.getD 34 RA.z).a2⟩ : RA), (⟨(v41.getD 35 RA.z).a0, (v41.getD 35 RA.z).a1, (v41.getD 35 RA.z).a2⟩ : RA), (⟨(v41.getD 36 RA.z).a0, (v41.getD 36 RA.z).a1, (v41.getD 36 RA.z).a2⟩ : RA), (⟨(v41.getD 37 RA.z).a0, (v41.getD 37 RA.z).a1, (v41.getD 37 RA.z).a2⟩ : RA), (⟨(v41.getD 38 RA.z).a0, (v41.getD 38 RA.z).a1, (v41.getD 38 RA.z).a2⟩ : RA), (⟨(v41.getD 39 RA.z).a0, (v41.getD 39 RA.z).a1, (v41.getD 39 RA.z).a2⟩ : RA), (⟨(v41.getD 40 RA.z).a0, (v41.getD 40 RA.z).a1, (v41.getD 40 RA.z).a2⟩ : RA), (⟨(v41.getD 41 RA.z).a0, (v41.getD 41 RA.z).a1, (v41.getD 41 RA.z).a2⟩ : RA), (⟨(v41.getD 42 RA.z).a0, (v41.getD 42 RA.z).a1, (v41.getD 42 RA.z).a2⟩ : RA), (⟨(v41.getD 43 RA.z).a0, (v41.getD 43 RA.z).a1, (v41.getD 43 RA.z).a2⟩ : RA), (⟨(v41.getD 44 RA.z).a0, (v41.getD 44 RA.z).a1, (v41.getD 44 RA.z).a2⟩ : RA), (⟨(v41.getD 45 RA.z).a0, (v41.getD 45 RA.z).a1, (v41.getD 45 RA.z).a2⟩ : RA), (⟨(v41.getD 46 RA.z).a0, (v41.getD 46 RA.z).a1, (v41.getD 46 RA.z).a2⟩ : RA), (⟨(v41.getD 47 RA.z).a0, (v41.getD 47 RA.z).a1, (v41.getD 47 RA.z).a2⟩ : RA), (⟨(v41.getD 48 RA.z).a0, (v41.getD 48 RA.z).a1, (v41.getD 48 RA.z).a2⟩ : RA), (⟨(v41.getD 49 RA.z).a0, (v41.getD 49 RA.z).a1, (v41.getD 49 RA.z).a2⟩ : RA), (⟨(v41.getD 50 RA.z).a0, (v41.getD 50 RA.z).a1, (v41.getD 50 RA.z).a2⟩ : RA), (⟨(v41.getD 51 RA.z).a0, (v41.getD 51 RA.z).a1, (v41.getD 51 RA.z).a2⟩ : RA), (⟨(v41.getD 52 RA.z).a0, (v41.getD 52 RA.z).a1, (v41.getD 52 RA.z).a2⟩ : RA), (⟨(v41.getD 53 RA.z).a0, (v41.getD 53 RA.z).a1, (v41.getD 53 RA.z).a2⟩ : RA), (⟨(v41.getD 54 RA.z).a0, (v41.getD 54 RA.z).a1, (v41.getD 54 RA.z).a2⟩ : RA), (⟨(v41.getD 55 RA.z).a0, (v41.getD 55 RA.z).a1, (v41.getD 55 RA.z).a2⟩ : RA), (⟨(v41.getD 56 RA.z).a0, (v41.getD 56 RA.z).a1, (v41.getD 56 RA.z).a2⟩ : RA), (⟨(v41.getD 57 RA.z).a0, (v41.getD 57 RA.z).a1, (v41.getD 57 RA.z).a2⟩ : RA), (⟨(v41.getD 58 RA.z).a0, (v41.getD 58 RA.z).a1, (v41.getD 58 RA.z).a2⟩ : RA), (⟨(v41.getD 59 RA.z).a0, (v41.getD 59 RA.z).a1, (v41.getD 59 RA.z).a2⟩ : RA), (⟨(v41.getD 60 RA.z).a0, (v41.getD 60 RA.z).a1, (v41.getD 60 RA.z).a2⟩ : RA), (⟨(v41.getD 61 RA.z).a0, (v41.getD 61 RA.z).a1, (v41.getD 61 RA.z).a2⟩ : RA), (⟨(v41.getD 62 RA.z).a0, (v41.getD 62 RA.z).a1, (v41.getD 62 RA.z).a2⟩ : RA), (⟨(v41.getD 63 RA.z).a0, (v41.getD 63 RA.z).a1, (v41.getD 63 RA.z).a2⟩ : RA)] : List RA) [vi a0, vi a1, vi a2, vi a3, vi a4, vi a5, vi a6, vp 13 0, vp 14 0, vp 15 0, vp 16 0]) 111), some (.cells [vi a0, vs 17 0 17 17, vs 18 0 17 17, vn, vn, vn, vn, vn, vn, vn, vn, vn, vn, vn, vn, vn, vn, vn, vn, vn] 134), some (.cells [vs 19 0 v52.length v52.length, vs 20 0 v53.length v53.length] 158), some (.cells [vi a4, vq, vq] 163), some (.cells (Zk eI 64 [vi a7] v58 []) 171), some (kzb), some (.cells (Zb Zp (List.replicate (a1).toNat (⟨(0 : Int), (0 : Int), (0 : Int)⟩ : RB))) 89), some (.cells (Zb eI (List.replicate (a7).toNat (0 : Int))) 3), some (.cells (Zb Ze v34) 63), some (.cells [vi a0, vs 22 0 17 17, vs 23 0 17 17, vn, vn, vn, vn, vn, vn, vn, vn, vn, vn, vn, vn, vn, vn, vn, vn, vn] 134), some (.cells [vs 24 0 v71.length v71.length, vs 25 0 v72.length v72.length] 158), some (.cells [vi a4, vq, vq] 163), some (.cells (Zk eI 64 [vi a7] v77 []) 171), some (.cells (Zb Zl klc) 129), some (.cells (Zb Zj kla) 72), some (.cells (Zb eI v52) 155), some (.cells (Zb eI v53) 155), some (.cells (Zb Zj klb) 72), some (.cells (Zb Zl klc) 129), some (.cells (Zb Zj kla) 72), some (.cells (Zb eI v71) 155), some (.cells (Zb eI v72) 155)]) (ob := [(((v41.getD 0 RA.z).a0 != (0 : Int)), false), ((decide ((0 : Int) ≥ a7)), false), ((decide (a7 > (0 : Int))), true)]) rfl rfl (show ∀ j ∈ Zy (Zh 9).2, j ∈ Zy (Zr 8) from by decide +kernel) (fun gv => by kernel_rfl) (oE <| oN <| oY Zi) rfl (by decide) (by rfl) (fun _ => ⟨rr, ⟨rr, ⟨rr, ⟨rr, ⟨rr, ⟨rr, ⟨rr, ⟨rr, ⟨rr, ⟨rr, trivial⟩⟩⟩⟩⟩⟩⟩⟩⟩⟩) ⟨⟨rfl, ⟨[], by rfl⟩, by rfl⟩, ⟨⟨rfl, ⟨[], by kernel_rfl⟩, by kernel_rfl⟩, ⟨⟨rfl, ⟨[], by rfl⟩, by rfl⟩, ⟨⟨rfl, ⟨[], by rfl⟩, by rfl⟩, ⟨⟨rfl, ⟨[], by kernel_rfl⟩, by kernel_rfl⟩, ⟨⟨rfl, ⟨[], by rfl⟩, by rfl⟩, ⟨⟨rfl, ⟨[], by rfl⟩, by rfl⟩, ⟨⟨rfl, ⟨[], by rfl⟩, by rfl⟩, ⟨⟨rfl, ⟨[], by kernel_rfl⟩, by kernel_rfl⟩, ⟨⟨rfl, ⟨[], by rfl⟩, by rfl⟩, ⟨(Za (E := Zp) (α := RB) _ (List.replicate (a1).toNat (⟨(0 : Int), (0 : Int), (0 : Int)⟩ : RB)) _), ⟨(Za (E := eI) (α := Int) _ (List.replicate (a7).toNat (0 : Int)) _), ⟨(Za (E := Ze) (α := RA) _ v34 _), ⟨⟨rfl, ⟨[], by rfl⟩, by rfl⟩, ⟨⟨rfl, ⟨[], by rfl⟩, by rfl⟩, ⟨⟨rfl, ⟨[], by rfl⟩, by rfl⟩, ⟨⟨rfl, ⟨[], by kernel_rfl⟩, by kernel_rfl⟩, ⟨(Za (E := Zl) (α := RD) _ klc _), ⟨(Za (E := Zj) (α := R_ii) _ kla _), ⟨(Za (E := eI) (α := Int) _ v52 _), ⟨(Za (E := eI) (α := Int) _ v53 _), ⟨(Za (E := Zj) (α := R_ii) _ klb _), ⟨(Za (E := Zl) (α := RD) _ klc _), ⟨(Za (E := Zj) (α := R_ii) _ kla _), ⟨(Za (E := eI) (α := Int) _ v71 _), ⟨(Za (E := eI) (α := Int) _ v72 _), trivial⟩⟩⟩⟩⟩⟩⟩⟩⟩⟩⟩⟩⟩⟩⟩⟩⟩⟩⟩⟩⟩⟩⟩⟩⟩⟩
        ·
         exact Mach.ok_none
       ·
        exact Mach.ok_none
      ·
       exact Mach.ok_none
     ·
      exact Mach.ok_none
    ·
     exact Mach.ok_none
   ·
    exact Mach.ok_none
  ·
   exact Mach.ok_none
 ·
  exact Mach.ok_none

theorem ZgW (a0 a1 a2 a3 a4 a5 a6 a7 : Int) (L8 : List RC) (v2 : Nat) (v13 : List RA) (v30 : Int) (v34 : List RA) (v35 v36 v37 v38 : Int) (v39 : Bool) (v41 : List RA) (v52 v53 v58 v71 v72 v77 : List Int) (N : Nat) : (Zg a0 a1 a2 a3 a4 a5 a6 a7 L8 N).Ok Try.prog ZQ (.h9m0 v2 v13 v30 v34 v35 v36 v37 v38 v39 v41 v52 v53 v58 v71 v72 v77 : Zf) (ZL a0 a1 a2 a3 a4 a5 a6 a7 L8 N (.h9m0 v2 v13 v30 v34 v35 v36 v37 v38 v39 v41 v52 v53 v58 v71 v72 v77 : Zf)) := by
 show (Zg a0 a1 a2 a3 a4 a5 a6 a7 L8 N).Ok Try.prog ZQ (.h9m0 v2 v13 v30 v34 v35 v36 v37 v38 v39 v41 v52 v53 v58 v71 v72 v77 : Zf) (Zdj a0 a1 a2 a3 a4 a5 a6 a7 L8 N v2 v13 v30 v34 v35 v36 v37 v38 v39 v41 v52 v53 v58 v71 v72 v77)
 unfold Zdj
 refine Mach.ok_ite (fun g0 => ?_) (fun g0 => ?_)
 ·
  refine Mach.ok_ite (fun g1 => ?_) (fun g1 => ?_)
  ·
   refine Mach.ok_ite (fun g2 => ?_) (fun g2 => ?_)
   ·
    refine Mach.ok_ite (fun g3 => ?_) (fun g3 => ?_)
    ·
     refine Mach.ok_ite (fun g4 => ?_) (fun g4 => ?_)
     ·
      refine Mach.ok_ite (fun g5 => ?_) (fun g5 => ?_)
      ·
       refine Mach.ok_ite (fun g6 => ?_) (fun g6 => ?_)
       ·
        refine Mach.ok_ite (fun g7 => ?_) (fun g7 => ?_)
        ·
         by_cases g8 : (v41.getD 0 RA.z).a0 = (0 : Int)
         ·
          exact Mach.ok_cut (bK := Zh 7) (M := Zg a0 a1 a2 a3 a4 a5 a6 a7 L8 N) (cd := 5) (cm := 0) (y := (.h7m0 (v2) (0) (0) (v13) (v30) (v34) (v35) (v36) (v37) (v38) (v39) (v52) (v53) (v58) : Zf)) (fu := 4000) (orc := (Zo [(1, true), (4, false), (7, true)] [] [] [] [])) (live := [0, 1, 2, 3, 5, 6, 7, 8, 9, 10, 11, 12, 17, 18, 19, 20, 21]) (tv := fun _ => [some (vi a7), some (ms E_iiiib L8), some (vp 0 0), some (vp 1 0), some (vp 2 0), some (vi (v2 : Int)), some (vp 3 0), some (vq), some (vq)]) (bl := [some (.cells [vi a0, vi a1, vi a2, vi a3, vi a4, vi a5, vi a6] 24), some (.cells (Zk Ze 64 [vi a7] v13 [vi a0, vi a1, vi a2, vi a3, vi a4, vi a5, vi a6, vp 5 0, vp 6 0, vp 7 0, vp 8 0]) 111), some (.cells [vi a0, vi a1, vi a2, vi a3, vi a4, vi a5, vi a6, vi a0, vs 9 0 1 1, vn, vs 10 0 (a1).toNat (a1).toNat, vi v30, vq, vq, vs 11 0 (a7).toNat (a7).toNat, vs 12 0 v34.length v34.length] 43), some (.cells [vi v35, vi v36, vi v37, vi v38, Value.bool v39] 50), some (.cells [vi a0, vs 17 0 17 17, vs 18 0 17 17, vn, vn, vn, vn, vn, vn, vn, vn, vn, vn, vn, vn, vn, vn, vn, vn, vn] 134), some (.cells [vs 19 0 v52.length v52.length, vs 20 0 v53.length v53.length] 158), some (.cells [vi a4, vq, vq] 163), some (.cells (Zk eI 64 [vi a7] v58 []) 171), some (kzb), some (.cells (Zb Zp (List.replicate (a1).toNat (⟨(0 : Int), (0 : Int), (0 : Int)⟩ : RB))) 89), some (.cells (Zb eI (List.replicate (a7).toNat (0 : Int))) 3), some (.cells (Zb Ze v34) 63), some (.cells (Zb Zl klc) 129), some (.cells (Zb Zj kla) 72), some (.cells (Zb eI v52) 155), some (.cells (Zb eI v53) 155), some (.cells (Zb Zj klb) 72)]) (ob := [(((v41.getD 0 RA.z).a0 == (0 : Int)), true), ((decide ((0 : Int) ≥ a7)), false), ((decide (a7 > (0 : Int))), true)]) rfl rfl (show ∀ j ∈ Zy (Zh 7).2, j ∈ Zy (Zr 9) from by decide +kernel) (fun gv => by kernel_rfl) (oT <| oN <| oY Zi) rfl (by decide) (by rfl) (fun _ => ⟨rr, ⟨rr, ⟨rr, ⟨rr, ⟨rr, ⟨rr, ⟨rr, ⟨⟨Eq.trans (show (vi ((0 : Nat) : Int) : Value) = vq from (congrArg (Value.int .i64) (by first | rfl | omega))) (by rfl), by rfl⟩, ⟨⟨Eq.trans (show (vi ((0 : Nat) : Int) : Value) = vq from (congrArg (Value.int .i64) (by first | rfl | omega))) (by rfl), by rfl⟩, trivial⟩⟩⟩⟩⟩⟩⟩⟩⟩) ⟨⟨rfl, ⟨[], by rfl⟩, by rfl⟩, ⟨⟨rfl, ⟨[], by kernel_rfl⟩, by kernel_rfl⟩, ⟨⟨rfl, ⟨[], by rfl⟩, by rfl⟩, ⟨⟨rfl, ⟨[], by rfl⟩, by rfl⟩, ⟨⟨rfl, ⟨[], by rfl⟩, by rfl⟩, ⟨⟨rfl, ⟨[], by rfl⟩, by rfl⟩, ⟨⟨rfl, ⟨[], by rfl⟩, by rfl⟩, ⟨⟨rfl, ⟨[], by kernel_rfl⟩, by kernel_rfl⟩, ⟨⟨rfl, ⟨[], by rfl⟩, by rfl⟩, ⟨(Za (E := Zp) (α := RB) _ (List.replicate (a1).toNat (⟨(0 : Int), (0 : Int), (0 : Int)⟩ : RB)) _), ⟨(Za (E := eI) (α := Int) _ (List.replicate (a7).toNat (0 : Int)) _), ⟨(Za (E := Ze) (α := RA) _ v34 _), ⟨(Za (E := Zl) (α := RD) _ klc _), ⟨(Za (E := Zj) (α := R_ii) _ kla _), ⟨(Za (E := eI) (α := Int) _ v52 _), ⟨(Za (E := eI) (α := Int) _ v53 _), ⟨(Za (E := Zj) (α := R_ii) _ klb _), trivial⟩⟩⟩⟩⟩⟩⟩⟩⟩⟩⟩⟩⟩⟩⟩⟩⟩
         ·
          by_cases g9 : (v41.getD 0 RA.z).a1 = true
          ·
           exact Mach.ok_cut (bK := Zh 7) (M := Zg a0 a1 a2 a3 a4 a5 a6 a7 L8 N) (cd := 5) (cm := 0) (y := (.h7m0 (v2) (0) (0) (v13) (v30) (v34) (v35) (v36) (v37) (v38) (v39) (v52) (v53) (v58) : Zf)) (fu := 4000) (orc := (Zo [(1, true), (4, false), (7, false), (8, true)] [] [] [] [])) (live := [0, 1, 2, 3, 5, 6, 7, 8, 9, 10, 11, 12, 17, 18, 19, 20, 21]) (tv := fun _ => [some (vi a7), some (ms E_iiiib L8), some (vp 0 0), some (vp 1 0), some (vp 2 0), some (vi (v2 : Int)), some (vp 3 0), some (vq), some (vq)]) (bl := [some (.cells [vi a0, vi a1, vi a2, vi a3, vi a4, vi a5, vi a6] 24), some (.cells (Zk Ze 64 [vi a7] v13 [vi a0, vi a1, vi a2, vi a3, vi a4, vi a5, vi a6, vp 5 0, vp 6 0, vp 7 0, vp 8 0]) 111), some (.cells [vi a0, vi a1, vi a2, vi a3, vi a4, vi a5, vi a6, vi a0, vs 9 0 1 1, vn, vs 10 0 (a1).toNat (a1).toNat, vi v30, vq, vq, vs 11 0 (a7).toNat (a7).toNat, vs 12 0 v34.length v34.length] 43), some (.cells [vi v35, vi v36, vi v37, vi v38, Value.bool v39] 50), some (.cells [vi a0, vs 17 0 17 17, vs 18 0 17 17, vn, vn, vn, vn, vn, vn, vn, vn, vn, vn, vn, vn, vn, vn, vn, vn, vn] 134), some (.cells [vs 19 0 v52.length v52.length, vs 20 0 v53.length v53.length] 158), some (.cells [vi a4, vq, vq] 163), some (.cells (Zk eI 64 [vi a7] v58 []) 171), some (kzb), some (.cells (Zb Zp (List.replicate (a1).toNat (⟨(0 : Int), (0 : Int), (0 : Int)⟩ : RB))) 89), some (.cells (Zb eI (List.replicate (a7).toNat (0 : Int))) 3), some (.cells (Zb Ze v34) 63), some (.cells (Zb Zl klc) 129), some (.cells (Zb Zj kla) 72), some (.cells (Zb eI v52) 155), some (.cells (Zb eI v53) 155), some (.cells (Zb Zj klb) 72)]) (ob := [((v41.getD 0 RA.z).a1, true), (((v41.getD 0 RA.z).a0 == (0 : Int)), false), ((decide ((0 : Int) ≥ a7)), false), ((decide (a7 > (0 : Int))), true)]) rfl rfl (show ∀ j ∈ Zy (Zh 7).2, j ∈ Zy (Zr 9) from by decide +kernel) (fun gv => by kernel_rfl) (Zc (by assumption) <| oF <| oN <| oY Zi) rfl (by decide) (by rfl) (fun _ => ⟨rr, ⟨rr, ⟨rr, ⟨rr, ⟨rr, ⟨rr, ⟨rr, ⟨⟨Eq.trans (show (vi ((0 : Nat) : Int) : Value) = vq from (congrArg (Value.int .i64) (by first | rfl | omega))) (by rfl), by rfl⟩, ⟨⟨Eq.trans (show (vi ((0 : Nat) : Int) : Value) = vq from (congrArg (Value.int .i64) (by first | rfl | omega))) (by rfl), by rfl⟩, trivial⟩⟩⟩⟩⟩⟩⟩⟩⟩) ⟨⟨rfl, ⟨[], by rfl⟩, by rfl⟩, ⟨⟨rfl, ⟨[], by kernel_rfl⟩, by kernel_rfl⟩, ⟨⟨rfl, ⟨[], by rfl⟩, by rfl⟩, ⟨⟨rfl, ⟨[], by rfl⟩, by rfl⟩, ⟨⟨rfl, ⟨[], by rfl⟩, by rfl⟩, ⟨⟨rfl, ⟨[], by rfl⟩, by rfl⟩, ⟨⟨rfl, ⟨[], by rfl⟩, by rfl⟩, ⟨⟨rfl, ⟨[], by kernel_rfl⟩, by kernel_rfl⟩, ⟨⟨rfl, ⟨[], by rfl⟩, by rfl⟩, ⟨(Za (E := Zp) (α := RB) _ (List.replicate (a1).toNat (⟨(0 : Int), (0 : Int), (0 : Int)⟩ : RB)) _), ⟨(Za (E := eI) (α := Int) _ (List.replicate (a7).toNat (0 : Int)) _), ⟨(Za (E := Ze) (α := RA) _ v34 _), ⟨(Za (E := Zl) (α := RD) _ klc _), ⟨(Za (E := Zj) (α := R_ii) _ kla _), ⟨(Za (E := eI) (α := Int) _ v52 _), ⟨(Za (E := eI) (α := Int) _ v53 _), ⟨(Za (E := Zj) (α := R_ii) _ klb _), trivial⟩⟩⟩⟩⟩⟩⟩⟩⟩⟩⟩⟩⟩⟩⟩⟩⟩
          ·
           exact Mach.ok_cut (bK := Zh 7) (M := Zg a0 a1 a2 a3 a4 a5 a6 a7 L8 N) (cd := 5) (cm := 0) (y := (.h7m0 (v2) (0) (0) (v13) (v30) (v34) (v35) (v36) (v37) (v38) (v39) (v52) (v53) (v58) : Zf)) (fu := 4000) (orc := (Zo [(1, true), (4, false), (7, false), (8, false)] [] [] [] [])) (live := [0, 1, 2, 3, 5, 6, 7, 8, 9, 10, 11, 12, 17, 18, 19, 20, 21]) (tv := fun _ => [some (vi a7), some (ms E_iiiib L8), some (vp 0 0), some (vp 1 0), some (vp 2 0), some (vi (v2 : Int)), some (vp 3 0), some (vq), some (vq)]) (bl := [some (.cells [vi a0, vi a1, vi a2, vi a3, vi a4, vi a5, vi a6] 24), some (.cells (Zk Ze 64 [vi a7] v13 [vi a0, vi a1, vi a2, vi a3, vi a4, vi a5, vi a6, vp 5 0, vp 6 0, vp 7 0, vp 8 0]) 111), some (.cells [vi a0, vi a1, vi a2, vi a3, vi a4, vi a5, vi a6, vi a0, vs 9 0 1 1, vn, vs 10 0 (a1).toNat (a1).toNat, vi v30, vq, vq, vs 11 0 (a7).toNat (a7).toNat, vs 12 0 v34.length v34.length] 43), some (.cells [vi v35, vi v36, vi v37, vi v38, Value.bool v39] 50), some (.cells [vi a0, vs 17 0 17 17, vs 18 0 17 17, vn, vn, vn, vn, vn, vn, vn, vn, vn, vn, vn, vn, vn, vn, vn, vn, vn] 134), some (.cells [vs 19 0 v52.length v52.length, vs 20 0 v53.length v53.length] 158), some (.cells [vi a4, vq, vq] 163), some (.cells (Zk eI 64 [vi a7] v58 []) 171), some (kzb), some (.cells (Zb Zp (List.replicate (a1).toNat (⟨(0 : Int), (0 : Int), (0 : Int)⟩ : RB))) 89), some (.cells (Zb eI (List.replicate (a7).toNat (0 : Int))) 3), some (.cells (Zb Ze v34) 63), some (.cells (Zb Zl klc) 129), some (.cells (Zb Zj kla) 72), some (.cells (Zb eI v52) 155), some (.cells (Zb eI v53) 155), some (.cells (Zb Zj klb) 72)]) (ob := [((v41.getD 0 RA.z).a1, false), (((v41.getD 0 RA.z).a0 == (0 : Int)), false), ((decide ((0 : Int) ≥ a7)), false), ((decide (a7 > (0 : Int))), true)]) rfl rfl (show ∀ j ∈ Zy (Zh 7).2, j ∈ Zy (Zr 9) from by decide +kernel) (fun gv => by kernel_rfl) (Zc (Bool.eq_false_iff.2 (by assumption)) <| oF <| oN <| oY Zi) rfl (by decide) (by rfl) (fun _ => ⟨rr, ⟨rr, ⟨rr, ⟨rr, ⟨rr, ⟨rr, ⟨rr, ⟨⟨Eq.trans (show (vi ((0 : Nat) : Int) : Value) = vq from (congrArg (Value.int .i64) (by first | rfl | omega))) (by rfl), by rfl⟩, ⟨⟨Eq.trans (show (vi ((0 : Nat) : Int) : Value) = vq from (congrArg (Value.int .i64) (by first | rfl | omega))) (by rfl), by rfl⟩, trivial⟩⟩⟩⟩⟩⟩⟩⟩⟩) ⟨⟨rfl, ⟨[], by rfl⟩, by rfl⟩, ⟨⟨rfl, ⟨[], by kernel_rfl⟩, by kernel_rfl⟩, ⟨⟨rfl, ⟨[], by rfl⟩, by rfl⟩, ⟨⟨rfl, ⟨[], by rfl⟩, by rfl⟩, ⟨⟨rfl, ⟨[], by rfl⟩, by rfl⟩, ⟨⟨rfl, ⟨[], by rfl⟩, by rfl⟩, ⟨⟨rfl, ⟨[], by rfl⟩, by rfl⟩, ⟨⟨rfl, ⟨[], by kernel_rfl⟩, by kernel_rfl⟩, ⟨⟨rfl, ⟨[], by rfl⟩, by rfl⟩, ⟨(Za (E := Zp) (α := RB) _ (List.replicate (a1).toNat (⟨(0 : Int), (0 : Int), (0 : Int)⟩ : RB)) _), ⟨(Za (E := eI) (α := Int) _ (List.replicate (a7).toNat (0 : Int)) _), ⟨(Za (E := Ze) (α := RA) _ v34 _), ⟨(Za (E := Zl) (α := RD) _ klc _), ⟨(Za (E := Zj) (α := R_ii) _ kla _), ⟨(Za (E := eI) (α := Int) _ v52 _), ⟨(Za (E := eI) (α := Int) _ v53 _), ⟨(Za (E := Zj) (α := R_ii) _ klb _), trivial⟩⟩⟩⟩⟩⟩⟩⟩⟩⟩⟩⟩⟩⟩⟩⟩⟩
        ·
         exact Mach.ok_none
       ·
        exact Mach.ok_none
      ·
       exact Mach.ok_none
     ·
      exact Mach.ok_none
    ·
     exact Mach.ok_none
   ·
    exact Mach.ok_none
  ·
   exact Mach.ok_none
 ·
  exact Mach.ok_none

theorem ZiP (a0 a1 a2 a3 a4 a5 a6 a7 : Int) (L8 : List RC) (N : Nat) : (Zg a0 a1 a2 a3 a4 a5 a6 a7 L8 N).Enter Try.prog ZQ #[Value.agg #[vi a0, vi a1, vi a2, vi a3, vi a4, vi a5, vi a6], vi a7, ms E_iiiib L8] (ZdX a0 a1 a2 a3 a4 a5 a6 a7 L8 N) := by
 unfold ZdX
 refine Mach.en_bind (fun z0 c0 => ?_)
 cases z0 with
 | r0 =>
  refine Mach.en_bind (fun z1 c1 => ?_)
  cases z1 with
  | r0 =>
   refine Mach.en_bind (fun z2 c2 => ?_)
   cases z2 with
   | r0 =>
    refine Mach.en_bind (fun z3 c3 => ?_)
    cases z3 with
    | r0 y3_0 =>
     refine Mach.en_ite (fun g4 => ?_) (fun g4 => ?_)
     ·
      exact Mach.en_fin (M := Zg a0 a1 a2 a3 a4 a5 a6 a7 L8 N) (cd := 1000000) (cm := 0) (r := (.r0 (false) : Zn)) (fu := 4000) (orc := (Zo [(5, true)] [] [] [] [(0, (Zck (a0) (a1) (a2) (a3) (a4) (a5) (a6) (a7)    1)), (1, (Zd0 (a0) (a1) (a2) (a3) (a4) (a5) (a6) (a7)    1)), (3, (Zck (a0) (a1) (a2) (a3) (a4) (a5) (a6) ((1 : Int))    3)), (4, (ZaS (a0) (a1) (a2) (a3) (a4) (a5) (a6)  y3_0  3))])) (live := []) (u := vf) (bl := []) (ob := [((!(false == y3_0)), true), (dP (ZaJ #[Value.agg #[vi a0, vi a1, vi a2, vi a3, vi a4, vi a5, vi a6]] (a0) (a1) (a2) (a3) (a4) (a5) (a6)  y3_0  3), true), (dP (ZbI #[Value.agg #[vi a0, vi a1, vi a2, vi a3, vi a4, vi a5, vi a6], vi 1] (a0) (a1) (a2) (a3) (a4) (a5) (a6) ((1 : Int))    3), true), (dP (ZcM #[Value.agg #[vi a0, vi a1, vi a2, vi a3, vi a4, vi a5, vi a6], vi a7] (a0) (a1) (a2) (a3) (a4) (a5) (a6) (a7)    1), true), (dP (ZbI #[Value.agg #[vi a0, vi a1, vi a2, vi a3, vi a4, vi a5, vi a6], vi a7] (a0) (a1) (a2) (a3) (a4) (a5) (a6) (a7)    1), true)]) (by kernel_rfl) (Zc (ZeW (by first | assumption | rfl | simp_all)) <| Zc (Zm (ZaT #[Value.agg #[vi a0, vi a1, vi a2, vi a3, vi a4, vi a5, vi a6]] (a0) (a1) (a2) (a3) (a4) (a5) (a6)  y3_0 N c3  3 rfl (by decide) (by decide))) <| Zc (Zm (Zcl #[Value.agg #[vi a0, vi a1, vi a2, vi a3, vi a4, vi a5, vi a6], vi 1] (a0) (a1) (a2) (a3) (a4) (a5) (a6) ((1 : Int))   N c2  3 rfl (by decide) (by decide))) <| Zc (Zm (Zd1 #[Value.agg #[vi a0, vi a1, vi a2, vi a3, vi a4, vi a5, vi a6], vi a7] (a0) (a1) (a2) (a3) (a4) (a5) (a6) (a7)   N c1  1 rfl (by decide) (by decide))) <| Zc (Zm (Zcl #[Value.agg #[vi a0, vi a1, vi a2, vi a3, vi a4, vi a5, vi a6], vi a7] (a0) (a1) (a2) (a3) (a4) (a5) (a6) (a7)   N c0  1 rfl (by decide) (by decide))) Zi) rfl (by decide) (by rfl) rr trivial
     ·
      exact Mach.en_head (bK := Zh 1) (M := Zg a0 a1 a2 a3 a4 a5 a6 a7 L8 N) (cd := 1000000) (cm := 0) (y := (.h1m0 : Zf)) (fu := 4000) (orc := (Zo [(5, false)] [] [] [] [(0, (Zck (a0) (a1) (a2) (a3) (a4) (a5) (a6) (a7)    1)), (1, (Zd0 (a0) (a1) (a2) (a3) (a4) (a5) (a6) (a7)    1)), (3, (Zck (a0) (a1) (a2) (a3) (a4) (a5) (a6) ((1 : Int))    3)), (4, (ZaS (a0) (a1) (a2) (a3) (a4) (a5) (a6)  y3_0  3))])) (live := [0, 1]) (tv := [some (vi a7), some (ms E_iiiib L8), some (vp 0 0), some (Value.pointer none), some (vp 1 0), some (vq)]) (bl := [some (.cells [vi a0, vi a1, vi a2, vi a3, vi a4, vi a5, vi a6] 24), some (kzc)]) (ob := [((!(false == y3_0)), false), (dP (ZaJ #[Value.agg #[vi a0, vi a1, vi a2, vi a3, vi a4, vi a5, vi a6]] (a0) (a1) (a2) (a3) (a4) (a5) (a6)  y3_0  3), true), (dP (ZbI #[Value.agg #[vi a0, vi a1, vi a2, vi a3, vi a4, vi a5, vi a6], vi 1] (a0) (a1) (a2) (a3) (a4) (a5) (a6) ((1 : Int))    3), true), (dP (ZcM #[Value.agg #[vi a0, vi a1, vi a2, vi a3, vi a4, vi a5, vi a6], vi a7] (a0) (a1) (a2) (a3) (a4) (a5) (a6) (a7)    1), true), (dP (ZbI #[Value.agg #[vi a0, vi a1, vi a2, vi a3, vi a4, vi a5, vi a6], vi a7] (a0) (a1) (a2) (a3) (a4) (a5) (a6) (a7)    1), true)]) rfl rfl (show Zy (Zh 1).2 = [] from rfl) (by kernel_rfl) (Zc (ZeX (by first | assumption | rfl | simp_all)) <| Zc (Zm (ZaT #[Value.agg #[vi a0, vi a1, vi a2, vi a3, vi a4, vi a5, vi a6]] (a0) (a1) (a2) (a3) (a4) (a5) (a6)  y3_0 N c3  3 rfl (by decide) (by decide))) <| Zc (Zm (Zcl #[Value.agg #[vi a0, vi a1, vi a2, vi a3, vi a4, vi a5, vi a6], vi 1] (a0) (a1) (a2) (a3) (a4) (a5) (a6) ((1 : Int))   N c2  3 rfl (by decide) (by decide))) <| Zc (Zm (Zd1 #[Value.agg #[vi a0, vi a1, vi a2, vi a3, vi a4, vi a5, vi a6], vi a7] (a0) (a1) (a2) (a3) (a4) (a5) (a6) (a7)   N c1  1 rfl (by decide) (by decide))) <| Zc (Zm (Zcl #[Value.agg #[vi a0, vi a1, vi a2, vi a3, vi a4, vi a5, vi a6], vi a7] (a0) (a1) (a2) (a3) (a4) (a5) (a6) (a7)   N c0  1 rfl (by decide) (by decide))) Zi) rfl (by decide) (by rfl) ⟨rr, ⟨rr, ⟨rr, ⟨rr, ⟨rr, ⟨rr, trivial⟩⟩⟩⟩⟩⟩ ⟨⟨rfl, ⟨[], by rfl⟩, by rfl⟩, ⟨⟨rfl, ⟨[], by rfl⟩, by rfl⟩, trivial⟩⟩
   | r1 =>
    refine Mach.en_bind (fun z3 c3 => ?_)
    cases z3 with
    | r0 y3_0 =>
     refine Mach.en_ite (fun g4 => ?_) (fun g4 => ?_)
     ·
      exact Mach.en_fin (M := Zg a0 a1 a2 a3 a4 a5 a6 a7 L8 N) (cd := 1000000) (cm := 0) (r := (.r0 (false) : Zn)) (fu := 4000) (orc := (Zo [(5, true)] [] [] [] [(0, (Zck (a0) (a1) (a2) (a3) (a4) (a5) (a6) (a7)    1)), (1, (Zd0 (a0) (a1) (a2) (a3) (a4) (a5) (a6) (a7)    1)), (3, (Zcm (a0) (a1) (a2) (a3) (a4) (a5) (a6) ((1 : Int))    3)), (4, (ZaS (a0) (a1) (a2) (a3) (a4) (a5) (a6)  y3_0  12))])) (live := []) (u := vf) (bl := []) (ob := [((!(true == y3_0)), true), (dP (ZaJ #[Value.agg #[vi a0, vi a1, vi a2, vi a3, vi a4, vi a5, vi a6]] (a0) (a1) (a2) (a3) (a4) (a5) (a6)  y3_0  12), true), (dP (ZbJ #[Value.agg #[vi a0, vi a1, vi a2, vi a3, vi a4, vi a5, vi a6], vi 1] (a0) (a1) (a2) (a3) (a4) (a5) (a6) ((1 : Int))    3), true), (dP (ZcM #[Value.agg #[vi a0, vi a1, vi a2, vi a3, vi a4, vi a5, vi a6], vi a7] (a0) (a1) (a2) (a3) (a4) (a5) (a6) (a7)    1), true), (dP (ZbI #[Value.agg #[vi a0, vi a1, vi a2, vi a3, vi a4, vi a5, vi a6], vi a7] (a0) (a1) (a2) (a3) (a4) (a5) (a6) (a7)    1), true)]) (by kernel_rfl) (Zc (ZeW (by first | assumption | rfl | simp_all)) <| Zc (Zm (ZaT #[Value.agg #[vi a0, vi a1, vi a2, vi a3, vi a4, vi a5, vi a6]] (a0) (a1) (a2) (a3) (a4) (a5) (a6)  y3_0 N c3  12 rfl (by decide) (by decide))) <| Zc (Zm (Zcn #[Value.agg #[vi a0, vi a1, vi a2, vi a3, vi a4, vi a5, vi a6], vi 1] (a0) (a1) (a2) (a3) (a4) (a5) (a6) ((1 : Int))   N c2  3 rfl (by decide) (by decide))) <| Zc (Zm (Zd1 #[Value.agg #[vi a0, vi a1, vi a2, vi a3, vi a4, vi a5, vi a6], vi a7] (a0) (a1) (a2) (a3) (a4) (a5) (a6) (a7)   N c1  1 rfl (by decide) (by decide))) <| Zc (Zm (Zcl #[Value.agg #[vi a0, vi a1, vi a2, vi a3, vi a4, vi a5, vi a6], vi a7] (a0) (a1) (a2) (a3) (a4) (a5) (a6) (a7)   N c0  1 rfl (by decide) (by decide))) Zi) rfl (by decide) (by rfl) rr trivial
     ·
      exact Mach.en_head (bK := Zh 1) (M := Zg a0 a1 a2 a3 a4 a5 a6 a7 L8 N) (cd := 1000000) (cm := 0) (y := (.h1m0 : Zf)) (fu := 4000) (orc := (Zo [(5, false)] [] [] [] [(0, (Zck (a0) (a1) (a2) (a3) (a4) (a5) (a6) (a7)    1)), (1, (Zd0 (a0) (a1) (a2) (a3) (a4) (a5) (a6) (a7)    1)), (3, (Zcm (a0) (a1) (a2) (a3) (a4) (a5) (a6) ((1 : Int))    3)), (4, (ZaS (a0) (a1) (a2) (a3) (a4) (a5) (a6)  y3_0  12))])) (live := [0, 1]) (tv := [some (vi a7), some (ms E_iiiib L8), some (vp 0 0), some (Value.pointer none), some (vp 1 0), some (vq)]) (bl := [some (.cells [vi a0, vi a1, vi a2, vi a3, vi a4, vi a5, vi a6] 24), some (kzc)]) (ob := [((!(true == y3_0)), false), (dP (ZaJ #[Value.agg #[vi a0, vi a1, vi a2, vi a3, vi a4, vi a5, vi a6]] (a0) (a1) (a2) (a3) (a4) (a5) (a6)  y3_0  12), true), (dP (ZbJ #[Value.agg #[vi a0, vi a1, vi a2, vi a3, vi a4, vi a5, vi a6], vi 1] (a0) (a1) (a2) (a3) (a4) (a5) (a6) ((1 : Int))    3), true), (dP (ZcM #[Value.agg #[vi a0, vi a1, vi a2, vi a3, vi a4, vi a5, vi a6], vi a7] (a0) (a1) (a2) (a3) (a4) (a5) (a6) (a7)    1), true), (dP (ZbI #[Value.agg #[vi a0, vi a1, vi a2, vi a3, vi a4, vi a5, vi a6], vi a7] (a0) (a1) (a2) (a3) (a4) (a5) (a6) (a7)    1), true)]) rfl rfl (show Zy (Zh 1).2 = [] from rfl) (by kernel_rfl) (Zc (ZeX (by first | assumption | rfl | simp_all)) <| Zc (Zm (ZaT #[Value.agg #[vi a0, vi a1, vi a2, vi a3, vi a4, vi a5, vi a6]] (a0) (a1) (a2) (a3) (a4) (a5) (a6)  y3_0 N c3  12 rfl (by decide) (by decide))) <| Zc (Zm (Zcn #[Value.agg #[vi a0, vi a1, vi a2, vi a3, vi a4, vi a5, vi a6], vi 1] (a0) (a1) (a2) (a3) (a4) (a5) (a6) ((1 : Int))   N c2  3 rfl (by decide) (by decide))) <| Zc (Zm (Zd1 #[Value.agg #[vi a0, vi a1, vi a2, vi a3, vi a4, vi a5, vi a6], vi a7] (a0) (a1) (a2) (a3) (a4) (a5) (a6) (a7)   N c1  1 rfl (by decide) (by decide))) <| Zc (Zm (Zcl #[Value.agg #[vi a0, vi a1, vi a2, vi a3, vi a4, vi a5, vi a6], vi a7] (a0) (a1) (a2) (a3) (a4) (a5) (a6) (a7)   N c0  1 rfl (by decide) (by decide))) Zi) rfl (by decide) (by rfl) ⟨rr, ⟨rr, ⟨rr, ⟨rr, ⟨rr, ⟨rr, trivial⟩⟩⟩⟩⟩⟩ ⟨⟨rfl, ⟨[], by rfl⟩, by rfl⟩, ⟨⟨rfl, ⟨[], by rfl⟩, by rfl⟩, trivial⟩⟩
  | r1 y1_0 =>
   exact Mach.en_fin (M := Zg a0 a1 a2 a3 a4 a5 a6 a7 L8 N) (cd := 1000000) (cm := 0) (r := (.r0 (false) : Zn)) (fu := 4000) (orc := (Zo [] [] [] [] [(0, (Zck (a0) (a1) (a2) (a3) (a4) (a5) (a6) (a7)    1)), (1, (Zd2 (a0) (a1) (a2) (a3) (a4) (a5) (a6) (a7)  y1_0  1))])) (live := []) (u := vf) (bl := []) (ob := [(dP (ZcN #[Value.agg #[vi a0, vi a1, vi a2, vi a3, vi a4, vi a5, vi a6], vi a7] (a0) (a1) (a2) (a3) (a4) (a5) (a6) (a7)  y1_0  1), true), (dP (ZbI #[Value.agg #[vi a0, vi a1, vi a2, vi a3, vi a4, vi a5, vi a6], vi a7] (a0) (a1) (a2) (a3) (a4) (a5) (a6) (a7)    1), true)]) (by kernel_rfl) (Zc (Zm (Zd3 #[Value.agg #[vi a0, vi a1, vi a2, vi a3, vi a4, vi a5, vi a6], vi a7] (a0) (a1) (a2) (a3) (a4) (a5) (a6) (a7)  y1_0 N c1  1 rfl (by decide) (by decide))) <| Zc (Zm (Zcl #[Value.agg #[vi a0, vi a1, vi a2, vi a3, vi a4, vi a5, vi a6], vi a7] (a0) (a1) (a2) (a3) (a4) (a5) (a6) (a7)   N c0  1 rfl (by decide) (by decide))) Zi) rfl (by decide) (by rfl) rr trivial
 | r1 =>
  refine Mach.en_bind (fun z1 c1 => ?_)
  cases z1 with
  | r0 =>
   exact Mach.en_fin (M := Zg a0 a1 a2 a3 a4 a5 a6 a7 L8 N) (cd := 1000000) (cm := 0) (r := (.r0 (false) : Zn)) (fu := 4000) (orc := (Zo [] [] [] [] [(0, (Zcm (a0) (a1) (a2) (a3) (a4) (a5) (a6) (a7)    1)), (1, (Zd0 (a0) (a1) (a2) (a3) (a4) (a5) (a6) (a7)    10))])) (live := []) (u := vf) (bl := []) (ob := [(dP (ZcM #[Value.agg #[vi a0, vi a1, vi a2, vi a3, vi a4, vi a5, vi a6], vi a7] (a0) (a1) (a2) (a3) (a4) (a5) (a6) (a7)    10), true), (dP (ZbJ #[Value.agg #[vi a0, vi a1, vi a2, vi a3, vi a4, vi a5, vi a6], vi a7] (a0) (a1) (a2) (a3) (a4) (a5) (a6) (a7)    1), true)]) (by kernel_rfl) (Zc (Zm (Zd1 #[Value.agg #[vi a0, vi a1, vi a2, vi a3, vi a4, vi a5, vi a6], vi a7] (a0) (a1) (a2) (a3) (a4) (a5) (a6) (a7)   N c1  10 rfl (by decide) (by decide))) <| Zc (Zm (Zcn #[Value.agg #[vi a0, vi a1, vi a2, vi a3, vi a4, vi a5, vi a6], vi a7] (a0) (a1) (a2) (a3) (a4) (a5) (a6) (a7)   N c0  1 rfl (by decide) (by decide))) Zi) rfl (by decide) (by rfl) rr trivial
  | r1 y1_0 =>
   refine Mach.en_bind (fun z2 c2 => ?_)
   cases z2 with
   | r0 =>
    refine Mach.en_bind (fun z3 c3 => ?_)
    cases z3 with
    | r0 y3_0 =>
     refine Mach.en_ite (fun g4 => ?_) (fun g4 => ?_)
     ·
      exact Mach.en_fin (M := Zg a0 a1 a2 a3 a4 a5 a6 a7 L8 N) (cd := 1000000) (cm := 0) (r := (.r0 (false) : Zn)) (fu := 4000) (orc := (Zo [(5, true)] [] [] [] [(0, (Zcm (a0) (a1) (a2) (a3) (a4) (a5) (a6) (a7)    1)), (1, (Zd2 (a0) (a1) (a2) (a3) (a4) (a5) (a6) (a7)  y1_0  10)), (3, (Zck (a0) (a1) (a2) (a3) (a4) (a5) (a6) ((1 : Int))    17)), (4, (ZaS (a0) (a1) (a2) (a3) (a4) (a5) (a6)  y3_0  17))])) (live := []) (u := vf) (bl := []) (ob := [((!(false == y3_0)), true), (dP (ZaJ #[Value.agg #[vi a0, vi a1, vi a2, vi a3, vi a4, vi a5, vi a6]] (a0) (a1) (a2) (a3) (a4) (a5) (a6)  y3_0  17), true), (dP (ZbI #[Value.agg #[vi a0, vi a1, vi a2, vi a3, vi a4, vi a5, vi a6], vi 1] (a0) (a1) (a2) (a3) (a4) (a5) (a6) ((1 : Int))    17), true), (dP (ZcN #[Value.agg #[vi a0, vi a1, vi a2, vi a3, vi a4, vi a5, vi a6], vi a7] (a0) (a1) (a2) (a3) (a4) (a5) (a6) (a7)  y1_0  10), true), (dP (ZbJ #[Value.agg #[vi a0, vi a1, vi a2, vi a3, vi a4, vi a5, vi a6], vi a7] (a0) (a1) (a2) (a3) (a4) (a5) (a6) (a7)    1), true)]) (by kernel_rfl) (Zc (ZeW (by first | assumption | rfl | simp_all)) <| Zc (Zm (ZaT #[Value.agg #[vi a0, vi a1, vi a2, vi a3, vi a4, vi a5, vi a6]] (a0) (a1) (a2) (a3) (a4) (a5) (a6)  y3_0 N c3  17 rfl (by decide) (by decide))) <| Zc (Zm (Zcl #[Value.agg #[vi a0, vi a1, vi a2, vi a3, vi a4, vi a5, vi a6], vi 1] (a0) (a1) (a2) (a3) (a4) (a5) (a6) ((1 : Int))   N c2  17 rfl (by decide) (by decide))) <| Zc (Zm (Zd3 #[Value.agg #[vi a0, vi a1, vi a2, vi a3, vi a4, vi a5, vi a6], vi a7] (a0) (a1) (a2) (a3) (a4) (a5) (a6) (a7)  y1_0 N c1  10 rfl (by decide) (by decide))) <| Zc (Zm (Zcn #[Value.agg #[vi a0, vi a1, vi a2, vi a3, vi a4, vi a5, vi a6], vi a7] (a0) (a1) (a2) (a3) (a4) (a5) (a6) (a7)   N c0  1 rfl (by decide) (by decide))) Zi) rfl (by decide) (by rfl) rr trivial
     ·
      exact Mach.en_head (bK := Zh 1) (M := Zg a0 a1 a2 a3 a4 a5 a6 a7 L8 N) (cd := 1000000) (cm := 0) (y := (.h1m1 (0) ((List.replicate 64 (⟨(0 : Int), false, false⟩ : RA))) (y1_0) ((List.replicate (a7).toNat (⟨(0 : Int), false, false⟩ : RA))) ((List.replicate (a1).toNat (0 : Int))) ((List.replicate (a1).toNat (0 : Int))) ((List.replicate 64 (0 : Int))) : Zf)) (fu := 4000) (orc := (Zo [(5, false)] [] [] [] [(0, (Zcm (a0) (a1) (a2) (a3) (a4) (a5) (a6) (a7)    1)), (1, (Zd2 (a0) (a1) (a2) (a3) (a4) (a5) (a6) (a7)  y1_0  10)), (3, (Zck (a0) (a1) (a2) (a3) (a4) (a5) (a6) ((1 : Int))    17)), (4, (ZaS (a0) (a1) (a2) (a3) (a4) (a5) (a6)  y3_0  17))])) (live := [0, 1, 15, 2, 3, 4, 5, 10, 11, 12, 13, 6, 7, 8, 9, 14]) (tv := [some (vi a7), some (ms E_iiiib L8), some (vp 0 0), some (vp 1 0), some (vp 15 0), some (vq)]) (bl := [some (.cells [vi a0, vi a1, vi a2, vi a3, vi a4, vi a5, vi a6] 24), some (.cells (Zk Ze 64 [vi a7] (List.replicate 64 (⟨(0 : Int), false, false⟩ : RA)) [vi a0, vi a1, vi a2, vi a3, vi a4, vi a5, vi a6, vp 2 0, vp 3 0, vp 4 0, vp 5 0]) 111), some (.cells [vi a0, vi a1, vi a2, vi a3, vi a4, vi a5, vi a6, vi a0, vs 10 0 1 1, vn, vs 11 0 (a1).toNat (a1).toNat, vi y1_0, vq, vq, vs 12 0 (a7).toNat (a7).toNat, vs 13 0 (a7).toNat (a7).toNat] 43), some (.cells [vi a0, vs 6 0 17 17, vs 7 0 17 17, vn, vn, vn, vn, vn, vn, vn, vn, vn, vn, vn, vn, vn, vn, vn, vn, vn] 134), some (.cells [vs 8 0 (a1).toNat (a1).toNat, vs 9 0 (a1).toNat (a1).toNat] 158), some (.cells [vi a4, vq, vq] 163), some (.cells (Zk eI 64 [vi a7] (List.replicate 64 (0 : Int)) []) 171), some (kze), some (.cells (Zb Zp (List.replicate (a1).toNat (⟨(0 : Int), (0 : Int), (0 : Int)⟩ : RB))) 89), some (.cells (Zb eI (List.replicate (a7).toNat (0 : Int))) 3), some (.cells (Zb Ze (List.replicate (a7).toNat (⟨(0 : Int), false, false⟩ : RA))) 63), some (.cells (Zb Zl klc) 129), some (.cells (Zb Zj kla) 72), some (.cells (Zb eI (List.replicate (a1).toNat (0 : Int))) 155), some (.cells (Zb eI (List.replicate (a1).toNat (0 : Int))) 155), some (.cells (Zb Zj klb) 72)]) (ob := [((!(false == y3_0)), false), (dP (ZaJ #[Value.agg #[vi a0, vi a1, vi a2, vi a3, vi a4, vi a5, vi a6]] (a0) (a1) (a2) (a3) (a4) (a5) (a6)  y3_0  17), true), (dP (ZbI #[Value.agg #[vi a0, vi a1, vi a2, vi a3, vi a4, vi a5, vi a6], vi 1] (a0) (a1) (a2) (a3) (a4) (a5) (a6) ((1 : Int))    17), true), (dP (ZcN #[Value.agg #[vi a0, vi a1, vi a2, vi a3, vi a4, vi a5, vi a6], vi a7] (a0) (a1) (a2) (a3) (a4) (a5) (a6) (a7)  y1_0  10), true), (dP (ZbJ #[Value.agg #[vi a0, vi a1, vi a2, vi a3, vi a4, vi a5, vi a6], vi a7] (a0) (a1) (a2) (a3) (a4) (a5) (a6) (a7)    1), true)]) rfl rfl (show Zy (Zh 1).2 = [] from rfl) (by kernel_rfl) (Zc (ZeX (by first | assumption | rfl | simp_all)) <| Zc (Zm (ZaT #[Value.agg #[vi a0, vi a1, vi a2, vi a3, vi a4, vi a5, vi a6]] (a0) (a1) (a2) (a3) (a4) (a5) (a6)  y3_0 N c3  17 rfl (by decide) (by decide))) <| Zc (Zm (Zcl #[Value.agg #[vi a0, vi a1, vi a2, vi a3, vi a4, vi a5, vi a6], vi 1] (a0) (a1) (a2) (a3) (a4) (a5) (a6) ((1 : Int))   N c2  17 rfl (by decide) (by decide))) <| Zc (Zm (Zd3 #[Value.agg #[vi a0, vi a1, vi a2, vi a3, vi a4, vi a5, vi a6], vi a7] (a0) (a1) (a2) (a3) (a4) (a5) (a6) (a7)  y1_0 N c1  10 rfl (by decide) (by decide))) <| Zc (Zm (Zcn #[Value.agg #[vi a0, vi a1, vi a2, vi a3, vi a4, vi a5, vi a6], vi a7] (a0) (a1) (a2) (a3) (a4) (a5) (a6) (a7)   N c0  1 rfl (by decide) (by decide))) Zi) rfl (by decide) (by rfl) ⟨rr, ⟨rr, ⟨rr, ⟨rr, ⟨rr, ⟨⟨Eq.trans (show (vi ((0 : Nat) : Int) : Value) = vq from (congrArg (Value.int .i64) (by first | rfl | omega))) (by rfl), by rfl⟩, trivial⟩⟩⟩⟩⟩⟩ ⟨⟨rfl, ⟨[], by rfl⟩, by rfl⟩, ⟨⟨rfl, ⟨[], by kernel_rfl⟩, by kernel_rfl⟩, ⟨⟨rfl, ⟨[], (show ([vi a0, vi a1, vi a2, vi a3, vi a4, vi a5, vi a6, vi a0, vs 7 0 1 1, vn, vs 8 0 (a1).toNat (a1).toNat, vi y1_0, vq, vq, vs 9 0 (a7).toNat (a7).toNat, vs 10 0 (a7).toNat (a7).toNat] : List Value) = _ from (Zd rfl (Zd rfl (Zd rfl (Zd rfl (Zd rfl (Zd rfl (Zd rfl (Zd rfl (Zd rfl (Zd rfl (Zd rfl (Zd rfl (Zd rfl (Zd rfl (Zd rfl (Zd (ZE rfl eqA eqA) rfl)))))))))))))))).symm)⟩, by rfl⟩, ⟨⟨rfl, ⟨[], by rfl⟩, by rfl⟩, ⟨⟨rfl, ⟨[], (show ([vs 13 0 (a1).toNat (a1).toNat, vs 14 0 (a1).toNat (a1).toNat] : List Value) = _ from (Zd (ZE rfl eqA eqA) (Zd (ZE rfl eqA eqA) rfl)).symm)⟩, by rfl⟩, ⟨⟨rfl, ⟨[], by rfl⟩, by rfl⟩, ⟨⟨rfl, ⟨[], by kernel_rfl⟩, by kernel_rfl⟩, ⟨⟨rfl, ⟨[], by rfl⟩, by rfl⟩, ⟨(Za (E := Zp) (α := RB) _ (List.replicate (a1).toNat (⟨(0 : Int), (0 : Int), (0 : Int)⟩ : RB)) _), ⟨(Za (E := eI) (α := Int) _ (List.replicate (a7).toNat (0 : Int)) _), ⟨(Za (E := Ze) (α := RA) _ (List.replicate (a7).toNat (⟨(0 : Int), false, false⟩ : RA)) _), ⟨(Za (E := Zl) (α := RD) _ klc _), ⟨(Za (E := Zj) (α := R_ii) _ kla _), ⟨(Za (E := eI) (α := Int) _ (List.replicate (a1).toNat (0 : Int)) _), ⟨(Za (E := eI) (α := Int) _ (List.replicate (a1).toNat (0 : Int)) _), ⟨(Za (E := Zj) (α := R_ii) _ klb _), trivial⟩⟩⟩⟩⟩⟩⟩⟩⟩⟩⟩⟩⟩⟩⟩⟩
   | r1 =>
    refine Mach.en_bind (fun z3 c3 => ?_)
    cases z3 with
    | r0 y3_0 =>
     refine Mach.en_ite (fun g4 => ?_) (fun g4 => ?_)
     ·
      exact Mach.en_fin (M := Zg a0 a1 a2 a3 a4 a5 a6 a7 L8 N) (cd := 1000000) (cm := 0) (r := (.r0 (false) : Zn)) (fu := 4000) (orc := (Zo [(5, true)] [] [] [] [(0, (Zcm (a0) (a1) (a2) (a3) (a4) (a5) (a6) (a7)    1)), (1, (Zd2 (a0) (a1) (a2) (a3) (a4) (a5) (a6) (a7)  y1_0  10)), (3, (Zcm (a0) (a1) (a2) (a3) (a4) (a5) (a6) ((1 : Int))    17)), (4, (ZaS (a0) (a1) (a2) (a3) (a4) (a5) (a6)  y3_0  26))])) (live := []) (u := vf) (bl := []) (ob := [((!(true == y3_0)), true), (dP (ZaJ #[Value.agg #[vi a0, vi a1, vi a2, vi a3, vi a4, vi a5, vi a6]] (a0) (a1) (a2) (a3) (a4) (a5) (a6)  y3_0  26), true), (dP (ZbJ #[Value.agg #[vi a0, vi a1, vi a2, vi a3, vi a4, vi a5, vi a6], vi 1] (a0) (a1) (a2) (a3) (a4) (a5) (a6) ((1 : Int))    17), true), (dP (ZcN #[Value.agg #[vi a0, vi a1, vi a2, vi a3, vi a4, vi a5, vi a6], vi a7] (a0) (a1) (a2) (a3) (a4) (a5) (a6) (a7)  y1_0  10), true), (dP (ZbJ #[Value.agg #[vi a0, vi a1, vi a2, vi a3, vi a4, vi a5, vi a6], vi a7] (a0) (a1) (a2) (a3) (a4) (a5) (a6) (a7)    1), true)]) (by kernel_rfl) (Zc (ZeW (by first | assumption | rfl | simp_all)) <| Zc (Zm (ZaT #[Value.agg #[vi a0, vi a1, vi a2, vi a3, vi a4, vi a5, vi a6]] (a0) (a1) (a2) (a3) (a4) (a5) (a6)  y3_0 N c3  26 rfl (by decide) (by decide))) <| Zc (Zm (Zcn #[Value.agg #[vi a0, vi a1, vi a2, vi a3, vi a4, vi a5, vi a6], vi 1] (a0) (a1) (a2) (a3) (a4) (a5) (a6) ((1 : Int))   N c2  17 rfl (by decide) (by decide))) <| Zc (Zm (Zd3 #[Value.agg #[vi a0, vi a1, vi a2, vi a3, vi a4, vi a5, vi a6], vi a7] (a0) (a1) (a2) (a3) (a4) (a5) (a6) (a7)  y1_0 N c1  10 rfl (by decide) (by decide))) <| Zc (Zm (Zcn #[Value.agg #[vi a0, vi a1, vi a2, vi a3, vi a4, vi a5, vi a6], vi a7] (a0) (a1) (a2) (a3) (a4) (a5) (a6) (a7)   N c0  1 rfl (by decide) (by decide))) Zi) rfl (by decide) (by rfl) rr trivial
     ·
      exact Mach.en_head (bK := Zh 1) (M := Zg a0 a1 a2 a3 a4 a5 a6 a7 L8 N) (cd := 1000000) (cm := 0) (y := (.h1m1 (0) ((List.replicate 64 (⟨(0 : Int), false, false⟩ : RA))) (y1_0) ((List.replicate (a7).toNat (⟨(0 : Int), false, false⟩ : RA))) ((List.replicate (a1).toNat (0 : Int))) ((List.replicate (a1).toNat (0 : Int))) ((List.replicate 64 (0 : Int))) : Zf)) (fu := 4000) (orc := (Zo [(5, false)] [] [] [] [(0, (Zcm (a0) (a1) (a2) (a3) (a4) (a5) (a6) (a7)    1)), (1, (Zd2 (a0) (a1) (a2) (a3) (a4) (a5) (a6) (a7)  y1_0  10)), (3, (Zcm (a0) (a1) (a2) (a3) (a4) (a5) (a6) ((1 : Int))    17)), (4, (ZaS (a0) (a1) (a2) (a3) (a4) (a5) (a6)  y3_0  26))])) (live := [0, 1, 15, 2, 3, 4, 5, 10, 11, 12, 13, 6, 7, 8, 9, 14]) (tv := [some (vi a7), some (ms E_iiiib L8), some (vp 0 0), some (vp 1 0), some (vp 15 0), some (vq)]) (bl := [some (.cells [vi a0, vi a1, vi a2, vi a3, vi a4, vi a5, vi a6] 24), some (.cells (Zk Ze 64 [vi a7] (List.replicate 64 (⟨(0 : Int), false, false⟩ : RA)) [vi a0, vi a1, vi a2, vi a3, vi a4, vi a5, vi a6, vp 2 0, vp 3 0, vp 4 0, vp 5 0]) 111), some (.cells [vi a0, vi a1, vi a2, vi a3, vi a4, vi a5, vi a6, vi a0, vs 10 0 1 1, vn, vs 11 0 (a1).toNat (a1).toNat, vi y1_0, vq, vq, vs 12 0 (a7).toNat (a7).toNat, vs 13 0 (a7).toNat (a7).toNat] 43), some (.cells [vi a0, vs 6 0 17 17, vs 7 0 17 17, vn, vn, vn, vn, vn, vn, vn, vn, vn, vn, vn, vn, vn, vn, vn, vn, vn] 134), some (.cells [vs 8 0 (a1).toNat (a1).toNat, vs 9 0 (a1).toNat (a1).toNat] 158), some (.cells [vi a4, vq, vq] 163), some (.cells (Zk eI 64 [vi a7] (List.replicate 64 (0 : Int)) []) 171), some (kze), some (.cells (Zb Zp (List.replicate (a1).toNat (⟨(0 : Int), (0 : Int), (0 : Int)⟩ : RB))) 89), some (.cells (Zb eI (List.replicate (a7).toNat (0 : Int))) 3), some (.cells (Zb Ze (List.replicate (a7).toNat (⟨(0 : Int), false, false⟩ : RA))) 63), some (.cells (Zb Zl klc) 129), some (.cells (Zb Zj kla) 72), some (.cells (Zb eI (List.replicate (a1).toNat (0 : Int))) 155), some (.cells (Zb eI (List.replicate (a1).toNat (0 : Int))) 155), some (.cells (Zb Zj klb) 72)]) (ob := [((!(true == y3_0)), false), (dP (ZaJ #[Value.agg #[vi a0, vi a1, vi a2, vi a3, vi a4, vi a5, vi a6]] (a0) (a1) (a2) (a3) (a4) (a5) (a6)  y3_0  26), true), (dP (ZbJ #[Value.agg #[vi a0, vi a1, vi a2, vi a3, vi a4, vi a5, vi a6], vi 1] (a0) (a1) (a2) (a3) (a4) (a5) (a6) ((1 : Int))    17), true), (dP (ZcN #[Value.agg #[vi a0, vi a1, vi a2, vi a3, vi a4, vi a5, vi a6], vi a7] (a0) (a1) (a2) (a3) (a4) (a5) (a6) (a7)  y1_0  10), true), (dP (ZbJ #[Value.agg #[vi a0, vi a1, vi a2, vi a3, vi a4, vi a5, vi a6], vi a7] (a0) (a1) (a2) (a3) (a4) (a5) (a6) (a7)    1), true)]) rfl rfl (show Zy (Zh 1).2 = [] from rfl) (by kernel_rfl) (Zc (ZeX (by first | assumption | rfl | simp_all)) <| Zc (Zm (ZaT #[Value.agg #[vi a0, vi a1, vi a2, vi a3, vi a4, vi a5, vi a6]] (a0) (a1) (a2) (a3) (a4) (a5) (a6)  y3_0 N c3  26 rfl (by decide) (by decide))) <| Zc (Zm (Zcn #[Value.agg #[vi a0, vi a1, vi a2, vi a3, vi a4, vi a5, vi a6], vi 1] (a0) (a1) (a2) (a3) (a4) (a5) (a6) ((1 : Int))   N c2  17 rfl (by decide) (by decide))) <| Zc (Zm (Zd3 #[Value.agg #[vi a0, vi a1, vi a2, vi a3, vi a4, vi a5, vi a6], vi a7] (a0) (a1) (a2) (a3) (a4) (a5) (a6) (a7)  y1_0 N c1  10 rfl (by decide) (by decide))) <| Zc (Zm (Zcn #[Value.agg #[vi a0, vi a1, vi a2, vi a3, vi a4, vi a5, vi a6], vi a7] (a0) (a1) (a2) (a3) (a4) (a5) (a6) (a7)   N c0  1 rfl (by decide) (by decide))) Zi) rfl (by decide) (by rfl) ⟨rr, ⟨rr, ⟨rr, ⟨rr, ⟨rr, ⟨⟨Eq.trans (show (vi ((0 : Nat) : Int) : Value) = vq from (congrArg (Value.int .i64) (by first | rfl | omega))) (by rfl), by rfl⟩, trivial⟩⟩⟩⟩⟩⟩ ⟨⟨rfl, ⟨[], by rfl⟩, by rfl⟩, ⟨⟨rfl, ⟨[], by kernel_rfl⟩, by kernel_rfl⟩, ⟨⟨rfl, ⟨[], (show ([vi a0, vi a1, vi a2, vi a3, vi a4, vi a5, vi a6, vi a0, vs 7 0 1 1, vn, vs 8 0 (a1).toNat (a1).toNat, vi y1_0, vq, vq, vs 9 0 (a7).toNat (a7).toNat, vs 10 0 (a7).toNat (a7).toNat] : List Value) = _ from (Zd rfl (Zd rfl (Zd rfl (Zd rfl (Zd rfl (Zd rfl (Zd rfl (Zd rfl (Zd rfl (Zd rfl (Zd rfl (Zd rfl (Zd rfl (Zd rfl (Zd rfl (Zd (ZE rfl eqA eqA) rfl)))))))))))))))).symm)⟩, by rfl⟩, ⟨⟨rfl, ⟨[], by rfl⟩, by rfl⟩, ⟨⟨rfl, ⟨[], (show ([vs 13 0 (a1).toNat (a1).toNat, vs 14 0 (a1).toNat (a1).toNat] : List Value) = _ from (Zd (ZE rfl eqA eqA) (Zd (ZE rfl eqA eqA) rfl)).symm)⟩, by rfl⟩, ⟨⟨rfl, ⟨[], by rfl⟩, by rfl⟩, ⟨⟨rfl, ⟨[], by kernel_rfl⟩, by kernel_rfl⟩, ⟨⟨rfl, ⟨[], by rfl⟩, by rfl⟩, ⟨(Za (E := Zp) (α := RB) _ (List.replicate (a1).toNat (⟨(0 : Int), (0 : Int), (0 : Int)⟩ : RB)) _), ⟨(Za (E := eI) (α := Int) _ (List.replicate (a7).toNat (0 : Int)) _), ⟨(Za (E := Ze) (α := RA) _ (List.replicate (a7).toNat (⟨(0 : Int), false, false⟩ : RA)) _), ⟨(Za (E := Zl) (α := RD) _ klc _), ⟨(Za (E := Zj) (α := R_ii) _ kla _), ⟨(Za (E := eI) (α := Int) _ (List.replicate (a1).toNat (0 : Int)) _), ⟨(Za (E := eI) (α := Int) _ (List.replicate (a1).toNat (0 : Int)) _), ⟨(Za (E := Zj) (α := R_ii) _ klb _), trivial⟩⟩⟩⟩⟩⟩⟩⟩⟩⟩⟩⟩⟩⟩⟩⟩

theorem ZhH (a0 a1 a2 a3 a4 a5 a6 a7 : Int) (L8 : List RC) (N : Nat) (r : Zn) (h : ZgE a0 a1 a2 a3 a4 a5 a6 a7 L8 N = some r) : LSpec Try.prog 3 #[Value.agg #[vi a0, vi a1, vi a2, vi a3, vi a4, vi a5, vi a6], vi a7, ms E_iiiib L8] [] (Zgl a0 a1 a2 a3 a4 a5 a6 a7 L8 r) (Zf8 a0 a1 a2 a3 a4 a5 a6 a7 L8 r) :=
 Mach.spec Zw (Zg a0 a1 a2 a3 a4 a5 a6 a7 L8 N) Try.func3 (by kernel_rfl) (by kernel_rfl) (fun x => by cases x <;> exact Zu _ rfl) (fun r => by cases r <;> exact Zu _ rfl) (fun x => by
  cases x with
  | h1m0 => exact fun _ => (show ¬ (1 ∈ Zy (Zh 1).2) from by decide +kernel)
  | h1m1 _ _ _ _ _ _ _ => exact fun _ => (show ¬ (1 ∈ Zy (Zh 1).2) from by decide +kernel)
  | h2m0 _ _ _ _ _ _ _ _ _ _ _ _ => exact fun _ => (show ¬ (2 ∈ Zy (Zh 2).2) from by decide +kernel)
  | h3m0 _ _ _ _ _ _ _ _ _ _ _ _ _ => exact fun _ => (show ¬ (3 ∈ Zy (Zh 3).2) from by decide +kernel)
  | h4m0 _ _ _ _ _ _ _ _ _ _ _ _ _ => exact fun _ => (show ¬ (4 ∈ Zy (Zh 4).2) from by decide +kernel)
  | h5m0 _ _ _ _ _ _ _ _ _ _ _ _ _ => exact fun _ => (show ¬ (5 ∈ Zy (Zh 5).2) from by decide +kernel)
  | h6m0 _ _ _ _ _ _ _ _ _ _ _ _ _ => exact fun _ => (show ¬ (6 ∈ Zy (Zh 6).2) from by decide +kernel)
  | h7m0 _ _ _ _ _ _ _ _ _ _ _ _ _ _ => exact fun _ => (show ¬ (7 ∈ Zy (Zh 7).2) from by decide +kernel)
  | h8m0 _ _ _ _ _ _ _ _ _ _ _ _ _ _ _ _ => exact fun _ => (show ¬ (8 ∈ Zy (Zh 8).2) from by decide +kernel)
  | h9m0 _ _ _ _ _ _ _ _ _ _ _ _ _ _ _ _ => exact fun _ => (show ¬ (9 ∈ Zy (Zh 9).2) from by decide +kernel)
  ) (fun x => (show (Zg a0 a1 a2 a3 a4 a5 a6 a7 L8 N).Ok Try.prog ZQ x (ZL a0 a1 a2 a3 a4 a5 a6 a7 L8 N x) from by
  cases x with
  | h1m0 => exact ZgN a0 a1 a2 a3 a4 a5 a6 a7 L8 N
  | h1m1 v2 v11 v28 v32 v36 v37 v42 => exact ZgO a0 a1 a2 a3 a4 a5 a6 a7 L8 v2 v11 v28 v32 v36 v37 v42 N
  | h2m0 v2 v11 v28 v32 v33 v34 v35 v36 v37 v41 v42 v47 => exact ZgP a0 a1 a2 a3 a4 a5 a6 a7 L8 v2 v11 v28 v32 v33 v34 v35 v36 v37 v41 v42 v47 N
  | h3m0 v2 v3 v12 v29 v33 v34 v35 v36 v37 v38 v42 v43 v48 => exact ZgQ a0 a1 a2 a3 a4 a5 a6 a7 L8 v2 v3 v12 v29 v33 v34 v35 v36 v37 v38 v42 v43 v48 N
  | h4m0 v2 v3 v12 v29 v33 v34 v35 v36 v37 v38 v42 v43 v48 => exact ZgR a0 a1 a2 a3 a4 a5 a6 a7 L8 v2 v3 v12 v29 v33 v34 v35 v36 v37 v38 v42 v43 v48 N
  | h5m0 v2 v3 v12 v29 v33 v34 v35 v36 v37 v38 v42 v43 v48 => exact ZgS a0 a1 a2 a3 a4 a5 a6 a7 L8 v2 v3 v12 v29 v33 v34 v35 v36 v37 v38 v42 v43 v48 N
  | h6m0 v2 v5 v14 v31 v35 v36 v37 v38 v39 v40 v44 v45 v50 => exact ZgT a0 a1 a2 a3 a4 a5 a6 a7 L8 v2 v5 v14 v31 v35 v36 v37 v38 v39 v40 v44 v45 v50 N
  | h7m0 v2 v3 v4 v13 v30 v34 v35 v36 v37 v38 v39 v43 v44 v49 => exact ZgU a0 a1 a2 a3 a4 a5 a6 a7 L8 v2 v3 v4 v13 v30 v34 v35 v36 v37 v38 v39 v43 v44 v49 N
  | h8m0 v2 v13 v30 v34 v35 v36 v37 v38 v39 v41 v52 v53 v58 v71 v72 v77 => exact ZgV a0 a1 a2 a3 a4 a5 a6 a7 L8 v2 v13 v30 v34 v35 v36 v37 v38 v39 v41 v52 v53 v58 v71 v72 v77 N
  | h9m0 v2 v13 v30 v34 v35 v36 v37 v38 v39 v41 v52 v53 v58 v71 v72 v77 => exact ZgW a0 a1 a2 a3 a4 a5 a6 a7 L8 v2 v13 v30 v34 v35 v36 v37 v38 v39 v41 v52 v53 v58 v71 v72 v77 N
  )) (ZiP a0 a1 a2 a3 a4 a5 a6 a7 L8 N) (n := N) h

end Ev
end Go.Proofs.Ytfbpdjledonagaa
/- Plain lemmas: machines step by step, lists by their places. -/
namespace Go.Proofs.Ytfbpdjledonagaa
open Go.RowKit
namespace Ev
section
variable {X R : Type} {step : X → Option (X ⊕ R)} {n : Nat} {x y : X} {r : R}
theorem ZnX (h : step x = some (.inl y)) : Zb3 step (n + 1) x = Zb3 step n y := by simp [Zb3, h]
theorem ZdL (h : step x = some (.inr r)) : Zb3 step (n + 1) x = some r := by simp [Zb3, h]
theorem ZmA : ∀ {n m : Nat} {x : X} {r : R}, n ≤ m → Zb3 step n x = some r → Zb3 step m x = some r
 | 0, _, _, _, _, h => by cases h
 | n + 1, 0, _, _, h, _ => by omega
 | n + 1, m + 1, x, r, h, e => by
  simp only [Zb3] at e ⊢
  cases hs : step x with
  | none => rw [hs] at e; cases e
  | some y =>
   rw [hs] at e
   cases y with
   | inl y => exact ZmA (by omega) e
   | inr r' => exact e
theorem Zpp {o : Option (X ⊕ R)} (h : o = some (.inl x)) : goM step n o = Zb3 step n x := by subst h; rfl
end
section
variable {α : Type}
theorem Zkz {L : List α} {i : Nat} {v d : α} (h : i < L.length) : (L.set i v).getD i d = v := by simp [h]
theorem Zmr {L : List α} {i j : Nat} {v d : α} (h : i ≠ j) : (L.set i v).getD j d = L.getD j d := by simp [List.getElem?_set_ne h]
theorem ZlA {L : List α} {i j : Nat} {v d : α} (h : i < L.length) : (L.set i v).getD j d = if j = i then v else L.getD j d := by
 by_cases e : j = i
 ·subst e; rw [if_pos rfl, Zkz h]
 ·rw [if_neg e, Zmr (fun h => e h.symm)]
theorem ZlB {n i : Nat} {v d : α} (h : i < n) : (List.replicate n v).getD i d = v := by simp [h]
end
theorem Zbz {α : Type} {c : Prop} [Decidable c] {a b r : α} (h1 : c → a = r) (h2 : ¬ c → b = r) : (if c then a else b) = r := by
 by_cases h : c
 ·rw [if_pos h]; exact h1 h
 ·rw [if_neg h]; exact h2 h
theorem Z1 {α : Type} {c : Prop} [Decidable c] {a b r : α} (h : c) (e : a = r) : (if c then a else b) = r := by rw [if_pos h]; exact e
theorem Z7 {α : Type} {c : Prop} [Decidable c] {a b r : α} (h : ¬ c) (e : b = r) : (if c then a else b) = r := by rw [if_neg h]; exact e
theorem Zv {α β : Type} {o : Option α} {a : α} {k : α → Option β} {r : Option β} (h : o = some a) (e : k a = r) : o.bind k = r := by rw [h]; exact e
end Ev
end Go.Proofs.Ytfbpdjledonagaa
/- MemRuns: the plain law is true. -/
namespace Go.Proofs.Ytfbpdjledonagaa
open Go.RowKit
namespace Ev
set_option linter.unusedVariables false
set_option linter.unusedSimpArgs false
set_option maxRecDepth 100000
namespace Mr
theorem nx {X R : Type} {step : X → Option (X ⊕ R)} {n : Nat} {x : X} {r : Option R} (y : X) (h : step x = some (.inl y)) (e : Zb3 step n y = r) : Zb3 step (n + 1) x = r := (ZnX h).trans e
theorem gi {X R : Type} {step : X → Option (X ⊕ R)} {n m : Nat} {o : Option (X ⊕ R)} {r : R} (x : X) (h : o = some (.inl x)) (hm : m ≤ n) (e : Zb3 step m x = some r) : goM step n o = some r := (Zpp h).trans (ZmA hm e)
/-! ### Settings -/
def M (a5 a6 : Int) : Prop := a5 = 1 ∨ (a5 = 2 ∧ 1 ≤ a6 ∧ a6 ≤ 1000)
def C (a0 a1 a2 a3 a4 a5 a6 : Int) : Prop := (17 ≤ a0 ∧ a0 ≤ 65536) ∧ (1 ≤ a1 ∧ a1 ≤ 1024) ∧ (1 ≤ a4 ∧ a4 ≤ 1099511627776) ∧ M a5 a6 ∧ (1 ≤ a2 ∧ a2 ≤ 4096) ∧ (1 ≤ a3 ∧ a3 ≤ 4096)
def T (a7 : Int) : Prop := 1 ≤ a7 ∧ a7 ≤ 64
section
variable {a0 a1 a2 a3 a4 a5 a6 a7 : Int} {N : Nat}
theorem ZhV (h : M a5 a6) : Zaj a5 a6 N = some (.r0 0) ∧ Zcu a5 a6 N = some (.r0 0) := by
 rcases h with rfl | ⟨rfl, h1, h2⟩
 ·exact ⟨Z7 (by decide) <| Z1 rfl rfl, Z1 rfl rfl⟩
 ·exact ⟨Z1 rfl <| Z7 (by omega) <| Z7 (by omega) rfl, Z7 (by decide) <| Z1 rfl <| Z1 h1 <| Z1 h2 rfl⟩
theorem ZjQ (h : ¬ M a5 a6) : Zaj a5 a6 N = some (.r0 90) ∧ Zcu a5 a6 N = some (.r0 90) := by
 have h1 : ¬ a5 = 1 := fun e => h (.inl e)
 by_cases e : a5 = 2
 ·subst e
  by_cases q : 1 ≤ a6
  ·have q2 : ¬ a6 ≤ 1000 := fun q2 => h (.inr ⟨rfl, q, q2⟩)
   exact ⟨Z1 rfl <| Z7 (by omega) <| Z1 (by omega) rfl, Z7 (by decide) <| Z1 rfl <| Z1 q <| Z7 q2 rfl⟩
  ·exact ⟨Z1 rfl <| Z1 (by omega) rfl, Z7 (by decide) <| Z1 rfl <| Z7 q rfl⟩
 ·exact ⟨Z7 e <| Z7 h1 rfl, Z7 h1 <| Z7 e rfl⟩
theorem ZnY : ∃ w, Zaj a5 a6 N = some (.r0 w) := by
 by_cases h : M a5 a6
 ·exact ⟨_, (ZhV h).1⟩
 ·exact ⟨_, (ZjQ h).1⟩
theorem ZhI (h : 17 ≤ a0 ∧ a0 ≤ 65536) : Zde a0 N = some .r1 ∧ ZbZ a0 N = some .r1 := ⟨Z7 (by omega) <| Z7 (by omega) rfl, Z7 (by omega) <| Z7 (by omega) rfl⟩
theorem ZnZ (h : ¬ (17 ≤ a0 ∧ a0 ≤ 65536)) : Zde a0 N = some .r0 ∧ ZbZ a0 N = some .r0 := ⟨Zbz (fun _ => rfl) fun _ => Z1 (by omega) rfl, Zbz (fun _ => rfl) fun _ => Z1 (by omega) rfl⟩
theorem ZhJ (h : 1 ≤ a1 ∧ a1 ≤ 1024) : ZbN a1 N = some .r1 ∧ ZdH a1 N = some .r1 := ⟨Z7 (by omega) <| Z7 (by omega) rfl, Z7 (by omega) <| Z7 (by omega) rfl⟩
theorem Zoa (h : ¬ (1 ≤ a1 ∧ a1 ≤ 1024)) : ZbN a1 N = some .r0 := Zbz (fun _ => rfl) fun _ => Z1 (by omega) rfl
theorem Zfi (h : 1 ≤ a4 ∧ a4 ≤ 1099511627776) : Zby a4 N = some .r1 ∧ ZdI a4 N = some (.r0 a4 0) := ⟨Z7 (by omega) <| Z7 (by omega) rfl, Z7 (by omega) <| Z7 (by omega) rfl⟩
theorem ZhW (h : ¬ (1 ≤ a4 ∧ a4 ≤ 1099511627776)) : Zby a4 N = some .r0 := Zbz (fun _ => rfl) fun _ => Z1 (by omega) rfl
theorem ZcO (h : T a7) : Za9 a7 N = some .r1 ∧ ZdJ a7 N = some .r1 := by
 unfold T at h; exact ⟨Z7 (by omega) <| Z7 (by omega) rfl, Z7 (by omega) <| Z7 (by omega) rfl⟩
theorem ZdM (h : ¬ T a7) : Za9 a7 N = some .r0 := by
 unfold T at h; exact Zbz (fun _ => rfl) fun _ => Z1 (by omega) rfl
theorem Znt (h : C a0 a1 a2 a3 a4 a5 a6) (ht : T a7) : ZcL a0 a1 a2 a3 a4 a5 a6 a7 N = some .r1 :=
 Zv (ZhI h.1).1 <| Zv (ZhJ h.2.1).1 <| Zv (Zfi h.2.2.1).1 <| Zv (ZcO ht).1 <| Zv (ZhV h.2.2.2.1).1 <|
  have := h.2.2.2.2
  Z7 (fun e => e rfl) <| Z7 (by omega) <| Z7 (by omega) <| Z7 (by omega) <| Z7 (by omega) rfl
theorem Znu (h : ¬ (C a0 a1 a2 a3 a4 a5 a6 ∧ T a7)) : ZcL a0 a1 a2 a3 a4 a5 a6 a7 N = some .r0 := by
 obtain ⟨w, hw⟩ := ZnY (a5 := a5) (a6 := a6) (N := N)
 by_cases h0 : 17 ≤ a0 ∧ a0 ≤ 65536
 ·refine Zv (ZhI h0).1 ?_
  by_cases h1 : 1 ≤ a1 ∧ a1 ≤ 1024
  ·refine Zv (ZhJ h1).1 ?_
   by_cases h4 : 1 ≤ a4 ∧ a4 ≤ 1099511627776
   ·refine Zv (Zfi h4).1 ?_
    by_cases ht : T a7
    ·refine Zv (ZcO ht).1 ?_
     by_cases hm : M a5 a6
     ·refine Zv (ZhV hm).1 (Z7 (fun e => e rfl) ?_)
      have hc : ¬ ((1 ≤ a2 ∧ a2 ≤ 4096) ∧ (1 ≤ a3 ∧ a3 ≤ 4096)) := fun e => h ⟨⟨h0, h1, h4, hm, e⟩, ht⟩
      exact Zbz (fun _ => rfl) fun _ => Zbz (fun _ => rfl) fun _ => Zbz (fun _ => rfl) fun _ => Z1 (by omega) rfl
     ·exact Zv (ZjQ hm).1 (Z1 (by decide) rfl)
    ·exact Zv (ZdM ht) <| Zv hw rfl
   ·refine Zv (ZhW h4) ?_
    by_cases ht : T a7
    ·exact Zv (ZcO ht).1 <| Zv hw rfl
    ·exact Zv (ZdM ht) <| Zv hw rfl
  ·refine Zv (Zoa h1) ?_
   by_cases h4 : 1 ≤ a4 ∧ a4 ≤ 1099511627776
   ·refine Zv (Zfi h4).1 ?_
    by_cases ht : T a7
    ·exact Zv (ZcO ht).1 <| Zv hw rfl
    ·exact Zv (ZdM ht) <| Zv hw rfl
   ·refine Zv (ZhW h4) ?_
    by_cases ht : T a7
    ·exact Zv (ZcO ht).1 <| Zv hw rfl
    ·exact Zv (ZdM ht) <| Zv hw rfl
 ·refine Zv (ZnZ h0).1 ?_
  by_cases h1 : 1 ≤ a1 ∧ a1 ≤ 1024
  ·refine Zv (ZhJ h1).1 ?_
   by_cases h4 : 1 ≤ a4 ∧ a4 ≤ 1099511627776
   ·refine Zv (Zfi h4).1 ?_
    by_cases ht : T a7
    ·exact Zv (ZcO ht).1 <| Zv hw rfl
    ·exact Zv (ZdM ht) <| Zv hw rfl
   ·refine Zv (ZhW h4) ?_
    by_cases ht : T a7
    ·exact Zv (ZcO ht).1 <| Zv hw rfl
    ·exact Zv (ZdM ht) <| Zv hw rfl
  ·refine Zv (Zoa h1) ?_
   by_cases h4 : 1 ≤ a4 ∧ a4 ≤ 1099511627776
   ·refine Zv (Zfi h4).1 ?_
    by_cases ht : T a7
    ·exact Zv (ZcO ht).1 <| Zv hw rfl
    ·exact Zv (ZdM ht) <| Zv hw rfl
   ·refine Zv (ZhW h4) ?_
    by_cases ht : T a7
    ·exact Zv (ZcO ht).1 <| Zv hw rfl
    ·exact Zv (ZdM ht) <| Zv hw rfl
theorem Znv (h : C a0 a1 a2 a3 a4 a5 a6) : ZbO a0 a1 a2 a3 a4 a5 a6 N = some (.r0 true) :=
 Zv (ZhI h.1).2 <| Z1 h.2.1.1 <| Z1 h.2.1.2 <| Z1 h.2.2.2.2.1.1 <| Z1 h.2.2.2.2.1.2 <| Z1 h.2.2.2.2.2.1 <| Z1 h.2.2.2.2.2.2 <| Z1 h.2.2.1.1 <| Z1 h.2.2.1.2 <| Zv (ZhV h.2.2.2.1).2 <| Z1 rfl rfl
theorem is_n (h : ¬ C a0 a1 a2 a3 a4 a5 a6) : ZbO a0 a1 a2 a3 a4 a5 a6 N = some (.r0 false) := by
 by_cases h0 : 17 ≤ a0 ∧ a0 ≤ 65536
 ·refine Zv (ZhI h0).2 <| Zbz (fun q1 => Zbz (fun q2 => Zbz (fun q3 => Zbz (fun q4 => Zbz (fun q5 => Zbz (fun q6 => Zbz (fun q7 => Zbz (fun q8 => ?_) (fun _ => rfl)) (fun _ => rfl)) (fun _ => rfl)) (fun _ => rfl)) (fun _ => rfl)) (fun _ => rfl)) (fun _ => rfl)) (fun _ => rfl)
  have hm : ¬ M a5 a6 := fun hm => h ⟨h0, ⟨q1, q2⟩, ⟨q7, q8⟩, hm, ⟨q3, q4⟩, ⟨q5, q6⟩⟩
  exact Zv (ZjQ hm).2 (Z7 (by decide) rfl)
 ·exact Zv (ZnZ h0).2 rfl
theorem Zpq (h : C a0 a1 a2 a3 a4 a5 a6) (ht : T a7) : Zca a0 a1 a2 a3 a4 a5 a6 a7 N = some (.r1 a4) :=
 Zv (Znv h) <| Z7 (fun e => e rfl) <| Z7 (by unfold T at ht; omega) <| Z7 (by unfold T at ht; omega) <|
  Zv (ZhI h.1).2 <| Zv (ZhJ h.2.1).2 <| Zv (Zfi h.2.2.1).2 <| Zv (ZcO ht).2 rfl
theorem Zob (h : ¬ (C a0 a1 a2 a3 a4 a5 a6 ∧ T a7)) : Zca a0 a1 a2 a3 a4 a5 a6 a7 N = some .r0 := by
 by_cases hc : C a0 a1 a2 a3 a4 a5 a6
 ·have ht : ¬ T a7 := fun e => h ⟨hc, e⟩
  unfold T at ht
  exact Zv (Znv hc) <| Z7 (fun e => e rfl) <| Zbz (fun _ => rfl) fun _ => Z1 (by omega) rfl
 ·exact Zv (is_n hc) <| Z1 (by decide) rfl
end
/-! ### Calls -/
def opG (b : Int) (P : List RA) (t : Int) (c : RA → Bool) (f : RA → RA) : Nat × List RA :=
 if t < 0 then (5, P) else if b ≤ t then (5, P) else if c (P.getD t.toNat RA.z) = true then (150, P) else (0, P.set t.toNat (f (P.getD t.toNat RA.z)))
section
variable {b : Int} {P : List RA} {t : Int} {c : RA → Bool} {f : RA → RA}
theorem op1 (h : t < 0) : opG b P t c f = (5, P) := if_pos h
theorem op2 (h : ¬ t < 0) (h2 : b ≤ t) : opG b P t c f = (5, P) := by rw [opG, if_neg h, if_pos h2]
theorem op3 (h : ¬ t < 0) (h2 : ¬ b ≤ t) (h3 : c (P.getD t.toNat RA.z) = true) : opG b P t c f = (150, P) := by rw [opG, if_neg h, if_neg h2, if_pos h3]
theorem op4 (h : ¬ t < 0) (h2 : ¬ b ≤ t) (h3 : c (P.getD t.toNat RA.z) = false) : opG b P t c f = (0, P.set t.toNat (f (P.getD t.toNat RA.z))) := by rw [opG, if_neg h, if_neg h2, if_neg (by rw [h3]; decide)]
end
def cS (n : Int) (x : RA) : Bool := decide (n < 1) || !decide (x.a0 = 0)
def fS (n : Int) (_ : RA) : RA := ⟨n, false, false⟩
def cF (x : RA) : Bool := decide (x.a0 = 0)
def fF (x : RA) : RA := ⟨x.a0, true, x.a2⟩
def fE (_ : RA) : RA := ⟨0, false, false⟩
def cD (x : RA) : Bool := decide (x.a0 = 0) || x.a1
def fD (x : RA) : RA := ⟨x.a0, x.a1, true⟩
structure H (a1 a7 : Int) (P W : List RA) (A B S : List Int) : Prop where
 p : P.length = 64
 w : (W.length : Int) = a7
 e : ∀ i, i < W.length → P.getD i RA.z = W.getD i RA.z
 a : (A.length : Int) = a1
 b : (B.length : Int) = a1
 s : S.length = 64
section
variable {a0 a1 a2 a3 a4 a5 a6 a7 : Int} {P W : List RA} {A B S : List Int} {N : Nat}
theorem H.at (h : H a1 a7 P W A B S) {t : Int} (h1 : ¬ t < 0) (h2 : ¬ a7 ≤ t) : P.getD t.toNat RA.z = W.getD t.toNat RA.z := h.e _ (by have := h.w; omega)
theorem H.set (h : H a1 a7 P W A B S) (ha : a7 ≤ 64) {t : Int} (h1 : ¬ t < 0) (h2 : ¬ a7 ≤ t) (x : RA) : H a1 a7 (P.set t.toNat x) (W.set t.toNat x) A B S :=
 ⟨by simpa using h.p, by simpa using h.w, fun i hi => by
  have hw := h.w
  have hp := h.p
  have hi : i < W.length := by simpa using hi
  rw [ZlA (by omega), ZlA (by omega), h.e i hi], h.a, h.b, h.s⟩
/-! ### The manager -/
def ZlC (m s1 s2 : Int) (b : Bool) (tr k : Int) : Int :=
 if b = true then (if m = 1 then 1 else if m = 2 then (if tr < k then 1 else 3) else 3)
 else if m = 1 then (if s1 < s2 then 2 else 3) else if m = 2 then (if tr < k then 1 else 3) else 3
theorem Zbi (m s1 s2 : Int) (b : Bool) (tr k : Int) : ZaA m s1 s2 b tr k N = some (.r0 (ZlC m s1 s2 b tr k)) ∧ Zak m s1 s2 b tr k N = some (.r0 (ZlC m s1 s2 b tr k)) := by
 unfold ZaA Zak ZlC
 constructor <;> (repeat' split) <;> first | rfl | (exfalso; simp_all; done) | omega
def st (b : Int) (P : List RA) (t : Int) : Int := if t < 0 then 0 else if b ≤ t then 0 else (P.getD t.toNat RA.z).a0
theorem H.st (h : H a1 a7 P W A B S) (t : Int) : st a7 P t = st W.length W t := by
 unfold Mr.st
 have hw := h.w
 by_cases h1 : t < 0
 ·rw [if_pos h1, if_pos h1]
 ·by_cases h2 : a7 ≤ t
  ·rw [if_neg h1, if_neg h1, if_pos h2, if_pos (by omega)]
  ·rw [if_neg h1, if_neg h1, if_neg h2, if_neg (by omega), h.at h1 h2]
theorem verd {x0 x1 x2 : Int} {x3 : Bool} {x4 x6 x7 x8 x9 x10 x11 x12 x13 x18 x19 x20 x21 : Int} {L14 : List RD} {L15 : List R_ii} {L16 L17 L22 : List Int} (h1 : 1 ≤ x4) (h2 : x4 ≤ 64) :
  ZaZ x0 x1 x2 x3 x4 P x6 x7 x8 x9 x10 x11 x12 x13 L14 L15 L16 L17 x18 x19 x20 x21 L22 N = some (.r0 (ZlC x11 (st x4 P x0) (st x4 P x1) x3 x2 x12)) := by
 refine Z1 (by omega) ?_
 by_cases q0 : x0 < 0
 ·refine Z1 q0 ?_
  by_cases q1 : x1 < 0
  ·refine Z1 q1 (Zv (Zbi ..).1 ?_); rw [st, if_pos q0, st, if_pos q1]
  ·refine Z7 q1 ?_
   by_cases q2 : x4 ≤ x1
   ·refine Z1 q2 (Zv (Zbi ..).1 ?_); rw [st, if_pos q0, st, if_neg q1, if_pos q2]
   ·refine Z7 q2 (Z1 (by omega) (Zv (Zbi ..).1 ?_)); rw [st, if_pos q0, st, if_neg q1, if_neg q2]
 ·refine Z7 q0 ?_
  by_cases q3 : x4 ≤ x0
  ·refine Z1 q3 ?_
   by_cases q1 : x1 < 0
   ·refine Z1 q1 (Zv (Zbi ..).1 ?_); rw [st, if_neg q0, if_pos q3, st, if_pos q1]
   ·refine Z7 q1 ?_
    by_cases q2 : x4 ≤ x1
    ·refine Z1 q2 (Zv (Zbi ..).1 ?_); rw [st, if_neg q0, if_pos q3, st, if_neg q1, if_pos q2]
    ·refine Z7 q2 (Z1 (by omega) (Zv (Zbi ..).1 ?_)); rw [st, if_neg q0, if_pos q3, st, if_neg q1, if_neg q2]
  ·refine Z7 q3 (Z1 (by omega) ?_)
   by_cases q1 : x1 < 0
   ·refine Z1 q1 (Zv (Zbi ..).1 ?_); rw [st, if_neg q0, if_neg q3, st, if_pos q1]
   ·refine Z7 q1 ?_
    by_cases q2 : x4 ≤ x1
    ·refine Z1 q2 (Zv (Zbi ..).1 ?_); rw [st, if_neg q0, if_neg q3, st, if_neg q1, if_pos q2]
    ·refine Z7 q2 (Z1 (by omega) (Zv (Zbi ..).1 ?_)); rw [st, if_neg q0, if_neg q3, st, if_neg q1, if_neg q2]
theorem ZoE {x0 x1 x2 x3 x4 x5 x6 x7 x9 x10 x11 x14 x15 x16 x18 x19 x20 x21 x22 x23 x24 x25 : Int} {x17 : Bool} {L8 : List RB} {L12 : List Int} {L26 : List R_ii} :
  Zb5 x0 x1 x2 x3 x4 x5 x6 x7 L8 x9 x10 x11 L12 W x14 x15 x16 x17 x18 x19 x20 x21 x22 x23 x24 x25 L26 N = some (.r0 (ZlC x5 (st W.length W x14) (st W.length W x15) x17 x16 x6)) := by
 by_cases q0 : x14 < 0
 ·refine Z1 q0 ?_
  by_cases q1 : x15 < 0
  ·refine Z1 q1 (Zv (Zbi ..).2 ?_); rw [st, if_pos q0, st, if_pos q1]
  ·refine Z7 q1 ?_
   by_cases q2 : (W.length : Int) ≤ x15
   ·refine Z1 q2 (Zv (Zbi ..).2 ?_); rw [st, if_pos q0, st, if_neg q1, if_pos q2]
   ·refine Z7 q2 (Zv (Zbi ..).2 ?_); rw [st, if_pos q0, st, if_neg q1, if_neg q2]
 ·refine Z7 q0 ?_
  by_cases q3 : (W.length : Int) ≤ x14
  ·refine Z1 q3 ?_
   by_cases q1 : x15 < 0
   ·refine Z1 q1 (Zv (Zbi ..).2 ?_); rw [st, if_neg q0, if_pos q3, st, if_pos q1]
   ·refine Z7 q1 ?_
    by_cases q2 : (W.length : Int) ≤ x15
    ·refine Z1 q2 (Zv (Zbi ..).2 ?_); rw [st, if_neg q0, if_pos q3, st, if_neg q1, if_pos q2]
    ·refine Z7 q2 (Zv (Zbi ..).2 ?_); rw [st, if_neg q0, if_pos q3, st, if_neg q1, if_neg q2]
  ·refine Z7 q3 ?_
   by_cases q1 : x15 < 0
   ·refine Z1 q1 (Zv (Zbi ..).2 ?_); rw [st, if_neg q0, if_neg q3, st, if_pos q1]
   ·refine Z7 q1 ?_
    by_cases q2 : (W.length : Int) ≤ x15
    ·refine Z1 q2 (Zv (Zbi ..).2 ?_); rw [st, if_neg q0, if_neg q3, st, if_neg q1, if_pos q2]
    ·refine Z7 q2 (Zv (Zbi ..).2 ?_); rw [st, if_neg q0, if_neg q3, st, if_neg q1, if_neg q2]
/-! ### Forks -/
theorem ofl (hl : A.length = B.length) (h2 : A.length ≤ 1024) : ∀ (d v : Nat) (x y : List Int), A.length - v = d → v ≤ A.length → x.length = A.length → y.length = A.length →
  ∃ x' y', Zb3 (Zbh A B N) (d + 1) (.h1m0 v x y) = some (.r1 x' y') ∧ x'.length = A.length ∧ y'.length = A.length
 | 0, v, x, y, hd, hv, hx, hy => ⟨x, y, ZdL (Z7 (by omega) rfl), hx, hy⟩
 | d + 1, v, x, y, hd, hv, hx, hy => by
  obtain ⟨x', y', q1, q2, q3⟩ := ofl hl h2 d (v + 1) (x.set v (A.getD v 0)) (y.set v (B.getD v 0)) (by omega) (by omega) (by simpa using hx) (by simpa using hy)
  exact ⟨x', y', nx _ (Z1 (by omega) <| Z1 (by omega) <| Z1 (by omega) <| Z1 (by omega) <| Z1 (by omega) rfl) q1, q2, q3⟩
theorem ofork (h1 : 1 ≤ A.length) (hl : A.length = B.length) (h2 : A.length ≤ 1024) (hN : 10000 ≤ N) : ∃ x y, ZcS A B N = some (.r1 x y) ∧ x.length = A.length ∧ y.length = A.length := by
 obtain ⟨x, y, q1, q2, q3⟩ := ofl (N := N) hl h2 _ 0 (List.replicate (A.length : Int).toNat (0 : Int)) (List.replicate (A.length : Int).toNat (0 : Int)) rfl (Nat.zero_le _) (by simp) (by simp)
 exact ⟨x, y, gi _ (Z1 (by omega) <| Zv (ZhJ (N := N) (a1 := (A.length : Int)) (by omega)).1 rfl) (show A.length - 0 + 1 ≤ N by omega) q1, q2, q3⟩
theorem snl (hS : S.length = 64) (h1 : 1 ≤ a7) (h2 : a7 ≤ 64) : ∀ (d v : Nat) (w : List Int), a7.toNat - v = d → v ≤ a7.toNat → w.length = v → ∃ w', Zb3 (ZaF a7 S N) (d + 1) (.h1m1 w v) = some (.r1 w') ∧ w'.length = a7.toNat
 | 0, v, w, hd, hv, hw => ⟨w, ZdL (Z7 (by omega) rfl), by omega⟩
 | d + 1, v, w, hd, hv, hw => by
  obtain ⟨w', q1, q2⟩ := snl hS h1 h2 d (v + 1) (w ++ [S.getD v 0]) (by omega) (by omega) (by simp [hw])
  exact ⟨w', nx _ (Z1 (by omega) <| Z1 (by omega) <| Z1 (by omega) <| Z1 (by omega) rfl) q1, q2⟩
theorem snap (hS : S.length = 64) (h1 : 1 ≤ a7) (h2 : a7 ≤ 64) (hN : 10000 ≤ N) : ∃ w, ZbP a7 S N = some (.r1 w) ∧ w.length = a7.toNat := by
 obtain ⟨w, q1, q2⟩ := snl (N := N) hS h1 h2 _ 1 [S.getD 0 0] rfl (by omega) rfl
 exact ⟨w, gi .h1m0 rfl (show (a7.toNat - 1) + 1 + 1 ≤ N by omega) (nx _ (Z1 (by omega) rfl) q1), q2⟩
theorem efl {y : List Int} (hy : y.length ≤ 64) : ∀ (d v : Nat) (w : List Int), y.length - v = d → v ≤ y.length → w.length = 64 → ∃ w', Zb3 (ZaG a7 S N) (d + 1) (.h1m1 y y.length v w) = some (.r1 w') ∧ w'.length = 64
 | 0, v, w, hd, hv, hw => ⟨w, ZdL (Z7 (by omega) rfl), hw⟩
 | d + 1, v, w, hd, hv, hw => by
  obtain ⟨w', q1, q2⟩ := efl hy d (v + 1) (w.set v (y.getD v 0)) (by omega) (by omega) (by simpa using hw)
  exact ⟨w', nx _ (Z1 (by omega) <| Z1 (by omega) <| Z1 (by omega) <| Z1 (by omega) rfl) q1, q2⟩
theorem efork (hS : S.length = 64) (h1 : 1 ≤ a7) (h2 : a7 ≤ 64) (hN : 10000 ≤ N) : ∃ w, ZcI a7 S N = some (.r1 w) ∧ w.length = 64 := by
 obtain ⟨y, q1, q2⟩ := snap (N := N) hS h1 h2 hN
 obtain ⟨w, g1, g2⟩ := efl (a7 := a7) (S := S) (N := N) (y := y) (by omega) _ 0 (List.replicate 64 (0 : Int)) rfl (Nat.zero_le _) (by simp)
 exact ⟨w, gi _ (Z7 (by omega) <| Zv q1 rfl) (show y.length - 0 + 1 ≤ N by omega) g1, g2⟩
end
/-! ### The law -/
section
variable {a0 a1 a2 a3 a4 a5 a6 a7 : Int} {L : List RC} {N : Nat}
def G (a1 a7 : Int) : Zf → Prop
 | .h1m0 => True
 | .h1m1 v P _ W A B S => v ≤ 60 ∧ H a1 a7 P W A B S
 | .h2m0 v P _ W _ _ _ _ _ A B S => v < 60 ∧ H a1 a7 P W A B S
 | .h3m0 v g P' _ W _ t n _ _ A B S => v < 60 ∧ ∃ P, H a1 a7 P W A B S ∧ (g, P') = opG a7 P t (cS n) (fS n)
 | .h4m0 v g P' _ W _ t _ _ _ A B S => v < 60 ∧ ∃ P, H a1 a7 P W A B S ∧ (g, P') = opG a7 P t cF fF
 | .h5m0 v g P' _ W _ t _ _ _ A B S => v < 60 ∧ ∃ P, H a1 a7 P W A B S ∧ (g, P') = opG a7 P t cF fE
 | .h6m0 v k P' _ W _ t _ _ _ A B S => v < 60 ∧ ∃ P, H a1 a7 P W A B S ∧ ∃ g : Nat, (g, P') = opG a7 P t cD fD ∧ k = (g == 0)
 | .h7m0 v g h P _ W _ _ _ _ _ A B S => v < 60 ∧ g = h ∧ H a1 a7 P W A B S
 | .h8m0 v P _ W _ _ _ _ _ _ A B S _ _ _ => v < 60 ∧ H a1 a7 P W A B S
 | .h9m0 v P _ W _ _ _ _ _ _ A B S _ _ _ => v < 60 ∧ H a1 a7 P W A B S
def mu : Zf → Nat
 | .h1m0 => 0
 | .h1m1 v .. => (60 - v) * 10
 | .h2m0 v .. => (60 - v) * 10 - 1
 | .h3m0 v .. => (60 - v) * 10 - 2
 | .h4m0 v .. => (60 - v) * 10 - 2
 | .h5m0 v .. => (60 - v) * 10 - 2
 | .h6m0 v .. => (60 - v) * 10 - 2
 | .h7m0 v .. => (60 - v) * 10 - 4
 | .h8m0 v .. => (60 - v) * 10 - 2
 | .h9m0 v .. => (60 - v) * 10 - 3
def Nxt (a1 a7 : Int) (m : Nat) (o : Option (Zf ⊕ Zn)) : Prop := o = some (.inr (.r0 true)) ∨ ∃ y, o = some (.inl y) ∧ G a1 a7 y ∧ mu y < m
section
variable {m : Nat} {o q : Option (Zf ⊕ Zn)}
theorem Zad {c : Prop} [Decidable c] (h1 : c → Nxt a1 a7 m o) (h2 : ¬ c → Nxt a1 a7 m q) : Nxt a1 a7 m (if c then o else q) := by
 by_cases h : c
 ·rw [if_pos h]; exact h1 h
 ·rw [if_neg h]; exact h2 h
theorem Zbw {c : Prop} [Decidable c] (h : c) (h1 : Nxt a1 a7 m o) : Nxt a1 a7 m (if c then o else q) := by rw [if_pos h]; exact h1
theorem Zd9 {c : Prop} [Decidable c] (h : ¬ c) (h1 : Nxt a1 a7 m q) : Nxt a1 a7 m (if c then o else q) := by rw [if_neg h]; exact h1
theorem Zgm {α : Type} {p : Option α} {a : α} {k : α → Option (Zf ⊕ Zn)} (h : p = some a) (h1 : Nxt a1 a7 m (k a)) : Nxt a1 a7 m (p.bind k) := by rw [h]; exact h1
theorem Znw : Nxt a1 a7 m (some (.inr (.r0 true))) := .inl rfl
theorem Zan {y : Zf} (h : G a1 a7 y) (hm : mu y < m) : Nxt a1 a7 m (some (.inl y)) := .inr ⟨y, rfl, h, hm⟩
end
structure Req (a0 a1 a4 a7 : Int) : Prop where
 x1 : (17 : Int) ≤ a0
 x2 : a0 ≤ (65536 : Int)
 x3 : (1 : Int) ≤ a1
 x4 : a1 ≤ (1024 : Int)
 x5 : (1 : Int) ≤ a4
 x6 : a4 ≤ (1099511627776 : Int)
 x7 : (1 : Int) ≤ a7
 x8 : a7 ≤ (64 : Int)
theorem ZeY {m : Nat} {o q1 q2 q3 q4 q5 q6 q7 q8 : Option (Zf ⊕ Zn)} (r : Req a0 a1 a4 a7) (h : Nxt a1 a7 m o) :
  Nxt a1 a7 m (if (17 : Int) ≤ a0 then if a0 ≤ (65536 : Int) then if (1 : Int) ≤ a1 then if a1 ≤ (1024 : Int) then if (1 : Int) ≤ a4 then if a4 ≤ (1099511627776 : Int) then if (1 : Int) ≤ a7 then if a7 ≤ (64 : Int) then o else q8 else q7 else q6 else q5 else q4 else q3 else q2 else q1) :=
 Zbw r.x1 <| Zbw r.x2 <| Zbw r.x3 <| Zbw r.x4 <| Zbw r.x5 <| Zbw r.x6 <| Zbw r.x7 <| Zbw r.x8 h
theorem s1 (r : Req a0 a1 a4 a7) {v : Nat} {P W : List RA} {A B S : List Int} {z : Int} (hv : v ≤ 60) (h : H a1 a7 P W A B S) :
  Nxt a1 a7 ((60 - v) * 10) (Zcb a0 a1 a2 a3 a4 a5 a6 a7 L N v P z W A B S) :=
 ZeY r <| Zad (fun _ => Zad (fun q => Zan ⟨by omega, h⟩ (show (60 - v) * 10 - 1 < _ by omega)) (fun _ => Znw)) (fun _ => Znw)
theorem s2 (r : Req a0 a1 a4 a7) {v : Nat} {P W : List RA} {A B S : List Int} {z k t n tr : Int} {b : Bool} (hv : v < 60) (h : H a1 a7 P W A B S) (hN : 10000 ≤ N) :
  Nxt a1 a7 ((60 - v) * 10 - 1) (Zcc a0 a1 a2 a3 a4 a5 a6 a7 L N v P z W k t n tr b A B S) := by
 have hp := h.p
 have e1 : ∀ g : Nat, (60 - v) * 10 - 2 < (60 - v) * 10 - 1 := fun _ => by omega
 have e4 : (60 - v) * 10 - 4 < (60 - v) * 10 - 1 := by omega
 refine ZeY r <| Zad (fun k1 => ?_) (fun k1 => Zad (fun k2 => ?_) (fun k2 => Zad (fun k3 => ?_) (fun k3 => Zad (fun k4 => ?_) (fun k4 => Zad (fun k5 => ?_) (fun k5 => Zad (fun k6 => ?_) (fun k6 => Zan ⟨hv, rfl, h⟩ e4))))))
 ·exact Zad (fun h1 => Zan ⟨hv, P, h, (op1 (b := a7) (P := P) (c := cS n) (f := fS n) h1).symm⟩ (e1 0)) (fun h1 => Zad (fun h2 => Zan ⟨hv, P, h, (op2 (b := a7) (P := P) (c := cS n) (f := fS n) h1 h2).symm⟩ (e1 0)) (fun h2 => Zad (fun h3 => Zan ⟨hv, P, h, (op3 (b := a7) (P := P) (c := cS n) (f := fS n) h1 h2 (by simp [cS, h3])).symm⟩ (e1 0)) (fun h3 =>
   Zad (fun h4 => Zan ⟨hv, P, h, (op3 (b := a7) (P := P) (c := cS n) (f := fS n) h1 h2 (by simp only [cS, Bool.or_eq_true, Bool.not_eq_true', decide_eq_true_eq, decide_eq_false_iff_not]; exact .inr h4)).symm⟩ (e1 0)) (fun h4 => Zbw (by have := r.x8; omega) <| Zan ⟨hv, P, h, (op4 (b := a7) (P := P) (c := cS n) (f := fS n) h1 h2 (by simp only [cS, Bool.or_eq_false_iff, Bool.not_eq_false', decide_eq_true_eq, decide_eq_false_iff_not]; exact ⟨h3, Decidable.not_not.1 h4⟩)).symm⟩ (e1 0)))))
 ·exact Zad (fun h1 => Zan ⟨hv, P, h, (op1 (b := a7) (P := P) (c := cF) (f := fF) h1).symm⟩ (e1 0)) (fun h1 => Zad (fun h2 => Zan ⟨hv, P, h, (op2 (b := a7) (P := P) (c := cF) (f := fF) h1 h2).symm⟩ (e1 0)) (fun h2 =>
   Zad (fun h4 => Zan ⟨hv, P, h, (op3 (b := a7) (P := P) (c := cF) (f := fF) h1 h2 (decide_eq_true h4)).symm⟩ (e1 0)) (fun h4 => Zbw (by have := r.x8; omega) <| Zan ⟨hv, P, h, (op4 (b := a7) (P := P) (c := cF) (f := fF) h1 h2 (decide_eq_false h4)).symm⟩ (e1 0))))
 ·exact Zad (fun h1 => Zan ⟨hv, P, h, (op1 (b := a7) (P := P) (c := cF) (f := fE) h1).symm⟩ (e1 0)) (fun h1 => Zad (fun h2 => Zan ⟨hv, P, h, (op2 (b := a7) (P := P) (c := cF) (f := fE) h1 h2).symm⟩ (e1 0)) (fun h2 =>
   Zad (fun h4 => Zan ⟨hv, P, h, (op3 (b := a7) (P := P) (c := cF) (f := fE) h1 h2 (decide_eq_true h4)).symm⟩ (e1 0)) (fun h4 => Zbw (by have := r.x8; omega) <| Zan ⟨hv, P, h, (op4 (b := a7) (P := P) (c := cF) (f := fE) h1 h2 (decide_eq_false h4)).symm⟩ (e1 0))))
 ·exact Zad (fun h1 => Zan ⟨hv, P, h, 5, (op1 (b := a7) (P := P) (c := cD) (f := fD) h1).symm, rfl⟩ (e1 0)) (fun h1 => Zad (fun h2 => Zan ⟨hv, P, h, 5, (op2 (b := a7) (P := P) (c := cD) (f := fD) h1 h2).symm, rfl⟩ (e1 0)) (fun h2 =>
   Zad (fun h4 => Zan ⟨hv, P, h, 150, (op3 (b := a7) (P := P) (c := cD) (f := fD) h1 h2 (by simp only [cD, Bool.or_eq_true, decide_eq_true_eq]; exact .inl h4)).symm, rfl⟩ (e1 0)) (fun h4 =>
    Zad (fun h5 => Zan ⟨hv, P, h, 150, (op3 (b := a7) (P := P) (c := cD) (f := fD) h1 h2 (by simp only [cD, Bool.or_eq_true, decide_eq_true_eq]; exact .inr h5)).symm, rfl⟩ (e1 0)) (fun h5 => Zbw (by have := r.x8; omega) <| Zan ⟨hv, P, h, 0, (op4 (b := a7) (P := P) (c := cD) (f := fD) h1 h2 (by simp only [cD, Bool.or_eq_false_iff, decide_eq_false_iff_not]; exact ⟨h4, Bool.eq_false_iff.2 h5⟩)).symm, rfl⟩ (e1 0)))))
 ·exact Zad (fun hb => Zgm (verd r.x7 r.x8) <| Zgm ZoE <| Zd9 (fun e => e (by rw [h.st, h.st])) <| Zan ⟨hv, rfl, h⟩ e4)
   (fun hb => Zgm (verd r.x7 r.x8) <| Zgm ZoE <| Zd9 (fun e => e (by rw [h.st, h.st])) <| Zan ⟨hv, rfl, h⟩ e4)
 ·have ha := h.a
  have hb := h.b
  have hr := r.x3
  have hr2 := r.x4
  obtain ⟨x, y, q1, q2, q3⟩ := ofork (N := N) (A := A) (B := B) (by omega) (by omega) (by omega) hN
  obtain ⟨w, g1, g2⟩ := efork (N := N) (a7 := a7) h.s r.x7 r.x8 hN
  exact Zgm q1 <| Zgm g1 <| Zan ⟨hv, h.p, h.w, h.e, by omega, by omega, g2⟩ (e1 0)
section
variable {v g : Nat} {P' W : List RA} {A B S : List Int} {z k t n tr : Int} {b : Bool}
theorem s3 (r : Req a0 a1 a4 a7) (hh : G a1 a7 (.h3m0 v g P' z W k t n tr b A B S)) : Nxt a1 a7 ((60 - v) * 10 - 2) (Zcd a0 a1 a2 a3 a4 a5 a6 a7 L N v g P' z W k t n tr b A B S) := by
 obtain ⟨hv, P, h, e⟩ := hh
 have hw := h.w
 have e4 : (60 - v) * 10 - 4 < (60 - v) * 10 - 2 := by omega
 refine ZeY r <| Zad (fun h1 => ?_) (fun h1 => Zad (fun h2 => ?_) (fun h2 => ?_))
 ·rw [op1 h1] at e; cases e; exact Zan ⟨hv, rfl, h⟩ e4
 ·rw [op2 h1 (by omega)] at e; cases e; exact Zan ⟨hv, rfl, h⟩ e4
 ·have h2' : ¬ a7 ≤ t := by omega
  have q := h.at h1 h2'
  refine Zad (fun h3 => ?_) (fun h3 => Zad (fun h4 => ?_) (fun h4 => Zbw (by have := r.x8; omega) ?_))
  ·rw [op3 h1 h2' (by simp [cS, h3])] at e; cases e; exact Zan ⟨hv, rfl, h⟩ e4
  ·rw [op3 h1 h2' (by rw [q]; simp only [cS, Bool.or_eq_true, Bool.not_eq_true', decide_eq_true_eq, decide_eq_false_iff_not]; exact .inr h4)] at e; cases e; exact Zan ⟨hv, rfl, h⟩ e4
  ·rw [op4 h1 h2' (by rw [q]; simp only [cS, Bool.or_eq_false_iff, Bool.not_eq_false', decide_eq_true_eq, decide_eq_false_iff_not]; exact ⟨h3, Decidable.not_not.1 h4⟩)] at e; cases e; exact Zan ⟨hv, rfl, h.set r.x8 h1 h2' _⟩ e4
theorem s4 (r : Req a0 a1 a4 a7) (hh : G a1 a7 (.h4m0 v g P' z W k t n tr b A B S)) : Nxt a1 a7 ((60 - v) * 10 - 2) (Zce a0 a1 a2 a3 a4 a5 a6 a7 L N v g P' z W k t n tr b A B S) := by
 obtain ⟨hv, P, h, e⟩ := hh
 have hw := h.w
 have e4 : (60 - v) * 10 - 4 < (60 - v) * 10 - 2 := by omega
 refine ZeY r <| Zad (fun h1 => ?_) (fun h1 => Zad (fun h2 => ?_) (fun h2 => ?_))
 ·rw [op1 h1] at e; cases e; exact Zan ⟨hv, rfl, h⟩ e4
 ·rw [op2 h1 (by omega)] at e; cases e; exact Zan ⟨hv, rfl, h⟩ e4
 ·have h2' : ¬ a7 ≤ t := by omega
  have q := h.at h1 h2'
  refine Zad (fun h4 => ?_) (fun h4 => Zbw (by have := r.x8; omega) ?_)
  ·rw [op3 h1 h2' (by rw [q]; exact decide_eq_true h4)] at e; cases e; exact Zan ⟨hv, rfl, h⟩ e4
  ·rw [op4 h1 h2' (by rw [q]; exact decide_eq_false h4), q] at e; cases e; exact Zan ⟨hv, rfl, h.set r.x8 h1 h2' _⟩ e4
theorem s5 (r : Req a0 a1 a4 a7) (hh : G a1 a7 (.h5m0 v g P' z W k t n tr b A B S)) : Nxt a1 a7 ((60 - v) * 10 - 2) (Zcf a0 a1 a2 a3 a4 a5 a6 a7 L N v g P' z W k t n tr b A B S) := by
 obtain ⟨hv, P, h, e⟩ := hh
 have hw := h.w
 have e4 : (60 - v) * 10 - 4 < (60 - v) * 10 - 2 := by omega
 refine ZeY r <| Zad (fun h1 => ?_) (fun h1 => Zad (fun h2 => ?_) (fun h2 => ?_))
 ·rw [op1 h1] at e; cases e; exact Zan ⟨hv, rfl, h⟩ e4
 ·rw [op2 h1 (by omega)] at e; cases e; exact Zan ⟨hv, rfl, h⟩ e4
 ·have h2' : ¬ a7 ≤ t := by omega
  have q := h.at h1 h2'
  refine Zad (fun h4 => ?_) (fun h4 => Zbw (by have := r.x8; omega) ?_)
  ·rw [op3 h1 h2' (by rw [q]; exact decide_eq_true h4)] at e; cases e; exact Zan ⟨hv, rfl, h⟩ e4
  ·rw [op4 h1 h2' (by rw [q]; exact decide_eq_false h4)] at e; cases e; exact Zan ⟨hv, rfl, h.set r.x8 h1 h2' _⟩ e4
theorem s6 {g : Bool} (r : Req a0 a1 a4 a7) (hh : G a1 a7 (.h6m0 v g P' z W k t n tr b A B S)) : Nxt a1 a7 ((60 - v) * 10 - 2) (Zcg a0 a1 a2 a3 a4 a5 a6 a7 L N v g P' z W k t n tr b A B S) := by
 obtain ⟨hv, P, h, g', e, rfl⟩ := hh
 have hw := h.w
 have e4 : (60 - v) * 10 - 4 < (60 - v) * 10 - 2 := by omega
 refine ZeY r <| Zad (fun h1 => ?_) (fun h1 => Zad (fun h2 => ?_) (fun h2 => ?_))
 ·rw [op1 h1] at e; cases e; exact Zd9 (by decide) <| Zan ⟨hv, rfl, h⟩ e4
 ·rw [op2 h1 (by omega)] at e; cases e; exact Zd9 (by decide) <| Zan ⟨hv, rfl, h⟩ e4
 ·have h2' : ¬ a7 ≤ t := by omega
  have q := h.at h1 h2'
  refine Zad (fun h4 => ?_) (fun h4 => Zad (fun h5 => ?_) (fun h5 => Zbw (by have := r.x8; omega) ?_))
  ·rw [op3 h1 h2' (by rw [q]; simp only [cD, Bool.or_eq_true, decide_eq_true_eq]; exact .inl h4)] at e; cases e; exact Zd9 (by decide) <| Zan ⟨hv, rfl, h⟩ e4
  ·rw [op3 h1 h2' (by rw [q]; simp only [cD, Bool.or_eq_true, decide_eq_true_eq]; exact .inr h5)] at e; cases e; exact Zd9 (by decide) <| Zan ⟨hv, rfl, h⟩ e4
  ·rw [op4 h1 h2' (by rw [q]; simp only [cD, Bool.or_eq_false_iff, decide_eq_false_iff_not]; exact ⟨h4, Bool.eq_false_iff.2 h5⟩), q] at e; cases e; exact Zd9 (by decide) <| Zan ⟨hv, rfl, h.set r.x8 h1 h2' _⟩ e4
theorem s7 {g' : Nat} (r : Req a0 a1 a4 a7) (hh : G a1 a7 (.h7m0 v g g' P' z W k t n tr b A B S)) : Nxt a1 a7 ((60 - v) * 10 - 4) (Zch a0 a1 a2 a3 a4 a5 a6 a7 L N v g g' P' z W k t n tr b A B S) := by
 obtain ⟨hv, rfl, h⟩ := hh
 have hw := h.w
 have e4 : (60 - (v + 1)) * 10 < (60 - v) * 10 - 4 := by omega
 have hl : Nxt a1 a7 ((60 - v) * 10 - 4) (if (((v + 1) : Nat) : Int) ≤ (9223372036854775807 : Int) then some (.inl (.h1m1 (v + 1) P' z W A B S)) else none) := Zbw (by omega) <| Zan ⟨by omega, h⟩ e4
 refine ZeY r <| Zad (fun h1 => Zd9 (fun e => e rfl) hl) (fun h1 => Zad (fun h2 => Zd9 (fun e => e rfl) <| Zbw (by omega) hl) (fun h2 => ?_))
 have q := h.at h1 (by omega : ¬ a7 ≤ t)
 rw [q]
 refine Zd9 (fun e => e rfl) <| Zd9 (by omega) <| Zd9 (fun e => e rfl) <| Zad (fun f1 => Zbw f1 <| Zad (fun f2 => Zbw f2 hl) (fun f2 => Zd9 f2 hl)) (fun f1 => Zd9 f1 <| Zad (fun f2 => Zbw f2 hl) (fun f2 => Zd9 f2 hl))
end
theorem step (r : Req a0 a1 a4 a7) (hN : 10000 ≤ N) : ∀ x, G a1 a7 x → Nxt a1 a7 (mu x) (ZL a0 a1 a2 a3 a4 a5 a6 a7 L N x)
 | .h1m0, h => Znw
 | .h1m1 .., h => s1 (a2 := a2) (a3 := a3) (a5 := a5) (a6 := a6) (L := L) (N := N) r h.1 h.2
 | .h2m0 .., h => s2 (a2 := a2) (a3 := a3) (a5 := a5) (a6 := a6) (L := L) (N := N) r h.1 h.2 hN
 | .h3m0 .., h => s3 (a2 := a2) (a3 := a3) (a5 := a5) (a6 := a6) (L := L) (N := N) r h
 | .h4m0 .., h => s4 (a2 := a2) (a3 := a3) (a5 := a5) (a6 := a6) (L := L) (N := N) r h
 | .h5m0 .., h => s5 (a2 := a2) (a3 := a3) (a5 := a5) (a6 := a6) (L := L) (N := N) r h
 | .h6m0 .., h => s6 (a2 := a2) (a3 := a3) (a5 := a5) (a6 := a6) (L := L) (N := N) r h
 | .h7m0 .., h => s7 (a2 := a2) (a3 := a3) (a5 := a5) (a6 := a6) (L := L) (N := N) r h
 | .h8m0 v P z W k t n tr b X A B S x1 x2 x3, h => ZeY r <| Zad (fun _ => Zan h (show (60 - v) * 10 - 3 < (60 - v) * 10 - 2 by have := h.1; omega)) (fun _ => Zan h (show (60 - v) * 10 - 3 < (60 - v) * 10 - 2 by have := h.1; omega))
 | .h9m0 v P z W k t n tr b X A B S x1 x2 x3, h => ZeY r <| Zan ⟨h.1, rfl, h.2⟩ (show (60 - v) * 10 - 4 < (60 - v) * 10 - 3 by have := h.1; omega)
theorem all (r : Req a0 a1 a4 a7) (hN : 10000 ≤ N) : ∀ (n : Nat) x, G a1 a7 x → mu x < n → Zb3 (ZL a0 a1 a2 a3 a4 a5 a6 a7 L N) n x = some (.r0 true)
 | 0, x, _, h => absurd h (Nat.not_lt_zero _)
 | n + 1, x, g, h => by
  rcases step (a2 := a2) (a3 := a3) (a5 := a5) (a6 := a6) (L := L) (N := N) r hN x g with e | ⟨y, e, g', hm⟩
  ·exact ZdL e
  ·exact nx y e (all r hN n y g' (by omega))
theorem runs (a0 a1 a2 a3 a4 a5 a6 a7 : Int) (L : List RC) (N : Nat) (hN : 10000 ≤ N) : ZgE a0 a1 a2 a3 a4 a5 a6 a7 L N = some (.r0 true) := by
 by_cases hc : C a0 a1 a2 a3 a4 a5 a6
 ·have t1 : T 1 := ⟨by decide, by decide⟩
  by_cases ht : T a7
  ·have r : Req a0 a1 a4 a7 := ⟨hc.1.1, hc.1.2, hc.2.1.1, hc.2.1.2, hc.2.2.1.1, hc.2.2.1.2, ht.1, ht.2⟩
   have h1 := r.x3
   have h7 := r.x7
   have h : H a1 a7 (List.replicate 64 (⟨0, false, false⟩ : RA)) (List.replicate a7.toNat (⟨0, false, false⟩ : RA)) (List.replicate a1.toNat (0 : Int)) (List.replicate a1.toNat (0 : Int)) (List.replicate 64 (0 : Int)) :=
    ⟨by simp, by simp; omega, fun i hi => by
     have h8 := r.x8
     have hi : i < a7.toNat := by simpa using hi
     rw [ZlB (by omega), ZlB hi], by simp; omega, by simp; omega, by simp⟩
   exact gi _ (Zv (Znt hc ht) <| Zv (Zpq hc ht) <| Zv (Znt hc t1) <| Zv (Znv hc) <| Z7 (fun e => e rfl) rfl) (show 601 ≤ N by omega) (all r hN 601 _ ⟨Nat.zero_le _, h⟩ (show (60 - 0) * 10 < 601 by decide))
  ·have q : ¬ (C a0 a1 a2 a3 a4 a5 a6 ∧ T a7) := fun e => ht e.2
   exact gi .h1m0 (Zv (Znu q) <| Zv (Zob q) <| Zv (Znt hc t1) <| Zv (Znv hc) <| Z7 (fun e => e rfl) rfl) (show 1 ≤ N by omega) (ZdL rfl)
 ·have q : ∀ t, ¬ (C a0 a1 a2 a3 a4 a5 a6 ∧ T t) := fun _ e => hc e.1
  exact gi .h1m0 (Zv (Znu (q _)) <| Zv (Zob (q _)) <| Zv (Znu (q _)) <| Zv (is_n hc) <| Z7 (fun e => e rfl) rfl) (show 1 ≤ N by omega) (ZdL rfl)
end
end Mr
end Ev
end Go.Proofs.Ytfbpdjledonagaa
/- A region that draws its order, whose first operations only read (and make memory in calls), and whose last ones, in a forced order among themselves, make and write new memory: but these may come up early. -/
namespace Go.Proofs.Ytfbpdjledonagaa
open Go.RowKit

section
variable {P : Program}

def Calm (P : Program) (W : World) (o : Oper) (a : Act) (v : Value) : Prop :=
 ∀ w, Below W.heap.size W w → o.quietAt P a (fun w' => Below w.heap.size w w') w v

def YieldsC (P : Program) (ops : Array Oper) (W : World) (o : Oper) (v : Value) (a : Act) : Prop :=
 (Region.wanted o (yielded ops a.tmps) = true ∧ Calm P W o a v) ∨ (Region.wanted o (yielded ops a.tmps) = false ∧ v = undef)
theorem Zkp {a b c : World} (h : Below a.heap.size a b) (k : Below b.heap.size b c) : Below a.heap.size a c := h.trans (k.mono h.size)

def Closed (md : Region.Mode) (ops : Array Oper) (listed : Array Bool) : Prop :=
 ∀ j oj, ops[j]? = some oj → listed.getD j false = true → ∀ e ∈ oj.after, Region.binds md e = true → listed.getD e.on false = true
def ZlD (md : Region.Mode) (ops : Array Oper) : Nat → Nat → Nat → Bool
 | 0, _, _ => false
 | f + 1, t, i => Region.waitsFor md ops t i || (List.range ops.size).any fun k => Region.waitsFor md ops t k && ZlD md ops f k i
theorem Closed.waits {md : Region.Mode} {ops : Array Oper} {listed : Array Bool} (h : Closed md ops listed) : ∀ (f t i : Nat), listed.getD t false = true → ZlD md ops f t i = true → listed.getD i false = true
 | 0, _, _, _, hw => by cases hw
 | f + 1, t, i, ht, hw => by
  simp only [ZlD, Bool.or_eq_true, List.any_eq_true, Bool.and_eq_true] at hw
  rcases hw with hw | ⟨k, _, hw, hr⟩
  ·obtain ⟨o, ho, e, he, hb, rfl⟩ := Region.waitsFor_spec hw
   exact h t o ho ht e he hb
  ·obtain ⟨o, ho, e, he, hb, rfl⟩ := Region.waitsFor_spec hw
   exact h.waits f e.on i (h t o ho ht e he hb) hr

theorem YieldsC.wpOp {ops : Array Oper} {W : World} {i : Nat} {o : Oper} {v : Value} {a : Act} {w : World} (hi : ops[i]? = some o) (hy : YieldsC P ops W o v a) (hb : Below W.heap.size W w)
  {K : Act → World → Prop} {Q : Exit → Act → World → Prop} (h : ∀ w', Below w.heap.size w w' → K (a.put o.dst v) w') : wpOp P ops Q i K a w := by
 unfold Go.wpOp
 simp only [hi]
 rcases hy with ⟨hw, hv⟩ | ⟨hw, rfl⟩
 ·simp only [hw, if_true]
  exact .inl (Oper.wp_of_quiet (C := fun w' => Below w.heap.size w w') (K := fun a' => a' = a.put o.dst v) (Below.refl _ _) (fun a' w' hw' ha => by subst ha; exact h w' hw')
   ⟨v, fun w1 hw1 => by
    have h1 := hv w1 (Zkp hb hw1)
    unfold Oper.quietAt at h1 ⊢
    generalize (execOp a.eval o).run P w1 = r at *
    cases r with
    | ok n w' =>
     cases n <;> simp only [Oper.quietUpon] at h1 ⊢
     case value u => exact h1
     case skip => exact h1
     case enter f args => exact ⟨h1.1, h1.2.mono fun e w2 ⟨he, hb2⟩ => ⟨he, Zkp hw1 hb2⟩⟩
    | halt x w' => simp only [Oper.quietUpon] at h1, rfl⟩)
 ·simp only [hw, Bool.false_eq_true, if_false]
  exact h w (Below.refl _ _)

end
end Go.Proofs.Ytfbpdjledonagaa
/- The law MemRuns, for every input. -/
namespace Go.Proofs.Ytfbpdjledonagaa
open Go.ChangeShapes Go.WideShapes Go.ChangeAt Go.RowKit
namespace Ev
namespace MemRuns
set_option linter.unusedVariables false
structure RE where
 a0 : Int
 a1 : Int
 a2 : Int
 a3 : Int
 a4 : Int
 a5 : Int
 a6 : Int
def RE.z : RE := ⟨0, 0, 0, 0, 0, 0, 0⟩
def E_iiiiiii : Enc RE := ⟨fun x => [.i x.a0, .i x.a1, .i x.a2, .i x.a3, .i x.a4, .i x.a5, .i x.a6], 7, RE.z, fun _ => rfl, fun _ => rfl⟩
def el0R (x : RE) : Prop := (IntKind.i64.min ≤ x.a0 ∧ x.a0 ≤ IntKind.i64.max) ∧ (IntKind.i64.min ≤ x.a1 ∧ x.a1 ≤ IntKind.i64.max) ∧ (IntKind.i64.min ≤ x.a2 ∧ x.a2 ≤ IntKind.i64.max) ∧ (IntKind.i64.min ≤ x.a3 ∧ x.a3 ≤ IntKind.i64.max) ∧ (IntKind.i64.min ≤ x.a4 ∧ x.a4 ≤ IntKind.i64.max) ∧ (IntKind.i64.min ≤ x.a5 ∧ x.a5 ≤ IntKind.i64.max) ∧ (IntKind.i64.min ≤ x.a6 ∧ x.a6 ≤ IntKind.i64.max)
theorem el0 {H : Type} {enc : TypeId × Value → H} {w : World} {cs : List Value} (hl : cs.length = 7) (h : Trd enc Try.prog w 24 cs) : ∃ x : RE, DecL w cs (E_iiiiiii.cel x) ∧ el0R x := by
 have h0 := ZnV (by kernel_rfl : Try.prog.cellsOf 24 = 7) hl h
 have h1 := Zb4 0 1 7 Try.underlying24 h0 0 (te := 3) (o' := 0) (by kernel_rfl) rfl (by kernel_rfl) (by kernel_rfl) (by decide)
 obtain ⟨x0, e0, b0⟩ := Zdd Try.underlying3 (by kernel_rfl) h1
 have h2 := Zb4 1 1 7 Try.underlying24 h0 1 (te := 3) (o' := 1) (by kernel_rfl) rfl (by kernel_rfl) (by kernel_rfl) (by decide)
 obtain ⟨x1, e1, b1⟩ := Zdd Try.underlying3 (by kernel_rfl) h2
 have h3 := Zb4 2 1 7 Try.underlying24 h0 2 (te := 3) (o' := 2) (by kernel_rfl) rfl (by kernel_rfl) (by kernel_rfl) (by decide)
 obtain ⟨x2, e2, b2⟩ := Zdd Try.underlying3 (by kernel_rfl) h3
 have h4 := Zb4 3 1 7 Try.underlying24 h0 3 (te := 3) (o' := 3) (by kernel_rfl) rfl (by kernel_rfl) (by kernel_rfl) (by decide)
 obtain ⟨x3, e3, b3⟩ := Zdd Try.underlying3 (by kernel_rfl) h4
 have h5 := Zb4 4 1 7 Try.underlying24 h0 4 (te := 3) (o' := 4) (by kernel_rfl) rfl (by kernel_rfl) (by kernel_rfl) (by decide)
 obtain ⟨x4, e4, b4⟩ := Zdd Try.underlying3 (by kernel_rfl) h5
 have h6 := Zb4 5 1 7 Try.underlying24 h0 5 (te := 22) (o' := 5) (by kernel_rfl) rfl (by kernel_rfl) (by kernel_rfl) (by decide)
 obtain ⟨x5, e5, b5⟩ := Zdd Try.underlying22 (by kernel_rfl) h6
 have h7 := Zb4 6 1 7 Try.underlying24 h0 6 (te := 3) (o' := 6) (by kernel_rfl) rfl (by kernel_rfl) (by kernel_rfl) (by decide)
 obtain ⟨x6, e6, b6⟩ := Zdd Try.underlying3 (by kernel_rfl) h7
 refine ⟨(⟨x0, x1, x2, x3, x4, x5, x6⟩ : RE), Zm8 (by rw [hl, Enc.clen]; rfl) (fun j y hy => ?_), ⟨b0, b1, b2, b3, b4, b5, b6⟩⟩
 have := (ZbR (w := w) (k := 0) e0 .i (ZbR (w := w) (k := 1) e1 .i (ZbR (w := w) (k := 2) e2 .i (ZbR (w := w) (k := 3) e3 .i (ZbR (w := w) (k := 4) e4 .i (ZbR (w := w) (k := 5) e5 .i (ZbR (w := w) (k := 6) e6 .i (ZnT (w := w))))))))) j y hy
 simpa using this
def el1R (x : RC) : Prop := (IntKind.i64.min ≤ x.a0 ∧ x.a0 ≤ IntKind.i64.max) ∧ (IntKind.i64.min ≤ x.a1 ∧ x.a1 ≤ IntKind.i64.max) ∧ (IntKind.i64.min ≤ x.a2 ∧ x.a2 ≤ IntKind.i64.max) ∧ (IntKind.i64.min ≤ x.a3 ∧ x.a3 ≤ IntKind.i64.max)
theorem el1 {H : Type} {enc : TypeId × Value → H} {w : World} {cs : List Value} (hl : cs.length = 5) (h : Trd enc Try.prog w 50 cs) : ∃ x : RC, DecL w cs (E_iiiib.cel x) ∧ el1R x := by
 have h0 := ZnV (by kernel_rfl : Try.prog.cellsOf 50 = 5) hl h
 have h1 := Zb4 0 1 5 Try.underlying50 h0 0 (te := 3) (o' := 0) (by kernel_rfl) rfl (by kernel_rfl) (by kernel_rfl) (by decide)
 obtain ⟨x0, e0, b0⟩ := Zdd Try.underlying3 (by kernel_rfl) h1
 have h2 := Zb4 1 1 5 Try.underlying50 h0 1 (te := 3) (o' := 1) (by kernel_rfl) rfl (by kernel_rfl) (by kernel_rfl) (by decide)
 obtain ⟨x1, e1, b1⟩ := Zdd Try.underlying3 (by kernel_rfl) h2
 have h3 := Zb4 2 1 5 Try.underlying50 h0 2 (te := 3) (o' := 2) (by kernel_rfl) rfl (by kernel_rfl) (by kernel_rfl) (by decide)
 obtain ⟨x2, e2, b2⟩ := Zdd Try.underlying3 (by kernel_rfl) h3
 have h4 := Zb4 3 1 5 Try.underlying50 h0 3 (te := 3) (o' := 3) (by kernel_rfl) rfl (by kernel_rfl) (by kernel_rfl) (by decide)
 obtain ⟨x3, e3, b3⟩ := Zdd Try.underlying3 (by kernel_rfl) h4
 have h5 := Zb4 4 1 5 Try.underlying50 h0 4 (te := 4) (o' := 4) (by kernel_rfl) rfl (by kernel_rfl) (by kernel_rfl) (by decide)
 obtain ⟨x4, e4⟩ := ZoV Try.underlying4 (by kernel_rfl) h5
 refine ⟨(⟨x0, x1, x2, x3, x4⟩ : RC), Zm8 (by rw [hl, Enc.clen]; rfl) (fun j y hy => ?_), ⟨b0, b1, b2, b3⟩⟩
 have := (ZbR (w := w) (k := 0) e0 .i (ZbR (w := w) (k := 1) e1 .i (ZbR (w := w) (k := 2) e2 .i (ZbR (w := w) (k := 3) e3 .i (ZbR (w := w) (k := 4) e4 .b (ZnT (w := w))))))) j y hy
 simpa using this
noncomputable def ZoW : List TypeId := (Try.prog.cellTypes Try.prog.depth 24).getD []
theorem own : ownKnob Try.prog.godebug = none := by kernel_rfl
set_option maxRecDepth 100000 in
theorem lifted (os : Os) (started : os.Started) (H : Type) (enc : TypeId × Value → H) :
  ReturnsInHanded {} Try.checked os 3 .any (Rows.memRunsSpec.pre6 enc Try.prog Try.f3 Rows.memRunsRow.domain false) (Rows.memRunsSpec.post enc Try.prog Try.f3 false true false false) := by
 refine ZnJ (C := Try.checked) own started (by kernel_rfl) Try.func3 rfl rfl Try.underlying4 ?_ (by kernel_rfl) (by kernel_rfl)
  (ChangeSpec.witness6 (enc := enc) (C := Try.checked) false ⟨#[], #[.agg #[.int .i64 0, .int .i64 0, .int .i64 0, .int .i64 0, .int .i64 0, .int .i64 0, .int .i64 0], .int .i64 0, .slice none 0 0], []⟩ 8 (by kernel_rfl) (by kernel_rfl) (by kernel_rfl) (by kernel_rfl)) ?_
 ·intro ds hlen
  have hlen : ds.length = 3 := hlen.trans (by kernel_rfl)
  match ds, hlen with
  | [_, _, _], _ => rfl
 intro W base args ds p hval hA hlt hsz
 rw [Try.params3] at hA hval
 obtain ⟨v0, vs0, d0, ds0, p0, q0, hargs, rfl, rfl, h0, r0⟩ := trodAll_cons hA
 obtain ⟨v1, vs1, d1, ds1, p1, q1, rfl, rfl, rfl, h1, r1⟩ := trodAll_cons r0
 obtain ⟨v2, vs2, d2, ds2, p2, q2, rfl, rfl, rfl, h2, r2⟩ := trodAll_cons r1
 obtain ⟨rfl, rfl, rfl⟩ := trodAll_nil r2
 obtain rfl : args = #[v0, v1, v2] := by cases args; simp_all
 obtain ⟨cs0, rfl, hl0, hc0⟩ := Zll (ts := ZoW) (by kernel_rfl) (by kernel_rfl) (by kernel_rfl) (hval 0 24 v0 rfl rfl)
 obtain ⟨x0, D0, m0⟩ := el0 (show cs0.length = 7 from hl0.trans (by kernel_rfl)) (by have q := Zm9 h0; simp [Value.cells] at q; exact q)
 obtain ⟨z1, rfl, w1⟩ := Znl (k := .i64) (by kernel_rfl) (Znm (by kernel_rfl) (hval 1 3 v1 rfl rfl))
 obtain ⟨a2, l2, c2, rfl⟩ := Go.WideShapes.okWide_slice Try.underlying25 (hval 2 25 v2 rfl rfl)
 obtain ⟨L2, u2, e2, D2, n2, m2⟩ := ZnU (E := E_iiiib) (Q := el1R) Try.underlying25 (by kernel_rfl) (by decide) (fun _ => el1) (Zm9 h2)
 obtain rfl : u2 = .slice a2 l2 c2 := by have := e2; simp [Value.cells] at this; exact this.symm
 exact Zpl (ZhH x0.a0 x0.a1 x0.a2 x0.a3 x0.a4 x0.a5 x0.a6 z1 L2 100000 _ (Mr.runs x0.a0 x0.a1 x0.a2 x0.a3 x0.a4 x0.a5 x0.a6 z1 L2 100000 (by decide))) (Zi9 (show VR (ιMk W) (.agg #[Value.int .i64 x0.a0, Value.int .i64 x0.a1, Value.int .i64 x0.a2, Value.int .i64 x0.a3, Value.int .i64 x0.a4, Value.int .i64 x0.a5, Value.int .i64 x0.a6]) _ from .aggl D0.vr) (Zi9 (.atom rfl) (Zi9 (show VR (ιMk W) (ms E_iiiib L2) _ from D2.vr) ZoO))) rfl
theorem over : Rows.memRunsRow.holds Try.pinned (OpenSpec.ofChange Rows.memRunsSpec) :=
 OpenClaim.holds_of_wide 3 Try.f3 rfl rfl rfl rfl rfl rfl rfl ⟨rfl, rfl, rfl, rfl, rfl⟩ rfl rfl rfl rfl rfl (by kernel_rfl) Try.func3 (by kernel_rfl)
  (of_decide_eq_true (by kernel_rfl)) (by unfold Func.isWrapper; first | (rw [if_pos (by decide +kernel)]; kernel_rfl) | (rw [if_neg (by decide +kernel)]; exact ⟨rfl, rfl⟩))
  (fun os started H enc _ => lifted os started H enc)
theorem proved : Rows.MemRunsSaid := over
#print axioms proved
end MemRuns
end Ev
end Go.Proofs.Ytfbpdjledonagaa
