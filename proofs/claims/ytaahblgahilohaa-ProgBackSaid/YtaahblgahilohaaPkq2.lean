/- Calls do what the plain functions say. -/
import Derived.Test.YtaahblgahilohaaPkq1
namespace Go.Proofs.Ytaahblgahilohaa
open Go.RowKit
namespace Ev
set_option linter.unusedVariables false
set_option maxRecDepth 100000
theorem instr_Decode_3_ok1_1 (L0 : List Int) (n1 n2 v3 v4 v5 : Nat) (v6 v7 v8 v13 : Int) (N : Nat) : (instr_Decode_3M L0 n1 n2 N).Ok Try.prog ext_Pk (.h1m1 v3 v4 v5 v6 v7 v8 v13 : instr_Decode_3X) (instr_Decode_3Step L0 n1 n2 N (.h1m1 v3 v4 v5 v6 v7 v8 v13 : instr_Decode_3X)) := by
 show (instr_Decode_3M L0 n1 n2 N).Ok Try.prog ext_Pk (.h1m1 v3 v4 v5 v6 v7 v8 v13 : instr_Decode_3X) (instr_Decode_3_h1m1 L0 n1 n2 N v3 v4 v5 v6 v7 v8 v13)
 unfold instr_Decode_3_h1m1
 refine Mach.ok_bind (fun z0 c0 => ?_)
 cases z0 with
 | r0 y0_0 =>
  refine Mach.ok_ite (fun g1 => ?_) (fun g1 => ?_)
  ·
   exact Mach.ok_fin (M := instr_Decode_3M L0 n1 n2 N) (cd := 1000000) (cm := 0) (r := (.r0 ((6 : Int)) : instr_Decode_3R)) (fu := 4000) (orc := (orcw [(1, true)] [] [] [] [(0, (instr_shape_widthT0 (v7)  y0_0  3))])) (live := [0]) (u := Value.tuple #[Value.agg #[vq, vq, vq, vq], vn, vi (6 : Int)]) (bl := [some (.cells (rowV (encI .u8) L0) 5)]) (ob := [((decide ((v4 : Int) < y0_0)), true), (dP (instr_shape_widthP0 #[vi v7] (v7)  y0_0  3), true)]) (fun gv => by kernel_rfl) (oY <| obs_cons (dP_of (instr_shape_widthC0 #[vi v7] (v7)  y0_0 N c0  3 rfl (by decide) (by decide))) obs_nil) rfl (by decide) (by rfl) rr ⟨(same_row (E := (encI .u8)) (α := Int) _ L0 _), trivial⟩
  ·
   refine Mach.ok_bind (fun z2 c2 => ?_)
   cases z2 with
   | r0 y2_0 =>
    refine Mach.ok_ite (fun g3 => ?_) (fun g3 => ?_)
    ·
     refine Mach.ok_ite (fun g4 => ?_) (fun g4 => ?_)
     ·
      refine Mach.ok_bind (fun z5 c5 => ?_)
      cases z5 with
      | r0 y5_0 =>
       refine Mach.ok_bind (fun z6 c6 => ?_)
       cases z6 with
       | r0 y6_0 =>
        refine Mach.ok_ite (fun g7 => ?_) (fun g7 => ?_)
        ·
         refine Mach.ok_ite (fun g8 => ?_) (fun g8 => ?_)
         ·
          refine Mach.ok_ite (fun g9 => ?_) (fun g9 => ?_)
          ·
           exact Mach.ok_next (M := instr_Decode_3M L0 n1 n2 N) (cd := 1000000) (cm := 0) (y := (.h1m2 (((y6_0).toNat + v3)) ((v4 - (y6_0).toNat)) ((v5 - (y6_0).toNat)) (v6) (v7) (v8) (v13) (y5_0) : instr_Decode_3X)) (fu := 4000) (orc := (orcw [(1, false)] [] [] [] [(0, (instr_shape_widthT0 (v7)  y0_0  3)), (1, (instr_shape_widthT0 (v7)  y2_0  3)), (2, .sl 0 (y2_0).toNat), (3, (instr_joinT0 (L0) (v3) (((y2_0).toNat - 0)) ((v5 - 0))  y5_0 0 3)), (4, (instr_shape_widthT0 (v7)  y6_0  3)), (5, .sl (y6_0).toNat v4)])) (live := [0, 1, 2]) (tv := fun _ => [some (vs 0 0 n1 n2), some (vp 1 0), some (vp 2 0), some (Value.slice (some ⟨0, (v3 + ((y6_0).toNat * 1)), none⟩) (v4 - (y6_0).toNat) (v5 - (y6_0).toNat)), some (Value.agg #[vi v6, vi v7, vi v8]), some (vi (2 : Int))]) (bl := [some (.cells (rowV (encI .u8) L0) 5), some (.cells [vq, vq, vq, vq] 38), some (.cells [vi v13, vi y5_0, vq] 51)]) (ob := [(dP ((y6_0).toNat ≤ v4 ∧ v4 ≤ v5), true), (dS v4, true), (y6_0 == Int.ofNat (y6_0).toNat, true), (dP (instr_shape_widthP0 #[vi v7] (v7)  y6_0  3), true), (dP (instr_joinP0 #[Value.slice (some ⟨0, (v3 + (0 * 1)), none⟩) ((y2_0).toNat - 0) (v5 - 0)] (L0) (v3) (((y2_0).toNat - 0)) ((v5 - 0))  y5_0 0 3), true), (dS (rowV (encI .u8) L0), true), (dP (0 ≤ (y2_0).toNat ∧ (y2_0).toNat ≤ v5), true), (y2_0 == Int.ofNat (y2_0).toNat, true), (dS 0, true), (dP (instr_shape_widthP0 #[vi v7] (v7)  y2_0  3), true), ((decide ((v4 : Int) < y0_0)), false), (dP (instr_shape_widthP0 #[vi v7] (v7)  y0_0  3), true)]) rfl (show 1 ∈ rids (instr_Decode_3K 1) from by decide +kernel) (fun gv => by kernel_rfl) (obs_cons (dP_of ⟨ltA, ltA⟩) <| oR <| oI <| obs_cons (dP_of (instr_shape_widthC0 #[vi v7] (v7)  y6_0 N c6  3 rfl (by decide) (by decide))) <| obs_cons (dP_of (instr_joinC0 #[Value.slice (some ⟨0, (v3 + (0 * 1)), none⟩) ((y2_0).toNat - 0) (v5 - 0)] (L0) (v3) (((y2_0).toNat - 0)) ((v5 - 0))  y5_0 N c5 0 3 (array_eq (cons_eq (slice_eq eqA rfl rfl) rfl)) (by decide) (by decide))) <| oR <| obs_cons (dP_of ⟨ltA, ltA⟩) <| oI <| oR <| obs_cons (dP_of (instr_shape_widthC0 #[vi v7] (v7)  y2_0 N c2  3 rfl (by decide) (by decide))) <| oN <| obs_cons (dP_of (instr_shape_widthC0 #[vi v7] (v7)  y0_0 N c0  3 rfl (by decide) (by decide))) obs_nil) rfl (by decide) (by rfl) (fun _ => ⟨rr, ⟨rr, ⟨rr, ⟨⟨Eq.trans (show (Value.slice (some ⟨0, ((y6_0).toNat + v3), none⟩) (v4 - (y6_0).toNat) (v5 - (y6_0).toNat) : Value) = Value.slice (some ⟨0, (v3 + ((y6_0).toNat * 1)), none⟩) (v4 - (y6_0).toNat) (v5 - (y6_0).toNat) from (slice_eq eqA rfl rfl)) (by rfl), by rfl⟩, ⟨rr, ⟨rr, trivial⟩⟩⟩⟩⟩⟩) ⟨(same_row (E := (encI .u8)) (α := Int) _ L0 _), ⟨⟨rfl, ⟨[], by rfl⟩, by rfl⟩, ⟨⟨rfl, ⟨[], by rfl⟩, by rfl⟩, trivial⟩⟩⟩
          ·
           exact Mach.ok_none
         ·
          exact Mach.ok_none
        ·
         exact Mach.ok_none
     ·
      exact Mach.ok_none
    ·
     exact Mach.ok_none

theorem instr_Decode_3_ok1_2 (L0 : List Int) (n1 n2 v3 v4 v5 : Nat) (v6 v7 v8 v13 v14 : Int) (N : Nat) : (instr_Decode_3M L0 n1 n2 N).Ok Try.prog ext_Pk (.h1m2 v3 v4 v5 v6 v7 v8 v13 v14 : instr_Decode_3X) (instr_Decode_3Step L0 n1 n2 N (.h1m2 v3 v4 v5 v6 v7 v8 v13 v14 : instr_Decode_3X)) := by
 show (instr_Decode_3M L0 n1 n2 N).Ok Try.prog ext_Pk (.h1m2 v3 v4 v5 v6 v7 v8 v13 v14 : instr_Decode_3X) (instr_Decode_3_h1m2 L0 n1 n2 N v3 v4 v5 v6 v7 v8 v13 v14)
 unfold instr_Decode_3_h1m2
 refine Mach.ok_bind (fun z0 c0 => ?_)
 cases z0 with
 | r0 y0_0 =>
  refine Mach.ok_ite (fun g1 => ?_) (fun g1 => ?_)
  ·
   exact Mach.ok_fin (M := instr_Decode_3M L0 n1 n2 N) (cd := 1000000) (cm := 0) (r := (.r0 ((6 : Int)) : instr_Decode_3R)) (fu := 4000) (orc := (orcw [(1, true)] [] [] [] [(0, (instr_shape_widthT0 (v8)  y0_0  3))])) (live := [0]) (u := Value.tuple #[Value.agg #[vq, vq, vq, vq], vn, vi (6 : Int)]) (bl := [some (.cells (rowV (encI .u8) L0) 5)]) (ob := [((decide ((v4 : Int) < y0_0)), true), (dP (instr_shape_widthP0 #[vi v8] (v8)  y0_0  3), true)]) (fun gv => by kernel_rfl) (oY <| obs_cons (dP_of (instr_shape_widthC0 #[vi v8] (v8)  y0_0 N c0  3 rfl (by decide) (by decide))) obs_nil) rfl (by decide) (by rfl) rr ⟨(same_row (E := (encI .u8)) (α := Int) _ L0 _), trivial⟩
  ·
   refine Mach.ok_bind (fun z2 c2 => ?_)
   cases z2 with
   | r0 y2_0 =>
    refine Mach.ok_ite (fun g3 => ?_) (fun g3 => ?_)
    ·
     refine Mach.ok_ite (fun g4 => ?_) (fun g4 => ?_)
     ·
      refine Mach.ok_bind (fun z5 c5 => ?_)
      cases z5 with
      | r0 y5_0 =>
       refine Mach.ok_bind (fun z6 c6 => ?_)
       cases z6 with
       | r0 y6_0 =>
        refine Mach.ok_ite (fun g7 => ?_) (fun g7 => ?_)
        ·
         refine Mach.ok_ite (fun g8 => ?_) (fun g8 => ?_)
         ·
          refine Mach.ok_ite (fun g9 => ?_) (fun g9 => ?_)
          ·
           exact Mach.ok_next (M := instr_Decode_3M L0 n1 n2 N) (cd := 1000000) (cm := 0) (y := (.h1m3 (((y6_0).toNat + v3)) ((v4 - (y6_0).toNat)) ((v5 - (y6_0).toNat)) (v6) (v7) (v8) (v13) (v14) (y5_0) : instr_Decode_3X)) (fu := 4000) (orc := (orcw [(1, false)] [] [] [] [(0, (instr_shape_widthT0 (v8)  y0_0  3)), (1, (instr_shape_widthT0 (v8)  y2_0  3)), (2, .sl 0 (y2_0).toNat), (3, (instr_joinT0 (L0) (v3) (((y2_0).toNat - 0)) ((v5 - 0))  y5_0 0 3)), (4, (instr_shape_widthT0 (v8)  y6_0  3)), (5, .sl (y6_0).toNat v4)])) (live := [0, 1, 2]) (tv := fun _ => [some (vs 0 0 n1 n2), some (vp 1 0), some (vp 2 0), some (Value.slice (some ⟨0, (v3 + ((y6_0).toNat * 1)), none⟩) (v4 - (y6_0).toNat) (v5 - (y6_0).toNat)), some (Value.agg #[vi v6, vi v7, vi v8]), some (vi (3 : Int))]) (bl := [some (.cells (rowV (encI .u8) L0) 5), some (.cells [vq, vq, vq, vq] 38), some (.cells [vi v13, vi v14, vi y5_0] 51)]) (ob := [(dP ((y6_0).toNat ≤ v4 ∧ v4 ≤ v5), true), (dS v4, true), (y6_0 == Int.ofNat (y6_0).toNat, true), (dP (instr_shape_widthP0 #[vi v8] (v8)  y6_0  3), true), (dP (instr_joinP0 #[Value.slice (some ⟨0, (v3 + (0 * 1)), none⟩) ((y2_0).toNat - 0) (v5 - 0)] (L0) (v3) (((y2_0).toNat - 0)) ((v5 - 0))  y5_0 0 3), true), (dS (rowV (encI .u8) L0), true), (dP (0 ≤ (y2_0).toNat ∧ (y2_0).toNat ≤ v5), true), (y2_0 == Int.ofNat (y2_0).toNat, true), (dS 0, true), (dP (instr_shape_widthP0 #[vi v8] (v8)  y2_0  3), true), ((decide ((v4 : Int) < y0_0)), false), (dP (instr_shape_widthP0 #[vi v8] (v8)  y0_0  3), true)]) rfl (show 1 ∈ rids (instr_Decode_3K 1) from by decide +kernel) (fun gv => by kernel_rfl) (obs_cons (dP_of ⟨ltA, ltA⟩) <| oR <| oI <| obs_cons (dP_of (instr_shape_widthC0 #[vi v8] (v8)  y6_0 N c6  3 rfl (by decide) (by decide))) <| obs_cons (dP_of (instr_joinC0 #[Value.slice (some ⟨0, (v3 + (0 * 1)), none⟩) ((y2_0).toNat - 0) (v5 - 0)] (L0) (v3) (((y2_0).toNat - 0)) ((v5 - 0))  y5_0 N c5 0 3 (array_eq (cons_eq (slice_eq eqA rfl rfl) rfl)) (by decide) (by decide))) <| oR <| obs_cons (dP_of ⟨ltA, ltA⟩) <| oI <| oR <| obs_cons (dP_of (instr_shape_widthC0 #[vi v8] (v8)  y2_0 N c2  3 rfl (by decide) (by decide))) <| oN <| obs_cons (dP_of (instr_shape_widthC0 #[vi v8] (v8)  y0_0 N c0  3 rfl (by decide) (by decide))) obs_nil) rfl (by decide) (by rfl) (fun _ => ⟨rr, ⟨rr, ⟨rr, ⟨⟨Eq.trans (show (Value.slice (some ⟨0, ((y6_0).toNat + v3), none⟩) (v4 - (y6_0).toNat) (v5 - (y6_0).toNat) : Value) = Value.slice (some ⟨0, (v3 + ((y6_0).toNat * 1)), none⟩) (v4 - (y6_0).toNat) (v5 - (y6_0).toNat) from (slice_eq eqA rfl rfl)) (by rfl), by rfl⟩, ⟨rr, ⟨rr, trivial⟩⟩⟩⟩⟩⟩) ⟨(same_row (E := (encI .u8)) (α := Int) _ L0 _), ⟨⟨rfl, ⟨[], by rfl⟩, by rfl⟩, ⟨⟨rfl, ⟨[], by rfl⟩, by rfl⟩, trivial⟩⟩⟩
          ·
           exact Mach.ok_none
         ·
          exact Mach.ok_none
        ·
         exact Mach.ok_none
     ·
      exact Mach.ok_none
    ·
     exact Mach.ok_none

theorem instr_Decode_3_ok1_3 (L0 : List Int) (n1 n2 v3 v4 v5 : Nat) (v6 v7 v8 v13 v14 v15 : Int) (N : Nat) : (instr_Decode_3M L0 n1 n2 N).Ok Try.prog ext_Pk (.h1m3 v3 v4 v5 v6 v7 v8 v13 v14 v15 : instr_Decode_3X) (instr_Decode_3Step L0 n1 n2 N (.h1m3 v3 v4 v5 v6 v7 v8 v13 v14 v15 : instr_Decode_3X)) := by
 show (instr_Decode_3M L0 n1 n2 N).Ok Try.prog ext_Pk (.h1m3 v3 v4 v5 v6 v7 v8 v13 v14 v15 : instr_Decode_3X) (instr_Decode_3_h1m3 L0 n1 n2 N v3 v4 v5 v6 v7 v8 v13 v14 v15)
 unfold instr_Decode_3_h1m3
 refine Mach.ok_ite (fun g0 => ?_) (fun g0 => ?_)
 ·
  refine Mach.ok_ite (fun g1 => ?_) (fun g1 => ?_)
  ·
   refine Mach.ok_ite (fun g2 => ?_) (fun g2 => ?_)
   ·
    refine Mach.ok_ite (fun g3 => ?_) (fun g3 => ?_)
    ·
     refine Mach.ok_bind (fun z4 c4 => ?_)
     cases z4 with
     | r0 y4_0 =>
      refine Mach.ok_ite (fun g5 => ?_) (fun g5 => ?_)
      ·
       exact Mach.ok_fin (M := instr_Decode_3M L0 n1 n2 N) (cd := 1000000) (cm := 0) (r := (.r0 (y4_0) : instr_Decode_3R)) (fu := 4000) (orc := (orcw [(1, true)] [(0, (L0.getD 0 0))] [(0, 0)] [(0, [.k .u8 (L0.getD 0 0)])] [(1, (instr_CheckT0 ((L0.getD 0 0)) (v13) (v14) (v15)  y4_0  4))])) (live := [0]) (u := Value.tuple #[Value.agg #[vq, vq, vq, vq], vn, vi y4_0]) (bl := [some (.cells (rowV (encI .u8) L0) 5)]) (ob := [((y4_0 != (0 : Int)), true), (dP (instr_CheckP0 #[Value.agg #[vi (L0.getD 0 0), vi v13, vi v14, vi v15]] ((L0.getD 0 0)) (v13) (v14) (v15)  y4_0  4), true), ((IntKind.i64.wrap (L0.getD 0 0)) == (L0.getD 0 0), true), (sameR (takeN 1 (List.drop (0 + (0 * 1)) (rowV (encI .u8) L0))) [.k .u8 (L0.getD 0 0)], true), (Nat.blt 0 n1, true), ((0 : Int) == Int.ofNat 0, true)]) (fun gv => by kernel_rfl) (oD <| obs_cons (dP_of (instr_CheckC0 #[Value.agg #[vi (L0.getD 0 0), vi v13, vi v14, vi v15]] ((L0.getD 0 0)) (v13) (v14) (v15)  y4_0 N c4  4 rfl (by decide) (by decide))) <| obs_cons (beq_iff_eq.2 (wrap_i64 ltA)) <| obs_cons (rowV_load (E := (encI .u8)) (L := L0) (i := 0) (q := 0) (by omega) (show (0 + (0 * 1)) = 0 * 1 + 0 from by omega) (show 0 + 1 ≤ 1 from by decide) rfl rfl) <| oB <| oI obs_nil) rfl (by decide) (by rfl) rr ⟨(same_row (E := (encI .u8)) (α := Int) _ L0 _), trivial⟩
      ·
       refine Mach.ok_ite (fun g6 => ?_) (fun g6 => ?_)
       ·
        exact Mach.ok_fin (M := instr_Decode_3M L0 n1 n2 N) (cd := 1000000) (cm := 0) (r := (.r1 (v13) (v14) (v15) (([] : List Int)) : instr_Decode_3R)) (fu := 4000) (orc := (orcw [(1, false)] [(0, (L0.getD 0 0))] [(0, 0)] [(0, [.k .u8 (L0.getD 0 0)])] [(1, (instr_CheckT0 ((L0.getD 0 0)) (v13) (v14) (v15)  y4_0  4)), (2, .ap0)])) (live := [0, 4]) (u := Value.tuple #[Value.agg #[vi (L0.getD 0 0), vi v13, vi v14, vi v15], vs 4 0 0 0, vq]) (bl := [some (.cells (rowV (encI .u8) L0) 5), some (.cells [] 5)]) (ob := [(dP (0 = v4 ∧ takeN (v4 * 1) (List.drop v3 (rowV (encI .u8) L0)) = some [] ∧ allB cell1 [] = true), true), ((y4_0 != (0 : Int)), false), (dP (instr_CheckP0 #[Value.agg #[vi (L0.getD 0 0), vi v13, vi v14, vi v15]] ((L0.getD 0 0)) (v13) (v14) (v15)  y4_0  4), true), ((IntKind.i64.wrap (L0.getD 0 0)) == (L0.getD 0 0), true), (sameR (takeN 1 (List.drop (0 + (0 * 1)) (rowV (encI .u8) L0))) [.k .u8 (L0.getD 0 0)], true), (Nat.blt 0 n1, true), ((0 : Int) == Int.ofNat 0, true)]) (fun gv => by kernel_rfl) (obs_cons (dP_of ⟨by omega, by rw [show v4 = 0 by omega]; rfl, rfl⟩) <| oE <| obs_cons (dP_of (instr_CheckC0 #[Value.agg #[vi (L0.getD 0 0), vi v13, vi v14, vi v15]] ((L0.getD 0 0)) (v13) (v14) (v15)  y4_0 N c4  4 rfl (by decide) (by decide))) <| obs_cons (beq_iff_eq.2 (wrap_i64 ltA)) <| obs_cons (rowV_load (E := (encI .u8)) (L := L0) (i := 0) (q := 0) (by omega) (show (0 + (0 * 1)) = 0 * 1 + 0 from by omega) (show 0 + 1 ≤ 1 from by decide) rfl rfl) <| oB <| oI obs_nil) rfl (by decide) (by rfl) ⟨Eq.trans (show (Value.tuple #[Value.agg #[vi (L0.getD 0 0), vi v13, vi v14, vi v15], vs 1 0 ([] : List Int).length ([] : List Int).length, vq] : Value) = Value.tuple #[Value.agg #[vi (L0.getD 0 0), vi v13, vi v14, vi v15], vs 1 0 0 0, vq] from (tuple_eq (cons_eq rfl (cons_eq (slice_eq rfl eqA eqA) (cons_eq rfl rfl))))) (by rfl), by rfl⟩ ⟨(same_row (E := (encI .u8)) (α := Int) _ L0 _), ⟨(same_cells (E := (encI .u8)) _ (L := ([] : List Int)) _ (show ([] : List Value) = rowV (encI .u8) ([] : List Int) from rfl)), trivial⟩⟩
       ·
        refine Mach.ok_ite (fun g7 => ?_) (fun g7 => ?_)
        ·
         refine Mach.ok_ite (fun g8 => ?_) (fun g8 => ?_)
         ·
          exact Mach.ok_fin (M := instr_Decode_3M L0 n1 n2 N) (cd := 1000000) (cm := 0) (r := (.r1 (v13) (v14) (v15) (((L0.drop v3).take v4)) : instr_Decode_3R)) (fu := 4000) (orc := (orcw [(1, false)] [(0, (L0.getD 0 0))] [(0, 0)] [(0, [.k .u8 (L0.getD 0 0)])] [(1, (instr_CheckT0 ((L0.getD 0 0)) (v13) (v14) (v15)  y4_0  4)), (2, .ap v4 (rowV (encI .u8) ((L0.drop v3).take v4)) (rowV (encI .u8) ((L0.drop v3).take v4)))])) (live := [0, 5]) (u := Value.tuple #[Value.agg #[vi (L0.getD 0 0), vi v13, vi v14, vi v15], vs 5 0 (0 + v4) (0 + v4), vq]) (bl := [some (.cells (rowV (encI .u8) L0) 5), some (.cells (rowV (encI .u8) ((L0.drop v3).take v4)) 5)]) (ob := [(dP ((v4 = v4 ∧ takeN (v4 * 1) (List.drop v3 (rowV (encI .u8) L0)) = some (rowV (encI .u8) ((L0.drop v3).take v4)) ∧ allB cell1 (rowV (encI .u8) ((L0.drop v3).take v4)) = true) ∧ 0 < v4 ∧ v4 ≤ 100000 ∧ 0 < 0 + v4 ∧ 0 ≤ 100000 ∧ 0 * 1 ≤ (List.length []) ∧ List.take (0 * 1) [] ++ (rowV (encI .u8) ((L0.drop v3).take v4)) = (rowV (encI .u8) ((L0.drop v3).take v4))), true), ((y4_0 != (0 : Int)), false), (dP (instr_CheckP0 #[Value.agg #[vi (L0.getD 0 0), vi v13, vi v14, vi v15]] ((L0.getD 0 0)) (v13) (v14) (v15)  y4_0  4), true), ((IntKind.i64.wrap (L0.getD 0 0)) == (L0.getD 0 0), true), (sameR (takeN 1 (List.drop (0 + (0 * 1)) (rowV (encI .u8) L0))) [.k .u8 (L0.getD 0 0)], true), (Nat.blt 0 n1, true), ((0 : Int) == Int.ofNat 0, true)]) (fun gv => by kernel_rfl) (obs_cons (dP_of ⟨⟨rfl, (src_row (E := (encI .u8)) (L := L0) (a := v3) (n := v4) (by omega) (by show _ = _ * 1; omega) (show _ = _ * 1 from rfl) rfl)⟩, by omega, by omega, ltA, by omega, (rowV_dst (E := (encI .u8)) (L := ([] : List Int)) (M := ((L0.drop v3).take v4)) (n := 0) (show _ = _ * 1 from rfl) ltA (R := ((L0.drop v3).take v4)) (by rw [List.take_of_length_le ltA]; rfl))⟩) <| oE <| obs_cons (dP_of (instr_CheckC0 #[Value.agg #[vi (L0.getD 0 0), vi v13, vi v14, vi v15]] ((L0.getD 0 0)) (v13) (v14) (v15)  y4_0 N c4  4 rfl (by decide) (by decide))) <| obs_cons (beq_iff_eq.2 (wrap_i64 ltA)) <| obs_cons (rowV_load (E := (encI .u8)) (L := L0) (i := 0) (q := 0) (by omega) (show (0 + (0 * 1)) = 0 * 1 + 0 from by omega) (show 0 + 1 ≤ 1 from by decide) rfl rfl) <| oB <| oI obs_nil) rfl (by decide) (by rfl) ⟨Eq.trans (show (Value.tuple #[Value.agg #[vi (L0.getD 0 0), vi v13, vi v14, vi v15], vs 1 0 ((L0.drop v3).take v4).length ((L0.drop v3).take v4).length, vq] : Value) = Value.tuple #[Value.agg #[vi (L0.getD 0 0), vi v13, vi v14, vi v15], vs 1 0 (0 + v4) (0 + v4), vq] from (tuple_eq (cons_eq rfl (cons_eq (slice_eq rfl eqA eqA) (cons_eq rfl rfl))))) (by rfl), by rfl⟩ ⟨(same_row (E := (encI .u8)) (α := Int) _ L0 _), ⟨(same_row (E := (encI .u8)) (α := Int) _ ((L0.drop v3).take v4) _), trivial⟩⟩
         ·
          exact Mach.ok_none
        ·
         exact Mach.ok_none
    ·
     exact Mach.ok_none
   ·
    exact Mach.ok_none
  ·
   exact Mach.ok_none
 ·
  exact Mach.ok_none

theorem instr_Decode_3_en (L0 : List Int) (n1 n2 N : Nat) : (instr_Decode_3M L0 n1 n2 N).Enter Try.prog ext_Pk #[vs 0 0 n1 n2] (instr_Decode_3In L0 n1 n2 N) := by
 unfold instr_Decode_3In
 refine Mach.en_ite (fun g0 => ?_) (fun g0 => ?_)
 ·
  exact Mach.en_fin (M := instr_Decode_3M L0 n1 n2 N) (cd := 1000000) (cm := 0) (r := (.r0 ((6 : Int)) : instr_Decode_3R)) (fu := 4000) (orc := (orcw [(0, true)] [] [] [] [])) (live := [0]) (u := Value.tuple #[Value.agg #[vq, vq, vq, vq], vn, vi (6 : Int)]) (bl := [some (.cells (rowV (encI .u8) L0) 5)]) (ob := [(((n1 : Int) == (0 : Int)), true)]) (by kernel_rfl) (oT obs_nil) rfl (by decide) (by rfl) rr ⟨(same_row (E := (encI .u8)) (α := Int) _ L0 _), trivial⟩
 ·
  refine Mach.en_ite (fun g1 => ?_) (fun g1 => ?_)
  ·
   refine Mach.en_ite (fun g2 => ?_) (fun g2 => ?_)
   ·
    refine Mach.en_ite (fun g3 => ?_) (fun g3 => ?_)
    ·
     refine Mach.en_bind (fun z4 c4 => ?_)
     cases z4 with
     | r0 y4_0 y4_1 y4_2 y4_3 =>
      refine Mach.en_ite (fun g5 => ?_) (fun g5 => ?_)
      ·
       exact Mach.en_fin (M := instr_Decode_3M L0 n1 n2 N) (cd := 1000000) (cm := 0) (r := (.r0 ((100 : Int)) : instr_Decode_3R)) (fu := 4000) (orc := (orcw [(0, false), (1, true)] [(0, (L0.getD 0 0))] [(0, 0)] [(0, [.k .u8 (L0.getD 0 0)])] [(0, (instr_kind_2T0 ((L0.getD 0 0))  y4_0 y4_1 y4_2 y4_3  2))])) (live := [0]) (u := Value.tuple #[Value.agg #[vq, vq, vq, vq], vn, vi (100 : Int)]) (bl := [some (.cells (rowV (encI .u8) L0) 5)]) (ob := [(((strOf y4_0).toList == (⟨#[]⟩ : ByteArray).toList), true), (dP (instr_kind_2P0 #[vi (L0.getD 0 0)] ((L0.getD 0 0))  y4_0 y4_1 y4_2 y4_3  2), true), ((IntKind.i64.wrap (L0.getD 0 0)) == (L0.getD 0 0), true), (sameR (takeN 1 (List.drop (0 + (0 * 1)) (rowV (encI .u8) L0))) [.k .u8 (L0.getD 0 0)], true), (Nat.blt 0 n1, true), ((0 : Int) == Int.ofNat 0, true), (((n1 : Int) == (0 : Int)), false)]) (by kernel_rfl) (obs_cons (strB_t (x := y4_0) (y := ([] : List Int)) (by assumption)) <| obs_cons (dP_of (instr_kind_2C0 #[vi (L0.getD 0 0)] ((L0.getD 0 0))  y4_0 y4_1 y4_2 y4_3 N c4  2 rfl (by decide) (by decide))) <| obs_cons (beq_iff_eq.2 (wrap_i64 ltA)) <| obs_cons (rowV_load (E := (encI .u8)) (L := L0) (i := 0) (q := 0) (by omega) (show (0 + (0 * 1)) = 0 * 1 + 0 from by omega) (show 0 + 1 ≤ 1 from by decide) rfl rfl) <| oB <| oI <| oF obs_nil) rfl (by decide) (by rfl) rr ⟨(same_row (E := (encI .u8)) (α := Int) _ L0 _), trivial⟩
      ·
       refine Mach.en_ite (fun g6 => ?_) (fun g6 => ?_)
       ·
        exact Mach.en_head (bK := instr_Decode_3C 1) (M := instr_Decode_3M L0 n1 n2 N) (cd := 1000000) (cm := 0) (y := (.h1m0 (y4_1) (y4_2) (y4_3) : instr_Decode_3X)) (fu := 4000) (orc := (orcw [(0, false), (1, false)] [(0, (L0.getD 0 0))] [(0, 0)] [(0, [.k .u8 (L0.getD 0 0)])] [(0, (instr_kind_2T0 ((L0.getD 0 0))  y4_0 y4_1 y4_2 y4_3  2)), (2, .sl 1 n1)])) (live := [0, 1, 3]) (tv := [some (vs 0 0 n1 n2), some (vp 1 0), some (vp 3 0), some (Value.slice (some ⟨0, (0 + (1 * 1)), none⟩) (n1 - 1) (n2 - 1)), some (Value.agg #[vi y4_1, vi y4_2, vi y4_3]), some (vq)]) (bl := [some (.cells (rowV (encI .u8) L0) 5), some (.cells [vq, vq, vq, vq] 38), some (.cells [vq, vq, vq] 51)]) (ob := [(dP (1 ≤ n1 ∧ n1 ≤ n2), true), (dS n1, true), ((1 : Int) == Int.ofNat 1, true), (((strOf y4_0).toList == (⟨#[]⟩ : ByteArray).toList), false), (dP (instr_kind_2P0 #[vi (L0.getD 0 0)] ((L0.getD 0 0))  y4_0 y4_1 y4_2 y4_3  2), true), ((IntKind.i64.wrap (L0.getD 0 0)) == (L0.getD 0 0), true), (sameR (takeN 1 (List.drop (0 + (0 * 1)) (rowV (encI .u8) L0))) [.k .u8 (L0.getD 0 0)], true), (Nat.blt 0 n1, true), ((0 : Int) == Int.ofNat 0, true), (((n1 : Int) == (0 : Int)), false)]) rfl rfl (show rids (instr_Decode_3C 1).2 = [] from rfl) (by kernel_rfl) (obs_cons (dP_of ⟨ltA, ltA⟩) <| oR <| oI <| obs_cons (strB_f (x := y4_0) (y := ([] : List Int)) (by assumption)) <| obs_cons (dP_of (instr_kind_2C0 #[vi (L0.getD 0 0)] ((L0.getD 0 0))  y4_0 y4_1 y4_2 y4_3 N c4  2 rfl (by decide) (by decide))) <| obs_cons (beq_iff_eq.2 (wrap_i64 ltA)) <| obs_cons (rowV_load (E := (encI .u8)) (L := L0) (i := 0) (q := 0) (by omega) (show (0 + (0 * 1)) = 0 * 1 + 0 from by omega) (show 0 + 1 ≤ 1 from by decide) rfl rfl) <| oB <| oI <| oF obs_nil) rfl (by decide) (by rfl) ⟨rr, ⟨rr, ⟨rr, ⟨⟨Eq.trans (show (vs 0 1 (n1 - 1) (n2 - 1) : Value) = Value.slice (some ⟨0, (0 + (1 * 1)), none⟩) (n1 - 1) (n2 - 1) from (slice_eq eqA rfl rfl)) (by rfl), by rfl⟩, ⟨rr, ⟨rr, trivial⟩⟩⟩⟩⟩⟩ ⟨(same_row (E := (encI .u8)) (α := Int) _ L0 _), ⟨⟨rfl, ⟨[], by rfl⟩, by rfl⟩, ⟨⟨rfl, ⟨[], by rfl⟩, by rfl⟩, trivial⟩⟩⟩
       ·
        exact Mach.en_none
    ·
     exact Mach.en_none
   ·
    exact Mach.en_none
  ·
   exact Mach.en_none

theorem instr_Decode_3_spec (L0 : List Int) (n1 n2 N : Nat) (r : instr_Decode_3R) (h : instr_Decode_3 L0 n1 n2 N = some r) : LSpec Try.prog 18 #[vs 0 0 n1 n2] [.cells (rowV (encI .u8) L0) 5] (instr_Decode_3V L0 n1 n2 r) (instr_Decode_3Po L0 n1 n2 r) :=
 Mach.spec fit_Pk (instr_Decode_3M L0 n1 n2 N) Try.func18 (by kernel_rfl) (by kernel_rfl) (fun x => by cases x <;> exact le_far _ rfl) (fun r => by cases r <;> exact le_far _ rfl) (fun x => by
  cases x with
  | h1m0 _ _ _ => exact fun _ => (show ¬ (1 ∈ rids (instr_Decode_3C 1).2) from by decide +kernel)
  | h1m1 _ _ _ _ _ _ _ => exact fun _ => (show ¬ (1 ∈ rids (instr_Decode_3C 1).2) from by decide +kernel)
  | h1m2 _ _ _ _ _ _ _ _ => exact fun _ => (show ¬ (1 ∈ rids (instr_Decode_3C 1).2) from by decide +kernel)
  | h1m3 _ _ _ _ _ _ _ _ _ => exact fun _ => (show ¬ (1 ∈ rids (instr_Decode_3C 1).2) from by decide +kernel)
  ) (fun x => (show (instr_Decode_3M L0 n1 n2 N).Ok Try.prog ext_Pk x (instr_Decode_3Step L0 n1 n2 N x) from by
  cases x with
  | h1m0 v6 v7 v8 => exact instr_Decode_3_ok1_0 L0 n1 n2 v6 v7 v8 N
  | h1m1 v3 v4 v5 v6 v7 v8 v13 => exact instr_Decode_3_ok1_1 L0 n1 n2 v3 v4 v5 v6 v7 v8 v13 N
  | h1m2 v3 v4 v5 v6 v7 v8 v13 v14 => exact instr_Decode_3_ok1_2 L0 n1 n2 v3 v4 v5 v6 v7 v8 v13 v14 N
  | h1m3 v3 v4 v5 v6 v7 v8 v13 v14 v15 => exact instr_Decode_3_ok1_3 L0 n1 n2 v3 v4 v5 v6 v7 v8 v13 v14 v15 N
  )) (instr_Decode_3_en L0 n1 n2 N) (n := N) h

noncomputable def instr_Decode_3T0 (L0 : List Int) (n1 n2 : Nat) (w5 : Int) (k0 n : Nat) : Told := .call [(k0, .cells (rowV (encI .u8) L0) 5)] (Value.tuple #[Value.agg #[vq, vq, vq, vq], vn, vi w5]) [] 0
def instr_Decode_3P0 (A : Array Value) (L0 : List Int) (n1 n2 : Nat) (w5 : Int) (k0 n : Nat) : Prop := CallSpec Try.prog 18 A [(k0, .cells (rowV (encI .u8) L0) 5)] (Value.tuple #[Value.agg #[vq, vq, vq, vq], vn, vi w5]) [] n 0

theorem instr_Decode_3C0 (A : Array Value) (L0 : List Int) (n1 n2 : Nat) (w5 : Int) (N : Nat) (h : instr_Decode_3 L0 n1 n2 N = some (.r0 w5)) (k0 n : Nat) (hA : A = #[vs k0 0 n1 n2]) (hnd : ([k0] : List Nat).Nodup) (hlt : ∀ k ∈ ([k0] : List Nat), k < n) : instr_Decode_3P0 A L0 n1 n2 w5 k0 n :=
 cs_args hA (LSpec.callL (show LSpec Try.prog 18 #[vs 0 0 n1 n2] [.cells (rowV (encI .u8) L0) 5] (Value.tuple #[Value.agg #[vq, vq, vq, vq], vn, vi w5]) [some (.cells (rowV (encI .u8) L0) 5)] from instr_Decode_3_spec L0 n1 n2 N _ h) [k0] n [] rfl hnd hlt (show 1 ≤ 1 from by decide) (show ∀ j ∈ ([] : List Nat), j < 1 from by decide) (by rfl) ⟨(under_row _ _ _), trivial⟩ (by rfl) ⟨(under_row _ _ _), trivial⟩ ⟨.inr rfl, trivial⟩ rfl rfl rfl (cons_eq (pair_eq rfl (renO_row _ _ _)) rfl) rfl)

noncomputable def instr_Decode_3T1 (L0 : List Int) (n1 n2 : Nat) (w2 w3 w4 : Int) (w5 : List Int) (k0 n : Nat) : Told := .call [(k0, .cells (rowV (encI .u8) L0) 5)] (Value.tuple #[Value.agg #[vi (L0.getD 0 0), vi w2, vi w3, vi w4], vs n 0 w5.length w5.length, vq]) [(n, some (.cells (rowV (encI .u8) w5) 5))] 1
def instr_Decode_3P1 (A : Array Value) (L0 : List Int) (n1 n2 : Nat) (w2 w3 w4 : Int) (w5 : List Int) (k0 n : Nat) : Prop := CallSpec Try.prog 18 A [(k0, .cells (rowV (encI .u8) L0) 5)] (Value.tuple #[Value.agg #[vi (L0.getD 0 0), vi w2, vi w3, vi w4], vs n 0 w5.length w5.length, vq]) [(n, some (.cells (rowV (encI .u8) w5) 5))] n 1

theorem instr_Decode_3C1 (A : Array Value) (L0 : List Int) (n1 n2 : Nat) (w2 w3 w4 : Int) (w5 : List Int) (N : Nat) (h : instr_Decode_3 L0 n1 n2 N = some (.r1 w2 w3 w4 w5)) (k0 n : Nat) (hA : A = #[vs k0 0 n1 n2]) (hnd : ([k0] : List Nat).Nodup) (hlt : ∀ k ∈ ([k0] : List Nat), k < n) : instr_Decode_3P1 A L0 n1 n2 w2 w3 w4 w5 k0 n :=
 cs_args hA (LSpec.callL (show LSpec Try.prog 18 #[vs 0 0 n1 n2] [.cells (rowV (encI .u8) L0) 5] (Value.tuple #[Value.agg #[vi (L0.getD 0 0), vi w2, vi w3, vi w4], vs 1 0 w5.length w5.length, vq]) [some (.cells (rowV (encI .u8) L0) 5), some (.cells (rowV (encI .u8) w5) 5)] from instr_Decode_3_spec L0 n1 n2 N _ h) [k0] n [1] rfl hnd hlt (show 1 ≤ 2 from by decide) (show ∀ j ∈ ([1] : List Nat), j < 2 from by decide) (by rfl) ⟨(under_row _ _ _), trivial⟩ (by rfl) ⟨(under_row _ _ _), ⟨(under_row _ _ _), trivial⟩⟩ ⟨.inr rfl, ⟨(by decide), trivial⟩⟩ rfl rfl rfl (cons_eq (pair_eq rfl (renO_row _ _ _)) rfl) (cons_eq (pair_eq rfl (some_eq (renO_row _ _ _))) rfl))

noncomputable def prog_Decode_2V (L0 : List Int) (n1 n2 : Nat) : prog_Decode_2R → Value
 | .r0 w1 => Value.tuple #[vn, vi w1]
 | .r1 w1 => Value.tuple #[vs 1 0 w1.length w1.length, vq]
noncomputable def prog_Decode_2Po (L0 : List Int) (n1 n2 : Nat) : prog_Decode_2R → List (Option AObj)
 | .r0 w1 => [some (.cells (rowV (encI .u8) L0) 5)]
 | .r1 w1 => [some (.cells (rowV (encI .u8) L0) 5), some (.cells (rowV E_iiii w1) 38)]

def prog_Decode_2Hd : prog_Decode_2X → Nat
 | .h1m0 => 1
 | .h1m1 v1 v3 => 1
 | .h1m2 v1 v2 v4 => 1
noncomputable def prog_Decode_2L (L0 : List Int) (n1 n2 : Nat) : prog_Decode_2X → List (Nat × Value)
 | .h1m0 => [(5, vs 0 6 ((n1 - 1) - 6) (n2 - 6)), (7, vn), (60, vi (IntKind.i64.wrap (((BitVec.ofInt IntKind.i64.bits (IntKind.i64.wrap ((L0.getD 4 0) * (2 ^ 8 : Int))) ||| BitVec.ofInt IntKind.i64.bits (L0.getD 5 0)).toNat : Nat) : Int))), (61, vq)]
 | .h1m1 v1 v3 => [(5, vn), (7, vs 1 0 v1.length v1.length), (60, vi (IntKind.i64.wrap (((BitVec.ofInt IntKind.i64.bits (IntKind.i64.wrap ((L0.getD 4 0) * (2 ^ 8 : Int))) ||| BitVec.ofInt IntKind.i64.bits (L0.getD 5 0)).toNat : Nat) : Int))), (61, vi (v3 : Int))]
 | .h1m2 v1 v2 v4 => [(5, vs 1 0 v1.length v1.length), (7, vs 2 0 v2.length v2.length), (60, vi (IntKind.i64.wrap (((BitVec.ofInt IntKind.i64.bits (IntKind.i64.wrap ((L0.getD 4 0) * (2 ^ 8 : Int))) ||| BitVec.ofInt IntKind.i64.bits (L0.getD 5 0)).toNat : Nat) : Int))), (61, vi (v4 : Int))]
noncomputable def prog_Decode_2H (L0 : List Int) (n1 n2 : Nat) : prog_Decode_2X → List (Option AObj)
 | .h1m0 => [some (.cells (rowV (encI .u8) L0) 5)]
 | .h1m1 v1 v3 => [some (.cells (rowV (encI .u8) L0) 5), some (.cells (rowV E_iiii v1) 38)]
 | .h1m2 v1 v2 v4 => [some (.cells (rowV (encI .u8) L0) 5), some (.cells (rowV (encI .u8) v1) 5), some (.cells (rowV E_iiii v2) 38)]

noncomputable def prog_Decode_2C : Nat → Code × List Kont
 | 1 => headOf [1, 1, 1, 1, 1, 0, 1, 3] (bodyC Try.f8) []
 | _ => (.skip, [])
def prog_Decode_2IL : Nat → Bool
 | 1 => true
 | _ => true
noncomputable def prog_Decode_2K (i : Nat) : List Kont := match prog_Decode_2IL i with | true => .rnd i :: (prog_Decode_2C i).2 | false => (prog_Decode_2C i).2

noncomputable def prog_Decode_2M (L0 : List Int) (n1 n2 N : Nat) : Mach := ⟨Try.f8, [.cells (rowV (encI .u8) L0) 5], prog_Decode_2X, prog_Decode_2R, prog_Decode_2Step L0 n1 n2 N, prog_Decode_2Hd, prog_Decode_2C, prog_Decode_2IL, prog_Decode_2L L0 n1 n2, prog_Decode_2H L0 n1 n2, prog_Decode_2V L0 n1 n2, prog_Decode_2Po L0 n1 n2⟩

theorem prog_Decode_2_ok1_0 (L0 : List Int) (n1 n2 N : Nat) : (prog_Decode_2M L0 n1 n2 N).Ok Try.prog ext_Pk (.h1m0 : prog_Decode_2X) (prog_Decode_2Step L0 n1 n2 N (.h1m0 : prog_Decode_2X)) := by
 show (prog_Decode_2M L0 n1 n2 N).Ok Try.prog ext_Pk (.h1m0 : prog_Decode_2X) (prog_Decode_2_h1m0 L0 n1 n2 N)
 unfold prog_Decode_2_h1m0
 refine Mach.ok_ite (fun g0 => ?_) (fun g0 => ?_)
 ·
  refine Mach.ok_bind (fun z1 c1 => ?_)
  cases z1 with
  | r0 y1_0 =>
   refine Mach.ok_ite (fun g2 => ?_) (fun g2 => ?_)
   ·
    exact Mach.ok_fin (M := prog_Decode_2M L0 n1 n2 N) (cd := 1000000) (cm := 0) (r := (.r0 ((110 : Int)) : prog_Decode_2R)) (fu := 4000) (orc := (orcw [(0, true), (1, true)] [] [] [] [(0, (instr_DecodeT0 (L0) (6) (((n1 - 1) - 6)) ((n2 - 6))  y1_0 0 1))])) (live := [0]) (u := Value.tuple #[vn, vi (110 : Int)]) (bl := [some (.cells (rowV (encI .u8) L0) 5)]) (ob := [((y1_0 != (0 : Int)), true), (dP (instr_DecodeP0 #[vs 0 6 ((n1 - 1) - 6) (n2 - 6)] (L0) (6) (((n1 - 1) - 6)) ((n2 - 6))  y1_0 0 1), true), (dS (rowV (encI .u8) L0), true), ((decide ((0 : Int) < (IntKind.i64.wrap (((BitVec.ofInt IntKind.i64.bits (IntKind.i64.wrap ((L0.getD 4 0) * (2 ^ 8 : Int))) ||| BitVec.ofInt IntKind.i64.bits (L0.getD 5 0)).toNat : Nat) : Int)))), true)]) (fun gv => by kernel_rfl) (oD <| obs_cons (dP_of (instr_DecodeC0 #[vs 0 6 ((n1 - 1) - 6) (n2 - 6)] (L0) (6) (((n1 - 1) - 6)) ((n2 - 6))  y1_0 N c1 0 1 rfl (by decide) (by decide))) <| oR <| oY obs_nil) rfl (by decide) (by rfl) rr ⟨(same_row (E := (encI .u8)) (α := Int) _ L0 _), trivial⟩
   ·
    exact Mach.ok_next (M := prog_Decode_2M L0 n1 n2 N) (cd := 1000000) (cm := 0) (y := (.h1m1 (([(⟨(0 : Int), (0 : Int), (0 : Int), (0 : Int)⟩ : R_iiii)] : List R_iiii)) (1) : prog_Decode_2X)) (fu := 4000) (orc := (orcw [(0, true), (1, false)] [] [] [] [(0, (instr_DecodeT0 (L0) (6) (((n1 - 1) - 6)) ((n2 - 6))  y1_0 0 1))])) (live := [0, 3]) (tv := fun _ => [some (vn), some (vs 3 0 1 1), some (vi (IntKind.i64.wrap (((BitVec.ofInt IntKind.i64.bits (IntKind.i64.wrap ((L0.getD 4 0) * (2 ^ 8 : Int))) ||| BitVec.ofInt IntKind.i64.bits (L0.getD 5 0)).toNat : Nat) : Int))), some (vi (1 : Int))]) (bl := [some (.cells (rowV (encI .u8) L0) 5), some (.cells [vq, vq, vq, vq] 38)]) (ob := [((y1_0 != (0 : Int)), false), (dP (instr_DecodeP0 #[vs 0 6 ((n1 - 1) - 6) (n2 - 6)] (L0) (6) (((n1 - 1) - 6)) ((n2 - 6))  y1_0 0 1), true), (dS (rowV (encI .u8) L0), true), ((decide ((0 : Int) < (IntKind.i64.wrap (((BitVec.ofInt IntKind.i64.bits (IntKind.i64.wrap ((L0.getD 4 0) * (2 ^ 8 : Int))) ||| BitVec.ofInt IntKind.i64.bits (L0.getD 5 0)).toNat : Nat) : Int)))), true)]) rfl (show 1 ∈ rids (prog_Decode_2K 1) from by decide +kernel) (fun gv => by kernel_rfl) (oE <| obs_cons (dP_of (instr_DecodeC0 #[vs 0 6 ((n1 - 1) - 6) (n2 - 6)] (L0) (6) (((n1 - 1) - 6)) ((n2 - 6))  y1_0 N c1 0 1 rfl (by decide) (by decide))) <| oR <| oY obs_nil) rfl (by decide) (by rfl) (fun _ => ⟨rr, ⟨⟨Eq.trans (show (vs 1 0 ([(⟨(0 : Int), (0 : Int), (0 : Int), (0 : Int)⟩ : R_iiii)] : List R_iiii).length ([(⟨(0 : Int), (0 : Int), (0 : Int), (0 : Int)⟩ : R_iiii)] : List R_iiii).length : Value) = vs 1 0 1 1 from (slice_eq rfl eqA eqA)) (by rfl), by rfl⟩, ⟨rr, ⟨⟨Eq.trans (show (vi ((1 : Nat) : Int) : Value) = vi (1 : Int) from (congrArg (Value.int .i64) (by first | rfl | omega))) (by rfl), by rfl⟩, trivial⟩⟩⟩⟩) ⟨(same_row (E := (encI .u8)) (α := Int) _ L0 _), ⟨(same_cells (E := E_iiii) _ (L := ([(⟨(0 : Int), (0 : Int), (0 : Int), (0 : Int)⟩ : R_iiii)] : List R_iiii)) _ (show ([vq, vq, vq, vq] : List Value) = rowV E_iiii ([(⟨(0 : Int), (0 : Int), (0 : Int), (0 : Int)⟩ : R_iiii)] : List R_iiii) from rfl)), trivial⟩⟩
  | r1 y1_0 y1_1 y1_2 y1_3 =>
   exact Mach.ok_next (M := prog_Decode_2M L0 n1 n2 N) (cd := 1000000) (cm := 0) (y := (.h1m2 (y1_3) (([(⟨(L0.getD 6 0), y1_0, y1_1, y1_2⟩ : R_iiii)] : List R_iiii)) (1) : prog_Decode_2X)) (fu := 4000) (orc := (orcw [(0, true)] [] [] [] [(0, (instr_DecodeT1 (L0) (6) (((n1 - 1) - 6)) ((n2 - 6))  y1_0 y1_1 y1_2 y1_3 0 1))])) (live := [0, 1, 4]) (tv := fun _ => [some (vs 1 0 y1_3.length y1_3.length), some (vs 4 0 1 1), some (vi (IntKind.i64.wrap (((BitVec.ofInt IntKind.i64.bits (IntKind.i64.wrap ((L0.getD 4 0) * (2 ^ 8 : Int))) ||| BitVec.ofInt IntKind.i64.bits (L0.getD 5 0)).toNat : Nat) : Int))), some (vi (1 : Int))]) (bl := [some (.cells (rowV (encI .u8) L0) 5), some (.cells (rowV (encI .u8) y1_3) 5), some (.cells [vi (L0.getD 6 0), vi y1_0, vi y1_1, vi y1_2] 38)]) (ob := [(dP (instr_DecodeP1 #[vs 0 6 ((n1 - 1) - 6) (n2 - 6)] (L0) (6) (((n1 - 1) - 6)) ((n2 - 6))  y1_0 y1_1 y1_2 y1_3 0 1), true), (dS (rowV (encI .u8) L0), true), ((decide ((0 : Int) < (IntKind.i64.wrap (((BitVec.ofInt IntKind.i64.bits (IntKind.i64.wrap ((L0.getD 4 0) * (2 ^ 8 : Int))) ||| BitVec.ofInt IntKind.i64.bits (L0.getD 5 0)).toNat : Nat) : Int)))), true)]) rfl (show 1 ∈ rids (prog_Decode_2K 1) from by decide +kernel) (fun gv => by kernel_rfl) (obs_cons (dP_of (instr_DecodeC1 #[vs 0 6 ((n1 - 1) - 6) (n2 - 6)] (L0) (6) (((n1 - 1) - 6)) ((n2 - 6))  y1_0 y1_1 y1_2 y1_3 N c1 0 1 rfl (by decide) (by decide))) <| oR <| oY obs_nil) rfl (by decide) (by rfl) (fun _ => ⟨rr, ⟨⟨Eq.trans (show (vs 2 0 ([(⟨(L0.getD 6 0), y1_0, y1_1, y1_2⟩ : R_iiii)] : List R_iiii).length ([(⟨(L0.getD 6 0), y1_0, y1_1, y1_2⟩ : R_iiii)] : List R_iiii).length : Value) = vs 2 0 1 1 from (slice_eq rfl eqA eqA)) (by rfl), by rfl⟩, ⟨rr, ⟨⟨Eq.trans (show (vi ((1 : Nat) : Int) : Value) = vi (1 : Int) from (congrArg (Value.int .i64) (by first | rfl | omega))) (by rfl), by rfl⟩, trivial⟩⟩⟩⟩) ⟨(same_row (E := (encI .u8)) (α := Int) _ L0 _), ⟨(same_row (E := (encI .u8)) (α := Int) _ y1_3 _), ⟨(same_cells (E := E_iiii) _ (L := ([(⟨(L0.getD 6 0), y1_0, y1_1, y1_2⟩ : R_iiii)] : List R_iiii)) _ (show ([vi (L0.getD 6 0), vi y1_0, vi y1_1, vi y1_2] : List Value) = rowV E_iiii ([(⟨(L0.getD 6 0), y1_0, y1_1, y1_2⟩ : R_iiii)] : List R_iiii) from rfl)), trivial⟩⟩⟩
 ·
  refine Mach.ok_ite (fun g1 => ?_) (fun g1 => ?_)
  ·
   exact Mach.ok_fin (M := prog_Decode_2M L0 n1 n2 N) (cd := 1000000) (cm := 0) (r := (.r0 ((110 : Int)) : prog_Decode_2R)) (fu := 4000) (orc := (orcw [(0, false), (1, true)] [] [] [] [])) (live := [0]) (u := Value.tuple #[vn, vi (110 : Int)]) (bl := [some (.cells (rowV (encI .u8) L0) 5)]) (ob := [((decide (((((n1 - 1) - 6) : Nat) : Int) > (0 : Int))), true), ((decide ((0 : Int) < (IntKind.i64.wrap (((BitVec.ofInt IntKind.i64.bits (IntKind.i64.wrap ((L0.getD 4 0) * (2 ^ 8 : Int))) ||| BitVec.ofInt IntKind.i64.bits (L0.getD 5 0)).toNat : Nat) : Int)))), false)]) (fun gv => by kernel_rfl) (oY <| oN obs_nil) rfl (by decide) (by rfl) rr ⟨(same_row (E := (encI .u8)) (α := Int) _ L0 _), trivial⟩
  ·
   exact Mach.ok_fin (M := prog_Decode_2M L0 n1 n2 N) (cd := 1000000) (cm := 0) (r := (.r0 ((0 : Int)) : prog_Decode_2R)) (fu := 4000) (orc := (orcw [(0, false), (1, false)] [] [] [] [])) (live := [0]) (u := Value.tuple #[vn, vq]) (bl := [some (.cells (rowV (encI .u8) L0) 5)]) (ob := [((decide (((((n1 - 1) - 6) : Nat) : Int) > (0 : Int))), false), ((decide ((0 : Int) < (IntKind.i64.wrap (((BitVec.ofInt IntKind.i64.bits (IntKind.i64.wrap ((L0.getD 4 0) * (2 ^ 8 : Int))) ||| BitVec.ofInt IntKind.i64.bits (L0.getD 5 0)).toNat : Nat) : Int)))), false)]) (fun gv => by kernel_rfl) (oN <| oN obs_nil) rfl (by decide) (by rfl) rr ⟨(same_row (E := (encI .u8)) (α := Int) _ L0 _), trivial⟩

theorem prog_Decode_2_ok1_1 (L0 : List Int) (n1 n2 : Nat) (v1 : List R_iiii) (v3 N : Nat) : (prog_Decode_2M L0 n1 n2 N).Ok Try.prog ext_Pk (.h1m1 v1 v3 : prog_Decode_2X) (prog_Decode_2Step L0 n1 n2 N (.h1m1 v1 v3 : prog_Decode_2X)) := by
 show (prog_Decode_2M L0 n1 n2 N).Ok Try.prog ext_Pk (.h1m1 v1 v3 : prog_Decode_2X) (prog_Decode_2_h1m1 L0 n1 n2 N v1 v3)
 unfold prog_Decode_2_h1m1
 refine Mach.ok_ite (fun g0 => ?_) (fun g0 => ?_)
 ·
  refine Mach.ok_bind (fun z1 c1 => ?_)
  cases z1 with
  | r0 =>
   exact Mach.ok_fin (M := prog_Decode_2M L0 n1 n2 N) (cd := 1000000) (cm := 0) (r := (.r0 ((110 : Int)) : prog_Decode_2R)) (fu := 4000) (orc := (orcw [(0, true)] [] [] [] [(0, (instr_Decode_2T0     2))])) (live := [0]) (u := Value.tuple #[vn, vi (110 : Int)]) (bl := [some (.cells (rowV (encI .u8) L0) 5)]) (ob := [(dP (instr_Decode_2P0 #[vn]     2), true), ((decide ((v3 : Int) < (IntKind.i64.wrap (((BitVec.ofInt IntKind.i64.bits (IntKind.i64.wrap ((L0.getD 4 0) * (2 ^ 8 : Int))) ||| BitVec.ofInt IntKind.i64.bits (L0.getD 5 0)).toNat : Nat) : Int)))), true)]) (fun gv => by kernel_rfl) (obs_cons (dP_of (instr_Decode_2C0 #[vn]    N c1  2 rfl (by decide) (by decide))) <| oY obs_nil) rfl (by decide) (by rfl) rr ⟨(same_row (E := (encI .u8)) (α := Int) _ L0 _), trivial⟩
 ·
  exact Mach.ok_fin (M := prog_Decode_2M L0 n1 n2 N) (cd := 1000000) (cm := 0) (r := (.r1 (v1) : prog_Decode_2R)) (fu := 4000) (orc := (orcw [(0, false)] [] [] [] [])) (live := [0, 1]) (u := Value.tuple #[vs 1 0 v1.length v1.length, vq]) (bl := [some (.cells (rowV (encI .u8) L0) 5), some (.cells (rowV E_iiii v1) 38)]) (ob := [((decide ((v3 : Int) < (IntKind.i64.wrap (((BitVec.ofInt IntKind.i64.bits (IntKind.i64.wrap ((L0.getD 4 0) * (2 ^ 8 : Int))) ||| BitVec.ofInt IntKind.i64.bits (L0.getD 5 0)).toNat : Nat) : Int)))), false)]) (fun gv => by kernel_rfl) (oN obs_nil) rfl (by decide) (by rfl) rr ⟨(same_row (E := (encI .u8)) (α := Int) _ L0 _), ⟨(same_row (E := E_iiii) (α := R_iiii) _ v1 _), trivial⟩⟩

theorem prog_Decode_2_ok1_2 (L0 : List Int) (n1 n2 : Nat) (v1 : List Int) (v2 : List R_iiii) (v4 N : Nat) : (prog_Decode_2M L0 n1 n2 N).Ok Try.prog ext_Pk (.h1m2 v1 v2 v4 : prog_Decode_2X) (prog_Decode_2Step L0 n1 n2 N (.h1m2 v1 v2 v4 : prog_Decode_2X)) := by
 show (prog_Decode_2M L0 n1 n2 N).Ok Try.prog ext_Pk (.h1m2 v1 v2 v4 : prog_Decode_2X) (prog_Decode_2_h1m2 L0 n1 n2 N v1 v2 v4)
 unfold prog_Decode_2_h1m2
 refine Mach.ok_ite (fun g0 => ?_) (fun g0 => ?_)
 ·
  refine Mach.ok_bind (fun z1 c1 => ?_)
  cases z1 with
  | r0 y1_0 =>
   refine Mach.ok_ite (fun g2 => ?_) (fun g2 => ?_)
   ·
    exact Mach.ok_fin (M := prog_Decode_2M L0 n1 n2 N) (cd := 1000000) (cm := 0) (r := (.r0 ((110 : Int)) : prog_Decode_2R)) (fu := 4000) (orc := (orcw [(0, true), (1, true)] [] [] [] [(0, (instr_Decode_3T0 (v1) (v1.length) (v1.length)  y1_0 1 3))])) (live := [0]) (u := Value.tuple #[vn, vi (110 : Int)]) (bl := [some (.cells (rowV (encI .u8) L0) 5)]) (ob := [((y1_0 != (0 : Int)), true), (dP (instr_Decode_3P0 #[vs 1 0 v1.length v1.length] (v1) (v1.length) (v1.length)  y1_0 1 3), true), (dS (rowV (encI .u8) v1), true), ((decide ((v4 : Int) < (IntKind.i64.wrap (((BitVec.ofInt IntKind.i64.bits (IntKind.i64.wrap ((L0.getD 4 0) * (2 ^ 8 : Int))) ||| BitVec.ofInt IntKind.i64.bits (L0.getD 5 0)).toNat : Nat) : Int)))), true)]) (fun gv => by kernel_rfl) (oD <| obs_cons (dP_of (instr_Decode_3C0 #[vs 1 0 v1.length v1.length] (v1) (v1.length) (v1.length)  y1_0 N c1 1 3 rfl (by decide) (by decide))) <| oR <| oY obs_nil) rfl (by decide) (by rfl) rr ⟨(same_row (E := (encI .u8)) (α := Int) _ L0 _), trivial⟩
   ·
    refine Mach.ok_ite (fun g3 => ?_) (fun g3 => ?_)
    ·
     exact Mach.ok_next (M := prog_Decode_2M L0 n1 n2 N) (cd := 1000000) (cm := 0) (y := (.h1m1 ((v2 ++ ([(⟨(0 : Int), (0 : Int), (0 : Int), (0 : Int)⟩ : R_iiii)] : List R_iiii))) ((v4 + 1)) : prog_Decode_2X)) (fu := 4000) (orc := (orcw [(0, true), (1, false)] [(0, (((v4 + 1) : Nat) : Int))] [] [] [(0, (instr_Decode_3T0 (v1) (v1.length) (v1.length)  y1_0 1 3)), (2, .ap 1 [vq, vq, vq, vq] (rowV E_iiii (v2 ++ ([(⟨(0 : Int), (0 : Int), (0 : Int), (0 : Int)⟩ : R_iiii)] : List R_iiii))))])) (live := [0, 5]) (tv := fun _ => [some (vn), some (vs 5 0 (v2.length + 1) (v2.length + 1)), some (vi (IntKind.i64.wrap (((BitVec.ofInt IntKind.i64.bits (IntKind.i64.wrap ((L0.getD 4 0) * (2 ^ 8 : Int))) ||| BitVec.ofInt IntKind.i64.bits (L0.getD 5 0)).toNat : Nat) : Int))), some (vi (((v4 + 1) : Nat) : Int))]) (bl := [some (.cells (rowV (encI .u8) L0) 5), some (.cells (rowV E_iiii (v2 ++ ([(⟨(0 : Int), (0 : Int), (0 : Int), (0 : Int)⟩ : R_iiii)] : List R_iiii))) 38)]) (ob := [((IntKind.i64.wrap ((v4 : Int) + (1 : Int))) == (((v4 + 1) : Nat) : Int), true), (dP ((1 = 1 ∧ takeN (1 * 4) (List.drop 0 [vq, vq, vq, vq]) = some [vq, vq, vq, vq] ∧ allB cell1 [vq, vq, vq, vq] = true) ∧ 0 < 1 ∧ 1 ≤ 100000 ∧ v2.length < v2.length + 1 ∧ v2.length ≤ 100000 ∧ v2.length * 4 ≤ (List.length (rowV E_iiii v2)) ∧ List.take (v2.length * 4) (rowV E_iiii v2) ++ [vq, vq, vq, vq] = (rowV E_iiii (v2 ++ ([(⟨(0 : Int), (0 : Int), (0 : Int), (0 : Int)⟩ : R_iiii)] : List R_iiii)))), true), ((y1_0 != (0 : Int)), false), (dP (instr_Decode_3P0 #[vs 1 0 v1.length v1.length] (v1) (v1.length) (v1.length)  y1_0 1 3), true), (dS (rowV (encI .u8) v1), true), ((decide ((v4 : Int) < (IntKind.i64.wrap (((BitVec.ofInt IntKind.i64.bits (IntKind.i64.wrap ((L0.getD 4 0) * (2 ^ 8 : Int))) ||| BitVec.ofInt IntKind.i64.bits (L0.getD 5 0)).toNat : Nat) : Int)))), true)]) rfl (show 1 ∈ rids (prog_Decode_2K 1) from by decide +kernel) (fun gv => by kernel_rfl) (obs_cons (beq_iff_eq.2 ((wrap_i64 (by have hi0 := ii (((BitVec.ofInt IntKind.i64.bits (IntKind.i64.wrap ((L0.getD 4 0) * (2 ^ 8 : Int))) ||| BitVec.ofInt IntKind.i64.bits (L0.getD 5 0)).toNat : Nat) : Int); first | omega | (simp only [List.length_set, List.length_append, List.length_cons, List.length_nil, List.length_replicate, List.length_take, List.length_drop] at * <;> omega))).trans (by first | rfl | omega))) <| obs_cons (dP_of ⟨⟨rfl, ⟨rfl, rfl⟩⟩, by omega, by omega, ltA, by omega, (rowV_dst (E := E_iiii) (L := v2) (M := ([(⟨(0 : Int), (0 : Int), (0 : Int), (0 : Int)⟩ : R_iiii)] : List R_iiii)) (n := v2.length) (show _ = _ * 4 from rfl) (by omega) (R := (v2 ++ ([(⟨(0 : Int), (0 : Int), (0 : Int), (0 : Int)⟩ : R_iiii)] : List R_iiii))) (by rw [List.take_of_length_le (by omega)]))⟩) <| oE <| obs_cons (dP_of (instr_Decode_3C0 #[vs 1 0 v1.length v1.length] (v1) (v1.length) (v1.length)  y1_0 N c1 1 3 rfl (by decide) (by decide))) <| oR <| oY obs_nil) rfl (by decide) (by rfl) (fun _ => ⟨rr, ⟨⟨Eq.trans (show (vs 1 0 (v2 ++ ([(⟨(0 : Int), (0 : Int), (0 : Int), (0 : Int)⟩ : R_iiii)] : List R_iiii)).length (v2 ++ ([(⟨(0 : Int), (0 : Int), (0 : Int), (0 : Int)⟩ : R_iiii)] : List R_iiii)).length : Value) = vs 1 0 (v2.length + 1) (v2.length + 1) from (slice_eq rfl eqA eqA)) (by rfl), by rfl⟩, ⟨rr, ⟨rr, trivial⟩⟩⟩⟩) ⟨(same_row (E := (encI .u8)) (α := Int) _ L0 _), ⟨(same_row (E := E_iiii) (α := R_iiii) _ (v2 ++ ([(⟨(0 : Int), (0 : Int), (0 : Int), (0 : Int)⟩ : R_iiii)] : List R_iiii)) _), trivial⟩⟩
    ·
     exact Mach.ok_none
  | r1 y1_0 y1_1 y1_2 y1_3 =>
   refine Mach.ok_ite (fun g2 => ?_) (fun g2 => ?_)
   ·
    exact Mach.ok_next (M := prog_Decode_2M L0 n1 n2 N) (cd := 1000000) (cm := 0) (y := (.h1m2 (y1_3) ((v2 ++ ([(⟨(v1.getD 0 0), y1_0, y1_1, y1_2⟩ : R_iiii)] : List R_iiii))) ((v4 + 1)) : prog_Decode_2X)) (fu := 4000) (orc := (orcw [(0, true)] [(0, (((v4 + 1) : Nat) : Int))] [] [] [(0, (instr_Decode_3T1 (v1) (v1.length) (v1.length)  y1_0 y1_1 y1_2 y1_3 1 3)), (2, .ap 1 [vi (v1.getD 0 0), vi y1_0, vi y1_1, vi y1_2] (rowV E_iiii (v2 ++ ([(⟨(v1.getD 0 0), y1_0, y1_1, y1_2⟩ : R_iiii)] : List R_iiii))))])) (live := [0, 3, 6]) (tv := fun _ => [some (vs 3 0 y1_3.length y1_3.length), some (vs 6 0 (v2.length + 1) (v2.length + 1)), some (vi (IntKind.i64.wrap (((BitVec.ofInt IntKind.i64.bits (IntKind.i64.wrap ((L0.getD 4 0) * (2 ^ 8 : Int))) ||| BitVec.ofInt IntKind.i64.bits (L0.getD 5 0)).toNat : Nat) : Int))), some (vi (((v4 + 1) : Nat) : Int))]) (bl := [some (.cells (rowV (encI .u8) L0) 5), some (.cells (rowV (encI .u8) y1_3) 5), some (.cells (rowV E_iiii (v2 ++ ([(⟨(v1.getD 0 0), y1_0, y1_1, y1_2⟩ : R_iiii)] : List R_iiii))) 38)]) (ob := [((IntKind.i64.wrap ((v4 : Int) + (1 : Int))) == (((v4 + 1) : Nat) : Int), true), (dP ((1 = 1 ∧ takeN (1 * 4) (List.drop 0 [vi (v1.getD 0 0), vi y1_0, vi y1_1, vi y1_2]) = some [vi (v1.getD 0 0), vi y1_0, vi y1_1, vi y1_2] ∧ allB cell1 [vi (v1.getD 0 0), vi y1_0, vi y1_1, vi y1_2] = true) ∧ 0 < 1 ∧ 1 ≤ 100000 ∧ v2.length < v2.length + 1 ∧ v2.length ≤ 100000 ∧ v2.length * 4 ≤ (List.length (rowV E_iiii v2)) ∧ List.take (v2.length * 4) (rowV E_iiii v2) ++ [vi (v1.getD 0 0), vi y1_0, vi y1_1, vi y1_2] = (rowV E_iiii (v2 ++ ([(⟨(v1.getD 0 0), y1_0, y1_1, y1_2⟩ : R_iiii)] : List R_iiii)))), true), (dP (instr_Decode_3P1 #[vs 1 0 v1.length v1.length] (v1) (v1.length) (v1.length)  y1_0 y1_1 y1_2 y1_3 1 3), true), (dS (rowV (encI .u8) v1), true), ((decide ((v4 : Int) < (IntKind.i64.wrap (((BitVec.ofInt IntKind.i64.bits (IntKind.i64.wrap ((L0.getD 4 0) * (2 ^ 8 : Int))) ||| BitVec.ofInt IntKind.i64.bits (L0.getD 5 0)).toNat : Nat) : Int)))), true)]) rfl (show 1 ∈ rids (prog_Decode_2K 1) from by decide +kernel) (fun gv => by kernel_rfl) (obs_cons (beq_iff_eq.2 ((wrap_i64 (by have hi0 := ii (((BitVec.ofInt IntKind.i64.bits (IntKind.i64.wrap ((L0.getD 4 0) * (2 ^ 8 : Int))) ||| BitVec.ofInt IntKind.i64.bits (L0.getD 5 0)).toNat : Nat) : Int); first | omega | (simp only [List.length_set, List.length_append, List.length_cons, List.length_nil, List.length_replicate, List.length_take, List.length_drop] at * <;> omega))).trans (by first | rfl | omega))) <| obs_cons (dP_of ⟨⟨rfl, ⟨rfl, rfl⟩⟩, by omega, by omega, ltA, by omega, (rowV_dst (E := E_iiii) (L := v2) (M := ([(⟨(v1.getD 0 0), y1_0, y1_1, y1_2⟩ : R_iiii)] : List R_iiii)) (n := v2.length) (show _ = _ * 4 from rfl) (by omega) (R := (v2 ++ ([(⟨(v1.getD 0 0), y1_0, y1_1, y1_2⟩ : R_iiii)] : List R_iiii))) (by rw [List.take_of_length_le (by omega)]))⟩) <| obs_cons (dP_of (instr_Decode_3C1 #[vs 1 0 v1.length v1.length] (v1) (v1.length) (v1.length)  y1_0 y1_1 y1_2 y1_3 N c1 1 3 rfl (by decide) (by decide))) <| oR <| oY obs_nil) rfl (by decide) (by rfl) (fun _ => ⟨rr, ⟨⟨Eq.trans (show (vs 2 0 (v2 ++ ([(⟨(v1.getD 0 0), y1_0, y1_1, y1_2⟩ : R_iiii)] : List R_iiii)).length (v2 ++ ([(⟨(v1.getD 0 0), y1_0, y1_1, y1_2⟩ : R_iiii)] : List R_iiii)).length : Value) = vs 2 0 (v2.length + 1) (v2.length + 1) from (slice_eq rfl eqA eqA)) (by rfl), by rfl⟩, ⟨rr, ⟨rr, trivial⟩⟩⟩⟩) ⟨(same_row (E := (encI .u8)) (α := Int) _ L0 _), ⟨(same_row (E := (encI .u8)) (α := Int) _ y1_3 _), ⟨(same_row (E := E_iiii) (α := R_iiii) _ (v2 ++ ([(⟨(v1.getD 0 0), y1_0, y1_1, y1_2⟩ : R_iiii)] : List R_iiii)) _), trivial⟩⟩⟩
   ·
    exact Mach.ok_none
 ·
  refine Mach.ok_ite (fun g1 => ?_) (fun g1 => ?_)
  ·
   exact Mach.ok_fin (M := prog_Decode_2M L0 n1 n2 N) (cd := 1000000) (cm := 0) (r := (.r0 ((110 : Int)) : prog_Decode_2R)) (fu := 4000) (orc := (orcw [(0, false), (1, true)] [] [] [] [])) (live := [0]) (u := Value.tuple #[vn, vi (110 : Int)]) (bl := [some (.cells (rowV (encI .u8) L0) 5)]) (ob := [((decide (((v1.length : Nat) : Int) > (0 : Int))), true), ((decide ((v4 : Int) < (IntKind.i64.wrap (((BitVec.ofInt IntKind.i64.bits (IntKind.i64.wrap ((L0.getD 4 0) * (2 ^ 8 : Int))) ||| BitVec.ofInt IntKind.i64.bits (L0.getD 5 0)).toNat : Nat) : Int)))), false)]) (fun gv => by kernel_rfl) (oY <| oN obs_nil) rfl (by decide) (by rfl) rr ⟨(same_row (E := (encI .u8)) (α := Int) _ L0 _), trivial⟩
  ·
   exact Mach.ok_fin (M := prog_Decode_2M L0 n1 n2 N) (cd := 1000000) (cm := 0) (r := (.r1 (v2) : prog_Decode_2R)) (fu := 4000) (orc := (orcw [(0, false), (1, false)] [] [] [] [])) (live := [0, 2]) (u := Value.tuple #[vs 2 0 v2.length v2.length, vq]) (bl := [some (.cells (rowV (encI .u8) L0) 5), some (.cells (rowV E_iiii v2) 38)]) (ob := [((decide (((v1.length : Nat) : Int) > (0 : Int))), false), ((decide ((v4 : Int) < (IntKind.i64.wrap (((BitVec.ofInt IntKind.i64.bits (IntKind.i64.wrap ((L0.getD 4 0) * (2 ^ 8 : Int))) ||| BitVec.ofInt IntKind.i64.bits (L0.getD 5 0)).toNat : Nat) : Int)))), false)]) (fun gv => by kernel_rfl) (oN <| oN obs_nil) rfl (by decide) (by rfl) rr ⟨(same_row (E := (encI .u8)) (α := Int) _ L0 _), ⟨(same_row (E := E_iiii) (α := R_iiii) _ v2 _), trivial⟩⟩

theorem prog_Decode_2_en (L0 : List Int) (n1 n2 N : Nat) : (prog_Decode_2M L0 n1 n2 N).Enter Try.prog ext_Pk #[vs 0 0 n1 n2] (prog_Decode_2In L0 n1 n2 N) := by
 unfold prog_Decode_2In
 refine Mach.en_ite (fun g0 => ?_) (fun g0 => ?_)
 ·
  exact Mach.en_fin (M := prog_Decode_2M L0 n1 n2 N) (cd := 1000000) (cm := 0) (r := (.r0 ((6 : Int)) : prog_Decode_2R)) (fu := 4000) (orc := (orcw [(0, true)] [] [] [] [])) (live := [0]) (u := Value.tuple #[vn, vi (6 : Int)]) (bl := [some (.cells (rowV (encI .u8) L0) 5)]) (ob := [((decide ((n1 : Int) < (7 : Int))), true)]) (by kernel_rfl) (oY obs_nil) rfl (by decide) (by rfl) rr ⟨(same_row (E := (encI .u8)) (α := Int) _ L0 _), trivial⟩
 ·
  refine Mach.en_ite (fun g1 => ?_) (fun g1 => ?_)
  ·
   refine Mach.en_ite (fun g2 => ?_) (fun g2 => ?_)
   ·
    refine Mach.en_ite (fun g3 => ?_) (fun g3 => ?_)
    ·
     refine Mach.en_ite (fun g4 => ?_) (fun g4 => ?_)
     ·
      refine Mach.en_ite (fun g5 => ?_) (fun g5 => ?_)
      ·
       refine Mach.en_ite (fun g6 => ?_) (fun g6 => ?_)
       ·
        refine Mach.en_ite (fun g7 => ?_) (fun g7 => ?_)
        ·
         refine Mach.en_ite (fun g8 => ?_) (fun g8 => ?_)
         ·
          refine Mach.en_ite (fun g9 => ?_) (fun g9 => ?_)
          ·
           refine Mach.en_ite (fun g10 => ?_) (fun g10 => ?_)
           ·
            refine Mach.en_ite (fun g11 => ?_) (fun g11 => ?_)
            ·
             exact Mach.en_fin (M := prog_Decode_2M L0 n1 n2 N) (cd := 1000000) (cm := 0) (r := (.r0 ((110 : Int)) : prog_Decode_2R)) (fu := 4000) (orc := (orcw [(0, false), (1, true), (2, true), (4, true)] [(0, (L0.getD 4 0)), (2, (L0.getD 5 0)), (4, (((n1 - 1) : Nat) : Int)), (5, (((n1 - 1) : Nat) : Int))] [(0, 4), (1, 5), (2, (n1 - 1))] [(0, [.k .u8 (L0.getD 4 0)]), (1, [.k .u8 (L0.getD 5 0)]), (2, [.k .u8 (L0.getD (n1 - 1) 0)])] [(1, .sl 6 (n1 - 1)), (2, .sl 0 4), (3, .bs (L0.take (4 - 0))), (4, .bs ([(71 : Int), (78 : Int), (84 : Int), (1 : Int)] : List Int))])) (live := [0]) (u := Value.tuple #[vn, vi (110 : Int)]) (bl := [some (.cells (rowV (encI .u8) L0) 5)]) (ob := [((decide ((IntKind.i64.wrap (((BitVec.ofInt IntKind.i64.bits (IntKind.i64.wrap ((L0.getD 4 0) * (2 ^ 8 : Int))) ||| BitVec.ofInt IntKind.i64.bits (L0.getD 5 0)).toNat : Nat) : Int)) > (512 : Int))), true), (((strOf (L0.take (4 - 0))).toList == (strOf ([(71 : Int), (78 : Int), (84 : Int), (1 : Int)] : List Int)).toList), true), (dP (takeN 4 (List.drop 0 [Value.int .u8 (71 : Int), Value.int .u8 (78 : Int), Value.int .u8 (84 : Int), Value.int .u8 (1 : Int)]) = some (List.map (Value.int .u8) ([(71 : Int), (78 : Int), (84 : Int), (1 : Int)] : List Int))), true), (dP (takeN (4 - 0) (List.drop (0 + (0 * 1)) (rowV (encI .u8) L0)) = some (List.map (Value.int .u8) (L0.take (4 - 0)))), true), (dP (0 ≤ 4 ∧ 4 ≤ n2), true), ((4 : Int) == Int.ofNat 4, true), (dS 0, true), ((decide ((n1 : Int) ≥ (4 : Int))), true), (sameR (takeN 1 (List.drop (0 + ((n1 - 1) * 1)) (rowV (encI .u8) L0))) [.k .u8 (L0.getD (n1 - 1) 0)], true), (Nat.blt (n1 - 1) n1, true), ((((n1 - 1) : Nat) : Int) == Int.ofNat (n1 - 1), true), ((IntKind.i64.wrap ((n1 : Int) - (1 : Int))) == (((n1 - 1) : Nat) : Int), true), (dP (6 ≤ (n1 - 1) ∧ (n1 - 1) ≤ n2), true), ((((n1 - 1) : Nat) : Int) == Int.ofNat (n1 - 1), true), ((6 : Int) == Int.ofNat 6, true), ((IntKind.i64.wrap ((n1 : Int) - (1 : Int))) == (((n1 - 1) : Nat) : Int), true), ((IntKind.i64.wrap (L0.getD 5 0)) == (L0.getD 5 0), true), (sameR (takeN 1 (List.drop (0 + (5 * 1)) (rowV (encI .u8) L0))) [.k .u8 (L0.getD 5 0)], true), (Nat.blt 5 n1, true), ((5 : Int) == Int.ofNat 5, true), ((IntKind.i64.wrap (L0.getD 4 0)) == (L0.getD 4 0), true), (sameR (takeN 1 (List.drop (0 + (4 * 1)) (rowV (encI .u8) L0))) [.k .u8 (L0.getD 4 0)], true), (Nat.blt 4 n1, true), ((4 : Int) == Int.ofNat 4, true), ((decide ((n1 : Int) < (7 : Int))), false)]) (by kernel_rfl) (oY <| obs_cons (strB_t (x := (L0.take (4 - 0))) (y := ([(71 : Int), (78 : Int), (84 : Int), (1 : Int)] : List Int)) (by assumption)) <| oR <| obs_cons (dP_of (bs_row (L := L0) (a := 0) (by omega) (by show _ = _ * 1; omega) (by first | rfl | simp))) <| obs_cons (dP_of ⟨ltA, ltA⟩) <| oI <| oR <| oY <| obs_cons (rowV_load (E := (encI .u8)) (L := L0) (i := (n1 - 1)) (q := 0) (by omega) (show (0 + ((n1 - 1) * 1)) = (n1 - 1) * 1 + 0 from by omega) (show 0 + 1 ≤ 1 from by decide) rfl rfl) <| oB <| oI <| obs_cons (beq_iff_eq.2 ((wrap_i64 ltA).trans (by first | rfl | omega))) <| obs_cons (dP_of ⟨ltA, ltA⟩) <| oI <| oI <| obs_cons (beq_iff_eq.2 ((wrap_i64 ltA).trans (by first | rfl | omega))) <| obs_cons (beq_iff_eq.2 (wrap_i64 ltA)) <| obs_cons (rowV_load (E := (encI .u8)) (L := L0) (i := 5) (q := 0) (by omega) (show (0 + (5 * 1)) = 5 * 1 + 0 from by omega) (show 0 + 1 ≤ 1 from by decide) rfl rfl) <| oB <| oI <| obs_cons (beq_iff_eq.2 (wrap_i64 ltA)) <| obs_cons (rowV_load (E := (encI .u8)) (L := L0) (i := 4) (q := 0) (by omega) (show (0 + (4 * 1)) = 4 * 1 + 0 from by omega) (show 0 + 1 ≤ 1 from by decide) rfl rfl) <| oB <| oI <| oN obs_nil) rfl (by decide) (by rfl) rr ⟨(same_row (E := (encI .u8)) (α := Int) _ L0 _), trivial⟩
            ·
             refine Mach.en_ite (fun g12 => ?_) (fun g12 => ?_)
             ·
              exact Mach.en_fin (M := prog_Decode_2M L0 n1 n2 N) (cd := 1000000) (cm := 0) (r := (.r0 ((110 : Int)) : prog_Decode_2R)) (fu := 4000) (orc := (orcw [(0, false), (1, true), (2, true), (4, false), (5, true)] [(0, (L0.getD 4 0)), (2, (L0.getD 5 0)), (4, (((n1 - 1) : Nat) : Int)), (5, (((n1 - 1) : Nat) : Int))] [(0, 4), (1, 5), (2, (n1 - 1))] [(0, [.k .u8 (L0.getD 4 0)]), (1, [.k .u8 (L0.getD 5 0)]), (2, [.k .u8 (L0.getD (n1 - 1) 0)])] [(1, .sl 6 (n1 - 1)), (2, .sl 0 4), (3, .bs (L0.take (4 - 0))), (4, .bs ([(71 : Int), (78 : Int), (84 : Int), (1 : Int)] : List Int))])) (live := [0]) (u := Value.tuple #[vn, vi (110 : Int)]) (bl := [some (.cells (rowV (encI .u8) L0) 5)]) (ob := [((decide (((((n1 - 1) - 6) : Nat) : Int) > (IntKind.i64.wrap ((IntKind.i64.wrap (((BitVec.ofInt IntKind.i64.bits (IntKind.i64.wrap ((L0.getD 4 0) * (2 ^ 8 : Int))) ||| BitVec.ofInt IntKind.i64.bits (L0.getD 5 0)).toNat : Nat) : Int)) * (10 : Int))))), true), ((decide ((IntKind.i64.wrap (((BitVec.ofInt IntKind.i64.bits (IntKind.i64.wrap ((L0.getD 4 0) * (2 ^ 8 : Int))) ||| BitVec.ofInt IntKind.i64.bits (L0.getD 5 0)).toNat : Nat) : Int)) > (512 : Int))), false), (((strOf (L0.take (4 - 0))).toList == (strOf ([(71 : Int), (78 : Int), (84 : Int), (1 : Int)] : List Int)).toList), true), (dP (takeN 4 (List.drop 0 [Value.int .u8 (71 : Int), Value.int .u8 (78 : Int), Value.int .u8 (84 : Int), Value.int .u8 (1 : Int)]) = some (List.map (Value.int .u8) ([(71 : Int), (78 : Int), (84 : Int), (1 : Int)] : List Int))), true), (dP (takeN (4 - 0) (List.drop (0 + (0 * 1)) (rowV (encI .u8) L0)) = some (List.map (Value.int .u8) (L0.take (4 - 0)))), true), (dP (0 ≤ 4 ∧ 4 ≤ n2), true), ((4 : Int) == Int.ofNat 4, true), (dS 0, true), ((decide ((n1 : Int) ≥ (4 : Int))), true), (sameR (takeN 1 (List.drop (0 + ((n1 - 1) * 1)) (rowV (encI .u8) L0))) [.k .u8 (L0.getD (n1 - 1) 0)], true), (Nat.blt (n1 - 1) n1, true), ((((n1 - 1) : Nat) : Int) == Int.ofNat (n1 - 1), true), ((IntKind.i64.wrap ((n1 : Int) - (1 : Int))) == (((n1 - 1) : Nat) : Int), true), (dP (6 ≤ (n1 - 1) ∧ (n1 - 1) ≤ n2), true), ((((n1 - 1) : Nat) : Int) == Int.ofNat (n1 - 1), true), ((6 : Int) == Int.ofNat 6, true), ((IntKind.i64.wrap ((n1 : Int) - (1 : Int))) == (((n1 - 1) : Nat) : Int), true), ((IntKind.i64.wrap (L0.getD 5 0)) == (L0.getD 5 0), true), (sameR (takeN 1 (List.drop (0 + (5 * 1)) (rowV (encI .u8) L0))) [.k .u8 (L0.getD 5 0)], true), (Nat.blt 5 n1, true), ((5 : Int) == Int.ofNat 5, true), ((IntKind.i64.wrap (L0.getD 4 0)) == (L0.getD 4 0), true), (sameR (takeN 1 (List.drop (0 + (4 * 1)) (rowV (encI .u8) L0))) [.k .u8 (L0.getD 4 0)], true), (Nat.blt 4 n1, true), ((4 : Int) == Int.ofNat 4, true), ((decide ((n1 : Int) < (7 : Int))), false)]) (by kernel_rfl) (oY <| oN <| obs_cons (strB_t (x := (L0.take (4 - 0))) (y := ([(71 : Int), (78 : Int), (84 : Int), (1 : Int)] : List Int)) (by assumption)) <| oR <| obs_cons (dP_of (bs_row (L := L0) (a := 0) (by omega) (by show _ = _ * 1; omega) (by first | rfl | simp))) <| obs_cons (dP_of ⟨ltA, ltA⟩) <| oI <| oR <| oY <| obs_cons (rowV_load (E := (encI .u8)) (L := L0) (i := (n1 - 1)) (q := 0) (by omega) (show (0 + ((n1 - 1) * 1)) = (n1 - 1) * 1 + 0 from by omega) (show 0 + 1 ≤ 1 from by decide) rfl rfl) <| oB <| oI <| obs_cons (beq_iff_eq.2 ((wrap_i64 ltA).trans (by first | rfl | omega))) <| obs_cons (dP_of ⟨ltA, ltA⟩) <| oI <| oI <| obs_cons (beq_iff_eq.2 ((wrap_i64 ltA).trans (by first | rfl | omega))) <| obs_cons (beq_iff_eq.2 (wrap_i64 ltA)) <| obs_cons (rowV_load (E := (encI .u8)) (L := L0) (i := 5) (q := 0) (by omega) (show (0 + (5 * 1)) = 5 * 1 + 0 from by omega) (show 0 + 1 ≤ 1 from by decide) rfl rfl) <| oB <| oI <| obs_cons (beq_iff_eq.2 (wrap_i64 ltA)) <| obs_cons (rowV_load (E := (encI .u8)) (L := L0) (i := 4) (q := 0) (by omega) (show (0 + (4 * 1)) = 4 * 1 + 0 from by omega) (show 0 + 1 ≤ 1 from by decide) rfl rfl) <| oB <| oI <| oN obs_nil) rfl (by decide) (by rfl) rr ⟨(same_row (E := (encI .u8)) (α := Int) _ L0 _), trivial⟩
             ·
              refine Mach.en_bind (fun z13 c13 => ?_)
              cases z13 with
              | r0 y13_0 =>
               refine Mach.en_ite (fun g14 => ?_) (fun g14 => ?_)
               ·
                exact Mach.en_fin (M := prog_Decode_2M L0 n1 n2 N) (cd := 1000000) (cm := 0) (r := (.r0 ((110 : Int)) : prog_Decode_2R)) (fu := 4000) (orc := (orcw [(0, false), (1, true), (2, true), (4, false), (5, false), (6, true)] [(0, (L0.getD 4 0)), (2, (L0.getD 5 0)), (4, (((n1 - 1) : Nat) : Int)), (5, (((n1 - 1) : Nat) : Int)), (7, (((n1 - 1) : Nat) : Int))] [(0, 4), (1, 5), (2, (n1 - 1))] [(0, [.k .u8 (L0.getD 4 0)]), (1, [.k .u8 (L0.getD 5 0)]), (2, [.k .u8 (L0.getD (n1 - 1) 0)])] [(1, .sl 6 (n1 - 1)), (2, .sl 0 4), (3, .bs (L0.take (4 - 0))), (4, .bs ([(71 : Int), (78 : Int), (84 : Int), (1 : Int)] : List Int)), (5, .sl 0 (n1 - 1)), (6, (prog_sumT0 (L0) (((n1 - 1) - 0)) ((n2 - 0))  y13_0 0 2))])) (live := [0]) (u := Value.tuple #[vn, vi (110 : Int)]) (bl := [some (.cells (rowV (encI .u8) L0) 5)]) (ob := [((y13_0 != (L0.getD (n1 - 1) 0)), true), (dP (prog_sumP0 #[Value.slice (some ⟨0, (0 + (0 * 1)), none⟩) ((n1 - 1) - 0) (n2 - 0)] (L0) (((n1 - 1) - 0)) ((n2 - 0))  y13_0 0 2), true), (dS (rowV (encI .u8) L0), true), (dP (0 ≤ (n1 - 1) ∧ (n1 - 1) ≤ n2), true), ((((n1 - 1) : Nat) : Int) == Int.ofNat (n1 - 1), true), (dS 0, true), ((IntKind.i64.wrap ((n1 : Int) - (1 : Int))) == (((n1 - 1) : Nat) : Int), true), ((decide (((((n1 - 1) - 6) : Nat) : Int) > (IntKind.i64.wrap ((IntKind.i64.wrap (((BitVec.ofInt IntKind.i64.bits (IntKind.i64.wrap ((L0.getD 4 0) * (2 ^ 8 : Int))) ||| BitVec.ofInt IntKind.i64.bits (L0.getD 5 0)).toNat : Nat) : Int)) * (10 : Int))))), false), ((decide ((IntKind.i64.wrap (((BitVec.ofInt IntKind.i64.bits (IntKind.i64.wrap ((L0.getD 4 0) * (2 ^ 8 : Int))) ||| BitVec.ofInt IntKind.i64.bits (L0.getD 5 0)).toNat : Nat) : Int)) > (512 : Int))), false), (((strOf (L0.take (4 - 0))).toList == (strOf ([(71 : Int), (78 : Int), (84 : Int), (1 : Int)] : List Int)).toList), true), (dP (takeN 4 (List.drop 0 [Value.int .u8 (71 : Int), Value.int .u8 (78 : Int), Value.int .u8 (84 : Int), Value.int .u8 (1 : Int)]) = some (List.map (Value.int .u8) ([(71 : Int), (78 : Int), (84 : Int), (1 : Int)] : List Int))), true), (dP (takeN (4 - 0) (List.drop (0 + (0 * 1)) (rowV (encI .u8) L0)) = some (List.map (Value.int .u8) (L0.take (4 - 0)))), true), (dP (0 ≤ 4 ∧ 4 ≤ n2), true), ((4 : Int) == Int.ofNat 4, true), (dS 0, true), ((decide ((n1 : Int) ≥ (4 : Int))), true), (sameR (takeN 1 (List.drop (0 + ((n1 - 1) * 1)) (rowV (encI .u8) L0))) [.k .u8 (L0.getD (n1 - 1) 0)], true), (Nat.blt (n1 - 1) n1, true), ((((n1 - 1) : Nat) : Int) == Int.ofNat (n1 - 1), true), ((IntKind.i64.wrap ((n1 : Int) - (1 : Int))) == (((n1 - 1) : Nat) : Int), true), (dP (6 ≤ (n1 - 1) ∧ (n1 - 1) ≤ n2), true), ((((n1 - 1) : Nat) : Int) == Int.ofNat (n1 - 1), true), ((6 : Int) == Int.ofNat 6, true), ((IntKind.i64.wrap ((n1 : Int) - (1 : Int))) == (((n1 - 1) : Nat) : Int), true), ((IntKind.i64.wrap (L0.getD 5 0)) == (L0.getD 5 0), true), (sameR (takeN 1 (List.drop (0 + (5 * 1)) (rowV (encI .u8) L0))) [.k .u8 (L0.getD 5 0)], true), (Nat.blt 5 n1, true), ((5 : Int) == Int.ofNat 5, true), ((IntKind.i64.wrap (L0.getD 4 0)) == (L0.getD 4 0), true), (sameR (takeN 1 (List.drop (0 + (4 * 1)) (rowV (encI .u8) L0))) [.k .u8 (L0.getD 4 0)], true), (Nat.blt 4 n1, true), ((4 : Int) == Int.ofNat 4, true), ((decide ((n1 : Int) < (7 : Int))), false)]) (by kernel_rfl) (oD <| obs_cons (dP_of (prog_sumC0 #[Value.slice (some ⟨0, (0 + (0 * 1)), none⟩) ((n1 - 1) - 0) (n2 - 0)] (L0) (((n1 - 1) - 0)) ((n2 - 0))  y13_0 N c13 0 2 (array_eq (cons_eq (slice_eq eqA rfl rfl) rfl)) (by decide) (by decide))) <| oR <| obs_cons (dP_of ⟨ltA, ltA⟩) <| oI <| oR <| obs_cons (beq_iff_eq.2 ((wrap_i64 ltA).trans (by first | rfl | omega))) <| oN <| oN <| obs_cons (strB_t (x := (L0.take (4 - 0))) (y := ([(71 : Int), (78 : Int), (84 : Int), (1 : Int)] : List Int)) (by assumption)) <| oR <| obs_cons (dP_of (bs_row (L := L0) (a := 0) (by omega) (by show _ = _ * 1; omega) (by first | rfl | simp))) <| obs_cons (dP_of ⟨ltA, ltA⟩) <| oI <| oR <| oY <| obs_cons (rowV_load (E := (encI .u8)) (L := L0) (i := (n1 - 1)) (q := 0) (by omega) (show (0 + ((n1 - 1) * 1)) = (n1 - 1) * 1 + 0 from by omega) (show 0 + 1 ≤ 1 from by decide) rfl rfl) <| oB <| oI <| obs_cons (beq_iff_eq.2 ((wrap_i64 ltA).trans (by first | rfl | omega))) <| obs_cons (dP_of ⟨ltA, ltA⟩) <| oI <| oI <| obs_cons (beq_iff_eq.2 ((wrap_i64 ltA).trans (by first | rfl | omega))) <| obs_cons (beq_iff_eq.2 (wrap_i64 ltA)) <| obs_cons (rowV_load (E := (encI .u8)) (L := L0) (i := 5) (q := 0) (by omega) (show (0 + (5 * 1)) = 5 * 1 + 0 from by omega) (show 0 + 1 ≤ 1 from by decide) rfl rfl) <| oB <| oI <| obs_cons (beq_iff_eq.2 (wrap_i64 ltA)) <| obs_cons (rowV_load (E := (encI .u8)) (L := L0) (i := 4) (q := 0) (by omega) (show (0 + (4 * 1)) = 4 * 1 + 0 from by omega) (show 0 + 1 ≤ 1 from by decide) rfl rfl) <| oB <| oI <| oN obs_nil) rfl (by decide) (by rfl) rr ⟨(same_row (E := (encI .u8)) (α := Int) _ L0 _), trivial⟩
               ·
                exact Mach.en_head (bK := prog_Decode_2C 1) (M := prog_Decode_2M L0 n1 n2 N) (cd := 1000000) (cm := 0) (y := (.h1m0 : prog_Decode_2X)) (fu := 4000) (orc := (orcw [(0, false), (1, true), (2, true), (4, false), (5, false), (6, false)] [(0, (L0.getD 4 0)), (2, (L0.getD 5 0)), (4, (((n1 - 1) : Nat) : Int)), (5, (((n1 - 1) : Nat) : Int)), (7, (((n1 - 1) : Nat) : Int))] [(0, 4), (1, 5), (2, (n1 - 1))] [(0, [.k .u8 (L0.getD 4 0)]), (1, [.k .u8 (L0.getD 5 0)]), (2, [.k .u8 (L0.getD (n1 - 1) 0)])] [(1, .sl 6 (n1 - 1)), (2, .sl 0 4), (3, .bs (L0.take (4 - 0))), (4, .bs ([(71 : Int), (78 : Int), (84 : Int), (1 : Int)] : List Int)), (5, .sl 0 (n1 - 1)), (6, (prog_sumT0 (L0) (((n1 - 1) - 0)) ((n2 - 0))  y13_0 0 2))])) (live := [0]) (tv := [some (Value.slice (some ⟨0, (0 + (6 * 1)), none⟩) ((n1 - 1) - 6) (n2 - 6)), some (vn), some (vi (IntKind.i64.wrap (((BitVec.ofInt IntKind.i64.bits (IntKind.i64.wrap ((L0.getD 4 0) * (2 ^ 8 : Int))) ||| BitVec.ofInt IntKind.i64.bits (L0.getD 5 0)).toNat : Nat) : Int))), some (vq)]) (bl := [some (.cells (rowV (encI .u8) L0) 5)]) (ob := [((y13_0 != (L0.getD (n1 - 1) 0)), false), (dP (prog_sumP0 #[Value.slice (some ⟨0, (0 + (0 * 1)), none⟩) ((n1 - 1) - 0) (n2 - 0)] (L0) (((n1 - 1) - 0)) ((n2 - 0))  y13_0 0 2), true), (dS (rowV (encI .u8) L0), true), (dP (0 ≤ (n1 - 1) ∧ (n1 - 1) ≤ n2), true), ((((n1 - 1) : Nat) : Int) == Int.ofNat (n1 - 1), true), (dS 0, true), ((IntKind.i64.wrap ((n1 : Int) - (1 : Int))) == (((n1 - 1) : Nat) : Int), true), ((decide (((((n1 - 1) - 6) : Nat) : Int) > (IntKind.i64.wrap ((IntKind.i64.wrap (((BitVec.ofInt IntKind.i64.bits (IntKind.i64.wrap ((L0.getD 4 0) * (2 ^ 8 : Int))) ||| BitVec.ofInt IntKind.i64.bits (L0.getD 5 0)).toNat : Nat) : Int)) * (10 : Int))))), false), ((decide ((IntKind.i64.wrap (((BitVec.ofInt IntKind.i64.bits (IntKind.i64.wrap ((L0.getD 4 0) * (2 ^ 8 : Int))) ||| BitVec.ofInt IntKind.i64.bits (L0.getD 5 0)).toNat : Nat) : Int)) > (512 : Int))), false), (((strOf (L0.take (4 - 0))).toList == (strOf ([(71 : Int), (78 : Int), (84 : Int), (1 : Int)] : List Int)).toList), true), (dP (takeN 4 (List.drop 0 [Value.int .u8 (71 : Int), Value.int .u8 (78 : Int), Value.int .u8 (84 : Int), Value.int .u8 (1 : Int)]) = some (List.map (Value.int .u8) ([(71 : Int), (78 : Int), (84 : Int), (1 : Int)] : List Int))), true), (dP (takeN (4 - 0) (List.drop (0 + (0 * 1)) (rowV (encI .u8) L0)) = some (List.map (Value.int .u8) (L0.take (4 - 0)))), true), (dP (0 ≤ 4 ∧ 4 ≤ n2), true), ((4 : Int) == Int.ofNat 4, true), (dS 0, true), ((decide ((n1 : Int) ≥ (4 : Int))), true), (sameR (takeN 1 (List.drop (0 + ((n1 - 1) * 1)) (rowV (encI .u8) L0))) [.k .u8 (L0.getD (n1 - 1) 0)], true), (Nat.blt (n1 - 1) n1, true), ((((n1 - 1) : Nat) : Int) == Int.ofNat (n1 - 1), true), ((IntKind.i64.wrap ((n1 : Int) - (1 : Int))) == (((n1 - 1) : Nat) : Int), true), (dP (6 ≤ (n1 - 1) ∧ (n1 - 1) ≤ n2), true), ((((n1 - 1) : Nat) : Int) == Int.ofNat (n1 - 1), true), ((6 : Int) == Int.ofNat 6, true), ((IntKind.i64.wrap ((n1 : Int) - (1 : Int))) == (((n1 - 1) : Nat) : Int), true), ((IntKind.i64.wrap (L0.getD 5 0)) == (L0.getD 5 0), true), (sameR (takeN 1 (List.drop (0 + (5 * 1)) (rowV (encI .u8) L0))) [.k .u8 (L0.getD 5 0)], true), (Nat.blt 5 n1, true), ((5 : Int) == Int.ofNat 5, true), ((IntKind.i64.wrap (L0.getD 4 0)) == (L0.getD 4 0), true), (sameR (takeN 1 (List.drop (0 + (4 * 1)) (rowV (encI .u8) L0))) [.k .u8 (L0.getD 4 0)], true), (Nat.blt 4 n1, true), ((4 : Int) == Int.ofNat 4, true), ((decide ((n1 : Int) < (7 : Int))), false)]) rfl rfl (show rids (prog_Decode_2C 1).2 = [] from rfl) (by kernel_rfl) (oE <| obs_cons (dP_of (prog_sumC0 #[Value.slice (some ⟨0, (0 + (0 * 1)), none⟩) ((n1 - 1) - 0) (n2 - 0)] (L0) (((n1 - 1) - 0)) ((n2 - 0))  y13_0 N c13 0 2 (array_eq (cons_eq (slice_eq eqA rfl rfl) rfl)) (by decide) (by decide))) <| oR <| obs_cons (dP_of ⟨ltA, ltA⟩) <| oI <| oR <| obs_cons (beq_iff_eq.2 ((wrap_i64 ltA).trans (by first | rfl | omega))) <| oN <| oN <| obs_cons (strB_t (x := (L0.take (4 - 0))) (y := ([(71 : Int), (78 : Int), (84 : Int), (1 : Int)] : List Int)) (by assumption)) <| oR <| obs_cons (dP_of (bs_row (L := L0) (a := 0) (by omega) (by show _ = _ * 1; omega) (by first | rfl | simp))) <| obs_cons (dP_of ⟨ltA, ltA⟩) <| oI <| oR <| oY <| obs_cons (rowV_load (E := (encI .u8)) (L := L0) (i := (n1 - 1)) (q := 0) (by omega) (show (0 + ((n1 - 1) * 1)) = (n1 - 1) * 1 + 0 from by omega) (show 0 + 1 ≤ 1 from by decide) rfl rfl) <| oB <| oI <| obs_cons (beq_iff_eq.2 ((wrap_i64 ltA).trans (by first | rfl | omega))) <| obs_cons (dP_of ⟨ltA, ltA⟩) <| oI <| oI <| obs_cons (beq_iff_eq.2 ((wrap_i64 ltA).trans (by first | rfl | omega))) <| obs_cons (beq_iff_eq.2 (wrap_i64 ltA)) <| obs_cons (rowV_load (E := (encI .u8)) (L := L0) (i := 5) (q := 0) (by omega) (show (0 + (5 * 1)) = 5 * 1 + 0 from by omega) (show 0 + 1 ≤ 1 from by decide) rfl rfl) <| oB <| oI <| obs_cons (beq_iff_eq.2 (wrap_i64 ltA)) <| obs_cons (rowV_load (E := (encI .u8)) (L := L0) (i := 4) (q := 0) (by omega) (show (0 + (4 * 1)) = 4 * 1 + 0 from by omega) (show 0 + 1 ≤ 1 from by decide) rfl rfl) <| oB <| oI <| oN obs_nil) rfl (by decide) (by rfl) ⟨⟨Eq.trans (show (vs 0 6 ((n1 - 1) - 6) (n2 - 6) : Value) = Value.slice (some ⟨0, (0 + (6 * 1)), none⟩) ((n1 - 1) - 6) (n2 - 6) from (slice_eq eqA rfl rfl)) (by rfl), by rfl⟩, ⟨rr, ⟨rr, ⟨rr, trivial⟩⟩⟩⟩ ⟨(same_row (E := (encI .u8)) (α := Int) _ L0 _), trivial⟩
           ·
            exact Mach.en_fin (M := prog_Decode_2M L0 n1 n2 N) (cd := 1000000) (cm := 0) (r := (.r0 ((110 : Int)) : prog_Decode_2R)) (fu := 4000) (orc := (orcw [(0, false), (1, true), (2, false)] [(0, (L0.getD 4 0)), (2, (L0.getD 5 0)), (4, (((n1 - 1) : Nat) : Int)), (5, (((n1 - 1) : Nat) : Int))] [(0, 4), (1, 5), (2, (n1 - 1))] [(0, [.k .u8 (L0.getD 4 0)]), (1, [.k .u8 (L0.getD 5 0)]), (2, [.k .u8 (L0.getD (n1 - 1) 0)])] [(1, .sl 6 (n1 - 1)), (2, .sl 0 4), (3, .bs (L0.take (4 - 0))), (4, .bs ([(71 : Int), (78 : Int), (84 : Int), (1 : Int)] : List Int))])) (live := [0]) (u := Value.tuple #[vn, vi (110 : Int)]) (bl := [some (.cells (rowV (encI .u8) L0) 5)]) (ob := [(((strOf (L0.take (4 - 0))).toList == (strOf ([(71 : Int), (78 : Int), (84 : Int), (1 : Int)] : List Int)).toList), false), (dP (takeN 4 (List.drop 0 [Value.int .u8 (71 : Int), Value.int .u8 (78 : Int), Value.int .u8 (84 : Int), Value.int .u8 (1 : Int)]) = some (List.map (Value.int .u8) ([(71 : Int), (78 : Int), (84 : Int), (1 : Int)] : List Int))), true), (dP (takeN (4 - 0) (List.drop (0 + (0 * 1)) (rowV (encI .u8) L0)) = some (List.map (Value.int .u8) (L0.take (4 - 0)))), true), (dP (0 ≤ 4 ∧ 4 ≤ n2), true), ((4 : Int) == Int.ofNat 4, true), (dS 0, true), ((decide ((n1 : Int) ≥ (4 : Int))), true), (sameR (takeN 1 (List.drop (0 + ((n1 - 1) * 1)) (rowV (encI .u8) L0))) [.k .u8 (L0.getD (n1 - 1) 0)], true), (Nat.blt (n1 - 1) n1, true), ((((n1 - 1) : Nat) : Int) == Int.ofNat (n1 - 1), true), ((IntKind.i64.wrap ((n1 : Int) - (1 : Int))) == (((n1 - 1) : Nat) : Int), true), (dP (6 ≤ (n1 - 1) ∧ (n1 - 1) ≤ n2), true), ((((n1 - 1) : Nat) : Int) == Int.ofNat (n1 - 1), true), ((6 : Int) == Int.ofNat 6, true), ((IntKind.i64.wrap ((n1 : Int) - (1 : Int))) == (((n1 - 1) : Nat) : Int), true), ((IntKind.i64.wrap (L0.getD 5 0)) == (L0.getD 5 0), true), (sameR (takeN 1 (List.drop (0 + (5 * 1)) (rowV (encI .u8) L0))) [.k .u8 (L0.getD 5 0)], true), (Nat.blt 5 n1, true), ((5 : Int) == Int.ofNat 5, true), ((IntKind.i64.wrap (L0.getD 4 0)) == (L0.getD 4 0), true), (sameR (takeN 1 (List.drop (0 + (4 * 1)) (rowV (encI .u8) L0))) [.k .u8 (L0.getD 4 0)], true), (Nat.blt 4 n1, true), ((4 : Int) == Int.ofNat 4, true), ((decide ((n1 : Int) < (7 : Int))), false)]) (by kernel_rfl) (obs_cons (strB_f (x := (L0.take (4 - 0))) (y := ([(71 : Int), (78 : Int), (84 : Int), (1 : Int)] : List Int)) (by assumption)) <| oR <| obs_cons (dP_of (bs_row (L := L0) (a := 0) (by omega) (by show _ = _ * 1; omega) (by first | rfl | simp))) <| obs_cons (dP_of ⟨ltA, ltA⟩) <| oI <| oR <| oY <| obs_cons (rowV_load (E := (encI .u8)) (L := L0) (i := (n1 - 1)) (q := 0) (by omega) (show (0 + ((n1 - 1) * 1)) = (n1 - 1) * 1 + 0 from by omega) (show 0 + 1 ≤ 1 from by decide) rfl rfl) <| oB <| oI <| obs_cons (beq_iff_eq.2 ((wrap_i64 ltA).trans (by first | rfl | omega))) <| obs_cons (dP_of ⟨ltA, ltA⟩) <| oI <| oI <| obs_cons (beq_iff_eq.2 ((wrap_i64 ltA).trans (by first | rfl | omega))) <| obs_cons (beq_iff_eq.2 (wrap_i64 ltA)) <| obs_cons (rowV_load (E := (encI .u8)) (L := L0) (i := 5) (q := 0) (by omega) (show (0 + (5 * 1)) = 5 * 1 + 0 from by omega) (show 0 + 1 ≤ 1 from by decide) rfl rfl) <| oB <| oI <| obs_cons (beq_iff_eq.2 (wrap_i64 ltA)) <| obs_cons (rowV_load (E := (encI .u8)) (L := L0) (i := 4) (q := 0) (by omega) (show (0 + (4 * 1)) = 4 * 1 + 0 from by omega) (show 0 + 1 ≤ 1 from by decide) rfl rfl) <| oB <| oI <| oN obs_nil) rfl (by decide) (by rfl) rr ⟨(same_row (E := (encI .u8)) (α := Int) _ L0 _), trivial⟩
          ·
           exact Mach.en_none
         ·
          exact Mach.en_none
        ·
         exact Mach.en_none
       ·
        exact Mach.en_none
      ·
       exact Mach.en_none
     ·
      exact Mach.en_none
    ·
     exact Mach.en_none
   ·
    exact Mach.en_none
  ·
   exact Mach.en_none

theorem prog_Decode_2_spec (L0 : List Int) (n1 n2 N : Nat) (r : prog_Decode_2R) (h : prog_Decode_2 L0 n1 n2 N = some r) : LSpec Try.prog 8 #[vs 0 0 n1 n2] [.cells (rowV (encI .u8) L0) 5] (prog_Decode_2V L0 n1 n2 r) (prog_Decode_2Po L0 n1 n2 r) :=
 Mach.spec fit_Pk (prog_Decode_2M L0 n1 n2 N) Try.func8 (by kernel_rfl) (by kernel_rfl) (fun x => by cases x <;> exact le_far _ rfl) (fun r => by cases r <;> exact le_far _ rfl) (fun x => by
  cases x with
  | h1m0 => exact fun _ => (show ¬ (1 ∈ rids (prog_Decode_2C 1).2) from by decide +kernel)
  | h1m1 _ _ => exact fun _ => (show ¬ (1 ∈ rids (prog_Decode_2C 1).2) from by decide +kernel)
  | h1m2 _ _ _ => exact fun _ => (show ¬ (1 ∈ rids (prog_Decode_2C 1).2) from by decide +kernel)
  ) (fun x => (show (prog_Decode_2M L0 n1 n2 N).Ok Try.prog ext_Pk x (prog_Decode_2Step L0 n1 n2 N x) from by
  cases x with
  | h1m0 => exact prog_Decode_2_ok1_0 L0 n1 n2 N
  | h1m1 v1 v3 => exact prog_Decode_2_ok1_1 L0 n1 n2 v1 v3 N
  | h1m2 v1 v2 v4 => exact prog_Decode_2_ok1_2 L0 n1 n2 v1 v2 v4 N
  )) (prog_Decode_2_en L0 n1 n2 N) (n := N) h

noncomputable def prog_Decode_2T0 (L0 : List Int) (n1 n2 : Nat) (w1 : Int) (k0 n : Nat) : Told := .call [(k0, .cells (rowV (encI .u8) L0) 5)] (Value.tuple #[vn, vi w1]) [] 0
def prog_Decode_2P0 (A : Array Value) (L0 : List Int) (n1 n2 : Nat) (w1 : Int) (k0 n : Nat) : Prop := CallSpec Try.prog 8 A [(k0, .cells (rowV (encI .u8) L0) 5)] (Value.tuple #[vn, vi w1]) [] n 0

theorem prog_Decode_2C0 (A : Array Value) (L0 : List Int) (n1 n2 : Nat) (w1 : Int) (N : Nat) (h : prog_Decode_2 L0 n1 n2 N = some (.r0 w1)) (k0 n : Nat) (hA : A = #[vs k0 0 n1 n2]) (hnd : ([k0] : List Nat).Nodup) (hlt : ∀ k ∈ ([k0] : List Nat), k < n) : prog_Decode_2P0 A L0 n1 n2 w1 k0 n :=
 cs_args hA (LSpec.callL (show LSpec Try.prog 8 #[vs 0 0 n1 n2] [.cells (rowV (encI .u8) L0) 5] (Value.tuple #[vn, vi w1]) [some (.cells (rowV (encI .u8) L0) 5)] from prog_Decode_2_spec L0 n1 n2 N _ h) [k0] n [] rfl hnd hlt (show 1 ≤ 1 from by decide) (show ∀ j ∈ ([] : List Nat), j < 1 from by decide) (by rfl) ⟨(under_row _ _ _), trivial⟩ (by rfl) ⟨(under_row _ _ _), trivial⟩ ⟨.inr rfl, trivial⟩ rfl rfl rfl (cons_eq (pair_eq rfl (renO_row _ _ _)) rfl) rfl)

noncomputable def prog_Decode_2T1 (L0 : List Int) (n1 n2 : Nat) (w1 : List R_iiii) (k0 n : Nat) : Told := .call [(k0, .cells (rowV (encI .u8) L0) 5)] (Value.tuple #[vs n 0 w1.length w1.length, vq]) [(n, some (.cells (rowV E_iiii w1) 38))] 1
def prog_Decode_2P1 (A : Array Value) (L0 : List Int) (n1 n2 : Nat) (w1 : List R_iiii) (k0 n : Nat) : Prop := CallSpec Try.prog 8 A [(k0, .cells (rowV (encI .u8) L0) 5)] (Value.tuple #[vs n 0 w1.length w1.length, vq]) [(n, some (.cells (rowV E_iiii w1) 38))] n 1

theorem prog_Decode_2C1 (A : Array Value) (L0 : List Int) (n1 n2 : Nat) (w1 : List R_iiii) (N : Nat) (h : prog_Decode_2 L0 n1 n2 N = some (.r1 w1)) (k0 n : Nat) (hA : A = #[vs k0 0 n1 n2]) (hnd : ([k0] : List Nat).Nodup) (hlt : ∀ k ∈ ([k0] : List Nat), k < n) : prog_Decode_2P1 A L0 n1 n2 w1 k0 n :=
 cs_args hA (LSpec.callL (show LSpec Try.prog 8 #[vs 0 0 n1 n2] [.cells (rowV (encI .u8) L0) 5] (Value.tuple #[vs 1 0 w1.length w1.length, vq]) [some (.cells (rowV (encI .u8) L0) 5), some (.cells (rowV E_iiii w1) 38)] from prog_Decode_2_spec L0 n1 n2 N _ h) [k0] n [1] rfl hnd hlt (show 1 ≤ 2 from by decide) (show ∀ j ∈ ([1] : List Nat), j < 2 from by decide) (by rfl) ⟨(under_row _ _ _), trivial⟩ (by rfl) ⟨(under_row _ _ _), ⟨(under_row _ _ _), trivial⟩⟩ ⟨.inr rfl, ⟨(by decide), trivial⟩⟩ rfl rfl rfl (cons_eq (pair_eq rfl (renO_row _ _ _)) rfl) (cons_eq (pair_eq rfl (some_eq (renO_row _ _ _))) rfl))

noncomputable def ref11_SameV (o0 : Nat) (L1 : List R_iiii) (n2 n3 : Nat) (O0 : Obj) : ref11_SameR → Value
 | .r0 w2 => Value.bool w2
noncomputable def ref11_SamePo (o0 : Nat) (L1 : List R_iiii) (n2 n3 : Nat) (O0 : Obj) : ref11_SameR → List (Option AObj)
 | .r0 w2 => [some (.ro O0)]

def ref11_SameHd : ref11_SameX → Nat
 | .h1m0 => 1
noncomputable def ref11_SameL (o0 : Nat) (L1 : List R_iiii) (n2 n3 : Nat) (O0 : Obj) : ref11_SameX → List (Nat × Value)
 | .h1m0 => [(0, vs 0 o0 n2 n3), (1, vn), (5, vq)]
noncomputable def ref11_SameH (o0 : Nat) (L1 : List R_iiii) (n2 n3 : Nat) (O0 : Obj) : ref11_SameX → List (Option AObj)
 | .h1m0 => [some (.ro O0)]

noncomputable def ref11_SameC : Nat → Code × List Kont
 | 1 => headOf [1, 1, 0, 1, 3] (bodyC Try.f9) []
 | _ => (.skip, [])
def ref11_SameIL : Nat → Bool
 | 1 => true
 | _ => true
noncomputable def ref11_SameM (o0 : Nat) (L1 : List R_iiii) (n2 n3 : Nat) (O0 : Obj) (N : Nat) : Mach := ⟨Try.f9, [.ro O0], ref11_SameX, ref11_SameR, ref11_SameStep L1 n2 n3 N, ref11_SameHd, ref11_SameC, ref11_SameIL, ref11_SameL o0 L1 n2 n3 O0, ref11_SameH o0 L1 n2 n3 O0, ref11_SameV o0 L1 n2 n3 O0, ref11_SamePo o0 L1 n2 n3 O0⟩

theorem ref11_Same_ok1_0 (o0 : Nat) (L1 : List R_iiii) (n2 n3 : Nat) (O0 : Obj) (F0 : RO_iiii O0 o0 L1) (N : Nat) : (ref11_SameM o0 L1 n2 n3 O0 N).Ok Try.prog ext_Pk (.h1m0 : ref11_SameX) (ref11_SameStep L1 n2 n3 N (.h1m0 : ref11_SameX)) := by
 show (ref11_SameM o0 L1 n2 n3 O0 N).Ok Try.prog ext_Pk (.h1m0 : ref11_SameX) (ref11_Same_h1m0 L1 n2 n3 N)
 unfold ref11_Same_h1m0
 refine Mach.ok_ite (fun g0 => ?_) (fun g0 => ?_)
 ·
  exact Mach.ok_none
 ·
  exact Mach.ok_fin (M := ref11_SameM o0 L1 n2 n3 O0 N) (cd := 1000000) (cm := 0) (r := (.r0 (true) : ref11_SameR)) (fu := 4000) (orc := (orcw [(0, false)] [] [] [] [])) (live := [0]) (u := vT) (bl := [some (.ro O0)]) (ob := [((decide ((0 : Int) < (n2 : Int))), false)]) (fun gv => by kernel_rfl) (oN obs_nil) rfl (by decide) (by rfl) rr ⟨rfl, trivial⟩

theorem ref11_Same_en (o0 : Nat) (L1 : List R_iiii) (n2 n3 : Nat) (O0 : Obj) (F0 : RO_iiii O0 o0 L1) (N : Nat) : (ref11_SameM o0 L1 n2 n3 O0 N).Enter Try.prog ext_Pk #[vs 0 o0 n2 n3, vn] (ref11_SameIn L1 n2 n3 N) := by
 unfold ref11_SameIn
 refine Mach.en_ite (fun g0 => ?_) (fun g0 => ?_)
 ·
  exact Mach.en_fin (M := ref11_SameM o0 L1 n2 n3 O0 N) (cd := 1000000) (cm := 0) (r := (.r0 (false) : ref11_SameR)) (fu := 4000) (orc := (orcw [(0, true)] [] [] [] [])) (live := [0]) (u := vf) (bl := [some (.ro O0)]) (ob := [(((n2 : Int) != (0 : Int)), true)]) (by kernel_rfl) (oD obs_nil) rfl (by decide) (by rfl) rr ⟨rfl, trivial⟩
 ·
  exact Mach.en_head (bK := ref11_SameC 1) (M := ref11_SameM o0 L1 n2 n3 O0 N) (cd := 1000000) (cm := 0) (y := (.h1m0 : ref11_SameX)) (fu := 4000) (orc := (orcw [(0, false)] [] [] [] [])) (live := [0]) (tv := [some (vs 0 o0 n2 n3), some (vn), some (vq)]) (bl := [some (.ro O0)]) (ob := [(((n2 : Int) != (0 : Int)), false)]) rfl rfl (show rids (ref11_SameC 1).2 = [] from rfl) (by kernel_rfl) (oE obs_nil) rfl (by decide) (by rfl) ⟨rr, ⟨rr, ⟨rr, trivial⟩⟩⟩ ⟨rfl, trivial⟩

theorem ref11_Same_spec (o0 : Nat) (L1 : List R_iiii) (n2 n3 : Nat) (O0 : Obj) (F0 : RO_iiii O0 o0 L1) (N : Nat) (r : ref11_SameR) (h : ref11_Same L1 n2 n3 N = some r) : LSpec Try.prog 9 #[vs 0 o0 n2 n3, vn] [.ro O0] (ref11_SameV o0 L1 n2 n3 O0 r) (ref11_SamePo o0 L1 n2 n3 O0 r) :=
 Mach.spec fit_Pk (ref11_SameM o0 L1 n2 n3 O0 N) Try.func9 (by kernel_rfl) (by kernel_rfl) (fun x => by cases x <;> exact le_far _ rfl) (fun r => by cases r <;> exact le_far _ rfl) (fun x => by
  cases x with
  | h1m0 => exact fun _ => (show ¬ (1 ∈ rids (ref11_SameC 1).2) from by decide +kernel)
  ) (fun x => (show (ref11_SameM o0 L1 n2 n3 O0 N).Ok Try.prog ext_Pk x (ref11_SameStep L1 n2 n3 N x) from by
  cases x with
  | h1m0 => exact ref11_Same_ok1_0 o0 L1 n2 n3 O0 F0 N
  )) (ref11_Same_en o0 L1 n2 n3 O0 F0 N) (n := N) h

noncomputable def ref11_SameT0 (o0 : Nat) (L1 : List R_iiii) (n2 n3 : Nat) (O0 : Obj) (w2 : Bool) (k0 n : Nat) : Told := .call [(k0, .ro O0)] (Value.bool w2) [] 0
def ref11_SameP0 (A : Array Value) (o0 : Nat) (L1 : List R_iiii) (n2 n3 : Nat) (O0 : Obj) (w2 : Bool) (k0 n : Nat) : Prop := CallSpec Try.prog 9 A [(k0, .ro O0)] (Value.bool w2) [] n 0

theorem ref11_SameC0 (A : Array Value) (o0 : Nat) (L1 : List R_iiii) (n2 n3 : Nat) (O0 : Obj) (F0 : RO_iiii O0 o0 L1) (w2 : Bool) (N : Nat) (h : ref11_Same L1 n2 n3 N = some (.r0 w2)) (k0 n : Nat) (hA : A = #[vs k0 o0 n2 n3, vn]) (hnd : ([k0] : List Nat).Nodup) (hlt : ∀ k ∈ ([k0] : List Nat), k < n) : ref11_SameP0 A o0 L1 n2 n3 O0 w2 k0 n :=
 cs_args hA (LSpec.callL (show LSpec Try.prog 9 #[vs 0 o0 n2 n3, vn] [.ro O0] (Value.bool w2) [some (.ro O0)] from ref11_Same_spec o0 L1 n2 n3 O0 F0 N _ h) [k0] n [] rfl hnd hlt (show 1 ≤ 1 from by decide) (show ∀ j ∈ ([] : List Nat), j < 1 from by decide) (by rfl) ⟨rfl, trivial⟩ (by rfl) ⟨rfl, trivial⟩ ⟨.inr rfl, trivial⟩ rfl rfl rfl (cons_eq (pair_eq rfl rfl) rfl) rfl)

noncomputable def ref11_Same_2V (o0 : Nat) (L1 : List R_iiii) (n2 n3 : Nat) (L4 : List R_iiii) (O0 : Obj) : ref11_Same_2R → Value
 | .r0 w3 => Value.bool w3
noncomputable def ref11_Same_2Po (o0 : Nat) (L1 : List R_iiii) (n2 n3 : Nat) (L4 : List R_iiii) (O0 : Obj) : ref11_Same_2R → List (Option AObj)
 | .r0 w3 => [some (.ro O0), some (.cells (rowV E_iiii L4) 38)]

def ref11_Same_2Hd : ref11_Same_2X → Nat
 | .h1m0 v5 => 1
noncomputable def ref11_Same_2L (o0 : Nat) (L1 : List R_iiii) (n2 n3 : Nat) (L4 : List R_iiii) (O0 : Obj) : ref11_Same_2X → List (Nat × Value)
 | .h1m0 v5 => [(0, vs 0 o0 n2 n3), (1, vs 1 0 L4.length L4.length), (5, vi (v5 : Int))]
noncomputable def ref11_Same_2H (o0 : Nat) (L1 : List R_iiii) (n2 n3 : Nat) (L4 : List R_iiii) (O0 : Obj) : ref11_Same_2X → List (Option AObj)
 | .h1m0 v5 => [some (.ro O0), some (.cells (rowV E_iiii L4) 38)]

noncomputable def ref11_Same_2C : Nat → Code × List Kont
 | 1 => headOf [1, 1, 0, 1, 3] (bodyC Try.f9) []
 | _ => (.skip, [])
def ref11_Same_2IL : Nat → Bool
 | 1 => true
 | _ => true
noncomputable def ref11_Same_2K (i : Nat) : List Kont := match ref11_Same_2IL i with | true => .rnd i :: (ref11_Same_2C i).2 | false => (ref11_Same_2C i).2

noncomputable def ref11_Same_2M (o0 : Nat) (L1 : List R_iiii) (n2 n3 : Nat) (L4 : List R_iiii) (O0 : Obj) (N : Nat) : Mach := ⟨Try.f9, [.ro O0, .cells (rowV E_iiii L4) 38], ref11_Same_2X, ref11_Same_2R, ref11_Same_2Step L1 n2 n3 L4 N, ref11_Same_2Hd, ref11_Same_2C, ref11_Same_2IL, ref11_Same_2L o0 L1 n2 n3 L4 O0, ref11_Same_2H o0 L1 n2 n3 L4 O0, ref11_Same_2V o0 L1 n2 n3 L4 O0, ref11_Same_2Po o0 L1 n2 n3 L4 O0⟩

theorem ref11_Same_2_ok1_0 (o0 : Nat) (L1 : List R_iiii) (n2 n3 : Nat) (L4 : List R_iiii) (O0 : Obj) (F0 : RO_iiii O0 o0 L1) (v5 N : Nat) : (ref11_Same_2M o0 L1 n2 n3 L4 O0 N).Ok Try.prog ext_Pk (.h1m0 v5 : ref11_Same_2X) (ref11_Same_2Step L1 n2 n3 L4 N (.h1m0 v5 : ref11_Same_2X)) := by
 show (ref11_Same_2M o0 L1 n2 n3 L4 O0 N).Ok Try.prog ext_Pk (.h1m0 v5 : ref11_Same_2X) (ref11_Same_2_h1m0 L1 n2 n3 L4 N v5)
 unfold ref11_Same_2_h1m0
 refine Mach.ok_ite (fun g0 => ?_) (fun g0 => ?_)
 ·
  refine Mach.ok_ite (fun g1 => ?_) (fun g1 => ?_)
  ·
   refine Mach.ok_ite (fun g2 => ?_) (fun g2 => ?_)
   ·
    refine Mach.ok_ite (fun g3 => ?_) (fun g3 => ?_)
    ·
     exact Mach.ok_fin (M := ref11_Same_2M o0 L1 n2 n3 L4 O0 N) (cd := 1000000) (cm := 0) (r := (.r0 (false) : ref11_Same_2R)) (fu := 4000) (orc := (orcw [(0, true), (1, true)] [] [(0, v5), (1, v5)] [(0, [.i (L1.getD v5 R_iiii.z).a0, .i (L1.getD v5 R_iiii.z).a1, .i (L1.getD v5 R_iiii.z).a2, .i (L1.getD v5 R_iiii.z).a3]), (1, [.i (L4.getD v5 R_iiii.z).a0, .i (L4.getD v5 R_iiii.z).a1, .i (L4.getD v5 R_iiii.z).a2, .i (L4.getD v5 R_iiii.z).a3])] [])) (live := [0, 1]) (u := vf) (bl := [some (.ro O0), some (.cells (rowV E_iiii L4) 38)]) (ob := [((!(((L1.getD v5 R_iiii.z).a0 == (L4.getD v5 R_iiii.z).a0) && (((L1.getD v5 R_iiii.z).a1 == (L4.getD v5 R_iiii.z).a1) && (((L1.getD v5 R_iiii.z).a2 == (L4.getD v5 R_iiii.z).a2) && (((L1.getD v5 R_iiii.z).a3 == (L4.getD v5 R_iiii.z).a3) && true))))), true), (sameR (takeN 4 (List.drop (0 + (v5 * 4)) (rowV E_iiii L4))) [.i (L4.getD v5 R_iiii.z).a0, .i (L4.getD v5 R_iiii.z).a1, .i (L4.getD v5 R_iiii.z).a2, .i (L4.getD v5 R_iiii.z).a3], true), (Nat.blt v5 L4.length, true), ((v5 : Int) == Int.ofNat v5, true), (sameR (roRow O0 (o0 + (v5 * 4)) 4) [.i (L1.getD v5 R_iiii.z).a0, .i (L1.getD v5 R_iiii.z).a1, .i (L1.getD v5 R_iiii.z).a2, .i (L1.getD v5 R_iiii.z).a3], true), (Nat.blt v5 n2, true), ((v5 : Int) == Int.ofNat v5, true), ((decide ((v5 : Int) < (n2 : Int))), true)]) (fun gv => by kernel_rfl) (obs_cons (by rw [Bool.not_eq_true']; exact Bool.eq_false_iff.2 (by simp only [ne_eq, Bool.and_true, Bool.and_eq_true, beq_iff_eq]; first | omega | (intro hh; simp_all; done))) <| obs_cons (rowV_load (E := E_iiii) (L := L4) (i := v5) (q := 0) (by omega) (show (0 + (v5 * 4)) = v5 * 4 + 0 from by omega) (show 0 + 4 ≤ 4 from by decide) rfl rfl) <| oB <| oI <| obs_cons ((show (o0 + v5 * 4 + 0) = (o0 + (v5 * 4)) from by omega) ▸ F0 v5 (by omega) 0 4 (show 0 + 4 ≤ 4 from by decide)) <| oB <| oI <| oY obs_nil) rfl (by decide) (by rfl) rr ⟨rfl, ⟨(same_row (E := E_iiii) (α := R_iiii) _ L4 _), trivial⟩⟩
    ·
     refine Mach.ok_ite (fun g4 => ?_) (fun g4 => ?_)
     ·
      exact Mach.ok_next (M := ref11_Same_2M o0 L1 n2 n3 L4 O0 N) (cd := 1000000) (cm := 0) (y := (.h1m0 ((v5 + 1)) : ref11_Same_2X)) (fu := 4000) (orc := (orcw [(0, true), (1, false)] [(0, (((v5 + 1) : Nat) : Int))] [(0, v5), (1, v5)] [(0, [.i (L1.getD v5 R_iiii.z).a0, .i (L1.getD v5 R_iiii.z).a1, .i (L1.getD v5 R_iiii.z).a2, .i (L1.getD v5 R_iiii.z).a3]), (1, [.i (L4.getD v5 R_iiii.z).a0, .i (L4.getD v5 R_iiii.z).a1, .i (L4.getD v5 R_iiii.z).a2, .i (L4.getD v5 R_iiii.z).a3])] [])) (live := [0, 1]) (tv := fun _ => [some (vs 0 o0 n2 n3), some (vs 1 0 L4.length L4.length), some (vi (((v5 + 1) : Nat) : Int))]) (bl := [some (.ro O0), some (.cells (rowV E_iiii L4) 38)]) (ob := [((IntKind.i64.wrap ((v5 : Int) + (1 : Int))) == (((v5 + 1) : Nat) : Int), true), ((!(((L1.getD v5 R_iiii.z).a0 == (L4.getD v5 R_iiii.z).a0) && (((L1.getD v5 R_iiii.z).a1 == (L4.getD v5 R_iiii.z).a1) && (((L1.getD v5 R_iiii.z).a2 == (L4.getD v5 R_iiii.z).a2) && (((L1.getD v5 R_iiii.z).a3 == (L4.getD v5 R_iiii.z).a3) && true))))), false), (sameR (takeN 4 (List.drop (0 + (v5 * 4)) (rowV E_iiii L4))) [.i (L4.getD v5 R_iiii.z).a0, .i (L4.getD v5 R_iiii.z).a1, .i (L4.getD v5 R_iiii.z).a2, .i (L4.getD v5 R_iiii.z).a3], true), (Nat.blt v5 L4.length, true), ((v5 : Int) == Int.ofNat v5, true), (sameR (roRow O0 (o0 + (v5 * 4)) 4) [.i (L1.getD v5 R_iiii.z).a0, .i (L1.getD v5 R_iiii.z).a1, .i (L1.getD v5 R_iiii.z).a2, .i (L1.getD v5 R_iiii.z).a3], true), (Nat.blt v5 n2, true), ((v5 : Int) == Int.ofNat v5, true), ((decide ((v5 : Int) < (n2 : Int))), true)]) rfl (show 1 ∈ rids (ref11_Same_2K 1) from by decide +kernel) (fun gv => by kernel_rfl) (obs_cons (beq_iff_eq.2 ((wrap_i64 ltA).trans (by first | rfl | omega))) <| obs_cons (by rw [Bool.not_eq_false']; first | (simp only [beq_self_eq_true, Bool.and_self]; done) | (simp only [Bool.and_true, Bool.and_eq_true, beq_iff_eq] <;> first | omega | (simp_all; done))) <| obs_cons (rowV_load (E := E_iiii) (L := L4) (i := v5) (q := 0) (by omega) (show (0 + (v5 * 4)) = v5 * 4 + 0 from by omega) (show 0 + 4 ≤ 4 from by decide) rfl rfl) <| oB <| oI <| obs_cons ((show (o0 + v5 * 4 + 0) = (o0 + (v5 * 4)) from by omega) ▸ F0 v5 (by omega) 0 4 (show 0 + 4 ≤ 4 from by decide)) <| oB <| oI <| oY obs_nil) rfl (by decide) (by rfl) (fun _ => ⟨rr, ⟨rr, ⟨rr, trivial⟩⟩⟩) ⟨rfl, ⟨(same_row (E := E_iiii) (α := R_iiii) _ L4 _), trivial⟩⟩
     ·
      exact Mach.ok_none
   ·
    exact Mach.ok_none
  ·
   exact Mach.ok_none
 ·
  exact Mach.ok_fin (M := ref11_Same_2M o0 L1 n2 n3 L4 O0 N) (cd := 1000000) (cm := 0) (r := (.r0 (true) : ref11_Same_2R)) (fu := 4000) (orc := (orcw [(0, false)] [] [] [] [])) (live := [0, 1]) (u := vT) (bl := [some (.ro O0), some (.cells (rowV E_iiii L4) 38)]) (ob := [((decide ((v5 : Int) < (n2 : Int))), false)]) (fun gv => by kernel_rfl) (oN obs_nil) rfl (by decide) (by rfl) rr ⟨rfl, ⟨(same_row (E := E_iiii) (α := R_iiii) _ L4 _), trivial⟩⟩

theorem ref11_Same_2_en (o0 : Nat) (L1 : List R_iiii) (n2 n3 : Nat) (L4 : List R_iiii) (O0 : Obj) (F0 : RO_iiii O0 o0 L1) (N : Nat) : (ref11_Same_2M o0 L1 n2 n3 L4 O0 N).Enter Try.prog ext_Pk #[vs 0 o0 n2 n3, vs 1 0 L4.length L4.length] (ref11_Same_2In L1 n2 n3 L4 N) := by
 unfold ref11_Same_2In
 refine Mach.en_ite (fun g0 => ?_) (fun g0 => ?_)
 ·
  exact Mach.en_fin (M := ref11_Same_2M o0 L1 n2 n3 L4 O0 N) (cd := 1000000) (cm := 0) (r := (.r0 (false) : ref11_Same_2R)) (fu := 4000) (orc := (orcw [(0, true)] [] [] [] [])) (live := [0, 1]) (u := vf) (bl := [some (.ro O0), some (.cells (rowV E_iiii L4) 38)]) (ob := [(((n2 : Int) != ((L4.length : Nat) : Int)), true)]) (by kernel_rfl) (oD obs_nil) rfl (by decide) (by rfl) rr ⟨rfl, ⟨(same_row (E := E_iiii) (α := R_iiii) _ L4 _), trivial⟩⟩
 ·
  exact Mach.en_head (bK := ref11_Same_2C 1) (M := ref11_Same_2M o0 L1 n2 n3 L4 O0 N) (cd := 1000000) (cm := 0) (y := (.h1m0 (0) : ref11_Same_2X)) (fu := 4000) (orc := (orcw [(0, false)] [] [] [] [])) (live := [0, 1]) (tv := [some (vs 0 o0 n2 n3), some (vs 1 0 L4.length L4.length), some (vq)]) (bl := [some (.ro O0), some (.cells (rowV E_iiii L4) 38)]) (ob := [(((n2 : Int) != ((L4.length : Nat) : Int)), false)]) rfl rfl (show rids (ref11_Same_2C 1).2 = [] from rfl) (by kernel_rfl) (oE obs_nil) rfl (by decide) (by rfl) ⟨rr, ⟨rr, ⟨⟨Eq.trans (show (vi ((0 : Nat) : Int) : Value) = vq from (congrArg (Value.int .i64) (by first | rfl | omega))) (by rfl), by rfl⟩, trivial⟩⟩⟩ ⟨rfl, ⟨(same_row (E := E_iiii) (α := R_iiii) _ L4 _), trivial⟩⟩

theorem ref11_Same_2_spec (o0 : Nat) (L1 : List R_iiii) (n2 n3 : Nat) (L4 : List R_iiii) (O0 : Obj) (F0 : RO_iiii O0 o0 L1) (N : Nat) (r : ref11_Same_2R) (h : ref11_Same_2 L1 n2 n3 L4 N = some r) : LSpec Try.prog 9 #[vs 0 o0 n2 n3, vs 1 0 L4.length L4.length] [.ro O0, .cells (rowV E_iiii L4) 38] (ref11_Same_2V o0 L1 n2 n3 L4 O0 r) (ref11_Same_2Po o0 L1 n2 n3 L4 O0 r) :=
 Mach.spec fit_Pk (ref11_Same_2M o0 L1 n2 n3 L4 O0 N) Try.func9 (by kernel_rfl) (by kernel_rfl) (fun x => by cases x <;> exact le_far _ rfl) (fun r => by cases r <;> exact le_far _ rfl) (fun x => by
  cases x with
  | h1m0 _ => exact fun _ => (show ¬ (1 ∈ rids (ref11_Same_2C 1).2) from by decide +kernel)
  ) (fun x => (show (ref11_Same_2M o0 L1 n2 n3 L4 O0 N).Ok Try.prog ext_Pk x (ref11_Same_2Step L1 n2 n3 L4 N x) from by
  cases x with
  | h1m0 v5 => exact ref11_Same_2_ok1_0 o0 L1 n2 n3 L4 O0 F0 v5 N
  )) (ref11_Same_2_en o0 L1 n2 n3 L4 O0 F0 N) (n := N) h

noncomputable def ref11_Same_2T0 (o0 : Nat) (L1 : List R_iiii) (n2 n3 : Nat) (L4 : List R_iiii) (O0 : Obj) (w3 : Bool) (k0 k1 n : Nat) : Told := .call [(k0, .ro O0), (k1, .cells (rowV E_iiii L4) 38)] (Value.bool w3) [] 0
def ref11_Same_2P0 (A : Array Value) (o0 : Nat) (L1 : List R_iiii) (n2 n3 : Nat) (L4 : List R_iiii) (O0 : Obj) (w3 : Bool) (k0 k1 n : Nat) : Prop := CallSpec Try.prog 9 A [(k0, .ro O0), (k1, .cells (rowV E_iiii L4) 38)] (Value.bool w3) [] n 0

theorem ref11_Same_2C0 (A : Array Value) (o0 : Nat) (L1 : List R_iiii) (n2 n3 : Nat) (L4 : List R_iiii) (O0 : Obj) (F0 : RO_iiii O0 o0 L1) (w3 : Bool) (N : Nat) (h : ref11_Same_2 L1 n2 n3 L4 N = some (.r0 w3)) (k0 k1 n : Nat) (hA : A = #[vs k0 o0 n2 n3, vs k1 0 L4.length L4.length]) (hnd : ([k0, k1] : List Nat).Nodup) (hlt : ∀ k ∈ ([k0, k1] : List Nat), k < n) : ref11_Same_2P0 A o0 L1 n2 n3 L4 O0 w3 k0 k1 n :=
 cs_args hA (LSpec.callL (show LSpec Try.prog 9 #[vs 0 o0 n2 n3, vs 1 0 L4.length L4.length] [.ro O0, .cells (rowV E_iiii L4) 38] (Value.bool w3) [some (.ro O0), some (.cells (rowV E_iiii L4) 38)] from ref11_Same_2_spec o0 L1 n2 n3 L4 O0 F0 N _ h) [k0, k1] n [] rfl hnd hlt (show 2 ≤ 2 from by decide) (show ∀ j ∈ ([] : List Nat), j < 2 from by decide) (by rfl) ⟨rfl, ⟨(under_row _ _ _), trivial⟩⟩ (by rfl) ⟨rfl, ⟨(under_row _ _ _), trivial⟩⟩ ⟨.inr rfl, ⟨.inr rfl, trivial⟩⟩ rfl rfl rfl (cons_eq (pair_eq rfl rfl) (cons_eq (pair_eq rfl (renO_row _ _ _)) rfl)) rfl)

noncomputable def prog_sum_2V (o0 : Nat) (L1 : List Int) (n2 n3 : Nat) (O0 : Obj) : prog_sum_2R → Value
 | .r0 w2 => Value.int .u8 w2
noncomputable def prog_sum_2Po (o0 : Nat) (L1 : List Int) (n2 n3 : Nat) (O0 : Obj) : prog_sum_2R → List (Option AObj)
 | .r0 w2 => [some (.ro O0)]

def prog_sum_2Hd : prog_sum_2X → Nat
 | .h1m0 v5 v6 => 1
noncomputable def prog_sum_2L (o0 : Nat) (L1 : List Int) (n2 n3 : Nat) (O0 : Obj) : prog_sum_2X → List (Nat × Value)
 | .h1m0 v5 v6 => [(3, vp 1 0), (4, Value.func (.func 24) #[] #[vp 1 0]), (8, vs 0 o0 n2 n3), (9, vi (n2 : Int)), (10, vi (v5 : Int))]
noncomputable def prog_sum_2H (o0 : Nat) (L1 : List Int) (n2 n3 : Nat) (O0 : Obj) : prog_sum_2X → List (Option AObj)
 | .h1m0 v5 v6 => [some (.ro O0), some (.cells [Value.int .u8 v6] 5)]

noncomputable def prog_sum_2C : Nat → Code × List Kont
 | 1 => headOf [1, 1, 1, 0, 1, 3] (bodyC Try.f16) []
 | _ => (.skip, [])
def prog_sum_2IL : Nat → Bool
 | 1 => true
 | _ => true
noncomputable def prog_sum_2K (i : Nat) : List Kont := match prog_sum_2IL i with | true => .rnd i :: (prog_sum_2C i).2 | false => (prog_sum_2C i).2

noncomputable def prog_sum_2M (o0 : Nat) (L1 : List Int) (n2 n3 : Nat) (O0 : Obj) (N : Nat) : Mach := ⟨Try.f16, [.ro O0], prog_sum_2X, prog_sum_2R, prog_sum_2Step L1 n2 n3 N, prog_sum_2Hd, prog_sum_2C, prog_sum_2IL, prog_sum_2L o0 L1 n2 n3 O0, prog_sum_2H o0 L1 n2 n3 O0, prog_sum_2V o0 L1 n2 n3 O0, prog_sum_2Po o0 L1 n2 n3 O0⟩

theorem prog_sum_2_ok1_0 (o0 : Nat) (L1 : List Int) (n2 n3 : Nat) (O0 : Obj) (F0 : ∀ i, i < L1.length → RowOK O0 (o0 + i * 1) [.k .u8 (L1.getD i 0)]) (v5 : Nat) (v6 : Int) (N : Nat) : (prog_sum_2M o0 L1 n2 n3 O0 N).Ok Try.prog ext_Pk (.h1m0 v5 v6 : prog_sum_2X) (prog_sum_2Step L1 n2 n3 N (.h1m0 v5 v6 : prog_sum_2X)) := by
 show (prog_sum_2M o0 L1 n2 n3 O0 N).Ok Try.prog ext_Pk (.h1m0 v5 v6 : prog_sum_2X) (prog_sum_2_h1m0 L1 n2 n3 N v5 v6)
 unfold prog_sum_2_h1m0
 refine Mach.ok_ite (fun g0 => ?_) (fun g0 => ?_)
 ·
  refine Mach.ok_ite (fun g1 => ?_) (fun g1 => ?_)
  ·
   refine Mach.ok_ite (fun g2 => ?_) (fun g2 => ?_)
   ·
    exact Mach.ok_next (M := prog_sum_2M o0 L1 n2 n3 O0 N) (cd := 1000000) (cm := 0) (y := (.h1m0 ((v5 + 1)) ((IntKind.u8.wrap (v6 + (L1.getD v5 0)))) : prog_sum_2X)) (fu := 4000) (orc := (orcw [(0, true)] [(1, (((v5 + 1) : Nat) : Int))] [(0, v5)] [(0, [.k .u8 (L1.getD v5 0)])] [])) (live := [0, 1]) (tv := fun _ => [some (vp 1 0), some (Value.func (.func 24) #[] #[vp 1 0]), some (vs 0 o0 n2 n3), some (vi (n2 : Int)), some (vi (((v5 + 1) : Nat) : Int))]) (bl := [some (.ro O0), some (.cells [Value.int .u8 (IntKind.u8.wrap (v6 + (L1.getD v5 0)))] 5)]) (ob := [((IntKind.i64.wrap ((v5 : Int) + (1 : Int))) == (((v5 + 1) : Nat) : Int), true), (sameR (roRow O0 (o0 + (v5 * 1)) 1) [.k .u8 (L1.getD v5 0)], true), (Nat.blt v5 n2, true), ((v5 : Int) == Int.ofNat v5, true), ((decide ((v5 : Int) < (n2 : Int))), true)]) rfl (show 1 ∈ rids (prog_sum_2K 1) from by decide +kernel) (fun gv => by kernel_rfl) (obs_cons (beq_iff_eq.2 ((wrap_i64 ltA).trans (by first | rfl | omega))) <| obs_cons ((show (o0 + v5 * 1 + 0) = (o0 + (v5 * 1)) from by omega) ▸ F0 v5 (by omega) 0 1 (show 0 + 1 ≤ 1 from by decide)) <| oB <| oI <| oY obs_nil) rfl (by decide) (by rfl) (fun _ => ⟨rr, ⟨rr, ⟨rr, ⟨rr, ⟨rr, trivial⟩⟩⟩⟩⟩) ⟨rfl, ⟨⟨rfl, ⟨[], by rfl⟩, by rfl⟩, trivial⟩⟩
   ·
    exact Mach.ok_none
  ·
   exact Mach.ok_none
 ·
  exact Mach.ok_fin (M := prog_sum_2M o0 L1 n2 n3 O0 N) (cd := 1000000) (cm := 0) (r := (.r0 (v6) : prog_sum_2R)) (fu := 4000) (orc := (orcw [(0, false)] [] [] [] [])) (live := [0]) (u := Value.int .u8 v6) (bl := [some (.ro O0)]) (ob := [((decide ((v5 : Int) < (n2 : Int))), false)]) (fun gv => by kernel_rfl) (oN obs_nil) rfl (by decide) (by rfl) rr ⟨rfl, trivial⟩

theorem prog_sum_2_en (o0 : Nat) (L1 : List Int) (n2 n3 : Nat) (O0 : Obj) (F0 : ∀ i, i < L1.length → RowOK O0 (o0 + i * 1) [.k .u8 (L1.getD i 0)]) (N : Nat) : (prog_sum_2M o0 L1 n2 n3 O0 N).Enter Try.prog ext_Pk #[vs 0 o0 n2 n3] (prog_sum_2In L1 n2 n3 N) := by
 unfold prog_sum_2In
 exact Mach.en_head (bK := prog_sum_2C 1) (M := prog_sum_2M o0 L1 n2 n3 O0 N) (cd := 1000000) (cm := 0) (y := (.h1m0 (0) ((0 : Int)) : prog_sum_2X)) (fu := 4000) (orc := (orcw [] [] [] [] [])) (live := [0, 1]) (tv := [some (vp 1 0), some (Value.func (.func 24) #[] #[vp 1 0]), some (vs 0 o0 n2 n3), some (vi (n2 : Int)), some (vq)]) (bl := [some (.ro O0), some (.cells [Value.int .u8 (0 : Int)] 5)]) (ob := []) rfl rfl (show rids (prog_sum_2C 1).2 = [] from rfl) (by kernel_rfl) obs_nil rfl (by decide) (by rfl) ⟨rr, ⟨rr, ⟨rr, ⟨rr, ⟨⟨Eq.trans (show (vi ((0 : Nat) : Int) : Value) = vq from (congrArg (Value.int .i64) (by first | rfl | omega))) (by rfl), by rfl⟩, trivial⟩⟩⟩⟩⟩ ⟨rfl, ⟨⟨rfl, ⟨[], by rfl⟩, by rfl⟩, trivial⟩⟩

theorem prog_sum_2_spec (o0 : Nat) (L1 : List Int) (n2 n3 : Nat) (O0 : Obj) (F0 : ∀ i, i < L1.length → RowOK O0 (o0 + i * 1) [.k .u8 (L1.getD i 0)]) (N : Nat) (r : prog_sum_2R) (h : prog_sum_2 L1 n2 n3 N = some r) : LSpec Try.prog 16 #[vs 0 o0 n2 n3] [.ro O0] (prog_sum_2V o0 L1 n2 n3 O0 r) (prog_sum_2Po o0 L1 n2 n3 O0 r) :=
 Mach.spec fit_Pk (prog_sum_2M o0 L1 n2 n3 O0 N) Try.func16 (by kernel_rfl) (by kernel_rfl) (fun x => by cases x <;> exact le_far _ rfl) (fun r => by cases r <;> exact le_far _ rfl) (fun x => by
  cases x with
  | h1m0 _ _ => exact fun _ => (show ¬ (1 ∈ rids (prog_sum_2C 1).2) from by decide +kernel)
  ) (fun x => (show (prog_sum_2M o0 L1 n2 n3 O0 N).Ok Try.prog ext_Pk x (prog_sum_2Step L1 n2 n3 N x) from by
  cases x with
  | h1m0 v5 v6 => exact prog_sum_2_ok1_0 o0 L1 n2 n3 O0 F0 v5 v6 N
  )) (prog_sum_2_en o0 L1 n2 n3 O0 F0 N) (n := N) h

noncomputable def prog_sum_2T0 (o0 : Nat) (L1 : List Int) (n2 n3 : Nat) (O0 : Obj) (w2 : Int) (k0 n : Nat) : Told := .call [(k0, .ro O0)] (Value.int .u8 w2) [] 0
def prog_sum_2P0 (A : Array Value) (o0 : Nat) (L1 : List Int) (n2 n3 : Nat) (O0 : Obj) (w2 : Int) (k0 n : Nat) : Prop := CallSpec Try.prog 16 A [(k0, .ro O0)] (Value.int .u8 w2) [] n 0

theorem prog_sum_2C0 (A : Array Value) (o0 : Nat) (L1 : List Int) (n2 n3 : Nat) (O0 : Obj) (F0 : ∀ i, i < L1.length → RowOK O0 (o0 + i * 1) [.k .u8 (L1.getD i 0)]) (w2 : Int) (N : Nat) (h : prog_sum_2 L1 n2 n3 N = some (.r0 w2)) (k0 n : Nat) (hA : A = #[vs k0 o0 n2 n3]) (hnd : ([k0] : List Nat).Nodup) (hlt : ∀ k ∈ ([k0] : List Nat), k < n) : prog_sum_2P0 A o0 L1 n2 n3 O0 w2 k0 n :=
 cs_args hA (LSpec.callL (show LSpec Try.prog 16 #[vs 0 o0 n2 n3] [.ro O0] (Value.int .u8 w2) [some (.ro O0)] from prog_sum_2_spec o0 L1 n2 n3 O0 F0 N _ h) [k0] n [] rfl hnd hlt (show 1 ≤ 1 from by decide) (show ∀ j ∈ ([] : List Nat), j < 1 from by decide) (by rfl) ⟨rfl, trivial⟩ (by rfl) ⟨rfl, trivial⟩ ⟨.inr rfl, trivial⟩ rfl rfl rfl (cons_eq (pair_eq rfl rfl) rfl) rfl)

noncomputable def instr_join_2V (o0 : Nat) (L1 : List Int) (n2 n3 n4 : Nat) (O0 : Obj) : instr_join_2R → Value
 | .r0 w2 => vi w2
noncomputable def instr_join_2Po (o0 : Nat) (L1 : List Int) (n2 n3 n4 : Nat) (O0 : Obj) : instr_join_2R → List (Option AObj)
 | .r0 w2 => [some (.ro O0)]

def instr_join_2Hd : instr_join_2X → Nat
 | .h1m0 v2 v7 => 1
noncomputable def instr_join_2L (o0 : Nat) (L1 : List Int) (n2 n3 n4 : Nat) (O0 : Obj) : instr_join_2X → List (Nat × Value)
 | .h1m0 v2 v7 => [(3, Value.int .u64 v2), (6, vs 0 (o0 + n2) n3 n4), (7, vi (n3 : Int)), (8, vi (v7 : Int))]
noncomputable def instr_join_2H (o0 : Nat) (L1 : List Int) (n2 n3 n4 : Nat) (O0 : Obj) : instr_join_2X → List (Option AObj)
 | .h1m0 v2 v7 => [some (.ro O0)]

noncomputable def instr_join_2C : Nat → Code × List Kont
 | 1 => headOf [1, 1, 0, 1, 3] (bodyC Try.f26) []
 | _ => (.skip, [])
def instr_join_2IL : Nat → Bool
 | 1 => true
 | _ => true
noncomputable def instr_join_2K (i : Nat) : List Kont := match instr_join_2IL i with | true => .rnd i :: (instr_join_2C i).2 | false => (instr_join_2C i).2

noncomputable def instr_join_2M (o0 : Nat) (L1 : List Int) (n2 n3 n4 : Nat) (O0 : Obj) (N : Nat) : Mach := ⟨Try.f26, [.ro O0], instr_join_2X, instr_join_2R, instr_join_2Step L1 n2 n3 n4 N, instr_join_2Hd, instr_join_2C, instr_join_2IL, instr_join_2L o0 L1 n2 n3 n4 O0, instr_join_2H o0 L1 n2 n3 n4 O0, instr_join_2V o0 L1 n2 n3 n4 O0, instr_join_2Po o0 L1 n2 n3 n4 O0⟩

theorem instr_join_2_ok1_0 (o0 : Nat) (L1 : List Int) (n2 n3 n4 : Nat) (O0 : Obj) (F0 : ∀ i, i < L1.length → RowOK O0 (o0 + i * 1) [.k .u8 (L1.getD i 0)]) (v2 : Int) (v7 N : Nat) : (instr_join_2M o0 L1 n2 n3 n4 O0 N).Ok Try.prog ext_Pk (.h1m0 v2 v7 : instr_join_2X) (instr_join_2Step L1 n2 n3 n4 N (.h1m0 v2 v7 : instr_join_2X)) := by
 show (instr_join_2M o0 L1 n2 n3 n4 O0 N).Ok Try.prog ext_Pk (.h1m0 v2 v7 : instr_join_2X) (instr_join_2_h1m0 L1 n2 n3 n4 N v2 v7)
 unfold instr_join_2_h1m0
 refine Mach.ok_ite (fun g0 => ?_) (fun g0 => ?_)
 ·
  refine Mach.ok_ite (fun g1 => ?_) (fun g1 => ?_)
  ·
   refine Mach.ok_ite (fun g2 => ?_) (fun g2 => ?_)
   ·
    refine Mach.ok_ite (fun g3 => ?_) (fun g3 => ?_)
    ·
     refine Mach.ok_ite (fun g4 => ?_) (fun g4 => ?_)
     ·
      exact Mach.ok_next (M := instr_join_2M o0 L1 n2 n3 n4 O0 N) (cd := 1000000) (cm := 0) (y := (.h1m0 ((IntKind.u64.wrap (((BitVec.ofInt IntKind.u64.bits (IntKind.u64.wrap (v2 * (2 ^ 8 : Int))) ||| BitVec.ofInt IntKind.u64.bits (L1.getD (v7 + n2) 0)).toNat : Nat) : Int))) ((v7 + 1)) : instr_join_2X)) (fu := 4000) (orc := (orcw [(0, true)] [(1, (L1.getD (v7 + n2) 0)), (3, (((v7 + 1) : Nat) : Int))] [(0, v7)] [(0, [.k .u8 (L1.getD (v7 + n2) 0)])] [])) (live := [0]) (tv := fun _ => [some (Value.int .u64 (IntKind.u64.wrap (((BitVec.ofInt IntKind.u64.bits (IntKind.u64.wrap (v2 * (2 ^ 8 : Int))) ||| BitVec.ofInt IntKind.u64.bits (L1.getD (v7 + n2) 0)).toNat : Nat) : Int))), some (vs 0 (o0 + n2) n3 n4), some (vi (n3 : Int)), some (vi (((v7 + 1) : Nat) : Int))]) (bl := [some (.ro O0)]) (ob := [((IntKind.i64.wrap ((v7 : Int) + (1 : Int))) == (((v7 + 1) : Nat) : Int), true), ((IntKind.u64.wrap (L1.getD (v7 + n2) 0)) == (L1.getD (v7 + n2) 0), true), (sameR (roRow O0 ((o0 + n2) + (v7 * 1)) 1) [.k .u8 (L1.getD (v7 + n2) 0)], true), (Nat.blt v7 n3, true), ((v7 : Int) == Int.ofNat v7, true), ((decide ((v7 : Int) < (n3 : Int))), true)]) rfl (show 1 ∈ rids (instr_join_2K 1) from by decide +kernel) (fun gv => by kernel_rfl) (obs_cons (beq_iff_eq.2 ((wrap_i64 ltA).trans (by first | rfl | omega))) <| obs_cons (beq_iff_eq.2 (wrap_u64 ltA)) <| obs_cons ((show (o0 + (v7 + n2) * 1 + 0) = ((o0 + n2) + (v7 * 1)) from by omega) ▸ F0 (v7 + n2) (by omega) 0 1 (show 0 + 1 ≤ 1 from by decide)) <| oB <| oI <| oY obs_nil) rfl (by decide) (by rfl) (fun _ => ⟨rr, ⟨rr, ⟨rr, ⟨rr, trivial⟩⟩⟩⟩) ⟨rfl, trivial⟩
     ·
      exact Mach.ok_none
    ·
     exact Mach.ok_none
   ·
    exact Mach.ok_none
  ·
   exact Mach.ok_none
 ·
  exact Mach.ok_fin (M := instr_join_2M o0 L1 n2 n3 n4 O0 N) (cd := 1000000) (cm := 0) (r := (.r0 ((IntKind.i64.wrap v2)) : instr_join_2R)) (fu := 4000) (orc := (orcw [(0, false)] [] [] [] [])) (live := [0]) (u := vi (IntKind.i64.wrap v2)) (bl := [some (.ro O0)]) (ob := [((decide ((v7 : Int) < (n3 : Int))), false)]) (fun gv => by kernel_rfl) (oN obs_nil) rfl (by decide) (by rfl) rr ⟨rfl, trivial⟩

theorem instr_join_2_en (o0 : Nat) (L1 : List Int) (n2 n3 n4 : Nat) (O0 : Obj) (F0 : ∀ i, i < L1.length → RowOK O0 (o0 + i * 1) [.k .u8 (L1.getD i 0)]) (N : Nat) : (instr_join_2M o0 L1 n2 n3 n4 O0 N).Enter Try.prog ext_Pk #[vs 0 (o0 + n2) n3 n4] (instr_join_2In L1 n2 n3 n4 N) := by
 unfold instr_join_2In
 exact Mach.en_head (bK := instr_join_2C 1) (M := instr_join_2M o0 L1 n2 n3 n4 O0 N) (cd := 1000000) (cm := 0) (y := (.h1m0 ((0 : Int)) (0) : instr_join_2X)) (fu := 4000) (orc := (orcw [] [] [] [] [])) (live := [0]) (tv := [some (Value.int .u64 (0 : Int)), some (vs 0 (o0 + n2) n3 n4), some (vi (n3 : Int)), some (vq)]) (bl := [some (.ro O0)]) (ob := []) rfl rfl (show rids (instr_join_2C 1).2 = [] from rfl) (by kernel_rfl) obs_nil rfl (by decide) (by rfl) ⟨rr, ⟨rr, ⟨rr, ⟨⟨Eq.trans (show (vi ((0 : Nat) : Int) : Value) = vq from (congrArg (Value.int .i64) (by first | rfl | omega))) (by rfl), by rfl⟩, trivial⟩⟩⟩⟩ ⟨rfl, trivial⟩

theorem instr_join_2_spec (o0 : Nat) (L1 : List Int) (n2 n3 n4 : Nat) (O0 : Obj) (F0 : ∀ i, i < L1.length → RowOK O0 (o0 + i * 1) [.k .u8 (L1.getD i 0)]) (N : Nat) (r : instr_join_2R) (h : instr_join_2 L1 n2 n3 n4 N = some r) : LSpec Try.prog 26 #[vs 0 (o0 + n2) n3 n4] [.ro O0] (instr_join_2V o0 L1 n2 n3 n4 O0 r) (instr_join_2Po o0 L1 n2 n3 n4 O0 r) :=
 Mach.spec fit_Pk (instr_join_2M o0 L1 n2 n3 n4 O0 N) Try.func26 (by kernel_rfl) (by kernel_rfl) (fun x => by cases x <;> exact le_far _ rfl) (fun r => by cases r <;> exact le_far _ rfl) (fun x => by
  cases x with
  | h1m0 _ _ => exact fun _ => (show ¬ (1 ∈ rids (instr_join_2C 1).2) from by decide +kernel)
  ) (fun x => (show (instr_join_2M o0 L1 n2 n3 n4 O0 N).Ok Try.prog ext_Pk x (instr_join_2Step L1 n2 n3 n4 N x) from by
  cases x with
  | h1m0 v2 v7 => exact instr_join_2_ok1_0 o0 L1 n2 n3 n4 O0 F0 v2 v7 N
  )) (instr_join_2_en o0 L1 n2 n3 n4 O0 F0 N) (n := N) h

noncomputable def instr_join_2T0 (o0 : Nat) (L1 : List Int) (n2 n3 n4 : Nat) (O0 : Obj) (w2 : Int) (k0 n : Nat) : Told := .call [(k0, .ro O0)] (vi w2) [] 0
def instr_join_2P0 (A : Array Value) (o0 : Nat) (L1 : List Int) (n2 n3 n4 : Nat) (O0 : Obj) (w2 : Int) (k0 n : Nat) : Prop := CallSpec Try.prog 26 A [(k0, .ro O0)] (vi w2) [] n 0

theorem instr_join_2C0 (A : Array Value) (o0 : Nat) (L1 : List Int) (n2 n3 n4 : Nat) (O0 : Obj) (F0 : ∀ i, i < L1.length → RowOK O0 (o0 + i * 1) [.k .u8 (L1.getD i 0)]) (w2 : Int) (N : Nat) (h : instr_join_2 L1 n2 n3 n4 N = some (.r0 w2)) (k0 n : Nat) (hA : A = #[vs k0 (o0 + n2) n3 n4]) (hnd : ([k0] : List Nat).Nodup) (hlt : ∀ k ∈ ([k0] : List Nat), k < n) : instr_join_2P0 A o0 L1 n2 n3 n4 O0 w2 k0 n :=
 cs_args hA (LSpec.callL (show LSpec Try.prog 26 #[vs 0 (o0 + n2) n3 n4] [.ro O0] (vi w2) [some (.ro O0)] from instr_join_2_spec o0 L1 n2 n3 n4 O0 F0 N _ h) [k0] n [] rfl hnd hlt (show 1 ≤ 1 from by decide) (show ∀ j ∈ ([] : List Nat), j < 1 from by decide) (by rfl) ⟨rfl, trivial⟩ (by rfl) ⟨rfl, trivial⟩ ⟨.inr rfl, trivial⟩ rfl rfl rfl (cons_eq (pair_eq rfl rfl) rfl) rfl)

noncomputable def instr_Decode_4V (o0 : Nat) (L1 : List Int) (n2 n3 n4 : Nat) (O0 : Obj) : instr_Decode_4R → Value
 | .r0 w6 => Value.tuple #[Value.agg #[vq, vq, vq, vq], vn, vi w6]
 | .r1 w3 w4 w5 w6 => Value.tuple #[Value.agg #[vi (L1.getD n2 0), vi w3, vi w4, vi w5], vs 1 0 w6.length w6.length, vq]
noncomputable def instr_Decode_4Po (o0 : Nat) (L1 : List Int) (n2 n3 n4 : Nat) (O0 : Obj) : instr_Decode_4R → List (Option AObj)
 | .r0 w6 => [some (.ro O0)]
 | .r1 w3 w4 w5 w6 => [some (.ro O0), some (.cells (rowV (encI .u8) w6) 5)]

def instr_Decode_4Hd : instr_Decode_4X → Nat
 | .h1m0 v8 v9 v10 => 1
 | .h1m1 v5 v6 v7 v8 v9 v10 v15 => 1
 | .h1m2 v5 v6 v7 v8 v9 v10 v15 v16 => 1
 | .h1m3 v5 v6 v7 v8 v9 v10 v15 v16 v17 => 1
noncomputable def instr_Decode_4L (o0 : Nat) (L1 : List Int) (n2 n3 n4 : Nat) (O0 : Obj) : instr_Decode_4X → List (Nat × Value)
 | .h1m0 v8 v9 v10 => [(0, vs 0 (o0 + n2) n3 n4), (2, vp 1 0), (6, vp 2 0), (7, Value.slice (some ⟨0, (o0 + (n2 + 1)), none⟩) (n3 - 1) (n4 - 1)), (28, Value.agg #[vi v8, vi v9, vi v10]), (29, vq)]
 | .h1m1 v5 v6 v7 v8 v9 v10 v15 => [(0, vs 0 (o0 + n2) n3 n4), (2, vp 1 0), (6, vp 2 0), (7, vs 0 (o0 + v5) v6 v7), (28, Value.agg #[vi v8, vi v9, vi v10]), (29, vi (1 : Int))]
 | .h1m2 v5 v6 v7 v8 v9 v10 v15 v16 => [(0, vs 0 (o0 + n2) n3 n4), (2, vp 1 0), (6, vp 2 0), (7, vs 0 (o0 + v5) v6 v7), (28, Value.agg #[vi v8, vi v9, vi v10]), (29, vi (2 : Int))]
 | .h1m3 v5 v6 v7 v8 v9 v10 v15 v16 v17 => [(0, vs 0 (o0 + n2) n3 n4), (2, vp 1 0), (6, vp 2 0), (7, vs 0 (o0 + v5) v6 v7), (28, Value.agg #[vi v8, vi v9, vi v10]), (29, vi (3 : Int))]
noncomputable def instr_Decode_4H (o0 : Nat) (L1 : List Int) (n2 n3 n4 : Nat) (O0 : Obj) : instr_Decode_4X → List (Option AObj)
 | .h1m0 v8 v9 v10 => [some (.ro O0), some (.cells [vq, vq, vq, vq] 38), some (.cells [vq, vq, vq] 51)]
 | .h1m1 v5 v6 v7 v8 v9 v10 v15 => [some (.ro O0), some (.cells [vq, vq, vq, vq] 38), some (.cells [vi v15, vq, vq] 51)]
 | .h1m2 v5 v6 v7 v8 v9 v10 v15 v16 => [some (.ro O0), some (.cells [vq, vq, vq, vq] 38), some (.cells [vi v15, vi v16, vq] 51)]
 | .h1m3 v5 v6 v7 v8 v9 v10 v15 v16 v17 => [some (.ro O0), some (.cells [vq, vq, vq, vq] 38), some (.cells [vi v15, vi v16, vi v17] 51)]

noncomputable def instr_Decode_4C : Nat → Code × List Kont
 | 1 => headOf [1, 1, 1, 1, 1, 1, 0, 1, 3] (bodyC Try.f18) []
 | _ => (.skip, [])
def instr_Decode_4IL : Nat → Bool
 | 1 => true
 | _ => true
noncomputable def instr_Decode_4K (i : Nat) : List Kont := match instr_Decode_4IL i with | true => .rnd i :: (instr_Decode_4C i).2 | false => (instr_Decode_4C i).2

noncomputable def instr_Decode_4M (o0 : Nat) (L1 : List Int) (n2 n3 n4 : Nat) (O0 : Obj) (N : Nat) : Mach := ⟨Try.f18, [.ro O0], instr_Decode_4X, instr_Decode_4R, instr_Decode_4Step L1 n2 n3 n4 N, instr_Decode_4Hd, instr_Decode_4C, instr_Decode_4IL, instr_Decode_4L o0 L1 n2 n3 n4 O0, instr_Decode_4H o0 L1 n2 n3 n4 O0, instr_Decode_4V o0 L1 n2 n3 n4 O0, instr_Decode_4Po o0 L1 n2 n3 n4 O0⟩

theorem instr_Decode_4_ok1_0 (o0 : Nat) (L1 : List Int) (n2 n3 n4 : Nat) (O0 : Obj) (F0 : ∀ i, i < L1.length → RowOK O0 (o0 + i * 1) [.k .u8 (L1.getD i 0)]) (v8 v9 v10 : Int) (N : Nat) : (instr_Decode_4M o0 L1 n2 n3 n4 O0 N).Ok Try.prog ext_Pk (.h1m0 v8 v9 v10 : instr_Decode_4X) (instr_Decode_4Step L1 n2 n3 n4 N (.h1m0 v8 v9 v10 : instr_Decode_4X)) := by
 show (instr_Decode_4M o0 L1 n2 n3 n4 O0 N).Ok Try.prog ext_Pk (.h1m0 v8 v9 v10 : instr_Decode_4X) (instr_Decode_4_h1m0 L1 n2 n3 n4 N v8 v9 v10)
 unfold instr_Decode_4_h1m0
 refine Mach.ok_bind (fun z0 c0 => ?_)
 cases z0 with
 | r0 y0_0 =>
  refine Mach.ok_ite (fun g1 => ?_) (fun g1 => ?_)
  ·
   exact Mach.ok_fin (M := instr_Decode_4M o0 L1 n2 n3 n4 O0 N) (cd := 1000000) (cm := 0) (r := (.r0 ((6 : Int)) : instr_Decode_4R)) (fu := 4000) (orc := (orcw [(1, true)] [] [] [] [(0, (instr_shape_widthT0 (v8)  y0_0  3))])) (live := [0]) (u := Value.tuple #[Value.agg #[vq, vq, vq, vq], vn, vi (6 : Int)]) (bl := [some (.ro O0)]) (ob := [((decide ((((n3 - 1) : Nat) : Int) < y0_0)), true), (dP (instr_shape_widthP0 #[vi v8] (v8)  y0_0  3), true)]) (fun gv => by kernel_rfl) (oY <| obs_cons (dP_of (instr_shape_widthC0 #[vi v8] (v8)  y0_0 N c0  3 rfl (by decide) (by decide))) obs_nil) rfl (by decide) (by rfl) rr ⟨rfl, trivial⟩
  ·
   refine Mach.ok_bind (fun z2 c2 => ?_)
   cases z2 with
   | r0 y2_0 =>
    refine Mach.ok_ite (fun g3 => ?_) (fun g3 => ?_)
    ·
     refine Mach.ok_ite (fun g4 => ?_) (fun g4 => ?_)
     ·
      refine Mach.ok_bind (fun z5 c5 => ?_)
      cases z5 with
      | r0 y5_0 =>
       refine Mach.ok_bind (fun z6 c6 => ?_)
       cases z6 with
       | r0 y6_0 =>
        refine Mach.ok_ite (fun g7 => ?_) (fun g7 => ?_)
        ·
         refine Mach.ok_ite (fun g8 => ?_) (fun g8 => ?_)
         ·
          refine Mach.ok_ite (fun g9 => ?_) (fun g9 => ?_)
          ·
           exact Mach.ok_next (M := instr_Decode_4M o0 L1 n2 n3 n4 O0 N) (cd := 1000000) (cm := 0) (y := (.h1m1 (((y6_0).toNat + (n2 + 1))) (((n3 - 1) - (y6_0).toNat)) (((n4 - 1) - (y6_0).toNat)) (v8) (v9) (v10) (y5_0) : instr_Decode_4X)) (fu := 4000) (orc := (orcw [(1, false)] [] [] [] [(0, (instr_shape_widthT0 (v8)  y0_0  3)), (1, (instr_shape_widthT0 (v8)  y2_0  3)), (2, .sl 0 (y2_0).toNat), (3, (instr_join_2T0 (o0) (L1) ((n2 + 1)) (((y2_0).toNat - 0)) (((n4 - 1) - 0)) O0 y5_0 0 3)), (4, (instr_shape_widthT0 (v8)  y6_0  3)), (5, .sl (y6_0).toNat (n3 - 1))])) (live := [0, 1, 2]) (tv := fun _ => [some (vs 0 (o0 + n2) n3 n4), some (vp 1 0), some (vp 2 0), some (Value.slice (some ⟨0, ((o0 + (n2 + 1)) + ((y6_0).toNat * 1)), none⟩) ((n3 - 1) - (y6_0).toNat) ((n4 - 1) - (y6_0).toNat)), some (Value.agg #[vi v8, vi v9, vi v10]), some (vi (1 : Int))]) (bl := [some (.ro O0), some (.cells [vq, vq, vq, vq] 38), some (.cells [vi y5_0, vq, vq] 51)]) (ob := [(dP ((y6_0).toNat ≤ (n3 - 1) ∧ (n3 - 1) ≤ (n4 - 1)), true), (dS (n3 - 1), true), (y6_0 == Int.ofNat (y6_0).toNat, true), (dP (instr_shape_widthP0 #[vi v8] (v8)  y6_0  3), true), (dP (instr_join_2P0 #[Value.slice (some ⟨0, ((o0 + (n2 + 1)) + (0 * 1)), none⟩) ((y2_0).toNat - 0) ((n4 - 1) - 0)] (o0) (L1) ((n2 + 1)) (((y2_0).toNat - 0)) (((n4 - 1) - 0)) O0 y5_0 0 3), true), (dS O0, true), (dP (0 ≤ (y2_0).toNat ∧ (y2_0).toNat ≤ (n4 - 1)), true), (y2_0 == Int.ofNat (y2_0).toNat, true), (dS 0, true), (dP (instr_shape_widthP0 #[vi v8] (v8)  y2_0  3), true), ((decide ((((n3 - 1) : Nat) : Int) < y0_0)), false), (dP (instr_shape_widthP0 #[vi v8] (v8)  y0_0  3), true)]) rfl (show 1 ∈ rids (instr_Decode_4K 1) from by decide +kernel) (fun gv => by kernel_rfl) (obs_cons (dP_of ⟨ltA, ltA⟩) <| oR <| oI <| obs_cons (dP_of (instr_shape_widthC0 #[vi v8] (v8)  y6_0 N c6  3 rfl (by decide) (by decide))) <| obs_cons (dP_of (instr_join_2C0 #[Value.slice (some ⟨0, ((o0 + (n2 + 1)) + (0 * 1)), none⟩) ((y2_0).toNat - 0) ((n4 - 1) - 0)] (o0) (L1) ((n2 + 1)) (((y2_0).toNat - 0)) (((n4 - 1) - 0)) O0 F0 y5_0 N c5 0 3 (array_eq (cons_eq (slice_eq eqA rfl rfl) rfl)) (by decide) (by decide))) <| oR <| obs_cons (dP_of ⟨ltA, ltA⟩) <| oI <| oR <| obs_cons (dP_of (instr_shape_widthC0 #[vi v8] (v8)  y2_0 N c2  3 rfl (by decide) (by decide))) <| oN <| obs_cons (dP_of (instr_shape_widthC0 #[vi v8] (v8)  y0_0 N c0  3 rfl (by decide) (by decide))) obs_nil) rfl (by decide) (by rfl) (fun _ => ⟨rr, ⟨rr, ⟨rr, ⟨⟨Eq.trans (show (Value.slice (some ⟨0, (o0 + ((y6_0).toNat + (n2 + 1))), none⟩) ((n3 - 1) - (y6_0).toNat) ((n4 - 1) - (y6_0).toNat) : Value) = Value.slice (some ⟨0, ((o0 + (n2 + 1)) + ((y6_0).toNat * 1)), none⟩) ((n3 - 1) - (y6_0).toNat) ((n4 - 1) - (y6_0).toNat) from (slice_eq eqA rfl rfl)) (by rfl), by rfl⟩, ⟨rr, ⟨rr, trivial⟩⟩⟩⟩⟩⟩) ⟨rfl, ⟨⟨rfl, ⟨[], by rfl⟩, by rfl⟩, ⟨⟨rfl, ⟨[], by rfl⟩, by rfl⟩, trivial⟩⟩⟩
          ·
           exact Mach.ok_none
         ·
          exact Mach.ok_none
        ·
         exact Mach.ok_none
     ·
      exact Mach.ok_none
    ·
     exact Mach.ok_none

theorem instr_Decode_4_ok1_1 (o0 : Nat) (L1 : List Int) (n2 n3 n4 : Nat) (O0 : Obj) (F0 : ∀ i, i < L1.length → RowOK O0 (o0 + i * 1) [.k .u8 (L1.getD i 0)]) (v5 v6 v7 : Nat) (v8 v9 v10 v15 : Int) (N : Nat) : (instr_Decode_4M o0 L1 n2 n3 n4 O0 N).Ok Try.prog ext_Pk (.h1m1 v5 v6 v7 v8 v9 v10 v15 : instr_Decode_4X) (instr_Decode_4Step L1 n2 n3 n4 N (.h1m1 v5 v6 v7 v8 v9 v10 v15 : instr_Decode_4X)) := by
 show (instr_Decode_4M o0 L1 n2 n3 n4 O0 N).Ok Try.prog ext_Pk (.h1m1 v5 v6 v7 v8 v9 v10 v15 : instr_Decode_4X) (instr_Decode_4_h1m1 L1 n2 n3 n4 N v5 v6 v7 v8 v9 v10 v15)
 unfold instr_Decode_4_h1m1
 refine Mach.ok_bind (fun z0 c0 => ?_)
 cases z0 with
 | r0 y0_0 =>
  refine Mach.ok_ite (fun g1 => ?_) (fun g1 => ?_)
  ·
   exact Mach.ok_fin (M := instr_Decode_4M o0 L1 n2 n3 n4 O0 N) (cd := 1000000) (cm := 0) (r := (.r0 ((6 : Int)) : instr_Decode_4R)) (fu := 4000) (orc := (orcw [(1, true)] [] [] [] [(0, (instr_shape_widthT0 (v9)  y0_0  3))])) (live := [0]) (u := Value.tuple #[Value.agg #[vq, vq, vq, vq], vn, vi (6 : Int)]) (bl := [some (.ro O0)]) (ob := [((decide ((v6 : Int) < y0_0)), true), (dP (instr_shape_widthP0 #[vi v9] (v9)  y0_0  3), true)]) (fun gv => by kernel_rfl) (oY <| obs_cons (dP_of (instr_shape_widthC0 #[vi v9] (v9)  y0_0 N c0  3 rfl (by decide) (by decide))) obs_nil) rfl (by decide) (by rfl) rr ⟨rfl, trivial⟩
  ·
   refine Mach.ok_bind (fun z2 c2 => ?_)
   cases z2 with
   | r0 y2_0 =>
    refine Mach.ok_ite (fun g3 => ?_) (fun g3 => ?_)
    ·
     refine Mach.ok_ite (fun g4 => ?_) (fun g4 => ?_)
     ·
      refine Mach.ok_bind (fun z5 c5 => ?_)
      cases z5 with
      | r0 y5_0 =>
       refine Mach.ok_bind (fun z6 c6 => ?_)
       cases z6 with
       | r0 y6_0 =>
        refine Mach.ok_ite (fun g7 => ?_) (fun g7 => ?_)
        ·
         refine Mach.ok_ite (fun g8 => ?_) (fun g8 => ?_)
         ·
          refine Mach.ok_ite (fun g9 => ?_) (fun g9 => ?_)
          ·
           exact Mach.ok_next (M := instr_Decode_4M o0 L1 n2 n3 n4 O0 N) (cd := 1000000) (cm := 0) (y := (.h1m2 (((y6_0).toNat + v5)) ((v6 - (y6_0).toNat)) ((v7 - (y6_0).toNat)) (v8) (v9) (v10) (v15) (y5_0) : instr_Decode_4X)) (fu := 4000) (orc := (orcw [(1, false)] [] [] [] [(0, (instr_shape_widthT0 (v9)  y0_0  3)), (1, (instr_shape_widthT0 (v9)  y2_0  3)), (2, .sl 0 (y2_0).toNat), (3, (instr_join_2T0 (o0) (L1) (v5) (((y2_0).toNat - 0)) ((v7 - 0)) O0 y5_0 0 3)), (4, (instr_shape_widthT0 (v9)  y6_0  3)), (5, .sl (y6_0).toNat v6)])) (live := [0, 1, 2]) (tv := fun _ => [some (vs 0 (o0 + n2) n3 n4), some (vp 1 0), some (vp 2 0), some (Value.slice (some ⟨0, ((o0 + v5) + ((y6_0).toNat * 1)), none⟩) (v6 - (y6_0).toNat) (v7 - (y6_0).toNat)), some (Value.agg #[vi v8, vi v9, vi v10]), some (vi (2 : Int))]) (bl := [some (.ro O0), some (.cells [vq, vq, vq, vq] 38), some (.cells [vi v15, vi y5_0, vq] 51)]) (ob := [(dP ((y6_0).toNat ≤ v6 ∧ v6 ≤ v7), true), (dS v6, true), (y6_0 == Int.ofNat (y6_0).toNat, true), (dP (instr_shape_widthP0 #[vi v9] (v9)  y6_0  3), true), (dP (instr_join_2P0 #[Value.slice (some ⟨0, ((o0 + v5) + (0 * 1)), none⟩) ((y2_0).toNat - 0) (v7 - 0)] (o0) (L1) (v5) (((y2_0).toNat - 0)) ((v7 - 0)) O0 y5_0 0 3), true), (dS O0, true), (dP (0 ≤ (y2_0).toNat ∧ (y2_0).toNat ≤ v7), true), (y2_0 == Int.ofNat (y2_0).toNat, true), (dS 0, true), (dP (instr_shape_widthP0 #[vi v9] (v9)  y2_0  3), true), ((decide ((v6 : Int) < y0_0)), false), (dP (instr_shape_widthP0 #[vi v9] (v9)  y0_0  3), true)]) rfl (show 1 ∈ rids (instr_Decode_4K 1) from by decide +kernel) (fun gv => by kernel_rfl) (obs_cons (dP_of ⟨ltA, ltA⟩) <| oR <| oI <| obs_cons (dP_of (instr_shape_widthC0 #[vi v9] (v9)  y6_0 N c6  3 rfl (by decide) (by decide))) <| obs_cons (dP_of (instr_join_2C0 #[Value.slice (some ⟨0, ((o0 + v5) + (0 * 1)), none⟩) ((y2_0).toNat - 0) (v7 - 0)] (o0) (L1) (v5) (((y2_0).toNat - 0)) ((v7 - 0)) O0 F0 y5_0 N c5 0 3 (array_eq (cons_eq (slice_eq eqA rfl rfl) rfl)) (by decide) (by decide))) <| oR <| obs_cons (dP_of ⟨ltA, ltA⟩) <| oI <| oR <| obs_cons (dP_of (instr_shape_widthC0 #[vi v9] (v9)  y2_0 N c2  3 rfl (by decide) (by decide))) <| oN <| obs_cons (dP_of (instr_shape_widthC0 #[vi v9] (v9)  y0_0 N c0  3 rfl (by decide) (by decide))) obs_nil) rfl (by decide) (by rfl) (fun _ => ⟨rr, ⟨rr, ⟨rr, ⟨⟨Eq.trans (show (Value.slice (some ⟨0, (o0 + ((y6_0).toNat + v5)), none⟩) (v6 - (y6_0).toNat) (v7 - (y6_0).toNat) : Value) = Value.slice (some ⟨0, ((o0 + v5) + ((y6_0).toNat * 1)), none⟩) (v6 - (y6_0).toNat) (v7 - (y6_0).toNat) from (slice_eq eqA rfl rfl)) (by rfl), by rfl⟩, ⟨rr, ⟨rr, trivial⟩⟩⟩⟩⟩⟩) ⟨rfl, ⟨⟨rfl, ⟨[], by rfl⟩, by rfl⟩, ⟨⟨rfl, ⟨[], by rfl⟩, by rfl⟩, trivial⟩⟩⟩
          ·
           exact Mach.ok_none
         ·
          exact Mach.ok_none
        ·
         exact Mach.ok_none
     ·
      exact Mach.ok_none
    ·
     exact Mach.ok_none

theorem instr_Decode_4_ok1_2 (o0 : Nat) (L1 : List Int) (n2 n3 n4 : Nat) (O0 : Obj) (F0 : ∀ i, i < L1.length → RowOK O0 (o0 + i * 1) [.k .u8 (L1.getD i 0)]) (v5 v6 v7 : Nat) (v8 v9 v10 v15 v16 : Int) (N : Nat) : (instr_Decode_4M o0 L1 n2 n3 n4 O0 N).Ok Try.prog ext_Pk (.h1m2 v5 v6 v7 v8 v9 v10 v15 v16 : instr_Decode_4X) (instr_Decode_4Step L1 n2 n3 n4 N (.h1m2 v5 v6 v7 v8 v9 v10 v15 v16 : instr_Decode_4X)) := by
 show (instr_Decode_4M o0 L1 n2 n3 n4 O0 N).Ok Try.prog ext_Pk (.h1m2 v5 v6 v7 v8 v9 v10 v15 v16 : instr_Decode_4X) (instr_Decode_4_h1m2 L1 n2 n3 n4 N v5 v6 v7 v8 v9 v10 v15 v16)
 unfold instr_Decode_4_h1m2
 refine Mach.ok_bind (fun z0 c0 => ?_)
 cases z0 with
 | r0 y0_0 =>
  refine Mach.ok_ite (fun g1 => ?_) (fun g1 => ?_)
  ·
   exact Mach.ok_fin (M := instr_Decode_4M o0 L1 n2 n3 n4 O0 N) (cd := 1000000) (cm := 0) (r := (.r0 ((6 : Int)) : instr_Decode_4R)) (fu := 4000) (orc := (orcw [(1, true)] [] [] [] [(0, (instr_shape_widthT0 (v10)  y0_0  3))])) (live := [0]) (u := Value.tuple #[Value.agg #[vq, vq, vq, vq], vn, vi (6 : Int)]) (bl := [some (.ro O0)]) (ob := [((decide ((v6 : Int) < y0_0)), true), (dP (instr_shape_widthP0 #[vi v10] (v10)  y0_0  3), true)]) (fun gv => by kernel_rfl) (oY <| obs_cons (dP_of (instr_shape_widthC0 #[vi v10] (v10)  y0_0 N c0  3 rfl (by decide) (by decide))) obs_nil) rfl (by decide) (by rfl) rr ⟨rfl, trivial⟩
  ·
   refine Mach.ok_bind (fun z2 c2 => ?_)
   cases z2 with
   | r0 y2_0 =>
    refine Mach.ok_ite (fun g3 => ?_) (fun g3 => ?_)
    ·
     refine Mach.ok_ite (fun g4 => ?_) (fun g4 => ?_)
     ·
      refine Mach.ok_bind (fun z5 c5 => ?_)
      cases z5 with
      | r0 y5_0 =>
       refine Mach.ok_bind (fun z6 c6 => ?_)
       cases z6 with
       | r0 y6_0 =>
        refine Mach.ok_ite (fun g7 => ?_) (fun g7 => ?_)
        ·
         refine Mach.ok_ite (fun g8 => ?_) (fun g8 => ?_)
         ·
          refine Mach.ok_ite (fun g9 => ?_) (fun g9 => ?_)
          ·
           exact Mach.ok_next (M := instr_Decode_4M o0 L1 n2 n3 n4 O0 N) (cd := 1000000) (cm := 0) (y := (.h1m3 (((y6_0).toNat + v5)) ((v6 - (y6_0).toNat)) ((v7 - (y6_0).toNat)) (v8) (v9) (v10) (v15) (v16) (y5_0) : instr_Decode_4X)) (fu := 4000) (orc := (orcw [(1, false)] [] [] [] [(0, (instr_shape_widthT0 (v10)  y0_0  3)), (1, (instr_shape_widthT0 (v10)  y2_0  3)), (2, .sl 0 (y2_0).toNat), (3, (instr_join_2T0 (o0) (L1) (v5) (((y2_0).toNat - 0)) ((v7 - 0)) O0 y5_0 0 3)), (4, (instr_shape_widthT0 (v10)  y6_0  3)), (5, .sl (y6_0).toNat v6)])) (live := [0, 1, 2]) (tv := fun _ => [some (vs 0 (o0 + n2) n3 n4), some (vp 1 0), some (vp 2 0), some (Value.slice (some ⟨0, ((o0 + v5) + ((y6_0).toNat * 1)), none⟩) (v6 - (y6_0).toNat) (v7 - (y6_0).toNat)), some (Value.agg #[vi v8, vi v9, vi v10]), some (vi (3 : Int))]) (bl := [some (.ro O0), some (.cells [vq, vq, vq, vq] 38), some (.cells [vi v15, vi v16, vi y5_0] 51)]) (ob := [(dP ((y6_0).toNat ≤ v6 ∧ v6 ≤ v7), true), (dS v6, true), (y6_0 == Int.ofNat (y6_0).toNat, true), (dP (instr_shape_widthP0 #[vi v10] (v10)  y6_0  3), true), (dP (instr_join_2P0 #[Value.slice (some ⟨0, ((o0 + v5) + (0 * 1)), none⟩) ((y2_0).toNat - 0) (v7 - 0)] (o0) (L1) (v5) (((y2_0).toNat - 0)) ((v7 - 0)) O0 y5_0 0 3), true), (dS O0, true), (dP (0 ≤ (y2_0).toNat ∧ (y2_0).toNat ≤ v7), true), (y2_0 == Int.ofNat (y2_0).toNat, true), (dS 0, true), (dP (instr_shape_widthP0 #[vi v10] (v10)  y2_0  3), true), ((decide ((v6 : Int) < y0_0)), false), (dP (instr_shape_widthP0 #[vi v10] (v10)  y0_0  3), true)]) rfl (show 1 ∈ rids (instr_Decode_4K 1) from by decide +kernel) (fun gv => by kernel_rfl) (obs_cons (dP_of ⟨ltA, ltA⟩) <| oR <| oI <| obs_cons (dP_of (instr_shape_widthC0 #[vi v10] (v10)  y6_0 N c6  3 rfl (by decide) (by decide))) <| obs_cons (dP_of (instr_join_2C0 #[Value.slice (some ⟨0, ((o0 + v5) + (0 * 1)), none⟩) ((y2_0).toNat - 0) (v7 - 0)] (o0) (L1) (v5) (((y2_0).toNat - 0)) ((v7 - 0)) O0 F0 y5_0 N c5 0 3 (array_eq (cons_eq (slice_eq eqA rfl rfl) rfl)) (by decide) (by decide))) <| oR <| obs_cons (dP_of ⟨ltA, ltA⟩) <| oI <| oR <| obs_cons (dP_of (instr_shape_widthC0 #[vi v10] (v10)  y2_0 N c2  3 rfl (by decide) (by decide))) <| oN <| obs_cons (dP_of (instr_shape_widthC0 #[vi v10] (v10)  y0_0 N c0  3 rfl (by decide) (by decide))) obs_nil) rfl (by decide) (by rfl) (fun _ => ⟨rr, ⟨rr, ⟨rr, ⟨⟨Eq.trans (show (Value.slice (some ⟨0, (o0 + ((y6_0).toNat + v5)), none⟩) (v6 - (y6_0).toNat) (v7 - (y6_0).toNat) : Value) = Value.slice (some ⟨0, ((o0 + v5) + ((y6_0).toNat * 1)), none⟩) (v6 - (y6_0).toNat) (v7 - (y6_0).toNat) from (slice_eq eqA rfl rfl)) (by rfl), by rfl⟩, ⟨rr, ⟨rr, trivial⟩⟩⟩⟩⟩⟩) ⟨rfl, ⟨⟨rfl, ⟨[], by rfl⟩, by rfl⟩, ⟨⟨rfl, ⟨[], by rfl⟩, by rfl⟩, trivial⟩⟩⟩
          ·
           exact Mach.ok_none
         ·
          exact Mach.ok_none
        ·
         exact Mach.ok_none
     ·
      exact Mach.ok_none
    ·
     exact Mach.ok_none

theorem instr_Decode_4_ok1_3 (o0 : Nat) (L1 : List Int) (n2 n3 n4 : Nat) (O0 : Obj) (F0 : ∀ i, i < L1.length → RowOK O0 (o0 + i * 1) [.k .u8 (L1.getD i 0)]) (v5 v6 v7 : Nat) (v8 v9 v10 v15 v16 v17 : Int) (N : Nat) : (instr_Decode_4M o0 L1 n2 n3 n4 O0 N).Ok Try.prog ext_Pk (.h1m3 v5 v6 v7 v8 v9 v10 v15 v16 v17 : instr_Decode_4X) (instr_Decode_4Step L1 n2 n3 n4 N (.h1m3 v5 v6 v7 v8 v9 v10 v15 v16 v17 : instr_Decode_4X)) := by
 show (instr_Decode_4M o0 L1 n2 n3 n4 O0 N).Ok Try.prog ext_Pk (.h1m3 v5 v6 v7 v8 v9 v10 v15 v16 v17 : instr_Decode_4X) (instr_Decode_4_h1m3 L1 n2 n3 n4 N v5 v6 v7 v8 v9 v10 v15 v16 v17)
 unfold instr_Decode_4_h1m3
 refine Mach.ok_ite (fun g0 => ?_) (fun g0 => ?_)
 ·
  refine Mach.ok_ite (fun g1 => ?_) (fun g1 => ?_)
  ·
   refine Mach.ok_ite (fun g2 => ?_) (fun g2 => ?_)
   ·
    refine Mach.ok_ite (fun g3 => ?_) (fun g3 => ?_)
    ·
     refine Mach.ok_bind (fun z4 c4 => ?_)
     cases z4 with
     | r0 y4_0 =>
      refine Mach.ok_ite (fun g5 => ?_) (fun g5 => ?_)
      ·
       exact Mach.ok_fin (M := instr_Decode_4M o0 L1 n2 n3 n4 O0 N) (cd := 1000000) (cm := 0) (r := (.r0 (y4_0) : instr_Decode_4R)) (fu := 4000) (orc := (orcw [(1, true)] [(0, (L1.getD n2 0))] [(0, 0)] [(0, [.k .u8 (L1.getD n2 0)])] [(1, (instr_CheckT0 ((L1.getD n2 0)) (v15) (v16) (v17)  y4_0  4))])) (live := [0]) (u := Value.tuple #[Value.agg #[vq, vq, vq, vq], vn, vi y4_0]) (bl := [some (.ro O0)]) (ob := [((y4_0 != (0 : Int)), true), (dP (instr_CheckP0 #[Value.agg #[vi (L1.getD n2 0), vi v15, vi v16, vi v17]] ((L1.getD n2 0)) (v15) (v16) (v17)  y4_0  4), true), ((IntKind.i64.wrap (L1.getD n2 0)) == (L1.getD n2 0), true), (sameR (roRow O0 ((o0 + n2) + (0 * 1)) 1) [.k .u8 (L1.getD n2 0)], true), (Nat.blt 0 n3, true), ((0 : Int) == Int.ofNat 0, true)]) (fun gv => by kernel_rfl) (oD <| obs_cons (dP_of (instr_CheckC0 #[Value.agg #[vi (L1.getD n2 0), vi v15, vi v16, vi v17]] ((L1.getD n2 0)) (v15) (v16) (v17)  y4_0 N c4  4 rfl (by decide) (by decide))) <| obs_cons (beq_iff_eq.2 (wrap_i64 ltA)) <| obs_cons ((show (o0 + n2 * 1 + 0) = ((o0 + n2) + (0 * 1)) from by omega) ▸ F0 n2 (by omega) 0 1 (show 0 + 1 ≤ 1 from by decide)) <| oB <| oI obs_nil) rfl (by decide) (by rfl) rr ⟨rfl, trivial⟩
      ·
       refine Mach.ok_ite (fun g6 => ?_) (fun g6 => ?_)
       ·
        exact Mach.ok_fin (M := instr_Decode_4M o0 L1 n2 n3 n4 O0 N) (cd := 1000000) (cm := 0) (r := (.r1 (v15) (v16) (v17) (([] : List Int)) : instr_Decode_4R)) (fu := 4000) (orc := (orcw [(1, false)] [(0, (L1.getD n2 0))] [(0, 0)] [(0, [.k .u8 (L1.getD n2 0)])] [(1, (instr_CheckT0 ((L1.getD n2 0)) (v15) (v16) (v17)  y4_0  4)), (2, .ap0)])) (live := [0, 4]) (u := Value.tuple #[Value.agg #[vi (L1.getD n2 0), vi v15, vi v16, vi v17], vs 4 0 0 0, vq]) (bl := [some (.ro O0), some (.cells [] 5)]) (ob := [(dP (0 = v6 ∧ ((v6 * 1 = 0 ∧ ([] : List Value) = []) ∨ (v6 * 1 ≠ 0 ∧ roRow O0 (o0 + v5) (v6 * 1) = some [] ∧ allB atom [] = true))), true), ((y4_0 != (0 : Int)), false), (dP (instr_CheckP0 #[Value.agg #[vi (L1.getD n2 0), vi v15, vi v16, vi v17]] ((L1.getD n2 0)) (v15) (v16) (v17)  y4_0  4), true), ((IntKind.i64.wrap (L1.getD n2 0)) == (L1.getD n2 0), true), (sameR (roRow O0 ((o0 + n2) + (0 * 1)) 1) [.k .u8 (L1.getD n2 0)], true), (Nat.blt 0 n3, true), ((0 : Int) == Int.ofNat 0, true)]) (fun gv => by kernel_rfl) (obs_cons (dP_of ⟨by omega, .inl ⟨by omega, rfl⟩⟩) <| oE <| obs_cons (dP_of (instr_CheckC0 #[Value.agg #[vi (L1.getD n2 0), vi v15, vi v16, vi v17]] ((L1.getD n2 0)) (v15) (v16) (v17)  y4_0 N c4  4 rfl (by decide) (by decide))) <| obs_cons (beq_iff_eq.2 (wrap_i64 ltA)) <| obs_cons ((show (o0 + n2 * 1 + 0) = ((o0 + n2) + (0 * 1)) from by omega) ▸ F0 n2 (by omega) 0 1 (show 0 + 1 ≤ 1 from by decide)) <| oB <| oI obs_nil) rfl (by decide) (by rfl) ⟨Eq.trans (show (Value.tuple #[Value.agg #[vi (L1.getD n2 0), vi v15, vi v16, vi v17], vs 1 0 ([] : List Int).length ([] : List Int).length, vq] : Value) = Value.tuple #[Value.agg #[vi (L1.getD n2 0), vi v15, vi v16, vi v17], vs 1 0 0 0, vq] from (tuple_eq (cons_eq rfl (cons_eq (slice_eq rfl eqA eqA) (cons_eq rfl rfl))))) (by rfl), by rfl⟩ ⟨rfl, ⟨(same_cells (E := (encI .u8)) _ (L := ([] : List Int)) _ (show ([] : List Value) = rowV (encI .u8) ([] : List Int) from rfl)), trivial⟩⟩
       ·
        refine Mach.ok_ite (fun g7 => ?_) (fun g7 => ?_)
        ·
         refine Mach.ok_ite (fun g8 => ?_) (fun g8 => ?_)
         ·
          exact Mach.ok_fin (M := instr_Decode_4M o0 L1 n2 n3 n4 O0 N) (cd := 1000000) (cm := 0) (r := (.r1 (v15) (v16) (v17) (((L1.drop v5).take v6)) : instr_Decode_4R)) (fu := 4000) (orc := (orcw [(1, false)] [(0, (L1.getD n2 0))] [(0, 0)] [(0, [.k .u8 (L1.getD n2 0)])] [(1, (instr_CheckT0 ((L1.getD n2 0)) (v15) (v16) (v17)  y4_0  4)), (2, .ap v6 (rowV (encI .u8) ((L1.drop v5).take v6)) (rowV (encI .u8) ((L1.drop v5).take v6)))])) (live := [0, 5]) (u := Value.tuple #[Value.agg #[vi (L1.getD n2 0), vi v15, vi v16, vi v17], vs 5 0 (0 + v6) (0 + v6), vq]) (bl := [some (.ro O0), some (.cells (rowV (encI .u8) ((L1.drop v5).take v6)) 5)]) (ob := [(dP ((v6 = v6 ∧ ((v6 * 1 = 0 ∧ (rowV (encI .u8) ((L1.drop v5).take v6)) = []) ∨ (v6 * 1 ≠ 0 ∧ roRow O0 (o0 + v5) (v6 * 1) = some (rowV (encI .u8) ((L1.drop v5).take v6)) ∧ allB atom (rowV (encI .u8) ((L1.drop v5).take v6)) = true))) ∧ 0 < v6 ∧ v6 ≤ 100000 ∧ 0 < 0 + v6 ∧ 0 ≤ 100000 ∧ 0 * 1 ≤ (List.length []) ∧ List.take (0 * 1) [] ++ (rowV (encI .u8) ((L1.drop v5).take v6)) = (rowV (encI .u8) ((L1.drop v5).take v6))), true), ((y4_0 != (0 : Int)), false), (dP (instr_CheckP0 #[Value.agg #[vi (L1.getD n2 0), vi v15, vi v16, vi v17]] ((L1.getD n2 0)) (v15) (v16) (v17)  y4_0  4), true), ((IntKind.i64.wrap (L1.getD n2 0)) == (L1.getD n2 0), true), (sameR (roRow O0 ((o0 + n2) + (0 * 1)) 1) [.k .u8 (L1.getD n2 0)], true), (Nat.blt 0 n3, true), ((0 : Int) == Int.ofNat 0, true)]) (fun gv => by kernel_rfl) (obs_cons (dP_of ⟨⟨rfl, .inr ⟨by omega, src_ro (E := (encI .u8)) (C := fun x : Int => [.k .u8 x]) (L := L1) (b := o0) (a := v5) (n := v6) F0 (fun x => ⟨rfl, rfl⟩) (by omega) (by omega) (show _ = _ + _ * 1 from by omega) (show _ = _ * 1 from rfl) rfl⟩⟩, by omega, by omega, ltA, by omega, (rowV_dst (E := (encI .u8)) (L := ([] : List Int)) (M := ((L1.drop v5).take v6)) (n := 0) (show _ = _ * 1 from rfl) ltA (R := ((L1.drop v5).take v6)) (by rw [List.take_of_length_le ltA]; rfl))⟩) <| oE <| obs_cons (dP_of (instr_CheckC0 #[Value.agg #[vi (L1.getD n2 0), vi v15, vi v16, vi v17]] ((L1.getD n2 0)) (v15) (v16) (v17)  y4_0 N c4  4 rfl (by decide) (by decide))) <| obs_cons (beq_iff_eq.2 (wrap_i64 ltA)) <| obs_cons ((show (o0 + n2 * 1 + 0) = ((o0 + n2) + (0 * 1)) from by omega) ▸ F0 n2 (by omega) 0 1 (show 0 + 1 ≤ 1 from by decide)) <| oB <| oI obs_nil) rfl (by decide) (by rfl) ⟨Eq.trans (show (Value.tuple #[Value.agg #[vi (L1.getD n2 0), vi v15, vi v16, vi v17], vs 1 0 ((L1.drop v5).take v6).length ((L1.drop v5).take v6).length, vq] : Value) = Value.tuple #[Value.agg #[vi (L1.getD n2 0), vi v15, vi v16, vi v17], vs 1 0 (0 + v6) (0 + v6), vq] from (tuple_eq (cons_eq rfl (cons_eq (slice_eq rfl eqA eqA) (cons_eq rfl rfl))))) (by rfl), by rfl⟩ ⟨rfl, ⟨(same_row (E := (encI .u8)) (α := Int) _ ((L1.drop v5).take v6) _), trivial⟩⟩
         ·
          exact Mach.ok_none
        ·
         exact Mach.ok_none
    ·
     exact Mach.ok_none
   ·
    exact Mach.ok_none
  ·
   exact Mach.ok_none
 ·
  exact Mach.ok_none

theorem instr_Decode_4_en (o0 : Nat) (L1 : List Int) (n2 n3 n4 : Nat) (O0 : Obj) (F0 : ∀ i, i < L1.length → RowOK O0 (o0 + i * 1) [.k .u8 (L1.getD i 0)]) (N : Nat) : (instr_Decode_4M o0 L1 n2 n3 n4 O0 N).Enter Try.prog ext_Pk #[vs 0 (o0 + n2) n3 n4] (instr_Decode_4In L1 n2 n3 n4 N) := by
 unfold instr_Decode_4In
 refine Mach.en_ite (fun g0 => ?_) (fun g0 => ?_)
 ·
  exact Mach.en_fin (M := instr_Decode_4M o0 L1 n2 n3 n4 O0 N) (cd := 1000000) (cm := 0) (r := (.r0 ((6 : Int)) : instr_Decode_4R)) (fu := 4000) (orc := (orcw [(0, true)] [] [] [] [])) (live := [0]) (u := Value.tuple #[Value.agg #[vq, vq, vq, vq], vn, vi (6 : Int)]) (bl := [some (.ro O0)]) (ob := [(((n3 : Int) == (0 : Int)), true)]) (by kernel_rfl) (oT obs_nil) rfl (by decide) (by rfl) rr ⟨rfl, trivial⟩
 ·
  refine Mach.en_ite (fun g1 => ?_) (fun g1 => ?_)
  ·
   refine Mach.en_ite (fun g2 => ?_) (fun g2 => ?_)
   ·
    refine Mach.en_ite (fun g3 => ?_) (fun g3 => ?_)
    ·
     refine Mach.en_bind (fun z4 c4 => ?_)
     cases z4 with
     | r0 y4_0 y4_1 y4_2 y4_3 =>
      refine Mach.en_ite (fun g5 => ?_) (fun g5 => ?_)
      ·
       exact Mach.en_fin (M := instr_Decode_4M o0 L1 n2 n3 n4 O0 N) (cd := 1000000) (cm := 0) (r := (.r0 ((100 : Int)) : instr_Decode_4R)) (fu := 4000) (orc := (orcw [(0, false), (1, true)] [(0, (L1.getD n2 0))] [(0, 0)] [(0, [.k .u8 (L1.getD n2 0)])] [(0, (instr_kind_2T0 ((L1.getD n2 0))  y4_0 y4_1 y4_2 y4_3  2))])) (live := [0]) (u := Value.tuple #[Value.agg #[vq, vq, vq, vq], vn, vi (100 : Int)]) (bl := [some (.ro O0)]) (ob := [(((strOf y4_0).toList == (⟨#[]⟩ : ByteArray).toList), true), (dP (instr_kind_2P0 #[vi (L1.getD n2 0)] ((L1.getD n2 0))  y4_0 y4_1 y4_2 y4_3  2), true), ((IntKind.i64.wrap (L1.getD n2 0)) == (L1.getD n2 0), true), (sameR (roRow O0 ((o0 + n2) + (0 * 1)) 1) [.k .u8 (L1.getD n2 0)], true), (Nat.blt 0 n3, true), ((0 : Int) == Int.ofNat 0, true), (((n3 : Int) == (0 : Int)), false)]) (by kernel_rfl) (obs_cons (strB_t (x := y4_0) (y := ([] : List Int)) (by assumption)) <| obs_cons (dP_of (instr_kind_2C0 #[vi (L1.getD n2 0)] ((L1.getD n2 0))  y4_0 y4_1 y4_2 y4_3 N c4  2 rfl (by decide) (by decide))) <| obs_cons (beq_iff_eq.2 (wrap_i64 ltA)) <| obs_cons ((show (o0 + n2 * 1 + 0) = ((o0 + n2) + (0 * 1)) from by omega) ▸ F0 n2 (by omega) 0 1 (show 0 + 1 ≤ 1 from by decide)) <| oB <| oI <| oF obs_nil) rfl (by decide) (by rfl) rr ⟨rfl, trivial⟩
      ·
       refine Mach.en_ite (fun g6 => ?_) (fun g6 => ?_)
       ·
        exact Mach.en_head (bK := instr_Decode_4C 1) (M := instr_Decode_4M o0 L1 n2 n3 n4 O0 N) (cd := 1000000) (cm := 0) (y := (.h1m0 (y4_1) (y4_2) (y4_3) : instr_Decode_4X)) (fu := 4000) (orc := (orcw [(0, false), (1, false)] [(0, (L1.getD n2 0))] [(0, 0)] [(0, [.k .u8 (L1.getD n2 0)])] [(0, (instr_kind_2T0 ((L1.getD n2 0))  y4_0 y4_1 y4_2 y4_3  2)), (2, .sl 1 n3)])) (live := [0, 1, 3]) (tv := [some (vs 0 (o0 + n2) n3 n4), some (vp 1 0), some (vp 3 0), some (Value.slice (some ⟨0, ((o0 + n2) + (1 * 1)), none⟩) (n3 - 1) (n4 - 1)), some (Value.agg #[vi y4_1, vi y4_2, vi y4_3]), some (vq)]) (bl := [some (.ro O0), some (.cells [vq, vq, vq, vq] 38), some (.cells [vq, vq, vq] 51)]) (ob := [(dP (1 ≤ n3 ∧ n3 ≤ n4), true), (dS n3, true), ((1 : Int) == Int.ofNat 1, true), (((strOf y4_0).toList == (⟨#[]⟩ : ByteArray).toList), false), (dP (instr_kind_2P0 #[vi (L1.getD n2 0)] ((L1.getD n2 0))  y4_0 y4_1 y4_2 y4_3  2), true), ((IntKind.i64.wrap (L1.getD n2 0)) == (L1.getD n2 0), true), (sameR (roRow O0 ((o0 + n2) + (0 * 1)) 1) [.k .u8 (L1.getD n2 0)], true), (Nat.blt 0 n3, true), ((0 : Int) == Int.ofNat 0, true), (((n3 : Int) == (0 : Int)), false)]) rfl rfl (show rids (instr_Decode_4C 1).2 = [] from rfl) (by kernel_rfl) (obs_cons (dP_of ⟨ltA, ltA⟩) <| oR <| oI <| obs_cons (strB_f (x := y4_0) (y := ([] : List Int)) (by assumption)) <| obs_cons (dP_of (instr_kind_2C0 #[vi (L1.getD n2 0)] ((L1.getD n2 0))  y4_0 y4_1 y4_2 y4_3 N c4  2 rfl (by decide) (by decide))) <| obs_cons (beq_iff_eq.2 (wrap_i64 ltA)) <| obs_cons ((show (o0 + n2 * 1 + 0) = ((o0 + n2) + (0 * 1)) from by omega) ▸ F0 n2 (by omega) 0 1 (show 0 + 1 ≤ 1 from by decide)) <| oB <| oI <| oF obs_nil) rfl (by decide) (by rfl) ⟨rr, ⟨rr, ⟨rr, ⟨⟨Eq.trans (show (Value.slice (some ⟨0, (o0 + (n2 + 1)), none⟩) (n3 - 1) (n4 - 1) : Value) = Value.slice (some ⟨0, ((o0 + n2) + (1 * 1)), none⟩) (n3 - 1) (n4 - 1) from (slice_eq eqA rfl rfl)) (by rfl), by rfl⟩, ⟨rr, ⟨rr, trivial⟩⟩⟩⟩⟩⟩ ⟨rfl, ⟨⟨rfl, ⟨[], by rfl⟩, by rfl⟩, ⟨⟨rfl, ⟨[], by rfl⟩, by rfl⟩, trivial⟩⟩⟩
       ·
        exact Mach.en_none
    ·
     exact Mach.en_none
   ·
    exact Mach.en_none
  ·
   exact Mach.en_none

theorem instr_Decode_4_spec (o0 : Nat) (L1 : List Int) (n2 n3 n4 : Nat) (O0 : Obj) (F0 : ∀ i, i < L1.length → RowOK O0 (o0 + i * 1) [.k .u8 (L1.getD i 0)]) (N : Nat) (r : instr_Decode_4R) (h : instr_Decode_4 L1 n2 n3 n4 N = some r) : LSpec Try.prog 18 #[vs 0 (o0 + n2) n3 n4] [.ro O0] (instr_Decode_4V o0 L1 n2 n3 n4 O0 r) (instr_Decode_4Po o0 L1 n2 n3 n4 O0 r) :=
 Mach.spec fit_Pk (instr_Decode_4M o0 L1 n2 n3 n4 O0 N) Try.func18 (by kernel_rfl) (by kernel_rfl) (fun x => by cases x <;> exact le_far _ rfl) (fun r => by cases r <;> exact le_far _ rfl) (fun x => by
  cases x with
  | h1m0 _ _ _ => exact fun _ => (show ¬ (1 ∈ rids (instr_Decode_4C 1).2) from by decide +kernel)
  | h1m1 _ _ _ _ _ _ _ => exact fun _ => (show ¬ (1 ∈ rids (instr_Decode_4C 1).2) from by decide +kernel)
  | h1m2 _ _ _ _ _ _ _ _ => exact fun _ => (show ¬ (1 ∈ rids (instr_Decode_4C 1).2) from by decide +kernel)
  | h1m3 _ _ _ _ _ _ _ _ _ => exact fun _ => (show ¬ (1 ∈ rids (instr_Decode_4C 1).2) from by decide +kernel)
  ) (fun x => (show (instr_Decode_4M o0 L1 n2 n3 n4 O0 N).Ok Try.prog ext_Pk x (instr_Decode_4Step L1 n2 n3 n4 N x) from by
  cases x with
  | h1m0 v8 v9 v10 => exact instr_Decode_4_ok1_0 o0 L1 n2 n3 n4 O0 F0 v8 v9 v10 N
  | h1m1 v5 v6 v7 v8 v9 v10 v15 => exact instr_Decode_4_ok1_1 o0 L1 n2 n3 n4 O0 F0 v5 v6 v7 v8 v9 v10 v15 N
  | h1m2 v5 v6 v7 v8 v9 v10 v15 v16 => exact instr_Decode_4_ok1_2 o0 L1 n2 n3 n4 O0 F0 v5 v6 v7 v8 v9 v10 v15 v16 N
  | h1m3 v5 v6 v7 v8 v9 v10 v15 v16 v17 => exact instr_Decode_4_ok1_3 o0 L1 n2 n3 n4 O0 F0 v5 v6 v7 v8 v9 v10 v15 v16 v17 N
  )) (instr_Decode_4_en o0 L1 n2 n3 n4 O0 F0 N) (n := N) h

noncomputable def instr_Decode_4T0 (o0 : Nat) (L1 : List Int) (n2 n3 n4 : Nat) (O0 : Obj) (w6 : Int) (k0 n : Nat) : Told := .call [(k0, .ro O0)] (Value.tuple #[Value.agg #[vq, vq, vq, vq], vn, vi w6]) [] 0
def instr_Decode_4P0 (A : Array Value) (o0 : Nat) (L1 : List Int) (n2 n3 n4 : Nat) (O0 : Obj) (w6 : Int) (k0 n : Nat) : Prop := CallSpec Try.prog 18 A [(k0, .ro O0)] (Value.tuple #[Value.agg #[vq, vq, vq, vq], vn, vi w6]) [] n 0

theorem instr_Decode_4C0 (A : Array Value) (o0 : Nat) (L1 : List Int) (n2 n3 n4 : Nat) (O0 : Obj) (F0 : ∀ i, i < L1.length → RowOK O0 (o0 + i * 1) [.k .u8 (L1.getD i 0)]) (w6 : Int) (N : Nat) (h : instr_Decode_4 L1 n2 n3 n4 N = some (.r0 w6)) (k0 n : Nat) (hA : A = #[vs k0 (o0 + n2) n3 n4]) (hnd : ([k0] : List Nat).Nodup) (hlt : ∀ k ∈ ([k0] : List Nat), k < n) : instr_Decode_4P0 A o0 L1 n2 n3 n4 O0 w6 k0 n :=
 cs_args hA (LSpec.callL (show LSpec Try.prog 18 #[vs 0 (o0 + n2) n3 n4] [.ro O0] (Value.tuple #[Value.agg #[vq, vq, vq, vq], vn, vi w6]) [some (.ro O0)] from instr_Decode_4_spec o0 L1 n2 n3 n4 O0 F0 N _ h) [k0] n [] rfl hnd hlt (show 1 ≤ 1 from by decide) (show ∀ j ∈ ([] : List Nat), j < 1 from by decide) (by rfl) ⟨rfl, trivial⟩ (by rfl) ⟨rfl, trivial⟩ ⟨.inr rfl, trivial⟩ rfl rfl rfl (cons_eq (pair_eq rfl rfl) rfl) rfl)

noncomputable def instr_Decode_4T1 (o0 : Nat) (L1 : List Int) (n2 n3 n4 : Nat) (O0 : Obj) (w3 w4 w5 : Int) (w6 : List Int) (k0 n : Nat) : Told := .call [(k0, .ro O0)] (Value.tuple #[Value.agg #[vi (L1.getD n2 0), vi w3, vi w4, vi w5], vs n 0 w6.length w6.length, vq]) [(n, some (.cells (rowV (encI .u8) w6) 5))] 1
def instr_Decode_4P1 (A : Array Value) (o0 : Nat) (L1 : List Int) (n2 n3 n4 : Nat) (O0 : Obj) (w3 w4 w5 : Int) (w6 : List Int) (k0 n : Nat) : Prop := CallSpec Try.prog 18 A [(k0, .ro O0)] (Value.tuple #[Value.agg #[vi (L1.getD n2 0), vi w3, vi w4, vi w5], vs n 0 w6.length w6.length, vq]) [(n, some (.cells (rowV (encI .u8) w6) 5))] n 1

theorem instr_Decode_4C1 (A : Array Value) (o0 : Nat) (L1 : List Int) (n2 n3 n4 : Nat) (O0 : Obj) (F0 : ∀ i, i < L1.length → RowOK O0 (o0 + i * 1) [.k .u8 (L1.getD i 0)]) (w3 w4 w5 : Int) (w6 : List Int) (N : Nat) (h : instr_Decode_4 L1 n2 n3 n4 N = some (.r1 w3 w4 w5 w6)) (k0 n : Nat) (hA : A = #[vs k0 (o0 + n2) n3 n4]) (hnd : ([k0] : List Nat).Nodup) (hlt : ∀ k ∈ ([k0] : List Nat), k < n) : instr_Decode_4P1 A o0 L1 n2 n3 n4 O0 w3 w4 w5 w6 k0 n :=
 cs_args hA (LSpec.callL (show LSpec Try.prog 18 #[vs 0 (o0 + n2) n3 n4] [.ro O0] (Value.tuple #[Value.agg #[vi (L1.getD n2 0), vi w3, vi w4, vi w5], vs 1 0 w6.length w6.length, vq]) [some (.ro O0), some (.cells (rowV (encI .u8) w6) 5)] from instr_Decode_4_spec o0 L1 n2 n3 n4 O0 F0 N _ h) [k0] n [1] rfl hnd hlt (show 1 ≤ 2 from by decide) (show ∀ j ∈ ([1] : List Nat), j < 2 from by decide) (by rfl) ⟨rfl, trivial⟩ (by rfl) ⟨rfl, ⟨(under_row _ _ _), trivial⟩⟩ ⟨.inr rfl, ⟨(by decide), trivial⟩⟩ rfl rfl rfl (cons_eq (pair_eq rfl rfl) rfl) (cons_eq (pair_eq rfl (some_eq (renO_row _ _ _))) rfl))

noncomputable def prog_Decode_3V (o0 : Nat) (L1 : List Int) (n2 n3 : Nat) (O0 : Obj) : prog_Decode_3R → Value
 | .r0 w2 => Value.tuple #[vn, vi w2]
 | .r1 w2 => Value.tuple #[vs 1 0 w2.length w2.length, vq]
noncomputable def prog_Decode_3Po (o0 : Nat) (L1 : List Int) (n2 n3 : Nat) (O0 : Obj) : prog_Decode_3R → List (Option AObj)
 | .r0 w2 => [some (.ro O0)]
 | .r1 w2 => [some (.ro O0), some (.cells (rowV E_iiii w2) 38)]

def prog_Decode_3Hd : prog_Decode_3X → Nat
 | .h1m0 => 1
 | .h1m1 v2 v4 => 1
 | .h1m2 v2 v3 v5 => 1
noncomputable def prog_Decode_3L (o0 : Nat) (L1 : List Int) (n2 n3 : Nat) (O0 : Obj) : prog_Decode_3X → List (Nat × Value)
 | .h1m0 => [(5, vs 0 (o0 + 6) ((n2 - 1) - 6) (n3 - 6)), (7, vn), (60, vi (IntKind.i64.wrap (((BitVec.ofInt IntKind.i64.bits (IntKind.i64.wrap ((L1.getD 4 0) * (2 ^ 8 : Int))) ||| BitVec.ofInt IntKind.i64.bits (L1.getD 5 0)).toNat : Nat) : Int))), (61, vq)]
 | .h1m1 v2 v4 => [(5, vn), (7, vs 1 0 v2.length v2.length), (60, vi (IntKind.i64.wrap (((BitVec.ofInt IntKind.i64.bits (IntKind.i64.wrap ((L1.getD 4 0) * (2 ^ 8 : Int))) ||| BitVec.ofInt IntKind.i64.bits (L1.getD 5 0)).toNat : Nat) : Int))), (61, vi (v4 : Int))]
 | .h1m2 v2 v3 v5 => [(5, vs 1 0 v2.length v2.length), (7, vs 2 0 v3.length v3.length), (60, vi (IntKind.i64.wrap (((BitVec.ofInt IntKind.i64.bits (IntKind.i64.wrap ((L1.getD 4 0) * (2 ^ 8 : Int))) ||| BitVec.ofInt IntKind.i64.bits (L1.getD 5 0)).toNat : Nat) : Int))), (61, vi (v5 : Int))]
noncomputable def prog_Decode_3H (o0 : Nat) (L1 : List Int) (n2 n3 : Nat) (O0 : Obj) : prog_Decode_3X → List (Option AObj)
 | .h1m0 => [some (.ro O0)]
 | .h1m1 v2 v4 => [some (.ro O0), some (.cells (rowV E_iiii v2) 38)]
 | .h1m2 v2 v3 v5 => [some (.ro O0), some (.cells (rowV (encI .u8) v2) 5), some (.cells (rowV E_iiii v3) 38)]

noncomputable def prog_Decode_3C : Nat → Code × List Kont
 | 1 => headOf [1, 1, 1, 1, 1, 0, 1, 3] (bodyC Try.f8) []
 | _ => (.skip, [])
def prog_Decode_3IL : Nat → Bool
 | 1 => true
 | _ => true
noncomputable def prog_Decode_3K (i : Nat) : List Kont := match prog_Decode_3IL i with | true => .rnd i :: (prog_Decode_3C i).2 | false => (prog_Decode_3C i).2

noncomputable def prog_Decode_3M (o0 : Nat) (L1 : List Int) (n2 n3 : Nat) (O0 : Obj) (N : Nat) : Mach := ⟨Try.f8, [.ro O0], prog_Decode_3X, prog_Decode_3R, prog_Decode_3Step L1 n2 n3 N, prog_Decode_3Hd, prog_Decode_3C, prog_Decode_3IL, prog_Decode_3L o0 L1 n2 n3 O0, prog_Decode_3H o0 L1 n2 n3 O0, prog_Decode_3V o0 L1 n2 n3 O0, prog_Decode_3Po o0 L1 n2 n3 O0⟩

theorem prog_Decode_3_ok1_0 (o0 : Nat) (L1 : List Int) (n2 n3 : Nat) (O0 : Obj) (F0 : ∀ i, i < L1.length → RowOK O0 (o0 + i * 1) [.k .u8 (L1.getD i 0)]) (N : Nat) : (prog_Decode_3M o0 L1 n2 n3 O0 N).Ok Try.prog ext_Pk (.h1m0 : prog_Decode_3X) (prog_Decode_3Step L1 n2 n3 N (.h1m0 : prog_Decode_3X)) := by
 show (prog_Decode_3M o0 L1 n2 n3 O0 N).Ok Try.prog ext_Pk (.h1m0 : prog_Decode_3X) (prog_Decode_3_h1m0 L1 n2 n3 N)
 unfold prog_Decode_3_h1m0
 refine Mach.ok_ite (fun g0 => ?_) (fun g0 => ?_)
 ·
  refine Mach.ok_bind (fun z1 c1 => ?_)
  cases z1 with
  | r0 y1_0 =>
   refine Mach.ok_ite (fun g2 => ?_) (fun g2 => ?_)
   ·
    exact Mach.ok_fin (M := prog_Decode_3M o0 L1 n2 n3 O0 N) (cd := 1000000) (cm := 0) (r := (.r0 ((110 : Int)) : prog_Decode_3R)) (fu := 4000) (orc := (orcw [(0, true), (1, true)] [] [] [] [(0, (instr_Decode_4T0 (o0) (L1) (6) (((n2 - 1) - 6)) ((n3 - 6)) O0 y1_0 0 1))])) (live := [0]) (u := Value.tuple #[vn, vi (110 : Int)]) (bl := [some (.ro O0)]) (ob := [((y1_0 != (0 : Int)), true), (dP (instr_Decode_4P0 #[vs 0 (o0 + 6) ((n2 - 1) - 6) (n3 - 6)] (o0) (L1) (6) (((n2 - 1) - 6)) ((n3 - 6)) O0 y1_0 0 1), true), (dS O0, true), ((decide ((0 : Int) < (IntKind.i64.wrap (((BitVec.ofInt IntKind.i64.bits (IntKind.i64.wrap ((L1.getD 4 0) * (2 ^ 8 : Int))) ||| BitVec.ofInt IntKind.i64.bits (L1.getD 5 0)).toNat : Nat) : Int)))), true)]) (fun gv => by kernel_rfl) (oD <| obs_cons (dP_of (instr_Decode_4C0 #[vs 0 (o0 + 6) ((n2 - 1) - 6) (n3 - 6)] (o0) (L1) (6) (((n2 - 1) - 6)) ((n3 - 6)) O0 F0 y1_0 N c1 0 1 rfl (by decide) (by decide))) <| oR <| oY obs_nil) rfl (by decide) (by rfl) rr ⟨rfl, trivial⟩
   ·
    exact Mach.ok_next (M := prog_Decode_3M o0 L1 n2 n3 O0 N) (cd := 1000000) (cm := 0) (y := (.h1m1 (([(⟨(0 : Int), (0 : Int), (0 : Int), (0 : Int)⟩ : R_iiii)] : List R_iiii)) (1) : prog_Decode_3X)) (fu := 4000) (orc := (orcw [(0, true), (1, false)] [] [] [] [(0, (instr_Decode_4T0 (o0) (L1) (6) (((n2 - 1) - 6)) ((n3 - 6)) O0 y1_0 0 1))])) (live := [0, 3]) (tv := fun _ => [some (vn), some (vs 3 0 1 1), some (vi (IntKind.i64.wrap (((BitVec.ofInt IntKind.i64.bits (IntKind.i64.wrap ((L1.getD 4 0) * (2 ^ 8 : Int))) ||| BitVec.ofInt IntKind.i64.bits (L1.getD 5 0)).toNat : Nat) : Int))), some (vi (1 : Int))]) (bl := [some (.ro O0), some (.cells [vq, vq, vq, vq] 38)]) (ob := [((y1_0 != (0 : Int)), false), (dP (instr_Decode_4P0 #[vs 0 (o0 + 6) ((n2 - 1) - 6) (n3 - 6)] (o0) (L1) (6) (((n2 - 1) - 6)) ((n3 - 6)) O0 y1_0 0 1), true), (dS O0, true), ((decide ((0 : Int) < (IntKind.i64.wrap (((BitVec.ofInt IntKind.i64.bits (IntKind.i64.wrap ((L1.getD 4 0) * (2 ^ 8 : Int))) ||| BitVec.ofInt IntKind.i64.bits (L1.getD 5 0)).toNat : Nat) : Int)))), true)]) rfl (show 1 ∈ rids (prog_Decode_3K 1) from by decide +kernel) (fun gv => by kernel_rfl) (oE <| obs_cons (dP_of (instr_Decode_4C0 #[vs 0 (o0 + 6) ((n2 - 1) - 6) (n3 - 6)] (o0) (L1) (6) (((n2 - 1) - 6)) ((n3 - 6)) O0 F0 y1_0 N c1 0 1 rfl (by decide) (by decide))) <| oR <| oY obs_nil) rfl (by decide) (by rfl) (fun _ => ⟨rr, ⟨⟨Eq.trans (show (vs 1 0 ([(⟨(0 : Int), (0 : Int), (0 : Int), (0 : Int)⟩ : R_iiii)] : List R_iiii).length ([(⟨(0 : Int), (0 : Int), (0 : Int), (0 : Int)⟩ : R_iiii)] : List R_iiii).length : Value) = vs 1 0 1 1 from (slice_eq rfl eqA eqA)) (by rfl), by rfl⟩, ⟨rr, ⟨⟨Eq.trans (show (vi ((1 : Nat) : Int) : Value) = vi (1 : Int) from (congrArg (Value.int .i64) (by first | rfl | omega))) (by rfl), by rfl⟩, trivial⟩⟩⟩⟩) ⟨rfl, ⟨(same_cells (E := E_iiii) _ (L := ([(⟨(0 : Int), (0 : Int), (0 : Int), (0 : Int)⟩ : R_iiii)] : List R_iiii)) _ (show ([vq, vq, vq, vq] : List Value) = rowV E_iiii ([(⟨(0 : Int), (0 : Int), (0 : Int), (0 : Int)⟩ : R_iiii)] : List R_iiii) from rfl)), trivial⟩⟩
  | r1 y1_0 y1_1 y1_2 y1_3 =>
   exact Mach.ok_next (M := prog_Decode_3M o0 L1 n2 n3 O0 N) (cd := 1000000) (cm := 0) (y := (.h1m2 (y1_3) (([(⟨(L1.getD 6 0), y1_0, y1_1, y1_2⟩ : R_iiii)] : List R_iiii)) (1) : prog_Decode_3X)) (fu := 4000) (orc := (orcw [(0, true)] [] [] [] [(0, (instr_Decode_4T1 (o0) (L1) (6) (((n2 - 1) - 6)) ((n3 - 6)) O0 y1_0 y1_1 y1_2 y1_3 0 1))])) (live := [0, 1, 4]) (tv := fun _ => [some (vs 1 0 y1_3.length y1_3.length), some (vs 4 0 1 1), some (vi (IntKind.i64.wrap (((BitVec.ofInt IntKind.i64.bits (IntKind.i64.wrap ((L1.getD 4 0) * (2 ^ 8 : Int))) ||| BitVec.ofInt IntKind.i64.bits (L1.getD 5 0)).toNat : Nat) : Int))), some (vi (1 : Int))]) (bl := [some (.ro O0), some (.cells (rowV (encI .u8) y1_3) 5), some (.cells [vi (L1.getD 6 0), vi y1_0, vi y1_1, vi y1_2] 38)]) (ob := [(dP (instr_Decode_4P1 #[vs 0 (o0 + 6) ((n2 - 1) - 6) (n3 - 6)] (o0) (L1) (6) (((n2 - 1) - 6)) ((n3 - 6)) O0 y1_0 y1_1 y1_2 y1_3 0 1), true), (dS O0, true), ((decide ((0 : Int) < (IntKind.i64.wrap (((BitVec.ofInt IntKind.i64.bits (IntKind.i64.wrap ((L1.getD 4 0) * (2 ^ 8 : Int))) ||| BitVec.ofInt IntKind.i64.bits (L1.getD 5 0)).toNat : Nat) : Int)))), true)]) rfl (show 1 ∈ rids (prog_Decode_3K 1) from by decide +kernel) (fun gv => by kernel_rfl) (obs_cons (dP_of (instr_Decode_4C1 #[vs 0 (o0 + 6) ((n2 - 1) - 6) (n3 - 6)] (o0) (L1) (6) (((n2 - 1) - 6)) ((n3 - 6)) O0 F0 y1_0 y1_1 y1_2 y1_3 N c1 0 1 rfl (by decide) (by decide))) <| oR <| oY obs_nil) rfl (by decide) (by rfl) (fun _ => ⟨rr, ⟨⟨Eq.trans (show (vs 2 0 ([(⟨(L1.getD 6 0), y1_0, y1_1, y1_2⟩ : R_iiii)] : List R_iiii).length ([(⟨(L1.getD 6 0), y1_0, y1_1, y1_2⟩ : R_iiii)] : List R_iiii).length : Value) = vs 2 0 1 1 from (slice_eq rfl eqA eqA)) (by rfl), by rfl⟩, ⟨rr, ⟨⟨Eq.trans (show (vi ((1 : Nat) : Int) : Value) = vi (1 : Int) from (congrArg (Value.int .i64) (by first | rfl | omega))) (by rfl), by rfl⟩, trivial⟩⟩⟩⟩) ⟨rfl, ⟨(same_row (E := (encI .u8)) (α := Int) _ y1_3 _), ⟨(same_cells (E := E_iiii) _ (L := ([(⟨(L1.getD 6 0), y1_0, y1_1, y1_2⟩ : R_iiii)] : List R_iiii)) _ (show ([vi (L1.getD 6 0), vi y1_0, vi y1_1, vi y1_2] : List Value) = rowV E_iiii ([(⟨(L1.getD 6 0), y1_0, y1_1, y1_2⟩ : R_iiii)] : List R_iiii) from rfl)), trivial⟩⟩⟩
 ·
  refine Mach.ok_ite (fun g1 => ?_) (fun g1 => ?_)
  ·
   exact Mach.ok_fin (M := prog_Decode_3M o0 L1 n2 n3 O0 N) (cd := 1000000) (cm := 0) (r := (.r0 ((110 : Int)) : prog_Decode_3R)) (fu := 4000) (orc := (orcw [(0, false), (1, true)] [] [] [] [])) (live := [0]) (u := Value.tuple #[vn, vi (110 : Int)]) (bl := [some (.ro O0)]) (ob := [((decide (((((n2 - 1) - 6) : Nat) : Int) > (0 : Int))), true), ((decide ((0 : Int) < (IntKind.i64.wrap (((BitVec.ofInt IntKind.i64.bits (IntKind.i64.wrap ((L1.getD 4 0) * (2 ^ 8 : Int))) ||| BitVec.ofInt IntKind.i64.bits (L1.getD 5 0)).toNat : Nat) : Int)))), false)]) (fun gv => by kernel_rfl) (oY <| oN obs_nil) rfl (by decide) (by rfl) rr ⟨rfl, trivial⟩
  ·
   exact Mach.ok_fin (M := prog_Decode_3M o0 L1 n2 n3 O0 N) (cd := 1000000) (cm := 0) (r := (.r0 ((0 : Int)) : prog_Decode_3R)) (fu := 4000) (orc := (orcw [(0, false), (1, false)] [] [] [] [])) (live := [0]) (u := Value.tuple #[vn, vq]) (bl := [some (.ro O0)]) (ob := [((decide (((((n2 - 1) - 6) : Nat) : Int) > (0 : Int))), false), ((decide ((0 : Int) < (IntKind.i64.wrap (((BitVec.ofInt IntKind.i64.bits (IntKind.i64.wrap ((L1.getD 4 0) * (2 ^ 8 : Int))) ||| BitVec.ofInt IntKind.i64.bits (L1.getD 5 0)).toNat : Nat) : Int)))), false)]) (fun gv => by kernel_rfl) (oN <| oN obs_nil) rfl (by decide) (by rfl) rr ⟨rfl, trivial⟩

theorem prog_Decode_3_ok1_1 (o0 : Nat) (L1 : List Int) (n2 n3 : Nat) (O0 : Obj) (F0 : ∀ i, i < L1.length → RowOK O0 (o0 + i * 1) [.k .u8 (L1.getD i 0)]) (v2 : List R_iiii) (v4 N : Nat) : (prog_Decode_3M o0 L1 n2 n3 O0 N).Ok Try.prog ext_Pk (.h1m1 v2 v4 : prog_Decode_3X) (prog_Decode_3Step L1 n2 n3 N (.h1m1 v2 v4 : prog_Decode_3X)) := by
 show (prog_Decode_3M o0 L1 n2 n3 O0 N).Ok Try.prog ext_Pk (.h1m1 v2 v4 : prog_Decode_3X) (prog_Decode_3_h1m1 L1 n2 n3 N v2 v4)
 unfold prog_Decode_3_h1m1
 refine Mach.ok_ite (fun g0 => ?_) (fun g0 => ?_)
 ·
  refine Mach.ok_bind (fun z1 c1 => ?_)
  cases z1 with
  | r0 =>
   exact Mach.ok_fin (M := prog_Decode_3M o0 L1 n2 n3 O0 N) (cd := 1000000) (cm := 0) (r := (.r0 ((110 : Int)) : prog_Decode_3R)) (fu := 4000) (orc := (orcw [(0, true)] [] [] [] [(0, (instr_Decode_2T0     2))])) (live := [0]) (u := Value.tuple #[vn, vi (110 : Int)]) (bl := [some (.ro O0)]) (ob := [(dP (instr_Decode_2P0 #[vn]     2), true), ((decide ((v4 : Int) < (IntKind.i64.wrap (((BitVec.ofInt IntKind.i64.bits (IntKind.i64.wrap ((L1.getD 4 0) * (2 ^ 8 : Int))) ||| BitVec.ofInt IntKind.i64.bits (L1.getD 5 0)).toNat : Nat) : Int)))), true)]) (fun gv => by kernel_rfl) (obs_cons (dP_of (instr_Decode_2C0 #[vn]    N c1  2 rfl (by decide) (by decide))) <| oY obs_nil) rfl (by decide) (by rfl) rr ⟨rfl, trivial⟩
 ·
  exact Mach.ok_fin (M := prog_Decode_3M o0 L1 n2 n3 O0 N) (cd := 1000000) (cm := 0) (r := (.r1 (v2) : prog_Decode_3R)) (fu := 4000) (orc := (orcw [(0, false)] [] [] [] [])) (live := [0, 1]) (u := Value.tuple #[vs 1 0 v2.length v2.length, vq]) (bl := [some (.ro O0), some (.cells (rowV E_iiii v2) 38)]) (ob := [((decide ((v4 : Int) < (IntKind.i64.wrap (((BitVec.ofInt IntKind.i64.bits (IntKind.i64.wrap ((L1.getD 4 0) * (2 ^ 8 : Int))) ||| BitVec.ofInt IntKind.i64.bits (L1.getD 5 0)).toNat : Nat) : Int)))), false)]) (fun gv => by kernel_rfl) (oN obs_nil) rfl (by decide) (by rfl) rr ⟨rfl, ⟨(same_row (E := E_iiii) (α := R_iiii) _ v2 _), trivial⟩⟩

theorem prog_Decode_3_ok1_2 (o0 : Nat) (L1 : List Int) (n2 n3 : Nat) (O0 : Obj) (F0 : ∀ i, i < L1.length → RowOK O0 (o0 + i * 1) [.k .u8 (L1.getD i 0)]) (v2 : List Int) (v3 : List R_iiii) (v5 N : Nat) : (prog_Decode_3M o0 L1 n2 n3 O0 N).Ok Try.prog ext_Pk (.h1m2 v2 v3 v5 : prog_Decode_3X) (prog_Decode_3Step L1 n2 n3 N (.h1m2 v2 v3 v5 : prog_Decode_3X)) := by
 show (prog_Decode_3M o0 L1 n2 n3 O0 N).Ok Try.prog ext_Pk (.h1m2 v2 v3 v5 : prog_Decode_3X) (prog_Decode_3_h1m2 L1 n2 n3 N v2 v3 v5)
 unfold prog_Decode_3_h1m2
 refine Mach.ok_ite (fun g0 => ?_) (fun g0 => ?_)
 ·
  refine Mach.ok_bind (fun z1 c1 => ?_)
  cases z1 with
  | r0 y1_0 =>
   refine Mach.ok_ite (fun g2 => ?_) (fun g2 => ?_)
   ·
    exact Mach.ok_fin (M := prog_Decode_3M o0 L1 n2 n3 O0 N) (cd := 1000000) (cm := 0) (r := (.r0 ((110 : Int)) : prog_Decode_3R)) (fu := 4000) (orc := (orcw [(0, true), (1, true)] [] [] [] [(0, (instr_Decode_3T0 (v2) (v2.length) (v2.length)  y1_0 1 3))])) (live := [0]) (u := Value.tuple #[vn, vi (110 : Int)]) (bl := [some (.ro O0)]) (ob := [((y1_0 != (0 : Int)), true), (dP (instr_Decode_3P0 #[vs 1 0 v2.length v2.length] (v2) (v2.length) (v2.length)  y1_0 1 3), true), (dS (rowV (encI .u8) v2), true), ((decide ((v5 : Int) < (IntKind.i64.wrap (((BitVec.ofInt IntKind.i64.bits (IntKind.i64.wrap ((L1.getD 4 0) * (2 ^ 8 : Int))) ||| BitVec.ofInt IntKind.i64.bits (L1.getD 5 0)).toNat : Nat) : Int)))), true)]) (fun gv => by kernel_rfl) (oD <| obs_cons (dP_of (instr_Decode_3C0 #[vs 1 0 v2.length v2.length] (v2) (v2.length) (v2.length)  y1_0 N c1 1 3 rfl (by decide) (by decide))) <| oR <| oY obs_nil) rfl (by decide) (by rfl) rr ⟨rfl, trivial⟩
   ·
    refine Mach.ok_ite (fun g3 => ?_) (fun g3 => ?_)
    ·
     exact Mach.ok_next (M := prog_Decode_3M o0 L1 n2 n3 O0 N) (cd := 1000000) (cm := 0) (y := (.h1m1 ((v3 ++ ([(⟨(0 : Int), (0 : Int), (0 : Int), (0 : Int)⟩ : R_iiii)] : List R_iiii))) ((v5 + 1)) : prog_Decode_3X)) (fu := 4000) (orc := (orcw [(0, true), (1, false)] [(0, (((v5 + 1) : Nat) : Int))] [] [] [(0, (instr_Decode_3T0 (v2) (v2.length) (v2.length)  y1_0 1 3)), (2, .ap 1 [vq, vq, vq, vq] (rowV E_iiii (v3 ++ ([(⟨(0 : Int), (0 : Int), (0 : Int), (0 : Int)⟩ : R_iiii)] : List R_iiii))))])) (live := [0, 5]) (tv := fun _ => [some (vn), some (vs 5 0 (v3.length + 1) (v3.length + 1)), some (vi (IntKind.i64.wrap (((BitVec.ofInt IntKind.i64.bits (IntKind.i64.wrap ((L1.getD 4 0) * (2 ^ 8 : Int))) ||| BitVec.ofInt IntKind.i64.bits (L1.getD 5 0)).toNat : Nat) : Int))), some (vi (((v5 + 1) : Nat) : Int))]) (bl := [some (.ro O0), some (.cells (rowV E_iiii (v3 ++ ([(⟨(0 : Int), (0 : Int), (0 : Int), (0 : Int)⟩ : R_iiii)] : List R_iiii))) 38)]) (ob := [((IntKind.i64.wrap ((v5 : Int) + (1 : Int))) == (((v5 + 1) : Nat) : Int), true), (dP ((1 = 1 ∧ takeN (1 * 4) (List.drop 0 [vq, vq, vq, vq]) = some [vq, vq, vq, vq] ∧ allB cell1 [vq, vq, vq, vq] = true) ∧ 0 < 1 ∧ 1 ≤ 100000 ∧ v3.length < v3.length + 1 ∧ v3.length ≤ 100000 ∧ v3.length * 4 ≤ (List.length (rowV E_iiii v3)) ∧ List.take (v3.length * 4) (rowV E_iiii v3) ++ [vq, vq, vq, vq] = (rowV E_iiii (v3 ++ ([(⟨(0 : Int), (0 : Int), (0 : Int), (0 : Int)⟩ : R_iiii)] : List R_iiii)))), true), ((y1_0 != (0 : Int)), false), (dP (instr_Decode_3P0 #[vs 1 0 v2.length v2.length] (v2) (v2.length) (v2.length)  y1_0 1 3), true), (dS (rowV (encI .u8) v2), true), ((decide ((v5 : Int) < (IntKind.i64.wrap (((BitVec.ofInt IntKind.i64.bits (IntKind.i64.wrap ((L1.getD 4 0) * (2 ^ 8 : Int))) ||| BitVec.ofInt IntKind.i64.bits (L1.getD 5 0)).toNat : Nat) : Int)))), true)]) rfl (show 1 ∈ rids (prog_Decode_3K 1) from by decide +kernel) (fun gv => by kernel_rfl) (obs_cons (beq_iff_eq.2 ((wrap_i64 (by have hi0 := ii (((BitVec.ofInt IntKind.i64.bits (IntKind.i64.wrap ((L1.getD 4 0) * (2 ^ 8 : Int))) ||| BitVec.ofInt IntKind.i64.bits (L1.getD 5 0)).toNat : Nat) : Int); first | omega | (simp only [List.length_set, List.length_append, List.length_cons, List.length_nil, List.length_replicate, List.length_take, List.length_drop] at * <;> omega))).trans (by first | rfl | omega))) <| obs_cons (dP_of ⟨⟨rfl, ⟨rfl, rfl⟩⟩, by omega, by omega, ltA, by omega, (rowV_dst (E := E_iiii) (L := v3) (M := ([(⟨(0 : Int), (0 : Int), (0 : Int), (0 : Int)⟩ : R_iiii)] : List R_iiii)) (n := v3.length) (show _ = _ * 4 from rfl) (by omega) (R := (v3 ++ ([(⟨(0 : Int), (0 : Int), (0 : Int), (0 : Int)⟩ : R_iiii)] : List R_iiii))) (by rw [List.take_of_length_le (by omega)]))⟩) <| oE <| obs_cons (dP_of (instr_Decode_3C0 #[vs 1 0 v2.length v2.length] (v2) (v2.length) (v2.length)  y1_0 N c1 1 3 rfl (by decide) (by decide))) <| oR <| oY obs_nil) rfl (by decide) (by rfl) (fun _ => ⟨rr, ⟨⟨Eq.trans (show (vs 1 0 (v3 ++ ([(⟨(0 : Int), (0 : Int), (0 : Int), (0 : Int)⟩ : R_iiii)] : List R_iiii)).length (v3 ++ ([(⟨(0 : Int), (0 : Int), (0 : Int), (0 : Int)⟩ : R_iiii)] : List R_iiii)).length : Value) = vs 1 0 (v3.length + 1) (v3.length + 1) from (slice_eq rfl eqA eqA)) (by rfl), by rfl⟩, ⟨rr, ⟨rr, trivial⟩⟩⟩⟩) ⟨rfl, ⟨(same_row (E := E_iiii) (α := R_iiii) _ (v3 ++ ([(⟨(0 : Int), (0 : Int), (0 : Int), (0 : Int)⟩ : R_iiii)] : List R_iiii)) _), trivial⟩⟩
    ·
     exact Mach.ok_none
  | r1 y1_0 y1_1 y1_2 y1_3 =>
   refine Mach.ok_ite (fun g2 => ?_) (fun g2 => ?_)
   ·
    exact Mach.ok_next (M := prog_Decode_3M o0 L1 n2 n3 O0 N) (cd := 1000000) (cm := 0) (y := (.h1m2 (y1_3) ((v3 ++ ([(⟨(v2.getD 0 0), y1_0, y1_1, y1_2⟩ : R_iiii)] : List R_iiii))) ((v5 + 1)) : prog_Decode_3X)) (fu := 4000) (orc := (orcw [(0, true)] [(0, (((v5 + 1) : Nat) : Int))] [] [] [(0, (instr_Decode_3T1 (v2) (v2.length) (v2.length)  y1_0 y1_1 y1_2 y1_3 1 3)), (2, .ap 1 [vi (v2.getD 0 0), vi y1_0, vi y1_1, vi y1_2] (rowV E_iiii (v3 ++ ([(⟨(v2.getD 0 0), y1_0, y1_1, y1_2⟩ : R_iiii)] : List R_iiii))))])) (live := [0, 3, 6]) (tv := fun _ => [some (vs 3 0 y1_3.length y1_3.length), some (vs 6 0 (v3.length + 1) (v3.length + 1)), some (vi (IntKind.i64.wrap (((BitVec.ofInt IntKind.i64.bits (IntKind.i64.wrap ((L1.getD 4 0) * (2 ^ 8 : Int))) ||| BitVec.ofInt IntKind.i64.bits (L1.getD 5 0)).toNat : Nat) : Int))), some (vi (((v5 + 1) : Nat) : Int))]) (bl := [some (.ro O0), some (.cells (rowV (encI .u8) y1_3) 5), some (.cells (rowV E_iiii (v3 ++ ([(⟨(v2.getD 0 0), y1_0, y1_1, y1_2⟩ : R_iiii)] : List R_iiii))) 38)]) (ob := [((IntKind.i64.wrap ((v5 : Int) + (1 : Int))) == (((v5 + 1) : Nat) : Int), true), (dP ((1 = 1 ∧ takeN (1 * 4) (List.drop 0 [vi (v2.getD 0 0), vi y1_0, vi y1_1, vi y1_2]) = some [vi (v2.getD 0 0), vi y1_0, vi y1_1, vi y1_2] ∧ allB cell1 [vi (v2.getD 0 0), vi y1_0, vi y1_1, vi y1_2] = true) ∧ 0 < 1 ∧ 1 ≤ 100000 ∧ v3.length < v3.length + 1 ∧ v3.length ≤ 100000 ∧ v3.length * 4 ≤ (List.length (rowV E_iiii v3)) ∧ List.take (v3.length * 4) (rowV E_iiii v3) ++ [vi (v2.getD 0 0), vi y1_0, vi y1_1, vi y1_2] = (rowV E_iiii (v3 ++ ([(⟨(v2.getD 0 0), y1_0, y1_1, y1_2⟩ : R_iiii)] : List R_iiii)))), true), (dP (instr_Decode_3P1 #[vs 1 0 v2.length v2.length] (v2) (v2.length) (v2.length)  y1_0 y1_1 y1_2 y1_3 1 3), true), (dS (rowV (encI .u8) v2), true), ((decide ((v5 : Int) < (IntKind.i64.wrap (((BitVec.ofInt IntKind.i64.bits (IntKind.i64.wrap ((L1.getD 4 0) * (2 ^ 8 : Int))) ||| BitVec.ofInt IntKind.i64.bits (L1.getD 5 0)).toNat : Nat) : Int)))), true)]) rfl (show 1 ∈ rids (prog_Decode_3K 1) from by decide +kernel) (fun gv => by kernel_rfl) (obs_cons (beq_iff_eq.2 ((wrap_i64 (by have hi0 := ii (((BitVec.ofInt IntKind.i64.bits (IntKind.i64.wrap ((L1.getD 4 0) * (2 ^ 8 : Int))) ||| BitVec.ofInt IntKind.i64.bits (L1.getD 5 0)).toNat : Nat) : Int); first | omega | (simp only [List.length_set, List.length_append, List.length_cons, List.length_nil, List.length_replicate, List.length_take, List.length_drop] at * <;> omega))).trans (by first | rfl | omega))) <| obs_cons (dP_of ⟨⟨rfl, ⟨rfl, rfl⟩⟩, by omega, by omega, ltA, by omega, (rowV_dst (E := E_iiii) (L := v3) (M := ([(⟨(v2.getD 0 0), y1_0, y1_1, y1_2⟩ : R_iiii)] : List R_iiii)) (n := v3.length) (show _ = _ * 4 from rfl) (by omega) (R := (v3 ++ ([(⟨(v2.getD 0 0), y1_0, y1_1, y1_2⟩ : R_iiii)] : List R_iiii))) (by rw [List.take_of_length_le (by omega)]))⟩) <| obs_cons (dP_of (instr_Decode_3C1 #[vs 1 0 v2.length v2.length] (v2) (v2.length) (v2.length)  y1_0 y1_1 y1_2 y1_3 N c1 1 3 rfl (by decide) (by decide))) <| oR <| oY obs_nil) rfl (by decide) (by rfl) (fun _ => ⟨rr, ⟨⟨Eq.trans (show (vs 2 0 (v3 ++ ([(⟨(v2.getD 0 0), y1_0, y1_1, y1_2⟩ : R_iiii)] : List R_iiii)).length (v3 ++ ([(⟨(v2.getD 0 0), y1_0, y1_1, y1_2⟩ : R_iiii)] : List R_iiii)).length : Value) = vs 2 0 (v3.length + 1) (v3.length + 1) from (slice_eq rfl eqA eqA)) (by rfl), by rfl⟩, ⟨rr, ⟨rr, trivial⟩⟩⟩⟩) ⟨rfl, ⟨(same_row (E := (encI .u8)) (α := Int) _ y1_3 _), ⟨(same_row (E := E_iiii) (α := R_iiii) _ (v3 ++ ([(⟨(v2.getD 0 0), y1_0, y1_1, y1_2⟩ : R_iiii)] : List R_iiii)) _), trivial⟩⟩⟩
   ·
    exact Mach.ok_none
 ·
  refine Mach.ok_ite (fun g1 => ?_) (fun g1 => ?_)
  ·
   exact Mach.ok_fin (M := prog_Decode_3M o0 L1 n2 n3 O0 N) (cd := 1000000) (cm := 0) (r := (.r0 ((110 : Int)) : prog_Decode_3R)) (fu := 4000) (orc := (orcw [(0, false), (1, true)] [] [] [] [])) (live := [0]) (u := Value.tuple #[vn, vi (110 : Int)]) (bl := [some (.ro O0)]) (ob := [((decide (((v2.length : Nat) : Int) > (0 : Int))), true), ((decide ((v5 : Int) < (IntKind.i64.wrap (((BitVec.ofInt IntKind.i64.bits (IntKind.i64.wrap ((L1.getD 4 0) * (2 ^ 8 : Int))) ||| BitVec.ofInt IntKind.i64.bits (L1.getD 5 0)).toNat : Nat) : Int)))), false)]) (fun gv => by kernel_rfl) (oY <| oN obs_nil) rfl (by decide) (by rfl) rr ⟨rfl, trivial⟩
  ·
   exact Mach.ok_fin (M := prog_Decode_3M o0 L1 n2 n3 O0 N) (cd := 1000000) (cm := 0) (r := (.r1 (v3) : prog_Decode_3R)) (fu := 4000) (orc := (orcw [(0, false), (1, false)] [] [] [] [])) (live := [0, 2]) (u := Value.tuple #[vs 2 0 v3.length v3.length, vq]) (bl := [some (.ro O0), some (.cells (rowV E_iiii v3) 38)]) (ob := [((decide (((v2.length : Nat) : Int) > (0 : Int))), false), ((decide ((v5 : Int) < (IntKind.i64.wrap (((BitVec.ofInt IntKind.i64.bits (IntKind.i64.wrap ((L1.getD 4 0) * (2 ^ 8 : Int))) ||| BitVec.ofInt IntKind.i64.bits (L1.getD 5 0)).toNat : Nat) : Int)))), false)]) (fun gv => by kernel_rfl) (oN <| oN obs_nil) rfl (by decide) (by rfl) rr ⟨rfl, ⟨(same_row (E := E_iiii) (α := R_iiii) _ v3 _), trivial⟩⟩

theorem prog_Decode_3_en (o0 : Nat) (L1 : List Int) (n2 n3 : Nat) (O0 : Obj) (F0 : ∀ i, i < L1.length → RowOK O0 (o0 + i * 1) [.k .u8 (L1.getD i 0)]) (N : Nat) : (prog_Decode_3M o0 L1 n2 n3 O0 N).Enter Try.prog ext_Pk #[vs 0 o0 n2 n3] (prog_Decode_3In L1 n2 n3 N) := by
 unfold prog_Decode_3In
 refine Mach.en_ite (fun g0 => ?_) (fun g0 => ?_)
 ·
  exact Mach.en_fin (M := prog_Decode_3M o0 L1 n2 n3 O0 N) (cd := 1000000) (cm := 0) (r := (.r0 ((6 : Int)) : prog_Decode_3R)) (fu := 4000) (orc := (orcw [(0, true)] [] [] [] [])) (live := [0]) (u := Value.tuple #[vn, vi (6 : Int)]) (bl := [some (.ro O0)]) (ob := [((decide ((n2 : Int) < (7 : Int))), true)]) (by kernel_rfl) (oY obs_nil) rfl (by decide) (by rfl) rr ⟨rfl, trivial⟩
 ·
  refine Mach.en_ite (fun g1 => ?_) (fun g1 => ?_)
  ·
   refine Mach.en_ite (fun g2 => ?_) (fun g2 => ?_)
   ·
    refine Mach.en_ite (fun g3 => ?_) (fun g3 => ?_)
    ·
     refine Mach.en_ite (fun g4 => ?_) (fun g4 => ?_)
     ·
      refine Mach.en_ite (fun g5 => ?_) (fun g5 => ?_)
      ·
       refine Mach.en_ite (fun g6 => ?_) (fun g6 => ?_)
       ·
        refine Mach.en_ite (fun g7 => ?_) (fun g7 => ?_)
        ·
         refine Mach.en_ite (fun g8 => ?_) (fun g8 => ?_)
         ·
          refine Mach.en_ite (fun g9 => ?_) (fun g9 => ?_)
          ·
           refine Mach.en_ite (fun g10 => ?_) (fun g10 => ?_)
           ·
            refine Mach.en_ite (fun g11 => ?_) (fun g11 => ?_)
            ·
             exact Mach.en_fin (M := prog_Decode_3M o0 L1 n2 n3 O0 N) (cd := 1000000) (cm := 0) (r := (.r0 ((110 : Int)) : prog_Decode_3R)) (fu := 4000) (orc := (orcw [(0, false), (1, true), (2, true), (4, true)] [(0, (L1.getD 4 0)), (2, (L1.getD 5 0)), (4, (((n2 - 1) : Nat) : Int)), (5, (((n2 - 1) : Nat) : Int))] [(0, 4), (1, 5), (2, (n2 - 1))] [(0, [.k .u8 (L1.getD 4 0)]), (1, [.k .u8 (L1.getD 5 0)]), (2, [.k .u8 (L1.getD (n2 - 1) 0)])] [(1, .sl 6 (n2 - 1)), (2, .sl 0 4), (3, .bs (L1.take (4 - 0))), (4, .bs ([(71 : Int), (78 : Int), (84 : Int), (1 : Int)] : List Int))])) (live := [0]) (u := Value.tuple #[vn, vi (110 : Int)]) (bl := [some (.ro O0)]) (ob := [((decide ((IntKind.i64.wrap (((BitVec.ofInt IntKind.i64.bits (IntKind.i64.wrap ((L1.getD 4 0) * (2 ^ 8 : Int))) ||| BitVec.ofInt IntKind.i64.bits (L1.getD 5 0)).toNat : Nat) : Int)) > (512 : Int))), true), (((strOf (L1.take (4 - 0))).toList == (strOf ([(71 : Int), (78 : Int), (84 : Int), (1 : Int)] : List Int)).toList), true), (dP (takeN 4 (List.drop 0 [Value.int .u8 (71 : Int), Value.int .u8 (78 : Int), Value.int .u8 (84 : Int), Value.int .u8 (1 : Int)]) = some (List.map (Value.int .u8) ([(71 : Int), (78 : Int), (84 : Int), (1 : Int)] : List Int))), true), (dP (roS O0 (o0 + (0 * 1)) (4 - 0) = some (List.map (Value.int .u8) (L1.take (4 - 0)))), true), (dP (0 ≤ 4 ∧ 4 ≤ n3), true), ((4 : Int) == Int.ofNat 4, true), (dS 0, true), ((decide ((n2 : Int) ≥ (4 : Int))), true), (sameR (roRow O0 (o0 + ((n2 - 1) * 1)) 1) [.k .u8 (L1.getD (n2 - 1) 0)], true), (Nat.blt (n2 - 1) n2, true), ((((n2 - 1) : Nat) : Int) == Int.ofNat (n2 - 1), true), ((IntKind.i64.wrap ((n2 : Int) - (1 : Int))) == (((n2 - 1) : Nat) : Int), true), (dP (6 ≤ (n2 - 1) ∧ (n2 - 1) ≤ n3), true), ((((n2 - 1) : Nat) : Int) == Int.ofNat (n2 - 1), true), ((6 : Int) == Int.ofNat 6, true), ((IntKind.i64.wrap ((n2 : Int) - (1 : Int))) == (((n2 - 1) : Nat) : Int), true), ((IntKind.i64.wrap (L1.getD 5 0)) == (L1.getD 5 0), true), (sameR (roRow O0 (o0 + (5 * 1)) 1) [.k .u8 (L1.getD 5 0)], true), (Nat.blt 5 n2, true), ((5 : Int) == Int.ofNat 5, true), ((IntKind.i64.wrap (L1.getD 4 0)) == (L1.getD 4 0), true), (sameR (roRow O0 (o0 + (4 * 1)) 1) [.k .u8 (L1.getD 4 0)], true), (Nat.blt 4 n2, true), ((4 : Int) == Int.ofNat 4, true), ((decide ((n2 : Int) < (7 : Int))), false)]) (by kernel_rfl) (oY <| obs_cons (strB_t (x := (L1.take (4 - 0))) (y := ([(71 : Int), (78 : Int), (84 : Int), (1 : Int)] : List Int)) (by assumption)) <| oR <| obs_cons (dP_of (bs_ro (L := L1) (b := o0) (a := 0) F0 (by omega) (show _ = _ + _ * 1 from by omega) (by first | rfl | simp))) <| obs_cons (dP_of ⟨ltA, ltA⟩) <| oI <| oR <| oY <| obs_cons ((show (o0 + (n2 - 1) * 1 + 0) = (o0 + ((n2 - 1) * 1)) from by omega) ▸ F0 (n2 - 1) (by omega) 0 1 (show 0 + 1 ≤ 1 from by decide)) <| oB <| oI <| obs_cons (beq_iff_eq.2 ((wrap_i64 ltA).trans (by first | rfl | omega))) <| obs_cons (dP_of ⟨ltA, ltA⟩) <| oI <| oI <| obs_cons (beq_iff_eq.2 ((wrap_i64 ltA).trans (by first | rfl | omega))) <| obs_cons (beq_iff_eq.2 (wrap_i64 ltA)) <| obs_cons ((show (o0 + 5 * 1 + 0) = (o0 + (5 * 1)) from by omega) ▸ F0 5 (by omega) 0 1 (show 0 + 1 ≤ 1 from by decide)) <| oB <| oI <| obs_cons (beq_iff_eq.2 (wrap_i64 ltA)) <| obs_cons ((show (o0 + 4 * 1 + 0) = (o0 + (4 * 1)) from by omega) ▸ F0 4 (by omega) 0 1 (show 0 + 1 ≤ 1 from by decide)) <| oB <| oI <| oN obs_nil) rfl (by decide) (by rfl) rr ⟨rfl, trivial⟩
            ·
             refine Mach.en_ite (fun g12 => ?_) (fun g12 => ?_)
             ·
              exact Mach.en_fin (M := prog_Decode_3M o0 L1 n2 n3 O0 N) (cd := 1000000) (cm := 0) (r := (.r0 ((110 : Int)) : prog_Decode_3R)) (fu := 4000) (orc := (orcw [(0, false), (1, true), (2, true), (4, false), (5, true)] [(0, (L1.getD 4 0)), (2, (L1.getD 5 0)), (4, (((n2 - 1) : Nat) : Int)), (5, (((n2 - 1) : Nat) : Int))] [(0, 4), (1, 5), (2, (n2 - 1))] [(0, [.k .u8 (L1.getD 4 0)]), (1, [.k .u8 (L1.getD 5 0)]), (2, [.k .u8 (L1.getD (n2 - 1) 0)])] [(1, .sl 6 (n2 - 1)), (2, .sl 0 4), (3, .bs (L1.take (4 - 0))), (4, .bs ([(71 : Int), (78 : Int), (84 : Int), (1 : Int)] : List Int))])) (live := [0]) (u := Value.tuple #[vn, vi (110 : Int)]) (bl := [some (.ro O0)]) (ob := [((decide (((((n2 - 1) - 6) : Nat) : Int) > (IntKind.i64.wrap ((IntKind.i64.wrap (((BitVec.ofInt IntKind.i64.bits (IntKind.i64.wrap ((L1.getD 4 0) * (2 ^ 8 : Int))) ||| BitVec.ofInt IntKind.i64.bits (L1.getD 5 0)).toNat : Nat) : Int)) * (10 : Int))))), true), ((decide ((IntKind.i64.wrap (((BitVec.ofInt IntKind.i64.bits (IntKind.i64.wrap ((L1.getD 4 0) * (2 ^ 8 : Int))) ||| BitVec.ofInt IntKind.i64.bits (L1.getD 5 0)).toNat : Nat) : Int)) > (512 : Int))), false), (((strOf (L1.take (4 - 0))).toList == (strOf ([(71 : Int), (78 : Int), (84 : Int), (1 : Int)] : List Int)).toList), true), (dP (takeN 4 (List.drop 0 [Value.int .u8 (71 : Int), Value.int .u8 (78 : Int), Value.int .u8 (84 : Int), Value.int .u8 (1 : Int)]) = some (List.map (Value.int .u8) ([(71 : Int), (78 : Int), (84 : Int), (1 : Int)] : List Int))), true), (dP (roS O0 (o0 + (0 * 1)) (4 - 0) = some (List.map (Value.int .u8) (L1.take (4 - 0)))), true), (dP (0 ≤ 4 ∧ 4 ≤ n3), true), ((4 : Int) == Int.ofNat 4, true), (dS 0, true), ((decide ((n2 : Int) ≥ (4 : Int))), true), (sameR (roRow O0 (o0 + ((n2 - 1) * 1)) 1) [.k .u8 (L1.getD (n2 - 1) 0)], true), (Nat.blt (n2 - 1) n2, true), ((((n2 - 1) : Nat) : Int) == Int.ofNat (n2 - 1), true), ((IntKind.i64.wrap ((n2 : Int) - (1 : Int))) == (((n2 - 1) : Nat) : Int), true), (dP (6 ≤ (n2 - 1) ∧ (n2 - 1) ≤ n3), true), ((((n2 - 1) : Nat) : Int) == Int.ofNat (n2 - 1), true), ((6 : Int) == Int.ofNat 6, true), ((IntKind.i64.wrap ((n2 : Int) - (1 : Int))) == (((n2 - 1) : Nat) : Int), true), ((IntKind.i64.wrap (L1.getD 5 0)) == (L1.getD 5 0), true), (sameR (roRow O0 (o0 + (5 * 1)) 1) [.k .u8 (L1.getD 5 0)], true), (Nat.blt 5 n2, true), ((5 : Int) == Int.ofNat 5, true), ((IntKind.i64.wrap (L1.getD 4 0)) == (L1.getD 4 0), true), (sameR (roRow O0 (o0 + (4 * 1)) 1) [.k .u8 (L1.getD 4 0)], true), (Nat.blt 4 n2, true), ((4 : Int) == Int.ofNat 4, true), ((decide ((n2 : Int) < (7 : Int))), false)]) (by kernel_rfl) (oY <| oN <| obs_cons (strB_t (x := (L1.take (4 - 0))) (y := ([(71 : Int), (78 : Int), (84 : Int), (1 : Int)] : List Int)) (by assumption)) <| oR <| obs_cons (dP_of (bs_ro (L := L1) (b := o0) (a := 0) F0 (by omega) (show _ = _ + _ * 1 from by omega) (by first | rfl | simp))) <| obs_cons (dP_of ⟨ltA, ltA⟩) <| oI <| oR <| oY <| obs_cons ((show (o0 + (n2 - 1) * 1 + 0) = (o0 + ((n2 - 1) * 1)) from by omega) ▸ F0 (n2 - 1) (by omega) 0 1 (show 0 + 1 ≤ 1 from by decide)) <| oB <| oI <| obs_cons (beq_iff_eq.2 ((wrap_i64 ltA).trans (by first | rfl | omega))) <| obs_cons (dP_of ⟨ltA, ltA⟩) <| oI <| oI <| obs_cons (beq_iff_eq.2 ((wrap_i64 ltA).trans (by first | rfl | omega))) <| obs_cons (beq_iff_eq.2 (wrap_i64 ltA)) <| obs_cons ((show (o0 + 5 * 1 + 0) = (o0 + (5 * 1)) from by omega) ▸ F0 5 (by omega) 0 1 (show 0 + 1 ≤ 1 from by decide)) <| oB <| oI <| obs_cons (beq_iff_eq.2 (wrap_i64 ltA)) <| obs_cons ((show (o0 + 4 * 1 + 0) = (o0 + (4 * 1)) from by omega) ▸ F0 4 (by omega) 0 1 (show 0 + 1 ≤ 1 from by decide)) <| oB <| oI <| oN obs_nil) rfl (by decide) (by rfl) rr ⟨rfl, trivial⟩
             ·
              refine Mach.en_bind (fun z13 c13 => ?_)
              cases z13 with
              | r0 y13_0 =>
               refine Mach.en_ite (fun g14 => ?_) (fun g14 => ?_)
               ·
                exact Mach.en_fin (M := prog_Decode_3M o0 L1 n2 n3 O0 N) (cd := 1000000) (cm := 0) (r := (.r0 ((110 : Int)) : prog_Decode_3R)) (fu := 4000) (orc := (orcw [(0, false), (1, true), (2, true), (4, false), (5, false), (6, true)] [(0, (L1.getD 4 0)), (2, (L1.getD 5 0)), (4, (((n2 - 1) : Nat) : Int)), (5, (((n2 - 1) : Nat) : Int)), (7, (((n2 - 1) : Nat) : Int))] [(0, 4), (1, 5), (2, (n2 - 1))] [(0, [.k .u8 (L1.getD 4 0)]), (1, [.k .u8 (L1.getD 5 0)]), (2, [.k .u8 (L1.getD (n2 - 1) 0)])] [(1, .sl 6 (n2 - 1)), (2, .sl 0 4), (3, .bs (L1.take (4 - 0))), (4, .bs ([(71 : Int), (78 : Int), (84 : Int), (1 : Int)] : List Int)), (5, .sl 0 (n2 - 1)), (6, (prog_sum_2T0 (o0) (L1) (((n2 - 1) - 0)) ((n3 - 0)) O0 y13_0 0 2))])) (live := [0]) (u := Value.tuple #[vn, vi (110 : Int)]) (bl := [some (.ro O0)]) (ob := [((y13_0 != (L1.getD (n2 - 1) 0)), true), (dP (prog_sum_2P0 #[Value.slice (some ⟨0, (o0 + (0 * 1)), none⟩) ((n2 - 1) - 0) (n3 - 0)] (o0) (L1) (((n2 - 1) - 0)) ((n3 - 0)) O0 y13_0 0 2), true), (dS O0, true), (dP (0 ≤ (n2 - 1) ∧ (n2 - 1) ≤ n3), true), ((((n2 - 1) : Nat) : Int) == Int.ofNat (n2 - 1), true), (dS 0, true), ((IntKind.i64.wrap ((n2 : Int) - (1 : Int))) == (((n2 - 1) : Nat) : Int), true), ((decide (((((n2 - 1) - 6) : Nat) : Int) > (IntKind.i64.wrap ((IntKind.i64.wrap (((BitVec.ofInt IntKind.i64.bits (IntKind.i64.wrap ((L1.getD 4 0) * (2 ^ 8 : Int))) ||| BitVec.ofInt IntKind.i64.bits (L1.getD 5 0)).toNat : Nat) : Int)) * (10 : Int))))), false), ((decide ((IntKind.i64.wrap (((BitVec.ofInt IntKind.i64.bits (IntKind.i64.wrap ((L1.getD 4 0) * (2 ^ 8 : Int))) ||| BitVec.ofInt IntKind.i64.bits (L1.getD 5 0)).toNat : Nat) : Int)) > (512 : Int))), false), (((strOf (L1.take (4 - 0))).toList == (strOf ([(71 : Int), (78 : Int), (84 : Int), (1 : Int)] : List Int)).toList), true), (dP (takeN 4 (List.drop 0 [Value.int .u8 (71 : Int), Value.int .u8 (78 : Int), Value.int .u8 (84 : Int), Value.int .u8 (1 : Int)]) = some (List.map (Value.int .u8) ([(71 : Int), (78 : Int), (84 : Int), (1 : Int)] : List Int))), true), (dP (roS O0 (o0 + (0 * 1)) (4 - 0) = some (List.map (Value.int .u8) (L1.take (4 - 0)))), true), (dP (0 ≤ 4 ∧ 4 ≤ n3), true), ((4 : Int) == Int.ofNat 4, true), (dS 0, true), ((decide ((n2 : Int) ≥ (4 : Int))), true), (sameR (roRow O0 (o0 + ((n2 - 1) * 1)) 1) [.k .u8 (L1.getD (n2 - 1) 0)], true), (Nat.blt (n2 - 1) n2, true), ((((n2 - 1) : Nat) : Int) == Int.ofNat (n2 - 1), true), ((IntKind.i64.wrap ((n2 : Int) - (1 : Int))) == (((n2 - 1) : Nat) : Int), true), (dP (6 ≤ (n2 - 1) ∧ (n2 - 1) ≤ n3), true), ((((n2 - 1) : Nat) : Int) == Int.ofNat (n2 - 1), true), ((6 : Int) == Int.ofNat 6, true), ((IntKind.i64.wrap ((n2 : Int) - (1 : Int))) == (((n2 - 1) : Nat) : Int), true), ((IntKind.i64.wrap (L1.getD 5 0)) == (L1.getD 5 0), true), (sameR (roRow O0 (o0 + (5 * 1)) 1) [.k .u8 (L1.getD 5 0)], true), (Nat.blt 5 n2, true), ((5 : Int) == Int.ofNat 5, true), ((IntKind.i64.wrap (L1.getD 4 0)) == (L1.getD 4 0), true), (sameR (roRow O0 (o0 + (4 * 1)) 1) [.k .u8 (L1.getD 4 0)], true), (Nat.blt 4 n2, true), ((4 : Int) == Int.ofNat 4, true), ((decide ((n2 : Int) < (7 : Int))), false)]) (by kernel_rfl) (oD <| obs_cons (dP_of (prog_sum_2C0 #[Value.slice (some ⟨0, (o0 + (0 * 1)), none⟩) ((n2 - 1) - 0) (n3 - 0)] (o0) (L1) (((n2 - 1) - 0)) ((n3 - 0)) O0 F0 y13_0 N c13 0 2 (array_eq (cons_eq (slice_eq eqA rfl rfl) rfl)) (by decide) (by decide))) <| oR <| obs_cons (dP_of ⟨ltA, ltA⟩) <| oI <| oR <| obs_cons (beq_iff_eq.2 ((wrap_i64 ltA).trans (by first | rfl | omega))) <| oN <| oN <| obs_cons (strB_t (x := (L1.take (4 - 0))) (y := ([(71 : Int), (78 : Int), (84 : Int), (1 : Int)] : List Int)) (by assumption)) <| oR <| obs_cons (dP_of (bs_ro (L := L1) (b := o0) (a := 0) F0 (by omega) (show _ = _ + _ * 1 from by omega) (by first | rfl | simp))) <| obs_cons (dP_of ⟨ltA, ltA⟩) <| oI <| oR <| oY <| obs_cons ((show (o0 + (n2 - 1) * 1 + 0) = (o0 + ((n2 - 1) * 1)) from by omega) ▸ F0 (n2 - 1) (by omega) 0 1 (show 0 + 1 ≤ 1 from by decide)) <| oB <| oI <| obs_cons (beq_iff_eq.2 ((wrap_i64 ltA).trans (by first | rfl | omega))) <| obs_cons (dP_of ⟨ltA, ltA⟩) <| oI <| oI <| obs_cons (beq_iff_eq.2 ((wrap_i64 ltA).trans (by first | rfl | omega))) <| obs_cons (beq_iff_eq.2 (wrap_i64 ltA)) <| obs_cons ((show (o0 + 5 * 1 + 0) = (o0 + (5 * 1)) from by omega) ▸ F0 5 (by omega) 0 1 (show 0 + 1 ≤ 1 from by decide)) <| oB <| oI <| obs_cons (beq_iff_eq.2 (wrap_i64 ltA)) <| obs_cons ((show (o0 + 4 * 1 + 0) = (o0 + (4 * 1)) from by omega) ▸ F0 4 (by omega) 0 1 (show 0 + 1 ≤ 1 from by decide)) <| oB <| oI <| oN obs_nil) rfl (by decide) (by rfl) rr ⟨rfl, trivial⟩
               ·
                exact Mach.en_head (bK := prog_Decode_3C 1) (M := prog_Decode_3M o0 L1 n2 n3 O0 N) (cd := 1000000) (cm := 0) (y := (.h1m0 : prog_Decode_3X)) (fu := 4000) (orc := (orcw [(0, false), (1, true), (2, true), (4, false), (5, false), (6, false)] [(0, (L1.getD 4 0)), (2, (L1.getD 5 0)), (4, (((n2 - 1) : Nat) : Int)), (5, (((n2 - 1) : Nat) : Int)), (7, (((n2 - 1) : Nat) : Int))] [(0, 4), (1, 5), (2, (n2 - 1))] [(0, [.k .u8 (L1.getD 4 0)]), (1, [.k .u8 (L1.getD 5 0)]), (2, [.k .u8 (L1.getD (n2 - 1) 0)])] [(1, .sl 6 (n2 - 1)), (2, .sl 0 4), (3, .bs (L1.take (4 - 0))), (4, .bs ([(71 : Int), (78 : Int), (84 : Int), (1 : Int)] : List Int)), (5, .sl 0 (n2 - 1)), (6, (prog_sum_2T0 (o0) (L1) (((n2 - 1) - 0)) ((n3 - 0)) O0 y13_0 0 2))])) (live := [0]) (tv := [some (Value.slice (some ⟨0, (o0 + (6 * 1)), none⟩) ((n2 - 1) - 6) (n3 - 6)), some (vn), some (vi (IntKind.i64.wrap (((BitVec.ofInt IntKind.i64.bits (IntKind.i64.wrap ((L1.getD 4 0) * (2 ^ 8 : Int))) ||| BitVec.ofInt IntKind.i64.bits (L1.getD 5 0)).toNat : Nat) : Int))), some (vq)]) (bl := [some (.ro O0)]) (ob := [((y13_0 != (L1.getD (n2 - 1) 0)), false), (dP (prog_sum_2P0 #[Value.slice (some ⟨0, (o0 + (0 * 1)), none⟩) ((n2 - 1) - 0) (n3 - 0)] (o0) (L1) (((n2 - 1) - 0)) ((n3 - 0)) O0 y13_0 0 2), true), (dS O0, true), (dP (0 ≤ (n2 - 1) ∧ (n2 - 1) ≤ n3), true), ((((n2 - 1) : Nat) : Int) == Int.ofNat (n2 - 1), true), (dS 0, true), ((IntKind.i64.wrap ((n2 : Int) - (1 : Int))) == (((n2 - 1) : Nat) : Int), true), ((decide (((((n2 - 1) - 6) : Nat) : Int) > (IntKind.i64.wrap ((IntKind.i64.wrap (((BitVec.ofInt IntKind.i64.bits (IntKind.i64.wrap ((L1.getD 4 0) * (2 ^ 8 : Int))) ||| BitVec.ofInt IntKind.i64.bits (L1.getD 5 0)).toNat : Nat) : Int)) * (10 : Int))))), false), ((decide ((IntKind.i64.wrap (((BitVec.ofInt IntKind.i64.bits (IntKind.i64.wrap ((L1.getD 4 0) * (2 ^ 8 : Int))) ||| BitVec.ofInt IntKind.i64.bits (L1.getD 5 0)).toNat : Nat) : Int)) > (512 : Int))), false), (((strOf (L1.take (4 - 0))).toList == (strOf ([(71 : Int), (78 : Int), (84 : Int), (1 : Int)] : List Int)).toList), true), (dP (takeN 4 (List.drop 0 [Value.int .u8 (71 : Int), Value.int .u8 (78 : Int), Value.int .u8 (84 : Int), Value.int .u8 (1 : Int)]) = some (List.map (Value.int .u8) ([(71 : Int), (78 : Int), (84 : Int), (1 : Int)] : List Int))), true), (dP (roS O0 (o0 + (0 * 1)) (4 - 0) = some (List.map (Value.int .u8) (L1.take (4 - 0)))), true), (dP (0 ≤ 4 ∧ 4 ≤ n3), true), ((4 : Int) == Int.ofNat 4, true), (dS 0, true), ((decide ((n2 : Int) ≥ (4 : Int))), true), (sameR (roRow O0 (o0 + ((n2 - 1) * 1)) 1) [.k .u8 (L1.getD (n2 - 1) 0)], true), (Nat.blt (n2 - 1) n2, true), ((((n2 - 1) : Nat) : Int) == Int.ofNat (n2 - 1), true), ((IntKind.i64.wrap ((n2 : Int) - (1 : Int))) == (((n2 - 1) : Nat) : Int), true), (dP (6 ≤ (n2 - 1) ∧ (n2 - 1) ≤ n3), true), ((((n2 - 1) : Nat) : Int) == Int.ofNat (n2 - 1), true), ((6 : Int) == Int.ofNat 6, true), ((IntKind.i64.wrap ((n2 : Int) - (1 : Int))) == (((n2 - 1) : Nat) : Int), true), ((IntKind.i64.wrap (L1.getD 5 0)) == (L1.getD 5 0), true), (sameR (roRow O0 (o0 + (5 * 1)) 1) [.k .u8 (L1.getD 5 0)], true), (Nat.blt 5 n2, true), ((5 : Int) == Int.ofNat 5, true), ((IntKind.i64.wrap (L1.getD 4 0)) == (L1.getD 4 0), true), (sameR (roRow O0 (o0 + (4 * 1)) 1) [.k .u8 (L1.getD 4 0)], true), (Nat.blt 4 n2, true), ((4 : Int) == Int.ofNat 4, true), ((decide ((n2 : Int) < (7 : Int))), false)]) rfl rfl (show rids (prog_Decode_3C 1).2 = [] from rfl) (by kernel_rfl) (oE <| obs_cons (dP_of (prog_sum_2C0 #[Value.slice (some ⟨0, (o0 + (0 * 1)), none⟩) ((n2 - 1) - 0) (n3 - 0)] (o0) (L1) (((n2 - 1) - 0)) ((n3 - 0)) O0 F0 y13_0 N c13 0 2 (array_eq (cons_eq (slice_eq eqA rfl rfl) rfl)) (by decide) (by decide))) <| oR <| obs_cons (dP_of ⟨ltA, ltA⟩) <| oI <| oR <| obs_cons (beq_iff_eq.2 ((wrap_i64 ltA).trans (by first | rfl | omega))) <| oN <| oN <| obs_cons (strB_t (x := (L1.take (4 - 0))) (y := ([(71 : Int), (78 : Int), (84 : Int), (1 : Int)] : List Int)) (by assumption)) <| oR <| obs_cons (dP_of (bs_ro (L := L1) (b := o0) (a := 0) F0 (by omega) (show _ = _ + _ * 1 from by omega) (by first | rfl | simp))) <| obs_cons (dP_of ⟨ltA, ltA⟩) <| oI <| oR <| oY <| obs_cons ((show (o0 + (n2 - 1) * 1 + 0) = (o0 + ((n2 - 1) * 1)) from by omega) ▸ F0 (n2 - 1) (by omega) 0 1 (show 0 + 1 ≤ 1 from by decide)) <| oB <| oI <| obs_cons (beq_iff_eq.2 ((wrap_i64 ltA).trans (by first | rfl | omega))) <| obs_cons (dP_of ⟨ltA, ltA⟩) <| oI <| oI <| obs_cons (beq_iff_eq.2 ((wrap_i64 ltA).trans (by first | rfl | omega))) <| obs_cons (beq_iff_eq.2 (wrap_i64 ltA)) <| obs_cons ((show (o0 + 5 * 1 + 0) = (o0 + (5 * 1)) from by omega) ▸ F0 5 (by omega) 0 1 (show 0 + 1 ≤ 1 from by decide)) <| oB <| oI <| obs_cons (beq_iff_eq.2 (wrap_i64 ltA)) <| obs_cons ((show (o0 + 4 * 1 + 0) = (o0 + (4 * 1)) from by omega) ▸ F0 4 (by omega) 0 1 (show 0 + 1 ≤ 1 from by decide)) <| oB <| oI <| oN obs_nil) rfl (by decide) (by rfl) ⟨⟨Eq.trans (show (vs 0 (o0 + 6) ((n2 - 1) - 6) (n3 - 6) : Value) = Value.slice (some ⟨0, (o0 + (6 * 1)), none⟩) ((n2 - 1) - 6) (n3 - 6) from (slice_eq eqA rfl rfl)) (by rfl), by rfl⟩, ⟨rr, ⟨rr, ⟨rr, trivial⟩⟩⟩⟩ ⟨rfl, trivial⟩
           ·
            exact Mach.en_fin (M := prog_Decode_3M o0 L1 n2 n3 O0 N) (cd := 1000000) (cm := 0) (r := (.r0 ((110 : Int)) : prog_Decode_3R)) (fu := 4000) (orc := (orcw [(0, false), (1, true), (2, false)] [(0, (L1.getD 4 0)), (2, (L1.getD 5 0)), (4, (((n2 - 1) : Nat) : Int)), (5, (((n2 - 1) : Nat) : Int))] [(0, 4), (1, 5), (2, (n2 - 1))] [(0, [.k .u8 (L1.getD 4 0)]), (1, [.k .u8 (L1.getD 5 0)]), (2, [.k .u8 (L1.getD (n2 - 1) 0)])] [(1, .sl 6 (n2 - 1)), (2, .sl 0 4), (3, .bs (L1.take (4 - 0))), (4, .bs ([(71 : Int), (78 : Int), (84 : Int), (1 : Int)] : List Int))])) (live := [0]) (u := Value.tuple #[vn, vi (110 : Int)]) (bl := [some (.ro O0)]) (ob := [(((strOf (L1.take (4 - 0))).toList == (strOf ([(71 : Int), (78 : Int), (84 : Int), (1 : Int)] : List Int)).toList), false), (dP (takeN 4 (List.drop 0 [Value.int .u8 (71 : Int), Value.int .u8 (78 : Int), Value.int .u8 (84 : Int), Value.int .u8 (1 : Int)]) = some (List.map (Value.int .u8) ([(71 : Int), (78 : Int), (84 : Int), (1 : Int)] : List Int))), true), (dP (roS O0 (o0 + (0 * 1)) (4 - 0) = some (List.map (Value.int .u8) (L1.take (4 - 0)))), true), (dP (0 ≤ 4 ∧ 4 ≤ n3), true), ((4 : Int) == Int.ofNat 4, true), (dS 0, true), ((decide ((n2 : Int) ≥ (4 : Int))), true), (sameR (roRow O0 (o0 + ((n2 - 1) * 1)) 1) [.k .u8 (L1.getD (n2 - 1) 0)], true), (Nat.blt (n2 - 1) n2, true), ((((n2 - 1) : Nat) : Int) == Int.ofNat (n2 - 1), true), ((IntKind.i64.wrap ((n2 : Int) - (1 : Int))) == (((n2 - 1) : Nat) : Int), true), (dP (6 ≤ (n2 - 1) ∧ (n2 - 1) ≤ n3), true), ((((n2 - 1) : Nat) : Int) == Int.ofNat (n2 - 1), true), ((6 : Int) == Int.ofNat 6, true), ((IntKind.i64.wrap ((n2 : Int) - (1 : Int))) == (((n2 - 1) : Nat) : Int), true), ((IntKind.i64.wrap (L1.getD 5 0)) == (L1.getD 5 0), true), (sameR (roRow O0 (o0 + (5 * 1)) 1) [.k .u8 (L1.getD 5 0)], true), (Nat.blt 5 n2, true), ((5 : Int) == Int.ofNat 5, true), ((IntKind.i64.wrap (L1.getD 4 0)) == (L1.getD 4 0), true), (sameR (roRow O0 (o0 + (4 * 1)) 1) [.k .u8 (L1.getD 4 0)], true), (Nat.blt 4 n2, true), ((4 : Int) == Int.ofNat 4, true), ((decide ((n2 : Int) < (7 : Int))), false)]) (by kernel_rfl) (obs_cons (strB_f (x := (L1.take (4 - 0))) (y := ([(71 : Int), (78 : Int), (84 : Int), (1 : Int)] : List Int)) (by assumption)) <| oR <| obs_cons (dP_of (bs_ro (L := L1) (b := o0) (a := 0) F0 (by omega) (show _ = _ + _ * 1 from by omega) (by first | rfl | simp))) <| obs_cons (dP_of ⟨ltA, ltA⟩) <| oI <| oR <| oY <| obs_cons ((show (o0 + (n2 - 1) * 1 + 0) = (o0 + ((n2 - 1) * 1)) from by omega) ▸ F0 (n2 - 1) (by omega) 0 1 (show 0 + 1 ≤ 1 from by decide)) <| oB <| oI <| obs_cons (beq_iff_eq.2 ((wrap_i64 ltA).trans (by first | rfl | omega))) <| obs_cons (dP_of ⟨ltA, ltA⟩) <| oI <| oI <| obs_cons (beq_iff_eq.2 ((wrap_i64 ltA).trans (by first | rfl | omega))) <| obs_cons (beq_iff_eq.2 (wrap_i64 ltA)) <| obs_cons ((show (o0 + 5 * 1 + 0) = (o0 + (5 * 1)) from by omega) ▸ F0 5 (by omega) 0 1 (show 0 + 1 ≤ 1 from by decide)) <| oB <| oI <| obs_cons (beq_iff_eq.2 (wrap_i64 ltA)) <| obs_cons ((show (o0 + 4 * 1 + 0) = (o0 + (4 * 1)) from by omega) ▸ F0 4 (by omega) 0 1 (show 0 + 1 ≤ 1 from by decide)) <| oB <| oI <| oN obs_nil) rfl (by decide) (by rfl) rr ⟨rfl, trivial⟩
          ·
           exact Mach.en_none
         ·
          exact Mach.en_none
        ·
         exact Mach.en_none
       ·
        exact Mach.en_none
      ·
       exact Mach.en_none
     ·
      exact Mach.en_none
    ·
     exact Mach.en_none
   ·
    exact Mach.en_none
  ·
   exact Mach.en_none

theorem prog_Decode_3_spec (o0 : Nat) (L1 : List Int) (n2 n3 : Nat) (O0 : Obj) (F0 : ∀ i, i < L1.length → RowOK O0 (o0 + i * 1) [.k .u8 (L1.getD i 0)]) (N : Nat) (r : prog_Decode_3R) (h : prog_Decode_3 L1 n2 n3 N = some r) : LSpec Try.prog 8 #[vs 0 o0 n2 n3] [.ro O0] (prog_Decode_3V o0 L1 n2 n3 O0 r) (prog_Decode_3Po o0 L1 n2 n3 O0 r) :=
 Mach.spec fit_Pk (prog_Decode_3M o0 L1 n2 n3 O0 N) Try.func8 (by kernel_rfl) (by kernel_rfl) (fun x => by cases x <;> exact le_far _ rfl) (fun r => by cases r <;> exact le_far _ rfl) (fun x => by
  cases x with
  | h1m0 => exact fun _ => (show ¬ (1 ∈ rids (prog_Decode_3C 1).2) from by decide +kernel)
  | h1m1 _ _ => exact fun _ => (show ¬ (1 ∈ rids (prog_Decode_3C 1).2) from by decide +kernel)
  | h1m2 _ _ _ => exact fun _ => (show ¬ (1 ∈ rids (prog_Decode_3C 1).2) from by decide +kernel)
  ) (fun x => (show (prog_Decode_3M o0 L1 n2 n3 O0 N).Ok Try.prog ext_Pk x (prog_Decode_3Step L1 n2 n3 N x) from by
  cases x with
  | h1m0 => exact prog_Decode_3_ok1_0 o0 L1 n2 n3 O0 F0 N
  | h1m1 v2 v4 => exact prog_Decode_3_ok1_1 o0 L1 n2 n3 O0 F0 v2 v4 N
  | h1m2 v2 v3 v5 => exact prog_Decode_3_ok1_2 o0 L1 n2 n3 O0 F0 v2 v3 v5 N
  )) (prog_Decode_3_en o0 L1 n2 n3 O0 F0 N) (n := N) h

noncomputable def prog_Decode_3T0 (o0 : Nat) (L1 : List Int) (n2 n3 : Nat) (O0 : Obj) (w2 : Int) (k0 n : Nat) : Told := .call [(k0, .ro O0)] (Value.tuple #[vn, vi w2]) [] 0
def prog_Decode_3P0 (A : Array Value) (o0 : Nat) (L1 : List Int) (n2 n3 : Nat) (O0 : Obj) (w2 : Int) (k0 n : Nat) : Prop := CallSpec Try.prog 8 A [(k0, .ro O0)] (Value.tuple #[vn, vi w2]) [] n 0

theorem prog_Decode_3C0 (A : Array Value) (o0 : Nat) (L1 : List Int) (n2 n3 : Nat) (O0 : Obj) (F0 : ∀ i, i < L1.length → RowOK O0 (o0 + i * 1) [.k .u8 (L1.getD i 0)]) (w2 : Int) (N : Nat) (h : prog_Decode_3 L1 n2 n3 N = some (.r0 w2)) (k0 n : Nat) (hA : A = #[vs k0 o0 n2 n3]) (hnd : ([k0] : List Nat).Nodup) (hlt : ∀ k ∈ ([k0] : List Nat), k < n) : prog_Decode_3P0 A o0 L1 n2 n3 O0 w2 k0 n :=
 cs_args hA (LSpec.callL (show LSpec Try.prog 8 #[vs 0 o0 n2 n3] [.ro O0] (Value.tuple #[vn, vi w2]) [some (.ro O0)] from prog_Decode_3_spec o0 L1 n2 n3 O0 F0 N _ h) [k0] n [] rfl hnd hlt (show 1 ≤ 1 from by decide) (show ∀ j ∈ ([] : List Nat), j < 1 from by decide) (by rfl) ⟨rfl, trivial⟩ (by rfl) ⟨rfl, trivial⟩ ⟨.inr rfl, trivial⟩ rfl rfl rfl (cons_eq (pair_eq rfl rfl) rfl) rfl)

noncomputable def prog_Decode_3T1 (o0 : Nat) (L1 : List Int) (n2 n3 : Nat) (O0 : Obj) (w2 : List R_iiii) (k0 n : Nat) : Told := .call [(k0, .ro O0)] (Value.tuple #[vs n 0 w2.length w2.length, vq]) [(n, some (.cells (rowV E_iiii w2) 38))] 1
def prog_Decode_3P1 (A : Array Value) (o0 : Nat) (L1 : List Int) (n2 n3 : Nat) (O0 : Obj) (w2 : List R_iiii) (k0 n : Nat) : Prop := CallSpec Try.prog 8 A [(k0, .ro O0)] (Value.tuple #[vs n 0 w2.length w2.length, vq]) [(n, some (.cells (rowV E_iiii w2) 38))] n 1

theorem prog_Decode_3C1 (A : Array Value) (o0 : Nat) (L1 : List Int) (n2 n3 : Nat) (O0 : Obj) (F0 : ∀ i, i < L1.length → RowOK O0 (o0 + i * 1) [.k .u8 (L1.getD i 0)]) (w2 : List R_iiii) (N : Nat) (h : prog_Decode_3 L1 n2 n3 N = some (.r1 w2)) (k0 n : Nat) (hA : A = #[vs k0 o0 n2 n3]) (hnd : ([k0] : List Nat).Nodup) (hlt : ∀ k ∈ ([k0] : List Nat), k < n) : prog_Decode_3P1 A o0 L1 n2 n3 O0 w2 k0 n :=
 cs_args hA (LSpec.callL (show LSpec Try.prog 8 #[vs 0 o0 n2 n3] [.ro O0] (Value.tuple #[vs 1 0 w2.length w2.length, vq]) [some (.ro O0), some (.cells (rowV E_iiii w2) 38)] from prog_Decode_3_spec o0 L1 n2 n3 O0 F0 N _ h) [k0] n [1] rfl hnd hlt (show 1 ≤ 2 from by decide) (show ∀ j ∈ ([1] : List Nat), j < 2 from by decide) (by rfl) ⟨rfl, trivial⟩ (by rfl) ⟨rfl, ⟨(under_row _ _ _), trivial⟩⟩ ⟨.inr rfl, ⟨(by decide), trivial⟩⟩ rfl rfl rfl (cons_eq (pair_eq rfl rfl) rfl) (cons_eq (pair_eq rfl (some_eq (renO_row _ _ _))) rfl))

noncomputable def prog_Encode_2V  : prog_Encode_2R → Value
 | .r0 w0 => Value.tuple #[vs 0 0 w0.length w0.length, vq]
noncomputable def prog_Encode_2Po  : prog_Encode_2R → List (Option AObj)
 | .r0 w0 => [some (.cells (rowV (encI .u8) w0) 5)]

def prog_Encode_2Hd : prog_Encode_2X → Nat
 | .h1m0 => 1
noncomputable def prog_Encode_2L  : prog_Encode_2X → List (Nat × Value)
 | .h1m0 => [(4, vs 0 0 6 6), (22, vn), (23, vq), (24, vq)]
noncomputable def prog_Encode_2H  : prog_Encode_2X → List (Option AObj)
 | .h1m0 => [some (.cells (rowV (encI .u8) ([(71 : Int), (78 : Int), (84 : Int), (1 : Int), (0 : Int), (0 : Int)] : List Int)) 5)]

noncomputable def prog_Encode_2C : Nat → Code × List Kont
 | 1 => headOf [1, 1, 1, 0, 1, 3] (bodyC Try.f7) []
 | _ => (.skip, [])
def prog_Encode_2IL : Nat → Bool
 | 1 => true
 | _ => true
noncomputable def prog_Encode_2M  (N : Nat) : Mach := ⟨Try.f7, [], prog_Encode_2X, prog_Encode_2R, prog_Encode_2Step  N, prog_Encode_2Hd, prog_Encode_2C, prog_Encode_2IL, prog_Encode_2L , prog_Encode_2H , prog_Encode_2V , prog_Encode_2Po ⟩

theorem prog_Encode_2_ok1_0  (N : Nat) : (prog_Encode_2M  N).Ok Try.prog ext_Pk (.h1m0 : prog_Encode_2X) (prog_Encode_2Step  N (.h1m0 : prog_Encode_2X)) := by
 show (prog_Encode_2M  N).Ok Try.prog ext_Pk (.h1m0 : prog_Encode_2X) (prog_Encode_2_h1m0  N)
 unfold prog_Encode_2_h1m0
 refine Mach.ok_bind (fun z0 c0 => ?_)
 cases z0 with
 | r0 y0_0 =>
  exact Mach.ok_fin (M := prog_Encode_2M  N) (cd := 1000000) (cm := 0) (r := (.r0 (([(71 : Int), (78 : Int), (84 : Int), (1 : Int), (0 : Int), (0 : Int), y0_0] : List Int)) : prog_Encode_2R)) (fu := 4000) (orc := (orcw [] [] [] [] [(0, (prog_sumT0 (([(71 : Int), (78 : Int), (84 : Int), (1 : Int), (0 : Int), (0 : Int)] : List Int)) (6) (6)  y0_0 0 1)), (1, .ap 1 [Value.int .u8 y0_0] (rowV (encI .u8) ([(71 : Int), (78 : Int), (84 : Int), (1 : Int), (0 : Int), (0 : Int), y0_0] : List Int)))])) (live := [2]) (u := Value.tuple #[vs 2 0 (6 + 1) (6 + 1), vq]) (bl := [some (.cells (rowV (encI .u8) ([(71 : Int), (78 : Int), (84 : Int), (1 : Int), (0 : Int), (0 : Int), y0_0] : List Int)) 5)]) (ob := [(dP ((1 = 1 ∧ takeN (1 * 1) (List.drop 0 [Value.int .u8 y0_0]) = some [Value.int .u8 y0_0] ∧ allB cell1 [Value.int .u8 y0_0] = true) ∧ 0 < 1 ∧ 1 ≤ 100000 ∧ 6 < 6 + 1 ∧ 6 ≤ 100000 ∧ 6 * 1 ≤ (List.length (rowV (encI .u8) ([(71 : Int), (78 : Int), (84 : Int), (1 : Int), (0 : Int), (0 : Int)] : List Int))) ∧ List.take (6 * 1) (rowV (encI .u8) ([(71 : Int), (78 : Int), (84 : Int), (1 : Int), (0 : Int), (0 : Int)] : List Int)) ++ [Value.int .u8 y0_0] = (rowV (encI .u8) ([(71 : Int), (78 : Int), (84 : Int), (1 : Int), (0 : Int), (0 : Int), y0_0] : List Int))), true), (dP (prog_sumP0 #[vs 0 0 6 6] (([(71 : Int), (78 : Int), (84 : Int), (1 : Int), (0 : Int), (0 : Int)] : List Int)) (6) (6)  y0_0 0 1), true), (dS (rowV (encI .u8) ([(71 : Int), (78 : Int), (84 : Int), (1 : Int), (0 : Int), (0 : Int)] : List Int)), true)]) (fun gv => by kernel_rfl) (obs_cons (dP_of ⟨⟨rfl, ⟨rfl, rfl⟩⟩, by omega, by omega, ltA, by omega, (rowV_dst (E := (encI .u8)) (L := ([(71 : Int), (78 : Int), (84 : Int), (1 : Int), (0 : Int), (0 : Int)] : List Int)) (M := ([y0_0] : List Int)) (n := 6) (show _ = _ * 1 from rfl) ltA (R := ([(71 : Int), (78 : Int), (84 : Int), (1 : Int), (0 : Int), (0 : Int), y0_0] : List Int)) (by rw [List.take_of_length_le ltA]; rfl))⟩) <| obs_cons (dP_of (prog_sumC0 #[vs 0 0 6 6] (([(71 : Int), (78 : Int), (84 : Int), (1 : Int), (0 : Int), (0 : Int)] : List Int)) (6) (6)  y0_0 N c0 0 1 rfl (by decide) (by decide))) <| oR obs_nil) rfl (by decide) (by rfl) ⟨Eq.trans (show (Value.tuple #[vs 0 0 ([(71 : Int), (78 : Int), (84 : Int), (1 : Int), (0 : Int), (0 : Int), y0_0] : List Int).length ([(71 : Int), (78 : Int), (84 : Int), (1 : Int), (0 : Int), (0 : Int), y0_0] : List Int).length, vq] : Value) = Value.tuple #[vs 0 0 (6 + 1) (6 + 1), vq] from (tuple_eq (cons_eq (slice_eq rfl eqA eqA) (cons_eq rfl rfl)))) (by rfl), by rfl⟩ ⟨(same_row (E := (encI .u8)) (α := Int) _ ([(71 : Int), (78 : Int), (84 : Int), (1 : Int), (0 : Int), (0 : Int), y0_0] : List Int) _), trivial⟩

theorem prog_Encode_2_en  (N : Nat) : (prog_Encode_2M  N).Enter Try.prog ext_Pk #[vn] (prog_Encode_2In  N) := by
 unfold prog_Encode_2In
 exact Mach.en_head (bK := prog_Encode_2C 1) (M := prog_Encode_2M  N) (cd := 1000000) (cm := 0) (y := (.h1m0 : prog_Encode_2X)) (fu := 4000) (orc := (orcw [] [] [] [] [])) (live := [2]) (tv := [some (vs 2 0 6 6), some (vn), some (vq), some (vq)]) (bl := [some (.cells [Value.int .u8 (71 : Int), Value.int .u8 (78 : Int), Value.int .u8 (84 : Int), Value.int .u8 (1 : Int), Value.int .u8 (0 : Int), Value.int .u8 (0 : Int)] 5)]) (ob := []) rfl rfl (show rids (prog_Encode_2C 1).2 = [] from rfl) (by kernel_rfl) obs_nil rfl (by decide) (by rfl) ⟨rr, ⟨rr, ⟨rr, ⟨rr, trivial⟩⟩⟩⟩ ⟨(same_cells (E := (encI .u8)) _ (L := ([(71 : Int), (78 : Int), (84 : Int), (1 : Int), (0 : Int), (0 : Int)] : List Int)) _ (show ([Value.int .u8 (71 : Int), Value.int .u8 (78 : Int), Value.int .u8 (84 : Int), Value.int .u8 (1 : Int), Value.int .u8 (0 : Int), Value.int .u8 (0 : Int)] : List Value) = rowV (encI .u8) ([(71 : Int), (78 : Int), (84 : Int), (1 : Int), (0 : Int), (0 : Int)] : List Int) from rfl)), trivial⟩

theorem prog_Encode_2_spec  (N : Nat) (r : prog_Encode_2R) (h : prog_Encode_2  N = some r) : LSpec Try.prog 7 #[vn] [] (prog_Encode_2V  r) (prog_Encode_2Po  r) :=
 Mach.spec fit_Pk (prog_Encode_2M  N) Try.func7 (by kernel_rfl) (by kernel_rfl) (fun x => by cases x <;> exact le_far _ rfl) (fun r => by cases r <;> exact le_far _ rfl) (fun x => by
  cases x with
  | h1m0 => exact fun _ => (show ¬ (1 ∈ rids (prog_Encode_2C 1).2) from by decide +kernel)
  ) (fun x => (show (prog_Encode_2M  N).Ok Try.prog ext_Pk x (prog_Encode_2Step  N x) from by
  cases x with
  | h1m0 => exact prog_Encode_2_ok1_0  N
  )) (prog_Encode_2_en  N) (n := N) h

noncomputable def prog_Encode_2T0  (w0 : List Int) (n : Nat) : Told := .call [] (Value.tuple #[vs n 0 w0.length w0.length, vq]) [(n, some (.cells (rowV (encI .u8) w0) 5))] 1
def prog_Encode_2P0 (A : Array Value)  (w0 : List Int) (n : Nat) : Prop := CallSpec Try.prog 7 A [] (Value.tuple #[vs n 0 w0.length w0.length, vq]) [(n, some (.cells (rowV (encI .u8) w0) 5))] n 1

theorem prog_Encode_2C0 (A : Array Value)  (w0 : List Int) (N : Nat) (h : prog_Encode_2  N = some (.r0 w0)) (n : Nat) (hA : A = #[vn]) (hnd : ([] : List Nat).Nodup) (hlt : ∀ k ∈ ([] : List Nat), k < n) : prog_Encode_2P0 A  w0  n :=
 cs_args hA (LSpec.callL (show LSpec Try.prog 7 #[vn] [] (Value.tuple #[vs 0 0 w0.length w0.length, vq]) [some (.cells (rowV (encI .u8) w0) 5)] from prog_Encode_2_spec  N _ h) [] n [0] rfl hnd hlt (show 0 ≤ 1 from by decide) (show ∀ j ∈ ([0] : List Nat), j < 1 from by decide) (by rfl) trivial (by rfl) ⟨(under_row _ _ _), trivial⟩ ⟨(by decide), trivial⟩ rfl rfl rfl rfl (cons_eq (pair_eq rfl (some_eq (renO_row _ _ _))) rfl))

noncomputable def prog_Encode_3V (L0 : List R_iiii) : prog_Encode_3R → Value
 | .r0 w1 => Value.tuple #[vn, vi w1]
 | .r1 w1 => Value.tuple #[vs 1 0 w1.length w1.length, vq]
noncomputable def prog_Encode_3Po (L0 : List R_iiii) : prog_Encode_3R → List (Option AObj)
 | .r0 w1 => [some (.cells (rowV E_iiii L0) 38)]
 | .r1 w1 => [some (.cells (rowV E_iiii L0) 38), some (.cells (rowV (encI .u8) w1) 5)]

def prog_Encode_3Hd : prog_Encode_3X → Nat
 | .h1m0 v1 v3 => 1
noncomputable def prog_Encode_3L (L0 : List R_iiii) : prog_Encode_3X → List (Nat × Value)
 | .h1m0 v1 v3 => [(4, vs 1 0 v1.length v1.length), (22, vs 0 0 L0.length L0.length), (23, vi ((L0.length : Nat) : Int)), (24, vi (v3 : Int))]
noncomputable def prog_Encode_3H (L0 : List R_iiii) : prog_Encode_3X → List (Option AObj)
 | .h1m0 v1 v3 => [some (.cells (rowV E_iiii L0) 38), some (.cells (rowV (encI .u8) v1) 5)]

noncomputable def prog_Encode_3C : Nat → Code × List Kont
 | 1 => headOf [1, 1, 1, 0, 1, 3] (bodyC Try.f7) []
 | _ => (.skip, [])
def prog_Encode_3IL : Nat → Bool
 | 1 => true
 | _ => true
noncomputable def prog_Encode_3K (i : Nat) : List Kont := match prog_Encode_3IL i with | true => .rnd i :: (prog_Encode_3C i).2 | false => (prog_Encode_3C i).2

noncomputable def prog_Encode_3M (L0 : List R_iiii) (N : Nat) : Mach := ⟨Try.f7, [.cells (rowV E_iiii L0) 38], prog_Encode_3X, prog_Encode_3R, prog_Encode_3Step L0 N, prog_Encode_3Hd, prog_Encode_3C, prog_Encode_3IL, prog_Encode_3L L0, prog_Encode_3H L0, prog_Encode_3V L0, prog_Encode_3Po L0⟩

theorem prog_Encode_3_ok1_0 (L0 : List R_iiii) (v1 : List Int) (v3 N : Nat) : (prog_Encode_3M L0 N).Ok Try.prog ext_Pk (.h1m0 v1 v3 : prog_Encode_3X) (prog_Encode_3Step L0 N (.h1m0 v1 v3 : prog_Encode_3X)) := by
 show (prog_Encode_3M L0 N).Ok Try.prog ext_Pk (.h1m0 v1 v3 : prog_Encode_3X) (prog_Encode_3_h1m0 L0 N v1 v3)
 unfold prog_Encode_3_h1m0
 refine Mach.ok_ite (fun g0 => ?_) (fun g0 => ?_)
 ·
  refine Mach.ok_bind (fun z1 c1 => ?_)
  cases z1 with
  | r0 y1_0 =>
   refine Mach.ok_ite (fun g2 => ?_) (fun g2 => ?_)
   ·
    exact Mach.ok_fin (M := prog_Encode_3M L0 N) (cd := 1000000) (cm := 0) (r := (.r0 ((110 : Int)) : prog_Encode_3R)) (fu := 4000) (orc := (orcw [(0, true), (1, true)] [] [(0, v3)] [(0, [.i (L0.getD v3 R_iiii.z).a0, .i (L0.getD v3 R_iiii.z).a1, .i (L0.getD v3 R_iiii.z).a2, .i (L0.getD v3 R_iiii.z).a3])] [(1, (instr_EncodeT0 ((L0.getD v3 R_iiii.z).a0) ((L0.getD v3 R_iiii.z).a1) ((L0.getD v3 R_iiii.z).a2) ((L0.getD v3 R_iiii.z).a3)  y1_0  3))])) (live := [0]) (u := Value.tuple #[vn, vi (110 : Int)]) (bl := [some (.cells (rowV E_iiii L0) 38)]) (ob := [((y1_0 != (0 : Int)), true), (dP (instr_EncodeP0 #[Value.agg #[vi (L0.getD v3 R_iiii.z).a0, vi (L0.getD v3 R_iiii.z).a1, vi (L0.getD v3 R_iiii.z).a2, vi (L0.getD v3 R_iiii.z).a3]] ((L0.getD v3 R_iiii.z).a0) ((L0.getD v3 R_iiii.z).a1) ((L0.getD v3 R_iiii.z).a2) ((L0.getD v3 R_iiii.z).a3)  y1_0  3), true), (sameR (takeN 4 (List.drop (0 + (v3 * 4)) (rowV E_iiii L0))) [.i (L0.getD v3 R_iiii.z).a0, .i (L0.getD v3 R_iiii.z).a1, .i (L0.getD v3 R_iiii.z).a2, .i (L0.getD v3 R_iiii.z).a3], true), (Nat.blt v3 L0.length, true), ((v3 : Int) == Int.ofNat v3, true), ((decide ((v3 : Int) < ((L0.length : Nat) : Int))), true)]) (fun gv => by kernel_rfl) (oD <| obs_cons (dP_of (instr_EncodeC0 #[Value.agg #[vi (L0.getD v3 R_iiii.z).a0, vi (L0.getD v3 R_iiii.z).a1, vi (L0.getD v3 R_iiii.z).a2, vi (L0.getD v3 R_iiii.z).a3]] ((L0.getD v3 R_iiii.z).a0) ((L0.getD v3 R_iiii.z).a1) ((L0.getD v3 R_iiii.z).a2) ((L0.getD v3 R_iiii.z).a3)  y1_0 N c1  3 rfl (by decide) (by decide))) <| obs_cons (rowV_load (E := E_iiii) (L := L0) (i := v3) (q := 0) (by omega) (show (0 + (v3 * 4)) = v3 * 4 + 0 from by omega) (show 0 + 4 ≤ 4 from by decide) rfl rfl) <| oB <| oI <| oY obs_nil) rfl (by decide) (by rfl) rr ⟨(same_row (E := E_iiii) (α := R_iiii) _ L0 _), trivial⟩
   ·
    refine Mach.ok_ite (fun g3 => ?_) (fun g3 => ?_)
    ·
     exact Mach.ok_next (M := prog_Encode_3M L0 N) (cd := 1000000) (cm := 0) (y := (.h1m0 (v1) ((v3 + 1)) : prog_Encode_3X)) (fu := 4000) (orc := (orcw [(0, true), (1, false)] [(0, (((v3 + 1) : Nat) : Int))] [(0, v3)] [(0, [.i (L0.getD v3 R_iiii.z).a0, .i (L0.getD v3 R_iiii.z).a1, .i (L0.getD v3 R_iiii.z).a2, .i (L0.getD v3 R_iiii.z).a3])] [(1, (instr_EncodeT0 ((L0.getD v3 R_iiii.z).a0) ((L0.getD v3 R_iiii.z).a1) ((L0.getD v3 R_iiii.z).a2) ((L0.getD v3 R_iiii.z).a3)  y1_0  3))])) (live := [0, 1]) (tv := fun _ => [some (vs 1 0 v1.length v1.length), some (vs 0 0 L0.length L0.length), some (vi ((L0.length : Nat) : Int)), some (vi (((v3 + 1) : Nat) : Int))]) (bl := [some (.cells (rowV E_iiii L0) 38), some (.cells (rowV (encI .u8) v1) 5)]) (ob := [((IntKind.i64.wrap ((v3 : Int) + (1 : Int))) == (((v3 + 1) : Nat) : Int), true), ((y1_0 != (0 : Int)), false), (dP (instr_EncodeP0 #[Value.agg #[vi (L0.getD v3 R_iiii.z).a0, vi (L0.getD v3 R_iiii.z).a1, vi (L0.getD v3 R_iiii.z).a2, vi (L0.getD v3 R_iiii.z).a3]] ((L0.getD v3 R_iiii.z).a0) ((L0.getD v3 R_iiii.z).a1) ((L0.getD v3 R_iiii.z).a2) ((L0.getD v3 R_iiii.z).a3)  y1_0  3), true), (sameR (takeN 4 (List.drop (0 + (v3 * 4)) (rowV E_iiii L0))) [.i (L0.getD v3 R_iiii.z).a0, .i (L0.getD v3 R_iiii.z).a1, .i (L0.getD v3 R_iiii.z).a2, .i (L0.getD v3 R_iiii.z).a3], true), (Nat.blt v3 L0.length, true), ((v3 : Int) == Int.ofNat v3, true), ((decide ((v3 : Int) < ((L0.length : Nat) : Int))), true)]) rfl (show 1 ∈ rids (prog_Encode_3K 1) from by decide +kernel) (fun gv => by kernel_rfl) (obs_cons (beq_iff_eq.2 ((wrap_i64 ltA).trans (by first | rfl | omega))) <| oE <| obs_cons (dP_of (instr_EncodeC0 #[Value.agg #[vi (L0.getD v3 R_iiii.z).a0, vi (L0.getD v3 R_iiii.z).a1, vi (L0.getD v3 R_iiii.z).a2, vi (L0.getD v3 R_iiii.z).a3]] ((L0.getD v3 R_iiii.z).a0) ((L0.getD v3 R_iiii.z).a1) ((L0.getD v3 R_iiii.z).a2) ((L0.getD v3 R_iiii.z).a3)  y1_0 N c1  3 rfl (by decide) (by decide))) <| obs_cons (rowV_load (E := E_iiii) (L := L0) (i := v3) (q := 0) (by omega) (show (0 + (v3 * 4)) = v3 * 4 + 0 from by omega) (show 0 + 4 ≤ 4 from by decide) rfl rfl) <| oB <| oI <| oY obs_nil) rfl (by decide) (by rfl) (fun _ => ⟨rr, ⟨rr, ⟨rr, ⟨rr, trivial⟩⟩⟩⟩) ⟨(same_row (E := E_iiii) (α := R_iiii) _ L0 _), ⟨(same_row (E := (encI .u8)) (α := Int) _ v1 _), trivial⟩⟩
    ·
     exact Mach.ok_none
  | r1 y1_0 =>
   refine Mach.ok_ite (fun g2 => ?_) (fun g2 => ?_)
   ·
    refine Mach.ok_ite (fun g3 => ?_) (fun g3 => ?_)
    ·
     exact Mach.ok_next (M := prog_Encode_3M L0 N) (cd := 1000000) (cm := 0) (y := (.h1m0 (v1) ((v3 + 1)) : prog_Encode_3X)) (fu := 4000) (orc := (orcw [(0, true)] [(0, (((v3 + 1) : Nat) : Int))] [(0, v3)] [(0, [.i (L0.getD v3 R_iiii.z).a0, .i (L0.getD v3 R_iiii.z).a1, .i (L0.getD v3 R_iiii.z).a2, .i (L0.getD v3 R_iiii.z).a3])] [(1, (instr_EncodeT1 ((L0.getD v3 R_iiii.z).a0) ((L0.getD v3 R_iiii.z).a1) ((L0.getD v3 R_iiii.z).a2) ((L0.getD v3 R_iiii.z).a3)  y1_0  3)), (2, .ap0)])) (live := [0, 1]) (tv := fun _ => [some (vs 1 0 v1.length v1.length), some (vs 0 0 L0.length L0.length), some (vi ((L0.length : Nat) : Int)), some (vi (((v3 + 1) : Nat) : Int))]) (bl := [some (.cells (rowV E_iiii L0) 38), some (.cells (rowV (encI .u8) v1) 5)]) (ob := [((IntKind.i64.wrap ((v3 : Int) + (1 : Int))) == (((v3 + 1) : Nat) : Int), true), (dP (0 = y1_0.length ∧ takeN (y1_0.length * 1) (List.drop 0 (rowV (encI .u8) y1_0)) = some [] ∧ allB cell1 [] = true), true), (dP (instr_EncodeP1 #[Value.agg #[vi (L0.getD v3 R_iiii.z).a0, vi (L0.getD v3 R_iiii.z).a1, vi (L0.getD v3 R_iiii.z).a2, vi (L0.getD v3 R_iiii.z).a3]] ((L0.getD v3 R_iiii.z).a0) ((L0.getD v3 R_iiii.z).a1) ((L0.getD v3 R_iiii.z).a2) ((L0.getD v3 R_iiii.z).a3)  y1_0  3), true), (sameR (takeN 4 (List.drop (0 + (v3 * 4)) (rowV E_iiii L0))) [.i (L0.getD v3 R_iiii.z).a0, .i (L0.getD v3 R_iiii.z).a1, .i (L0.getD v3 R_iiii.z).a2, .i (L0.getD v3 R_iiii.z).a3], true), (Nat.blt v3 L0.length, true), ((v3 : Int) == Int.ofNat v3, true), ((decide ((v3 : Int) < ((L0.length : Nat) : Int))), true)]) rfl (show 1 ∈ rids (prog_Encode_3K 1) from by decide +kernel) (fun gv => by kernel_rfl) (obs_cons (beq_iff_eq.2 ((wrap_i64 ltA).trans (by first | rfl | omega))) <| obs_cons (dP_of ⟨by omega, by rw [show y1_0.length = 0 by omega]; rfl, rfl⟩) <| obs_cons (dP_of (instr_EncodeC1 #[Value.agg #[vi (L0.getD v3 R_iiii.z).a0, vi (L0.getD v3 R_iiii.z).a1, vi (L0.getD v3 R_iiii.z).a2, vi (L0.getD v3 R_iiii.z).a3]] ((L0.getD v3 R_iiii.z).a0) ((L0.getD v3 R_iiii.z).a1) ((L0.getD v3 R_iiii.z).a2) ((L0.getD v3 R_iiii.z).a3)  y1_0 N c1  3 rfl (by decide) (by decide))) <| obs_cons (rowV_load (E := E_iiii) (L := L0) (i := v3) (q := 0) (by omega) (show (0 + (v3 * 4)) = v3 * 4 + 0 from by omega) (show 0 + 4 ≤ 4 from by decide) rfl rfl) <| oB <| oI <| oY obs_nil) rfl (by decide) (by rfl) (fun _ => ⟨rr, ⟨rr, ⟨rr, ⟨rr, trivial⟩⟩⟩⟩) ⟨(same_row (E := E_iiii) (α := R_iiii) _ L0 _), ⟨(same_row (E := (encI .u8)) (α := Int) _ v1 _), trivial⟩⟩
    ·
     exact Mach.ok_none
   ·
    refine Mach.ok_ite (fun g3 => ?_) (fun g3 => ?_)
    ·
     refine Mach.ok_ite (fun g4 => ?_) (fun g4 => ?_)
     ·
      refine Mach.ok_ite (fun g5 => ?_) (fun g5 => ?_)
      ·
       exact Mach.ok_next (M := prog_Encode_3M L0 N) (cd := 1000000) (cm := 0) (y := (.h1m0 ((v1 ++ y1_0)) ((v3 + 1)) : prog_Encode_3X)) (fu := 4000) (orc := (orcw [(0, true)] [(0, (((v3 + 1) : Nat) : Int))] [(0, v3)] [(0, [.i (L0.getD v3 R_iiii.z).a0, .i (L0.getD v3 R_iiii.z).a1, .i (L0.getD v3 R_iiii.z).a2, .i (L0.getD v3 R_iiii.z).a3])] [(1, (instr_EncodeT1 ((L0.getD v3 R_iiii.z).a0) ((L0.getD v3 R_iiii.z).a1) ((L0.getD v3 R_iiii.z).a2) ((L0.getD v3 R_iiii.z).a3)  y1_0  3)), (2, .ap y1_0.length (rowV (encI .u8) y1_0) (rowV (encI .u8) (v1 ++ y1_0)))])) (live := [0, 4]) (tv := fun _ => [some (vs 4 0 (v1.length + y1_0.length) (v1.length + y1_0.length)), some (vs 0 0 L0.length L0.length), some (vi ((L0.length : Nat) : Int)), some (vi (((v3 + 1) : Nat) : Int))]) (bl := [some (.cells (rowV E_iiii L0) 38), some (.cells (rowV (encI .u8) (v1 ++ y1_0)) 5)]) (ob := [((IntKind.i64.wrap ((v3 : Int) + (1 : Int))) == (((v3 + 1) : Nat) : Int), true), (dP ((y1_0.length = y1_0.length ∧ takeN (y1_0.length * 1) (List.drop 0 (rowV (encI .u8) y1_0)) = some (rowV (encI .u8) y1_0) ∧ allB cell1 (rowV (encI .u8) y1_0) = true) ∧ 0 < y1_0.length ∧ y1_0.length ≤ 100000 ∧ v1.length < v1.length + y1_0.length ∧ v1.length ≤ 100000 ∧ v1.length * 1 ≤ (List.length (rowV (encI .u8) v1)) ∧ List.take (v1.length * 1) (rowV (encI .u8) v1) ++ (rowV (encI .u8) y1_0) = (rowV (encI .u8) (v1 ++ y1_0))), true), (dP (instr_EncodeP1 #[Value.agg #[vi (L0.getD v3 R_iiii.z).a0, vi (L0.getD v3 R_iiii.z).a1, vi (L0.getD v3 R_iiii.z).a2, vi (L0.getD v3 R_iiii.z).a3]] ((L0.getD v3 R_iiii.z).a0) ((L0.getD v3 R_iiii.z).a1) ((L0.getD v3 R_iiii.z).a2) ((L0.getD v3 R_iiii.z).a3)  y1_0  3), true), (sameR (takeN 4 (List.drop (0 + (v3 * 4)) (rowV E_iiii L0))) [.i (L0.getD v3 R_iiii.z).a0, .i (L0.getD v3 R_iiii.z).a1, .i (L0.getD v3 R_iiii.z).a2, .i (L0.getD v3 R_iiii.z).a3], true), (Nat.blt v3 L0.length, true), ((v3 : Int) == Int.ofNat v3, true), ((decide ((v3 : Int) < ((L0.length : Nat) : Int))), true)]) rfl (show 1 ∈ rids (prog_Encode_3K 1) from by decide +kernel) (fun gv => by kernel_rfl) (obs_cons (beq_iff_eq.2 ((wrap_i64 ltA).trans (by first | rfl | omega))) <| obs_cons (dP_of ⟨⟨rfl, (src_row (E := (encI .u8)) (L := y1_0) (a := 0) (n := y1_0.length) (by omega) (by show _ = _ * 1; omega) (show _ = _ * 1 from rfl) (by rw [List.drop_zero, List.take_of_length_le (by omega)]))⟩, by omega, by omega, ltA, by omega, (rowV_dst (E := (encI .u8)) (L := v1) (M := y1_0) (n := v1.length) (show _ = _ * 1 from rfl) (by omega) (R := (v1 ++ y1_0)) (by rw [List.take_of_length_le (by omega)]))⟩) <| obs_cons (dP_of (instr_EncodeC1 #[Value.agg #[vi (L0.getD v3 R_iiii.z).a0, vi (L0.getD v3 R_iiii.z).a1, vi (L0.getD v3 R_iiii.z).a2, vi (L0.getD v3 R_iiii.z).a3]] ((L0.getD v3 R_iiii.z).a0) ((L0.getD v3 R_iiii.z).a1) ((L0.getD v3 R_iiii.z).a2) ((L0.getD v3 R_iiii.z).a3)  y1_0 N c1  3 rfl (by decide) (by decide))) <| obs_cons (rowV_load (E := E_iiii) (L := L0) (i := v3) (q := 0) (by omega) (show (0 + (v3 * 4)) = v3 * 4 + 0 from by omega) (show 0 + 4 ≤ 4 from by decide) rfl rfl) <| oB <| oI <| oY obs_nil) rfl (by decide) (by rfl) (fun _ => ⟨⟨Eq.trans (show (vs 1 0 (v1 ++ y1_0).length (v1 ++ y1_0).length : Value) = vs 1 0 (v1.length + y1_0.length) (v1.length + y1_0.length) from (slice_eq rfl eqA eqA)) (by rfl), by rfl⟩, ⟨rr, ⟨rr, ⟨rr, trivial⟩⟩⟩⟩) ⟨(same_row (E := E_iiii) (α := R_iiii) _ L0 _), ⟨(same_row (E := (encI .u8)) (α := Int) _ (v1 ++ y1_0) _), trivial⟩⟩
      ·
       exact Mach.ok_none
     ·
      exact Mach.ok_none
    ·
     exact Mach.ok_none
 ·
  refine Mach.ok_bind (fun z1 c1 => ?_)
  cases z1 with
  | r0 y1_0 =>
   refine Mach.ok_ite (fun g2 => ?_) (fun g2 => ?_)
   ·
    exact Mach.ok_fin (M := prog_Encode_3M L0 N) (cd := 1000000) (cm := 0) (r := (.r1 ((v1 ++ ([y1_0] : List Int))) : prog_Encode_3R)) (fu := 4000) (orc := (orcw [(0, false)] [] [] [] [(0, (prog_sumT0 (v1) (v1.length) (v1.length)  y1_0 1 2)), (1, .ap 1 [Value.int .u8 y1_0] (rowV (encI .u8) (v1 ++ ([y1_0] : List Int))))])) (live := [0, 3]) (u := Value.tuple #[vs 3 0 (v1.length + 1) (v1.length + 1), vq]) (bl := [some (.cells (rowV E_iiii L0) 38), some (.cells (rowV (encI .u8) (v1 ++ ([y1_0] : List Int))) 5)]) (ob := [(dP ((1 = 1 ∧ takeN (1 * 1) (List.drop 0 [Value.int .u8 y1_0]) = some [Value.int .u8 y1_0] ∧ allB cell1 [Value.int .u8 y1_0] = true) ∧ 0 < 1 ∧ 1 ≤ 100000 ∧ v1.length < v1.length + 1 ∧ v1.length ≤ 100000 ∧ v1.length * 1 ≤ (List.length (rowV (encI .u8) v1)) ∧ List.take (v1.length * 1) (rowV (encI .u8) v1) ++ [Value.int .u8 y1_0] = (rowV (encI .u8) (v1 ++ ([y1_0] : List Int)))), true), (dP (prog_sumP0 #[vs 1 0 v1.length v1.length] (v1) (v1.length) (v1.length)  y1_0 1 2), true), (dS (rowV (encI .u8) v1), true), ((decide ((v3 : Int) < ((L0.length : Nat) : Int))), false)]) (fun gv => by kernel_rfl) (obs_cons (dP_of ⟨⟨rfl, ⟨rfl, rfl⟩⟩, by omega, by omega, ltA, by omega, (rowV_dst (E := (encI .u8)) (L := v1) (M := ([y1_0] : List Int)) (n := v1.length) (show _ = _ * 1 from rfl) (by omega) (R := (v1 ++ ([y1_0] : List Int))) (by rw [List.take_of_length_le (by omega)]))⟩) <| obs_cons (dP_of (prog_sumC0 #[vs 1 0 v1.length v1.length] (v1) (v1.length) (v1.length)  y1_0 N c1 1 2 rfl (by decide) (by decide))) <| oR <| oN obs_nil) rfl (by decide) (by rfl) ⟨Eq.trans (show (Value.tuple #[vs 1 0 (v1 ++ ([y1_0] : List Int)).length (v1 ++ ([y1_0] : List Int)).length, vq] : Value) = Value.tuple #[vs 1 0 (v1.length + 1) (v1.length + 1), vq] from (tuple_eq (cons_eq (slice_eq rfl eqA eqA) (cons_eq rfl rfl)))) (by rfl), by rfl⟩ ⟨(same_row (E := E_iiii) (α := R_iiii) _ L0 _), ⟨(same_row (E := (encI .u8)) (α := Int) _ (v1 ++ ([y1_0] : List Int)) _), trivial⟩⟩
   ·
    exact Mach.ok_none

theorem prog_Encode_3_en (L0 : List R_iiii) (N : Nat) : (prog_Encode_3M L0 N).Enter Try.prog ext_Pk #[vs 0 0 L0.length L0.length] (prog_Encode_3In L0 N) := by
 unfold prog_Encode_3In
 refine Mach.en_ite (fun g0 => ?_) (fun g0 => ?_)
 ·
  exact Mach.en_fin (M := prog_Encode_3M L0 N) (cd := 1000000) (cm := 0) (r := (.r0 ((3 : Int)) : prog_Encode_3R)) (fu := 4000) (orc := (orcw [(0, true)] [] [] [] [])) (live := [0]) (u := Value.tuple #[vn, vi (3 : Int)]) (bl := [some (.cells (rowV E_iiii L0) 38)]) (ob := [((decide (((L0.length : Nat) : Int) > (512 : Int))), true)]) (by kernel_rfl) (oY obs_nil) rfl (by decide) (by rfl) rr ⟨(same_row (E := E_iiii) (α := R_iiii) _ L0 _), trivial⟩
 ·
  exact Mach.en_head (bK := prog_Encode_3C 1) (M := prog_Encode_3M L0 N) (cd := 1000000) (cm := 0) (y := (.h1m0 (([(71 : Int), (78 : Int), (84 : Int), (1 : Int), (((L0.length : Nat) : Int) / (256 : Int)), (IntKind.u8.wrap ((L0.length : Nat) : Int))] : List Int)) (0) : prog_Encode_3X)) (fu := 4000) (orc := (orcw [(0, false)] [(0, (((L0.length : Nat) : Int) / (256 : Int))), (1, (((L0.length : Nat) : Int) / (256 : Int)))] [] [] [])) (live := [0, 3]) (tv := [some (vs 3 0 6 6), some (vs 0 0 L0.length L0.length), some (vi ((L0.length : Nat) : Int)), some (vq)]) (bl := [some (.cells (rowV E_iiii L0) 38), some (.cells [Value.int .u8 (71 : Int), Value.int .u8 (78 : Int), Value.int .u8 (84 : Int), Value.int .u8 (1 : Int), Value.int .u8 (((L0.length : Nat) : Int) / (256 : Int)), Value.int .u8 (IntKind.u8.wrap ((L0.length : Nat) : Int))] 5)]) (ob := [((IntKind.u8.wrap (((L0.length : Nat) : Int) / (256 : Int))) == (((L0.length : Nat) : Int) / (256 : Int)), true), ((Int.fdiv ((L0.length : Nat) : Int) (2 ^ 8 : Int)) == (((L0.length : Nat) : Int) / (256 : Int)), true), ((decide (((L0.length : Nat) : Int) > (512 : Int))), false)]) rfl rfl (show rids (prog_Encode_3C 1).2 = [] from rfl) (by kernel_rfl) (obs_cons (beq_iff_eq.2 (wrap_u8 ltA)) <| obs_cons (beq_iff_eq.2 (Int.fdiv_eq_ediv_of_nonneg _ (by decide))) <| oN obs_nil) rfl (by decide) (by rfl) ⟨⟨Eq.trans (show (vs 1 0 ([(71 : Int), (78 : Int), (84 : Int), (1 : Int), (((L0.length : Nat) : Int) / (256 : Int)), (IntKind.u8.wrap ((L0.length : Nat) : Int))] : List Int).length ([(71 : Int), (78 : Int), (84 : Int), (1 : Int), (((L0.length : Nat) : Int) / (256 : Int)), (IntKind.u8.wrap ((L0.length : Nat) : Int))] : List Int).length : Value) = vs 1 0 6 6 from (slice_eq rfl eqA eqA)) (by rfl), by rfl⟩, ⟨rr, ⟨rr, ⟨⟨Eq.trans (show (vi ((0 : Nat) : Int) : Value) = vq from (congrArg (Value.int .i64) (by first | rfl | omega))) (by rfl), by rfl⟩, trivial⟩⟩⟩⟩ ⟨(same_row (E := E_iiii) (α := R_iiii) _ L0 _), ⟨(same_cells (E := (encI .u8)) _ (L := ([(71 : Int), (78 : Int), (84 : Int), (1 : Int), (((L0.length : Nat) : Int) / (256 : Int)), (IntKind.u8.wrap ((L0.length : Nat) : Int))] : List Int)) _ (show ([Value.int .u8 (71 : Int), Value.int .u8 (78 : Int), Value.int .u8 (84 : Int), Value.int .u8 (1 : Int), Value.int .u8 (((L0.length : Nat) : Int) / (256 : Int)), Value.int .u8 (IntKind.u8.wrap ((L0.length : Nat) : Int))] : List Value) = rowV (encI .u8) ([(71 : Int), (78 : Int), (84 : Int), (1 : Int), (((L0.length : Nat) : Int) / (256 : Int)), (IntKind.u8.wrap ((L0.length : Nat) : Int))] : List Int) from rfl)), trivial⟩⟩

theorem prog_Encode_3_spec (L0 : List R_iiii) (N : Nat) (r : prog_Encode_3R) (h : prog_Encode_3 L0 N = some r) : LSpec Try.prog 7 #[vs 0 0 L0.length L0.length] [.cells (rowV E_iiii L0) 38] (prog_Encode_3V L0 r) (prog_Encode_3Po L0 r) :=
 Mach.spec fit_Pk (prog_Encode_3M L0 N) Try.func7 (by kernel_rfl) (by kernel_rfl) (fun x => by cases x <;> exact le_far _ rfl) (fun r => by cases r <;> exact le_far _ rfl) (fun x => by
  cases x with
  | h1m0 _ _ => exact fun _ => (show ¬ (1 ∈ rids (prog_Encode_3C 1).2) from by decide +kernel)
  ) (fun x => (show (prog_Encode_3M L0 N).Ok Try.prog ext_Pk x (prog_Encode_3Step L0 N x) from by
  cases x with
  | h1m0 v1 v3 => exact prog_Encode_3_ok1_0 L0 v1 v3 N
  )) (prog_Encode_3_en L0 N) (n := N) h

noncomputable def prog_Encode_3T0 (L0 : List R_iiii) (w1 : Int) (k0 n : Nat) : Told := .call [(k0, .cells (rowV E_iiii L0) 38)] (Value.tuple #[vn, vi w1]) [] 0
def prog_Encode_3P0 (A : Array Value) (L0 : List R_iiii) (w1 : Int) (k0 n : Nat) : Prop := CallSpec Try.prog 7 A [(k0, .cells (rowV E_iiii L0) 38)] (Value.tuple #[vn, vi w1]) [] n 0

theorem prog_Encode_3C0 (A : Array Value) (L0 : List R_iiii) (w1 : Int) (N : Nat) (h : prog_Encode_3 L0 N = some (.r0 w1)) (k0 n : Nat) (hA : A = #[vs k0 0 L0.length L0.length]) (hnd : ([k0] : List Nat).Nodup) (hlt : ∀ k ∈ ([k0] : List Nat), k < n) : prog_Encode_3P0 A L0 w1 k0 n :=
 cs_args hA (LSpec.callL (show LSpec Try.prog 7 #[vs 0 0 L0.length L0.length] [.cells (rowV E_iiii L0) 38] (Value.tuple #[vn, vi w1]) [some (.cells (rowV E_iiii L0) 38)] from prog_Encode_3_spec L0 N _ h) [k0] n [] rfl hnd hlt (show 1 ≤ 1 from by decide) (show ∀ j ∈ ([] : List Nat), j < 1 from by decide) (by rfl) ⟨(under_row _ _ _), trivial⟩ (by rfl) ⟨(under_row _ _ _), trivial⟩ ⟨.inr rfl, trivial⟩ rfl rfl rfl (cons_eq (pair_eq rfl (renO_row _ _ _)) rfl) rfl)

noncomputable def prog_Encode_3T1 (L0 : List R_iiii) (w1 : List Int) (k0 n : Nat) : Told := .call [(k0, .cells (rowV E_iiii L0) 38)] (Value.tuple #[vs n 0 w1.length w1.length, vq]) [(n, some (.cells (rowV (encI .u8) w1) 5))] 1
def prog_Encode_3P1 (A : Array Value) (L0 : List R_iiii) (w1 : List Int) (k0 n : Nat) : Prop := CallSpec Try.prog 7 A [(k0, .cells (rowV E_iiii L0) 38)] (Value.tuple #[vs n 0 w1.length w1.length, vq]) [(n, some (.cells (rowV (encI .u8) w1) 5))] n 1

theorem prog_Encode_3C1 (A : Array Value) (L0 : List R_iiii) (w1 : List Int) (N : Nat) (h : prog_Encode_3 L0 N = some (.r1 w1)) (k0 n : Nat) (hA : A = #[vs k0 0 L0.length L0.length]) (hnd : ([k0] : List Nat).Nodup) (hlt : ∀ k ∈ ([k0] : List Nat), k < n) : prog_Encode_3P1 A L0 w1 k0 n :=
 cs_args hA (LSpec.callL (show LSpec Try.prog 7 #[vs 0 0 L0.length L0.length] [.cells (rowV E_iiii L0) 38] (Value.tuple #[vs 1 0 w1.length w1.length, vq]) [some (.cells (rowV E_iiii L0) 38), some (.cells (rowV (encI .u8) w1) 5)] from prog_Encode_3_spec L0 N _ h) [k0] n [1] rfl hnd hlt (show 1 ≤ 2 from by decide) (show ∀ j ∈ ([1] : List Nat), j < 2 from by decide) (by rfl) ⟨(under_row _ _ _), trivial⟩ (by rfl) ⟨(under_row _ _ _), ⟨(under_row _ _ _), trivial⟩⟩ ⟨.inr rfl, ⟨(by decide), trivial⟩⟩ rfl rfl rfl (cons_eq (pair_eq rfl (renO_row _ _ _)) rfl) (cons_eq (pair_eq rfl (some_eq (renO_row _ _ _))) rfl))

noncomputable def law11_ProgBackV (o0 : Nat) (L1 : List R_iiii) (n2 n3 o4 : Nat) (L5 : List Int) (n6 n7 : Nat) (a8 a9 : Int) (O0 O1 : Obj) : law11_ProgBackR → Value
 | .r0 w4 => Value.bool w4
noncomputable def law11_ProgBackPo (o0 : Nat) (L1 : List R_iiii) (n2 n3 o4 : Nat) (L5 : List Int) (n6 n7 : Nat) (a8 a9 : Int) (O0 O1 : Obj) : law11_ProgBackR → List (Option AObj)
 | .r0 w4 => [some (.ro O0), some (.ro O1)]

def law11_ProgBackHd : law11_ProgBackX → Nat
 | .h1m0 => 1
 | .h2m0 v10 => 2
 | .h2m1 v10 => 2
 | .h3m0 => 3
 | .h4m0 v8 => 4
noncomputable def law11_ProgBackL (o0 : Nat) (L1 : List R_iiii) (n2 n3 o4 : Nat) (L5 : List Int) (n6 n7 : Nat) (a8 a9 : Int) (O0 O1 : Obj) : law11_ProgBackX → List (Nat × Value)
 | .h1m0 => [(0, vs 0 o0 (((if (520 : Int) < (n2 : Int) then (520 : Int) else (n2 : Int))).toNat - 0) (n3 - 0)), (1, vs 1 o4 (((if (6000 : Int) < (n6 : Int) then (6000 : Int) else (n6 : Int))).toNat - 0) (n7 - 0)), (2, Value.int .u16 a8), (3, Value.int .u8 a9)]
 | .h2m0 v10 => [(0, vs 0 o0 (((if (520 : Int) < (n2 : Int) then (520 : Int) else (n2 : Int))).toNat - 0) (n3 - 0)), (1, vs 1 o4 (((if (6000 : Int) < (n6 : Int) then (6000 : Int) else (n6 : Int))).toNat - 0) (n7 - 0)), (2, Value.int .u16 a8), (3, Value.int .u8 a9), (9, vn), (10, vi v10)]
 | .h2m1 v10 => [(0, vs 0 o0 (((if (520 : Int) < (n2 : Int) then (520 : Int) else (n2 : Int))).toNat - 0) (n3 - 0)), (1, vs 1 o4 (((if (6000 : Int) < (n6 : Int) then (6000 : Int) else (n6 : Int))).toNat - 0) (n7 - 0)), (2, Value.int .u16 a8), (3, Value.int .u8 a9), (9, vs 2 0 v10.length v10.length), (10, vq)]
 | .h3m0 => [(1, vs 1 o4 (((if (6000 : Int) < (n6 : Int) then (6000 : Int) else (n6 : Int))).toNat - 0) (n7 - 0))]
 | .h4m0 v8 => [(1, vs 1 o4 (((if (6000 : Int) < (n6 : Int) then (6000 : Int) else (n6 : Int))).toNat - 0) (n7 - 0)), (2, Value.int .u16 a8), (3, Value.int .u8 a9), (9, vs 2 0 v8.length v8.length)]
noncomputable def law11_ProgBackH (o0 : Nat) (L1 : List R_iiii) (n2 n3 o4 : Nat) (L5 : List Int) (n6 n7 : Nat) (a8 a9 : Int) (O0 O1 : Obj) : law11_ProgBackX → List (Option AObj)
 | .h1m0 => [some (.ro O0), some (.ro O1)]
 | .h2m0 v10 => [some (.ro O0), some (.ro O1)]
 | .h2m1 v10 => [some (.ro O0), some (.ro O1), some (.cells (rowV (encI .u8) v10) 5)]
 | .h3m0 => [some (.ro O0), some (.ro O1)]
 | .h4m0 v8 => [some (.ro O0), some (.ro O1), some (.cells (rowV (encI .u8) v8) 5)]

end Ev
end Go.Proofs.Ytaahblgahilohaa
