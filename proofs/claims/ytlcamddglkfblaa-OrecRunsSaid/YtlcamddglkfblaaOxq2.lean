/- Calls do what the plain functions say. -/
import Derived.Test.YtlcamddglkfblaaOxq1
namespace Go.Proofs.Ytlcamddglkfblaa
open Go.RowKit
namespace Ev
set_option linter.unusedVariables false
set_option maxRecDepth 100000 in
theorem orec_Table_Of_ok1_1 (a0 : Int) (L1 : List Int) (L2 : List Int) (v3 : List Int) (v4 : Nat) (v5 : Nat) (N : Nat) : (orec_Table_OfM a0 L1 L2 N).Ok Try.prog ext_Ox (.h1m1 v3 v4 v5 : orec_Table_OfX) (orec_Table_OfStep a0 L1 L2 N (.h1m1 v3 v4 v5 : orec_Table_OfX)) := by
  show (orec_Table_OfM a0 L1 L2 N).Ok Try.prog ext_Ox (.h1m1 v3 v4 v5 : orec_Table_OfX) (orec_Table_Of_h1m1 a0 L1 L2 N v3 v4 v5)
  unfold orec_Table_Of_h1m1
  refine Mach.ok_ite (fun g0 => ?_) (fun g0 => ?_)
  ·
    refine Mach.ok_bind (fun z1 c1 => ?_)
    cases z1 with
    | r0 y1_0 y1_1 y1_2 =>
      refine Mach.ok_ite (fun g2 => ?_) (fun g2 => ?_)
      ·
        refine Mach.ok_ite (fun g3 => ?_) (fun g3 => ?_)
        ·
          refine Mach.ok_ite (fun g4 => ?_) (fun g4 => ?_)
          ·
            refine Mach.ok_ite (fun g5 => ?_) (fun g5 => ?_)
            ·
              exact Mach.ok_next (M := orec_Table_OfM a0 L1 L2 N) (cd := 1000000) (cm := 0) (y := (.h1m1 ((v3 ++ ([((v5 : Nat) : Int)] : List Int))) (v4) ((v5 + 1)) : orec_Table_OfX)) (fu := 4000) (orc := (orcw [(0, true), (1, true), (2, true)] [(0, (((v5 + 1) : Nat) : Int))] [] [] [(0, (orec_Table_AtT0 (((v5 : Nat) : Int)) (L1) (L2)  y1_0 y1_1 y1_2 0 1 2 4)), (2, .ap 1 [Value.int .i64 ((v5 : Nat) : Int)] (rowV (encI .i64) (v3 ++ ([((v5 : Nat) : Int)] : List Int))))])) (live := [0, 1, 2, 6]) (tv := fun _ => [some (Value.pointer (some ⟨0, 0, none⟩)), some (Value.int .i64 a0), some (Value.slice (some ⟨6, 0, none⟩) (v3.length + 1) (v3.length + 1)), some (Value.int .i64 ((v4 : Nat) : Int)), some (Value.int .i64 (((v5 + 1) : Nat) : Int))]) (bl := [some (.cells [Value.slice (some ⟨1, 0, none⟩) L1.length L1.length, Value.slice (some ⟨2, 0, none⟩) L2.length L2.length] 74), some (.cells (rowV (encI .i64) L1) 84), some (.cells (rowV (encI .i64) L2) 84), some (.cells (rowV (encI .i64) (v3 ++ ([((v5 : Nat) : Int)] : List Int))) 3)]) (ob := [((IntKind.i64.wrap (((v5 : Nat) : Int) + (1 : Int))) == (((v5 + 1) : Nat) : Int), true), (dP ((1 = 1 ∧ takeN (1 * 1) (List.drop 0 [Value.int .i64 ((v5 : Nat) : Int)]) = some [Value.int .i64 ((v5 : Nat) : Int)] ∧ allB cell1 [Value.int .i64 ((v5 : Nat) : Int)] = true) ∧ 0 < 1 ∧ 1 ≤ 100000 ∧ v3.length < v3.length + 1 ∧ v3.length ≤ 100000 ∧ v3.length * 1 ≤ (List.length (rowV (encI .i64) v3)) ∧ List.take (v3.length * 1) (rowV (encI .i64) v3) ++ [Value.int .i64 ((v5 : Nat) : Int)] = (rowV (encI .i64) (v3 ++ ([((v5 : Nat) : Int)] : List Int)))), true), ((y1_1 == a0), true), ((y1_0 != (0 : Int)), true), (dP (orec_Table_AtP0 #[Value.pointer (some ⟨0, 0, none⟩), Value.int .i64 ((v5 : Nat) : Int)] (((v5 : Nat) : Int)) (L1) (L2)  y1_0 y1_1 y1_2 0 1 2 4), true), (dP ([Value.slice (some ⟨1, 0, none⟩) L1.length L1.length, Value.slice (some ⟨2, 0, none⟩) L2.length L2.length] = [Value.slice (some ⟨1, 0, none⟩) L1.length L1.length, Value.slice (some ⟨2, 0, none⟩) L2.length L2.length]), true), (dP ((rowV (encI .i64) L1) = (rowV (encI .i64) L1)), true), (dP ((rowV (encI .i64) L2) = (rowV (encI .i64) L2)), true), ((decide (((v5 : Nat) : Int) < ((v4 : Nat) : Int))), true)]) rfl (show 1 ∈ rids (orec_Table_OfK 1) from by decide +kernel) (fun gv => by kernel_rfl) (obs_cons (beq_iff_eq.2 ((wrap_i64 (by first | omega | (simp only [List.length_set, List.length_append, List.length_cons, List.length_nil, List.length_replicate, List.length_take, List.length_drop] at * <;> omega))).trans (by first | rfl | omega))) (obs_cons (dP_of ⟨⟨rfl, ⟨rfl, rfl⟩⟩, by omega, by omega, by first | omega | (simp only [List.length_set, List.length_append, List.length_cons, List.length_nil, List.length_replicate, List.length_take, List.length_drop] at * <;> omega), by omega, (rowV_dst (E := (encI .i64)) (L := v3) (M := ([((v5 : Nat) : Int)] : List Int)) (n := v3.length) (show _ = _ * 1 from rfl) (by omega) (R := (v3 ++ ([((v5 : Nat) : Int)] : List Int))) (by rw [List.take_of_length_le (by omega)]))⟩) (obs_cons (beq_iff_eq.2 (by omega)) (obs_cons (bne_iff_ne.2 (by omega)) (obs_cons (dP_of (orec_Table_AtC0 #[Value.pointer (some ⟨0, 0, none⟩), Value.int .i64 ((v5 : Nat) : Int)] (((v5 : Nat) : Int)) (L1) (L2)  y1_0 y1_1 y1_2 N c1 0 1 2 4 rfl (by decide) (by decide))) (obs_cons (dP_of (cons_eq rfl (cons_eq rfl rfl))) (obs_cons (dP_of rfl) (obs_cons (dP_of rfl) (obs_cons (decide_eq_true (by omega)) obs_nil))))))))) rfl (by decide) (by rfl) (fun _ => ⟨⟨by rfl, by rfl⟩, ⟨⟨by rfl, by rfl⟩, ⟨⟨Eq.trans (show (Value.slice (some ⟨3, 0, none⟩) (v3 ++ ([((v5 : Nat) : Int)] : List Int)).length (v3 ++ ([((v5 : Nat) : Int)] : List Int)).length : Value) = Value.slice (some ⟨3, 0, none⟩) (v3.length + 1) (v3.length + 1) from (slice_eq rfl (by first | rfl | first | omega | (simp only [List.length_set, List.length_append, List.length_cons, List.length_nil, List.length_replicate, List.length_take, List.length_drop] at * <;> omega)) (by first | rfl | first | omega | (simp only [List.length_set, List.length_append, List.length_cons, List.length_nil, List.length_replicate, List.length_take, List.length_drop] at * <;> omega)))) (by rfl), by rfl⟩, ⟨⟨by rfl, by rfl⟩, ⟨⟨by rfl, by rfl⟩, trivial⟩⟩⟩⟩⟩) ⟨⟨rfl, ⟨[], by rfl⟩, by rfl⟩, ⟨(same_row (E := (encI .i64)) (α := Int) _ L1 _), ⟨(same_row (E := (encI .i64)) (α := Int) _ L2 _), ⟨(same_row (E := (encI .i64)) (α := Int) _ (v3 ++ ([((v5 : Nat) : Int)] : List Int)) _), trivial⟩⟩⟩⟩
            ·
              exact Mach.ok_none
          ·
            exact Mach.ok_none
        ·
          refine Mach.ok_ite (fun g4 => ?_) (fun g4 => ?_)
          ·
            exact Mach.ok_next (M := orec_Table_OfM a0 L1 L2 N) (cd := 1000000) (cm := 0) (y := (.h1m1 (v3) (v4) ((v5 + 1)) : orec_Table_OfX)) (fu := 4000) (orc := (orcw [(0, true), (1, true), (2, false)] [(0, (((v5 + 1) : Nat) : Int))] [] [] [(0, (orec_Table_AtT0 (((v5 : Nat) : Int)) (L1) (L2)  y1_0 y1_1 y1_2 0 1 2 4))])) (live := [0, 1, 2, 3]) (tv := fun _ => [some (Value.pointer (some ⟨0, 0, none⟩)), some (Value.int .i64 a0), some (Value.slice (some ⟨3, 0, none⟩) v3.length v3.length), some (Value.int .i64 ((v4 : Nat) : Int)), some (Value.int .i64 (((v5 + 1) : Nat) : Int))]) (bl := [some (.cells [Value.slice (some ⟨1, 0, none⟩) L1.length L1.length, Value.slice (some ⟨2, 0, none⟩) L2.length L2.length] 74), some (.cells (rowV (encI .i64) L1) 84), some (.cells (rowV (encI .i64) L2) 84), some (.cells (rowV (encI .i64) v3) 3)]) (ob := [((IntKind.i64.wrap (((v5 : Nat) : Int) + (1 : Int))) == (((v5 + 1) : Nat) : Int), true), ((y1_1 == a0), false), ((y1_0 != (0 : Int)), true), (dP (orec_Table_AtP0 #[Value.pointer (some ⟨0, 0, none⟩), Value.int .i64 ((v5 : Nat) : Int)] (((v5 : Nat) : Int)) (L1) (L2)  y1_0 y1_1 y1_2 0 1 2 4), true), (dP ([Value.slice (some ⟨1, 0, none⟩) L1.length L1.length, Value.slice (some ⟨2, 0, none⟩) L2.length L2.length] = [Value.slice (some ⟨1, 0, none⟩) L1.length L1.length, Value.slice (some ⟨2, 0, none⟩) L2.length L2.length]), true), (dP ((rowV (encI .i64) L1) = (rowV (encI .i64) L1)), true), (dP ((rowV (encI .i64) L2) = (rowV (encI .i64) L2)), true), ((decide (((v5 : Nat) : Int) < ((v4 : Nat) : Int))), true)]) rfl (show 1 ∈ rids (orec_Table_OfK 1) from by decide +kernel) (fun gv => by kernel_rfl) (obs_cons (beq_iff_eq.2 ((wrap_i64 (by first | omega | (simp only [List.length_set, List.length_append, List.length_cons, List.length_nil, List.length_replicate, List.length_take, List.length_drop] at * <;> omega))).trans (by first | rfl | omega))) (obs_cons (beq_eq_false_iff_ne.2 (by omega)) (obs_cons (bne_iff_ne.2 (by omega)) (obs_cons (dP_of (orec_Table_AtC0 #[Value.pointer (some ⟨0, 0, none⟩), Value.int .i64 ((v5 : Nat) : Int)] (((v5 : Nat) : Int)) (L1) (L2)  y1_0 y1_1 y1_2 N c1 0 1 2 4 rfl (by decide) (by decide))) (obs_cons (dP_of (cons_eq rfl (cons_eq rfl rfl))) (obs_cons (dP_of rfl) (obs_cons (dP_of rfl) (obs_cons (decide_eq_true (by omega)) obs_nil)))))))) rfl (by decide) (by rfl) (fun _ => ⟨⟨by rfl, by rfl⟩, ⟨⟨by rfl, by rfl⟩, ⟨⟨by rfl, by rfl⟩, ⟨⟨by rfl, by rfl⟩, ⟨⟨by rfl, by rfl⟩, trivial⟩⟩⟩⟩⟩) ⟨⟨rfl, ⟨[], by rfl⟩, by rfl⟩, ⟨(same_row (E := (encI .i64)) (α := Int) _ L1 _), ⟨(same_row (E := (encI .i64)) (α := Int) _ L2 _), ⟨(same_row (E := (encI .i64)) (α := Int) _ v3 _), trivial⟩⟩⟩⟩
          ·
            exact Mach.ok_none
      ·
        refine Mach.ok_ite (fun g3 => ?_) (fun g3 => ?_)
        ·
          exact Mach.ok_next (M := orec_Table_OfM a0 L1 L2 N) (cd := 1000000) (cm := 0) (y := (.h1m1 (v3) (v4) ((v5 + 1)) : orec_Table_OfX)) (fu := 4000) (orc := (orcw [(0, true), (1, false)] [(0, (((v5 + 1) : Nat) : Int))] [] [] [(0, (orec_Table_AtT0 (((v5 : Nat) : Int)) (L1) (L2)  y1_0 y1_1 y1_2 0 1 2 4))])) (live := [0, 1, 2, 3]) (tv := fun _ => [some (Value.pointer (some ⟨0, 0, none⟩)), some (Value.int .i64 a0), some (Value.slice (some ⟨3, 0, none⟩) v3.length v3.length), some (Value.int .i64 ((v4 : Nat) : Int)), some (Value.int .i64 (((v5 + 1) : Nat) : Int))]) (bl := [some (.cells [Value.slice (some ⟨1, 0, none⟩) L1.length L1.length, Value.slice (some ⟨2, 0, none⟩) L2.length L2.length] 74), some (.cells (rowV (encI .i64) L1) 84), some (.cells (rowV (encI .i64) L2) 84), some (.cells (rowV (encI .i64) v3) 3)]) (ob := [((IntKind.i64.wrap (((v5 : Nat) : Int) + (1 : Int))) == (((v5 + 1) : Nat) : Int), true), ((y1_0 != (0 : Int)), false), (dP (orec_Table_AtP0 #[Value.pointer (some ⟨0, 0, none⟩), Value.int .i64 ((v5 : Nat) : Int)] (((v5 : Nat) : Int)) (L1) (L2)  y1_0 y1_1 y1_2 0 1 2 4), true), (dP ([Value.slice (some ⟨1, 0, none⟩) L1.length L1.length, Value.slice (some ⟨2, 0, none⟩) L2.length L2.length] = [Value.slice (some ⟨1, 0, none⟩) L1.length L1.length, Value.slice (some ⟨2, 0, none⟩) L2.length L2.length]), true), (dP ((rowV (encI .i64) L1) = (rowV (encI .i64) L1)), true), (dP ((rowV (encI .i64) L2) = (rowV (encI .i64) L2)), true), ((decide (((v5 : Nat) : Int) < ((v4 : Nat) : Int))), true)]) rfl (show 1 ∈ rids (orec_Table_OfK 1) from by decide +kernel) (fun gv => by kernel_rfl) (obs_cons (beq_iff_eq.2 ((wrap_i64 (by first | omega | (simp only [List.length_set, List.length_append, List.length_cons, List.length_nil, List.length_replicate, List.length_take, List.length_drop] at * <;> omega))).trans (by first | rfl | omega))) (obs_cons (bne_eq_false_iff_eq.2 (by omega)) (obs_cons (dP_of (orec_Table_AtC0 #[Value.pointer (some ⟨0, 0, none⟩), Value.int .i64 ((v5 : Nat) : Int)] (((v5 : Nat) : Int)) (L1) (L2)  y1_0 y1_1 y1_2 N c1 0 1 2 4 rfl (by decide) (by decide))) (obs_cons (dP_of (cons_eq rfl (cons_eq rfl rfl))) (obs_cons (dP_of rfl) (obs_cons (dP_of rfl) (obs_cons (decide_eq_true (by omega)) obs_nil))))))) rfl (by decide) (by rfl) (fun _ => ⟨⟨by rfl, by rfl⟩, ⟨⟨by rfl, by rfl⟩, ⟨⟨by rfl, by rfl⟩, ⟨⟨by rfl, by rfl⟩, ⟨⟨by rfl, by rfl⟩, trivial⟩⟩⟩⟩⟩) ⟨⟨rfl, ⟨[], by rfl⟩, by rfl⟩, ⟨(same_row (E := (encI .i64)) (α := Int) _ L1 _), ⟨(same_row (E := (encI .i64)) (α := Int) _ L2 _), ⟨(same_row (E := (encI .i64)) (α := Int) _ v3 _), trivial⟩⟩⟩⟩
        ·
          exact Mach.ok_none
  ·
    exact Mach.ok_fin (M := orec_Table_OfM a0 L1 L2 N) (cd := 1000000) (cm := 0) (r := (.r1 (v3) : orec_Table_OfR)) (fu := 4000) (orc := (orcw [(0, false)] [] [] [] [])) (live := [0, 1, 2, 3]) (u := Value.slice (some ⟨3, 0, none⟩) v3.length v3.length) (bl := [some (.cells [Value.slice (some ⟨1, 0, none⟩) L1.length L1.length, Value.slice (some ⟨2, 0, none⟩) L2.length L2.length] 74), some (.cells (rowV (encI .i64) L1) 84), some (.cells (rowV (encI .i64) L2) 84), some (.cells (rowV (encI .i64) v3) 3)]) (ob := [((decide (((v5 : Nat) : Int) < ((v4 : Nat) : Int))), false)]) (fun gv => by kernel_rfl) (obs_cons (decide_eq_false (by omega)) obs_nil) rfl (by decide) (by rfl) ⟨by rfl, by rfl⟩ ⟨⟨rfl, ⟨[], by rfl⟩, by rfl⟩, ⟨(same_row (E := (encI .i64)) (α := Int) _ L1 _), ⟨(same_row (E := (encI .i64)) (α := Int) _ L2 _), ⟨(same_row (E := (encI .i64)) (α := Int) _ v3 _), trivial⟩⟩⟩⟩

set_option maxRecDepth 100000 in
theorem orec_Table_Of_en (a0 : Int) (L1 : List Int) (L2 : List Int) (N : Nat) : (orec_Table_OfM a0 L1 L2 N).Enter Try.prog ext_Ox #[Value.pointer (some ⟨0, 0, none⟩), Value.int .i64 a0] (orec_Table_OfIn a0 L1 L2 N) := by
  unfold orec_Table_OfIn
  refine Mach.en_ite (fun g0 => ?_) (fun g0 => ?_)
  ·
    exact Mach.en_head (bK := orec_Table_OfC 1) (M := orec_Table_OfM a0 L1 L2 N) (cd := 1000000) (cm := 0) (y := (.h1m0 (L1.length) (0) : orec_Table_OfX)) (fu := 4000) (orc := (orcw [(1, true)] [] [] [] [])) (live := [0, 1, 2]) (tv := [some (Value.pointer (some ⟨0, 0, none⟩)), some (Value.int .i64 a0), some (Value.slice none 0 0), some (Value.int .i64 ((L1.length : Nat) : Int)), some (Value.int .i64 (0 : Int))]) (bl := [some (.cells [Value.slice (some ⟨1, 0, none⟩) L1.length L1.length, Value.slice (some ⟨2, 0, none⟩) L2.length L2.length] 74), some (.cells (rowV (encI .i64) L1) 84), some (.cells (rowV (encI .i64) L2) 84)]) (ob := [((decide (((L1.length : Nat) : Int) > (0 : Int))), true)]) rfl rfl (show rids (orec_Table_OfC 1).2 = [] from rfl) (by kernel_rfl) (obs_cons (decide_eq_true (by omega)) obs_nil) rfl (by decide) (by rfl) ⟨⟨by rfl, by rfl⟩, ⟨⟨by rfl, by rfl⟩, ⟨⟨by rfl, by rfl⟩, ⟨⟨by rfl, by rfl⟩, ⟨⟨Eq.trans (show (Value.int .i64 ((0 : Nat) : Int) : Value) = Value.int .i64 (0 : Int) from (congrArg (Value.int .i64) (by first | rfl | omega))) (by rfl), by rfl⟩, trivial⟩⟩⟩⟩⟩ ⟨⟨rfl, ⟨[], by rfl⟩, by rfl⟩, ⟨(same_row (E := (encI .i64)) (α := Int) _ L1 _), ⟨(same_row (E := (encI .i64)) (α := Int) _ L2 _), trivial⟩⟩⟩
  ·
    exact Mach.en_head (bK := orec_Table_OfC 1) (M := orec_Table_OfM a0 L1 L2 N) (cd := 1000000) (cm := 0) (y := (.h1m0 (0) (0) : orec_Table_OfX)) (fu := 4000) (orc := (orcw [(1, false)] [] [] [] [])) (live := [0, 1, 2]) (tv := [some (Value.pointer (some ⟨0, 0, none⟩)), some (Value.int .i64 a0), some (Value.slice none 0 0), some (Value.int .i64 (0 : Int)), some (Value.int .i64 (0 : Int))]) (bl := [some (.cells [Value.slice (some ⟨1, 0, none⟩) L1.length L1.length, Value.slice (some ⟨2, 0, none⟩) L2.length L2.length] 74), some (.cells (rowV (encI .i64) L1) 84), some (.cells (rowV (encI .i64) L2) 84)]) (ob := [((decide (((L1.length : Nat) : Int) > (0 : Int))), false)]) rfl rfl (show rids (orec_Table_OfC 1).2 = [] from rfl) (by kernel_rfl) (obs_cons (decide_eq_false (by omega)) obs_nil) rfl (by decide) (by rfl) ⟨⟨by rfl, by rfl⟩, ⟨⟨by rfl, by rfl⟩, ⟨⟨by rfl, by rfl⟩, ⟨⟨Eq.trans (show (Value.int .i64 ((0 : Nat) : Int) : Value) = Value.int .i64 (0 : Int) from (congrArg (Value.int .i64) (by first | rfl | omega))) (by rfl), by rfl⟩, ⟨⟨Eq.trans (show (Value.int .i64 ((0 : Nat) : Int) : Value) = Value.int .i64 (0 : Int) from (congrArg (Value.int .i64) (by first | rfl | omega))) (by rfl), by rfl⟩, trivial⟩⟩⟩⟩⟩ ⟨⟨rfl, ⟨[], by rfl⟩, by rfl⟩, ⟨(same_row (E := (encI .i64)) (α := Int) _ L1 _), ⟨(same_row (E := (encI .i64)) (α := Int) _ L2 _), trivial⟩⟩⟩

set_option maxRecDepth 100000 in
theorem orec_Table_Of_spec (a0 : Int) (L1 : List Int) (L2 : List Int) (N : Nat) (r : orec_Table_OfR) (h : orec_Table_Of a0 L1 L2 N = some r) : LSpec Try.prog 22 #[Value.pointer (some ⟨0, 0, none⟩), Value.int .i64 a0] [.cells [Value.slice (some ⟨1, 0, none⟩) L1.length L1.length, Value.slice (some ⟨2, 0, none⟩) L2.length L2.length] 74, .cells (rowV (encI .i64) L1) 84, .cells (rowV (encI .i64) L2) 84] (orec_Table_OfV a0 L1 L2 r) (orec_Table_OfPo a0 L1 L2 r) :=
  Mach.spec fit_Ox (orec_Table_OfM a0 L1 L2 N) Try.func22 (by kernel_rfl) (by kernel_rfl) (fun x => by cases x <;> exact le_far _ rfl) (fun r => by cases r <;> exact le_far _ rfl) (fun x => by
    cases x with
    | h1m0 _ _ => exact fun _ => (show ¬ (1 ∈ rids (orec_Table_OfC 1).2) from by decide +kernel)
    | h1m1 _ _ _ => exact fun _ => (show ¬ (1 ∈ rids (orec_Table_OfC 1).2) from by decide +kernel)
    ) (fun x => (show (orec_Table_OfM a0 L1 L2 N).Ok Try.prog ext_Ox x (orec_Table_OfStep a0 L1 L2 N x) from by
    cases x with
    | h1m0 v3 v4 => exact orec_Table_Of_ok1_0 a0 L1 L2 v3 v4 N
    | h1m1 v3 v4 v5 => exact orec_Table_Of_ok1_1 a0 L1 L2 v3 v4 v5 N
    )) (orec_Table_Of_en a0 L1 L2 N) (n := N) h

noncomputable def orec_Table_OfT0 (a0 : Int) (L1 : List Int) (L2 : List Int) (k0 : Nat) (k1 : Nat) (k2 : Nat) (n : Nat) : Told := .call [(k0, .cells [Value.slice (some ⟨k1, 0, none⟩) L1.length L1.length, Value.slice (some ⟨k2, 0, none⟩) L2.length L2.length] 74), (k1, .cells (rowV (encI .i64) L1) 84), (k2, .cells (rowV (encI .i64) L2) 84)] (Value.slice none 0 0) [] 0
def orec_Table_OfP0 (A : Array Value) (a0 : Int) (L1 : List Int) (L2 : List Int) (k0 : Nat) (k1 : Nat) (k2 : Nat) (n : Nat) : Prop := CallSpec Try.prog 22 A [(k0, .cells [Value.slice (some ⟨k1, 0, none⟩) L1.length L1.length, Value.slice (some ⟨k2, 0, none⟩) L2.length L2.length] 74), (k1, .cells (rowV (encI .i64) L1) 84), (k2, .cells (rowV (encI .i64) L2) 84)] (Value.slice none 0 0) [] n 0

set_option maxRecDepth 100000 in
theorem orec_Table_OfC0 (A : Array Value) (a0 : Int) (L1 : List Int) (L2 : List Int) (N : Nat) (h : orec_Table_Of a0 L1 L2 N = some (.r0)) (k0 : Nat) (k1 : Nat) (k2 : Nat) (n : Nat) (hA : A = #[Value.pointer (some ⟨k0, 0, none⟩), Value.int .i64 a0]) (hnd : ([k0, k1, k2] : List Nat).Nodup) (hlt : ∀ k ∈ ([k0, k1, k2] : List Nat), k < n) : orec_Table_OfP0 A a0 L1 L2 k0 k1 k2 n :=
  cs_args hA (LSpec.callL (show LSpec Try.prog 22 #[Value.pointer (some ⟨0, 0, none⟩), Value.int .i64 a0] [.cells [Value.slice (some ⟨1, 0, none⟩) L1.length L1.length, Value.slice (some ⟨2, 0, none⟩) L2.length L2.length] 74, .cells (rowV (encI .i64) L1) 84, .cells (rowV (encI .i64) L2) 84] (Value.slice none 0 0) [some (.cells [Value.slice (some ⟨1, 0, none⟩) L1.length L1.length, Value.slice (some ⟨2, 0, none⟩) L2.length L2.length] 74), some (.cells (rowV (encI .i64) L1) 84), some (.cells (rowV (encI .i64) L2) 84)] from orec_Table_Of_spec a0 L1 L2 N _ h) [k0, k1, k2] n [] rfl hnd hlt (show 3 ≤ 3 from by decide) (show ∀ j ∈ ([] : List Nat), j < 3 from by decide) (by rfl) ⟨rfl, ⟨(under_row _ _ _), ⟨(under_row _ _ _), trivial⟩⟩⟩ (by rfl) ⟨rfl, ⟨(under_row _ _ _), ⟨(under_row _ _ _), trivial⟩⟩⟩ ⟨.inr rfl, ⟨.inr rfl, ⟨.inr rfl, trivial⟩⟩⟩ rfl rfl rfl (cons_eq (pair_eq rfl rfl) (cons_eq (pair_eq rfl (renO_row _ _ _)) (cons_eq (pair_eq rfl (renO_row _ _ _)) rfl))) rfl)

noncomputable def orec_Table_OfT1 (a0 : Int) (L1 : List Int) (L2 : List Int) (w2 : List Int) (k0 : Nat) (k1 : Nat) (k2 : Nat) (n : Nat) : Told := .call [(k0, .cells [Value.slice (some ⟨k1, 0, none⟩) L1.length L1.length, Value.slice (some ⟨k2, 0, none⟩) L2.length L2.length] 74), (k1, .cells (rowV (encI .i64) L1) 84), (k2, .cells (rowV (encI .i64) L2) 84)] (Value.slice (some ⟨n, 0, none⟩) w2.length w2.length) [(n, some (.cells (rowV (encI .i64) w2) 3))] 1
def orec_Table_OfP1 (A : Array Value) (a0 : Int) (L1 : List Int) (L2 : List Int) (w2 : List Int) (k0 : Nat) (k1 : Nat) (k2 : Nat) (n : Nat) : Prop := CallSpec Try.prog 22 A [(k0, .cells [Value.slice (some ⟨k1, 0, none⟩) L1.length L1.length, Value.slice (some ⟨k2, 0, none⟩) L2.length L2.length] 74), (k1, .cells (rowV (encI .i64) L1) 84), (k2, .cells (rowV (encI .i64) L2) 84)] (Value.slice (some ⟨n, 0, none⟩) w2.length w2.length) [(n, some (.cells (rowV (encI .i64) w2) 3))] n 1

set_option maxRecDepth 100000 in
theorem orec_Table_OfC1 (A : Array Value) (a0 : Int) (L1 : List Int) (L2 : List Int) (w2 : List Int) (N : Nat) (h : orec_Table_Of a0 L1 L2 N = some (.r1 w2)) (k0 : Nat) (k1 : Nat) (k2 : Nat) (n : Nat) (hA : A = #[Value.pointer (some ⟨k0, 0, none⟩), Value.int .i64 a0]) (hnd : ([k0, k1, k2] : List Nat).Nodup) (hlt : ∀ k ∈ ([k0, k1, k2] : List Nat), k < n) : orec_Table_OfP1 A a0 L1 L2 w2 k0 k1 k2 n :=
  cs_args hA (LSpec.callL (show LSpec Try.prog 22 #[Value.pointer (some ⟨0, 0, none⟩), Value.int .i64 a0] [.cells [Value.slice (some ⟨1, 0, none⟩) L1.length L1.length, Value.slice (some ⟨2, 0, none⟩) L2.length L2.length] 74, .cells (rowV (encI .i64) L1) 84, .cells (rowV (encI .i64) L2) 84] (Value.slice (some ⟨3, 0, none⟩) w2.length w2.length) [some (.cells [Value.slice (some ⟨1, 0, none⟩) L1.length L1.length, Value.slice (some ⟨2, 0, none⟩) L2.length L2.length] 74), some (.cells (rowV (encI .i64) L1) 84), some (.cells (rowV (encI .i64) L2) 84), some (.cells (rowV (encI .i64) w2) 3)] from orec_Table_Of_spec a0 L1 L2 N _ h) [k0, k1, k2] n [3] rfl hnd hlt (show 3 ≤ 4 from by decide) (show ∀ j ∈ ([3] : List Nat), j < 4 from by decide) (by rfl) ⟨rfl, ⟨(under_row _ _ _), ⟨(under_row _ _ _), trivial⟩⟩⟩ (by rfl) ⟨rfl, ⟨(under_row _ _ _), ⟨(under_row _ _ _), ⟨(under_row _ _ _), trivial⟩⟩⟩⟩ ⟨.inr rfl, ⟨.inr rfl, ⟨.inr rfl, ⟨(by decide), trivial⟩⟩⟩⟩ rfl rfl rfl (cons_eq (pair_eq rfl rfl) (cons_eq (pair_eq rfl (renO_row _ _ _)) (cons_eq (pair_eq rfl (renO_row _ _ _)) rfl))) (cons_eq (pair_eq rfl (some_eq (renO_row _ _ _))) rfl))

noncomputable def ref03_OfV (L0 : List R_iii) (a1 : Int) : ref03_OfR → Value
  | .r0 => Value.slice none 0 0
  | .r1 w1 => Value.slice (some ⟨1, 0, none⟩) w1.length w1.length
noncomputable def ref03_OfPo (L0 : List R_iii) (a1 : Int) : ref03_OfR → List (Option AObj)
  | .r0 => [some (.cells (rowV E_iii L0) 24)]
  | .r1 w1 => [some (.cells (rowV E_iii L0) 24), some (.cells (rowV (encI .i64) w1) 3)]

def ref03_OfHd : ref03_OfX → Nat
  | .h1m0 v2 => 1
  | .h1m1 v2 v3 => 1
noncomputable def ref03_OfL (L0 : List R_iii) (a1 : Int) : ref03_OfX → List (Nat × Value)
  | .h1m0 v2 => [(1, Value.int .i64 a1), (2, Value.pointer (some ⟨1, 0, none⟩)), (5, Value.slice none 0 0), (6, Value.int .i64 ((v2 : Nat) : Int))]
  | .h1m1 v2 v3 => [(1, Value.int .i64 a1), (2, Value.pointer (some ⟨1, 0, none⟩)), (5, Value.slice (some ⟨2, 0, none⟩) v2.length v2.length), (6, Value.int .i64 ((v3 : Nat) : Int))]
noncomputable def ref03_OfH (L0 : List R_iii) (a1 : Int) : ref03_OfX → List (Option AObj)
  | .h1m0 v2 => [some (.cells (rowV E_iii L0) 24), some (.cells [Value.slice (some ⟨0, 0, none⟩) L0.length L0.length] 43)]
  | .h1m1 v2 v3 => [some (.cells (rowV E_iii L0) 24), some (.cells [Value.slice (some ⟨0, 0, none⟩) L0.length L0.length] 43), some (.cells (rowV (encI .i64) v2) 3)]

noncomputable def ref03_OfC : Nat → Code × List Kont
  | 1 => headOf [1, 1, 0, 1, 3] (bodyC Try.f23) []
  | _ => (.skip, [])
def ref03_OfIL : Nat → Bool
  | 1 => true
  | _ => true
noncomputable def ref03_OfK (i : Nat) : List Kont := match ref03_OfIL i with | true => .rnd i :: (ref03_OfC i).2 | false => (ref03_OfC i).2

noncomputable def ref03_OfM (L0 : List R_iii) (a1 : Int) (N : Nat) : Mach := ⟨Try.f23, [.cells (rowV E_iii L0) 24], ref03_OfX, ref03_OfR, ref03_OfStep L0 a1 N, ref03_OfHd, ref03_OfC, ref03_OfIL, ref03_OfL L0 a1, ref03_OfH L0 a1, ref03_OfV L0 a1, ref03_OfPo L0 a1⟩

set_option maxRecDepth 100000 in
theorem ref03_Of_ok1_0 (L0 : List R_iii) (a1 : Int) (v2 : Nat) (N : Nat) : (ref03_OfM L0 a1 N).Ok Try.prog ext_Ox (.h1m0 v2 : ref03_OfX) (ref03_OfStep L0 a1 N (.h1m0 v2 : ref03_OfX)) := by
  show (ref03_OfM L0 a1 N).Ok Try.prog ext_Ox (.h1m0 v2 : ref03_OfX) (ref03_Of_h1m0 L0 a1 N v2)
  unfold ref03_Of_h1m0
  refine Mach.ok_ite (fun g0 => ?_) (fun g0 => ?_)
  ·
    refine Mach.ok_ite (fun g1 => ?_) (fun g1 => ?_)
    ·
      refine Mach.ok_ite (fun g2 => ?_) (fun g2 => ?_)
      ·
        refine Mach.ok_ite (fun g3 => ?_) (fun g3 => ?_)
        ·
          exact Mach.ok_next (M := ref03_OfM L0 a1 N) (cd := 1000000) (cm := 0) (y := (.h1m1 (([((v2 : Nat) : Int)] : List Int)) ((v2 + 1)) : ref03_OfX)) (fu := 4000) (orc := (orcw [(0, true), (1, true), (2, true)] [(0, (((v2 + 1) : Nat) : Int))] [(0, v2), (1, v2)] [(2, [.i (L0.getD v2 R_iii.z).a0]), (4, [.i (L0.getD v2 R_iii.z).a1])] [])) (live := [0, 1, 3]) (tv := fun _ => [some (Value.int .i64 a1), some (Value.pointer (some ⟨1, 0, none⟩)), some (Value.slice (some ⟨3, 0, none⟩) 1 1), some (Value.int .i64 (((v2 + 1) : Nat) : Int))]) (bl := [some (.cells (rowV E_iii L0) 24), some (.cells [Value.slice (some ⟨0, 0, none⟩) L0.length L0.length] 43), some (.cells [Value.int .i64 ((v2 : Nat) : Int)] 3)]) (ob := [((IntKind.i64.wrap (((v2 : Nat) : Int) + (1 : Int))) == (((v2 + 1) : Nat) : Int), true), (((L0.getD v2 R_iii.z).a1 == a1), true), (sameR (takeN 1 (List.drop ((0 + (v2 * 3)) + 1) (rowV E_iii L0))) [.i (L0.getD v2 R_iii.z).a1], true), (Nat.blt v2 L0.length, true), (((v2 : Nat) : Int) == Int.ofNat v2, true), (((L0.getD v2 R_iii.z).a0 != (0 : Int)), true), (sameR (takeN 1 (List.drop ((0 + (v2 * 3)) + 0) (rowV E_iii L0))) [.i (L0.getD v2 R_iii.z).a0], true), (Nat.blt v2 L0.length, true), (((v2 : Nat) : Int) == Int.ofNat v2, true), ((decide (((v2 : Nat) : Int) < ((L0.length : Nat) : Int))), true)]) rfl (show 1 ∈ rids (ref03_OfK 1) from by decide +kernel) (fun gv => by kernel_rfl) (obs_cons (beq_iff_eq.2 ((wrap_i64 (by first | omega | (simp only [List.length_set, List.length_append, List.length_cons, List.length_nil, List.length_replicate, List.length_take, List.length_drop] at * <;> omega))).trans (by first | rfl | omega))) (obs_cons (beq_iff_eq.2 (by omega)) (obs_cons (rowV_load (E := E_iii) (L := L0) (i := v2) (q := 1) (by omega) (show ((0 + (v2 * 3)) + 1) = v2 * 3 + 1 from by omega) (show 1 + 1 ≤ 3 from by decide) rfl rfl) (obs_cons (blt_of (by omega)) (obs_cons (beq_iff_eq.2 (by first | rfl | exact idx_eq (by omega))) (obs_cons (bne_iff_ne.2 (by omega)) (obs_cons (rowV_load (E := E_iii) (L := L0) (i := v2) (q := 0) (by omega) (show ((0 + (v2 * 3)) + 0) = v2 * 3 + 0 from by omega) (show 0 + 1 ≤ 3 from by decide) rfl rfl) (obs_cons (blt_of (by omega)) (obs_cons (beq_iff_eq.2 (by first | rfl | exact idx_eq (by omega))) (obs_cons (decide_eq_true (by omega)) obs_nil)))))))))) rfl (by decide) (by rfl) (fun _ => ⟨⟨by rfl, by rfl⟩, ⟨⟨by rfl, by rfl⟩, ⟨⟨Eq.trans (show (Value.slice (some ⟨2, 0, none⟩) ([((v2 : Nat) : Int)] : List Int).length ([((v2 : Nat) : Int)] : List Int).length : Value) = Value.slice (some ⟨2, 0, none⟩) 1 1 from (slice_eq rfl (by first | rfl | first | omega | (simp only [List.length_set, List.length_append, List.length_cons, List.length_nil, List.length_replicate, List.length_take, List.length_drop] at * <;> omega)) (by first | rfl | first | omega | (simp only [List.length_set, List.length_append, List.length_cons, List.length_nil, List.length_replicate, List.length_take, List.length_drop] at * <;> omega)))) (by rfl), by rfl⟩, ⟨⟨by rfl, by rfl⟩, trivial⟩⟩⟩⟩) ⟨(same_row (E := E_iii) (α := R_iii) _ L0 _), ⟨⟨rfl, ⟨[], by rfl⟩, by rfl⟩, ⟨(same_cells (E := (encI .i64)) _ (L := ([((v2 : Nat) : Int)] : List Int)) _ (show ([Value.int .i64 ((v2 : Nat) : Int)] : List Value) = rowV (encI .i64) ([((v2 : Nat) : Int)] : List Int) from rfl)), trivial⟩⟩⟩
        ·
          exact Mach.ok_none
      ·
        refine Mach.ok_ite (fun g3 => ?_) (fun g3 => ?_)
        ·
          exact Mach.ok_next (M := ref03_OfM L0 a1 N) (cd := 1000000) (cm := 0) (y := (.h1m0 ((v2 + 1)) : ref03_OfX)) (fu := 4000) (orc := (orcw [(0, true), (1, true), (2, false)] [(0, (((v2 + 1) : Nat) : Int))] [(0, v2), (1, v2)] [(2, [.i (L0.getD v2 R_iii.z).a0]), (4, [.i (L0.getD v2 R_iii.z).a1])] [])) (live := [0, 1]) (tv := fun _ => [some (Value.int .i64 a1), some (Value.pointer (some ⟨1, 0, none⟩)), some (Value.slice none 0 0), some (Value.int .i64 (((v2 + 1) : Nat) : Int))]) (bl := [some (.cells (rowV E_iii L0) 24), some (.cells [Value.slice (some ⟨0, 0, none⟩) L0.length L0.length] 43)]) (ob := [((IntKind.i64.wrap (((v2 : Nat) : Int) + (1 : Int))) == (((v2 + 1) : Nat) : Int), true), (((L0.getD v2 R_iii.z).a1 == a1), false), (sameR (takeN 1 (List.drop ((0 + (v2 * 3)) + 1) (rowV E_iii L0))) [.i (L0.getD v2 R_iii.z).a1], true), (Nat.blt v2 L0.length, true), (((v2 : Nat) : Int) == Int.ofNat v2, true), (((L0.getD v2 R_iii.z).a0 != (0 : Int)), true), (sameR (takeN 1 (List.drop ((0 + (v2 * 3)) + 0) (rowV E_iii L0))) [.i (L0.getD v2 R_iii.z).a0], true), (Nat.blt v2 L0.length, true), (((v2 : Nat) : Int) == Int.ofNat v2, true), ((decide (((v2 : Nat) : Int) < ((L0.length : Nat) : Int))), true)]) rfl (show 1 ∈ rids (ref03_OfK 1) from by decide +kernel) (fun gv => by kernel_rfl) (obs_cons (beq_iff_eq.2 ((wrap_i64 (by first | omega | (simp only [List.length_set, List.length_append, List.length_cons, List.length_nil, List.length_replicate, List.length_take, List.length_drop] at * <;> omega))).trans (by first | rfl | omega))) (obs_cons (beq_eq_false_iff_ne.2 (by omega)) (obs_cons (rowV_load (E := E_iii) (L := L0) (i := v2) (q := 1) (by omega) (show ((0 + (v2 * 3)) + 1) = v2 * 3 + 1 from by omega) (show 1 + 1 ≤ 3 from by decide) rfl rfl) (obs_cons (blt_of (by omega)) (obs_cons (beq_iff_eq.2 (by first | rfl | exact idx_eq (by omega))) (obs_cons (bne_iff_ne.2 (by omega)) (obs_cons (rowV_load (E := E_iii) (L := L0) (i := v2) (q := 0) (by omega) (show ((0 + (v2 * 3)) + 0) = v2 * 3 + 0 from by omega) (show 0 + 1 ≤ 3 from by decide) rfl rfl) (obs_cons (blt_of (by omega)) (obs_cons (beq_iff_eq.2 (by first | rfl | exact idx_eq (by omega))) (obs_cons (decide_eq_true (by omega)) obs_nil)))))))))) rfl (by decide) (by rfl) (fun _ => ⟨⟨by rfl, by rfl⟩, ⟨⟨by rfl, by rfl⟩, ⟨⟨by rfl, by rfl⟩, ⟨⟨by rfl, by rfl⟩, trivial⟩⟩⟩⟩) ⟨(same_row (E := E_iii) (α := R_iii) _ L0 _), ⟨⟨rfl, ⟨[], by rfl⟩, by rfl⟩, trivial⟩⟩
        ·
          exact Mach.ok_none
    ·
      refine Mach.ok_ite (fun g2 => ?_) (fun g2 => ?_)
      ·
        exact Mach.ok_next (M := ref03_OfM L0 a1 N) (cd := 1000000) (cm := 0) (y := (.h1m0 ((v2 + 1)) : ref03_OfX)) (fu := 4000) (orc := (orcw [(0, true), (1, false)] [(0, (((v2 + 1) : Nat) : Int))] [(0, v2)] [(2, [.i (L0.getD v2 R_iii.z).a0])] [])) (live := [0, 1]) (tv := fun _ => [some (Value.int .i64 a1), some (Value.pointer (some ⟨1, 0, none⟩)), some (Value.slice none 0 0), some (Value.int .i64 (((v2 + 1) : Nat) : Int))]) (bl := [some (.cells (rowV E_iii L0) 24), some (.cells [Value.slice (some ⟨0, 0, none⟩) L0.length L0.length] 43)]) (ob := [((IntKind.i64.wrap (((v2 : Nat) : Int) + (1 : Int))) == (((v2 + 1) : Nat) : Int), true), (((L0.getD v2 R_iii.z).a0 != (0 : Int)), false), (sameR (takeN 1 (List.drop ((0 + (v2 * 3)) + 0) (rowV E_iii L0))) [.i (L0.getD v2 R_iii.z).a0], true), (Nat.blt v2 L0.length, true), (((v2 : Nat) : Int) == Int.ofNat v2, true), ((decide (((v2 : Nat) : Int) < ((L0.length : Nat) : Int))), true)]) rfl (show 1 ∈ rids (ref03_OfK 1) from by decide +kernel) (fun gv => by kernel_rfl) (obs_cons (beq_iff_eq.2 ((wrap_i64 (by first | omega | (simp only [List.length_set, List.length_append, List.length_cons, List.length_nil, List.length_replicate, List.length_take, List.length_drop] at * <;> omega))).trans (by first | rfl | omega))) (obs_cons (bne_eq_false_iff_eq.2 (by omega)) (obs_cons (rowV_load (E := E_iii) (L := L0) (i := v2) (q := 0) (by omega) (show ((0 + (v2 * 3)) + 0) = v2 * 3 + 0 from by omega) (show 0 + 1 ≤ 3 from by decide) rfl rfl) (obs_cons (blt_of (by omega)) (obs_cons (beq_iff_eq.2 (by first | rfl | exact idx_eq (by omega))) (obs_cons (decide_eq_true (by omega)) obs_nil)))))) rfl (by decide) (by rfl) (fun _ => ⟨⟨by rfl, by rfl⟩, ⟨⟨by rfl, by rfl⟩, ⟨⟨by rfl, by rfl⟩, ⟨⟨by rfl, by rfl⟩, trivial⟩⟩⟩⟩) ⟨(same_row (E := E_iii) (α := R_iii) _ L0 _), ⟨⟨rfl, ⟨[], by rfl⟩, by rfl⟩, trivial⟩⟩
      ·
        exact Mach.ok_none
  ·
    exact Mach.ok_fin (M := ref03_OfM L0 a1 N) (cd := 1000000) (cm := 0) (r := (.r0 : ref03_OfR)) (fu := 4000) (orc := (orcw [(0, false)] [] [] [] [])) (live := [0]) (u := Value.slice none 0 0) (bl := [some (.cells (rowV E_iii L0) 24)]) (ob := [((decide (((v2 : Nat) : Int) < ((L0.length : Nat) : Int))), false)]) (fun gv => by kernel_rfl) (obs_cons (decide_eq_false (by omega)) obs_nil) rfl (by decide) (by rfl) ⟨by rfl, by rfl⟩ ⟨(same_row (E := E_iii) (α := R_iii) _ L0 _), trivial⟩

set_option maxRecDepth 100000 in
theorem ref03_Of_ok1_1 (L0 : List R_iii) (a1 : Int) (v2 : List Int) (v3 : Nat) (N : Nat) : (ref03_OfM L0 a1 N).Ok Try.prog ext_Ox (.h1m1 v2 v3 : ref03_OfX) (ref03_OfStep L0 a1 N (.h1m1 v2 v3 : ref03_OfX)) := by
  show (ref03_OfM L0 a1 N).Ok Try.prog ext_Ox (.h1m1 v2 v3 : ref03_OfX) (ref03_Of_h1m1 L0 a1 N v2 v3)
  unfold ref03_Of_h1m1
  refine Mach.ok_ite (fun g0 => ?_) (fun g0 => ?_)
  ·
    refine Mach.ok_ite (fun g1 => ?_) (fun g1 => ?_)
    ·
      refine Mach.ok_ite (fun g2 => ?_) (fun g2 => ?_)
      ·
        refine Mach.ok_ite (fun g3 => ?_) (fun g3 => ?_)
        ·
          refine Mach.ok_ite (fun g4 => ?_) (fun g4 => ?_)
          ·
            exact Mach.ok_next (M := ref03_OfM L0 a1 N) (cd := 1000000) (cm := 0) (y := (.h1m1 ((v2 ++ ([((v3 : Nat) : Int)] : List Int))) ((v3 + 1)) : ref03_OfX)) (fu := 4000) (orc := (orcw [(0, true), (1, true), (2, true)] [(0, (((v3 + 1) : Nat) : Int))] [(0, v3), (1, v3)] [(2, [.i (L0.getD v3 R_iii.z).a0]), (4, [.i (L0.getD v3 R_iii.z).a1])] [(0, .ap 1 [Value.int .i64 ((v3 : Nat) : Int)] (rowV (encI .i64) (v2 ++ ([((v3 : Nat) : Int)] : List Int))))])) (live := [0, 1, 4]) (tv := fun _ => [some (Value.int .i64 a1), some (Value.pointer (some ⟨1, 0, none⟩)), some (Value.slice (some ⟨4, 0, none⟩) (v2.length + 1) (v2.length + 1)), some (Value.int .i64 (((v3 + 1) : Nat) : Int))]) (bl := [some (.cells (rowV E_iii L0) 24), some (.cells [Value.slice (some ⟨0, 0, none⟩) L0.length L0.length] 43), some (.cells (rowV (encI .i64) (v2 ++ ([((v3 : Nat) : Int)] : List Int))) 3)]) (ob := [((IntKind.i64.wrap (((v3 : Nat) : Int) + (1 : Int))) == (((v3 + 1) : Nat) : Int), true), (dP ((1 = 1 ∧ takeN (1 * 1) (List.drop 0 [Value.int .i64 ((v3 : Nat) : Int)]) = some [Value.int .i64 ((v3 : Nat) : Int)] ∧ allB cell1 [Value.int .i64 ((v3 : Nat) : Int)] = true) ∧ 0 < 1 ∧ 1 ≤ 100000 ∧ v2.length < v2.length + 1 ∧ v2.length ≤ 100000 ∧ v2.length * 1 ≤ (List.length (rowV (encI .i64) v2)) ∧ List.take (v2.length * 1) (rowV (encI .i64) v2) ++ [Value.int .i64 ((v3 : Nat) : Int)] = (rowV (encI .i64) (v2 ++ ([((v3 : Nat) : Int)] : List Int)))), true), (((L0.getD v3 R_iii.z).a1 == a1), true), (sameR (takeN 1 (List.drop ((0 + (v3 * 3)) + 1) (rowV E_iii L0))) [.i (L0.getD v3 R_iii.z).a1], true), (Nat.blt v3 L0.length, true), (((v3 : Nat) : Int) == Int.ofNat v3, true), (((L0.getD v3 R_iii.z).a0 != (0 : Int)), true), (sameR (takeN 1 (List.drop ((0 + (v3 * 3)) + 0) (rowV E_iii L0))) [.i (L0.getD v3 R_iii.z).a0], true), (Nat.blt v3 L0.length, true), (((v3 : Nat) : Int) == Int.ofNat v3, true), ((decide (((v3 : Nat) : Int) < ((L0.length : Nat) : Int))), true)]) rfl (show 1 ∈ rids (ref03_OfK 1) from by decide +kernel) (fun gv => by kernel_rfl) (obs_cons (beq_iff_eq.2 ((wrap_i64 (by first | omega | (simp only [List.length_set, List.length_append, List.length_cons, List.length_nil, List.length_replicate, List.length_take, List.length_drop] at * <;> omega))).trans (by first | rfl | omega))) (obs_cons (dP_of ⟨⟨rfl, ⟨rfl, rfl⟩⟩, by omega, by omega, by first | omega | (simp only [List.length_set, List.length_append, List.length_cons, List.length_nil, List.length_replicate, List.length_take, List.length_drop] at * <;> omega), by omega, (rowV_dst (E := (encI .i64)) (L := v2) (M := ([((v3 : Nat) : Int)] : List Int)) (n := v2.length) (show _ = _ * 1 from rfl) (by omega) (R := (v2 ++ ([((v3 : Nat) : Int)] : List Int))) (by rw [List.take_of_length_le (by omega)]))⟩) (obs_cons (beq_iff_eq.2 (by omega)) (obs_cons (rowV_load (E := E_iii) (L := L0) (i := v3) (q := 1) (by omega) (show ((0 + (v3 * 3)) + 1) = v3 * 3 + 1 from by omega) (show 1 + 1 ≤ 3 from by decide) rfl rfl) (obs_cons (blt_of (by omega)) (obs_cons (beq_iff_eq.2 (by first | rfl | exact idx_eq (by omega))) (obs_cons (bne_iff_ne.2 (by omega)) (obs_cons (rowV_load (E := E_iii) (L := L0) (i := v3) (q := 0) (by omega) (show ((0 + (v3 * 3)) + 0) = v3 * 3 + 0 from by omega) (show 0 + 1 ≤ 3 from by decide) rfl rfl) (obs_cons (blt_of (by omega)) (obs_cons (beq_iff_eq.2 (by first | rfl | exact idx_eq (by omega))) (obs_cons (decide_eq_true (by omega)) obs_nil))))))))))) rfl (by decide) (by rfl) (fun _ => ⟨⟨by rfl, by rfl⟩, ⟨⟨by rfl, by rfl⟩, ⟨⟨Eq.trans (show (Value.slice (some ⟨2, 0, none⟩) (v2 ++ ([((v3 : Nat) : Int)] : List Int)).length (v2 ++ ([((v3 : Nat) : Int)] : List Int)).length : Value) = Value.slice (some ⟨2, 0, none⟩) (v2.length + 1) (v2.length + 1) from (slice_eq rfl (by first | rfl | first | omega | (simp only [List.length_set, List.length_append, List.length_cons, List.length_nil, List.length_replicate, List.length_take, List.length_drop] at * <;> omega)) (by first | rfl | first | omega | (simp only [List.length_set, List.length_append, List.length_cons, List.length_nil, List.length_replicate, List.length_take, List.length_drop] at * <;> omega)))) (by rfl), by rfl⟩, ⟨⟨by rfl, by rfl⟩, trivial⟩⟩⟩⟩) ⟨(same_row (E := E_iii) (α := R_iii) _ L0 _), ⟨⟨rfl, ⟨[], by rfl⟩, by rfl⟩, ⟨(same_row (E := (encI .i64)) (α := Int) _ (v2 ++ ([((v3 : Nat) : Int)] : List Int)) _), trivial⟩⟩⟩
          ·
            exact Mach.ok_none
        ·
          exact Mach.ok_none
      ·
        refine Mach.ok_ite (fun g3 => ?_) (fun g3 => ?_)
        ·
          exact Mach.ok_next (M := ref03_OfM L0 a1 N) (cd := 1000000) (cm := 0) (y := (.h1m1 (v2) ((v3 + 1)) : ref03_OfX)) (fu := 4000) (orc := (orcw [(0, true), (1, true), (2, false)] [(0, (((v3 + 1) : Nat) : Int))] [(0, v3), (1, v3)] [(2, [.i (L0.getD v3 R_iii.z).a0]), (4, [.i (L0.getD v3 R_iii.z).a1])] [])) (live := [0, 1, 2]) (tv := fun _ => [some (Value.int .i64 a1), some (Value.pointer (some ⟨1, 0, none⟩)), some (Value.slice (some ⟨2, 0, none⟩) v2.length v2.length), some (Value.int .i64 (((v3 + 1) : Nat) : Int))]) (bl := [some (.cells (rowV E_iii L0) 24), some (.cells [Value.slice (some ⟨0, 0, none⟩) L0.length L0.length] 43), some (.cells (rowV (encI .i64) v2) 3)]) (ob := [((IntKind.i64.wrap (((v3 : Nat) : Int) + (1 : Int))) == (((v3 + 1) : Nat) : Int), true), (((L0.getD v3 R_iii.z).a1 == a1), false), (sameR (takeN 1 (List.drop ((0 + (v3 * 3)) + 1) (rowV E_iii L0))) [.i (L0.getD v3 R_iii.z).a1], true), (Nat.blt v3 L0.length, true), (((v3 : Nat) : Int) == Int.ofNat v3, true), (((L0.getD v3 R_iii.z).a0 != (0 : Int)), true), (sameR (takeN 1 (List.drop ((0 + (v3 * 3)) + 0) (rowV E_iii L0))) [.i (L0.getD v3 R_iii.z).a0], true), (Nat.blt v3 L0.length, true), (((v3 : Nat) : Int) == Int.ofNat v3, true), ((decide (((v3 : Nat) : Int) < ((L0.length : Nat) : Int))), true)]) rfl (show 1 ∈ rids (ref03_OfK 1) from by decide +kernel) (fun gv => by kernel_rfl) (obs_cons (beq_iff_eq.2 ((wrap_i64 (by first | omega | (simp only [List.length_set, List.length_append, List.length_cons, List.length_nil, List.length_replicate, List.length_take, List.length_drop] at * <;> omega))).trans (by first | rfl | omega))) (obs_cons (beq_eq_false_iff_ne.2 (by omega)) (obs_cons (rowV_load (E := E_iii) (L := L0) (i := v3) (q := 1) (by omega) (show ((0 + (v3 * 3)) + 1) = v3 * 3 + 1 from by omega) (show 1 + 1 ≤ 3 from by decide) rfl rfl) (obs_cons (blt_of (by omega)) (obs_cons (beq_iff_eq.2 (by first | rfl | exact idx_eq (by omega))) (obs_cons (bne_iff_ne.2 (by omega)) (obs_cons (rowV_load (E := E_iii) (L := L0) (i := v3) (q := 0) (by omega) (show ((0 + (v3 * 3)) + 0) = v3 * 3 + 0 from by omega) (show 0 + 1 ≤ 3 from by decide) rfl rfl) (obs_cons (blt_of (by omega)) (obs_cons (beq_iff_eq.2 (by first | rfl | exact idx_eq (by omega))) (obs_cons (decide_eq_true (by omega)) obs_nil)))))))))) rfl (by decide) (by rfl) (fun _ => ⟨⟨by rfl, by rfl⟩, ⟨⟨by rfl, by rfl⟩, ⟨⟨by rfl, by rfl⟩, ⟨⟨by rfl, by rfl⟩, trivial⟩⟩⟩⟩) ⟨(same_row (E := E_iii) (α := R_iii) _ L0 _), ⟨⟨rfl, ⟨[], by rfl⟩, by rfl⟩, ⟨(same_row (E := (encI .i64)) (α := Int) _ v2 _), trivial⟩⟩⟩
        ·
          exact Mach.ok_none
    ·
      refine Mach.ok_ite (fun g2 => ?_) (fun g2 => ?_)
      ·
        exact Mach.ok_next (M := ref03_OfM L0 a1 N) (cd := 1000000) (cm := 0) (y := (.h1m1 (v2) ((v3 + 1)) : ref03_OfX)) (fu := 4000) (orc := (orcw [(0, true), (1, false)] [(0, (((v3 + 1) : Nat) : Int))] [(0, v3)] [(2, [.i (L0.getD v3 R_iii.z).a0])] [])) (live := [0, 1, 2]) (tv := fun _ => [some (Value.int .i64 a1), some (Value.pointer (some ⟨1, 0, none⟩)), some (Value.slice (some ⟨2, 0, none⟩) v2.length v2.length), some (Value.int .i64 (((v3 + 1) : Nat) : Int))]) (bl := [some (.cells (rowV E_iii L0) 24), some (.cells [Value.slice (some ⟨0, 0, none⟩) L0.length L0.length] 43), some (.cells (rowV (encI .i64) v2) 3)]) (ob := [((IntKind.i64.wrap (((v3 : Nat) : Int) + (1 : Int))) == (((v3 + 1) : Nat) : Int), true), (((L0.getD v3 R_iii.z).a0 != (0 : Int)), false), (sameR (takeN 1 (List.drop ((0 + (v3 * 3)) + 0) (rowV E_iii L0))) [.i (L0.getD v3 R_iii.z).a0], true), (Nat.blt v3 L0.length, true), (((v3 : Nat) : Int) == Int.ofNat v3, true), ((decide (((v3 : Nat) : Int) < ((L0.length : Nat) : Int))), true)]) rfl (show 1 ∈ rids (ref03_OfK 1) from by decide +kernel) (fun gv => by kernel_rfl) (obs_cons (beq_iff_eq.2 ((wrap_i64 (by first | omega | (simp only [List.length_set, List.length_append, List.length_cons, List.length_nil, List.length_replicate, List.length_take, List.length_drop] at * <;> omega))).trans (by first | rfl | omega))) (obs_cons (bne_eq_false_iff_eq.2 (by omega)) (obs_cons (rowV_load (E := E_iii) (L := L0) (i := v3) (q := 0) (by omega) (show ((0 + (v3 * 3)) + 0) = v3 * 3 + 0 from by omega) (show 0 + 1 ≤ 3 from by decide) rfl rfl) (obs_cons (blt_of (by omega)) (obs_cons (beq_iff_eq.2 (by first | rfl | exact idx_eq (by omega))) (obs_cons (decide_eq_true (by omega)) obs_nil)))))) rfl (by decide) (by rfl) (fun _ => ⟨⟨by rfl, by rfl⟩, ⟨⟨by rfl, by rfl⟩, ⟨⟨by rfl, by rfl⟩, ⟨⟨by rfl, by rfl⟩, trivial⟩⟩⟩⟩) ⟨(same_row (E := E_iii) (α := R_iii) _ L0 _), ⟨⟨rfl, ⟨[], by rfl⟩, by rfl⟩, ⟨(same_row (E := (encI .i64)) (α := Int) _ v2 _), trivial⟩⟩⟩
      ·
        exact Mach.ok_none
  ·
    exact Mach.ok_fin (M := ref03_OfM L0 a1 N) (cd := 1000000) (cm := 0) (r := (.r1 (v2) : ref03_OfR)) (fu := 4000) (orc := (orcw [(0, false)] [] [] [] [])) (live := [0, 2]) (u := Value.slice (some ⟨2, 0, none⟩) v2.length v2.length) (bl := [some (.cells (rowV E_iii L0) 24), some (.cells (rowV (encI .i64) v2) 3)]) (ob := [((decide (((v3 : Nat) : Int) < ((L0.length : Nat) : Int))), false)]) (fun gv => by kernel_rfl) (obs_cons (decide_eq_false (by omega)) obs_nil) rfl (by decide) (by rfl) ⟨by rfl, by rfl⟩ ⟨(same_row (E := E_iii) (α := R_iii) _ L0 _), ⟨(same_row (E := (encI .i64)) (α := Int) _ v2 _), trivial⟩⟩

set_option maxRecDepth 100000 in
theorem ref03_Of_en (L0 : List R_iii) (a1 : Int) (N : Nat) : (ref03_OfM L0 a1 N).Enter Try.prog ext_Ox #[Value.agg #[Value.slice (some ⟨0, 0, none⟩) L0.length L0.length], Value.int .i64 a1] (ref03_OfIn L0 a1 N) := by
  unfold ref03_OfIn
  exact Mach.en_head (bK := ref03_OfC 1) (M := ref03_OfM L0 a1 N) (cd := 1000000) (cm := 0) (y := (.h1m0 (0) : ref03_OfX)) (fu := 4000) (orc := (orcw [] [] [] [] [])) (live := [0, 1]) (tv := [some (Value.int .i64 a1), some (Value.pointer (some ⟨1, 0, none⟩)), some (Value.slice none 0 0), some (Value.int .i64 (0 : Int))]) (bl := [some (.cells (rowV E_iii L0) 24), some (.cells [Value.slice (some ⟨0, 0, none⟩) L0.length L0.length] 43)]) (ob := []) rfl rfl (show rids (ref03_OfC 1).2 = [] from rfl) (by kernel_rfl) obs_nil rfl (by decide) (by rfl) ⟨⟨by rfl, by rfl⟩, ⟨⟨by rfl, by rfl⟩, ⟨⟨by rfl, by rfl⟩, ⟨⟨Eq.trans (show (Value.int .i64 ((0 : Nat) : Int) : Value) = Value.int .i64 (0 : Int) from (congrArg (Value.int .i64) (by first | rfl | omega))) (by rfl), by rfl⟩, trivial⟩⟩⟩⟩ ⟨(same_row (E := E_iii) (α := R_iii) _ L0 _), ⟨⟨rfl, ⟨[], by rfl⟩, by rfl⟩, trivial⟩⟩

set_option maxRecDepth 100000 in
theorem ref03_Of_spec (L0 : List R_iii) (a1 : Int) (N : Nat) (r : ref03_OfR) (h : ref03_Of L0 a1 N = some r) : LSpec Try.prog 23 #[Value.agg #[Value.slice (some ⟨0, 0, none⟩) L0.length L0.length], Value.int .i64 a1] [.cells (rowV E_iii L0) 24] (ref03_OfV L0 a1 r) (ref03_OfPo L0 a1 r) :=
  Mach.spec fit_Ox (ref03_OfM L0 a1 N) Try.func23 (by kernel_rfl) (by kernel_rfl) (fun x => by cases x <;> exact le_far _ rfl) (fun r => by cases r <;> exact le_far _ rfl) (fun x => by
    cases x with
    | h1m0 _ => exact fun _ => (show ¬ (1 ∈ rids (ref03_OfC 1).2) from by decide +kernel)
    | h1m1 _ _ => exact fun _ => (show ¬ (1 ∈ rids (ref03_OfC 1).2) from by decide +kernel)
    ) (fun x => (show (ref03_OfM L0 a1 N).Ok Try.prog ext_Ox x (ref03_OfStep L0 a1 N x) from by
    cases x with
    | h1m0 v2 => exact ref03_Of_ok1_0 L0 a1 v2 N
    | h1m1 v2 v3 => exact ref03_Of_ok1_1 L0 a1 v2 v3 N
    )) (ref03_Of_en L0 a1 N) (n := N) h

noncomputable def ref03_OfT0 (L0 : List R_iii) (a1 : Int) (k0 : Nat) (n : Nat) : Told := .call [(k0, .cells (rowV E_iii L0) 24)] (Value.slice none 0 0) [] 0
def ref03_OfP0 (A : Array Value) (L0 : List R_iii) (a1 : Int) (k0 : Nat) (n : Nat) : Prop := CallSpec Try.prog 23 A [(k0, .cells (rowV E_iii L0) 24)] (Value.slice none 0 0) [] n 0

set_option maxRecDepth 100000 in
theorem ref03_OfC0 (A : Array Value) (L0 : List R_iii) (a1 : Int) (N : Nat) (h : ref03_Of L0 a1 N = some (.r0)) (k0 : Nat) (n : Nat) (hA : A = #[Value.agg #[Value.slice (some ⟨k0, 0, none⟩) L0.length L0.length], Value.int .i64 a1]) (hnd : ([k0] : List Nat).Nodup) (hlt : ∀ k ∈ ([k0] : List Nat), k < n) : ref03_OfP0 A L0 a1 k0 n :=
  cs_args hA (LSpec.callL (show LSpec Try.prog 23 #[Value.agg #[Value.slice (some ⟨0, 0, none⟩) L0.length L0.length], Value.int .i64 a1] [.cells (rowV E_iii L0) 24] (Value.slice none 0 0) [some (.cells (rowV E_iii L0) 24)] from ref03_Of_spec L0 a1 N _ h) [k0] n [] rfl hnd hlt (show 1 ≤ 1 from by decide) (show ∀ j ∈ ([] : List Nat), j < 1 from by decide) (by rfl) ⟨(under_row _ _ _), trivial⟩ (by rfl) ⟨(under_row _ _ _), trivial⟩ ⟨.inr rfl, trivial⟩ rfl rfl rfl (cons_eq (pair_eq rfl (renO_row _ _ _)) rfl) rfl)

noncomputable def ref03_OfT1 (L0 : List R_iii) (a1 : Int) (w1 : List Int) (k0 : Nat) (n : Nat) : Told := .call [(k0, .cells (rowV E_iii L0) 24)] (Value.slice (some ⟨n, 0, none⟩) w1.length w1.length) [(n, some (.cells (rowV (encI .i64) w1) 3))] 1
def ref03_OfP1 (A : Array Value) (L0 : List R_iii) (a1 : Int) (w1 : List Int) (k0 : Nat) (n : Nat) : Prop := CallSpec Try.prog 23 A [(k0, .cells (rowV E_iii L0) 24)] (Value.slice (some ⟨n, 0, none⟩) w1.length w1.length) [(n, some (.cells (rowV (encI .i64) w1) 3))] n 1

set_option maxRecDepth 100000 in
theorem ref03_OfC1 (A : Array Value) (L0 : List R_iii) (a1 : Int) (w1 : List Int) (N : Nat) (h : ref03_Of L0 a1 N = some (.r1 w1)) (k0 : Nat) (n : Nat) (hA : A = #[Value.agg #[Value.slice (some ⟨k0, 0, none⟩) L0.length L0.length], Value.int .i64 a1]) (hnd : ([k0] : List Nat).Nodup) (hlt : ∀ k ∈ ([k0] : List Nat), k < n) : ref03_OfP1 A L0 a1 w1 k0 n :=
  cs_args hA (LSpec.callL (show LSpec Try.prog 23 #[Value.agg #[Value.slice (some ⟨0, 0, none⟩) L0.length L0.length], Value.int .i64 a1] [.cells (rowV E_iii L0) 24] (Value.slice (some ⟨1, 0, none⟩) w1.length w1.length) [some (.cells (rowV E_iii L0) 24), some (.cells (rowV (encI .i64) w1) 3)] from ref03_Of_spec L0 a1 N _ h) [k0] n [1] rfl hnd hlt (show 1 ≤ 2 from by decide) (show ∀ j ∈ ([1] : List Nat), j < 2 from by decide) (by rfl) ⟨(under_row _ _ _), trivial⟩ (by rfl) ⟨(under_row _ _ _), ⟨(under_row _ _ _), trivial⟩⟩ ⟨.inr rfl, ⟨(by decide), trivial⟩⟩ rfl rfl rfl (cons_eq (pair_eq rfl (renO_row _ _ _)) rfl) (cons_eq (pair_eq rfl (some_eq (renO_row _ _ _))) rfl))

noncomputable def ref03_SameIntsV  : ref03_SameIntsR → Value
  | .r0 => Value.bool true
noncomputable def ref03_SameIntsPo  : ref03_SameIntsR → List (Option AObj)
  | .r0 => []

def ref03_SameIntsHd : ref03_SameIntsX → Nat
  | .h1m0 => 1
noncomputable def ref03_SameIntsL  : ref03_SameIntsX → List (Nat × Value)
  | .h1m0 => [(0, Value.slice none 0 0), (1, Value.slice none 0 0), (5, Value.int .i64 (0 : Int))]
noncomputable def ref03_SameIntsH  : ref03_SameIntsX → List (Option AObj)
  | .h1m0 => []

noncomputable def ref03_SameIntsC : Nat → Code × List Kont
  | 1 => headOf [1, 1, 0, 1, 3] (bodyC Try.f21) []
  | _ => (.skip, [])
def ref03_SameIntsIL : Nat → Bool
  | 1 => true
  | _ => true
noncomputable def ref03_SameIntsK (i : Nat) : List Kont := match ref03_SameIntsIL i with | true => .rnd i :: (ref03_SameIntsC i).2 | false => (ref03_SameIntsC i).2

noncomputable def ref03_SameIntsM  (N : Nat) : Mach := ⟨Try.f21, [], ref03_SameIntsX, ref03_SameIntsR, ref03_SameIntsStep  N, ref03_SameIntsHd, ref03_SameIntsC, ref03_SameIntsIL, ref03_SameIntsL , ref03_SameIntsH , ref03_SameIntsV , ref03_SameIntsPo ⟩

set_option maxRecDepth 100000 in
theorem ref03_SameInts_ok1_0  (N : Nat) : (ref03_SameIntsM  N).Ok Try.prog ext_Ox (.h1m0 : ref03_SameIntsX) (ref03_SameIntsStep  N (.h1m0 : ref03_SameIntsX)) := by
  show (ref03_SameIntsM  N).Ok Try.prog ext_Ox (.h1m0 : ref03_SameIntsX) (ref03_SameInts_h1m0  N)
  unfold ref03_SameInts_h1m0
  exact Mach.ok_fin (M := ref03_SameIntsM  N) (cd := 1000000) (cm := 0) (r := (.r0 : ref03_SameIntsR)) (fu := 4000) (orc := (orcw [] [] [] [] [])) (live := []) (u := Value.bool true) (bl := []) (ob := []) (fun gv => by kernel_rfl) obs_nil rfl (by decide) (by rfl) ⟨by rfl, by rfl⟩ trivial

set_option maxRecDepth 100000 in
theorem ref03_SameInts_en  (N : Nat) : (ref03_SameIntsM  N).Enter Try.prog ext_Ox #[Value.slice none 0 0, Value.slice none 0 0] (ref03_SameIntsIn  N) := by
  unfold ref03_SameIntsIn
  exact Mach.en_head (bK := ref03_SameIntsC 1) (M := ref03_SameIntsM  N) (cd := 1000000) (cm := 0) (y := (.h1m0 : ref03_SameIntsX)) (fu := 4000) (orc := (orcw [] [] [] [] [])) (live := []) (tv := [some (Value.slice none 0 0), some (Value.slice none 0 0), some (Value.int .i64 (0 : Int))]) (bl := []) (ob := []) rfl rfl (show rids (ref03_SameIntsC 1).2 = [] from rfl) (by kernel_rfl) obs_nil rfl (by decide) (by rfl) ⟨⟨by rfl, by rfl⟩, ⟨⟨by rfl, by rfl⟩, ⟨⟨by rfl, by rfl⟩, trivial⟩⟩⟩ trivial

set_option maxRecDepth 100000 in
theorem ref03_SameInts_spec  (N : Nat) (r : ref03_SameIntsR) (h : ref03_SameInts  N = some r) : LSpec Try.prog 21 #[Value.slice none 0 0, Value.slice none 0 0] [] (ref03_SameIntsV  r) (ref03_SameIntsPo  r) :=
  Mach.spec fit_Ox (ref03_SameIntsM  N) Try.func21 (by kernel_rfl) (by kernel_rfl) (fun x => by cases x <;> exact le_far _ rfl) (fun r => by cases r <;> exact le_far _ rfl) (fun x => by
    cases x with
    | h1m0 => exact fun _ => (show ¬ (1 ∈ rids (ref03_SameIntsC 1).2) from by decide +kernel)
    ) (fun x => (show (ref03_SameIntsM  N).Ok Try.prog ext_Ox x (ref03_SameIntsStep  N x) from by
    cases x with
    | h1m0 => exact ref03_SameInts_ok1_0  N
    )) (ref03_SameInts_en  N) (n := N) h

noncomputable def ref03_SameIntsT0  (n : Nat) : Told := .call [] (Value.bool true) [] 0
def ref03_SameIntsP0 (A : Array Value)  (n : Nat) : Prop := CallSpec Try.prog 21 A [] (Value.bool true) [] n 0

set_option maxRecDepth 100000 in
theorem ref03_SameIntsC0 (A : Array Value)  (N : Nat) (h : ref03_SameInts  N = some (.r0)) (n : Nat) (hA : A = #[Value.slice none 0 0, Value.slice none 0 0]) (hnd : ([] : List Nat).Nodup) (hlt : ∀ k ∈ ([] : List Nat), k < n) : ref03_SameIntsP0 A   n :=
  cs_args hA (LSpec.callL (show LSpec Try.prog 21 #[Value.slice none 0 0, Value.slice none 0 0] [] (Value.bool true) [] from ref03_SameInts_spec  N _ h) [] n [] rfl hnd hlt (show 0 ≤ 0 from by decide) (show ∀ j ∈ ([] : List Nat), j < 0 from by decide) (by rfl) trivial (by rfl) trivial trivial rfl rfl rfl rfl rfl)

noncomputable def ref03_SameInts_2V (L0 : List Int) : ref03_SameInts_2R → Value
  | .r0 w1 => Value.bool w1
noncomputable def ref03_SameInts_2Po (L0 : List Int) : ref03_SameInts_2R → List (Option AObj)
  | .r0 w1 => [some (.cells (rowV (encI .i64) L0) 3)]

def ref03_SameInts_2Hd : ref03_SameInts_2X → Nat
  | .h1m0 => 1
noncomputable def ref03_SameInts_2L (L0 : List Int) : ref03_SameInts_2X → List (Nat × Value)
  | .h1m0 => [(0, Value.slice none 0 0), (1, Value.slice (some ⟨0, 0, none⟩) L0.length L0.length), (5, Value.int .i64 (0 : Int))]
noncomputable def ref03_SameInts_2H (L0 : List Int) : ref03_SameInts_2X → List (Option AObj)
  | .h1m0 => [some (.cells (rowV (encI .i64) L0) 3)]

noncomputable def ref03_SameInts_2C : Nat → Code × List Kont
  | 1 => headOf [1, 1, 0, 1, 3] (bodyC Try.f21) []
  | _ => (.skip, [])
def ref03_SameInts_2IL : Nat → Bool
  | 1 => true
  | _ => true
noncomputable def ref03_SameInts_2K (i : Nat) : List Kont := match ref03_SameInts_2IL i with | true => .rnd i :: (ref03_SameInts_2C i).2 | false => (ref03_SameInts_2C i).2

noncomputable def ref03_SameInts_2M (L0 : List Int) (N : Nat) : Mach := ⟨Try.f21, [.cells (rowV (encI .i64) L0) 3], ref03_SameInts_2X, ref03_SameInts_2R, ref03_SameInts_2Step L0 N, ref03_SameInts_2Hd, ref03_SameInts_2C, ref03_SameInts_2IL, ref03_SameInts_2L L0, ref03_SameInts_2H L0, ref03_SameInts_2V L0, ref03_SameInts_2Po L0⟩

set_option maxRecDepth 100000 in
theorem ref03_SameInts_2_ok1_0 (L0 : List Int) (N : Nat) : (ref03_SameInts_2M L0 N).Ok Try.prog ext_Ox (.h1m0 : ref03_SameInts_2X) (ref03_SameInts_2Step L0 N (.h1m0 : ref03_SameInts_2X)) := by
  show (ref03_SameInts_2M L0 N).Ok Try.prog ext_Ox (.h1m0 : ref03_SameInts_2X) (ref03_SameInts_2_h1m0 L0 N)
  unfold ref03_SameInts_2_h1m0
  exact Mach.ok_fin (M := ref03_SameInts_2M L0 N) (cd := 1000000) (cm := 0) (r := (.r0 (true) : ref03_SameInts_2R)) (fu := 4000) (orc := (orcw [] [] [] [] [])) (live := [0]) (u := Value.bool true) (bl := [some (.cells (rowV (encI .i64) L0) 3)]) (ob := []) (fun gv => by kernel_rfl) obs_nil rfl (by decide) (by rfl) ⟨by rfl, by rfl⟩ ⟨(same_row (E := (encI .i64)) (α := Int) _ L0 _), trivial⟩

set_option maxRecDepth 100000 in
theorem ref03_SameInts_2_en (L0 : List Int) (N : Nat) : (ref03_SameInts_2M L0 N).Enter Try.prog ext_Ox #[Value.slice none 0 0, Value.slice (some ⟨0, 0, none⟩) L0.length L0.length] (ref03_SameInts_2In L0 N) := by
  unfold ref03_SameInts_2In
  refine Mach.en_ite (fun g0 => ?_) (fun g0 => ?_)
  ·
    exact Mach.en_fin (M := ref03_SameInts_2M L0 N) (cd := 1000000) (cm := 0) (r := (.r0 (false) : ref03_SameInts_2R)) (fu := 4000) (orc := (orcw [(0, true)] [] [] [] [])) (live := [0]) (u := Value.bool false) (bl := [some (.cells (rowV (encI .i64) L0) 3)]) (ob := [(((0 : Int) != ((L0.length : Nat) : Int)), true)]) (by kernel_rfl) (obs_cons (bne_iff_ne.2 (by omega)) obs_nil) rfl (by decide) (by rfl) ⟨by rfl, by rfl⟩ ⟨(same_row (E := (encI .i64)) (α := Int) _ L0 _), trivial⟩
  ·
    exact Mach.en_head (bK := ref03_SameInts_2C 1) (M := ref03_SameInts_2M L0 N) (cd := 1000000) (cm := 0) (y := (.h1m0 : ref03_SameInts_2X)) (fu := 4000) (orc := (orcw [(0, false)] [] [] [] [])) (live := [0]) (tv := [some (Value.slice none 0 0), some (Value.slice (some ⟨0, 0, none⟩) L0.length L0.length), some (Value.int .i64 (0 : Int))]) (bl := [some (.cells (rowV (encI .i64) L0) 3)]) (ob := [(((0 : Int) != ((L0.length : Nat) : Int)), false)]) rfl rfl (show rids (ref03_SameInts_2C 1).2 = [] from rfl) (by kernel_rfl) (obs_cons (bne_eq_false_iff_eq.2 (by omega)) obs_nil) rfl (by decide) (by rfl) ⟨⟨by rfl, by rfl⟩, ⟨⟨by rfl, by rfl⟩, ⟨⟨by rfl, by rfl⟩, trivial⟩⟩⟩ ⟨(same_row (E := (encI .i64)) (α := Int) _ L0 _), trivial⟩

set_option maxRecDepth 100000 in
theorem ref03_SameInts_2_spec (L0 : List Int) (N : Nat) (r : ref03_SameInts_2R) (h : ref03_SameInts_2 L0 N = some r) : LSpec Try.prog 21 #[Value.slice none 0 0, Value.slice (some ⟨0, 0, none⟩) L0.length L0.length] [.cells (rowV (encI .i64) L0) 3] (ref03_SameInts_2V L0 r) (ref03_SameInts_2Po L0 r) :=
  Mach.spec fit_Ox (ref03_SameInts_2M L0 N) Try.func21 (by kernel_rfl) (by kernel_rfl) (fun x => by cases x <;> exact le_far _ rfl) (fun r => by cases r <;> exact le_far _ rfl) (fun x => by
    cases x with
    | h1m0 => exact fun _ => (show ¬ (1 ∈ rids (ref03_SameInts_2C 1).2) from by decide +kernel)
    ) (fun x => (show (ref03_SameInts_2M L0 N).Ok Try.prog ext_Ox x (ref03_SameInts_2Step L0 N x) from by
    cases x with
    | h1m0 => exact ref03_SameInts_2_ok1_0 L0 N
    )) (ref03_SameInts_2_en L0 N) (n := N) h

noncomputable def ref03_SameInts_2T0 (L0 : List Int) (w1 : Bool) (k0 : Nat) (n : Nat) : Told := .call [(k0, .cells (rowV (encI .i64) L0) 3)] (Value.bool w1) [] 0
def ref03_SameInts_2P0 (A : Array Value) (L0 : List Int) (w1 : Bool) (k0 : Nat) (n : Nat) : Prop := CallSpec Try.prog 21 A [(k0, .cells (rowV (encI .i64) L0) 3)] (Value.bool w1) [] n 0

set_option maxRecDepth 100000 in
theorem ref03_SameInts_2C0 (A : Array Value) (L0 : List Int) (w1 : Bool) (N : Nat) (h : ref03_SameInts_2 L0 N = some (.r0 w1)) (k0 : Nat) (n : Nat) (hA : A = #[Value.slice none 0 0, Value.slice (some ⟨k0, 0, none⟩) L0.length L0.length]) (hnd : ([k0] : List Nat).Nodup) (hlt : ∀ k ∈ ([k0] : List Nat), k < n) : ref03_SameInts_2P0 A L0 w1 k0 n :=
  cs_args hA (LSpec.callL (show LSpec Try.prog 21 #[Value.slice none 0 0, Value.slice (some ⟨0, 0, none⟩) L0.length L0.length] [.cells (rowV (encI .i64) L0) 3] (Value.bool w1) [some (.cells (rowV (encI .i64) L0) 3)] from ref03_SameInts_2_spec L0 N _ h) [k0] n [] rfl hnd hlt (show 1 ≤ 1 from by decide) (show ∀ j ∈ ([] : List Nat), j < 1 from by decide) (by rfl) ⟨(under_row _ _ _), trivial⟩ (by rfl) ⟨(under_row _ _ _), trivial⟩ ⟨.inr rfl, trivial⟩ rfl rfl rfl (cons_eq (pair_eq rfl (renO_row _ _ _)) rfl) rfl)

noncomputable def ref03_SameInts_3V (L0 : List Int) : ref03_SameInts_3R → Value
  | .r0 w1 => Value.bool w1
noncomputable def ref03_SameInts_3Po (L0 : List Int) : ref03_SameInts_3R → List (Option AObj)
  | .r0 w1 => [some (.cells (rowV (encI .i64) L0) 3)]

def ref03_SameInts_3Hd : ref03_SameInts_3X → Nat
  | .h1m0 => 1
noncomputable def ref03_SameInts_3L (L0 : List Int) : ref03_SameInts_3X → List (Nat × Value)
  | .h1m0 => [(0, Value.slice (some ⟨0, 0, none⟩) L0.length L0.length), (1, Value.slice none 0 0), (5, Value.int .i64 (0 : Int))]
noncomputable def ref03_SameInts_3H (L0 : List Int) : ref03_SameInts_3X → List (Option AObj)
  | .h1m0 => [some (.cells (rowV (encI .i64) L0) 3)]

noncomputable def ref03_SameInts_3C : Nat → Code × List Kont
  | 1 => headOf [1, 1, 0, 1, 3] (bodyC Try.f21) []
  | _ => (.skip, [])
def ref03_SameInts_3IL : Nat → Bool
  | 1 => true
  | _ => true
noncomputable def ref03_SameInts_3K (i : Nat) : List Kont := match ref03_SameInts_3IL i with | true => .rnd i :: (ref03_SameInts_3C i).2 | false => (ref03_SameInts_3C i).2

noncomputable def ref03_SameInts_3M (L0 : List Int) (N : Nat) : Mach := ⟨Try.f21, [.cells (rowV (encI .i64) L0) 3], ref03_SameInts_3X, ref03_SameInts_3R, ref03_SameInts_3Step L0 N, ref03_SameInts_3Hd, ref03_SameInts_3C, ref03_SameInts_3IL, ref03_SameInts_3L L0, ref03_SameInts_3H L0, ref03_SameInts_3V L0, ref03_SameInts_3Po L0⟩

set_option maxRecDepth 100000 in
theorem ref03_SameInts_3_ok1_0 (L0 : List Int) (N : Nat) : (ref03_SameInts_3M L0 N).Ok Try.prog ext_Ox (.h1m0 : ref03_SameInts_3X) (ref03_SameInts_3Step L0 N (.h1m0 : ref03_SameInts_3X)) := by
  show (ref03_SameInts_3M L0 N).Ok Try.prog ext_Ox (.h1m0 : ref03_SameInts_3X) (ref03_SameInts_3_h1m0 L0 N)
  unfold ref03_SameInts_3_h1m0
  refine Mach.ok_ite (fun g0 => ?_) (fun g0 => ?_)
  ·
    exact Mach.ok_none
  ·
    exact Mach.ok_fin (M := ref03_SameInts_3M L0 N) (cd := 1000000) (cm := 0) (r := (.r0 (true) : ref03_SameInts_3R)) (fu := 4000) (orc := (orcw [(0, false)] [] [] [] [])) (live := [0]) (u := Value.bool true) (bl := [some (.cells (rowV (encI .i64) L0) 3)]) (ob := [((decide ((0 : Int) < ((L0.length : Nat) : Int))), false)]) (fun gv => by kernel_rfl) (obs_cons (decide_eq_false (by omega)) obs_nil) rfl (by decide) (by rfl) ⟨by rfl, by rfl⟩ ⟨(same_row (E := (encI .i64)) (α := Int) _ L0 _), trivial⟩

set_option maxRecDepth 100000 in
theorem ref03_SameInts_3_en (L0 : List Int) (N : Nat) : (ref03_SameInts_3M L0 N).Enter Try.prog ext_Ox #[Value.slice (some ⟨0, 0, none⟩) L0.length L0.length, Value.slice none 0 0] (ref03_SameInts_3In L0 N) := by
  unfold ref03_SameInts_3In
  refine Mach.en_ite (fun g0 => ?_) (fun g0 => ?_)
  ·
    exact Mach.en_fin (M := ref03_SameInts_3M L0 N) (cd := 1000000) (cm := 0) (r := (.r0 (false) : ref03_SameInts_3R)) (fu := 4000) (orc := (orcw [(0, true)] [] [] [] [])) (live := [0]) (u := Value.bool false) (bl := [some (.cells (rowV (encI .i64) L0) 3)]) (ob := [((((L0.length : Nat) : Int) != (0 : Int)), true)]) (by kernel_rfl) (obs_cons (bne_iff_ne.2 (by omega)) obs_nil) rfl (by decide) (by rfl) ⟨by rfl, by rfl⟩ ⟨(same_row (E := (encI .i64)) (α := Int) _ L0 _), trivial⟩
  ·
    exact Mach.en_head (bK := ref03_SameInts_3C 1) (M := ref03_SameInts_3M L0 N) (cd := 1000000) (cm := 0) (y := (.h1m0 : ref03_SameInts_3X)) (fu := 4000) (orc := (orcw [(0, false)] [] [] [] [])) (live := [0]) (tv := [some (Value.slice (some ⟨0, 0, none⟩) L0.length L0.length), some (Value.slice none 0 0), some (Value.int .i64 (0 : Int))]) (bl := [some (.cells (rowV (encI .i64) L0) 3)]) (ob := [((((L0.length : Nat) : Int) != (0 : Int)), false)]) rfl rfl (show rids (ref03_SameInts_3C 1).2 = [] from rfl) (by kernel_rfl) (obs_cons (bne_eq_false_iff_eq.2 (by omega)) obs_nil) rfl (by decide) (by rfl) ⟨⟨by rfl, by rfl⟩, ⟨⟨by rfl, by rfl⟩, ⟨⟨by rfl, by rfl⟩, trivial⟩⟩⟩ ⟨(same_row (E := (encI .i64)) (α := Int) _ L0 _), trivial⟩

set_option maxRecDepth 100000 in
theorem ref03_SameInts_3_spec (L0 : List Int) (N : Nat) (r : ref03_SameInts_3R) (h : ref03_SameInts_3 L0 N = some r) : LSpec Try.prog 21 #[Value.slice (some ⟨0, 0, none⟩) L0.length L0.length, Value.slice none 0 0] [.cells (rowV (encI .i64) L0) 3] (ref03_SameInts_3V L0 r) (ref03_SameInts_3Po L0 r) :=
  Mach.spec fit_Ox (ref03_SameInts_3M L0 N) Try.func21 (by kernel_rfl) (by kernel_rfl) (fun x => by cases x <;> exact le_far _ rfl) (fun r => by cases r <;> exact le_far _ rfl) (fun x => by
    cases x with
    | h1m0 => exact fun _ => (show ¬ (1 ∈ rids (ref03_SameInts_3C 1).2) from by decide +kernel)
    ) (fun x => (show (ref03_SameInts_3M L0 N).Ok Try.prog ext_Ox x (ref03_SameInts_3Step L0 N x) from by
    cases x with
    | h1m0 => exact ref03_SameInts_3_ok1_0 L0 N
    )) (ref03_SameInts_3_en L0 N) (n := N) h

noncomputable def ref03_SameInts_3T0 (L0 : List Int) (w1 : Bool) (k0 : Nat) (n : Nat) : Told := .call [(k0, .cells (rowV (encI .i64) L0) 3)] (Value.bool w1) [] 0
def ref03_SameInts_3P0 (A : Array Value) (L0 : List Int) (w1 : Bool) (k0 : Nat) (n : Nat) : Prop := CallSpec Try.prog 21 A [(k0, .cells (rowV (encI .i64) L0) 3)] (Value.bool w1) [] n 0

set_option maxRecDepth 100000 in
theorem ref03_SameInts_3C0 (A : Array Value) (L0 : List Int) (w1 : Bool) (N : Nat) (h : ref03_SameInts_3 L0 N = some (.r0 w1)) (k0 : Nat) (n : Nat) (hA : A = #[Value.slice (some ⟨k0, 0, none⟩) L0.length L0.length, Value.slice none 0 0]) (hnd : ([k0] : List Nat).Nodup) (hlt : ∀ k ∈ ([k0] : List Nat), k < n) : ref03_SameInts_3P0 A L0 w1 k0 n :=
  cs_args hA (LSpec.callL (show LSpec Try.prog 21 #[Value.slice (some ⟨0, 0, none⟩) L0.length L0.length, Value.slice none 0 0] [.cells (rowV (encI .i64) L0) 3] (Value.bool w1) [some (.cells (rowV (encI .i64) L0) 3)] from ref03_SameInts_3_spec L0 N _ h) [k0] n [] rfl hnd hlt (show 1 ≤ 1 from by decide) (show ∀ j ∈ ([] : List Nat), j < 1 from by decide) (by rfl) ⟨(under_row _ _ _), trivial⟩ (by rfl) ⟨(under_row _ _ _), trivial⟩ ⟨.inr rfl, trivial⟩ rfl rfl rfl (cons_eq (pair_eq rfl (renO_row _ _ _)) rfl) rfl)

noncomputable def ref03_SameInts_4V (L0 : List Int) (L1 : List Int) : ref03_SameInts_4R → Value
  | .r0 w2 => Value.bool w2
noncomputable def ref03_SameInts_4Po (L0 : List Int) (L1 : List Int) : ref03_SameInts_4R → List (Option AObj)
  | .r0 w2 => [some (.cells (rowV (encI .i64) L0) 3), some (.cells (rowV (encI .i64) L1) 3)]

def ref03_SameInts_4Hd : ref03_SameInts_4X → Nat
  | .h1m0 v2 => 1
noncomputable def ref03_SameInts_4L (L0 : List Int) (L1 : List Int) : ref03_SameInts_4X → List (Nat × Value)
  | .h1m0 v2 => [(0, Value.slice (some ⟨0, 0, none⟩) L0.length L0.length), (1, Value.slice (some ⟨1, 0, none⟩) L1.length L1.length), (5, Value.int .i64 ((v2 : Nat) : Int))]
noncomputable def ref03_SameInts_4H (L0 : List Int) (L1 : List Int) : ref03_SameInts_4X → List (Option AObj)
  | .h1m0 v2 => [some (.cells (rowV (encI .i64) L0) 3), some (.cells (rowV (encI .i64) L1) 3)]

noncomputable def ref03_SameInts_4C : Nat → Code × List Kont
  | 1 => headOf [1, 1, 0, 1, 3] (bodyC Try.f21) []
  | _ => (.skip, [])
def ref03_SameInts_4IL : Nat → Bool
  | 1 => true
  | _ => true
noncomputable def ref03_SameInts_4K (i : Nat) : List Kont := match ref03_SameInts_4IL i with | true => .rnd i :: (ref03_SameInts_4C i).2 | false => (ref03_SameInts_4C i).2

noncomputable def ref03_SameInts_4M (L0 : List Int) (L1 : List Int) (N : Nat) : Mach := ⟨Try.f21, [.cells (rowV (encI .i64) L0) 3, .cells (rowV (encI .i64) L1) 3], ref03_SameInts_4X, ref03_SameInts_4R, ref03_SameInts_4Step L0 L1 N, ref03_SameInts_4Hd, ref03_SameInts_4C, ref03_SameInts_4IL, ref03_SameInts_4L L0 L1, ref03_SameInts_4H L0 L1, ref03_SameInts_4V L0 L1, ref03_SameInts_4Po L0 L1⟩

set_option maxRecDepth 100000 in
theorem ref03_SameInts_4_ok1_0 (L0 : List Int) (L1 : List Int) (v2 : Nat) (N : Nat) : (ref03_SameInts_4M L0 L1 N).Ok Try.prog ext_Ox (.h1m0 v2 : ref03_SameInts_4X) (ref03_SameInts_4Step L0 L1 N (.h1m0 v2 : ref03_SameInts_4X)) := by
  show (ref03_SameInts_4M L0 L1 N).Ok Try.prog ext_Ox (.h1m0 v2 : ref03_SameInts_4X) (ref03_SameInts_4_h1m0 L0 L1 N v2)
  unfold ref03_SameInts_4_h1m0
  refine Mach.ok_ite (fun g0 => ?_) (fun g0 => ?_)
  ·
    refine Mach.ok_ite (fun g1 => ?_) (fun g1 => ?_)
    ·
      refine Mach.ok_ite (fun g2 => ?_) (fun g2 => ?_)
      ·
        exact Mach.ok_fin (M := ref03_SameInts_4M L0 L1 N) (cd := 1000000) (cm := 0) (r := (.r0 (false) : ref03_SameInts_4R)) (fu := 4000) (orc := (orcw [(0, true), (1, true)] [] [(0, v2), (1, v2)] [(0, [.i (L0.getD v2 0)]), (1, [.i (L1.getD v2 0)])] [])) (live := [0, 1]) (u := Value.bool false) (bl := [some (.cells (rowV (encI .i64) L0) 3), some (.cells (rowV (encI .i64) L1) 3)]) (ob := [(((L0.getD v2 0) != (L1.getD v2 0)), true), (sameR (takeN 1 (List.drop (0 + (v2 * 1)) (rowV (encI .i64) L1))) [.i (L1.getD v2 0)], true), (Nat.blt v2 L1.length, true), (((v2 : Nat) : Int) == Int.ofNat v2, true), (sameR (takeN 1 (List.drop (0 + (v2 * 1)) (rowV (encI .i64) L0))) [.i (L0.getD v2 0)], true), (Nat.blt v2 L0.length, true), (((v2 : Nat) : Int) == Int.ofNat v2, true), ((decide (((v2 : Nat) : Int) < ((L0.length : Nat) : Int))), true)]) (fun gv => by kernel_rfl) (obs_cons (bne_iff_ne.2 (by omega)) (obs_cons (rowV_load (E := (encI .i64)) (L := L1) (i := v2) (q := 0) (by omega) (show (0 + (v2 * 1)) = v2 * 1 + 0 from by omega) (show 0 + 1 ≤ 1 from by decide) rfl rfl) (obs_cons (blt_of (by omega)) (obs_cons (beq_iff_eq.2 (by first | rfl | exact idx_eq (by omega))) (obs_cons (rowV_load (E := (encI .i64)) (L := L0) (i := v2) (q := 0) (by omega) (show (0 + (v2 * 1)) = v2 * 1 + 0 from by omega) (show 0 + 1 ≤ 1 from by decide) rfl rfl) (obs_cons (blt_of (by omega)) (obs_cons (beq_iff_eq.2 (by first | rfl | exact idx_eq (by omega))) (obs_cons (decide_eq_true (by omega)) obs_nil)))))))) rfl (by decide) (by rfl) ⟨by rfl, by rfl⟩ ⟨(same_row (E := (encI .i64)) (α := Int) _ L0 _), ⟨(same_row (E := (encI .i64)) (α := Int) _ L1 _), trivial⟩⟩
      ·
        refine Mach.ok_ite (fun g3 => ?_) (fun g3 => ?_)
        ·
          exact Mach.ok_next (M := ref03_SameInts_4M L0 L1 N) (cd := 1000000) (cm := 0) (y := (.h1m0 ((v2 + 1)) : ref03_SameInts_4X)) (fu := 4000) (orc := (orcw [(0, true), (1, false)] [(0, (((v2 + 1) : Nat) : Int))] [(0, v2), (1, v2)] [(0, [.i (L0.getD v2 0)]), (1, [.i (L1.getD v2 0)])] [])) (live := [0, 1]) (tv := fun _ => [some (Value.slice (some ⟨0, 0, none⟩) L0.length L0.length), some (Value.slice (some ⟨1, 0, none⟩) L1.length L1.length), some (Value.int .i64 (((v2 + 1) : Nat) : Int))]) (bl := [some (.cells (rowV (encI .i64) L0) 3), some (.cells (rowV (encI .i64) L1) 3)]) (ob := [((IntKind.i64.wrap (((v2 : Nat) : Int) + (1 : Int))) == (((v2 + 1) : Nat) : Int), true), (((L0.getD v2 0) != (L1.getD v2 0)), false), (sameR (takeN 1 (List.drop (0 + (v2 * 1)) (rowV (encI .i64) L1))) [.i (L1.getD v2 0)], true), (Nat.blt v2 L1.length, true), (((v2 : Nat) : Int) == Int.ofNat v2, true), (sameR (takeN 1 (List.drop (0 + (v2 * 1)) (rowV (encI .i64) L0))) [.i (L0.getD v2 0)], true), (Nat.blt v2 L0.length, true), (((v2 : Nat) : Int) == Int.ofNat v2, true), ((decide (((v2 : Nat) : Int) < ((L0.length : Nat) : Int))), true)]) rfl (show 1 ∈ rids (ref03_SameInts_4K 1) from by decide +kernel) (fun gv => by kernel_rfl) (obs_cons (beq_iff_eq.2 ((wrap_i64 (by first | omega | (simp only [List.length_set, List.length_append, List.length_cons, List.length_nil, List.length_replicate, List.length_take, List.length_drop] at * <;> omega))).trans (by first | rfl | omega))) (obs_cons (bne_eq_false_iff_eq.2 (by omega)) (obs_cons (rowV_load (E := (encI .i64)) (L := L1) (i := v2) (q := 0) (by omega) (show (0 + (v2 * 1)) = v2 * 1 + 0 from by omega) (show 0 + 1 ≤ 1 from by decide) rfl rfl) (obs_cons (blt_of (by omega)) (obs_cons (beq_iff_eq.2 (by first | rfl | exact idx_eq (by omega))) (obs_cons (rowV_load (E := (encI .i64)) (L := L0) (i := v2) (q := 0) (by omega) (show (0 + (v2 * 1)) = v2 * 1 + 0 from by omega) (show 0 + 1 ≤ 1 from by decide) rfl rfl) (obs_cons (blt_of (by omega)) (obs_cons (beq_iff_eq.2 (by first | rfl | exact idx_eq (by omega))) (obs_cons (decide_eq_true (by omega)) obs_nil))))))))) rfl (by decide) (by rfl) (fun _ => ⟨⟨by rfl, by rfl⟩, ⟨⟨by rfl, by rfl⟩, ⟨⟨by rfl, by rfl⟩, trivial⟩⟩⟩) ⟨(same_row (E := (encI .i64)) (α := Int) _ L0 _), ⟨(same_row (E := (encI .i64)) (α := Int) _ L1 _), trivial⟩⟩
        ·
          exact Mach.ok_none
    ·
      exact Mach.ok_none
  ·
    exact Mach.ok_fin (M := ref03_SameInts_4M L0 L1 N) (cd := 1000000) (cm := 0) (r := (.r0 (true) : ref03_SameInts_4R)) (fu := 4000) (orc := (orcw [(0, false)] [] [] [] [])) (live := [0, 1]) (u := Value.bool true) (bl := [some (.cells (rowV (encI .i64) L0) 3), some (.cells (rowV (encI .i64) L1) 3)]) (ob := [((decide (((v2 : Nat) : Int) < ((L0.length : Nat) : Int))), false)]) (fun gv => by kernel_rfl) (obs_cons (decide_eq_false (by omega)) obs_nil) rfl (by decide) (by rfl) ⟨by rfl, by rfl⟩ ⟨(same_row (E := (encI .i64)) (α := Int) _ L0 _), ⟨(same_row (E := (encI .i64)) (α := Int) _ L1 _), trivial⟩⟩

set_option maxRecDepth 100000 in
theorem ref03_SameInts_4_en (L0 : List Int) (L1 : List Int) (N : Nat) : (ref03_SameInts_4M L0 L1 N).Enter Try.prog ext_Ox #[Value.slice (some ⟨0, 0, none⟩) L0.length L0.length, Value.slice (some ⟨1, 0, none⟩) L1.length L1.length] (ref03_SameInts_4In L0 L1 N) := by
  unfold ref03_SameInts_4In
  refine Mach.en_ite (fun g0 => ?_) (fun g0 => ?_)
  ·
    exact Mach.en_fin (M := ref03_SameInts_4M L0 L1 N) (cd := 1000000) (cm := 0) (r := (.r0 (false) : ref03_SameInts_4R)) (fu := 4000) (orc := (orcw [(0, true)] [] [] [] [])) (live := [0, 1]) (u := Value.bool false) (bl := [some (.cells (rowV (encI .i64) L0) 3), some (.cells (rowV (encI .i64) L1) 3)]) (ob := [((((L0.length : Nat) : Int) != ((L1.length : Nat) : Int)), true)]) (by kernel_rfl) (obs_cons (bne_iff_ne.2 (by omega)) obs_nil) rfl (by decide) (by rfl) ⟨by rfl, by rfl⟩ ⟨(same_row (E := (encI .i64)) (α := Int) _ L0 _), ⟨(same_row (E := (encI .i64)) (α := Int) _ L1 _), trivial⟩⟩
  ·
    exact Mach.en_head (bK := ref03_SameInts_4C 1) (M := ref03_SameInts_4M L0 L1 N) (cd := 1000000) (cm := 0) (y := (.h1m0 (0) : ref03_SameInts_4X)) (fu := 4000) (orc := (orcw [(0, false)] [] [] [] [])) (live := [0, 1]) (tv := [some (Value.slice (some ⟨0, 0, none⟩) L0.length L0.length), some (Value.slice (some ⟨1, 0, none⟩) L1.length L1.length), some (Value.int .i64 (0 : Int))]) (bl := [some (.cells (rowV (encI .i64) L0) 3), some (.cells (rowV (encI .i64) L1) 3)]) (ob := [((((L0.length : Nat) : Int) != ((L1.length : Nat) : Int)), false)]) rfl rfl (show rids (ref03_SameInts_4C 1).2 = [] from rfl) (by kernel_rfl) (obs_cons (bne_eq_false_iff_eq.2 (by omega)) obs_nil) rfl (by decide) (by rfl) ⟨⟨by rfl, by rfl⟩, ⟨⟨by rfl, by rfl⟩, ⟨⟨Eq.trans (show (Value.int .i64 ((0 : Nat) : Int) : Value) = Value.int .i64 (0 : Int) from (congrArg (Value.int .i64) (by first | rfl | omega))) (by rfl), by rfl⟩, trivial⟩⟩⟩ ⟨(same_row (E := (encI .i64)) (α := Int) _ L0 _), ⟨(same_row (E := (encI .i64)) (α := Int) _ L1 _), trivial⟩⟩

set_option maxRecDepth 100000 in
theorem ref03_SameInts_4_spec (L0 : List Int) (L1 : List Int) (N : Nat) (r : ref03_SameInts_4R) (h : ref03_SameInts_4 L0 L1 N = some r) : LSpec Try.prog 21 #[Value.slice (some ⟨0, 0, none⟩) L0.length L0.length, Value.slice (some ⟨1, 0, none⟩) L1.length L1.length] [.cells (rowV (encI .i64) L0) 3, .cells (rowV (encI .i64) L1) 3] (ref03_SameInts_4V L0 L1 r) (ref03_SameInts_4Po L0 L1 r) :=
  Mach.spec fit_Ox (ref03_SameInts_4M L0 L1 N) Try.func21 (by kernel_rfl) (by kernel_rfl) (fun x => by cases x <;> exact le_far _ rfl) (fun r => by cases r <;> exact le_far _ rfl) (fun x => by
    cases x with
    | h1m0 _ => exact fun _ => (show ¬ (1 ∈ rids (ref03_SameInts_4C 1).2) from by decide +kernel)
    ) (fun x => (show (ref03_SameInts_4M L0 L1 N).Ok Try.prog ext_Ox x (ref03_SameInts_4Step L0 L1 N x) from by
    cases x with
    | h1m0 v2 => exact ref03_SameInts_4_ok1_0 L0 L1 v2 N
    )) (ref03_SameInts_4_en L0 L1 N) (n := N) h

noncomputable def ref03_SameInts_4T0 (L0 : List Int) (L1 : List Int) (w2 : Bool) (k0 : Nat) (k1 : Nat) (n : Nat) : Told := .call [(k0, .cells (rowV (encI .i64) L0) 3), (k1, .cells (rowV (encI .i64) L1) 3)] (Value.bool w2) [] 0
def ref03_SameInts_4P0 (A : Array Value) (L0 : List Int) (L1 : List Int) (w2 : Bool) (k0 : Nat) (k1 : Nat) (n : Nat) : Prop := CallSpec Try.prog 21 A [(k0, .cells (rowV (encI .i64) L0) 3), (k1, .cells (rowV (encI .i64) L1) 3)] (Value.bool w2) [] n 0

set_option maxRecDepth 100000 in
theorem ref03_SameInts_4C0 (A : Array Value) (L0 : List Int) (L1 : List Int) (w2 : Bool) (N : Nat) (h : ref03_SameInts_4 L0 L1 N = some (.r0 w2)) (k0 : Nat) (k1 : Nat) (n : Nat) (hA : A = #[Value.slice (some ⟨k0, 0, none⟩) L0.length L0.length, Value.slice (some ⟨k1, 0, none⟩) L1.length L1.length]) (hnd : ([k0, k1] : List Nat).Nodup) (hlt : ∀ k ∈ ([k0, k1] : List Nat), k < n) : ref03_SameInts_4P0 A L0 L1 w2 k0 k1 n :=
  cs_args hA (LSpec.callL (show LSpec Try.prog 21 #[Value.slice (some ⟨0, 0, none⟩) L0.length L0.length, Value.slice (some ⟨1, 0, none⟩) L1.length L1.length] [.cells (rowV (encI .i64) L0) 3, .cells (rowV (encI .i64) L1) 3] (Value.bool w2) [some (.cells (rowV (encI .i64) L0) 3), some (.cells (rowV (encI .i64) L1) 3)] from ref03_SameInts_4_spec L0 L1 N _ h) [k0, k1] n [] rfl hnd hlt (show 2 ≤ 2 from by decide) (show ∀ j ∈ ([] : List Nat), j < 2 from by decide) (by rfl) ⟨(under_row _ _ _), ⟨(under_row _ _ _), trivial⟩⟩ (by rfl) ⟨(under_row _ _ _), ⟨(under_row _ _ _), trivial⟩⟩ ⟨.inr rfl, ⟨.inr rfl, trivial⟩⟩ rfl rfl rfl (cons_eq (pair_eq rfl (renO_row _ _ _)) (cons_eq (pair_eq rfl (renO_row _ _ _)) rfl)) rfl)

noncomputable def value_fitsV (a0 : Int) (a1 : Int) : value_fitsR → Value
  | .r0 w0 => Value.bool w0
noncomputable def value_fitsPo (a0 : Int) (a1 : Int) : value_fitsR → List (Option AObj)
  | .r0 w0 => []

set_option maxRecDepth 100000 in
theorem value_fits_fx (a0 : Int) (a1 : Int) (N : Nat) : Fx Try.prog ext_Ox Try.f48 [] #[Value.int .i64 a0, Value.int .i64 a1] (value_fitsV a0 a1) (value_fitsPo a0 a1) (value_fits a0 a1 N) := by
  unfold value_fits
  refine fx_ite (fun g0 => ?_) (fun g0 => ?_)
  ·
    refine fx_ite (fun g1 => ?_) (fun g1 => ?_)
    ·
      refine fx_ite (fun g2 => ?_) (fun g2 => ?_)
      ·
        refine fx_ite (fun g3 => ?_) (fun g3 => ?_)
        ·
          exact fx_fin (r := (.r0 (true) : value_fitsR)) (fu := 4000) (orc := (orcw [(0, true), (1, true), (2, true), (3, true)] [] [] [] [])) (live := []) (u := Value.bool true) (bl := []) (ob := [((decide (a1 ≤ (1048575 : Int))), true), ((decide (a1 ≥ (1 : Int))), true), ((decide (a0 ≤ (1073741824 : Int))), true), ((decide (a0 ≥ (1 : Int))), true)]) (by kernel_rfl) (obs_cons (decide_eq_true (by omega)) (obs_cons (decide_eq_true (by omega)) (obs_cons (decide_eq_true (by omega)) (obs_cons (decide_eq_true (by omega)) obs_nil)))) rfl (by decide) (by rfl) ⟨by rfl, by rfl⟩ trivial
        ·
          exact fx_fin (r := (.r0 (false) : value_fitsR)) (fu := 4000) (orc := (orcw [(0, true), (1, true), (2, true), (3, false)] [] [] [] [])) (live := []) (u := Value.bool false) (bl := []) (ob := [((decide (a1 ≤ (1048575 : Int))), false), ((decide (a1 ≥ (1 : Int))), true), ((decide (a0 ≤ (1073741824 : Int))), true), ((decide (a0 ≥ (1 : Int))), true)]) (by kernel_rfl) (obs_cons (decide_eq_false (by omega)) (obs_cons (decide_eq_true (by omega)) (obs_cons (decide_eq_true (by omega)) (obs_cons (decide_eq_true (by omega)) obs_nil)))) rfl (by decide) (by rfl) ⟨by rfl, by rfl⟩ trivial
      ·
        exact fx_fin (r := (.r0 (false) : value_fitsR)) (fu := 4000) (orc := (orcw [(0, true), (1, true), (2, false)] [] [] [] [])) (live := []) (u := Value.bool false) (bl := []) (ob := [((decide (a1 ≥ (1 : Int))), false), ((decide (a0 ≤ (1073741824 : Int))), true), ((decide (a0 ≥ (1 : Int))), true)]) (by kernel_rfl) (obs_cons (decide_eq_false (by omega)) (obs_cons (decide_eq_true (by omega)) (obs_cons (decide_eq_true (by omega)) obs_nil))) rfl (by decide) (by rfl) ⟨by rfl, by rfl⟩ trivial
    ·
      exact fx_fin (r := (.r0 (false) : value_fitsR)) (fu := 4000) (orc := (orcw [(0, true), (1, false)] [] [] [] [])) (live := []) (u := Value.bool false) (bl := []) (ob := [((decide (a0 ≤ (1073741824 : Int))), false), ((decide (a0 ≥ (1 : Int))), true)]) (by kernel_rfl) (obs_cons (decide_eq_false (by omega)) (obs_cons (decide_eq_true (by omega)) obs_nil)) rfl (by decide) (by rfl) ⟨by rfl, by rfl⟩ trivial
  ·
    exact fx_fin (r := (.r0 (false) : value_fitsR)) (fu := 4000) (orc := (orcw [(0, false)] [] [] [] [])) (live := []) (u := Value.bool false) (bl := []) (ob := [((decide (a0 ≥ (1 : Int))), false)]) (by kernel_rfl) (obs_cons (decide_eq_false (by omega)) obs_nil) rfl (by decide) (by rfl) ⟨by rfl, by rfl⟩ trivial

set_option maxRecDepth 100000 in
theorem value_fits_spec (a0 : Int) (a1 : Int) (N : Nat) (r : value_fitsR) (h : value_fits a0 a1 N = some r) : LSpec Try.prog 48 #[Value.int .i64 a0, Value.int .i64 a1] [] (value_fitsV a0 a1 r) (value_fitsPo a0 a1 r) :=
  fx_spec fit_Ox Try.func48 (by kernel_rfl) (by kernel_rfl) (fun r => by cases r <;> exact le_far _ rfl) (value_fits_fx a0 a1 N) h

noncomputable def value_fitsT0 (a0 : Int) (a1 : Int) (w0 : Bool) (n : Nat) : Told := .call [] (Value.bool w0) [] 0
def value_fitsP0 (A : Array Value) (a0 : Int) (a1 : Int) (w0 : Bool) (n : Nat) : Prop := CallSpec Try.prog 48 A [] (Value.bool w0) [] n 0

set_option maxRecDepth 100000 in
theorem value_fitsC0 (A : Array Value) (a0 : Int) (a1 : Int) (w0 : Bool) (N : Nat) (h : value_fits a0 a1 N = some (.r0 w0)) (n : Nat) (hA : A = #[Value.int .i64 a0, Value.int .i64 a1]) (hnd : ([] : List Nat).Nodup) (hlt : ∀ k ∈ ([] : List Nat), k < n) : value_fitsP0 A a0 a1 w0  n :=
  cs_args hA (LSpec.callL (show LSpec Try.prog 48 #[Value.int .i64 a0, Value.int .i64 a1] [] (Value.bool w0) [] from value_fits_spec a0 a1 N _ h) [] n [] rfl hnd hlt (show 0 ≤ 0 from by decide) (show ∀ j ∈ ([] : List Nat), j < 0 from by decide) (by rfl) trivial (by rfl) trivial trivial rfl rfl rfl rfl rfl)

noncomputable def value_AddrV (a0 : Int) (a1 : Int) : value_AddrR → Value
  | .r0 w0 => Value.int .i64 w0
noncomputable def value_AddrPo (a0 : Int) (a1 : Int) : value_AddrR → List (Option AObj)
  | .r0 w0 => []

set_option maxRecDepth 100000 in
theorem value_Addr_fx (a0 : Int) (a1 : Int) (N : Nat) : Fx Try.prog ext_Ox Try.f40 [] #[Value.agg #[Value.int .i64 a0, Value.int .i64 a1]] (value_AddrV a0 a1) (value_AddrPo a0 a1) (value_Addr a0 a1 N) := by
  unfold value_Addr
  refine fx_ite (fun g0 => ?_) (fun g0 => ?_)
  ·
    exact fx_fin (r := (.r0 ((0 : Int)) : value_AddrR)) (fu := 4000) (orc := (orcw [(0, true)] [] [] [] [])) (live := []) (u := Value.int .i64 (0 : Int)) (bl := []) (ob := [((a0 != (2 : Int)), true)]) (by kernel_rfl) (obs_cons (bne_iff_ne.2 (by omega)) obs_nil) rfl (by decide) (by rfl) ⟨by rfl, by rfl⟩ trivial
  ·
    refine fx_ite (fun g1 => ?_) (fun g1 => ?_)
    ·
      refine fx_ite (fun g2 => ?_) (fun g2 => ?_)
      ·
        refine fx_bind (fun z3 c3 => ?_)
        cases z3 with
        | r0 y3_0 =>
          refine fx_ite (fun g4 => ?_) (fun g4 => ?_)
          ·
            exact fx_fin (r := (.r0 ((0 : Int)) : value_AddrR)) (fu := 4000) (orc := (orcw [(0, false), (1, true), (2, true)] [(0, (a1 / (1048576 : Int))), (1, (a1 % (1048576 : Int)))] [] [] [(1, (value_fitsT0 ((a1 / (1048576 : Int))) ((a1 % (1048576 : Int)))  y3_0  1))])) (live := []) (u := Value.int .i64 (0 : Int)) (bl := []) (ob := [((!y3_0), true), (dP (value_fitsP0 #[Value.int .i64 (a1 / (1048576 : Int)), Value.int .i64 (a1 % (1048576 : Int))] ((a1 / (1048576 : Int))) ((a1 % (1048576 : Int)))  y3_0  1), true), ((Int.tmod a1 (1048576 : Int)) == (a1 % (1048576 : Int)), true), ((IntKind.i64.wrap (Int.tdiv a1 (1048576 : Int))) == (a1 / (1048576 : Int)), true), ((decide (a1 > (0 : Int))), true), ((a0 != (2 : Int)), false)]) (by kernel_rfl) (obs_cons (notB_t (by first | assumption | simp_all)) (obs_cons (dP_of (value_fitsC0 #[Value.int .i64 (a1 / (1048576 : Int)), Value.int .i64 (a1 % (1048576 : Int))] ((a1 / (1048576 : Int))) ((a1 % (1048576 : Int)))  y3_0 N c3  1 rfl (by decide) (by decide))) (obs_cons (beq_iff_eq.2 (tmod_pos (by omega))) (obs_cons (beq_iff_eq.2 (by rw [tdiv_pos (by omega)]; exact wrap_i64 (by omega))) (obs_cons (decide_eq_true (by omega)) (obs_cons (bne_eq_false_iff_eq.2 (by omega)) obs_nil)))))) rfl (by decide) (by rfl) ⟨by rfl, by rfl⟩ trivial
          ·
            exact fx_fin (r := (.r0 ((a1 % (1048576 : Int))) : value_AddrR)) (fu := 4000) (orc := (orcw [(0, false), (1, true), (2, false)] [(0, (a1 / (1048576 : Int))), (1, (a1 % (1048576 : Int))), (2, (a1 % (1048576 : Int)))] [] [] [(1, (value_fitsT0 ((a1 / (1048576 : Int))) ((a1 % (1048576 : Int)))  y3_0  1))])) (live := []) (u := Value.int .i64 (a1 % (1048576 : Int))) (bl := []) (ob := [((Int.tmod a1 (1048576 : Int)) == (a1 % (1048576 : Int)), true), ((!y3_0), false), (dP (value_fitsP0 #[Value.int .i64 (a1 / (1048576 : Int)), Value.int .i64 (a1 % (1048576 : Int))] ((a1 / (1048576 : Int))) ((a1 % (1048576 : Int)))  y3_0  1), true), ((Int.tmod a1 (1048576 : Int)) == (a1 % (1048576 : Int)), true), ((IntKind.i64.wrap (Int.tdiv a1 (1048576 : Int))) == (a1 / (1048576 : Int)), true), ((decide (a1 > (0 : Int))), true), ((a0 != (2 : Int)), false)]) (by kernel_rfl) (obs_cons (beq_iff_eq.2 (tmod_pos (by omega))) (obs_cons (notB_f (by first | assumption | simp_all)) (obs_cons (dP_of (value_fitsC0 #[Value.int .i64 (a1 / (1048576 : Int)), Value.int .i64 (a1 % (1048576 : Int))] ((a1 / (1048576 : Int))) ((a1 % (1048576 : Int)))  y3_0 N c3  1 rfl (by decide) (by decide))) (obs_cons (beq_iff_eq.2 (tmod_pos (by omega))) (obs_cons (beq_iff_eq.2 (by rw [tdiv_pos (by omega)]; exact wrap_i64 (by omega))) (obs_cons (decide_eq_true (by omega)) (obs_cons (bne_eq_false_iff_eq.2 (by omega)) obs_nil))))))) rfl (by decide) (by rfl) ⟨by rfl, by rfl⟩ trivial
      ·
        exact fx_none
    ·
      exact fx_fin (r := (.r0 ((0 : Int)) : value_AddrR)) (fu := 4000) (orc := (orcw [(0, false), (1, false)] [] [] [] [])) (live := []) (u := Value.int .i64 (0 : Int)) (bl := []) (ob := [((decide (a1 > (0 : Int))), false), ((a0 != (2 : Int)), false)]) (by kernel_rfl) (obs_cons (decide_eq_false (by omega)) (obs_cons (bne_eq_false_iff_eq.2 (by omega)) obs_nil)) rfl (by decide) (by rfl) ⟨by rfl, by rfl⟩ trivial

set_option maxRecDepth 100000 in
theorem value_Addr_spec (a0 : Int) (a1 : Int) (N : Nat) (r : value_AddrR) (h : value_Addr a0 a1 N = some r) : LSpec Try.prog 40 #[Value.agg #[Value.int .i64 a0, Value.int .i64 a1]] [] (value_AddrV a0 a1 r) (value_AddrPo a0 a1 r) :=
  fx_spec fit_Ox Try.func40 (by kernel_rfl) (by kernel_rfl) (fun r => by cases r <;> exact le_far _ rfl) (value_Addr_fx a0 a1 N) h

noncomputable def value_AddrT0 (a0 : Int) (a1 : Int) (w0 : Int) (n : Nat) : Told := .call [] (Value.int .i64 w0) [] 0
def value_AddrP0 (A : Array Value) (a0 : Int) (a1 : Int) (w0 : Int) (n : Nat) : Prop := CallSpec Try.prog 40 A [] (Value.int .i64 w0) [] n 0

set_option maxRecDepth 100000 in
theorem value_AddrC0 (A : Array Value) (a0 : Int) (a1 : Int) (w0 : Int) (N : Nat) (h : value_Addr a0 a1 N = some (.r0 w0)) (n : Nat) (hA : A = #[Value.agg #[Value.int .i64 a0, Value.int .i64 a1]]) (hnd : ([] : List Nat).Nodup) (hlt : ∀ k ∈ ([] : List Nat), k < n) : value_AddrP0 A a0 a1 w0  n :=
  cs_args hA (LSpec.callL (show LSpec Try.prog 40 #[Value.agg #[Value.int .i64 a0, Value.int .i64 a1]] [] (Value.int .i64 w0) [] from value_Addr_spec a0 a1 N _ h) [] n [] rfl hnd hlt (show 0 ≤ 0 from by decide) (show ∀ j ∈ ([] : List Nat), j < 0 from by decide) (by rfl) trivial (by rfl) trivial trivial rfl rfl rfl rfl rfl)

noncomputable def orec_Table_IndexV (a0 : Int) (a1 : Int) (L2 : List Int) (L3 : List Int) : orec_Table_IndexR → Value
  | .r0 w2 => Value.int .i64 w2
noncomputable def orec_Table_IndexPo (a0 : Int) (a1 : Int) (L2 : List Int) (L3 : List Int) : orec_Table_IndexR → List (Option AObj)
  | .r0 w2 => [some (.cells [Value.slice (some ⟨1, 0, none⟩) L2.length L2.length, Value.slice (some ⟨2, 0, none⟩) L3.length L3.length] 74), some (.cells (rowV (encI .i64) L2) 84), some (.cells (rowV (encI .i64) L3) 84)]

set_option maxRecDepth 100000 in
theorem orec_Table_Index_fx (a0 : Int) (a1 : Int) (L2 : List Int) (L3 : List Int) (N : Nat) : Fx Try.prog ext_Ox Try.f24 [.cells [Value.slice (some ⟨1, 0, none⟩) L2.length L2.length, Value.slice (some ⟨2, 0, none⟩) L3.length L3.length] 74, .cells (rowV (encI .i64) L2) 84, .cells (rowV (encI .i64) L3) 84] #[Value.pointer (some ⟨0, 0, none⟩), Value.agg #[Value.int .i64 a0, Value.int .i64 a1]] (orec_Table_IndexV a0 a1 L2 L3) (orec_Table_IndexPo a0 a1 L2 L3) (orec_Table_Index a0 a1 L2 L3 N) := by
  unfold orec_Table_Index
  refine fx_ite (fun g0 => ?_) (fun g0 => ?_)
  ·
    refine fx_bind (fun z1 c1 => ?_)
    cases z1 with
    | r0 y1_0 =>
      exact fx_fin (r := (.r0 ((Int.tmod y1_0 ((L2.length : Nat) : Int))) : orec_Table_IndexR)) (fu := 4000) (orc := (orcw [(1, true)] [] [] [] [(0, (value_AddrT0 (a0) (a1)  y1_0  4)), (1, .dv)])) (live := [0, 1, 2]) (u := Value.int .i64 (Int.tmod y1_0 ((L2.length : Nat) : Int))) (bl := [some (.cells [Value.slice (some ⟨1, 0, none⟩) L2.length L2.length, Value.slice (some ⟨2, 0, none⟩) L3.length L3.length] 74), some (.cells (rowV (encI .i64) L2) 84), some (.cells (rowV (encI .i64) L3) 84)]) (ob := [(dP (IntKind.i64 = IntKind.i64 ∧ ((L2.length : Nat) : Int) ≠ 0), true), (dP (value_AddrP0 #[Value.agg #[Value.int .i64 a0, Value.int .i64 a1]] (a0) (a1)  y1_0  4), true), ((decide (((L2.length : Nat) : Int) > (0 : Int))), true)]) (by kernel_rfl) (obs_cons (dP_of ⟨rfl, by omega⟩) (obs_cons (dP_of (value_AddrC0 #[Value.agg #[Value.int .i64 a0, Value.int .i64 a1]] (a0) (a1)  y1_0 N c1  4 rfl (by decide) (by decide))) (obs_cons (decide_eq_true (by omega)) obs_nil))) rfl (by decide) (by rfl) ⟨by rfl, by rfl⟩ ⟨⟨rfl, ⟨[], by rfl⟩, by rfl⟩, ⟨(same_row (E := (encI .i64)) (α := Int) _ L2 _), ⟨(same_row (E := (encI .i64)) (α := Int) _ L3 _), trivial⟩⟩⟩
  ·
    exact fx_fin (r := (.r0 ((0 : Int)) : orec_Table_IndexR)) (fu := 4000) (orc := (orcw [(1, false)] [] [] [] [])) (live := [0, 1, 2]) (u := Value.int .i64 (0 : Int)) (bl := [some (.cells [Value.slice (some ⟨1, 0, none⟩) L2.length L2.length, Value.slice (some ⟨2, 0, none⟩) L3.length L3.length] 74), some (.cells (rowV (encI .i64) L2) 84), some (.cells (rowV (encI .i64) L3) 84)]) (ob := [((decide (((L2.length : Nat) : Int) > (0 : Int))), false)]) (by kernel_rfl) (obs_cons (decide_eq_false (by omega)) obs_nil) rfl (by decide) (by rfl) ⟨by rfl, by rfl⟩ ⟨⟨rfl, ⟨[], by rfl⟩, by rfl⟩, ⟨(same_row (E := (encI .i64)) (α := Int) _ L2 _), ⟨(same_row (E := (encI .i64)) (α := Int) _ L3 _), trivial⟩⟩⟩

set_option maxRecDepth 100000 in
theorem orec_Table_Index_spec (a0 : Int) (a1 : Int) (L2 : List Int) (L3 : List Int) (N : Nat) (r : orec_Table_IndexR) (h : orec_Table_Index a0 a1 L2 L3 N = some r) : LSpec Try.prog 24 #[Value.pointer (some ⟨0, 0, none⟩), Value.agg #[Value.int .i64 a0, Value.int .i64 a1]] [.cells [Value.slice (some ⟨1, 0, none⟩) L2.length L2.length, Value.slice (some ⟨2, 0, none⟩) L3.length L3.length] 74, .cells (rowV (encI .i64) L2) 84, .cells (rowV (encI .i64) L3) 84] (orec_Table_IndexV a0 a1 L2 L3 r) (orec_Table_IndexPo a0 a1 L2 L3 r) :=
  fx_spec fit_Ox Try.func24 (by kernel_rfl) (by kernel_rfl) (fun r => by cases r <;> exact le_far _ rfl) (orec_Table_Index_fx a0 a1 L2 L3 N) h

noncomputable def orec_Table_IndexT0 (a0 : Int) (a1 : Int) (L2 : List Int) (L3 : List Int) (w2 : Int) (k0 : Nat) (k1 : Nat) (k2 : Nat) (n : Nat) : Told := .call [(k0, .cells [Value.slice (some ⟨k1, 0, none⟩) L2.length L2.length, Value.slice (some ⟨k2, 0, none⟩) L3.length L3.length] 74), (k1, .cells (rowV (encI .i64) L2) 84), (k2, .cells (rowV (encI .i64) L3) 84)] (Value.int .i64 w2) [] 0
def orec_Table_IndexP0 (A : Array Value) (a0 : Int) (a1 : Int) (L2 : List Int) (L3 : List Int) (w2 : Int) (k0 : Nat) (k1 : Nat) (k2 : Nat) (n : Nat) : Prop := CallSpec Try.prog 24 A [(k0, .cells [Value.slice (some ⟨k1, 0, none⟩) L2.length L2.length, Value.slice (some ⟨k2, 0, none⟩) L3.length L3.length] 74), (k1, .cells (rowV (encI .i64) L2) 84), (k2, .cells (rowV (encI .i64) L3) 84)] (Value.int .i64 w2) [] n 0

set_option maxRecDepth 100000 in
theorem orec_Table_IndexC0 (A : Array Value) (a0 : Int) (a1 : Int) (L2 : List Int) (L3 : List Int) (w2 : Int) (N : Nat) (h : orec_Table_Index a0 a1 L2 L3 N = some (.r0 w2)) (k0 : Nat) (k1 : Nat) (k2 : Nat) (n : Nat) (hA : A = #[Value.pointer (some ⟨k0, 0, none⟩), Value.agg #[Value.int .i64 a0, Value.int .i64 a1]]) (hnd : ([k0, k1, k2] : List Nat).Nodup) (hlt : ∀ k ∈ ([k0, k1, k2] : List Nat), k < n) : orec_Table_IndexP0 A a0 a1 L2 L3 w2 k0 k1 k2 n :=
  cs_args hA (LSpec.callL (show LSpec Try.prog 24 #[Value.pointer (some ⟨0, 0, none⟩), Value.agg #[Value.int .i64 a0, Value.int .i64 a1]] [.cells [Value.slice (some ⟨1, 0, none⟩) L2.length L2.length, Value.slice (some ⟨2, 0, none⟩) L3.length L3.length] 74, .cells (rowV (encI .i64) L2) 84, .cells (rowV (encI .i64) L3) 84] (Value.int .i64 w2) [some (.cells [Value.slice (some ⟨1, 0, none⟩) L2.length L2.length, Value.slice (some ⟨2, 0, none⟩) L3.length L3.length] 74), some (.cells (rowV (encI .i64) L2) 84), some (.cells (rowV (encI .i64) L3) 84)] from orec_Table_Index_spec a0 a1 L2 L3 N _ h) [k0, k1, k2] n [] rfl hnd hlt (show 3 ≤ 3 from by decide) (show ∀ j ∈ ([] : List Nat), j < 3 from by decide) (by rfl) ⟨rfl, ⟨(under_row _ _ _), ⟨(under_row _ _ _), trivial⟩⟩⟩ (by rfl) ⟨rfl, ⟨(under_row _ _ _), ⟨(under_row _ _ _), trivial⟩⟩⟩ ⟨.inr rfl, ⟨.inr rfl, ⟨.inr rfl, trivial⟩⟩⟩ rfl rfl rfl (cons_eq (pair_eq rfl rfl) (cons_eq (pair_eq rfl (renO_row _ _ _)) (cons_eq (pair_eq rfl (renO_row _ _ _)) rfl))) rfl)

noncomputable def ref01_IsV (a0 : Int) (a1 : Int) : ref01_IsR → Value
  | .r0 w0 => Value.bool w0
noncomputable def ref01_IsPo (a0 : Int) (a1 : Int) : ref01_IsR → List (Option AObj)
  | .r0 w0 => []

set_option maxRecDepth 100000 in
theorem ref01_Is_fx (a0 : Int) (a1 : Int) (N : Nat) : Fx Try.prog ext_Ox Try.f49 [] #[Value.agg #[Value.int .i64 a0, Value.int .i64 a1]] (ref01_IsV a0 a1) (ref01_IsPo a0 a1) (ref01_Is a0 a1 N) := by
  unfold ref01_Is
  refine fx_ite (fun g0 => ?_) (fun g0 => ?_)
  ·
    exact fx_fin (r := (.r0 (true) : ref01_IsR)) (fu := 4000) (orc := (orcw [(0, true)] [] [] [] [])) (live := []) (u := Value.bool true) (bl := []) (ob := [((a0 == (1 : Int)), true)]) (by kernel_rfl) (obs_cons (beq_iff_eq.2 (by omega)) obs_nil) rfl (by decide) (by rfl) ⟨by rfl, by rfl⟩ trivial
  ·
    refine fx_ite (fun g1 => ?_) (fun g1 => ?_)
    ·
      refine fx_ite (fun g2 => ?_) (fun g2 => ?_)
      ·
        exact fx_fin (r := (.r0 (true) : ref01_IsR)) (fu := 4000) (orc := (orcw [(0, false), (1, true), (2, true)] [] [] [] [])) (live := []) (u := Value.bool true) (bl := []) (ob := [((a1 == (0 : Int)), true), ((a0 == (2 : Int)), true), ((a0 == (1 : Int)), false)]) (by kernel_rfl) (obs_cons (beq_iff_eq.2 (by omega)) (obs_cons (beq_iff_eq.2 (by omega)) (obs_cons (beq_eq_false_iff_ne.2 (by omega)) obs_nil))) rfl (by decide) (by rfl) ⟨by rfl, by rfl⟩ trivial
      ·
        refine fx_ite (fun g3 => ?_) (fun g3 => ?_)
        ·
          refine fx_ite (fun g4 => ?_) (fun g4 => ?_)
          ·
            refine fx_ite (fun g5 => ?_) (fun g5 => ?_)
            ·
              refine fx_ite (fun g6 => ?_) (fun g6 => ?_)
              ·
                exact fx_fin (r := (.r0 (true) : ref01_IsR)) (fu := 4000) (orc := (orcw [(0, false), (1, true), (2, false), (3, true), (4, true), (5, true)] [(0, (a1 / (1048576 : Int))), (1, (a1 % (1048576 : Int)))] [] [] [])) (live := []) (u := Value.bool true) (bl := []) (ob := [((decide ((a1 % (1048576 : Int)) ≥ (1 : Int))), true), ((Int.tmod a1 (1048576 : Int)) == (a1 % (1048576 : Int)), true), ((decide ((a1 / (1048576 : Int)) ≤ (1073741824 : Int))), true), ((IntKind.i64.wrap (Int.tdiv a1 (1048576 : Int))) == (a1 / (1048576 : Int)), true), ((decide (a1 ≥ (1048576 : Int))), true), ((a1 == (0 : Int)), false), ((a0 == (2 : Int)), true), ((a0 == (1 : Int)), false)]) (by kernel_rfl) (obs_cons (decide_eq_true (by omega)) (obs_cons (beq_iff_eq.2 (tmod_pos (by omega))) (obs_cons (decide_eq_true (by omega)) (obs_cons (beq_iff_eq.2 (by rw [tdiv_pos (by omega)]; exact wrap_i64 (by omega))) (obs_cons (decide_eq_true (by omega)) (obs_cons (beq_eq_false_iff_ne.2 (by omega)) (obs_cons (beq_iff_eq.2 (by omega)) (obs_cons (beq_eq_false_iff_ne.2 (by omega)) obs_nil)))))))) rfl (by decide) (by rfl) ⟨by rfl, by rfl⟩ trivial
              ·
                exact fx_fin (r := (.r0 (false) : ref01_IsR)) (fu := 4000) (orc := (orcw [(0, false), (1, true), (2, false), (3, true), (4, true), (5, false)] [(0, (a1 / (1048576 : Int))), (1, (a1 % (1048576 : Int)))] [] [] [])) (live := []) (u := Value.bool false) (bl := []) (ob := [((decide ((a1 % (1048576 : Int)) ≥ (1 : Int))), false), ((Int.tmod a1 (1048576 : Int)) == (a1 % (1048576 : Int)), true), ((decide ((a1 / (1048576 : Int)) ≤ (1073741824 : Int))), true), ((IntKind.i64.wrap (Int.tdiv a1 (1048576 : Int))) == (a1 / (1048576 : Int)), true), ((decide (a1 ≥ (1048576 : Int))), true), ((a1 == (0 : Int)), false), ((a0 == (2 : Int)), true), ((a0 == (1 : Int)), false)]) (by kernel_rfl) (obs_cons (decide_eq_false (by omega)) (obs_cons (beq_iff_eq.2 (tmod_pos (by omega))) (obs_cons (decide_eq_true (by omega)) (obs_cons (beq_iff_eq.2 (by rw [tdiv_pos (by omega)]; exact wrap_i64 (by omega))) (obs_cons (decide_eq_true (by omega)) (obs_cons (beq_eq_false_iff_ne.2 (by omega)) (obs_cons (beq_iff_eq.2 (by omega)) (obs_cons (beq_eq_false_iff_ne.2 (by omega)) obs_nil)))))))) rfl (by decide) (by rfl) ⟨by rfl, by rfl⟩ trivial
            ·
              exact fx_fin (r := (.r0 (false) : ref01_IsR)) (fu := 4000) (orc := (orcw [(0, false), (1, true), (2, false), (3, true), (4, false)] [(0, (a1 / (1048576 : Int)))] [] [] [])) (live := []) (u := Value.bool false) (bl := []) (ob := [((decide ((a1 / (1048576 : Int)) ≤ (1073741824 : Int))), false), ((IntKind.i64.wrap (Int.tdiv a1 (1048576 : Int))) == (a1 / (1048576 : Int)), true), ((decide (a1 ≥ (1048576 : Int))), true), ((a1 == (0 : Int)), false), ((a0 == (2 : Int)), true), ((a0 == (1 : Int)), false)]) (by kernel_rfl) (obs_cons (decide_eq_false (by omega)) (obs_cons (beq_iff_eq.2 (by rw [tdiv_pos (by omega)]; exact wrap_i64 (by omega))) (obs_cons (decide_eq_true (by omega)) (obs_cons (beq_eq_false_iff_ne.2 (by omega)) (obs_cons (beq_iff_eq.2 (by omega)) (obs_cons (beq_eq_false_iff_ne.2 (by omega)) obs_nil)))))) rfl (by decide) (by rfl) ⟨by rfl, by rfl⟩ trivial
          ·
            exact fx_none
        ·
          exact fx_fin (r := (.r0 (false) : ref01_IsR)) (fu := 4000) (orc := (orcw [(0, false), (1, true), (2, false), (3, false)] [] [] [] [])) (live := []) (u := Value.bool false) (bl := []) (ob := [((decide (a1 ≥ (1048576 : Int))), false), ((a1 == (0 : Int)), false), ((a0 == (2 : Int)), true), ((a0 == (1 : Int)), false)]) (by kernel_rfl) (obs_cons (decide_eq_false (by omega)) (obs_cons (beq_eq_false_iff_ne.2 (by omega)) (obs_cons (beq_iff_eq.2 (by omega)) (obs_cons (beq_eq_false_iff_ne.2 (by omega)) obs_nil)))) rfl (by decide) (by rfl) ⟨by rfl, by rfl⟩ trivial
    ·
      exact fx_fin (r := (.r0 (false) : ref01_IsR)) (fu := 4000) (orc := (orcw [(0, false), (1, false)] [] [] [] [])) (live := []) (u := Value.bool false) (bl := []) (ob := [((a0 == (2 : Int)), false), ((a0 == (1 : Int)), false)]) (by kernel_rfl) (obs_cons (beq_eq_false_iff_ne.2 (by omega)) (obs_cons (beq_eq_false_iff_ne.2 (by omega)) obs_nil)) rfl (by decide) (by rfl) ⟨by rfl, by rfl⟩ trivial

set_option maxRecDepth 100000 in
theorem ref01_Is_spec (a0 : Int) (a1 : Int) (N : Nat) (r : ref01_IsR) (h : ref01_Is a0 a1 N = some r) : LSpec Try.prog 49 #[Value.agg #[Value.int .i64 a0, Value.int .i64 a1]] [] (ref01_IsV a0 a1 r) (ref01_IsPo a0 a1 r) :=
  fx_spec fit_Ox Try.func49 (by kernel_rfl) (by kernel_rfl) (fun r => by cases r <;> exact le_far _ rfl) (ref01_Is_fx a0 a1 N) h

noncomputable def ref01_IsT0 (a0 : Int) (a1 : Int) (w0 : Bool) (n : Nat) : Told := .call [] (Value.bool w0) [] 0
def ref01_IsP0 (A : Array Value) (a0 : Int) (a1 : Int) (w0 : Bool) (n : Nat) : Prop := CallSpec Try.prog 49 A [] (Value.bool w0) [] n 0

set_option maxRecDepth 100000 in
theorem ref01_IsC0 (A : Array Value) (a0 : Int) (a1 : Int) (w0 : Bool) (N : Nat) (h : ref01_Is a0 a1 N = some (.r0 w0)) (n : Nat) (hA : A = #[Value.agg #[Value.int .i64 a0, Value.int .i64 a1]]) (hnd : ([] : List Nat).Nodup) (hlt : ∀ k ∈ ([] : List Nat), k < n) : ref01_IsP0 A a0 a1 w0  n :=
  cs_args hA (LSpec.callL (show LSpec Try.prog 49 #[Value.agg #[Value.int .i64 a0, Value.int .i64 a1]] [] (Value.bool w0) [] from ref01_Is_spec a0 a1 N _ h) [] n [] rfl hnd hlt (show 0 ≤ 0 from by decide) (show ∀ j ∈ ([] : List Nat), j < 0 from by decide) (by rfl) trivial (by rfl) trivial trivial rfl rfl rfl rfl rfl)

noncomputable def ref03_IndexV (L0 : List R_iii) (a1 : Int) (a2 : Int) : ref03_IndexR → Value
  | .r0 w1 => Value.int .i64 w1
noncomputable def ref03_IndexPo (L0 : List R_iii) (a1 : Int) (a2 : Int) : ref03_IndexR → List (Option AObj)
  | .r0 w1 => [some (.cells (rowV E_iii L0) 24)]

set_option maxRecDepth 100000 in
theorem ref03_Index_fx (L0 : List R_iii) (a1 : Int) (a2 : Int) (N : Nat) : Fx Try.prog ext_Ox Try.f25 [.cells (rowV E_iii L0) 24] #[Value.agg #[Value.slice (some ⟨0, 0, none⟩) L0.length L0.length], Value.agg #[Value.int .i64 a1, Value.int .i64 a2]] (ref03_IndexV L0 a1 a2) (ref03_IndexPo L0 a1 a2) (ref03_Index L0 a1 a2 N) := by
  unfold ref03_Index
  refine fx_ite (fun g0 => ?_) (fun g0 => ?_)
  ·
    exact fx_fin (r := (.r0 ((0 : Int)) : ref03_IndexR)) (fu := 4000) (orc := (orcw [(0, true)] [] [] [] [])) (live := [0]) (u := Value.int .i64 (0 : Int)) (bl := [some (.cells (rowV E_iii L0) 24)]) (ob := [((((L0.length : Nat) : Int) == (0 : Int)), true)]) (by kernel_rfl) (obs_cons (beq_iff_eq.2 (by omega)) obs_nil) rfl (by decide) (by rfl) ⟨by rfl, by rfl⟩ ⟨(same_row (E := E_iii) (α := R_iii) _ L0 _), trivial⟩
  ·
    refine fx_ite (fun g1 => ?_) (fun g1 => ?_)
    ·
      refine fx_bind (fun z2 c2 => ?_)
      cases z2 with
      | r0 y2_0 =>
        refine fx_ite (fun g3 => ?_) (fun g3 => ?_)
        ·
          exact fx_fin (r := (.r0 ((Int.tmod (0 : Int) ((L0.length : Nat) : Int))) : ref03_IndexR)) (fu := 4000) (orc := (orcw [(0, false), (1, true), (2, true)] [] [] [] [(0, (ref01_IsT0 (a1) (a2)  y2_0  5)), (1, .dv)])) (live := [0]) (u := Value.int .i64 (Int.tmod (0 : Int) ((L0.length : Nat) : Int))) (bl := [some (.cells (rowV E_iii L0) 24)]) (ob := [(dP (IntKind.i64 = IntKind.i64 ∧ ((L0.length : Nat) : Int) ≠ 0), true), ((!y2_0), true), (dP (ref01_IsP0 #[Value.agg #[Value.int .i64 a1, Value.int .i64 a2]] (a1) (a2)  y2_0  5), true), ((a1 == (2 : Int)), true), ((((L0.length : Nat) : Int) == (0 : Int)), false)]) (by kernel_rfl) (obs_cons (dP_of ⟨rfl, by omega⟩) (obs_cons (notB_t (by first | assumption | simp_all)) (obs_cons (dP_of (ref01_IsC0 #[Value.agg #[Value.int .i64 a1, Value.int .i64 a2]] (a1) (a2)  y2_0 N c2  5 rfl (by decide) (by decide))) (obs_cons (beq_iff_eq.2 (by omega)) (obs_cons (beq_eq_false_iff_ne.2 (by omega)) obs_nil))))) rfl (by decide) (by rfl) ⟨by rfl, by rfl⟩ ⟨(same_row (E := E_iii) (α := R_iii) _ L0 _), trivial⟩
        ·
          exact fx_fin (r := (.r0 ((Int.tmod (Int.tmod a2 (1048576 : Int)) ((L0.length : Nat) : Int))) : ref03_IndexR)) (fu := 4000) (orc := (orcw [(0, false), (1, true), (2, false)] [] [] [] [(0, (ref01_IsT0 (a1) (a2)  y2_0  5)), (2, .dv)])) (live := [0]) (u := Value.int .i64 (Int.tmod (Int.tmod a2 (1048576 : Int)) ((L0.length : Nat) : Int))) (bl := [some (.cells (rowV E_iii L0) 24)]) (ob := [(dP (IntKind.i64 = IntKind.i64 ∧ ((L0.length : Nat) : Int) ≠ 0), true), ((!y2_0), false), (dP (ref01_IsP0 #[Value.agg #[Value.int .i64 a1, Value.int .i64 a2]] (a1) (a2)  y2_0  5), true), ((a1 == (2 : Int)), true), ((((L0.length : Nat) : Int) == (0 : Int)), false)]) (by kernel_rfl) (obs_cons (dP_of ⟨rfl, by omega⟩) (obs_cons (notB_f (by first | assumption | simp_all)) (obs_cons (dP_of (ref01_IsC0 #[Value.agg #[Value.int .i64 a1, Value.int .i64 a2]] (a1) (a2)  y2_0 N c2  5 rfl (by decide) (by decide))) (obs_cons (beq_iff_eq.2 (by omega)) (obs_cons (beq_eq_false_iff_ne.2 (by omega)) obs_nil))))) rfl (by decide) (by rfl) ⟨by rfl, by rfl⟩ ⟨(same_row (E := E_iii) (α := R_iii) _ L0 _), trivial⟩
    ·
      exact fx_fin (r := (.r0 ((Int.tmod (0 : Int) ((L0.length : Nat) : Int))) : ref03_IndexR)) (fu := 4000) (orc := (orcw [(0, false), (1, false)] [] [] [] [(0, .dv)])) (live := [0]) (u := Value.int .i64 (Int.tmod (0 : Int) ((L0.length : Nat) : Int))) (bl := [some (.cells (rowV E_iii L0) 24)]) (ob := [(dP (IntKind.i64 = IntKind.i64 ∧ ((L0.length : Nat) : Int) ≠ 0), true), ((a1 == (2 : Int)), false), ((((L0.length : Nat) : Int) == (0 : Int)), false)]) (by kernel_rfl) (obs_cons (dP_of ⟨rfl, by omega⟩) (obs_cons (beq_eq_false_iff_ne.2 (by omega)) (obs_cons (beq_eq_false_iff_ne.2 (by omega)) obs_nil))) rfl (by decide) (by rfl) ⟨by rfl, by rfl⟩ ⟨(same_row (E := E_iii) (α := R_iii) _ L0 _), trivial⟩

set_option maxRecDepth 100000 in
theorem ref03_Index_spec (L0 : List R_iii) (a1 : Int) (a2 : Int) (N : Nat) (r : ref03_IndexR) (h : ref03_Index L0 a1 a2 N = some r) : LSpec Try.prog 25 #[Value.agg #[Value.slice (some ⟨0, 0, none⟩) L0.length L0.length], Value.agg #[Value.int .i64 a1, Value.int .i64 a2]] [.cells (rowV E_iii L0) 24] (ref03_IndexV L0 a1 a2 r) (ref03_IndexPo L0 a1 a2 r) :=
  fx_spec fit_Ox Try.func25 (by kernel_rfl) (by kernel_rfl) (fun r => by cases r <;> exact le_far _ rfl) (ref03_Index_fx L0 a1 a2 N) h

noncomputable def ref03_IndexT0 (L0 : List R_iii) (a1 : Int) (a2 : Int) (w1 : Int) (k0 : Nat) (n : Nat) : Told := .call [(k0, .cells (rowV E_iii L0) 24)] (Value.int .i64 w1) [] 0
def ref03_IndexP0 (A : Array Value) (L0 : List R_iii) (a1 : Int) (a2 : Int) (w1 : Int) (k0 : Nat) (n : Nat) : Prop := CallSpec Try.prog 25 A [(k0, .cells (rowV E_iii L0) 24)] (Value.int .i64 w1) [] n 0

set_option maxRecDepth 100000 in
theorem ref03_IndexC0 (A : Array Value) (L0 : List R_iii) (a1 : Int) (a2 : Int) (w1 : Int) (N : Nat) (h : ref03_Index L0 a1 a2 N = some (.r0 w1)) (k0 : Nat) (n : Nat) (hA : A = #[Value.agg #[Value.slice (some ⟨k0, 0, none⟩) L0.length L0.length], Value.agg #[Value.int .i64 a1, Value.int .i64 a2]]) (hnd : ([k0] : List Nat).Nodup) (hlt : ∀ k ∈ ([k0] : List Nat), k < n) : ref03_IndexP0 A L0 a1 a2 w1 k0 n :=
  cs_args hA (LSpec.callL (show LSpec Try.prog 25 #[Value.agg #[Value.slice (some ⟨0, 0, none⟩) L0.length L0.length], Value.agg #[Value.int .i64 a1, Value.int .i64 a2]] [.cells (rowV E_iii L0) 24] (Value.int .i64 w1) [some (.cells (rowV E_iii L0) 24)] from ref03_Index_spec L0 a1 a2 N _ h) [k0] n [] rfl hnd hlt (show 1 ≤ 1 from by decide) (show ∀ j ∈ ([] : List Nat), j < 1 from by decide) (by rfl) ⟨(under_row _ _ _), trivial⟩ (by rfl) ⟨(under_row _ _ _), trivial⟩ ⟨.inr rfl, trivial⟩ rfl rfl rfl (cons_eq (pair_eq rfl (renO_row _ _ _)) rfl) rfl)

noncomputable def orec_Table_ForkV (L0 : List Int) (L1 : List Int) : orec_Table_ForkR → Value
  | .r0 => Value.pointer none
  | .r1 w2 w3 => Value.pointer (some ⟨3, 0, none⟩)
noncomputable def orec_Table_ForkPo (L0 : List Int) (L1 : List Int) : orec_Table_ForkR → List (Option AObj)
  | .r0 => [some (.cells [Value.slice (some ⟨1, 0, none⟩) L0.length L0.length, Value.slice (some ⟨2, 0, none⟩) L1.length L1.length] 74), some (.cells (rowV (encI .i64) L0) 84), some (.cells (rowV (encI .i64) L1) 84)]
  | .r1 w2 w3 => [some (.cells [Value.slice (some ⟨1, 0, none⟩) L0.length L0.length, Value.slice (some ⟨2, 0, none⟩) L1.length L1.length] 74), some (.cells (rowV (encI .i64) L0) 84), some (.cells (rowV (encI .i64) L1) 84), some (.cells [Value.slice (some ⟨4, 0, none⟩) w2.length w2.length, Value.slice (some ⟨5, 0, none⟩) w3.length w3.length] 74), some (.cells (rowV (encI .i64) w2) 84), some (.cells (rowV (encI .i64) w3) 84)]

def orec_Table_ForkHd : orec_Table_ForkX → Nat
  | .h1m0 v3 v4 v5 => 1
noncomputable def orec_Table_ForkL (L0 : List Int) (L1 : List Int) : orec_Table_ForkX → List (Nat × Value)
  | .h1m0 v3 v4 v5 => [(0, Value.pointer (some ⟨0, 0, none⟩)), (3, Value.pointer (some ⟨3, 0, none⟩)), (18, Value.int .i64 ((L0.length : Nat) : Int)), (19, Value.int .i64 ((v3 : Nat) : Int))]
noncomputable def orec_Table_ForkH (L0 : List Int) (L1 : List Int) : orec_Table_ForkX → List (Option AObj)
  | .h1m0 v3 v4 v5 => [some (.cells [Value.slice (some ⟨1, 0, none⟩) L0.length L0.length, Value.slice (some ⟨2, 0, none⟩) L1.length L1.length] 74), some (.cells (rowV (encI .i64) L0) 84), some (.cells (rowV (encI .i64) L1) 84), some (.cells [Value.slice (some ⟨4, 0, none⟩) v4.length v4.length, Value.slice (some ⟨5, 0, none⟩) v5.length v5.length] 74), some (.cells (rowV (encI .i64) v4) 84), some (.cells (rowV (encI .i64) v5) 84)]

noncomputable def orec_Table_ForkC : Nat → Code × List Kont
  | 1 => headOf [1, 1, 1, 0, 1, 3] (bodyC Try.f26) []
  | _ => (.skip, [])
def orec_Table_ForkIL : Nat → Bool
  | 1 => true
  | _ => true
noncomputable def orec_Table_ForkK (i : Nat) : List Kont := match orec_Table_ForkIL i with | true => .rnd i :: (orec_Table_ForkC i).2 | false => (orec_Table_ForkC i).2

noncomputable def orec_Table_ForkM (L0 : List Int) (L1 : List Int) (N : Nat) : Mach := ⟨Try.f26, [.cells [Value.slice (some ⟨1, 0, none⟩) L0.length L0.length, Value.slice (some ⟨2, 0, none⟩) L1.length L1.length] 74, .cells (rowV (encI .i64) L0) 84, .cells (rowV (encI .i64) L1) 84], orec_Table_ForkX, orec_Table_ForkR, orec_Table_ForkStep L0 L1 N, orec_Table_ForkHd, orec_Table_ForkC, orec_Table_ForkIL, orec_Table_ForkL L0 L1, orec_Table_ForkH L0 L1, orec_Table_ForkV L0 L1, orec_Table_ForkPo L0 L1⟩

set_option maxRecDepth 100000 in
theorem orec_Table_Fork_ok1_0 (L0 : List Int) (L1 : List Int) (v3 : Nat) (v4 : List Int) (v5 : List Int) (N : Nat) : (orec_Table_ForkM L0 L1 N).Ok Try.prog ext_Ox (.h1m0 v3 v4 v5 : orec_Table_ForkX) (orec_Table_ForkStep L0 L1 N (.h1m0 v3 v4 v5 : orec_Table_ForkX)) := by
  show (orec_Table_ForkM L0 L1 N).Ok Try.prog ext_Ox (.h1m0 v3 v4 v5 : orec_Table_ForkX) (orec_Table_Fork_h1m0 L0 L1 N v3 v4 v5)
  unfold orec_Table_Fork_h1m0
  refine Mach.ok_ite (fun g0 => ?_) (fun g0 => ?_)
  ·
    refine Mach.ok_ite (fun g1 => ?_) (fun g1 => ?_)
    ·
      refine Mach.ok_ite (fun g2 => ?_) (fun g2 => ?_)
      ·
        refine Mach.ok_ite (fun g3 => ?_) (fun g3 => ?_)
        ·
          refine Mach.ok_ite (fun g4 => ?_) (fun g4 => ?_)
          ·
            exact Mach.ok_next (M := orec_Table_ForkM L0 L1 N) (cd := 1000000) (cm := 0) (y := (.h1m0 ((v3 + 1)) ((v4.set v3 (L0.getD v3 0))) ((v5.set v3 (L1.getD v3 0))) : orec_Table_ForkX)) (fu := 4000) (orc := (orcw [(0, true)] [(0, (((v3 + 1) : Nat) : Int))] [(0, v3), (1, v3), (2, v3), (3, v3)] [] [(0, .at (L0.getD v3 0) []), (1, .at (v4.getD v3 0) (rowV (encI .i64) (v4.set v3 (L0.getD v3 0)))), (2, .at (L1.getD v3 0) []), (3, .at (v5.getD v3 0) (rowV (encI .i64) (v5.set v3 (L1.getD v3 0))))])) (live := [0, 1, 2, 3, 4, 5]) (tv := fun _ => [some (Value.pointer (some ⟨0, 0, none⟩)), some (Value.pointer (some ⟨3, 0, none⟩)), some (Value.int .i64 ((L0.length : Nat) : Int)), some (Value.int .i64 (((v3 + 1) : Nat) : Int))]) (bl := [some (.cells [Value.slice (some ⟨1, 0, none⟩) L0.length L0.length, Value.slice (some ⟨2, 0, none⟩) L1.length L1.length] 74), some (.cells (rowV (encI .i64) L0) 84), some (.cells (rowV (encI .i64) L1) 84), some (.cells [Value.slice (some ⟨4, 0, none⟩) v4.length v4.length, Value.slice (some ⟨5, 0, none⟩) v5.length v5.length] 74), some (.cells (rowV (encI .i64) (v4.set v3 (L0.getD v3 0))) 84), some (.cells (rowV (encI .i64) (v5.set v3 (L1.getD v3 0))) 84)]) (ob := [((IntKind.i64.wrap (((v3 : Nat) : Int) + (1 : Int))) == (((v3 + 1) : Nat) : Int), true), (dP (takeN 1 (List.drop ((0 + (v3 * 1)) + 0) (rowV (encI .i64) v5)) = some [Value.int .i64 (v5.getD v3 0)] ∧ ((0 + (v3 * 1)) + 0) + 1 ≤ ((rowV (encI .i64) v5) : List Value).length ∧ putN (rowV (encI .i64) v5) ((0 + (v3 * 1)) + 0) [Value.int .i64 (L1.getD v3 0)] = (rowV (encI .i64) (v5.set v3 (L1.getD v3 0)))), true), (dP (takeN 1 (List.drop ((0 + (v3 * 1)) + 0) (rowV (encI .i64) L1)) = some [Value.int .i64 (L1.getD v3 0)]), true), (Nat.blt v3 L1.length, true), (((v3 : Nat) : Int) == Int.ofNat v3, true), (Nat.blt v3 v5.length, true), (((v3 : Nat) : Int) == Int.ofNat v3, true), (dP (takeN 1 (List.drop ((0 + (v3 * 1)) + 0) (rowV (encI .i64) v4)) = some [Value.int .i64 (v4.getD v3 0)] ∧ ((0 + (v3 * 1)) + 0) + 1 ≤ ((rowV (encI .i64) v4) : List Value).length ∧ putN (rowV (encI .i64) v4) ((0 + (v3 * 1)) + 0) [Value.int .i64 (L0.getD v3 0)] = (rowV (encI .i64) (v4.set v3 (L0.getD v3 0)))), true), (dP (takeN 1 (List.drop ((0 + (v3 * 1)) + 0) (rowV (encI .i64) L0)) = some [Value.int .i64 (L0.getD v3 0)]), true), (Nat.blt v3 L0.length, true), (((v3 : Nat) : Int) == Int.ofNat v3, true), (Nat.blt v3 v4.length, true), (((v3 : Nat) : Int) == Int.ofNat v3, true), ((decide (((v3 : Nat) : Int) < ((L0.length : Nat) : Int))), true)]) rfl (show 1 ∈ rids (orec_Table_ForkK 1) from by decide +kernel) (fun gv => by kernel_rfl) (obs_cons (beq_iff_eq.2 ((wrap_i64 (by first | omega | (simp only [List.length_set, List.length_append, List.length_cons, List.length_nil, List.length_replicate, List.length_take, List.length_drop] at * <;> omega))).trans (by first | rfl | omega))) (obs_cons (dP_of ⟨(rowV_cell (E := (encI .i64)) (L := v5) (i := v3) (q := 0) (by omega) (show ((0 + (v3 * 1)) + 0) = v3 * 1 + 0 from by omega) (show 0 + 1 ≤ 1 from by decide) rfl), (rowV_put (E := (encI .i64)) (L := v5) (i := v3) (q := 0) (l := [Value.int .i64 (L1.getD v3 0)]) (L1.getD v3 0) (by omega) (show ((0 + (v3 * 1)) + 0) = v3 * 1 + 0 from by omega) (show 0 + 1 ≤ 1 from by decide) rfl)⟩) (obs_cons (dP_of (rowV_cell (E := (encI .i64)) (L := L1) (i := v3) (q := 0) (by omega) (show ((0 + (v3 * 1)) + 0) = v3 * 1 + 0 from by omega) (show 0 + 1 ≤ 1 from by decide) rfl)) (obs_cons (blt_of (by omega)) (obs_cons (beq_iff_eq.2 (by first | rfl | exact idx_eq (by omega))) (obs_cons (blt_of (by omega)) (obs_cons (beq_iff_eq.2 (by first | rfl | exact idx_eq (by omega))) (obs_cons (dP_of ⟨(rowV_cell (E := (encI .i64)) (L := v4) (i := v3) (q := 0) (by omega) (show ((0 + (v3 * 1)) + 0) = v3 * 1 + 0 from by omega) (show 0 + 1 ≤ 1 from by decide) rfl), (rowV_put (E := (encI .i64)) (L := v4) (i := v3) (q := 0) (l := [Value.int .i64 (L0.getD v3 0)]) (L0.getD v3 0) (by omega) (show ((0 + (v3 * 1)) + 0) = v3 * 1 + 0 from by omega) (show 0 + 1 ≤ 1 from by decide) rfl)⟩) (obs_cons (dP_of (rowV_cell (E := (encI .i64)) (L := L0) (i := v3) (q := 0) (by omega) (show ((0 + (v3 * 1)) + 0) = v3 * 1 + 0 from by omega) (show 0 + 1 ≤ 1 from by decide) rfl)) (obs_cons (blt_of (by omega)) (obs_cons (beq_iff_eq.2 (by first | rfl | exact idx_eq (by omega))) (obs_cons (blt_of (by omega)) (obs_cons (beq_iff_eq.2 (by first | rfl | exact idx_eq (by omega))) (obs_cons (decide_eq_true (by omega)) obs_nil)))))))))))))) rfl (by decide) (by rfl) (fun _ => ⟨⟨by rfl, by rfl⟩, ⟨⟨by rfl, by rfl⟩, ⟨⟨by rfl, by rfl⟩, ⟨⟨by rfl, by rfl⟩, trivial⟩⟩⟩⟩) ⟨⟨rfl, ⟨[], by rfl⟩, by rfl⟩, ⟨(same_row (E := (encI .i64)) (α := Int) _ L0 _), ⟨(same_row (E := (encI .i64)) (α := Int) _ L1 _), ⟨⟨rfl, ⟨[], (show ([Value.slice (some ⟨4, 0, none⟩) v4.length v4.length, Value.slice (some ⟨5, 0, none⟩) v5.length v5.length] : List Value) = _ from (cons_eq (slice_eq rfl (by first | rfl | first | omega | (simp only [List.length_set, List.length_append, List.length_cons, List.length_nil, List.length_replicate, List.length_take, List.length_drop] at * <;> omega)) (by first | rfl | first | omega | (simp only [List.length_set, List.length_append, List.length_cons, List.length_nil, List.length_replicate, List.length_take, List.length_drop] at * <;> omega))) (cons_eq (slice_eq rfl (by first | rfl | first | omega | (simp only [List.length_set, List.length_append, List.length_cons, List.length_nil, List.length_replicate, List.length_take, List.length_drop] at * <;> omega)) (by first | rfl | first | omega | (simp only [List.length_set, List.length_append, List.length_cons, List.length_nil, List.length_replicate, List.length_take, List.length_drop] at * <;> omega))) rfl)).symm)⟩, by rfl⟩, ⟨(same_row (E := (encI .i64)) (α := Int) _ (v4.set v3 (L0.getD v3 0)) _), ⟨(same_row (E := (encI .i64)) (α := Int) _ (v5.set v3 (L1.getD v3 0)) _), trivial⟩⟩⟩⟩⟩⟩
          ·
            exact Mach.ok_none
        ·
          exact Mach.ok_none
      ·
        exact Mach.ok_none
    ·
      exact Mach.ok_none
  ·
    exact Mach.ok_fin (M := orec_Table_ForkM L0 L1 N) (cd := 1000000) (cm := 0) (r := (.r1 (v4) (v5) : orec_Table_ForkR)) (fu := 4000) (orc := (orcw [(0, false)] [] [] [] [])) (live := [0, 1, 2, 3, 4, 5]) (u := Value.pointer (some ⟨3, 0, none⟩)) (bl := [some (.cells [Value.slice (some ⟨1, 0, none⟩) L0.length L0.length, Value.slice (some ⟨2, 0, none⟩) L1.length L1.length] 74), some (.cells (rowV (encI .i64) L0) 84), some (.cells (rowV (encI .i64) L1) 84), some (.cells [Value.slice (some ⟨4, 0, none⟩) v4.length v4.length, Value.slice (some ⟨5, 0, none⟩) v5.length v5.length] 74), some (.cells (rowV (encI .i64) v4) 84), some (.cells (rowV (encI .i64) v5) 84)]) (ob := [((decide (((v3 : Nat) : Int) < ((L0.length : Nat) : Int))), false)]) (fun gv => by kernel_rfl) (obs_cons (decide_eq_false (by omega)) obs_nil) rfl (by decide) (by rfl) ⟨by rfl, by rfl⟩ ⟨⟨rfl, ⟨[], by rfl⟩, by rfl⟩, ⟨(same_row (E := (encI .i64)) (α := Int) _ L0 _), ⟨(same_row (E := (encI .i64)) (α := Int) _ L1 _), ⟨⟨rfl, ⟨[], by rfl⟩, by rfl⟩, ⟨(same_row (E := (encI .i64)) (α := Int) _ v4 _), ⟨(same_row (E := (encI .i64)) (α := Int) _ v5 _), trivial⟩⟩⟩⟩⟩⟩

set_option maxRecDepth 100000 in
theorem orec_Table_Fork_en (L0 : List Int) (L1 : List Int) (N : Nat) : (orec_Table_ForkM L0 L1 N).Enter Try.prog ext_Ox #[Value.pointer (some ⟨0, 0, none⟩)] (orec_Table_ForkIn L0 L1 N) := by
  unfold orec_Table_ForkIn
  refine Mach.en_ite (fun g0 => ?_) (fun g0 => ?_)
  ·
    refine Mach.en_bind (fun z1 c1 => ?_)
    cases z1 with
    | r0 =>
      exact Mach.en_fin (M := orec_Table_ForkM L0 L1 N) (cd := 1000000) (cm := 0) (r := (.r0 : orec_Table_ForkR)) (fu := 4000) (orc := (orcw [(1, true)] [] [] [] [(0, (orec_NewT0 (((L0.length : Nat) : Int))    3))])) (live := [0, 1, 2]) (u := Value.pointer none) (bl := [some (.cells [Value.slice (some ⟨1, 0, none⟩) L0.length L0.length, Value.slice (some ⟨2, 0, none⟩) L1.length L1.length] 74), some (.cells (rowV (encI .i64) L0) 84), some (.cells (rowV (encI .i64) L1) 84)]) (ob := [(dP (orec_NewP0 #[Value.int .i64 ((L0.length : Nat) : Int)] (((L0.length : Nat) : Int))    3), true), ((decide (((L0.length : Nat) : Int) > (0 : Int))), true)]) (by kernel_rfl) (obs_cons (dP_of (orec_NewC0 #[Value.int .i64 ((L0.length : Nat) : Int)] (((L0.length : Nat) : Int))   N c1  3 rfl (by decide) (by decide))) (obs_cons (decide_eq_true (by omega)) obs_nil)) rfl (by decide) (by rfl) ⟨by rfl, by rfl⟩ ⟨⟨rfl, ⟨[], by rfl⟩, by rfl⟩, ⟨(same_row (E := (encI .i64)) (α := Int) _ L0 _), ⟨(same_row (E := (encI .i64)) (α := Int) _ L1 _), trivial⟩⟩⟩
    | r1 =>
      exact Mach.en_head (bK := orec_Table_ForkC 1) (M := orec_Table_ForkM L0 L1 N) (cd := 1000000) (cm := 0) (y := (.h1m0 (0) ((List.replicate (((L0.length : Nat) : Int)).toNat (0 : Int))) ((List.replicate (((L0.length : Nat) : Int)).toNat (0 : Int))) : orec_Table_ForkX)) (fu := 4000) (orc := (orcw [(1, true)] [] [] [] [(0, (orec_NewT1 (((L0.length : Nat) : Int))    3))])) (live := [0, 1, 2, 3, 4, 5]) (tv := [some (Value.pointer (some ⟨0, 0, none⟩)), some (Value.pointer (some ⟨3, 0, none⟩)), some (Value.int .i64 ((L0.length : Nat) : Int)), some (Value.int .i64 (0 : Int))]) (bl := [some (.cells [Value.slice (some ⟨1, 0, none⟩) L0.length L0.length, Value.slice (some ⟨2, 0, none⟩) L1.length L1.length] 74), some (.cells (rowV (encI .i64) L0) 84), some (.cells (rowV (encI .i64) L1) 84), some (.cells [Value.slice (some ⟨4, 0, none⟩) (((L0.length : Nat) : Int)).toNat (((L0.length : Nat) : Int)).toNat, Value.slice (some ⟨5, 0, none⟩) (((L0.length : Nat) : Int)).toNat (((L0.length : Nat) : Int)).toNat] 74), some (.cells (rowV (encI .i64) (List.replicate (((L0.length : Nat) : Int)).toNat (0 : Int))) 84), some (.cells (rowV (encI .i64) (List.replicate (((L0.length : Nat) : Int)).toNat (0 : Int))) 84)]) (ob := [(dP (orec_NewP1 #[Value.int .i64 ((L0.length : Nat) : Int)] (((L0.length : Nat) : Int))    3), true), ((decide (((L0.length : Nat) : Int) > (0 : Int))), true)]) rfl rfl (show rids (orec_Table_ForkC 1).2 = [] from rfl) (by kernel_rfl) (obs_cons (dP_of (orec_NewC1 #[Value.int .i64 ((L0.length : Nat) : Int)] (((L0.length : Nat) : Int))   N c1  3 rfl (by decide) (by decide))) (obs_cons (decide_eq_true (by omega)) obs_nil)) rfl (by decide) (by rfl) ⟨⟨by rfl, by rfl⟩, ⟨⟨by rfl, by rfl⟩, ⟨⟨by rfl, by rfl⟩, ⟨⟨Eq.trans (show (Value.int .i64 ((0 : Nat) : Int) : Value) = Value.int .i64 (0 : Int) from (congrArg (Value.int .i64) (by first | rfl | omega))) (by rfl), by rfl⟩, trivial⟩⟩⟩⟩ ⟨⟨rfl, ⟨[], by rfl⟩, by rfl⟩, ⟨(same_row (E := (encI .i64)) (α := Int) _ L0 _), ⟨(same_row (E := (encI .i64)) (α := Int) _ L1 _), ⟨⟨rfl, ⟨[], (show ([Value.slice (some ⟨4, 0, none⟩) (((L0.length : Nat) : Int)).toNat (((L0.length : Nat) : Int)).toNat, Value.slice (some ⟨5, 0, none⟩) (((L0.length : Nat) : Int)).toNat (((L0.length : Nat) : Int)).toNat] : List Value) = _ from (cons_eq (slice_eq rfl (by first | rfl | first | omega | (simp only [List.length_set, List.length_append, List.length_cons, List.length_nil, List.length_replicate, List.length_take, List.length_drop] at * <;> omega)) (by first | rfl | first | omega | (simp only [List.length_set, List.length_append, List.length_cons, List.length_nil, List.length_replicate, List.length_take, List.length_drop] at * <;> omega))) (cons_eq (slice_eq rfl (by first | rfl | first | omega | (simp only [List.length_set, List.length_append, List.length_cons, List.length_nil, List.length_replicate, List.length_take, List.length_drop] at * <;> omega)) (by first | rfl | first | omega | (simp only [List.length_set, List.length_append, List.length_cons, List.length_nil, List.length_replicate, List.length_take, List.length_drop] at * <;> omega))) rfl)).symm)⟩, by rfl⟩, ⟨(same_row (E := (encI .i64)) (α := Int) _ (List.replicate (((L0.length : Nat) : Int)).toNat (0 : Int)) _), ⟨(same_row (E := (encI .i64)) (α := Int) _ (List.replicate (((L0.length : Nat) : Int)).toNat (0 : Int)) _), trivial⟩⟩⟩⟩⟩⟩
  ·
    refine Mach.en_bind (fun z1 c1 => ?_)
    cases z1 with
    | r0 =>
      exact Mach.en_fin (M := orec_Table_ForkM L0 L1 N) (cd := 1000000) (cm := 0) (r := (.r0 : orec_Table_ForkR)) (fu := 4000) (orc := (orcw [(1, false)] [] [] [] [(0, (orec_NewT0 ((0 : Int))    3))])) (live := [0, 1, 2]) (u := Value.pointer none) (bl := [some (.cells [Value.slice (some ⟨1, 0, none⟩) L0.length L0.length, Value.slice (some ⟨2, 0, none⟩) L1.length L1.length] 74), some (.cells (rowV (encI .i64) L0) 84), some (.cells (rowV (encI .i64) L1) 84)]) (ob := [(dP (orec_NewP0 #[Value.int .i64 (0 : Int)] ((0 : Int))    3), true), ((decide (((L0.length : Nat) : Int) > (0 : Int))), false)]) (by kernel_rfl) (obs_cons (dP_of (orec_NewC0 #[Value.int .i64 (0 : Int)] ((0 : Int))   N c1  3 rfl (by decide) (by decide))) (obs_cons (decide_eq_false (by omega)) obs_nil)) rfl (by decide) (by rfl) ⟨by rfl, by rfl⟩ ⟨⟨rfl, ⟨[], by rfl⟩, by rfl⟩, ⟨(same_row (E := (encI .i64)) (α := Int) _ L0 _), ⟨(same_row (E := (encI .i64)) (α := Int) _ L1 _), trivial⟩⟩⟩
    | r1 =>
      exact Mach.en_head (bK := orec_Table_ForkC 1) (M := orec_Table_ForkM L0 L1 N) (cd := 1000000) (cm := 0) (y := (.h1m0 (0) ((List.replicate ((0 : Int)).toNat (0 : Int))) ((List.replicate ((0 : Int)).toNat (0 : Int))) : orec_Table_ForkX)) (fu := 4000) (orc := (orcw [(1, false)] [] [] [] [(0, (orec_NewT1 ((0 : Int))    3))])) (live := [0, 1, 2, 3, 4, 5]) (tv := [some (Value.pointer (some ⟨0, 0, none⟩)), some (Value.pointer (some ⟨3, 0, none⟩)), some (Value.int .i64 ((L0.length : Nat) : Int)), some (Value.int .i64 (0 : Int))]) (bl := [some (.cells [Value.slice (some ⟨1, 0, none⟩) L0.length L0.length, Value.slice (some ⟨2, 0, none⟩) L1.length L1.length] 74), some (.cells (rowV (encI .i64) L0) 84), some (.cells (rowV (encI .i64) L1) 84), some (.cells [Value.slice (some ⟨4, 0, none⟩) ((0 : Int)).toNat ((0 : Int)).toNat, Value.slice (some ⟨5, 0, none⟩) ((0 : Int)).toNat ((0 : Int)).toNat] 74), some (.cells (rowV (encI .i64) (List.replicate ((0 : Int)).toNat (0 : Int))) 84), some (.cells (rowV (encI .i64) (List.replicate ((0 : Int)).toNat (0 : Int))) 84)]) (ob := [(dP (orec_NewP1 #[Value.int .i64 (0 : Int)] ((0 : Int))    3), true), ((decide (((L0.length : Nat) : Int) > (0 : Int))), false)]) rfl rfl (show rids (orec_Table_ForkC 1).2 = [] from rfl) (by kernel_rfl) (obs_cons (dP_of (orec_NewC1 #[Value.int .i64 (0 : Int)] ((0 : Int))   N c1  3 rfl (by decide) (by decide))) (obs_cons (decide_eq_false (by omega)) obs_nil)) rfl (by decide) (by rfl) ⟨⟨by rfl, by rfl⟩, ⟨⟨by rfl, by rfl⟩, ⟨⟨by rfl, by rfl⟩, ⟨⟨Eq.trans (show (Value.int .i64 ((0 : Nat) : Int) : Value) = Value.int .i64 (0 : Int) from (congrArg (Value.int .i64) (by first | rfl | omega))) (by rfl), by rfl⟩, trivial⟩⟩⟩⟩ ⟨⟨rfl, ⟨[], by rfl⟩, by rfl⟩, ⟨(same_row (E := (encI .i64)) (α := Int) _ L0 _), ⟨(same_row (E := (encI .i64)) (α := Int) _ L1 _), ⟨⟨rfl, ⟨[], (show ([Value.slice (some ⟨4, 0, none⟩) ((0 : Int)).toNat ((0 : Int)).toNat, Value.slice (some ⟨5, 0, none⟩) ((0 : Int)).toNat ((0 : Int)).toNat] : List Value) = _ from (cons_eq (slice_eq rfl (by first | rfl | first | omega | (simp only [List.length_set, List.length_append, List.length_cons, List.length_nil, List.length_replicate, List.length_take, List.length_drop] at * <;> omega)) (by first | rfl | first | omega | (simp only [List.length_set, List.length_append, List.length_cons, List.length_nil, List.length_replicate, List.length_take, List.length_drop] at * <;> omega))) (cons_eq (slice_eq rfl (by first | rfl | first | omega | (simp only [List.length_set, List.length_append, List.length_cons, List.length_nil, List.length_replicate, List.length_take, List.length_drop] at * <;> omega)) (by first | rfl | first | omega | (simp only [List.length_set, List.length_append, List.length_cons, List.length_nil, List.length_replicate, List.length_take, List.length_drop] at * <;> omega))) rfl)).symm)⟩, by rfl⟩, ⟨(same_row (E := (encI .i64)) (α := Int) _ (List.replicate ((0 : Int)).toNat (0 : Int)) _), ⟨(same_row (E := (encI .i64)) (α := Int) _ (List.replicate ((0 : Int)).toNat (0 : Int)) _), trivial⟩⟩⟩⟩⟩⟩

set_option maxRecDepth 100000 in
theorem orec_Table_Fork_spec (L0 : List Int) (L1 : List Int) (N : Nat) (r : orec_Table_ForkR) (h : orec_Table_Fork L0 L1 N = some r) : LSpec Try.prog 26 #[Value.pointer (some ⟨0, 0, none⟩)] [.cells [Value.slice (some ⟨1, 0, none⟩) L0.length L0.length, Value.slice (some ⟨2, 0, none⟩) L1.length L1.length] 74, .cells (rowV (encI .i64) L0) 84, .cells (rowV (encI .i64) L1) 84] (orec_Table_ForkV L0 L1 r) (orec_Table_ForkPo L0 L1 r) :=
  Mach.spec fit_Ox (orec_Table_ForkM L0 L1 N) Try.func26 (by kernel_rfl) (by kernel_rfl) (fun x => by cases x <;> exact le_far _ rfl) (fun r => by cases r <;> exact le_far _ rfl) (fun x => by
    cases x with
    | h1m0 _ _ _ => exact fun _ => (show ¬ (1 ∈ rids (orec_Table_ForkC 1).2) from by decide +kernel)
    ) (fun x => (show (orec_Table_ForkM L0 L1 N).Ok Try.prog ext_Ox x (orec_Table_ForkStep L0 L1 N x) from by
    cases x with
    | h1m0 v3 v4 v5 => exact orec_Table_Fork_ok1_0 L0 L1 v3 v4 v5 N
    )) (orec_Table_Fork_en L0 L1 N) (n := N) h

noncomputable def orec_Table_ForkT0 (L0 : List Int) (L1 : List Int) (k0 : Nat) (k1 : Nat) (k2 : Nat) (n : Nat) : Told := .call [(k0, .cells [Value.slice (some ⟨k1, 0, none⟩) L0.length L0.length, Value.slice (some ⟨k2, 0, none⟩) L1.length L1.length] 74), (k1, .cells (rowV (encI .i64) L0) 84), (k2, .cells (rowV (encI .i64) L1) 84)] (Value.pointer none) [] 0
def orec_Table_ForkP0 (A : Array Value) (L0 : List Int) (L1 : List Int) (k0 : Nat) (k1 : Nat) (k2 : Nat) (n : Nat) : Prop := CallSpec Try.prog 26 A [(k0, .cells [Value.slice (some ⟨k1, 0, none⟩) L0.length L0.length, Value.slice (some ⟨k2, 0, none⟩) L1.length L1.length] 74), (k1, .cells (rowV (encI .i64) L0) 84), (k2, .cells (rowV (encI .i64) L1) 84)] (Value.pointer none) [] n 0

set_option maxRecDepth 100000 in
theorem orec_Table_ForkC0 (A : Array Value) (L0 : List Int) (L1 : List Int) (N : Nat) (h : orec_Table_Fork L0 L1 N = some (.r0)) (k0 : Nat) (k1 : Nat) (k2 : Nat) (n : Nat) (hA : A = #[Value.pointer (some ⟨k0, 0, none⟩)]) (hnd : ([k0, k1, k2] : List Nat).Nodup) (hlt : ∀ k ∈ ([k0, k1, k2] : List Nat), k < n) : orec_Table_ForkP0 A L0 L1 k0 k1 k2 n :=
  cs_args hA (LSpec.callL (show LSpec Try.prog 26 #[Value.pointer (some ⟨0, 0, none⟩)] [.cells [Value.slice (some ⟨1, 0, none⟩) L0.length L0.length, Value.slice (some ⟨2, 0, none⟩) L1.length L1.length] 74, .cells (rowV (encI .i64) L0) 84, .cells (rowV (encI .i64) L1) 84] (Value.pointer none) [some (.cells [Value.slice (some ⟨1, 0, none⟩) L0.length L0.length, Value.slice (some ⟨2, 0, none⟩) L1.length L1.length] 74), some (.cells (rowV (encI .i64) L0) 84), some (.cells (rowV (encI .i64) L1) 84)] from orec_Table_Fork_spec L0 L1 N _ h) [k0, k1, k2] n [] rfl hnd hlt (show 3 ≤ 3 from by decide) (show ∀ j ∈ ([] : List Nat), j < 3 from by decide) (by rfl) ⟨rfl, ⟨(under_row _ _ _), ⟨(under_row _ _ _), trivial⟩⟩⟩ (by rfl) ⟨rfl, ⟨(under_row _ _ _), ⟨(under_row _ _ _), trivial⟩⟩⟩ ⟨.inr rfl, ⟨.inr rfl, ⟨.inr rfl, trivial⟩⟩⟩ rfl rfl rfl (cons_eq (pair_eq rfl rfl) (cons_eq (pair_eq rfl (renO_row _ _ _)) (cons_eq (pair_eq rfl (renO_row _ _ _)) rfl))) rfl)

noncomputable def orec_Table_ForkT1 (L0 : List Int) (L1 : List Int) (w2 : List Int) (w3 : List Int) (k0 : Nat) (k1 : Nat) (k2 : Nat) (n : Nat) : Told := .call [(k0, .cells [Value.slice (some ⟨k1, 0, none⟩) L0.length L0.length, Value.slice (some ⟨k2, 0, none⟩) L1.length L1.length] 74), (k1, .cells (rowV (encI .i64) L0) 84), (k2, .cells (rowV (encI .i64) L1) 84)] (Value.pointer (some ⟨n, 0, none⟩)) [(n, some (.cells [Value.slice (some ⟨(n + 1), 0, none⟩) w2.length w2.length, Value.slice (some ⟨(n + 2), 0, none⟩) w3.length w3.length] 74)), ((n + 1), some (.cells (rowV (encI .i64) w2) 84)), ((n + 2), some (.cells (rowV (encI .i64) w3) 84))] 3
def orec_Table_ForkP1 (A : Array Value) (L0 : List Int) (L1 : List Int) (w2 : List Int) (w3 : List Int) (k0 : Nat) (k1 : Nat) (k2 : Nat) (n : Nat) : Prop := CallSpec Try.prog 26 A [(k0, .cells [Value.slice (some ⟨k1, 0, none⟩) L0.length L0.length, Value.slice (some ⟨k2, 0, none⟩) L1.length L1.length] 74), (k1, .cells (rowV (encI .i64) L0) 84), (k2, .cells (rowV (encI .i64) L1) 84)] (Value.pointer (some ⟨n, 0, none⟩)) [(n, some (.cells [Value.slice (some ⟨(n + 1), 0, none⟩) w2.length w2.length, Value.slice (some ⟨(n + 2), 0, none⟩) w3.length w3.length] 74)), ((n + 1), some (.cells (rowV (encI .i64) w2) 84)), ((n + 2), some (.cells (rowV (encI .i64) w3) 84))] n 3

set_option maxRecDepth 100000 in
theorem orec_Table_ForkC1 (A : Array Value) (L0 : List Int) (L1 : List Int) (w2 : List Int) (w3 : List Int) (N : Nat) (h : orec_Table_Fork L0 L1 N = some (.r1 w2 w3)) (k0 : Nat) (k1 : Nat) (k2 : Nat) (n : Nat) (hA : A = #[Value.pointer (some ⟨k0, 0, none⟩)]) (hnd : ([k0, k1, k2] : List Nat).Nodup) (hlt : ∀ k ∈ ([k0, k1, k2] : List Nat), k < n) : orec_Table_ForkP1 A L0 L1 w2 w3 k0 k1 k2 n :=
  cs_args hA (LSpec.callL (show LSpec Try.prog 26 #[Value.pointer (some ⟨0, 0, none⟩)] [.cells [Value.slice (some ⟨1, 0, none⟩) L0.length L0.length, Value.slice (some ⟨2, 0, none⟩) L1.length L1.length] 74, .cells (rowV (encI .i64) L0) 84, .cells (rowV (encI .i64) L1) 84] (Value.pointer (some ⟨3, 0, none⟩)) [some (.cells [Value.slice (some ⟨1, 0, none⟩) L0.length L0.length, Value.slice (some ⟨2, 0, none⟩) L1.length L1.length] 74), some (.cells (rowV (encI .i64) L0) 84), some (.cells (rowV (encI .i64) L1) 84), some (.cells [Value.slice (some ⟨4, 0, none⟩) w2.length w2.length, Value.slice (some ⟨5, 0, none⟩) w3.length w3.length] 74), some (.cells (rowV (encI .i64) w2) 84), some (.cells (rowV (encI .i64) w3) 84)] from orec_Table_Fork_spec L0 L1 N _ h) [k0, k1, k2] n [3, 4, 5] rfl hnd hlt (show 3 ≤ 6 from by decide) (show ∀ j ∈ ([3, 4, 5] : List Nat), j < 6 from by decide) (by rfl) ⟨rfl, ⟨(under_row _ _ _), ⟨(under_row _ _ _), trivial⟩⟩⟩ (by rfl) ⟨rfl, ⟨(under_row _ _ _), ⟨(under_row _ _ _), ⟨rfl, ⟨(under_row _ _ _), ⟨(under_row _ _ _), trivial⟩⟩⟩⟩⟩⟩ ⟨.inr rfl, ⟨.inr rfl, ⟨.inr rfl, ⟨(by decide), ⟨(by decide), ⟨(by decide), trivial⟩⟩⟩⟩⟩⟩ rfl rfl rfl (cons_eq (pair_eq rfl rfl) (cons_eq (pair_eq rfl (renO_row _ _ _)) (cons_eq (pair_eq rfl (renO_row _ _ _)) rfl))) (cons_eq (pair_eq rfl (some_eq rfl)) (cons_eq (pair_eq rfl (some_eq (renO_row _ _ _))) (cons_eq (pair_eq rfl (some_eq (renO_row _ _ _))) rfl))))

noncomputable def ref03_SameAllV (L0 : List R_iii) : ref03_SameAllR → Value
  | .r0 w1 => Value.bool w1
noncomputable def ref03_SameAllPo (L0 : List R_iii) : ref03_SameAllR → List (Option AObj)
  | .r0 w1 => [some (.cells (rowV E_iii L0) 24)]

def ref03_SameAllHd : ref03_SameAllX → Nat
  | .h1m0 => 1
noncomputable def ref03_SameAllL (L0 : List R_iii) : ref03_SameAllX → List (Nat × Value)
  | .h1m0 => [(0, Value.slice none 0 0), (1, Value.slice (some ⟨0, 0, none⟩) L0.length L0.length), (5, Value.int .i64 (0 : Int))]
noncomputable def ref03_SameAllH (L0 : List R_iii) : ref03_SameAllX → List (Option AObj)
  | .h1m0 => [some (.cells (rowV E_iii L0) 24)]

noncomputable def ref03_SameAllC : Nat → Code × List Kont
  | 1 => headOf [1, 1, 0, 1, 3] (bodyC Try.f28) []
  | _ => (.skip, [])
def ref03_SameAllIL : Nat → Bool
  | 1 => true
  | _ => true
noncomputable def ref03_SameAllK (i : Nat) : List Kont := match ref03_SameAllIL i with | true => .rnd i :: (ref03_SameAllC i).2 | false => (ref03_SameAllC i).2

noncomputable def ref03_SameAllM (L0 : List R_iii) (N : Nat) : Mach := ⟨Try.f28, [.cells (rowV E_iii L0) 24], ref03_SameAllX, ref03_SameAllR, ref03_SameAllStep L0 N, ref03_SameAllHd, ref03_SameAllC, ref03_SameAllIL, ref03_SameAllL L0, ref03_SameAllH L0, ref03_SameAllV L0, ref03_SameAllPo L0⟩

set_option maxRecDepth 100000 in
theorem ref03_SameAll_ok1_0 (L0 : List R_iii) (N : Nat) : (ref03_SameAllM L0 N).Ok Try.prog ext_Ox (.h1m0 : ref03_SameAllX) (ref03_SameAllStep L0 N (.h1m0 : ref03_SameAllX)) := by
  show (ref03_SameAllM L0 N).Ok Try.prog ext_Ox (.h1m0 : ref03_SameAllX) (ref03_SameAll_h1m0 L0 N)
  unfold ref03_SameAll_h1m0
  exact Mach.ok_fin (M := ref03_SameAllM L0 N) (cd := 1000000) (cm := 0) (r := (.r0 (true) : ref03_SameAllR)) (fu := 4000) (orc := (orcw [] [] [] [] [])) (live := [0]) (u := Value.bool true) (bl := [some (.cells (rowV E_iii L0) 24)]) (ob := []) (fun gv => by kernel_rfl) obs_nil rfl (by decide) (by rfl) ⟨by rfl, by rfl⟩ ⟨(same_row (E := E_iii) (α := R_iii) _ L0 _), trivial⟩

set_option maxRecDepth 100000 in
theorem ref03_SameAll_en (L0 : List R_iii) (N : Nat) : (ref03_SameAllM L0 N).Enter Try.prog ext_Ox #[Value.slice none 0 0, Value.slice (some ⟨0, 0, none⟩) L0.length L0.length] (ref03_SameAllIn L0 N) := by
  unfold ref03_SameAllIn
  refine Mach.en_ite (fun g0 => ?_) (fun g0 => ?_)
  ·
    exact Mach.en_fin (M := ref03_SameAllM L0 N) (cd := 1000000) (cm := 0) (r := (.r0 (false) : ref03_SameAllR)) (fu := 4000) (orc := (orcw [(0, true)] [] [] [] [])) (live := [0]) (u := Value.bool false) (bl := [some (.cells (rowV E_iii L0) 24)]) (ob := [(((0 : Int) != ((L0.length : Nat) : Int)), true)]) (by kernel_rfl) (obs_cons (bne_iff_ne.2 (by omega)) obs_nil) rfl (by decide) (by rfl) ⟨by rfl, by rfl⟩ ⟨(same_row (E := E_iii) (α := R_iii) _ L0 _), trivial⟩
  ·
    exact Mach.en_head (bK := ref03_SameAllC 1) (M := ref03_SameAllM L0 N) (cd := 1000000) (cm := 0) (y := (.h1m0 : ref03_SameAllX)) (fu := 4000) (orc := (orcw [(0, false)] [] [] [] [])) (live := [0]) (tv := [some (Value.slice none 0 0), some (Value.slice (some ⟨0, 0, none⟩) L0.length L0.length), some (Value.int .i64 (0 : Int))]) (bl := [some (.cells (rowV E_iii L0) 24)]) (ob := [(((0 : Int) != ((L0.length : Nat) : Int)), false)]) rfl rfl (show rids (ref03_SameAllC 1).2 = [] from rfl) (by kernel_rfl) (obs_cons (bne_eq_false_iff_eq.2 (by omega)) obs_nil) rfl (by decide) (by rfl) ⟨⟨by rfl, by rfl⟩, ⟨⟨by rfl, by rfl⟩, ⟨⟨by rfl, by rfl⟩, trivial⟩⟩⟩ ⟨(same_row (E := E_iii) (α := R_iii) _ L0 _), trivial⟩

set_option maxRecDepth 100000 in
theorem ref03_SameAll_spec (L0 : List R_iii) (N : Nat) (r : ref03_SameAllR) (h : ref03_SameAll L0 N = some r) : LSpec Try.prog 28 #[Value.slice none 0 0, Value.slice (some ⟨0, 0, none⟩) L0.length L0.length] [.cells (rowV E_iii L0) 24] (ref03_SameAllV L0 r) (ref03_SameAllPo L0 r) :=
  Mach.spec fit_Ox (ref03_SameAllM L0 N) Try.func28 (by kernel_rfl) (by kernel_rfl) (fun x => by cases x <;> exact le_far _ rfl) (fun r => by cases r <;> exact le_far _ rfl) (fun x => by
    cases x with
    | h1m0 => exact fun _ => (show ¬ (1 ∈ rids (ref03_SameAllC 1).2) from by decide +kernel)
    ) (fun x => (show (ref03_SameAllM L0 N).Ok Try.prog ext_Ox x (ref03_SameAllStep L0 N x) from by
    cases x with
    | h1m0 => exact ref03_SameAll_ok1_0 L0 N
    )) (ref03_SameAll_en L0 N) (n := N) h

noncomputable def ref03_SameAllT0 (L0 : List R_iii) (w1 : Bool) (k0 : Nat) (n : Nat) : Told := .call [(k0, .cells (rowV E_iii L0) 24)] (Value.bool w1) [] 0
def ref03_SameAllP0 (A : Array Value) (L0 : List R_iii) (w1 : Bool) (k0 : Nat) (n : Nat) : Prop := CallSpec Try.prog 28 A [(k0, .cells (rowV E_iii L0) 24)] (Value.bool w1) [] n 0

set_option maxRecDepth 100000 in
theorem ref03_SameAllC0 (A : Array Value) (L0 : List R_iii) (w1 : Bool) (N : Nat) (h : ref03_SameAll L0 N = some (.r0 w1)) (k0 : Nat) (n : Nat) (hA : A = #[Value.slice none 0 0, Value.slice (some ⟨k0, 0, none⟩) L0.length L0.length]) (hnd : ([k0] : List Nat).Nodup) (hlt : ∀ k ∈ ([k0] : List Nat), k < n) : ref03_SameAllP0 A L0 w1 k0 n :=
  cs_args hA (LSpec.callL (show LSpec Try.prog 28 #[Value.slice none 0 0, Value.slice (some ⟨0, 0, none⟩) L0.length L0.length] [.cells (rowV E_iii L0) 24] (Value.bool w1) [some (.cells (rowV E_iii L0) 24)] from ref03_SameAll_spec L0 N _ h) [k0] n [] rfl hnd hlt (show 1 ≤ 1 from by decide) (show ∀ j ∈ ([] : List Nat), j < 1 from by decide) (by rfl) ⟨(under_row _ _ _), trivial⟩ (by rfl) ⟨(under_row _ _ _), trivial⟩ ⟨.inr rfl, trivial⟩ rfl rfl rfl (cons_eq (pair_eq rfl (renO_row _ _ _)) rfl) rfl)

noncomputable def ref03_SameAll_2V (L0 : List R_iii) (L1 : List R_iii) : ref03_SameAll_2R → Value
  | .r0 w2 => Value.bool w2
noncomputable def ref03_SameAll_2Po (L0 : List R_iii) (L1 : List R_iii) : ref03_SameAll_2R → List (Option AObj)
  | .r0 w2 => [some (.cells (rowV E_iii L0) 24), some (.cells (rowV E_iii L1) 24)]

def ref03_SameAll_2Hd : ref03_SameAll_2X → Nat
  | .h1m0 v2 => 1
noncomputable def ref03_SameAll_2L (L0 : List R_iii) (L1 : List R_iii) : ref03_SameAll_2X → List (Nat × Value)
  | .h1m0 v2 => [(0, Value.slice (some ⟨0, 0, none⟩) L0.length L0.length), (1, Value.slice (some ⟨1, 0, none⟩) L1.length L1.length), (5, Value.int .i64 ((v2 : Nat) : Int))]
noncomputable def ref03_SameAll_2H (L0 : List R_iii) (L1 : List R_iii) : ref03_SameAll_2X → List (Option AObj)
  | .h1m0 v2 => [some (.cells (rowV E_iii L0) 24), some (.cells (rowV E_iii L1) 24)]

noncomputable def ref03_SameAll_2C : Nat → Code × List Kont
  | 1 => headOf [1, 1, 0, 1, 3] (bodyC Try.f28) []
  | _ => (.skip, [])
def ref03_SameAll_2IL : Nat → Bool
  | 1 => true
  | _ => true
noncomputable def ref03_SameAll_2K (i : Nat) : List Kont := match ref03_SameAll_2IL i with | true => .rnd i :: (ref03_SameAll_2C i).2 | false => (ref03_SameAll_2C i).2

noncomputable def ref03_SameAll_2M (L0 : List R_iii) (L1 : List R_iii) (N : Nat) : Mach := ⟨Try.f28, [.cells (rowV E_iii L0) 24, .cells (rowV E_iii L1) 24], ref03_SameAll_2X, ref03_SameAll_2R, ref03_SameAll_2Step L0 L1 N, ref03_SameAll_2Hd, ref03_SameAll_2C, ref03_SameAll_2IL, ref03_SameAll_2L L0 L1, ref03_SameAll_2H L0 L1, ref03_SameAll_2V L0 L1, ref03_SameAll_2Po L0 L1⟩

set_option maxRecDepth 100000 in
theorem ref03_SameAll_2_ok1_0 (L0 : List R_iii) (L1 : List R_iii) (v2 : Nat) (N : Nat) : (ref03_SameAll_2M L0 L1 N).Ok Try.prog ext_Ox (.h1m0 v2 : ref03_SameAll_2X) (ref03_SameAll_2Step L0 L1 N (.h1m0 v2 : ref03_SameAll_2X)) := by
  show (ref03_SameAll_2M L0 L1 N).Ok Try.prog ext_Ox (.h1m0 v2 : ref03_SameAll_2X) (ref03_SameAll_2_h1m0 L0 L1 N v2)
  unfold ref03_SameAll_2_h1m0
  refine Mach.ok_ite (fun g0 => ?_) (fun g0 => ?_)
  ·
    refine Mach.ok_ite (fun g1 => ?_) (fun g1 => ?_)
    ·
      refine Mach.ok_ite (fun g2 => ?_) (fun g2 => ?_)
      ·
        exact Mach.ok_fin (M := ref03_SameAll_2M L0 L1 N) (cd := 1000000) (cm := 0) (r := (.r0 (false) : ref03_SameAll_2R)) (fu := 4000) (orc := (orcw [(0, true), (1, true)] [] [(0, v2), (1, v2)] [(0, [.i (L0.getD v2 R_iii.z).a0, .i (L0.getD v2 R_iii.z).a1, .i (L0.getD v2 R_iii.z).a2]), (1, [.i (L1.getD v2 R_iii.z).a0, .i (L1.getD v2 R_iii.z).a1, .i (L1.getD v2 R_iii.z).a2])] [])) (live := [0, 1]) (u := Value.bool false) (bl := [some (.cells (rowV E_iii L0) 24), some (.cells (rowV E_iii L1) 24)]) (ob := [((!(((L0.getD v2 R_iii.z).a0 == (L1.getD v2 R_iii.z).a0) && (((L0.getD v2 R_iii.z).a1 == (L1.getD v2 R_iii.z).a1) && (((L0.getD v2 R_iii.z).a2 == (L1.getD v2 R_iii.z).a2) && true)))), true), (sameR (takeN 3 (List.drop (0 + (v2 * 3)) (rowV E_iii L1))) [.i (L1.getD v2 R_iii.z).a0, .i (L1.getD v2 R_iii.z).a1, .i (L1.getD v2 R_iii.z).a2], true), (Nat.blt v2 L1.length, true), (((v2 : Nat) : Int) == Int.ofNat v2, true), (sameR (takeN 3 (List.drop (0 + (v2 * 3)) (rowV E_iii L0))) [.i (L0.getD v2 R_iii.z).a0, .i (L0.getD v2 R_iii.z).a1, .i (L0.getD v2 R_iii.z).a2], true), (Nat.blt v2 L0.length, true), (((v2 : Nat) : Int) == Int.ofNat v2, true), ((decide (((v2 : Nat) : Int) < ((L0.length : Nat) : Int))), true)]) (fun gv => by kernel_rfl) (obs_cons (by rw [Bool.not_eq_true']; exact Bool.eq_false_iff.2 (by simp only [ne_eq, Bool.and_true, Bool.and_eq_true, beq_iff_eq]; first | omega | (intro hh; simp_all; done))) (obs_cons (rowV_load (E := E_iii) (L := L1) (i := v2) (q := 0) (by omega) (show (0 + (v2 * 3)) = v2 * 3 + 0 from by omega) (show 0 + 3 ≤ 3 from by decide) rfl rfl) (obs_cons (blt_of (by omega)) (obs_cons (beq_iff_eq.2 (by first | rfl | exact idx_eq (by omega))) (obs_cons (rowV_load (E := E_iii) (L := L0) (i := v2) (q := 0) (by omega) (show (0 + (v2 * 3)) = v2 * 3 + 0 from by omega) (show 0 + 3 ≤ 3 from by decide) rfl rfl) (obs_cons (blt_of (by omega)) (obs_cons (beq_iff_eq.2 (by first | rfl | exact idx_eq (by omega))) (obs_cons (decide_eq_true (by omega)) obs_nil)))))))) rfl (by decide) (by rfl) ⟨by rfl, by rfl⟩ ⟨(same_row (E := E_iii) (α := R_iii) _ L0 _), ⟨(same_row (E := E_iii) (α := R_iii) _ L1 _), trivial⟩⟩
      ·
        refine Mach.ok_ite (fun g3 => ?_) (fun g3 => ?_)
        ·
          exact Mach.ok_next (M := ref03_SameAll_2M L0 L1 N) (cd := 1000000) (cm := 0) (y := (.h1m0 ((v2 + 1)) : ref03_SameAll_2X)) (fu := 4000) (orc := (orcw [(0, true), (1, false)] [(0, (((v2 + 1) : Nat) : Int))] [(0, v2), (1, v2)] [(0, [.i (L0.getD v2 R_iii.z).a0, .i (L0.getD v2 R_iii.z).a1, .i (L0.getD v2 R_iii.z).a2]), (1, [.i (L1.getD v2 R_iii.z).a0, .i (L1.getD v2 R_iii.z).a1, .i (L1.getD v2 R_iii.z).a2])] [])) (live := [0, 1]) (tv := fun _ => [some (Value.slice (some ⟨0, 0, none⟩) L0.length L0.length), some (Value.slice (some ⟨1, 0, none⟩) L1.length L1.length), some (Value.int .i64 (((v2 + 1) : Nat) : Int))]) (bl := [some (.cells (rowV E_iii L0) 24), some (.cells (rowV E_iii L1) 24)]) (ob := [((IntKind.i64.wrap (((v2 : Nat) : Int) + (1 : Int))) == (((v2 + 1) : Nat) : Int), true), ((!(((L0.getD v2 R_iii.z).a0 == (L1.getD v2 R_iii.z).a0) && (((L0.getD v2 R_iii.z).a1 == (L1.getD v2 R_iii.z).a1) && (((L0.getD v2 R_iii.z).a2 == (L1.getD v2 R_iii.z).a2) && true)))), false), (sameR (takeN 3 (List.drop (0 + (v2 * 3)) (rowV E_iii L1))) [.i (L1.getD v2 R_iii.z).a0, .i (L1.getD v2 R_iii.z).a1, .i (L1.getD v2 R_iii.z).a2], true), (Nat.blt v2 L1.length, true), (((v2 : Nat) : Int) == Int.ofNat v2, true), (sameR (takeN 3 (List.drop (0 + (v2 * 3)) (rowV E_iii L0))) [.i (L0.getD v2 R_iii.z).a0, .i (L0.getD v2 R_iii.z).a1, .i (L0.getD v2 R_iii.z).a2], true), (Nat.blt v2 L0.length, true), (((v2 : Nat) : Int) == Int.ofNat v2, true), ((decide (((v2 : Nat) : Int) < ((L0.length : Nat) : Int))), true)]) rfl (show 1 ∈ rids (ref03_SameAll_2K 1) from by decide +kernel) (fun gv => by kernel_rfl) (obs_cons (beq_iff_eq.2 ((wrap_i64 (by first | omega | (simp only [List.length_set, List.length_append, List.length_cons, List.length_nil, List.length_replicate, List.length_take, List.length_drop] at * <;> omega))).trans (by first | rfl | omega))) (obs_cons (by rw [Bool.not_eq_false']; first | (simp only [beq_self_eq_true, Bool.and_self]; done) | (simp only [Bool.and_true, Bool.and_eq_true, beq_iff_eq] <;> first | omega | (simp_all; done))) (obs_cons (rowV_load (E := E_iii) (L := L1) (i := v2) (q := 0) (by omega) (show (0 + (v2 * 3)) = v2 * 3 + 0 from by omega) (show 0 + 3 ≤ 3 from by decide) rfl rfl) (obs_cons (blt_of (by omega)) (obs_cons (beq_iff_eq.2 (by first | rfl | exact idx_eq (by omega))) (obs_cons (rowV_load (E := E_iii) (L := L0) (i := v2) (q := 0) (by omega) (show (0 + (v2 * 3)) = v2 * 3 + 0 from by omega) (show 0 + 3 ≤ 3 from by decide) rfl rfl) (obs_cons (blt_of (by omega)) (obs_cons (beq_iff_eq.2 (by first | rfl | exact idx_eq (by omega))) (obs_cons (decide_eq_true (by omega)) obs_nil))))))))) rfl (by decide) (by rfl) (fun _ => ⟨⟨by rfl, by rfl⟩, ⟨⟨by rfl, by rfl⟩, ⟨⟨by rfl, by rfl⟩, trivial⟩⟩⟩) ⟨(same_row (E := E_iii) (α := R_iii) _ L0 _), ⟨(same_row (E := E_iii) (α := R_iii) _ L1 _), trivial⟩⟩
        ·
          exact Mach.ok_none
    ·
      exact Mach.ok_none
  ·
    exact Mach.ok_fin (M := ref03_SameAll_2M L0 L1 N) (cd := 1000000) (cm := 0) (r := (.r0 (true) : ref03_SameAll_2R)) (fu := 4000) (orc := (orcw [(0, false)] [] [] [] [])) (live := [0, 1]) (u := Value.bool true) (bl := [some (.cells (rowV E_iii L0) 24), some (.cells (rowV E_iii L1) 24)]) (ob := [((decide (((v2 : Nat) : Int) < ((L0.length : Nat) : Int))), false)]) (fun gv => by kernel_rfl) (obs_cons (decide_eq_false (by omega)) obs_nil) rfl (by decide) (by rfl) ⟨by rfl, by rfl⟩ ⟨(same_row (E := E_iii) (α := R_iii) _ L0 _), ⟨(same_row (E := E_iii) (α := R_iii) _ L1 _), trivial⟩⟩

set_option maxRecDepth 100000 in
theorem ref03_SameAll_2_en (L0 : List R_iii) (L1 : List R_iii) (N : Nat) : (ref03_SameAll_2M L0 L1 N).Enter Try.prog ext_Ox #[Value.slice (some ⟨0, 0, none⟩) L0.length L0.length, Value.slice (some ⟨1, 0, none⟩) L1.length L1.length] (ref03_SameAll_2In L0 L1 N) := by
  unfold ref03_SameAll_2In
  refine Mach.en_ite (fun g0 => ?_) (fun g0 => ?_)
  ·
    exact Mach.en_fin (M := ref03_SameAll_2M L0 L1 N) (cd := 1000000) (cm := 0) (r := (.r0 (false) : ref03_SameAll_2R)) (fu := 4000) (orc := (orcw [(0, true)] [] [] [] [])) (live := [0, 1]) (u := Value.bool false) (bl := [some (.cells (rowV E_iii L0) 24), some (.cells (rowV E_iii L1) 24)]) (ob := [((((L0.length : Nat) : Int) != ((L1.length : Nat) : Int)), true)]) (by kernel_rfl) (obs_cons (bne_iff_ne.2 (by omega)) obs_nil) rfl (by decide) (by rfl) ⟨by rfl, by rfl⟩ ⟨(same_row (E := E_iii) (α := R_iii) _ L0 _), ⟨(same_row (E := E_iii) (α := R_iii) _ L1 _), trivial⟩⟩
  ·
    exact Mach.en_head (bK := ref03_SameAll_2C 1) (M := ref03_SameAll_2M L0 L1 N) (cd := 1000000) (cm := 0) (y := (.h1m0 (0) : ref03_SameAll_2X)) (fu := 4000) (orc := (orcw [(0, false)] [] [] [] [])) (live := [0, 1]) (tv := [some (Value.slice (some ⟨0, 0, none⟩) L0.length L0.length), some (Value.slice (some ⟨1, 0, none⟩) L1.length L1.length), some (Value.int .i64 (0 : Int))]) (bl := [some (.cells (rowV E_iii L0) 24), some (.cells (rowV E_iii L1) 24)]) (ob := [((((L0.length : Nat) : Int) != ((L1.length : Nat) : Int)), false)]) rfl rfl (show rids (ref03_SameAll_2C 1).2 = [] from rfl) (by kernel_rfl) (obs_cons (bne_eq_false_iff_eq.2 (by omega)) obs_nil) rfl (by decide) (by rfl) ⟨⟨by rfl, by rfl⟩, ⟨⟨by rfl, by rfl⟩, ⟨⟨Eq.trans (show (Value.int .i64 ((0 : Nat) : Int) : Value) = Value.int .i64 (0 : Int) from (congrArg (Value.int .i64) (by first | rfl | omega))) (by rfl), by rfl⟩, trivial⟩⟩⟩ ⟨(same_row (E := E_iii) (α := R_iii) _ L0 _), ⟨(same_row (E := E_iii) (α := R_iii) _ L1 _), trivial⟩⟩

set_option maxRecDepth 100000 in
theorem ref03_SameAll_2_spec (L0 : List R_iii) (L1 : List R_iii) (N : Nat) (r : ref03_SameAll_2R) (h : ref03_SameAll_2 L0 L1 N = some r) : LSpec Try.prog 28 #[Value.slice (some ⟨0, 0, none⟩) L0.length L0.length, Value.slice (some ⟨1, 0, none⟩) L1.length L1.length] [.cells (rowV E_iii L0) 24, .cells (rowV E_iii L1) 24] (ref03_SameAll_2V L0 L1 r) (ref03_SameAll_2Po L0 L1 r) :=
  Mach.spec fit_Ox (ref03_SameAll_2M L0 L1 N) Try.func28 (by kernel_rfl) (by kernel_rfl) (fun x => by cases x <;> exact le_far _ rfl) (fun r => by cases r <;> exact le_far _ rfl) (fun x => by
    cases x with
    | h1m0 _ => exact fun _ => (show ¬ (1 ∈ rids (ref03_SameAll_2C 1).2) from by decide +kernel)
    ) (fun x => (show (ref03_SameAll_2M L0 L1 N).Ok Try.prog ext_Ox x (ref03_SameAll_2Step L0 L1 N x) from by
    cases x with
    | h1m0 v2 => exact ref03_SameAll_2_ok1_0 L0 L1 v2 N
    )) (ref03_SameAll_2_en L0 L1 N) (n := N) h

noncomputable def ref03_SameAll_2T0 (L0 : List R_iii) (L1 : List R_iii) (w2 : Bool) (k0 : Nat) (k1 : Nat) (n : Nat) : Told := .call [(k0, .cells (rowV E_iii L0) 24), (k1, .cells (rowV E_iii L1) 24)] (Value.bool w2) [] 0
def ref03_SameAll_2P0 (A : Array Value) (L0 : List R_iii) (L1 : List R_iii) (w2 : Bool) (k0 : Nat) (k1 : Nat) (n : Nat) : Prop := CallSpec Try.prog 28 A [(k0, .cells (rowV E_iii L0) 24), (k1, .cells (rowV E_iii L1) 24)] (Value.bool w2) [] n 0

set_option maxRecDepth 100000 in
theorem ref03_SameAll_2C0 (A : Array Value) (L0 : List R_iii) (L1 : List R_iii) (w2 : Bool) (N : Nat) (h : ref03_SameAll_2 L0 L1 N = some (.r0 w2)) (k0 : Nat) (k1 : Nat) (n : Nat) (hA : A = #[Value.slice (some ⟨k0, 0, none⟩) L0.length L0.length, Value.slice (some ⟨k1, 0, none⟩) L1.length L1.length]) (hnd : ([k0, k1] : List Nat).Nodup) (hlt : ∀ k ∈ ([k0, k1] : List Nat), k < n) : ref03_SameAll_2P0 A L0 L1 w2 k0 k1 n :=
  cs_args hA (LSpec.callL (show LSpec Try.prog 28 #[Value.slice (some ⟨0, 0, none⟩) L0.length L0.length, Value.slice (some ⟨1, 0, none⟩) L1.length L1.length] [.cells (rowV E_iii L0) 24, .cells (rowV E_iii L1) 24] (Value.bool w2) [some (.cells (rowV E_iii L0) 24), some (.cells (rowV E_iii L1) 24)] from ref03_SameAll_2_spec L0 L1 N _ h) [k0, k1] n [] rfl hnd hlt (show 2 ≤ 2 from by decide) (show ∀ j ∈ ([] : List Nat), j < 2 from by decide) (by rfl) ⟨(under_row _ _ _), ⟨(under_row _ _ _), trivial⟩⟩ (by rfl) ⟨(under_row _ _ _), ⟨(under_row _ _ _), trivial⟩⟩ ⟨.inr rfl, ⟨.inr rfl, trivial⟩⟩ rfl rfl rfl (cons_eq (pair_eq rfl (renO_row _ _ _)) (cons_eq (pair_eq rfl (renO_row _ _ _)) rfl)) rfl)

noncomputable def law03_OrecRunsV (a0 : Int) (o1 : Nat) (L2 : List R_iiiiiiii) (n3 : Nat) (O0 : Obj) : law03_OrecRunsR → Value
  | .r0 w2 => Value.bool w2
noncomputable def law03_OrecRunsPo (a0 : Int) (o1 : Nat) (L2 : List R_iiiiiiii) (n3 : Nat) (O0 : Obj) : law03_OrecRunsR → List (Option AObj)
  | .r0 w2 => [some (.ro O0)]

def law03_OrecRunsHd : law03_OrecRunsX → Nat
  | .h1m0 => 1
  | .h1m1 v3 v4 v5 v6 => 1
  | .h2m0 v3 v4 v5 v6 => 2
  | .h2m1 v3 v4 v5 v6 v7 => 2
  | .h3m0 v3 v5 v6 v7 => 3
  | .h3m1 v3 v4 v5 v6 v7 v8 => 3
noncomputable def law03_OrecRunsL (a0 : Int) (o1 : Nat) (L2 : List R_iiiiiiii) (n3 : Nat) (O0 : Obj) : law03_OrecRunsX → List (Nat × Value)
  | .h1m0 => [(1, Value.slice (some ⟨0, o1, none⟩) L2.length n3), (5, Value.pointer none), (7, Value.pointer (some ⟨1, 0, none⟩)), (9, Value.int .i64 (0 : Int))]
  | .h1m1 v3 v4 v5 v6 => [(1, Value.slice (some ⟨0, o1, none⟩) L2.length n3), (5, Value.pointer (some ⟨1, 0, none⟩)), (7, Value.pointer (some ⟨2, 0, none⟩)), (9, Value.int .i64 ((v3 : Nat) : Int))]
  | .h2m0 v3 v4 v5 v6 => [(1, Value.slice (some ⟨0, o1, none⟩) L2.length n3), (5, Value.pointer (some ⟨1, 0, none⟩)), (7, Value.pointer (some ⟨2, 0, none⟩)), (9, Value.int .i64 ((v3 : Nat) : Int)), (18, Value.slice none 0 0)]
  | .h2m1 v3 v4 v5 v6 v7 => [(1, Value.slice (some ⟨0, o1, none⟩) L2.length n3), (5, Value.pointer (some ⟨1, 0, none⟩)), (7, Value.pointer (some ⟨2, 0, none⟩)), (9, Value.int .i64 ((v3 : Nat) : Int)), (18, Value.slice (some ⟨3, 0, none⟩) v4.length v4.length)]
  | .h3m0 v3 v5 v6 v7 => [(1, Value.slice (some ⟨0, o1, none⟩) L2.length n3), (5, Value.pointer (some ⟨1, 0, none⟩)), (7, Value.pointer (some ⟨2, 0, none⟩)), (9, Value.int .i64 ((v3 : Nat) : Int)), (18, Value.slice none 0 0), (19, Value.int .i64 (0 : Int))]
  | .h3m1 v3 v4 v5 v6 v7 v8 => [(1, Value.slice (some ⟨0, o1, none⟩) L2.length n3), (5, Value.pointer (some ⟨1, 0, none⟩)), (7, Value.pointer (some ⟨2, 0, none⟩)), (9, Value.int .i64 ((v3 : Nat) : Int)), (18, Value.slice (some ⟨3, 0, none⟩) v4.length v4.length), (19, Value.int .i64 ((v5 : Nat) : Int))]
noncomputable def law03_OrecRunsH (a0 : Int) (o1 : Nat) (L2 : List R_iiiiiiii) (n3 : Nat) (O0 : Obj) : law03_OrecRunsX → List (Option AObj)
  | .h1m0 => [some (.ro O0), some (.cells [Value.slice none 0 0] 43)]
  | .h1m1 v3 v4 v5 v6 => [some (.ro O0), some (.cells [Value.slice (some ⟨3, 0, none⟩) v4.length v4.length, Value.slice (some ⟨4, 0, none⟩) v5.length v5.length] 74), some (.cells [Value.slice (some ⟨5, 0, none⟩) v6.length v6.length] 43), some (.cells (rowV (encI .i64) v4) 84), some (.cells (rowV (encI .i64) v5) 84), some (.cells (rowV E_iii v6) 24)]
  | .h2m0 v3 v4 v5 v6 => [some (.ro O0), some (.cells [Value.slice (some ⟨3, 0, none⟩) v4.length v4.length, Value.slice (some ⟨4, 0, none⟩) v5.length v5.length] 74), some (.cells [Value.slice (some ⟨5, 0, none⟩) v6.length v6.length] 43), some (.cells (rowV (encI .i64) v4) 84), some (.cells (rowV (encI .i64) v5) 84), some (.cells (rowV E_iii v6) 24)]
  | .h2m1 v3 v4 v5 v6 v7 => [some (.ro O0), some (.cells [Value.slice (some ⟨4, 0, none⟩) v5.length v5.length, Value.slice (some ⟨5, 0, none⟩) v6.length v6.length] 74), some (.cells [Value.slice (some ⟨6, 0, none⟩) v7.length v7.length] 43), some (.cells (rowV E_iii v4) 24), some (.cells (rowV (encI .i64) v5) 84), some (.cells (rowV (encI .i64) v6) 84), some (.cells (rowV E_iii v7) 24)]
  | .h3m0 v3 v5 v6 v7 => [some (.ro O0), some (.cells [Value.slice (some ⟨3, 0, none⟩) v5.length v5.length, Value.slice (some ⟨4, 0, none⟩) v6.length v6.length] 74), some (.cells [Value.slice (some ⟨5, 0, none⟩) v7.length v7.length] 43), some (.cells (rowV (encI .i64) v5) 84), some (.cells (rowV (encI .i64) v6) 84), some (.cells (rowV E_iii v7) 24)]
  | .h3m1 v3 v4 v5 v6 v7 v8 => [some (.ro O0), some (.cells [Value.slice (some ⟨4, 0, none⟩) v6.length v6.length, Value.slice (some ⟨5, 0, none⟩) v7.length v7.length] 74), some (.cells [Value.slice (some ⟨6, 0, none⟩) v8.length v8.length] 43), some (.cells (rowV E_iii v4) 24), some (.cells (rowV (encI .i64) v6) 84), some (.cells (rowV (encI .i64) v7) 84), some (.cells (rowV E_iii v8) 24)]

noncomputable def law03_OrecRunsC : Nat → Code × List Kont
  | 1 => headOf [1, 1, 1, 1, 0, 1, 3] (bodyC Try.f4) []
  | 2 => atOf [1, 1, 1, 1, 0, 1, 3, 7, 1, 0, 3, 1, 1, 1] (bodyC Try.f4) []
  | 3 => headOf [1, 1, 1, 1, 0, 1, 3, 7, 1, 0, 3, 1, 1, 1, 1, 1, 3] (bodyC Try.f4) []
  | _ => (.skip, [])
def law03_OrecRunsIL : Nat → Bool
  | 1 => true
  | 2 => false
  | 3 => true
  | _ => true
noncomputable def law03_OrecRunsK (i : Nat) : List Kont := match law03_OrecRunsIL i with | true => .rnd i :: (law03_OrecRunsC i).2 | false => (law03_OrecRunsC i).2

noncomputable def law03_OrecRunsM (a0 : Int) (o1 : Nat) (L2 : List R_iiiiiiii) (n3 : Nat) (O0 : Obj) (N : Nat) : Mach := ⟨Try.f4, [.ro O0], law03_OrecRunsX, law03_OrecRunsR, law03_OrecRunsStep a0 L2 n3 N, law03_OrecRunsHd, law03_OrecRunsC, law03_OrecRunsIL, law03_OrecRunsL a0 o1 L2 n3 O0, law03_OrecRunsH a0 o1 L2 n3 O0, law03_OrecRunsV a0 o1 L2 n3 O0, law03_OrecRunsPo a0 o1 L2 n3 O0⟩

set_option maxRecDepth 100000 in
theorem law03_OrecRuns_ok1_0 (a0 : Int) (o1 : Nat) (L2 : List R_iiiiiiii) (n3 : Nat) (O0 : Obj) (F0 : ∀ i, i < L2.length → RowOK O0 (o1 + i * 8) [.i (L2.getD i R_iiiiiiii.z).a0, .i (L2.getD i R_iiiiiiii.z).a1, .i (L2.getD i R_iiiiiiii.z).a2, .i (L2.getD i R_iiiiiiii.z).a3, .i (L2.getD i R_iiiiiiii.z).a4, .i (L2.getD i R_iiiiiiii.z).a5, .i (L2.getD i R_iiiiiiii.z).a6, .i (L2.getD i R_iiiiiiii.z).a7]) (N : Nat) : (law03_OrecRunsM a0 o1 L2 n3 O0 N).Ok Try.prog ext_Ox (.h1m0 : law03_OrecRunsX) (law03_OrecRunsStep a0 L2 n3 N (.h1m0 : law03_OrecRunsX)) := by
  show (law03_OrecRunsM a0 o1 L2 n3 O0 N).Ok Try.prog ext_Ox (.h1m0 : law03_OrecRunsX) (law03_OrecRuns_h1m0 a0 L2 n3 N)
  unfold law03_OrecRuns_h1m0
  by_cases g0 : (0 : Int) < ((L2.length : Nat) : Int)
  ·
    exact Mach.ok_fin (M := law03_OrecRunsM a0 o1 L2 n3 O0 N) (cd := 1000000) (cm := 0) (r := (.r0 (true) : law03_OrecRunsR)) (fu := 4000) (orc := (orcw [(0, true)] [] [] [] [])) (live := [0]) (u := Value.bool true) (bl := [some (.ro O0)]) (ob := [((decide ((0 : Int) < ((L2.length : Nat) : Int))), true)]) (fun gv => by kernel_rfl) (obs_cons (decide_eq_true (by omega)) obs_nil) rfl (by decide) (by rfl) ⟨by rfl, by rfl⟩ ⟨rfl, trivial⟩
  ·
    exact Mach.ok_fin (M := law03_OrecRunsM a0 o1 L2 n3 O0 N) (cd := 1000000) (cm := 0) (r := (.r0 (true) : law03_OrecRunsR)) (fu := 4000) (orc := (orcw [(0, false)] [] [] [] [])) (live := [0]) (u := Value.bool true) (bl := [some (.ro O0)]) (ob := [((decide ((0 : Int) < ((L2.length : Nat) : Int))), false)]) (fun gv => by kernel_rfl) (obs_cons (decide_eq_false (by omega)) obs_nil) rfl (by decide) (by rfl) ⟨by rfl, by rfl⟩ ⟨rfl, trivial⟩

end Ev
end Go.Proofs.Ytlcamddglkfblaa
