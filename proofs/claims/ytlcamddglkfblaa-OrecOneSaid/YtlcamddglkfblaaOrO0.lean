/- OrecOne: its loop, and the law. -/
import Derived.Test.YtlcamddglkfblaaOrO0p0
import Derived.Test.YtlcamddglkfblaaOrO0p1
import Derived.Test.YtlcamddglkfblaaOrO0p2
import Derived.Test.YtlcamddglkfblaaOrO0d
namespace Go.Proofs.Ytlcamddglkfblaa
open Go.RowKit
namespace Ev
set_option linter.unusedVariables false
set_option maxRecDepth 100000 in
theorem one0a_goal (sz : Int) (Oa : Obj) (oa : Nat) (na : Nat) (ca : Nat) (f0 : Nat → Int) (f1 : Nat → Int) (f2 : Nat → Int) (f3 : Nat → Int) (f4 : Nat → Int) (f5 : Nat → Int) (f6 : Nat → Int) (f7 : Nat → Int) (hs0 : (0 : Int) ≤ sz) (hs1 : sz ≤ (255 : Int)) (hna : na ≤ 9223372036854775807) (hO : ∀ i, i < na → RowOK Oa (oa + i * 8) [.i (f0 i), .i (f1 i), .i (f2 i), .i (f3 i), .i (f4 i), .i (f5 i), .i (f6 i), .i (f7 i)]) : LGoal Try.prog Try.f5 [.ro Oa] (Value.bool true) [some (.ro Oa)] (headOf [1, 1, 1, 1, 1, 0, 1, 3] (bodyC Try.f5) []) 5 (one0aL sz Oa oa na ca f0 f1 f2 f3 f4 f5 f6 f7) (one0aH sz Oa oa na ca f0 f1 f2 f3 f4 f5 f6 f7) (one0aB sz Oa oa na ca f0 f1 f2 f3 f4 f5 f6 f7) ((fun _ _ _ _ => True)) := by
  refine loop_gen (fitS knownA) 0 (one0aL sz Oa oa na ca f0 f1 f2 f3 f4 f5 f6 f7) (one0aH sz Oa oa na ca f0 f1 f2 f3 f4 f5 f6 f7) (one0aM sz Oa oa na ca f0 f1 f2 f3 f4 f5 f6 f7) (one0aB sz Oa oa na ca f0 f1 f2 f3 f4 f5 f6 f7) _ (by decide) (show 1 ≤ 1000000000 from by decide) (by decide) ?_
  intro x gv
  cases x with
  | m0 W Tk By n i h0 h1 h2 h3 h4 h5 h6 hJ =>
    obtain ⟨k, hk1, hk2⟩ := rem_count (f1 i) (show 0 < n by omega)
    have hJk := hJ k hk2
    by_cases g0 : ((i : Nat) : Int) < ((na : Nat) : Int)
    · skip
      by_cases g1 : ((i : Nat) : Int) < (60 : Int)
      · skip
        by_cases g2 : ¬ ((By.getD (k * 3) 0) = (0 : Int))
        · skip
          by_cases g3 : (f0 i) = (1 : Int)
          · skip
            by_cases g4 : ((W.getD k 0) % (4 : Int)) = (1 : Int)
            · skip
              by_cases g5 : (f3 i) = (0 : Int)
              · skip
                exact one0a_p0 sz Oa oa na ca f0 f1 f2 f3 f4 f5 f6 f7 hs0 hs1 hna hO W Tk By n i h0 h1 h2 h3 h4 h5 h6 hJ k hk1 hk2 hJk g0 g1 g2 g3 g4 g5 gv
              · skip
                by_cases g6 : (f3 i) = (1 : Int)
                · skip
                  exact one0a_p1 sz Oa oa na ca f0 f1 f2 f3 f4 f5 f6 f7 hs0 hs1 hna hO W Tk By n i h0 h1 h2 h3 h4 h5 h6 hJ k hk1 hk2 hJk g0 g1 g2 g3 g4 g5 g6 gv
                · skip
                  exact one0a_p2 sz Oa oa na ca f0 f1 f2 f3 f4 f5 f6 f7 hs0 hs1 hna hO W Tk By n i h0 h1 h2 h3 h4 h5 h6 hJ k hk1 hk2 hJk g0 g1 g2 g3 g4 g5 g6 gv
            · skip
              by_cases g5 : (f3 i) = (0 : Int)
              · skip
                exact one0a_p3 sz Oa oa na ca f0 f1 f2 f3 f4 f5 f6 f7 hs0 hs1 hna hO W Tk By n i h0 h1 h2 h3 h4 h5 h6 hJ k hk1 hk2 hJk g0 g1 g2 g3 g4 g5 gv
              · skip
                by_cases g6 : (f3 i) = (1 : Int)
                · skip
                  exact one0a_p4 sz Oa oa na ca f0 f1 f2 f3 f4 f5 f6 f7 hs0 hs1 hna hO W Tk By n i h0 h1 h2 h3 h4 h5 h6 hJ k hk1 hk2 hJk g0 g1 g2 g3 g4 g5 g6 gv
                · skip
                  exact one0a_p5 sz Oa oa na ca f0 f1 f2 f3 f4 f5 f6 f7 hs0 hs1 hna hO W Tk By n i h0 h1 h2 h3 h4 h5 h6 hJ k hk1 hk2 hJk g0 g1 g2 g3 g4 g5 g6 gv
          · skip
            by_cases g4 : (f0 i) = (2 : Int)
            · skip
              by_cases g5 : (0 : Int) ≤ (f2 i)
              · skip
                exact one0a_p6 sz Oa oa na ca f0 f1 f2 f3 f4 f5 f6 f7 hs0 hs1 hna hO W Tk By n i h0 h1 h2 h3 h4 h5 h6 hJ k hk1 hk2 hJk g0 g1 g2 g3 g4 g5 gv
              · skip
                exact one0a_p7 sz Oa oa na ca f0 f1 f2 f3 f4 f5 f6 f7 hs0 hs1 hna hO W Tk By n i h0 h1 h2 h3 h4 h5 h6 hJ k hk1 hk2 hJk g0 g1 g2 g3 g4 g5 gv
            · skip
              exact one0a_p8 sz Oa oa na ca f0 f1 f2 f3 f4 f5 f6 f7 hs0 hs1 hna hO W Tk By n i h0 h1 h2 h3 h4 h5 h6 hJ k hk1 hk2 hJk g0 g1 g2 g3 g4 gv
        · skip
          by_cases g3 : (f0 i) = (1 : Int)
          · skip
            by_cases g4 : (f3 i) = (0 : Int)
            · skip
              exact one0a_p9 sz Oa oa na ca f0 f1 f2 f3 f4 f5 f6 f7 hs0 hs1 hna hO W Tk By n i h0 h1 h2 h3 h4 h5 h6 hJ k hk1 hk2 hJk g0 g1 g2 g3 g4 gv
            · skip
              by_cases g5 : (f3 i) = (1 : Int)
              · skip
                exact one0a_p10 sz Oa oa na ca f0 f1 f2 f3 f4 f5 f6 f7 hs0 hs1 hna hO W Tk By n i h0 h1 h2 h3 h4 h5 h6 hJ k hk1 hk2 hJk g0 g1 g2 g3 g4 g5 gv
              · skip
                exact one0a_p11 sz Oa oa na ca f0 f1 f2 f3 f4 f5 f6 f7 hs0 hs1 hna hO W Tk By n i h0 h1 h2 h3 h4 h5 h6 hJ k hk1 hk2 hJk g0 g1 g2 g3 g4 g5 gv
          · skip
            exact one0a_p12 sz Oa oa na ca f0 f1 f2 f3 f4 f5 f6 f7 hs0 hs1 hna hO W Tk By n i h0 h1 h2 h3 h4 h5 h6 hJ k hk1 hk2 hJk g0 g1 g2 g3 gv
      · skip
        exact one0a_p13 sz Oa oa na ca f0 f1 f2 f3 f4 f5 f6 f7 hs0 hs1 hna hO W Tk By n i h0 h1 h2 h3 h4 h5 h6 hJ k hk1 hk2 hJk g0 g1 gv
    · skip
      exact one0a_p14 sz Oa oa na ca f0 f1 f2 f3 f4 f5 f6 f7 hs0 hs1 hna hO W Tk By n i h0 h1 h2 h3 h4 h5 h6 hJ k hk1 hk2 hJk g0 gv
set_option maxRecDepth 100000 in
theorem one0 (sz : Int) (Oa : Obj) (oa : Nat) (na : Nat) (ca : Nat) (f0 : Nat → Int) (f1 : Nat → Int) (f2 : Nat → Int) (f3 : Nat → Int) (f4 : Nat → Int) (f5 : Nat → Int) (f6 : Nat → Int) (f7 : Nat → Int) (hs0 : (0 : Int) ≤ sz) (hs1 : sz ≤ (255 : Int)) (hna : na ≤ 9223372036854775807) (hO : ∀ i, i < na → RowOK Oa (oa + i * 8) [.i (f0 i), .i (f1 i), .i (f2 i), .i (f3 i), .i (f4 i), .i (f5 i), .i (f6 i), .i (f7 i)]) : LSpec Try.prog 5 #[Value.int .u8 sz, Value.slice (some ⟨0, oa, none⟩) na ca] [.ro Oa] (Value.bool true) [some (.ro Oa)] := by
  exact spec_head (fitS knownA) Try.func5 rfl (by kernel_rfl) (pre := [.ro Oa]) (fu := 4000) (orc := orcw [(0, false), (1, false)] [(0, sz), (1, (sz % (8 : Int))), (2, ((1 : Int) + (sz % (8 : Int))))] [] [] [(1, .mk (((1 : Int) + (sz % (8 : Int)))).toNat (((1 : Int) + (sz % (8 : Int)))).toNat (int64s (List.replicate (((1 : Int) + (sz % (8 : Int)))).toNat (0 : Int)))), (2, .mk (((1 : Int) + (sz % (8 : Int)))).toNat (((1 : Int) + (sz % (8 : Int)))).toNat (int64s (List.replicate (((1 : Int) + (sz % (8 : Int)))).toNat (0 : Int))))]) (live := [0, 1, 2, 3, 4]) (one0aX.m0 ((List.replicate (((1 : Int) + (sz % (8 : Int)))).toNat (0 : Int))) ((List.replicate (((1 : Int) + (sz % (8 : Int)))).toNat (0 : Int))) ((List.replicate 24 (0 : Int))) ((((1 : Int) + (sz % (8 : Int)))).toNat) (0) (by omega) (by omega) (by first | rfl | omega | exact (Int.toNat_of_nonneg (by omega)).symm | (simp only [List.length_set, List.length_replicate]; omega) | (simp; done)) (by first | rfl | omega | exact (Int.toNat_of_nonneg (by omega)).symm | (simp only [List.length_set, List.length_replicate]; omega) | (simp; done)) (by first | rfl | omega | exact (Int.toNat_of_nonneg (by omega)).symm | (simp only [List.length_set, List.length_replicate]; omega) | (simp; done)) (by omega) (by omega) (by first | exact hJ | exact ow_zero rfl rfl rfl | exact ow_put hJ (by omega) (by omega) (by omega) (fun t ht => by first | rfl | exact get_set_ne (Ne.symm ht)) (fun t ht => by first | rfl | exact get_set_ne (Ne.symm ht)) (by refine ⟨?_, ?_, ?_, ?_, ?_, ?_⟩ <;> first | omega | (intro; omega) | (intro; constructor <;> omega)))) (one0a_goal sz Oa oa na ca f0 f1 f2 f3 f4 f5 f6 f7 hs0 hs1 hna hO) (tv := [some (Value.slice (some ⟨0, oa, none⟩) na ca), some (Value.int .i64 ((1 : Int) + (sz % (8 : Int)))), some (Value.pointer (some ⟨3, 0, none⟩)), some (Value.pointer (some ⟨4, 0, none⟩)), some (Value.int .i64 (0 : Int))]) (bl := [some (.ro Oa), some (.cells (int64s (List.replicate (((1 : Int) + (sz % (8 : Int)))).toNat (0 : Int))) 84), some (.cells (int64s (List.replicate (((1 : Int) + (sz % (8 : Int)))).toNat (0 : Int))) 84), some (.cells [Value.slice (some ⟨1, 0, none⟩) (((1 : Int) + (sz % (8 : Int)))).toNat (((1 : Int) + (sz % (8 : Int)))).toNat, Value.slice (some ⟨2, 0, none⟩) (((1 : Int) + (sz % (8 : Int)))).toNat (((1 : Int) + (sz % (8 : Int)))).toNat] 74), some (.cells [Value.int .i64 (0 : Int), Value.int .i64 (0 : Int), Value.int .i64 (0 : Int), Value.int .i64 (0 : Int), Value.int .i64 (0 : Int), Value.int .i64 (0 : Int), Value.int .i64 (0 : Int), Value.int .i64 (0 : Int), Value.int .i64 (0 : Int), Value.int .i64 (0 : Int), Value.int .i64 (0 : Int), Value.int .i64 (0 : Int), Value.int .i64 (0 : Int), Value.int .i64 (0 : Int), Value.int .i64 (0 : Int), Value.int .i64 (0 : Int), Value.int .i64 (0 : Int), Value.int .i64 (0 : Int), Value.int .i64 (0 : Int), Value.int .i64 (0 : Int), Value.int .i64 (0 : Int), Value.int .i64 (0 : Int), Value.int .i64 (0 : Int), Value.int .i64 (0 : Int)] 69)]) (ob := [(dP ((((1 : Int) + (sz % (8 : Int)))).toNat ≤ (((1 : Int) + (sz % (8 : Int)))).toNat ∧ (((1 : Int) + (sz % (8 : Int)))).toNat ≤ 100000 ∧ rep [Value.int .i64 (0 : Int)] ((((1 : Int) + (sz % (8 : Int)))).toNat * 1) = int64s (List.replicate (((1 : Int) + (sz % (8 : Int)))).toNat (0 : Int))), true), (((1 : Int) + (sz % (8 : Int))) == Int.ofNat (((1 : Int) + (sz % (8 : Int)))).toNat, true), (((1 : Int) + (sz % (8 : Int))) == Int.ofNat (((1 : Int) + (sz % (8 : Int)))).toNat, true), (dP ((((1 : Int) + (sz % (8 : Int)))).toNat ≤ (((1 : Int) + (sz % (8 : Int)))).toNat ∧ (((1 : Int) + (sz % (8 : Int)))).toNat ≤ 100000 ∧ rep [Value.int .i64 (0 : Int)] ((((1 : Int) + (sz % (8 : Int)))).toNat * 1) = int64s (List.replicate (((1 : Int) + (sz % (8 : Int)))).toNat (0 : Int))), true), (((1 : Int) + (sz % (8 : Int))) == Int.ofNat (((1 : Int) + (sz % (8 : Int)))).toNat, true), (((1 : Int) + (sz % (8 : Int))) == Int.ofNat (((1 : Int) + (sz % (8 : Int)))).toNat, true), ((decide (((1 : Int) + (sz % (8 : Int))) > (1024 : Int))), false), ((decide (((1 : Int) + (sz % (8 : Int))) < (1 : Int))), false), ((IntKind.i64.wrap ((1 : Int) + (sz % (8 : Int)))) == ((1 : Int) + (sz % (8 : Int))), true), ((Int.tmod sz (8 : Int)) == (sz % (8 : Int)), true), ((IntKind.i64.wrap sz) == sz, true)]) (by kernel_rfl) (obs_cons (dP_of ⟨Nat.le_refl _, by omega, rep_zero1 _⟩) (obs_cons (beq_iff_eq.2 (by first | rfl | exact idx_eq (by omega))) (obs_cons (beq_iff_eq.2 (by first | rfl | exact idx_eq (by omega))) (obs_cons (dP_of ⟨Nat.le_refl _, by omega, rep_zero1 _⟩) (obs_cons (beq_iff_eq.2 (by first | rfl | exact idx_eq (by omega))) (obs_cons (beq_iff_eq.2 (by first | rfl | exact idx_eq (by omega))) (obs_cons (decide_eq_false (by omega)) (obs_cons (decide_eq_false (by omega)) (obs_cons (beq_iff_eq.2 ((wrap_i64 (by omega)).trans (by first | rfl | omega))) (obs_cons (beq_iff_eq.2 (tmod_pos (by omega))) (obs_cons (beq_iff_eq.2 (wrap_i64 (by omega))) obs_nil))))))))))) rfl (by decide) (by rfl) ⟨⟨by rfl, by rfl⟩, ⟨⟨Eq.trans (show (Value.int .i64 (((((1 : Int) + (sz % (8 : Int)))).toNat : Nat) : Int) : Value) = Value.int .i64 ((1 : Int) + (sz % (8 : Int))) from (congrArg (Value.int .i64) (by first | rfl | omega | exact (Int.toNat_of_nonneg (by omega)).symm | (simp only [List.length_set, List.length_replicate]; omega) | (simp; done)))) (by rfl), by rfl⟩, ⟨⟨by rfl, by rfl⟩, ⟨⟨by rfl, by rfl⟩, ⟨⟨by rfl, by rfl⟩, trivial⟩⟩⟩⟩⟩ ⟨rfl, ⟨(same_ints (l := (List.replicate (((1 : Int) + (sz % (8 : Int)))).toNat (0 : Int))) _ _), ⟨(same_ints (l := (List.replicate (((1 : Int) + (sz % (8 : Int)))).toNat (0 : Int))) _ _), ⟨⟨rfl, ⟨[], by rfl⟩, by rfl⟩, ⟨(same_ints (l := (List.replicate 24 (0 : Int))) _ _), trivial⟩⟩⟩⟩⟩
end Ev
end Go.Proofs.Ytlcamddglkfblaa
