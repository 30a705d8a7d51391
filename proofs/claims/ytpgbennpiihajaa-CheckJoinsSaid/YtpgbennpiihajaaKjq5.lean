/- Calls do what the plain functions say. -/
import Derived.Test.YtpgbennpiihajaaKjq4
namespace Go.Proofs.Ytpgbennpiihajaa
open Go.RowKit
namespace Ev
set_option linter.unusedVariables false
set_option maxRecDepth 100000
theorem ZlE (o0 : Nat) (L1 : List R_iiii) (n2 n3 o4 : Nat) (L5 : List R_iiii) (n6 n7 : Nat) (O0 : Obj) (F0 : ZA O0 o0 L1) (O1 : Obj) (F1 : ZA O1 o4 L5) (N : Nat) : (Z1 o0 L1 n2 n3 o4 L5 n6 n7 O0 O1 N).Enter Try.prog Z8 #[vs 0 o0 n2 n3, vs 1 o4 n6 n7] (ZbZ L1 n2 n3 L5 n6 n7 N) := by
 unfold ZbZ
 refine Mach.en_ite (fun g0 => ?_) (fun g0 => ?_)
 ·
  refine Mach.en_ite (fun g1 => ?_) (fun g1 => ?_)
  ·
   refine Mach.en_ite (fun g2 => ?_) (fun g2 => ?_)
   ·
    refine Mach.en_ite (fun g3 => ?_) (fun g3 => ?_)
    ·
     refine Mach.en_bind (fun z4 c4 => ?_)
     cases z4 with
     | r0 y4_0 =>
      refine Mach.en_ite (fun g5 => ?_) (fun g5 => ?_)
      ·
       exact Mach.en_fin (M := Z1 o0 L1 n2 n3 o4 L5 n6 n7 O0 O1 N) (cd := 1000000) (cm := 0) (r := (.r0 (true) : Zp)) (fu := 4000) (orc := (Zk [(0, true), (1, true), (2, true)] [] [] [] [(0, .sl 0 60), (1, .sl 0 60), (2, (ZX (o0) (L1) ((60 - 0)) ((n3 - 0)) O0 y4_0 0 2))])) (live := [0, 1]) (u := Value.bool true) (bl := [some (.ro O0), some (.ro O1)]) (ob := [((y4_0 != (0 : Int)), true), (dP (ZU #[Value.slice (some ⟨0, (o0 + (0 * 4)), none⟩) (60 - 0) (n3 - 0)] (o0) (L1) ((60 - 0)) ((n3 - 0)) O0 y4_0 0 2), true), (dS O0, true), (dP (0 ≤ 60 ∧ 60 ≤ n7), true), ((60 : Int) == Int.ofNat 60, true), (dS 0, true), ((decide ((n6 : Int) > (60 : Int))), true), (dP (0 ≤ 60 ∧ 60 ≤ n3), true), ((60 : Int) == Int.ofNat 60, true), (dS 0, true), ((decide ((n2 : Int) > (60 : Int))), true)]) (by kernel_rfl) (oD <| Zc (Zg (ZY #[Value.slice (some ⟨0, (o0 + (0 * 4)), none⟩) (60 - 0) (n3 - 0)] (o0) (L1) ((60 - 0)) ((n3 - 0)) O0 F0 y4_0 N c4 0 2 (ZcT (Zb (Zx eqA rfl rfl) rfl)) (by decide) (by decide))) <| oR <| Zc (Zg ⟨ltA, ltA⟩) <| oI <| oR <| oY <| Zc (Zg ⟨ltA, ltA⟩) <| oI <| oR <| oY Zh) rfl (by decide) (by rfl) rr ⟨rfl, ⟨rfl, trivial⟩⟩
      ·
       refine Mach.en_bind (fun z6 c6 => ?_)
       cases z6 with
       | r0 y6_0 =>
        refine Mach.en_ite (fun g7 => ?_) (fun g7 => ?_)
        ·
         exact Mach.en_fin (M := Z1 o0 L1 n2 n3 o4 L5 n6 n7 O0 O1 N) (cd := 1000000) (cm := 0) (r := (.r0 (true) : Zp)) (fu := 4000) (orc := (Zk [(0, true), (1, true), (2, false), (3, true)] [] [] [] [(0, .sl 0 60), (1, .sl 0 60), (2, (ZX (o0) (L1) ((60 - 0)) ((n3 - 0)) O0 y4_0 0 2)), (3, (ZX (o4) (L5) ((60 - 0)) ((n7 - 0)) O1 y6_0 1 2))])) (live := [0, 1]) (u := Value.bool true) (bl := [some (.ro O0), some (.ro O1)]) (ob := [((y6_0 != (0 : Int)), true), (dP (ZU #[Value.slice (some ⟨1, (o4 + (0 * 4)), none⟩) (60 - 0) (n7 - 0)] (o4) (L5) ((60 - 0)) ((n7 - 0)) O1 y6_0 1 2), true), (dS O1, true), ((y4_0 != (0 : Int)), false), (dP (ZU #[Value.slice (some ⟨0, (o0 + (0 * 4)), none⟩) (60 - 0) (n3 - 0)] (o0) (L1) ((60 - 0)) ((n3 - 0)) O0 y4_0 0 2), true), (dS O0, true), (dP (0 ≤ 60 ∧ 60 ≤ n7), true), ((60 : Int) == Int.ofNat 60, true), (dS 0, true), ((decide ((n6 : Int) > (60 : Int))), true), (dP (0 ≤ 60 ∧ 60 ≤ n3), true), ((60 : Int) == Int.ofNat 60, true), (dS 0, true), ((decide ((n2 : Int) > (60 : Int))), true)]) (by kernel_rfl) (oD <| Zc (Zg (ZY #[Value.slice (some ⟨1, (o4 + (0 * 4)), none⟩) (60 - 0) (n7 - 0)] (o4) (L5) ((60 - 0)) ((n7 - 0)) O1 F1 y6_0 N c6 1 2 (ZcT (Zb (Zx eqA rfl rfl) rfl)) (by decide) (by decide))) <| oR <| oE <| Zc (Zg (ZY #[Value.slice (some ⟨0, (o0 + (0 * 4)), none⟩) (60 - 0) (n3 - 0)] (o0) (L1) ((60 - 0)) ((n3 - 0)) O0 F0 y4_0 N c4 0 2 (ZcT (Zb (Zx eqA rfl rfl) rfl)) (by decide) (by decide))) <| oR <| Zc (Zg ⟨ltA, ltA⟩) <| oI <| oR <| oY <| Zc (Zg ⟨ltA, ltA⟩) <| oI <| oR <| oY Zh) rfl (by decide) (by rfl) rr ⟨rfl, ⟨rfl, trivial⟩⟩
        ·
         refine Mach.en_ite (fun g8 => ?_) (fun g8 => ?_)
         ·
          exact Mach.en_head (bK := Zas 1) (M := Z1 o0 L1 n2 n3 o4 L5 n6 n7 O0 O1 N) (cd := 1000000) (cm := 0) (y := (.h1m0 ((60 - 0)) ((n3 - 0)) ((60 - 0)) ((n7 - 0)) ((L1.take (60 - 0))) (0) : ZD)) (fu := 4000) (orc := (Zk [(0, true), (1, true), (2, false), (3, false)] [] [] [] [(0, .sl 0 60), (1, .sl 0 60), (2, (ZX (o0) (L1) ((60 - 0)) ((n3 - 0)) O0 y4_0 0 2)), (3, (ZX (o4) (L5) ((60 - 0)) ((n7 - 0)) O1 y6_0 1 2)), (4, .ap (60 - 0) (Za Zf (L1.take (60 - 0))) (Za Zf (L1.take (60 - 0))))])) (live := [0, 1, 3]) (tv := [some (Value.slice (some ⟨0, (o0 + (0 * 4)), none⟩) (60 - 0) (n3 - 0)), some (Value.slice (some ⟨1, (o4 + (0 * 4)), none⟩) (60 - 0) (n7 - 0)), some (vs 3 0 (0 + (60 - 0)) (0 + (60 - 0))), some (vi (0 : Int))]) (bl := [some (.ro O0), some (.ro O1), some (.cells (Za Zf (L1.take (60 - 0))) 39)]) (ob := [(dP (((60 - 0) = (60 - 0) ∧ (((60 - 0) * 4 = 0 ∧ (Za Zf (L1.take (60 - 0))) = []) ∨ ((60 - 0) * 4 ≠ 0 ∧ ZaP O0 (o0 + (0 * 4)) ((60 - 0) * 4) = some (Za Zf (L1.take (60 - 0))) ∧ ZC atom (Za Zf (L1.take (60 - 0))) = true))) ∧ 0 < (60 - 0) ∧ (60 - 0) ≤ 100000 ∧ 0 < 0 + (60 - 0) ∧ 0 ≤ 100000 ∧ 0 * 4 ≤ (List.length []) ∧ List.take (0 * 4) [] ++ (Za Zf (L1.take (60 - 0))) = (Za Zf (L1.take (60 - 0)))), true), ((y6_0 != (0 : Int)), false), (dP (ZU #[Value.slice (some ⟨1, (o4 + (0 * 4)), none⟩) (60 - 0) (n7 - 0)] (o4) (L5) ((60 - 0)) ((n7 - 0)) O1 y6_0 1 2), true), (dS O1, true), ((y4_0 != (0 : Int)), false), (dP (ZU #[Value.slice (some ⟨0, (o0 + (0 * 4)), none⟩) (60 - 0) (n3 - 0)] (o0) (L1) ((60 - 0)) ((n3 - 0)) O0 y4_0 0 2), true), (dS O0, true), (dP (0 ≤ 60 ∧ 60 ≤ n7), true), ((60 : Int) == Int.ofNat 60, true), (dS 0, true), ((decide ((n6 : Int) > (60 : Int))), true), (dP (0 ≤ 60 ∧ 60 ≤ n3), true), ((60 : Int) == Int.ofNat 60, true), (dS 0, true), ((decide ((n2 : Int) > (60 : Int))), true)]) rfl rfl (show ZQ (Zas 1).2 = [] from rfl) (by kernel_rfl) (Zc (Zg ⟨⟨rfl, .inr ⟨by omega, Zol (E := Zf) (C := fun x : R_iiii => [.i x.a0, .i x.a1, .i x.a2, .i x.a3]) (L := L1) (b := o0) (a := 0) (n := (60 - 0)) F0 (fun x => ⟨rfl, rfl⟩) (by omega) (by omega) (show _ = _ + _ * 4 from by omega) (show _ = _ * 4 from rfl) (by rw [List.drop_zero])⟩⟩, by omega, by omega, ltA, by omega, (ZV (E := Zf) (L := ([] : List R_iiii)) (M := (L1.take (60 - 0))) (n := 0) (show _ = _ * 4 from rfl) ltA (R := (L1.take (60 - 0))) (by rw [List.take_of_length_le ltA]; rfl))⟩) <| oE <| Zc (Zg (ZY #[Value.slice (some ⟨1, (o4 + (0 * 4)), none⟩) (60 - 0) (n7 - 0)] (o4) (L5) ((60 - 0)) ((n7 - 0)) O1 F1 y6_0 N c6 1 2 (ZcT (Zb (Zx eqA rfl rfl) rfl)) (by decide) (by decide))) <| oR <| oE <| Zc (Zg (ZY #[Value.slice (some ⟨0, (o0 + (0 * 4)), none⟩) (60 - 0) (n3 - 0)] (o0) (L1) ((60 - 0)) ((n3 - 0)) O0 F0 y4_0 N c4 0 2 (ZcT (Zb (Zx eqA rfl rfl) rfl)) (by decide) (by decide))) <| oR <| Zc (Zg ⟨ltA, ltA⟩) <| oI <| oR <| oY <| Zc (Zg ⟨ltA, ltA⟩) <| oI <| oR <| oY Zh) rfl (by decide) (by rfl) ⟨⟨Eq.trans (show (vs 0 o0 (60 - 0) (n3 - 0) : Value) = Value.slice (some ⟨0, (o0 + (0 * 4)), none⟩) (60 - 0) (n3 - 0) from (Zx eqA rfl rfl)) (by rfl), by rfl⟩, ⟨⟨Eq.trans (show (vs 1 o4 (60 - 0) (n7 - 0) : Value) = Value.slice (some ⟨1, (o4 + (0 * 4)), none⟩) (60 - 0) (n7 - 0) from (Zx eqA rfl rfl)) (by rfl), by rfl⟩, ⟨⟨Eq.trans (show (vs 2 0 (L1.take (60 - 0)).length (L1.take (60 - 0)).length : Value) = vs 2 0 (0 + (60 - 0)) (0 + (60 - 0)) from (Zx rfl eqA eqA)) (by rfl), by rfl⟩, ⟨⟨Eq.trans (show (vi ((0 : Nat) : Int) : Value) = vi (0 : Int) from (congrArg (Value.int .i64) (by first | rfl | omega))) (by rfl), by rfl⟩, trivial⟩⟩⟩⟩ ⟨rfl, ⟨rfl, ⟨(Ze (E := Zf) (α := R_iiii) _ (L1.take (60 - 0)) _), trivial⟩⟩⟩
         ·
          exact Mach.en_none
    ·
     exact Mach.en_none
   ·
    refine Mach.en_bind (fun z3 c3 => ?_)
    cases z3 with
    | r0 y3_0 =>
     refine Mach.en_ite (fun g4 => ?_) (fun g4 => ?_)
     ·
      exact Mach.en_fin (M := Z1 o0 L1 n2 n3 o4 L5 n6 n7 O0 O1 N) (cd := 1000000) (cm := 0) (r := (.r0 (true) : Zp)) (fu := 4000) (orc := (Zk [(0, true), (1, false), (2, true)] [] [] [] [(0, .sl 0 60), (1, (ZX (o0) (L1) ((60 - 0)) ((n3 - 0)) O0 y3_0 0 2))])) (live := [0, 1]) (u := Value.bool true) (bl := [some (.ro O0), some (.ro O1)]) (ob := [((y3_0 != (0 : Int)), true), (dP (ZU #[Value.slice (some ⟨0, (o0 + (0 * 4)), none⟩) (60 - 0) (n3 - 0)] (o0) (L1) ((60 - 0)) ((n3 - 0)) O0 y3_0 0 2), true), (dS O0, true), ((decide ((n6 : Int) > (60 : Int))), false), (dP (0 ≤ 60 ∧ 60 ≤ n3), true), ((60 : Int) == Int.ofNat 60, true), (dS 0, true), ((decide ((n2 : Int) > (60 : Int))), true)]) (by kernel_rfl) (oD <| Zc (Zg (ZY #[Value.slice (some ⟨0, (o0 + (0 * 4)), none⟩) (60 - 0) (n3 - 0)] (o0) (L1) ((60 - 0)) ((n3 - 0)) O0 F0 y3_0 N c3 0 2 (ZcT (Zb (Zx eqA rfl rfl) rfl)) (by decide) (by decide))) <| oR <| oN <| Zc (Zg ⟨ltA, ltA⟩) <| oI <| oR <| oY Zh) rfl (by decide) (by rfl) rr ⟨rfl, ⟨rfl, trivial⟩⟩
     ·
      refine Mach.en_bind (fun z5 c5 => ?_)
      cases z5 with
      | r0 y5_0 =>
       refine Mach.en_ite (fun g6 => ?_) (fun g6 => ?_)
       ·
        exact Mach.en_fin (M := Z1 o0 L1 n2 n3 o4 L5 n6 n7 O0 O1 N) (cd := 1000000) (cm := 0) (r := (.r0 (true) : Zp)) (fu := 4000) (orc := (Zk [(0, true), (1, false), (2, false), (3, true)] [] [] [] [(0, .sl 0 60), (1, (ZX (o0) (L1) ((60 - 0)) ((n3 - 0)) O0 y3_0 0 2)), (2, (ZX (o4) (L5) (n6) (n7) O1 y5_0 1 2))])) (live := [0, 1]) (u := Value.bool true) (bl := [some (.ro O0), some (.ro O1)]) (ob := [((y5_0 != (0 : Int)), true), (dP (ZU #[vs 1 o4 n6 n7] (o4) (L5) (n6) (n7) O1 y5_0 1 2), true), (dS O1, true), ((y3_0 != (0 : Int)), false), (dP (ZU #[Value.slice (some ⟨0, (o0 + (0 * 4)), none⟩) (60 - 0) (n3 - 0)] (o0) (L1) ((60 - 0)) ((n3 - 0)) O0 y3_0 0 2), true), (dS O0, true), ((decide ((n6 : Int) > (60 : Int))), false), (dP (0 ≤ 60 ∧ 60 ≤ n3), true), ((60 : Int) == Int.ofNat 60, true), (dS 0, true), ((decide ((n2 : Int) > (60 : Int))), true)]) (by kernel_rfl) (oD <| Zc (Zg (ZY #[vs 1 o4 n6 n7] (o4) (L5) (n6) (n7) O1 F1 y5_0 N c5 1 2 rfl (by decide) (by decide))) <| oR <| oE <| Zc (Zg (ZY #[Value.slice (some ⟨0, (o0 + (0 * 4)), none⟩) (60 - 0) (n3 - 0)] (o0) (L1) ((60 - 0)) ((n3 - 0)) O0 F0 y3_0 N c3 0 2 (ZcT (Zb (Zx eqA rfl rfl) rfl)) (by decide) (by decide))) <| oR <| oN <| Zc (Zg ⟨ltA, ltA⟩) <| oI <| oR <| oY Zh) rfl (by decide) (by rfl) rr ⟨rfl, ⟨rfl, trivial⟩⟩
       ·
        refine Mach.en_ite (fun g7 => ?_) (fun g7 => ?_)
        ·
         exact Mach.en_head (bK := Zas 1) (M := Z1 o0 L1 n2 n3 o4 L5 n6 n7 O0 O1 N) (cd := 1000000) (cm := 0) (y := (.h1m0 ((60 - 0)) ((n3 - 0)) (n6) (n7) ((L1.take (60 - 0))) (0) : ZD)) (fu := 4000) (orc := (Zk [(0, true), (1, false), (2, false), (3, false)] [] [] [] [(0, .sl 0 60), (1, (ZX (o0) (L1) ((60 - 0)) ((n3 - 0)) O0 y3_0 0 2)), (2, (ZX (o4) (L5) (n6) (n7) O1 y5_0 1 2)), (3, .ap (60 - 0) (Za Zf (L1.take (60 - 0))) (Za Zf (L1.take (60 - 0))))])) (live := [0, 1, 3]) (tv := [some (Value.slice (some ⟨0, (o0 + (0 * 4)), none⟩) (60 - 0) (n3 - 0)), some (vs 1 o4 n6 n7), some (vs 3 0 (0 + (60 - 0)) (0 + (60 - 0))), some (vi (0 : Int))]) (bl := [some (.ro O0), some (.ro O1), some (.cells (Za Zf (L1.take (60 - 0))) 39)]) (ob := [(dP (((60 - 0) = (60 - 0) ∧ (((60 - 0) * 4 = 0 ∧ (Za Zf (L1.take (60 - 0))) = []) ∨ ((60 - 0) * 4 ≠ 0 ∧ ZaP O0 (o0 + (0 * 4)) ((60 - 0) * 4) = some (Za Zf (L1.take (60 - 0))) ∧ ZC atom (Za Zf (L1.take (60 - 0))) = true))) ∧ 0 < (60 - 0) ∧ (60 - 0) ≤ 100000 ∧ 0 < 0 + (60 - 0) ∧ 0 ≤ 100000 ∧ 0 * 4 ≤ (List.length []) ∧ List.take (0 * 4) [] ++ (Za Zf (L1.take (60 - 0))) = (Za Zf (L1.take (60 - 0)))), true), ((y5_0 != (0 : Int)), false), (dP (ZU #[vs 1 o4 n6 n7] (o4) (L5) (n6) (n7) O1 y5_0 1 2), true), (dS O1, true), ((y3_0 != (0 : Int)), false), (dP (ZU #[Value.slice (some ⟨0, (o0 + (0 * 4)), none⟩) (60 - 0) (n3 - 0)] (o0) (L1) ((60 - 0)) ((n3 - 0)) O0 y3_0 0 2), true), (dS O0, true), ((decide ((n6 : Int) > (60 : Int))), false), (dP (0 ≤ 60 ∧ 60 ≤ n3), true), ((60 : Int) == Int.ofNat 60, true), (dS 0, true), ((decide ((n2 : Int) > (60 : Int))), true)]) rfl rfl (show ZQ (Zas 1).2 = [] from rfl) (by kernel_rfl) (Zc (Zg ⟨⟨rfl, .inr ⟨by omega, Zol (E := Zf) (C := fun x : R_iiii => [.i x.a0, .i x.a1, .i x.a2, .i x.a3]) (L := L1) (b := o0) (a := 0) (n := (60 - 0)) F0 (fun x => ⟨rfl, rfl⟩) (by omega) (by omega) (show _ = _ + _ * 4 from by omega) (show _ = _ * 4 from rfl) (by rw [List.drop_zero])⟩⟩, by omega, by omega, ltA, by omega, (ZV (E := Zf) (L := ([] : List R_iiii)) (M := (L1.take (60 - 0))) (n := 0) (show _ = _ * 4 from rfl) ltA (R := (L1.take (60 - 0))) (by rw [List.take_of_length_le ltA]; rfl))⟩) <| oE <| Zc (Zg (ZY #[vs 1 o4 n6 n7] (o4) (L5) (n6) (n7) O1 F1 y5_0 N c5 1 2 rfl (by decide) (by decide))) <| oR <| oE <| Zc (Zg (ZY #[Value.slice (some ⟨0, (o0 + (0 * 4)), none⟩) (60 - 0) (n3 - 0)] (o0) (L1) ((60 - 0)) ((n3 - 0)) O0 F0 y3_0 N c3 0 2 (ZcT (Zb (Zx eqA rfl rfl) rfl)) (by decide) (by decide))) <| oR <| oN <| Zc (Zg ⟨ltA, ltA⟩) <| oI <| oR <| oY Zh) rfl (by decide) (by rfl) ⟨⟨Eq.trans (show (vs 0 o0 (60 - 0) (n3 - 0) : Value) = Value.slice (some ⟨0, (o0 + (0 * 4)), none⟩) (60 - 0) (n3 - 0) from (Zx eqA rfl rfl)) (by rfl), by rfl⟩, ⟨rr, ⟨⟨Eq.trans (show (vs 2 0 (L1.take (60 - 0)).length (L1.take (60 - 0)).length : Value) = vs 2 0 (0 + (60 - 0)) (0 + (60 - 0)) from (Zx rfl eqA eqA)) (by rfl), by rfl⟩, ⟨⟨Eq.trans (show (vi ((0 : Nat) : Int) : Value) = vi (0 : Int) from (congrArg (Value.int .i64) (by first | rfl | omega))) (by rfl), by rfl⟩, trivial⟩⟩⟩⟩ ⟨rfl, ⟨rfl, ⟨(Ze (E := Zf) (α := R_iiii) _ (L1.take (60 - 0)) _), trivial⟩⟩⟩
        ·
         exact Mach.en_none
  ·
   exact Mach.en_none
 ·
  refine Mach.en_ite (fun g1 => ?_) (fun g1 => ?_)
  ·
   refine Mach.en_ite (fun g2 => ?_) (fun g2 => ?_)
   ·
    refine Mach.en_bind (fun z3 c3 => ?_)
    cases z3 with
    | r0 y3_0 =>
     refine Mach.en_ite (fun g4 => ?_) (fun g4 => ?_)
     ·
      exact Mach.en_fin (M := Z1 o0 L1 n2 n3 o4 L5 n6 n7 O0 O1 N) (cd := 1000000) (cm := 0) (r := (.r0 (true) : Zp)) (fu := 4000) (orc := (Zk [(0, false), (1, true), (2, true)] [] [] [] [(0, .sl 0 60), (1, (ZX (o0) (L1) (n2) (n3) O0 y3_0 0 2))])) (live := [0, 1]) (u := Value.bool true) (bl := [some (.ro O0), some (.ro O1)]) (ob := [((y3_0 != (0 : Int)), true), (dP (ZU #[vs 0 o0 n2 n3] (o0) (L1) (n2) (n3) O0 y3_0 0 2), true), (dS O0, true), (dP (0 ≤ 60 ∧ 60 ≤ n7), true), ((60 : Int) == Int.ofNat 60, true), (dS 0, true), ((decide ((n6 : Int) > (60 : Int))), true), ((decide ((n2 : Int) > (60 : Int))), false)]) (by kernel_rfl) (oD <| Zc (Zg (ZY #[vs 0 o0 n2 n3] (o0) (L1) (n2) (n3) O0 F0 y3_0 N c3 0 2 rfl (by decide) (by decide))) <| oR <| Zc (Zg ⟨ltA, ltA⟩) <| oI <| oR <| oY <| oN Zh) rfl (by decide) (by rfl) rr ⟨rfl, ⟨rfl, trivial⟩⟩
     ·
      refine Mach.en_bind (fun z5 c5 => ?_)
      cases z5 with
      | r0 y5_0 =>
       refine Mach.en_ite (fun g6 => ?_) (fun g6 => ?_)
       ·
        exact Mach.en_fin (M := Z1 o0 L1 n2 n3 o4 L5 n6 n7 O0 O1 N) (cd := 1000000) (cm := 0) (r := (.r0 (true) : Zp)) (fu := 4000) (orc := (Zk [(0, false), (1, true), (2, false), (3, true)] [] [] [] [(0, .sl 0 60), (1, (ZX (o0) (L1) (n2) (n3) O0 y3_0 0 2)), (2, (ZX (o4) (L5) ((60 - 0)) ((n7 - 0)) O1 y5_0 1 2))])) (live := [0, 1]) (u := Value.bool true) (bl := [some (.ro O0), some (.ro O1)]) (ob := [((y5_0 != (0 : Int)), true), (dP (ZU #[Value.slice (some ⟨1, (o4 + (0 * 4)), none⟩) (60 - 0) (n7 - 0)] (o4) (L5) ((60 - 0)) ((n7 - 0)) O1 y5_0 1 2), true), (dS O1, true), ((y3_0 != (0 : Int)), false), (dP (ZU #[vs 0 o0 n2 n3] (o0) (L1) (n2) (n3) O0 y3_0 0 2), true), (dS O0, true), (dP (0 ≤ 60 ∧ 60 ≤ n7), true), ((60 : Int) == Int.ofNat 60, true), (dS 0, true), ((decide ((n6 : Int) > (60 : Int))), true), ((decide ((n2 : Int) > (60 : Int))), false)]) (by kernel_rfl) (oD <| Zc (Zg (ZY #[Value.slice (some ⟨1, (o4 + (0 * 4)), none⟩) (60 - 0) (n7 - 0)] (o4) (L5) ((60 - 0)) ((n7 - 0)) O1 F1 y5_0 N c5 1 2 (ZcT (Zb (Zx eqA rfl rfl) rfl)) (by decide) (by decide))) <| oR <| oE <| Zc (Zg (ZY #[vs 0 o0 n2 n3] (o0) (L1) (n2) (n3) O0 F0 y3_0 N c3 0 2 rfl (by decide) (by decide))) <| oR <| Zc (Zg ⟨ltA, ltA⟩) <| oI <| oR <| oY <| oN Zh) rfl (by decide) (by rfl) rr ⟨rfl, ⟨rfl, trivial⟩⟩
       ·
        refine Mach.en_ite (fun g7 => ?_) (fun g7 => ?_)
        ·
         exact Mach.en_head (bK := Zas 1) (M := Z1 o0 L1 n2 n3 o4 L5 n6 n7 O0 O1 N) (cd := 1000000) (cm := 0) (y := (.h1m0 (n2) (n3) ((60 - 0)) ((n7 - 0)) (([] : List R_iiii)) (0) : ZD)) (fu := 4000) (orc := (Zk [(0, false), (1, true), (2, false), (3, false)] [] [] [] [(0, .sl 0 60), (1, (ZX (o0) (L1) (n2) (n3) O0 y3_0 0 2)), (2, (ZX (o4) (L5) ((60 - 0)) ((n7 - 0)) O1 y5_0 1 2)), (3, .ap0)])) (live := [0, 1, 2]) (tv := [some (vs 0 o0 n2 n3), some (Value.slice (some ⟨1, (o4 + (0 * 4)), none⟩) (60 - 0) (n7 - 0)), some (vs 2 0 0 0), some (vi (0 : Int))]) (bl := [some (.ro O0), some (.ro O1), some (.cells [] 39)]) (ob := [(dP (0 = n2 ∧ ((n2 * 4 = 0 ∧ ([] : List Value) = []) ∨ (n2 * 4 ≠ 0 ∧ ZaP O0 o0 (n2 * 4) = some [] ∧ ZC atom [] = true))), true), ((y5_0 != (0 : Int)), false), (dP (ZU #[Value.slice (some ⟨1, (o4 + (0 * 4)), none⟩) (60 - 0) (n7 - 0)] (o4) (L5) ((60 - 0)) ((n7 - 0)) O1 y5_0 1 2), true), (dS O1, true), ((y3_0 != (0 : Int)), false), (dP (ZU #[vs 0 o0 n2 n3] (o0) (L1) (n2) (n3) O0 y3_0 0 2), true), (dS O0, true), (dP (0 ≤ 60 ∧ 60 ≤ n7), true), ((60 : Int) == Int.ofNat 60, true), (dS 0, true), ((decide ((n6 : Int) > (60 : Int))), true), ((decide ((n2 : Int) > (60 : Int))), false)]) rfl rfl (show ZQ (Zas 1).2 = [] from rfl) (by kernel_rfl) (Zc (Zg ⟨by omega, .inl ⟨by omega, rfl⟩⟩) <| oE <| Zc (Zg (ZY #[Value.slice (some ⟨1, (o4 + (0 * 4)), none⟩) (60 - 0) (n7 - 0)] (o4) (L5) ((60 - 0)) ((n7 - 0)) O1 F1 y5_0 N c5 1 2 (ZcT (Zb (Zx eqA rfl rfl) rfl)) (by decide) (by decide))) <| oR <| oE <| Zc (Zg (ZY #[vs 0 o0 n2 n3] (o0) (L1) (n2) (n3) O0 F0 y3_0 N c3 0 2 rfl (by decide) (by decide))) <| oR <| Zc (Zg ⟨ltA, ltA⟩) <| oI <| oR <| oY <| oN Zh) rfl (by decide) (by rfl) ⟨rr, ⟨⟨Eq.trans (show (vs 1 o4 (60 - 0) (n7 - 0) : Value) = Value.slice (some ⟨1, (o4 + (0 * 4)), none⟩) (60 - 0) (n7 - 0) from (Zx eqA rfl rfl)) (by rfl), by rfl⟩, ⟨⟨Eq.trans (show (vs 2 0 ([] : List R_iiii).length ([] : List R_iiii).length : Value) = vs 2 0 0 0 from (Zx rfl eqA eqA)) (by rfl), by rfl⟩, ⟨⟨Eq.trans (show (vi ((0 : Nat) : Int) : Value) = vi (0 : Int) from (congrArg (Value.int .i64) (by first | rfl | omega))) (by rfl), by rfl⟩, trivial⟩⟩⟩⟩ ⟨rfl, ⟨rfl, ⟨(Zbd (E := Zf) _ (L := ([] : List R_iiii)) _ (show ([] : List Value) = Za Zf ([] : List R_iiii) from rfl)), trivial⟩⟩⟩
        ·
         refine Mach.en_ite (fun g8 => ?_) (fun g8 => ?_)
         ·
          exact Mach.en_head (bK := Zas 1) (M := Z1 o0 L1 n2 n3 o4 L5 n6 n7 O0 O1 N) (cd := 1000000) (cm := 0) (y := (.h1m0 (n2) (n3) ((60 - 0)) ((n7 - 0)) ((L1.take n2)) (0) : ZD)) (fu := 4000) (orc := (Zk [(0, false), (1, true), (2, false), (3, false)] [] [] [] [(0, .sl 0 60), (1, (ZX (o0) (L1) (n2) (n3) O0 y3_0 0 2)), (2, (ZX (o4) (L5) ((60 - 0)) ((n7 - 0)) O1 y5_0 1 2)), (3, .ap n2 (Za Zf (L1.take n2)) (Za Zf (L1.take n2)))])) (live := [0, 1, 3]) (tv := [some (vs 0 o0 n2 n3), some (Value.slice (some ⟨1, (o4 + (0 * 4)), none⟩) (60 - 0) (n7 - 0)), some (vs 3 0 (0 + n2) (0 + n2)), some (vi (0 : Int))]) (bl := [some (.ro O0), some (.ro O1), some (.cells (Za Zf (L1.take n2)) 39)]) (ob := [(dP ((n2 = n2 ∧ ((n2 * 4 = 0 ∧ (Za Zf (L1.take n2)) = []) ∨ (n2 * 4 ≠ 0 ∧ ZaP O0 o0 (n2 * 4) = some (Za Zf (L1.take n2)) ∧ ZC atom (Za Zf (L1.take n2)) = true))) ∧ 0 < n2 ∧ n2 ≤ 100000 ∧ 0 < 0 + n2 ∧ 0 ≤ 100000 ∧ 0 * 4 ≤ (List.length []) ∧ List.take (0 * 4) [] ++ (Za Zf (L1.take n2)) = (Za Zf (L1.take n2))), true), ((y5_0 != (0 : Int)), false), (dP (ZU #[Value.slice (some ⟨1, (o4 + (0 * 4)), none⟩) (60 - 0) (n7 - 0)] (o4) (L5) ((60 - 0)) ((n7 - 0)) O1 y5_0 1 2), true), (dS O1, true), ((y3_0 != (0 : Int)), false), (dP (ZU #[vs 0 o0 n2 n3] (o0) (L1) (n2) (n3) O0 y3_0 0 2), true), (dS O0, true), (dP (0 ≤ 60 ∧ 60 ≤ n7), true), ((60 : Int) == Int.ofNat 60, true), (dS 0, true), ((decide ((n6 : Int) > (60 : Int))), true), ((decide ((n2 : Int) > (60 : Int))), false)]) rfl rfl (show ZQ (Zas 1).2 = [] from rfl) (by kernel_rfl) (Zc (Zg ⟨⟨rfl, .inr ⟨by omega, Zol (E := Zf) (C := fun x : R_iiii => [.i x.a0, .i x.a1, .i x.a2, .i x.a3]) (L := L1) (b := o0) (a := 0) (n := n2) F0 (fun x => ⟨rfl, rfl⟩) (by omega) (by omega) (show _ = _ + _ * 4 from by omega) (show _ = _ * 4 from rfl) (by rw [List.drop_zero])⟩⟩, by omega, by omega, ltA, by omega, (ZV (E := Zf) (L := ([] : List R_iiii)) (M := (L1.take n2)) (n := 0) (show _ = _ * 4 from rfl) ltA (R := (L1.take n2)) (by rw [List.take_of_length_le ltA]; rfl))⟩) <| oE <| Zc (Zg (ZY #[Value.slice (some ⟨1, (o4 + (0 * 4)), none⟩) (60 - 0) (n7 - 0)] (o4) (L5) ((60 - 0)) ((n7 - 0)) O1 F1 y5_0 N c5 1 2 (ZcT (Zb (Zx eqA rfl rfl) rfl)) (by decide) (by decide))) <| oR <| oE <| Zc (Zg (ZY #[vs 0 o0 n2 n3] (o0) (L1) (n2) (n3) O0 F0 y3_0 N c3 0 2 rfl (by decide) (by decide))) <| oR <| Zc (Zg ⟨ltA, ltA⟩) <| oI <| oR <| oY <| oN Zh) rfl (by decide) (by rfl) ⟨rr, ⟨⟨Eq.trans (show (vs 1 o4 (60 - 0) (n7 - 0) : Value) = Value.slice (some ⟨1, (o4 + (0 * 4)), none⟩) (60 - 0) (n7 - 0) from (Zx eqA rfl rfl)) (by rfl), by rfl⟩, ⟨⟨Eq.trans (show (vs 2 0 (L1.take n2).length (L1.take n2).length : Value) = vs 2 0 (0 + n2) (0 + n2) from (Zx rfl eqA eqA)) (by rfl), by rfl⟩, ⟨⟨Eq.trans (show (vi ((0 : Nat) : Int) : Value) = vi (0 : Int) from (congrArg (Value.int .i64) (by first | rfl | omega))) (by rfl), by rfl⟩, trivial⟩⟩⟩⟩ ⟨rfl, ⟨rfl, ⟨(Ze (E := Zf) (α := R_iiii) _ (L1.take n2) _), trivial⟩⟩⟩
         ·
          exact Mach.en_none
   ·
    exact Mach.en_none
  ·
   refine Mach.en_bind (fun z2 c2 => ?_)
   cases z2 with
   | r0 y2_0 =>
    refine Mach.en_ite (fun g3 => ?_) (fun g3 => ?_)
    ·
     exact Mach.en_fin (M := Z1 o0 L1 n2 n3 o4 L5 n6 n7 O0 O1 N) (cd := 1000000) (cm := 0) (r := (.r0 (true) : Zp)) (fu := 4000) (orc := (Zk [(0, false), (1, false), (2, true)] [] [] [] [(0, (ZX (o0) (L1) (n2) (n3) O0 y2_0 0 2))])) (live := [0, 1]) (u := Value.bool true) (bl := [some (.ro O0), some (.ro O1)]) (ob := [((y2_0 != (0 : Int)), true), (dP (ZU #[vs 0 o0 n2 n3] (o0) (L1) (n2) (n3) O0 y2_0 0 2), true), (dS O0, true), ((decide ((n6 : Int) > (60 : Int))), false), ((decide ((n2 : Int) > (60 : Int))), false)]) (by kernel_rfl) (oD <| Zc (Zg (ZY #[vs 0 o0 n2 n3] (o0) (L1) (n2) (n3) O0 F0 y2_0 N c2 0 2 rfl (by decide) (by decide))) <| oR <| oN <| oN Zh) rfl (by decide) (by rfl) rr ⟨rfl, ⟨rfl, trivial⟩⟩
    ·
     refine Mach.en_bind (fun z4 c4 => ?_)
     cases z4 with
     | r0 y4_0 =>
      refine Mach.en_ite (fun g5 => ?_) (fun g5 => ?_)
      ·
       exact Mach.en_fin (M := Z1 o0 L1 n2 n3 o4 L5 n6 n7 O0 O1 N) (cd := 1000000) (cm := 0) (r := (.r0 (true) : Zp)) (fu := 4000) (orc := (Zk [(0, false), (1, false), (2, false), (3, true)] [] [] [] [(0, (ZX (o0) (L1) (n2) (n3) O0 y2_0 0 2)), (1, (ZX (o4) (L5) (n6) (n7) O1 y4_0 1 2))])) (live := [0, 1]) (u := Value.bool true) (bl := [some (.ro O0), some (.ro O1)]) (ob := [((y4_0 != (0 : Int)), true), (dP (ZU #[vs 1 o4 n6 n7] (o4) (L5) (n6) (n7) O1 y4_0 1 2), true), (dS O1, true), ((y2_0 != (0 : Int)), false), (dP (ZU #[vs 0 o0 n2 n3] (o0) (L1) (n2) (n3) O0 y2_0 0 2), true), (dS O0, true), ((decide ((n6 : Int) > (60 : Int))), false), ((decide ((n2 : Int) > (60 : Int))), false)]) (by kernel_rfl) (oD <| Zc (Zg (ZY #[vs 1 o4 n6 n7] (o4) (L5) (n6) (n7) O1 F1 y4_0 N c4 1 2 rfl (by decide) (by decide))) <| oR <| oE <| Zc (Zg (ZY #[vs 0 o0 n2 n3] (o0) (L1) (n2) (n3) O0 F0 y2_0 N c2 0 2 rfl (by decide) (by decide))) <| oR <| oN <| oN Zh) rfl (by decide) (by rfl) rr ⟨rfl, ⟨rfl, trivial⟩⟩
      ·
       refine Mach.en_ite (fun g6 => ?_) (fun g6 => ?_)
       ·
        exact Mach.en_head (bK := Zas 1) (M := Z1 o0 L1 n2 n3 o4 L5 n6 n7 O0 O1 N) (cd := 1000000) (cm := 0) (y := (.h1m0 (n2) (n3) (n6) (n7) (([] : List R_iiii)) (0) : ZD)) (fu := 4000) (orc := (Zk [(0, false), (1, false), (2, false), (3, false)] [] [] [] [(0, (ZX (o0) (L1) (n2) (n3) O0 y2_0 0 2)), (1, (ZX (o4) (L5) (n6) (n7) O1 y4_0 1 2)), (2, .ap0)])) (live := [0, 1, 2]) (tv := [some (vs 0 o0 n2 n3), some (vs 1 o4 n6 n7), some (vs 2 0 0 0), some (vi (0 : Int))]) (bl := [some (.ro O0), some (.ro O1), some (.cells [] 39)]) (ob := [(dP (0 = n2 ∧ ((n2 * 4 = 0 ∧ ([] : List Value) = []) ∨ (n2 * 4 ≠ 0 ∧ ZaP O0 o0 (n2 * 4) = some [] ∧ ZC atom [] = true))), true), ((y4_0 != (0 : Int)), false), (dP (ZU #[vs 1 o4 n6 n7] (o4) (L5) (n6) (n7) O1 y4_0 1 2), true), (dS O1, true), ((y2_0 != (0 : Int)), false), (dP (ZU #[vs 0 o0 n2 n3] (o0) (L1) (n2) (n3) O0 y2_0 0 2), true), (dS O0, true), ((decide ((n6 : Int) > (60 : Int))), false), ((decide ((n2 : Int) > (60 : Int))), false)]) rfl rfl (show ZQ (Zas 1).2 = [] from rfl) (by kernel_rfl) (Zc (Zg ⟨by omega, .inl ⟨by omega, rfl⟩⟩) <| oE <| Zc (Zg (ZY #[vs 1 o4 n6 n7] (o4) (L5) (n6) (n7) O1 F1 y4_0 N c4 1 2 rfl (by decide) (by decide))) <| oR <| oE <| Zc (Zg (ZY #[vs 0 o0 n2 n3] (o0) (L1) (n2) (n3) O0 F0 y2_0 N c2 0 2 rfl (by decide) (by decide))) <| oR <| oN <| oN Zh) rfl (by decide) (by rfl) ⟨rr, ⟨rr, ⟨⟨Eq.trans (show (vs 2 0 ([] : List R_iiii).length ([] : List R_iiii).length : Value) = vs 2 0 0 0 from (Zx rfl eqA eqA)) (by rfl), by rfl⟩, ⟨⟨Eq.trans (show (vi ((0 : Nat) : Int) : Value) = vi (0 : Int) from (congrArg (Value.int .i64) (by first | rfl | omega))) (by rfl), by rfl⟩, trivial⟩⟩⟩⟩ ⟨rfl, ⟨rfl, ⟨(Zbd (E := Zf) _ (L := ([] : List R_iiii)) _ (show ([] : List Value) = Za Zf ([] : List R_iiii) from rfl)), trivial⟩⟩⟩
       ·
        refine Mach.en_ite (fun g7 => ?_) (fun g7 => ?_)
        ·
         exact Mach.en_head (bK := Zas 1) (M := Z1 o0 L1 n2 n3 o4 L5 n6 n7 O0 O1 N) (cd := 1000000) (cm := 0) (y := (.h1m0 (n2) (n3) (n6) (n7) ((L1.take n2)) (0) : ZD)) (fu := 4000) (orc := (Zk [(0, false), (1, false), (2, false), (3, false)] [] [] [] [(0, (ZX (o0) (L1) (n2) (n3) O0 y2_0 0 2)), (1, (ZX (o4) (L5) (n6) (n7) O1 y4_0 1 2)), (2, .ap n2 (Za Zf (L1.take n2)) (Za Zf (L1.take n2)))])) (live := [0, 1, 3]) (tv := [some (vs 0 o0 n2 n3), some (vs 1 o4 n6 n7), some (vs 3 0 (0 + n2) (0 + n2)), some (vi (0 : Int))]) (bl := [some (.ro O0), some (.ro O1), some (.cells (Za Zf (L1.take n2)) 39)]) (ob := [(dP ((n2 = n2 ∧ ((n2 * 4 = 0 ∧ (Za Zf (L1.take n2)) = []) ∨ (n2 * 4 ≠ 0 ∧ ZaP O0 o0 (n2 * 4) = some (Za Zf (L1.take n2)) ∧ ZC atom (Za Zf (L1.take n2)) = true))) ∧ 0 < n2 ∧ n2 ≤ 100000 ∧ 0 < 0 + n2 ∧ 0 ≤ 100000 ∧ 0 * 4 ≤ (List.length []) ∧ List.take (0 * 4) [] ++ (Za Zf (L1.take n2)) = (Za Zf (L1.take n2))), true), ((y4_0 != (0 : Int)), false), (dP (ZU #[vs 1 o4 n6 n7] (o4) (L5) (n6) (n7) O1 y4_0 1 2), true), (dS O1, true), ((y2_0 != (0 : Int)), false), (dP (ZU #[vs 0 o0 n2 n3] (o0) (L1) (n2) (n3) O0 y2_0 0 2), true), (dS O0, true), ((decide ((n6 : Int) > (60 : Int))), false), ((decide ((n2 : Int) > (60 : Int))), false)]) rfl rfl (show ZQ (Zas 1).2 = [] from rfl) (by kernel_rfl) (Zc (Zg ⟨⟨rfl, .inr ⟨by omega, Zol (E := Zf) (C := fun x : R_iiii => [.i x.a0, .i x.a1, .i x.a2, .i x.a3]) (L := L1) (b := o0) (a := 0) (n := n2) F0 (fun x => ⟨rfl, rfl⟩) (by omega) (by omega) (show _ = _ + _ * 4 from by omega) (show _ = _ * 4 from rfl) (by rw [List.drop_zero])⟩⟩, by omega, by omega, ltA, by omega, (ZV (E := Zf) (L := ([] : List R_iiii)) (M := (L1.take n2)) (n := 0) (show _ = _ * 4 from rfl) ltA (R := (L1.take n2)) (by rw [List.take_of_length_le ltA]; rfl))⟩) <| oE <| Zc (Zg (ZY #[vs 1 o4 n6 n7] (o4) (L5) (n6) (n7) O1 F1 y4_0 N c4 1 2 rfl (by decide) (by decide))) <| oR <| oE <| Zc (Zg (ZY #[vs 0 o0 n2 n3] (o0) (L1) (n2) (n3) O0 F0 y2_0 N c2 0 2 rfl (by decide) (by decide))) <| oR <| oN <| oN Zh) rfl (by decide) (by rfl) ⟨rr, ⟨rr, ⟨⟨Eq.trans (show (vs 2 0 (L1.take n2).length (L1.take n2).length : Value) = vs 2 0 (0 + n2) (0 + n2) from (Zx rfl eqA eqA)) (by rfl), by rfl⟩, ⟨⟨Eq.trans (show (vi ((0 : Nat) : Int) : Value) = vi (0 : Int) from (congrArg (Value.int .i64) (by first | rfl | omega))) (by rfl), by rfl⟩, trivial⟩⟩⟩⟩ ⟨rfl, ⟨rfl, ⟨(Ze (E := Zf) (α := R_iiii) _ (L1.take n2) _), trivial⟩⟩⟩
        ·
         exact Mach.en_none

theorem Zkf (o0 : Nat) (L1 : List R_iiii) (n2 n3 o4 : Nat) (L5 : List R_iiii) (n6 n7 : Nat) (O0 : Obj) (F0 : ZA O0 o0 L1) (O1 : Obj) (F1 : ZA O1 o4 L5) (N : Nat) (r : Zp) (h : ZfJ L1 n2 n3 L5 n6 n7 N = some r) : LSpec Try.prog 7 #[vs 0 o0 n2 n3, vs 1 o4 n6 n7] [.ro O0, .ro O1] (ZhY o0 L1 n2 n3 o4 L5 n6 n7 O0 O1 r) (ZhG o0 L1 n2 n3 o4 L5 n6 n7 O0 O1 r) :=
 Mach.spec Zax (Z1 o0 L1 n2 n3 o4 L5 n6 n7 O0 O1 N) Try.func7 (by kernel_rfl) (by kernel_rfl) (fun x => by cases x <;> exact Zaf _ rfl) (fun r => by cases r <;> exact Zaf _ rfl) (fun x => by
  cases x with
  | h1m0 _ _ _ _ _ _ => exact fun _ => (show ¬ (1 ∈ ZQ (Zas 1).2) from by decide +kernel)
  ) (fun x => (show (Z1 o0 L1 n2 n3 o4 L5 n6 n7 O0 O1 N).Ok Try.prog Z8 x (Zcd L1 n2 n3 L5 n6 n7 N x) from by
  cases x with
  | h1m0 v4 v5 v6 v7 v8 v9 => exact ZjD o0 L1 n2 n3 o4 L5 n6 n7 O0 F0 O1 F1 v4 v5 v6 v7 v8 v9 N
  )) (ZlE o0 L1 n2 n3 o4 L5 n6 n7 O0 F0 O1 F1 N) (n := N) h

noncomputable def ZkZ  : ZdH → Value
 | .r0 => vp 0 0
noncomputable def Zkg  : ZdH → List (Option AObj)
 | .r0 => [some (.cells [vn, vn, vn, vn, vn, vi (0 : Int), vi (0 : Int), vi (120 : Int)] 50)]

theorem Zor  (N : Nat) : Fx Try.prog Z8 Try.f26 [] #[vn] (ZkZ ) (Zkg ) (ZeY  N) := by
 unfold ZeY
 exact Zn (r := (.r0 : ZdH)) (fu := 4000) (orc := (Zk [] [] [] [] [])) (live := [0]) (u := vp 0 0) (bl := [some (.cells [vn, vn, vn, vn, vn, vi (0 : Int), vi (0 : Int), vi (120 : Int)] 50)]) (ob := []) (by kernel_rfl) Zh rfl (by decide) (by rfl) rr ⟨⟨rfl, ⟨[], by rfl⟩, by rfl⟩, trivial⟩

theorem Znp  (N : Nat) (r : ZdH) (h : ZeY  N = some r) : LSpec Try.prog 26 #[vn] [] (ZkZ  r) (Zkg  r) :=
 ZaB Zax Try.func26 (by kernel_rfl) (by kernel_rfl) (fun r => by cases r <;> exact Zaf _ rfl) (Zor  N) h

noncomputable def ZoD  (n : Nat) : Zag := .call [] (vp n 0) [(n, some (.cells [vn, vn, vn, vn, vn, vi (0 : Int), vi (0 : Int), vi (120 : Int)] 50))] 1
def Zkh (A : Array Value)  (n : Nat) : Prop := Zz Try.prog 26 A [] (vp n 0) [(n, some (.cells [vn, vn, vn, vn, vn, vi (0 : Int), vi (0 : Int), vi (120 : Int)] 50))] n 1

theorem ZoE (A : Array Value)  (N : Nat) (h : ZeY  N = some (.r0)) (n : Nat) (hA : A = #[vn]) (hnd : ([] : List Nat).Nodup) (hlt : ∀ k ∈ ([] : List Nat), k < n) : Zkh A   n :=
 Z7 hA (LSpec.callL (show LSpec Try.prog 26 #[vn] [] (vp 0 0) [some (.cells [vn, vn, vn, vn, vn, vi (0 : Int), vi (0 : Int), vi (120 : Int)] 50)] from Znp  N _ h) [] n [0] rfl hnd hlt (show 0 ≤ 1 from by decide) (show ∀ j ∈ ([0] : List Nat), j < 1 from by decide) (by rfl) trivial (by rfl) ⟨rfl, trivial⟩ ⟨(by decide), trivial⟩ rfl rfl rfl rfl (Zb (Zj rfl (Z0 rfl)) rfl))

noncomputable def Zki  : Zd2 → Value
 | .r0 => vi (120 : Int)
noncomputable def Zjt  : Zd2 → List (Option AObj)
 | .r0 => []

theorem ZnR  (N : Nat) : Fx Try.prog Z8 Try.f12 [] #[vn] (Zki ) (Zjt ) (Zcr  N) := by
 unfold Zcr
 refine ZZ (fun z0 c0 => ?_)
 cases z0 with
 | r0 =>
  exact Zn (r := (.r0 : Zd2)) (fu := 4000) (orc := (Zk [] [] [] [] [(0, (ZoD     0))])) (live := []) (u := vi (120 : Int)) (bl := []) (ob := [(dP (Zkh #[vn]     0), true)]) (by kernel_rfl) (Zc (Zg (ZoE #[vn]    N c0  0 rfl (by decide) (by decide))) Zh) rfl (by decide) (by rfl) rr trivial

theorem ZmC  (N : Nat) (r : Zd2) (h : Zcr  N = some r) : LSpec Try.prog 12 #[vn] [] (Zki  r) (Zjt  r) :=
 ZaB Zax Try.func12 (by kernel_rfl) (by kernel_rfl) (fun r => by cases r <;> exact Zaf _ rfl) (ZnR  N) h

noncomputable def ZdM  (n : Nat) : Zag := .call [] (vi (120 : Int)) [] 0
def Zdn (A : Array Value)  (n : Nat) : Prop := Zz Try.prog 12 A [] (vi (120 : Int)) [] n 0

theorem ZdN (A : Array Value)  (N : Nat) (h : Zcr  N = some (.r0)) (n : Nat) (hA : A = #[vn]) (hnd : ([] : List Nat).Nodup) (hlt : ∀ k ∈ ([] : List Nat), k < n) : Zdn A   n :=
 Z7 hA (LSpec.callL (show LSpec Try.prog 12 #[vn] [] (vi (120 : Int)) [] from ZmC  N _ h) [] n [] rfl hnd hlt (show 0 ≤ 0 from by decide) (show ∀ j ∈ ([] : List Nat), j < 0 from by decide) (by rfl) trivial (by rfl) trivial trivial rfl rfl rfl rfl rfl)

noncomputable def Zha (o0 : Nat) (L1 : List R_iiii) (n2 n3 : Nat) (O0 : Obj) : ZaF → Value
 | .r0 => Value.bool true
noncomputable def Zgu (o0 : Nat) (L1 : List R_iiii) (n2 n3 : Nat) (O0 : Obj) : ZaF → List (Option AObj)
 | .r0 => [some (.ro O0)]

theorem Zkj (o0 : Nat) (L1 : List R_iiii) (n2 n3 : Nat) (O0 : Obj) (F0 : ZA O0 o0 L1) (N : Nat) : Fx Try.prog Z8 Try.f7 [.ro O0] #[vs 0 o0 n2 n3, vn] (Zha o0 L1 n2 n3 O0) (Zgu o0 L1 n2 n3 O0) (Zdb L1 n2 n3 N) := by
 unfold Zdb
 refine Zo (fun g0 => ?_) (fun g0 => ?_)
 ·
  refine Zo (fun g1 => ?_) (fun g1 => ?_)
  ·
   refine ZZ (fun z2 c2 => ?_)
   cases z2 with
   | r0 y2_0 =>
    refine Zo (fun g3 => ?_) (fun g3 => ?_)
    ·
     exact Zn (r := (.r0 : ZaF)) (fu := 4000) (orc := (Zk [(0, true), (2, true)] [] [] [] [(0, .sl 0 60), (1, (ZX (o0) (L1) ((60 - 0)) ((n3 - 0)) O0 y2_0 0 1))])) (live := [0]) (u := Value.bool true) (bl := [some (.ro O0)]) (ob := [((y2_0 != (0 : Int)), true), (dP (ZU #[Value.slice (some ⟨0, (o0 + (0 * 4)), none⟩) (60 - 0) (n3 - 0)] (o0) (L1) ((60 - 0)) ((n3 - 0)) O0 y2_0 0 1), true), (dS O0, true), (dP (0 ≤ 60 ∧ 60 ≤ n3), true), ((60 : Int) == Int.ofNat 60, true), (dS 0, true), ((decide ((n2 : Int) > (60 : Int))), true)]) (by kernel_rfl) (oD <| Zc (Zg (ZY #[Value.slice (some ⟨0, (o0 + (0 * 4)), none⟩) (60 - 0) (n3 - 0)] (o0) (L1) ((60 - 0)) ((n3 - 0)) O0 F0 y2_0 N c2 0 1 (ZcT (Zb (Zx eqA rfl rfl) rfl)) (by decide) (by decide))) <| oR <| Zc (Zg ⟨ltA, ltA⟩) <| oI <| oR <| oY Zh) rfl (by decide) (by rfl) rr ⟨rfl, trivial⟩
    ·
     refine ZZ (fun z4 c4 => ?_)
     cases z4 with
     | r0 =>
      exact Zn (r := (.r0 : ZaF)) (fu := 4000) (orc := (Zk [(0, true), (2, false)] [] [] [] [(0, .sl 0 60), (1, (ZX (o0) (L1) ((60 - 0)) ((n3 - 0)) O0 y2_0 0 1)), (2, (ZdM     1))])) (live := [0]) (u := Value.bool true) (bl := [some (.ro O0)]) (ob := [(dP (Zdn #[vn]     1), true), ((y2_0 != (0 : Int)), false), (dP (ZU #[Value.slice (some ⟨0, (o0 + (0 * 4)), none⟩) (60 - 0) (n3 - 0)] (o0) (L1) ((60 - 0)) ((n3 - 0)) O0 y2_0 0 1), true), (dS O0, true), (dP (0 ≤ 60 ∧ 60 ≤ n3), true), ((60 : Int) == Int.ofNat 60, true), (dS 0, true), ((decide ((n2 : Int) > (60 : Int))), true)]) (by kernel_rfl) (Zc (Zg (ZdN #[vn]    N c4  1 rfl (by decide) (by decide))) <| oE <| Zc (Zg (ZY #[Value.slice (some ⟨0, (o0 + (0 * 4)), none⟩) (60 - 0) (n3 - 0)] (o0) (L1) ((60 - 0)) ((n3 - 0)) O0 F0 y2_0 N c2 0 1 (ZcT (Zb (Zx eqA rfl rfl) rfl)) (by decide) (by decide))) <| oR <| Zc (Zg ⟨ltA, ltA⟩) <| oI <| oR <| oY Zh) rfl (by decide) (by rfl) rr ⟨rfl, trivial⟩
  ·
   exact ZM
 ·
  refine ZZ (fun z1 c1 => ?_)
  cases z1 with
  | r0 y1_0 =>
   refine Zo (fun g2 => ?_) (fun g2 => ?_)
   ·
    exact Zn (r := (.r0 : ZaF)) (fu := 4000) (orc := (Zk [(0, false), (2, true)] [] [] [] [(0, (ZX (o0) (L1) (n2) (n3) O0 y1_0 0 1))])) (live := [0]) (u := Value.bool true) (bl := [some (.ro O0)]) (ob := [((y1_0 != (0 : Int)), true), (dP (ZU #[vs 0 o0 n2 n3] (o0) (L1) (n2) (n3) O0 y1_0 0 1), true), (dS O0, true), ((decide ((n2 : Int) > (60 : Int))), false)]) (by kernel_rfl) (oD <| Zc (Zg (ZY #[vs 0 o0 n2 n3] (o0) (L1) (n2) (n3) O0 F0 y1_0 N c1 0 1 rfl (by decide) (by decide))) <| oR <| oN Zh) rfl (by decide) (by rfl) rr ⟨rfl, trivial⟩
   ·
    refine ZZ (fun z3 c3 => ?_)
    cases z3 with
    | r0 =>
     exact Zn (r := (.r0 : ZaF)) (fu := 4000) (orc := (Zk [(0, false), (2, false)] [] [] [] [(0, (ZX (o0) (L1) (n2) (n3) O0 y1_0 0 1)), (1, (ZdM     1))])) (live := [0]) (u := Value.bool true) (bl := [some (.ro O0)]) (ob := [(dP (Zdn #[vn]     1), true), ((y1_0 != (0 : Int)), false), (dP (ZU #[vs 0 o0 n2 n3] (o0) (L1) (n2) (n3) O0 y1_0 0 1), true), (dS O0, true), ((decide ((n2 : Int) > (60 : Int))), false)]) (by kernel_rfl) (Zc (Zg (ZdN #[vn]    N c3  1 rfl (by decide) (by decide))) <| oE <| Zc (Zg (ZY #[vs 0 o0 n2 n3] (o0) (L1) (n2) (n3) O0 F0 y1_0 N c1 0 1 rfl (by decide) (by decide))) <| oR <| oN Zh) rfl (by decide) (by rfl) rr ⟨rfl, trivial⟩

theorem Zjb (o0 : Nat) (L1 : List R_iiii) (n2 n3 : Nat) (O0 : Obj) (F0 : ZA O0 o0 L1) (N : Nat) (r : ZaF) (h : Zdb L1 n2 n3 N = some r) : LSpec Try.prog 7 #[vs 0 o0 n2 n3, vn] [.ro O0] (Zha o0 L1 n2 n3 O0 r) (Zgu o0 L1 n2 n3 O0 r) :=
 ZaB Zax Try.func7 (by kernel_rfl) (by kernel_rfl) (fun r => by cases r <;> exact Zaf _ rfl) (Zkj o0 L1 n2 n3 O0 F0 N) h

noncomputable def Zhb (o0 : Nat) (L1 : List R_iiii) (n2 n3 : Nat) (O0 : Obj) : Zbw → Value
 | .r0 => Value.bool true
noncomputable def Zgv (o0 : Nat) (L1 : List R_iiii) (n2 n3 : Nat) (O0 : Obj) : Zbw → List (Option AObj)
 | .r0 => [some (.ro O0)]

theorem Zkk (o0 : Nat) (L1 : List R_iiii) (n2 n3 : Nat) (O0 : Obj) (F0 : ZA O0 o0 L1) (N : Nat) : Fx Try.prog Z8 Try.f7 [.ro O0] #[vn, vs 0 o0 n2 n3] (Zhb o0 L1 n2 n3 O0) (Zgv o0 L1 n2 n3 O0) (Zdc L1 n2 n3 N) := by
 unfold Zdc
 refine Zo (fun g0 => ?_) (fun g0 => ?_)
 ·
  refine Zo (fun g1 => ?_) (fun g1 => ?_)
  ·
   refine ZZ (fun z2 c2 => ?_)
   cases z2 with
   | r0 =>
    exact Zn (r := (.r0 : Zbw)) (fu := 4000) (orc := (Zk [(1, true)] [] [] [] [(0, .sl 0 60), (1, (ZdM     1))])) (live := [0]) (u := Value.bool true) (bl := [some (.ro O0)]) (ob := [(dP (Zdn #[vn]     1), true), (dP (0 ≤ 60 ∧ 60 ≤ n3), true), ((60 : Int) == Int.ofNat 60, true), (dS 0, true), ((decide ((n2 : Int) > (60 : Int))), true)]) (by kernel_rfl) (Zc (Zg (ZdN #[vn]    N c2  1 rfl (by decide) (by decide))) <| Zc (Zg ⟨ltA, ltA⟩) <| oI <| oR <| oY Zh) rfl (by decide) (by rfl) rr ⟨rfl, trivial⟩
  ·
   exact ZM
 ·
  refine ZZ (fun z1 c1 => ?_)
  cases z1 with
  | r0 =>
   exact Zn (r := (.r0 : Zbw)) (fu := 4000) (orc := (Zk [(1, false)] [] [] [] [(0, (ZdM     1))])) (live := [0]) (u := Value.bool true) (bl := [some (.ro O0)]) (ob := [(dP (Zdn #[vn]     1), true), ((decide ((n2 : Int) > (60 : Int))), false)]) (by kernel_rfl) (Zc (Zg (ZdN #[vn]    N c1  1 rfl (by decide) (by decide))) <| oN Zh) rfl (by decide) (by rfl) rr ⟨rfl, trivial⟩

theorem Zjc (o0 : Nat) (L1 : List R_iiii) (n2 n3 : Nat) (O0 : Obj) (F0 : ZA O0 o0 L1) (N : Nat) (r : Zbw) (h : Zdc L1 n2 n3 N = some r) : LSpec Try.prog 7 #[vn, vs 0 o0 n2 n3] [.ro O0] (Zhb o0 L1 n2 n3 O0 r) (Zgv o0 L1 n2 n3 O0 r) :=
 ZaB Zax Try.func7 (by kernel_rfl) (by kernel_rfl) (fun r => by cases r <;> exact Zaf _ rfl) (Zkk o0 L1 n2 n3 O0 F0 N) h

noncomputable def Zhc  : Zco → Value
 | .r0 => Value.bool true
noncomputable def Zgw  : Zco → List (Option AObj)
 | .r0 => []

theorem Zkl  (N : Nat) : Fx Try.prog Z8 Try.f7 [] #[vn, vn] (Zhc ) (Zgw ) (ZdL  N) := by
 unfold ZdL
 refine ZZ (fun z0 c0 => ?_)
 cases z0 with
 | r0 =>
  exact Zn (r := (.r0 : Zco)) (fu := 4000) (orc := (Zk [] [] [] [] [(0, (ZdM     0))])) (live := []) (u := Value.bool true) (bl := []) (ob := [(dP (Zdn #[vn]     0), true)]) (by kernel_rfl) (Zc (Zg (ZdN #[vn]    N c0  0 rfl (by decide) (by decide))) Zh) rfl (by decide) (by rfl) rr trivial

theorem Zjd  (N : Nat) (r : Zco) (h : ZdL  N = some r) : LSpec Try.prog 7 #[vn, vn] [] (Zhc  r) (Zgw  r) :=
 ZaB Zax Try.func7 (by kernel_rfl) (by kernel_rfl) (fun r => by cases r <;> exact Zaf _ rfl) (Zkl  N) h

end Ev
end Go.Proofs.Ytpgbennpiihajaa
