/- Calls do what the plain functions say. -/
import Derived.Test.YtpgbennpiihajaaKmq3
namespace Go.Proofs.Ytpgbennpiihajaa
open Go.RowKit
namespace Ev
set_option linter.unusedVariables false
set_option maxRecDepth 100000
theorem Zq9 (o0 : Nat) (L1 : List R_iiii) (n2 n3 : Nat) (a4 : Int) (O0 : Obj) (F0 : Zs O0 o0 L1) (N : Nat) : Fx Try.prog Zr Try.f17 [.ro O0] #[vs 0 o0 n2 n3, vi a4] (Zm8 o0 L1 n2 n3 a4 O0) (Zlp o0 L1 n2 n3 a4 O0) (ZcD L1 n2 n3 a4 N) := by
 unfold ZcD
 refine Za4 (fun z0 c0 => ?_)
 cases z0 with
 | r0 y0_0 =>
  refine Zm (fun g1 => ?_) (fun g1 => ?_)
  ·
   exact Zk (r := (.r0 ((-1 : Int)) ((0 : Int)) : ZF)) (fu := 4000) (orc := (Zi [(0, true)] [] [] [] [(0, (Zdt (o0) (L1) (n2) (n3) O0 y0_0 0 1))])) (live := [0]) (u := Value.tuple #[vi (-1 : Int), v0]) (bl := [some (.ro O0)]) (ob := [((y0_0 != (0 : Int)), true), (dP (ZcE #[vs 0 o0 n2 n3] (o0) (L1) (n2) (n3) O0 y0_0 0 1), true), (dS O0, true)]) (by kernel_rfl) (oD <| Za (Zf (Zdu #[vs 0 o0 n2 n3] (o0) (L1) (n2) (n3) O0 F0 y0_0 N c0 0 1 rfl (by decide) (by decide))) <| oR Zd) rfl (by decide) (by rfl) rr ⟨rfl, trivial⟩
  ·
   refine Zm (fun g2 => ?_) (fun g2 => ?_)
   ·
    exact Zk (r := (.r0 ((-1 : Int)) ((0 : Int)) : ZF)) (fu := 4000) (orc := (Zi [(0, false), (1, true)] [] [] [] [(0, (Zdt (o0) (L1) (n2) (n3) O0 y0_0 0 1))])) (live := [0]) (u := Value.tuple #[vi (-1 : Int), v0]) (bl := [some (.ro O0)]) (ob := [((decide (a4 < (0 : Int))), true), ((y0_0 != (0 : Int)), false), (dP (ZcE #[vs 0 o0 n2 n3] (o0) (L1) (n2) (n3) O0 y0_0 0 1), true), (dS O0, true)]) (by kernel_rfl) (oY <| oE <| Za (Zf (Zdu #[vs 0 o0 n2 n3] (o0) (L1) (n2) (n3) O0 F0 y0_0 N c0 0 1 rfl (by decide) (by decide))) <| oR Zd) rfl (by decide) (by rfl) rr ⟨rfl, trivial⟩
   ·
    refine Zm (fun g3 => ?_) (fun g3 => ?_)
    ·
     exact Zk (r := (.r0 ((-1 : Int)) ((0 : Int)) : ZF)) (fu := 4000) (orc := (Zi [(0, false), (1, false), (2, true)] [] [] [] [(0, (Zdt (o0) (L1) (n2) (n3) O0 y0_0 0 1))])) (live := [0]) (u := Value.tuple #[vi (-1 : Int), v0]) (bl := [some (.ro O0)]) (ob := [((decide (a4 > (n2 : Int))), true), ((decide (a4 < (0 : Int))), false), ((y0_0 != (0 : Int)), false), (dP (ZcE #[vs 0 o0 n2 n3] (o0) (L1) (n2) (n3) O0 y0_0 0 1), true), (dS O0, true)]) (by kernel_rfl) (oY <| oN <| oE <| Za (Zf (Zdu #[vs 0 o0 n2 n3] (o0) (L1) (n2) (n3) O0 F0 y0_0 N c0 0 1 rfl (by decide) (by decide))) <| oR Zd) rfl (by decide) (by rfl) rr ⟨rfl, trivial⟩
    ·
     exact Za6
 | r1 y0_0 y0_1 =>
  refine Zm (fun g1 => ?_) (fun g1 => ?_)
  ·
   exact Zk (r := (.r0 ((-1 : Int)) ((0 : Int)) : ZF)) (fu := 4000) (orc := (Zi [(0, true)] [] [] [] [(0, (ZcF (o0) (L1) (n2) (n3) O0 y0_0 y0_1 0 1))])) (live := [0]) (u := Value.tuple #[vi (-1 : Int), v0]) (bl := [some (.ro O0)]) (ob := [((y0_1 != (0 : Int)), true), (dP (Zcv #[vs 0 o0 n2 n3] (o0) (L1) (n2) (n3) O0 y0_0 y0_1 0 1), true), (dS O0, true)]) (by kernel_rfl) (oD <| Za (Zf (ZcG #[vs 0 o0 n2 n3] (o0) (L1) (n2) (n3) O0 F0 y0_0 y0_1 N c0 0 1 rfl (by decide) (by decide))) <| oR Zd) rfl (by decide) (by rfl) rr ⟨rfl, trivial⟩
  ·
   refine Zm (fun g2 => ?_) (fun g2 => ?_)
   ·
    exact Zk (r := (.r0 ((-1 : Int)) ((0 : Int)) : ZF)) (fu := 4000) (orc := (Zi [(0, false), (1, true)] [] [] [] [(0, (ZcF (o0) (L1) (n2) (n3) O0 y0_0 y0_1 0 1))])) (live := [0]) (u := Value.tuple #[vi (-1 : Int), v0]) (bl := [some (.ro O0)]) (ob := [((decide (a4 < (0 : Int))), true), ((y0_1 != (0 : Int)), false), (dP (Zcv #[vs 0 o0 n2 n3] (o0) (L1) (n2) (n3) O0 y0_0 y0_1 0 1), true), (dS O0, true)]) (by kernel_rfl) (oY <| oE <| Za (Zf (ZcG #[vs 0 o0 n2 n3] (o0) (L1) (n2) (n3) O0 F0 y0_0 y0_1 N c0 0 1 rfl (by decide) (by decide))) <| oR Zd) rfl (by decide) (by rfl) rr ⟨rfl, trivial⟩
   ·
    refine Zm (fun g3 => ?_) (fun g3 => ?_)
    ·
     exact Zk (r := (.r0 ((-1 : Int)) ((0 : Int)) : ZF)) (fu := 4000) (orc := (Zi [(0, false), (1, false), (2, true)] [] [] [] [(0, (ZcF (o0) (L1) (n2) (n3) O0 y0_0 y0_1 0 1))])) (live := [0]) (u := Value.tuple #[vi (-1 : Int), v0]) (bl := [some (.ro O0)]) (ob := [((decide (a4 > (n2 : Int))), true), ((decide (a4 < (0 : Int))), false), ((y0_1 != (0 : Int)), false), (dP (Zcv #[vs 0 o0 n2 n3] (o0) (L1) (n2) (n3) O0 y0_0 y0_1 0 1), true), (dS O0, true)]) (by kernel_rfl) (oY <| oN <| oE <| Za (Zf (ZcG #[vs 0 o0 n2 n3] (o0) (L1) (n2) (n3) O0 F0 y0_0 y0_1 N c0 0 1 rfl (by decide) (by decide))) <| oR Zd) rfl (by decide) (by rfl) rr ⟨rfl, trivial⟩
    ·
     refine Zm (fun g4 => ?_) (fun g4 => ?_)
     ·
      exact Zk (r := (.r0 ((([(⟨(-1 : Int), (0 : Int)⟩ : R_ii)] : List R_ii).getD (a4).toNat R_ii.z).a0) ((([(⟨(-1 : Int), (0 : Int)⟩ : R_ii)] : List R_ii).getD (a4).toNat R_ii.z).a1) : ZF)) (fu := 4000) (orc := (Zi [(0, false), (1, false), (2, false)] [] [(0, (a4).toNat)] [(2, [.i (([(⟨(-1 : Int), (0 : Int)⟩ : R_ii)] : List R_ii).getD (a4).toNat R_ii.z).a0, .i (([(⟨(-1 : Int), (0 : Int)⟩ : R_ii)] : List R_ii).getD (a4).toNat R_ii.z).a1])] [(0, (ZcF (o0) (L1) (n2) (n3) O0 y0_0 y0_1 0 1))])) (live := [0]) (u := Value.tuple #[vi (([(⟨(-1 : Int), (0 : Int)⟩ : R_ii)] : List R_ii).getD (a4).toNat R_ii.z).a0, vi (([(⟨(-1 : Int), (0 : Int)⟩ : R_ii)] : List R_ii).getD (a4).toNat R_ii.z).a1]) (bl := [some (.ro O0)]) (ob := [(Zz (Z7 2 (List.drop (0 + ((a4).toNat * 2)) (Zb Ze ([(⟨(-1 : Int), (0 : Int)⟩ : R_ii)] : List R_ii)))) [.i (([(⟨(-1 : Int), (0 : Int)⟩ : R_ii)] : List R_ii).getD (a4).toNat R_ii.z).a0, .i (([(⟨(-1 : Int), (0 : Int)⟩ : R_ii)] : List R_ii).getD (a4).toNat R_ii.z).a1], true), (Nat.blt (a4).toNat 1, true), (a4 == Int.ofNat (a4).toNat, true), ((decide (a4 > (n2 : Int))), false), ((decide (a4 < (0 : Int))), false), ((y0_1 != (0 : Int)), false), (dP (Zcv #[vs 0 o0 n2 n3] (o0) (L1) (n2) (n3) O0 y0_0 y0_1 0 1), true), (dS O0, true)]) (by kernel_rfl) (Za (Zaq (E := Ze) (L := ([(⟨(-1 : Int), (0 : Int)⟩ : R_ii)] : List R_ii)) (i := (a4).toNat) (q := 0) ltA (show (0 + ((a4).toNat * 2)) = (a4).toNat * 2 + 0 from by omega) (show 0 + 2 ≤ 2 from by decide) rfl rfl) <| oB <| oI <| oN <| oN <| oE <| Za (Zf (ZcG #[vs 0 o0 n2 n3] (o0) (L1) (n2) (n3) O0 F0 y0_0 y0_1 N c0 0 1 rfl (by decide) (by decide))) <| oR Zd) rfl (by decide) (by rfl) rr ⟨rfl, trivial⟩
     ·
      exact Za6
 | r2 y0_0 y0_1 y0_2 y0_3 y0_4 y0_5 y0_6 =>
  refine Zm (fun g1 => ?_) (fun g1 => ?_)
  ·
   exact Zk (r := (.r0 ((-1 : Int)) ((0 : Int)) : ZF)) (fu := 4000) (orc := (Zi [(0, true)] [] [] [] [(0, (ZcH (o0) (L1) (n2) (n3) O0 y0_0 y0_1 y0_2 y0_3 y0_4 y0_5 y0_6 0 1))])) (live := [0]) (u := Value.tuple #[vi (-1 : Int), v0]) (bl := [some (.ro O0)]) (ob := [((y0_6 != (0 : Int)), true), (dP (Zcw #[vs 0 o0 n2 n3] (o0) (L1) (n2) (n3) O0 y0_0 y0_1 y0_2 y0_3 y0_4 y0_5 y0_6 0 1), true), (dS O0, true)]) (by kernel_rfl) (oD <| Za (Zf (ZcI #[vs 0 o0 n2 n3] (o0) (L1) (n2) (n3) O0 F0 y0_0 y0_1 y0_2 y0_3 y0_4 y0_5 y0_6 N c0 0 1 rfl (by decide) (by decide))) <| oR Zd) rfl (by decide) (by rfl) rr ⟨rfl, trivial⟩
  ·
   refine Zm (fun g2 => ?_) (fun g2 => ?_)
   ·
    exact Zk (r := (.r0 ((-1 : Int)) ((0 : Int)) : ZF)) (fu := 4000) (orc := (Zi [(0, false), (1, true)] [] [] [] [(0, (ZcH (o0) (L1) (n2) (n3) O0 y0_0 y0_1 y0_2 y0_3 y0_4 y0_5 y0_6 0 1))])) (live := [0]) (u := Value.tuple #[vi (-1 : Int), v0]) (bl := [some (.ro O0)]) (ob := [((decide (a4 < (0 : Int))), true), ((y0_6 != (0 : Int)), false), (dP (Zcw #[vs 0 o0 n2 n3] (o0) (L1) (n2) (n3) O0 y0_0 y0_1 y0_2 y0_3 y0_4 y0_5 y0_6 0 1), true), (dS O0, true)]) (by kernel_rfl) (oY <| oE <| Za (Zf (ZcI #[vs 0 o0 n2 n3] (o0) (L1) (n2) (n3) O0 F0 y0_0 y0_1 y0_2 y0_3 y0_4 y0_5 y0_6 N c0 0 1 rfl (by decide) (by decide))) <| oR Zd) rfl (by decide) (by rfl) rr ⟨rfl, trivial⟩
   ·
    refine Zm (fun g3 => ?_) (fun g3 => ?_)
    ·
     exact Zk (r := (.r0 ((-1 : Int)) ((0 : Int)) : ZF)) (fu := 4000) (orc := (Zi [(0, false), (1, false), (2, true)] [] [] [] [(0, (ZcH (o0) (L1) (n2) (n3) O0 y0_0 y0_1 y0_2 y0_3 y0_4 y0_5 y0_6 0 1))])) (live := [0]) (u := Value.tuple #[vi (-1 : Int), v0]) (bl := [some (.ro O0)]) (ob := [((decide (a4 > (n2 : Int))), true), ((decide (a4 < (0 : Int))), false), ((y0_6 != (0 : Int)), false), (dP (Zcw #[vs 0 o0 n2 n3] (o0) (L1) (n2) (n3) O0 y0_0 y0_1 y0_2 y0_3 y0_4 y0_5 y0_6 0 1), true), (dS O0, true)]) (by kernel_rfl) (oY <| oN <| oE <| Za (Zf (ZcI #[vs 0 o0 n2 n3] (o0) (L1) (n2) (n3) O0 F0 y0_0 y0_1 y0_2 y0_3 y0_4 y0_5 y0_6 N c0 0 1 rfl (by decide) (by decide))) <| oR Zd) rfl (by decide) (by rfl) rr ⟨rfl, trivial⟩
    ·
     refine Zm (fun g4 => ?_) (fun g4 => ?_)
     ·
      exact Zk (r := (.r0 ((y0_1.getD (a4).toNat R_ii.z).a0) ((y0_1.getD (a4).toNat R_ii.z).a1) : ZF)) (fu := 4000) (orc := (Zi [(0, false), (1, false), (2, false)] [] [(0, (a4).toNat)] [(2, [.i (y0_1.getD (a4).toNat R_ii.z).a0, .i (y0_1.getD (a4).toNat R_ii.z).a1])] [(0, (ZcH (o0) (L1) (n2) (n3) O0 y0_0 y0_1 y0_2 y0_3 y0_4 y0_5 y0_6 0 1))])) (live := [0]) (u := Value.tuple #[vi (y0_1.getD (a4).toNat R_ii.z).a0, vi (y0_1.getD (a4).toNat R_ii.z).a1]) (bl := [some (.ro O0)]) (ob := [(Zz (Z7 2 (List.drop (0 + ((a4).toNat * 2)) (Zb Ze y0_1))) [.i (y0_1.getD (a4).toNat R_ii.z).a0, .i (y0_1.getD (a4).toNat R_ii.z).a1], true), (Nat.blt (a4).toNat y0_1.length, true), (a4 == Int.ofNat (a4).toNat, true), ((decide (a4 > (n2 : Int))), false), ((decide (a4 < (0 : Int))), false), ((y0_6 != (0 : Int)), false), (dP (Zcw #[vs 0 o0 n2 n3] (o0) (L1) (n2) (n3) O0 y0_0 y0_1 y0_2 y0_3 y0_4 y0_5 y0_6 0 1), true), (dS O0, true)]) (by kernel_rfl) (Za (Zaq (E := Ze) (L := y0_1) (i := (a4).toNat) (q := 0) (by omega) (show (0 + ((a4).toNat * 2)) = (a4).toNat * 2 + 0 from by omega) (show 0 + 2 ≤ 2 from by decide) rfl rfl) <| oB <| oI <| oN <| oN <| oE <| Za (Zf (ZcI #[vs 0 o0 n2 n3] (o0) (L1) (n2) (n3) O0 F0 y0_0 y0_1 y0_2 y0_3 y0_4 y0_5 y0_6 N c0 0 1 rfl (by decide) (by decide))) <| oR Zd) rfl (by decide) (by rfl) rr ⟨rfl, trivial⟩
     ·
      exact Za6
 | r3 y0_0 y0_1 y0_2 y0_3 =>
  refine Zm (fun g1 => ?_) (fun g1 => ?_)
  ·
   exact Zk (r := (.r0 ((-1 : Int)) ((0 : Int)) : ZF)) (fu := 4000) (orc := (Zi [(0, true)] [] [] [] [(0, (ZcJ (o0) (L1) (n2) (n3) O0 y0_0 y0_1 y0_2 y0_3 0 1))])) (live := [0]) (u := Value.tuple #[vi (-1 : Int), v0]) (bl := [some (.ro O0)]) (ob := [((y0_3 != (0 : Int)), true), (dP (Zcx #[vs 0 o0 n2 n3] (o0) (L1) (n2) (n3) O0 y0_0 y0_1 y0_2 y0_3 0 1), true), (dS O0, true)]) (by kernel_rfl) (oD <| Za (Zf (ZcK #[vs 0 o0 n2 n3] (o0) (L1) (n2) (n3) O0 F0 y0_0 y0_1 y0_2 y0_3 N c0 0 1 rfl (by decide) (by decide))) <| oR Zd) rfl (by decide) (by rfl) rr ⟨rfl, trivial⟩
  ·
   refine Zm (fun g2 => ?_) (fun g2 => ?_)
   ·
    exact Zk (r := (.r0 ((-1 : Int)) ((0 : Int)) : ZF)) (fu := 4000) (orc := (Zi [(0, false), (1, true)] [] [] [] [(0, (ZcJ (o0) (L1) (n2) (n3) O0 y0_0 y0_1 y0_2 y0_3 0 1))])) (live := [0]) (u := Value.tuple #[vi (-1 : Int), v0]) (bl := [some (.ro O0)]) (ob := [((decide (a4 < (0 : Int))), true), ((y0_3 != (0 : Int)), false), (dP (Zcx #[vs 0 o0 n2 n3] (o0) (L1) (n2) (n3) O0 y0_0 y0_1 y0_2 y0_3 0 1), true), (dS O0, true)]) (by kernel_rfl) (oY <| oE <| Za (Zf (ZcK #[vs 0 o0 n2 n3] (o0) (L1) (n2) (n3) O0 F0 y0_0 y0_1 y0_2 y0_3 N c0 0 1 rfl (by decide) (by decide))) <| oR Zd) rfl (by decide) (by rfl) rr ⟨rfl, trivial⟩
   ·
    refine Zm (fun g3 => ?_) (fun g3 => ?_)
    ·
     exact Zk (r := (.r0 ((-1 : Int)) ((0 : Int)) : ZF)) (fu := 4000) (orc := (Zi [(0, false), (1, false), (2, true)] [] [] [] [(0, (ZcJ (o0) (L1) (n2) (n3) O0 y0_0 y0_1 y0_2 y0_3 0 1))])) (live := [0]) (u := Value.tuple #[vi (-1 : Int), v0]) (bl := [some (.ro O0)]) (ob := [((decide (a4 > (n2 : Int))), true), ((decide (a4 < (0 : Int))), false), ((y0_3 != (0 : Int)), false), (dP (Zcx #[vs 0 o0 n2 n3] (o0) (L1) (n2) (n3) O0 y0_0 y0_1 y0_2 y0_3 0 1), true), (dS O0, true)]) (by kernel_rfl) (oY <| oN <| oE <| Za (Zf (ZcK #[vs 0 o0 n2 n3] (o0) (L1) (n2) (n3) O0 F0 y0_0 y0_1 y0_2 y0_3 N c0 0 1 rfl (by decide) (by decide))) <| oR Zd) rfl (by decide) (by rfl) rr ⟨rfl, trivial⟩
    ·
     refine Zm (fun g4 => ?_) (fun g4 => ?_)
     ·
      exact Zk (r := (.r0 ((y0_0.getD (a4).toNat R_ii.z).a0) ((y0_0.getD (a4).toNat R_ii.z).a1) : ZF)) (fu := 4000) (orc := (Zi [(0, false), (1, false), (2, false)] [] [(0, (a4).toNat)] [(2, [.i (y0_0.getD (a4).toNat R_ii.z).a0, .i (y0_0.getD (a4).toNat R_ii.z).a1])] [(0, (ZcJ (o0) (L1) (n2) (n3) O0 y0_0 y0_1 y0_2 y0_3 0 1))])) (live := [0]) (u := Value.tuple #[vi (y0_0.getD (a4).toNat R_ii.z).a0, vi (y0_0.getD (a4).toNat R_ii.z).a1]) (bl := [some (.ro O0)]) (ob := [(Zz (Z7 2 (List.drop (0 + ((a4).toNat * 2)) (Zb Ze y0_0))) [.i (y0_0.getD (a4).toNat R_ii.z).a0, .i (y0_0.getD (a4).toNat R_ii.z).a1], true), (Nat.blt (a4).toNat y0_0.length, true), (a4 == Int.ofNat (a4).toNat, true), ((decide (a4 > (n2 : Int))), false), ((decide (a4 < (0 : Int))), false), ((y0_3 != (0 : Int)), false), (dP (Zcx #[vs 0 o0 n2 n3] (o0) (L1) (n2) (n3) O0 y0_0 y0_1 y0_2 y0_3 0 1), true), (dS O0, true)]) (by kernel_rfl) (Za (Zaq (E := Ze) (L := y0_0) (i := (a4).toNat) (q := 0) (by omega) (show (0 + ((a4).toNat * 2)) = (a4).toNat * 2 + 0 from by omega) (show 0 + 2 ≤ 2 from by decide) rfl rfl) <| oB <| oI <| oN <| oN <| oE <| Za (Zf (ZcK #[vs 0 o0 n2 n3] (o0) (L1) (n2) (n3) O0 F0 y0_0 y0_1 y0_2 y0_3 N c0 0 1 rfl (by decide) (by decide))) <| oR Zd) rfl (by decide) (by rfl) rr ⟨rfl, trivial⟩
     ·
      exact Za6

theorem ZoY (o0 : Nat) (L1 : List R_iiii) (n2 n3 : Nat) (a4 : Int) (O0 : Obj) (F0 : Zs O0 o0 L1) (N : Nat) (r : ZF) (h : ZcD L1 n2 n3 a4 N = some r) : LSpec Try.prog 17 #[vs 0 o0 n2 n3, vi a4] [.ro O0] (Zm8 o0 L1 n2 n3 a4 O0 r) (Zlp o0 L1 n2 n3 a4 O0 r) :=
 ZaB Zao Try.func17 (by kernel_rfl) (by kernel_rfl) (fun r => by cases r <;> exact ZN _ rfl) (Zq9 o0 L1 n2 n3 a4 O0 F0 N) h

noncomputable def Zg2 (o0 : Nat) (L1 : List R_iiii) (n2 n3 : Nat) (a4 : Int) (O0 : Obj) (w2 w3 : Int) (k0 n : Nat) : Zak := .call [(k0, .ro O0)] (Value.tuple #[vi w2, vi w3]) [] 0
def Zfs (A : Array Value) (o0 : Nat) (L1 : List R_iiii) (n2 n3 : Nat) (a4 : Int) (O0 : Obj) (w2 w3 : Int) (k0 n : Nat) : Prop := Zw Try.prog 17 A [(k0, .ro O0)] (Value.tuple #[vi w2, vi w3]) [] n 0

theorem Zg3 (A : Array Value) (o0 : Nat) (L1 : List R_iiii) (n2 n3 : Nat) (a4 : Int) (O0 : Obj) (F0 : Zs O0 o0 L1) (w2 w3 : Int) (N : Nat) (h : ZcD L1 n2 n3 a4 N = some (.r0 w2 w3)) (k0 n : Nat) (hA : A = #[vs k0 o0 n2 n3, vi a4]) (hnd : ([k0] : List Nat).Nodup) (hlt : ∀ k ∈ ([k0] : List Nat), k < n) : Zfs A o0 L1 n2 n3 a4 O0 w2 w3 k0 n :=
 Z0 hA (LSpec.callL (show LSpec Try.prog 17 #[vs 0 o0 n2 n3, vi a4] [.ro O0] (Value.tuple #[vi w2, vi w3]) [some (.ro O0)] from ZoY o0 L1 n2 n3 a4 O0 F0 N _ h) [k0] n [] rfl hnd hlt (show 1 ≤ 1 from by decide) (show ∀ j ∈ ([] : List Nat), j < 1 from by decide) (by rfl) ⟨rfl, trivial⟩ (by rfl) ⟨rfl, trivial⟩ ⟨.inr rfl, trivial⟩ rfl rfl rfl (Zc (Zn rfl rfl) rfl) rfl)

noncomputable def Zm9 (o0 : Nat) (L1 : List R_iiii) (n2 n3 : Nat) (a4 : Int) (O0 : Obj) : ZbB → Value
 | .r0 w2 w3 => Value.tuple #[vi w2, vi w3]
noncomputable def Zlq (o0 : Nat) (L1 : List R_iiii) (n2 n3 : Nat) (a4 : Int) (O0 : Obj) : ZbB → List (Option AObj)
 | .r0 w2 w3 => [some (.ro O0)]

theorem ZqA (o0 : Nat) (L1 : List R_iiii) (n2 n3 : Nat) (a4 : Int) (O0 : Obj) (F0 : Zs O0 o0 L1) (N : Nat) : Fx Try.prog Zr Try.f18 [.ro O0] #[vs 0 o0 n2 n3, vi a4] (Zm9 o0 L1 n2 n3 a4 O0) (Zlq o0 L1 n2 n3 a4 O0) (Zdr L1 n2 n3 a4 N) := by
 unfold Zdr
 refine Zm (fun g0 => ?_) (fun g0 => ?_)
 ·
  exact Zk (r := (.r0 ((-1 : Int)) ((0 : Int)) : ZbB)) (fu := 4000) (orc := (Zi [(0, true)] [] [] [] [])) (live := [0]) (u := Value.tuple #[vi (-1 : Int), v0]) (bl := [some (.ro O0)]) (ob := [((decide (a4 < (0 : Int))), true)]) (by kernel_rfl) (oY Zd) rfl (by decide) (by rfl) rr ⟨rfl, trivial⟩
 ·
  refine Zm (fun g1 => ?_) (fun g1 => ?_)
  ·
   exact Zk (r := (.r0 ((-1 : Int)) ((0 : Int)) : ZbB)) (fu := 4000) (orc := (Zi [(0, false), (1, true)] [] [] [] [])) (live := [0]) (u := Value.tuple #[vi (-1 : Int), v0]) (bl := [some (.ro O0)]) (ob := [((decide (a4 > (n2 : Int))), true), ((decide (a4 < (0 : Int))), false)]) (by kernel_rfl) (oY <| oN Zd) rfl (by decide) (by rfl) rr ⟨rfl, trivial⟩
  ·
   refine Za4 (fun z2 c2 => ?_)
   cases z2 with
   | r0 y2_0 =>
    refine Zm (fun g3 => ?_) (fun g3 => ?_)
    ·
     exact Zk (r := (.r0 ((-1 : Int)) ((0 : Int)) : ZbB)) (fu := 4000) (orc := (Zi [(0, false), (1, false), (2, true)] [] [] [] [(0, (Zd8 (o0) (L1) (n2) (n3) O0 y2_0 0 1))])) (live := [0]) (u := Value.tuple #[vi (-1 : Int), v0]) (bl := [some (.ro O0)]) (ob := [((y2_0 != (0 : Int)), true), (dP (ZcQ #[vs 0 o0 n2 n3] (o0) (L1) (n2) (n3) O0 y2_0 0 1), true), (dS O0, true), ((decide (a4 > (n2 : Int))), false), ((decide (a4 < (0 : Int))), false)]) (by kernel_rfl) (oD <| Za (Zf (Zd9 #[vs 0 o0 n2 n3] (o0) (L1) (n2) (n3) O0 F0 y2_0 N c2 0 1 rfl (by decide) (by decide))) <| oR <| oN <| oN Zd) rfl (by decide) (by rfl) rr ⟨rfl, trivial⟩
    ·
     refine Za4 (fun z4 c4 => ?_)
     cases z4 with
     | r0 y4_0 y4_1 =>
      exact Zk (r := (.r0 (y4_0) (y4_1) : ZbB)) (fu := 4000) (orc := (Zi [(0, false), (1, false), (2, false)] [] [] [] [(0, (Zd8 (o0) (L1) (n2) (n3) O0 y2_0 0 1)), (1, (Zey (o0) (L1) (n2) (n3) (a4) O0 y4_0 y4_1 0 1))])) (live := [0]) (u := Value.tuple #[vi y4_0, vi y4_1]) (bl := [some (.ro O0)]) (ob := [(dP (ZdH #[vs 0 o0 n2 n3, vi a4] (o0) (L1) (n2) (n3) (a4) O0 y4_0 y4_1 0 1), true), (dS O0, true), ((y2_0 != (0 : Int)), false), (dP (ZcQ #[vs 0 o0 n2 n3] (o0) (L1) (n2) (n3) O0 y2_0 0 1), true), (dS O0, true), ((decide (a4 > (n2 : Int))), false), ((decide (a4 < (0 : Int))), false)]) (by kernel_rfl) (Za (Zf (Zez #[vs 0 o0 n2 n3, vi a4] (o0) (L1) (n2) (n3) (a4) O0 F0 y4_0 y4_1 N c4 0 1 rfl (by decide) (by decide))) <| oR <| oE <| Za (Zf (Zd9 #[vs 0 o0 n2 n3] (o0) (L1) (n2) (n3) O0 F0 y2_0 N c2 0 1 rfl (by decide) (by decide))) <| oR <| oN <| oN Zd) rfl (by decide) (by rfl) rr ⟨rfl, trivial⟩

theorem ZoZ (o0 : Nat) (L1 : List R_iiii) (n2 n3 : Nat) (a4 : Int) (O0 : Obj) (F0 : Zs O0 o0 L1) (N : Nat) (r : ZbB) (h : Zdr L1 n2 n3 a4 N = some r) : LSpec Try.prog 18 #[vs 0 o0 n2 n3, vi a4] [.ro O0] (Zm9 o0 L1 n2 n3 a4 O0 r) (Zlq o0 L1 n2 n3 a4 O0 r) :=
 ZaB Zao Try.func18 (by kernel_rfl) (by kernel_rfl) (fun r => by cases r <;> exact ZN _ rfl) (ZqA o0 L1 n2 n3 a4 O0 F0 N) h

noncomputable def Zg4 (o0 : Nat) (L1 : List R_iiii) (n2 n3 : Nat) (a4 : Int) (O0 : Obj) (w2 w3 : Int) (k0 n : Nat) : Zak := .call [(k0, .ro O0)] (Value.tuple #[vi w2, vi w3]) [] 0
def Zft (A : Array Value) (o0 : Nat) (L1 : List R_iiii) (n2 n3 : Nat) (a4 : Int) (O0 : Obj) (w2 w3 : Int) (k0 n : Nat) : Prop := Zw Try.prog 18 A [(k0, .ro O0)] (Value.tuple #[vi w2, vi w3]) [] n 0

theorem Zg5 (A : Array Value) (o0 : Nat) (L1 : List R_iiii) (n2 n3 : Nat) (a4 : Int) (O0 : Obj) (F0 : Zs O0 o0 L1) (w2 w3 : Int) (N : Nat) (h : Zdr L1 n2 n3 a4 N = some (.r0 w2 w3)) (k0 n : Nat) (hA : A = #[vs k0 o0 n2 n3, vi a4]) (hnd : ([k0] : List Nat).Nodup) (hlt : ∀ k ∈ ([k0] : List Nat), k < n) : Zft A o0 L1 n2 n3 a4 O0 w2 w3 k0 n :=
 Z0 hA (LSpec.callL (show LSpec Try.prog 18 #[vs 0 o0 n2 n3, vi a4] [.ro O0] (Value.tuple #[vi w2, vi w3]) [some (.ro O0)] from ZoZ o0 L1 n2 n3 a4 O0 F0 N _ h) [k0] n [] rfl hnd hlt (show 1 ≤ 1 from by decide) (show ∀ j ∈ ([] : List Nat), j < 1 from by decide) (by rfl) ⟨rfl, trivial⟩ (by rfl) ⟨rfl, trivial⟩ ⟨.inr rfl, trivial⟩ rfl rfl rfl (Zc (Zn rfl rfl) rfl) rfl)

noncomputable def Zkm  : ZbJ → Value
 | .r0 => vT
noncomputable def ZjG  : ZbJ → List (Option AObj)
 | .r0 => []

def ZpQ : Zbk → Nat
 | .h1m0 => 1
noncomputable def ZqB  : Zbk → List (Nat × Value)
 | .h1m0 => [(0, vn), (1, vn), (5, v0)]
noncomputable def ZqC  : Zbk → List (Option AObj)
 | .h1m0 => []

noncomputable def ZfY : Nat → Code × List ZaO
 | 1 => Zcm [1, 1, 0, 1, 3] (Zc1 Try.f19) []
 | _ => (.skip, [])
def ZpR : Nat → Bool
 | 1 => true
 | _ => true
noncomputable def Zdy  (N : Nat) : Mach := ⟨Try.f19, [], Zbk, ZbJ, ZeK  N, ZpQ, ZfY, ZpR, ZqB , ZqC , Zkm , ZjG ⟩

theorem ZlU  (N : Nat) : (Zdy  N).Ok Try.prog Zr (.h1m0 : Zbk) (ZeK  N (.h1m0 : Zbk)) := by
 show (Zdy  N).Ok Try.prog Zr (.h1m0 : Zbk) (ZfU  N)
 unfold ZfU
 exact Mach.ok_fin (M := Zdy  N) (cd := 1000000) (cm := 0) (r := (.r0 : ZbJ)) (fu := 4000) (orc := (Zi [] [] [] [] [])) (live := []) (u := vT) (bl := []) (ob := []) (fun gv => by kernel_rfl) Zd rfl (by decide) (by rfl) rr trivial

theorem Zpa  (N : Nat) : (Zdy  N).Enter Try.prog Zr #[vn, vn] (Zhb  N) := by
 unfold Zhb
 exact Mach.en_head (bK := ZfY 1) (M := Zdy  N) (cd := 1000000) (cm := 0) (y := (.h1m0 : Zbk)) (fu := 4000) (orc := (Zi [] [] [] [] [])) (live := []) (tv := [some (vn), some (vn), some (v0)]) (bl := []) (ob := []) rfl rfl (show Zx (ZfY 1).2 = [] from rfl) (by kernel_rfl) Zd rfl (by decide) (by rfl) ⟨rr, ⟨rr, ⟨rr, trivial⟩⟩⟩ trivial

theorem ZmX  (N : Nat) (r : ZbJ) (h : ZbE  N = some r) : LSpec Try.prog 19 #[vn, vn] [] (Zkm  r) (ZjG  r) :=
 Mach.spec Zao (Zdy  N) Try.func19 (by kernel_rfl) (by kernel_rfl) (fun x => by cases x <;> exact ZN _ rfl) (fun r => by cases r <;> exact ZN _ rfl) (fun x => by
  cases x with
  | h1m0 => exact fun _ => (show ¬ (1 ∈ Zx (ZfY 1).2) from by decide +kernel)
  ) (fun x => (show (Zdy  N).Ok Try.prog Zr x (ZeK  N x) from by
  cases x with
  | h1m0 => exact ZlU  N
  )) (Zpa  N) (n := N) h

noncomputable def Za1  (n : Nat) : Zak := .call [] (vT) [] 0
def Zaw (A : Array Value)  (n : Nat) : Prop := Zw Try.prog 19 A [] (vT) [] n 0

theorem Za2 (A : Array Value)  (N : Nat) (h : ZbE  N = some (.r0)) (n : Nat) (hA : A = #[vn, vn]) (hnd : ([] : List Nat).Nodup) (hlt : ∀ k ∈ ([] : List Nat), k < n) : Zaw A   n :=
 Z0 hA (LSpec.callL (show LSpec Try.prog 19 #[vn, vn] [] (vT) [] from ZmX  N _ h) [] n [] rfl hnd hlt (show 0 ≤ 0 from by decide) (show ∀ j ∈ ([] : List Nat), j < 0 from by decide) (by rfl) trivial (by rfl) trivial trivial rfl rfl rfl rfl rfl)

noncomputable def Zod (o0 : Nat) (L1 : List R_iiii) (n2 n3 : Nat) (O0 : Obj) : Zbe → Value
 | .r0 w2 => vi w2
noncomputable def ZmA (o0 : Nat) (L1 : List R_iiii) (n2 n3 : Nat) (O0 : Obj) : Zbe → List (Option AObj)
 | .r0 w2 => [some (.ro O0)]

theorem Zrh (o0 : Nat) (L1 : List R_iiii) (n2 n3 : Nat) (O0 : Obj) (F0 : Zs O0 o0 L1) (N : Nat) : Fx Try.prog Zr Try.f20 [.ro O0] #[vs 0 o0 n2 n3] (Zod o0 L1 n2 n3 O0) (ZmA o0 L1 n2 n3 O0) (ZdJ L1 n2 n3 N) := by
 unfold ZdJ
 refine Za4 (fun z0 c0 => ?_)
 cases z0 with
 | r0 y0_0 =>
  by_cases g1 : ¬ (y0_0 = (0 : Int))
  ·
   exact Zk (r := (.r0 ((0 : Int)) : Zbe)) (fu := 4000) (orc := (Zi [(0, true)] [] [] [] [(0, (Zdt (o0) (L1) (n2) (n3) O0 y0_0 0 1))])) (live := [0]) (u := v0) (bl := [some (.ro O0)]) (ob := [((y0_0 != (0 : Int)), true), (dP (ZcE #[vs 0 o0 n2 n3] (o0) (L1) (n2) (n3) O0 y0_0 0 1), true), (dS O0, true)]) (by kernel_rfl) (oD <| Za (Zf (Zdu #[vs 0 o0 n2 n3] (o0) (L1) (n2) (n3) O0 F0 y0_0 N c0 0 1 rfl (by decide) (by decide))) <| oR Zd) rfl (by decide) (by rfl) rr ⟨rfl, trivial⟩
  ·
   exact Zk (r := (.r0 ((0 : Int)) : Zbe)) (fu := 4000) (orc := (Zi [(0, false)] [] [] [] [(0, (Zdt (o0) (L1) (n2) (n3) O0 y0_0 0 1))])) (live := [0]) (u := v0) (bl := [some (.ro O0)]) (ob := [((y0_0 != (0 : Int)), false), (dP (ZcE #[vs 0 o0 n2 n3] (o0) (L1) (n2) (n3) O0 y0_0 0 1), true), (dS O0, true)]) (by kernel_rfl) (oE <| Za (Zf (Zdu #[vs 0 o0 n2 n3] (o0) (L1) (n2) (n3) O0 F0 y0_0 N c0 0 1 rfl (by decide) (by decide))) <| oR Zd) rfl (by decide) (by rfl) rr ⟨rfl, trivial⟩
 | r1 y0_0 y0_1 =>
  by_cases g1 : ¬ (y0_1 = (0 : Int))
  ·
   exact Zk (r := (.r0 ((0 : Int)) : Zbe)) (fu := 4000) (orc := (Zi [(0, true)] [] [] [] [(0, (ZcF (o0) (L1) (n2) (n3) O0 y0_0 y0_1 0 1))])) (live := [0]) (u := v0) (bl := [some (.ro O0)]) (ob := [((y0_1 != (0 : Int)), true), (dP (Zcv #[vs 0 o0 n2 n3] (o0) (L1) (n2) (n3) O0 y0_0 y0_1 0 1), true), (dS O0, true)]) (by kernel_rfl) (oD <| Za (Zf (ZcG #[vs 0 o0 n2 n3] (o0) (L1) (n2) (n3) O0 F0 y0_0 y0_1 N c0 0 1 rfl (by decide) (by decide))) <| oR Zd) rfl (by decide) (by rfl) rr ⟨rfl, trivial⟩
  ·
   exact Zk (r := (.r0 ((0 : Int)) : Zbe)) (fu := 4000) (orc := (Zi [(0, false)] [] [] [] [(0, (ZcF (o0) (L1) (n2) (n3) O0 y0_0 y0_1 0 1))])) (live := [0]) (u := v0) (bl := [some (.ro O0)]) (ob := [((y0_1 != (0 : Int)), false), (dP (Zcv #[vs 0 o0 n2 n3] (o0) (L1) (n2) (n3) O0 y0_0 y0_1 0 1), true), (dS O0, true)]) (by kernel_rfl) (oE <| Za (Zf (ZcG #[vs 0 o0 n2 n3] (o0) (L1) (n2) (n3) O0 F0 y0_0 y0_1 N c0 0 1 rfl (by decide) (by decide))) <| oR Zd) rfl (by decide) (by rfl) rr ⟨rfl, trivial⟩
 | r2 y0_0 y0_1 y0_2 y0_3 y0_4 y0_5 y0_6 =>
  refine Zm (fun g1 => ?_) (fun g1 => ?_)
  ·
   exact Zk (r := (.r0 ((0 : Int)) : Zbe)) (fu := 4000) (orc := (Zi [(0, true)] [] [] [] [(0, (ZcH (o0) (L1) (n2) (n3) O0 y0_0 y0_1 y0_2 y0_3 y0_4 y0_5 y0_6 0 1))])) (live := [0]) (u := v0) (bl := [some (.ro O0)]) (ob := [((y0_6 != (0 : Int)), true), (dP (Zcw #[vs 0 o0 n2 n3] (o0) (L1) (n2) (n3) O0 y0_0 y0_1 y0_2 y0_3 y0_4 y0_5 y0_6 0 1), true), (dS O0, true)]) (by kernel_rfl) (oD <| Za (Zf (ZcI #[vs 0 o0 n2 n3] (o0) (L1) (n2) (n3) O0 F0 y0_0 y0_1 y0_2 y0_3 y0_4 y0_5 y0_6 N c0 0 1 rfl (by decide) (by decide))) <| oR Zd) rfl (by decide) (by rfl) rr ⟨rfl, trivial⟩
  ·
   exact Zk (r := (.r0 (y0_4) : Zbe)) (fu := 4000) (orc := (Zi [(0, false)] [] [] [] [(0, (ZcH (o0) (L1) (n2) (n3) O0 y0_0 y0_1 y0_2 y0_3 y0_4 y0_5 y0_6 0 1))])) (live := [0]) (u := vi y0_4) (bl := [some (.ro O0)]) (ob := [((y0_6 != (0 : Int)), false), (dP (Zcw #[vs 0 o0 n2 n3] (o0) (L1) (n2) (n3) O0 y0_0 y0_1 y0_2 y0_3 y0_4 y0_5 y0_6 0 1), true), (dS O0, true)]) (by kernel_rfl) (oE <| Za (Zf (ZcI #[vs 0 o0 n2 n3] (o0) (L1) (n2) (n3) O0 F0 y0_0 y0_1 y0_2 y0_3 y0_4 y0_5 y0_6 N c0 0 1 rfl (by decide) (by decide))) <| oR Zd) rfl (by decide) (by rfl) rr ⟨rfl, trivial⟩
 | r3 y0_0 y0_1 y0_2 y0_3 =>
  by_cases g1 : ¬ (y0_3 = (0 : Int))
  ·
   exact Zk (r := (.r0 ((0 : Int)) : Zbe)) (fu := 4000) (orc := (Zi [(0, true)] [] [] [] [(0, (ZcJ (o0) (L1) (n2) (n3) O0 y0_0 y0_1 y0_2 y0_3 0 1))])) (live := [0]) (u := v0) (bl := [some (.ro O0)]) (ob := [((y0_3 != (0 : Int)), true), (dP (Zcx #[vs 0 o0 n2 n3] (o0) (L1) (n2) (n3) O0 y0_0 y0_1 y0_2 y0_3 0 1), true), (dS O0, true)]) (by kernel_rfl) (oD <| Za (Zf (ZcK #[vs 0 o0 n2 n3] (o0) (L1) (n2) (n3) O0 F0 y0_0 y0_1 y0_2 y0_3 N c0 0 1 rfl (by decide) (by decide))) <| oR Zd) rfl (by decide) (by rfl) rr ⟨rfl, trivial⟩
  ·
   exact Zk (r := (.r0 ((0 : Int)) : Zbe)) (fu := 4000) (orc := (Zi [(0, false)] [] [] [] [(0, (ZcJ (o0) (L1) (n2) (n3) O0 y0_0 y0_1 y0_2 y0_3 0 1))])) (live := [0]) (u := v0) (bl := [some (.ro O0)]) (ob := [((y0_3 != (0 : Int)), false), (dP (Zcx #[vs 0 o0 n2 n3] (o0) (L1) (n2) (n3) O0 y0_0 y0_1 y0_2 y0_3 0 1), true), (dS O0, true)]) (by kernel_rfl) (oE <| Za (Zf (ZcK #[vs 0 o0 n2 n3] (o0) (L1) (n2) (n3) O0 F0 y0_0 y0_1 y0_2 y0_3 N c0 0 1 rfl (by decide) (by decide))) <| oR Zd) rfl (by decide) (by rfl) rr ⟨rfl, trivial⟩

theorem ZpS (o0 : Nat) (L1 : List R_iiii) (n2 n3 : Nat) (O0 : Obj) (F0 : Zs O0 o0 L1) (N : Nat) (r : Zbe) (h : ZdJ L1 n2 n3 N = some r) : LSpec Try.prog 20 #[vs 0 o0 n2 n3] [.ro O0] (Zod o0 L1 n2 n3 O0 r) (ZmA o0 L1 n2 n3 O0 r) :=
 ZaB Zao Try.func20 (by kernel_rfl) (by kernel_rfl) (fun r => by cases r <;> exact ZN _ rfl) (Zrh o0 L1 n2 n3 O0 F0 N) h

noncomputable def ZO (o0 : Nat) (L1 : List R_iiii) (n2 n3 : Nat) (O0 : Obj) (w2 : Int) (k0 n : Nat) : Zak := .call [(k0, .ro O0)] (vi w2) [] 0
def ZL (A : Array Value) (o0 : Nat) (L1 : List R_iiii) (n2 n3 : Nat) (O0 : Obj) (w2 : Int) (k0 n : Nat) : Prop := Zw Try.prog 20 A [(k0, .ro O0)] (vi w2) [] n 0

theorem ZP (A : Array Value) (o0 : Nat) (L1 : List R_iiii) (n2 n3 : Nat) (O0 : Obj) (F0 : Zs O0 o0 L1) (w2 : Int) (N : Nat) (h : ZdJ L1 n2 n3 N = some (.r0 w2)) (k0 n : Nat) (hA : A = #[vs k0 o0 n2 n3]) (hnd : ([k0] : List Nat).Nodup) (hlt : ∀ k ∈ ([k0] : List Nat), k < n) : ZL A o0 L1 n2 n3 O0 w2 k0 n :=
 Z0 hA (LSpec.callL (show LSpec Try.prog 20 #[vs 0 o0 n2 n3] [.ro O0] (vi w2) [some (.ro O0)] from ZpS o0 L1 n2 n3 O0 F0 N _ h) [k0] n [] rfl hnd hlt (show 1 ≤ 1 from by decide) (show ∀ j ∈ ([] : List Nat), j < 1 from by decide) (by rfl) ⟨rfl, trivial⟩ (by rfl) ⟨rfl, trivial⟩ ⟨.inr rfl, trivial⟩ rfl rfl rfl (Zc (Zn rfl rfl) rfl) rfl)

noncomputable def Zoe (o0 : Nat) (L1 : List R_iiii) (n2 n3 : Nat) (O0 : Obj) : ZbU → Value
 | .r0 w2 => vi w2
noncomputable def ZmB (o0 : Nat) (L1 : List R_iiii) (n2 n3 : Nat) (O0 : Obj) : ZbU → List (Option AObj)
 | .r0 w2 => [some (.ro O0)]

def Zsm : Zbf → Nat
 | .h1m0 v4 v5 => 1
noncomputable def Zt2 (o0 : Nat) (L1 : List R_iiii) (n2 n3 : Nat) (O0 : Obj) : Zbf → List (Nat × Value)
 | .h1m0 v4 v5 => [(0, vs 0 o0 n2 n3), (3, vi v4), (4, vi (v5 : Int))]
noncomputable def Zt3 (o0 : Nat) (L1 : List R_iiii) (n2 n3 : Nat) (O0 : Obj) : Zbf → List (Option AObj)
 | .h1m0 v4 v5 => [some (.ro O0)]

noncomputable def Zfu : Nat → Code × List ZaO
 | 1 => Zcm [1, 1, 1, 0, 1, 3] (Zc1 Try.f21) []
 | _ => (.skip, [])
def ZmC : Nat → Bool
 | 1 => true
 | _ => true
noncomputable def Zof (i : Nat) : List ZaO := match ZmC i with | true => .rnd i :: (Zfu i).2 | false => (Zfu i).2

noncomputable def ZcM (o0 : Nat) (L1 : List R_iiii) (n2 n3 : Nat) (O0 : Obj) (N : Nat) : Mach := ⟨Try.f21, [.ro O0], Zbf, ZbU, ZdS L1 n2 n3 N, Zsm, Zfu, ZmC, Zt2 o0 L1 n2 n3 O0, Zt3 o0 L1 n2 n3 O0, Zoe o0 L1 n2 n3 O0, ZmB o0 L1 n2 n3 O0⟩

theorem Zpb (o0 : Nat) (L1 : List R_iiii) (n2 n3 : Nat) (O0 : Obj) (F0 : Zs O0 o0 L1) (v4 : Int) (v5 N : Nat) : (ZcM o0 L1 n2 n3 O0 N).Ok Try.prog Zr (.h1m0 v4 v5 : Zbf) (ZdS L1 n2 n3 N (.h1m0 v4 v5 : Zbf)) := by
 show (ZcM o0 L1 n2 n3 O0 N).Ok Try.prog Zr (.h1m0 v4 v5 : Zbf) (ZcY L1 n2 n3 N v4 v5)
 unfold ZcY
 refine Mach.ok_ite (fun g0 => ?_) (fun g0 => ?_)
 ·
  refine Mach.ok_bind (fun z1 c1 => ?_)
  cases z1 with
  | r0 =>
   refine Mach.ok_ite (fun g2 => ?_) (fun g2 => ?_)
   ·
    exact Mach.ok_next (M := ZcM o0 L1 n2 n3 O0 N) (cd := 1000000) (cm := 0) (y := (.h1m0 ((if (0 : Int) > v4 then (0 : Int) else v4)) ((v5 + 1)) : Zbf)) (fu := 4000) (orc := (Zi [(0, true)] [(0, (((v5 + 1) : Nat) : Int))] [] [] [(0, (ZgY (o0) (L1) (n2) (n3) ((v5 : Int)) O0  0 1))])) (live := [0]) (tv := fun _ => [some (vs 0 o0 n2 n3), some (vi (if (0 : Int) > v4 then (0 : Int) else v4)), some (vi (((v5 + 1) : Nat) : Int))]) (bl := [some (.ro O0)]) (ob := [((IntKind.i64.wrap ((v5 : Int) + (1 : Int))) == (((v5 + 1) : Nat) : Int), true), (dP (ZfH #[vs 0 o0 n2 n3, vi (v5 : Int)] (o0) (L1) (n2) (n3) ((v5 : Int)) O0  0 1), true), (dS O0, true), ((decide ((v5 : Int) ≤ (n2 : Int))), true)]) rfl (show 1 ∈ Zx (Zof 1) from by decide +kernel) (fun gv => by kernel_rfl) (Za (beq_iff_eq.2 ((wrap_i64 ltA).trans (by first | rfl | omega))) <| Za (Zf (ZgZ #[vs 0 o0 n2 n3, vi (v5 : Int)] (o0) (L1) (n2) (n3) ((v5 : Int)) O0 F0  N c1 0 1 rfl (by decide) (by decide))) <| oR <| oY Zd) rfl (by decide) (by rfl) (fun _ => ⟨rr, ⟨rr, ⟨rr, trivial⟩⟩⟩) ⟨rfl, trivial⟩
   ·
    exact Mach.ok_none
  | r1 y1_0 =>
   refine Mach.ok_ite (fun g2 => ?_) (fun g2 => ?_)
   ·
    exact Mach.ok_next (M := ZcM o0 L1 n2 n3 O0 N) (cd := 1000000) (cm := 0) (y := (.h1m0 ((if (y1_0.length : Int) > v4 then (y1_0.length : Int) else v4)) ((v5 + 1)) : Zbf)) (fu := 4000) (orc := (Zi [(0, true)] [(0, (((v5 + 1) : Nat) : Int))] [] [] [(0, (Zeb (o0) (L1) (n2) (n3) ((v5 : Int)) O0 y1_0 0 1))])) (live := [0]) (tv := fun _ => [some (vs 0 o0 n2 n3), some (vi (if (y1_0.length : Int) > v4 then (y1_0.length : Int) else v4)), some (vi (((v5 + 1) : Nat) : Int))]) (bl := [some (.ro O0)]) (ob := [((IntKind.i64.wrap ((v5 : Int) + (1 : Int))) == (((v5 + 1) : Nat) : Int), true), (dP (Zd7 #[vs 0 o0 n2 n3, vi (v5 : Int)] (o0) (L1) (n2) (n3) ((v5 : Int)) O0 y1_0 0 1), true), (dS O0, true), ((decide ((v5 : Int) ≤ (n2 : Int))), true)]) rfl (show 1 ∈ Zx (Zof 1) from by decide +kernel) (fun gv => by kernel_rfl) (Za (beq_iff_eq.2 ((wrap_i64 ltA).trans (by first | rfl | omega))) <| Za (Zf (Zec #[vs 0 o0 n2 n3, vi (v5 : Int)] (o0) (L1) (n2) (n3) ((v5 : Int)) O0 F0 y1_0 N c1 0 1 rfl (by decide) (by decide))) <| oR <| oY Zd) rfl (by decide) (by rfl) (fun _ => ⟨rr, ⟨rr, ⟨rr, trivial⟩⟩⟩) ⟨rfl, trivial⟩
   ·
    exact Mach.ok_none
 ·
  exact Mach.ok_fin (M := ZcM o0 L1 n2 n3 O0 N) (cd := 1000000) (cm := 0) (r := (.r0 (v4) : ZbU)) (fu := 4000) (orc := (Zi [(0, false)] [] [] [] [])) (live := [0]) (u := vi v4) (bl := [some (.ro O0)]) (ob := [((decide ((v5 : Int) ≤ (n2 : Int))), false)]) (fun gv => by kernel_rfl) (oN Zd) rfl (by decide) (by rfl) rr ⟨rfl, trivial⟩

theorem Zri (o0 : Nat) (L1 : List R_iiii) (n2 n3 : Nat) (O0 : Obj) (F0 : Zs O0 o0 L1) (N : Nat) : (ZcM o0 L1 n2 n3 O0 N).Enter Try.prog Zr #[vs 0 o0 n2 n3] (ZgX L1 n2 n3 N) := by
 unfold ZgX
 refine Mach.en_bind (fun z0 c0 => ?_)
 cases z0 with
 | r0 y0_0 =>
  refine Mach.en_ite (fun g1 => ?_) (fun g1 => ?_)
  ·
   exact Mach.en_fin (M := ZcM o0 L1 n2 n3 O0 N) (cd := 1000000) (cm := 0) (r := (.r0 ((0 : Int)) : ZbU)) (fu := 4000) (orc := (Zi [(0, true)] [] [] [] [(0, (Zd8 (o0) (L1) (n2) (n3) O0 y0_0 0 1))])) (live := [0]) (u := v0) (bl := [some (.ro O0)]) (ob := [((y0_0 != (0 : Int)), true), (dP (ZcQ #[vs 0 o0 n2 n3] (o0) (L1) (n2) (n3) O0 y0_0 0 1), true), (dS O0, true)]) (by kernel_rfl) (oD <| Za (Zf (Zd9 #[vs 0 o0 n2 n3] (o0) (L1) (n2) (n3) O0 F0 y0_0 N c0 0 1 rfl (by decide) (by decide))) <| oR Zd) rfl (by decide) (by rfl) rr ⟨rfl, trivial⟩
  ·
   exact Mach.en_head (bK := Zfu 1) (M := ZcM o0 L1 n2 n3 O0 N) (cd := 1000000) (cm := 0) (y := (.h1m0 ((0 : Int)) (0) : Zbf)) (fu := 4000) (orc := (Zi [(0, false)] [] [] [] [(0, (Zd8 (o0) (L1) (n2) (n3) O0 y0_0 0 1))])) (live := [0]) (tv := [some (vs 0 o0 n2 n3), some (v0), some (v0)]) (bl := [some (.ro O0)]) (ob := [((y0_0 != (0 : Int)), false), (dP (ZcQ #[vs 0 o0 n2 n3] (o0) (L1) (n2) (n3) O0 y0_0 0 1), true), (dS O0, true)]) rfl rfl (show Zx (Zfu 1).2 = [] from rfl) (by kernel_rfl) (oE <| Za (Zf (Zd9 #[vs 0 o0 n2 n3] (o0) (L1) (n2) (n3) O0 F0 y0_0 N c0 0 1 rfl (by decide) (by decide))) <| oR Zd) rfl (by decide) (by rfl) ⟨rr, ⟨rr, ⟨⟨Eq.trans (show (vi ((0 : Nat) : Int) : Value) = v0 from (congrArg (Value.int .i64) (by first | rfl | omega))) (by rfl), by rfl⟩, trivial⟩⟩⟩ ⟨rfl, trivial⟩

theorem ZpT (o0 : Nat) (L1 : List R_iiii) (n2 n3 : Nat) (O0 : Obj) (F0 : Zs O0 o0 L1) (N : Nat) (r : ZbU) (h : Zem L1 n2 n3 N = some r) : LSpec Try.prog 21 #[vs 0 o0 n2 n3] [.ro O0] (Zoe o0 L1 n2 n3 O0 r) (ZmB o0 L1 n2 n3 O0 r) :=
 Mach.spec Zao (ZcM o0 L1 n2 n3 O0 N) Try.func21 (by kernel_rfl) (by kernel_rfl) (fun x => by cases x <;> exact ZN _ rfl) (fun r => by cases r <;> exact ZN _ rfl) (fun x => by
  cases x with
  | h1m0 _ _ => exact fun _ => (show ¬ (1 ∈ Zx (Zfu 1).2) from by decide +kernel)
  ) (fun x => (show (ZcM o0 L1 n2 n3 O0 N).Ok Try.prog Zr x (ZdS L1 n2 n3 N x) from by
  cases x with
  | h1m0 v4 v5 => exact Zpb o0 L1 n2 n3 O0 F0 v4 v5 N
  )) (Zri o0 L1 n2 n3 O0 F0 N) (n := N) h

noncomputable def ZQ (o0 : Nat) (L1 : List R_iiii) (n2 n3 : Nat) (O0 : Obj) (w2 : Int) (k0 n : Nat) : Zak := .call [(k0, .ro O0)] (vi w2) [] 0
def ZM (A : Array Value) (o0 : Nat) (L1 : List R_iiii) (n2 n3 : Nat) (O0 : Obj) (w2 : Int) (k0 n : Nat) : Prop := Zw Try.prog 21 A [(k0, .ro O0)] (vi w2) [] n 0

theorem ZR (A : Array Value) (o0 : Nat) (L1 : List R_iiii) (n2 n3 : Nat) (O0 : Obj) (F0 : Zs O0 o0 L1) (w2 : Int) (N : Nat) (h : Zem L1 n2 n3 N = some (.r0 w2)) (k0 n : Nat) (hA : A = #[vs k0 o0 n2 n3]) (hnd : ([k0] : List Nat).Nodup) (hlt : ∀ k ∈ ([k0] : List Nat), k < n) : ZM A o0 L1 n2 n3 O0 w2 k0 n :=
 Z0 hA (LSpec.callL (show LSpec Try.prog 21 #[vs 0 o0 n2 n3] [.ro O0] (vi w2) [some (.ro O0)] from ZpT o0 L1 n2 n3 O0 F0 N _ h) [k0] n [] rfl hnd hlt (show 1 ≤ 1 from by decide) (show ∀ j ∈ ([] : List Nat), j < 1 from by decide) (by rfl) ⟨rfl, trivial⟩ (by rfl) ⟨rfl, trivial⟩ ⟨.inr rfl, trivial⟩ rfl rfl rfl (Zc (Zn rfl rfl) rfl) rfl)

noncomputable def ZmD (o0 : Nat) (L1 : List R_iiii) (n2 n3 : Nat) (O0 : Obj) : ZaL → Value
 | .r0 => vn
 | .r1 w2 => vs 1 0 w2.length w2.length
noncomputable def Zlr (o0 : Nat) (L1 : List R_iiii) (n2 n3 : Nat) (O0 : Obj) : ZaL → List (Option AObj)
 | .r0 => [some (.ro O0)]
 | .r1 w2 => [some (.ro O0), some (.cells (Zb eI w2) 3)]

theorem ZqD (o0 : Nat) (L1 : List R_iiii) (n2 n3 : Nat) (O0 : Obj) (F0 : Zs O0 o0 L1) (N : Nat) : Fx Try.prog Zr Try.f22 [.ro O0] #[vs 0 o0 n2 n3] (ZmD o0 L1 n2 n3 O0) (Zlr o0 L1 n2 n3 O0) (Zcq L1 n2 n3 N) := by
 unfold Zcq
 refine Za4 (fun z0 c0 => ?_)
 cases z0 with
 | r0 y0_0 =>
  by_cases g1 : ¬ (y0_0 = (0 : Int))
  ·
   exact Zk (r := (.r0 : ZaL)) (fu := 4000) (orc := (Zi [(0, true)] [] [] [] [(0, (Zdt (o0) (L1) (n2) (n3) O0 y0_0 0 1))])) (live := [0]) (u := vn) (bl := [some (.ro O0)]) (ob := [((y0_0 != (0 : Int)), true), (dP (ZcE #[vs 0 o0 n2 n3] (o0) (L1) (n2) (n3) O0 y0_0 0 1), true), (dS O0, true)]) (by kernel_rfl) (oD <| Za (Zf (Zdu #[vs 0 o0 n2 n3] (o0) (L1) (n2) (n3) O0 F0 y0_0 N c0 0 1 rfl (by decide) (by decide))) <| oR Zd) rfl (by decide) (by rfl) rr ⟨rfl, trivial⟩
  ·
   exact Zk (r := (.r0 : ZaL)) (fu := 4000) (orc := (Zi [(0, false)] [] [] [] [(0, (Zdt (o0) (L1) (n2) (n3) O0 y0_0 0 1))])) (live := [0]) (u := vn) (bl := [some (.ro O0)]) (ob := [((y0_0 != (0 : Int)), false), (dP (ZcE #[vs 0 o0 n2 n3] (o0) (L1) (n2) (n3) O0 y0_0 0 1), true), (dS O0, true)]) (by kernel_rfl) (oE <| Za (Zf (Zdu #[vs 0 o0 n2 n3] (o0) (L1) (n2) (n3) O0 F0 y0_0 N c0 0 1 rfl (by decide) (by decide))) <| oR Zd) rfl (by decide) (by rfl) rr ⟨rfl, trivial⟩
 | r1 y0_0 y0_1 =>
  by_cases g1 : ¬ (y0_1 = (0 : Int))
  ·
   exact Zk (r := (.r0 : ZaL)) (fu := 4000) (orc := (Zi [(0, true)] [] [] [] [(0, (ZcF (o0) (L1) (n2) (n3) O0 y0_0 y0_1 0 1))])) (live := [0]) (u := vn) (bl := [some (.ro O0)]) (ob := [((y0_1 != (0 : Int)), true), (dP (Zcv #[vs 0 o0 n2 n3] (o0) (L1) (n2) (n3) O0 y0_0 y0_1 0 1), true), (dS O0, true)]) (by kernel_rfl) (oD <| Za (Zf (ZcG #[vs 0 o0 n2 n3] (o0) (L1) (n2) (n3) O0 F0 y0_0 y0_1 N c0 0 1 rfl (by decide) (by decide))) <| oR Zd) rfl (by decide) (by rfl) rr ⟨rfl, trivial⟩
  ·
   exact Zk (r := (.r0 : ZaL)) (fu := 4000) (orc := (Zi [(0, false)] [] [] [] [(0, (ZcF (o0) (L1) (n2) (n3) O0 y0_0 y0_1 0 1))])) (live := [0]) (u := vn) (bl := [some (.ro O0)]) (ob := [((y0_1 != (0 : Int)), false), (dP (Zcv #[vs 0 o0 n2 n3] (o0) (L1) (n2) (n3) O0 y0_0 y0_1 0 1), true), (dS O0, true)]) (by kernel_rfl) (oE <| Za (Zf (ZcG #[vs 0 o0 n2 n3] (o0) (L1) (n2) (n3) O0 F0 y0_0 y0_1 N c0 0 1 rfl (by decide) (by decide))) <| oR Zd) rfl (by decide) (by rfl) rr ⟨rfl, trivial⟩
 | r2 y0_0 y0_1 y0_2 y0_3 y0_4 y0_5 y0_6 =>
  refine Zm (fun g1 => ?_) (fun g1 => ?_)
  ·
   exact Zk (r := (.r0 : ZaL)) (fu := 4000) (orc := (Zi [(0, true)] [] [] [] [(0, (ZcH (o0) (L1) (n2) (n3) O0 y0_0 y0_1 y0_2 y0_3 y0_4 y0_5 y0_6 0 1))])) (live := [0]) (u := vn) (bl := [some (.ro O0)]) (ob := [((y0_6 != (0 : Int)), true), (dP (Zcw #[vs 0 o0 n2 n3] (o0) (L1) (n2) (n3) O0 y0_0 y0_1 y0_2 y0_3 y0_4 y0_5 y0_6 0 1), true), (dS O0, true)]) (by kernel_rfl) (oD <| Za (Zf (ZcI #[vs 0 o0 n2 n3] (o0) (L1) (n2) (n3) O0 F0 y0_0 y0_1 y0_2 y0_3 y0_4 y0_5 y0_6 N c0 0 1 rfl (by decide) (by decide))) <| oR Zd) rfl (by decide) (by rfl) rr ⟨rfl, trivial⟩
  ·
   exact Zk (r := (.r1 (y0_3) : ZaL)) (fu := 4000) (orc := (Zi [(0, false)] [] [] [] [(0, (ZcH (o0) (L1) (n2) (n3) O0 y0_0 y0_1 y0_2 y0_3 y0_4 y0_5 y0_6 0 1))])) (live := [0, 5]) (u := vs 5 0 y0_3.length y0_3.length) (bl := [some (.ro O0), some (.cells (Zb eI y0_3) 3)]) (ob := [((y0_6 != (0 : Int)), false), (dP (Zcw #[vs 0 o0 n2 n3] (o0) (L1) (n2) (n3) O0 y0_0 y0_1 y0_2 y0_3 y0_4 y0_5 y0_6 0 1), true), (dS O0, true)]) (by kernel_rfl) (oE <| Za (Zf (ZcI #[vs 0 o0 n2 n3] (o0) (L1) (n2) (n3) O0 F0 y0_0 y0_1 y0_2 y0_3 y0_4 y0_5 y0_6 N c0 0 1 rfl (by decide) (by decide))) <| oR Zd) rfl (by decide) (by rfl) rr ⟨rfl, ⟨(Zg (E := eI) (α := Int) _ y0_3 _), trivial⟩⟩
 | r3 y0_0 y0_1 y0_2 y0_3 =>
  by_cases g1 : ¬ (y0_3 = (0 : Int))
  ·
   exact Zk (r := (.r0 : ZaL)) (fu := 4000) (orc := (Zi [(0, true)] [] [] [] [(0, (ZcJ (o0) (L1) (n2) (n3) O0 y0_0 y0_1 y0_2 y0_3 0 1))])) (live := [0]) (u := vn) (bl := [some (.ro O0)]) (ob := [((y0_3 != (0 : Int)), true), (dP (Zcx #[vs 0 o0 n2 n3] (o0) (L1) (n2) (n3) O0 y0_0 y0_1 y0_2 y0_3 0 1), true), (dS O0, true)]) (by kernel_rfl) (oD <| Za (Zf (ZcK #[vs 0 o0 n2 n3] (o0) (L1) (n2) (n3) O0 F0 y0_0 y0_1 y0_2 y0_3 N c0 0 1 rfl (by decide) (by decide))) <| oR Zd) rfl (by decide) (by rfl) rr ⟨rfl, trivial⟩
  ·
   exact Zk (r := (.r0 : ZaL)) (fu := 4000) (orc := (Zi [(0, false)] [] [] [] [(0, (ZcJ (o0) (L1) (n2) (n3) O0 y0_0 y0_1 y0_2 y0_3 0 1))])) (live := [0]) (u := vn) (bl := [some (.ro O0)]) (ob := [((y0_3 != (0 : Int)), false), (dP (Zcx #[vs 0 o0 n2 n3] (o0) (L1) (n2) (n3) O0 y0_0 y0_1 y0_2 y0_3 0 1), true), (dS O0, true)]) (by kernel_rfl) (oE <| Za (Zf (ZcK #[vs 0 o0 n2 n3] (o0) (L1) (n2) (n3) O0 F0 y0_0 y0_1 y0_2 y0_3 N c0 0 1 rfl (by decide) (by decide))) <| oR Zd) rfl (by decide) (by rfl) rr ⟨rfl, trivial⟩

theorem ZiN (o0 : Nat) (L1 : List R_iiii) (n2 n3 : Nat) (O0 : Obj) (F0 : Zs O0 o0 L1) (N : Nat) (r : ZaL) (h : Zcq L1 n2 n3 N = some r) : LSpec Try.prog 22 #[vs 0 o0 n2 n3] [.ro O0] (ZmD o0 L1 n2 n3 O0 r) (Zlr o0 L1 n2 n3 O0 r) :=
 ZaB Zao Try.func22 (by kernel_rfl) (by kernel_rfl) (fun r => by cases r <;> exact ZN _ rfl) (ZqD o0 L1 n2 n3 O0 F0 N) h

noncomputable def Zb1 (o0 : Nat) (L1 : List R_iiii) (n2 n3 : Nat) (O0 : Obj) (k0 n : Nat) : Zak := .call [(k0, .ro O0)] (vn) [] 0
def Zbq (A : Array Value) (o0 : Nat) (L1 : List R_iiii) (n2 n3 : Nat) (O0 : Obj) (k0 n : Nat) : Prop := Zw Try.prog 22 A [(k0, .ro O0)] (vn) [] n 0

theorem Zb2 (A : Array Value) (o0 : Nat) (L1 : List R_iiii) (n2 n3 : Nat) (O0 : Obj) (F0 : Zs O0 o0 L1) (N : Nat) (h : Zcq L1 n2 n3 N = some (.r0)) (k0 n : Nat) (hA : A = #[vs k0 o0 n2 n3]) (hnd : ([k0] : List Nat).Nodup) (hlt : ∀ k ∈ ([k0] : List Nat), k < n) : Zbq A o0 L1 n2 n3 O0 k0 n :=
 Z0 hA (LSpec.callL (show LSpec Try.prog 22 #[vs 0 o0 n2 n3] [.ro O0] (vn) [some (.ro O0)] from ZiN o0 L1 n2 n3 O0 F0 N _ h) [k0] n [] rfl hnd hlt (show 1 ≤ 1 from by decide) (show ∀ j ∈ ([] : List Nat), j < 1 from by decide) (by rfl) ⟨rfl, trivial⟩ (by rfl) ⟨rfl, trivial⟩ ⟨.inr rfl, trivial⟩ rfl rfl rfl (Zc (Zn rfl rfl) rfl) rfl)

noncomputable def ZaS (o0 : Nat) (L1 : List R_iiii) (n2 n3 : Nat) (O0 : Obj) (w2 : List Int) (k0 n : Nat) : Zak := .call [(k0, .ro O0)] (vs n 0 w2.length w2.length) [(n, some (.cells (Zb eI w2) 3))] 1
def ZaJ (A : Array Value) (o0 : Nat) (L1 : List R_iiii) (n2 n3 : Nat) (O0 : Obj) (w2 : List Int) (k0 n : Nat) : Prop := Zw Try.prog 22 A [(k0, .ro O0)] (vs n 0 w2.length w2.length) [(n, some (.cells (Zb eI w2) 3))] n 1

theorem ZaT (A : Array Value) (o0 : Nat) (L1 : List R_iiii) (n2 n3 : Nat) (O0 : Obj) (F0 : Zs O0 o0 L1) (w2 : List Int) (N : Nat) (h : Zcq L1 n2 n3 N = some (.r1 w2)) (k0 n : Nat) (hA : A = #[vs k0 o0 n2 n3]) (hnd : ([k0] : List Nat).Nodup) (hlt : ∀ k ∈ ([k0] : List Nat), k < n) : ZaJ A o0 L1 n2 n3 O0 w2 k0 n :=
 Z0 hA (LSpec.callL (show LSpec Try.prog 22 #[vs 0 o0 n2 n3] [.ro O0] (vs 1 0 w2.length w2.length) [some (.ro O0), some (.cells (Zb eI w2) 3)] from ZiN o0 L1 n2 n3 O0 F0 N _ h) [k0] n [1] rfl hnd hlt (show 1 ≤ 2 from by decide) (show ∀ j ∈ ([1] : List Nat), j < 2 from by decide) (by rfl) ⟨rfl, trivial⟩ (by rfl) ⟨rfl, ⟨(Zp _ _ _), trivial⟩⟩ ⟨.inr rfl, ⟨(by decide), trivial⟩⟩ rfl rfl rfl (Zc (Zn rfl rfl) rfl) (Zc (Zn rfl (Zac (Zy _ _ _))) rfl))

noncomputable def ZmE (o0 : Nat) (L1 : List R_iiii) (n2 n3 : Nat) (O0 : Obj) : ZaZ → Value
 | .r0 => vn
 | .r1 w2 => vs 1 0 w2.length w2.length
noncomputable def Zls (o0 : Nat) (L1 : List R_iiii) (n2 n3 : Nat) (O0 : Obj) : ZaZ → List (Option AObj)
 | .r0 => [some (.ro O0)]
 | .r1 w2 => [some (.ro O0), some (.cells (Zb eI w2) 3)]

def Zrj : ZK → Nat
 | .h1m0 v4 => 1
 | .h1m1 v4 v5 => 1
noncomputable def Zsn (o0 : Nat) (L1 : List R_iiii) (n2 n3 : Nat) (O0 : Obj) : ZK → List (Nat × Value)
 | .h1m0 v4 => [(0, vs 0 o0 n2 n3), (3, vn), (4, vi (v4 : Int))]
 | .h1m1 v4 v5 => [(0, vs 0 o0 n2 n3), (3, vs 1 0 v4.length v4.length), (4, vi (v5 : Int))]
noncomputable def Zso (o0 : Nat) (L1 : List R_iiii) (n2 n3 : Nat) (O0 : Obj) : ZK → List (Option AObj)
 | .h1m0 v4 => [some (.ro O0)]
 | .h1m1 v4 v5 => [some (.ro O0), some (.cells (Zb eI v4) 3)]

noncomputable def Zed : Nat → Code × List ZaO
 | 1 => Zcm [1, 1, 1, 0, 1, 3] (Zc1 Try.f23) []
 | _ => (.skip, [])
def Zlt : Nat → Bool
 | 1 => true
 | _ => true
noncomputable def ZdA (i : Nat) : List ZaO := match Zlt i with | true => .rnd i :: (Zed i).2 | false => (Zed i).2

noncomputable def ZaF (o0 : Nat) (L1 : List R_iiii) (n2 n3 : Nat) (O0 : Obj) (N : Nat) : Mach := ⟨Try.f23, [.ro O0], ZK, ZaZ, Zcr L1 n2 n3 N, Zrj, Zed, Zlt, Zsn o0 L1 n2 n3 O0, Zso o0 L1 n2 n3 O0, ZmE o0 L1 n2 n3 O0, Zls o0 L1 n2 n3 O0⟩

theorem Zog (o0 : Nat) (L1 : List R_iiii) (n2 n3 : Nat) (O0 : Obj) (F0 : Zs O0 o0 L1) (v4 N : Nat) : (ZaF o0 L1 n2 n3 O0 N).Ok Try.prog Zr (.h1m0 v4 : ZK) (Zcr L1 n2 n3 N (.h1m0 v4 : ZK)) := by
 show (ZaF o0 L1 n2 n3 O0 N).Ok Try.prog Zr (.h1m0 v4 : ZK) (Zcb L1 n2 n3 N v4)
 unfold Zcb
 refine Mach.ok_ite (fun g0 => ?_) (fun g0 => ?_)
 ·
  refine Mach.ok_ite (fun g1 => ?_) (fun g1 => ?_)
  ·
   refine Mach.ok_ite (fun g2 => ?_) (fun g2 => ?_)
   ·
    refine Mach.ok_bind (fun z3 c3 => ?_)
    cases z3 with
    | r0 =>
     refine Mach.ok_ite (fun g4 => ?_) (fun g4 => ?_)
     ·
      exact Mach.ok_next (M := ZaF o0 L1 n2 n3 O0 N) (cd := 1000000) (cm := 0) (y := (.h1m1 (([(v4 : Int)] : List Int)) ((v4 + 1)) : ZK)) (fu := 4000) (orc := (Zi [(0, true), (1, true)] [(0, (((v4 + 1) : Nat) : Int))] [(0, v4)] [(0, [.i (L1.getD v4 R_iiii.z).a0])] [(0, (ZgY (o0) (L1) (n2) (n3) ((v4 : Int)) O0  0 1))])) (live := [0, 2]) (tv := fun _ => [some (vs 0 o0 n2 n3), some (vs 2 0 1 1), some (vi (((v4 + 1) : Nat) : Int))]) (bl := [some (.ro O0), some (.cells [vi (v4 : Int)] 3)]) (ob := [((IntKind.i64.wrap ((v4 : Int) + (1 : Int))) == (((v4 + 1) : Nat) : Int), true), (dP (ZfH #[vs 0 o0 n2 n3, vi (v4 : Int)] (o0) (L1) (n2) (n3) ((v4 : Int)) O0  0 1), true), (dS O0, true), (((L1.getD v4 R_iiii.z).a0 == (15 : Int)), true), (Zz (ZC O0 ((o0 + (v4 * 4)) + 0) 1) [.i (L1.getD v4 R_iiii.z).a0], true), (Nat.blt v4 n2, true), ((v4 : Int) == Int.ofNat v4, true), ((decide ((v4 : Int) < (n2 : Int))), true)]) rfl (show 1 ∈ Zx (ZdA 1) from by decide +kernel) (fun gv => by kernel_rfl) (Za (beq_iff_eq.2 ((wrap_i64 ltA).trans (by first | rfl | omega))) <| Za (Zf (ZgZ #[vs 0 o0 n2 n3, vi (v4 : Int)] (o0) (L1) (n2) (n3) ((v4 : Int)) O0 F0  N c3 0 1 rfl (by decide) (by decide))) <| oR <| oT <| Za ((show (o0 + v4 * 4 + 0) = ((o0 + (v4 * 4)) + 0) from by omega) ▸ F0 v4 (by omega) 0 1 (show 0 + 1 ≤ 4 from by decide)) <| oB <| oI <| oY Zd) rfl (by decide) (by rfl) (fun _ => ⟨rr, ⟨⟨Eq.trans (show (vs 1 0 ([(v4 : Int)] : List Int).length ([(v4 : Int)] : List Int).length : Value) = vs 1 0 1 1 from (Zad rfl eqA eqA)) (by rfl), by rfl⟩, ⟨rr, trivial⟩⟩⟩) ⟨rfl, ⟨(ZbO (E := eI) _ (L := ([(v4 : Int)] : List Int)) _ (show ([vi (v4 : Int)] : List Value) = Zb eI ([(v4 : Int)] : List Int) from rfl)), trivial⟩⟩
     ·
      exact Mach.ok_none
    | r1 y3_0 =>
     refine Mach.ok_ite (fun g4 => ?_) (fun g4 => ?_)
     ·
      refine Mach.ok_ite (fun g5 => ?_) (fun g5 => ?_)
      ·
       exact Mach.ok_next (M := ZaF o0 L1 n2 n3 O0 N) (cd := 1000000) (cm := 0) (y := (.h1m1 (([(v4 : Int)] : List Int)) ((v4 + 1)) : ZK)) (fu := 4000) (orc := (Zi [(0, true), (1, true), (2, true)] [(0, (((v4 + 1) : Nat) : Int))] [(0, v4)] [(0, [.i (L1.getD v4 R_iiii.z).a0])] [(0, (Zeb (o0) (L1) (n2) (n3) ((v4 : Int)) O0 y3_0 0 1))])) (live := [0, 3]) (tv := fun _ => [some (vs 0 o0 n2 n3), some (vs 3 0 1 1), some (vi (((v4 + 1) : Nat) : Int))]) (bl := [some (.ro O0), some (.cells [vi (v4 : Int)] 3)]) (ob := [((IntKind.i64.wrap ((v4 : Int) + (1 : Int))) == (((v4 + 1) : Nat) : Int), true), (((y3_0.length : Int) == (0 : Int)), true), (dP (Zd7 #[vs 0 o0 n2 n3, vi (v4 : Int)] (o0) (L1) (n2) (n3) ((v4 : Int)) O0 y3_0 0 1), true), (dS O0, true), (((L1.getD v4 R_iiii.z).a0 == (15 : Int)), true), (Zz (ZC O0 ((o0 + (v4 * 4)) + 0) 1) [.i (L1.getD v4 R_iiii.z).a0], true), (Nat.blt v4 n2, true), ((v4 : Int) == Int.ofNat v4, true), ((decide ((v4 : Int) < (n2 : Int))), true)]) rfl (show 1 ∈ Zx (ZdA 1) from by decide +kernel) (fun gv => by kernel_rfl) (Za (beq_iff_eq.2 ((wrap_i64 ltA).trans (by first | rfl | omega))) <| oT <| Za (Zf (Zec #[vs 0 o0 n2 n3, vi (v4 : Int)] (o0) (L1) (n2) (n3) ((v4 : Int)) O0 F0 y3_0 N c3 0 1 rfl (by decide) (by decide))) <| oR <| oT <| Za ((show (o0 + v4 * 4 + 0) = ((o0 + (v4 * 4)) + 0) from by omega) ▸ F0 v4 (by omega) 0 1 (show 0 + 1 ≤ 4 from by decide)) <| oB <| oI <| oY Zd) rfl (by decide) (by rfl) (fun _ => ⟨rr, ⟨⟨Eq.trans (show (vs 1 0 ([(v4 : Int)] : List Int).length ([(v4 : Int)] : List Int).length : Value) = vs 1 0 1 1 from (Zad rfl eqA eqA)) (by rfl), by rfl⟩, ⟨rr, trivial⟩⟩⟩) ⟨rfl, ⟨(ZbO (E := eI) _ (L := ([(v4 : Int)] : List Int)) _ (show ([vi (v4 : Int)] : List Value) = Zb eI ([(v4 : Int)] : List Int) from rfl)), trivial⟩⟩
      ·
       exact Mach.ok_none
     ·
      refine Mach.ok_ite (fun g5 => ?_) (fun g5 => ?_)
      ·
       exact Mach.ok_next (M := ZaF o0 L1 n2 n3 O0 N) (cd := 1000000) (cm := 0) (y := (.h1m0 ((v4 + 1)) : ZK)) (fu := 4000) (orc := (Zi [(0, true), (1, true), (2, false)] [(0, (((v4 + 1) : Nat) : Int))] [(0, v4)] [(0, [.i (L1.getD v4 R_iiii.z).a0])] [(0, (Zeb (o0) (L1) (n2) (n3) ((v4 : Int)) O0 y3_0 0 1))])) (live := [0]) (tv := fun _ => [some (vs 0 o0 n2 n3), some (vn), some (vi (((v4 + 1) : Nat) : Int))]) (bl := [some (.ro O0)]) (ob := [((IntKind.i64.wrap ((v4 : Int) + (1 : Int))) == (((v4 + 1) : Nat) : Int), true), (((y3_0.length : Int) == (0 : Int)), false), (dP (Zd7 #[vs 0 o0 n2 n3, vi (v4 : Int)] (o0) (L1) (n2) (n3) ((v4 : Int)) O0 y3_0 0 1), true), (dS O0, true), (((L1.getD v4 R_iiii.z).a0 == (15 : Int)), true), (Zz (ZC O0 ((o0 + (v4 * 4)) + 0) 1) [.i (L1.getD v4 R_iiii.z).a0], true), (Nat.blt v4 n2, true), ((v4 : Int) == Int.ofNat v4, true), ((decide ((v4 : Int) < (n2 : Int))), true)]) rfl (show 1 ∈ Zx (ZdA 1) from by decide +kernel) (fun gv => by kernel_rfl) (Za (beq_iff_eq.2 ((wrap_i64 ltA).trans (by first | rfl | omega))) <| oF <| Za (Zf (Zec #[vs 0 o0 n2 n3, vi (v4 : Int)] (o0) (L1) (n2) (n3) ((v4 : Int)) O0 F0 y3_0 N c3 0 1 rfl (by decide) (by decide))) <| oR <| oT <| Za ((show (o0 + v4 * 4 + 0) = ((o0 + (v4 * 4)) + 0) from by omega) ▸ F0 v4 (by omega) 0 1 (show 0 + 1 ≤ 4 from by decide)) <| oB <| oI <| oY Zd) rfl (by decide) (by rfl) (fun _ => ⟨rr, ⟨rr, ⟨rr, trivial⟩⟩⟩) ⟨rfl, trivial⟩
      ·
       exact Mach.ok_none
   ·
    refine Mach.ok_ite (fun g3 => ?_) (fun g3 => ?_)
    ·
     exact Mach.ok_next (M := ZaF o0 L1 n2 n3 O0 N) (cd := 1000000) (cm := 0) (y := (.h1m0 ((v4 + 1)) : ZK)) (fu := 4000) (orc := (Zi [(0, true), (1, false)] [(0, (((v4 + 1) : Nat) : Int))] [(0, v4)] [(0, [.i (L1.getD v4 R_iiii.z).a0])] [])) (live := [0]) (tv := fun _ => [some (vs 0 o0 n2 n3), some (vn), some (vi (((v4 + 1) : Nat) : Int))]) (bl := [some (.ro O0)]) (ob := [((IntKind.i64.wrap ((v4 : Int) + (1 : Int))) == (((v4 + 1) : Nat) : Int), true), (((L1.getD v4 R_iiii.z).a0 == (15 : Int)), false), (Zz (ZC O0 ((o0 + (v4 * 4)) + 0) 1) [.i (L1.getD v4 R_iiii.z).a0], true), (Nat.blt v4 n2, true), ((v4 : Int) == Int.ofNat v4, true), ((decide ((v4 : Int) < (n2 : Int))), true)]) rfl (show 1 ∈ Zx (ZdA 1) from by decide +kernel) (fun gv => by kernel_rfl) (Za (beq_iff_eq.2 ((wrap_i64 ltA).trans (by first | rfl | omega))) <| oF <| Za ((show (o0 + v4 * 4 + 0) = ((o0 + (v4 * 4)) + 0) from by omega) ▸ F0 v4 (by omega) 0 1 (show 0 + 1 ≤ 4 from by decide)) <| oB <| oI <| oY Zd) rfl (by decide) (by rfl) (fun _ => ⟨rr, ⟨rr, ⟨rr, trivial⟩⟩⟩) ⟨rfl, trivial⟩
    ·
     exact Mach.ok_none
  ·
   exact Mach.ok_none
 ·
  exact Mach.ok_fin (M := ZaF o0 L1 n2 n3 O0 N) (cd := 1000000) (cm := 0) (r := (.r0 : ZaZ)) (fu := 4000) (orc := (Zi [(0, false)] [] [] [] [])) (live := [0]) (u := vn) (bl := [some (.ro O0)]) (ob := [((decide ((v4 : Int) < (n2 : Int))), false)]) (fun gv => by kernel_rfl) (oN Zd) rfl (by decide) (by rfl) rr ⟨rfl, trivial⟩

theorem Zoh (o0 : Nat) (L1 : List R_iiii) (n2 n3 : Nat) (O0 : Obj) (F0 : Zs O0 o0 L1) (v4 : List Int) (v5 N : Nat) : (ZaF o0 L1 n2 n3 O0 N).Ok Try.prog Zr (.h1m1 v4 v5 : ZK) (Zcr L1 n2 n3 N (.h1m1 v4 v5 : ZK)) := by
 show (ZaF o0 L1 n2 n3 O0 N).Ok Try.prog Zr (.h1m1 v4 v5 : ZK) (Zc7 L1 n2 n3 N v4 v5)
 unfold Zc7
 refine Mach.ok_ite (fun g0 => ?_) (fun g0 => ?_)
 ·
  refine Mach.ok_ite (fun g1 => ?_) (fun g1 => ?_)
  ·
   refine Mach.ok_ite (fun g2 => ?_) (fun g2 => ?_)
   ·
    refine Mach.ok_bind (fun z3 c3 => ?_)
    cases z3 with
    | r0 =>
     refine Mach.ok_ite (fun g4 => ?_) (fun g4 => ?_)
     ·
      refine Mach.ok_ite (fun g5 => ?_) (fun g5 => ?_)
      ·
       exact Mach.ok_next (M := ZaF o0 L1 n2 n3 O0 N) (cd := 1000000) (cm := 0) (y := (.h1m1 ((v4 ++ ([(v5 : Int)] : List Int))) ((v5 + 1)) : ZK)) (fu := 4000) (orc := (Zi [(0, true), (1, true)] [(0, (((v5 + 1) : Nat) : Int))] [(0, v5)] [(0, [.i (L1.getD v5 R_iiii.z).a0])] [(0, (ZgY (o0) (L1) (n2) (n3) ((v5 : Int)) O0  0 2)), (1, .ap 1 [vi (v5 : Int)] (Zb eI (v4 ++ ([(v5 : Int)] : List Int))))])) (live := [0, 3]) (tv := fun _ => [some (vs 0 o0 n2 n3), some (vs 3 0 (v4.length + 1) (v4.length + 1)), some (vi (((v5 + 1) : Nat) : Int))]) (bl := [some (.ro O0), some (.cells (Zb eI (v4 ++ ([(v5 : Int)] : List Int))) 3)]) (ob := [((IntKind.i64.wrap ((v5 : Int) + (1 : Int))) == (((v5 + 1) : Nat) : Int), true), (dP ((1 = 1 ∧ Z7 (1 * 1) (List.drop 0 [vi (v5 : Int)]) = some [vi (v5 : Int)] ∧ ZH ZaG [vi (v5 : Int)] = true) ∧ 0 < 1 ∧ 1 ≤ 100000 ∧ v4.length < v4.length + 1 ∧ v4.length ≤ 100000 ∧ v4.length * 1 ≤ (List.length (Zb eI v4)) ∧ List.take (v4.length * 1) (Zb eI v4) ++ [vi (v5 : Int)] = (Zb eI (v4 ++ ([(v5 : Int)] : List Int)))), true), (dP (ZfH #[vs 0 o0 n2 n3, vi (v5 : Int)] (o0) (L1) (n2) (n3) ((v5 : Int)) O0  0 2), true), (dS O0, true), (((L1.getD v5 R_iiii.z).a0 == (15 : Int)), true), (Zz (ZC O0 ((o0 + (v5 * 4)) + 0) 1) [.i (L1.getD v5 R_iiii.z).a0], true), (Nat.blt v5 n2, true), ((v5 : Int) == Int.ofNat v5, true), ((decide ((v5 : Int) < (n2 : Int))), true)]) rfl (show 1 ∈ Zx (ZdA 1) from by decide +kernel) (fun gv => by kernel_rfl) (Za (beq_iff_eq.2 ((wrap_i64 ltA).trans (by first | rfl | omega))) <| Za (Zf ⟨⟨rfl, ⟨rfl, rfl⟩⟩, by omega, by omega, ltA, by omega, (ZaW (E := eI) (L := v4) (M := ([(v5 : Int)] : List Int)) (n := v4.length) (show _ = _ * 1 from rfl) (by omega) (R := (v4 ++ ([(v5 : Int)] : List Int))) (by rw [List.take_of_length_le (by omega)]))⟩) <| Za (Zf (ZgZ #[vs 0 o0 n2 n3, vi (v5 : Int)] (o0) (L1) (n2) (n3) ((v5 : Int)) O0 F0  N c3 0 2 rfl (by decide) (by decide))) <| oR <| oT <| Za ((show (o0 + v5 * 4 + 0) = ((o0 + (v5 * 4)) + 0) from by omega) ▸ F0 v5 (by omega) 0 1 (show 0 + 1 ≤ 4 from by decide)) <| oB <| oI <| oY Zd) rfl (by decide) (by rfl) (fun _ => ⟨rr, ⟨⟨Eq.trans (show (vs 1 0 (v4 ++ ([(v5 : Int)] : List Int)).length (v4 ++ ([(v5 : Int)] : List Int)).length : Value) = vs 1 0 (v4.length + 1) (v4.length + 1) from (Zad rfl eqA eqA)) (by rfl), by rfl⟩, ⟨rr, trivial⟩⟩⟩) ⟨rfl, ⟨(Zg (E := eI) (α := Int) _ (v4 ++ ([(v5 : Int)] : List Int)) _), trivial⟩⟩
      ·
       exact Mach.ok_none
     ·
      exact Mach.ok_none
    | r1 y3_0 =>
     refine Mach.ok_ite (fun g4 => ?_) (fun g4 => ?_)
     ·
      refine Mach.ok_ite (fun g5 => ?_) (fun g5 => ?_)
      ·
       refine Mach.ok_ite (fun g6 => ?_) (fun g6 => ?_)
       ·
        exact Mach.ok_next (M := ZaF o0 L1 n2 n3 O0 N) (cd := 1000000) (cm := 0) (y := (.h1m1 ((v4 ++ ([(v5 : Int)] : List Int))) ((v5 + 1)) : ZK)) (fu := 4000) (orc := (Zi [(0, true), (1, true), (2, true)] [(0, (((v5 + 1) : Nat) : Int))] [(0, v5)] [(0, [.i (L1.getD v5 R_iiii.z).a0])] [(0, (Zeb (o0) (L1) (n2) (n3) ((v5 : Int)) O0 y3_0 0 2)), (1, .ap 1 [vi (v5 : Int)] (Zb eI (v4 ++ ([(v5 : Int)] : List Int))))])) (live := [0, 4]) (tv := fun _ => [some (vs 0 o0 n2 n3), some (vs 4 0 (v4.length + 1) (v4.length + 1)), some (vi (((v5 + 1) : Nat) : Int))]) (bl := [some (.ro O0), some (.cells (Zb eI (v4 ++ ([(v5 : Int)] : List Int))) 3)]) (ob := [((IntKind.i64.wrap ((v5 : Int) + (1 : Int))) == (((v5 + 1) : Nat) : Int), true), (dP ((1 = 1 ∧ Z7 (1 * 1) (List.drop 0 [vi (v5 : Int)]) = some [vi (v5 : Int)] ∧ ZH ZaG [vi (v5 : Int)] = true) ∧ 0 < 1 ∧ 1 ≤ 100000 ∧ v4.length < v4.length + 1 ∧ v4.length ≤ 100000 ∧ v4.length * 1 ≤ (List.length (Zb eI v4)) ∧ List.take (v4.length * 1) (Zb eI v4) ++ [vi (v5 : Int)] = (Zb eI (v4 ++ ([(v5 : Int)] : List Int)))), true), (((y3_0.length : Int) == (0 : Int)), true), (dP (Zd7 #[vs 0 o0 n2 n3, vi (v5 : Int)] (o0) (L1) (n2) (n3) ((v5 : Int)) O0 y3_0 0 2), true), (dS O0, true), (((L1.getD v5 R_iiii.z).a0 == (15 : Int)), true), (Zz (ZC O0 ((o0 + (v5 * 4)) + 0) 1) [.i (L1.getD v5 R_iiii.z).a0], true), (Nat.blt v5 n2, true), ((v5 : Int) == Int.ofNat v5, true), ((decide ((v5 : Int) < (n2 : Int))), true)]) rfl (show 1 ∈ Zx (ZdA 1) from by decide +kernel) (fun gv => by kernel_rfl) (Za (beq_iff_eq.2 ((wrap_i64 ltA).trans (by first | rfl | omega))) <| Za (Zf ⟨⟨rfl, ⟨rfl, rfl⟩⟩, by omega, by omega, ltA, by omega, (ZaW (E := eI) (L := v4) (M := ([(v5 : Int)] : List Int)) (n := v4.length) (show _ = _ * 1 from rfl) (by omega) (R := (v4 ++ ([(v5 : Int)] : List Int))) (by rw [List.take_of_length_le (by omega)]))⟩) <| oT <| Za (Zf (Zec #[vs 0 o0 n2 n3, vi (v5 : Int)] (o0) (L1) (n2) (n3) ((v5 : Int)) O0 F0 y3_0 N c3 0 2 rfl (by decide) (by decide))) <| oR <| oT <| Za ((show (o0 + v5 * 4 + 0) = ((o0 + (v5 * 4)) + 0) from by omega) ▸ F0 v5 (by omega) 0 1 (show 0 + 1 ≤ 4 from by decide)) <| oB <| oI <| oY Zd) rfl (by decide) (by rfl) (fun _ => ⟨rr, ⟨⟨Eq.trans (show (vs 1 0 (v4 ++ ([(v5 : Int)] : List Int)).length (v4 ++ ([(v5 : Int)] : List Int)).length : Value) = vs 1 0 (v4.length + 1) (v4.length + 1) from (Zad rfl eqA eqA)) (by rfl), by rfl⟩, ⟨rr, trivial⟩⟩⟩) ⟨rfl, ⟨(Zg (E := eI) (α := Int) _ (v4 ++ ([(v5 : Int)] : List Int)) _), trivial⟩⟩
       ·
        exact Mach.ok_none
      ·
       exact Mach.ok_none
     ·
      refine Mach.ok_ite (fun g5 => ?_) (fun g5 => ?_)
      ·
       exact Mach.ok_next (M := ZaF o0 L1 n2 n3 O0 N) (cd := 1000000) (cm := 0) (y := (.h1m1 (v4) ((v5 + 1)) : ZK)) (fu := 4000) (orc := (Zi [(0, true), (1, true), (2, false)] [(0, (((v5 + 1) : Nat) : Int))] [(0, v5)] [(0, [.i (L1.getD v5 R_iiii.z).a0])] [(0, (Zeb (o0) (L1) (n2) (n3) ((v5 : Int)) O0 y3_0 0 2))])) (live := [0, 1]) (tv := fun _ => [some (vs 0 o0 n2 n3), some (vs 1 0 v4.length v4.length), some (vi (((v5 + 1) : Nat) : Int))]) (bl := [some (.ro O0), some (.cells (Zb eI v4) 3)]) (ob := [((IntKind.i64.wrap ((v5 : Int) + (1 : Int))) == (((v5 + 1) : Nat) : Int), true), (((y3_0.length : Int) == (0 : Int)), false), (dP (Zd7 #[vs 0 o0 n2 n3, vi (v5 : Int)] (o0) (L1) (n2) (n3) ((v5 : Int)) O0 y3_0 0 2), true), (dS O0, true), (((L1.getD v5 R_iiii.z).a0 == (15 : Int)), true), (Zz (ZC O0 ((o0 + (v5 * 4)) + 0) 1) [.i (L1.getD v5 R_iiii.z).a0], true), (Nat.blt v5 n2, true), ((v5 : Int) == Int.ofNat v5, true), ((decide ((v5 : Int) < (n2 : Int))), true)]) rfl (show 1 ∈ Zx (ZdA 1) from by decide +kernel) (fun gv => by kernel_rfl) (Za (beq_iff_eq.2 ((wrap_i64 ltA).trans (by first | rfl | omega))) <| oF <| Za (Zf (Zec #[vs 0 o0 n2 n3, vi (v5 : Int)] (o0) (L1) (n2) (n3) ((v5 : Int)) O0 F0 y3_0 N c3 0 2 rfl (by decide) (by decide))) <| oR <| oT <| Za ((show (o0 + v5 * 4 + 0) = ((o0 + (v5 * 4)) + 0) from by omega) ▸ F0 v5 (by omega) 0 1 (show 0 + 1 ≤ 4 from by decide)) <| oB <| oI <| oY Zd) rfl (by decide) (by rfl) (fun _ => ⟨rr, ⟨rr, ⟨rr, trivial⟩⟩⟩) ⟨rfl, ⟨(Zg (E := eI) (α := Int) _ v4 _), trivial⟩⟩
      ·
       exact Mach.ok_none
   ·
    refine Mach.ok_ite (fun g3 => ?_) (fun g3 => ?_)
    ·
     exact Mach.ok_next (M := ZaF o0 L1 n2 n3 O0 N) (cd := 1000000) (cm := 0) (y := (.h1m1 (v4) ((v5 + 1)) : ZK)) (fu := 4000) (orc := (Zi [(0, true), (1, false)] [(0, (((v5 + 1) : Nat) : Int))] [(0, v5)] [(0, [.i (L1.getD v5 R_iiii.z).a0])] [])) (live := [0, 1]) (tv := fun _ => [some (vs 0 o0 n2 n3), some (vs 1 0 v4.length v4.length), some (vi (((v5 + 1) : Nat) : Int))]) (bl := [some (.ro O0), some (.cells (Zb eI v4) 3)]) (ob := [((IntKind.i64.wrap ((v5 : Int) + (1 : Int))) == (((v5 + 1) : Nat) : Int), true), (((L1.getD v5 R_iiii.z).a0 == (15 : Int)), false), (Zz (ZC O0 ((o0 + (v5 * 4)) + 0) 1) [.i (L1.getD v5 R_iiii.z).a0], true), (Nat.blt v5 n2, true), ((v5 : Int) == Int.ofNat v5, true), ((decide ((v5 : Int) < (n2 : Int))), true)]) rfl (show 1 ∈ Zx (ZdA 1) from by decide +kernel) (fun gv => by kernel_rfl) (Za (beq_iff_eq.2 ((wrap_i64 ltA).trans (by first | rfl | omega))) <| oF <| Za ((show (o0 + v5 * 4 + 0) = ((o0 + (v5 * 4)) + 0) from by omega) ▸ F0 v5 (by omega) 0 1 (show 0 + 1 ≤ 4 from by decide)) <| oB <| oI <| oY Zd) rfl (by decide) (by rfl) (fun _ => ⟨rr, ⟨rr, ⟨rr, trivial⟩⟩⟩) ⟨rfl, ⟨(Zg (E := eI) (α := Int) _ v4 _), trivial⟩⟩
    ·
     exact Mach.ok_none
  ·
   exact Mach.ok_none
 ·
  exact Mach.ok_fin (M := ZaF o0 L1 n2 n3 O0 N) (cd := 1000000) (cm := 0) (r := (.r1 (v4) : ZaZ)) (fu := 4000) (orc := (Zi [(0, false)] [] [] [] [])) (live := [0, 1]) (u := vs 1 0 v4.length v4.length) (bl := [some (.ro O0), some (.cells (Zb eI v4) 3)]) (ob := [((decide ((v5 : Int) < (n2 : Int))), false)]) (fun gv => by kernel_rfl) (oN Zd) rfl (by decide) (by rfl) rr ⟨rfl, ⟨(Zg (E := eI) (α := Int) _ v4 _), trivial⟩⟩

theorem ZqE (o0 : Nat) (L1 : List R_iiii) (n2 n3 : Nat) (O0 : Obj) (F0 : Zs O0 o0 L1) (N : Nat) : (ZaF o0 L1 n2 n3 O0 N).Enter Try.prog Zr #[vs 0 o0 n2 n3] (Zgv L1 n2 n3 N) := by
 unfold Zgv
 refine Mach.en_bind (fun z0 c0 => ?_)
 cases z0 with
 | r0 y0_0 =>
  refine Mach.en_ite (fun g1 => ?_) (fun g1 => ?_)
  ·
   exact Mach.en_fin (M := ZaF o0 L1 n2 n3 O0 N) (cd := 1000000) (cm := 0) (r := (.r0 : ZaZ)) (fu := 4000) (orc := (Zi [(0, true)] [] [] [] [(0, (Zd8 (o0) (L1) (n2) (n3) O0 y0_0 0 1))])) (live := [0]) (u := vn) (bl := [some (.ro O0)]) (ob := [((y0_0 != (0 : Int)), true), (dP (ZcQ #[vs 0 o0 n2 n3] (o0) (L1) (n2) (n3) O0 y0_0 0 1), true), (dS O0, true)]) (by kernel_rfl) (oD <| Za (Zf (Zd9 #[vs 0 o0 n2 n3] (o0) (L1) (n2) (n3) O0 F0 y0_0 N c0 0 1 rfl (by decide) (by decide))) <| oR Zd) rfl (by decide) (by rfl) rr ⟨rfl, trivial⟩
  ·
   exact Mach.en_head (bK := Zed 1) (M := ZaF o0 L1 n2 n3 O0 N) (cd := 1000000) (cm := 0) (y := (.h1m0 (0) : ZK)) (fu := 4000) (orc := (Zi [(0, false)] [] [] [] [(0, (Zd8 (o0) (L1) (n2) (n3) O0 y0_0 0 1))])) (live := [0]) (tv := [some (vs 0 o0 n2 n3), some (vn), some (v0)]) (bl := [some (.ro O0)]) (ob := [((y0_0 != (0 : Int)), false), (dP (ZcQ #[vs 0 o0 n2 n3] (o0) (L1) (n2) (n3) O0 y0_0 0 1), true), (dS O0, true)]) rfl rfl (show Zx (Zed 1).2 = [] from rfl) (by kernel_rfl) (oE <| Za (Zf (Zd9 #[vs 0 o0 n2 n3] (o0) (L1) (n2) (n3) O0 F0 y0_0 N c0 0 1 rfl (by decide) (by decide))) <| oR Zd) rfl (by decide) (by rfl) ⟨rr, ⟨rr, ⟨⟨Eq.trans (show (vi ((0 : Nat) : Int) : Value) = v0 from (congrArg (Value.int .i64) (by first | rfl | omega))) (by rfl), by rfl⟩, trivial⟩⟩⟩ ⟨rfl, trivial⟩

theorem ZiO (o0 : Nat) (L1 : List R_iiii) (n2 n3 : Nat) (O0 : Obj) (F0 : Zs O0 o0 L1) (N : Nat) (r : ZaZ) (h : ZbF L1 n2 n3 N = some r) : LSpec Try.prog 23 #[vs 0 o0 n2 n3] [.ro O0] (ZmE o0 L1 n2 n3 O0 r) (Zls o0 L1 n2 n3 O0 r) :=
 Mach.spec Zao (ZaF o0 L1 n2 n3 O0 N) Try.func23 (by kernel_rfl) (by kernel_rfl) (fun x => by cases x <;> exact ZN _ rfl) (fun r => by cases r <;> exact ZN _ rfl) (fun x => by
  cases x with
  | h1m0 _ => exact fun _ => (show ¬ (1 ∈ Zx (Zed 1).2) from by decide +kernel)
  | h1m1 _ _ => exact fun _ => (show ¬ (1 ∈ Zx (Zed 1).2) from by decide +kernel)
  ) (fun x => (show (ZaF o0 L1 n2 n3 O0 N).Ok Try.prog Zr x (Zcr L1 n2 n3 N x) from by
  cases x with
  | h1m0 v4 => exact Zog o0 L1 n2 n3 O0 F0 v4 N
  | h1m1 v4 v5 => exact Zoh o0 L1 n2 n3 O0 F0 v4 v5 N
  )) (ZqE o0 L1 n2 n3 O0 F0 N) (n := N) h

noncomputable def Zb3 (o0 : Nat) (L1 : List R_iiii) (n2 n3 : Nat) (O0 : Obj) (k0 n : Nat) : Zak := .call [(k0, .ro O0)] (vn) [] 0
def Zbr (A : Array Value) (o0 : Nat) (L1 : List R_iiii) (n2 n3 : Nat) (O0 : Obj) (k0 n : Nat) : Prop := Zw Try.prog 23 A [(k0, .ro O0)] (vn) [] n 0

theorem Zb4 (A : Array Value) (o0 : Nat) (L1 : List R_iiii) (n2 n3 : Nat) (O0 : Obj) (F0 : Zs O0 o0 L1) (N : Nat) (h : ZbF L1 n2 n3 N = some (.r0)) (k0 n : Nat) (hA : A = #[vs k0 o0 n2 n3]) (hnd : ([k0] : List Nat).Nodup) (hlt : ∀ k ∈ ([k0] : List Nat), k < n) : Zbr A o0 L1 n2 n3 O0 k0 n :=
 Z0 hA (LSpec.callL (show LSpec Try.prog 23 #[vs 0 o0 n2 n3] [.ro O0] (vn) [some (.ro O0)] from ZiO o0 L1 n2 n3 O0 F0 N _ h) [k0] n [] rfl hnd hlt (show 1 ≤ 1 from by decide) (show ∀ j ∈ ([] : List Nat), j < 1 from by decide) (by rfl) ⟨rfl, trivial⟩ (by rfl) ⟨rfl, trivial⟩ ⟨.inr rfl, trivial⟩ rfl rfl rfl (Zc (Zn rfl rfl) rfl) rfl)

noncomputable def ZaU (o0 : Nat) (L1 : List R_iiii) (n2 n3 : Nat) (O0 : Obj) (w2 : List Int) (k0 n : Nat) : Zak := .call [(k0, .ro O0)] (vs n 0 w2.length w2.length) [(n, some (.cells (Zb eI w2) 3))] 1
def ZaK (A : Array Value) (o0 : Nat) (L1 : List R_iiii) (n2 n3 : Nat) (O0 : Obj) (w2 : List Int) (k0 n : Nat) : Prop := Zw Try.prog 23 A [(k0, .ro O0)] (vs n 0 w2.length w2.length) [(n, some (.cells (Zb eI w2) 3))] n 1

theorem ZaV (A : Array Value) (o0 : Nat) (L1 : List R_iiii) (n2 n3 : Nat) (O0 : Obj) (F0 : Zs O0 o0 L1) (w2 : List Int) (N : Nat) (h : ZbF L1 n2 n3 N = some (.r1 w2)) (k0 n : Nat) (hA : A = #[vs k0 o0 n2 n3]) (hnd : ([k0] : List Nat).Nodup) (hlt : ∀ k ∈ ([k0] : List Nat), k < n) : ZaK A o0 L1 n2 n3 O0 w2 k0 n :=
 Z0 hA (LSpec.callL (show LSpec Try.prog 23 #[vs 0 o0 n2 n3] [.ro O0] (vs 1 0 w2.length w2.length) [some (.ro O0), some (.cells (Zb eI w2) 3)] from ZiO o0 L1 n2 n3 O0 F0 N _ h) [k0] n [1] rfl hnd hlt (show 1 ≤ 2 from by decide) (show ∀ j ∈ ([1] : List Nat), j < 2 from by decide) (by rfl) ⟨rfl, trivial⟩ (by rfl) ⟨rfl, ⟨(Zp _ _ _), trivial⟩⟩ ⟨.inr rfl, ⟨(by decide), trivial⟩⟩ rfl rfl rfl (Zc (Zn rfl rfl) rfl) (Zc (Zn rfl (Zac (Zy _ _ _))) rfl))

noncomputable def ZiP (L0 : List Int) : Zba → Value
 | .r0 w1 => Value.bool w1
noncomputable def Ziv (L0 : List Int) : Zba → List (Option AObj)
 | .r0 w1 => [some (.cells (Zb eI L0) 3)]

def Zoi : ZaQ → Nat
 | .h1m0 => 1
noncomputable def Zpc (L0 : List Int) : ZaQ → List (Nat × Value)
 | .h1m0 => [(0, vn), (1, vs 0 0 L0.length L0.length), (5, v0)]
noncomputable def Zpd (L0 : List Int) : ZaQ → List (Option AObj)
 | .h1m0 => [some (.cells (Zb eI L0) 3)]

noncomputable def ZeV : Nat → Code × List ZaO
 | 1 => Zcm [1, 1, 0, 1, 3] (Zc1 Try.f19) []
 | _ => (.skip, [])
def Zoj : Nat → Bool
 | 1 => true
 | _ => true
noncomputable def Zcc (L0 : List Int) (N : Nat) : Mach := ⟨Try.f19, [.cells (Zb eI L0) 3], ZaQ, Zba, Zej L0 N, Zoi, ZeV, Zoj, Zpc L0, Zpd L0, ZiP L0, Ziv L0⟩

theorem ZkF (L0 : List Int) (N : Nat) : (Zcc L0 N).Ok Try.prog Zr (.h1m0 : ZaQ) (Zej L0 N (.h1m0 : ZaQ)) := by
 show (Zcc L0 N).Ok Try.prog Zr (.h1m0 : ZaQ) (Zfc L0 N)
 unfold Zfc
 exact Mach.ok_fin (M := Zcc L0 N) (cd := 1000000) (cm := 0) (r := (.r0 (true) : Zba)) (fu := 4000) (orc := (Zi [] [] [] [] [])) (live := [0]) (u := vT) (bl := [some (.cells (Zb eI L0) 3)]) (ob := []) (fun gv => by kernel_rfl) Zd rfl (by decide) (by rfl) rr ⟨(Zg (E := eI) (α := Int) _ L0 _), trivial⟩

theorem ZmY (L0 : List Int) (N : Nat) : (Zcc L0 N).Enter Try.prog Zr #[vn, vs 0 0 L0.length L0.length] (Zgh L0 N) := by
 unfold Zgh
 refine Mach.en_ite (fun g0 => ?_) (fun g0 => ?_)
 ·
  exact Mach.en_fin (M := Zcc L0 N) (cd := 1000000) (cm := 0) (r := (.r0 (false) : Zba)) (fu := 4000) (orc := (Zi [(0, true)] [] [] [] [])) (live := [0]) (u := vf) (bl := [some (.cells (Zb eI L0) 3)]) (ob := [(((0 : Int) != (L0.length : Int)), true)]) (by kernel_rfl) (oD Zd) rfl (by decide) (by rfl) rr ⟨(Zg (E := eI) (α := Int) _ L0 _), trivial⟩
 ·
  exact Mach.en_head (bK := ZeV 1) (M := Zcc L0 N) (cd := 1000000) (cm := 0) (y := (.h1m0 : ZaQ)) (fu := 4000) (orc := (Zi [(0, false)] [] [] [] [])) (live := [0]) (tv := [some (vn), some (vs 0 0 L0.length L0.length), some (v0)]) (bl := [some (.cells (Zb eI L0) 3)]) (ob := [(((0 : Int) != (L0.length : Int)), false)]) rfl rfl (show Zx (ZeV 1).2 = [] from rfl) (by kernel_rfl) (oE Zd) rfl (by decide) (by rfl) ⟨rr, ⟨rr, ⟨rr, trivial⟩⟩⟩ ⟨(Zg (E := eI) (α := Int) _ L0 _), trivial⟩

theorem Zlu (L0 : List Int) (N : Nat) (r : Zba) (h : Zcs L0 N = some r) : LSpec Try.prog 19 #[vn, vs 0 0 L0.length L0.length] [.cells (Zb eI L0) 3] (ZiP L0 r) (Ziv L0 r) :=
 Mach.spec Zao (Zcc L0 N) Try.func19 (by kernel_rfl) (by kernel_rfl) (fun x => by cases x <;> exact ZN _ rfl) (fun r => by cases r <;> exact ZN _ rfl) (fun x => by
  cases x with
  | h1m0 => exact fun _ => (show ¬ (1 ∈ Zx (ZeV 1).2) from by decide +kernel)
  ) (fun x => (show (Zcc L0 N).Ok Try.prog Zr x (Zej L0 N x) from by
  cases x with
  | h1m0 => exact ZkF L0 N
  )) (ZmY L0 N) (n := N) h

noncomputable def Zaf (L0 : List Int) (w1 : Bool) (k0 n : Nat) : Zak := .call [(k0, .cells (Zb eI L0) 3)] (Value.bool w1) [] 0
def ZX (A : Array Value) (L0 : List Int) (w1 : Bool) (k0 n : Nat) : Prop := Zw Try.prog 19 A [(k0, .cells (Zb eI L0) 3)] (Value.bool w1) [] n 0

theorem Zag (A : Array Value) (L0 : List Int) (w1 : Bool) (N : Nat) (h : Zcs L0 N = some (.r0 w1)) (k0 n : Nat) (hA : A = #[vn, vs k0 0 L0.length L0.length]) (hnd : ([k0] : List Nat).Nodup) (hlt : ∀ k ∈ ([k0] : List Nat), k < n) : ZX A L0 w1 k0 n :=
 Z0 hA (LSpec.callL (show LSpec Try.prog 19 #[vn, vs 0 0 L0.length L0.length] [.cells (Zb eI L0) 3] (Value.bool w1) [some (.cells (Zb eI L0) 3)] from Zlu L0 N _ h) [k0] n [] rfl hnd hlt (show 1 ≤ 1 from by decide) (show ∀ j ∈ ([] : List Nat), j < 1 from by decide) (by rfl) ⟨(Zp _ _ _), trivial⟩ (by rfl) ⟨(Zp _ _ _), trivial⟩ ⟨.inr rfl, trivial⟩ rfl rfl rfl (Zc (Zn rfl (Zy _ _ _)) rfl) rfl)

noncomputable def ZiQ (L0 : List Int) : Zbb → Value
 | .r0 w1 => Value.bool w1
noncomputable def Ziw (L0 : List Int) : Zbb → List (Option AObj)
 | .r0 w1 => [some (.cells (Zb eI L0) 3)]

def Zok : ZaR → Nat
 | .h1m0 => 1
noncomputable def Zpe (L0 : List Int) : ZaR → List (Nat × Value)
 | .h1m0 => [(0, vs 0 0 L0.length L0.length), (1, vn), (5, v0)]
noncomputable def Zpf (L0 : List Int) : ZaR → List (Option AObj)
 | .h1m0 => [some (.cells (Zb eI L0) 3)]

noncomputable def ZeW : Nat → Code × List ZaO
 | 1 => Zcm [1, 1, 0, 1, 3] (Zc1 Try.f19) []
 | _ => (.skip, [])
def Zol : Nat → Bool
 | 1 => true
 | _ => true
noncomputable def Zcd (L0 : List Int) (N : Nat) : Mach := ⟨Try.f19, [.cells (Zb eI L0) 3], ZaR, Zbb, Zek L0 N, Zok, ZeW, Zol, Zpe L0, Zpf L0, ZiQ L0, Ziw L0⟩

theorem ZkG (L0 : List Int) (N : Nat) : (Zcd L0 N).Ok Try.prog Zr (.h1m0 : ZaR) (Zek L0 N (.h1m0 : ZaR)) := by
 show (Zcd L0 N).Ok Try.prog Zr (.h1m0 : ZaR) (Zfd L0 N)
 unfold Zfd
 refine Mach.ok_ite (fun g0 => ?_) (fun g0 => ?_)
 ·
  exact Mach.ok_none
 ·
  exact Mach.ok_fin (M := Zcd L0 N) (cd := 1000000) (cm := 0) (r := (.r0 (true) : Zbb)) (fu := 4000) (orc := (Zi [(0, false)] [] [] [] [])) (live := [0]) (u := vT) (bl := [some (.cells (Zb eI L0) 3)]) (ob := [((decide ((0 : Int) < (L0.length : Int))), false)]) (fun gv => by kernel_rfl) (oN Zd) rfl (by decide) (by rfl) rr ⟨(Zg (E := eI) (α := Int) _ L0 _), trivial⟩

theorem ZmZ (L0 : List Int) (N : Nat) : (Zcd L0 N).Enter Try.prog Zr #[vs 0 0 L0.length L0.length, vn] (Zgi L0 N) := by
 unfold Zgi
 refine Mach.en_ite (fun g0 => ?_) (fun g0 => ?_)
 ·
  exact Mach.en_fin (M := Zcd L0 N) (cd := 1000000) (cm := 0) (r := (.r0 (false) : Zbb)) (fu := 4000) (orc := (Zi [(0, true)] [] [] [] [])) (live := [0]) (u := vf) (bl := [some (.cells (Zb eI L0) 3)]) (ob := [(((L0.length : Int) != (0 : Int)), true)]) (by kernel_rfl) (oD Zd) rfl (by decide) (by rfl) rr ⟨(Zg (E := eI) (α := Int) _ L0 _), trivial⟩
 ·
  exact Mach.en_head (bK := ZeW 1) (M := Zcd L0 N) (cd := 1000000) (cm := 0) (y := (.h1m0 : ZaR)) (fu := 4000) (orc := (Zi [(0, false)] [] [] [] [])) (live := [0]) (tv := [some (vs 0 0 L0.length L0.length), some (vn), some (v0)]) (bl := [some (.cells (Zb eI L0) 3)]) (ob := [(((L0.length : Int) != (0 : Int)), false)]) rfl rfl (show Zx (ZeW 1).2 = [] from rfl) (by kernel_rfl) (oE Zd) rfl (by decide) (by rfl) ⟨rr, ⟨rr, ⟨rr, trivial⟩⟩⟩ ⟨(Zg (E := eI) (α := Int) _ L0 _), trivial⟩

theorem Zlv (L0 : List Int) (N : Nat) (r : Zbb) (h : Zct L0 N = some r) : LSpec Try.prog 19 #[vs 0 0 L0.length L0.length, vn] [.cells (Zb eI L0) 3] (ZiQ L0 r) (Ziw L0 r) :=
 Mach.spec Zao (Zcd L0 N) Try.func19 (by kernel_rfl) (by kernel_rfl) (fun x => by cases x <;> exact ZN _ rfl) (fun r => by cases r <;> exact ZN _ rfl) (fun x => by
  cases x with
  | h1m0 => exact fun _ => (show ¬ (1 ∈ Zx (ZeW 1).2) from by decide +kernel)
  ) (fun x => (show (Zcd L0 N).Ok Try.prog Zr x (Zek L0 N x) from by
  cases x with
  | h1m0 => exact ZkG L0 N
  )) (ZmZ L0 N) (n := N) h

noncomputable def Zah (L0 : List Int) (w1 : Bool) (k0 n : Nat) : Zak := .call [(k0, .cells (Zb eI L0) 3)] (Value.bool w1) [] 0
def ZY (A : Array Value) (L0 : List Int) (w1 : Bool) (k0 n : Nat) : Prop := Zw Try.prog 19 A [(k0, .cells (Zb eI L0) 3)] (Value.bool w1) [] n 0

theorem Zai (A : Array Value) (L0 : List Int) (w1 : Bool) (N : Nat) (h : Zct L0 N = some (.r0 w1)) (k0 n : Nat) (hA : A = #[vs k0 0 L0.length L0.length, vn]) (hnd : ([k0] : List Nat).Nodup) (hlt : ∀ k ∈ ([k0] : List Nat), k < n) : ZY A L0 w1 k0 n :=
 Z0 hA (LSpec.callL (show LSpec Try.prog 19 #[vs 0 0 L0.length L0.length, vn] [.cells (Zb eI L0) 3] (Value.bool w1) [some (.cells (Zb eI L0) 3)] from Zlv L0 N _ h) [k0] n [] rfl hnd hlt (show 1 ≤ 1 from by decide) (show ∀ j ∈ ([] : List Nat), j < 1 from by decide) (by rfl) ⟨(Zp _ _ _), trivial⟩ (by rfl) ⟨(Zp _ _ _), trivial⟩ ⟨.inr rfl, trivial⟩ rfl rfl rfl (Zc (Zn rfl (Zy _ _ _)) rfl) rfl)

noncomputable def ZiR (L0 L1 : List Int) : ZaH → Value
 | .r0 w2 => Value.bool w2
noncomputable def Zix (L0 L1 : List Int) : ZaH → List (Option AObj)
 | .r0 w2 => [some (.cells (Zb eI L0) 3), some (.cells (Zb eI L1) 3)]

def Zom : Za8 → Nat
 | .h1m0 v2 => 1
noncomputable def Zpg (L0 L1 : List Int) : Za8 → List (Nat × Value)
 | .h1m0 v2 => [(0, vs 0 0 L0.length L0.length), (1, vs 1 0 L1.length L1.length), (5, vi (v2 : Int))]
noncomputable def Zph (L0 L1 : List Int) : Za8 → List (Option AObj)
 | .h1m0 v2 => [some (.cells (Zb eI L0) 3), some (.cells (Zb eI L1) 3)]

noncomputable def Zd2 : Nat → Code × List ZaO
 | 1 => Zcm [1, 1, 0, 1, 3] (Zc1 Try.f19) []
 | _ => (.skip, [])
def Ziy : Nat → Bool
 | 1 => true
 | _ => true
noncomputable def Zpi (i : Nat) : List ZaO := match Ziy i with | true => .rnd i :: (Zd2 i).2 | false => (Zd2 i).2

noncomputable def Zbw (L0 L1 : List Int) (N : Nat) : Mach := ⟨Try.f19, [.cells (Zb eI L0) 3, .cells (Zb eI L1) 3], Za8, ZaH, Zds L0 L1 N, Zom, Zd2, Ziy, Zpg L0 L1, Zph L0 L1, ZiR L0 L1, Zix L0 L1⟩

theorem ZkH (L0 L1 : List Int) (v2 N : Nat) : (Zbw L0 L1 N).Ok Try.prog Zr (.h1m0 v2 : Za8) (Zds L0 L1 N (.h1m0 v2 : Za8)) := by
 show (Zbw L0 L1 N).Ok Try.prog Zr (.h1m0 v2 : Za8) (ZbG L0 L1 N v2)
 unfold ZbG
 refine Mach.ok_ite (fun g0 => ?_) (fun g0 => ?_)
 ·
  refine Mach.ok_ite (fun g1 => ?_) (fun g1 => ?_)
  ·
   refine Mach.ok_ite (fun g2 => ?_) (fun g2 => ?_)
   ·
    exact Mach.ok_fin (M := Zbw L0 L1 N) (cd := 1000000) (cm := 0) (r := (.r0 (false) : ZaH)) (fu := 4000) (orc := (Zi [(0, true), (1, true)] [] [(0, v2), (1, v2)] [(0, [.i (L0.getD v2 0)]), (1, [.i (L1.getD v2 0)])] [])) (live := [0, 1]) (u := vf) (bl := [some (.cells (Zb eI L0) 3), some (.cells (Zb eI L1) 3)]) (ob := [(((L0.getD v2 0) != (L1.getD v2 0)), true), (Zz (Z7 1 (List.drop (0 + (v2 * 1)) (Zb eI L1))) [.i (L1.getD v2 0)], true), (Nat.blt v2 L1.length, true), ((v2 : Int) == Int.ofNat v2, true), (Zz (Z7 1 (List.drop (0 + (v2 * 1)) (Zb eI L0))) [.i (L0.getD v2 0)], true), (Nat.blt v2 L0.length, true), ((v2 : Int) == Int.ofNat v2, true), ((decide ((v2 : Int) < (L0.length : Int))), true)]) (fun gv => by kernel_rfl) (oD <| Za (Zaq (E := eI) (L := L1) (i := v2) (q := 0) (by omega) (show (0 + (v2 * 1)) = v2 * 1 + 0 from by omega) (show 0 + 1 ≤ 1 from by decide) rfl rfl) <| oB <| oI <| Za (Zaq (E := eI) (L := L0) (i := v2) (q := 0) (by omega) (show (0 + (v2 * 1)) = v2 * 1 + 0 from by omega) (show 0 + 1 ≤ 1 from by decide) rfl rfl) <| oB <| oI <| oY Zd) rfl (by decide) (by rfl) rr ⟨(Zg (E := eI) (α := Int) _ L0 _), ⟨(Zg (E := eI) (α := Int) _ L1 _), trivial⟩⟩
   ·
    refine Mach.ok_ite (fun g3 => ?_) (fun g3 => ?_)
    ·
     exact Mach.ok_next (M := Zbw L0 L1 N) (cd := 1000000) (cm := 0) (y := (.h1m0 ((v2 + 1)) : Za8)) (fu := 4000) (orc := (Zi [(0, true), (1, false)] [(0, (((v2 + 1) : Nat) : Int))] [(0, v2), (1, v2)] [(0, [.i (L0.getD v2 0)]), (1, [.i (L1.getD v2 0)])] [])) (live := [0, 1]) (tv := fun _ => [some (vs 0 0 L0.length L0.length), some (vs 1 0 L1.length L1.length), some (vi (((v2 + 1) : Nat) : Int))]) (bl := [some (.cells (Zb eI L0) 3), some (.cells (Zb eI L1) 3)]) (ob := [((IntKind.i64.wrap ((v2 : Int) + (1 : Int))) == (((v2 + 1) : Nat) : Int), true), (((L0.getD v2 0) != (L1.getD v2 0)), false), (Zz (Z7 1 (List.drop (0 + (v2 * 1)) (Zb eI L1))) [.i (L1.getD v2 0)], true), (Nat.blt v2 L1.length, true), ((v2 : Int) == Int.ofNat v2, true), (Zz (Z7 1 (List.drop (0 + (v2 * 1)) (Zb eI L0))) [.i (L0.getD v2 0)], true), (Nat.blt v2 L0.length, true), ((v2 : Int) == Int.ofNat v2, true), ((decide ((v2 : Int) < (L0.length : Int))), true)]) rfl (show 1 ∈ Zx (Zpi 1) from by decide +kernel) (fun gv => by kernel_rfl) (Za (beq_iff_eq.2 ((wrap_i64 ltA).trans (by first | rfl | omega))) <| oE <| Za (Zaq (E := eI) (L := L1) (i := v2) (q := 0) (by omega) (show (0 + (v2 * 1)) = v2 * 1 + 0 from by omega) (show 0 + 1 ≤ 1 from by decide) rfl rfl) <| oB <| oI <| Za (Zaq (E := eI) (L := L0) (i := v2) (q := 0) (by omega) (show (0 + (v2 * 1)) = v2 * 1 + 0 from by omega) (show 0 + 1 ≤ 1 from by decide) rfl rfl) <| oB <| oI <| oY Zd) rfl (by decide) (by rfl) (fun _ => ⟨rr, ⟨rr, ⟨rr, trivial⟩⟩⟩) ⟨(Zg (E := eI) (α := Int) _ L0 _), ⟨(Zg (E := eI) (α := Int) _ L1 _), trivial⟩⟩
    ·
     exact Mach.ok_none
  ·
   exact Mach.ok_none
 ·
  exact Mach.ok_fin (M := Zbw L0 L1 N) (cd := 1000000) (cm := 0) (r := (.r0 (true) : ZaH)) (fu := 4000) (orc := (Zi [(0, false)] [] [] [] [])) (live := [0, 1]) (u := vT) (bl := [some (.cells (Zb eI L0) 3), some (.cells (Zb eI L1) 3)]) (ob := [((decide ((v2 : Int) < (L0.length : Int))), false)]) (fun gv => by kernel_rfl) (oN Zd) rfl (by decide) (by rfl) rr ⟨(Zg (E := eI) (α := Int) _ L0 _), ⟨(Zg (E := eI) (α := Int) _ L1 _), trivial⟩⟩

theorem Zna (L0 L1 : List Int) (N : Nat) : (Zbw L0 L1 N).Enter Try.prog Zr #[vs 0 0 L0.length L0.length, vs 1 0 L1.length L1.length] (ZeL L0 L1 N) := by
 unfold ZeL
 refine Mach.en_ite (fun g0 => ?_) (fun g0 => ?_)
 ·
  exact Mach.en_fin (M := Zbw L0 L1 N) (cd := 1000000) (cm := 0) (r := (.r0 (false) : ZaH)) (fu := 4000) (orc := (Zi [(0, true)] [] [] [] [])) (live := [0, 1]) (u := vf) (bl := [some (.cells (Zb eI L0) 3), some (.cells (Zb eI L1) 3)]) (ob := [(((L0.length : Int) != (L1.length : Int)), true)]) (by kernel_rfl) (oD Zd) rfl (by decide) (by rfl) rr ⟨(Zg (E := eI) (α := Int) _ L0 _), ⟨(Zg (E := eI) (α := Int) _ L1 _), trivial⟩⟩
 ·
  exact Mach.en_head (bK := Zd2 1) (M := Zbw L0 L1 N) (cd := 1000000) (cm := 0) (y := (.h1m0 (0) : Za8)) (fu := 4000) (orc := (Zi [(0, false)] [] [] [] [])) (live := [0, 1]) (tv := [some (vs 0 0 L0.length L0.length), some (vs 1 0 L1.length L1.length), some (v0)]) (bl := [some (.cells (Zb eI L0) 3), some (.cells (Zb eI L1) 3)]) (ob := [(((L0.length : Int) != (L1.length : Int)), false)]) rfl rfl (show Zx (Zd2 1).2 = [] from rfl) (by kernel_rfl) (oE Zd) rfl (by decide) (by rfl) ⟨rr, ⟨rr, ⟨⟨Eq.trans (show (vi ((0 : Nat) : Int) : Value) = v0 from (congrArg (Value.int .i64) (by first | rfl | omega))) (by rfl), by rfl⟩, trivial⟩⟩⟩ ⟨(Zg (E := eI) (α := Int) _ L0 _), ⟨(Zg (E := eI) (α := Int) _ L1 _), trivial⟩⟩

theorem Zlw (L0 L1 : List Int) (N : Nat) (r : ZaH) (h : ZbS L0 L1 N = some r) : LSpec Try.prog 19 #[vs 0 0 L0.length L0.length, vs 1 0 L1.length L1.length] [.cells (Zb eI L0) 3, .cells (Zb eI L1) 3] (ZiR L0 L1 r) (Zix L0 L1 r) :=
 Mach.spec Zao (Zbw L0 L1 N) Try.func19 (by kernel_rfl) (by kernel_rfl) (fun x => by cases x <;> exact ZN _ rfl) (fun r => by cases r <;> exact ZN _ rfl) (fun x => by
  cases x with
  | h1m0 _ => exact fun _ => (show ¬ (1 ∈ Zx (Zd2 1).2) from by decide +kernel)
  ) (fun x => (show (Zbw L0 L1 N).Ok Try.prog Zr x (Zds L0 L1 N x) from by
  cases x with
  | h1m0 v2 => exact ZkH L0 L1 v2 N
  )) (Zna L0 L1 N) (n := N) h

noncomputable def Zal (L0 L1 : List Int) (w2 : Bool) (k0 k1 n : Nat) : Zak := .call [(k0, .cells (Zb eI L0) 3), (k1, .cells (Zb eI L1) 3)] (Value.bool w2) [] 0
def Zaj (A : Array Value) (L0 L1 : List Int) (w2 : Bool) (k0 k1 n : Nat) : Prop := Zw Try.prog 19 A [(k0, .cells (Zb eI L0) 3), (k1, .cells (Zb eI L1) 3)] (Value.bool w2) [] n 0

theorem Zam (A : Array Value) (L0 L1 : List Int) (w2 : Bool) (N : Nat) (h : ZbS L0 L1 N = some (.r0 w2)) (k0 k1 n : Nat) (hA : A = #[vs k0 0 L0.length L0.length, vs k1 0 L1.length L1.length]) (hnd : ([k0, k1] : List Nat).Nodup) (hlt : ∀ k ∈ ([k0, k1] : List Nat), k < n) : Zaj A L0 L1 w2 k0 k1 n :=
 Z0 hA (LSpec.callL (show LSpec Try.prog 19 #[vs 0 0 L0.length L0.length, vs 1 0 L1.length L1.length] [.cells (Zb eI L0) 3, .cells (Zb eI L1) 3] (Value.bool w2) [some (.cells (Zb eI L0) 3), some (.cells (Zb eI L1) 3)] from Zlw L0 L1 N _ h) [k0, k1] n [] rfl hnd hlt (show 2 ≤ 2 from by decide) (show ∀ j ∈ ([] : List Nat), j < 2 from by decide) (by rfl) ⟨(Zp _ _ _), ⟨(Zp _ _ _), trivial⟩⟩ (by rfl) ⟨(Zp _ _ _), ⟨(Zp _ _ _), trivial⟩⟩ ⟨.inr rfl, ⟨.inr rfl, trivial⟩⟩ rfl rfl rfl (Zc (Zn rfl (Zy _ _ _)) (Zc (Zn rfl (Zy _ _ _)) rfl)) rfl)

noncomputable def ZiS (o0 : Nat) (L1 : List R_iiii) (n2 n3 : Nat) (a4 : Int) (O0 : Obj) : Zh → Value
 | .r0 w2 => Value.bool w2
noncomputable def Ziz (o0 : Nat) (L1 : List R_iiii) (n2 n3 : Nat) (a4 : Int) (O0 : Obj) : Zh → List (Option AObj)
 | .r0 w2 => [some (.ro O0)]

def Zon : Zo → Nat
 | .h1m0 v2 v3 => 1
 | .h2m0 v2 v3 v5 v6 => 2
 | .h2m1 v2 v3 v5 v6 => 2
 | .h2m2 v2 v3 v5 v7 => 2
 | .h2m3 v2 v3 v5 v7 => 2
 | .h3m0 v2 v3 v4 v5 v6 v7 v8 v9 => 3
 | .h3m1 v2 v3 v4 v5 v7 v8 v9 v10 => 3
 | .h3m2 v2 v3 v4 v6 v7 v8 v9 v10 => 3
 | .h3m3 v2 v3 v4 v6 v8 v9 v10 v11 => 3
noncomputable def Zpj (o0 : Nat) (L1 : List R_iiii) (n2 n3 : Nat) (a4 : Int) (O0 : Obj) : Zo → List (Nat × Value)
 | .h1m0 v2 v3 => [(0, vs 0 o0 v2 v3), (1, vi a4)]
 | .h2m0 v2 v3 v5 v6 => [(0, vs 0 o0 v2 v3), (1, vi a4), (5, vn), (6, vi v5), (7, vn), (8, vi v6)]
 | .h2m1 v2 v3 v5 v6 => [(0, vs 0 o0 v2 v3), (1, vi a4), (5, vn), (6, vi v5), (7, vs 1 0 v6.length v6.length), (8, v0)]
 | .h2m2 v2 v3 v5 v7 => [(0, vs 0 o0 v2 v3), (1, vi a4), (5, vs 1 0 v5.length v5.length), (6, v0), (7, vn), (8, vi v7)]
 | .h2m3 v2 v3 v5 v7 => [(0, vs 0 o0 v2 v3), (1, vi a4), (5, vs 1 0 v5.length v5.length), (6, v0), (7, vs 2 0 v7.length v7.length), (8, v0)]
 | .h3m0 v2 v3 v4 v5 v6 v7 v8 v9 => [(0, vs 0 o0 v2 v3), (5, vn), (6, vi v4), (7, vn), (8, vi v5), (9, vi v6), (10, vi v7), (11, vi v8), (12, vi v9)]
 | .h3m1 v2 v3 v4 v5 v7 v8 v9 v10 => [(0, vs 0 o0 v2 v3), (5, vn), (6, vi v4), (7, vs 1 0 v5.length v5.length), (8, v0), (9, vi v7), (10, vi v8), (11, vi v9), (12, vi v10)]
 | .h3m2 v2 v3 v4 v6 v7 v8 v9 v10 => [(0, vs 0 o0 v2 v3), (5, vs 1 0 v4.length v4.length), (6, v0), (7, vn), (8, vi v6), (9, vi v7), (10, vi v8), (11, vi v9), (12, vi v10)]
 | .h3m3 v2 v3 v4 v6 v8 v9 v10 v11 => [(0, vs 0 o0 v2 v3), (5, vs 1 0 v4.length v4.length), (6, v0), (7, vs 2 0 v6.length v6.length), (8, v0), (9, vi v8), (10, vi v9), (11, vi v10), (12, vi v11)]
noncomputable def Zpk (o0 : Nat) (L1 : List R_iiii) (n2 n3 : Nat) (a4 : Int) (O0 : Obj) : Zo → List (Option AObj)
 | .h1m0 v2 v3 => [some (.ro O0)]
 | .h2m0 v2 v3 v5 v6 => [some (.ro O0)]
 | .h2m1 v2 v3 v5 v6 => [some (.ro O0), some (.cells (Zb eI v6) 3)]
 | .h2m2 v2 v3 v5 v7 => [some (.ro O0), some (.cells (Zb eI v5) 3)]
 | .h2m3 v2 v3 v5 v7 => [some (.ro O0), some (.cells (Zb eI v5) 3), some (.cells (Zb eI v7) 3)]
 | .h3m0 v2 v3 v4 v5 v6 v7 v8 v9 => [some (.ro O0)]
 | .h3m1 v2 v3 v4 v5 v7 v8 v9 v10 => [some (.ro O0), some (.cells (Zb eI v5) 3)]
 | .h3m2 v2 v3 v4 v6 v7 v8 v9 v10 => [some (.ro O0), some (.cells (Zb eI v4) 3)]
 | .h3m3 v2 v3 v4 v6 v8 v9 v10 v11 => [some (.ro O0), some (.cells (Zb eI v4) 3), some (.cells (Zb eI v6) 3)]

noncomputable def Z5 : Nat → Code × List ZaO
 | 1 => ZhQ [1, 1] (Zc1 Try.f4) []
 | 2 => ZhQ [1, 1, 1, 1] (Zc1 Try.f4) []
 | 3 => ZhQ [1, 1, 1, 1, 1, 1] (Zc1 Try.f4) []
 | _ => (.skip, [])
def Zi0 : Nat → Bool
 | 1 => false
 | 2 => false
 | 3 => false
 | _ => true
noncomputable def Zce (i : Nat) : List ZaO := match Zi0 i with | true => .rnd i :: (Z5 i).2 | false => (Z5 i).2

noncomputable def Zl (o0 : Nat) (L1 : List R_iiii) (n2 n3 : Nat) (a4 : Int) (O0 : Obj) (N : Nat) : Mach := ⟨Try.f4, [.ro O0], Zo, Zh, Zax L1 n2 n3 a4 N, Zon, Z5, Zi0, Zpj o0 L1 n2 n3 a4 O0, Zpk o0 L1 n2 n3 a4 O0, ZiS o0 L1 n2 n3 a4 O0, Ziz o0 L1 n2 n3 a4 O0⟩

theorem ZkI (o0 : Nat) (L1 : List R_iiii) (n2 n3 : Nat) (a4 : Int) (O0 : Obj) (F0 : Zs O0 o0 L1) (v2 v3 N : Nat) : (Zl o0 L1 n2 n3 a4 O0 N).Ok Try.prog Zr (.h1m0 v2 v3 : Zo) (Zax L1 n2 n3 a4 N (.h1m0 v2 v3 : Zo)) := by
 show (Zl o0 L1 n2 n3 a4 O0 N).Ok Try.prog Zr (.h1m0 v2 v3 : Zo) (Zfe L1 n2 n3 a4 N v2 v3)
 unfold Zfe
 refine Mach.ok_bind (fun z0 c0 => ?_)
 cases z0 with
 | r0 y0_0 =>
  refine Mach.ok_bind (fun z1 c1 => ?_)
  cases z1 with
  | r0 y1_0 =>
   exact Mach.ok_cut (bK := Z5 2) (M := Zl o0 L1 n2 n3 a4 O0 N) (cd := 0) (cm := 1) (y := (.h2m0 (v2) (v3) (y0_0) (y1_0) : Zo)) (fu := 4000) (orc := (Zi [] [] [] [] [(0, (Zmq (o0) (L1) (v2) (v3) O0 y0_0 0 1)), (1, (Zm4 (o0) (L1) (v2) (v3) O0 y1_0 0 1))])) (live := [0]) (tv := fun _ => [some (vs 0 o0 v2 v3), some (vi a4), some (vn), some (vi y0_0), some (vn), some (vi y1_0)]) (bl := [some (.ro O0)]) (ob := [(dP (ZiB #[vs 0 o0 v2 v3] (o0) (L1) (v2) (v3) O0 y1_0 0 1), true), (dS O0, true), (dP (Zi9 #[vs 0 o0 v2 v3] (o0) (L1) (v2) (v3) O0 y0_0 0 1), true), (dS O0, true)]) rfl rfl (show ∀ j ∈ Zx (Z5 2).2, j ∈ Zx (Zce 1) from by decide +kernel) (fun gv => by kernel_rfl) (Za (Zf (Zm5 #[vs 0 o0 v2 v3] (o0) (L1) (v2) (v3) O0 F0 y1_0 N c1 0 1 rfl (by decide) (by decide))) <| oR <| Za (Zf (Zmr #[vs 0 o0 v2 v3] (o0) (L1) (v2) (v3) O0 F0 y0_0 N c0 0 1 rfl (by decide) (by decide))) <| oR Zd) rfl (by decide) (by rfl) (fun _ => ⟨rr, ⟨rr, ⟨rr, ⟨rr, ⟨rr, ⟨rr, trivial⟩⟩⟩⟩⟩⟩) ⟨rfl, trivial⟩
  | r1 y1_0 =>
   exact Mach.ok_cut (bK := Z5 2) (M := Zl o0 L1 n2 n3 a4 O0 N) (cd := 0) (cm := 1) (y := (.h2m1 (v2) (v3) (y0_0) (y1_0) : Zo)) (fu := 4000) (orc := (Zi [] [] [] [] [(0, (Zmq (o0) (L1) (v2) (v3) O0 y0_0 0 1)), (1, (Zm6 (o0) (L1) (v2) (v3) O0 y1_0 0 1))])) (live := [0, 1]) (tv := fun _ => [some (vs 0 o0 v2 v3), some (vi a4), some (vn), some (vi y0_0), some (vs 1 0 y1_0.length y1_0.length), some (v0)]) (bl := [some (.ro O0), some (.cells (Zb eI y1_0) 3)]) (ob := [(dP (ZiC #[vs 0 o0 v2 v3] (o0) (L1) (v2) (v3) O0 y1_0 0 1), true), (dS O0, true), (dP (Zi9 #[vs 0 o0 v2 v3] (o0) (L1) (v2) (v3) O0 y0_0 0 1), true), (dS O0, true)]) rfl rfl (show ∀ j ∈ Zx (Z5 2).2, j ∈ Zx (Zce 1) from by decide +kernel) (fun gv => by kernel_rfl) (Za (Zf (Zm7 #[vs 0 o0 v2 v3] (o0) (L1) (v2) (v3) O0 F0 y1_0 N c1 0 1 rfl (by decide) (by decide))) <| oR <| Za (Zf (Zmr #[vs 0 o0 v2 v3] (o0) (L1) (v2) (v3) O0 F0 y0_0 N c0 0 1 rfl (by decide) (by decide))) <| oR Zd) rfl (by decide) (by rfl) (fun _ => ⟨rr, ⟨rr, ⟨rr, ⟨rr, ⟨rr, ⟨rr, trivial⟩⟩⟩⟩⟩⟩) ⟨rfl, ⟨(Zg (E := eI) (α := Int) _ y1_0 _), trivial⟩⟩
 | r1 y0_0 =>
  refine Mach.ok_bind (fun z1 c1 => ?_)
  cases z1 with
  | r0 y1_0 =>
   exact Mach.ok_cut (bK := Z5 2) (M := Zl o0 L1 n2 n3 a4 O0 N) (cd := 0) (cm := 1) (y := (.h2m2 (v2) (v3) (y0_0) (y1_0) : Zo)) (fu := 4000) (orc := (Zi [] [] [] [] [(0, (Zms (o0) (L1) (v2) (v3) O0 y0_0 0 1)), (1, (Zm4 (o0) (L1) (v2) (v3) O0 y1_0 0 2))])) (live := [0, 1]) (tv := fun _ => [some (vs 0 o0 v2 v3), some (vi a4), some (vs 1 0 y0_0.length y0_0.length), some (v0), some (vn), some (vi y1_0)]) (bl := [some (.ro O0), some (.cells (Zb eI y0_0) 3)]) (ob := [(dP (ZiB #[vs 0 o0 v2 v3] (o0) (L1) (v2) (v3) O0 y1_0 0 2), true), (dS O0, true), (dP (ZiA #[vs 0 o0 v2 v3] (o0) (L1) (v2) (v3) O0 y0_0 0 1), true), (dS O0, true)]) rfl rfl (show ∀ j ∈ Zx (Z5 2).2, j ∈ Zx (Zce 1) from by decide +kernel) (fun gv => by kernel_rfl) (Za (Zf (Zm5 #[vs 0 o0 v2 v3] (o0) (L1) (v2) (v3) O0 F0 y1_0 N c1 0 2 rfl (by decide) (by decide))) <| oR <| Za (Zf (Zmt #[vs 0 o0 v2 v3] (o0) (L1) (v2) (v3) O0 F0 y0_0 N c0 0 1 rfl (by decide) (by decide))) <| oR Zd) rfl (by decide) (by rfl) (fun _ => ⟨rr, ⟨rr, ⟨rr, ⟨rr, ⟨rr, ⟨rr, trivial⟩⟩⟩⟩⟩⟩) ⟨rfl, ⟨(Zg (E := eI) (α := Int) _ y0_0 _), trivial⟩⟩
  | r1 y1_0 =>
   exact Mach.ok_cut (bK := Z5 2) (M := Zl o0 L1 n2 n3 a4 O0 N) (cd := 0) (cm := 1) (y := (.h2m3 (v2) (v3) (y0_0) (y1_0) : Zo)) (fu := 4000) (orc := (Zi [] [] [] [] [(0, (Zms (o0) (L1) (v2) (v3) O0 y0_0 0 1)), (1, (Zm6 (o0) (L1) (v2) (v3) O0 y1_0 0 2))])) (live := [0, 1, 2]) (tv := fun _ => [some (vs 0 o0 v2 v3), some (vi a4), some (vs 1 0 y0_0.length y0_0.length), some (v0), some (vs 2 0 y1_0.length y1_0.length), some (v0)]) (bl := [some (.ro O0), some (.cells (Zb eI y0_0) 3), some (.cells (Zb eI y1_0) 3)]) (ob := [(dP (ZiC #[vs 0 o0 v2 v3] (o0) (L1) (v2) (v3) O0 y1_0 0 2), true), (dS O0, true), (dP (ZiA #[vs 0 o0 v2 v3] (o0) (L1) (v2) (v3) O0 y0_0 0 1), true), (dS O0, true)]) rfl rfl (show ∀ j ∈ Zx (Z5 2).2, j ∈ Zx (Zce 1) from by decide +kernel) (fun gv => by kernel_rfl) (Za (Zf (Zm7 #[vs 0 o0 v2 v3] (o0) (L1) (v2) (v3) O0 F0 y1_0 N c1 0 2 rfl (by decide) (by decide))) <| oR <| Za (Zf (Zmt #[vs 0 o0 v2 v3] (o0) (L1) (v2) (v3) O0 F0 y0_0 N c0 0 1 rfl (by decide) (by decide))) <| oR Zd) rfl (by decide) (by rfl) (fun _ => ⟨rr, ⟨rr, ⟨rr, ⟨rr, ⟨rr, ⟨rr, trivial⟩⟩⟩⟩⟩⟩) ⟨rfl, ⟨(Zg (E := eI) (α := Int) _ y0_0 _), ⟨(Zg (E := eI) (α := Int) _ y1_0 _), trivial⟩⟩⟩

theorem ZkJ (o0 : Nat) (L1 : List R_iiii) (n2 n3 : Nat) (a4 : Int) (O0 : Obj) (F0 : Zs O0 o0 L1) (v2 v3 : Nat) (v5 v6 : Int) (N : Nat) : (Zl o0 L1 n2 n3 a4 O0 N).Ok Try.prog Zr (.h2m0 v2 v3 v5 v6 : Zo) (Zax L1 n2 n3 a4 N (.h2m0 v2 v3 v5 v6 : Zo)) := by
 show (Zl o0 L1 n2 n3 a4 O0 N).Ok Try.prog Zr (.h2m0 v2 v3 v5 v6 : Zo) (Zff L1 n2 n3 a4 N v2 v3 v5 v6)
 unfold Zff
 refine Mach.ok_bind (fun z0 c0 => ?_)
 cases z0 with
 | r0 y0_0 y0_1 =>
  refine Mach.ok_bind (fun z1 c1 => ?_)
  cases z1 with
  | r0 y1_0 y1_1 =>
   exact Mach.ok_cut (bK := Z5 3) (M := Zl o0 L1 n2 n3 a4 O0 N) (cd := 0) (cm := 1) (y := (.h3m0 (v2) (v3) (v5) (v6) (y0_0) (y0_1) (y1_0) (y1_1) : Zo)) (fu := 4000) (orc := (Zi [] [] [] [] [(0, (Zg2 (o0) (L1) (v2) (v3) (a4) O0 y0_0 y0_1 0 1)), (1, (Zg4 (o0) (L1) (v2) (v3) (a4) O0 y1_0 y1_1 0 1))])) (live := [0]) (tv := fun _ => [some (vs 0 o0 v2 v3), some (vn), some (vi v5), some (vn), some (vi v6), some (vi y0_0), some (vi y0_1), some (vi y1_0), some (vi y1_1)]) (bl := [some (.ro O0)]) (ob := [(dP (Zft #[vs 0 o0 v2 v3, vi a4] (o0) (L1) (v2) (v3) (a4) O0 y1_0 y1_1 0 1), true), (dS O0, true), (dP (Zfs #[vs 0 o0 v2 v3, vi a4] (o0) (L1) (v2) (v3) (a4) O0 y0_0 y0_1 0 1), true), (dS O0, true)]) rfl rfl (show ∀ j ∈ Zx (Z5 3).2, j ∈ Zx (Zce 2) from by decide +kernel) (fun gv => by kernel_rfl) (Za (Zf (Zg5 #[vs 0 o0 v2 v3, vi a4] (o0) (L1) (v2) (v3) (a4) O0 F0 y1_0 y1_1 N c1 0 1 rfl (by decide) (by decide))) <| oR <| Za (Zf (Zg3 #[vs 0 o0 v2 v3, vi a4] (o0) (L1) (v2) (v3) (a4) O0 F0 y0_0 y0_1 N c0 0 1 rfl (by decide) (by decide))) <| oR Zd) rfl (by decide) (by rfl) (fun _ => ⟨rr, ⟨rr, ⟨rr, ⟨rr, ⟨rr, ⟨rr, ⟨rr, ⟨rr, ⟨rr, trivial⟩⟩⟩⟩⟩⟩⟩⟩⟩) ⟨rfl, trivial⟩

theorem ZkK (o0 : Nat) (L1 : List R_iiii) (n2 n3 : Nat) (a4 : Int) (O0 : Obj) (F0 : Zs O0 o0 L1) (v2 v3 : Nat) (v5 : Int) (v6 : List Int) (N : Nat) : (Zl o0 L1 n2 n3 a4 O0 N).Ok Try.prog Zr (.h2m1 v2 v3 v5 v6 : Zo) (Zax L1 n2 n3 a4 N (.h2m1 v2 v3 v5 v6 : Zo)) := by
 show (Zl o0 L1 n2 n3 a4 O0 N).Ok Try.prog Zr (.h2m1 v2 v3 v5 v6 : Zo) (Zfg L1 n2 n3 a4 N v2 v3 v5 v6)
 unfold Zfg
 refine Mach.ok_bind (fun z0 c0 => ?_)
 cases z0 with
 | r0 y0_0 y0_1 =>
  refine Mach.ok_bind (fun z1 c1 => ?_)
  cases z1 with
  | r0 y1_0 y1_1 =>
   exact Mach.ok_cut (bK := Z5 3) (M := Zl o0 L1 n2 n3 a4 O0 N) (cd := 0) (cm := 1) (y := (.h3m1 (v2) (v3) (v5) (v6) (y0_0) (y0_1) (y1_0) (y1_1) : Zo)) (fu := 4000) (orc := (Zi [] [] [] [] [(0, (Zg2 (o0) (L1) (v2) (v3) (a4) O0 y0_0 y0_1 0 2)), (1, (Zg4 (o0) (L1) (v2) (v3) (a4) O0 y1_0 y1_1 0 2))])) (live := [0, 1]) (tv := fun _ => [some (vs 0 o0 v2 v3), some (vn), some (vi v5), some (vs 1 0 v6.length v6.length), some (v0), some (vi y0_0), some (vi y0_1), some (vi y1_0), some (vi y1_1)]) (bl := [some (.ro O0), some (.cells (Zb eI v6) 3)]) (ob := [(dP (Zft #[vs 0 o0 v2 v3, vi a4] (o0) (L1) (v2) (v3) (a4) O0 y1_0 y1_1 0 2), true), (dS O0, true), (dP (Zfs #[vs 0 o0 v2 v3, vi a4] (o0) (L1) (v2) (v3) (a4) O0 y0_0 y0_1 0 2), true), (dS O0, true)]) rfl rfl (show ∀ j ∈ Zx (Z5 3).2, j ∈ Zx (Zce 2) from by decide +kernel) (fun gv => by kernel_rfl) (Za (Zf (Zg5 #[vs 0 o0 v2 v3, vi a4] (o0) (L1) (v2) (v3) (a4) O0 F0 y1_0 y1_1 N c1 0 2 rfl (by decide) (by decide))) <| oR <| Za (Zf (Zg3 #[vs 0 o0 v2 v3, vi a4] (o0) (L1) (v2) (v3) (a4) O0 F0 y0_0 y0_1 N c0 0 2 rfl (by decide) (by decide))) <| oR Zd) rfl (by decide) (by rfl) (fun _ => ⟨rr, ⟨rr, ⟨rr, ⟨rr, ⟨rr, ⟨rr, ⟨rr, ⟨rr, ⟨rr, trivial⟩⟩⟩⟩⟩⟩⟩⟩⟩) ⟨rfl, ⟨(Zg (E := eI) (α := Int) _ v6 _), trivial⟩⟩

theorem ZkL (o0 : Nat) (L1 : List R_iiii) (n2 n3 : Nat) (a4 : Int) (O0 : Obj) (F0 : Zs O0 o0 L1) (v2 v3 : Nat) (v5 : List Int) (v7 : Int) (N : Nat) : (Zl o0 L1 n2 n3 a4 O0 N).Ok Try.prog Zr (.h2m2 v2 v3 v5 v7 : Zo) (Zax L1 n2 n3 a4 N (.h2m2 v2 v3 v5 v7 : Zo)) := by
 show (Zl o0 L1 n2 n3 a4 O0 N).Ok Try.prog Zr (.h2m2 v2 v3 v5 v7 : Zo) (Zfh L1 n2 n3 a4 N v2 v3 v5 v7)
 unfold Zfh
 refine Mach.ok_bind (fun z0 c0 => ?_)
 cases z0 with
 | r0 y0_0 y0_1 =>
  refine Mach.ok_bind (fun z1 c1 => ?_)
  cases z1 with
  | r0 y1_0 y1_1 =>
   exact Mach.ok_cut (bK := Z5 3) (M := Zl o0 L1 n2 n3 a4 O0 N) (cd := 0) (cm := 1) (y := (.h3m2 (v2) (v3) (v5) (v7) (y0_0) (y0_1) (y1_0) (y1_1) : Zo)) (fu := 4000) (orc := (Zi [] [] [] [] [(0, (Zg2 (o0) (L1) (v2) (v3) (a4) O0 y0_0 y0_1 0 2)), (1, (Zg4 (o0) (L1) (v2) (v3) (a4) O0 y1_0 y1_1 0 2))])) (live := [0, 1]) (tv := fun _ => [some (vs 0 o0 v2 v3), some (vs 1 0 v5.length v5.length), some (v0), some (vn), some (vi v7), some (vi y0_0), some (vi y0_1), some (vi y1_0), some (vi y1_1)]) (bl := [some (.ro O0), some (.cells (Zb eI v5) 3)]) (ob := [(dP (Zft #[vs 0 o0 v2 v3, vi a4] (o0) (L1) (v2) (v3) (a4) O0 y1_0 y1_1 0 2), true), (dS O0, true), (dP (Zfs #[vs 0 o0 v2 v3, vi a4] (o0) (L1) (v2) (v3) (a4) O0 y0_0 y0_1 0 2), true), (dS O0, true)]) rfl rfl (show ∀ j ∈ Zx (Z5 3).2, j ∈ Zx (Zce 2) from by decide +kernel) (fun gv => by kernel_rfl) (Za (Zf (Zg5 #[vs 0 o0 v2 v3, vi a4] (o0) (L1) (v2) (v3) (a4) O0 F0 y1_0 y1_1 N c1 0 2 rfl (by decide) (by decide))) <| oR <| Za (Zf (Zg3 #[vs 0 o0 v2 v3, vi a4] (o0) (L1) (v2) (v3) (a4) O0 F0 y0_0 y0_1 N c0 0 2 rfl (by decide) (by decide))) <| oR Zd) rfl (by decide) (by rfl) (fun _ => ⟨rr, ⟨rr, ⟨rr, ⟨rr, ⟨rr, ⟨rr, ⟨rr, ⟨rr, ⟨rr, trivial⟩⟩⟩⟩⟩⟩⟩⟩⟩) ⟨rfl, ⟨(Zg (E := eI) (α := Int) _ v5 _), trivial⟩⟩

theorem ZkM (o0 : Nat) (L1 : List R_iiii) (n2 n3 : Nat) (a4 : Int) (O0 : Obj) (F0 : Zs O0 o0 L1) (v2 v3 : Nat) (v5 v7 : List Int) (N : Nat) : (Zl o0 L1 n2 n3 a4 O0 N).Ok Try.prog Zr (.h2m3 v2 v3 v5 v7 : Zo) (Zax L1 n2 n3 a4 N (.h2m3 v2 v3 v5 v7 : Zo)) := by
 show (Zl o0 L1 n2 n3 a4 O0 N).Ok Try.prog Zr (.h2m3 v2 v3 v5 v7 : Zo) (Zfi L1 n2 n3 a4 N v2 v3 v5 v7)
 unfold Zfi
 refine Mach.ok_bind (fun z0 c0 => ?_)
 cases z0 with
 | r0 y0_0 y0_1 =>
  refine Mach.ok_bind (fun z1 c1 => ?_)
  cases z1 with
  | r0 y1_0 y1_1 =>
   exact Mach.ok_cut (bK := Z5 3) (M := Zl o0 L1 n2 n3 a4 O0 N) (cd := 0) (cm := 1) (y := (.h3m3 (v2) (v3) (v5) (v7) (y0_0) (y0_1) (y1_0) (y1_1) : Zo)) (fu := 4000) (orc := (Zi [] [] [] [] [(0, (Zg2 (o0) (L1) (v2) (v3) (a4) O0 y0_0 y0_1 0 3)), (1, (Zg4 (o0) (L1) (v2) (v3) (a4) O0 y1_0 y1_1 0 3))])) (live := [0, 1, 2]) (tv := fun _ => [some (vs 0 o0 v2 v3), some (vs 1 0 v5.length v5.length), some (v0), some (vs 2 0 v7.length v7.length), some (v0), some (vi y0_0), some (vi y0_1), some (vi y1_0), some (vi y1_1)]) (bl := [some (.ro O0), some (.cells (Zb eI v5) 3), some (.cells (Zb eI v7) 3)]) (ob := [(dP (Zft #[vs 0 o0 v2 v3, vi a4] (o0) (L1) (v2) (v3) (a4) O0 y1_0 y1_1 0 3), true), (dS O0, true), (dP (Zfs #[vs 0 o0 v2 v3, vi a4] (o0) (L1) (v2) (v3) (a4) O0 y0_0 y0_1 0 3), true), (dS O0, true)]) rfl rfl (show ∀ j ∈ Zx (Z5 3).2, j ∈ Zx (Zce 2) from by decide +kernel) (fun gv => by kernel_rfl) (Za (Zf (Zg5 #[vs 0 o0 v2 v3, vi a4] (o0) (L1) (v2) (v3) (a4) O0 F0 y1_0 y1_1 N c1 0 3 rfl (by decide) (by decide))) <| oR <| Za (Zf (Zg3 #[vs 0 o0 v2 v3, vi a4] (o0) (L1) (v2) (v3) (a4) O0 F0 y0_0 y0_1 N c0 0 3 rfl (by decide) (by decide))) <| oR Zd) rfl (by decide) (by rfl) (fun _ => ⟨rr, ⟨rr, ⟨rr, ⟨rr, ⟨rr, ⟨rr, ⟨rr, ⟨rr, ⟨rr, trivial⟩⟩⟩⟩⟩⟩⟩⟩⟩) ⟨rfl, ⟨(Zg (E := eI) (α := Int) _ v5 _), ⟨(Zg (E := eI) (α := Int) _ v7 _), trivial⟩⟩⟩

theorem ZkN (o0 : Nat) (L1 : List R_iiii) (n2 n3 : Nat) (a4 : Int) (O0 : Obj) (F0 : Zs O0 o0 L1) (v2 v3 : Nat) (v4 v5 v6 v7 v8 v9 : Int) (N : Nat) : (Zl o0 L1 n2 n3 a4 O0 N).Ok Try.prog Zr (.h3m0 v2 v3 v4 v5 v6 v7 v8 v9 : Zo) (Zax L1 n2 n3 a4 N (.h3m0 v2 v3 v4 v5 v6 v7 v8 v9 : Zo)) := by
 show (Zl o0 L1 n2 n3 a4 O0 N).Ok Try.prog Zr (.h3m0 v2 v3 v4 v5 v6 v7 v8 v9 : Zo) (Zdd L1 n2 n3 a4 N v2 v3 v4 v5 v6 v7 v8 v9)
 unfold Zdd
 refine Mach.ok_bind (fun z0 c0 => ?_)
 cases z0 with
 | r0 =>
  refine Mach.ok_ite (fun g1 => ?_) (fun g1 => ?_)
  ·
   refine Mach.ok_ite (fun g2 => ?_) (fun g2 => ?_)
   ·
    refine Mach.ok_ite (fun g3 => ?_) (fun g3 => ?_)
    ·
     refine Mach.ok_bind (fun z4 c4 => ?_)
     cases z4 with
     | r0 y4_0 =>
      refine Mach.ok_bind (fun z5 c5 => ?_)
      cases z5 with
      | r0 y5_0 =>
       refine Mach.ok_ite (fun g6 => ?_) (fun g6 => ?_)
       ·
        refine Mach.ok_bind (fun z7 c7 => ?_)
        cases z7 with
        | r0 =>
         refine Mach.ok_bind (fun z8 c8 => ?_)
         cases z8 with
         | r0 =>
          refine Mach.ok_bind (fun z9 c9 => ?_)
          cases z9 with
          | r0 =>
           exact Mach.ok_fin (M := Zl o0 L1 n2 n3 a4 O0 N) (cd := 1000000) (cm := 0) (r := (.r0 (true) : Zh)) (fu := 4000) (orc := (Zi [(0, true), (1, true), (2, true), (3, true)] [] [] [] [(0, (Za1     1)), (1, (ZO (o0) (L1) (v2) (v3) O0 y4_0 0 1)), (2, (ZQ (o0) (L1) (v2) (v3) O0 y5_0 0 1)), (3, (Zb1 (o0) (L1) (v2) (v3) O0  0 1)), (4, (Zb3 (o0) (L1) (v2) (v3) O0  0 1)), (5, (Za1     1))])) (live := [0]) (u := vT) (bl := [some (.ro O0)]) (ob := [(dP (Zaw #[vn, vn]     1), true), (dP (Zbr #[vs 0 o0 v2 v3] (o0) (L1) (v2) (v3) O0  0 1), true), (dS O0, true), (dP (Zbq #[vs 0 o0 v2 v3] (o0) (L1) (v2) (v3) O0  0 1), true), (dS O0, true), ((y4_0 == y5_0), true), (dP (ZM #[vs 0 o0 v2 v3] (o0) (L1) (v2) (v3) O0 y5_0 0 1), true), (dS O0, true), (dP (ZL #[vs 0 o0 v2 v3] (o0) (L1) (v2) (v3) O0 y4_0 0 1), true), (dS O0, true), ((v7 == v9), true), ((v6 == v8), true), ((v4 == v5), true), (dP (Zaw #[vn, vn]     1), true)]) (fun gv => by kernel_rfl) (Za (Zf (Za2 #[vn, vn]    N c9  1 rfl (by decide) (by decide))) <| Za (Zf (Zb4 #[vs 0 o0 v2 v3] (o0) (L1) (v2) (v3) O0 F0  N c8 0 1 rfl (by decide) (by decide))) <| oR <| Za (Zf (Zb2 #[vs 0 o0 v2 v3] (o0) (L1) (v2) (v3) O0 F0  N c7 0 1 rfl (by decide) (by decide))) <| oR <| oT <| Za (Zf (ZR #[vs 0 o0 v2 v3] (o0) (L1) (v2) (v3) O0 F0 y5_0 N c5 0 1 rfl (by decide) (by decide))) <| oR <| Za (Zf (ZP #[vs 0 o0 v2 v3] (o0) (L1) (v2) (v3) O0 F0 y4_0 N c4 0 1 rfl (by decide) (by decide))) <| oR <| oT <| oT <| oT <| Za (Zf (Za2 #[vn, vn]    N c0  1 rfl (by decide) (by decide))) Zd) rfl (by decide) (by rfl) rr ⟨rfl, trivial⟩
         | r1 y8_0 =>
          refine Mach.ok_bind (fun z9 c9 => ?_)
          cases z9 with
          | r0 y9_0 =>
           refine Mach.ok_ite (fun g10 => ?_) (fun g10 => ?_)
           ·
            subst g10
            exact Mach.ok_fin (M := Zl o0 L1 n2 n3 a4 O0 N) (cd := 1000000) (cm := 0) (r := (.r0 (true) : Zh)) (fu := 4000) (orc := (Zi [(0, true), (1, true), (2, true), (3, true)] [] [] [] [(0, (Za1     1)), (1, (ZO (o0) (L1) (v2) (v3) O0 y4_0 0 1)), (2, (ZQ (o0) (L1) (v2) (v3) O0 y5_0 0 1)), (3, (Zb1 (o0) (L1) (v2) (v3) O0  0 1)), (4, (ZaU (o0) (L1) (v2) (v3) O0 y8_0 0 1)), (5, (Zaf (y8_0)  true 1 2))])) (live := [0]) (u := vT) (bl := [some (.ro O0)]) (ob := [(dP (ZX #[vn, vs 1 0 y8_0.length y8_0.length] (y8_0)  true 1 2), true), (dS (Zb eI y8_0), true), (dP (ZaK #[vs 0 o0 v2 v3] (o0) (L1) (v2) (v3) O0 y8_0 0 1), true), (dS O0, true), (dP (Zbq #[vs 0 o0 v2 v3] (o0) (L1) (v2) (v3) O0  0 1), true), (dS O0, true), ((y4_0 == y5_0), true), (dP (ZM #[vs 0 o0 v2 v3] (o0) (L1) (v2) (v3) O0 y5_0 0 1), true), (dS O0, true), (dP (ZL #[vs 0 o0 v2 v3] (o0) (L1) (v2) (v3) O0 y4_0 0 1), true), (dS O0, true), ((v7 == v9), true), ((v6 == v8), true), ((v4 == v5), true), (dP (Zaw #[vn, vn]     1), true)]) (fun gv => by kernel_rfl) (Za (Zf (Zag #[vn, vs 1 0 y8_0.length y8_0.length] (y8_0)  true N c9 1 2 rfl (by decide) (by decide))) <| oR <| Za (Zf (ZaV #[vs 0 o0 v2 v3] (o0) (L1) (v2) (v3) O0 F0 y8_0 N c8 0 1 rfl (by decide) (by decide))) <| oR <| Za (Zf (Zb2 #[vs 0 o0 v2 v3] (o0) (L1) (v2) (v3) O0 F0  N c7 0 1 rfl (by decide) (by decide))) <| oR <| oT <| Za (Zf (ZR #[vs 0 o0 v2 v3] (o0) (L1) (v2) (v3) O0 F0 y5_0 N c5 0 1 rfl (by decide) (by decide))) <| oR <| Za (Zf (ZP #[vs 0 o0 v2 v3] (o0) (L1) (v2) (v3) O0 F0 y4_0 N c4 0 1 rfl (by decide) (by decide))) <| oR <| oT <| oT <| oT <| Za (Zf (Za2 #[vn, vn]    N c0  1 rfl (by decide) (by decide))) Zd) rfl (by decide) (by rfl) rr ⟨rfl, trivial⟩
           ·
            obtain rfl : y9_0 = false := by simpa using g10
            exact Mach.ok_fin (M := Zl o0 L1 n2 n3 a4 O0 N) (cd := 1000000) (cm := 0) (r := (.r0 (false) : Zh)) (fu := 4000) (orc := (Zi [(0, true), (1, true), (2, true), (3, true)] [] [] [] [(0, (Za1     1)), (1, (ZO (o0) (L1) (v2) (v3) O0 y4_0 0 1)), (2, (ZQ (o0) (L1) (v2) (v3) O0 y5_0 0 1)), (3, (Zb1 (o0) (L1) (v2) (v3) O0  0 1)), (4, (ZaU (o0) (L1) (v2) (v3) O0 y8_0 0 1)), (5, (Zaf (y8_0)  false 1 2))])) (live := [0]) (u := vf) (bl := [some (.ro O0)]) (ob := [(dP (ZX #[vn, vs 1 0 y8_0.length y8_0.length] (y8_0)  false 1 2), true), (dS (Zb eI y8_0), true), (dP (ZaK #[vs 0 o0 v2 v3] (o0) (L1) (v2) (v3) O0 y8_0 0 1), true), (dS O0, true), (dP (Zbq #[vs 0 o0 v2 v3] (o0) (L1) (v2) (v3) O0  0 1), true), (dS O0, true), ((y4_0 == y5_0), true), (dP (ZM #[vs 0 o0 v2 v3] (o0) (L1) (v2) (v3) O0 y5_0 0 1), true), (dS O0, true), (dP (ZL #[vs 0 o0 v2 v3] (o0) (L1) (v2) (v3) O0 y4_0 0 1), true), (dS O0, true), ((v7 == v9), true), ((v6 == v8), true), ((v4 == v5), true), (dP (Zaw #[vn, vn]     1), true)]) (fun gv => by kernel_rfl) (Za (Zf (Zag #[vn, vs 1 0 y8_0.length y8_0.length] (y8_0)  false N c9 1 2 rfl (by decide) (by decide))) <| oR <| Za (Zf (ZaV #[vs 0 o0 v2 v3] (o0) (L1) (v2) (v3) O0 F0 y8_0 N c8 0 1 rfl (by decide) (by decide))) <| oR <| Za (Zf (Zb2 #[vs 0 o0 v2 v3] (o0) (L1) (v2) (v3) O0 F0  N c7 0 1 rfl (by decide) (by decide))) <| oR <| oT <| Za (Zf (ZR #[vs 0 o0 v2 v3] (o0) (L1) (v2) (v3) O0 F0 y5_0 N c5 0 1 rfl (by decide) (by decide))) <| oR <| Za (Zf (ZP #[vs 0 o0 v2 v3] (o0) (L1) (v2) (v3) O0 F0 y4_0 N c4 0 1 rfl (by decide) (by decide))) <| oR <| oT <| oT <| oT <| Za (Zf (Za2 #[vn, vn]    N c0  1 rfl (by decide) (by decide))) Zd) rfl (by decide) (by rfl) rr ⟨rfl, trivial⟩
        | r1 y7_0 =>
         refine Mach.ok_bind (fun z8 c8 => ?_)
         cases z8 with
         | r0 =>
          refine Mach.ok_bind (fun z9 c9 => ?_)
          cases z9 with
          | r0 y9_0 =>
           refine Mach.ok_ite (fun g10 => ?_) (fun g10 => ?_)
           ·
            subst g10
            exact Mach.ok_fin (M := Zl o0 L1 n2 n3 a4 O0 N) (cd := 1000000) (cm := 0) (r := (.r0 (true) : Zh)) (fu := 4000) (orc := (Zi [(0, true), (1, true), (2, true), (3, true)] [] [] [] [(0, (Za1     1)), (1, (ZO (o0) (L1) (v2) (v3) O0 y4_0 0 1)), (2, (ZQ (o0) (L1) (v2) (v3) O0 y5_0 0 1)), (3, (ZaS (o0) (L1) (v2) (v3) O0 y7_0 0 1)), (4, (Zb3 (o0) (L1) (v2) (v3) O0  0 2)), (5, (Zah (y7_0)  true 1 2))])) (live := [0]) (u := vT) (bl := [some (.ro O0)]) (ob := [(dP (ZY #[vs 1 0 y7_0.length y7_0.length, vn] (y7_0)  true 1 2), true), (dS (Zb eI y7_0), true), (dP (Zbr #[vs 0 o0 v2 v3] (o0) (L1) (v2) (v3) O0  0 2), true), (dS O0, true), (dP (ZaJ #[vs 0 o0 v2 v3] (o0) (L1) (v2) (v3) O0 y7_0 0 1), true), (dS O0, true), ((y4_0 == y5_0), true), (dP (ZM #[vs 0 o0 v2 v3] (o0) (L1) (v2) (v3) O0 y5_0 0 1), true), (dS O0, true), (dP (ZL #[vs 0 o0 v2 v3] (o0) (L1) (v2) (v3) O0 y4_0 0 1), true), (dS O0, true), ((v7 == v9), true), ((v6 == v8), true), ((v4 == v5), true), (dP (Zaw #[vn, vn]     1), true)]) (fun gv => by kernel_rfl) (Za (Zf (Zai #[vs 1 0 y7_0.length y7_0.length, vn] (y7_0)  true N c9 1 2 rfl (by decide) (by decide))) <| oR <| Za (Zf (Zb4 #[vs 0 o0 v2 v3] (o0) (L1) (v2) (v3) O0 F0  N c8 0 2 rfl (by decide) (by decide))) <| oR <| Za (Zf (ZaT #[vs 0 o0 v2 v3] (o0) (L1) (v2) (v3) O0 F0 y7_0 N c7 0 1 rfl (by decide) (by decide))) <| oR <| oT <| Za (Zf (ZR #[vs 0 o0 v2 v3] (o0) (L1) (v2) (v3) O0 F0 y5_0 N c5 0 1 rfl (by decide) (by decide))) <| oR <| Za (Zf (ZP #[vs 0 o0 v2 v3] (o0) (L1) (v2) (v3) O0 F0 y4_0 N c4 0 1 rfl (by decide) (by decide))) <| oR <| oT <| oT <| oT <| Za (Zf (Za2 #[vn, vn]    N c0  1 rfl (by decide) (by decide))) Zd) rfl (by decide) (by rfl) rr ⟨rfl, trivial⟩
           ·
            obtain rfl : y9_0 = false := by simpa using g10
            exact Mach.ok_fin (M := Zl o0 L1 n2 n3 a4 O0 N) (cd := 1000000) (cm := 0) (r := (.r0 (false) : Zh)) (fu := 4000) (orc := (Zi [(0, true), (1, true), (2, true), (3, true)] [] [] [] [(0, (Za1     1)), (1, (ZO (o0) (L1) (v2) (v3) O0 y4_0 0 1)), (2, (ZQ (o0) (L1) (v2) (v3) O0 y5_0 0 1)), (3, (ZaS (o0) (L1) (v2) (v3) O0 y7_0 0 1)), (4, (Zb3 (o0) (L1) (v2) (v3) O0  0 2)), (5, (Zah (y7_0)  false 1 2))])) (live := [0]) (u := vf) (bl := [some (.ro O0)]) (ob := [(dP (ZY #[vs 1 0 y7_0.length y7_0.length, vn] (y7_0)  false 1 2), true), (dS (Zb eI y7_0), true), (dP (Zbr #[vs 0 o0 v2 v3] (o0) (L1) (v2) (v3) O0  0 2), true), (dS O0, true), (dP (ZaJ #[vs 0 o0 v2 v3] (o0) (L1) (v2) (v3) O0 y7_0 0 1), true), (dS O0, true), ((y4_0 == y5_0), true), (dP (ZM #[vs 0 o0 v2 v3] (o0) (L1) (v2) (v3) O0 y5_0 0 1), true), (dS O0, true), (dP (ZL #[vs 0 o0 v2 v3] (o0) (L1) (v2) (v3) O0 y4_0 0 1), true), (dS O0, true), ((v7 == v9), true), ((v6 == v8), true), ((v4 == v5), true), (dP (Zaw #[vn, vn]     1), true)]) (fun gv => by kernel_rfl) (Za (Zf (Zai #[vs 1 0 y7_0.length y7_0.length, vn] (y7_0)  false N c9 1 2 rfl (by decide) (by decide))) <| oR <| Za (Zf (Zb4 #[vs 0 o0 v2 v3] (o0) (L1) (v2) (v3) O0 F0  N c8 0 2 rfl (by decide) (by decide))) <| oR <| Za (Zf (ZaT #[vs 0 o0 v2 v3] (o0) (L1) (v2) (v3) O0 F0 y7_0 N c7 0 1 rfl (by decide) (by decide))) <| oR <| oT <| Za (Zf (ZR #[vs 0 o0 v2 v3] (o0) (L1) (v2) (v3) O0 F0 y5_0 N c5 0 1 rfl (by decide) (by decide))) <| oR <| Za (Zf (ZP #[vs 0 o0 v2 v3] (o0) (L1) (v2) (v3) O0 F0 y4_0 N c4 0 1 rfl (by decide) (by decide))) <| oR <| oT <| oT <| oT <| Za (Zf (Za2 #[vn, vn]    N c0  1 rfl (by decide) (by decide))) Zd) rfl (by decide) (by rfl) rr ⟨rfl, trivial⟩
         | r1 y8_0 =>
          refine Mach.ok_bind (fun z9 c9 => ?_)
          cases z9 with
          | r0 y9_0 =>
           refine Mach.ok_ite (fun g10 => ?_) (fun g10 => ?_)
           ·
            subst g10
            exact Mach.ok_fin (M := Zl o0 L1 n2 n3 a4 O0 N) (cd := 1000000) (cm := 0) (r := (.r0 (true) : Zh)) (fu := 4000) (orc := (Zi [(0, true), (1, true), (2, true), (3, true)] [] [] [] [(0, (Za1     1)), (1, (ZO (o0) (L1) (v2) (v3) O0 y4_0 0 1)), (2, (ZQ (o0) (L1) (v2) (v3) O0 y5_0 0 1)), (3, (ZaS (o0) (L1) (v2) (v3) O0 y7_0 0 1)), (4, (ZaU (o0) (L1) (v2) (v3) O0 y8_0 0 2)), (5, (Zal (y7_0) (y8_0)  true 1 2 3))])) (live := [0]) (u := vT) (bl := [some (.ro O0)]) (ob := [(dP (Zaj #[vs 1 0 y7_0.length y7_0.length, vs 2 0 y8_0.length y8_0.length] (y7_0) (y8_0)  true 1 2 3), true), (dS (Zb eI y7_0), true), (dS (Zb eI y8_0), true), (dP (ZaK #[vs 0 o0 v2 v3] (o0) (L1) (v2) (v3) O0 y8_0 0 2), true), (dS O0, true), (dP (ZaJ #[vs 0 o0 v2 v3] (o0) (L1) (v2) (v3) O0 y7_0 0 1), true), (dS O0, true), ((y4_0 == y5_0), true), (dP (ZM #[vs 0 o0 v2 v3] (o0) (L1) (v2) (v3) O0 y5_0 0 1), true), (dS O0, true), (dP (ZL #[vs 0 o0 v2 v3] (o0) (L1) (v2) (v3) O0 y4_0 0 1), true), (dS O0, true), ((v7 == v9), true), ((v6 == v8), true), ((v4 == v5), true), (dP (Zaw #[vn, vn]     1), true)]) (fun gv => by kernel_rfl) (Za (Zf (Zam #[vs 1 0 y7_0.length y7_0.length, vs 2 0 y8_0.length y8_0.length] (y7_0) (y8_0)  true N c9 1 2 3 rfl (by decide) (by decide))) <| oR <| oR <| Za (Zf (ZaV #[vs 0 o0 v2 v3] (o0) (L1) (v2) (v3) O0 F0 y8_0 N c8 0 2 rfl (by decide) (by decide))) <| oR <| Za (Zf (ZaT #[vs 0 o0 v2 v3] (o0) (L1) (v2) (v3) O0 F0 y7_0 N c7 0 1 rfl (by decide) (by decide))) <| oR <| oT <| Za (Zf (ZR #[vs 0 o0 v2 v3] (o0) (L1) (v2) (v3) O0 F0 y5_0 N c5 0 1 rfl (by decide) (by decide))) <| oR <| Za (Zf (ZP #[vs 0 o0 v2 v3] (o0) (L1) (v2) (v3) O0 F0 y4_0 N c4 0 1 rfl (by decide) (by decide))) <| oR <| oT <| oT <| oT <| Za (Zf (Za2 #[vn, vn]    N c0  1 rfl (by decide) (by decide))) Zd) rfl (by decide) (by rfl) rr ⟨rfl, trivial⟩
           ·
            obtain rfl : y9_0 = false := by simpa using g10
            exact Mach.ok_fin (M := Zl o0 L1 n2 n3 a4 O0 N) (cd := 1000000) (cm := 0) (r := (.r0 (false) : Zh)) (fu := 4000) (orc := (Zi [(0, true), (1, true), (2, true), (3, true)] [] [] [] [(0, (Za1     1)), (1, (ZO (o0) (L1) (v2) (v3) O0 y4_0 0 1)), (2, (ZQ (o0) (L1) (v2) (v3) O0 y5_0 0 1)), (3, (ZaS (o0) (L1) (v2) (v3) O0 y7_0 0 1)), (4, (ZaU (o0) (L1) (v2) (v3) O0 y8_0 0 2)), (5, (Zal (y7_0) (y8_0)  false 1 2 3))])) (live := [0]) (u := vf) (bl := [some (.ro O0)]) (ob := [(dP (Zaj #[vs 1 0 y7_0.length y7_0.length, vs 2 0 y8_0.length y8_0.length] (y7_0) (y8_0)  false 1 2 3), true), (dS (Zb eI y7_0), true), (dS (Zb eI y8_0), true), (dP (ZaK #[vs 0 o0 v2 v3] (o0) (L1) (v2) (v3) O0 y8_0 0 2), true), (dS O0, true), (dP (ZaJ #[vs 0 o0 v2 v3] (o0) (L1) (v2) (v3) O0 y7_0 0 1), true), (dS O0, true), ((y4_0 == y5_0), true), (dP (ZM #[vs 0 o0 v2 v3] (o0) (L1) (v2) (v3) O0 y5_0 0 1), true), (dS O0, true), (dP (ZL #[vs 0 o0 v2 v3] (o0) (L1) (v2) (v3) O0 y4_0 0 1), true), (dS O0, true), ((v7 == v9), true), ((v6 == v8), true), ((v4 == v5), true), (dP (Zaw #[vn, vn]     1), true)]) (fun gv => by kernel_rfl) (Za (Zf (Zam #[vs 1 0 y7_0.length y7_0.length, vs 2 0 y8_0.length y8_0.length] (y7_0) (y8_0)  false N c9 1 2 3 rfl (by decide) (by decide))) <| oR <| oR <| Za (Zf (ZaV #[vs 0 o0 v2 v3] (o0) (L1) (v2) (v3) O0 F0 y8_0 N c8 0 2 rfl (by decide) (by decide))) <| oR <| Za (Zf (ZaT #[vs 0 o0 v2 v3] (o0) (L1) (v2) (v3) O0 F0 y7_0 N c7 0 1 rfl (by decide) (by decide))) <| oR <| oT <| Za (Zf (ZR #[vs 0 o0 v2 v3] (o0) (L1) (v2) (v3) O0 F0 y5_0 N c5 0 1 rfl (by decide) (by decide))) <| oR <| Za (Zf (ZP #[vs 0 o0 v2 v3] (o0) (L1) (v2) (v3) O0 F0 y4_0 N c4 0 1 rfl (by decide) (by decide))) <| oR <| oT <| oT <| oT <| Za (Zf (Za2 #[vn, vn]    N c0  1 rfl (by decide) (by decide))) Zd) rfl (by decide) (by rfl) rr ⟨rfl, trivial⟩
       ·
        exact Mach.ok_fin (M := Zl o0 L1 n2 n3 a4 O0 N) (cd := 1000000) (cm := 0) (r := (.r0 (false) : Zh)) (fu := 4000) (orc := (Zi [(0, true), (1, true), (2, true), (3, false)] [] [] [] [(0, (Za1     1)), (1, (ZO (o0) (L1) (v2) (v3) O0 y4_0 0 1)), (2, (ZQ (o0) (L1) (v2) (v3) O0 y5_0 0 1))])) (live := [0]) (u := vf) (bl := [some (.ro O0)]) (ob := [((y4_0 == y5_0), false), (dP (ZM #[vs 0 o0 v2 v3] (o0) (L1) (v2) (v3) O0 y5_0 0 1), true), (dS O0, true), (dP (ZL #[vs 0 o0 v2 v3] (o0) (L1) (v2) (v3) O0 y4_0 0 1), true), (dS O0, true), ((v7 == v9), true), ((v6 == v8), true), ((v4 == v5), true), (dP (Zaw #[vn, vn]     1), true)]) (fun gv => by kernel_rfl) (oF <| Za (Zf (ZR #[vs 0 o0 v2 v3] (o0) (L1) (v2) (v3) O0 F0 y5_0 N c5 0 1 rfl (by decide) (by decide))) <| oR <| Za (Zf (ZP #[vs 0 o0 v2 v3] (o0) (L1) (v2) (v3) O0 F0 y4_0 N c4 0 1 rfl (by decide) (by decide))) <| oR <| oT <| oT <| oT <| Za (Zf (Za2 #[vn, vn]    N c0  1 rfl (by decide) (by decide))) Zd) rfl (by decide) (by rfl) rr ⟨rfl, trivial⟩
    ·
     exact Mach.ok_fin (M := Zl o0 L1 n2 n3 a4 O0 N) (cd := 1000000) (cm := 0) (r := (.r0 (false) : Zh)) (fu := 4000) (orc := (Zi [(0, true), (1, true), (2, false)] [] [] [] [(0, (Za1     1))])) (live := [0]) (u := vf) (bl := [some (.ro O0)]) (ob := [((v7 == v9), false), ((v6 == v8), true), ((v4 == v5), true), (dP (Zaw #[vn, vn]     1), true)]) (fun gv => by kernel_rfl) (oF <| oT <| oT <| Za (Zf (Za2 #[vn, vn]    N c0  1 rfl (by decide) (by decide))) Zd) rfl (by decide) (by rfl) rr ⟨rfl, trivial⟩
   ·
    exact Mach.ok_fin (M := Zl o0 L1 n2 n3 a4 O0 N) (cd := 1000000) (cm := 0) (r := (.r0 (false) : Zh)) (fu := 4000) (orc := (Zi [(0, true), (1, false)] [] [] [] [(0, (Za1     1))])) (live := [0]) (u := vf) (bl := [some (.ro O0)]) (ob := [((v6 == v8), false), ((v4 == v5), true), (dP (Zaw #[vn, vn]     1), true)]) (fun gv => by kernel_rfl) (oF <| oT <| Za (Zf (Za2 #[vn, vn]    N c0  1 rfl (by decide) (by decide))) Zd) rfl (by decide) (by rfl) rr ⟨rfl, trivial⟩
  ·
   exact Mach.ok_fin (M := Zl o0 L1 n2 n3 a4 O0 N) (cd := 1000000) (cm := 0) (r := (.r0 (false) : Zh)) (fu := 4000) (orc := (Zi [(0, false)] [] [] [] [(0, (Za1     1))])) (live := [0]) (u := vf) (bl := [some (.ro O0)]) (ob := [((v4 == v5), false), (dP (Zaw #[vn, vn]     1), true)]) (fun gv => by kernel_rfl) (oF <| Za (Zf (Za2 #[vn, vn]    N c0  1 rfl (by decide) (by decide))) Zd) rfl (by decide) (by rfl) rr ⟨rfl, trivial⟩

theorem ZkO (o0 : Nat) (L1 : List R_iiii) (n2 n3 : Nat) (a4 : Int) (O0 : Obj) (F0 : Zs O0 o0 L1) (v2 v3 : Nat) (v4 : Int) (v5 : List Int) (v7 v8 v9 v10 : Int) (N : Nat) : (Zl o0 L1 n2 n3 a4 O0 N).Ok Try.prog Zr (.h3m1 v2 v3 v4 v5 v7 v8 v9 v10 : Zo) (Zax L1 n2 n3 a4 N (.h3m1 v2 v3 v4 v5 v7 v8 v9 v10 : Zo)) := by
 show (Zl o0 L1 n2 n3 a4 O0 N).Ok Try.prog Zr (.h3m1 v2 v3 v4 v5 v7 v8 v9 v10 : Zo) (Zfj L1 n2 n3 a4 N v2 v3 v4 v5 v7 v8 v9 v10)
 unfold Zfj
 refine Mach.ok_bind (fun z0 c0 => ?_)
 cases z0 with
 | r0 y0_0 =>
  refine Mach.ok_ite (fun g1 => ?_) (fun g1 => ?_)
  ·
   subst g1
   refine Mach.ok_ite (fun g2 => ?_) (fun g2 => ?_)
   ·
    refine Mach.ok_ite (fun g3 => ?_) (fun g3 => ?_)
    ·
     refine Mach.ok_ite (fun g4 => ?_) (fun g4 => ?_)
     ·
      refine Mach.ok_bind (fun z5 c5 => ?_)
      cases z5 with
      | r0 y5_0 =>
       refine Mach.ok_bind (fun z6 c6 => ?_)
       cases z6 with
       | r0 y6_0 =>
        refine Mach.ok_ite (fun g7 => ?_) (fun g7 => ?_)
        ·
         refine Mach.ok_bind (fun z8 c8 => ?_)
         cases z8 with
         | r0 =>
          refine Mach.ok_bind (fun z9 c9 => ?_)
          cases z9 with
          | r0 =>
           refine Mach.ok_bind (fun z10 c10 => ?_)
           cases z10 with
           | r0 =>
            exact Mach.ok_fin (M := Zl o0 L1 n2 n3 a4 O0 N) (cd := 1000000) (cm := 0) (r := (.r0 (true) : Zh)) (fu := 4000) (orc := (Zi [(0, true), (1, true), (2, true), (3, true)] [] [] [] [(0, (Zaf (v5)  true 1 2)), (1, (ZO (o0) (L1) (v2) (v3) O0 y5_0 0 2)), (2, (ZQ (o0) (L1) (v2) (v3) O0 y6_0 0 2)), (3, (Zb1 (o0) (L1) (v2) (v3) O0  0 2)), (4, (Zb3 (o0) (L1) (v2) (v3) O0  0 2)), (5, (Za1     2))])) (live := [0]) (u := vT) (bl := [some (.ro O0)]) (ob := [(dP (Zaw #[vn, vn]     2), true), (dP (Zbr #[vs 0 o0 v2 v3] (o0) (L1) (v2) (v3) O0  0 2), true), (dS O0, true), (dP (Zbq #[vs 0 o0 v2 v3] (o0) (L1) (v2) (v3) O0  0 2), true), (dS O0, true), ((y5_0 == y6_0), true), (dP (ZM #[vs 0 o0 v2 v3] (o0) (L1) (v2) (v3) O0 y6_0 0 2), true), (dS O0, true), (dP (ZL #[vs 0 o0 v2 v3] (o0) (L1) (v2) (v3) O0 y5_0 0 2), true), (dS O0, true), ((v8 == v10), true), ((v7 == v9), true), ((v4 == (0 : Int)), true), (dP (ZX #[vn, vs 1 0 v5.length v5.length] (v5)  true 1 2), true), (dS (Zb eI v5), true)]) (fun gv => by kernel_rfl) (Za (Zf (Za2 #[vn, vn]    N c10  2 rfl (by decide) (by decide))) <| Za (Zf (Zb4 #[vs 0 o0 v2 v3] (o0) (L1) (v2) (v3) O0 F0  N c9 0 2 rfl (by decide) (by decide))) <| oR <| Za (Zf (Zb2 #[vs 0 o0 v2 v3] (o0) (L1) (v2) (v3) O0 F0  N c8 0 2 rfl (by decide) (by decide))) <| oR <| oT <| Za (Zf (ZR #[vs 0 o0 v2 v3] (o0) (L1) (v2) (v3) O0 F0 y6_0 N c6 0 2 rfl (by decide) (by decide))) <| oR <| Za (Zf (ZP #[vs 0 o0 v2 v3] (o0) (L1) (v2) (v3) O0 F0 y5_0 N c5 0 2 rfl (by decide) (by decide))) <| oR <| oT <| oT <| oT <| Za (Zf (Zag #[vn, vs 1 0 v5.length v5.length] (v5)  true N c0 1 2 rfl (by decide) (by decide))) <| oR Zd) rfl (by decide) (by rfl) rr ⟨rfl, trivial⟩
          | r1 y9_0 =>
           refine Mach.ok_bind (fun z10 c10 => ?_)
           cases z10 with
           | r0 y10_0 =>
            refine Mach.ok_ite (fun g11 => ?_) (fun g11 => ?_)
            ·
             subst g11
             exact Mach.ok_fin (M := Zl o0 L1 n2 n3 a4 O0 N) (cd := 1000000) (cm := 0) (r := (.r0 (true) : Zh)) (fu := 4000) (orc := (Zi [(0, true), (1, true), (2, true), (3, true)] [] [] [] [(0, (Zaf (v5)  true 1 2)), (1, (ZO (o0) (L1) (v2) (v3) O0 y5_0 0 2)), (2, (ZQ (o0) (L1) (v2) (v3) O0 y6_0 0 2)), (3, (Zb1 (o0) (L1) (v2) (v3) O0  0 2)), (4, (ZaU (o0) (L1) (v2) (v3) O0 y9_0 0 2)), (5, (Zaf (y9_0)  true 2 3))])) (live := [0]) (u := vT) (bl := [some (.ro O0)]) (ob := [(dP (ZX #[vn, vs 2 0 y9_0.length y9_0.length] (y9_0)  true 2 3), true), (dS (Zb eI y9_0), true), (dP (ZaK #[vs 0 o0 v2 v3] (o0) (L1) (v2) (v3) O0 y9_0 0 2), true), (dS O0, true), (dP (Zbq #[vs 0 o0 v2 v3] (o0) (L1) (v2) (v3) O0  0 2), true), (dS O0, true), ((y5_0 == y6_0), true), (dP (ZM #[vs 0 o0 v2 v3] (o0) (L1) (v2) (v3) O0 y6_0 0 2), true), (dS O0, true), (dP (ZL #[vs 0 o0 v2 v3] (o0) (L1) (v2) (v3) O0 y5_0 0 2), true), (dS O0, true), ((v8 == v10), true), ((v7 == v9), true), ((v4 == (0 : Int)), true), (dP (ZX #[vn, vs 1 0 v5.length v5.length] (v5)  true 1 2), true), (dS (Zb eI v5), true)]) (fun gv => by kernel_rfl) (Za (Zf (Zag #[vn, vs 2 0 y9_0.length y9_0.length] (y9_0)  true N c10 2 3 rfl (by decide) (by decide))) <| oR <| Za (Zf (ZaV #[vs 0 o0 v2 v3] (o0) (L1) (v2) (v3) O0 F0 y9_0 N c9 0 2 rfl (by decide) (by decide))) <| oR <| Za (Zf (Zb2 #[vs 0 o0 v2 v3] (o0) (L1) (v2) (v3) O0 F0  N c8 0 2 rfl (by decide) (by decide))) <| oR <| oT <| Za (Zf (ZR #[vs 0 o0 v2 v3] (o0) (L1) (v2) (v3) O0 F0 y6_0 N c6 0 2 rfl (by decide) (by decide))) <| oR <| Za (Zf (ZP #[vs 0 o0 v2 v3] (o0) (L1) (v2) (v3) O0 F0 y5_0 N c5 0 2 rfl (by decide) (by decide))) <| oR <| oT <| oT <| oT <| Za (Zf (Zag #[vn, vs 1 0 v5.length v5.length] (v5)  true N c0 1 2 rfl (by decide) (by decide))) <| oR Zd) rfl (by decide) (by rfl) rr ⟨rfl, trivial⟩
            ·
             obtain rfl : y10_0 = false := by simpa using g11
             exact Mach.ok_fin (M := Zl o0 L1 n2 n3 a4 O0 N) (cd := 1000000) (cm := 0) (r := (.r0 (false) : Zh)) (fu := 4000) (orc := (Zi [(0, true), (1, true), (2, true), (3, true)] [] [] [] [(0, (Zaf (v5)  true 1 2)), (1, (ZO (o0) (L1) (v2) (v3) O0 y5_0 0 2)), (2, (ZQ (o0) (L1) (v2) (v3) O0 y6_0 0 2)), (3, (Zb1 (o0) (L1) (v2) (v3) O0  0 2)), (4, (ZaU (o0) (L1) (v2) (v3) O0 y9_0 0 2)), (5, (Zaf (y9_0)  false 2 3))])) (live := [0]) (u := vf) (bl := [some (.ro O0)]) (ob := [(dP (ZX #[vn, vs 2 0 y9_0.length y9_0.length] (y9_0)  false 2 3), true), (dS (Zb eI y9_0), true), (dP (ZaK #[vs 0 o0 v2 v3] (o0) (L1) (v2) (v3) O0 y9_0 0 2), true), (dS O0, true), (dP (Zbq #[vs 0 o0 v2 v3] (o0) (L1) (v2) (v3) O0  0 2), true), (dS O0, true), ((y5_0 == y6_0), true), (dP (ZM #[vs 0 o0 v2 v3] (o0) (L1) (v2) (v3) O0 y6_0 0 2), true), (dS O0, true), (dP (ZL #[vs 0 o0 v2 v3] (o0) (L1) (v2) (v3) O0 y5_0 0 2), true), (dS O0, true), ((v8 == v10), true), ((v7 == v9), true), ((v4 == (0 : Int)), true), (dP (ZX #[vn, vs 1 0 v5.length v5.length] (v5)  true 1 2), true), (dS (Zb eI v5), true)]) (fun gv => by kernel_rfl) (Za (Zf (Zag #[vn, vs 2 0 y9_0.length y9_0.length] (y9_0)  false N c10 2 3 rfl (by decide) (by decide))) <| oR <| Za (Zf (ZaV #[vs 0 o0 v2 v3] (o0) (L1) (v2) (v3) O0 F0 y9_0 N c9 0 2 rfl (by decide) (by decide))) <| oR <| Za (Zf (Zb2 #[vs 0 o0 v2 v3] (o0) (L1) (v2) (v3) O0 F0  N c8 0 2 rfl (by decide) (by decide))) <| oR <| oT <| Za (Zf (ZR #[vs 0 o0 v2 v3] (o0) (L1) (v2) (v3) O0 F0 y6_0 N c6 0 2 rfl (by decide) (by decide))) <| oR <| Za (Zf (ZP #[vs 0 o0 v2 v3] (o0) (L1) (v2) (v3) O0 F0 y5_0 N c5 0 2 rfl (by decide) (by decide))) <| oR <| oT <| oT <| oT <| Za (Zf (Zag #[vn, vs 1 0 v5.length v5.length] (v5)  true N c0 1 2 rfl (by decide) (by decide))) <| oR Zd) rfl (by decide) (by rfl) rr ⟨rfl, trivial⟩
         | r1 y8_0 =>
          refine Mach.ok_bind (fun z9 c9 => ?_)
          cases z9 with
          | r0 =>
           refine Mach.ok_bind (fun z10 c10 => ?_)
           cases z10 with
           | r0 y10_0 =>
            refine Mach.ok_ite (fun g11 => ?_) (fun g11 => ?_)
            ·
             subst g11
             exact Mach.ok_fin (M := Zl o0 L1 n2 n3 a4 O0 N) (cd := 1000000) (cm := 0) (r := (.r0 (true) : Zh)) (fu := 4000) (orc := (Zi [(0, true), (1, true), (2, true), (3, true)] [] [] [] [(0, (Zaf (v5)  true 1 2)), (1, (ZO (o0) (L1) (v2) (v3) O0 y5_0 0 2)), (2, (ZQ (o0) (L1) (v2) (v3) O0 y6_0 0 2)), (3, (ZaS (o0) (L1) (v2) (v3) O0 y8_0 0 2)), (4, (Zb3 (o0) (L1) (v2) (v3) O0  0 3)), (5, (Zah (y8_0)  true 2 3))])) (live := [0]) (u := vT) (bl := [some (.ro O0)]) (ob := [(dP (ZY #[vs 2 0 y8_0.length y8_0.length, vn] (y8_0)  true 2 3), true), (dS (Zb eI y8_0), true), (dP (Zbr #[vs 0 o0 v2 v3] (o0) (L1) (v2) (v3) O0  0 3), true), (dS O0, true), (dP (ZaJ #[vs 0 o0 v2 v3] (o0) (L1) (v2) (v3) O0 y8_0 0 2), true), (dS O0, true), ((y5_0 == y6_0), true), (dP (ZM #[vs 0 o0 v2 v3] (o0) (L1) (v2) (v3) O0 y6_0 0 2), true), (dS O0, true), (dP (ZL #[vs 0 o0 v2 v3] (o0) (L1) (v2) (v3) O0 y5_0 0 2), true), (dS O0, true), ((v8 == v10), true), ((v7 == v9), true), ((v4 == (0 : Int)), true), (dP (ZX #[vn, vs 1 0 v5.length v5.length] (v5)  true 1 2), true), (dS (Zb eI v5), true)]) (fun gv => by kernel_rfl) (Za (Zf (Zai #[vs 2 0 y8_0.length y8_0.length, vn] (y8_0)  true N c10 2 3 rfl (by decide) (by decide))) <| oR <| Za (Zf (Zb4 #[vs 0 o0 v2 v3] (o0) (L1) (v2) (v3) O0 F0  N c9 0 3 rfl (by decide) (by decide))) <| oR <| Za (Zf (ZaT #[vs 0 o0 v2 v3] (o0) (L1) (v2) (v3) O0 F0 y8_0 N c8 0 2 rfl (by decide) (by decide))) <| oR <| oT <| Za (Zf (ZR #[vs 0 o0 v2 v3] (o0) (L1) (v2) (v3) O0 F0 y6_0 N c6 0 2 rfl (by decide) (by decide))) <| oR <| Za (Zf (ZP #[vs 0 o0 v2 v3] (o0) (L1) (v2) (v3) O0 F0 y5_0 N c5 0 2 rfl (by decide) (by decide))) <| oR <| oT <| oT <| oT <| Za (Zf (Zag #[vn, vs 1 0 v5.length v5.length] (v5)  true N c0 1 2 rfl (by decide) (by decide))) <| oR Zd) rfl (by decide) (by rfl) rr ⟨rfl, trivial⟩
            ·
             obtain rfl : y10_0 = false := by simpa using g11
             exact Mach.ok_fin (M := Zl o0 L1 n2 n3 a4 O0 N) (cd := 1000000) (cm := 0) (r := (.r0 (false) : Zh)) (fu := 4000) (orc := (Zi [(0, true), (1, true), (2, true), (3, true)] [] [] [] [(0, (Zaf (v5)  true 1 2)), (1, (ZO (o0) (L1) (v2) (v3) O0 y5_0 0 2)), (2, (ZQ (o0) (L1) (v2) (v3) O0 y6_0 0 2)), (3, (ZaS (o0) (L1) (v2) (v3) O0 y8_0 0 2)), (4, (Zb3 (o0) (L1) (v2) (v3) O0  0 3)), (5, (Zah (y8_0)  false 2 3))])) (live := [0]) (u := vf) (bl := [some (.ro O0)]) (ob := [(dP (ZY #[vs 2 0 y8_0.length y8_0.length, vn] (y8_0)  false 2 3), true), (dS (Zb eI y8_0), true), (dP (Zbr #[vs 0 o0 v2 v3] (o0) (L1) (v2) (v3) O0  0 3), true), (dS O0, true), (dP (ZaJ #[vs 0 o0 v2 v3] (o0) (L1) (v2) (v3) O0 y8_0 0 2), true), (dS O0, true), ((y5_0 == y6_0), true), (dP (ZM #[vs 0 o0 v2 v3] (o0) (L1) (v2) (v3) O0 y6_0 0 2), true), (dS O0, true), (dP (ZL #[vs 0 o0 v2 v3] (o0) (L1) (v2) (v3) O0 y5_0 0 2), true), (dS O0, true), ((v8 == v10), true), ((v7 == v9), true), ((v4 == (0 : Int)), true), (dP (ZX #[vn, vs 1 0 v5.length v5.length] (v5)  true 1 2), true), (dS (Zb eI v5), true)]) (fun gv => by kernel_rfl) (Za (Zf (Zai #[vs 2 0 y8_0.length y8_0.length, vn] (y8_0)  false N c10 2 3 rfl (by decide) (by decide))) <| oR <| Za (Zf (Zb4 #[vs 0 o0 v2 v3] (o0) (L1) (v2) (v3) O0 F0  N c9 0 3 rfl (by decide) (by decide))) <| oR <| Za (Zf (ZaT #[vs 0 o0 v2 v3] (o0) (L1) (v2) (v3) O0 F0 y8_0 N c8 0 2 rfl (by decide) (by decide))) <| oR <| oT <| Za (Zf (ZR #[vs 0 o0 v2 v3] (o0) (L1) (v2) (v3) O0 F0 y6_0 N c6 0 2 rfl (by decide) (by decide))) <| oR <| Za (Zf (ZP #[vs 0 o0 v2 v3] (o0) (L1) (v2) (v3) O0 F0 y5_0 N c5 0 2 rfl (by decide) (by decide))) <| oR <| oT <| oT <| oT <| Za (Zf (Zag #[vn, vs 1 0 v5.length v5.length] (v5)  true N c0 1 2 rfl (by decide) (by decide))) <| oR Zd) rfl (by decide) (by rfl) rr ⟨rfl, trivial⟩
          | r1 y9_0 =>
           refine Mach.ok_bind (fun z10 c10 => ?_)
           cases z10 with
           | r0 y10_0 =>
            refine Mach.ok_ite (fun g11 => ?_) (fun g11 => ?_)
            ·
             subst g11
             exact Mach.ok_fin (M := Zl o0 L1 n2 n3 a4 O0 N) (cd := 1000000) (cm := 0) (r := (.r0 (true) : Zh)) (fu := 4000) (orc := (Zi [(0, true), (1, true), (2, true), (3, true)] [] [] [] [(0, (Zaf (v5)  true 1 2)), (1, (ZO (o0) (L1) (v2) (v3) O0 y5_0 0 2)), (2, (ZQ (o0) (L1) (v2) (v3) O0 y6_0 0 2)), (3, (ZaS (o0) (L1) (v2) (v3) O0 y8_0 0 2)), (4, (ZaU (o0) (L1) (v2) (v3) O0 y9_0 0 3)), (5, (Zal (y8_0) (y9_0)  true 2 3 4))])) (live := [0]) (u := vT) (bl := [some (.ro O0)]) (ob := [(dP (Zaj #[vs 2 0 y8_0.length y8_0.length, vs 3 0 y9_0.length y9_0.length] (y8_0) (y9_0)  true 2 3 4), true), (dS (Zb eI y8_0), true), (dS (Zb eI y9_0), true), (dP (ZaK #[vs 0 o0 v2 v3] (o0) (L1) (v2) (v3) O0 y9_0 0 3), true), (dS O0, true), (dP (ZaJ #[vs 0 o0 v2 v3] (o0) (L1) (v2) (v3) O0 y8_0 0 2), true), (dS O0, true), ((y5_0 == y6_0), true), (dP (ZM #[vs 0 o0 v2 v3] (o0) (L1) (v2) (v3) O0 y6_0 0 2), true), (dS O0, true), (dP (ZL #[vs 0 o0 v2 v3] (o0) (L1) (v2) (v3) O0 y5_0 0 2), true), (dS O0, true), ((v8 == v10), true), ((v7 == v9), true), ((v4 == (0 : Int)), true), (dP (ZX #[vn, vs 1 0 v5.length v5.length] (v5)  true 1 2), true), (dS (Zb eI v5), true)]) (fun gv => by kernel_rfl) (Za (Zf (Zam #[vs 2 0 y8_0.length y8_0.length, vs 3 0 y9_0.length y9_0.length] (y8_0) (y9_0)  true N c10 2 3 4 rfl (by decide) (by decide))) <| oR <| oR <| Za (Zf (ZaV #[vs 0 o0 v2 v3] (o0) (L1) (v2) (v3) O0 F0 y9_0 N c9 0 3 rfl (by decide) (by decide))) <| oR <| Za (Zf (ZaT #[vs 0 o0 v2 v3] (o0) (L1) (v2) (v3) O0 F0 y8_0 N c8 0 2 rfl (by decide) (by decide))) <| oR <| oT <| Za (Zf (ZR #[vs 0 o0 v2 v3] (o0) (L1) (v2) (v3) O0 F0 y6_0 N c6 0 2 rfl (by decide) (by decide))) <| oR <| Za (Zf (ZP #[vs 0 o0 v2 v3] (o0) (L1) (v2) (v3) O0 F0 y5_0 N c5 0 2 rfl (by decide) (by decide))) <| oR <| oT <| oT <| oT <| Za (Zf (Zag #[vn, vs 1 0 v5.length v5.length] (v5)  true N c0 1 2 rfl (by decide) (by decide))) <| oR Zd) rfl (by decide) (by rfl) rr ⟨rfl, trivial⟩
            ·
             obtain rfl : y10_0 = false := by simpa using g11
             exact Mach.ok_fin (M := Zl o0 L1 n2 n3 a4 O0 N) (cd := 1000000) (cm := 0) (r := (.r0 (false) : Zh)) (fu := 4000) (orc := (Zi [(0, true), (1, true), (2, true), (3, true)] [] [] [] [(0, (Zaf (v5)  true 1 2)), (1, (ZO (o0) (L1) (v2) (v3) O0 y5_0 0 2)), (2, (ZQ (o0) (L1) (v2) (v3) O0 y6_0 0 2)), (3, (ZaS (o0) (L1) (v2) (v3) O0 y8_0 0 2)), (4, (ZaU (o0) (L1) (v2) (v3) O0 y9_0 0 3)), (5, (Zal (y8_0) (y9_0)  false 2 3 4))])) (live := [0]) (u := vf) (bl := [some (.ro O0)]) (ob := [(dP (Zaj #[vs 2 0 y8_0.length y8_0.length, vs 3 0 y9_0.length y9_0.length] (y8_0) (y9_0)  false 2 3 4), true), (dS (Zb eI y8_0), true), (dS (Zb eI y9_0), true), (dP (ZaK #[vs 0 o0 v2 v3] (o0) (L1) (v2) (v3) O0 y9_0 0 3), true), (dS O0, true), (dP (ZaJ #[vs 0 o0 v2 v3] (o0) (L1) (v2) (v3) O0 y8_0 0 2), true), (dS O0, true), ((y5_0 == y6_0), true), (dP (ZM #[vs 0 o0 v2 v3] (o0) (L1) (v2) (v3) O0 y6_0 0 2), true), (dS O0, true), (dP (ZL #[vs 0 o0 v2 v3] (o0) (L1) (v2) (v3) O0 y5_0 0 2), true), (dS O0, true), ((v8 == v10), true), ((v7 == v9), true), ((v4 == (0 : Int)), true), (dP (ZX #[vn, vs 1 0 v5.length v5.length] (v5)  true 1 2), true), (dS (Zb eI v5), true)]) (fun gv => by kernel_rfl) (Za (Zf (Zam #[vs 2 0 y8_0.length y8_0.length, vs 3 0 y9_0.length y9_0.length] (y8_0) (y9_0)  false N c10 2 3 4 rfl (by decide) (by decide))) <| oR <| oR <| Za (Zf (ZaV #[vs 0 o0 v2 v3] (o0) (L1) (v2) (v3) O0 F0 y9_0 N c9 0 3 rfl (by decide) (by decide))) <| oR <| Za (Zf (ZaT #[vs 0 o0 v2 v3] (o0) (L1) (v2) (v3) O0 F0 y8_0 N c8 0 2 rfl (by decide) (by decide))) <| oR <| oT <| Za (Zf (ZR #[vs 0 o0 v2 v3] (o0) (L1) (v2) (v3) O0 F0 y6_0 N c6 0 2 rfl (by decide) (by decide))) <| oR <| Za (Zf (ZP #[vs 0 o0 v2 v3] (o0) (L1) (v2) (v3) O0 F0 y5_0 N c5 0 2 rfl (by decide) (by decide))) <| oR <| oT <| oT <| oT <| Za (Zf (Zag #[vn, vs 1 0 v5.length v5.length] (v5)  true N c0 1 2 rfl (by decide) (by decide))) <| oR Zd) rfl (by decide) (by rfl) rr ⟨rfl, trivial⟩
        ·
         exact Mach.ok_fin (M := Zl o0 L1 n2 n3 a4 O0 N) (cd := 1000000) (cm := 0) (r := (.r0 (false) : Zh)) (fu := 4000) (orc := (Zi [(0, true), (1, true), (2, true), (3, false)] [] [] [] [(0, (Zaf (v5)  true 1 2)), (1, (ZO (o0) (L1) (v2) (v3) O0 y5_0 0 2)), (2, (ZQ (o0) (L1) (v2) (v3) O0 y6_0 0 2))])) (live := [0]) (u := vf) (bl := [some (.ro O0)]) (ob := [((y5_0 == y6_0), false), (dP (ZM #[vs 0 o0 v2 v3] (o0) (L1) (v2) (v3) O0 y6_0 0 2), true), (dS O0, true), (dP (ZL #[vs 0 o0 v2 v3] (o0) (L1) (v2) (v3) O0 y5_0 0 2), true), (dS O0, true), ((v8 == v10), true), ((v7 == v9), true), ((v4 == (0 : Int)), true), (dP (ZX #[vn, vs 1 0 v5.length v5.length] (v5)  true 1 2), true), (dS (Zb eI v5), true)]) (fun gv => by kernel_rfl) (oF <| Za (Zf (ZR #[vs 0 o0 v2 v3] (o0) (L1) (v2) (v3) O0 F0 y6_0 N c6 0 2 rfl (by decide) (by decide))) <| oR <| Za (Zf (ZP #[vs 0 o0 v2 v3] (o0) (L1) (v2) (v3) O0 F0 y5_0 N c5 0 2 rfl (by decide) (by decide))) <| oR <| oT <| oT <| oT <| Za (Zf (Zag #[vn, vs 1 0 v5.length v5.length] (v5)  true N c0 1 2 rfl (by decide) (by decide))) <| oR Zd) rfl (by decide) (by rfl) rr ⟨rfl, trivial⟩
     ·
      exact Mach.ok_fin (M := Zl o0 L1 n2 n3 a4 O0 N) (cd := 1000000) (cm := 0) (r := (.r0 (false) : Zh)) (fu := 4000) (orc := (Zi [(0, true), (1, true), (2, false)] [] [] [] [(0, (Zaf (v5)  true 1 2))])) (live := [0]) (u := vf) (bl := [some (.ro O0)]) (ob := [((v8 == v10), false), ((v7 == v9), true), ((v4 == (0 : Int)), true), (dP (ZX #[vn, vs 1 0 v5.length v5.length] (v5)  true 1 2), true), (dS (Zb eI v5), true)]) (fun gv => by kernel_rfl) (oF <| oT <| oT <| Za (Zf (Zag #[vn, vs 1 0 v5.length v5.length] (v5)  true N c0 1 2 rfl (by decide) (by decide))) <| oR Zd) rfl (by decide) (by rfl) rr ⟨rfl, trivial⟩
    ·
     exact Mach.ok_fin (M := Zl o0 L1 n2 n3 a4 O0 N) (cd := 1000000) (cm := 0) (r := (.r0 (false) : Zh)) (fu := 4000) (orc := (Zi [(0, true), (1, false)] [] [] [] [(0, (Zaf (v5)  true 1 2))])) (live := [0]) (u := vf) (bl := [some (.ro O0)]) (ob := [((v7 == v9), false), ((v4 == (0 : Int)), true), (dP (ZX #[vn, vs 1 0 v5.length v5.length] (v5)  true 1 2), true), (dS (Zb eI v5), true)]) (fun gv => by kernel_rfl) (oF <| oT <| Za (Zf (Zag #[vn, vs 1 0 v5.length v5.length] (v5)  true N c0 1 2 rfl (by decide) (by decide))) <| oR Zd) rfl (by decide) (by rfl) rr ⟨rfl, trivial⟩
   ·
    exact Mach.ok_fin (M := Zl o0 L1 n2 n3 a4 O0 N) (cd := 1000000) (cm := 0) (r := (.r0 (false) : Zh)) (fu := 4000) (orc := (Zi [(0, false)] [] [] [] [(0, (Zaf (v5)  true 1 2))])) (live := [0]) (u := vf) (bl := [some (.ro O0)]) (ob := [((v4 == (0 : Int)), false), (dP (ZX #[vn, vs 1 0 v5.length v5.length] (v5)  true 1 2), true), (dS (Zb eI v5), true)]) (fun gv => by kernel_rfl) (oF <| Za (Zf (Zag #[vn, vs 1 0 v5.length v5.length] (v5)  true N c0 1 2 rfl (by decide) (by decide))) <| oR Zd) rfl (by decide) (by rfl) rr ⟨rfl, trivial⟩
  ·
   obtain rfl : y0_0 = false := by simpa using g1
   exact Mach.ok_fin (M := Zl o0 L1 n2 n3 a4 O0 N) (cd := 1000000) (cm := 0) (r := (.r0 (false) : Zh)) (fu := 4000) (orc := (Zi [] [] [] [] [(0, (Zaf (v5)  false 1 2))])) (live := [0]) (u := vf) (bl := [some (.ro O0)]) (ob := [(dP (ZX #[vn, vs 1 0 v5.length v5.length] (v5)  false 1 2), true), (dS (Zb eI v5), true)]) (fun gv => by kernel_rfl) (Za (Zf (Zag #[vn, vs 1 0 v5.length v5.length] (v5)  false N c0 1 2 rfl (by decide) (by decide))) <| oR Zd) rfl (by decide) (by rfl) rr ⟨rfl, trivial⟩

theorem ZkP (o0 : Nat) (L1 : List R_iiii) (n2 n3 : Nat) (a4 : Int) (O0 : Obj) (F0 : Zs O0 o0 L1) (v2 v3 : Nat) (v4 : List Int) (v6 v7 v8 v9 v10 : Int) (N : Nat) : (Zl o0 L1 n2 n3 a4 O0 N).Ok Try.prog Zr (.h3m2 v2 v3 v4 v6 v7 v8 v9 v10 : Zo) (Zax L1 n2 n3 a4 N (.h3m2 v2 v3 v4 v6 v7 v8 v9 v10 : Zo)) := by
 show (Zl o0 L1 n2 n3 a4 O0 N).Ok Try.prog Zr (.h3m2 v2 v3 v4 v6 v7 v8 v9 v10 : Zo) (Zfk L1 n2 n3 a4 N v2 v3 v4 v6 v7 v8 v9 v10)
 unfold Zfk
 refine Mach.ok_bind (fun z0 c0 => ?_)
 cases z0 with
 | r0 y0_0 =>
  refine Mach.ok_ite (fun g1 => ?_) (fun g1 => ?_)
  ·
   subst g1
   refine Mach.ok_ite (fun g2 => ?_) (fun g2 => ?_)
   ·
    refine Mach.ok_ite (fun g3 => ?_) (fun g3 => ?_)
    ·
     refine Mach.ok_ite (fun g4 => ?_) (fun g4 => ?_)
     ·
      refine Mach.ok_bind (fun z5 c5 => ?_)
      cases z5 with
      | r0 y5_0 =>
       refine Mach.ok_bind (fun z6 c6 => ?_)
       cases z6 with
       | r0 y6_0 =>
        refine Mach.ok_ite (fun g7 => ?_) (fun g7 => ?_)
        ·
         refine Mach.ok_bind (fun z8 c8 => ?_)
         cases z8 with
         | r0 =>
          refine Mach.ok_bind (fun z9 c9 => ?_)
          cases z9 with
          | r0 =>
           refine Mach.ok_bind (fun z10 c10 => ?_)
           cases z10 with
           | r0 =>
            exact Mach.ok_fin (M := Zl o0 L1 n2 n3 a4 O0 N) (cd := 1000000) (cm := 0) (r := (.r0 (true) : Zh)) (fu := 4000) (orc := (Zi [(0, true), (1, true), (2, true), (3, true)] [] [] [] [(0, (Zah (v4)  true 1 2)), (1, (ZO (o0) (L1) (v2) (v3) O0 y5_0 0 2)), (2, (ZQ (o0) (L1) (v2) (v3) O0 y6_0 0 2)), (3, (Zb1 (o0) (L1) (v2) (v3) O0  0 2)), (4, (Zb3 (o0) (L1) (v2) (v3) O0  0 2)), (5, (Za1     2))])) (live := [0]) (u := vT) (bl := [some (.ro O0)]) (ob := [(dP (Zaw #[vn, vn]     2), true), (dP (Zbr #[vs 0 o0 v2 v3] (o0) (L1) (v2) (v3) O0  0 2), true), (dS O0, true), (dP (Zbq #[vs 0 o0 v2 v3] (o0) (L1) (v2) (v3) O0  0 2), true), (dS O0, true), ((y5_0 == y6_0), true), (dP (ZM #[vs 0 o0 v2 v3] (o0) (L1) (v2) (v3) O0 y6_0 0 2), true), (dS O0, true), (dP (ZL #[vs 0 o0 v2 v3] (o0) (L1) (v2) (v3) O0 y5_0 0 2), true), (dS O0, true), ((v8 == v10), true), ((v7 == v9), true), (((0 : Int) == v6), true), (dP (ZY #[vs 1 0 v4.length v4.length, vn] (v4)  true 1 2), true), (dS (Zb eI v4), true)]) (fun gv => by kernel_rfl) (Za (Zf (Za2 #[vn, vn]    N c10  2 rfl (by decide) (by decide))) <| Za (Zf (Zb4 #[vs 0 o0 v2 v3] (o0) (L1) (v2) (v3) O0 F0  N c9 0 2 rfl (by decide) (by decide))) <| oR <| Za (Zf (Zb2 #[vs 0 o0 v2 v3] (o0) (L1) (v2) (v3) O0 F0  N c8 0 2 rfl (by decide) (by decide))) <| oR <| oT <| Za (Zf (ZR #[vs 0 o0 v2 v3] (o0) (L1) (v2) (v3) O0 F0 y6_0 N c6 0 2 rfl (by decide) (by decide))) <| oR <| Za (Zf (ZP #[vs 0 o0 v2 v3] (o0) (L1) (v2) (v3) O0 F0 y5_0 N c5 0 2 rfl (by decide) (by decide))) <| oR <| oT <| oT <| oT <| Za (Zf (Zai #[vs 1 0 v4.length v4.length, vn] (v4)  true N c0 1 2 rfl (by decide) (by decide))) <| oR Zd) rfl (by decide) (by rfl) rr ⟨rfl, trivial⟩
          | r1 y9_0 =>
           refine Mach.ok_bind (fun z10 c10 => ?_)
           cases z10 with
           | r0 y10_0 =>
            refine Mach.ok_ite (fun g11 => ?_) (fun g11 => ?_)
            ·
             subst g11
             exact Mach.ok_fin (M := Zl o0 L1 n2 n3 a4 O0 N) (cd := 1000000) (cm := 0) (r := (.r0 (true) : Zh)) (fu := 4000) (orc := (Zi [(0, true), (1, true), (2, true), (3, true)] [] [] [] [(0, (Zah (v4)  true 1 2)), (1, (ZO (o0) (L1) (v2) (v3) O0 y5_0 0 2)), (2, (ZQ (o0) (L1) (v2) (v3) O0 y6_0 0 2)), (3, (Zb1 (o0) (L1) (v2) (v3) O0  0 2)), (4, (ZaU (o0) (L1) (v2) (v3) O0 y9_0 0 2)), (5, (Zaf (y9_0)  true 2 3))])) (live := [0]) (u := vT) (bl := [some (.ro O0)]) (ob := [(dP (ZX #[vn, vs 2 0 y9_0.length y9_0.length] (y9_0)  true 2 3), true), (dS (Zb eI y9_0), true), (dP (ZaK #[vs 0 o0 v2 v3] (o0) (L1) (v2) (v3) O0 y9_0 0 2), true), (dS O0, true), (dP (Zbq #[vs 0 o0 v2 v3] (o0) (L1) (v2) (v3) O0  0 2), true), (dS O0, true), ((y5_0 == y6_0), true), (dP (ZM #[vs 0 o0 v2 v3] (o0) (L1) (v2) (v3) O0 y6_0 0 2), true), (dS O0, true), (dP (ZL #[vs 0 o0 v2 v3] (o0) (L1) (v2) (v3) O0 y5_0 0 2), true), (dS O0, true), ((v8 == v10), true), ((v7 == v9), true), (((0 : Int) == v6), true), (dP (ZY #[vs 1 0 v4.length v4.length, vn] (v4)  true 1 2), true), (dS (Zb eI v4), true)]) (fun gv => by kernel_rfl) (Za (Zf (Zag #[vn, vs 2 0 y9_0.length y9_0.length] (y9_0)  true N c10 2 3 rfl (by decide) (by decide))) <| oR <| Za (Zf (ZaV #[vs 0 o0 v2 v3] (o0) (L1) (v2) (v3) O0 F0 y9_0 N c9 0 2 rfl (by decide) (by decide))) <| oR <| Za (Zf (Zb2 #[vs 0 o0 v2 v3] (o0) (L1) (v2) (v3) O0 F0  N c8 0 2 rfl (by decide) (by decide))) <| oR <| oT <| Za (Zf (ZR #[vs 0 o0 v2 v3] (o0) (L1) (v2) (v3) O0 F0 y6_0 N c6 0 2 rfl (by decide) (by decide))) <| oR <| Za (Zf (ZP #[vs 0 o0 v2 v3] (o0) (L1) (v2) (v3) O0 F0 y5_0 N c5 0 2 rfl (by decide) (by decide))) <| oR <| oT <| oT <| oT <| Za (Zf (Zai #[vs 1 0 v4.length v4.length, vn] (v4)  true N c0 1 2 rfl (by decide) (by decide))) <| oR Zd) rfl (by decide) (by rfl) rr ⟨rfl, trivial⟩
            ·
             obtain rfl : y10_0 = false := by simpa using g11
             exact Mach.ok_fin (M := Zl o0 L1 n2 n3 a4 O0 N) (cd := 1000000) (cm := 0) (r := (.r0 (false) : Zh)) (fu := 4000) (orc := (Zi [(0, true), (1, true), (2, true), (3, true)] [] [] [] [(0, (Zah (v4)  true 1 2)), (1, (ZO (o0) (L1) (v2) (v3) O0 y5_0 0 2)), (2, (ZQ (o0) (L1) (v2) (v3) O0 y6_0 0 2)), (3, (Zb1 (o0) (L1) (v2) (v3) O0  0 2)), (4, (ZaU (o0) (L1) (v2) (v3) O0 y9_0 0 2)), (5, (Zaf (y9_0)  false 2 3))])) (live := [0]) (u := vf) (bl := [some (.ro O0)]) (ob := [(dP (ZX #[vn, vs 2 0 y9_0.length y9_0.length] (y9_0)  false 2 3), true), (dS (Zb eI y9_0), true), (dP (ZaK #[vs 0 o0 v2 v3] (o0) (L1) (v2) (v3) O0 y9_0 0 2), true), (dS O0, true), (dP (Zbq #[vs 0 o0 v2 v3] (o0) (L1) (v2) (v3) O0  0 2), true), (dS O0, true), ((y5_0 == y6_0), true), (dP (ZM #[vs 0 o0 v2 v3] (o0) (L1) (v2) (v3) O0 y6_0 0 2), true), (dS O0, true), (dP (ZL #[vs 0 o0 v2 v3] (o0) (L1) (v2) (v3) O0 y5_0 0 2), true), (dS O0, true), ((v8 == v10), true), ((v7 == v9), true), (((0 : Int) == v6), true), (dP (ZY #[vs 1 0 v4.length v4.length, vn] (v4)  true 1 2), true), (dS (Zb eI v4), true)]) (fun gv => by kernel_rfl) (Za (Zf (Zag #[vn, vs 2 0 y9_0.length y9_0.length] (y9_0)  false N c10 2 3 rfl (by decide) (by decide))) <| oR <| Za (Zf (ZaV #[vs 0 o0 v2 v3] (o0) (L1) (v2) (v3) O0 F0 y9_0 N c9 0 2 rfl (by decide) (by decide))) <| oR <| Za (Zf (Zb2 #[vs 0 o0 v2 v3] (o0) (L1) (v2) (v3) O0 F0  N c8 0 2 rfl (by decide) (by decide))) <| oR <| oT <| Za (Zf (ZR #[vs 0 o0 v2 v3] (o0) (L1) (v2) (v3) O0 F0 y6_0 N c6 0 2 rfl (by decide) (by decide))) <| oR <| Za (Zf (ZP #[vs 0 o0 v2 v3] (o0) (L1) (v2) (v3) O0 F0 y5_0 N c5 0 2 rfl (by decide) (by decide))) <| oR <| oT <| oT <| oT <| Za (Zf (Zai #[vs 1 0 v4.length v4.length, vn] (v4)  true N c0 1 2 rfl (by decide) (by decide))) <| oR Zd) rfl (by decide) (by rfl) rr ⟨rfl, trivial⟩
         | r1 y8_0 =>
          refine Mach.ok_bind (fun z9 c9 => ?_)
          cases z9 with
          | r0 =>
           refine Mach.ok_bind (fun z10 c10 => ?_)
           cases z10 with
           | r0 y10_0 =>
            refine Mach.ok_ite (fun g11 => ?_) (fun g11 => ?_)
            ·
             subst g11
             exact Mach.ok_fin (M := Zl o0 L1 n2 n3 a4 O0 N) (cd := 1000000) (cm := 0) (r := (.r0 (true) : Zh)) (fu := 4000) (orc := (Zi [(0, true), (1, true), (2, true), (3, true)] [] [] [] [(0, (Zah (v4)  true 1 2)), (1, (ZO (o0) (L1) (v2) (v3) O0 y5_0 0 2)), (2, (ZQ (o0) (L1) (v2) (v3) O0 y6_0 0 2)), (3, (ZaS (o0) (L1) (v2) (v3) O0 y8_0 0 2)), (4, (Zb3 (o0) (L1) (v2) (v3) O0  0 3)), (5, (Zah (y8_0)  true 2 3))])) (live := [0]) (u := vT) (bl := [some (.ro O0)]) (ob := [(dP (ZY #[vs 2 0 y8_0.length y8_0.length, vn] (y8_0)  true 2 3), true), (dS (Zb eI y8_0), true), (dP (Zbr #[vs 0 o0 v2 v3] (o0) (L1) (v2) (v3) O0  0 3), true), (dS O0, true), (dP (ZaJ #[vs 0 o0 v2 v3] (o0) (L1) (v2) (v3) O0 y8_0 0 2), true), (dS O0, true), ((y5_0 == y6_0), true), (dP (ZM #[vs 0 o0 v2 v3] (o0) (L1) (v2) (v3) O0 y6_0 0 2), true), (dS O0, true), (dP (ZL #[vs 0 o0 v2 v3] (o0) (L1) (v2) (v3) O0 y5_0 0 2), true), (dS O0, true), ((v8 == v10), true), ((v7 == v9), true), (((0 : Int) == v6), true), (dP (ZY #[vs 1 0 v4.length v4.length, vn] (v4)  true 1 2), true), (dS (Zb eI v4), true)]) (fun gv => by kernel_rfl) (Za (Zf (Zai #[vs 2 0 y8_0.length y8_0.length, vn] (y8_0)  true N c10 2 3 rfl (by decide) (by decide))) <| oR <| Za (Zf (Zb4 #[vs 0 o0 v2 v3] (o0) (L1) (v2) (v3) O0 F0  N c9 0 3 rfl (by decide) (by decide))) <| oR <| Za (Zf (ZaT #[vs 0 o0 v2 v3] (o0) (L1) (v2) (v3) O0 F0 y8_0 N c8 0 2 rfl (by decide) (by decide))) <| oR <| oT <| Za (Zf (ZR #[vs 0 o0 v2 v3] (o0) (L1) (v2) (v3) O0 F0 y6_0 N c6 0 2 rfl (by decide) (by decide))) <| oR <| Za (Zf (ZP #[vs 0 o0 v2 v3] (o0) (L1) (v2) (v3) O0 F0 y5_0 N c5 0 2 rfl (by decide) (by decide))) <| oR <| oT <| oT <| oT <| Za (Zf (Zai #[vs 1 0 v4.length v4.length, vn] (v4)  true N c0 1 2 rfl (by decide) (by decide))) <| oR Zd) rfl (by decide) (by rfl) rr ⟨rfl, trivial⟩
            ·
             obtain rfl : y10_0 = false := by simpa using g11
             exact Mach.ok_fin (M := Zl o0 L1 n2 n3 a4 O0 N) (cd := 1000000) (cm := 0) (r := (.r0 (false) : Zh)) (fu := 4000) (orc := (Zi [(0, true), (1, true), (2, true), (3, true)] [] [] [] [(0, (Zah (v4)  true 1 2)), (1, (ZO (o0) (L1) (v2) (v3) O0 y5_0 0 2)), (2, (ZQ (o0) (L1) (v2) (v3) O0 y6_0 0 2)), (3, (ZaS (o0) (L1) (v2) (v3) O0 y8_0 0 2)), (4, (Zb3 (o0) (L1) (v2) (v3) O0  0 3)), (5, (Zah (y8_0)  false 2 3))])) (live := [0]) (u := vf) (bl := [some (.ro O0)]) (ob := [(dP (ZY #[vs 2 0 y8_0.length y8_0.length, vn] (y8_0)  false 2 3), true), (dS (Zb eI y8_0), true), (dP (Zbr #[vs 0 o0 v2 v3] (o0) (L1) (v2) (v3) O0  0 3), true), (dS O0, true), (dP (ZaJ #[vs 0 o0 v2 v3] (o0) (L1) (v2) (v3) O0 y8_0 0 2), true), (dS O0, true), ((y5_0 == y6_0), true), (dP (ZM #[vs 0 o0 v2 v3] (o0) (L1) (v2) (v3) O0 y6_0 0 2), true), (dS O0, true), (dP (ZL #[vs 0 o0 v2 v3] (o0) (L1) (v2) (v3) O0 y5_0 0 2), true), (dS O0, true), ((v8 == v10), true), ((v7 == v9), true), (((0 : Int) == v6), true), (dP (ZY #[vs 1 0 v4.length v4.length, vn] (v4)  true 1 2), true), (dS (Zb eI v4), true)]) (fun gv => by kernel_rfl) (Za (Zf (Zai #[vs 2 0 y8_0.length y8_0.length, vn] (y8_0)  false N c10 2 3 rfl (by decide) (by decide))) <| oR <| Za (Zf (Zb4 #[vs 0 o0 v2 v3] (o0) (L1) (v2) (v3) O0 F0  N c9 0 3 rfl (by decide) (by decide))) <| oR <| Za (Zf (ZaT #[vs 0 o0 v2 v3] (o0) (L1) (v2) (v3) O0 F0 y8_0 N c8 0 2 rfl (by decide) (by decide))) <| oR <| oT <| Za (Zf (ZR #[vs 0 o0 v2 v3] (o0) (L1) (v2) (v3) O0 F0 y6_0 N c6 0 2 rfl (by decide) (by decide))) <| oR <| Za (Zf (ZP #[vs 0 o0 v2 v3] (o0) (L1) (v2) (v3) O0 F0 y5_0 N c5 0 2 rfl (by decide) (by decide))) <| oR <| oT <| oT <| oT <| Za (Zf (Zai #[vs 1 0 v4.length v4.length, vn] (v4)  true N c0 1 2 rfl (by decide) (by decide))) <| oR Zd) rfl (by decide) (by rfl) rr ⟨rfl, trivial⟩
          | r1 y9_0 =>
           refine Mach.ok_bind (fun z10 c10 => ?_)
           cases z10 with
           | r0 y10_0 =>
            refine Mach.ok_ite (fun g11 => ?_) (fun g11 => ?_)
            ·
             subst g11
             exact Mach.ok_fin (M := Zl o0 L1 n2 n3 a4 O0 N) (cd := 1000000) (cm := 0) (r := (.r0 (true) : Zh)) (fu := 4000) (orc := (Zi [(0, true), (1, true), (2, true), (3, true)] [] [] [] [(0, (Zah (v4)  true 1 2)), (1, (ZO (o0) (L1) (v2) (v3) O0 y5_0 0 2)), (2, (ZQ (o0) (L1) (v2) (v3) O0 y6_0 0 2)), (3, (ZaS (o0) (L1) (v2) (v3) O0 y8_0 0 2)), (4, (ZaU (o0) (L1) (v2) (v3) O0 y9_0 0 3)), (5, (Zal (y8_0) (y9_0)  true 2 3 4))])) (live := [0]) (u := vT) (bl := [some (.ro O0)]) (ob := [(dP (Zaj #[vs 2 0 y8_0.length y8_0.length, vs 3 0 y9_0.length y9_0.length] (y8_0) (y9_0)  true 2 3 4), true), (dS (Zb eI y8_0), true), (dS (Zb eI y9_0), true), (dP (ZaK #[vs 0 o0 v2 v3] (o0) (L1) (v2) (v3) O0 y9_0 0 3), true), (dS O0, true), (dP (ZaJ #[vs 0 o0 v2 v3] (o0) (L1) (v2) (v3) O0 y8_0 0 2), true), (dS O0, true), ((y5_0 == y6_0), true), (dP (ZM #[vs 0 o0 v2 v3] (o0) (L1) (v2) (v3) O0 y6_0 0 2), true), (dS O0, true), (dP (ZL #[vs 0 o0 v2 v3] (o0) (L1) (v2) (v3) O0 y5_0 0 2), true), (dS O0, true), ((v8 == v10), true), ((v7 == v9), true), (((0 : Int) == v6), true), (dP (ZY #[vs 1 0 v4.length v4.length, vn] (v4)  true 1 2), true), (dS (Zb eI v4), true)]) (fun gv => by kernel_rfl) (Za (Zf (Zam #[vs 2 0 y8_0.length y8_0.length, vs 3 0 y9_0.length y9_0.length] (y8_0) (y9_0)  true N c10 2 3 4 rfl (by decide) (by decide))) <| oR <| oR <| Za (Zf (ZaV #[vs 0 o0 v2 v3] (o0) (L1) (v2) (v3) O0 F0 y9_0 N c9 0 3 rfl (by decide) (by decide))) <| oR <| Za (Zf (ZaT #[vs 0 o0 v2 v3] (o0) (L1) (v2) (v3) O0 F0 y8_0 N c8 0 2 rfl (by decide) (by decide))) <| oR <| oT <| Za (Zf (ZR #[vs 0 o0 v2 v3] (o0) (L1) (v2) (v3) O0 F0 y6_0 N c6 0 2 rfl (by decide) (by decide))) <| oR <| Za (Zf (ZP #[vs 0 o0 v2 v3] (o0) (L1) (v2) (v3) O0 F0 y5_0 N c5 0 2 rfl (by decide) (by decide))) <| oR <| oT <| oT <| oT <| Za (Zf (Zai #[vs 1 0 v4.length v4.length, vn] (v4)  true N c0 1 2 rfl (by decide) (by decide))) <| oR Zd) rfl (by decide) (by rfl) rr ⟨rfl, trivial⟩
            ·
             obtain rfl : y10_0 = false := by simpa using g11
             exact Mach.ok_fin (M := Zl o0 L1 n2 n3 a4 O0 N) (cd := 1000000) (cm := 0) (r := (.r0 (false) : Zh)) (fu := 4000) (orc := (Zi [(0, true), (1, true), (2, true), (3, true)] [] [] [] [(0, (Zah (v4)  true 1 2)), (1, (ZO (o0) (L1) (v2) (v3) O0 y5_0 0 2)), (2, (ZQ (o0) (L1) (v2) (v3) O0 y6_0 0 2)), (3, (ZaS (o0) (L1) (v2) (v3) O0 y8_0 0 2)), (4, (ZaU (o0) (L1) (v2) (v3) O0 y9_0 0 3)), (5, (Zal (y8_0) (y9_0)  false 2 3 4))])) (live := [0]) (u := vf) (bl := [some (.ro O0)]) (ob := [(dP (Zaj #[vs 2 0 y8_0.length y8_0.length, vs 3 0 y9_0.length y9_0.length] (y8_0) (y9_0)  false 2 3 4), true), (dS (Zb eI y8_0), true), (dS (Zb eI y9_0), true), (dP (ZaK #[vs 0 o0 v2 v3] (o0) (L1) (v2) (v3) O0 y9_0 0 3), true), (dS O0, true), (dP (ZaJ #[vs 0 o0 v2 v3] (o0) (L1) (v2) (v3) O0 y8_0 0 2), true), (dS O0, true), ((y5_0 == y6_0), true), (dP (ZM #[vs 0 o0 v2 v3] (o0) (L1) (v2) (v3) O0 y6_0 0 2), true), (dS O0, true), (dP (ZL #[vs 0 o0 v2 v3] (o0) (L1) (v2) (v3) O0 y5_0 0 2), true), (dS O0, true), ((v8 == v10), true), ((v7 == v9), true), (((0 : Int) == v6), true), (dP (ZY #[vs 1 0 v4.length v4.length, vn] (v4)  true 1 2), true), (dS (Zb eI v4), true)]) (fun gv => by kernel_rfl) (Za (Zf (Zam #[vs 2 0 y8_0.length y8_0.length, vs 3 0 y9_0.length y9_0.length] (y8_0) (y9_0)  false N c10 2 3 4 rfl (by decide) (by decide))) <| oR <| oR <| Za (Zf (ZaV #[vs 0 o0 v2 v3] (o0) (L1) (v2) (v3) O0 F0 y9_0 N c9 0 3 rfl (by decide) (by decide))) <| oR <| Za (Zf (ZaT #[vs 0 o0 v2 v3] (o0) (L1) (v2) (v3) O0 F0 y8_0 N c8 0 2 rfl (by decide) (by decide))) <| oR <| oT <| Za (Zf (ZR #[vs 0 o0 v2 v3] (o0) (L1) (v2) (v3) O0 F0 y6_0 N c6 0 2 rfl (by decide) (by decide))) <| oR <| Za (Zf (ZP #[vs 0 o0 v2 v3] (o0) (L1) (v2) (v3) O0 F0 y5_0 N c5 0 2 rfl (by decide) (by decide))) <| oR <| oT <| oT <| oT <| Za (Zf (Zai #[vs 1 0 v4.length v4.length, vn] (v4)  true N c0 1 2 rfl (by decide) (by decide))) <| oR Zd) rfl (by decide) (by rfl) rr ⟨rfl, trivial⟩
        ·
         exact Mach.ok_fin (M := Zl o0 L1 n2 n3 a4 O0 N) (cd := 1000000) (cm := 0) (r := (.r0 (false) : Zh)) (fu := 4000) (orc := (Zi [(0, true), (1, true), (2, true), (3, false)] [] [] [] [(0, (Zah (v4)  true 1 2)), (1, (ZO (o0) (L1) (v2) (v3) O0 y5_0 0 2)), (2, (ZQ (o0) (L1) (v2) (v3) O0 y6_0 0 2))])) (live := [0]) (u := vf) (bl := [some (.ro O0)]) (ob := [((y5_0 == y6_0), false), (dP (ZM #[vs 0 o0 v2 v3] (o0) (L1) (v2) (v3) O0 y6_0 0 2), true), (dS O0, true), (dP (ZL #[vs 0 o0 v2 v3] (o0) (L1) (v2) (v3) O0 y5_0 0 2), true), (dS O0, true), ((v8 == v10), true), ((v7 == v9), true), (((0 : Int) == v6), true), (dP (ZY #[vs 1 0 v4.length v4.length, vn] (v4)  true 1 2), true), (dS (Zb eI v4), true)]) (fun gv => by kernel_rfl) (oF <| Za (Zf (ZR #[vs 0 o0 v2 v3] (o0) (L1) (v2) (v3) O0 F0 y6_0 N c6 0 2 rfl (by decide) (by decide))) <| oR <| Za (Zf (ZP #[vs 0 o0 v2 v3] (o0) (L1) (v2) (v3) O0 F0 y5_0 N c5 0 2 rfl (by decide) (by decide))) <| oR <| oT <| oT <| oT <| Za (Zf (Zai #[vs 1 0 v4.length v4.length, vn] (v4)  true N c0 1 2 rfl (by decide) (by decide))) <| oR Zd) rfl (by decide) (by rfl) rr ⟨rfl, trivial⟩
     ·
      exact Mach.ok_fin (M := Zl o0 L1 n2 n3 a4 O0 N) (cd := 1000000) (cm := 0) (r := (.r0 (false) : Zh)) (fu := 4000) (orc := (Zi [(0, true), (1, true), (2, false)] [] [] [] [(0, (Zah (v4)  true 1 2))])) (live := [0]) (u := vf) (bl := [some (.ro O0)]) (ob := [((v8 == v10), false), ((v7 == v9), true), (((0 : Int) == v6), true), (dP (ZY #[vs 1 0 v4.length v4.length, vn] (v4)  true 1 2), true), (dS (Zb eI v4), true)]) (fun gv => by kernel_rfl) (oF <| oT <| oT <| Za (Zf (Zai #[vs 1 0 v4.length v4.length, vn] (v4)  true N c0 1 2 rfl (by decide) (by decide))) <| oR Zd) rfl (by decide) (by rfl) rr ⟨rfl, trivial⟩
    ·
     exact Mach.ok_fin (M := Zl o0 L1 n2 n3 a4 O0 N) (cd := 1000000) (cm := 0) (r := (.r0 (false) : Zh)) (fu := 4000) (orc := (Zi [(0, true), (1, false)] [] [] [] [(0, (Zah (v4)  true 1 2))])) (live := [0]) (u := vf) (bl := [some (.ro O0)]) (ob := [((v7 == v9), false), (((0 : Int) == v6), true), (dP (ZY #[vs 1 0 v4.length v4.length, vn] (v4)  true 1 2), true), (dS (Zb eI v4), true)]) (fun gv => by kernel_rfl) (oF <| oT <| Za (Zf (Zai #[vs 1 0 v4.length v4.length, vn] (v4)  true N c0 1 2 rfl (by decide) (by decide))) <| oR Zd) rfl (by decide) (by rfl) rr ⟨rfl, trivial⟩
   ·
    exact Mach.ok_fin (M := Zl o0 L1 n2 n3 a4 O0 N) (cd := 1000000) (cm := 0) (r := (.r0 (false) : Zh)) (fu := 4000) (orc := (Zi [(0, false)] [] [] [] [(0, (Zah (v4)  true 1 2))])) (live := [0]) (u := vf) (bl := [some (.ro O0)]) (ob := [(((0 : Int) == v6), false), (dP (ZY #[vs 1 0 v4.length v4.length, vn] (v4)  true 1 2), true), (dS (Zb eI v4), true)]) (fun gv => by kernel_rfl) (oF <| Za (Zf (Zai #[vs 1 0 v4.length v4.length, vn] (v4)  true N c0 1 2 rfl (by decide) (by decide))) <| oR Zd) rfl (by decide) (by rfl) rr ⟨rfl, trivial⟩
  ·
   obtain rfl : y0_0 = false := by simpa using g1
   exact Mach.ok_fin (M := Zl o0 L1 n2 n3 a4 O0 N) (cd := 1000000) (cm := 0) (r := (.r0 (false) : Zh)) (fu := 4000) (orc := (Zi [] [] [] [] [(0, (Zah (v4)  false 1 2))])) (live := [0]) (u := vf) (bl := [some (.ro O0)]) (ob := [(dP (ZY #[vs 1 0 v4.length v4.length, vn] (v4)  false 1 2), true), (dS (Zb eI v4), true)]) (fun gv => by kernel_rfl) (Za (Zf (Zai #[vs 1 0 v4.length v4.length, vn] (v4)  false N c0 1 2 rfl (by decide) (by decide))) <| oR Zd) rfl (by decide) (by rfl) rr ⟨rfl, trivial⟩

theorem ZkQ (o0 : Nat) (L1 : List R_iiii) (n2 n3 : Nat) (a4 : Int) (O0 : Obj) (F0 : Zs O0 o0 L1) (v2 v3 : Nat) (v4 v6 : List Int) (v8 v9 v10 v11 : Int) (N : Nat) : (Zl o0 L1 n2 n3 a4 O0 N).Ok Try.prog Zr (.h3m3 v2 v3 v4 v6 v8 v9 v10 v11 : Zo) (Zax L1 n2 n3 a4 N (.h3m3 v2 v3 v4 v6 v8 v9 v10 v11 : Zo)) := by
 show (Zl o0 L1 n2 n3 a4 O0 N).Ok Try.prog Zr (.h3m3 v2 v3 v4 v6 v8 v9 v10 v11 : Zo) (Zde L1 n2 n3 a4 N v2 v3 v4 v6 v8 v9 v10 v11)
 unfold Zde
 refine Mach.ok_bind (fun z0 c0 => ?_)
 cases z0 with
 | r0 y0_0 =>
  refine Mach.ok_ite (fun g1 => ?_) (fun g1 => ?_)
  ·
   subst g1
   refine Mach.ok_ite (fun g2 => ?_) (fun g2 => ?_)
   ·
    refine Mach.ok_ite (fun g3 => ?_) (fun g3 => ?_)
    ·
     refine Mach.ok_bind (fun z4 c4 => ?_)
     cases z4 with
     | r0 y4_0 =>
      refine Mach.ok_bind (fun z5 c5 => ?_)
      cases z5 with
      | r0 y5_0 =>
       refine Mach.ok_ite (fun g6 => ?_) (fun g6 => ?_)
       ·
        refine Mach.ok_bind (fun z7 c7 => ?_)
        cases z7 with
        | r0 =>
         refine Mach.ok_bind (fun z8 c8 => ?_)
         cases z8 with
         | r0 =>
          refine Mach.ok_bind (fun z9 c9 => ?_)
          cases z9 with
          | r0 =>
           exact Mach.ok_fin (M := Zl o0 L1 n2 n3 a4 O0 N) (cd := 1000000) (cm := 0) (r := (.r0 (true) : Zh)) (fu := 4000) (orc := (Zi [(1, true), (2, true), (3, true)] [] [] [] [(0, (Zal (v4) (v6)  true 1 2 3)), (1, (ZO (o0) (L1) (v2) (v3) O0 y4_0 0 3)), (2, (ZQ (o0) (L1) (v2) (v3) O0 y5_0 0 3)), (3, (Zb1 (o0) (L1) (v2) (v3) O0  0 3)), (4, (Zb3 (o0) (L1) (v2) (v3) O0  0 3)), (5, (Za1     3))])) (live := [0]) (u := vT) (bl := [some (.ro O0)]) (ob := [(dP (Zaw #[vn, vn]     3), true), (dP (Zbr #[vs 0 o0 v2 v3] (o0) (L1) (v2) (v3) O0  0 3), true), (dS O0, true), (dP (Zbq #[vs 0 o0 v2 v3] (o0) (L1) (v2) (v3) O0  0 3), true), (dS O0, true), ((y4_0 == y5_0), true), (dP (ZM #[vs 0 o0 v2 v3] (o0) (L1) (v2) (v3) O0 y5_0 0 3), true), (dS O0, true), (dP (ZL #[vs 0 o0 v2 v3] (o0) (L1) (v2) (v3) O0 y4_0 0 3), true), (dS O0, true), ((v9 == v11), true), ((v8 == v10), true), (dP (Zaj #[vs 1 0 v4.length v4.length, vs 2 0 v6.length v6.length] (v4) (v6)  true 1 2 3), true), (dS (Zb eI v4), true), (dS (Zb eI v6), true)]) (fun gv => by kernel_rfl) (Za (Zf (Za2 #[vn, vn]    N c9  3 rfl (by decide) (by decide))) <| Za (Zf (Zb4 #[vs 0 o0 v2 v3] (o0) (L1) (v2) (v3) O0 F0  N c8 0 3 rfl (by decide) (by decide))) <| oR <| Za (Zf (Zb2 #[vs 0 o0 v2 v3] (o0) (L1) (v2) (v3) O0 F0  N c7 0 3 rfl (by decide) (by decide))) <| oR <| oT <| Za (Zf (ZR #[vs 0 o0 v2 v3] (o0) (L1) (v2) (v3) O0 F0 y5_0 N c5 0 3 rfl (by decide) (by decide))) <| oR <| Za (Zf (ZP #[vs 0 o0 v2 v3] (o0) (L1) (v2) (v3) O0 F0 y4_0 N c4 0 3 rfl (by decide) (by decide))) <| oR <| oT <| oT <| Za (Zf (Zam #[vs 1 0 v4.length v4.length, vs 2 0 v6.length v6.length] (v4) (v6)  true N c0 1 2 3 rfl (by decide) (by decide))) <| oR <| oR Zd) rfl (by decide) (by rfl) rr ⟨rfl, trivial⟩
         | r1 y8_0 =>
          refine Mach.ok_bind (fun z9 c9 => ?_)
          cases z9 with
          | r0 y9_0 =>
           refine Mach.ok_ite (fun g10 => ?_) (fun g10 => ?_)
           ·
            subst g10
            exact Mach.ok_fin (M := Zl o0 L1 n2 n3 a4 O0 N) (cd := 1000000) (cm := 0) (r := (.r0 (true) : Zh)) (fu := 4000) (orc := (Zi [(1, true), (2, true), (3, true)] [] [] [] [(0, (Zal (v4) (v6)  true 1 2 3)), (1, (ZO (o0) (L1) (v2) (v3) O0 y4_0 0 3)), (2, (ZQ (o0) (L1) (v2) (v3) O0 y5_0 0 3)), (3, (Zb1 (o0) (L1) (v2) (v3) O0  0 3)), (4, (ZaU (o0) (L1) (v2) (v3) O0 y8_0 0 3)), (5, (Zaf (y8_0)  true 3 4))])) (live := [0]) (u := vT) (bl := [some (.ro O0)]) (ob := [(dP (ZX #[vn, vs 3 0 y8_0.length y8_0.length] (y8_0)  true 3 4), true), (dS (Zb eI y8_0), true), (dP (ZaK #[vs 0 o0 v2 v3] (o0) (L1) (v2) (v3) O0 y8_0 0 3), true), (dS O0, true), (dP (Zbq #[vs 0 o0 v2 v3] (o0) (L1) (v2) (v3) O0  0 3), true), (dS O0, true), ((y4_0 == y5_0), true), (dP (ZM #[vs 0 o0 v2 v3] (o0) (L1) (v2) (v3) O0 y5_0 0 3), true), (dS O0, true), (dP (ZL #[vs 0 o0 v2 v3] (o0) (L1) (v2) (v3) O0 y4_0 0 3), true), (dS O0, true), ((v9 == v11), true), ((v8 == v10), true), (dP (Zaj #[vs 1 0 v4.length v4.length, vs 2 0 v6.length v6.length] (v4) (v6)  true 1 2 3), true), (dS (Zb eI v4), true), (dS (Zb eI v6), true)]) (fun gv => by kernel_rfl) (Za (Zf (Zag #[vn, vs 3 0 y8_0.length y8_0.length] (y8_0)  true N c9 3 4 rfl (by decide) (by decide))) <| oR <| Za (Zf (ZaV #[vs 0 o0 v2 v3] (o0) (L1) (v2) (v3) O0 F0 y8_0 N c8 0 3 rfl (by decide) (by decide))) <| oR <| Za (Zf (Zb2 #[vs 0 o0 v2 v3] (o0) (L1) (v2) (v3) O0 F0  N c7 0 3 rfl (by decide) (by decide))) <| oR <| oT <| Za (Zf (ZR #[vs 0 o0 v2 v3] (o0) (L1) (v2) (v3) O0 F0 y5_0 N c5 0 3 rfl (by decide) (by decide))) <| oR <| Za (Zf (ZP #[vs 0 o0 v2 v3] (o0) (L1) (v2) (v3) O0 F0 y4_0 N c4 0 3 rfl (by decide) (by decide))) <| oR <| oT <| oT <| Za (Zf (Zam #[vs 1 0 v4.length v4.length, vs 2 0 v6.length v6.length] (v4) (v6)  true N c0 1 2 3 rfl (by decide) (by decide))) <| oR <| oR Zd) rfl (by decide) (by rfl) rr ⟨rfl, trivial⟩
           ·
            obtain rfl : y9_0 = false := by simpa using g10
            exact Mach.ok_fin (M := Zl o0 L1 n2 n3 a4 O0 N) (cd := 1000000) (cm := 0) (r := (.r0 (false) : Zh)) (fu := 4000) (orc := (Zi [(1, true), (2, true), (3, true)] [] [] [] [(0, (Zal (v4) (v6)  true 1 2 3)), (1, (ZO (o0) (L1) (v2) (v3) O0 y4_0 0 3)), (2, (ZQ (o0) (L1) (v2) (v3) O0 y5_0 0 3)), (3, (Zb1 (o0) (L1) (v2) (v3) O0  0 3)), (4, (ZaU (o0) (L1) (v2) (v3) O0 y8_0 0 3)), (5, (Zaf (y8_0)  false 3 4))])) (live := [0]) (u := vf) (bl := [some (.ro O0)]) (ob := [(dP (ZX #[vn, vs 3 0 y8_0.length y8_0.length] (y8_0)  false 3 4), true), (dS (Zb eI y8_0), true), (dP (ZaK #[vs 0 o0 v2 v3] (o0) (L1) (v2) (v3) O0 y8_0 0 3), true), (dS O0, true), (dP (Zbq #[vs 0 o0 v2 v3] (o0) (L1) (v2) (v3) O0  0 3), true), (dS O0, true), ((y4_0 == y5_0), true), (dP (ZM #[vs 0 o0 v2 v3] (o0) (L1) (v2) (v3) O0 y5_0 0 3), true), (dS O0, true), (dP (ZL #[vs 0 o0 v2 v3] (o0) (L1) (v2) (v3) O0 y4_0 0 3), true), (dS O0, true), ((v9 == v11), true), ((v8 == v10), true), (dP (Zaj #[vs 1 0 v4.length v4.length, vs 2 0 v6.length v6.length] (v4) (v6)  true 1 2 3), true), (dS (Zb eI v4), true), (dS (Zb eI v6), true)]) (fun gv => by kernel_rfl) (Za (Zf (Zag #[vn, vs 3 0 y8_0.length y8_0.length] (y8_0)  false N c9 3 4 rfl (by decide) (by decide))) <| oR <| Za (Zf (ZaV #[vs 0 o0 v2 v3] (o0) (L1) (v2) (v3) O0 F0 y8_0 N c8 0 3 rfl (by decide) (by decide))) <| oR <| Za (Zf (Zb2 #[vs 0 o0 v2 v3] (o0) (L1) (v2) (v3) O0 F0  N c7 0 3 rfl (by decide) (by decide))) <| oR <| oT <| Za (Zf (ZR #[vs 0 o0 v2 v3] (o0) (L1) (v2) (v3) O0 F0 y5_0 N c5 0 3 rfl (by decide) (by decide))) <| oR <| Za (Zf (ZP #[vs 0 o0 v2 v3] (o0) (L1) (v2) (v3) O0 F0 y4_0 N c4 0 3 rfl (by decide) (by decide))) <| oR <| oT <| oT <| Za (Zf (Zam #[vs 1 0 v4.length v4.length, vs 2 0 v6.length v6.length] (v4) (v6)  true N c0 1 2 3 rfl (by decide) (by decide))) <| oR <| oR Zd) rfl (by decide) (by rfl) rr ⟨rfl, trivial⟩
        | r1 y7_0 =>
         refine Mach.ok_bind (fun z8 c8 => ?_)
         cases z8 with
         | r0 =>
          refine Mach.ok_bind (fun z9 c9 => ?_)
          cases z9 with
          | r0 y9_0 =>
           refine Mach.ok_ite (fun g10 => ?_) (fun g10 => ?_)
           ·
            subst g10
            exact Mach.ok_fin (M := Zl o0 L1 n2 n3 a4 O0 N) (cd := 1000000) (cm := 0) (r := (.r0 (true) : Zh)) (fu := 4000) (orc := (Zi [(1, true), (2, true), (3, true)] [] [] [] [(0, (Zal (v4) (v6)  true 1 2 3)), (1, (ZO (o0) (L1) (v2) (v3) O0 y4_0 0 3)), (2, (ZQ (o0) (L1) (v2) (v3) O0 y5_0 0 3)), (3, (ZaS (o0) (L1) (v2) (v3) O0 y7_0 0 3)), (4, (Zb3 (o0) (L1) (v2) (v3) O0  0 4)), (5, (Zah (y7_0)  true 3 4))])) (live := [0]) (u := vT) (bl := [some (.ro O0)]) (ob := [(dP (ZY #[vs 3 0 y7_0.length y7_0.length, vn] (y7_0)  true 3 4), true), (dS (Zb eI y7_0), true), (dP (Zbr #[vs 0 o0 v2 v3] (o0) (L1) (v2) (v3) O0  0 4), true), (dS O0, true), (dP (ZaJ #[vs 0 o0 v2 v3] (o0) (L1) (v2) (v3) O0 y7_0 0 3), true), (dS O0, true), ((y4_0 == y5_0), true), (dP (ZM #[vs 0 o0 v2 v3] (o0) (L1) (v2) (v3) O0 y5_0 0 3), true), (dS O0, true), (dP (ZL #[vs 0 o0 v2 v3] (o0) (L1) (v2) (v3) O0 y4_0 0 3), true), (dS O0, true), ((v9 == v11), true), ((v8 == v10), true), (dP (Zaj #[vs 1 0 v4.length v4.length, vs 2 0 v6.length v6.length] (v4) (v6)  true 1 2 3), true), (dS (Zb eI v4), true), (dS (Zb eI v6), true)]) (fun gv => by kernel_rfl) (Za (Zf (Zai #[vs 3 0 y7_0.length y7_0.length, vn] (y7_0)  true N c9 3 4 rfl (by decide) (by decide))) <| oR <| Za (Zf (Zb4 #[vs 0 o0 v2 v3] (o0) (L1) (v2) (v3) O0 F0  N c8 0 4 rfl (by decide) (by decide))) <| oR <| Za (Zf (ZaT #[vs 0 o0 v2 v3] (o0) (L1) (v2) (v3) O0 F0 y7_0 N c7 0 3 rfl (by decide) (by decide))) <| oR <| oT <| Za (Zf (ZR #[vs 0 o0 v2 v3] (o0) (L1) (v2) (v3) O0 F0 y5_0 N c5 0 3 rfl (by decide) (by decide))) <| oR <| Za (Zf (ZP #[vs 0 o0 v2 v3] (o0) (L1) (v2) (v3) O0 F0 y4_0 N c4 0 3 rfl (by decide) (by decide))) <| oR <| oT <| oT <| Za (Zf (Zam #[vs 1 0 v4.length v4.length, vs 2 0 v6.length v6.length] (v4) (v6)  true N c0 1 2 3 rfl (by decide) (by decide))) <| oR <| oR Zd) rfl (by decide) (by rfl) rr ⟨rfl, trivial⟩
           ·
            obtain rfl : y9_0 = false := by simpa using g10
            exact Mach.ok_fin (M := Zl o0 L1 n2 n3 a4 O0 N) (cd := 1000000) (cm := 0) (r := (.r0 (false) : Zh)) (fu := 4000) (orc := (Zi [(1, true), (2, true), (3, true)] [] [] [] [(0, (Zal (v4) (v6)  true 1 2 3)), (1, (ZO (o0) (L1) (v2) (v3) O0 y4_0 0 3)), (2, (ZQ (o0) (L1) (v2) (v3) O0 y5_0 0 3)), (3, (ZaS (o0) (L1) (v2) (v3) O0 y7_0 0 3)), (4, (Zb3 (o0) (L1) (v2) (v3) O0  0 4)), (5, (Zah (y7_0)  false 3 4))])) (live := [0]) (u := vf) (bl := [some (.ro O0)]) (ob := [(dP (ZY #[vs 3 0 y7_0.length y7_0.length, vn] (y7_0)  false 3 4), true), (dS (Zb eI y7_0), true), (dP (Zbr #[vs 0 o0 v2 v3] (o0) (L1) (v2) (v3) O0  0 4), true), (dS O0, true), (dP (ZaJ #[vs 0 o0 v2 v3] (o0) (L1) (v2) (v3) O0 y7_0 0 3), true), (dS O0, true), ((y4_0 == y5_0), true), (dP (ZM #[vs 0 o0 v2 v3] (o0) (L1) (v2) (v3) O0 y5_0 0 3), true), (dS O0, true), (dP (ZL #[vs 0 o0 v2 v3] (o0) (L1) (v2) (v3) O0 y4_0 0 3), true), (dS O0, true), ((v9 == v11), true), ((v8 == v10), true), (dP (Zaj #[vs 1 0 v4.length v4.length, vs 2 0 v6.length v6.length] (v4) (v6)  true 1 2 3), true), (dS (Zb eI v4), true), (dS (Zb eI v6), true)]) (fun gv => by kernel_rfl) (Za (Zf (Zai #[vs 3 0 y7_0.length y7_0.length, vn] (y7_0)  false N c9 3 4 rfl (by decide) (by decide))) <| oR <| Za (Zf (Zb4 #[vs 0 o0 v2 v3] (o0) (L1) (v2) (v3) O0 F0  N c8 0 4 rfl (by decide) (by decide))) <| oR <| Za (Zf (ZaT #[vs 0 o0 v2 v3] (o0) (L1) (v2) (v3) O0 F0 y7_0 N c7 0 3 rfl (by decide) (by decide))) <| oR <| oT <| Za (Zf (ZR #[vs 0 o0 v2 v3] (o0) (L1) (v2) (v3) O0 F0 y5_0 N c5 0 3 rfl (by decide) (by decide))) <| oR <| Za (Zf (ZP #[vs 0 o0 v2 v3] (o0) (L1) (v2) (v3) O0 F0 y4_0 N c4 0 3 rfl (by decide) (by decide))) <| oR <| oT <| oT <| Za (Zf (Zam #[vs 1 0 v4.length v4.length, vs 2 0 v6.length v6.length] (v4) (v6)  true N c0 1 2 3 rfl (by decide) (by decide))) <| oR <| oR Zd) rfl (by decide) (by rfl) rr ⟨rfl, trivial⟩
         | r1 y8_0 =>
          refine Mach.ok_bind (fun z9 c9 => ?_)
          cases z9 with
          | r0 y9_0 =>
           refine Mach.ok_ite (fun g10 => ?_) (fun g10 => ?_)
           ·
            subst g10
            exact Mach.ok_fin (M := Zl o0 L1 n2 n3 a4 O0 N) (cd := 1000000) (cm := 0) (r := (.r0 (true) : Zh)) (fu := 4000) (orc := (Zi [(1, true), (2, true), (3, true)] [] [] [] [(0, (Zal (v4) (v6)  true 1 2 3)), (1, (ZO (o0) (L1) (v2) (v3) O0 y4_0 0 3)), (2, (ZQ (o0) (L1) (v2) (v3) O0 y5_0 0 3)), (3, (ZaS (o0) (L1) (v2) (v3) O0 y7_0 0 3)), (4, (ZaU (o0) (L1) (v2) (v3) O0 y8_0 0 4)), (5, (Zal (y7_0) (y8_0)  true 3 4 5))])) (live := [0]) (u := vT) (bl := [some (.ro O0)]) (ob := [(dP (Zaj #[vs 3 0 y7_0.length y7_0.length, vs 4 0 y8_0.length y8_0.length] (y7_0) (y8_0)  true 3 4 5), true), (dS (Zb eI y7_0), true), (dS (Zb eI y8_0), true), (dP (ZaK #[vs 0 o0 v2 v3] (o0) (L1) (v2) (v3) O0 y8_0 0 4), true), (dS O0, true), (dP (ZaJ #[vs 0 o0 v2 v3] (o0) (L1) (v2) (v3) O0 y7_0 0 3), true), (dS O0, true), ((y4_0 == y5_0), true), (dP (ZM #[vs 0 o0 v2 v3] (o0) (L1) (v2) (v3) O0 y5_0 0 3), true), (dS O0, true), (dP (ZL #[vs 0 o0 v2 v3] (o0) (L1) (v2) (v3) O0 y4_0 0 3), true), (dS O0, true), ((v9 == v11), true), ((v8 == v10), true), (dP (Zaj #[vs 1 0 v4.length v4.length, vs 2 0 v6.length v6.length] (v4) (v6)  true 1 2 3), true), (dS (Zb eI v4), true), (dS (Zb eI v6), true)]) (fun gv => by kernel_rfl) (Za (Zf (Zam #[vs 3 0 y7_0.length y7_0.length, vs 4 0 y8_0.length y8_0.length] (y7_0) (y8_0)  true N c9 3 4 5 rfl (by decide) (by decide))) <| oR <| oR <| Za (Zf (ZaV #[vs 0 o0 v2 v3] (o0) (L1) (v2) (v3) O0 F0 y8_0 N c8 0 4 rfl (by decide) (by decide))) <| oR <| Za (Zf (ZaT #[vs 0 o0 v2 v3] (o0) (L1) (v2) (v3) O0 F0 y7_0 N c7 0 3 rfl (by decide) (by decide))) <| oR <| oT <| Za (Zf (ZR #[vs 0 o0 v2 v3] (o0) (L1) (v2) (v3) O0 F0 y5_0 N c5 0 3 rfl (by decide) (by decide))) <| oR <| Za (Zf (ZP #[vs 0 o0 v2 v3] (o0) (L1) (v2) (v3) O0 F0 y4_0 N c4 0 3 rfl (by decide) (by decide))) <| oR <| oT <| oT <| Za (Zf (Zam #[vs 1 0 v4.length v4.length, vs 2 0 v6.length v6.length] (v4) (v6)  true N c0 1 2 3 rfl (by decide) (by decide))) <| oR <| oR Zd) rfl (by decide) (by rfl) rr ⟨rfl, trivial⟩
           ·
            obtain rfl : y9_0 = false := by simpa using g10
            exact Mach.ok_fin (M := Zl o0 L1 n2 n3 a4 O0 N) (cd := 1000000) (cm := 0) (r := (.r0 (false) : Zh)) (fu := 4000) (orc := (Zi [(1, true), (2, true), (3, true)] [] [] [] [(0, (Zal (v4) (v6)  true 1 2 3)), (1, (ZO (o0) (L1) (v2) (v3) O0 y4_0 0 3)), (2, (ZQ (o0) (L1) (v2) (v3) O0 y5_0 0 3)), (3, (ZaS (o0) (L1) (v2) (v3) O0 y7_0 0 3)), (4, (ZaU (o0) (L1) (v2) (v3) O0 y8_0 0 4)), (5, (Zal (y7_0) (y8_0)  false 3 4 5))])) (live := [0]) (u := vf) (bl := [some (.ro O0)]) (ob := [(dP (Zaj #[vs 3 0 y7_0.length y7_0.length, vs 4 0 y8_0.length y8_0.length] (y7_0) (y8_0)  false 3 4 5), true), (dS (Zb eI y7_0), true), (dS (Zb eI y8_0), true), (dP (ZaK #[vs 0 o0 v2 v3] (o0) (L1) (v2) (v3) O0 y8_0 0 4), true), (dS O0, true), (dP (ZaJ #[vs 0 o0 v2 v3] (o0) (L1) (v2) (v3) O0 y7_0 0 3), true), (dS O0, true), ((y4_0 == y5_0), true), (dP (ZM #[vs 0 o0 v2 v3] (o0) (L1) (v2) (v3) O0 y5_0 0 3), true), (dS O0, true), (dP (ZL #[vs 0 o0 v2 v3] (o0) (L1) (v2) (v3) O0 y4_0 0 3), true), (dS O0, true), ((v9 == v11), true), ((v8 == v10), true), (dP (Zaj #[vs 1 0 v4.length v4.length, vs 2 0 v6.length v6.length] (v4) (v6)  true 1 2 3), true), (dS (Zb eI v4), true), (dS (Zb eI v6), true)]) (fun gv => by kernel_rfl) (Za (Zf (Zam #[vs 3 0 y7_0.length y7_0.length, vs 4 0 y8_0.length y8_0.length] (y7_0) (y8_0)  false N c9 3 4 5 rfl (by decide) (by decide))) <| oR <| oR <| Za (Zf (ZaV #[vs 0 o0 v2 v3] (o0) (L1) (v2) (v3) O0 F0 y8_0 N c8 0 4 rfl (by decide) (by decide))) <| oR <| Za (Zf (ZaT #[vs 0 o0 v2 v3] (o0) (L1) (v2) (v3) O0 F0 y7_0 N c7 0 3 rfl (by decide) (by decide))) <| oR <| oT <| Za (Zf (ZR #[vs 0 o0 v2 v3] (o0) (L1) (v2) (v3) O0 F0 y5_0 N c5 0 3 rfl (by decide) (by decide))) <| oR <| Za (Zf (ZP #[vs 0 o0 v2 v3] (o0) (L1) (v2) (v3) O0 F0 y4_0 N c4 0 3 rfl (by decide) (by decide))) <| oR <| oT <| oT <| Za (Zf (Zam #[vs 1 0 v4.length v4.length, vs 2 0 v6.length v6.length] (v4) (v6)  true N c0 1 2 3 rfl (by decide) (by decide))) <| oR <| oR Zd) rfl (by decide) (by rfl) rr ⟨rfl, trivial⟩
       ·
        exact Mach.ok_fin (M := Zl o0 L1 n2 n3 a4 O0 N) (cd := 1000000) (cm := 0) (r := (.r0 (false) : Zh)) (fu := 4000) (orc := (Zi [(1, true), (2, true), (3, false)] [] [] [] [(0, (Zal (v4) (v6)  true 1 2 3)), (1, (ZO (o0) (L1) (v2) (v3) O0 y4_0 0 3)), (2, (ZQ (o0) (L1) (v2) (v3) O0 y5_0 0 3))])) (live := [0]) (u := vf) (bl := [some (.ro O0)]) (ob := [((y4_0 == y5_0), false), (dP (ZM #[vs 0 o0 v2 v3] (o0) (L1) (v2) (v3) O0 y5_0 0 3), true), (dS O0, true), (dP (ZL #[vs 0 o0 v2 v3] (o0) (L1) (v2) (v3) O0 y4_0 0 3), true), (dS O0, true), ((v9 == v11), true), ((v8 == v10), true), (dP (Zaj #[vs 1 0 v4.length v4.length, vs 2 0 v6.length v6.length] (v4) (v6)  true 1 2 3), true), (dS (Zb eI v4), true), (dS (Zb eI v6), true)]) (fun gv => by kernel_rfl) (oF <| Za (Zf (ZR #[vs 0 o0 v2 v3] (o0) (L1) (v2) (v3) O0 F0 y5_0 N c5 0 3 rfl (by decide) (by decide))) <| oR <| Za (Zf (ZP #[vs 0 o0 v2 v3] (o0) (L1) (v2) (v3) O0 F0 y4_0 N c4 0 3 rfl (by decide) (by decide))) <| oR <| oT <| oT <| Za (Zf (Zam #[vs 1 0 v4.length v4.length, vs 2 0 v6.length v6.length] (v4) (v6)  true N c0 1 2 3 rfl (by decide) (by decide))) <| oR <| oR Zd) rfl (by decide) (by rfl) rr ⟨rfl, trivial⟩
    ·
     exact Mach.ok_fin (M := Zl o0 L1 n2 n3 a4 O0 N) (cd := 1000000) (cm := 0) (r := (.r0 (false) : Zh)) (fu := 4000) (orc := (Zi [(1, true), (2, false)] [] [] [] [(0, (Zal (v4) (v6)  true 1 2 3))])) (live := [0]) (u := vf) (bl := [some (.ro O0)]) (ob := [((v9 == v11), false), ((v8 == v10), true), (dP (Zaj #[vs 1 0 v4.length v4.length, vs 2 0 v6.length v6.length] (v4) (v6)  true 1 2 3), true), (dS (Zb eI v4), true), (dS (Zb eI v6), true)]) (fun gv => by kernel_rfl) (oF <| oT <| Za (Zf (Zam #[vs 1 0 v4.length v4.length, vs 2 0 v6.length v6.length] (v4) (v6)  true N c0 1 2 3 rfl (by decide) (by decide))) <| oR <| oR Zd) rfl (by decide) (by rfl) rr ⟨rfl, trivial⟩
   ·
    exact Mach.ok_fin (M := Zl o0 L1 n2 n3 a4 O0 N) (cd := 1000000) (cm := 0) (r := (.r0 (false) : Zh)) (fu := 4000) (orc := (Zi [(1, false)] [] [] [] [(0, (Zal (v4) (v6)  true 1 2 3))])) (live := [0]) (u := vf) (bl := [some (.ro O0)]) (ob := [((v8 == v10), false), (dP (Zaj #[vs 1 0 v4.length v4.length, vs 2 0 v6.length v6.length] (v4) (v6)  true 1 2 3), true), (dS (Zb eI v4), true), (dS (Zb eI v6), true)]) (fun gv => by kernel_rfl) (oF <| Za (Zf (Zam #[vs 1 0 v4.length v4.length, vs 2 0 v6.length v6.length] (v4) (v6)  true N c0 1 2 3 rfl (by decide) (by decide))) <| oR <| oR Zd) rfl (by decide) (by rfl) rr ⟨rfl, trivial⟩
  ·
   obtain rfl : y0_0 = false := by simpa using g1
   exact Mach.ok_fin (M := Zl o0 L1 n2 n3 a4 O0 N) (cd := 1000000) (cm := 0) (r := (.r0 (false) : Zh)) (fu := 4000) (orc := (Zi [] [] [] [] [(0, (Zal (v4) (v6)  false 1 2 3))])) (live := [0]) (u := vf) (bl := [some (.ro O0)]) (ob := [(dP (Zaj #[vs 1 0 v4.length v4.length, vs 2 0 v6.length v6.length] (v4) (v6)  false 1 2 3), true), (dS (Zb eI v4), true), (dS (Zb eI v6), true)]) (fun gv => by kernel_rfl) (Za (Zf (Zam #[vs 1 0 v4.length v4.length, vs 2 0 v6.length v6.length] (v4) (v6)  false N c0 1 2 3 rfl (by decide) (by decide))) <| oR <| oR Zd) rfl (by decide) (by rfl) rr ⟨rfl, trivial⟩

theorem Znb (o0 : Nat) (L1 : List R_iiii) (n2 n3 : Nat) (a4 : Int) (O0 : Obj) (F0 : Zs O0 o0 L1) (N : Nat) : (Zl o0 L1 n2 n3 a4 O0 N).Enter Try.prog Zr #[vs 0 o0 n2 n3, vi a4] (ZdN L1 n2 n3 a4 N) := by
 unfold ZdN
 refine Mach.en_ite (fun g0 => ?_) (fun g0 => ?_)
 ·
  refine Mach.en_ite (fun g1 => ?_) (fun g1 => ?_)
  ·
   exact Mach.en_cut (bK := Z5 1) (M := Zl o0 L1 n2 n3 a4 O0 N) (cd := 0) (cm := 1) (y := (.h1m0 ((60 - 0)) ((n3 - 0)) : Zo)) (fu := 4000) (orc := (Zi [(0, true)] [] [] [] [(0, .sl 0 60)])) (live := [0]) (tv := [some (Value.slice (some ⟨0, (o0 + (0 * 4)), none⟩) (60 - 0) (n3 - 0)), some (vi a4)]) (bl := [some (.ro O0)]) (ob := [(dP (0 ≤ 60 ∧ 60 ≤ n3), true), ((60 : Int) == Int.ofNat 60, true), (dS 0, true), ((decide ((n2 : Int) > (60 : Int))), true)]) rfl rfl (show Zx (Z5 1).2 = [] from rfl) (by kernel_rfl) (Za (Zf ⟨ltA, ltA⟩) <| oI <| oR <| oY Zd) rfl (by decide) (by rfl) ⟨⟨Eq.trans (show (vs 0 o0 (60 - 0) (n3 - 0) : Value) = Value.slice (some ⟨0, (o0 + (0 * 4)), none⟩) (60 - 0) (n3 - 0) from (Zad eqA rfl rfl)) (by rfl), by rfl⟩, ⟨rr, trivial⟩⟩ ⟨rfl, trivial⟩
  ·
   exact Mach.en_none
 ·
  exact Mach.en_cut (bK := Z5 1) (M := Zl o0 L1 n2 n3 a4 O0 N) (cd := 0) (cm := 1) (y := (.h1m0 (n2) (n3) : Zo)) (fu := 4000) (orc := (Zi [(0, false)] [] [] [] [])) (live := [0]) (tv := [some (vs 0 o0 n2 n3), some (vi a4)]) (bl := [some (.ro O0)]) (ob := [((decide ((n2 : Int) > (60 : Int))), false)]) rfl rfl (show Zx (Z5 1).2 = [] from rfl) (by kernel_rfl) (oN Zd) rfl (by decide) (by rfl) ⟨rr, ⟨rr, trivial⟩⟩ ⟨rfl, trivial⟩

theorem Zlx (o0 : Nat) (L1 : List R_iiii) (n2 n3 : Nat) (a4 : Int) (O0 : Obj) (F0 : Zs O0 o0 L1) (N : Nat) (r : Zh) (h : Zhc L1 n2 n3 a4 N = some r) : LSpec Try.prog 4 #[vs 0 o0 n2 n3, vi a4] [.ro O0] (ZiS o0 L1 n2 n3 a4 O0 r) (Ziz o0 L1 n2 n3 a4 O0 r) :=
 Mach.spec Zao (Zl o0 L1 n2 n3 a4 O0 N) Try.func4 (by kernel_rfl) (by kernel_rfl) (fun x => by cases x <;> exact ZN _ rfl) (fun r => by cases r <;> exact ZN _ rfl) (fun x => by
  cases x with
  | h1m0 _ _ => exact fun _ => (show ¬ (1 ∈ Zx (Z5 1).2) from by decide +kernel)
  | h2m0 _ _ _ _ => exact fun _ => (show ¬ (2 ∈ Zx (Z5 2).2) from by decide +kernel)
  | h2m1 _ _ _ _ => exact fun _ => (show ¬ (2 ∈ Zx (Z5 2).2) from by decide +kernel)
  | h2m2 _ _ _ _ => exact fun _ => (show ¬ (2 ∈ Zx (Z5 2).2) from by decide +kernel)
  | h2m3 _ _ _ _ => exact fun _ => (show ¬ (2 ∈ Zx (Z5 2).2) from by decide +kernel)
  | h3m0 _ _ _ _ _ _ _ _ => exact fun _ => (show ¬ (3 ∈ Zx (Z5 3).2) from by decide +kernel)
  | h3m1 _ _ _ _ _ _ _ _ => exact fun _ => (show ¬ (3 ∈ Zx (Z5 3).2) from by decide +kernel)
  | h3m2 _ _ _ _ _ _ _ _ => exact fun _ => (show ¬ (3 ∈ Zx (Z5 3).2) from by decide +kernel)
  | h3m3 _ _ _ _ _ _ _ _ => exact fun _ => (show ¬ (3 ∈ Zx (Z5 3).2) from by decide +kernel)
  ) (fun x => (show (Zl o0 L1 n2 n3 a4 O0 N).Ok Try.prog Zr x (Zax L1 n2 n3 a4 N x) from by
  cases x with
  | h1m0 v2 v3 => exact ZkI o0 L1 n2 n3 a4 O0 F0 v2 v3 N
  | h2m0 v2 v3 v5 v6 => exact ZkJ o0 L1 n2 n3 a4 O0 F0 v2 v3 v5 v6 N
  | h2m1 v2 v3 v5 v6 => exact ZkK o0 L1 n2 n3 a4 O0 F0 v2 v3 v5 v6 N
  | h2m2 v2 v3 v5 v7 => exact ZkL o0 L1 n2 n3 a4 O0 F0 v2 v3 v5 v7 N
  | h2m3 v2 v3 v5 v7 => exact ZkM o0 L1 n2 n3 a4 O0 F0 v2 v3 v5 v7 N
  | h3m0 v2 v3 v4 v5 v6 v7 v8 v9 => exact ZkN o0 L1 n2 n3 a4 O0 F0 v2 v3 v4 v5 v6 v7 v8 v9 N
  | h3m1 v2 v3 v4 v5 v7 v8 v9 v10 => exact ZkO o0 L1 n2 n3 a4 O0 F0 v2 v3 v4 v5 v7 v8 v9 v10 N
  | h3m2 v2 v3 v4 v6 v7 v8 v9 v10 => exact ZkP o0 L1 n2 n3 a4 O0 F0 v2 v3 v4 v6 v7 v8 v9 v10 N
  | h3m3 v2 v3 v4 v6 v8 v9 v10 v11 => exact ZkQ o0 L1 n2 n3 a4 O0 F0 v2 v3 v4 v6 v8 v9 v10 v11 N
  )) (Znb o0 L1 n2 n3 a4 O0 F0 N) (n := N) h

noncomputable def ZmF  : ZeE → Value
 | .r0 => vp 0 0
noncomputable def Zly  : ZeE → List (Option AObj)
 | .r0 => [some (.cells [vn, vn, vn, vn, vn, v0, v0, vi (120 : Int)] 50)]

theorem ZqF  (N : Nat) : Fx Try.prog Zr Try.f26 [] #[vn] (ZmF ) (Zly ) (ZdO  N) := by
 unfold ZdO
 exact Zk (r := (.r0 : ZeE)) (fu := 4000) (orc := (Zi [] [] [] [] [])) (live := [0]) (u := vp 0 0) (bl := [some (.cells [vn, vn, vn, vn, vn, v0, v0, vi (120 : Int)] 50)]) (ob := []) (by kernel_rfl) Zd rfl (by decide) (by rfl) rr ⟨⟨rfl, ⟨[], by rfl⟩, by rfl⟩, trivial⟩

theorem Zpl  (N : Nat) (r : ZeE) (h : ZdO  N = some r) : LSpec Try.prog 26 #[vn] [] (ZmF  r) (Zly  r) :=
 ZaB Zao Try.func26 (by kernel_rfl) (by kernel_rfl) (fun r => by cases r <;> exact ZN _ rfl) (ZqF  N) h

noncomputable def Zg6  (n : Nat) : Zak := .call [] (vp n 0) [(n, some (.cells [vn, vn, vn, vn, vn, v0, v0, vi (120 : Int)] 50))] 1
def Zfv (A : Array Value)  (n : Nat) : Prop := Zw Try.prog 26 A [] (vp n 0) [(n, some (.cells [vn, vn, vn, vn, vn, v0, v0, vi (120 : Int)] 50))] n 1

theorem Zg7 (A : Array Value)  (N : Nat) (h : ZdO  N = some (.r0)) (n : Nat) (hA : A = #[vn]) (hnd : ([] : List Nat).Nodup) (hlt : ∀ k ∈ ([] : List Nat), k < n) : Zfv A   n :=
 Z0 hA (LSpec.callL (show LSpec Try.prog 26 #[vn] [] (vp 0 0) [some (.cells [vn, vn, vn, vn, vn, v0, v0, vi (120 : Int)] 50)] from Zpl  N _ h) [] n [0] rfl hnd hlt (show 0 ≤ 1 from by decide) (show ∀ j ∈ ([0] : List Nat), j < 1 from by decide) (by rfl) trivial (by rfl) ⟨rfl, trivial⟩ ⟨(by decide), trivial⟩ rfl rfl rfl rfl (Zc (Zn rfl (Zac rfl)) rfl))

noncomputable def Zlz  : Zer → Value
 | .r0 => Value.tuple #[vn, vi (120 : Int)]
noncomputable def Zkn  : Zer → List (Option AObj)
 | .r0 => []

theorem ZpU  (N : Nat) : Fx Try.prog Zr Try.f15 [] #[vn] (Zlz ) (Zkn ) (ZfC  N) := by
 unfold ZfC
 refine Za4 (fun z0 c0 => ?_)
 cases z0 with
 | r0 =>
  exact Zk (r := (.r0 : Zer)) (fu := 4000) (orc := (Zi [] [] [] [] [(0, (Zg6     0))])) (live := []) (u := Value.tuple #[vn, vi (120 : Int)]) (bl := []) (ob := [(dP (Zfv #[vn]     0), true)]) (by kernel_rfl) (Za (Zf (Zg7 #[vn]    N c0  0 rfl (by decide) (by decide))) Zd) rfl (by decide) (by rfl) rr trivial

theorem Zoo  (N : Nat) (r : Zer) (h : ZfC  N = some r) : LSpec Try.prog 15 #[vn] [] (Zlz  r) (Zkn  r) :=
 ZaB Zao Try.func15 (by kernel_rfl) (by kernel_rfl) (fun r => by cases r <;> exact ZN _ rfl) (ZpU  N) h

noncomputable def ZqG  (n : Nat) : Zak := .call [] (Value.tuple #[vn, vi (120 : Int)]) [] 0
def Zko (A : Array Value)  (n : Nat) : Prop := Zw Try.prog 15 A [] (Value.tuple #[vn, vi (120 : Int)]) [] n 0

theorem ZqH (A : Array Value)  (N : Nat) (h : ZfC  N = some (.r0)) (n : Nat) (hA : A = #[vn]) (hnd : ([] : List Nat).Nodup) (hlt : ∀ k ∈ ([] : List Nat), k < n) : Zko A   n :=
 Z0 hA (LSpec.callL (show LSpec Try.prog 15 #[vn] [] (Value.tuple #[vn, vi (120 : Int)]) [] from Zoo  N _ h) [] n [] rfl hnd hlt (show 0 ≤ 0 from by decide) (show ∀ j ∈ ([] : List Nat), j < 0 from by decide) (by rfl) trivial (by rfl) trivial trivial rfl rfl rfl rfl rfl)

noncomputable def Zl0  : Zes → Value
 | .r0 => v0
noncomputable def Zkp  : Zes → List (Option AObj)
 | .r0 => []

theorem ZpV  (N : Nat) : Fx Try.prog Zr Try.f11 [] #[vn] (Zl0 ) (Zkp ) (ZfD  N) := by
 unfold ZfD
 exact Zk (r := (.r0 : Zes)) (fu := 4000) (orc := (Zi [] [] [] [] [])) (live := []) (u := v0) (bl := []) (ob := []) (by kernel_rfl) Zd rfl (by decide) (by rfl) rr trivial

theorem Zop  (N : Nat) (r : Zes) (h : ZfD  N = some r) : LSpec Try.prog 11 #[vn] [] (Zl0  r) (Zkp  r) :=
 ZaB Zao Try.func11 (by kernel_rfl) (by kernel_rfl) (fun r => by cases r <;> exact ZN _ rfl) (ZpV  N) h

noncomputable def ZqI  (n : Nat) : Zak := .call [] (v0) [] 0
def Zkq (A : Array Value)  (n : Nat) : Prop := Zw Try.prog 11 A [] (v0) [] n 0

theorem ZqJ (A : Array Value)  (N : Nat) (h : ZfD  N = some (.r0)) (n : Nat) (hA : A = #[vn]) (hnd : ([] : List Nat).Nodup) (hlt : ∀ k ∈ ([] : List Nat), k < n) : Zkq A   n :=
 Z0 hA (LSpec.callL (show LSpec Try.prog 11 #[vn] [] (v0) [] from Zop  N _ h) [] n [] rfl hnd hlt (show 0 ≤ 0 from by decide) (show ∀ j ∈ ([] : List Nat), j < 0 from by decide) (by rfl) trivial (by rfl) trivial trivial rfl rfl rfl rfl rfl)

noncomputable def Zl1  : Zet → Value
 | .r0 => vi (120 : Int)
noncomputable def Zkr  : Zet → List (Option AObj)
 | .r0 => []

theorem ZpW  (N : Nat) : Fx Try.prog Zr Try.f13 [] #[vn] (Zl1 ) (Zkr ) (Zd6  N) := by
 unfold Zd6
 refine Za4 (fun z0 c0 => ?_)
 cases z0 with
 | r0 =>
  exact Zk (r := (.r0 : Zet)) (fu := 4000) (orc := (Zi [] [] [] [] [(0, (ZqI     0))])) (live := []) (u := vi (120 : Int)) (bl := []) (ob := [(dP (Zkq #[vn]     0), true)]) (by kernel_rfl) (Za (Zf (ZqJ #[vn]    N c0  0 rfl (by decide) (by decide))) Zd) rfl (by decide) (by rfl) rr trivial

theorem Zoq  (N : Nat) (r : Zet) (h : Zd6  N = some r) : LSpec Try.prog 13 #[vn] [] (Zl1  r) (Zkr  r) :=
 ZaB Zao Try.func13 (by kernel_rfl) (by kernel_rfl) (fun r => by cases r <;> exact ZN _ rfl) (ZpW  N) h

noncomputable def ZfZ  (n : Nat) : Zak := .call [] (vi (120 : Int)) [] 0
def ZeM (A : Array Value)  (n : Nat) : Prop := Zw Try.prog 13 A [] (vi (120 : Int)) [] n 0

theorem Zga (A : Array Value)  (N : Nat) (h : Zd6  N = some (.r0)) (n : Nat) (hA : A = #[vn]) (hnd : ([] : List Nat).Nodup) (hlt : ∀ k ∈ ([] : List Nat), k < n) : ZeM A   n :=
 Z0 hA (LSpec.callL (show LSpec Try.prog 13 #[vn] [] (vi (120 : Int)) [] from Zoq  N _ h) [] n [] rfl hnd hlt (show 0 ≤ 0 from by decide) (show ∀ j ∈ ([] : List Nat), j < 0 from by decide) (by rfl) trivial (by rfl) trivial trivial rfl rfl rfl rfl rfl)

noncomputable def Zl2  : Zeu → Value
 | .r0 => Value.tuple #[vn, vi (120 : Int)]
noncomputable def Zks  : Zeu → List (Option AObj)
 | .r0 => []

theorem ZpX  (N : Nat) : Fx Try.prog Zr Try.f16 [] #[vn] (Zl2 ) (Zks ) (ZfE  N) := by
 unfold ZfE
 refine Za4 (fun z0 c0 => ?_)
 cases z0 with
 | r0 =>
  exact Zk (r := (.r0 : Zeu)) (fu := 4000) (orc := (Zi [] [] [] [] [(0, (ZfZ     0))])) (live := []) (u := Value.tuple #[vn, vi (120 : Int)]) (bl := []) (ob := [(dP (ZeM #[vn]     0), true)]) (by kernel_rfl) (Za (Zf (Zga #[vn]    N c0  0 rfl (by decide) (by decide))) Zd) rfl (by decide) (by rfl) rr trivial

theorem Zor  (N : Nat) (r : Zeu) (h : ZfE  N = some r) : LSpec Try.prog 16 #[vn] [] (Zl2  r) (Zks  r) :=
 ZaB Zao Try.func16 (by kernel_rfl) (by kernel_rfl) (fun r => by cases r <;> exact ZN _ rfl) (ZpX  N) h

noncomputable def ZqK  (n : Nat) : Zak := .call [] (Value.tuple #[vn, vi (120 : Int)]) [] 0
def Zkt (A : Array Value)  (n : Nat) : Prop := Zw Try.prog 16 A [] (Value.tuple #[vn, vi (120 : Int)]) [] n 0

theorem ZqL (A : Array Value)  (N : Nat) (h : ZfE  N = some (.r0)) (n : Nat) (hA : A = #[vn]) (hnd : ([] : List Nat).Nodup) (hlt : ∀ k ∈ ([] : List Nat), k < n) : Zkt A   n :=
 Z0 hA (LSpec.callL (show LSpec Try.prog 16 #[vn] [] (Value.tuple #[vn, vi (120 : Int)]) [] from Zor  N _ h) [] n [] rfl hnd hlt (show 0 ≤ 0 from by decide) (show ∀ j ∈ ([] : List Nat), j < 0 from by decide) (by rfl) trivial (by rfl) trivial trivial rfl rfl rfl rfl rfl)

noncomputable def Zku (a0 : Int) : ZdT → Value
 | .r0 => Value.tuple #[vi (-1 : Int), v0]
noncomputable def ZjH (a0 : Int) : ZdT → List (Option AObj)
 | .r0 => []

theorem Zpm (a0 : Int) (N : Nat) : Fx Try.prog Zr Try.f17 [] #[vn, vi a0] (Zku a0) (ZjH a0) (Zfl a0 N) := by
 unfold Zfl
 refine Za4 (fun z0 c0 => ?_)
 cases z0 with
 | r0 =>
  exact Zk (r := (.r0 : ZdT)) (fu := 4000) (orc := (Zi [] [] [] [] [(0, (Zg6     0))])) (live := []) (u := Value.tuple #[vi (-1 : Int), v0]) (bl := []) (ob := [(dP (Zfv #[vn]     0), true)]) (by kernel_rfl) (Za (Zf (Zg7 #[vn]    N c0  0 rfl (by decide) (by decide))) Zd) rfl (by decide) (by rfl) rr trivial

theorem Znc (a0 : Int) (N : Nat) (r : ZdT) (h : Zfl a0 N = some r) : LSpec Try.prog 17 #[vn, vi a0] [] (Zku a0 r) (ZjH a0 r) :=
 ZaB Zao Try.func17 (by kernel_rfl) (by kernel_rfl) (fun r => by cases r <;> exact ZN _ rfl) (Zpm a0 N) h

noncomputable def ZpY (a0 : Int) (n : Nat) : Zak := .call [] (Value.tuple #[vi (-1 : Int), v0]) [] 0
def ZjI (A : Array Value) (a0 : Int) (n : Nat) : Prop := Zw Try.prog 17 A [] (Value.tuple #[vi (-1 : Int), v0]) [] n 0

theorem ZpZ (A : Array Value) (a0 : Int) (N : Nat) (h : Zfl a0 N = some (.r0)) (n : Nat) (hA : A = #[vn, vi a0]) (hnd : ([] : List Nat).Nodup) (hlt : ∀ k ∈ ([] : List Nat), k < n) : ZjI A a0  n :=
 Z0 hA (LSpec.callL (show LSpec Try.prog 17 #[vn, vi a0] [] (Value.tuple #[vi (-1 : Int), v0]) [] from Znc a0 N _ h) [] n [] rfl hnd hlt (show 0 ≤ 0 from by decide) (show ∀ j ∈ ([] : List Nat), j < 0 from by decide) (by rfl) trivial (by rfl) trivial trivial rfl rfl rfl rfl rfl)

noncomputable def Zkv (a0 : Int) : ZbK → Value
 | .r0 => Value.tuple #[vi (-1 : Int), v0]
noncomputable def ZjJ (a0 : Int) : ZbK → List (Option AObj)
 | .r0 => []

theorem Zpn (a0 : Int) (N : Nat) : Fx Try.prog Zr Try.f18 [] #[vn, vi a0] (Zkv a0) (ZjJ a0) (Zev a0 N) := by
 unfold Zev
 refine Zm (fun g0 => ?_) (fun g0 => ?_)
 ·
  exact Zk (r := (.r0 : ZbK)) (fu := 4000) (orc := (Zi [(0, true)] [] [] [] [])) (live := []) (u := Value.tuple #[vi (-1 : Int), v0]) (bl := []) (ob := [((decide (a0 < (0 : Int))), true)]) (by kernel_rfl) (oY Zd) rfl (by decide) (by rfl) rr trivial
 ·
  refine Zm (fun g1 => ?_) (fun g1 => ?_)
  ·
   exact Zk (r := (.r0 : ZbK)) (fu := 4000) (orc := (Zi [(0, false), (1, true)] [] [] [] [])) (live := []) (u := Value.tuple #[vi (-1 : Int), v0]) (bl := []) (ob := [((decide (a0 > (0 : Int))), true), ((decide (a0 < (0 : Int))), false)]) (by kernel_rfl) (oY <| oN Zd) rfl (by decide) (by rfl) rr trivial
  ·
   refine Za4 (fun z2 c2 => ?_)
   cases z2 with
   | r0 =>
    exact Zk (r := (.r0 : ZbK)) (fu := 4000) (orc := (Zi [(0, false), (1, false)] [] [] [] [(0, (ZfZ     0))])) (live := []) (u := Value.tuple #[vi (-1 : Int), v0]) (bl := []) (ob := [(dP (ZeM #[vn]     0), true), ((decide (a0 > (0 : Int))), false), ((decide (a0 < (0 : Int))), false)]) (by kernel_rfl) (Za (Zf (Zga #[vn]    N c2  0 rfl (by decide) (by decide))) <| oN <| oN Zd) rfl (by decide) (by rfl) rr trivial

theorem Znd (a0 : Int) (N : Nat) (r : ZbK) (h : Zev a0 N = some r) : LSpec Try.prog 18 #[vn, vi a0] [] (Zkv a0 r) (ZjJ a0 r) :=
 ZaB Zao Try.func18 (by kernel_rfl) (by kernel_rfl) (fun r => by cases r <;> exact ZN _ rfl) (Zpn a0 N) h

noncomputable def Zqa (a0 : Int) (n : Nat) : Zak := .call [] (Value.tuple #[vi (-1 : Int), v0]) [] 0
def ZjK (A : Array Value) (a0 : Int) (n : Nat) : Prop := Zw Try.prog 18 A [] (Value.tuple #[vi (-1 : Int), v0]) [] n 0

theorem Zqb (A : Array Value) (a0 : Int) (N : Nat) (h : Zev a0 N = some (.r0)) (n : Nat) (hA : A = #[vn, vi a0]) (hnd : ([] : List Nat).Nodup) (hlt : ∀ k ∈ ([] : List Nat), k < n) : ZjK A a0  n :=
 Z0 hA (LSpec.callL (show LSpec Try.prog 18 #[vn, vi a0] [] (Value.tuple #[vi (-1 : Int), v0]) [] from Znd a0 N _ h) [] n [] rfl hnd hlt (show 0 ≤ 0 from by decide) (show ∀ j ∈ ([] : List Nat), j < 0 from by decide) (by rfl) trivial (by rfl) trivial trivial rfl rfl rfl rfl rfl)

noncomputable def Zl3  : Zew → Value
 | .r0 => v0
noncomputable def Zkw  : Zew → List (Option AObj)
 | .r0 => []

theorem Zqc  (N : Nat) : Fx Try.prog Zr Try.f20 [] #[vn] (Zl3 ) (Zkw ) (ZfF  N) := by
 unfold ZfF
 refine Za4 (fun z0 c0 => ?_)
 cases z0 with
 | r0 =>
  exact Zk (r := (.r0 : Zew)) (fu := 4000) (orc := (Zi [] [] [] [] [(0, (Zg6     0))])) (live := []) (u := v0) (bl := []) (ob := [(dP (Zfv #[vn]     0), true)]) (by kernel_rfl) (Za (Zf (Zg7 #[vn]    N c0  0 rfl (by decide) (by decide))) Zd) rfl (by decide) (by rfl) rr trivial

theorem Zos  (N : Nat) (r : Zew) (h : ZfF  N = some r) : LSpec Try.prog 20 #[vn] [] (Zl3  r) (Zkw  r) :=
 ZaB Zao Try.func20 (by kernel_rfl) (by kernel_rfl) (fun r => by cases r <;> exact ZN _ rfl) (Zqc  N) h

noncomputable def ZqM  (n : Nat) : Zak := .call [] (v0) [] 0
def Zkx (A : Array Value)  (n : Nat) : Prop := Zw Try.prog 20 A [] (v0) [] n 0

theorem ZqN (A : Array Value)  (N : Nat) (h : ZfF  N = some (.r0)) (n : Nat) (hA : A = #[vn]) (hnd : ([] : List Nat).Nodup) (hlt : ∀ k ∈ ([] : List Nat), k < n) : Zkx A   n :=
 Z0 hA (LSpec.callL (show LSpec Try.prog 20 #[vn] [] (v0) [] from Zos  N _ h) [] n [] rfl hnd hlt (show 0 ≤ 0 from by decide) (show ∀ j ∈ ([] : List Nat), j < 0 from by decide) (by rfl) trivial (by rfl) trivial trivial rfl rfl rfl rfl rfl)

noncomputable def Zl4  : Zex → Value
 | .r0 => v0
noncomputable def Zky  : Zex → List (Option AObj)
 | .r0 => []

theorem Zqd  (N : Nat) : Fx Try.prog Zr Try.f21 [] #[vn] (Zl4 ) (Zky ) (ZfG  N) := by
 unfold ZfG
 refine Za4 (fun z0 c0 => ?_)
 cases z0 with
 | r0 =>
  exact Zk (r := (.r0 : Zex)) (fu := 4000) (orc := (Zi [] [] [] [] [(0, (ZfZ     0))])) (live := []) (u := v0) (bl := []) (ob := [(dP (ZeM #[vn]     0), true)]) (by kernel_rfl) (Za (Zf (Zga #[vn]    N c0  0 rfl (by decide) (by decide))) Zd) rfl (by decide) (by rfl) rr trivial

theorem Zot  (N : Nat) (r : Zex) (h : ZfG  N = some r) : LSpec Try.prog 21 #[vn] [] (Zl4  r) (Zky  r) :=
 ZaB Zao Try.func21 (by kernel_rfl) (by kernel_rfl) (fun r => by cases r <;> exact ZN _ rfl) (Zqd  N) h

noncomputable def ZqO  (n : Nat) : Zak := .call [] (v0) [] 0
def Zkz (A : Array Value)  (n : Nat) : Prop := Zw Try.prog 21 A [] (v0) [] n 0

theorem ZqP (A : Array Value)  (N : Nat) (h : ZfG  N = some (.r0)) (n : Nat) (hA : A = #[vn]) (hnd : ([] : List Nat).Nodup) (hlt : ∀ k ∈ ([] : List Nat), k < n) : Zkz A   n :=
 Z0 hA (LSpec.callL (show LSpec Try.prog 21 #[vn] [] (v0) [] from Zot  N _ h) [] n [] rfl hnd hlt (show 0 ≤ 0 from by decide) (show ∀ j ∈ ([] : List Nat), j < 0 from by decide) (by rfl) trivial (by rfl) trivial trivial rfl rfl rfl rfl rfl)

noncomputable def Zk0  : ZdU → Value
 | .r0 => vn
noncomputable def ZjL  : ZdU → List (Option AObj)
 | .r0 => []

theorem Zpo  (N : Nat) : Fx Try.prog Zr Try.f22 [] #[vn] (Zk0 ) (ZjL ) (Zfm  N) := by
 unfold Zfm
 refine Za4 (fun z0 c0 => ?_)
 cases z0 with
 | r0 =>
  exact Zk (r := (.r0 : ZdU)) (fu := 4000) (orc := (Zi [] [] [] [] [(0, (Zg6     0))])) (live := []) (u := vn) (bl := []) (ob := [(dP (Zfv #[vn]     0), true)]) (by kernel_rfl) (Za (Zf (Zg7 #[vn]    N c0  0 rfl (by decide) (by decide))) Zd) rfl (by decide) (by rfl) rr trivial

theorem Zne  (N : Nat) (r : ZdU) (h : Zfm  N = some r) : LSpec Try.prog 22 #[vn] [] (Zk0  r) (ZjL  r) :=
 ZaB Zao Try.func22 (by kernel_rfl) (by kernel_rfl) (fun r => by cases r <;> exact ZN _ rfl) (Zpo  N) h

end Ev
end Go.Proofs.Ytpgbennpiihajaa
