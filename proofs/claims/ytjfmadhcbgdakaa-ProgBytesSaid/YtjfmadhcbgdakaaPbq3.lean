/- Calls do what the plain functions say. -/
import Derived.Test.YtjfmadhcbgdakaaPbq2
namespace Go.Proofs.Ytjfmadhcbgdakaa
open Go.RowKit
namespace Ev
set_option linter.unusedVariables false
set_option maxRecDepth 100000
theorem ZnW (o0 : Nat) (L1 : List Int) (n2 n3 : Nat) (O0 : Obj) (F0 : ∀ i, i < L1.length → Zat O0 (o0 + i * 1) [.k .u8 (L1.getD i 0)]) (v2 : List Int) (v3 : List R_iiii) (v5 N : Nat) : (Zas o0 L1 n2 n3 O0 N).Ok Try.prog Zj (.h1m2 v2 v3 v5 : Zaj) (Zbl L1 n2 n3 N (.h1m2 v2 v3 v5 : Zaj)) := by
 show (Zas o0 L1 n2 n3 O0 N).Ok Try.prog Zj (.h1m2 v2 v3 v5 : Zaj) (Zbp L1 n2 n3 N v2 v3 v5)
 unfold Zbp
 refine Mach.ok_ite (fun g0 => ?_) (fun g0 => ?_)
 ·
  refine Mach.ok_bind (fun z1 c1 => ?_)
  cases z1 with
  | r0 y1_0 =>
   refine Mach.ok_ite (fun g2 => ?_) (fun g2 => ?_)
   ·
    exact Mach.ok_fin (M := Zas o0 L1 n2 n3 O0 N) (cd := 1000000) (cm := 0) (r := (.r0 ((110 : Int)) : ZP)) (fu := 4000) (orc := (Zh [(0, true), (1, true)] [] [] [] [(0, (ZiY (v2) (v2.length) (v2.length)  y1_0 1 3))])) (live := [0]) (u := Value.tuple #[vn, vi (110 : Int)]) (bl := [some (.ro O0)]) (ob := [((y1_0 != (0 : Int)), true), (dP (Zgw #[vs 1 0 v2.length v2.length] (v2) (v2.length) (v2.length)  y1_0 1 3), true), (dS (Zc (Ze .u8) v2), true), ((decide ((v5 : Int) < (IntKind.i64.wrap (((BitVec.ofInt IntKind.i64.bits (IntKind.i64.wrap ((L1.getD 4 0) * (2 ^ 8 : Int))) ||| BitVec.ofInt IntKind.i64.bits (L1.getD 5 0)).toNat : Nat) : Int)))), true)]) (fun gv => by kernel_rfl) (oD <| Za (Zg (ZiZ #[vs 1 0 v2.length v2.length] (v2) (v2.length) (v2.length)  y1_0 N c1 1 3 rfl (by decide) (by decide))) <| oR <| oY Zb) rfl (by decide) (by rfl) rr ⟨rfl, trivial⟩
   ·
    refine Mach.ok_ite (fun g3 => ?_) (fun g3 => ?_)
    ·
     exact Mach.ok_next (M := Zas o0 L1 n2 n3 O0 N) (cd := 1000000) (cm := 0) (y := (.h1m1 ((v3 ++ ([(⟨(0 : Int), (0 : Int), (0 : Int), (0 : Int)⟩ : R_iiii)] : List R_iiii))) ((v5 + 1)) : Zaj)) (fu := 4000) (orc := (Zh [(0, true), (1, false)] [(0, (((v5 + 1) : Nat) : Int))] [] [] [(0, (ZiY (v2) (v2.length) (v2.length)  y1_0 1 3)), (2, .ap 1 [vq, vq, vq, vq] (Zc Zi (v3 ++ ([(⟨(0 : Int), (0 : Int), (0 : Int), (0 : Int)⟩ : R_iiii)] : List R_iiii))))])) (live := [0, 5]) (tv := fun _ => [some (vn), some (vs 5 0 (v3.length + 1) (v3.length + 1)), some (vi (IntKind.i64.wrap (((BitVec.ofInt IntKind.i64.bits (IntKind.i64.wrap ((L1.getD 4 0) * (2 ^ 8 : Int))) ||| BitVec.ofInt IntKind.i64.bits (L1.getD 5 0)).toNat : Nat) : Int))), some (vi (((v5 + 1) : Nat) : Int))]) (bl := [some (.ro O0), some (.cells (Zc Zi (v3 ++ ([(⟨(0 : Int), (0 : Int), (0 : Int), (0 : Int)⟩ : R_iiii)] : List R_iiii))) 44)]) (ob := [((IntKind.i64.wrap ((v5 : Int) + (1 : Int))) == (((v5 + 1) : Nat) : Int), true), (dP ((1 = 1 ∧ Z4 (1 * 4) (List.drop 0 [vq, vq, vq, vq]) = some [vq, vq, vq, vq] ∧ ZV Zbd [vq, vq, vq, vq] = true) ∧ 0 < 1 ∧ 1 ≤ 100000 ∧ v3.length < v3.length + 1 ∧ v3.length ≤ 100000 ∧ v3.length * 4 ≤ (List.length (Zc Zi v3)) ∧ List.take (v3.length * 4) (Zc Zi v3) ++ [vq, vq, vq, vq] = (Zc Zi (v3 ++ ([(⟨(0 : Int), (0 : Int), (0 : Int), (0 : Int)⟩ : R_iiii)] : List R_iiii)))), true), ((y1_0 != (0 : Int)), false), (dP (Zgw #[vs 1 0 v2.length v2.length] (v2) (v2.length) (v2.length)  y1_0 1 3), true), (dS (Zc (Ze .u8) v2), true), ((decide ((v5 : Int) < (IntKind.i64.wrap (((BitVec.ofInt IntKind.i64.bits (IntKind.i64.wrap ((L1.getD 4 0) * (2 ^ 8 : Int))) ||| BitVec.ofInt IntKind.i64.bits (L1.getD 5 0)).toNat : Nat) : Int)))), true)]) rfl (show 1 ∈ Zq (ZgQ 1) from by decide +kernel) (fun gv => by kernel_rfl) (Za (beq_iff_eq.2 ((wrap_i64 (by have hi0 := ii (((BitVec.ofInt IntKind.i64.bits (IntKind.i64.wrap ((L1.getD 4 0) * (2 ^ 8 : Int))) ||| BitVec.ofInt IntKind.i64.bits (L1.getD 5 0)).toNat : Nat) : Int); first | omega | (simp only [List.length_set, List.length_append, List.length_cons, List.length_nil, List.length_replicate, List.length_take, List.length_drop] at * <;> omega))).trans (by first | rfl | omega))) <| Za (Zg ⟨⟨rfl, ⟨rfl, rfl⟩⟩, by omega, by omega, ltA, by omega, (Zci (E := Zi) (L := v3) (M := ([(⟨(0 : Int), (0 : Int), (0 : Int), (0 : Int)⟩ : R_iiii)] : List R_iiii)) (n := v3.length) (show _ = _ * 4 from rfl) (by omega) (R := (v3 ++ ([(⟨(0 : Int), (0 : Int), (0 : Int), (0 : Int)⟩ : R_iiii)] : List R_iiii))) (by rw [List.take_of_length_le (by omega)]))⟩) <| oE <| Za (Zg (ZiZ #[vs 1 0 v2.length v2.length] (v2) (v2.length) (v2.length)  y1_0 N c1 1 3 rfl (by decide) (by decide))) <| oR <| oY Zb) rfl (by decide) (by rfl) (fun _ => ⟨rr, ⟨⟨Eq.trans (show (vs 1 0 (v3 ++ ([(⟨(0 : Int), (0 : Int), (0 : Int), (0 : Int)⟩ : R_iiii)] : List R_iiii)).length (v3 ++ ([(⟨(0 : Int), (0 : Int), (0 : Int), (0 : Int)⟩ : R_iiii)] : List R_iiii)).length : Value) = vs 1 0 (v3.length + 1) (v3.length + 1) from (Z2 rfl eqA eqA)) (by rfl), by rfl⟩, ⟨rr, ⟨rr, trivial⟩⟩⟩⟩) ⟨rfl, ⟨(Zn (E := Zi) (α := R_iiii) _ (v3 ++ ([(⟨(0 : Int), (0 : Int), (0 : Int), (0 : Int)⟩ : R_iiii)] : List R_iiii)) _), trivial⟩⟩
    ·
     exact Mach.ok_none
  | r1 y1_0 y1_1 y1_2 y1_3 =>
   refine Mach.ok_ite (fun g2 => ?_) (fun g2 => ?_)
   ·
    exact Mach.ok_next (M := Zas o0 L1 n2 n3 O0 N) (cd := 1000000) (cm := 0) (y := (.h1m2 (y1_3) ((v3 ++ ([(⟨(v2.getD 0 0), y1_0, y1_1, y1_2⟩ : R_iiii)] : List R_iiii))) ((v5 + 1)) : Zaj)) (fu := 4000) (orc := (Zh [(0, true)] [(0, (((v5 + 1) : Nat) : Int))] [] [] [(0, (ZoK (v2) (v2.length) (v2.length)  y1_0 y1_1 y1_2 y1_3 1 3)), (2, .ap 1 [vi (v2.getD 0 0), vi y1_0, vi y1_1, vi y1_2] (Zc Zi (v3 ++ ([(⟨(v2.getD 0 0), y1_0, y1_1, y1_2⟩ : R_iiii)] : List R_iiii))))])) (live := [0, 3, 6]) (tv := fun _ => [some (vs 3 0 y1_3.length y1_3.length), some (vs 6 0 (v3.length + 1) (v3.length + 1)), some (vi (IntKind.i64.wrap (((BitVec.ofInt IntKind.i64.bits (IntKind.i64.wrap ((L1.getD 4 0) * (2 ^ 8 : Int))) ||| BitVec.ofInt IntKind.i64.bits (L1.getD 5 0)).toNat : Nat) : Int))), some (vi (((v5 + 1) : Nat) : Int))]) (bl := [some (.ro O0), some (.cells (Zc (Ze .u8) y1_3) 5), some (.cells (Zc Zi (v3 ++ ([(⟨(v2.getD 0 0), y1_0, y1_1, y1_2⟩ : R_iiii)] : List R_iiii))) 44)]) (ob := [((IntKind.i64.wrap ((v5 : Int) + (1 : Int))) == (((v5 + 1) : Nat) : Int), true), (dP ((1 = 1 ∧ Z4 (1 * 4) (List.drop 0 [vi (v2.getD 0 0), vi y1_0, vi y1_1, vi y1_2]) = some [vi (v2.getD 0 0), vi y1_0, vi y1_1, vi y1_2] ∧ ZV Zbd [vi (v2.getD 0 0), vi y1_0, vi y1_1, vi y1_2] = true) ∧ 0 < 1 ∧ 1 ≤ 100000 ∧ v3.length < v3.length + 1 ∧ v3.length ≤ 100000 ∧ v3.length * 4 ≤ (List.length (Zc Zi v3)) ∧ List.take (v3.length * 4) (Zc Zi v3) ++ [vi (v2.getD 0 0), vi y1_0, vi y1_1, vi y1_2] = (Zc Zi (v3 ++ ([(⟨(v2.getD 0 0), y1_0, y1_1, y1_2⟩ : R_iiii)] : List R_iiii)))), true), (dP (Zja #[vs 1 0 v2.length v2.length] (v2) (v2.length) (v2.length)  y1_0 y1_1 y1_2 y1_3 1 3), true), (dS (Zc (Ze .u8) v2), true), ((decide ((v5 : Int) < (IntKind.i64.wrap (((BitVec.ofInt IntKind.i64.bits (IntKind.i64.wrap ((L1.getD 4 0) * (2 ^ 8 : Int))) ||| BitVec.ofInt IntKind.i64.bits (L1.getD 5 0)).toNat : Nat) : Int)))), true)]) rfl (show 1 ∈ Zq (ZgQ 1) from by decide +kernel) (fun gv => by kernel_rfl) (Za (beq_iff_eq.2 ((wrap_i64 (by have hi0 := ii (((BitVec.ofInt IntKind.i64.bits (IntKind.i64.wrap ((L1.getD 4 0) * (2 ^ 8 : Int))) ||| BitVec.ofInt IntKind.i64.bits (L1.getD 5 0)).toNat : Nat) : Int); first | omega | (simp only [List.length_set, List.length_append, List.length_cons, List.length_nil, List.length_replicate, List.length_take, List.length_drop] at * <;> omega))).trans (by first | rfl | omega))) <| Za (Zg ⟨⟨rfl, ⟨rfl, rfl⟩⟩, by omega, by omega, ltA, by omega, (Zci (E := Zi) (L := v3) (M := ([(⟨(v2.getD 0 0), y1_0, y1_1, y1_2⟩ : R_iiii)] : List R_iiii)) (n := v3.length) (show _ = _ * 4 from rfl) (by omega) (R := (v3 ++ ([(⟨(v2.getD 0 0), y1_0, y1_1, y1_2⟩ : R_iiii)] : List R_iiii))) (by rw [List.take_of_length_le (by omega)]))⟩) <| Za (Zg (ZoL #[vs 1 0 v2.length v2.length] (v2) (v2.length) (v2.length)  y1_0 y1_1 y1_2 y1_3 N c1 1 3 rfl (by decide) (by decide))) <| oR <| oY Zb) rfl (by decide) (by rfl) (fun _ => ⟨rr, ⟨⟨Eq.trans (show (vs 2 0 (v3 ++ ([(⟨(v2.getD 0 0), y1_0, y1_1, y1_2⟩ : R_iiii)] : List R_iiii)).length (v3 ++ ([(⟨(v2.getD 0 0), y1_0, y1_1, y1_2⟩ : R_iiii)] : List R_iiii)).length : Value) = vs 2 0 (v3.length + 1) (v3.length + 1) from (Z2 rfl eqA eqA)) (by rfl), by rfl⟩, ⟨rr, ⟨rr, trivial⟩⟩⟩⟩) ⟨rfl, ⟨(Zn (E := (Ze .u8)) (α := Int) _ y1_3 _), ⟨(Zn (E := Zi) (α := R_iiii) _ (v3 ++ ([(⟨(v2.getD 0 0), y1_0, y1_1, y1_2⟩ : R_iiii)] : List R_iiii)) _), trivial⟩⟩⟩
   ·
    exact Mach.ok_none
 ·
  refine Mach.ok_ite (fun g1 => ?_) (fun g1 => ?_)
  ·
   exact Mach.ok_fin (M := Zas o0 L1 n2 n3 O0 N) (cd := 1000000) (cm := 0) (r := (.r0 ((110 : Int)) : ZP)) (fu := 4000) (orc := (Zh [(0, false), (1, true)] [] [] [] [])) (live := [0]) (u := Value.tuple #[vn, vi (110 : Int)]) (bl := [some (.ro O0)]) (ob := [((decide ((v2.length : Int) > (0 : Int))), true), ((decide ((v5 : Int) < (IntKind.i64.wrap (((BitVec.ofInt IntKind.i64.bits (IntKind.i64.wrap ((L1.getD 4 0) * (2 ^ 8 : Int))) ||| BitVec.ofInt IntKind.i64.bits (L1.getD 5 0)).toNat : Nat) : Int)))), false)]) (fun gv => by kernel_rfl) (oY <| oN Zb) rfl (by decide) (by rfl) rr ⟨rfl, trivial⟩
  ·
   exact Mach.ok_fin (M := Zas o0 L1 n2 n3 O0 N) (cd := 1000000) (cm := 0) (r := (.r1 (v3) : ZP)) (fu := 4000) (orc := (Zh [(0, false), (1, false)] [] [] [] [])) (live := [0, 2]) (u := Value.tuple #[vs 2 0 v3.length v3.length, vq]) (bl := [some (.ro O0), some (.cells (Zc Zi v3) 44)]) (ob := [((decide ((v2.length : Int) > (0 : Int))), false), ((decide ((v5 : Int) < (IntKind.i64.wrap (((BitVec.ofInt IntKind.i64.bits (IntKind.i64.wrap ((L1.getD 4 0) * (2 ^ 8 : Int))) ||| BitVec.ofInt IntKind.i64.bits (L1.getD 5 0)).toNat : Nat) : Int)))), false)]) (fun gv => by kernel_rfl) (oN <| oN Zb) rfl (by decide) (by rfl) rr ⟨rfl, ⟨(Zn (E := Zi) (α := R_iiii) _ v3 _), trivial⟩⟩

theorem Zqm (o0 : Nat) (L1 : List Int) (n2 n3 : Nat) (O0 : Obj) (F0 : ∀ i, i < L1.length → Zat O0 (o0 + i * 1) [.k .u8 (L1.getD i 0)]) (N : Nat) : (Zas o0 L1 n2 n3 O0 N).Enter Try.prog Zj #[vs 0 o0 n2 n3] (ZbO L1 n2 n3 N) := by
 unfold ZbO
 refine Mach.en_ite (fun g0 => ?_) (fun g0 => ?_)
 ·
  exact Mach.en_fin (M := Zas o0 L1 n2 n3 O0 N) (cd := 1000000) (cm := 0) (r := (.r0 ((6 : Int)) : ZP)) (fu := 4000) (orc := (Zh [(0, true)] [] [] [] [])) (live := [0]) (u := Value.tuple #[vn, vi (6 : Int)]) (bl := [some (.ro O0)]) (ob := [((decide ((n2 : Int) < (7 : Int))), true)]) (by kernel_rfl) (oY Zb) rfl (by decide) (by rfl) rr ⟨rfl, trivial⟩
 ·
  refine Mach.en_ite (fun g1 => ?_) (fun g1 => ?_)
  ·
   refine Mach.en_ite (fun g2 => ?_) (fun g2 => ?_)
   ·
    refine Mach.en_ite (fun g3 => ?_) (fun g3 => ?_)
    ·
     refine Mach.en_ite (fun g4 => ?_) (fun g4 => ?_)
     ·
      refine Mach.en_ite (fun g5 => ?_) (fun g5 => ?_)
      ·
       refine Mach.en_ite (fun g6 => ?_) (fun g6 => ?_)
       ·
        refine Mach.en_ite (fun g7 => ?_) (fun g7 => ?_)
        ·
         refine Mach.en_ite (fun g8 => ?_) (fun g8 => ?_)
         ·
          refine Mach.en_ite (fun g9 => ?_) (fun g9 => ?_)
          ·
           refine Mach.en_ite (fun g10 => ?_) (fun g10 => ?_)
           ·
            refine Mach.en_ite (fun g11 => ?_) (fun g11 => ?_)
            ·
             exact Mach.en_fin (M := Zas o0 L1 n2 n3 O0 N) (cd := 1000000) (cm := 0) (r := (.r0 ((110 : Int)) : ZP)) (fu := 4000) (orc := (Zh [(0, false), (1, true), (2, true), (4, true)] [(0, (L1.getD 4 0)), (2, (L1.getD 5 0)), (4, (((n2 - 1) : Nat) : Int)), (5, (((n2 - 1) : Nat) : Int))] [(0, 4), (1, 5), (2, (n2 - 1))] [(0, [.k .u8 (L1.getD 4 0)]), (1, [.k .u8 (L1.getD 5 0)]), (2, [.k .u8 (L1.getD (n2 - 1) 0)])] [(1, .sl 6 (n2 - 1)), (2, .sl 0 4), (3, .bs (L1.take (4 - 0))), (4, .bs ([(71 : Int), (78 : Int), (84 : Int), (1 : Int)] : List Int))])) (live := [0]) (u := Value.tuple #[vn, vi (110 : Int)]) (bl := [some (.ro O0)]) (ob := [((decide ((IntKind.i64.wrap (((BitVec.ofInt IntKind.i64.bits (IntKind.i64.wrap ((L1.getD 4 0) * (2 ^ 8 : Int))) ||| BitVec.ofInt IntKind.i64.bits (L1.getD 5 0)).toNat : Nat) : Int)) > (512 : Int))), true), (((Z5 (L1.take (4 - 0))).toList == (Z5 ([(71 : Int), (78 : Int), (84 : Int), (1 : Int)] : List Int)).toList), true), (dP (Z4 4 (List.drop 0 [Value.int .u8 (71 : Int), Value.int .u8 (78 : Int), Value.int .u8 (84 : Int), Value.int .u8 (1 : Int)]) = some (List.map (Value.int .u8) ([(71 : Int), (78 : Int), (84 : Int), (1 : Int)] : List Int))), true), (dP (roS O0 (o0 + (0 * 1)) (4 - 0) = some (List.map (Value.int .u8) (L1.take (4 - 0)))), true), (dP (0 ≤ 4 ∧ 4 ≤ n3), true), ((4 : Int) == Int.ofNat 4, true), (dS 0, true), ((decide ((n2 : Int) ≥ (4 : Int))), true), (Zan (Za1 O0 (o0 + ((n2 - 1) * 1)) 1) [.k .u8 (L1.getD (n2 - 1) 0)], true), (Nat.blt (n2 - 1) n2, true), ((((n2 - 1) : Nat) : Int) == Int.ofNat (n2 - 1), true), ((IntKind.i64.wrap ((n2 : Int) - (1 : Int))) == (((n2 - 1) : Nat) : Int), true), (dP (6 ≤ (n2 - 1) ∧ (n2 - 1) ≤ n3), true), ((((n2 - 1) : Nat) : Int) == Int.ofNat (n2 - 1), true), ((6 : Int) == Int.ofNat 6, true), ((IntKind.i64.wrap ((n2 : Int) - (1 : Int))) == (((n2 - 1) : Nat) : Int), true), ((IntKind.i64.wrap (L1.getD 5 0)) == (L1.getD 5 0), true), (Zan (Za1 O0 (o0 + (5 * 1)) 1) [.k .u8 (L1.getD 5 0)], true), (Nat.blt 5 n2, true), ((5 : Int) == Int.ofNat 5, true), ((IntKind.i64.wrap (L1.getD 4 0)) == (L1.getD 4 0), true), (Zan (Za1 O0 (o0 + (4 * 1)) 1) [.k .u8 (L1.getD 4 0)], true), (Nat.blt 4 n2, true), ((4 : Int) == Int.ofNat 4, true), ((decide ((n2 : Int) < (7 : Int))), false)]) (by kernel_rfl) (oY <| Za (Zd9 (x := (L1.take (4 - 0))) (y := ([(71 : Int), (78 : Int), (84 : Int), (1 : Int)] : List Int)) (by assumption)) <| oR <| Za (Zg (ZcZ (L := L1) (b := o0) (a := 0) F0 (by omega) (show _ = _ + _ * 1 from by omega) (by first | rfl | simp))) <| Za (Zg ⟨ltA, ltA⟩) <| oI <| oR <| oY <| Za ((show (o0 + (n2 - 1) * 1 + 0) = (o0 + ((n2 - 1) * 1)) from by omega) ▸ F0 (n2 - 1) (by omega) 0 1 (show 0 + 1 ≤ 1 from by decide)) <| oB <| oI <| Za (beq_iff_eq.2 ((wrap_i64 ltA).trans (by first | rfl | omega))) <| Za (Zg ⟨ltA, ltA⟩) <| oI <| oI <| Za (beq_iff_eq.2 ((wrap_i64 ltA).trans (by first | rfl | omega))) <| Za (beq_iff_eq.2 (wrap_i64 ltA)) <| Za ((show (o0 + 5 * 1 + 0) = (o0 + (5 * 1)) from by omega) ▸ F0 5 (by omega) 0 1 (show 0 + 1 ≤ 1 from by decide)) <| oB <| oI <| Za (beq_iff_eq.2 (wrap_i64 ltA)) <| Za ((show (o0 + 4 * 1 + 0) = (o0 + (4 * 1)) from by omega) ▸ F0 4 (by omega) 0 1 (show 0 + 1 ≤ 1 from by decide)) <| oB <| oI <| oN Zb) rfl (by decide) (by rfl) rr ⟨rfl, trivial⟩
            ·
             refine Mach.en_ite (fun g12 => ?_) (fun g12 => ?_)
             ·
              exact Mach.en_fin (M := Zas o0 L1 n2 n3 O0 N) (cd := 1000000) (cm := 0) (r := (.r0 ((110 : Int)) : ZP)) (fu := 4000) (orc := (Zh [(0, false), (1, true), (2, true), (4, false), (5, true)] [(0, (L1.getD 4 0)), (2, (L1.getD 5 0)), (4, (((n2 - 1) : Nat) : Int)), (5, (((n2 - 1) : Nat) : Int))] [(0, 4), (1, 5), (2, (n2 - 1))] [(0, [.k .u8 (L1.getD 4 0)]), (1, [.k .u8 (L1.getD 5 0)]), (2, [.k .u8 (L1.getD (n2 - 1) 0)])] [(1, .sl 6 (n2 - 1)), (2, .sl 0 4), (3, .bs (L1.take (4 - 0))), (4, .bs ([(71 : Int), (78 : Int), (84 : Int), (1 : Int)] : List Int))])) (live := [0]) (u := Value.tuple #[vn, vi (110 : Int)]) (bl := [some (.ro O0)]) (ob := [((decide (((((n2 - 1) - 6) : Nat) : Int) > (IntKind.i64.wrap ((IntKind.i64.wrap (((BitVec.ofInt IntKind.i64.bits (IntKind.i64.wrap ((L1.getD 4 0) * (2 ^ 8 : Int))) ||| BitVec.ofInt IntKind.i64.bits (L1.getD 5 0)).toNat : Nat) : Int)) * (10 : Int))))), true), ((decide ((IntKind.i64.wrap (((BitVec.ofInt IntKind.i64.bits (IntKind.i64.wrap ((L1.getD 4 0) * (2 ^ 8 : Int))) ||| BitVec.ofInt IntKind.i64.bits (L1.getD 5 0)).toNat : Nat) : Int)) > (512 : Int))), false), (((Z5 (L1.take (4 - 0))).toList == (Z5 ([(71 : Int), (78 : Int), (84 : Int), (1 : Int)] : List Int)).toList), true), (dP (Z4 4 (List.drop 0 [Value.int .u8 (71 : Int), Value.int .u8 (78 : Int), Value.int .u8 (84 : Int), Value.int .u8 (1 : Int)]) = some (List.map (Value.int .u8) ([(71 : Int), (78 : Int), (84 : Int), (1 : Int)] : List Int))), true), (dP (roS O0 (o0 + (0 * 1)) (4 - 0) = some (List.map (Value.int .u8) (L1.take (4 - 0)))), true), (dP (0 ≤ 4 ∧ 4 ≤ n3), true), ((4 : Int) == Int.ofNat 4, true), (dS 0, true), ((decide ((n2 : Int) ≥ (4 : Int))), true), (Zan (Za1 O0 (o0 + ((n2 - 1) * 1)) 1) [.k .u8 (L1.getD (n2 - 1) 0)], true), (Nat.blt (n2 - 1) n2, true), ((((n2 - 1) : Nat) : Int) == Int.ofNat (n2 - 1), true), ((IntKind.i64.wrap ((n2 : Int) - (1 : Int))) == (((n2 - 1) : Nat) : Int), true), (dP (6 ≤ (n2 - 1) ∧ (n2 - 1) ≤ n3), true), ((((n2 - 1) : Nat) : Int) == Int.ofNat (n2 - 1), true), ((6 : Int) == Int.ofNat 6, true), ((IntKind.i64.wrap ((n2 : Int) - (1 : Int))) == (((n2 - 1) : Nat) : Int), true), ((IntKind.i64.wrap (L1.getD 5 0)) == (L1.getD 5 0), true), (Zan (Za1 O0 (o0 + (5 * 1)) 1) [.k .u8 (L1.getD 5 0)], true), (Nat.blt 5 n2, true), ((5 : Int) == Int.ofNat 5, true), ((IntKind.i64.wrap (L1.getD 4 0)) == (L1.getD 4 0), true), (Zan (Za1 O0 (o0 + (4 * 1)) 1) [.k .u8 (L1.getD 4 0)], true), (Nat.blt 4 n2, true), ((4 : Int) == Int.ofNat 4, true), ((decide ((n2 : Int) < (7 : Int))), false)]) (by kernel_rfl) (oY <| oN <| Za (Zd9 (x := (L1.take (4 - 0))) (y := ([(71 : Int), (78 : Int), (84 : Int), (1 : Int)] : List Int)) (by assumption)) <| oR <| Za (Zg (ZcZ (L := L1) (b := o0) (a := 0) F0 (by omega) (show _ = _ + _ * 1 from by omega) (by first | rfl | simp))) <| Za (Zg ⟨ltA, ltA⟩) <| oI <| oR <| oY <| Za ((show (o0 + (n2 - 1) * 1 + 0) = (o0 + ((n2 - 1) * 1)) from by omega) ▸ F0 (n2 - 1) (by omega) 0 1 (show 0 + 1 ≤ 1 from by decide)) <| oB <| oI <| Za (beq_iff_eq.2 ((wrap_i64 ltA).trans (by first | rfl | omega))) <| Za (Zg ⟨ltA, ltA⟩) <| oI <| oI <| Za (beq_iff_eq.2 ((wrap_i64 ltA).trans (by first | rfl | omega))) <| Za (beq_iff_eq.2 (wrap_i64 ltA)) <| Za ((show (o0 + 5 * 1 + 0) = (o0 + (5 * 1)) from by omega) ▸ F0 5 (by omega) 0 1 (show 0 + 1 ≤ 1 from by decide)) <| oB <| oI <| Za (beq_iff_eq.2 (wrap_i64 ltA)) <| Za ((show (o0 + 4 * 1 + 0) = (o0 + (4 * 1)) from by omega) ▸ F0 4 (by omega) 0 1 (show 0 + 1 ≤ 1 from by decide)) <| oB <| oI <| oN Zb) rfl (by decide) (by rfl) rr ⟨rfl, trivial⟩
             ·
              refine Mach.en_bind (fun z13 c13 => ?_)
              cases z13 with
              | r0 y13_0 =>
               refine Mach.en_ite (fun g14 => ?_) (fun g14 => ?_)
               ·
                exact Mach.en_fin (M := Zas o0 L1 n2 n3 O0 N) (cd := 1000000) (cm := 0) (r := (.r0 ((110 : Int)) : ZP)) (fu := 4000) (orc := (Zh [(0, false), (1, true), (2, true), (4, false), (5, false), (6, true)] [(0, (L1.getD 4 0)), (2, (L1.getD 5 0)), (4, (((n2 - 1) : Nat) : Int)), (5, (((n2 - 1) : Nat) : Int)), (7, (((n2 - 1) : Nat) : Int))] [(0, 4), (1, 5), (2, (n2 - 1))] [(0, [.k .u8 (L1.getD 4 0)]), (1, [.k .u8 (L1.getD 5 0)]), (2, [.k .u8 (L1.getD (n2 - 1) 0)])] [(1, .sl 6 (n2 - 1)), (2, .sl 0 4), (3, .bs (L1.take (4 - 0))), (4, .bs ([(71 : Int), (78 : Int), (84 : Int), (1 : Int)] : List Int)), (5, .sl 0 (n2 - 1)), (6, (Znb (o0) (L1) (((n2 - 1) - 0)) ((n3 - 0)) O0 y13_0 0 2))])) (live := [0]) (u := Value.tuple #[vn, vi (110 : Int)]) (bl := [some (.ro O0)]) (ob := [((y13_0 != (L1.getD (n2 - 1) 0)), true), (dP (ZiR #[Value.slice (some ⟨0, (o0 + (0 * 1)), none⟩) ((n2 - 1) - 0) (n3 - 0)] (o0) (L1) (((n2 - 1) - 0)) ((n3 - 0)) O0 y13_0 0 2), true), (dS O0, true), (dP (0 ≤ (n2 - 1) ∧ (n2 - 1) ≤ n3), true), ((((n2 - 1) : Nat) : Int) == Int.ofNat (n2 - 1), true), (dS 0, true), ((IntKind.i64.wrap ((n2 : Int) - (1 : Int))) == (((n2 - 1) : Nat) : Int), true), ((decide (((((n2 - 1) - 6) : Nat) : Int) > (IntKind.i64.wrap ((IntKind.i64.wrap (((BitVec.ofInt IntKind.i64.bits (IntKind.i64.wrap ((L1.getD 4 0) * (2 ^ 8 : Int))) ||| BitVec.ofInt IntKind.i64.bits (L1.getD 5 0)).toNat : Nat) : Int)) * (10 : Int))))), false), ((decide ((IntKind.i64.wrap (((BitVec.ofInt IntKind.i64.bits (IntKind.i64.wrap ((L1.getD 4 0) * (2 ^ 8 : Int))) ||| BitVec.ofInt IntKind.i64.bits (L1.getD 5 0)).toNat : Nat) : Int)) > (512 : Int))), false), (((Z5 (L1.take (4 - 0))).toList == (Z5 ([(71 : Int), (78 : Int), (84 : Int), (1 : Int)] : List Int)).toList), true), (dP (Z4 4 (List.drop 0 [Value.int .u8 (71 : Int), Value.int .u8 (78 : Int), Value.int .u8 (84 : Int), Value.int .u8 (1 : Int)]) = some (List.map (Value.int .u8) ([(71 : Int), (78 : Int), (84 : Int), (1 : Int)] : List Int))), true), (dP (roS O0 (o0 + (0 * 1)) (4 - 0) = some (List.map (Value.int .u8) (L1.take (4 - 0)))), true), (dP (0 ≤ 4 ∧ 4 ≤ n3), true), ((4 : Int) == Int.ofNat 4, true), (dS 0, true), ((decide ((n2 : Int) ≥ (4 : Int))), true), (Zan (Za1 O0 (o0 + ((n2 - 1) * 1)) 1) [.k .u8 (L1.getD (n2 - 1) 0)], true), (Nat.blt (n2 - 1) n2, true), ((((n2 - 1) : Nat) : Int) == Int.ofNat (n2 - 1), true), ((IntKind.i64.wrap ((n2 : Int) - (1 : Int))) == (((n2 - 1) : Nat) : Int), true), (dP (6 ≤ (n2 - 1) ∧ (n2 - 1) ≤ n3), true), ((((n2 - 1) : Nat) : Int) == Int.ofNat (n2 - 1), true), ((6 : Int) == Int.ofNat 6, true), ((IntKind.i64.wrap ((n2 : Int) - (1 : Int))) == (((n2 - 1) : Nat) : Int), true), ((IntKind.i64.wrap (L1.getD 5 0)) == (L1.getD 5 0), true), (Zan (Za1 O0 (o0 + (5 * 1)) 1) [.k .u8 (L1.getD 5 0)], true), (Nat.blt 5 n2, true), ((5 : Int) == Int.ofNat 5, true), ((IntKind.i64.wrap (L1.getD 4 0)) == (L1.getD 4 0), true), (Zan (Za1 O0 (o0 + (4 * 1)) 1) [.k .u8 (L1.getD 4 0)], true), (Nat.blt 4 n2, true), ((4 : Int) == Int.ofNat 4, true), ((decide ((n2 : Int) < (7 : Int))), false)]) (by kernel_rfl) (oD <| Za (Zg (Znc #[Value.slice (some ⟨0, (o0 + (0 * 1)), none⟩) ((n2 - 1) - 0) (n3 - 0)] (o0) (L1) (((n2 - 1) - 0)) ((n3 - 0)) O0 F0 y13_0 N c13 0 2 (ZcM (Zf (Z2 eqA rfl rfl) rfl)) (by decide) (by decide))) <| oR <| Za (Zg ⟨ltA, ltA⟩) <| oI <| oR <| Za (beq_iff_eq.2 ((wrap_i64 ltA).trans (by first | rfl | omega))) <| oN <| oN <| Za (Zd9 (x := (L1.take (4 - 0))) (y := ([(71 : Int), (78 : Int), (84 : Int), (1 : Int)] : List Int)) (by assumption)) <| oR <| Za (Zg (ZcZ (L := L1) (b := o0) (a := 0) F0 (by omega) (show _ = _ + _ * 1 from by omega) (by first | rfl | simp))) <| Za (Zg ⟨ltA, ltA⟩) <| oI <| oR <| oY <| Za ((show (o0 + (n2 - 1) * 1 + 0) = (o0 + ((n2 - 1) * 1)) from by omega) ▸ F0 (n2 - 1) (by omega) 0 1 (show 0 + 1 ≤ 1 from by decide)) <| oB <| oI <| Za (beq_iff_eq.2 ((wrap_i64 ltA).trans (by first | rfl | omega))) <| Za (Zg ⟨ltA, ltA⟩) <| oI <| oI <| Za (beq_iff_eq.2 ((wrap_i64 ltA).trans (by first | rfl | omega))) <| Za (beq_iff_eq.2 (wrap_i64 ltA)) <| Za ((show (o0 + 5 * 1 + 0) = (o0 + (5 * 1)) from by omega) ▸ F0 5 (by omega) 0 1 (show 0 + 1 ≤ 1 from by decide)) <| oB <| oI <| Za (beq_iff_eq.2 (wrap_i64 ltA)) <| Za ((show (o0 + 4 * 1 + 0) = (o0 + (4 * 1)) from by omega) ▸ F0 4 (by omega) 0 1 (show 0 + 1 ≤ 1 from by decide)) <| oB <| oI <| oN Zb) rfl (by decide) (by rfl) rr ⟨rfl, trivial⟩
               ·
                exact Mach.en_head (bK := ZdA 1) (M := Zas o0 L1 n2 n3 O0 N) (cd := 1000000) (cm := 0) (y := (.h1m0 : Zaj)) (fu := 4000) (orc := (Zh [(0, false), (1, true), (2, true), (4, false), (5, false), (6, false)] [(0, (L1.getD 4 0)), (2, (L1.getD 5 0)), (4, (((n2 - 1) : Nat) : Int)), (5, (((n2 - 1) : Nat) : Int)), (7, (((n2 - 1) : Nat) : Int))] [(0, 4), (1, 5), (2, (n2 - 1))] [(0, [.k .u8 (L1.getD 4 0)]), (1, [.k .u8 (L1.getD 5 0)]), (2, [.k .u8 (L1.getD (n2 - 1) 0)])] [(1, .sl 6 (n2 - 1)), (2, .sl 0 4), (3, .bs (L1.take (4 - 0))), (4, .bs ([(71 : Int), (78 : Int), (84 : Int), (1 : Int)] : List Int)), (5, .sl 0 (n2 - 1)), (6, (Znb (o0) (L1) (((n2 - 1) - 0)) ((n3 - 0)) O0 y13_0 0 2))])) (live := [0]) (tv := [some (Value.slice (some ⟨0, (o0 + (6 * 1)), none⟩) ((n2 - 1) - 6) (n3 - 6)), some (vn), some (vi (IntKind.i64.wrap (((BitVec.ofInt IntKind.i64.bits (IntKind.i64.wrap ((L1.getD 4 0) * (2 ^ 8 : Int))) ||| BitVec.ofInt IntKind.i64.bits (L1.getD 5 0)).toNat : Nat) : Int))), some (vq)]) (bl := [some (.ro O0)]) (ob := [((y13_0 != (L1.getD (n2 - 1) 0)), false), (dP (ZiR #[Value.slice (some ⟨0, (o0 + (0 * 1)), none⟩) ((n2 - 1) - 0) (n3 - 0)] (o0) (L1) (((n2 - 1) - 0)) ((n3 - 0)) O0 y13_0 0 2), true), (dS O0, true), (dP (0 ≤ (n2 - 1) ∧ (n2 - 1) ≤ n3), true), ((((n2 - 1) : Nat) : Int) == Int.ofNat (n2 - 1), true), (dS 0, true), ((IntKind.i64.wrap ((n2 : Int) - (1 : Int))) == (((n2 - 1) : Nat) : Int), true), ((decide (((((n2 - 1) - 6) : Nat) : Int) > (IntKind.i64.wrap ((IntKind.i64.wrap (((BitVec.ofInt IntKind.i64.bits (IntKind.i64.wrap ((L1.getD 4 0) * (2 ^ 8 : Int))) ||| BitVec.ofInt IntKind.i64.bits (L1.getD 5 0)).toNat : Nat) : Int)) * (10 : Int))))), false), ((decide ((IntKind.i64.wrap (((BitVec.ofInt IntKind.i64.bits (IntKind.i64.wrap ((L1.getD 4 0) * (2 ^ 8 : Int))) ||| BitVec.ofInt IntKind.i64.bits (L1.getD 5 0)).toNat : Nat) : Int)) > (512 : Int))), false), (((Z5 (L1.take (4 - 0))).toList == (Z5 ([(71 : Int), (78 : Int), (84 : Int), (1 : Int)] : List Int)).toList), true), (dP (Z4 4 (List.drop 0 [Value.int .u8 (71 : Int), Value.int .u8 (78 : Int), Value.int .u8 (84 : Int), Value.int .u8 (1 : Int)]) = some (List.map (Value.int .u8) ([(71 : Int), (78 : Int), (84 : Int), (1 : Int)] : List Int))), true), (dP (roS O0 (o0 + (0 * 1)) (4 - 0) = some (List.map (Value.int .u8) (L1.take (4 - 0)))), true), (dP (0 ≤ 4 ∧ 4 ≤ n3), true), ((4 : Int) == Int.ofNat 4, true), (dS 0, true), ((decide ((n2 : Int) ≥ (4 : Int))), true), (Zan (Za1 O0 (o0 + ((n2 - 1) * 1)) 1) [.k .u8 (L1.getD (n2 - 1) 0)], true), (Nat.blt (n2 - 1) n2, true), ((((n2 - 1) : Nat) : Int) == Int.ofNat (n2 - 1), true), ((IntKind.i64.wrap ((n2 : Int) - (1 : Int))) == (((n2 - 1) : Nat) : Int), true), (dP (6 ≤ (n2 - 1) ∧ (n2 - 1) ≤ n3), true), ((((n2 - 1) : Nat) : Int) == Int.ofNat (n2 - 1), true), ((6 : Int) == Int.ofNat 6, true), ((IntKind.i64.wrap ((n2 : Int) - (1 : Int))) == (((n2 - 1) : Nat) : Int), true), ((IntKind.i64.wrap (L1.getD 5 0)) == (L1.getD 5 0), true), (Zan (Za1 O0 (o0 + (5 * 1)) 1) [.k .u8 (L1.getD 5 0)], true), (Nat.blt 5 n2, true), ((5 : Int) == Int.ofNat 5, true), ((IntKind.i64.wrap (L1.getD 4 0)) == (L1.getD 4 0), true), (Zan (Za1 O0 (o0 + (4 * 1)) 1) [.k .u8 (L1.getD 4 0)], true), (Nat.blt 4 n2, true), ((4 : Int) == Int.ofNat 4, true), ((decide ((n2 : Int) < (7 : Int))), false)]) rfl rfl (show Zq (ZdA 1).2 = [] from rfl) (by kernel_rfl) (oE <| Za (Zg (Znc #[Value.slice (some ⟨0, (o0 + (0 * 1)), none⟩) ((n2 - 1) - 0) (n3 - 0)] (o0) (L1) (((n2 - 1) - 0)) ((n3 - 0)) O0 F0 y13_0 N c13 0 2 (ZcM (Zf (Z2 eqA rfl rfl) rfl)) (by decide) (by decide))) <| oR <| Za (Zg ⟨ltA, ltA⟩) <| oI <| oR <| Za (beq_iff_eq.2 ((wrap_i64 ltA).trans (by first | rfl | omega))) <| oN <| oN <| Za (Zd9 (x := (L1.take (4 - 0))) (y := ([(71 : Int), (78 : Int), (84 : Int), (1 : Int)] : List Int)) (by assumption)) <| oR <| Za (Zg (ZcZ (L := L1) (b := o0) (a := 0) F0 (by omega) (show _ = _ + _ * 1 from by omega) (by first | rfl | simp))) <| Za (Zg ⟨ltA, ltA⟩) <| oI <| oR <| oY <| Za ((show (o0 + (n2 - 1) * 1 + 0) = (o0 + ((n2 - 1) * 1)) from by omega) ▸ F0 (n2 - 1) (by omega) 0 1 (show 0 + 1 ≤ 1 from by decide)) <| oB <| oI <| Za (beq_iff_eq.2 ((wrap_i64 ltA).trans (by first | rfl | omega))) <| Za (Zg ⟨ltA, ltA⟩) <| oI <| oI <| Za (beq_iff_eq.2 ((wrap_i64 ltA).trans (by first | rfl | omega))) <| Za (beq_iff_eq.2 (wrap_i64 ltA)) <| Za ((show (o0 + 5 * 1 + 0) = (o0 + (5 * 1)) from by omega) ▸ F0 5 (by omega) 0 1 (show 0 + 1 ≤ 1 from by decide)) <| oB <| oI <| Za (beq_iff_eq.2 (wrap_i64 ltA)) <| Za ((show (o0 + 4 * 1 + 0) = (o0 + (4 * 1)) from by omega) ▸ F0 4 (by omega) 0 1 (show 0 + 1 ≤ 1 from by decide)) <| oB <| oI <| oN Zb) rfl (by decide) (by rfl) ⟨⟨Eq.trans (show (vs 0 (o0 + 6) ((n2 - 1) - 6) (n3 - 6) : Value) = Value.slice (some ⟨0, (o0 + (6 * 1)), none⟩) ((n2 - 1) - 6) (n3 - 6) from (Z2 eqA rfl rfl)) (by rfl), by rfl⟩, ⟨rr, ⟨rr, ⟨rr, trivial⟩⟩⟩⟩ ⟨rfl, trivial⟩
           ·
            exact Mach.en_fin (M := Zas o0 L1 n2 n3 O0 N) (cd := 1000000) (cm := 0) (r := (.r0 ((110 : Int)) : ZP)) (fu := 4000) (orc := (Zh [(0, false), (1, true), (2, false)] [(0, (L1.getD 4 0)), (2, (L1.getD 5 0)), (4, (((n2 - 1) : Nat) : Int)), (5, (((n2 - 1) : Nat) : Int))] [(0, 4), (1, 5), (2, (n2 - 1))] [(0, [.k .u8 (L1.getD 4 0)]), (1, [.k .u8 (L1.getD 5 0)]), (2, [.k .u8 (L1.getD (n2 - 1) 0)])] [(1, .sl 6 (n2 - 1)), (2, .sl 0 4), (3, .bs (L1.take (4 - 0))), (4, .bs ([(71 : Int), (78 : Int), (84 : Int), (1 : Int)] : List Int))])) (live := [0]) (u := Value.tuple #[vn, vi (110 : Int)]) (bl := [some (.ro O0)]) (ob := [(((Z5 (L1.take (4 - 0))).toList == (Z5 ([(71 : Int), (78 : Int), (84 : Int), (1 : Int)] : List Int)).toList), false), (dP (Z4 4 (List.drop 0 [Value.int .u8 (71 : Int), Value.int .u8 (78 : Int), Value.int .u8 (84 : Int), Value.int .u8 (1 : Int)]) = some (List.map (Value.int .u8) ([(71 : Int), (78 : Int), (84 : Int), (1 : Int)] : List Int))), true), (dP (roS O0 (o0 + (0 * 1)) (4 - 0) = some (List.map (Value.int .u8) (L1.take (4 - 0)))), true), (dP (0 ≤ 4 ∧ 4 ≤ n3), true), ((4 : Int) == Int.ofNat 4, true), (dS 0, true), ((decide ((n2 : Int) ≥ (4 : Int))), true), (Zan (Za1 O0 (o0 + ((n2 - 1) * 1)) 1) [.k .u8 (L1.getD (n2 - 1) 0)], true), (Nat.blt (n2 - 1) n2, true), ((((n2 - 1) : Nat) : Int) == Int.ofNat (n2 - 1), true), ((IntKind.i64.wrap ((n2 : Int) - (1 : Int))) == (((n2 - 1) : Nat) : Int), true), (dP (6 ≤ (n2 - 1) ∧ (n2 - 1) ≤ n3), true), ((((n2 - 1) : Nat) : Int) == Int.ofNat (n2 - 1), true), ((6 : Int) == Int.ofNat 6, true), ((IntKind.i64.wrap ((n2 : Int) - (1 : Int))) == (((n2 - 1) : Nat) : Int), true), ((IntKind.i64.wrap (L1.getD 5 0)) == (L1.getD 5 0), true), (Zan (Za1 O0 (o0 + (5 * 1)) 1) [.k .u8 (L1.getD 5 0)], true), (Nat.blt 5 n2, true), ((5 : Int) == Int.ofNat 5, true), ((IntKind.i64.wrap (L1.getD 4 0)) == (L1.getD 4 0), true), (Zan (Za1 O0 (o0 + (4 * 1)) 1) [.k .u8 (L1.getD 4 0)], true), (Nat.blt 4 n2, true), ((4 : Int) == Int.ofNat 4, true), ((decide ((n2 : Int) < (7 : Int))), false)]) (by kernel_rfl) (Za (Zgm (x := (L1.take (4 - 0))) (y := ([(71 : Int), (78 : Int), (84 : Int), (1 : Int)] : List Int)) (by assumption)) <| oR <| Za (Zg (ZcZ (L := L1) (b := o0) (a := 0) F0 (by omega) (show _ = _ + _ * 1 from by omega) (by first | rfl | simp))) <| Za (Zg ⟨ltA, ltA⟩) <| oI <| oR <| oY <| Za ((show (o0 + (n2 - 1) * 1 + 0) = (o0 + ((n2 - 1) * 1)) from by omega) ▸ F0 (n2 - 1) (by omega) 0 1 (show 0 + 1 ≤ 1 from by decide)) <| oB <| oI <| Za (beq_iff_eq.2 ((wrap_i64 ltA).trans (by first | rfl | omega))) <| Za (Zg ⟨ltA, ltA⟩) <| oI <| oI <| Za (beq_iff_eq.2 ((wrap_i64 ltA).trans (by first | rfl | omega))) <| Za (beq_iff_eq.2 (wrap_i64 ltA)) <| Za ((show (o0 + 5 * 1 + 0) = (o0 + (5 * 1)) from by omega) ▸ F0 5 (by omega) 0 1 (show 0 + 1 ≤ 1 from by decide)) <| oB <| oI <| Za (beq_iff_eq.2 (wrap_i64 ltA)) <| Za ((show (o0 + 4 * 1 + 0) = (o0 + (4 * 1)) from by omega) ▸ F0 4 (by omega) 0 1 (show 0 + 1 ≤ 1 from by decide)) <| oB <| oI <| oN Zb) rfl (by decide) (by rfl) rr ⟨rfl, trivial⟩
          ·
           exact Mach.en_none
         ·
          exact Mach.en_none
        ·
         exact Mach.en_none
       ·
        exact Mach.en_none
      ·
       exact Mach.en_none
     ·
      exact Mach.en_none
    ·
     exact Mach.en_none
   ·
    exact Mach.en_none
  ·
   exact Mach.en_none

theorem Zjb (o0 : Nat) (L1 : List Int) (n2 n3 : Nat) (O0 : Obj) (F0 : ∀ i, i < L1.length → Zat O0 (o0 + i * 1) [.k .u8 (L1.getD i 0)]) (N : Nat) (r : ZP) (h : Zb7 L1 n2 n3 N = some r) : LSpec Try.prog 9 #[vs 0 o0 n2 n3] [.ro O0] (Znk o0 L1 n2 n3 O0 r) (ZlT o0 L1 n2 n3 O0 r) :=
 Mach.spec ZaR (Zas o0 L1 n2 n3 O0 N) Try.func9 (by kernel_rfl) (by kernel_rfl) (fun x => by cases x <;> exact Zal _ rfl) (fun r => by cases r <;> exact Zal _ rfl) (fun x => by
  cases x with
  | h1m0 => exact fun _ => (show ¬ (1 ∈ Zq (ZdA 1).2) from by decide +kernel)
  | h1m1 _ _ => exact fun _ => (show ¬ (1 ∈ Zq (ZdA 1).2) from by decide +kernel)
  | h1m2 _ _ _ => exact fun _ => (show ¬ (1 ∈ Zq (ZdA 1).2) from by decide +kernel)
  ) (fun x => (show (Zas o0 L1 n2 n3 O0 N).Ok Try.prog Zj x (Zbl L1 n2 n3 N x) from by
  cases x with
  | h1m0 => exact ZnU o0 L1 n2 n3 O0 F0 N
  | h1m1 v2 v4 => exact ZnV o0 L1 n2 n3 O0 F0 v2 v4 N
  | h1m2 v2 v3 v5 => exact ZnW o0 L1 n2 n3 O0 F0 v2 v3 v5 N
  )) (Zqm o0 L1 n2 n3 O0 F0 N) (n := N) h

noncomputable def ZhT (o0 : Nat) (L1 : List Int) (n2 n3 : Nat) (O0 : Obj) (w2 : Int) (k0 n : Nat) : Za4 := .call [(k0, .ro O0)] (Value.tuple #[vn, vi w2]) [] 0
def Zgr (A : Array Value) (o0 : Nat) (L1 : List Int) (n2 n3 : Nat) (O0 : Obj) (w2 : Int) (k0 n : Nat) : Prop := ZB Try.prog 9 A [(k0, .ro O0)] (Value.tuple #[vn, vi w2]) [] n 0

theorem ZhU (A : Array Value) (o0 : Nat) (L1 : List Int) (n2 n3 : Nat) (O0 : Obj) (F0 : ∀ i, i < L1.length → Zat O0 (o0 + i * 1) [.k .u8 (L1.getD i 0)]) (w2 : Int) (N : Nat) (h : Zb7 L1 n2 n3 N = some (.r0 w2)) (k0 n : Nat) (hA : A = #[vs k0 o0 n2 n3]) (hnd : ([k0] : List Nat).Nodup) (hlt : ∀ k ∈ ([k0] : List Nat), k < n) : Zgr A o0 L1 n2 n3 O0 w2 k0 n :=
 ZQ hA (LSpec.callL (show LSpec Try.prog 9 #[vs 0 o0 n2 n3] [.ro O0] (Value.tuple #[vn, vi w2]) [some (.ro O0)] from Zjb o0 L1 n2 n3 O0 F0 N _ h) [k0] n [] rfl hnd hlt (show 1 ≤ 1 from by decide) (show ∀ j ∈ ([] : List Nat), j < 1 from by decide) (by rfl) ⟨rfl, trivial⟩ (by rfl) ⟨rfl, trivial⟩ ⟨.inr rfl, trivial⟩ rfl rfl rfl (Zf (ZaJ rfl rfl) rfl) rfl)

noncomputable def ZhV (o0 : Nat) (L1 : List Int) (n2 n3 : Nat) (O0 : Obj) (w2 : List R_iiii) (k0 n : Nat) : Za4 := .call [(k0, .ro O0)] (Value.tuple #[vs n 0 w2.length w2.length, vq]) [(n, some (.cells (Zc Zi w2) 44))] 1
def Zgs (A : Array Value) (o0 : Nat) (L1 : List Int) (n2 n3 : Nat) (O0 : Obj) (w2 : List R_iiii) (k0 n : Nat) : Prop := ZB Try.prog 9 A [(k0, .ro O0)] (Value.tuple #[vs n 0 w2.length w2.length, vq]) [(n, some (.cells (Zc Zi w2) 44))] n 1

theorem ZhW (A : Array Value) (o0 : Nat) (L1 : List Int) (n2 n3 : Nat) (O0 : Obj) (F0 : ∀ i, i < L1.length → Zat O0 (o0 + i * 1) [.k .u8 (L1.getD i 0)]) (w2 : List R_iiii) (N : Nat) (h : Zb7 L1 n2 n3 N = some (.r1 w2)) (k0 n : Nat) (hA : A = #[vs k0 o0 n2 n3]) (hnd : ([k0] : List Nat).Nodup) (hlt : ∀ k ∈ ([k0] : List Nat), k < n) : Zgs A o0 L1 n2 n3 O0 w2 k0 n :=
 ZQ hA (LSpec.callL (show LSpec Try.prog 9 #[vs 0 o0 n2 n3] [.ro O0] (Value.tuple #[vs 1 0 w2.length w2.length, vq]) [some (.ro O0), some (.cells (Zc Zi w2) 44)] from Zjb o0 L1 n2 n3 O0 F0 N _ h) [k0] n [1] rfl hnd hlt (show 1 ≤ 2 from by decide) (show ∀ j ∈ ([1] : List Nat), j < 2 from by decide) (by rfl) ⟨rfl, trivial⟩ (by rfl) ⟨rfl, ⟨(ZaE _ _ _), trivial⟩⟩ ⟨.inr rfl, ⟨(by decide), trivial⟩⟩ rfl rfl rfl (Zf (ZaJ rfl rfl) rfl) (Zf (ZaJ rfl (ZeN (ZbJ _ _ _))) rfl))

noncomputable def Zov (a0 : Int) : ZbF → Value
 | .r0 w0 => vi w0
noncomputable def Znl (a0 : Int) : ZbF → List (Option AObj)
 | .r0 w0 => []

theorem Zr5 (a0 : Int) (N : Nat) : Fx Try.prog Zj Try.f28 [] #[vi a0] (Zov a0) (Znl a0) (Zdd a0 N) := by
 unfold Zdd
 refine Zl (fun g0 => ?_) (fun g0 => ?_)
 ·
  exact Zk (r := (.r0 ((8 : Int)) : ZbF)) (fu := 4000) (orc := (Zh [(0, true)] [] [] [] [])) (live := []) (u := vi (8 : Int)) (bl := []) (ob := [((a0 == (2 : Int)), true)]) (by kernel_rfl) (oT Zb) rfl (by decide) (by rfl) rr trivial
 ·
  refine Zl (fun g1 => ?_) (fun g1 => ?_)
  ·
   exact Zk (r := (.r0 ((2 : Int)) : ZbF)) (fu := 4000) (orc := (Zh [(0, false), (1, true)] [] [] [] [])) (live := []) (u := vi (2 : Int)) (bl := []) (ob := [((a0 == (3 : Int)), true), ((a0 == (2 : Int)), false)]) (by kernel_rfl) (oT <| oF Zb) rfl (by decide) (by rfl) rr trivial
  ·
   refine Zl (fun g2 => ?_) (fun g2 => ?_)
   ·
    exact Zk (r := (.r0 ((3 : Int)) : ZbF)) (fu := 4000) (orc := (Zh [(0, false), (1, false), (2, true)] [] [] [] [])) (live := []) (u := vi (3 : Int)) (bl := []) (ob := [((a0 == (6 : Int)), true), ((a0 == (3 : Int)), false), ((a0 == (2 : Int)), false)]) (by kernel_rfl) (oT <| oF <| oF Zb) rfl (by decide) (by rfl) rr trivial
   ·
    refine Zl (fun g3 => ?_) (fun g3 => ?_)
    ·
     exact Zk (r := (.r0 ((0 : Int)) : ZbF)) (fu := 4000) (orc := (Zh [(0, false), (1, false), (2, false), (3, true)] [] [] [] [])) (live := []) (u := vq) (bl := []) (ob := [((a0 == (0 : Int)), true), ((a0 == (6 : Int)), false), ((a0 == (3 : Int)), false), ((a0 == (2 : Int)), false)]) (by kernel_rfl) (oT <| oF <| oF <| oF Zb) rfl (by decide) (by rfl) rr trivial
    ·
     exact Zk (r := (.r0 ((1 : Int)) : ZbF)) (fu := 4000) (orc := (Zh [(0, false), (1, false), (2, false), (3, false)] [] [] [] [])) (live := []) (u := vi (1 : Int)) (bl := []) (ob := [((a0 == (0 : Int)), false), ((a0 == (6 : Int)), false), ((a0 == (3 : Int)), false), ((a0 == (2 : Int)), false)]) (by kernel_rfl) (oF <| oF <| oF <| oF Zb) rfl (by decide) (by rfl) rr trivial

theorem ZpC (a0 : Int) (N : Nat) (r : ZbF) (h : Zdd a0 N = some r) : LSpec Try.prog 28 #[vi a0] [] (Zov a0 r) (Znl a0 r) :=
 ZdD ZaR Try.func28 (by kernel_rfl) (by kernel_rfl) (fun r => by cases r <;> exact Zal _ rfl) (Zr5 a0 N) h

noncomputable def ZbQ (a0 w0 : Int) (n : Nat) : Za4 := .call [] (vi w0) [] 0
def ZbD (A : Array Value) (a0 w0 : Int) (n : Nat) : Prop := ZB Try.prog 28 A [] (vi w0) [] n 0

theorem ZbR (A : Array Value) (a0 w0 : Int) (N : Nat) (h : Zdd a0 N = some (.r0 w0)) (n : Nat) (hA : A = #[vi a0]) (hnd : ([] : List Nat).Nodup) (hlt : ∀ k ∈ ([] : List Nat), k < n) : ZbD A a0 w0  n :=
 ZQ hA (LSpec.callL (show LSpec Try.prog 28 #[vi a0] [] (vi w0) [] from ZpC a0 N _ h) [] n [] rfl hnd hlt (show 0 ≤ 0 from by decide) (show ∀ j ∈ ([] : List Nat), j < 0 from by decide) (by rfl) trivial (by rfl) trivial trivial rfl rfl rfl rfl rfl)

noncomputable def ZpD (o0 : Nat) (L1 : List Int) (n2 n3 n4 : Nat) (O0 : Obj) : Zd3 → Value
 | .r0 w2 => vi w2
noncomputable def Zow (o0 : Nat) (L1 : List Int) (n2 n3 n4 : Nat) (O0 : Obj) : Zd3 → List (Option AObj)
 | .r0 w2 => [some (.ro O0)]

def Zt1 : ZbL → Nat
 | .h1m0 v5 v6 => 1
noncomputable def Zum (o0 : Nat) (L1 : List Int) (n2 n3 n4 : Nat) (O0 : Obj) : ZbL → List (Nat × Value)
 | .h1m0 v5 v6 => [(0, vs 0 (o0 + n2) n3 n4), (3, Value.int .u64 v5), (4, vi (v6 : Int))]
noncomputable def Zun (o0 : Nat) (L1 : List Int) (n2 n3 n4 : Nat) (O0 : Obj) : ZbL → List (Option AObj)
 | .h1m0 v5 v6 => [some (.ro O0)]

noncomputable def ZfX : Nat → Code × List Za2
 | 1 => Zbz [1, 1, 0, 1, 3] (Zbh Try.f32) []
 | _ => (.skip, [])
def Zox : Nat → Bool
 | 1 => true
 | _ => true
noncomputable def Zuo (i : Nat) : List Za2 := match Zox i with | true => .rnd i :: (ZfX i).2 | false => (ZfX i).2

noncomputable def Zez (o0 : Nat) (L1 : List Int) (n2 n3 n4 : Nat) (O0 : Obj) (N : Nat) : Mach := ⟨Try.f32, [.ro O0], ZbL, Zd3, Zfx L1 n2 n3 n4 N, Zt1, ZfX, Zox, Zum o0 L1 n2 n3 n4 O0, Zun o0 L1 n2 n3 n4 O0, ZpD o0 L1 n2 n3 n4 O0, Zow o0 L1 n2 n3 n4 O0⟩

theorem ZpE (o0 : Nat) (L1 : List Int) (n2 n3 n4 : Nat) (O0 : Obj) (F0 : ∀ i, i < L1.length → Zat O0 (o0 + i * 1) [.k .u8 (L1.getD i 0)]) (v5 : Int) (v6 N : Nat) : (Zez o0 L1 n2 n3 n4 O0 N).Ok Try.prog Zj (.h1m0 v5 v6 : ZbL) (Zfx L1 n2 n3 n4 N (.h1m0 v5 v6 : ZbL)) := by
 show (Zez o0 L1 n2 n3 n4 O0 N).Ok Try.prog Zj (.h1m0 v5 v6 : ZbL) (Zdx L1 n2 n3 n4 N v5 v6)
 unfold Zdx
 refine Mach.ok_ite (fun g0 => ?_) (fun g0 => ?_)
 ·
  refine Mach.ok_ite (fun g1 => ?_) (fun g1 => ?_)
  ·
   refine Mach.ok_ite (fun g2 => ?_) (fun g2 => ?_)
   ·
    refine Mach.ok_ite (fun g3 => ?_) (fun g3 => ?_)
    ·
     refine Mach.ok_ite (fun g4 => ?_) (fun g4 => ?_)
     ·
      exact Mach.ok_next (M := Zez o0 L1 n2 n3 n4 O0 N) (cd := 1000000) (cm := 0) (y := (.h1m0 ((IntKind.u64.wrap ((IntKind.u64.wrap ((256 : Int) * v5)) + (L1.getD (v6 + n2) 0)))) ((v6 + 1)) : ZbL)) (fu := 4000) (orc := (Zh [(0, true)] [(1, (L1.getD (v6 + n2) 0)), (3, (((v6 + 1) : Nat) : Int))] [(0, v6)] [(0, [.k .u8 (L1.getD (v6 + n2) 0)])] [])) (live := [0]) (tv := fun _ => [some (vs 0 (o0 + n2) n3 n4), some (Value.int .u64 (IntKind.u64.wrap ((IntKind.u64.wrap ((256 : Int) * v5)) + (L1.getD (v6 + n2) 0)))), some (vi (((v6 + 1) : Nat) : Int))]) (bl := [some (.ro O0)]) (ob := [((IntKind.i64.wrap ((v6 : Int) + (1 : Int))) == (((v6 + 1) : Nat) : Int), true), ((IntKind.u64.wrap (L1.getD (v6 + n2) 0)) == (L1.getD (v6 + n2) 0), true), (Zan (Za1 O0 ((o0 + n2) + (v6 * 1)) 1) [.k .u8 (L1.getD (v6 + n2) 0)], true), (Nat.blt v6 n3, true), ((v6 : Int) == Int.ofNat v6, true), ((decide ((v6 : Int) < (n3 : Int))), true)]) rfl (show 1 ∈ Zq (Zuo 1) from by decide +kernel) (fun gv => by kernel_rfl) (Za (beq_iff_eq.2 ((wrap_i64 ltA).trans (by first | rfl | omega))) <| Za (beq_iff_eq.2 (Zaa ltA)) <| Za ((show (o0 + (v6 + n2) * 1 + 0) = ((o0 + n2) + (v6 * 1)) from by omega) ▸ F0 (v6 + n2) (by omega) 0 1 (show 0 + 1 ≤ 1 from by decide)) <| oB <| oI <| oY Zb) rfl (by decide) (by rfl) (fun _ => ⟨rr, ⟨rr, ⟨rr, trivial⟩⟩⟩) ⟨rfl, trivial⟩
     ·
      exact Mach.ok_none
    ·
     exact Mach.ok_none
   ·
    exact Mach.ok_none
  ·
   exact Mach.ok_none
 ·
  exact Mach.ok_fin (M := Zez o0 L1 n2 n3 n4 O0 N) (cd := 1000000) (cm := 0) (r := (.r0 ((IntKind.i64.wrap v5)) : Zd3)) (fu := 4000) (orc := (Zh [(0, false)] [] [] [] [])) (live := [0]) (u := vi (IntKind.i64.wrap v5)) (bl := [some (.ro O0)]) (ob := [((decide ((v6 : Int) < (n3 : Int))), false)]) (fun gv => by kernel_rfl) (oN Zb) rfl (by decide) (by rfl) rr ⟨rfl, trivial⟩

theorem ZsP (o0 : Nat) (L1 : List Int) (n2 n3 n4 : Nat) (O0 : Obj) (F0 : ∀ i, i < L1.length → Zat O0 (o0 + i * 1) [.k .u8 (L1.getD i 0)]) (N : Nat) : (Zez o0 L1 n2 n3 n4 O0 N).Enter Try.prog Zj #[vs 0 (o0 + n2) n3 n4] (ZjT L1 n2 n3 n4 N) := by
 unfold ZjT
 exact Mach.en_head (bK := ZfX 1) (M := Zez o0 L1 n2 n3 n4 O0 N) (cd := 1000000) (cm := 0) (y := (.h1m0 ((0 : Int)) (0) : ZbL)) (fu := 4000) (orc := (Zh [] [] [] [] [])) (live := [0]) (tv := [some (vs 0 (o0 + n2) n3 n4), some (Value.int .u64 (0 : Int)), some (vq)]) (bl := [some (.ro O0)]) (ob := []) rfl rfl (show Zq (ZfX 1).2 = [] from rfl) (by kernel_rfl) Zb rfl (by decide) (by rfl) ⟨rr, ⟨rr, ⟨⟨Eq.trans (show (vi ((0 : Nat) : Int) : Value) = vq from (congrArg (Value.int .i64) (by first | rfl | omega))) (by rfl), by rfl⟩, trivial⟩⟩⟩ ⟨rfl, trivial⟩

theorem Zqn (o0 : Nat) (L1 : List Int) (n2 n3 n4 : Nat) (O0 : Obj) (F0 : ∀ i, i < L1.length → Zat O0 (o0 + i * 1) [.k .u8 (L1.getD i 0)]) (N : Nat) (r : Zd3) (h : ZfJ L1 n2 n3 n4 N = some r) : LSpec Try.prog 32 #[vs 0 (o0 + n2) n3 n4] [.ro O0] (ZpD o0 L1 n2 n3 n4 O0 r) (Zow o0 L1 n2 n3 n4 O0 r) :=
 Mach.spec ZaR (Zez o0 L1 n2 n3 n4 O0 N) Try.func32 (by kernel_rfl) (by kernel_rfl) (fun x => by cases x <;> exact Zal _ rfl) (fun r => by cases r <;> exact Zal _ rfl) (fun x => by
  cases x with
  | h1m0 _ _ => exact fun _ => (show ¬ (1 ∈ Zq (ZfX 1).2) from by decide +kernel)
  ) (fun x => (show (Zez o0 L1 n2 n3 n4 O0 N).Ok Try.prog Zj x (Zfx L1 n2 n3 n4 N x) from by
  cases x with
  | h1m0 v5 v6 => exact ZpE o0 L1 n2 n3 n4 O0 F0 v5 v6 N
  )) (ZsP o0 L1 n2 n3 n4 O0 F0 N) (n := N) h

noncomputable def Zf4 (o0 : Nat) (L1 : List Int) (n2 n3 n4 : Nat) (O0 : Obj) (w2 : Int) (k0 n : Nat) : Za4 := .call [(k0, .ro O0)] (vi w2) [] 0
def ZeD (A : Array Value) (o0 : Nat) (L1 : List Int) (n2 n3 n4 : Nat) (O0 : Obj) (w2 : Int) (k0 n : Nat) : Prop := ZB Try.prog 32 A [(k0, .ro O0)] (vi w2) [] n 0

theorem Zf5 (A : Array Value) (o0 : Nat) (L1 : List Int) (n2 n3 n4 : Nat) (O0 : Obj) (F0 : ∀ i, i < L1.length → Zat O0 (o0 + i * 1) [.k .u8 (L1.getD i 0)]) (w2 : Int) (N : Nat) (h : ZfJ L1 n2 n3 n4 N = some (.r0 w2)) (k0 n : Nat) (hA : A = #[vs k0 (o0 + n2) n3 n4]) (hnd : ([k0] : List Nat).Nodup) (hlt : ∀ k ∈ ([k0] : List Nat), k < n) : ZeD A o0 L1 n2 n3 n4 O0 w2 k0 n :=
 ZQ hA (LSpec.callL (show LSpec Try.prog 32 #[vs 0 (o0 + n2) n3 n4] [.ro O0] (vi w2) [some (.ro O0)] from Zqn o0 L1 n2 n3 n4 O0 F0 N _ h) [k0] n [] rfl hnd hlt (show 1 ≤ 1 from by decide) (show ∀ j ∈ ([] : List Nat), j < 1 from by decide) (by rfl) ⟨rfl, trivial⟩ (by rfl) ⟨rfl, trivial⟩ ⟨.inr rfl, trivial⟩ rfl rfl rfl (Zf (ZaJ rfl rfl) rfl) rfl)

noncomputable def ZlV (o0 : Nat) (L1 : List Int) (n2 n3 n4 : Nat) (O0 : Obj) : ZaX → Value
 | .r0 w6 => Value.tuple #[Value.agg #[vq, vq, vq, vq], vn, vi w6]
 | .r1 w3 w4 w5 w6 w7 w8 => Value.tuple #[Value.agg #[vi (L1.getD n2 0), vi w3, vi w4, vi w5], vs 0 (o0 + w6) w7 w8, vq]
noncomputable def ZkE (o0 : Nat) (L1 : List Int) (n2 n3 n4 : Nat) (O0 : Obj) : ZaX → List (Option AObj)
 | .r0 w6 => [some (.ro O0)]
 | .r1 w3 w4 w5 w6 w7 w8 => [some (.ro O0)]

theorem ZpF (o0 : Nat) (L1 : List Int) (n2 n3 n4 : Nat) (O0 : Obj) (F0 : ∀ i, i < L1.length → Zat O0 (o0 + i * 1) [.k .u8 (L1.getD i 0)]) (N : Nat) : Fx Try.prog Zj Try.f19 [.ro O0] #[vs 0 (o0 + n2) n3 n4] (ZlV o0 L1 n2 n3 n4 O0) (ZkE o0 L1 n2 n3 n4 O0) (Zb1 L1 n2 n3 n4 N) := by
 unfold Zb1
 refine Zl (fun g0 => ?_) (fun g0 => ?_)
 ·
  exact Zk (r := (.r0 ((6 : Int)) : ZaX)) (fu := 4000) (orc := (Zh [(0, true)] [] [] [] [])) (live := [0]) (u := Value.tuple #[Value.agg #[vq, vq, vq, vq], vn, vi (6 : Int)]) (bl := [some (.ro O0)]) (ob := [(((n3 : Int) == (0 : Int)), true)]) (by kernel_rfl) (oT Zb) rfl (by decide) (by rfl) rr ⟨rfl, trivial⟩
 ·
  refine Zl (fun g1 => ?_) (fun g1 => ?_)
  ·
   refine Zl (fun g2 => ?_) (fun g2 => ?_)
   ·
    refine Zl (fun g3 => ?_) (fun g3 => ?_)
    ·
     refine ZdC (fun z4 c4 => ?_)
     cases z4 with
     | r0 y4_0 y4_1 y4_2 y4_3 =>
      refine Zl (fun g5 => ?_) (fun g5 => ?_)
      ·
       exact Zk (r := (.r0 ((100 : Int)) : ZaX)) (fu := 4000) (orc := (Zh [(0, false), (1, true)] [(0, (L1.getD n2 0))] [(0, 0)] [(0, [.k .u8 (L1.getD n2 0)])] [(0, (Zd4 ((L1.getD n2 0))  y4_0 y4_1 y4_2 y4_3  2))])) (live := [0]) (u := Value.tuple #[Value.agg #[vq, vq, vq, vq], vn, vi (100 : Int)]) (bl := [some (.ro O0)]) (ob := [((!y4_3), true), (dP (ZcX #[vi (L1.getD n2 0)] ((L1.getD n2 0))  y4_0 y4_1 y4_2 y4_3  2), true), ((IntKind.i64.wrap (L1.getD n2 0)) == (L1.getD n2 0), true), (Zan (Za1 O0 ((o0 + n2) + (0 * 1)) 1) [.k .u8 (L1.getD n2 0)], true), (Nat.blt 0 n3, true), ((0 : Int) == Int.ofNat 0, true), (((n3 : Int) == (0 : Int)), false)]) (by kernel_rfl) (Za (Zkp (by first | assumption | simp_all)) <| Za (Zg (Zd5 #[vi (L1.getD n2 0)] ((L1.getD n2 0))  y4_0 y4_1 y4_2 y4_3 N c4  2 rfl (by decide) (by decide))) <| Za (beq_iff_eq.2 (wrap_i64 ltA)) <| Za ((show (o0 + n2 * 1 + 0) = ((o0 + n2) + (0 * 1)) from by omega) ▸ F0 n2 (by omega) 0 1 (show 0 + 1 ≤ 1 from by decide)) <| oB <| oI <| oF Zb) rfl (by decide) (by rfl) rr ⟨rfl, trivial⟩
      ·
       refine ZdC (fun z6 c6 => ?_)
       cases z6 with
       | r0 y6_0 =>
        refine ZdC (fun z7 c7 => ?_)
        cases z7 with
        | r0 y7_0 =>
         refine ZdC (fun z8 c8 => ?_)
         cases z8 with
         | r0 y8_0 =>
          refine ZdC (fun z9 c9 => ?_)
          cases z9 with
          | r0 y9_0 =>
           refine Zl (fun g10 => ?_) (fun g10 => ?_)
           ·
            exact Zk (r := (.r0 ((6 : Int)) : ZaX)) (fu := 4000) (orc := (Zh [(0, false), (1, false), (2, true)] [(0, (L1.getD n2 0))] [(0, 0)] [(0, [.k .u8 (L1.getD n2 0)])] [(0, (Zd4 ((L1.getD n2 0))  y4_0 y4_1 y4_2 y4_3  2)), (2, (ZbQ (y4_0)  y6_0  3)), (3, (ZbQ (y4_0)  y7_0  3)), (4, (ZbQ (y4_1)  y8_0  3)), (5, (ZbQ (y4_2)  y9_0  3))])) (live := [0]) (u := Value.tuple #[Value.agg #[vq, vq, vq, vq], vn, vi (6 : Int)]) (bl := [some (.ro O0)]) (ob := [((decide ((n3 : Int) < (IntKind.i64.wrap ((IntKind.i64.wrap ((IntKind.i64.wrap ((1 : Int) + y7_0)) + y8_0)) + y9_0)))), true), (dP (ZbD #[vi y4_2] (y4_2)  y9_0  3), true), (dP (ZbD #[vi y4_1] (y4_1)  y8_0  3), true), (dP (ZbD #[vi y4_0] (y4_0)  y7_0  3), true), (dP (ZbD #[vi y4_0] (y4_0)  y6_0  3), true), ((!y4_3), false), (dP (ZcX #[vi (L1.getD n2 0)] ((L1.getD n2 0))  y4_0 y4_1 y4_2 y4_3  2), true), ((IntKind.i64.wrap (L1.getD n2 0)) == (L1.getD n2 0), true), (Zan (Za1 O0 ((o0 + n2) + (0 * 1)) 1) [.k .u8 (L1.getD n2 0)], true), (Nat.blt 0 n3, true), ((0 : Int) == Int.ofNat 0, true), (((n3 : Int) == (0 : Int)), false)]) (by kernel_rfl) (oY <| Za (Zg (ZbR #[vi y4_2] (y4_2)  y9_0 N c9  3 rfl (by decide) (by decide))) <| Za (Zg (ZbR #[vi y4_1] (y4_1)  y8_0 N c8  3 rfl (by decide) (by decide))) <| Za (Zg (ZbR #[vi y4_0] (y4_0)  y7_0 N c7  3 rfl (by decide) (by decide))) <| Za (Zg (ZbR #[vi y4_0] (y4_0)  y6_0 N c6  3 rfl (by decide) (by decide))) <| Za (Zb8 (by first | assumption | exact Decidable.not_not.1 (by assumption) | simp_all)) <| Za (Zg (Zd5 #[vi (L1.getD n2 0)] ((L1.getD n2 0))  y4_0 y4_1 y4_2 y4_3 N c4  2 rfl (by decide) (by decide))) <| Za (beq_iff_eq.2 (wrap_i64 ltA)) <| Za ((show (o0 + n2 * 1 + 0) = ((o0 + n2) + (0 * 1)) from by omega) ▸ F0 n2 (by omega) 0 1 (show 0 + 1 ≤ 1 from by decide)) <| oB <| oI <| oF Zb) rfl (by decide) (by rfl) rr ⟨rfl, trivial⟩
           ·
            refine Zl (fun g11 => ?_) (fun g11 => ?_)
            ·
             refine Zl (fun g12 => ?_) (fun g12 => ?_)
             ·
              refine ZdC (fun z13 c13 => ?_)
              cases z13 with
              | r0 y13_0 =>
               refine Zl (fun g14 => ?_) (fun g14 => ?_)
               ·
                refine Zl (fun g15 => ?_) (fun g15 => ?_)
                ·
                 refine ZdC (fun z16 c16 => ?_)
                 cases z16 with
                 | r0 y16_0 =>
                  refine Zl (fun g17 => ?_) (fun g17 => ?_)
                  ·
                   refine Zl (fun g18 => ?_) (fun g18 => ?_)
                   ·
                    refine ZdC (fun z19 c19 => ?_)
                    cases z19 with
                    | r0 y19_0 =>
                     refine ZdC (fun z20 c20 => ?_)
                     cases z20 with
                     | r0 y20_0 =>
                      refine Zl (fun g21 => ?_) (fun g21 => ?_)
                      ·
                       exact Zk (r := (.r0 ((100 : Int)) : ZaX)) (fu := 4000) (orc := (Zh [(0, false), (1, false), (2, false), (3, true)] [(0, (L1.getD n2 0)), (5, (L1.getD n2 0))] [(0, 0), (5, 0)] [(0, [.k .u8 (L1.getD n2 0)]), (5, [.k .u8 (L1.getD n2 0)])] [(0, (Zd4 ((L1.getD n2 0))  y4_0 y4_1 y4_2 y4_3  2)), (2, (ZbQ (y4_0)  y6_0  3)), (3, (ZbQ (y4_0)  y7_0  3)), (4, (ZbQ (y4_1)  y8_0  3)), (5, (ZbQ (y4_2)  y9_0  3)), (6, .sl 1 ((IntKind.i64.wrap ((1 : Int) + y6_0))).toNat), (7, (Zf4 (o0) (L1) ((n2 + 1)) ((((IntKind.i64.wrap ((1 : Int) + y6_0))).toNat - 1)) ((n4 - 1)) O0 y13_0 0 3)), (8, .sl ((IntKind.i64.wrap ((1 : Int) + y6_0))).toNat ((IntKind.i64.wrap ((IntKind.i64.wrap ((1 : Int) + y7_0)) + y8_0))).toNat), (9, (Zf4 (o0) (L1) ((((IntKind.i64.wrap ((1 : Int) + y6_0))).toNat + n2)) ((((IntKind.i64.wrap ((IntKind.i64.wrap ((1 : Int) + y7_0)) + y8_0))).toNat - ((IntKind.i64.wrap ((1 : Int) + y6_0))).toNat)) ((n4 - ((IntKind.i64.wrap ((1 : Int) + y6_0))).toNat)) O0 y16_0 0 3)), (10, .sl ((IntKind.i64.wrap ((IntKind.i64.wrap ((1 : Int) + y7_0)) + y8_0))).toNat ((IntKind.i64.wrap ((IntKind.i64.wrap ((IntKind.i64.wrap ((1 : Int) + y7_0)) + y8_0)) + y9_0))).toNat), (11, (Zf4 (o0) (L1) ((((IntKind.i64.wrap ((IntKind.i64.wrap ((1 : Int) + y7_0)) + y8_0))).toNat + n2)) ((((IntKind.i64.wrap ((IntKind.i64.wrap ((IntKind.i64.wrap ((1 : Int) + y7_0)) + y8_0)) + y9_0))).toNat - ((IntKind.i64.wrap ((IntKind.i64.wrap ((1 : Int) + y7_0)) + y8_0))).toNat)) ((n4 - ((IntKind.i64.wrap ((IntKind.i64.wrap ((1 : Int) + y7_0)) + y8_0))).toNat)) O0 y19_0 0 3)), (13, (ZaF ((L1.getD n2 0)) (y13_0) (y16_0) (y19_0)  y20_0  4))])) (live := [0]) (u := Value.tuple #[Value.agg #[vq, vq, vq, vq], vn, vi (100 : Int)]) (bl := [some (.ro O0)]) (ob := [((!y20_0), true), (dP (ZaA #[Value.agg #[vi (L1.getD n2 0), vi y13_0, vi y16_0, vi y19_0]] ((L1.getD n2 0)) (y13_0) (y16_0) (y19_0)  y20_0  4), true), (dP (ZeD #[Value.slice (some ⟨0, ((o0 + n2) + (((IntKind.i64.wrap ((IntKind.i64.wrap ((1 : Int) + y7_0)) + y8_0))).toNat * 1)), none⟩) (((IntKind.i64.wrap ((IntKind.i64.wrap ((IntKind.i64.wrap ((1 : Int) + y7_0)) + y8_0)) + y9_0))).toNat - ((IntKind.i64.wrap ((IntKind.i64.wrap ((1 : Int) + y7_0)) + y8_0))).toNat) (n4 - ((IntKind.i64.wrap ((IntKind.i64.wrap ((1 : Int) + y7_0)) + y8_0))).toNat)] (o0) (L1) ((((IntKind.i64.wrap ((IntKind.i64.wrap ((1 : Int) + y7_0)) + y8_0))).toNat + n2)) ((((IntKind.i64.wrap ((IntKind.i64.wrap ((IntKind.i64.wrap ((1 : Int) + y7_0)) + y8_0)) + y9_0))).toNat - ((IntKind.i64.wrap ((IntKind.i64.wrap ((1 : Int) + y7_0)) + y8_0))).toNat)) ((n4 - ((IntKind.i64.wrap ((IntKind.i64.wrap ((1 : Int) + y7_0)) + y8_0))).toNat)) O0 y19_0 0 3), true), (dS O0, true), (dP (((IntKind.i64.wrap ((IntKind.i64.wrap ((1 : Int) + y7_0)) + y8_0))).toNat ≤ ((IntKind.i64.wrap ((IntKind.i64.wrap ((IntKind.i64.wrap ((1 : Int) + y7_0)) + y8_0)) + y9_0))).toNat ∧ ((IntKind.i64.wrap ((IntKind.i64.wrap ((IntKind.i64.wrap ((1 : Int) + y7_0)) + y8_0)) + y9_0))).toNat ≤ n4), true), ((IntKind.i64.wrap ((IntKind.i64.wrap ((IntKind.i64.wrap ((1 : Int) + y7_0)) + y8_0)) + y9_0)) == Int.ofNat ((IntKind.i64.wrap ((IntKind.i64.wrap ((IntKind.i64.wrap ((1 : Int) + y7_0)) + y8_0)) + y9_0))).toNat, true), ((IntKind.i64.wrap ((IntKind.i64.wrap ((1 : Int) + y7_0)) + y8_0)) == Int.ofNat ((IntKind.i64.wrap ((IntKind.i64.wrap ((1 : Int) + y7_0)) + y8_0))).toNat, true), (dP (ZeD #[Value.slice (some ⟨0, ((o0 + n2) + (((IntKind.i64.wrap ((1 : Int) + y6_0))).toNat * 1)), none⟩) (((IntKind.i64.wrap ((IntKind.i64.wrap ((1 : Int) + y7_0)) + y8_0))).toNat - ((IntKind.i64.wrap ((1 : Int) + y6_0))).toNat) (n4 - ((IntKind.i64.wrap ((1 : Int) + y6_0))).toNat)] (o0) (L1) ((((IntKind.i64.wrap ((1 : Int) + y6_0))).toNat + n2)) ((((IntKind.i64.wrap ((IntKind.i64.wrap ((1 : Int) + y7_0)) + y8_0))).toNat - ((IntKind.i64.wrap ((1 : Int) + y6_0))).toNat)) ((n4 - ((IntKind.i64.wrap ((1 : Int) + y6_0))).toNat)) O0 y16_0 0 3), true), (dS O0, true), (dP (((IntKind.i64.wrap ((1 : Int) + y6_0))).toNat ≤ ((IntKind.i64.wrap ((IntKind.i64.wrap ((1 : Int) + y7_0)) + y8_0))).toNat ∧ ((IntKind.i64.wrap ((IntKind.i64.wrap ((1 : Int) + y7_0)) + y8_0))).toNat ≤ n4), true), ((IntKind.i64.wrap ((IntKind.i64.wrap ((1 : Int) + y7_0)) + y8_0)) == Int.ofNat ((IntKind.i64.wrap ((IntKind.i64.wrap ((1 : Int) + y7_0)) + y8_0))).toNat, true), ((IntKind.i64.wrap ((1 : Int) + y6_0)) == Int.ofNat ((IntKind.i64.wrap ((1 : Int) + y6_0))).toNat, true), (dP (ZeD #[Value.slice (some ⟨0, ((o0 + n2) + (1 * 1)), none⟩) (((IntKind.i64.wrap ((1 : Int) + y6_0))).toNat - 1) (n4 - 1)] (o0) (L1) ((n2 + 1)) ((((IntKind.i64.wrap ((1 : Int) + y6_0))).toNat - 1)) ((n4 - 1)) O0 y13_0 0 3), true), (dS O0, true), (dP (1 ≤ ((IntKind.i64.wrap ((1 : Int) + y6_0))).toNat ∧ ((IntKind.i64.wrap ((1 : Int) + y6_0))).toNat ≤ n4), true), ((IntKind.i64.wrap ((1 : Int) + y6_0)) == Int.ofNat ((IntKind.i64.wrap ((1 : Int) + y6_0))).toNat, true), ((1 : Int) == Int.ofNat 1, true), ((IntKind.i64.wrap (L1.getD n2 0)) == (L1.getD n2 0), true), (Zan (Za1 O0 ((o0 + n2) + (0 * 1)) 1) [.k .u8 (L1.getD n2 0)], true), (Nat.blt 0 n3, true), ((0 : Int) == Int.ofNat 0, true), ((decide ((n3 : Int) < (IntKind.i64.wrap ((IntKind.i64.wrap ((IntKind.i64.wrap ((1 : Int) + y7_0)) + y8_0)) + y9_0)))), false), (dP (ZbD #[vi y4_2] (y4_2)  y9_0  3), true), (dP (ZbD #[vi y4_1] (y4_1)  y8_0  3), true), (dP (ZbD #[vi y4_0] (y4_0)  y7_0  3), true), (dP (ZbD #[vi y4_0] (y4_0)  y6_0  3), true), ((!y4_3), false), (dP (ZcX #[vi (L1.getD n2 0)] ((L1.getD n2 0))  y4_0 y4_1 y4_2 y4_3  2), true), ((IntKind.i64.wrap (L1.getD n2 0)) == (L1.getD n2 0), true), (Zan (Za1 O0 ((o0 + n2) + (0 * 1)) 1) [.k .u8 (L1.getD n2 0)], true), (Nat.blt 0 n3, true), ((0 : Int) == Int.ofNat 0, true), (((n3 : Int) == (0 : Int)), false)]) (by kernel_rfl) (Za (Zkp (by first | assumption | simp_all)) <| Za (Zg (ZaG #[Value.agg #[vi (L1.getD n2 0), vi y13_0, vi y16_0, vi y19_0]] ((L1.getD n2 0)) (y13_0) (y16_0) (y19_0)  y20_0 N c20  4 rfl (by decide) (by decide))) <| Za (Zg (Zf5 #[Value.slice (some ⟨0, ((o0 + n2) + (((IntKind.i64.wrap ((IntKind.i64.wrap ((1 : Int) + y7_0)) + y8_0))).toNat * 1)), none⟩) (((IntKind.i64.wrap ((IntKind.i64.wrap ((IntKind.i64.wrap ((1 : Int) + y7_0)) + y8_0)) + y9_0))).toNat - ((IntKind.i64.wrap ((IntKind.i64.wrap ((1 : Int) + y7_0)) + y8_0))).toNat) (n4 - ((IntKind.i64.wrap ((IntKind.i64.wrap ((1 : Int) + y7_0)) + y8_0))).toNat)] (o0) (L1) ((((IntKind.i64.wrap ((IntKind.i64.wrap ((1 : Int) + y7_0)) + y8_0))).toNat + n2)) ((((IntKind.i64.wrap ((IntKind.i64.wrap ((IntKind.i64.wrap ((1 : Int) + y7_0)) + y8_0)) + y9_0))).toNat - ((IntKind.i64.wrap ((IntKind.i64.wrap ((1 : Int) + y7_0)) + y8_0))).toNat)) ((n4 - ((IntKind.i64.wrap ((IntKind.i64.wrap ((1 : Int) + y7_0)) + y8_0))).toNat)) O0 F0 y19_0 N c19 0 3 (ZcM (Zf (Z2 eqA rfl rfl) rfl)) (by decide) (by decide))) <| oR <| Za (Zg ⟨ltA, ltA⟩) <| oI <| oI <| Za (Zg (Zf5 #[Value.slice (some ⟨0, ((o0 + n2) + (((IntKind.i64.wrap ((1 : Int) + y6_0))).toNat * 1)), none⟩) (((IntKind.i64.wrap ((IntKind.i64.wrap ((1 : Int) + y7_0)) + y8_0))).toNat - ((IntKind.i64.wrap ((1 : Int) + y6_0))).toNat) (n4 - ((IntKind.i64.wrap ((1 : Int) + y6_0))).toNat)] (o0) (L1) ((((IntKind.i64.wrap ((1 : Int) + y6_0))).toNat + n2)) ((((IntKind.i64.wrap ((IntKind.i64.wrap ((1 : Int) + y7_0)) + y8_0))).toNat - ((IntKind.i64.wrap ((1 : Int) + y6_0))).toNat)) ((n4 - ((IntKind.i64.wrap ((1 : Int) + y6_0))).toNat)) O0 F0 y16_0 N c16 0 3 (ZcM (Zf (Z2 eqA rfl rfl) rfl)) (by decide) (by decide))) <| oR <| Za (Zg ⟨ltA, ltA⟩) <| oI <| oI <| Za (Zg (Zf5 #[Value.slice (some ⟨0, ((o0 + n2) + (1 * 1)), none⟩) (((IntKind.i64.wrap ((1 : Int) + y6_0))).toNat - 1) (n4 - 1)] (o0) (L1) ((n2 + 1)) ((((IntKind.i64.wrap ((1 : Int) + y6_0))).toNat - 1)) ((n4 - 1)) O0 F0 y13_0 N c13 0 3 (ZcM (Zf (Z2 eqA rfl rfl) rfl)) (by decide) (by decide))) <| oR <| Za (Zg ⟨ltA, ltA⟩) <| oI <| oI <| Za (beq_iff_eq.2 (wrap_i64 ltA)) <| Za ((show (o0 + n2 * 1 + 0) = ((o0 + n2) + (0 * 1)) from by omega) ▸ F0 n2 (by omega) 0 1 (show 0 + 1 ≤ 1 from by decide)) <| oB <| oI <| oN <| Za (Zg (ZbR #[vi y4_2] (y4_2)  y9_0 N c9  3 rfl (by decide) (by decide))) <| Za (Zg (ZbR #[vi y4_1] (y4_1)  y8_0 N c8  3 rfl (by decide) (by decide))) <| Za (Zg (ZbR #[vi y4_0] (y4_0)  y7_0 N c7  3 rfl (by decide) (by decide))) <| Za (Zg (ZbR #[vi y4_0] (y4_0)  y6_0 N c6  3 rfl (by decide) (by decide))) <| Za (Zb8 (by first | assumption | exact Decidable.not_not.1 (by assumption) | simp_all)) <| Za (Zg (Zd5 #[vi (L1.getD n2 0)] ((L1.getD n2 0))  y4_0 y4_1 y4_2 y4_3 N c4  2 rfl (by decide) (by decide))) <| Za (beq_iff_eq.2 (wrap_i64 ltA)) <| Za ((show (o0 + n2 * 1 + 0) = ((o0 + n2) + (0 * 1)) from by omega) ▸ F0 n2 (by omega) 0 1 (show 0 + 1 ≤ 1 from by decide)) <| oB <| oI <| oF Zb) rfl (by decide) (by rfl) rr ⟨rfl, trivial⟩
                      ·
                       refine Zl (fun g22 => ?_) (fun g22 => ?_)
                       ·
                        exact Zk (r := (.r1 (y13_0) (y16_0) (y19_0) ((((IntKind.i64.wrap ((IntKind.i64.wrap ((IntKind.i64.wrap ((1 : Int) + y7_0)) + y8_0)) + y9_0))).toNat + n2)) ((n3 - ((IntKind.i64.wrap ((IntKind.i64.wrap ((IntKind.i64.wrap ((1 : Int) + y7_0)) + y8_0)) + y9_0))).toNat)) ((n4 - ((IntKind.i64.wrap ((IntKind.i64.wrap ((IntKind.i64.wrap ((1 : Int) + y7_0)) + y8_0)) + y9_0))).toNat)) : ZaX)) (fu := 4000) (orc := (Zh [(0, false), (1, false), (2, false), (3, false)] [(0, (L1.getD n2 0)), (5, (L1.getD n2 0))] [(0, 0), (5, 0)] [(0, [.k .u8 (L1.getD n2 0)]), (5, [.k .u8 (L1.getD n2 0)])] [(0, (Zd4 ((L1.getD n2 0))  y4_0 y4_1 y4_2 y4_3  2)), (2, (ZbQ (y4_0)  y6_0  3)), (3, (ZbQ (y4_0)  y7_0  3)), (4, (ZbQ (y4_1)  y8_0  3)), (5, (ZbQ (y4_2)  y9_0  3)), (6, .sl 1 ((IntKind.i64.wrap ((1 : Int) + y6_0))).toNat), (7, (Zf4 (o0) (L1) ((n2 + 1)) ((((IntKind.i64.wrap ((1 : Int) + y6_0))).toNat - 1)) ((n4 - 1)) O0 y13_0 0 3)), (8, .sl ((IntKind.i64.wrap ((1 : Int) + y6_0))).toNat ((IntKind.i64.wrap ((IntKind.i64.wrap ((1 : Int) + y7_0)) + y8_0))).toNat), (9, (Zf4 (o0) (L1) ((((IntKind.i64.wrap ((1 : Int) + y6_0))).toNat + n2)) ((((IntKind.i64.wrap ((IntKind.i64.wrap ((1 : Int) + y7_0)) + y8_0))).toNat - ((IntKind.i64.wrap ((1 : Int) + y6_0))).toNat)) ((n4 - ((IntKind.i64.wrap ((1 : Int) + y6_0))).toNat)) O0 y16_0 0 3)), (10, .sl ((IntKind.i64.wrap ((IntKind.i64.wrap ((1 : Int) + y7_0)) + y8_0))).toNat ((IntKind.i64.wrap ((IntKind.i64.wrap ((IntKind.i64.wrap ((1 : Int) + y7_0)) + y8_0)) + y9_0))).toNat), (11, (Zf4 (o0) (L1) ((((IntKind.i64.wrap ((IntKind.i64.wrap ((1 : Int) + y7_0)) + y8_0))).toNat + n2)) ((((IntKind.i64.wrap ((IntKind.i64.wrap ((IntKind.i64.wrap ((1 : Int) + y7_0)) + y8_0)) + y9_0))).toNat - ((IntKind.i64.wrap ((IntKind.i64.wrap ((1 : Int) + y7_0)) + y8_0))).toNat)) ((n4 - ((IntKind.i64.wrap ((IntKind.i64.wrap ((1 : Int) + y7_0)) + y8_0))).toNat)) O0 y19_0 0 3)), (13, (ZaF ((L1.getD n2 0)) (y13_0) (y16_0) (y19_0)  y20_0  4)), (14, .sl ((IntKind.i64.wrap ((IntKind.i64.wrap ((IntKind.i64.wrap ((1 : Int) + y7_0)) + y8_0)) + y9_0))).toNat n3)])) (live := [0]) (u := Value.tuple #[Value.agg #[vi (L1.getD n2 0), vi y13_0, vi y16_0, vi y19_0], Value.slice (some ⟨0, ((o0 + n2) + (((IntKind.i64.wrap ((IntKind.i64.wrap ((IntKind.i64.wrap ((1 : Int) + y7_0)) + y8_0)) + y9_0))).toNat * 1)), none⟩) (n3 - ((IntKind.i64.wrap ((IntKind.i64.wrap ((IntKind.i64.wrap ((1 : Int) + y7_0)) + y8_0)) + y9_0))).toNat) (n4 - ((IntKind.i64.wrap ((IntKind.i64.wrap ((IntKind.i64.wrap ((1 : Int) + y7_0)) + y8_0)) + y9_0))).toNat), vq]) (bl := [some (.ro O0)]) (ob := [(dP (((IntKind.i64.wrap ((IntKind.i64.wrap ((IntKind.i64.wrap ((1 : Int) + y7_0)) + y8_0)) + y9_0))).toNat ≤ n3 ∧ n3 ≤ n4), true), (dS n3, true), ((IntKind.i64.wrap ((IntKind.i64.wrap ((IntKind.i64.wrap ((1 : Int) + y7_0)) + y8_0)) + y9_0)) == Int.ofNat ((IntKind.i64.wrap ((IntKind.i64.wrap ((IntKind.i64.wrap ((1 : Int) + y7_0)) + y8_0)) + y9_0))).toNat, true), ((!y20_0), false), (dP (ZaA #[Value.agg #[vi (L1.getD n2 0), vi y13_0, vi y16_0, vi y19_0]] ((L1.getD n2 0)) (y13_0) (y16_0) (y19_0)  y20_0  4), true), (dP (ZeD #[Value.slice (some ⟨0, ((o0 + n2) + (((IntKind.i64.wrap ((IntKind.i64.wrap ((1 : Int) + y7_0)) + y8_0))).toNat * 1)), none⟩) (((IntKind.i64.wrap ((IntKind.i64.wrap ((IntKind.i64.wrap ((1 : Int) + y7_0)) + y8_0)) + y9_0))).toNat - ((IntKind.i64.wrap ((IntKind.i64.wrap ((1 : Int) + y7_0)) + y8_0))).toNat) (n4 - ((IntKind.i64.wrap ((IntKind.i64.wrap ((1 : Int) + y7_0)) + y8_0))).toNat)] (o0) (L1) ((((IntKind.i64.wrap ((IntKind.i64.wrap ((1 : Int) + y7_0)) + y8_0))).toNat + n2)) ((((IntKind.i64.wrap ((IntKind.i64.wrap ((IntKind.i64.wrap ((1 : Int) + y7_0)) + y8_0)) + y9_0))).toNat - ((IntKind.i64.wrap ((IntKind.i64.wrap ((1 : Int) + y7_0)) + y8_0))).toNat)) ((n4 - ((IntKind.i64.wrap ((IntKind.i64.wrap ((1 : Int) + y7_0)) + y8_0))).toNat)) O0 y19_0 0 3), true), (dS O0, true), (dP (((IntKind.i64.wrap ((IntKind.i64.wrap ((1 : Int) + y7_0)) + y8_0))).toNat ≤ ((IntKind.i64.wrap ((IntKind.i64.wrap ((IntKind.i64.wrap ((1 : Int) + y7_0)) + y8_0)) + y9_0))).toNat ∧ ((IntKind.i64.wrap ((IntKind.i64.wrap ((IntKind.i64.wrap ((1 : Int) + y7_0)) + y8_0)) + y9_0))).toNat ≤ n4), true), ((IntKind.i64.wrap ((IntKind.i64.wrap ((IntKind.i64.wrap ((1 : Int) + y7_0)) + y8_0)) + y9_0)) == Int.ofNat ((IntKind.i64.wrap ((IntKind.i64.wrap ((IntKind.i64.wrap ((1 : Int) + y7_0)) + y8_0)) + y9_0))).toNat, true), ((IntKind.i64.wrap ((IntKind.i64.wrap ((1 : Int) + y7_0)) + y8_0)) == Int.ofNat ((IntKind.i64.wrap ((IntKind.i64.wrap ((1 : Int) + y7_0)) + y8_0))).toNat, true), (dP (ZeD #[Value.slice (some ⟨0, ((o0 + n2) + (((IntKind.i64.wrap ((1 : Int) + y6_0))).toNat * 1)), none⟩) (((IntKind.i64.wrap ((IntKind.i64.wrap ((1 : Int) + y7_0)) + y8_0))).toNat - ((IntKind.i64.wrap ((1 : Int) + y6_0))).toNat) (n4 - ((IntKind.i64.wrap ((1 : Int) + y6_0))).toNat)] (o0) (L1) ((((IntKind.i64.wrap ((1 : Int) + y6_0))).toNat + n2)) ((((IntKind.i64.wrap ((IntKind.i64.wrap ((1 : Int) + y7_0)) + y8_0))).toNat - ((IntKind.i64.wrap ((1 : Int) + y6_0))).toNat)) ((n4 - ((IntKind.i64.wrap ((1 : Int) + y6_0))).toNat)) O0 y16_0 0 3), true), (dS O0, true), (dP (((IntKind.i64.wrap ((1 : Int) + y6_0))).toNat ≤ ((IntKind.i64.wrap ((IntKind.i64.wrap ((1 : Int) + y7_0)) + y8_0))).toNat ∧ ((IntKind.i64.wrap ((IntKind.i64.wrap ((1 : Int) + y7_0)) + y8_0))).toNat ≤ n4), true), ((IntKind.i64.wrap ((IntKind.i64.wrap ((1 : Int) + y7_0)) + y8_0)) == Int.ofNat ((IntKind.i64.wrap ((IntKind.i64.wrap ((1 : Int) + y7_0)) + y8_0))).toNat, true), ((IntKind.i64.wrap ((1 : Int) + y6_0)) == Int.ofNat ((IntKind.i64.wrap ((1 : Int) + y6_0))).toNat, true), (dP (ZeD #[Value.slice (some ⟨0, ((o0 + n2) + (1 * 1)), none⟩) (((IntKind.i64.wrap ((1 : Int) + y6_0))).toNat - 1) (n4 - 1)] (o0) (L1) ((n2 + 1)) ((((IntKind.i64.wrap ((1 : Int) + y6_0))).toNat - 1)) ((n4 - 1)) O0 y13_0 0 3), true), (dS O0, true), (dP (1 ≤ ((IntKind.i64.wrap ((1 : Int) + y6_0))).toNat ∧ ((IntKind.i64.wrap ((1 : Int) + y6_0))).toNat ≤ n4), true), ((IntKind.i64.wrap ((1 : Int) + y6_0)) == Int.ofNat ((IntKind.i64.wrap ((1 : Int) + y6_0))).toNat, true), ((1 : Int) == Int.ofNat 1, true), ((IntKind.i64.wrap (L1.getD n2 0)) == (L1.getD n2 0), true), (Zan (Za1 O0 ((o0 + n2) + (0 * 1)) 1) [.k .u8 (L1.getD n2 0)], true), (Nat.blt 0 n3, true), ((0 : Int) == Int.ofNat 0, true), ((decide ((n3 : Int) < (IntKind.i64.wrap ((IntKind.i64.wrap ((IntKind.i64.wrap ((1 : Int) + y7_0)) + y8_0)) + y9_0)))), false), (dP (ZbD #[vi y4_2] (y4_2)  y9_0  3), true), (dP (ZbD #[vi y4_1] (y4_1)  y8_0  3), true), (dP (ZbD #[vi y4_0] (y4_0)  y7_0  3), true), (dP (ZbD #[vi y4_0] (y4_0)  y6_0  3), true), ((!y4_3), false), (dP (ZcX #[vi (L1.getD n2 0)] ((L1.getD n2 0))  y4_0 y4_1 y4_2 y4_3  2), true), ((IntKind.i64.wrap (L1.getD n2 0)) == (L1.getD n2 0), true), (Zan (Za1 O0 ((o0 + n2) + (0 * 1)) 1) [.k .u8 (L1.getD n2 0)], true), (Nat.blt 0 n3, true), ((0 : Int) == Int.ofNat 0, true), (((n3 : Int) == (0 : Int)), false)]) (by kernel_rfl) (Za (Zg ⟨ltA, ltA⟩) <| oR <| oI <| Za (Zb8 (by first | assumption | exact Decidable.not_not.1 (by assumption) | simp_all)) <| Za (Zg (ZaG #[Value.agg #[vi (L1.getD n2 0), vi y13_0, vi y16_0, vi y19_0]] ((L1.getD n2 0)) (y13_0) (y16_0) (y19_0)  y20_0 N c20  4 rfl (by decide) (by decide))) <| Za (Zg (Zf5 #[Value.slice (some ⟨0, ((o0 + n2) + (((IntKind.i64.wrap ((IntKind.i64.wrap ((1 : Int) + y7_0)) + y8_0))).toNat * 1)), none⟩) (((IntKind.i64.wrap ((IntKind.i64.wrap ((IntKind.i64.wrap ((1 : Int) + y7_0)) + y8_0)) + y9_0))).toNat - ((IntKind.i64.wrap ((IntKind.i64.wrap ((1 : Int) + y7_0)) + y8_0))).toNat) (n4 - ((IntKind.i64.wrap ((IntKind.i64.wrap ((1 : Int) + y7_0)) + y8_0))).toNat)] (o0) (L1) ((((IntKind.i64.wrap ((IntKind.i64.wrap ((1 : Int) + y7_0)) + y8_0))).toNat + n2)) ((((IntKind.i64.wrap ((IntKind.i64.wrap ((IntKind.i64.wrap ((1 : Int) + y7_0)) + y8_0)) + y9_0))).toNat - ((IntKind.i64.wrap ((IntKind.i64.wrap ((1 : Int) + y7_0)) + y8_0))).toNat)) ((n4 - ((IntKind.i64.wrap ((IntKind.i64.wrap ((1 : Int) + y7_0)) + y8_0))).toNat)) O0 F0 y19_0 N c19 0 3 (ZcM (Zf (Z2 eqA rfl rfl) rfl)) (by decide) (by decide))) <| oR <| Za (Zg ⟨ltA, ltA⟩) <| oI <| oI <| Za (Zg (Zf5 #[Value.slice (some ⟨0, ((o0 + n2) + (((IntKind.i64.wrap ((1 : Int) + y6_0))).toNat * 1)), none⟩) (((IntKind.i64.wrap ((IntKind.i64.wrap ((1 : Int) + y7_0)) + y8_0))).toNat - ((IntKind.i64.wrap ((1 : Int) + y6_0))).toNat) (n4 - ((IntKind.i64.wrap ((1 : Int) + y6_0))).toNat)] (o0) (L1) ((((IntKind.i64.wrap ((1 : Int) + y6_0))).toNat + n2)) ((((IntKind.i64.wrap ((IntKind.i64.wrap ((1 : Int) + y7_0)) + y8_0))).toNat - ((IntKind.i64.wrap ((1 : Int) + y6_0))).toNat)) ((n4 - ((IntKind.i64.wrap ((1 : Int) + y6_0))).toNat)) O0 F0 y16_0 N c16 0 3 (ZcM (Zf (Z2 eqA rfl rfl) rfl)) (by decide) (by decide))) <| oR <| Za (Zg ⟨ltA, ltA⟩) <| oI <| oI <| Za (Zg (Zf5 #[Value.slice (some ⟨0, ((o0 + n2) + (1 * 1)), none⟩) (((IntKind.i64.wrap ((1 : Int) + y6_0))).toNat - 1) (n4 - 1)] (o0) (L1) ((n2 + 1)) ((((IntKind.i64.wrap ((1 : Int) + y6_0))).toNat - 1)) ((n4 - 1)) O0 F0 y13_0 N c13 0 3 (ZcM (Zf (Z2 eqA rfl rfl) rfl)) (by decide) (by decide))) <| oR <| Za (Zg ⟨ltA, ltA⟩) <| oI <| oI <| Za (beq_iff_eq.2 (wrap_i64 ltA)) <| Za ((show (o0 + n2 * 1 + 0) = ((o0 + n2) + (0 * 1)) from by omega) ▸ F0 n2 (by omega) 0 1 (show 0 + 1 ≤ 1 from by decide)) <| oB <| oI <| oN <| Za (Zg (ZbR #[vi y4_2] (y4_2)  y9_0 N c9  3 rfl (by decide) (by decide))) <| Za (Zg (ZbR #[vi y4_1] (y4_1)  y8_0 N c8  3 rfl (by decide) (by decide))) <| Za (Zg (ZbR #[vi y4_0] (y4_0)  y7_0 N c7  3 rfl (by decide) (by decide))) <| Za (Zg (ZbR #[vi y4_0] (y4_0)  y6_0 N c6  3 rfl (by decide) (by decide))) <| Za (Zb8 (by first | assumption | exact Decidable.not_not.1 (by assumption) | simp_all)) <| Za (Zg (Zd5 #[vi (L1.getD n2 0)] ((L1.getD n2 0))  y4_0 y4_1 y4_2 y4_3 N c4  2 rfl (by decide) (by decide))) <| Za (beq_iff_eq.2 (wrap_i64 ltA)) <| Za ((show (o0 + n2 * 1 + 0) = ((o0 + n2) + (0 * 1)) from by omega) ▸ F0 n2 (by omega) 0 1 (show 0 + 1 ≤ 1 from by decide)) <| oB <| oI <| oF Zb) rfl (by decide) (by rfl) ⟨Eq.trans (show (Value.tuple #[Value.agg #[vi (L1.getD n2 0), vi y13_0, vi y16_0, vi y19_0], Value.slice (some ⟨0, (o0 + (((IntKind.i64.wrap ((IntKind.i64.wrap ((IntKind.i64.wrap ((1 : Int) + y7_0)) + y8_0)) + y9_0))).toNat + n2)), none⟩) (n3 - ((IntKind.i64.wrap ((IntKind.i64.wrap ((IntKind.i64.wrap ((1 : Int) + y7_0)) + y8_0)) + y9_0))).toNat) (n4 - ((IntKind.i64.wrap ((IntKind.i64.wrap ((IntKind.i64.wrap ((1 : Int) + y7_0)) + y8_0)) + y9_0))).toNat), vq] : Value) = Value.tuple #[Value.agg #[vi (L1.getD n2 0), vi y13_0, vi y16_0, vi y19_0], Value.slice (some ⟨0, ((o0 + n2) + (((IntKind.i64.wrap ((IntKind.i64.wrap ((IntKind.i64.wrap ((1 : Int) + y7_0)) + y8_0)) + y9_0))).toNat * 1)), none⟩) (n3 - ((IntKind.i64.wrap ((IntKind.i64.wrap ((IntKind.i64.wrap ((1 : Int) + y7_0)) + y8_0)) + y9_0))).toNat) (n4 - ((IntKind.i64.wrap ((IntKind.i64.wrap ((IntKind.i64.wrap ((1 : Int) + y7_0)) + y8_0)) + y9_0))).toNat), vq] from (ZaD (Zf rfl (Zf (Z2 eqA rfl rfl) (Zf rfl rfl))))) (by rfl), by rfl⟩ ⟨rfl, trivial⟩
                       ·
                        exact ZdX
                   ·
                    exact ZdX
                  ·
                   exact ZdX
                ·
                 exact ZdX
               ·
                exact ZdX
             ·
              exact ZdX
            ·
             exact ZdX
    ·
     exact ZdX
   ·
    exact ZdX
  ·
   exact ZdX

theorem Zig (o0 : Nat) (L1 : List Int) (n2 n3 n4 : Nat) (O0 : Obj) (F0 : ∀ i, i < L1.length → Zat O0 (o0 + i * 1) [.k .u8 (L1.getD i 0)]) (N : Nat) (r : ZaX) (h : Zb1 L1 n2 n3 n4 N = some r) : LSpec Try.prog 19 #[vs 0 (o0 + n2) n3 n4] [.ro O0] (ZlV o0 L1 n2 n3 n4 O0 r) (ZkE o0 L1 n2 n3 n4 O0 r) :=
 ZdD ZaR Try.func19 (by kernel_rfl) (by kernel_rfl) (fun r => by cases r <;> exact Zal _ rfl) (ZpF o0 L1 n2 n3 n4 O0 F0 N) h

noncomputable def ZfY (o0 : Nat) (L1 : List Int) (n2 n3 n4 : Nat) (O0 : Obj) (w6 : Int) (k0 n : Nat) : Za4 := .call [(k0, .ro O0)] (Value.tuple #[Value.agg #[vq, vq, vq, vq], vn, vi w6]) [] 0
def ZeZ (A : Array Value) (o0 : Nat) (L1 : List Int) (n2 n3 n4 : Nat) (O0 : Obj) (w6 : Int) (k0 n : Nat) : Prop := ZB Try.prog 19 A [(k0, .ro O0)] (Value.tuple #[Value.agg #[vq, vq, vq, vq], vn, vi w6]) [] n 0

theorem ZfZ (A : Array Value) (o0 : Nat) (L1 : List Int) (n2 n3 n4 : Nat) (O0 : Obj) (F0 : ∀ i, i < L1.length → Zat O0 (o0 + i * 1) [.k .u8 (L1.getD i 0)]) (w6 : Int) (N : Nat) (h : Zb1 L1 n2 n3 n4 N = some (.r0 w6)) (k0 n : Nat) (hA : A = #[vs k0 (o0 + n2) n3 n4]) (hnd : ([k0] : List Nat).Nodup) (hlt : ∀ k ∈ ([k0] : List Nat), k < n) : ZeZ A o0 L1 n2 n3 n4 O0 w6 k0 n :=
 ZQ hA (LSpec.callL (show LSpec Try.prog 19 #[vs 0 (o0 + n2) n3 n4] [.ro O0] (Value.tuple #[Value.agg #[vq, vq, vq, vq], vn, vi w6]) [some (.ro O0)] from Zig o0 L1 n2 n3 n4 O0 F0 N _ h) [k0] n [] rfl hnd hlt (show 1 ≤ 1 from by decide) (show ∀ j ∈ ([] : List Nat), j < 1 from by decide) (by rfl) ⟨rfl, trivial⟩ (by rfl) ⟨rfl, trivial⟩ ⟨.inr rfl, trivial⟩ rfl rfl rfl (Zf (ZaJ rfl rfl) rfl) rfl)

noncomputable def ZkF (o0 : Nat) (L1 : List Int) (n2 n3 n4 : Nat) (O0 : Obj) (w3 w4 w5 : Int) (w6 w7 w8 k0 n : Nat) : Za4 := .call [(k0, .ro O0)] (Value.tuple #[Value.agg #[vi (L1.getD n2 0), vi w3, vi w4, vi w5], vs k0 (o0 + w6) w7 w8, vq]) [] 0
def Zht (A : Array Value) (o0 : Nat) (L1 : List Int) (n2 n3 n4 : Nat) (O0 : Obj) (w3 w4 w5 : Int) (w6 w7 w8 k0 n : Nat) : Prop := ZB Try.prog 19 A [(k0, .ro O0)] (Value.tuple #[Value.agg #[vi (L1.getD n2 0), vi w3, vi w4, vi w5], vs k0 (o0 + w6) w7 w8, vq]) [] n 0

theorem ZkG (A : Array Value) (o0 : Nat) (L1 : List Int) (n2 n3 n4 : Nat) (O0 : Obj) (F0 : ∀ i, i < L1.length → Zat O0 (o0 + i * 1) [.k .u8 (L1.getD i 0)]) (w3 w4 w5 : Int) (w6 w7 w8 N : Nat) (h : Zb1 L1 n2 n3 n4 N = some (.r1 w3 w4 w5 w6 w7 w8)) (k0 n : Nat) (hA : A = #[vs k0 (o0 + n2) n3 n4]) (hnd : ([k0] : List Nat).Nodup) (hlt : ∀ k ∈ ([k0] : List Nat), k < n) : Zht A o0 L1 n2 n3 n4 O0 w3 w4 w5 w6 w7 w8 k0 n :=
 ZQ hA (LSpec.callL (show LSpec Try.prog 19 #[vs 0 (o0 + n2) n3 n4] [.ro O0] (Value.tuple #[Value.agg #[vi (L1.getD n2 0), vi w3, vi w4, vi w5], vs 0 (o0 + w6) w7 w8, vq]) [some (.ro O0)] from Zig o0 L1 n2 n3 n4 O0 F0 N _ h) [k0] n [] rfl hnd hlt (show 1 ≤ 1 from by decide) (show ∀ j ∈ ([] : List Nat), j < 1 from by decide) (by rfl) ⟨rfl, trivial⟩ (by rfl) ⟨rfl, trivial⟩ ⟨.inr rfl, trivial⟩ rfl rfl rfl (Zf (ZaJ rfl rfl) rfl) rfl)

noncomputable def ZjC  : Zb2 → Value
 | .r0 w0 => Value.tuple #[vs 0 0 w0.length w0.length, vq]
noncomputable def Zjc  : Zb2 → List (Option AObj)
 | .r0 w0 => [some (.cells (Zc (Ze .u8) w0) 5)]

def ZoM : Zau → Nat
 | .h1m0 => 1
 | .h2m0 v1 v2 => 2
noncomputable def ZpG  : Zau → List (Nat × Value)
 | .h1m0 => [(0, vn), (4, vs 0 0 6 6), (5, vq)]
 | .h2m0 v1 v2 => [(4, vs 0 0 6 6), (8, vi v1), (9, vi (v2 : Int))]
noncomputable def ZpH  : Zau → List (Option AObj)
 | .h1m0 => [some (.cells (Zc (Ze .u8) ([(71 : Int), (78 : Int), (84 : Int), (1 : Int), (0 : Int), (0 : Int)] : List Int)) 5)]
 | .h2m0 v1 v2 => [some (.cells (Zc (Ze .u8) ([(71 : Int), (78 : Int), (84 : Int), (1 : Int), (0 : Int), (0 : Int)] : List Int)) 5)]

noncomputable def Zcd : Nat → Code × List Za2
 | 1 => Zbz [1, 1, 1, 0, 1, 3] (Zbh Try.f8) []
 | 2 => Zbz [1, 1, 1, 1, 1, 0, 1, 3] (Zbh Try.f8) []
 | _ => (.skip, [])
def Zjd : Nat → Bool
 | 1 => true
 | 2 => true
 | _ => true
noncomputable def ZjD (i : Nat) : List Za2 := match Zjd i with | true => .rnd i :: (Zcd i).2 | false => (Zcd i).2

noncomputable def Zb4  (N : Nat) : Mach := ⟨Try.f8, [], Zau, Zb2, ZcR  N, ZoM, Zcd, Zjd, ZpG , ZpH , ZjC , Zjc ⟩

theorem Zlp  (N : Nat) : (Zb4  N).Ok Try.prog Zj (.h1m0 : Zau) (ZcR  N (.h1m0 : Zau)) := by
 show (Zb4  N).Ok Try.prog Zj (.h1m0 : Zau) (Zf7  N)
 unfold Zf7
 exact Mach.ok_head (bK := Zcd 2) (M := Zb4  N) (cd := 1000000) (cm := 0) (y := (.h2m0 ((0 : Int)) (0) : Zau)) (fu := 4000) (orc := (Zh [] [] [] [] [])) (live := [0]) (tv := fun _ => [some (vs 0 0 6 6), some (vq), some (vq)]) (bl := [some (.cells (Zc (Ze .u8) ([(71 : Int), (78 : Int), (84 : Int), (1 : Int), (0 : Int), (0 : Int)] : List Int)) 5)]) (ob := []) rfl rfl (show ∀ j ∈ Zq (Zcd 2).2, j ∈ Zq (ZjD 1) from by decide +kernel) (fun gv => by kernel_rfl) Zb rfl (by decide) (by rfl) (fun _ => ⟨rr, ⟨rr, ⟨⟨Eq.trans (show (vi ((0 : Nat) : Int) : Value) = vq from (congrArg (Value.int .i64) (by first | rfl | omega))) (by rfl), by rfl⟩, trivial⟩⟩⟩) ⟨(Zn (E := (Ze .u8)) (α := Int) _ ([(71 : Int), (78 : Int), (84 : Int), (1 : Int), (0 : Int), (0 : Int)] : List Int) _), trivial⟩

theorem Zlq  (v1 : Int) (v2 N : Nat) : (Zb4  N).Ok Try.prog Zj (.h2m0 v1 v2 : Zau) (ZcR  N (.h2m0 v1 v2 : Zau)) := by
 show (Zb4  N).Ok Try.prog Zj (.h2m0 v1 v2 : Zau) (ZbY  N v1 v2)
 unfold ZbY
 refine Mach.ok_ite (fun g0 => ?_) (fun g0 => ?_)
 ·
  exact Mach.ok_next (M := Zb4  N) (cd := 1000000) (cm := 0) (y := (.h2m0 ((IntKind.i64.wrap (v1 + (([(71 : Int), (78 : Int), (84 : Int), (1 : Int), (0 : Int), (0 : Int)] : List Int).getD v2 0)))) ((v2 + 1)) : Zau)) (fu := 4000) (orc := (Zh [(0, true)] [(0, (([(71 : Int), (78 : Int), (84 : Int), (1 : Int), (0 : Int), (0 : Int)] : List Int).getD v2 0)), (2, (((v2 + 1) : Nat) : Int))] [(0, v2)] [(0, [.k .u8 (([(71 : Int), (78 : Int), (84 : Int), (1 : Int), (0 : Int), (0 : Int)] : List Int).getD v2 0)])] [])) (live := [0]) (tv := fun _ => [some (vs 0 0 6 6), some (vi (IntKind.i64.wrap (v1 + (([(71 : Int), (78 : Int), (84 : Int), (1 : Int), (0 : Int), (0 : Int)] : List Int).getD v2 0)))), some (vi (((v2 + 1) : Nat) : Int))]) (bl := [some (.cells (Zc (Ze .u8) ([(71 : Int), (78 : Int), (84 : Int), (1 : Int), (0 : Int), (0 : Int)] : List Int)) 5)]) (ob := [((IntKind.i64.wrap ((v2 : Int) + (1 : Int))) == (((v2 + 1) : Nat) : Int), true), ((IntKind.i64.wrap (([(71 : Int), (78 : Int), (84 : Int), (1 : Int), (0 : Int), (0 : Int)] : List Int).getD v2 0)) == (([(71 : Int), (78 : Int), (84 : Int), (1 : Int), (0 : Int), (0 : Int)] : List Int).getD v2 0), true), (Zan (Z4 1 (List.drop (0 + (v2 * 1)) (Zc (Ze .u8) ([(71 : Int), (78 : Int), (84 : Int), (1 : Int), (0 : Int), (0 : Int)] : List Int)))) [.k .u8 (([(71 : Int), (78 : Int), (84 : Int), (1 : Int), (0 : Int), (0 : Int)] : List Int).getD v2 0)], true), (Nat.blt v2 6, true), ((v2 : Int) == Int.ofNat v2, true), ((decide ((v2 : Int) < (6 : Int))), true)]) rfl (show 2 ∈ Zq (ZjD 2) from by decide +kernel) (fun gv => by kernel_rfl) (Za (beq_iff_eq.2 ((wrap_i64 ltA).trans (by first | rfl | omega))) <| Za (beq_iff_eq.2 (wrap_i64 (ZvJ (by decide)))) <| Za (ZbH (E := (Ze .u8)) (L := ([(71 : Int), (78 : Int), (84 : Int), (1 : Int), (0 : Int), (0 : Int)] : List Int)) (i := v2) (q := 0) ltA (show (0 + (v2 * 1)) = v2 * 1 + 0 from by omega) (show 0 + 1 ≤ 1 from by decide) rfl rfl) <| oB <| oI <| oY Zb) rfl (by decide) (by rfl) (fun _ => ⟨rr, ⟨rr, ⟨rr, trivial⟩⟩⟩) ⟨(Zn (E := (Ze .u8)) (α := Int) _ ([(71 : Int), (78 : Int), (84 : Int), (1 : Int), (0 : Int), (0 : Int)] : List Int) _), trivial⟩
 ·
  exact Mach.ok_fin (M := Zb4  N) (cd := 1000000) (cm := 0) (r := (.r0 (([(71 : Int), (78 : Int), (84 : Int), (1 : Int), (0 : Int), (0 : Int), (IntKind.u8.wrap (Int.tmod v1 (256 : Int)))] : List Int)) : Zb2)) (fu := 4000) (orc := (Zh [(0, false)] [] [] [] [(1, .ap 1 [Value.int .u8 (IntKind.u8.wrap (Int.tmod v1 (256 : Int)))] (Zc (Ze .u8) ([(71 : Int), (78 : Int), (84 : Int), (1 : Int), (0 : Int), (0 : Int), (IntKind.u8.wrap (Int.tmod v1 (256 : Int)))] : List Int)))])) (live := [2]) (u := Value.tuple #[vs 2 0 (6 + 1) (6 + 1), vq]) (bl := [some (.cells (Zc (Ze .u8) ([(71 : Int), (78 : Int), (84 : Int), (1 : Int), (0 : Int), (0 : Int), (IntKind.u8.wrap (Int.tmod v1 (256 : Int)))] : List Int)) 5)]) (ob := [(dP ((1 = 1 ∧ Z4 (1 * 1) (List.drop 0 [Value.int .u8 (IntKind.u8.wrap (Int.tmod v1 (256 : Int)))]) = some [Value.int .u8 (IntKind.u8.wrap (Int.tmod v1 (256 : Int)))] ∧ ZV Zbd [Value.int .u8 (IntKind.u8.wrap (Int.tmod v1 (256 : Int)))] = true) ∧ 0 < 1 ∧ 1 ≤ 100000 ∧ 6 < 6 + 1 ∧ 6 ≤ 100000 ∧ 6 * 1 ≤ (List.length (Zc (Ze .u8) ([(71 : Int), (78 : Int), (84 : Int), (1 : Int), (0 : Int), (0 : Int)] : List Int))) ∧ List.take (6 * 1) (Zc (Ze .u8) ([(71 : Int), (78 : Int), (84 : Int), (1 : Int), (0 : Int), (0 : Int)] : List Int)) ++ [Value.int .u8 (IntKind.u8.wrap (Int.tmod v1 (256 : Int)))] = (Zc (Ze .u8) ([(71 : Int), (78 : Int), (84 : Int), (1 : Int), (0 : Int), (0 : Int), (IntKind.u8.wrap (Int.tmod v1 (256 : Int)))] : List Int))), true), ((decide ((v2 : Int) < (6 : Int))), false)]) (fun gv => by kernel_rfl) (Za (Zg ⟨⟨rfl, ⟨rfl, rfl⟩⟩, by omega, by omega, ltA, by omega, (Zci (E := (Ze .u8)) (L := ([(71 : Int), (78 : Int), (84 : Int), (1 : Int), (0 : Int), (0 : Int)] : List Int)) (M := ([(IntKind.u8.wrap (Int.tmod v1 (256 : Int)))] : List Int)) (n := 6) (show _ = _ * 1 from rfl) ltA (R := ([(71 : Int), (78 : Int), (84 : Int), (1 : Int), (0 : Int), (0 : Int), (IntKind.u8.wrap (Int.tmod v1 (256 : Int)))] : List Int)) (by rw [List.take_of_length_le ltA]; rfl))⟩) <| oN Zb) rfl (by decide) (by rfl) ⟨Eq.trans (show (Value.tuple #[vs 0 0 ([(71 : Int), (78 : Int), (84 : Int), (1 : Int), (0 : Int), (0 : Int), (IntKind.u8.wrap (Int.tmod v1 (256 : Int)))] : List Int).length ([(71 : Int), (78 : Int), (84 : Int), (1 : Int), (0 : Int), (0 : Int), (IntKind.u8.wrap (Int.tmod v1 (256 : Int)))] : List Int).length, vq] : Value) = Value.tuple #[vs 0 0 (6 + 1) (6 + 1), vq] from (ZaD (Zf (Z2 rfl eqA eqA) (Zf rfl rfl)))) (by rfl), by rfl⟩ ⟨(Zn (E := (Ze .u8)) (α := Int) _ ([(71 : Int), (78 : Int), (84 : Int), (1 : Int), (0 : Int), (0 : Int), (IntKind.u8.wrap (Int.tmod v1 (256 : Int)))] : List Int) _), trivial⟩

theorem ZnX  (N : Nat) : (Zb4  N).Enter Try.prog Zj #[vn] (Zfh  N) := by
 unfold Zfh
 exact Mach.en_head (bK := Zcd 1) (M := Zb4  N) (cd := 1000000) (cm := 0) (y := (.h1m0 : Zau)) (fu := 4000) (orc := (Zh [] [] [] [] [])) (live := [0]) (tv := [some (vn), some (vs 0 0 6 6), some (vq)]) (bl := [some (.cells [Value.int .u8 (71 : Int), Value.int .u8 (78 : Int), Value.int .u8 (84 : Int), Value.int .u8 (1 : Int), Value.int .u8 (0 : Int), Value.int .u8 (0 : Int)] 5)]) (ob := []) rfl rfl (show Zq (Zcd 1).2 = [] from rfl) (by kernel_rfl) Zb rfl (by decide) (by rfl) ⟨rr, ⟨rr, ⟨rr, trivial⟩⟩⟩ ⟨(Zaq (E := (Ze .u8)) _ (L := ([(71 : Int), (78 : Int), (84 : Int), (1 : Int), (0 : Int), (0 : Int)] : List Int)) _ (show ([Value.int .u8 (71 : Int), Value.int .u8 (78 : Int), Value.int .u8 (84 : Int), Value.int .u8 (1 : Int), Value.int .u8 (0 : Int), Value.int .u8 (0 : Int)] : List Value) = Zc (Ze .u8) ([(71 : Int), (78 : Int), (84 : Int), (1 : Int), (0 : Int), (0 : Int)] : List Int) from rfl)), trivial⟩

theorem Zmb  (N : Nat) (r : Zb2) (h : ZdY  N = some r) : LSpec Try.prog 8 #[vn] [] (ZjC  r) (Zjc  r) :=
 Mach.spec ZaR (Zb4  N) Try.func8 (by kernel_rfl) (by kernel_rfl) (fun x => by cases x <;> exact Zal _ rfl) (fun r => by cases r <;> exact Zal _ rfl) (fun x => by
  cases x with
  | h1m0 => exact fun _ => (show ¬ (1 ∈ Zq (Zcd 1).2) from by decide +kernel)
  | h2m0 _ _ => exact fun _ => (show ¬ (2 ∈ Zq (Zcd 2).2) from by decide +kernel)
  ) (fun x => (show (Zb4  N).Ok Try.prog Zj x (ZcR  N x) from by
  cases x with
  | h1m0 => exact Zlp  N
  | h2m0 v1 v2 => exact Zlq  v1 v2 N
  )) (ZnX  N) (n := N) h

noncomputable def Zfq  (w0 : List Int) (n : Nat) : Za4 := .call [] (Value.tuple #[vs n 0 w0.length w0.length, vq]) [(n, some (.cells (Zc (Ze .u8) w0) 5))] 1
def Zej (A : Array Value)  (w0 : List Int) (n : Nat) : Prop := ZB Try.prog 8 A [] (Value.tuple #[vs n 0 w0.length w0.length, vq]) [(n, some (.cells (Zc (Ze .u8) w0) 5))] n 1

theorem Zfr (A : Array Value)  (w0 : List Int) (N : Nat) (h : ZdY  N = some (.r0 w0)) (n : Nat) (hA : A = #[vn]) (hnd : ([] : List Nat).Nodup) (hlt : ∀ k ∈ ([] : List Nat), k < n) : Zej A  w0  n :=
 ZQ hA (LSpec.callL (show LSpec Try.prog 8 #[vn] [] (Value.tuple #[vs 0 0 w0.length w0.length, vq]) [some (.cells (Zc (Ze .u8) w0) 5)] from Zmb  N _ h) [] n [0] rfl hnd hlt (show 0 ≤ 1 from by decide) (show ∀ j ∈ ([0] : List Nat), j < 1 from by decide) (by rfl) trivial (by rfl) ⟨(ZaE _ _ _), trivial⟩ ⟨(by decide), trivial⟩ rfl rfl rfl rfl (Zf (ZaJ rfl (ZeN (ZbJ _ _ _))) rfl))

noncomputable def ZjE  : ZdF → Value
 | .r0 => Value.tuple #[Value.agg #[vq, vq, vq, vq], vn, vi (6 : Int)]
noncomputable def Zje  : ZdF → List (Option AObj)
 | .r0 => []

theorem ZnY  (N : Nat) : Fx Try.prog Zj Try.f19 [] #[vn] (ZjE ) (Zje ) (ZeS  N) := by
 unfold ZeS
 exact Zk (r := (.r0 : ZdF)) (fu := 4000) (orc := (Zh [] [] [] [] [])) (live := []) (u := Value.tuple #[Value.agg #[vq, vq, vq, vq], vn, vi (6 : Int)]) (bl := []) (ob := []) (by kernel_rfl) Zb rfl (by decide) (by rfl) rr trivial

theorem Zmc  (N : Nat) (r : ZdF) (h : ZeS  N = some r) : LSpec Try.prog 19 #[vn] [] (ZjE  r) (Zje  r) :=
 ZdD ZaR Try.func19 (by kernel_rfl) (by kernel_rfl) (fun r => by cases r <;> exact Zal _ rfl) (ZnY  N) h

noncomputable def ZoN  (n : Nat) : Za4 := .call [] (Value.tuple #[Value.agg #[vq, vq, vq, vq], vn, vi (6 : Int)]) [] 0
def Zjf (A : Array Value)  (n : Nat) : Prop := ZB Try.prog 19 A [] (Value.tuple #[Value.agg #[vq, vq, vq, vq], vn, vi (6 : Int)]) [] n 0

theorem ZoO (A : Array Value)  (N : Nat) (h : ZeS  N = some (.r0)) (n : Nat) (hA : A = #[vn]) (hnd : ([] : List Nat).Nodup) (hlt : ∀ k ∈ ([] : List Nat), k < n) : Zjf A   n :=
 ZQ hA (LSpec.callL (show LSpec Try.prog 19 #[vn] [] (Value.tuple #[Value.agg #[vq, vq, vq, vq], vn, vi (6 : Int)]) [] from Zmc  N _ h) [] n [] rfl hnd hlt (show 0 ≤ 0 from by decide) (show ∀ j ∈ ([] : List Nat), j < 0 from by decide) (by rfl) trivial (by rfl) trivial trivial rfl rfl rfl rfl rfl)

noncomputable def ZjF (L0 : List R_iiii) : ZaM → Value
 | .r0 w1 => Value.tuple #[vn, vi w1]
 | .r1 w1 => Value.tuple #[vs 1 0 w1.length w1.length, vq]
noncomputable def Zjg (L0 : List R_iiii) : ZaM → List (Option AObj)
 | .r0 w1 => [some (.cells (Zc Zi L0) 44)]
 | .r1 w1 => [some (.cells (Zc Zi L0) 44), some (.cells (Zc (Ze .u8) w1) 5)]

def ZoP : Zab → Nat
 | .h1m0 v1 v2 => 1
 | .h2m0 v1 v2 v3 => 2
noncomputable def ZpI (L0 : List R_iiii) : Zab → List (Nat × Value)
 | .h1m0 v1 v2 => [(0, vs 0 0 L0.length L0.length), (4, vs 1 0 v1.length v1.length), (5, vi (v2 : Int))]
 | .h2m0 v1 v2 v3 => [(4, vs 1 0 v1.length v1.length), (8, vi v2), (9, vi (v3 : Int))]
noncomputable def ZpJ (L0 : List R_iiii) : Zab → List (Option AObj)
 | .h1m0 v1 v2 => [some (.cells (Zc Zi L0) 44), some (.cells (Zc (Ze .u8) v1) 5)]
 | .h2m0 v1 v2 v3 => [some (.cells (Zc Zi L0) 44), some (.cells (Zc (Ze .u8) v1) 5)]

noncomputable def Zce : Nat → Code × List Za2
 | 1 => Zbz [1, 1, 1, 0, 1, 3] (Zbh Try.f8) []
 | 2 => Zbz [1, 1, 1, 1, 1, 0, 1, 3] (Zbh Try.f8) []
 | _ => (.skip, [])
def Zjh : Nat → Bool
 | 1 => true
 | 2 => true
 | _ => true
noncomputable def ZfA (i : Nat) : List Za2 := match Zjh i with | true => .rnd i :: (Zce i).2 | false => (Zce i).2

noncomputable def ZaN (L0 : List R_iiii) (N : Nat) : Mach := ⟨Try.f8, [.cells (Zc Zi L0) 44], Zab, ZaM, ZaT L0 N, ZoP, Zce, Zjh, ZpI L0, ZpJ L0, ZjF L0, Zjg L0⟩

theorem Zlr (L0 : List R_iiii) (v1 : List Int) (v2 N : Nat) : (ZaN L0 N).Ok Try.prog Zj (.h1m0 v1 v2 : Zab) (ZaT L0 N (.h1m0 v1 v2 : Zab)) := by
 show (ZaN L0 N).Ok Try.prog Zj (.h1m0 v1 v2 : Zab) (Zbr L0 N v1 v2)
 unfold Zbr
 refine Mach.ok_ite (fun g0 => ?_) (fun g0 => ?_)
 ·
  refine Mach.ok_bind (fun z1 c1 => ?_)
  cases z1 with
  | r0 =>
   exact Mach.ok_fin (M := ZaN L0 N) (cd := 1000000) (cm := 0) (r := (.r0 ((110 : Int)) : ZaM)) (fu := 4000) (orc := (Zh [(0, true)] [] [(0, v2)] [(0, [.i (L0.getD v2 R_iiii.z).a0, .i (L0.getD v2 R_iiii.z).a1, .i (L0.getD v2 R_iiii.z).a2, .i (L0.getD v2 R_iiii.z).a3])] [(0, (Zkz ((L0.getD v2 R_iiii.z).a0) ((L0.getD v2 R_iiii.z).a1) ((L0.getD v2 R_iiii.z).a2) ((L0.getD v2 R_iiii.z).a3)    2))])) (live := [0]) (u := Value.tuple #[vn, vi (110 : Int)]) (bl := [some (.cells (Zc Zi L0) 44)]) (ob := [(dP (Zhn #[Value.agg #[vi (L0.getD v2 R_iiii.z).a0, vi (L0.getD v2 R_iiii.z).a1, vi (L0.getD v2 R_iiii.z).a2, vi (L0.getD v2 R_iiii.z).a3]] ((L0.getD v2 R_iiii.z).a0) ((L0.getD v2 R_iiii.z).a1) ((L0.getD v2 R_iiii.z).a2) ((L0.getD v2 R_iiii.z).a3)    2), true), (Zan (Z4 4 (List.drop (0 + (v2 * 4)) (Zc Zi L0))) [.i (L0.getD v2 R_iiii.z).a0, .i (L0.getD v2 R_iiii.z).a1, .i (L0.getD v2 R_iiii.z).a2, .i (L0.getD v2 R_iiii.z).a3], true), (Nat.blt v2 L0.length, true), ((v2 : Int) == Int.ofNat v2, true), ((decide ((v2 : Int) < (L0.length : Int))), true)]) (fun gv => by kernel_rfl) (Za (Zg (Zk0 #[Value.agg #[vi (L0.getD v2 R_iiii.z).a0, vi (L0.getD v2 R_iiii.z).a1, vi (L0.getD v2 R_iiii.z).a2, vi (L0.getD v2 R_iiii.z).a3]] ((L0.getD v2 R_iiii.z).a0) ((L0.getD v2 R_iiii.z).a1) ((L0.getD v2 R_iiii.z).a2) ((L0.getD v2 R_iiii.z).a3)   N c1  2 rfl (by decide) (by decide))) <| Za (ZbH (E := Zi) (L := L0) (i := v2) (q := 0) (by omega) (show (0 + (v2 * 4)) = v2 * 4 + 0 from by omega) (show 0 + 4 ≤ 4 from by decide) rfl rfl) <| oB <| oI <| oY Zb) rfl (by decide) (by rfl) rr ⟨(Zn (E := Zi) (α := R_iiii) _ L0 _), trivial⟩
  | r1 y1_0 =>
   refine Mach.ok_ite (fun g2 => ?_) (fun g2 => ?_)
   ·
    refine Mach.ok_ite (fun g3 => ?_) (fun g3 => ?_)
    ·
     exact Mach.ok_next (M := ZaN L0 N) (cd := 1000000) (cm := 0) (y := (.h1m0 (v1) ((v2 + 1)) : Zab)) (fu := 4000) (orc := (Zh [(0, true)] [(0, (((v2 + 1) : Nat) : Int))] [(0, v2)] [(0, [.i (L0.getD v2 R_iiii.z).a0, .i (L0.getD v2 R_iiii.z).a1, .i (L0.getD v2 R_iiii.z).a2, .i (L0.getD v2 R_iiii.z).a3])] [(0, (ZfU ((L0.getD v2 R_iiii.z).a0) ((L0.getD v2 R_iiii.z).a1) ((L0.getD v2 R_iiii.z).a2) ((L0.getD v2 R_iiii.z).a3)  y1_0  2)), (1, .ap0)])) (live := [0, 1]) (tv := fun _ => [some (vs 0 0 L0.length L0.length), some (vs 1 0 v1.length v1.length), some (vi (((v2 + 1) : Nat) : Int))]) (bl := [some (.cells (Zc Zi L0) 44), some (.cells (Zc (Ze .u8) v1) 5)]) (ob := [((IntKind.i64.wrap ((v2 : Int) + (1 : Int))) == (((v2 + 1) : Nat) : Int), true), (dP (0 = y1_0.length ∧ Z4 (y1_0.length * 1) (List.drop 0 (Zc (Ze .u8) y1_0)) = some [] ∧ ZV Zbd [] = true), true), (dP (ZeY #[Value.agg #[vi (L0.getD v2 R_iiii.z).a0, vi (L0.getD v2 R_iiii.z).a1, vi (L0.getD v2 R_iiii.z).a2, vi (L0.getD v2 R_iiii.z).a3]] ((L0.getD v2 R_iiii.z).a0) ((L0.getD v2 R_iiii.z).a1) ((L0.getD v2 R_iiii.z).a2) ((L0.getD v2 R_iiii.z).a3)  y1_0  2), true), (Zan (Z4 4 (List.drop (0 + (v2 * 4)) (Zc Zi L0))) [.i (L0.getD v2 R_iiii.z).a0, .i (L0.getD v2 R_iiii.z).a1, .i (L0.getD v2 R_iiii.z).a2, .i (L0.getD v2 R_iiii.z).a3], true), (Nat.blt v2 L0.length, true), ((v2 : Int) == Int.ofNat v2, true), ((decide ((v2 : Int) < (L0.length : Int))), true)]) rfl (show 1 ∈ Zq (ZfA 1) from by decide +kernel) (fun gv => by kernel_rfl) (Za (beq_iff_eq.2 ((wrap_i64 ltA).trans (by first | rfl | omega))) <| Za (Zg ⟨by omega, by rw [show y1_0.length = 0 by omega]; rfl, rfl⟩) <| Za (Zg (ZfV #[Value.agg #[vi (L0.getD v2 R_iiii.z).a0, vi (L0.getD v2 R_iiii.z).a1, vi (L0.getD v2 R_iiii.z).a2, vi (L0.getD v2 R_iiii.z).a3]] ((L0.getD v2 R_iiii.z).a0) ((L0.getD v2 R_iiii.z).a1) ((L0.getD v2 R_iiii.z).a2) ((L0.getD v2 R_iiii.z).a3)  y1_0 N c1  2 rfl (by decide) (by decide))) <| Za (ZbH (E := Zi) (L := L0) (i := v2) (q := 0) (by omega) (show (0 + (v2 * 4)) = v2 * 4 + 0 from by omega) (show 0 + 4 ≤ 4 from by decide) rfl rfl) <| oB <| oI <| oY Zb) rfl (by decide) (by rfl) (fun _ => ⟨rr, ⟨rr, ⟨rr, trivial⟩⟩⟩) ⟨(Zn (E := Zi) (α := R_iiii) _ L0 _), ⟨(Zn (E := (Ze .u8)) (α := Int) _ v1 _), trivial⟩⟩
    ·
     exact Mach.ok_none
   ·
    refine Mach.ok_ite (fun g3 => ?_) (fun g3 => ?_)
    ·
     refine Mach.ok_ite (fun g4 => ?_) (fun g4 => ?_)
     ·
      refine Mach.ok_ite (fun g5 => ?_) (fun g5 => ?_)
      ·
       exact Mach.ok_next (M := ZaN L0 N) (cd := 1000000) (cm := 0) (y := (.h1m0 ((v1 ++ y1_0)) ((v2 + 1)) : Zab)) (fu := 4000) (orc := (Zh [(0, true)] [(0, (((v2 + 1) : Nat) : Int))] [(0, v2)] [(0, [.i (L0.getD v2 R_iiii.z).a0, .i (L0.getD v2 R_iiii.z).a1, .i (L0.getD v2 R_iiii.z).a2, .i (L0.getD v2 R_iiii.z).a3])] [(0, (ZfU ((L0.getD v2 R_iiii.z).a0) ((L0.getD v2 R_iiii.z).a1) ((L0.getD v2 R_iiii.z).a2) ((L0.getD v2 R_iiii.z).a3)  y1_0  2)), (1, .ap y1_0.length (Zc (Ze .u8) y1_0) (Zc (Ze .u8) (v1 ++ y1_0)))])) (live := [0, 3]) (tv := fun _ => [some (vs 0 0 L0.length L0.length), some (vs 3 0 (v1.length + y1_0.length) (v1.length + y1_0.length)), some (vi (((v2 + 1) : Nat) : Int))]) (bl := [some (.cells (Zc Zi L0) 44), some (.cells (Zc (Ze .u8) (v1 ++ y1_0)) 5)]) (ob := [((IntKind.i64.wrap ((v2 : Int) + (1 : Int))) == (((v2 + 1) : Nat) : Int), true), (dP ((y1_0.length = y1_0.length ∧ Z4 (y1_0.length * 1) (List.drop 0 (Zc (Ze .u8) y1_0)) = some (Zc (Ze .u8) y1_0) ∧ ZV Zbd (Zc (Ze .u8) y1_0) = true) ∧ 0 < y1_0.length ∧ y1_0.length ≤ 100000 ∧ v1.length < v1.length + y1_0.length ∧ v1.length ≤ 100000 ∧ v1.length * 1 ≤ (List.length (Zc (Ze .u8) v1)) ∧ List.take (v1.length * 1) (Zc (Ze .u8) v1) ++ (Zc (Ze .u8) y1_0) = (Zc (Ze .u8) (v1 ++ y1_0))), true), (dP (ZeY #[Value.agg #[vi (L0.getD v2 R_iiii.z).a0, vi (L0.getD v2 R_iiii.z).a1, vi (L0.getD v2 R_iiii.z).a2, vi (L0.getD v2 R_iiii.z).a3]] ((L0.getD v2 R_iiii.z).a0) ((L0.getD v2 R_iiii.z).a1) ((L0.getD v2 R_iiii.z).a2) ((L0.getD v2 R_iiii.z).a3)  y1_0  2), true), (Zan (Z4 4 (List.drop (0 + (v2 * 4)) (Zc Zi L0))) [.i (L0.getD v2 R_iiii.z).a0, .i (L0.getD v2 R_iiii.z).a1, .i (L0.getD v2 R_iiii.z).a2, .i (L0.getD v2 R_iiii.z).a3], true), (Nat.blt v2 L0.length, true), ((v2 : Int) == Int.ofNat v2, true), ((decide ((v2 : Int) < (L0.length : Int))), true)]) rfl (show 1 ∈ Zq (ZfA 1) from by decide +kernel) (fun gv => by kernel_rfl) (Za (beq_iff_eq.2 ((wrap_i64 ltA).trans (by first | rfl | omega))) <| Za (Zg ⟨⟨rfl, (ZnJ (E := (Ze .u8)) (L := y1_0) (a := 0) (n := y1_0.length) (by omega) (by show _ = _ * 1; omega) (show _ = _ * 1 from rfl) (by rw [List.drop_zero, List.take_of_length_le (by omega)]))⟩, by omega, by omega, ltA, by omega, (Zci (E := (Ze .u8)) (L := v1) (M := y1_0) (n := v1.length) (show _ = _ * 1 from rfl) (by omega) (R := (v1 ++ y1_0)) (by rw [List.take_of_length_le (by omega)]))⟩) <| Za (Zg (ZfV #[Value.agg #[vi (L0.getD v2 R_iiii.z).a0, vi (L0.getD v2 R_iiii.z).a1, vi (L0.getD v2 R_iiii.z).a2, vi (L0.getD v2 R_iiii.z).a3]] ((L0.getD v2 R_iiii.z).a0) ((L0.getD v2 R_iiii.z).a1) ((L0.getD v2 R_iiii.z).a2) ((L0.getD v2 R_iiii.z).a3)  y1_0 N c1  2 rfl (by decide) (by decide))) <| Za (ZbH (E := Zi) (L := L0) (i := v2) (q := 0) (by omega) (show (0 + (v2 * 4)) = v2 * 4 + 0 from by omega) (show 0 + 4 ≤ 4 from by decide) rfl rfl) <| oB <| oI <| oY Zb) rfl (by decide) (by rfl) (fun _ => ⟨rr, ⟨⟨Eq.trans (show (vs 1 0 (v1 ++ y1_0).length (v1 ++ y1_0).length : Value) = vs 1 0 (v1.length + y1_0.length) (v1.length + y1_0.length) from (Z2 rfl eqA eqA)) (by rfl), by rfl⟩, ⟨rr, trivial⟩⟩⟩) ⟨(Zn (E := Zi) (α := R_iiii) _ L0 _), ⟨(Zn (E := (Ze .u8)) (α := Int) _ (v1 ++ y1_0) _), trivial⟩⟩
      ·
       exact Mach.ok_none
     ·
      exact Mach.ok_none
    ·
     exact Mach.ok_none
 ·
  exact Mach.ok_head (bK := Zce 2) (M := ZaN L0 N) (cd := 1000000) (cm := 0) (y := (.h2m0 (v1) ((0 : Int)) (0) : Zab)) (fu := 4000) (orc := (Zh [(0, false)] [] [] [] [])) (live := [0, 1]) (tv := fun _ => [some (vs 1 0 v1.length v1.length), some (vq), some (vq)]) (bl := [some (.cells (Zc Zi L0) 44), some (.cells (Zc (Ze .u8) v1) 5)]) (ob := [((decide ((v2 : Int) < (L0.length : Int))), false)]) rfl rfl (show ∀ j ∈ Zq (Zce 2).2, j ∈ Zq (ZfA 1) from by decide +kernel) (fun gv => by kernel_rfl) (oN Zb) rfl (by decide) (by rfl) (fun _ => ⟨rr, ⟨rr, ⟨⟨Eq.trans (show (vi ((0 : Nat) : Int) : Value) = vq from (congrArg (Value.int .i64) (by first | rfl | omega))) (by rfl), by rfl⟩, trivial⟩⟩⟩) ⟨(Zn (E := Zi) (α := R_iiii) _ L0 _), ⟨(Zn (E := (Ze .u8)) (α := Int) _ v1 _), trivial⟩⟩

theorem Zls (L0 : List R_iiii) (v1 : List Int) (v2 : Int) (v3 N : Nat) : (ZaN L0 N).Ok Try.prog Zj (.h2m0 v1 v2 v3 : Zab) (ZaT L0 N (.h2m0 v1 v2 v3 : Zab)) := by
 show (ZaN L0 N).Ok Try.prog Zj (.h2m0 v1 v2 v3 : Zab) (ZbZ L0 N v1 v2 v3)
 unfold ZbZ
 refine Mach.ok_ite (fun g0 => ?_) (fun g0 => ?_)
 ·
  refine Mach.ok_ite (fun g1 => ?_) (fun g1 => ?_)
  ·
   refine Mach.ok_ite (fun g2 => ?_) (fun g2 => ?_)
   ·
    refine Mach.ok_ite (fun g3 => ?_) (fun g3 => ?_)
    ·
     exact Mach.ok_next (M := ZaN L0 N) (cd := 1000000) (cm := 0) (y := (.h2m0 (v1) ((IntKind.i64.wrap (v2 + (v1.getD v3 0)))) ((v3 + 1)) : Zab)) (fu := 4000) (orc := (Zh [(0, true)] [(0, (v1.getD v3 0)), (2, (((v3 + 1) : Nat) : Int))] [(0, v3)] [(0, [.k .u8 (v1.getD v3 0)])] [])) (live := [0, 1]) (tv := fun _ => [some (vs 1 0 v1.length v1.length), some (vi (IntKind.i64.wrap (v2 + (v1.getD v3 0)))), some (vi (((v3 + 1) : Nat) : Int))]) (bl := [some (.cells (Zc Zi L0) 44), some (.cells (Zc (Ze .u8) v1) 5)]) (ob := [((IntKind.i64.wrap ((v3 : Int) + (1 : Int))) == (((v3 + 1) : Nat) : Int), true), ((IntKind.i64.wrap (v1.getD v3 0)) == (v1.getD v3 0), true), (Zan (Z4 1 (List.drop (0 + (v3 * 1)) (Zc (Ze .u8) v1))) [.k .u8 (v1.getD v3 0)], true), (Nat.blt v3 v1.length, true), ((v3 : Int) == Int.ofNat v3, true), ((decide ((v3 : Int) < (v1.length : Int))), true)]) rfl (show 2 ∈ Zq (ZfA 2) from by decide +kernel) (fun gv => by kernel_rfl) (Za (beq_iff_eq.2 ((wrap_i64 ltA).trans (by first | rfl | omega))) <| Za (beq_iff_eq.2 (wrap_i64 ltA)) <| Za (ZbH (E := (Ze .u8)) (L := v1) (i := v3) (q := 0) (by omega) (show (0 + (v3 * 1)) = v3 * 1 + 0 from by omega) (show 0 + 1 ≤ 1 from by decide) rfl rfl) <| oB <| oI <| oY Zb) rfl (by decide) (by rfl) (fun _ => ⟨rr, ⟨rr, ⟨rr, trivial⟩⟩⟩) ⟨(Zn (E := Zi) (α := R_iiii) _ L0 _), ⟨(Zn (E := (Ze .u8)) (α := Int) _ v1 _), trivial⟩⟩
    ·
     exact Mach.ok_none
   ·
    exact Mach.ok_none
  ·
   exact Mach.ok_none
 ·
  refine Mach.ok_ite (fun g1 => ?_) (fun g1 => ?_)
  ·
   exact Mach.ok_fin (M := ZaN L0 N) (cd := 1000000) (cm := 0) (r := (.r1 ((v1 ++ ([(IntKind.u8.wrap (Int.tmod v2 (256 : Int)))] : List Int))) : ZaM)) (fu := 4000) (orc := (Zh [(0, false)] [] [] [] [(1, .ap 1 [Value.int .u8 (IntKind.u8.wrap (Int.tmod v2 (256 : Int)))] (Zc (Ze .u8) (v1 ++ ([(IntKind.u8.wrap (Int.tmod v2 (256 : Int)))] : List Int))))])) (live := [0, 3]) (u := Value.tuple #[vs 3 0 (v1.length + 1) (v1.length + 1), vq]) (bl := [some (.cells (Zc Zi L0) 44), some (.cells (Zc (Ze .u8) (v1 ++ ([(IntKind.u8.wrap (Int.tmod v2 (256 : Int)))] : List Int))) 5)]) (ob := [(dP ((1 = 1 ∧ Z4 (1 * 1) (List.drop 0 [Value.int .u8 (IntKind.u8.wrap (Int.tmod v2 (256 : Int)))]) = some [Value.int .u8 (IntKind.u8.wrap (Int.tmod v2 (256 : Int)))] ∧ ZV Zbd [Value.int .u8 (IntKind.u8.wrap (Int.tmod v2 (256 : Int)))] = true) ∧ 0 < 1 ∧ 1 ≤ 100000 ∧ v1.length < v1.length + 1 ∧ v1.length ≤ 100000 ∧ v1.length * 1 ≤ (List.length (Zc (Ze .u8) v1)) ∧ List.take (v1.length * 1) (Zc (Ze .u8) v1) ++ [Value.int .u8 (IntKind.u8.wrap (Int.tmod v2 (256 : Int)))] = (Zc (Ze .u8) (v1 ++ ([(IntKind.u8.wrap (Int.tmod v2 (256 : Int)))] : List Int)))), true), ((decide ((v3 : Int) < (v1.length : Int))), false)]) (fun gv => by kernel_rfl) (Za (Zg ⟨⟨rfl, ⟨rfl, rfl⟩⟩, by omega, by omega, ltA, by omega, (Zci (E := (Ze .u8)) (L := v1) (M := ([(IntKind.u8.wrap (Int.tmod v2 (256 : Int)))] : List Int)) (n := v1.length) (show _ = _ * 1 from rfl) (by omega) (R := (v1 ++ ([(IntKind.u8.wrap (Int.tmod v2 (256 : Int)))] : List Int))) (by rw [List.take_of_length_le (by omega)]))⟩) <| oN Zb) rfl (by decide) (by rfl) ⟨Eq.trans (show (Value.tuple #[vs 1 0 (v1 ++ ([(IntKind.u8.wrap (Int.tmod v2 (256 : Int)))] : List Int)).length (v1 ++ ([(IntKind.u8.wrap (Int.tmod v2 (256 : Int)))] : List Int)).length, vq] : Value) = Value.tuple #[vs 1 0 (v1.length + 1) (v1.length + 1), vq] from (ZaD (Zf (Z2 rfl eqA eqA) (Zf rfl rfl)))) (by rfl), by rfl⟩ ⟨(Zn (E := Zi) (α := R_iiii) _ L0 _), ⟨(Zn (E := (Ze .u8)) (α := Int) _ (v1 ++ ([(IntKind.u8.wrap (Int.tmod v2 (256 : Int)))] : List Int)) _), trivial⟩⟩
  ·
   exact Mach.ok_none

theorem ZnZ (L0 : List R_iiii) (N : Nat) : (ZaN L0 N).Enter Try.prog Zj #[vs 0 0 L0.length L0.length] (Zfi L0 N) := by
 unfold Zfi
 refine Mach.en_ite (fun g0 => ?_) (fun g0 => ?_)
 ·
  exact Mach.en_fin (M := ZaN L0 N) (cd := 1000000) (cm := 0) (r := (.r0 ((3 : Int)) : ZaM)) (fu := 4000) (orc := (Zh [(0, true)] [] [] [] [])) (live := [0]) (u := Value.tuple #[vn, vi (3 : Int)]) (bl := [some (.cells (Zc Zi L0) 44)]) (ob := [((decide ((L0.length : Int) > (512 : Int))), true)]) (by kernel_rfl) (oY Zb) rfl (by decide) (by rfl) rr ⟨(Zn (E := Zi) (α := R_iiii) _ L0 _), trivial⟩
 ·
  exact Mach.en_head (bK := Zce 1) (M := ZaN L0 N) (cd := 1000000) (cm := 0) (y := (.h1m0 (([(71 : Int), (78 : Int), (84 : Int), (1 : Int), ((L0.length : Int) / (256 : Int)), ((L0.length : Int) % (256 : Int))] : List Int)) (0) : Zab)) (fu := 4000) (orc := (Zh [(0, false)] [(0, ((L0.length : Int) / (256 : Int))), (1, ((L0.length : Int) / (256 : Int))), (2, ((L0.length : Int) % (256 : Int))), (3, ((L0.length : Int) % (256 : Int)))] [] [] [])) (live := [0, 1]) (tv := [some (vs 0 0 L0.length L0.length), some (vs 1 0 6 6), some (vq)]) (bl := [some (.cells (Zc Zi L0) 44), some (.cells [Value.int .u8 (71 : Int), Value.int .u8 (78 : Int), Value.int .u8 (84 : Int), Value.int .u8 (1 : Int), Value.int .u8 ((L0.length : Int) / (256 : Int)), Value.int .u8 ((L0.length : Int) % (256 : Int))] 5)]) (ob := [((IntKind.u8.wrap ((L0.length : Int) % (256 : Int))) == ((L0.length : Int) % (256 : Int)), true), ((Int.tmod (L0.length : Int) (256 : Int)) == ((L0.length : Int) % (256 : Int)), true), ((IntKind.u8.wrap ((L0.length : Int) / (256 : Int))) == ((L0.length : Int) / (256 : Int)), true), ((IntKind.i64.wrap (Int.tdiv (L0.length : Int) (256 : Int))) == ((L0.length : Int) / (256 : Int)), true), ((decide ((L0.length : Int) > (512 : Int))), false)]) rfl rfl (show Zq (Zce 1).2 = [] from rfl) (by kernel_rfl) (Za (beq_iff_eq.2 (ZK ltA)) <| Za (beq_iff_eq.2 (Zag (by omega))) <| Za (beq_iff_eq.2 (ZK ltA)) <| Za (beq_iff_eq.2 (by rw [Zah (by omega)]; exact wrap_i64 (by omega))) <| oN Zb) rfl (by decide) (by rfl) ⟨rr, ⟨⟨Eq.trans (show (vs 1 0 ([(71 : Int), (78 : Int), (84 : Int), (1 : Int), ((L0.length : Int) / (256 : Int)), ((L0.length : Int) % (256 : Int))] : List Int).length ([(71 : Int), (78 : Int), (84 : Int), (1 : Int), ((L0.length : Int) / (256 : Int)), ((L0.length : Int) % (256 : Int))] : List Int).length : Value) = vs 1 0 6 6 from (Z2 rfl eqA eqA)) (by rfl), by rfl⟩, ⟨⟨Eq.trans (show (vi ((0 : Nat) : Int) : Value) = vq from (congrArg (Value.int .i64) (by first | rfl | omega))) (by rfl), by rfl⟩, trivial⟩⟩⟩ ⟨(Zn (E := Zi) (α := R_iiii) _ L0 _), ⟨(Zaq (E := (Ze .u8)) _ (L := ([(71 : Int), (78 : Int), (84 : Int), (1 : Int), ((L0.length : Int) / (256 : Int)), ((L0.length : Int) % (256 : Int))] : List Int)) _ (show ([Value.int .u8 (71 : Int), Value.int .u8 (78 : Int), Value.int .u8 (84 : Int), Value.int .u8 (1 : Int), Value.int .u8 ((L0.length : Int) / (256 : Int)), Value.int .u8 ((L0.length : Int) % (256 : Int))] : List Value) = Zc (Ze .u8) ([(71 : Int), (78 : Int), (84 : Int), (1 : Int), ((L0.length : Int) / (256 : Int)), ((L0.length : Int) % (256 : Int))] : List Int) from rfl)), trivial⟩⟩

theorem ZgX (L0 : List R_iiii) (N : Nat) (r : ZaM) (h : Zbi L0 N = some r) : LSpec Try.prog 8 #[vs 0 0 L0.length L0.length] [.cells (Zc Zi L0) 44] (ZjF L0 r) (Zjg L0 r) :=
 Mach.spec ZaR (ZaN L0 N) Try.func8 (by kernel_rfl) (by kernel_rfl) (fun x => by cases x <;> exact Zal _ rfl) (fun r => by cases r <;> exact Zal _ rfl) (fun x => by
  cases x with
  | h1m0 _ _ => exact fun _ => (show ¬ (1 ∈ Zq (Zce 1).2) from by decide +kernel)
  | h2m0 _ _ _ => exact fun _ => (show ¬ (2 ∈ Zq (Zce 2).2) from by decide +kernel)
  ) (fun x => (show (ZaN L0 N).Ok Try.prog Zj x (ZaT L0 N x) from by
  cases x with
  | h1m0 v1 v2 => exact Zlr L0 v1 v2 N
  | h2m0 v1 v2 v3 => exact Zls L0 v1 v2 v3 N
  )) (ZnZ L0 N) (n := N) h

noncomputable def Zbb (L0 : List R_iiii) (w1 : Int) (k0 n : Nat) : Za4 := .call [(k0, .cells (Zc Zi L0) 44)] (Value.tuple #[vn, vi w1]) [] 0
def ZaQ (A : Array Value) (L0 : List R_iiii) (w1 : Int) (k0 n : Nat) : Prop := ZB Try.prog 8 A [(k0, .cells (Zc Zi L0) 44)] (Value.tuple #[vn, vi w1]) [] n 0

theorem Zbc (A : Array Value) (L0 : List R_iiii) (w1 : Int) (N : Nat) (h : Zbi L0 N = some (.r0 w1)) (k0 n : Nat) (hA : A = #[vs k0 0 L0.length L0.length]) (hnd : ([k0] : List Nat).Nodup) (hlt : ∀ k ∈ ([k0] : List Nat), k < n) : ZaQ A L0 w1 k0 n :=
 ZQ hA (LSpec.callL (show LSpec Try.prog 8 #[vs 0 0 L0.length L0.length] [.cells (Zc Zi L0) 44] (Value.tuple #[vn, vi w1]) [some (.cells (Zc Zi L0) 44)] from ZgX L0 N _ h) [k0] n [] rfl hnd hlt (show 1 ≤ 1 from by decide) (show ∀ j ∈ ([] : List Nat), j < 1 from by decide) (by rfl) ⟨(ZaE _ _ _), trivial⟩ (by rfl) ⟨(ZaE _ _ _), trivial⟩ ⟨.inr rfl, trivial⟩ rfl rfl rfl (Zf (ZaJ rfl (ZbJ _ _ _)) rfl) rfl)

noncomputable def Zcl (L0 : List R_iiii) (w1 : List Int) (k0 n : Nat) : Za4 := .call [(k0, .cells (Zc Zi L0) 44)] (Value.tuple #[vs n 0 w1.length w1.length, vq]) [(n, some (.cells (Zc (Ze .u8) w1) 5))] 1
def ZbM (A : Array Value) (L0 : List R_iiii) (w1 : List Int) (k0 n : Nat) : Prop := ZB Try.prog 8 A [(k0, .cells (Zc Zi L0) 44)] (Value.tuple #[vs n 0 w1.length w1.length, vq]) [(n, some (.cells (Zc (Ze .u8) w1) 5))] n 1

theorem Zcm (A : Array Value) (L0 : List R_iiii) (w1 : List Int) (N : Nat) (h : Zbi L0 N = some (.r1 w1)) (k0 n : Nat) (hA : A = #[vs k0 0 L0.length L0.length]) (hnd : ([k0] : List Nat).Nodup) (hlt : ∀ k ∈ ([k0] : List Nat), k < n) : ZbM A L0 w1 k0 n :=
 ZQ hA (LSpec.callL (show LSpec Try.prog 8 #[vs 0 0 L0.length L0.length] [.cells (Zc Zi L0) 44] (Value.tuple #[vs 1 0 w1.length w1.length, vq]) [some (.cells (Zc Zi L0) 44), some (.cells (Zc (Ze .u8) w1) 5)] from ZgX L0 N _ h) [k0] n [1] rfl hnd hlt (show 1 ≤ 2 from by decide) (show ∀ j ∈ ([1] : List Nat), j < 2 from by decide) (by rfl) ⟨(ZaE _ _ _), trivial⟩ (by rfl) ⟨(ZaE _ _ _), ⟨(ZaE _ _ _), trivial⟩⟩ ⟨.inr rfl, ⟨(by decide), trivial⟩⟩ rfl rfl rfl (Zf (ZaJ rfl (ZbJ _ _ _)) rfl) (Zf (ZaJ rfl (ZeN (ZbJ _ _ _))) rfl))

noncomputable def ZlW (o0 : Nat) (L1 : List Int) (n2 n3 : Nat) (O0 : Obj) : Zr → Value
 | .r0 w2 => Value.tuple #[vn, vi w2]
 | .r1 w2 => Value.tuple #[vs 1 0 w2.length w2.length, vq]
noncomputable def ZkH (o0 : Nat) (L1 : List Int) (n2 n3 : Nat) (O0 : Obj) : Zr → List (Option AObj)
 | .r0 w2 => [some (.ro O0)]
 | .r1 w2 => [some (.ro O0), some (.cells (Zc Zi w2) 44)]

def Zqo : Zac → Nat
 | .h1m0 => 1
 | .h1m1 v5 v6 => 1
 | .h1m2 v5 v6 v7 v8 v9 => 1
noncomputable def Zr6 (o0 : Nat) (L1 : List Int) (n2 n3 : Nat) (O0 : Obj) : Zac → List (Nat × Value)
 | .h1m0 => [(0, vs 0 o0 n2 n3), (4, vi (IntKind.i64.wrap ((IntKind.i64.wrap ((256 : Int) * (L1.getD 4 0))) + (L1.getD 5 0)))), (5, vs 0 (o0 + 6) (n2 - 6) (n3 - 6)), (6, vn), (7, vq)]
 | .h1m1 v5 v6 => [(0, vs 0 o0 n2 n3), (4, vi (IntKind.i64.wrap ((IntKind.i64.wrap ((256 : Int) * (L1.getD 4 0))) + (L1.getD 5 0)))), (5, vn), (6, vs 1 0 v5.length v5.length), (7, vi (v6 : Int))]
 | .h1m2 v5 v6 v7 v8 v9 => [(0, vs 0 o0 n2 n3), (4, vi (IntKind.i64.wrap ((IntKind.i64.wrap ((256 : Int) * (L1.getD 4 0))) + (L1.getD 5 0)))), (5, vs 0 (o0 + v5) v6 v7), (6, vs 1 0 v8.length v8.length), (7, vi (v9 : Int))]
noncomputable def Zr7 (o0 : Nat) (L1 : List Int) (n2 n3 : Nat) (O0 : Obj) : Zac → List (Option AObj)
 | .h1m0 => [some (.ro O0)]
 | .h1m1 v5 v6 => [some (.ro O0), some (.cells (Zc Zi v5) 44)]
 | .h1m2 v5 v6 v7 v8 v9 => [some (.ro O0), some (.cells (Zc Zi v8) 44)]

noncomputable def Zdq : Nat → Code × List Za2
 | 1 => Zbz [1, 1, 1, 1, 1, 0, 1, 3] (Zbh Try.f10) []
 | _ => (.skip, [])
def ZkI : Nat → Bool
 | 1 => true
 | _ => true
noncomputable def Zgt (i : Nat) : List Za2 := match ZkI i with | true => .rnd i :: (Zdq i).2 | false => (Zdq i).2

noncomputable def ZF (o0 : Nat) (L1 : List Int) (n2 n3 : Nat) (O0 : Obj) (N : Nat) : Mach := ⟨Try.f10, [.ro O0], Zac, Zr, ZaY L1 n2 n3 N, Zqo, Zdq, ZkI, Zr6 o0 L1 n2 n3 O0, Zr7 o0 L1 n2 n3 O0, ZlW o0 L1 n2 n3 O0, ZkH o0 L1 n2 n3 O0⟩

theorem Znm (o0 : Nat) (L1 : List Int) (n2 n3 : Nat) (O0 : Obj) (F0 : ∀ i, i < L1.length → Zat O0 (o0 + i * 1) [.k .u8 (L1.getD i 0)]) (N : Nat) : (ZF o0 L1 n2 n3 O0 N).Ok Try.prog Zj (.h1m0 : Zac) (ZaY L1 n2 n3 N (.h1m0 : Zac)) := by
 show (ZF o0 L1 n2 n3 O0 N).Ok Try.prog Zj (.h1m0 : Zac) (Zbe L1 n2 n3 N)
 unfold Zbe
 refine Mach.ok_ite (fun g0 => ?_) (fun g0 => ?_)
 ·
  refine Mach.ok_bind (fun z1 c1 => ?_)
  cases z1 with
  | r0 y1_0 =>
   refine Mach.ok_ite (fun g2 => ?_) (fun g2 => ?_)
   ·
    exact Mach.ok_fin (M := ZF o0 L1 n2 n3 O0 N) (cd := 1000000) (cm := 0) (r := (.r0 ((110 : Int)) : Zr)) (fu := 4000) (orc := (Zh [(0, true), (2, true)] [] [] [] [(0, (ZfY (o0) (L1) (6) ((n2 - 6)) ((n3 - 6)) O0 y1_0 0 1))])) (live := [0]) (u := Value.tuple #[vn, vi (110 : Int)]) (bl := [some (.ro O0)]) (ob := [((y1_0 != (0 : Int)), true), (dP (ZeZ #[vs 0 (o0 + 6) (n2 - 6) (n3 - 6)] (o0) (L1) (6) ((n2 - 6)) ((n3 - 6)) O0 y1_0 0 1), true), (dS O0, true), ((decide ((0 : Int) < (IntKind.i64.wrap ((IntKind.i64.wrap ((256 : Int) * (L1.getD 4 0))) + (L1.getD 5 0))))), true)]) (fun gv => by kernel_rfl) (oD <| Za (Zg (ZfZ #[vs 0 (o0 + 6) (n2 - 6) (n3 - 6)] (o0) (L1) (6) ((n2 - 6)) ((n3 - 6)) O0 F0 y1_0 N c1 0 1 rfl (by decide) (by decide))) <| oR <| oY Zb) rfl (by decide) (by rfl) rr ⟨rfl, trivial⟩
   ·
    exact Mach.ok_next (M := ZF o0 L1 n2 n3 O0 N) (cd := 1000000) (cm := 0) (y := (.h1m1 (([(⟨(0 : Int), (0 : Int), (0 : Int), (0 : Int)⟩ : R_iiii)] : List R_iiii)) (1) : Zac)) (fu := 4000) (orc := (Zh [(0, true), (2, false)] [] [] [] [(0, (ZfY (o0) (L1) (6) ((n2 - 6)) ((n3 - 6)) O0 y1_0 0 1))])) (live := [0, 3]) (tv := fun _ => [some (vs 0 o0 n2 n3), some (vi (IntKind.i64.wrap ((IntKind.i64.wrap ((256 : Int) * (L1.getD 4 0))) + (L1.getD 5 0)))), some (vn), some (vs 3 0 1 1), some (vi (1 : Int))]) (bl := [some (.ro O0), some (.cells [vq, vq, vq, vq] 44)]) (ob := [((y1_0 != (0 : Int)), false), (dP (ZeZ #[vs 0 (o0 + 6) (n2 - 6) (n3 - 6)] (o0) (L1) (6) ((n2 - 6)) ((n3 - 6)) O0 y1_0 0 1), true), (dS O0, true), ((decide ((0 : Int) < (IntKind.i64.wrap ((IntKind.i64.wrap ((256 : Int) * (L1.getD 4 0))) + (L1.getD 5 0))))), true)]) rfl (show 1 ∈ Zq (Zgt 1) from by decide +kernel) (fun gv => by kernel_rfl) (oE <| Za (Zg (ZfZ #[vs 0 (o0 + 6) (n2 - 6) (n3 - 6)] (o0) (L1) (6) ((n2 - 6)) ((n3 - 6)) O0 F0 y1_0 N c1 0 1 rfl (by decide) (by decide))) <| oR <| oY Zb) rfl (by decide) (by rfl) (fun _ => ⟨rr, ⟨rr, ⟨rr, ⟨⟨Eq.trans (show (vs 1 0 ([(⟨(0 : Int), (0 : Int), (0 : Int), (0 : Int)⟩ : R_iiii)] : List R_iiii).length ([(⟨(0 : Int), (0 : Int), (0 : Int), (0 : Int)⟩ : R_iiii)] : List R_iiii).length : Value) = vs 1 0 1 1 from (Z2 rfl eqA eqA)) (by rfl), by rfl⟩, ⟨⟨Eq.trans (show (vi ((1 : Nat) : Int) : Value) = vi (1 : Int) from (congrArg (Value.int .i64) (by first | rfl | omega))) (by rfl), by rfl⟩, trivial⟩⟩⟩⟩⟩) ⟨rfl, ⟨(Zaq (E := Zi) _ (L := ([(⟨(0 : Int), (0 : Int), (0 : Int), (0 : Int)⟩ : R_iiii)] : List R_iiii)) _ (show ([vq, vq, vq, vq] : List Value) = Zc Zi ([(⟨(0 : Int), (0 : Int), (0 : Int), (0 : Int)⟩ : R_iiii)] : List R_iiii) from rfl)), trivial⟩⟩
  | r1 y1_0 y1_1 y1_2 y1_3 y1_4 y1_5 =>
   exact Mach.ok_next (M := ZF o0 L1 n2 n3 O0 N) (cd := 1000000) (cm := 0) (y := (.h1m2 (y1_3) (y1_4) (y1_5) (([(⟨(L1.getD 6 0), y1_0, y1_1, y1_2⟩ : R_iiii)] : List R_iiii)) (1) : Zac)) (fu := 4000) (orc := (Zh [(0, true)] [] [] [] [(0, (ZkF (o0) (L1) (6) ((n2 - 6)) ((n3 - 6)) O0 y1_0 y1_1 y1_2 y1_3 y1_4 y1_5 0 1))])) (live := [0, 3]) (tv := fun _ => [some (vs 0 o0 n2 n3), some (vi (IntKind.i64.wrap ((IntKind.i64.wrap ((256 : Int) * (L1.getD 4 0))) + (L1.getD 5 0)))), some (vs 0 (o0 + y1_3) y1_4 y1_5), some (vs 3 0 1 1), some (vi (1 : Int))]) (bl := [some (.ro O0), some (.cells [vi (L1.getD 6 0), vi y1_0, vi y1_1, vi y1_2] 44)]) (ob := [(dP (Zht #[vs 0 (o0 + 6) (n2 - 6) (n3 - 6)] (o0) (L1) (6) ((n2 - 6)) ((n3 - 6)) O0 y1_0 y1_1 y1_2 y1_3 y1_4 y1_5 0 1), true), (dS O0, true), ((decide ((0 : Int) < (IntKind.i64.wrap ((IntKind.i64.wrap ((256 : Int) * (L1.getD 4 0))) + (L1.getD 5 0))))), true)]) rfl (show 1 ∈ Zq (Zgt 1) from by decide +kernel) (fun gv => by kernel_rfl) (Za (Zg (ZkG #[vs 0 (o0 + 6) (n2 - 6) (n3 - 6)] (o0) (L1) (6) ((n2 - 6)) ((n3 - 6)) O0 F0 y1_0 y1_1 y1_2 y1_3 y1_4 y1_5 N c1 0 1 rfl (by decide) (by decide))) <| oR <| oY Zb) rfl (by decide) (by rfl) (fun _ => ⟨rr, ⟨rr, ⟨rr, ⟨⟨Eq.trans (show (vs 1 0 ([(⟨(L1.getD 6 0), y1_0, y1_1, y1_2⟩ : R_iiii)] : List R_iiii).length ([(⟨(L1.getD 6 0), y1_0, y1_1, y1_2⟩ : R_iiii)] : List R_iiii).length : Value) = vs 1 0 1 1 from (Z2 rfl eqA eqA)) (by rfl), by rfl⟩, ⟨⟨Eq.trans (show (vi ((1 : Nat) : Int) : Value) = vi (1 : Int) from (congrArg (Value.int .i64) (by first | rfl | omega))) (by rfl), by rfl⟩, trivial⟩⟩⟩⟩⟩) ⟨rfl, ⟨(Zaq (E := Zi) _ (L := ([(⟨(L1.getD 6 0), y1_0, y1_1, y1_2⟩ : R_iiii)] : List R_iiii)) _ (show ([vi (L1.getD 6 0), vi y1_0, vi y1_1, vi y1_2] : List Value) = Zc Zi ([(⟨(L1.getD 6 0), y1_0, y1_1, y1_2⟩ : R_iiii)] : List R_iiii) from rfl)), trivial⟩⟩
 ·
  refine Mach.ok_bind (fun z1 c1 => ?_)
  cases z1 with
  | r0 y1_0 =>
   refine Mach.ok_ite (fun g2 => ?_) (fun g2 => ?_)
   ·
    refine Mach.ok_ite (fun g3 => ?_) (fun g3 => ?_)
    ·
     exact Mach.ok_fin (M := ZF o0 L1 n2 n3 O0 N) (cd := 1000000) (cm := 0) (r := (.r0 ((110 : Int)) : Zr)) (fu := 4000) (orc := (Zh [(0, false), (2, true)] [] [] [] [(0, (Zfq   y1_0  1)), (1, .bs y1_0), (2, .bs (L1.take n2))])) (live := [0]) (u := Value.tuple #[vn, vi (110 : Int)]) (bl := [some (.ro O0)]) (ob := [((!((Z5 y1_0).toList == (Z5 (L1.take n2)).toList)), true), (dP (roS O0 o0 n2 = some (List.map (Value.int .u8) (L1.take n2))), true), (dP (Z4 y1_0.length (List.drop 0 (Zc (Ze .u8) y1_0)) = some (List.map (Value.int .u8) y1_0)), true), (dP (Zej #[vn]   y1_0  1), true), ((decide ((0 : Int) < (IntKind.i64.wrap ((IntKind.i64.wrap ((256 : Int) * (L1.getD 4 0))) + (L1.getD 5 0))))), false)]) (fun gv => by kernel_rfl) (Za (ZgM (x := y1_0) (y := (L1.take n2)) (by assumption)) <| Za (Zg (ZcZ (L := L1) (b := o0) (a := 0) F0 (by omega) (show _ = _ + _ * 1 from by omega) (by first | rfl | simp))) <| Za (Zg (ZaB (L := y1_0) (a := 0) (by omega) (by show _ = _ * 1; omega) (by first | rfl | simp))) <| Za (Zg (Zfr #[vn]   y1_0 N c1  1 rfl (by decide) (by decide))) <| oN Zb) rfl (by decide) (by rfl) rr ⟨rfl, trivial⟩
    ·
     exact Mach.ok_fin (M := ZF o0 L1 n2 n3 O0 N) (cd := 1000000) (cm := 0) (r := (.r0 ((0 : Int)) : Zr)) (fu := 4000) (orc := (Zh [(0, false), (2, false)] [] [] [] [(0, (Zfq   y1_0  1)), (1, .bs y1_0), (2, .bs (L1.take n2))])) (live := [0]) (u := Value.tuple #[vn, vq]) (bl := [some (.ro O0)]) (ob := [((!((Z5 y1_0).toList == (Z5 (L1.take n2)).toList)), false), (dP (roS O0 o0 n2 = some (List.map (Value.int .u8) (L1.take n2))), true), (dP (Z4 y1_0.length (List.drop 0 (Zc (Ze .u8) y1_0)) = some (List.map (Value.int .u8) y1_0)), true), (dP (Zej #[vn]   y1_0  1), true), ((decide ((0 : Int) < (IntKind.i64.wrap ((IntKind.i64.wrap ((256 : Int) * (L1.getD 4 0))) + (L1.getD 5 0))))), false)]) (fun gv => by kernel_rfl) (Za (ZgN (x := y1_0) (y := (L1.take n2)) (by first | assumption | exact Decidable.not_not.1 (by assumption))) <| Za (Zg (ZcZ (L := L1) (b := o0) (a := 0) F0 (by omega) (show _ = _ + _ * 1 from by omega) (by first | rfl | simp))) <| Za (Zg (ZaB (L := y1_0) (a := 0) (by omega) (by show _ = _ * 1; omega) (by first | rfl | simp))) <| Za (Zg (Zfr #[vn]   y1_0 N c1  1 rfl (by decide) (by decide))) <| oN Zb) rfl (by decide) (by rfl) rr ⟨rfl, trivial⟩
   ·
    exact Mach.ok_none

theorem Znn (o0 : Nat) (L1 : List Int) (n2 n3 : Nat) (O0 : Obj) (F0 : ∀ i, i < L1.length → Zat O0 (o0 + i * 1) [.k .u8 (L1.getD i 0)]) (v5 : List R_iiii) (v6 N : Nat) : (ZF o0 L1 n2 n3 O0 N).Ok Try.prog Zj (.h1m1 v5 v6 : Zac) (ZaY L1 n2 n3 N (.h1m1 v5 v6 : Zac)) := by
 show (ZF o0 L1 n2 n3 O0 N).Ok Try.prog Zj (.h1m1 v5 v6 : Zac) (Zge L1 n2 n3 N v5 v6)
 unfold Zge
 refine Mach.ok_ite (fun g0 => ?_) (fun g0 => ?_)
 ·
  refine Mach.ok_ite (fun g1 => ?_) (fun g1 => ?_)
  ·
   refine Mach.ok_bind (fun z2 c2 => ?_)
   cases z2 with
   | r0 =>
    exact Mach.ok_fin (M := ZF o0 L1 n2 n3 O0 N) (cd := 1000000) (cm := 0) (r := (.r0 ((110 : Int)) : Zr)) (fu := 4000) (orc := (Zh [(0, true), (1, true)] [] [] [] [(0, (ZoN     2))])) (live := [0]) (u := Value.tuple #[vn, vi (110 : Int)]) (bl := [some (.ro O0)]) (ob := [(dP (Zjf #[vn]     2), true), ((decide ((v6 : Int) < (513 : Int))), true), ((decide ((v6 : Int) < (IntKind.i64.wrap ((IntKind.i64.wrap ((256 : Int) * (L1.getD 4 0))) + (L1.getD 5 0))))), true)]) (fun gv => by kernel_rfl) (Za (Zg (ZoO #[vn]    N c2  2 rfl (by decide) (by decide))) <| oY <| oY Zb) rfl (by decide) (by rfl) rr ⟨rfl, trivial⟩
  ·
   refine Mach.ok_bind (fun z2 c2 => ?_)
   cases z2 with
   | r0 y2_0 =>
    refine Mach.ok_ite (fun g3 => ?_) (fun g3 => ?_)
    ·
     exact Mach.ok_fin (M := ZF o0 L1 n2 n3 O0 N) (cd := 1000000) (cm := 0) (r := (.r0 ((110 : Int)) : Zr)) (fu := 4000) (orc := (Zh [(0, true), (1, false), (2, true)] [] [] [] [(0, (Zbb (v5)  y2_0 1 2))])) (live := [0]) (u := Value.tuple #[vn, vi (110 : Int)]) (bl := [some (.ro O0)]) (ob := [((y2_0 != (0 : Int)), true), (dP (ZaQ #[vs 1 0 v5.length v5.length] (v5)  y2_0 1 2), true), (dS (Zc Zi v5), true), ((decide ((v6 : Int) < (513 : Int))), false), ((decide ((v6 : Int) < (IntKind.i64.wrap ((IntKind.i64.wrap ((256 : Int) * (L1.getD 4 0))) + (L1.getD 5 0))))), true)]) (fun gv => by kernel_rfl) (oD <| Za (Zg (Zbc #[vs 1 0 v5.length v5.length] (v5)  y2_0 N c2 1 2 rfl (by decide) (by decide))) <| oR <| oN <| oY Zb) rfl (by decide) (by rfl) rr ⟨rfl, trivial⟩
    ·
     refine Mach.ok_ite (fun g4 => ?_) (fun g4 => ?_)
     ·
      refine Mach.ok_ite (fun g5 => ?_) (fun g5 => ?_)
      ·
       exact Mach.ok_fin (M := ZF o0 L1 n2 n3 O0 N) (cd := 1000000) (cm := 0) (r := (.r0 ((110 : Int)) : Zr)) (fu := 4000) (orc := (Zh [(0, true), (1, false), (2, false), (3, true)] [] [] [] [(0, (Zbb (v5)  y2_0 1 2)), (1, .bs (L1.take n2))])) (live := [0]) (u := Value.tuple #[vn, vi (110 : Int)]) (bl := [some (.ro O0)]) (ob := [((!((⟨#[]⟩ : ByteArray).toList == (Z5 (L1.take n2)).toList)), true), (dP (roS O0 o0 n2 = some (List.map (Value.int .u8) (L1.take n2))), true), ((y2_0 != (0 : Int)), false), (dP (ZaQ #[vs 1 0 v5.length v5.length] (v5)  y2_0 1 2), true), (dS (Zc Zi v5), true), ((decide ((v6 : Int) < (513 : Int))), false), ((decide ((v6 : Int) < (IntKind.i64.wrap ((IntKind.i64.wrap ((256 : Int) * (L1.getD 4 0))) + (L1.getD 5 0))))), true)]) (fun gv => by kernel_rfl) (Za (ZgM (x := ([] : List Int)) (y := (L1.take n2)) (by assumption)) <| Za (Zg (ZcZ (L := L1) (b := o0) (a := 0) F0 (by omega) (show _ = _ + _ * 1 from by omega) (by first | rfl | simp))) <| oE <| Za (Zg (Zbc #[vs 1 0 v5.length v5.length] (v5)  y2_0 N c2 1 2 rfl (by decide) (by decide))) <| oR <| oN <| oY Zb) rfl (by decide) (by rfl) rr ⟨rfl, trivial⟩
      ·
       exact Mach.ok_fin (M := ZF o0 L1 n2 n3 O0 N) (cd := 1000000) (cm := 0) (r := (.r1 (v5) : Zr)) (fu := 4000) (orc := (Zh [(0, true), (1, false), (2, false), (3, false)] [] [] [] [(0, (Zbb (v5)  y2_0 1 2)), (1, .bs (L1.take n2))])) (live := [0, 1]) (u := Value.tuple #[vs 1 0 v5.length v5.length, vq]) (bl := [some (.ro O0), some (.cells (Zc Zi v5) 44)]) (ob := [((!((⟨#[]⟩ : ByteArray).toList == (Z5 (L1.take n2)).toList)), false), (dP (roS O0 o0 n2 = some (List.map (Value.int .u8) (L1.take n2))), true), ((y2_0 != (0 : Int)), false), (dP (ZaQ #[vs 1 0 v5.length v5.length] (v5)  y2_0 1 2), true), (dS (Zc Zi v5), true), ((decide ((v6 : Int) < (513 : Int))), false), ((decide ((v6 : Int) < (IntKind.i64.wrap ((IntKind.i64.wrap ((256 : Int) * (L1.getD 4 0))) + (L1.getD 5 0))))), true)]) (fun gv => by kernel_rfl) (Za (ZgN (x := ([] : List Int)) (y := (L1.take n2)) (by first | assumption | exact Decidable.not_not.1 (by assumption))) <| Za (Zg (ZcZ (L := L1) (b := o0) (a := 0) F0 (by omega) (show _ = _ + _ * 1 from by omega) (by first | rfl | simp))) <| oE <| Za (Zg (Zbc #[vs 1 0 v5.length v5.length] (v5)  y2_0 N c2 1 2 rfl (by decide) (by decide))) <| oR <| oN <| oY Zb) rfl (by decide) (by rfl) rr ⟨rfl, ⟨(Zn (E := Zi) (α := R_iiii) _ v5 _), trivial⟩⟩
     ·
      exact Mach.ok_none
   | r1 y2_0 =>
    refine Mach.ok_ite (fun g3 => ?_) (fun g3 => ?_)
    ·
     refine Mach.ok_ite (fun g4 => ?_) (fun g4 => ?_)
     ·
      exact Mach.ok_fin (M := ZF o0 L1 n2 n3 O0 N) (cd := 1000000) (cm := 0) (r := (.r0 ((110 : Int)) : Zr)) (fu := 4000) (orc := (Zh [(0, true), (1, false), (3, true)] [] [] [] [(0, (Zcl (v5)  y2_0 1 2)), (1, .bs y2_0), (2, .bs (L1.take n2))])) (live := [0]) (u := Value.tuple #[vn, vi (110 : Int)]) (bl := [some (.ro O0)]) (ob := [((!((Z5 y2_0).toList == (Z5 (L1.take n2)).toList)), true), (dP (roS O0 o0 n2 = some (List.map (Value.int .u8) (L1.take n2))), true), (dP (Z4 y2_0.length (List.drop 0 (Zc (Ze .u8) y2_0)) = some (List.map (Value.int .u8) y2_0)), true), (dP (ZbM #[vs 1 0 v5.length v5.length] (v5)  y2_0 1 2), true), (dS (Zc Zi v5), true), ((decide ((v6 : Int) < (513 : Int))), false), ((decide ((v6 : Int) < (IntKind.i64.wrap ((IntKind.i64.wrap ((256 : Int) * (L1.getD 4 0))) + (L1.getD 5 0))))), true)]) (fun gv => by kernel_rfl) (Za (ZgM (x := y2_0) (y := (L1.take n2)) (by assumption)) <| Za (Zg (ZcZ (L := L1) (b := o0) (a := 0) F0 (by omega) (show _ = _ + _ * 1 from by omega) (by first | rfl | simp))) <| Za (Zg (ZaB (L := y2_0) (a := 0) (by omega) (by show _ = _ * 1; omega) (by first | rfl | simp))) <| Za (Zg (Zcm #[vs 1 0 v5.length v5.length] (v5)  y2_0 N c2 1 2 rfl (by decide) (by decide))) <| oR <| oN <| oY Zb) rfl (by decide) (by rfl) rr ⟨rfl, trivial⟩
     ·
      exact Mach.ok_fin (M := ZF o0 L1 n2 n3 O0 N) (cd := 1000000) (cm := 0) (r := (.r1 (v5) : Zr)) (fu := 4000) (orc := (Zh [(0, true), (1, false), (3, false)] [] [] [] [(0, (Zcl (v5)  y2_0 1 2)), (1, .bs y2_0), (2, .bs (L1.take n2))])) (live := [0, 1]) (u := Value.tuple #[vs 1 0 v5.length v5.length, vq]) (bl := [some (.ro O0), some (.cells (Zc Zi v5) 44)]) (ob := [((!((Z5 y2_0).toList == (Z5 (L1.take n2)).toList)), false), (dP (roS O0 o0 n2 = some (List.map (Value.int .u8) (L1.take n2))), true), (dP (Z4 y2_0.length (List.drop 0 (Zc (Ze .u8) y2_0)) = some (List.map (Value.int .u8) y2_0)), true), (dP (ZbM #[vs 1 0 v5.length v5.length] (v5)  y2_0 1 2), true), (dS (Zc Zi v5), true), ((decide ((v6 : Int) < (513 : Int))), false), ((decide ((v6 : Int) < (IntKind.i64.wrap ((IntKind.i64.wrap ((256 : Int) * (L1.getD 4 0))) + (L1.getD 5 0))))), true)]) (fun gv => by kernel_rfl) (Za (ZgN (x := y2_0) (y := (L1.take n2)) (by first | assumption | exact Decidable.not_not.1 (by assumption))) <| Za (Zg (ZcZ (L := L1) (b := o0) (a := 0) F0 (by omega) (show _ = _ + _ * 1 from by omega) (by first | rfl | simp))) <| Za (Zg (ZaB (L := y2_0) (a := 0) (by omega) (by show _ = _ * 1; omega) (by first | rfl | simp))) <| Za (Zg (Zcm #[vs 1 0 v5.length v5.length] (v5)  y2_0 N c2 1 2 rfl (by decide) (by decide))) <| oR <| oN <| oY Zb) rfl (by decide) (by rfl) rr ⟨rfl, ⟨(Zn (E := Zi) (α := R_iiii) _ v5 _), trivial⟩⟩
    ·
     exact Mach.ok_none
 ·
  refine Mach.ok_bind (fun z1 c1 => ?_)
  cases z1 with
  | r0 y1_0 =>
   refine Mach.ok_ite (fun g2 => ?_) (fun g2 => ?_)
   ·
    exact Mach.ok_fin (M := ZF o0 L1 n2 n3 O0 N) (cd := 1000000) (cm := 0) (r := (.r0 ((110 : Int)) : Zr)) (fu := 4000) (orc := (Zh [(0, false), (1, true)] [] [] [] [(0, (Zbb (v5)  y1_0 1 2))])) (live := [0]) (u := Value.tuple #[vn, vi (110 : Int)]) (bl := [some (.ro O0)]) (ob := [((y1_0 != (0 : Int)), true), (dP (ZaQ #[vs 1 0 v5.length v5.length] (v5)  y1_0 1 2), true), (dS (Zc Zi v5), true), ((decide ((v6 : Int) < (IntKind.i64.wrap ((IntKind.i64.wrap ((256 : Int) * (L1.getD 4 0))) + (L1.getD 5 0))))), false)]) (fun gv => by kernel_rfl) (oD <| Za (Zg (Zbc #[vs 1 0 v5.length v5.length] (v5)  y1_0 N c1 1 2 rfl (by decide) (by decide))) <| oR <| oN Zb) rfl (by decide) (by rfl) rr ⟨rfl, trivial⟩
   ·
    refine Mach.ok_ite (fun g3 => ?_) (fun g3 => ?_)
    ·
     refine Mach.ok_ite (fun g4 => ?_) (fun g4 => ?_)
     ·
      exact Mach.ok_fin (M := ZF o0 L1 n2 n3 O0 N) (cd := 1000000) (cm := 0) (r := (.r0 ((110 : Int)) : Zr)) (fu := 4000) (orc := (Zh [(0, false), (1, false), (2, true)] [] [] [] [(0, (Zbb (v5)  y1_0 1 2)), (1, .bs (L1.take n2))])) (live := [0]) (u := Value.tuple #[vn, vi (110 : Int)]) (bl := [some (.ro O0)]) (ob := [((!((⟨#[]⟩ : ByteArray).toList == (Z5 (L1.take n2)).toList)), true), (dP (roS O0 o0 n2 = some (List.map (Value.int .u8) (L1.take n2))), true), ((y1_0 != (0 : Int)), false), (dP (ZaQ #[vs 1 0 v5.length v5.length] (v5)  y1_0 1 2), true), (dS (Zc Zi v5), true), ((decide ((v6 : Int) < (IntKind.i64.wrap ((IntKind.i64.wrap ((256 : Int) * (L1.getD 4 0))) + (L1.getD 5 0))))), false)]) (fun gv => by kernel_rfl) (Za (ZgM (x := ([] : List Int)) (y := (L1.take n2)) (by assumption)) <| Za (Zg (ZcZ (L := L1) (b := o0) (a := 0) F0 (by omega) (show _ = _ + _ * 1 from by omega) (by first | rfl | simp))) <| oE <| Za (Zg (Zbc #[vs 1 0 v5.length v5.length] (v5)  y1_0 N c1 1 2 rfl (by decide) (by decide))) <| oR <| oN Zb) rfl (by decide) (by rfl) rr ⟨rfl, trivial⟩
     ·
      exact Mach.ok_fin (M := ZF o0 L1 n2 n3 O0 N) (cd := 1000000) (cm := 0) (r := (.r1 (v5) : Zr)) (fu := 4000) (orc := (Zh [(0, false), (1, false), (2, false)] [] [] [] [(0, (Zbb (v5)  y1_0 1 2)), (1, .bs (L1.take n2))])) (live := [0, 1]) (u := Value.tuple #[vs 1 0 v5.length v5.length, vq]) (bl := [some (.ro O0), some (.cells (Zc Zi v5) 44)]) (ob := [((!((⟨#[]⟩ : ByteArray).toList == (Z5 (L1.take n2)).toList)), false), (dP (roS O0 o0 n2 = some (List.map (Value.int .u8) (L1.take n2))), true), ((y1_0 != (0 : Int)), false), (dP (ZaQ #[vs 1 0 v5.length v5.length] (v5)  y1_0 1 2), true), (dS (Zc Zi v5), true), ((decide ((v6 : Int) < (IntKind.i64.wrap ((IntKind.i64.wrap ((256 : Int) * (L1.getD 4 0))) + (L1.getD 5 0))))), false)]) (fun gv => by kernel_rfl) (Za (ZgN (x := ([] : List Int)) (y := (L1.take n2)) (by first | assumption | exact Decidable.not_not.1 (by assumption))) <| Za (Zg (ZcZ (L := L1) (b := o0) (a := 0) F0 (by omega) (show _ = _ + _ * 1 from by omega) (by first | rfl | simp))) <| oE <| Za (Zg (Zbc #[vs 1 0 v5.length v5.length] (v5)  y1_0 N c1 1 2 rfl (by decide) (by decide))) <| oR <| oN Zb) rfl (by decide) (by rfl) rr ⟨rfl, ⟨(Zn (E := Zi) (α := R_iiii) _ v5 _), trivial⟩⟩
    ·
     exact Mach.ok_none
  | r1 y1_0 =>
   refine Mach.ok_ite (fun g2 => ?_) (fun g2 => ?_)
   ·
    refine Mach.ok_ite (fun g3 => ?_) (fun g3 => ?_)
    ·
     exact Mach.ok_fin (M := ZF o0 L1 n2 n3 O0 N) (cd := 1000000) (cm := 0) (r := (.r0 ((110 : Int)) : Zr)) (fu := 4000) (orc := (Zh [(0, false), (2, true)] [] [] [] [(0, (Zcl (v5)  y1_0 1 2)), (1, .bs y1_0), (2, .bs (L1.take n2))])) (live := [0]) (u := Value.tuple #[vn, vi (110 : Int)]) (bl := [some (.ro O0)]) (ob := [((!((Z5 y1_0).toList == (Z5 (L1.take n2)).toList)), true), (dP (roS O0 o0 n2 = some (List.map (Value.int .u8) (L1.take n2))), true), (dP (Z4 y1_0.length (List.drop 0 (Zc (Ze .u8) y1_0)) = some (List.map (Value.int .u8) y1_0)), true), (dP (ZbM #[vs 1 0 v5.length v5.length] (v5)  y1_0 1 2), true), (dS (Zc Zi v5), true), ((decide ((v6 : Int) < (IntKind.i64.wrap ((IntKind.i64.wrap ((256 : Int) * (L1.getD 4 0))) + (L1.getD 5 0))))), false)]) (fun gv => by kernel_rfl) (Za (ZgM (x := y1_0) (y := (L1.take n2)) (by assumption)) <| Za (Zg (ZcZ (L := L1) (b := o0) (a := 0) F0 (by omega) (show _ = _ + _ * 1 from by omega) (by first | rfl | simp))) <| Za (Zg (ZaB (L := y1_0) (a := 0) (by omega) (by show _ = _ * 1; omega) (by first | rfl | simp))) <| Za (Zg (Zcm #[vs 1 0 v5.length v5.length] (v5)  y1_0 N c1 1 2 rfl (by decide) (by decide))) <| oR <| oN Zb) rfl (by decide) (by rfl) rr ⟨rfl, trivial⟩
    ·
     exact Mach.ok_fin (M := ZF o0 L1 n2 n3 O0 N) (cd := 1000000) (cm := 0) (r := (.r1 (v5) : Zr)) (fu := 4000) (orc := (Zh [(0, false), (2, false)] [] [] [] [(0, (Zcl (v5)  y1_0 1 2)), (1, .bs y1_0), (2, .bs (L1.take n2))])) (live := [0, 1]) (u := Value.tuple #[vs 1 0 v5.length v5.length, vq]) (bl := [some (.ro O0), some (.cells (Zc Zi v5) 44)]) (ob := [((!((Z5 y1_0).toList == (Z5 (L1.take n2)).toList)), false), (dP (roS O0 o0 n2 = some (List.map (Value.int .u8) (L1.take n2))), true), (dP (Z4 y1_0.length (List.drop 0 (Zc (Ze .u8) y1_0)) = some (List.map (Value.int .u8) y1_0)), true), (dP (ZbM #[vs 1 0 v5.length v5.length] (v5)  y1_0 1 2), true), (dS (Zc Zi v5), true), ((decide ((v6 : Int) < (IntKind.i64.wrap ((IntKind.i64.wrap ((256 : Int) * (L1.getD 4 0))) + (L1.getD 5 0))))), false)]) (fun gv => by kernel_rfl) (Za (ZgN (x := y1_0) (y := (L1.take n2)) (by first | assumption | exact Decidable.not_not.1 (by assumption))) <| Za (Zg (ZcZ (L := L1) (b := o0) (a := 0) F0 (by omega) (show _ = _ + _ * 1 from by omega) (by first | rfl | simp))) <| Za (Zg (ZaB (L := y1_0) (a := 0) (by omega) (by show _ = _ * 1; omega) (by first | rfl | simp))) <| Za (Zg (Zcm #[vs 1 0 v5.length v5.length] (v5)  y1_0 N c1 1 2 rfl (by decide) (by decide))) <| oR <| oN Zb) rfl (by decide) (by rfl) rr ⟨rfl, ⟨(Zn (E := Zi) (α := R_iiii) _ v5 _), trivial⟩⟩
   ·
    exact Mach.ok_none

theorem Zno (o0 : Nat) (L1 : List Int) (n2 n3 : Nat) (O0 : Obj) (F0 : ∀ i, i < L1.length → Zat O0 (o0 + i * 1) [.k .u8 (L1.getD i 0)]) (v5 v6 v7 : Nat) (v8 : List R_iiii) (v9 N : Nat) : (ZF o0 L1 n2 n3 O0 N).Ok Try.prog Zj (.h1m2 v5 v6 v7 v8 v9 : Zac) (ZaY L1 n2 n3 N (.h1m2 v5 v6 v7 v8 v9 : Zac)) := by
 show (ZF o0 L1 n2 n3 O0 N).Ok Try.prog Zj (.h1m2 v5 v6 v7 v8 v9 : Zac) (ZaS L1 n2 n3 N v5 v6 v7 v8 v9)
 unfold ZaS
 refine Mach.ok_ite (fun g0 => ?_) (fun g0 => ?_)
 ·
  refine Mach.ok_ite (fun g1 => ?_) (fun g1 => ?_)
  ·
   refine Mach.ok_bind (fun z2 c2 => ?_)
   cases z2 with
   | r0 y2_0 =>
    refine Mach.ok_ite (fun g3 => ?_) (fun g3 => ?_)
    ·
     exact Mach.ok_fin (M := ZF o0 L1 n2 n3 O0 N) (cd := 1000000) (cm := 0) (r := (.r0 ((110 : Int)) : Zr)) (fu := 4000) (orc := (Zh [(0, true), (1, true), (2, true)] [] [] [] [(0, (ZfY (o0) (L1) (v5) (v6) (v7) O0 y2_0 0 2))])) (live := [0]) (u := Value.tuple #[vn, vi (110 : Int)]) (bl := [some (.ro O0)]) (ob := [((y2_0 != (0 : Int)), true), (dP (ZeZ #[vs 0 (o0 + v5) v6 v7] (o0) (L1) (v5) (v6) (v7) O0 y2_0 0 2), true), (dS O0, true), ((decide ((v9 : Int) < (513 : Int))), true), ((decide ((v9 : Int) < (IntKind.i64.wrap ((IntKind.i64.wrap ((256 : Int) * (L1.getD 4 0))) + (L1.getD 5 0))))), true)]) (fun gv => by kernel_rfl) (oD <| Za (Zg (ZfZ #[vs 0 (o0 + v5) v6 v7] (o0) (L1) (v5) (v6) (v7) O0 F0 y2_0 N c2 0 2 rfl (by decide) (by decide))) <| oR <| oY <| oY Zb) rfl (by decide) (by rfl) rr ⟨rfl, trivial⟩
    ·
     refine Mach.ok_ite (fun g4 => ?_) (fun g4 => ?_)
     ·
      exact Mach.ok_next (M := ZF o0 L1 n2 n3 O0 N) (cd := 1000000) (cm := 0) (y := (.h1m1 ((v8 ++ ([(⟨(0 : Int), (0 : Int), (0 : Int), (0 : Int)⟩ : R_iiii)] : List R_iiii))) ((v9 + 1)) : Zac)) (fu := 4000) (orc := (Zh [(0, true), (1, true), (2, false)] [(0, (((v9 + 1) : Nat) : Int))] [] [] [(0, (ZfY (o0) (L1) (v5) (v6) (v7) O0 y2_0 0 2)), (2, .ap 1 [vq, vq, vq, vq] (Zc Zi (v8 ++ ([(⟨(0 : Int), (0 : Int), (0 : Int), (0 : Int)⟩ : R_iiii)] : List R_iiii))))])) (live := [0, 4]) (tv := fun _ => [some (vs 0 o0 n2 n3), some (vi (IntKind.i64.wrap ((IntKind.i64.wrap ((256 : Int) * (L1.getD 4 0))) + (L1.getD 5 0)))), some (vn), some (vs 4 0 (v8.length + 1) (v8.length + 1)), some (vi (((v9 + 1) : Nat) : Int))]) (bl := [some (.ro O0), some (.cells (Zc Zi (v8 ++ ([(⟨(0 : Int), (0 : Int), (0 : Int), (0 : Int)⟩ : R_iiii)] : List R_iiii))) 44)]) (ob := [((IntKind.i64.wrap ((v9 : Int) + (1 : Int))) == (((v9 + 1) : Nat) : Int), true), (dP ((1 = 1 ∧ Z4 (1 * 4) (List.drop 0 [vq, vq, vq, vq]) = some [vq, vq, vq, vq] ∧ ZV Zbd [vq, vq, vq, vq] = true) ∧ 0 < 1 ∧ 1 ≤ 100000 ∧ v8.length < v8.length + 1 ∧ v8.length ≤ 100000 ∧ v8.length * 4 ≤ (List.length (Zc Zi v8)) ∧ List.take (v8.length * 4) (Zc Zi v8) ++ [vq, vq, vq, vq] = (Zc Zi (v8 ++ ([(⟨(0 : Int), (0 : Int), (0 : Int), (0 : Int)⟩ : R_iiii)] : List R_iiii)))), true), ((y2_0 != (0 : Int)), false), (dP (ZeZ #[vs 0 (o0 + v5) v6 v7] (o0) (L1) (v5) (v6) (v7) O0 y2_0 0 2), true), (dS O0, true), ((decide ((v9 : Int) < (513 : Int))), true), ((decide ((v9 : Int) < (IntKind.i64.wrap ((IntKind.i64.wrap ((256 : Int) * (L1.getD 4 0))) + (L1.getD 5 0))))), true)]) rfl (show 1 ∈ Zq (Zgt 1) from by decide +kernel) (fun gv => by kernel_rfl) (Za (beq_iff_eq.2 ((wrap_i64 (by have hi0 := ii ((IntKind.i64.wrap ((256 : Int) * (L1.getD 4 0))) + (L1.getD 5 0)); first | omega | (simp only [List.length_set, List.length_append, List.length_cons, List.length_nil, List.length_replicate, List.length_take, List.length_drop] at * <;> omega))).trans (by first | rfl | omega))) <| Za (Zg ⟨⟨rfl, ⟨rfl, rfl⟩⟩, by omega, by omega, ltA, by omega, (Zci (E := Zi) (L := v8) (M := ([(⟨(0 : Int), (0 : Int), (0 : Int), (0 : Int)⟩ : R_iiii)] : List R_iiii)) (n := v8.length) (show _ = _ * 4 from rfl) (by omega) (R := (v8 ++ ([(⟨(0 : Int), (0 : Int), (0 : Int), (0 : Int)⟩ : R_iiii)] : List R_iiii))) (by rw [List.take_of_length_le (by omega)]))⟩) <| oE <| Za (Zg (ZfZ #[vs 0 (o0 + v5) v6 v7] (o0) (L1) (v5) (v6) (v7) O0 F0 y2_0 N c2 0 2 rfl (by decide) (by decide))) <| oR <| oY <| oY Zb) rfl (by decide) (by rfl) (fun _ => ⟨rr, ⟨rr, ⟨rr, ⟨⟨Eq.trans (show (vs 1 0 (v8 ++ ([(⟨(0 : Int), (0 : Int), (0 : Int), (0 : Int)⟩ : R_iiii)] : List R_iiii)).length (v8 ++ ([(⟨(0 : Int), (0 : Int), (0 : Int), (0 : Int)⟩ : R_iiii)] : List R_iiii)).length : Value) = vs 1 0 (v8.length + 1) (v8.length + 1) from (Z2 rfl eqA eqA)) (by rfl), by rfl⟩, ⟨rr, trivial⟩⟩⟩⟩⟩) ⟨rfl, ⟨(Zn (E := Zi) (α := R_iiii) _ (v8 ++ ([(⟨(0 : Int), (0 : Int), (0 : Int), (0 : Int)⟩ : R_iiii)] : List R_iiii)) _), trivial⟩⟩
     ·
      exact Mach.ok_none
   | r1 y2_0 y2_1 y2_2 y2_3 y2_4 y2_5 =>
    refine Mach.ok_ite (fun g3 => ?_) (fun g3 => ?_)
    ·
     exact Mach.ok_next (M := ZF o0 L1 n2 n3 O0 N) (cd := 1000000) (cm := 0) (y := (.h1m2 (y2_3) (y2_4) (y2_5) ((v8 ++ ([(⟨(L1.getD v5 0), y2_0, y2_1, y2_2⟩ : R_iiii)] : List R_iiii))) ((v9 + 1)) : Zac)) (fu := 4000) (orc := (Zh [(0, true), (1, true)] [(0, (((v9 + 1) : Nat) : Int))] [] [] [(0, (ZkF (o0) (L1) (v5) (v6) (v7) O0 y2_0 y2_1 y2_2 y2_3 y2_4 y2_5 0 2)), (2, .ap 1 [vi (L1.getD v5 0), vi y2_0, vi y2_1, vi y2_2] (Zc Zi (v8 ++ ([(⟨(L1.getD v5 0), y2_0, y2_1, y2_2⟩ : R_iiii)] : List R_iiii))))])) (live := [0, 4]) (tv := fun _ => [some (vs 0 o0 n2 n3), some (vi (IntKind.i64.wrap ((IntKind.i64.wrap ((256 : Int) * (L1.getD 4 0))) + (L1.getD 5 0)))), some (vs 0 (o0 + y2_3) y2_4 y2_5), some (vs 4 0 (v8.length + 1) (v8.length + 1)), some (vi (((v9 + 1) : Nat) : Int))]) (bl := [some (.ro O0), some (.cells (Zc Zi (v8 ++ ([(⟨(L1.getD v5 0), y2_0, y2_1, y2_2⟩ : R_iiii)] : List R_iiii))) 44)]) (ob := [((IntKind.i64.wrap ((v9 : Int) + (1 : Int))) == (((v9 + 1) : Nat) : Int), true), (dP ((1 = 1 ∧ Z4 (1 * 4) (List.drop 0 [vi (L1.getD v5 0), vi y2_0, vi y2_1, vi y2_2]) = some [vi (L1.getD v5 0), vi y2_0, vi y2_1, vi y2_2] ∧ ZV Zbd [vi (L1.getD v5 0), vi y2_0, vi y2_1, vi y2_2] = true) ∧ 0 < 1 ∧ 1 ≤ 100000 ∧ v8.length < v8.length + 1 ∧ v8.length ≤ 100000 ∧ v8.length * 4 ≤ (List.length (Zc Zi v8)) ∧ List.take (v8.length * 4) (Zc Zi v8) ++ [vi (L1.getD v5 0), vi y2_0, vi y2_1, vi y2_2] = (Zc Zi (v8 ++ ([(⟨(L1.getD v5 0), y2_0, y2_1, y2_2⟩ : R_iiii)] : List R_iiii)))), true), (dP (Zht #[vs 0 (o0 + v5) v6 v7] (o0) (L1) (v5) (v6) (v7) O0 y2_0 y2_1 y2_2 y2_3 y2_4 y2_5 0 2), true), (dS O0, true), ((decide ((v9 : Int) < (513 : Int))), true), ((decide ((v9 : Int) < (IntKind.i64.wrap ((IntKind.i64.wrap ((256 : Int) * (L1.getD 4 0))) + (L1.getD 5 0))))), true)]) rfl (show 1 ∈ Zq (Zgt 1) from by decide +kernel) (fun gv => by kernel_rfl) (Za (beq_iff_eq.2 ((wrap_i64 (by have hi0 := ii ((IntKind.i64.wrap ((256 : Int) * (L1.getD 4 0))) + (L1.getD 5 0)); first | omega | (simp only [List.length_set, List.length_append, List.length_cons, List.length_nil, List.length_replicate, List.length_take, List.length_drop] at * <;> omega))).trans (by first | rfl | omega))) <| Za (Zg ⟨⟨rfl, ⟨rfl, rfl⟩⟩, by omega, by omega, ltA, by omega, (Zci (E := Zi) (L := v8) (M := ([(⟨(L1.getD v5 0), y2_0, y2_1, y2_2⟩ : R_iiii)] : List R_iiii)) (n := v8.length) (show _ = _ * 4 from rfl) (by omega) (R := (v8 ++ ([(⟨(L1.getD v5 0), y2_0, y2_1, y2_2⟩ : R_iiii)] : List R_iiii))) (by rw [List.take_of_length_le (by omega)]))⟩) <| Za (Zg (ZkG #[vs 0 (o0 + v5) v6 v7] (o0) (L1) (v5) (v6) (v7) O0 F0 y2_0 y2_1 y2_2 y2_3 y2_4 y2_5 N c2 0 2 rfl (by decide) (by decide))) <| oR <| oY <| oY Zb) rfl (by decide) (by rfl) (fun _ => ⟨rr, ⟨rr, ⟨rr, ⟨⟨Eq.trans (show (vs 1 0 (v8 ++ ([(⟨(L1.getD v5 0), y2_0, y2_1, y2_2⟩ : R_iiii)] : List R_iiii)).length (v8 ++ ([(⟨(L1.getD v5 0), y2_0, y2_1, y2_2⟩ : R_iiii)] : List R_iiii)).length : Value) = vs 1 0 (v8.length + 1) (v8.length + 1) from (Z2 rfl eqA eqA)) (by rfl), by rfl⟩, ⟨rr, trivial⟩⟩⟩⟩⟩) ⟨rfl, ⟨(Zn (E := Zi) (α := R_iiii) _ (v8 ++ ([(⟨(L1.getD v5 0), y2_0, y2_1, y2_2⟩ : R_iiii)] : List R_iiii)) _), trivial⟩⟩
    ·
     exact Mach.ok_none
  ·
   refine Mach.ok_bind (fun z2 c2 => ?_)
   cases z2 with
   | r0 y2_0 =>
    refine Mach.ok_ite (fun g3 => ?_) (fun g3 => ?_)
    ·
     exact Mach.ok_fin (M := ZF o0 L1 n2 n3 O0 N) (cd := 1000000) (cm := 0) (r := (.r0 ((110 : Int)) : Zr)) (fu := 4000) (orc := (Zh [(0, true), (1, false), (2, true)] [] [] [] [(0, (Zbb (v8)  y2_0 1 2))])) (live := [0]) (u := Value.tuple #[vn, vi (110 : Int)]) (bl := [some (.ro O0)]) (ob := [((y2_0 != (0 : Int)), true), (dP (ZaQ #[vs 1 0 v8.length v8.length] (v8)  y2_0 1 2), true), (dS (Zc Zi v8), true), ((decide ((v9 : Int) < (513 : Int))), false), ((decide ((v9 : Int) < (IntKind.i64.wrap ((IntKind.i64.wrap ((256 : Int) * (L1.getD 4 0))) + (L1.getD 5 0))))), true)]) (fun gv => by kernel_rfl) (oD <| Za (Zg (Zbc #[vs 1 0 v8.length v8.length] (v8)  y2_0 N c2 1 2 rfl (by decide) (by decide))) <| oR <| oN <| oY Zb) rfl (by decide) (by rfl) rr ⟨rfl, trivial⟩
    ·
     refine Mach.ok_ite (fun g4 => ?_) (fun g4 => ?_)
     ·
      refine Mach.ok_ite (fun g5 => ?_) (fun g5 => ?_)
      ·
       exact Mach.ok_fin (M := ZF o0 L1 n2 n3 O0 N) (cd := 1000000) (cm := 0) (r := (.r0 ((110 : Int)) : Zr)) (fu := 4000) (orc := (Zh [(0, true), (1, false), (2, false), (3, true)] [] [] [] [(0, (Zbb (v8)  y2_0 1 2)), (1, .bs (L1.take n2))])) (live := [0]) (u := Value.tuple #[vn, vi (110 : Int)]) (bl := [some (.ro O0)]) (ob := [((!((⟨#[]⟩ : ByteArray).toList == (Z5 (L1.take n2)).toList)), true), (dP (roS O0 o0 n2 = some (List.map (Value.int .u8) (L1.take n2))), true), ((y2_0 != (0 : Int)), false), (dP (ZaQ #[vs 1 0 v8.length v8.length] (v8)  y2_0 1 2), true), (dS (Zc Zi v8), true), ((decide ((v9 : Int) < (513 : Int))), false), ((decide ((v9 : Int) < (IntKind.i64.wrap ((IntKind.i64.wrap ((256 : Int) * (L1.getD 4 0))) + (L1.getD 5 0))))), true)]) (fun gv => by kernel_rfl) (Za (ZgM (x := ([] : List Int)) (y := (L1.take n2)) (by assumption)) <| Za (Zg (ZcZ (L := L1) (b := o0) (a := 0) F0 (by omega) (show _ = _ + _ * 1 from by omega) (by first | rfl | simp))) <| oE <| Za (Zg (Zbc #[vs 1 0 v8.length v8.length] (v8)  y2_0 N c2 1 2 rfl (by decide) (by decide))) <| oR <| oN <| oY Zb) rfl (by decide) (by rfl) rr ⟨rfl, trivial⟩
      ·
       exact Mach.ok_fin (M := ZF o0 L1 n2 n3 O0 N) (cd := 1000000) (cm := 0) (r := (.r1 (v8) : Zr)) (fu := 4000) (orc := (Zh [(0, true), (1, false), (2, false), (3, false)] [] [] [] [(0, (Zbb (v8)  y2_0 1 2)), (1, .bs (L1.take n2))])) (live := [0, 1]) (u := Value.tuple #[vs 1 0 v8.length v8.length, vq]) (bl := [some (.ro O0), some (.cells (Zc Zi v8) 44)]) (ob := [((!((⟨#[]⟩ : ByteArray).toList == (Z5 (L1.take n2)).toList)), false), (dP (roS O0 o0 n2 = some (List.map (Value.int .u8) (L1.take n2))), true), ((y2_0 != (0 : Int)), false), (dP (ZaQ #[vs 1 0 v8.length v8.length] (v8)  y2_0 1 2), true), (dS (Zc Zi v8), true), ((decide ((v9 : Int) < (513 : Int))), false), ((decide ((v9 : Int) < (IntKind.i64.wrap ((IntKind.i64.wrap ((256 : Int) * (L1.getD 4 0))) + (L1.getD 5 0))))), true)]) (fun gv => by kernel_rfl) (Za (ZgN (x := ([] : List Int)) (y := (L1.take n2)) (by first | assumption | exact Decidable.not_not.1 (by assumption))) <| Za (Zg (ZcZ (L := L1) (b := o0) (a := 0) F0 (by omega) (show _ = _ + _ * 1 from by omega) (by first | rfl | simp))) <| oE <| Za (Zg (Zbc #[vs 1 0 v8.length v8.length] (v8)  y2_0 N c2 1 2 rfl (by decide) (by decide))) <| oR <| oN <| oY Zb) rfl (by decide) (by rfl) rr ⟨rfl, ⟨(Zn (E := Zi) (α := R_iiii) _ v8 _), trivial⟩⟩
     ·
      exact Mach.ok_none
   | r1 y2_0 =>
    refine Mach.ok_ite (fun g3 => ?_) (fun g3 => ?_)
    ·
     refine Mach.ok_ite (fun g4 => ?_) (fun g4 => ?_)
     ·
      exact Mach.ok_fin (M := ZF o0 L1 n2 n3 O0 N) (cd := 1000000) (cm := 0) (r := (.r0 ((110 : Int)) : Zr)) (fu := 4000) (orc := (Zh [(0, true), (1, false), (3, true)] [] [] [] [(0, (Zcl (v8)  y2_0 1 2)), (1, .bs y2_0), (2, .bs (L1.take n2))])) (live := [0]) (u := Value.tuple #[vn, vi (110 : Int)]) (bl := [some (.ro O0)]) (ob := [((!((Z5 y2_0).toList == (Z5 (L1.take n2)).toList)), true), (dP (roS O0 o0 n2 = some (List.map (Value.int .u8) (L1.take n2))), true), (dP (Z4 y2_0.length (List.drop 0 (Zc (Ze .u8) y2_0)) = some (List.map (Value.int .u8) y2_0)), true), (dP (ZbM #[vs 1 0 v8.length v8.length] (v8)  y2_0 1 2), true), (dS (Zc Zi v8), true), ((decide ((v9 : Int) < (513 : Int))), false), ((decide ((v9 : Int) < (IntKind.i64.wrap ((IntKind.i64.wrap ((256 : Int) * (L1.getD 4 0))) + (L1.getD 5 0))))), true)]) (fun gv => by kernel_rfl) (Za (ZgM (x := y2_0) (y := (L1.take n2)) (by assumption)) <| Za (Zg (ZcZ (L := L1) (b := o0) (a := 0) F0 (by omega) (show _ = _ + _ * 1 from by omega) (by first | rfl | simp))) <| Za (Zg (ZaB (L := y2_0) (a := 0) (by omega) (by show _ = _ * 1; omega) (by first | rfl | simp))) <| Za (Zg (Zcm #[vs 1 0 v8.length v8.length] (v8)  y2_0 N c2 1 2 rfl (by decide) (by decide))) <| oR <| oN <| oY Zb) rfl (by decide) (by rfl) rr ⟨rfl, trivial⟩
     ·
      exact Mach.ok_fin (M := ZF o0 L1 n2 n3 O0 N) (cd := 1000000) (cm := 0) (r := (.r1 (v8) : Zr)) (fu := 4000) (orc := (Zh [(0, true), (1, false), (3, false)] [] [] [] [(0, (Zcl (v8)  y2_0 1 2)), (1, .bs y2_0), (2, .bs (L1.take n2))])) (live := [0, 1]) (u := Value.tuple #[vs 1 0 v8.length v8.length, vq]) (bl := [some (.ro O0), some (.cells (Zc Zi v8) 44)]) (ob := [((!((Z5 y2_0).toList == (Z5 (L1.take n2)).toList)), false), (dP (roS O0 o0 n2 = some (List.map (Value.int .u8) (L1.take n2))), true), (dP (Z4 y2_0.length (List.drop 0 (Zc (Ze .u8) y2_0)) = some (List.map (Value.int .u8) y2_0)), true), (dP (ZbM #[vs 1 0 v8.length v8.length] (v8)  y2_0 1 2), true), (dS (Zc Zi v8), true), ((decide ((v9 : Int) < (513 : Int))), false), ((decide ((v9 : Int) < (IntKind.i64.wrap ((IntKind.i64.wrap ((256 : Int) * (L1.getD 4 0))) + (L1.getD 5 0))))), true)]) (fun gv => by kernel_rfl) (Za (ZgN (x := y2_0) (y := (L1.take n2)) (by first | assumption | exact Decidable.not_not.1 (by assumption))) <| Za (Zg (ZcZ (L := L1) (b := o0) (a := 0) F0 (by omega) (show _ = _ + _ * 1 from by omega) (by first | rfl | simp))) <| Za (Zg (ZaB (L := y2_0) (a := 0) (by omega) (by show _ = _ * 1; omega) (by first | rfl | simp))) <| Za (Zg (Zcm #[vs 1 0 v8.length v8.length] (v8)  y2_0 N c2 1 2 rfl (by decide) (by decide))) <| oR <| oN <| oY Zb) rfl (by decide) (by rfl) rr ⟨rfl, ⟨(Zn (E := Zi) (α := R_iiii) _ v8 _), trivial⟩⟩
    ·
     exact Mach.ok_none
 ·
  refine Mach.ok_bind (fun z1 c1 => ?_)
  cases z1 with
  | r0 y1_0 =>
   refine Mach.ok_ite (fun g2 => ?_) (fun g2 => ?_)
   ·
    exact Mach.ok_fin (M := ZF o0 L1 n2 n3 O0 N) (cd := 1000000) (cm := 0) (r := (.r0 ((110 : Int)) : Zr)) (fu := 4000) (orc := (Zh [(0, false), (1, true)] [] [] [] [(0, (Zbb (v8)  y1_0 1 2))])) (live := [0]) (u := Value.tuple #[vn, vi (110 : Int)]) (bl := [some (.ro O0)]) (ob := [((y1_0 != (0 : Int)), true), (dP (ZaQ #[vs 1 0 v8.length v8.length] (v8)  y1_0 1 2), true), (dS (Zc Zi v8), true), ((decide ((v9 : Int) < (IntKind.i64.wrap ((IntKind.i64.wrap ((256 : Int) * (L1.getD 4 0))) + (L1.getD 5 0))))), false)]) (fun gv => by kernel_rfl) (oD <| Za (Zg (Zbc #[vs 1 0 v8.length v8.length] (v8)  y1_0 N c1 1 2 rfl (by decide) (by decide))) <| oR <| oN Zb) rfl (by decide) (by rfl) rr ⟨rfl, trivial⟩
   ·
    refine Mach.ok_ite (fun g3 => ?_) (fun g3 => ?_)
    ·
     refine Mach.ok_ite (fun g4 => ?_) (fun g4 => ?_)
     ·
      exact Mach.ok_fin (M := ZF o0 L1 n2 n3 O0 N) (cd := 1000000) (cm := 0) (r := (.r0 ((110 : Int)) : Zr)) (fu := 4000) (orc := (Zh [(0, false), (1, false), (2, true)] [] [] [] [(0, (Zbb (v8)  y1_0 1 2)), (1, .bs (L1.take n2))])) (live := [0]) (u := Value.tuple #[vn, vi (110 : Int)]) (bl := [some (.ro O0)]) (ob := [((!((⟨#[]⟩ : ByteArray).toList == (Z5 (L1.take n2)).toList)), true), (dP (roS O0 o0 n2 = some (List.map (Value.int .u8) (L1.take n2))), true), ((y1_0 != (0 : Int)), false), (dP (ZaQ #[vs 1 0 v8.length v8.length] (v8)  y1_0 1 2), true), (dS (Zc Zi v8), true), ((decide ((v9 : Int) < (IntKind.i64.wrap ((IntKind.i64.wrap ((256 : Int) * (L1.getD 4 0))) + (L1.getD 5 0))))), false)]) (fun gv => by kernel_rfl) (Za (ZgM (x := ([] : List Int)) (y := (L1.take n2)) (by assumption)) <| Za (Zg (ZcZ (L := L1) (b := o0) (a := 0) F0 (by omega) (show _ = _ + _ * 1 from by omega) (by first | rfl | simp))) <| oE <| Za (Zg (Zbc #[vs 1 0 v8.length v8.length] (v8)  y1_0 N c1 1 2 rfl (by decide) (by decide))) <| oR <| oN Zb) rfl (by decide) (by rfl) rr ⟨rfl, trivial⟩
     ·
      exact Mach.ok_fin (M := ZF o0 L1 n2 n3 O0 N) (cd := 1000000) (cm := 0) (r := (.r1 (v8) : Zr)) (fu := 4000) (orc := (Zh [(0, false), (1, false), (2, false)] [] [] [] [(0, (Zbb (v8)  y1_0 1 2)), (1, .bs (L1.take n2))])) (live := [0, 1]) (u := Value.tuple #[vs 1 0 v8.length v8.length, vq]) (bl := [some (.ro O0), some (.cells (Zc Zi v8) 44)]) (ob := [((!((⟨#[]⟩ : ByteArray).toList == (Z5 (L1.take n2)).toList)), false), (dP (roS O0 o0 n2 = some (List.map (Value.int .u8) (L1.take n2))), true), ((y1_0 != (0 : Int)), false), (dP (ZaQ #[vs 1 0 v8.length v8.length] (v8)  y1_0 1 2), true), (dS (Zc Zi v8), true), ((decide ((v9 : Int) < (IntKind.i64.wrap ((IntKind.i64.wrap ((256 : Int) * (L1.getD 4 0))) + (L1.getD 5 0))))), false)]) (fun gv => by kernel_rfl) (Za (ZgN (x := ([] : List Int)) (y := (L1.take n2)) (by first | assumption | exact Decidable.not_not.1 (by assumption))) <| Za (Zg (ZcZ (L := L1) (b := o0) (a := 0) F0 (by omega) (show _ = _ + _ * 1 from by omega) (by first | rfl | simp))) <| oE <| Za (Zg (Zbc #[vs 1 0 v8.length v8.length] (v8)  y1_0 N c1 1 2 rfl (by decide) (by decide))) <| oR <| oN Zb) rfl (by decide) (by rfl) rr ⟨rfl, ⟨(Zn (E := Zi) (α := R_iiii) _ v8 _), trivial⟩⟩
    ·
     exact Mach.ok_none
  | r1 y1_0 =>
   refine Mach.ok_ite (fun g2 => ?_) (fun g2 => ?_)
   ·
    refine Mach.ok_ite (fun g3 => ?_) (fun g3 => ?_)
    ·
     exact Mach.ok_fin (M := ZF o0 L1 n2 n3 O0 N) (cd := 1000000) (cm := 0) (r := (.r0 ((110 : Int)) : Zr)) (fu := 4000) (orc := (Zh [(0, false), (2, true)] [] [] [] [(0, (Zcl (v8)  y1_0 1 2)), (1, .bs y1_0), (2, .bs (L1.take n2))])) (live := [0]) (u := Value.tuple #[vn, vi (110 : Int)]) (bl := [some (.ro O0)]) (ob := [((!((Z5 y1_0).toList == (Z5 (L1.take n2)).toList)), true), (dP (roS O0 o0 n2 = some (List.map (Value.int .u8) (L1.take n2))), true), (dP (Z4 y1_0.length (List.drop 0 (Zc (Ze .u8) y1_0)) = some (List.map (Value.int .u8) y1_0)), true), (dP (ZbM #[vs 1 0 v8.length v8.length] (v8)  y1_0 1 2), true), (dS (Zc Zi v8), true), ((decide ((v9 : Int) < (IntKind.i64.wrap ((IntKind.i64.wrap ((256 : Int) * (L1.getD 4 0))) + (L1.getD 5 0))))), false)]) (fun gv => by kernel_rfl) (Za (ZgM (x := y1_0) (y := (L1.take n2)) (by assumption)) <| Za (Zg (ZcZ (L := L1) (b := o0) (a := 0) F0 (by omega) (show _ = _ + _ * 1 from by omega) (by first | rfl | simp))) <| Za (Zg (ZaB (L := y1_0) (a := 0) (by omega) (by show _ = _ * 1; omega) (by first | rfl | simp))) <| Za (Zg (Zcm #[vs 1 0 v8.length v8.length] (v8)  y1_0 N c1 1 2 rfl (by decide) (by decide))) <| oR <| oN Zb) rfl (by decide) (by rfl) rr ⟨rfl, trivial⟩
    ·
     exact Mach.ok_fin (M := ZF o0 L1 n2 n3 O0 N) (cd := 1000000) (cm := 0) (r := (.r1 (v8) : Zr)) (fu := 4000) (orc := (Zh [(0, false), (2, false)] [] [] [] [(0, (Zcl (v8)  y1_0 1 2)), (1, .bs y1_0), (2, .bs (L1.take n2))])) (live := [0, 1]) (u := Value.tuple #[vs 1 0 v8.length v8.length, vq]) (bl := [some (.ro O0), some (.cells (Zc Zi v8) 44)]) (ob := [((!((Z5 y1_0).toList == (Z5 (L1.take n2)).toList)), false), (dP (roS O0 o0 n2 = some (List.map (Value.int .u8) (L1.take n2))), true), (dP (Z4 y1_0.length (List.drop 0 (Zc (Ze .u8) y1_0)) = some (List.map (Value.int .u8) y1_0)), true), (dP (ZbM #[vs 1 0 v8.length v8.length] (v8)  y1_0 1 2), true), (dS (Zc Zi v8), true), ((decide ((v9 : Int) < (IntKind.i64.wrap ((IntKind.i64.wrap ((256 : Int) * (L1.getD 4 0))) + (L1.getD 5 0))))), false)]) (fun gv => by kernel_rfl) (Za (ZgN (x := y1_0) (y := (L1.take n2)) (by first | assumption | exact Decidable.not_not.1 (by assumption))) <| Za (Zg (ZcZ (L := L1) (b := o0) (a := 0) F0 (by omega) (show _ = _ + _ * 1 from by omega) (by first | rfl | simp))) <| Za (Zg (ZaB (L := y1_0) (a := 0) (by omega) (by show _ = _ * 1; omega) (by first | rfl | simp))) <| Za (Zg (Zcm #[vs 1 0 v8.length v8.length] (v8)  y1_0 N c1 1 2 rfl (by decide) (by decide))) <| oR <| oN Zb) rfl (by decide) (by rfl) rr ⟨rfl, ⟨(Zn (E := Zi) (α := R_iiii) _ v8 _), trivial⟩⟩
   ·
    exact Mach.ok_none

theorem ZpK (o0 : Nat) (L1 : List Int) (n2 n3 : Nat) (O0 : Obj) (F0 : ∀ i, i < L1.length → Zat O0 (o0 + i * 1) [.k .u8 (L1.getD i 0)]) (N : Nat) : (ZF o0 L1 n2 n3 O0 N).Enter Try.prog Zj #[vs 0 o0 n2 n3] (ZeT L1 n2 n3 N) := by
 unfold ZeT
 refine Mach.en_ite (fun g0 => ?_) (fun g0 => ?_)
 ·
  exact Mach.en_fin (M := ZF o0 L1 n2 n3 O0 N) (cd := 1000000) (cm := 0) (r := (.r0 ((6 : Int)) : Zr)) (fu := 4000) (orc := (Zh [(0, true)] [] [] [] [])) (live := [0]) (u := Value.tuple #[vn, vi (6 : Int)]) (bl := [some (.ro O0)]) (ob := [((decide ((n2 : Int) < (7 : Int))), true)]) (by kernel_rfl) (oY Zb) rfl (by decide) (by rfl) rr ⟨rfl, trivial⟩
 ·
  refine Mach.en_ite (fun g1 => ?_) (fun g1 => ?_)
  ·
   refine Mach.en_ite (fun g2 => ?_) (fun g2 => ?_)
   ·
    refine Mach.en_ite (fun g3 => ?_) (fun g3 => ?_)
    ·
     refine Mach.en_ite (fun g4 => ?_) (fun g4 => ?_)
     ·
      refine Mach.en_ite (fun g5 => ?_) (fun g5 => ?_)
      ·
       refine Mach.en_ite (fun g6 => ?_) (fun g6 => ?_)
       ·
        refine Mach.en_ite (fun g7 => ?_) (fun g7 => ?_)
        ·
         exact Mach.en_head (bK := Zdq 1) (M := ZF o0 L1 n2 n3 O0 N) (cd := 1000000) (cm := 0) (y := (.h1m0 : Zac)) (fu := 4000) (orc := (Zh [(0, false)] [(0, (L1.getD 4 0)), (2, (L1.getD 5 0))] [(0, 4), (1, 5)] [(0, [.k .u8 (L1.getD 4 0)]), (1, [.k .u8 (L1.getD 5 0)])] [(0, .sl 6 n2)])) (live := [0]) (tv := [some (vs 0 o0 n2 n3), some (vi (IntKind.i64.wrap ((IntKind.i64.wrap ((256 : Int) * (L1.getD 4 0))) + (L1.getD 5 0)))), some (Value.slice (some ⟨0, (o0 + (6 * 1)), none⟩) (n2 - 6) (n3 - 6)), some (vn), some (vq)]) (bl := [some (.ro O0)]) (ob := [(dP (6 ≤ n2 ∧ n2 ≤ n3), true), (dS n2, true), ((6 : Int) == Int.ofNat 6, true), ((IntKind.i64.wrap (L1.getD 5 0)) == (L1.getD 5 0), true), (Zan (Za1 O0 (o0 + (5 * 1)) 1) [.k .u8 (L1.getD 5 0)], true), (Nat.blt 5 n2, true), ((5 : Int) == Int.ofNat 5, true), ((IntKind.i64.wrap (L1.getD 4 0)) == (L1.getD 4 0), true), (Zan (Za1 O0 (o0 + (4 * 1)) 1) [.k .u8 (L1.getD 4 0)], true), (Nat.blt 4 n2, true), ((4 : Int) == Int.ofNat 4, true), ((decide ((n2 : Int) < (7 : Int))), false)]) rfl rfl (show Zq (Zdq 1).2 = [] from rfl) (by kernel_rfl) (Za (Zg ⟨ltA, ltA⟩) <| oR <| oI <| Za (beq_iff_eq.2 (wrap_i64 ltA)) <| Za ((show (o0 + 5 * 1 + 0) = (o0 + (5 * 1)) from by omega) ▸ F0 5 (by omega) 0 1 (show 0 + 1 ≤ 1 from by decide)) <| oB <| oI <| Za (beq_iff_eq.2 (wrap_i64 ltA)) <| Za ((show (o0 + 4 * 1 + 0) = (o0 + (4 * 1)) from by omega) ▸ F0 4 (by omega) 0 1 (show 0 + 1 ≤ 1 from by decide)) <| oB <| oI <| oN Zb) rfl (by decide) (by rfl) ⟨rr, ⟨rr, ⟨⟨Eq.trans (show (vs 0 (o0 + 6) (n2 - 6) (n3 - 6) : Value) = Value.slice (some ⟨0, (o0 + (6 * 1)), none⟩) (n2 - 6) (n3 - 6) from (Z2 eqA rfl rfl)) (by rfl), by rfl⟩, ⟨rr, ⟨rr, trivial⟩⟩⟩⟩⟩ ⟨rfl, trivial⟩
        ·
         exact Mach.en_none
       ·
        exact Mach.en_none
      ·
       exact Mach.en_none
     ·
      exact Mach.en_none
    ·
     exact Mach.en_none
   ·
    exact Mach.en_none
  ·
   exact Mach.en_none

theorem Zih (o0 : Nat) (L1 : List Int) (n2 n3 : Nat) (O0 : Obj) (F0 : ∀ i, i < L1.length → Zat O0 (o0 + i * 1) [.k .u8 (L1.getD i 0)]) (N : Nat) (r : Zr) (h : Zb3 L1 n2 n3 N = some r) : LSpec Try.prog 10 #[vs 0 o0 n2 n3] [.ro O0] (ZlW o0 L1 n2 n3 O0 r) (ZkH o0 L1 n2 n3 O0 r) :=
 Mach.spec ZaR (ZF o0 L1 n2 n3 O0 N) Try.func10 (by kernel_rfl) (by kernel_rfl) (fun x => by cases x <;> exact Zal _ rfl) (fun r => by cases r <;> exact Zal _ rfl) (fun x => by
  cases x with
  | h1m0 => exact fun _ => (show ¬ (1 ∈ Zq (Zdq 1).2) from by decide +kernel)
  | h1m1 _ _ => exact fun _ => (show ¬ (1 ∈ Zq (Zdq 1).2) from by decide +kernel)
  | h1m2 _ _ _ _ _ => exact fun _ => (show ¬ (1 ∈ Zq (Zdq 1).2) from by decide +kernel)
  ) (fun x => (show (ZF o0 L1 n2 n3 O0 N).Ok Try.prog Zj x (ZaY L1 n2 n3 N x) from by
  cases x with
  | h1m0 => exact Znm o0 L1 n2 n3 O0 F0 N
  | h1m1 v5 v6 => exact Znn o0 L1 n2 n3 O0 F0 v5 v6 N
  | h1m2 v5 v6 v7 v8 v9 => exact Zno o0 L1 n2 n3 O0 F0 v5 v6 v7 v8 v9 N
  )) (ZpK o0 L1 n2 n3 O0 F0 N) (n := N) h

noncomputable def Zhu (o0 : Nat) (L1 : List Int) (n2 n3 : Nat) (O0 : Obj) (w2 : Int) (k0 n : Nat) : Za4 := .call [(k0, .ro O0)] (Value.tuple #[vn, vi w2]) [] 0
def Zga (A : Array Value) (o0 : Nat) (L1 : List Int) (n2 n3 : Nat) (O0 : Obj) (w2 : Int) (k0 n : Nat) : Prop := ZB Try.prog 10 A [(k0, .ro O0)] (Value.tuple #[vn, vi w2]) [] n 0

theorem Zhv (A : Array Value) (o0 : Nat) (L1 : List Int) (n2 n3 : Nat) (O0 : Obj) (F0 : ∀ i, i < L1.length → Zat O0 (o0 + i * 1) [.k .u8 (L1.getD i 0)]) (w2 : Int) (N : Nat) (h : Zb3 L1 n2 n3 N = some (.r0 w2)) (k0 n : Nat) (hA : A = #[vs k0 o0 n2 n3]) (hnd : ([k0] : List Nat).Nodup) (hlt : ∀ k ∈ ([k0] : List Nat), k < n) : Zga A o0 L1 n2 n3 O0 w2 k0 n :=
 ZQ hA (LSpec.callL (show LSpec Try.prog 10 #[vs 0 o0 n2 n3] [.ro O0] (Value.tuple #[vn, vi w2]) [some (.ro O0)] from Zih o0 L1 n2 n3 O0 F0 N _ h) [k0] n [] rfl hnd hlt (show 1 ≤ 1 from by decide) (show ∀ j ∈ ([] : List Nat), j < 1 from by decide) (by rfl) ⟨rfl, trivial⟩ (by rfl) ⟨rfl, trivial⟩ ⟨.inr rfl, trivial⟩ rfl rfl rfl (Zf (ZaJ rfl rfl) rfl) rfl)

noncomputable def Zhw (o0 : Nat) (L1 : List Int) (n2 n3 : Nat) (O0 : Obj) (w2 : List R_iiii) (k0 n : Nat) : Za4 := .call [(k0, .ro O0)] (Value.tuple #[vs n 0 w2.length w2.length, vq]) [(n, some (.cells (Zc Zi w2) 44))] 1
def Zgb (A : Array Value) (o0 : Nat) (L1 : List Int) (n2 n3 : Nat) (O0 : Obj) (w2 : List R_iiii) (k0 n : Nat) : Prop := ZB Try.prog 10 A [(k0, .ro O0)] (Value.tuple #[vs n 0 w2.length w2.length, vq]) [(n, some (.cells (Zc Zi w2) 44))] n 1

theorem Zhx (A : Array Value) (o0 : Nat) (L1 : List Int) (n2 n3 : Nat) (O0 : Obj) (F0 : ∀ i, i < L1.length → Zat O0 (o0 + i * 1) [.k .u8 (L1.getD i 0)]) (w2 : List R_iiii) (N : Nat) (h : Zb3 L1 n2 n3 N = some (.r1 w2)) (k0 n : Nat) (hA : A = #[vs k0 o0 n2 n3]) (hnd : ([k0] : List Nat).Nodup) (hlt : ∀ k ∈ ([k0] : List Nat), k < n) : Zgb A o0 L1 n2 n3 O0 w2 k0 n :=
 ZQ hA (LSpec.callL (show LSpec Try.prog 10 #[vs 0 o0 n2 n3] [.ro O0] (Value.tuple #[vs 1 0 w2.length w2.length, vq]) [some (.ro O0), some (.cells (Zc Zi w2) 44)] from Zih o0 L1 n2 n3 O0 F0 N _ h) [k0] n [1] rfl hnd hlt (show 1 ≤ 2 from by decide) (show ∀ j ∈ ([1] : List Nat), j < 2 from by decide) (by rfl) ⟨rfl, trivial⟩ (by rfl) ⟨rfl, ⟨(ZaE _ _ _), trivial⟩⟩ ⟨.inr rfl, ⟨(by decide), trivial⟩⟩ rfl rfl rfl (Zf (ZaJ rfl rfl) rfl) (Zf (ZaJ rfl (ZeN (ZbJ _ _ _))) rfl))

noncomputable def Zoy  : ZcW → Value
 | .r0 => vT
noncomputable def Znp  : ZcW → List (Option AObj)
 | .r0 => []

def ZsQ : ZbT → Nat
 | .h1m0 => 1
noncomputable def Zt2  : ZbT → List (Nat × Value)
 | .h1m0 => [(0, vn), (1, vn), (5, vq)]
noncomputable def Zt3  : ZbT → List (Option AObj)
 | .h1m0 => []

noncomputable def Zh5 : Nat → Code × List Za2
 | 1 => Zbz [1, 1, 0, 1, 3] (Zbh Try.f11) []
 | _ => (.skip, [])
def ZsR : Nat → Bool
 | 1 => true
 | _ => true
noncomputable def ZeE  (N : Nat) : Mach := ⟨Try.f11, [], ZbT, ZcW, ZfS  N, ZsQ, Zh5, ZsR, Zt2 , Zt3 , Zoy , Znp ⟩

theorem ZoQ  (N : Nat) : (ZeE  N).Ok Try.prog Zj (.h1m0 : ZbT) (ZfS  N (.h1m0 : ZbT)) := by
 show (ZeE  N).Ok Try.prog Zj (.h1m0 : ZbT) (ZgK  N)
 unfold ZgK
 exact Mach.ok_fin (M := ZeE  N) (cd := 1000000) (cm := 0) (r := (.r0 : ZcW)) (fu := 4000) (orc := (Zh [] [] [] [] [])) (live := []) (u := vT) (bl := []) (ob := []) (fun gv => by kernel_rfl) Zb rfl (by decide) (by rfl) rr trivial

theorem Zr8  (N : Nat) : (ZeE  N).Enter Try.prog Zj #[vn, vn] (ZgL  N) := by
 unfold ZgL
 exact Mach.en_head (bK := Zh5 1) (M := ZeE  N) (cd := 1000000) (cm := 0) (y := (.h1m0 : ZbT)) (fu := 4000) (orc := (Zh [] [] [] [] [])) (live := []) (tv := [some (vn), some (vn), some (vq)]) (bl := []) (ob := []) rfl rfl (show Zq (Zh5 1).2 = [] from rfl) (by kernel_rfl) Zb rfl (by decide) (by rfl) ⟨rr, ⟨rr, ⟨rr, trivial⟩⟩⟩ trivial

theorem ZpL  (N : Nat) (r : ZcW) (h : ZdR  N = some r) : LSpec Try.prog 11 #[vn, vn] [] (Zoy  r) (Znp  r) :=
 Mach.spec ZaR (ZeE  N) Try.func11 (by kernel_rfl) (by kernel_rfl) (fun x => by cases x <;> exact Zal _ rfl) (fun r => by cases r <;> exact Zal _ rfl) (fun x => by
  cases x with
  | h1m0 => exact fun _ => (show ¬ (1 ∈ Zq (Zh5 1).2) from by decide +kernel)
  ) (fun x => (show (ZeE  N).Ok Try.prog Zj x (ZfS  N x) from by
  cases x with
  | h1m0 => exact ZoQ  N
  )) (Zr8  N) (n := N) h

noncomputable def Zdg  (n : Nat) : Za4 := .call [] (vT) [] 0
def ZcF (A : Array Value)  (n : Nat) : Prop := ZB Try.prog 11 A [] (vT) [] n 0

theorem Zdh (A : Array Value)  (N : Nat) (h : ZdR  N = some (.r0)) (n : Nat) (hA : A = #[vn, vn]) (hnd : ([] : List Nat).Nodup) (hlt : ∀ k ∈ ([] : List Nat), k < n) : ZcF A   n :=
 ZQ hA (LSpec.callL (show LSpec Try.prog 11 #[vn, vn] [] (vT) [] from ZpL  N _ h) [] n [] rfl hnd hlt (show 0 ≤ 0 from by decide) (show ∀ j ∈ ([] : List Nat), j < 0 from by decide) (by rfl) trivial (by rfl) trivial trivial rfl rfl rfl rfl rfl)

noncomputable def ZlX (L0 L1 : List R_iiii) : Zbm → Value
 | .r0 w2 => Value.bool w2
noncomputable def ZkJ (L0 L1 : List R_iiii) : Zbm → List (Option AObj)
 | .r0 w2 => [some (.cells (Zc Zi L0) 44), some (.cells (Zc Zi L1) 44)]

def Zqp : ZaZ → Nat
 | .h1m0 v2 => 1
noncomputable def Zr9 (L0 L1 : List R_iiii) : ZaZ → List (Nat × Value)
 | .h1m0 v2 => [(0, vs 0 0 L0.length L0.length), (1, vs 1 0 L1.length L1.length), (5, vi (v2 : Int))]
noncomputable def ZrA (L0 L1 : List R_iiii) : ZaZ → List (Option AObj)
 | .h1m0 v2 => [some (.cells (Zc Zi L0) 44), some (.cells (Zc Zi L1) 44)]

noncomputable def Zet : Nat → Code × List Za2
 | 1 => Zbz [1, 1, 0, 1, 3] (Zbh Try.f11) []
 | _ => (.skip, [])
def ZkK : Nat → Bool
 | 1 => true
 | _ => true
noncomputable def ZrB (i : Nat) : List Za2 := match ZkK i with | true => .rnd i :: (Zet i).2 | false => (Zet i).2

noncomputable def Zco (L0 L1 : List R_iiii) (N : Nat) : Mach := ⟨Try.f11, [.cells (Zc Zi L0) 44, .cells (Zc Zi L1) 44], ZaZ, Zbm, Zei L0 L1 N, Zqp, Zet, ZkK, Zr9 L0 L1, ZrA L0 L1, ZlX L0 L1, ZkJ L0 L1⟩

theorem Znq (L0 L1 : List R_iiii) (v2 N : Nat) : (Zco L0 L1 N).Ok Try.prog Zj (.h1m0 v2 : ZaZ) (Zei L0 L1 N (.h1m0 v2 : ZaZ)) := by
 show (Zco L0 L1 N).Ok Try.prog Zj (.h1m0 v2 : ZaZ) (Zc0 L0 L1 N v2)
 unfold Zc0
 refine Mach.ok_ite (fun g0 => ?_) (fun g0 => ?_)
 ·
  refine Mach.ok_ite (fun g1 => ?_) (fun g1 => ?_)
  ·
   refine Mach.ok_ite (fun g2 => ?_) (fun g2 => ?_)
   ·
    exact Mach.ok_fin (M := Zco L0 L1 N) (cd := 1000000) (cm := 0) (r := (.r0 (false) : Zbm)) (fu := 4000) (orc := (Zh [(0, true), (1, true)] [] [(0, v2), (1, v2)] [(0, [.i (L0.getD v2 R_iiii.z).a0, .i (L0.getD v2 R_iiii.z).a1, .i (L0.getD v2 R_iiii.z).a2, .i (L0.getD v2 R_iiii.z).a3]), (1, [.i (L1.getD v2 R_iiii.z).a0, .i (L1.getD v2 R_iiii.z).a1, .i (L1.getD v2 R_iiii.z).a2, .i (L1.getD v2 R_iiii.z).a3])] [])) (live := [0, 1]) (u := vf) (bl := [some (.cells (Zc Zi L0) 44), some (.cells (Zc Zi L1) 44)]) (ob := [((!(((L0.getD v2 R_iiii.z).a0 == (L1.getD v2 R_iiii.z).a0) && (((L0.getD v2 R_iiii.z).a1 == (L1.getD v2 R_iiii.z).a1) && (((L0.getD v2 R_iiii.z).a2 == (L1.getD v2 R_iiii.z).a2) && (((L0.getD v2 R_iiii.z).a3 == (L1.getD v2 R_iiii.z).a3) && true))))), true), (Zan (Z4 4 (List.drop (0 + (v2 * 4)) (Zc Zi L1))) [.i (L1.getD v2 R_iiii.z).a0, .i (L1.getD v2 R_iiii.z).a1, .i (L1.getD v2 R_iiii.z).a2, .i (L1.getD v2 R_iiii.z).a3], true), (Nat.blt v2 L1.length, true), ((v2 : Int) == Int.ofNat v2, true), (Zan (Z4 4 (List.drop (0 + (v2 * 4)) (Zc Zi L0))) [.i (L0.getD v2 R_iiii.z).a0, .i (L0.getD v2 R_iiii.z).a1, .i (L0.getD v2 R_iiii.z).a2, .i (L0.getD v2 R_iiii.z).a3], true), (Nat.blt v2 L0.length, true), ((v2 : Int) == Int.ofNat v2, true), ((decide ((v2 : Int) < (L0.length : Int))), true)]) (fun gv => by kernel_rfl) (Za (by rw [Bool.not_eq_true']; exact Bool.eq_false_iff.2 (by simp only [ne_eq, Bool.and_true, Bool.and_eq_true, beq_iff_eq]; first | omega | (intro hh; simp_all; done))) <| Za (ZbH (E := Zi) (L := L1) (i := v2) (q := 0) (by omega) (show (0 + (v2 * 4)) = v2 * 4 + 0 from by omega) (show 0 + 4 ≤ 4 from by decide) rfl rfl) <| oB <| oI <| Za (ZbH (E := Zi) (L := L0) (i := v2) (q := 0) (by omega) (show (0 + (v2 * 4)) = v2 * 4 + 0 from by omega) (show 0 + 4 ≤ 4 from by decide) rfl rfl) <| oB <| oI <| oY Zb) rfl (by decide) (by rfl) rr ⟨(Zn (E := Zi) (α := R_iiii) _ L0 _), ⟨(Zn (E := Zi) (α := R_iiii) _ L1 _), trivial⟩⟩
   ·
    refine Mach.ok_ite (fun g3 => ?_) (fun g3 => ?_)
    ·
     exact Mach.ok_next (M := Zco L0 L1 N) (cd := 1000000) (cm := 0) (y := (.h1m0 ((v2 + 1)) : ZaZ)) (fu := 4000) (orc := (Zh [(0, true), (1, false)] [(0, (((v2 + 1) : Nat) : Int))] [(0, v2), (1, v2)] [(0, [.i (L0.getD v2 R_iiii.z).a0, .i (L0.getD v2 R_iiii.z).a1, .i (L0.getD v2 R_iiii.z).a2, .i (L0.getD v2 R_iiii.z).a3]), (1, [.i (L1.getD v2 R_iiii.z).a0, .i (L1.getD v2 R_iiii.z).a1, .i (L1.getD v2 R_iiii.z).a2, .i (L1.getD v2 R_iiii.z).a3])] [])) (live := [0, 1]) (tv := fun _ => [some (vs 0 0 L0.length L0.length), some (vs 1 0 L1.length L1.length), some (vi (((v2 + 1) : Nat) : Int))]) (bl := [some (.cells (Zc Zi L0) 44), some (.cells (Zc Zi L1) 44)]) (ob := [((IntKind.i64.wrap ((v2 : Int) + (1 : Int))) == (((v2 + 1) : Nat) : Int), true), ((!(((L0.getD v2 R_iiii.z).a0 == (L1.getD v2 R_iiii.z).a0) && (((L0.getD v2 R_iiii.z).a1 == (L1.getD v2 R_iiii.z).a1) && (((L0.getD v2 R_iiii.z).a2 == (L1.getD v2 R_iiii.z).a2) && (((L0.getD v2 R_iiii.z).a3 == (L1.getD v2 R_iiii.z).a3) && true))))), false), (Zan (Z4 4 (List.drop (0 + (v2 * 4)) (Zc Zi L1))) [.i (L1.getD v2 R_iiii.z).a0, .i (L1.getD v2 R_iiii.z).a1, .i (L1.getD v2 R_iiii.z).a2, .i (L1.getD v2 R_iiii.z).a3], true), (Nat.blt v2 L1.length, true), ((v2 : Int) == Int.ofNat v2, true), (Zan (Z4 4 (List.drop (0 + (v2 * 4)) (Zc Zi L0))) [.i (L0.getD v2 R_iiii.z).a0, .i (L0.getD v2 R_iiii.z).a1, .i (L0.getD v2 R_iiii.z).a2, .i (L0.getD v2 R_iiii.z).a3], true), (Nat.blt v2 L0.length, true), ((v2 : Int) == Int.ofNat v2, true), ((decide ((v2 : Int) < (L0.length : Int))), true)]) rfl (show 1 ∈ Zq (ZrB 1) from by decide +kernel) (fun gv => by kernel_rfl) (Za (beq_iff_eq.2 ((wrap_i64 ltA).trans (by first | rfl | omega))) <| Za (by rw [Bool.not_eq_false']; first | (simp only [beq_self_eq_true, Bool.and_self]; done) | (simp only [Bool.and_true, Bool.and_eq_true, beq_iff_eq] <;> first | omega | (simp_all; done))) <| Za (ZbH (E := Zi) (L := L1) (i := v2) (q := 0) (by omega) (show (0 + (v2 * 4)) = v2 * 4 + 0 from by omega) (show 0 + 4 ≤ 4 from by decide) rfl rfl) <| oB <| oI <| Za (ZbH (E := Zi) (L := L0) (i := v2) (q := 0) (by omega) (show (0 + (v2 * 4)) = v2 * 4 + 0 from by omega) (show 0 + 4 ≤ 4 from by decide) rfl rfl) <| oB <| oI <| oY Zb) rfl (by decide) (by rfl) (fun _ => ⟨rr, ⟨rr, ⟨rr, trivial⟩⟩⟩) ⟨(Zn (E := Zi) (α := R_iiii) _ L0 _), ⟨(Zn (E := Zi) (α := R_iiii) _ L1 _), trivial⟩⟩
    ·
     exact Mach.ok_none
  ·
   exact Mach.ok_none
 ·
  exact Mach.ok_fin (M := Zco L0 L1 N) (cd := 1000000) (cm := 0) (r := (.r0 (true) : Zbm)) (fu := 4000) (orc := (Zh [(0, false)] [] [] [] [])) (live := [0, 1]) (u := vT) (bl := [some (.cells (Zc Zi L0) 44), some (.cells (Zc Zi L1) 44)]) (ob := [((decide ((v2 : Int) < (L0.length : Int))), false)]) (fun gv => by kernel_rfl) (oN Zb) rfl (by decide) (by rfl) rr ⟨(Zn (E := Zi) (α := R_iiii) _ L0 _), ⟨(Zn (E := Zi) (α := R_iiii) _ L1 _), trivial⟩⟩

theorem ZpM (L0 L1 : List R_iiii) (N : Nat) : (Zco L0 L1 N).Enter Try.prog Zj #[vs 0 0 L0.length L0.length, vs 1 0 L1.length L1.length] (ZfT L0 L1 N) := by
 unfold ZfT
 refine Mach.en_ite (fun g0 => ?_) (fun g0 => ?_)
 ·
  exact Mach.en_fin (M := Zco L0 L1 N) (cd := 1000000) (cm := 0) (r := (.r0 (false) : Zbm)) (fu := 4000) (orc := (Zh [(0, true)] [] [] [] [])) (live := [0, 1]) (u := vf) (bl := [some (.cells (Zc Zi L0) 44), some (.cells (Zc Zi L1) 44)]) (ob := [(((L0.length : Int) != (L1.length : Int)), true)]) (by kernel_rfl) (oD Zb) rfl (by decide) (by rfl) rr ⟨(Zn (E := Zi) (α := R_iiii) _ L0 _), ⟨(Zn (E := Zi) (α := R_iiii) _ L1 _), trivial⟩⟩
 ·
  exact Mach.en_head (bK := Zet 1) (M := Zco L0 L1 N) (cd := 1000000) (cm := 0) (y := (.h1m0 (0) : ZaZ)) (fu := 4000) (orc := (Zh [(0, false)] [] [] [] [])) (live := [0, 1]) (tv := [some (vs 0 0 L0.length L0.length), some (vs 1 0 L1.length L1.length), some (vq)]) (bl := [some (.cells (Zc Zi L0) 44), some (.cells (Zc Zi L1) 44)]) (ob := [(((L0.length : Int) != (L1.length : Int)), false)]) rfl rfl (show Zq (Zet 1).2 = [] from rfl) (by kernel_rfl) (oE Zb) rfl (by decide) (by rfl) ⟨rr, ⟨rr, ⟨⟨Eq.trans (show (vi ((0 : Nat) : Int) : Value) = vq from (congrArg (Value.int .i64) (by first | rfl | omega))) (by rfl), by rfl⟩, trivial⟩⟩⟩ ⟨(Zn (E := Zi) (α := R_iiii) _ L0 _), ⟨(Zn (E := Zi) (α := R_iiii) _ L1 _), trivial⟩⟩

theorem Zoa (L0 L1 : List R_iiii) (N : Nat) (r : Zbm) (h : ZeU L0 L1 N = some r) : LSpec Try.prog 11 #[vs 0 0 L0.length L0.length, vs 1 0 L1.length L1.length] [.cells (Zc Zi L0) 44, .cells (Zc Zi L1) 44] (ZlX L0 L1 r) (ZkJ L0 L1 r) :=
 Mach.spec ZaR (Zco L0 L1 N) Try.func11 (by kernel_rfl) (by kernel_rfl) (fun x => by cases x <;> exact Zal _ rfl) (fun r => by cases r <;> exact Zal _ rfl) (fun x => by
  cases x with
  | h1m0 _ => exact fun _ => (show ¬ (1 ∈ Zq (Zet 1).2) from by decide +kernel)
  ) (fun x => (show (Zco L0 L1 N).Ok Try.prog Zj x (Zei L0 L1 N x) from by
  cases x with
  | h1m0 v2 => exact Znq L0 L1 v2 N
  )) (ZpM L0 L1 N) (n := N) h

noncomputable def Zeb (L0 L1 : List R_iiii) (w2 : Bool) (k0 k1 n : Nat) : Za4 := .call [(k0, .cells (Zc Zi L0) 44), (k1, .cells (Zc Zi L1) 44)] (Value.bool w2) [] 0
def Zdz (A : Array Value) (L0 L1 : List R_iiii) (w2 : Bool) (k0 k1 n : Nat) : Prop := ZB Try.prog 11 A [(k0, .cells (Zc Zi L0) 44), (k1, .cells (Zc Zi L1) 44)] (Value.bool w2) [] n 0

theorem Zec (A : Array Value) (L0 L1 : List R_iiii) (w2 : Bool) (N : Nat) (h : ZeU L0 L1 N = some (.r0 w2)) (k0 k1 n : Nat) (hA : A = #[vs k0 0 L0.length L0.length, vs k1 0 L1.length L1.length]) (hnd : ([k0, k1] : List Nat).Nodup) (hlt : ∀ k ∈ ([k0, k1] : List Nat), k < n) : Zdz A L0 L1 w2 k0 k1 n :=
 ZQ hA (LSpec.callL (show LSpec Try.prog 11 #[vs 0 0 L0.length L0.length, vs 1 0 L1.length L1.length] [.cells (Zc Zi L0) 44, .cells (Zc Zi L1) 44] (Value.bool w2) [some (.cells (Zc Zi L0) 44), some (.cells (Zc Zi L1) 44)] from Zoa L0 L1 N _ h) [k0, k1] n [] rfl hnd hlt (show 2 ≤ 2 from by decide) (show ∀ j ∈ ([] : List Nat), j < 2 from by decide) (by rfl) ⟨(ZaE _ _ _), ⟨(ZaE _ _ _), trivial⟩⟩ (by rfl) ⟨(ZaE _ _ _), ⟨(ZaE _ _ _), trivial⟩⟩ ⟨.inr rfl, ⟨.inr rfl, trivial⟩⟩ rfl rfl rfl (Zf (ZaJ rfl (ZbJ _ _ _)) (Zf (ZaJ rfl (ZbJ _ _ _)) rfl)) rfl)

noncomputable def Zji (o0 : Nat) (L1 : List R_iiii) (n2 n3 o4 : Nat) (L5 : List Int) (n6 n7 : Nat) (O0 O1 : Obj) : Z3 → Value
 | .r0 w4 => Value.bool w4
noncomputable def Zii (o0 : Nat) (L1 : List R_iiii) (n2 n3 o4 : Nat) (L5 : List Int) (n6 n7 : Nat) (O0 O1 : Obj) : Z3 → List (Option AObj)
 | .r0 w4 => [some (.ro O0), some (.ro O1)]

def Zob : Zs → Nat
 | .h1m0 => 1
 | .h2m0 v6 v7 => 2
 | .h2m1 v6 v8 => 2
 | .h3m0 v4 v5 v6 v7 => 3
 | .h3m1 v4 v5 v6 v8 => 3
 | .h3m2 v4 v6 v8 v9 => 3
 | .h3m3 v4 v6 v8 v10 => 3
noncomputable def ZoR (o0 : Nat) (L1 : List R_iiii) (n2 n3 o4 : Nat) (L5 : List Int) (n6 n7 : Nat) (O0 O1 : Obj) : Zs → List (Nat × Value)
 | .h1m0 => [(0, vs 0 o0 (((if (520 : Int) < (n2 : Int) then (520 : Int) else (n2 : Int))).toNat - 0) (n3 - 0)), (1, vs 1 o4 (((if (6000 : Int) < (n6 : Int) then (6000 : Int) else (n6 : Int))).toNat - 0) (n7 - 0))]
 | .h2m0 v6 v7 => [(1, vs 1 o4 (((if (6000 : Int) < (n6 : Int) then (6000 : Int) else (n6 : Int))).toNat - 0) (n7 - 0)), (5, vn), (6, vi v6), (7, vn), (8, vi v7)]
 | .h2m1 v6 v8 => [(1, vs 1 o4 (((if (6000 : Int) < (n6 : Int) then (6000 : Int) else (n6 : Int))).toNat - 0) (n7 - 0)), (5, vs 2 0 v6.length v6.length), (6, vq), (7, vs 3 0 v8.length v8.length), (8, vq)]
 | .h3m0 v4 v5 v6 v7 => [(5, vn), (6, vi v4), (7, vn), (8, vi v5), (9, vn), (10, vi v6), (11, vn), (12, vi v7)]
 | .h3m1 v4 v5 v6 v8 => [(5, vn), (6, vi v4), (7, vn), (8, vi v5), (9, vs 2 0 v6.length v6.length), (10, vq), (11, vs 3 0 v8.length v8.length), (12, vq)]
 | .h3m2 v4 v6 v8 v9 => [(5, vs 2 0 v4.length v4.length), (6, vq), (7, vs 3 0 v6.length v6.length), (8, vq), (9, vn), (10, vi v8), (11, vn), (12, vi v9)]
 | .h3m3 v4 v6 v8 v10 => [(5, vs 2 0 v4.length v4.length), (6, vq), (7, vs 3 0 v6.length v6.length), (8, vq), (9, vs 4 0 v8.length v8.length), (10, vq), (11, vs 5 0 v10.length v10.length), (12, vq)]
noncomputable def ZoS (o0 : Nat) (L1 : List R_iiii) (n2 n3 o4 : Nat) (L5 : List Int) (n6 n7 : Nat) (O0 O1 : Obj) : Zs → List (Option AObj)
 | .h1m0 => [some (.ro O0), some (.ro O1)]
 | .h2m0 v6 v7 => [some (.ro O0), some (.ro O1)]
 | .h2m1 v6 v8 => [some (.ro O0), some (.ro O1), some (.cells (Zc (Ze .u8) v6) 5), some (.cells (Zc (Ze .u8) v8) 5)]
 | .h3m0 v4 v5 v6 v7 => [some (.ro O0), some (.ro O1)]
 | .h3m1 v4 v5 v6 v8 => [some (.ro O0), some (.ro O1), some (.cells (Zc Zi v6) 44), some (.cells (Zc Zi v8) 44)]
 | .h3m2 v4 v6 v8 v9 => [some (.ro O0), some (.ro O1), some (.cells (Zc (Ze .u8) v4) 5), some (.cells (Zc (Ze .u8) v6) 5)]
 | .h3m3 v4 v6 v8 v10 => [some (.ro O0), some (.ro O1), some (.cells (Zc (Ze .u8) v4) 5), some (.cells (Zc (Ze .u8) v6) 5), some (.cells (Zc Zi v8) 44), some (.cells (Zc Zi v10) 44)]

noncomputable def ZX : Nat → Code × List Za2
 | 1 => Zff [1, 1] (Zbh Try.f3) []
 | 2 => Zff [1, 1, 1, 1] (Zbh Try.f3) []
 | 3 => Zff [1, 1, 1, 1, 1, 1] (Zbh Try.f3) []
 | _ => (.skip, [])
def Zij : Nat → Bool
 | 1 => false
 | 2 => false
 | 3 => false
 | _ => true
noncomputable def Zd0 (i : Nat) : List Za2 := match Zij i with | true => .rnd i :: (ZX i).2 | false => (ZX i).2

noncomputable def Z7 (o0 : Nat) (L1 : List R_iiii) (n2 n3 o4 : Nat) (L5 : List Int) (n6 n7 : Nat) (O0 O1 : Obj) (N : Nat) : Mach := ⟨Try.f3, [.ro O0, .ro O1], Zs, Z3, ZaU L1 n2 n3 L5 n6 n7 N, Zob, ZX, Zij, ZoR o0 L1 n2 n3 o4 L5 n6 n7 O0 O1, ZoS o0 L1 n2 n3 o4 L5 n6 n7 O0 O1, Zji o0 L1 n2 n3 o4 L5 n6 n7 O0 O1, Zii o0 L1 n2 n3 o4 L5 n6 n7 O0 O1⟩

theorem ZkL (o0 : Nat) (L1 : List R_iiii) (n2 n3 o4 : Nat) (L5 : List Int) (n6 n7 : Nat) (O0 : Obj) (F0 : Zbk O0 o0 L1) (O1 : Obj) (F1 : ∀ i, i < L5.length → Zat O1 (o4 + i * 1) [.k .u8 (L5.getD i 0)]) (N : Nat) : (Z7 o0 L1 n2 n3 o4 L5 n6 n7 O0 O1 N).Ok Try.prog Zj (.h1m0 : Zs) (ZaU L1 n2 n3 L5 n6 n7 N (.h1m0 : Zs)) := by
 show (Z7 o0 L1 n2 n3 o4 L5 n6 n7 O0 O1 N).Ok Try.prog Zj (.h1m0 : Zs) (Zfj L1 n2 n3 L5 n6 n7 N)
 unfold Zfj
 refine Mach.ok_bind (fun z0 c0 => ?_)
 cases z0 with
 | r0 y0_0 =>
  refine Mach.ok_bind (fun z1 c1 => ?_)
  cases z1 with
  | r0 y1_0 =>
   exact Mach.ok_cut (bK := ZX 2) (M := Z7 o0 L1 n2 n3 o4 L5 n6 n7 O0 O1 N) (cd := 0) (cm := 1) (y := (.h2m0 (y0_0) (y1_0) : Zs)) (fu := 4000) (orc := (Zh [] [] [] [] [(0, (ZlL (o0) (L1) ((((if (520 : Int) < (n2 : Int) then (520 : Int) else (n2 : Int))).toNat - 0)) ((n3 - 0)) O0 y0_0 0 2)), (1, (Zk3 (o0) (L1) ((((if (520 : Int) < (n2 : Int) then (520 : Int) else (n2 : Int))).toNat - 0)) ((n3 - 0)) O0 y1_0 0 2))])) (live := [0, 1]) (tv := fun _ => [some (vs 1 o4 (((if (6000 : Int) < (n6 : Int) then (6000 : Int) else (n6 : Int))).toNat - 0) (n7 - 0)), some (vn), some (vi y0_0), some (vn), some (vi y1_0)]) (bl := [some (.ro O0), some (.ro O1)]) (ob := [(dP (Zho #[vs 0 o0 (((if (520 : Int) < (n2 : Int) then (520 : Int) else (n2 : Int))).toNat - 0) (n3 - 0)] (o0) (L1) ((((if (520 : Int) < (n2 : Int) then (520 : Int) else (n2 : Int))).toNat - 0)) ((n3 - 0)) O0 y1_0 0 2), true), (dS O0, true), (dP (ZhQ #[vs 0 o0 (((if (520 : Int) < (n2 : Int) then (520 : Int) else (n2 : Int))).toNat - 0) (n3 - 0)] (o0) (L1) ((((if (520 : Int) < (n2 : Int) then (520 : Int) else (n2 : Int))).toNat - 0)) ((n3 - 0)) O0 y0_0 0 2), true), (dS O0, true)]) rfl rfl (show ∀ j ∈ Zq (ZX 2).2, j ∈ Zq (Zd0 1) from by decide +kernel) (fun gv => by kernel_rfl) (Za (Zg (Zk4 #[vs 0 o0 (((if (520 : Int) < (n2 : Int) then (520 : Int) else (n2 : Int))).toNat - 0) (n3 - 0)] (o0) (L1) ((((if (520 : Int) < (n2 : Int) then (520 : Int) else (n2 : Int))).toNat - 0)) ((n3 - 0)) O0 F0 y1_0 N c1 0 2 rfl (by decide) (by decide))) <| oR <| Za (Zg (ZlM #[vs 0 o0 (((if (520 : Int) < (n2 : Int) then (520 : Int) else (n2 : Int))).toNat - 0) (n3 - 0)] (o0) (L1) ((((if (520 : Int) < (n2 : Int) then (520 : Int) else (n2 : Int))).toNat - 0)) ((n3 - 0)) O0 F0 y0_0 N c0 0 2 rfl (by decide) (by decide))) <| oR Zb) rfl (by decide) (by rfl) (fun _ => ⟨rr, ⟨rr, ⟨rr, ⟨rr, ⟨rr, trivial⟩⟩⟩⟩⟩) ⟨rfl, ⟨rfl, trivial⟩⟩
  | r1 _ =>
   exact Mach.ok_none
 | r1 y0_0 =>
  refine Mach.ok_bind (fun z1 c1 => ?_)
  cases z1 with
  | r0 _ =>
   exact Mach.ok_none
  | r1 y1_0 =>
   exact Mach.ok_cut (bK := ZX 2) (M := Z7 o0 L1 n2 n3 o4 L5 n6 n7 O0 O1 N) (cd := 0) (cm := 1) (y := (.h2m1 (y0_0) (y1_0) : Zs)) (fu := 4000) (orc := (Zh [] [] [] [] [(0, (ZlN (o0) (L1) ((((if (520 : Int) < (n2 : Int) then (520 : Int) else (n2 : Int))).toNat - 0)) ((n3 - 0)) O0 y0_0 0 2)), (1, (Zk5 (o0) (L1) ((((if (520 : Int) < (n2 : Int) then (520 : Int) else (n2 : Int))).toNat - 0)) ((n3 - 0)) O0 y1_0 0 3))])) (live := [0, 1, 2, 3]) (tv := fun _ => [some (vs 1 o4 (((if (6000 : Int) < (n6 : Int) then (6000 : Int) else (n6 : Int))).toNat - 0) (n7 - 0)), some (vs 2 0 y0_0.length y0_0.length), some (vq), some (vs 3 0 y1_0.length y1_0.length), some (vq)]) (bl := [some (.ro O0), some (.ro O1), some (.cells (Zc (Ze .u8) y0_0) 5), some (.cells (Zc (Ze .u8) y1_0) 5)]) (ob := [(dP (Zhp #[vs 0 o0 (((if (520 : Int) < (n2 : Int) then (520 : Int) else (n2 : Int))).toNat - 0) (n3 - 0)] (o0) (L1) ((((if (520 : Int) < (n2 : Int) then (520 : Int) else (n2 : Int))).toNat - 0)) ((n3 - 0)) O0 y1_0 0 3), true), (dS O0, true), (dP (ZhR #[vs 0 o0 (((if (520 : Int) < (n2 : Int) then (520 : Int) else (n2 : Int))).toNat - 0) (n3 - 0)] (o0) (L1) ((((if (520 : Int) < (n2 : Int) then (520 : Int) else (n2 : Int))).toNat - 0)) ((n3 - 0)) O0 y0_0 0 2), true), (dS O0, true)]) rfl rfl (show ∀ j ∈ Zq (ZX 2).2, j ∈ Zq (Zd0 1) from by decide +kernel) (fun gv => by kernel_rfl) (Za (Zg (Zk6 #[vs 0 o0 (((if (520 : Int) < (n2 : Int) then (520 : Int) else (n2 : Int))).toNat - 0) (n3 - 0)] (o0) (L1) ((((if (520 : Int) < (n2 : Int) then (520 : Int) else (n2 : Int))).toNat - 0)) ((n3 - 0)) O0 F0 y1_0 N c1 0 3 rfl (by decide) (by decide))) <| oR <| Za (Zg (ZlO #[vs 0 o0 (((if (520 : Int) < (n2 : Int) then (520 : Int) else (n2 : Int))).toNat - 0) (n3 - 0)] (o0) (L1) ((((if (520 : Int) < (n2 : Int) then (520 : Int) else (n2 : Int))).toNat - 0)) ((n3 - 0)) O0 F0 y0_0 N c0 0 2 rfl (by decide) (by decide))) <| oR Zb) rfl (by decide) (by rfl) (fun _ => ⟨rr, ⟨rr, ⟨rr, ⟨rr, ⟨rr, trivial⟩⟩⟩⟩⟩) ⟨rfl, ⟨rfl, ⟨(Zn (E := (Ze .u8)) (α := Int) _ y0_0 _), ⟨(Zn (E := (Ze .u8)) (α := Int) _ y1_0 _), trivial⟩⟩⟩⟩

theorem ZkM (o0 : Nat) (L1 : List R_iiii) (n2 n3 o4 : Nat) (L5 : List Int) (n6 n7 : Nat) (O0 : Obj) (F0 : Zbk O0 o0 L1) (O1 : Obj) (F1 : ∀ i, i < L5.length → Zat O1 (o4 + i * 1) [.k .u8 (L5.getD i 0)]) (v6 v7 : Int) (N : Nat) : (Z7 o0 L1 n2 n3 o4 L5 n6 n7 O0 O1 N).Ok Try.prog Zj (.h2m0 v6 v7 : Zs) (ZaU L1 n2 n3 L5 n6 n7 N (.h2m0 v6 v7 : Zs)) := by
 show (Z7 o0 L1 n2 n3 o4 L5 n6 n7 O0 O1 N).Ok Try.prog Zj (.h2m0 v6 v7 : Zs) (Zfk L1 n2 n3 L5 n6 n7 N v6 v7)
 unfold Zfk
 refine Mach.ok_bind (fun z0 c0 => ?_)
 cases z0 with
 | r0 y0_0 =>
  refine Mach.ok_bind (fun z1 c1 => ?_)
  cases z1 with
  | r0 y1_0 =>
   exact Mach.ok_cut (bK := ZX 3) (M := Z7 o0 L1 n2 n3 o4 L5 n6 n7 O0 O1 N) (cd := 0) (cm := 1) (y := (.h3m0 (v6) (v7) (y0_0) (y1_0) : Zs)) (fu := 4000) (orc := (Zh [] [] [] [] [(0, (ZhT (o4) (L5) ((((if (6000 : Int) < (n6 : Int) then (6000 : Int) else (n6 : Int))).toNat - 0)) ((n7 - 0)) O1 y0_0 1 2)), (1, (Zhu (o4) (L5) ((((if (6000 : Int) < (n6 : Int) then (6000 : Int) else (n6 : Int))).toNat - 0)) ((n7 - 0)) O1 y1_0 1 2))])) (live := [0, 1]) (tv := fun _ => [some (vn), some (vi v6), some (vn), some (vi v7), some (vn), some (vi y0_0), some (vn), some (vi y1_0)]) (bl := [some (.ro O0), some (.ro O1)]) (ob := [(dP (Zga #[vs 1 o4 (((if (6000 : Int) < (n6 : Int) then (6000 : Int) else (n6 : Int))).toNat - 0) (n7 - 0)] (o4) (L5) ((((if (6000 : Int) < (n6 : Int) then (6000 : Int) else (n6 : Int))).toNat - 0)) ((n7 - 0)) O1 y1_0 1 2), true), (dS O1, true), (dP (Zgr #[vs 1 o4 (((if (6000 : Int) < (n6 : Int) then (6000 : Int) else (n6 : Int))).toNat - 0) (n7 - 0)] (o4) (L5) ((((if (6000 : Int) < (n6 : Int) then (6000 : Int) else (n6 : Int))).toNat - 0)) ((n7 - 0)) O1 y0_0 1 2), true), (dS O1, true)]) rfl rfl (show ∀ j ∈ Zq (ZX 3).2, j ∈ Zq (Zd0 2) from by decide +kernel) (fun gv => by kernel_rfl) (Za (Zg (Zhv #[vs 1 o4 (((if (6000 : Int) < (n6 : Int) then (6000 : Int) else (n6 : Int))).toNat - 0) (n7 - 0)] (o4) (L5) ((((if (6000 : Int) < (n6 : Int) then (6000 : Int) else (n6 : Int))).toNat - 0)) ((n7 - 0)) O1 F1 y1_0 N c1 1 2 rfl (by decide) (by decide))) <| oR <| Za (Zg (ZhU #[vs 1 o4 (((if (6000 : Int) < (n6 : Int) then (6000 : Int) else (n6 : Int))).toNat - 0) (n7 - 0)] (o4) (L5) ((((if (6000 : Int) < (n6 : Int) then (6000 : Int) else (n6 : Int))).toNat - 0)) ((n7 - 0)) O1 F1 y0_0 N c0 1 2 rfl (by decide) (by decide))) <| oR Zb) rfl (by decide) (by rfl) (fun _ => ⟨rr, ⟨rr, ⟨rr, ⟨rr, ⟨rr, ⟨rr, ⟨rr, ⟨rr, trivial⟩⟩⟩⟩⟩⟩⟩⟩) ⟨rfl, ⟨rfl, trivial⟩⟩
  | r1 _ =>
   exact Mach.ok_none
 | r1 y0_0 =>
  refine Mach.ok_bind (fun z1 c1 => ?_)
  cases z1 with
  | r0 _ =>
   exact Mach.ok_none
  | r1 y1_0 =>
   exact Mach.ok_cut (bK := ZX 3) (M := Z7 o0 L1 n2 n3 o4 L5 n6 n7 O0 O1 N) (cd := 0) (cm := 1) (y := (.h3m1 (v6) (v7) (y0_0) (y1_0) : Zs)) (fu := 4000) (orc := (Zh [] [] [] [] [(0, (ZhV (o4) (L5) ((((if (6000 : Int) < (n6 : Int) then (6000 : Int) else (n6 : Int))).toNat - 0)) ((n7 - 0)) O1 y0_0 1 2)), (1, (Zhw (o4) (L5) ((((if (6000 : Int) < (n6 : Int) then (6000 : Int) else (n6 : Int))).toNat - 0)) ((n7 - 0)) O1 y1_0 1 3))])) (live := [0, 1, 2, 3]) (tv := fun _ => [some (vn), some (vi v6), some (vn), some (vi v7), some (vs 2 0 y0_0.length y0_0.length), some (vq), some (vs 3 0 y1_0.length y1_0.length), some (vq)]) (bl := [some (.ro O0), some (.ro O1), some (.cells (Zc Zi y0_0) 44), some (.cells (Zc Zi y1_0) 44)]) (ob := [(dP (Zgb #[vs 1 o4 (((if (6000 : Int) < (n6 : Int) then (6000 : Int) else (n6 : Int))).toNat - 0) (n7 - 0)] (o4) (L5) ((((if (6000 : Int) < (n6 : Int) then (6000 : Int) else (n6 : Int))).toNat - 0)) ((n7 - 0)) O1 y1_0 1 3), true), (dS O1, true), (dP (Zgs #[vs 1 o4 (((if (6000 : Int) < (n6 : Int) then (6000 : Int) else (n6 : Int))).toNat - 0) (n7 - 0)] (o4) (L5) ((((if (6000 : Int) < (n6 : Int) then (6000 : Int) else (n6 : Int))).toNat - 0)) ((n7 - 0)) O1 y0_0 1 2), true), (dS O1, true)]) rfl rfl (show ∀ j ∈ Zq (ZX 3).2, j ∈ Zq (Zd0 2) from by decide +kernel) (fun gv => by kernel_rfl) (Za (Zg (Zhx #[vs 1 o4 (((if (6000 : Int) < (n6 : Int) then (6000 : Int) else (n6 : Int))).toNat - 0) (n7 - 0)] (o4) (L5) ((((if (6000 : Int) < (n6 : Int) then (6000 : Int) else (n6 : Int))).toNat - 0)) ((n7 - 0)) O1 F1 y1_0 N c1 1 3 rfl (by decide) (by decide))) <| oR <| Za (Zg (ZhW #[vs 1 o4 (((if (6000 : Int) < (n6 : Int) then (6000 : Int) else (n6 : Int))).toNat - 0) (n7 - 0)] (o4) (L5) ((((if (6000 : Int) < (n6 : Int) then (6000 : Int) else (n6 : Int))).toNat - 0)) ((n7 - 0)) O1 F1 y0_0 N c0 1 2 rfl (by decide) (by decide))) <| oR Zb) rfl (by decide) (by rfl) (fun _ => ⟨rr, ⟨rr, ⟨rr, ⟨rr, ⟨rr, ⟨rr, ⟨rr, ⟨rr, trivial⟩⟩⟩⟩⟩⟩⟩⟩) ⟨rfl, ⟨rfl, ⟨(Zn (E := Zi) (α := R_iiii) _ y0_0 _), ⟨(Zn (E := Zi) (α := R_iiii) _ y1_0 _), trivial⟩⟩⟩⟩

theorem ZkN (o0 : Nat) (L1 : List R_iiii) (n2 n3 o4 : Nat) (L5 : List Int) (n6 n7 : Nat) (O0 : Obj) (F0 : Zbk O0 o0 L1) (O1 : Obj) (F1 : ∀ i, i < L5.length → Zat O1 (o4 + i * 1) [.k .u8 (L5.getD i 0)]) (v6 v8 : List Int) (N : Nat) : (Z7 o0 L1 n2 n3 o4 L5 n6 n7 O0 O1 N).Ok Try.prog Zj (.h2m1 v6 v8 : Zs) (ZaU L1 n2 n3 L5 n6 n7 N (.h2m1 v6 v8 : Zs)) := by
 show (Z7 o0 L1 n2 n3 o4 L5 n6 n7 O0 O1 N).Ok Try.prog Zj (.h2m1 v6 v8 : Zs) (Zfl L1 n2 n3 L5 n6 n7 N v6 v8)
 unfold Zfl
 refine Mach.ok_bind (fun z0 c0 => ?_)
 cases z0 with
 | r0 y0_0 =>
  refine Mach.ok_bind (fun z1 c1 => ?_)
  cases z1 with
  | r0 y1_0 =>
   exact Mach.ok_cut (bK := ZX 3) (M := Z7 o0 L1 n2 n3 o4 L5 n6 n7 O0 O1 N) (cd := 0) (cm := 1) (y := (.h3m2 (v6) (v8) (y0_0) (y1_0) : Zs)) (fu := 4000) (orc := (Zh [] [] [] [] [(0, (ZhT (o4) (L5) ((((if (6000 : Int) < (n6 : Int) then (6000 : Int) else (n6 : Int))).toNat - 0)) ((n7 - 0)) O1 y0_0 1 4)), (1, (Zhu (o4) (L5) ((((if (6000 : Int) < (n6 : Int) then (6000 : Int) else (n6 : Int))).toNat - 0)) ((n7 - 0)) O1 y1_0 1 4))])) (live := [0, 1, 2, 3]) (tv := fun _ => [some (vs 2 0 v6.length v6.length), some (vq), some (vs 3 0 v8.length v8.length), some (vq), some (vn), some (vi y0_0), some (vn), some (vi y1_0)]) (bl := [some (.ro O0), some (.ro O1), some (.cells (Zc (Ze .u8) v6) 5), some (.cells (Zc (Ze .u8) v8) 5)]) (ob := [(dP (Zga #[vs 1 o4 (((if (6000 : Int) < (n6 : Int) then (6000 : Int) else (n6 : Int))).toNat - 0) (n7 - 0)] (o4) (L5) ((((if (6000 : Int) < (n6 : Int) then (6000 : Int) else (n6 : Int))).toNat - 0)) ((n7 - 0)) O1 y1_0 1 4), true), (dS O1, true), (dP (Zgr #[vs 1 o4 (((if (6000 : Int) < (n6 : Int) then (6000 : Int) else (n6 : Int))).toNat - 0) (n7 - 0)] (o4) (L5) ((((if (6000 : Int) < (n6 : Int) then (6000 : Int) else (n6 : Int))).toNat - 0)) ((n7 - 0)) O1 y0_0 1 4), true), (dS O1, true)]) rfl rfl (show ∀ j ∈ Zq (ZX 3).2, j ∈ Zq (Zd0 2) from by decide +kernel) (fun gv => by kernel_rfl) (Za (Zg (Zhv #[vs 1 o4 (((if (6000 : Int) < (n6 : Int) then (6000 : Int) else (n6 : Int))).toNat - 0) (n7 - 0)] (o4) (L5) ((((if (6000 : Int) < (n6 : Int) then (6000 : Int) else (n6 : Int))).toNat - 0)) ((n7 - 0)) O1 F1 y1_0 N c1 1 4 rfl (by decide) (by decide))) <| oR <| Za (Zg (ZhU #[vs 1 o4 (((if (6000 : Int) < (n6 : Int) then (6000 : Int) else (n6 : Int))).toNat - 0) (n7 - 0)] (o4) (L5) ((((if (6000 : Int) < (n6 : Int) then (6000 : Int) else (n6 : Int))).toNat - 0)) ((n7 - 0)) O1 F1 y0_0 N c0 1 4 rfl (by decide) (by decide))) <| oR Zb) rfl (by decide) (by rfl) (fun _ => ⟨rr, ⟨rr, ⟨rr, ⟨rr, ⟨rr, ⟨rr, ⟨rr, ⟨rr, trivial⟩⟩⟩⟩⟩⟩⟩⟩) ⟨rfl, ⟨rfl, ⟨(Zn (E := (Ze .u8)) (α := Int) _ v6 _), ⟨(Zn (E := (Ze .u8)) (α := Int) _ v8 _), trivial⟩⟩⟩⟩
  | r1 _ =>
   exact Mach.ok_none
 | r1 y0_0 =>
  refine Mach.ok_bind (fun z1 c1 => ?_)
  cases z1 with
  | r0 _ =>
   exact Mach.ok_none
  | r1 y1_0 =>
   exact Mach.ok_cut (bK := ZX 3) (M := Z7 o0 L1 n2 n3 o4 L5 n6 n7 O0 O1 N) (cd := 0) (cm := 1) (y := (.h3m3 (v6) (v8) (y0_0) (y1_0) : Zs)) (fu := 4000) (orc := (Zh [] [] [] [] [(0, (ZhV (o4) (L5) ((((if (6000 : Int) < (n6 : Int) then (6000 : Int) else (n6 : Int))).toNat - 0)) ((n7 - 0)) O1 y0_0 1 4)), (1, (Zhw (o4) (L5) ((((if (6000 : Int) < (n6 : Int) then (6000 : Int) else (n6 : Int))).toNat - 0)) ((n7 - 0)) O1 y1_0 1 5))])) (live := [0, 1, 2, 3, 4, 5]) (tv := fun _ => [some (vs 2 0 v6.length v6.length), some (vq), some (vs 3 0 v8.length v8.length), some (vq), some (vs 4 0 y0_0.length y0_0.length), some (vq), some (vs 5 0 y1_0.length y1_0.length), some (vq)]) (bl := [some (.ro O0), some (.ro O1), some (.cells (Zc (Ze .u8) v6) 5), some (.cells (Zc (Ze .u8) v8) 5), some (.cells (Zc Zi y0_0) 44), some (.cells (Zc Zi y1_0) 44)]) (ob := [(dP (Zgb #[vs 1 o4 (((if (6000 : Int) < (n6 : Int) then (6000 : Int) else (n6 : Int))).toNat - 0) (n7 - 0)] (o4) (L5) ((((if (6000 : Int) < (n6 : Int) then (6000 : Int) else (n6 : Int))).toNat - 0)) ((n7 - 0)) O1 y1_0 1 5), true), (dS O1, true), (dP (Zgs #[vs 1 o4 (((if (6000 : Int) < (n6 : Int) then (6000 : Int) else (n6 : Int))).toNat - 0) (n7 - 0)] (o4) (L5) ((((if (6000 : Int) < (n6 : Int) then (6000 : Int) else (n6 : Int))).toNat - 0)) ((n7 - 0)) O1 y0_0 1 4), true), (dS O1, true)]) rfl rfl (show ∀ j ∈ Zq (ZX 3).2, j ∈ Zq (Zd0 2) from by decide +kernel) (fun gv => by kernel_rfl) (Za (Zg (Zhx #[vs 1 o4 (((if (6000 : Int) < (n6 : Int) then (6000 : Int) else (n6 : Int))).toNat - 0) (n7 - 0)] (o4) (L5) ((((if (6000 : Int) < (n6 : Int) then (6000 : Int) else (n6 : Int))).toNat - 0)) ((n7 - 0)) O1 F1 y1_0 N c1 1 5 rfl (by decide) (by decide))) <| oR <| Za (Zg (ZhW #[vs 1 o4 (((if (6000 : Int) < (n6 : Int) then (6000 : Int) else (n6 : Int))).toNat - 0) (n7 - 0)] (o4) (L5) ((((if (6000 : Int) < (n6 : Int) then (6000 : Int) else (n6 : Int))).toNat - 0)) ((n7 - 0)) O1 F1 y0_0 N c0 1 4 rfl (by decide) (by decide))) <| oR Zb) rfl (by decide) (by rfl) (fun _ => ⟨rr, ⟨rr, ⟨rr, ⟨rr, ⟨rr, ⟨rr, ⟨rr, ⟨rr, trivial⟩⟩⟩⟩⟩⟩⟩⟩) ⟨rfl, ⟨rfl, ⟨(Zn (E := (Ze .u8)) (α := Int) _ v6 _), ⟨(Zn (E := (Ze .u8)) (α := Int) _ v8 _), ⟨(Zn (E := Zi) (α := R_iiii) _ y0_0 _), ⟨(Zn (E := Zi) (α := R_iiii) _ y1_0 _), trivial⟩⟩⟩⟩⟩⟩

theorem ZkO (o0 : Nat) (L1 : List R_iiii) (n2 n3 o4 : Nat) (L5 : List Int) (n6 n7 : Nat) (O0 : Obj) (F0 : Zbk O0 o0 L1) (O1 : Obj) (F1 : ∀ i, i < L5.length → Zat O1 (o4 + i * 1) [.k .u8 (L5.getD i 0)]) (v4 v5 v6 v7 : Int) (N : Nat) : (Z7 o0 L1 n2 n3 o4 L5 n6 n7 O0 O1 N).Ok Try.prog Zj (.h3m0 v4 v5 v6 v7 : Zs) (ZaU L1 n2 n3 L5 n6 n7 N (.h3m0 v4 v5 v6 v7 : Zs)) := by
 show (Z7 o0 L1 n2 n3 o4 L5 n6 n7 O0 O1 N).Ok Try.prog Zj (.h3m0 v4 v5 v6 v7 : Zs) (Zfm L1 n2 n3 L5 n6 n7 N v4 v5 v6 v7)
 unfold Zfm
 refine Mach.ok_ite (fun g0 => ?_) (fun g0 => ?_)
 ·
  refine Mach.ok_bind (fun z1 c1 => ?_)
  cases z1 with
  | r0 =>
   refine Mach.ok_ite (fun g2 => ?_) (fun g2 => ?_)
   ·
    exact Mach.ok_fin (M := Z7 o0 L1 n2 n3 o4 L5 n6 n7 O0 O1 N) (cd := 1000000) (cm := 0) (r := (.r0 (true) : Z3)) (fu := 4000) (orc := (Zh [(1, true), (2, true)] [] [] [] [(0, (Zdg     2))])) (live := [0, 1]) (u := vT) (bl := [some (.ro O0), some (.ro O1)]) (ob := [((v6 == v7), true), (dP (ZcF #[vn, vn]     2), true), ((v4 == v5), true)]) (fun gv => by kernel_rfl) (oT <| Za (Zg (Zdh #[vn, vn]    N c1  2 rfl (by decide) (by decide))) <| oT Zb) rfl (by decide) (by rfl) rr ⟨rfl, ⟨rfl, trivial⟩⟩
   ·
    exact Mach.ok_fin (M := Z7 o0 L1 n2 n3 o4 L5 n6 n7 O0 O1 N) (cd := 1000000) (cm := 0) (r := (.r0 (false) : Z3)) (fu := 4000) (orc := (Zh [(1, true), (2, false)] [] [] [] [(0, (Zdg     2))])) (live := [0, 1]) (u := vf) (bl := [some (.ro O0), some (.ro O1)]) (ob := [((v6 == v7), false), (dP (ZcF #[vn, vn]     2), true), ((v4 == v5), true)]) (fun gv => by kernel_rfl) (oF <| Za (Zg (Zdh #[vn, vn]    N c1  2 rfl (by decide) (by decide))) <| oT Zb) rfl (by decide) (by rfl) rr ⟨rfl, ⟨rfl, trivial⟩⟩
 ·
  exact Mach.ok_fin (M := Z7 o0 L1 n2 n3 o4 L5 n6 n7 O0 O1 N) (cd := 1000000) (cm := 0) (r := (.r0 (false) : Z3)) (fu := 4000) (orc := (Zh [(1, false)] [] [] [] [])) (live := [0, 1]) (u := vf) (bl := [some (.ro O0), some (.ro O1)]) (ob := [((v4 == v5), false)]) (fun gv => by kernel_rfl) (oF Zb) rfl (by decide) (by rfl) rr ⟨rfl, ⟨rfl, trivial⟩⟩

theorem ZkP (o0 : Nat) (L1 : List R_iiii) (n2 n3 o4 : Nat) (L5 : List Int) (n6 n7 : Nat) (O0 : Obj) (F0 : Zbk O0 o0 L1) (O1 : Obj) (F1 : ∀ i, i < L5.length → Zat O1 (o4 + i * 1) [.k .u8 (L5.getD i 0)]) (v4 v5 : Int) (v6 v8 : List R_iiii) (N : Nat) : (Z7 o0 L1 n2 n3 o4 L5 n6 n7 O0 O1 N).Ok Try.prog Zj (.h3m1 v4 v5 v6 v8 : Zs) (ZaU L1 n2 n3 L5 n6 n7 N (.h3m1 v4 v5 v6 v8 : Zs)) := by
 show (Z7 o0 L1 n2 n3 o4 L5 n6 n7 O0 O1 N).Ok Try.prog Zj (.h3m1 v4 v5 v6 v8 : Zs) (Zfn L1 n2 n3 L5 n6 n7 N v4 v5 v6 v8)
 unfold Zfn
 refine Mach.ok_ite (fun g0 => ?_) (fun g0 => ?_)
 ·
  refine Mach.ok_bind (fun z1 c1 => ?_)
  cases z1 with
  | r0 y1_0 =>
   refine Mach.ok_ite (fun g2 => ?_) (fun g2 => ?_)
   ·
    subst g2
    exact Mach.ok_fin (M := Z7 o0 L1 n2 n3 o4 L5 n6 n7 O0 O1 N) (cd := 1000000) (cm := 0) (r := (.r0 (true) : Z3)) (fu := 4000) (orc := (Zh [(1, true)] [] [] [] [(0, (Zeb (v6) (v8)  true 2 3 4))])) (live := [0, 1]) (u := vT) (bl := [some (.ro O0), some (.ro O1)]) (ob := [(dP (Zdz #[vs 2 0 v6.length v6.length, vs 3 0 v8.length v8.length] (v6) (v8)  true 2 3 4), true), (dS (Zc Zi v6), true), (dS (Zc Zi v8), true), ((v4 == v5), true)]) (fun gv => by kernel_rfl) (Za (Zg (Zec #[vs 2 0 v6.length v6.length, vs 3 0 v8.length v8.length] (v6) (v8)  true N c1 2 3 4 rfl (by decide) (by decide))) <| oR <| oR <| oT Zb) rfl (by decide) (by rfl) rr ⟨rfl, ⟨rfl, trivial⟩⟩
   ·
    obtain rfl : y1_0 = false := by simpa using g2
    exact Mach.ok_fin (M := Z7 o0 L1 n2 n3 o4 L5 n6 n7 O0 O1 N) (cd := 1000000) (cm := 0) (r := (.r0 (false) : Z3)) (fu := 4000) (orc := (Zh [(1, true)] [] [] [] [(0, (Zeb (v6) (v8)  false 2 3 4))])) (live := [0, 1]) (u := vf) (bl := [some (.ro O0), some (.ro O1)]) (ob := [(dP (Zdz #[vs 2 0 v6.length v6.length, vs 3 0 v8.length v8.length] (v6) (v8)  false 2 3 4), true), (dS (Zc Zi v6), true), (dS (Zc Zi v8), true), ((v4 == v5), true)]) (fun gv => by kernel_rfl) (Za (Zg (Zec #[vs 2 0 v6.length v6.length, vs 3 0 v8.length v8.length] (v6) (v8)  false N c1 2 3 4 rfl (by decide) (by decide))) <| oR <| oR <| oT Zb) rfl (by decide) (by rfl) rr ⟨rfl, ⟨rfl, trivial⟩⟩
 ·
  exact Mach.ok_fin (M := Z7 o0 L1 n2 n3 o4 L5 n6 n7 O0 O1 N) (cd := 1000000) (cm := 0) (r := (.r0 (false) : Z3)) (fu := 4000) (orc := (Zh [(1, false)] [] [] [] [])) (live := [0, 1]) (u := vf) (bl := [some (.ro O0), some (.ro O1)]) (ob := [((v4 == v5), false)]) (fun gv => by kernel_rfl) (oF Zb) rfl (by decide) (by rfl) rr ⟨rfl, ⟨rfl, trivial⟩⟩

theorem ZkQ (o0 : Nat) (L1 : List R_iiii) (n2 n3 o4 : Nat) (L5 : List Int) (n6 n7 : Nat) (O0 : Obj) (F0 : Zbk O0 o0 L1) (O1 : Obj) (F1 : ∀ i, i < L5.length → Zat O1 (o4 + i * 1) [.k .u8 (L5.getD i 0)]) (v4 v6 : List Int) (v8 v9 : Int) (N : Nat) : (Z7 o0 L1 n2 n3 o4 L5 n6 n7 O0 O1 N).Ok Try.prog Zj (.h3m2 v4 v6 v8 v9 : Zs) (ZaU L1 n2 n3 L5 n6 n7 N (.h3m2 v4 v6 v8 v9 : Zs)) := by
 show (Z7 o0 L1 n2 n3 o4 L5 n6 n7 O0 O1 N).Ok Try.prog Zj (.h3m2 v4 v6 v8 v9 : Zs) (Zfo L1 n2 n3 L5 n6 n7 N v4 v6 v8 v9)
 unfold Zfo
 refine Mach.ok_ite (fun g0 => ?_) (fun g0 => ?_)
 ·
  refine Mach.ok_bind (fun z1 c1 => ?_)
  cases z1 with
  | r0 =>
   refine Mach.ok_ite (fun g2 => ?_) (fun g2 => ?_)
   ·
    exact Mach.ok_fin (M := Z7 o0 L1 n2 n3 o4 L5 n6 n7 O0 O1 N) (cd := 1000000) (cm := 0) (r := (.r0 (true) : Z3)) (fu := 4000) (orc := (Zh [(0, true), (2, true)] [] [] [] [(0, .bs v4), (1, .bs v6), (2, (Zdg     4))])) (live := [0, 1]) (u := vT) (bl := [some (.ro O0), some (.ro O1)]) (ob := [((v8 == v9), true), (dP (ZcF #[vn, vn]     4), true), (((Z5 v4).toList == (Z5 v6).toList), true), (dP (Z4 v6.length (List.drop 0 (Zc (Ze .u8) v6)) = some (List.map (Value.int .u8) v6)), true), (dP (Z4 v4.length (List.drop 0 (Zc (Ze .u8) v4)) = some (List.map (Value.int .u8) v4)), true)]) (fun gv => by kernel_rfl) (oT <| Za (Zg (Zdh #[vn, vn]    N c1  4 rfl (by decide) (by decide))) <| Za (Zd9 (x := v4) (y := v6) (by assumption)) <| Za (Zg (ZaB (L := v6) (a := 0) (by omega) (by show _ = _ * 1; omega) (by first | rfl | simp))) <| Za (Zg (ZaB (L := v4) (a := 0) (by omega) (by show _ = _ * 1; omega) (by first | rfl | simp))) Zb) rfl (by decide) (by rfl) rr ⟨rfl, ⟨rfl, trivial⟩⟩
   ·
    exact Mach.ok_fin (M := Z7 o0 L1 n2 n3 o4 L5 n6 n7 O0 O1 N) (cd := 1000000) (cm := 0) (r := (.r0 (false) : Z3)) (fu := 4000) (orc := (Zh [(0, true), (2, false)] [] [] [] [(0, .bs v4), (1, .bs v6), (2, (Zdg     4))])) (live := [0, 1]) (u := vf) (bl := [some (.ro O0), some (.ro O1)]) (ob := [((v8 == v9), false), (dP (ZcF #[vn, vn]     4), true), (((Z5 v4).toList == (Z5 v6).toList), true), (dP (Z4 v6.length (List.drop 0 (Zc (Ze .u8) v6)) = some (List.map (Value.int .u8) v6)), true), (dP (Z4 v4.length (List.drop 0 (Zc (Ze .u8) v4)) = some (List.map (Value.int .u8) v4)), true)]) (fun gv => by kernel_rfl) (oF <| Za (Zg (Zdh #[vn, vn]    N c1  4 rfl (by decide) (by decide))) <| Za (Zd9 (x := v4) (y := v6) (by assumption)) <| Za (Zg (ZaB (L := v6) (a := 0) (by omega) (by show _ = _ * 1; omega) (by first | rfl | simp))) <| Za (Zg (ZaB (L := v4) (a := 0) (by omega) (by show _ = _ * 1; omega) (by first | rfl | simp))) Zb) rfl (by decide) (by rfl) rr ⟨rfl, ⟨rfl, trivial⟩⟩
 ·
  exact Mach.ok_fin (M := Z7 o0 L1 n2 n3 o4 L5 n6 n7 O0 O1 N) (cd := 1000000) (cm := 0) (r := (.r0 (false) : Z3)) (fu := 4000) (orc := (Zh [(0, false)] [] [] [] [(0, .bs v4), (1, .bs v6)])) (live := [0, 1]) (u := vf) (bl := [some (.ro O0), some (.ro O1)]) (ob := [(((Z5 v4).toList == (Z5 v6).toList), false), (dP (Z4 v6.length (List.drop 0 (Zc (Ze .u8) v6)) = some (List.map (Value.int .u8) v6)), true), (dP (Z4 v4.length (List.drop 0 (Zc (Ze .u8) v4)) = some (List.map (Value.int .u8) v4)), true)]) (fun gv => by kernel_rfl) (Za (Zgm (x := v4) (y := v6) (by assumption)) <| Za (Zg (ZaB (L := v6) (a := 0) (by omega) (by show _ = _ * 1; omega) (by first | rfl | simp))) <| Za (Zg (ZaB (L := v4) (a := 0) (by omega) (by show _ = _ * 1; omega) (by first | rfl | simp))) Zb) rfl (by decide) (by rfl) rr ⟨rfl, ⟨rfl, trivial⟩⟩

theorem ZkR (o0 : Nat) (L1 : List R_iiii) (n2 n3 o4 : Nat) (L5 : List Int) (n6 n7 : Nat) (O0 : Obj) (F0 : Zbk O0 o0 L1) (O1 : Obj) (F1 : ∀ i, i < L5.length → Zat O1 (o4 + i * 1) [.k .u8 (L5.getD i 0)]) (v4 v6 : List Int) (v8 v10 : List R_iiii) (N : Nat) : (Z7 o0 L1 n2 n3 o4 L5 n6 n7 O0 O1 N).Ok Try.prog Zj (.h3m3 v4 v6 v8 v10 : Zs) (ZaU L1 n2 n3 L5 n6 n7 N (.h3m3 v4 v6 v8 v10 : Zs)) := by
 show (Z7 o0 L1 n2 n3 o4 L5 n6 n7 O0 O1 N).Ok Try.prog Zj (.h3m3 v4 v6 v8 v10 : Zs) (Zfp L1 n2 n3 L5 n6 n7 N v4 v6 v8 v10)
 unfold Zfp
 refine Mach.ok_ite (fun g0 => ?_) (fun g0 => ?_)
 ·
  refine Mach.ok_bind (fun z1 c1 => ?_)
  cases z1 with
  | r0 y1_0 =>
   refine Mach.ok_ite (fun g2 => ?_) (fun g2 => ?_)
   ·
    subst g2
    exact Mach.ok_fin (M := Z7 o0 L1 n2 n3 o4 L5 n6 n7 O0 O1 N) (cd := 1000000) (cm := 0) (r := (.r0 (true) : Z3)) (fu := 4000) (orc := (Zh [(0, true)] [] [] [] [(0, .bs v4), (1, .bs v6), (2, (Zeb (v8) (v10)  true 4 5 6))])) (live := [0, 1]) (u := vT) (bl := [some (.ro O0), some (.ro O1)]) (ob := [(dP (Zdz #[vs 4 0 v8.length v8.length, vs 5 0 v10.length v10.length] (v8) (v10)  true 4 5 6), true), (dS (Zc Zi v8), true), (dS (Zc Zi v10), true), (((Z5 v4).toList == (Z5 v6).toList), true), (dP (Z4 v6.length (List.drop 0 (Zc (Ze .u8) v6)) = some (List.map (Value.int .u8) v6)), true), (dP (Z4 v4.length (List.drop 0 (Zc (Ze .u8) v4)) = some (List.map (Value.int .u8) v4)), true)]) (fun gv => by kernel_rfl) (Za (Zg (Zec #[vs 4 0 v8.length v8.length, vs 5 0 v10.length v10.length] (v8) (v10)  true N c1 4 5 6 rfl (by decide) (by decide))) <| oR <| oR <| Za (Zd9 (x := v4) (y := v6) (by assumption)) <| Za (Zg (ZaB (L := v6) (a := 0) (by omega) (by show _ = _ * 1; omega) (by first | rfl | simp))) <| Za (Zg (ZaB (L := v4) (a := 0) (by omega) (by show _ = _ * 1; omega) (by first | rfl | simp))) Zb) rfl (by decide) (by rfl) rr ⟨rfl, ⟨rfl, trivial⟩⟩
   ·
    obtain rfl : y1_0 = false := by simpa using g2
    exact Mach.ok_fin (M := Z7 o0 L1 n2 n3 o4 L5 n6 n7 O0 O1 N) (cd := 1000000) (cm := 0) (r := (.r0 (false) : Z3)) (fu := 4000) (orc := (Zh [(0, true)] [] [] [] [(0, .bs v4), (1, .bs v6), (2, (Zeb (v8) (v10)  false 4 5 6))])) (live := [0, 1]) (u := vf) (bl := [some (.ro O0), some (.ro O1)]) (ob := [(dP (Zdz #[vs 4 0 v8.length v8.length, vs 5 0 v10.length v10.length] (v8) (v10)  false 4 5 6), true), (dS (Zc Zi v8), true), (dS (Zc Zi v10), true), (((Z5 v4).toList == (Z5 v6).toList), true), (dP (Z4 v6.length (List.drop 0 (Zc (Ze .u8) v6)) = some (List.map (Value.int .u8) v6)), true), (dP (Z4 v4.length (List.drop 0 (Zc (Ze .u8) v4)) = some (List.map (Value.int .u8) v4)), true)]) (fun gv => by kernel_rfl) (Za (Zg (Zec #[vs 4 0 v8.length v8.length, vs 5 0 v10.length v10.length] (v8) (v10)  false N c1 4 5 6 rfl (by decide) (by decide))) <| oR <| oR <| Za (Zd9 (x := v4) (y := v6) (by assumption)) <| Za (Zg (ZaB (L := v6) (a := 0) (by omega) (by show _ = _ * 1; omega) (by first | rfl | simp))) <| Za (Zg (ZaB (L := v4) (a := 0) (by omega) (by show _ = _ * 1; omega) (by first | rfl | simp))) Zb) rfl (by decide) (by rfl) rr ⟨rfl, ⟨rfl, trivial⟩⟩
 ·
  exact Mach.ok_fin (M := Z7 o0 L1 n2 n3 o4 L5 n6 n7 O0 O1 N) (cd := 1000000) (cm := 0) (r := (.r0 (false) : Z3)) (fu := 4000) (orc := (Zh [(0, false)] [] [] [] [(0, .bs v4), (1, .bs v6)])) (live := [0, 1]) (u := vf) (bl := [some (.ro O0), some (.ro O1)]) (ob := [(((Z5 v4).toList == (Z5 v6).toList), false), (dP (Z4 v6.length (List.drop 0 (Zc (Ze .u8) v6)) = some (List.map (Value.int .u8) v6)), true), (dP (Z4 v4.length (List.drop 0 (Zc (Ze .u8) v4)) = some (List.map (Value.int .u8) v4)), true)]) (fun gv => by kernel_rfl) (Za (Zgm (x := v4) (y := v6) (by assumption)) <| Za (Zg (ZaB (L := v6) (a := 0) (by omega) (by show _ = _ * 1; omega) (by first | rfl | simp))) <| Za (Zg (ZaB (L := v4) (a := 0) (by omega) (by show _ = _ * 1; omega) (by first | rfl | simp))) Zb) rfl (by decide) (by rfl) rr ⟨rfl, ⟨rfl, trivial⟩⟩

theorem Znr (o0 : Nat) (L1 : List R_iiii) (n2 n3 o4 : Nat) (L5 : List Int) (n6 n7 : Nat) (O0 : Obj) (F0 : Zbk O0 o0 L1) (O1 : Obj) (F1 : ∀ i, i < L5.length → Zat O1 (o4 + i * 1) [.k .u8 (L5.getD i 0)]) (N : Nat) : (Z7 o0 L1 n2 n3 o4 L5 n6 n7 O0 O1 N).Enter Try.prog Zj #[vs 0 o0 n2 n3, vs 1 o4 n6 n7] (ZeG L1 n2 n3 L5 n6 n7 N) := by
 unfold ZeG
 refine Mach.en_ite (fun g0 => ?_) (fun g0 => ?_)
 ·
  refine Mach.en_ite (fun g1 => ?_) (fun g1 => ?_)
  ·
   exact Mach.en_cut (bK := ZX 1) (M := Z7 o0 L1 n2 n3 o4 L5 n6 n7 O0 O1 N) (cd := 0) (cm := 1) (y := (.h1m0 : Zs)) (fu := 4000) (orc := (Zh [] [] [] [] [(0, .sl 0 ((if (520 : Int) < (n2 : Int) then (520 : Int) else (n2 : Int))).toNat), (1, .sl 0 ((if (6000 : Int) < (n6 : Int) then (6000 : Int) else (n6 : Int))).toNat)])) (live := [0, 1]) (tv := [some (Value.slice (some ⟨0, (o0 + (0 * 4)), none⟩) (((if (520 : Int) < (n2 : Int) then (520 : Int) else (n2 : Int))).toNat - 0) (n3 - 0)), some (Value.slice (some ⟨1, (o4 + (0 * 1)), none⟩) (((if (6000 : Int) < (n6 : Int) then (6000 : Int) else (n6 : Int))).toNat - 0) (n7 - 0))]) (bl := [some (.ro O0), some (.ro O1)]) (ob := [(dP (0 ≤ ((if (6000 : Int) < (n6 : Int) then (6000 : Int) else (n6 : Int))).toNat ∧ ((if (6000 : Int) < (n6 : Int) then (6000 : Int) else (n6 : Int))).toNat ≤ n7), true), ((if (6000 : Int) < (n6 : Int) then (6000 : Int) else (n6 : Int)) == Int.ofNat ((if (6000 : Int) < (n6 : Int) then (6000 : Int) else (n6 : Int))).toNat, true), (dS 0, true), (dP (0 ≤ ((if (520 : Int) < (n2 : Int) then (520 : Int) else (n2 : Int))).toNat ∧ ((if (520 : Int) < (n2 : Int) then (520 : Int) else (n2 : Int))).toNat ≤ n3), true), ((if (520 : Int) < (n2 : Int) then (520 : Int) else (n2 : Int)) == Int.ofNat ((if (520 : Int) < (n2 : Int) then (520 : Int) else (n2 : Int))).toNat, true), (dS 0, true)]) rfl rfl (show Zq (ZX 1).2 = [] from rfl) (by kernel_rfl) (Za (Zg ⟨ltA, ltA⟩) <| oI <| oR <| Za (Zg ⟨ltA, ltA⟩) <| oI <| oR Zb) rfl (by decide) (by rfl) ⟨⟨Eq.trans (show (vs 0 o0 (((if (520 : Int) < (n2 : Int) then (520 : Int) else (n2 : Int))).toNat - 0) (n3 - 0) : Value) = Value.slice (some ⟨0, (o0 + (0 * 4)), none⟩) (((if (520 : Int) < (n2 : Int) then (520 : Int) else (n2 : Int))).toNat - 0) (n3 - 0) from (Z2 eqA rfl rfl)) (by rfl), by rfl⟩, ⟨⟨Eq.trans (show (vs 1 o4 (((if (6000 : Int) < (n6 : Int) then (6000 : Int) else (n6 : Int))).toNat - 0) (n7 - 0) : Value) = Value.slice (some ⟨1, (o4 + (0 * 1)), none⟩) (((if (6000 : Int) < (n6 : Int) then (6000 : Int) else (n6 : Int))).toNat - 0) (n7 - 0) from (Z2 eqA rfl rfl)) (by rfl), by rfl⟩, trivial⟩⟩ ⟨rfl, ⟨rfl, trivial⟩⟩
  ·
   exact Mach.en_none
 ·
  exact Mach.en_none

end Ev
end Go.Proofs.Ytjfmadhcbgdakaa
