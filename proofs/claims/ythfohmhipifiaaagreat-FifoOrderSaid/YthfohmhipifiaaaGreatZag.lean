/- Part 7. -/
import Derived.Test.YthfohmhipifiaaaGreatZaf
set_option linter.unusedSimpArgs false
set_option linter.unusedVariables false
/- Calls do what the plain functions say. -/
namespace Go.Proofs.YthfohmhipifiaaaGreat
open Go.IntKind (i64)
open Go.RowKit
namespace Ev
open Mach (oi ok_ite ok_none en_ite en_none)
set_option linter.unusedVariables false
set_option maxRecDepth 100000
noncomputable def Zmy (L0 : List RJ) (L1 : List RG) (a2 : Int) (L3 : List RG) (a4 a5 a6 a7 a8 a9 a10 : Int) (L11 : List RG) (b12 : Bool) : ZaW → Value
 | .r0 w1 w2 w6 => Value.tuple #[Value.agg (List.toArray ([vs 1 0 w1.length w1.length] ++ (rv8 w2 ++ [vi (i64.wrap (a2 + 1)), ms RA L3, vi (i64.wrap (a4 + 1)), vi w6]))), vq]
 | .r1 w1 w2 => Value.tuple #[Value.agg (List.toArray ([ms RC w1] ++ (rv8 w2 ++ [vi (i64.wrap (a2 + 1)), ms RA L3, vi a4, vi a5]))), vq]
noncomputable abbrev κbj (L11 : List RG) := [some (AObj.cells (Za RA L11) 44 true)]
noncomputable def Zlr (L0 : List RJ) (L1 : List RG) (a2 : Int) (L3 : List RG) (a4 a5 a6 a7 a8 a9 a10 : Int) (L11 : List RG) (b12 : Bool) : ZaW → List (Option AObj)
 | .r0 w1 w2 w6 => [some (.cells (Za RA L11) 44 true), some (.cells (Za RC w1) 97)]
 | .r1 w1 w2 => (κbj L11)

noncomputable def ZwG (L0 : List RJ) (L1 : List RG) (a2 : Int) (L3 : List RG) (a4 a5 a6 a7 a8 a9 a10 : Int) (L11 : List RG) (b12 : Bool) : ZaW → Value
 | .r0 w1 w2 w6 => Value.tuple #[Value.agg (List.toArray ([ms RC w1] ++ (rv8 w2 ++ [vi (i64.wrap (a2 + 1)), ms RA L3, vi (i64.wrap (a4 + 1)), vi w6]))), vq]
 | .r1 w1 w2 => Value.tuple #[Value.agg (List.toArray ([ms RC w1] ++ (rv8 w2 ++ [vi (i64.wrap (a2 + 1)), ms RA L3, vi a4, vi a5]))), vq]
noncomputable def ZuP (L0 : List RJ) (L1 : List RG) (a2 : Int) (L3 : List RG) (a4 a5 a6 a7 a8 a9 a10 : Int) (L11 : List RG) (b12 : Bool) : ZaW → List (Option AObj)
 | .r0 w1 w2 w6 => (κbj L11)
 | .r1 w1 w2 => (κbj L11)

section
variable (L1 : List RG) (a8 y1_0 y1_1 a2 : Int) (L3 : List RG) (a4 y1_2 : Int)
noncomputable abbrev κt := (rv8 (L1.set a8.toNat (⟨y1_0, y1_1⟩ : RG)) ++ [vi (i64.wrap (a2 + 1)), ms RA L3, vi (i64.wrap (a4 + 1)), vi y1_2])
end
section
variable (L0 : List RJ) (L1 : List RG) (a2 : Int) (L3 : List RG) (a4 a5 a6 a7 a8 a9 a10 : Int) (L11 : List RG) (b12 : Bool) (N : Nat)
theorem Zt0 : Fx Tryz.prog Ze Tryz.f104 [.cells (Za RA L11) 44 true] #[Value.agg (List.toArray (κm L0 L1 a2 L3 a4 a5)), vi a6, Value.agg #[vi a7, vi a8, vi a9, vi a10], vs 0 0 L11.length L11.length, Value.bool b12] (Zmy L0 L1 a2 L3 a4 a5 a6 a7 a8 a9 a10 L11 b12) (Zlr L0 L1 a2 L3 a4 a5 a6 a7 a8 a9 a10 L11 b12) (Z6 L0 L1 a2 L3 a4 a5 a6 a7 a8 a9 a10 L11 b12 N) := by
 unfold Z6;refine Zb (fun g0 => ?_) (fun g0 => ?_)
 ·
  refine Zx (fun z1 c1 => ?_);cases z1 with
  | r0 y1_0 y1_1 y1_2 =>
   refine Zb (fun g2 => ?_) (fun g2 => ?_)
   ·
    refine Zb (fun g3 => ?_) (fun _ => Zd);refine Zb (fun g4 => ?_) (fun _ => Zd);refine Zx (fun z5 c5 => ?_);cases z5 with
    | r0 y5_0 =>
     refine Zb (fun g6 => ?_) (fun _ => Zd);refine Zb (fun g7 => ?_) (fun _ => Zd);refine Zb (fun g8 => ?_) (fun _ => Zd);exact fxC [0, 7] (Value.tuple #[Value.agg (List.toArray ([vs 7 0 1 1] ++ (κt L1 a8 y1_0 y1_1 a2 L3 a4 y1_2))), vq]) (tW 3 (.st (ZaR RA 8 [vs 7 0 1 1] (L1.set a8.toNat (⟨y1_0, y1_1⟩ : RG)) [vi a2, ms RA L3, vi (i64.wrap (a4 + 1)), vi y1_2])) <| kC (Zuf (E := RA) (a := [vs 7 0 1 1]) (b := [vi a2, ms RA L3, vi (i64.wrap (a4 + 1)), vi y1_2]) (L := L1) (n := 8) (p := 1) (i := a8.toNat) (q := 0) (l := [vi y1_0, vi y1_1]) (⟨y1_0, y1_1⟩ : RG) rfl (by omega) (by omega) (show (1 + (a8.toNat * 2)) = 1 + a8.toNat * 2 + 0 from by omega) (show 0 + 2 ≤ 2 from by decide) rfl) <| kB a8.toNat 8 <| xkI a8 (a8.toNat) <| kKb (A := #[Value.agg #[vi y1_0, vi y1_1], vi a9, vi a10, vi a6]) (Zel (cr (Zw ci (Zw ci (cr rfl))))) (tQ (ZnO c5) 6) <| tW 2 (.ap0) <| kX (dP (0 = L0.length ∧ ((L0.length * 8 = 0 ∧ ([] : List Value) = []) ∨ ∃ c, L0.length * 8 ≠ 0 ∧ ZS (code (Z9 RC L0)) 0 (L0.length * 8) = some c ∧ ([] : List Value) = Zl c))) true (Zn ⟨by omega, .inl ⟨by omega, rfl⟩⟩) <| kKg 1 (Zpl c1 [0] 4) <| bhT g0 Zg) (bQ <| bC (o := .cells [vi y1_0, vi y1_1, vi (i64.wrap (Int.tdiv y1_1 1048576)), vi 2, vi 1, vi 1, vi a6, ms RA y5_0] 97) (Zz (E := RC) _ (L := ([(⟨y1_0, y1_1, (i64.wrap (Int.tdiv y1_1 1048576)), 2, 1, 1, a6, y5_0⟩ : RJ)] : List RJ)) _ (show ([vi y1_0, vi y1_1, vi (i64.wrap (Int.tdiv y1_1 1048576)), vi 2, vi 1, vi 1, vi a6, ms RA y5_0] : List Value) = Za RC ([(⟨y1_0, y1_1, (i64.wrap (Int.tdiv y1_1 1048576)), 2, 1, 1, a6, y5_0⟩ : RJ)] : List RJ) from rfl)) <| bE) (hv := ⟨Eq.trans (show (Value.tuple #[Value.agg (List.toArray ([vs 1 0 ([(⟨y1_0, y1_1, (i64.wrap (Int.tdiv y1_1 1048576)), 2, 1, 1, a6, y5_0⟩ : RJ)] : List RJ).length ([(⟨y1_0, y1_1, (i64.wrap (Int.tdiv y1_1 1048576)), 2, 1, 1, a6, y5_0⟩ : RJ)] : List RJ).length] ++ (κt L1 a8 y1_0 y1_1 a2 L3 a4 y1_2))), vq] : Value) = Value.tuple #[Value.agg (List.toArray ([vs 1 0 1 1] ++ (κt L1 a8 y1_0 y1_1 a2 L3 a4 y1_2))), vq] from (Zax (Zw (ZbU (Zw (Zi rfl eqA eqA) (cr4 (cr4 (cr4 (cr4 (cr4 rfl))))))) (cr rfl)))) (by rfl), by rfl⟩)
   refine Zb (fun g3 => ?_) (fun _ => Zd);refine Zb (fun g4 => ?_) (fun _ => Zd);refine Zb (fun g5 => ?_) (fun _ => Zd);refine Zx (fun z6 c6 => ?_);cases z6 with
   | r0 y6_0 =>
    refine Zb (fun g7 => ?_) (fun _ => Zd);refine Zb (fun g8 => ?_) (fun _ => Zd);refine Zb (fun g9 => ?_) (fun _ => Zd);exact fxC [0, 8] (Value.tuple #[Value.agg (List.toArray ([vs 8 0 ((0 + L0.length) + 1) ((0 + L0.length) + 1)] ++ (κt L1 a8 y1_0 y1_1 a2 L3 a4 y1_2))), vq]) (tW 2 (.st (ZaR RA 8 [vs 8 0 ((0 + L0.length) + 1) ((0 + L0.length) + 1)] (L1.set a8.toNat (⟨y1_0, y1_1⟩ : RG)) [vi a2, ms RA L3, vi (i64.wrap (a4 + 1)), vi y1_2])) <| kC (Zuf (E := RA) (a := [vs 8 0 ((0 + L0.length) + 1) ((0 + L0.length) + 1)]) (b := [vi a2, ms RA L3, vi (i64.wrap (a4 + 1)), vi y1_2]) (L := L1) (n := 8) (p := 1) (i := a8.toNat) (q := 0) (l := [vi y1_0, vi y1_1]) (⟨y1_0, y1_1⟩ : RG) rfl (by omega) (by omega) (show (1 + (a8.toNat * 2)) = 1 + a8.toNat * 2 + 0 from by omega) (show 0 + 2 ≤ 2 from by decide) rfl) <| kB a8.toNat 8 <| xkI a8 (a8.toNat) <| ZoO RC L0 (0 + L0.length) (⟨y1_0, y1_1, (i64.wrap (Int.tdiv y1_1 1048576)), 2, 1, 1, a6, y6_0⟩ : RJ) <| kKb (A := #[Value.agg #[vi y1_0, vi y1_1], vi a9, vi a10, vi a6]) (Zel (cr (Zw ci (Zw ci (cr rfl))))) (tQ (ZnO c6) 7) <| tW 2 (.ap L0.length (Za RC L0) (Za RC L0)) <| kX (dP ((L0.length = L0.length ∧ ((L0.length * 8 = 0 ∧ (Za RC L0) = []) ∨ ∃ c, L0.length * 8 ≠ 0 ∧ ZS (code (Z9 RC L0)) 0 (L0.length * 8) = some c ∧ (Za RC L0) = Zl c)) ∧ 0 < L0.length ∧ L0.length ≤ 100000 ∧ 0 < 0 + L0.length ∧ 0 ≤ 100000 ∧ 0 * 8 ≤ (List.length []) ∧ List.take (0 * 8) [] ++ (Za RC L0) = (Za RC L0))) true (Zn ⟨⟨rfl, (Zc4 (E := RC) (L := L0) (n := L0.length) (size := 8) rfl (by decide) (by omega))⟩, by omega, by omega, ltA, by omega, (Zas (E := RC) (L := ([] : List RJ)) (M := L0) (n := 0) (show _ = _ * 8 from rfl) ltA (R := L0) (by rw [List.take_of_length_le ltA]; rfl))⟩) <| kKg 1 (Zpl c1 [0] 4) <| bhT g0 Zg) (bQ <| bR <| bE) (hv := ⟨Eq.trans (show (Value.tuple #[Value.agg (List.toArray ([vs 1 0 (L0 ++ ([(⟨y1_0, y1_1, (i64.wrap (Int.tdiv y1_1 1048576)), 2, 1, 1, a6, y6_0⟩ : RJ)] : List RJ)).length (L0 ++ ([(⟨y1_0, y1_1, (i64.wrap (Int.tdiv y1_1 1048576)), 2, 1, 1, a6, y6_0⟩ : RJ)] : List RJ)).length] ++ (κt L1 a8 y1_0 y1_1 a2 L3 a4 y1_2))), vq] : Value) = Value.tuple #[Value.agg (List.toArray ([vs 1 0 ((0 + L0.length) + 1) ((0 + L0.length) + 1)] ++ (κt L1 a8 y1_0 y1_1 a2 L3 a4 y1_2))), vq] from (Zax (Zw (ZbU (Zw (Zi rfl eqA eqA) (cr4 (cr4 (cr4 (cr4 (cr4 rfl))))))) (cr rfl)))) (by rfl), by rfl⟩)
 refine Zb (fun g1 => ?_) (fun g1 => ?_)
 ·
  refine Zb (fun g2 => ?_) (fun _ => Zd);refine Zb (fun g3 => ?_) (fun _ => Zd);refine Zx (fun z4 c4 => ?_);cases z4 with
  | r0 y4_0 y4_1 =>
   refine Zb (fun g5 => ?_) (fun _ => Zd);refine Zb (fun g6 => ?_) (fun _ => Zd);refine Zb (fun g7 => ?_) (fun _ => Zd);exact Zq [0] (tW 1 (.st (ZaR RA 8 [ms RC L0] (L1.set a8.toNat (⟨y4_0, y4_1⟩ : RG)) [vi a2, ms RA L3, vi a4, vi a5])) <| kC (Zuf (E := RA) (a := [ms RC L0]) (b := [vi a2, ms RA L3, vi a4, vi a5]) (L := L1) (n := 8) (p := 1) (i := a8.toNat) (q := 0) (l := [vi y4_0, vi y4_1]) (⟨y4_0, y4_1⟩ : RG) rfl (by omega) (by omega) (show (1 + (a8.toNat * 2)) = 1 + a8.toNat * 2 + 0 from by omega) (show 0 + 2 ≤ 2 from by decide) rfl) <| kB a8.toNat 8 <| xkI a8 (a8.toNat) <| kKg 1 (tQ (Zri c4) 4) <| tL 3 (RA.cel (L1.getD a9.toNat RG.z)) <| kX (ZdO (Z4 2 (List.drop (1 + (a9.toNat * 2)) (κW L0 L1 a2 L3 a4 a5))) [.i (L1.getD a9.toNat RG.z).a0, .i (L1.getD a9.toNat RG.z).a1]) true (Znn (E := RA) (L := L1) (n := 8) (p := 1) (i := a9.toNat) (q := 0) rfl (by omega) (show (1 + (a9.toNat * 2)) = 1 + a9.toNat * 2 + 0 from by omega) (show 0 + 2 ≤ 2 from by decide) rfl rfl) <| kB a9.toNat 8 <| xkI a9 (a9.toNat) <| bhT g1 <| bhF g0 Zg) (bQ <| bE)
 refine Zb (fun g2 => ?_) (fun g2 => ?_)
 ·
  refine Zb (fun g3 => ?_) (fun _ => Zd);refine Zb (fun g4 => ?_) (fun _ => Zd);refine Zb (fun g5 => ?_) (fun _ => Zd);refine Zb (fun g6 => ?_) (fun _ => Zd);refine Zx (fun z7 c7 => ?_);cases z7 with
  | r0 y7_0 =>
   exact Zq [0] (kKg 1 (tQ (Z0N c7) 4) <| tL 2 (RA.cel (L1.getD a10.toNat RG.z)) <| kX (ZdO (Z4 2 (List.drop (1 + (a10.toNat * 2)) (κW L0 L1 a2 L3 a4 a5))) [.i (L1.getD a10.toNat RG.z).a0, .i (L1.getD a10.toNat RG.z).a1]) true (Znn (E := RA) (L := L1) (n := 8) (p := 1) (i := a10.toNat) (q := 0) rfl (by omega) (show (1 + (a10.toNat * 2)) = 1 + a10.toNat * 2 + 0 from by omega) (show 0 + 2 ≤ 2 from by decide) rfl rfl) <| kB a10.toNat 8 <| xkI a10 (a10.toNat) <| tL 3 (RA.cel (L1.getD a8.toNat RG.z)) <| kX (ZdO (Z4 2 (List.drop (1 + (a8.toNat * 2)) (κW L0 L1 a2 L3 a4 a5))) [.i (L1.getD a8.toNat RG.z).a0, .i (L1.getD a8.toNat RG.z).a1]) true (Znn (E := RA) (L := L1) (n := 8) (p := 1) (i := a8.toNat) (q := 0) rfl (by omega) (show (1 + (a8.toNat * 2)) = 1 + a8.toNat * 2 + 0 from by omega) (show 0 + 2 ≤ 2 from by decide) rfl rfl) <| kB a8.toNat 8 <| xkI a8 (a8.toNat) <| bhT g2 <| bhF g1 <| bhF g0 Zg) (bQ <| bE)
 refine Zb (fun g3 => ?_) (fun _ => Zd);refine Zb (fun g4 => ?_) (fun _ => Zd);refine Zx (fun z5 c5 => ?_);cases z5 with
 | r0 y5_0 =>
  exact Zq [0] (kKg 1 (tQ (Zzv c5) 4) <| tL 3 (RA.cel (L1.getD a8.toNat RG.z)) <| kX (ZdO (Z4 2 (List.drop (1 + (a8.toNat * 2)) (κW L0 L1 a2 L3 a4 a5))) [.i (L1.getD a8.toNat RG.z).a0, .i (L1.getD a8.toNat RG.z).a1]) true (Znn (E := RA) (L := L1) (n := 8) (p := 1) (i := a8.toNat) (q := 0) rfl (by omega) (show (1 + (a8.toNat * 2)) = 1 + a8.toNat * 2 + 0 from by omega) (show 0 + 2 ≤ 2 from by decide) rfl rfl) <| kB a8.toNat 8 <| xkI a8 (a8.toNat) <| bhF g2 <| bhF g1 <| bhF g0 Zg) (bQ <| bE)

theorem Zpv (r : ZaW) (h : Z6 L0 L1 a2 L3 a4 a5 a6 a7 a8 a9 a10 L11 b12 N = some r) : LSpec Tryz.prog 104 #[Value.agg (List.toArray (κm L0 L1 a2 L3 a4 a5)), vi a6, Value.agg #[vi a7, vi a8, vi a9, vi a10], vs 0 0 L11.length L11.length, Value.bool b12] [.cells (Za RA L11) 44 true] (Zmy L0 L1 a2 L3 a4 a5 a6 a7 a8 a9 a10 L11 b12 r) (Zlr L0 L1 a2 L3 a4 a5 a6 a7 a8 a9 a10 L11 b12 r) :=
 ZI Zv Tryz.func104 (by kernel_rfl) (by kernel_rfl) (fun r => by cases r <;> exact ZP _ rfl) (Zt0 L0 L1 a2 L3 a4 a5 a6 a7 a8 a9 a10 L11 b12 N) h

theorem ZjP (r : ZaW) (h : Z6 L0 L1 a2 L3 a4 a5 a6 a7 a8 a9 a10 L11 b12 N = some r) : LSpec Tryz.prog 104 #[Value.agg (List.toArray (κm L0 L1 a2 L3 a4 a5)), vi a6, Value.agg #[vi a7, vi a8, vi a9, vi a10], vs 0 0 L11.length L11.length, Value.bool b12] [.cells (Za RA L11) 44 true] (ZwG L0 L1 a2 L3 a4 a5 a6 a7 a8 a9 a10 L11 b12 r) (ZuP L0 L1 a2 L3 a4 a5 a6 a7 a8 a9 a10 L11 b12 r) := by
 have h0 := Zpv L0 L1 a2 L3 a4 a5 a6 a7 a8 a9 a10 L11 b12 N r h;cases r with
 | r0 w1 w2 w6 => exact (LSpec.frzv (E := RC) (L := w1) (post := (κbj L11)) (v2 := Value.tuple #[Value.agg (List.toArray ([ms RC w1] ++ (rv8 w2 ++ [vi (i64.wrap (a2 + 1)), ms RA L3, vi (i64.wrap (a4 + 1)), vi w6]))), vq]) h0 (show 1 ≤ 1 from by decide) (show 1 < 1000000000 from by decide) ⟨(ZcY _ _ _), trivial⟩ rfl rfl rfl)
 | r1 _ _ => exact h0

end
noncomputable def ZuQ {L0 : List RJ} {L1 : List RG} {a2 : Int} {L3 : List RG} {a4 a5 a6 a7 a8 a9 a10 : Int} {L11 : List RG} {b12 : Bool} {w1 : List RJ} {w2 : List RG} {w6 : Int} {N : Nat} (h : Z6 L0 L1 a2 L3 a4 a5 a6 a7 a8 a9 a10 L11 b12 N = some (.r0 w1 w2 w6)) (ks : List Nat) (n : Nat) : ToldS := ⟨#[Value.agg (List.toArray (κm L0 L1 a2 L3 a4 a5)), vi a6, Value.agg #[vi a7, vi a8, vi a9, vi a10], vs (nth ks 0) 0 L11.length L11.length, Value.bool b12], [((nth ks 0), .cells (Za RA L11) 44 true)], Value.tuple #[Value.agg (List.toArray ([ms RC w1] ++ (rv8 w2 ++ [vi (i64.wrap (a2 + 1)), ms RA L3, vi (i64.wrap (a4 + 1)), vi w6]))), vq], [], 0⟩

theorem Zc0 {L0 : List RJ} {L1 : List RG} {a2 : Int} {L3 : List RG} {a4 a5 a6 a7 a8 a9 a10 : Int} {L11 : List RG} {b12 : Bool} {w1 : List RJ} {w2 : List RG} {w6 : Int} {N : Nat} (h : Z6 L0 L1 a2 L3 a4 a5 a6 a7 a8 a9 a10 L11 b12 N = some (.r0 w1 w2 w6)) (ks : List Nat) (n : Nat) (hk : ks.length = 1 := by rfl) (hnd : ks.Nodup := by decide +kernel) (hlt : ∀ k ∈ ks, k < n := by decide +kernel) : (ZuQ (N := N)  h ks n).P Tryz.prog 104 n :=
 match ks, hk, hnd, hlt with
 | [k0], _, hnd, hlt => Zci (show LSpec Tryz.prog 104 #[Value.agg (List.toArray (κm L0 L1 a2 L3 a4 a5)), vi a6, Value.agg #[vi a7, vi a8, vi a9, vi a10], vs 0 0 L11.length L11.length, Value.bool b12] [.cells (Za RA L11) 44 true] (Value.tuple #[Value.agg (List.toArray ([ms RC w1] ++ (rv8 w2 ++ [vi (i64.wrap (a2 + 1)), ms RA L3, vi (i64.wrap (a4 + 1)), vi w6]))), vq]) (κbj L11) from ZjP L0 L1 a2 L3 a4 a5 a6 a7 a8 a9 a10 L11 b12 N _ h) _ n [] hnd hlt

noncomputable def ZuR {L0 : List RJ} {L1 : List RG} {a2 : Int} {L3 : List RG} {a4 a5 a6 a7 a8 a9 a10 : Int} {L11 : List RG} {b12 : Bool} {w1 : List RJ} {w2 : List RG} {N : Nat} (h : Z6 L0 L1 a2 L3 a4 a5 a6 a7 a8 a9 a10 L11 b12 N = some (.r1 w1 w2)) (ks : List Nat) (n : Nat) : ToldS := ⟨#[Value.agg (List.toArray (κm L0 L1 a2 L3 a4 a5)), vi a6, Value.agg #[vi a7, vi a8, vi a9, vi a10], vs (nth ks 0) 0 L11.length L11.length, Value.bool b12], [((nth ks 0), .cells (Za RA L11) 44 true)], Value.tuple #[Value.agg (List.toArray ([ms RC w1] ++ (rv8 w2 ++ [vi (i64.wrap (a2 + 1)), ms RA L3, vi a4, vi a5]))), vq], [], 0⟩

theorem Zc1 {L0 : List RJ} {L1 : List RG} {a2 : Int} {L3 : List RG} {a4 a5 a6 a7 a8 a9 a10 : Int} {L11 : List RG} {b12 : Bool} {w1 : List RJ} {w2 : List RG} {N : Nat} (h : Z6 L0 L1 a2 L3 a4 a5 a6 a7 a8 a9 a10 L11 b12 N = some (.r1 w1 w2)) (ks : List Nat) (n : Nat) (hk : ks.length = 1 := by rfl) (hnd : ks.Nodup := by decide +kernel) (hlt : ∀ k ∈ ks, k < n := by decide +kernel) : (ZuR (N := N)  h ks n).P Tryz.prog 104 n :=
 match ks, hk, hnd, hlt with
 | [k0], _, hnd, hlt => Zci (show LSpec Tryz.prog 104 #[Value.agg (List.toArray (κm L0 L1 a2 L3 a4 a5)), vi a6, Value.agg #[vi a7, vi a8, vi a9, vi a10], vs 0 0 L11.length L11.length, Value.bool b12] [.cells (Za RA L11) 44 true] (Value.tuple #[Value.agg (List.toArray ([ms RC w1] ++ (rv8 w2 ++ [vi (i64.wrap (a2 + 1)), ms RA L3, vi a4, vi a5]))), vq]) (κbj L11) from ZjP L0 L1 a2 L3 a4 a5 a6 a7 a8 a9 a10 L11 b12 N _ h) _ n [] hnd hlt

noncomputable def ZkM (L0 : List RJ) (L1 : List RG) (a2 : Int) (L3 : List RG) (a4 a5 a6 a7 a8 a9 : Int) : Zfe → Value
 | .r0 w1 w2 => Value.tuple #[Value.agg (List.toArray ([ms RC L0] ++ (rv8 w1 ++ [vi w2, ms RA L3, vi a4, vi a5]))), vq]
noncomputable def ZjH : Zfe → List (Option AObj)
 | .r0 w1 w2 => []

section
variable (L0 : List RJ) (L1 : List RG) (a2 : Int) (L3 : List RG) (a4 a5 a6 a7 a8 a9 : Int) (N : Nat)
theorem ZuS : Fx Tryz.prog Ze Tryz.f139 [] #[Value.agg (List.toArray (κm L0 L1 a2 L3 a4 a5)), Value.agg #[vi a6, vi a7, vi a8, vi a9]] (ZkM L0 L1 a2 L3 a4 a5 a6 a7 a8 a9) (ZjH) (Zcc L0 L1 a2 L3 a4 a5 a6 a7 a8 a9 N) := by
 unfold Zcc;refine Zx (fun z0 c0 => ?_);cases z0 with
 | r0 y0_0 y0_1 y0_2 =>
  refine Zb (fun g1 => ?_) (fun g1 => ?_)
  · subst g1;exact Zd
  obtain rfl : y0_2 = false := by simpa using g1
  refine Zx (fun z2 c2 => ?_);cases z2 with
  | r0 y2_0 y2_1 =>
   exact Zq [] (kKg 5 (tQ (ZbM c2) 8) <| kKg 1 (tQ (Zbe c0) 3) Zg) bE

theorem ZrV (r : Zfe) (h : Zcc L0 L1 a2 L3 a4 a5 a6 a7 a8 a9 N = some r) : LSpec Tryz.prog 139 #[Value.agg (List.toArray (κm L0 L1 a2 L3 a4 a5)), Value.agg #[vi a6, vi a7, vi a8, vi a9]] [] (ZkM L0 L1 a2 L3 a4 a5 a6 a7 a8 a9 r) (ZjH r) :=
 ZI Zv Tryz.func139 (by kernel_rfl) (by kernel_rfl) (fun r => by cases r <;> exact ZP _ rfl) (ZuS L0 L1 a2 L3 a4 a5 a6 a7 a8 a9 N) h

end
theorem Zhe {L0 : List RJ} {L1 : List RG} {a2 : Int} {L3 : List RG} {a4 a5 a6 a7 a8 a9 : Int} {N : Nat} {r : Zfe} (h : Zcc L0 L1 a2 L3 a4 a5 a6 a7 a8 a9 N = some r) : LSpec Tryz.prog 139 #[Value.agg (List.toArray (κm L0 L1 a2 L3 a4 a5)), Value.agg #[vi a6, vi a7, vi a8, vi a9]] [] (ZkM L0 L1 a2 L3 a4 a5 a6 a7 a8 a9 r) (ZjH r) := ZrV L0 L1 a2 L3 a4 a5 a6 a7 a8 a9 N r h

noncomputable abbrev κZ := #[Value.agg #[vn, vq, vq, vq, vq, vq, vq, vq, vq, vq, vq, vq, vq, vq, vq, vq, vq, vq, vn, vq, vq], vn, vf]
noncomputable def ZkN : Zcd → Value
 | .r0 => Value.tuple κZ
noncomputable def ZjI : Zcd → List (Option AObj)
 | .r0 => []

def ZwH : Zce → Nat
 | .h1m0 => 1
section
variable (L0 : List RI) (L1 : List Int)
noncomputable def Zzw : Zce → List (Nat × Value)
 | .h1m0 => [(0, ms RB L0), (1, ms eI L1), (2, vn), (6, vp 0 0), (9, vi (-1 : Int))]
noncomputable abbrev κb := (AObj.cells (ZaR RA 8 [vn] ([(⟨0, 0⟩ : RG), (⟨0, 0⟩ : RG), (⟨0, 0⟩ : RG), (⟨0, 0⟩ : RG), (⟨0, 0⟩ : RG), (⟨0, 0⟩ : RG), (⟨0, 0⟩ : RG), (⟨0, 0⟩ : RG)] : List RG) [vq, vn, vq, vq]) 153)
noncomputable def Zzx (L0 : List RI) (L1 : List Int) : Zce → List (Option AObj)
 | .h1m0 => [some κb]

noncomputable def Zzy : Nat → Code × List ZL
 | 1 => Z5 [1, 0, 1, 3] (ZM Tryz.f138) []
 | _ => (.skip, [])

noncomputable def Zil (N : Nat) : Mach := ⟨Tryz.f138, [], Zce, Zcd, ZhQ L0 L1 N, ZwH, Zzy, ilT, Zzw L0 L1, Zzx L0 L1, ZkN, ZjI⟩

theorem ZqB (N : Nat) : (Zil L0 L1 N).Ok Tryz.prog Ze (.h1m0 : Zce) (Zhs L0 L1 N) := by unfold Zhs;exact Mach.okF0 [] Zg bE

theorem ZuT (N : Nat) : (Zil L0 L1 N).Enter Tryz.prog Ze #[ms RB L0, ms eI L1, vn] (Zj3 L0 L1 N) := by unfold Zj3;exact Mach.enH0 [0] Zg (bM κb <| bE)

theorem ZrW (N : Nat) (r : Zcd) (h : Zl4 L0 L1 N = some r) : LSpec Tryz.prog 138 #[ms RB L0, ms eI L1, vn] [] (ZkN r) (ZjI r) :=
 Mach.specT Zv (Zil L0 L1 N) Tryz.func138 (fun x => (show (Zil L0 L1 N).Ok Tryz.prog Ze x (ZhQ L0 L1 N x) from by
  cases x with
  | h1m0 => exact ZqB L0 L1 N
  )) (ZuT L0 L1 N) h

end
theorem ZwI {L0 : List RI} {L1 : List Int} {N : Nat} {r : Zcd} (h : Zl4 L0 L1 N = some r) : LSpec Tryz.prog 138 #[ms RB L0, ms eI L1, vn] [] (ZkN r) (ZjI r) := ZrW L0 L1 N r h

noncomputable def Zmz : ZbG → Value
 | .r0 => Value.tuple κZ
noncomputable abbrev κbg (L2 : List R_iiDiiiiiiiiiiiiiiiiiAii) := (Za ZaQ L2)
noncomputable def Zls (L0 : List RI) (L1 : List Int) (L2 : List R_iiDiiiiiiiiiiiiiiiiiAii) : ZbG → List (Option AObj)
 | .r0 => [some (.cells (κbg L2) 218)]

def Zt1 : Zaq → Nat
 | .h1m0 v3 => 1
section
variable (L0 : List RI) (L1 : List Int) (L2 : List R_iiDiiiiiiiiiiiiiiiiiAii)
noncomputable def ZuU : Zaq → List (Nat × Value)
 | .h1m0 v3 => [(0, ms RB L0), (1, ms eI L1), (2, vs 0 0 L2.length L2.length), (6, vp 1 0), (9, vi v3)]
noncomputable def ZuV (L0 : List RI) (L1 : List Int) (L2 : List R_iiDiiiiiiiiiiiiiiiiiAii) : Zaq → List (Option AObj)
 | .h1m0 v3 => [some (.cells (κbg L2) 218), some κb]

noncomputable def ZuW : Nat → Code × List ZL
 | 1 => Z5 [1, 0, 1, 3] (ZM Tryz.f138) []
 | _ => (.skip, [])

noncomputable def ZgB (N : Nat) : Mach := ⟨Tryz.f138, [.cells (κbg L2) 218], Zaq, ZbG, ZgK L0 L1 L2 N, Zt1, ZuW, ilT, ZuU L0 L1 L2, ZuV L0 L1 L2, Zmz, Zls L0 L1 L2⟩

theorem Zoi (v3 : Int) (N : Nat) : (ZgB L0 L1 L2 N).Ok Tryz.prog Ze (.h1m0 v3 : Zaq) (Zd1 L0 L1 L2 N v3) := by
 unfold Zd1;refine ok_ite (fun g0 => ?_) fun g0 => ?_
 ·
  refine oi fun g1 => ?_;have w2 := lkL ZaQ L2 ((v3).toNat) 0 1 <| kB (v3).toNat L2.length <| xkI v3 ((v3).toNat) <| bkY (v3 ≥ 0) Zg
  refine oi fun g2 => ?_;refine oi fun g3 => ?_;have w4 := lkL ZaQ L2 ((v3).toNat) 1 1 <| kB (v3).toNat L2.length <| xkI v3 ((v3).toNat) <| lkG eI L1 (0 + (((L2.getD (v3).toNat R_iiDiiiiiiiiiiiiiiiiiAii.z).a0).toNat * 1)) (((L2.getD (v3).toNat R_iiDiiiiiiiiiiiiiiiiiAii.z).a0).toNat) 0 1 1 <| kB ((L2.getD (v3).toNat R_iiDiiiiiiiiiiiiiiiiiAii.z).a0).toNat L1.length <| xkI ((L2.getD (v3).toNat R_iiDiiiiiiiiiiiiiiiiiAii.z).a0) (((L2.getD (v3).toNat R_iiDiiiiiiiiiiiiiiiiiAii.z).a0).toNat) w2
  refine ok_ite (fun g4 => ?_) fun g4 => ?_
  · refine oi fun g5 => ?_;refine oi fun g6 => ?_;refine ok_ite (fun _ => ok_none) (fun g7 => ?_);exact Mach.okN0 [0, 1] (bhF g7 <| lkG RB L0 ((0 + (((L1.getD ((L2.getD (v3).toNat R_iiDiiiiiiiiiiiiiiiiiAii.z).a0).toNat 0)).toNat * 4)) + 0) (((L1.getD ((L2.getD (v3).toNat R_iiDiiiiiiiiiiiiiiiiiAii.z).a0).toNat 0)).toNat) 0 1 4 <| kB ((L1.getD ((L2.getD (v3).toNat R_iiDiiiiiiiiiiiiiiiiiAii.z).a0).toNat 0)).toNat L0.length <| xkI (L1.getD ((L2.getD (v3).toNat R_iiDiiiiiiiiiiiiiiiiiAii.z).a0).toNat 0) (((L1.getD ((L2.getD (v3).toNat R_iiDiiiiiiiiiiiiiiiiiAii.z).a0).toNat 0)).toNat) <| bhT g4 w4) (bR <| bM κb <| bE)
  exact Mach.okN0 [0, 1] (bhF g4 w4) (bR <| bM κb <| bE)
 exact Mach.okF0 [0] (bkN (v3 ≥ 0) Zg) (bR <| bE)

theorem ZrX (N : Nat) : (ZgB L0 L1 L2 N).Enter Tryz.prog Ze #[ms RB L0, ms eI L1, vs 0 0 L2.length L2.length] (ZhR L0 L1 L2 N) := by unfold ZhR;refine en_ite (fun g0 => ?_) (fun _ => en_none);exact Mach.enH0 [0, 1] (vkW ((L2.length : Int) - 1) ((L2.length : Int) - 1) Zg) (bR <| bM κb <| bE)

theorem Zpw (N : Nat) (r : ZbG) (h : Zew L0 L1 L2 N = some r) : LSpec Tryz.prog 138 #[ms RB L0, ms eI L1, vs 0 0 L2.length L2.length] [.cells (κbg L2) 218] (Zmz r) (Zls L0 L1 L2 r) :=
 Mach.specT Zv (ZgB L0 L1 L2 N) Tryz.func138 (fun x => (show (ZgB L0 L1 L2 N).Ok Tryz.prog Ze x (ZgK L0 L1 L2 N x) from by
  cases x with
  | h1m0 v3 => exact Zoi L0 L1 L2 v3 N
  )) (ZrX L0 L1 L2 N) h

end
noncomputable def Zt2 {L0 : List RI} {L1 : List Int} {L2 : List R_iiDiiiiiiiiiiiiiiiiiAii} {N : Nat} (h : Zew L0 L1 L2 N = some (.r0)) (ks : List Nat) (n : Nat) : ToldS := ⟨#[ms RB L0, ms eI L1, vs (nth ks 0) 0 L2.length L2.length], [((nth ks 0), .cells (κbg L2) 218)], Value.tuple κZ, [], 0⟩

theorem Zt3 {L0 : List RI} {L1 : List Int} {L2 : List R_iiDiiiiiiiiiiiiiiiiiAii} {N : Nat} (h : Zew L0 L1 L2 N = some (.r0)) (ks : List Nat) (n : Nat) (hk : ks.length = 1 := by rfl) (hnd : ks.Nodup := by decide +kernel) (hlt : ∀ k ∈ ks, k < n := by decide +kernel) : (Zt2 (N := N)  h ks n).P Tryz.prog 138 n :=
 match ks, hk, hnd, hlt with
 | [k0], _, hnd, hlt => Zci (show LSpec Tryz.prog 138 #[ms RB L0, ms eI L1, vs 0 0 L2.length L2.length] [.cells (κbg L2) 218] (Value.tuple κZ) [some (.cells (κbg L2) 218)] from Zpw L0 L1 L2 N _ h) _ n [] hnd hlt

open Mach (oi ok_ite ok_none ok_bind okN en_none en_bind)
set_option linter.unusedVariables false
set_option maxRecDepth 100000
noncomputable def Zpx (L0 : List RI) (a1 : Int) (L2 : List RJ) (L3 : List RG) (a4 : Int) (L5 : List RG) (a6 a7 : Int) (L8 : List RG) (a9 : Int) : ZH → Value
 | .r0 w1 w2 w3 w5 w6 w8 w9 => Value.tuple #[Value.agg (List.toArray ([ms RC w1] ++ (rv8 w2 ++ [vi w3, ms RA L5, vi w5, vi w6]))), vq, Value.bool w8, vi w9]
noncomputable abbrev κbz (L8 : List RG) := (AObj.cells (Za RA L8) 44 true)
noncomputable def ZnS (L0 : List RI) (a1 : Int) (L2 : List RJ) (L3 : List RG) (a4 : Int) (L5 : List RG) (a6 a7 : Int) (L8 : List RG) (a9 : Int) : ZH → List (Option AObj)
 | .r0 w1 w2 w3 w5 w6 w8 w9 => [some (κbz L8)]

def ZwJ : ref20_blockX → Nat
 | .h1m0 v4 => 1
 | .h1m1 v3 v4 v6 v7 v8 v9 v11 v12 => 1
noncomputable def Zzz (L0 : List RI) (a1 : Int) (L2 : List RJ) (L3 : List RG) (a4 : Int) (L5 : List RG) (a6 a7 : Int) (L8 : List RG) (a9 : Int) : ref20_blockX → List (Nat × Value)
 | .h1m0 v4 => [(0, ms RB L0), (1, vi a1), (3, vs 0 0 L8.length L8.length), (4, vi a9), (7, vp 1 0), (10, vp 2 0), (14, ms eI v4), (16, vn), (17, vq)]
 | .h1m1 v3 v4 v6 v7 v8 v9 v11 v12 => [(0, ms RB L0), (1, vi a1), (3, vs 0 0 L8.length L8.length), (4, vi v3), (7, vp 1 0), (10, vp 2 0), (14, ms eI v4), (16, vs 3 0 1 1), (17, vi (v6 : Int))]
noncomputable def Zz0 (L0 : List RI) (a1 : Int) (L2 : List RJ) (L3 : List RG) (a4 : Int) (L5 : List RG) (a6 a7 : Int) (L8 : List RG) (a9 : Int) : ref20_blockX → List (Option AObj)
 | .h1m0 v4 => [some (κbz L8), some (.cells (ZaR RA 8 [ms RC L2] L3 [vi a4, ms RA L5, vi a6, vi a7]) 153), some κb]
 | .h1m1 v3 v4 v6 v7 v8 v9 v11 v12 => [some (κbz L8), some (.cells (ZaR RA 8 [ms RC v7] v8 [vi v9, ms RA L5, vi v11, vi v12]) 153), some κb, some (.cells (Za ZaQ ([(ZjV L3 a4 0 L2 a4 L5 a6 a7 : R_iiDiiiiiiiiiiiiiiiiiAii)] : List R_iiDiiiiiiiiiiiiiiiiiAii)) 218)]

noncomputable def Zz1 : Nat → Code × List ZL
 | 1 => Z5 [1, 1, 1, 0, 1, 3] (ZM Tryz.f125) []
 | _ => (.skip, [])

noncomputable abbrev κbA (L8 : List RG) := [AObj.cells (Za RA L8) 44 true]
section
variable (L0 : List RI) (a1 : Int) (L2 : List RJ) (L3 : List RG) (a4 : Int) (L5 : List RG) (a6 a7 : Int) (L8 : List RG)
noncomputable def Zgv (a9 : Int) (N : Nat) : Mach := ⟨Tryz.f125, (κbA L8), ref20_blockX, ZH, ZdE L0 a1 L2 L3 a4 L5 a6 a7 L8 a9 N, ZwJ, Zz1, ilT, Zzz L0 a1 L2 L3 a4 L5 a6 a7 L8 a9, Zz0 L0 a1 L2 L3 a4 L5 a6 a7 L8 a9, Zpx L0 a1 L2 L3 a4 L5 a6 a7 L8 a9, ZnS L0 a1 L2 L3 a4 L5 a6 a7 L8 a9⟩

theorem ZqC (a9 : Int) (v4 : List Int) (N : Nat) : (Zgv L0 a1 L2 L3 a4 L5 a6 a7 L8 a9 N).Ok Tryz.prog Ze (.h1m0 v4 : ref20_blockX) (Zen L0 a1 L2 L3 a4 L5 a6 a7 L8 a9 N v4) := by
 unfold Zen;refine oi fun g0 => ?_;refine oi fun g1 => ?_;have w2 := tL 1 (RB.cel (L0.getD a4.toNat RI.z)) <| kG RB L0 (0 + (a4.toNat * 4)) (a4.toNat) 0 4 4 <| kB a4.toNat L0.length <| xkI a4 (a4.toNat) Zg
 refine ok_ite (fun g2 => ?_) fun g2 => ?_
 ·
  refine ok_ite (fun _ => ok_none) (fun g3 => ?_);have w4 := bhT g2 <| bkF ((L0.getD a4.toNat RI.z).a0) 18 <| bkF ((L0.getD a4.toNat RI.z).a0) 17 <| bkF ((L0.getD a4.toNat RI.z).a0) 16 <| bkF ((L0.getD a4.toNat RI.z).a0) 15 <| bhN g3 <| tB 1 <| hT g2 w2
  refine ok_bind fun z4 c4 => ?_;cases z4 with
  | r0 y4_0 y4_1 y4_2 =>
   exact Mach.okF0 [0] (kKg 1 (Zc0 c4 [0] 4) w4) (bQ <| bE)
  | r1 y4_0 y4_1 =>
   exact Mach.okF0 [0] (kKg 1 (Zc1 c4 [0] 4) w4) (bQ <| bE)
 have w3 := tB 1 <| hF g2 w2
 refine ok_ite (fun g3 => ?_) fun g3 => ?_
 ·
  refine ok_ite (fun _ => ok_none) (fun g4 => ?_);have w5 := bhT g3 <| bhF g2 <| bkF ((L0.getD a4.toNat RI.z).a0) 18 <| bkF ((L0.getD a4.toNat RI.z).a0) 17 <| bkF ((L0.getD a4.toNat RI.z).a0) 16 <| bkF ((L0.getD a4.toNat RI.z).a0) 15 <| bhN g4 <| bhT g3 w3
  refine ok_bind fun z5 c5 => ?_;cases z5 with
  | r0 y5_0 y5_1 y5_2 =>
   exact Mach.okF0 [0] (kKg 1 (Zc0 c5 [0] 4) w5) (bQ <| bE)
  | r1 y5_0 y5_1 =>
   exact Mach.okF0 [0] (kKg 1 (Zc1 c5 [0] 4) w5) (bQ <| bE)
 refine ok_ite (fun g4 => ?_) fun g4 => ?_
 ·
  refine ok_ite (fun _ => ok_none) (fun g5 => ?_);have w6 := bhT g4 <| bhF g3 <| bhF g2 <| bkF ((L0.getD a4.toNat RI.z).a0) 18 <| bkF ((L0.getD a4.toNat RI.z).a0) 17 <| bkF ((L0.getD a4.toNat RI.z).a0) 16 <| bkF ((L0.getD a4.toNat RI.z).a0) 15 <| bhN g5 <| bhT g4 <| bhF g3 w3
  refine ok_bind fun z6 c6 => ?_;cases z6 with
  | r0 y6_0 y6_1 y6_2 =>
   exact Mach.okF0 [0] (kKg 1 (Zc0 c6 [0] 4) w6) (bQ <| bE)
  | r1 y6_0 y6_1 =>
   exact Mach.okF0 [0] (kKg 1 (Zc1 c6 [0] 4) w6) (bQ <| bE)
 have w5 := bhF g4 <| bhF g3 w3
 refine ok_ite (fun g5 => ?_) fun g5 => ?_
 ·
  refine ok_ite (fun _ => ok_none) (fun g6 => ?_);have w7 := bhT g5 <| bhF g4 <| bhF g3 <| bhF g2 <| bkF ((L0.getD a4.toNat RI.z).a0) 18 <| bkF ((L0.getD a4.toNat RI.z).a0) 17 <| bkF ((L0.getD a4.toNat RI.z).a0) 16 <| bkF ((L0.getD a4.toNat RI.z).a0) 15 <| bhN g6 <| bhT g5 w5
  refine ok_bind fun z7 c7 => ?_;cases z7 with
  | r0 y7_0 y7_1 y7_2 =>
   exact Mach.okF0 [0] (kKg 1 (Zc0 c7 [0] 4) w7) (bQ <| bE)
  | r1 y7_0 y7_1 =>
   exact Mach.okF0 [0] (kKg 1 (Zc1 c7 [0] 4) w7) (bQ <| bE)
 refine ok_ite (fun g6 => ?_) fun g6 => ?_
 ·
  refine ok_ite (fun _ => ok_none) (fun g7 => ?_);refine ok_bind fun z8 c8 => ?_;cases z8 with
  | r0 y8_0 y8_1 =>
   exact Mach.okF0 [0] (kKg 1 (tQ (Zhe c8) 4) <| bhF g5 <| bhF g4 <| bhF g3 <| bhF g2 <| bkF ((L0.getD a4.toNat RI.z).a0) 18 <| bkF ((L0.getD a4.toNat RI.z).a0) 17 <| bkF ((L0.getD a4.toNat RI.z).a0) 16 <| bkF ((L0.getD a4.toNat RI.z).a0) 15 <| bhN g7 <| bhT g6 <| bhF g5 w5) (bQ <| bE)
 refine ok_ite (fun g7 => ?_) fun g7 => ?_
 · refine ok_ite (fun _ => ok_none) (fun g8 => ?_);exact okN [0, 1, 2, 6] [some (ms RB L0), some (vi a1), some (vs 0 0 L8.length L8.length), some (vi (i64.wrap (a9 - 2000))), some (vp 1 0), some (vp 2 0), some (ms eI v4), some (vs 6 0 1 1), some (vi 1)] (bhT g7 <| bhN g8 <| bhT g7 <| bhF g6 <| bhF g5 w5) (tC (tC (tC (tC (tC (tC (tC (tC (tC (tE) ⟨Eq.trans (show κN = vi 1 from ci) (by rfl), by rfl⟩))))))))) (bQ <| bM (.cells (ZaR RA 8 [ms RC L2] L3 [vi (i64.wrap (a4 + 1)), ms RA L5, vi a6, vi a7]) 153) <| bM κb <| bC (o := .cells [vi a4, vq, ms RC L2, vi (L3.getD 0 RG.z).a0, vi (L3.getD 0 RG.z).a1, vi (L3.getD 1 RG.z).a0, vi (L3.getD 1 RG.z).a1, vi (L3.getD 2 RG.z).a0, vi (L3.getD 2 RG.z).a1, vi (L3.getD 3 RG.z).a0, vi (L3.getD 3 RG.z).a1, vi (L3.getD 4 RG.z).a0, vi (L3.getD 4 RG.z).a1, vi (L3.getD 5 RG.z).a0, vi (L3.getD 5 RG.z).a1, vi (L3.getD 6 RG.z).a0, vi (L3.getD 6 RG.z).a1, vi (L3.getD 7 RG.z).a0, vi (L3.getD 7 RG.z).a1, vi a4, ms RA L5, vi a6, vi a7] 218) (Zz (E := ZaQ) _ (L := ([(ZjV L3 a4 0 L2 a4 L5 a6 a7 : R_iiDiiiiiiiiiiiiiiiiiAii)] : List R_iiDiiiiiiiiiiiiiiiiiAii)) _ (show ([vi a4, vq, ms RC L2, vi (L3.getD 0 RG.z).a0, vi (L3.getD 0 RG.z).a1, vi (L3.getD 1 RG.z).a0, vi (L3.getD 1 RG.z).a1, vi (L3.getD 2 RG.z).a0, vi (L3.getD 2 RG.z).a1, vi (L3.getD 3 RG.z).a0, vi (L3.getD 3 RG.z).a1, vi (L3.getD 4 RG.z).a0, vi (L3.getD 4 RG.z).a1, vi (L3.getD 5 RG.z).a0, vi (L3.getD 5 RG.z).a1, vi (L3.getD 6 RG.z).a0, vi (L3.getD 6 RG.z).a1, vi (L3.getD 7 RG.z).a0, vi (L3.getD 7 RG.z).a1, vi a4, ms RA L5, vi a6, vi a7] : List Value) = Za ZaQ ([(ZjV L3 a4 0 L2 a4 L5 a6 a7 : R_iiDiiiiiiiiiiiiiiiiiAii)] : List R_iiDiiiiiiiiiiiiiiiiiAii) from rfl)) <| bE)
 refine ok_ite (fun _ => ok_none) (fun g8 => ?_);have w9 := bhF g7 <| bhN g8 <| bhF g7 <| bhF g6 <| bhF g5 w5
 refine ok_ite (fun _ => ok_none) (fun g9 => ?_);refine ok_ite (fun _ => ok_none) (fun g10 => ?_);refine ok_ite (fun g11 => ?_) fun g11 => ?_
 ·
  refine ok_bind fun z12 c12 => ?_;cases z12 with
  | r0 =>
   exact Mach.okF0 [0] (kKg 1 (tQ (ZwI c12) 4) <| bhT g11 <| bhF g10 <| bhF g9 w9) (bQ <| bE)
 refine ok_bind fun z12 c12 => ?_;cases z12 with
 | r0 y12_0 y12_1 =>
  exact Mach.okF0 [0] (kKg 1 (tQ (Zhe c12) 4) <| bhF g5 <| bhF g4 <| bhF g3 <| bhF g2 <| bhF g11 <| bhF g10 <| bhF g9 w9) (bQ <| bE)

theorem ZqD (a9 v3 : Int) (v4 : List Int) (v6 : Nat) (v7 : List RJ) (v8 : List RG) (v9 v11 v12 : Int) (N : Nat) : (Zgv L0 a1 L2 L3 a4 L5 a6 a7 L8 a9 N).Ok Tryz.prog Ze (.h1m1 v3 v4 v6 v7 v8 v9 v11 v12 : ref20_blockX) (Za7 L0 a1 L2 L3 a4 L5 a6 a7 L8 a9 N v3 v4 v6 v7 v8 v9 v11 v12) := by
 unfold Za7;refine oi fun g0 => ?_;refine oi fun g1 => ?_;refine oi fun g2 => ?_;have w3 := tL 1 (RB.cel (L0.getD (v9).toNat RI.z)) <| kG RB L0 (0 + ((v9).toNat * 4)) ((v9).toNat) 0 4 4 <| kB (v9).toNat L0.length <| xkI v9 ((v9).toNat) <| bhY g0 Zg
 refine ok_ite (fun g3 => ?_) fun g3 => ?_
 ·
  refine ok_ite (fun _ => ok_none) (fun g4 => ?_);have w5 := bhT g3 <| bkF ((L0.getD (v9).toNat RI.z).a0) 18 <| bkF ((L0.getD (v9).toNat RI.z).a0) 17 <| bkF ((L0.getD (v9).toNat RI.z).a0) 16 <| bkF ((L0.getD (v9).toNat RI.z).a0) 15 <| bhN g4 <| bhT g3 w3
  refine ok_bind fun z5 c5 => ?_;cases z5 with
  | r0 y5_0 y5_1 y5_2 =>
   exact Mach.okN0 [0, 1, 2, 3] (tV 1 <| kW ((v6 : Int) + 1) (((v6 + 1) : Nat) : Int) <| kKg 1 (Zc0 c5 [0] 5) w5) (bQ <| bM (.cells (ZaR RA 8 [ms RC y5_0] y5_1 [vi (i64.wrap (v9 + 1)), ms RA L5, vi (i64.wrap (v11 + 1)), vi y5_2]) 153) <| bM κb <| bR <| bE)
  | r1 y5_0 y5_1 =>
   exact Mach.okN0 [0, 1, 2, 3] (tV 1 <| kW ((v6 : Int) + 1) (((v6 + 1) : Nat) : Int) <| kKg 1 (Zc1 c5 [0] 5) w5) (bQ <| bM (.cells (ZaR RA 8 [ms RC y5_0] y5_1 [vi (i64.wrap (v9 + 1)), ms RA L5, vi v11, vi v12]) 153) <| bM κb <| bR <| bE)
 refine ok_ite (fun g4 => ?_) fun g4 => ?_
 ·
  refine ok_ite (fun _ => ok_none) (fun g5 => ?_);have w6 := bhT g4 <| bhF g3 <| bkF ((L0.getD (v9).toNat RI.z).a0) 18 <| bkF ((L0.getD (v9).toNat RI.z).a0) 17 <| bkF ((L0.getD (v9).toNat RI.z).a0) 16 <| bkF ((L0.getD (v9).toNat RI.z).a0) 15 <| bhN g5 <| bhT g4 <| bhF g3 w3
  refine ok_bind fun z6 c6 => ?_;cases z6 with
  | r0 y6_0 y6_1 y6_2 =>
   exact Mach.okN0 [0, 1, 2, 3] (tV 1 <| kW ((v6 : Int) + 1) (((v6 + 1) : Nat) : Int) <| kKg 1 (Zc0 c6 [0] 5) w6) (bQ <| bM (.cells (ZaR RA 8 [ms RC y6_0] y6_1 [vi (i64.wrap (v9 + 1)), ms RA L5, vi (i64.wrap (v11 + 1)), vi y6_2]) 153) <| bM κb <| bR <| bE)
  | r1 y6_0 y6_1 =>
   exact Mach.okN0 [0, 1, 2, 3] (tV 1 <| kW ((v6 : Int) + 1) (((v6 + 1) : Nat) : Int) <| kKg 1 (Zc1 c6 [0] 5) w6) (bQ <| bM (.cells (ZaR RA 8 [ms RC y6_0] y6_1 [vi (i64.wrap (v9 + 1)), ms RA L5, vi v11, vi v12]) 153) <| bM κb <| bR <| bE)
 have w5 := bhF g4 <| bhF g3 w3
 refine ok_ite (fun g5 => ?_) fun g5 => ?_
 ·
  refine ok_ite (fun _ => ok_none) (fun g6 => ?_);have w7 := bhT g5 <| bhF g4 <| bhF g3 <| bkF ((L0.getD (v9).toNat RI.z).a0) 18 <| bkF ((L0.getD (v9).toNat RI.z).a0) 17 <| bkF ((L0.getD (v9).toNat RI.z).a0) 16 <| bkF ((L0.getD (v9).toNat RI.z).a0) 15 <| bhN g6 <| bhT g5 w5
  refine ok_bind fun z7 c7 => ?_;cases z7 with
  | r0 y7_0 y7_1 y7_2 =>
   exact Mach.okN0 [0, 1, 2, 3] (tV 1 <| kW ((v6 : Int) + 1) (((v6 + 1) : Nat) : Int) <| kKg 1 (Zc0 c7 [0] 5) w7) (bQ <| bM (.cells (ZaR RA 8 [ms RC y7_0] y7_1 [vi (i64.wrap (v9 + 1)), ms RA L5, vi (i64.wrap (v11 + 1)), vi y7_2]) 153) <| bM κb <| bR <| bE)
  | r1 y7_0 y7_1 =>
   exact Mach.okN0 [0, 1, 2, 3] (tV 1 <| kW ((v6 : Int) + 1) (((v6 + 1) : Nat) : Int) <| kKg 1 (Zc1 c7 [0] 5) w7) (bQ <| bM (.cells (ZaR RA 8 [ms RC y7_0] y7_1 [vi (i64.wrap (v9 + 1)), ms RA L5, vi v11, vi v12]) 153) <| bM κb <| bR <| bE)
 refine ok_ite (fun g6 => ?_) fun g6 => ?_
 ·
  refine ok_ite (fun _ => ok_none) (fun g7 => ?_);have w8 := bhT g6 <| bhF g5 <| bhF g4 <| bhF g3 <| bkF ((L0.getD (v9).toNat RI.z).a0) 18 <| bkF ((L0.getD (v9).toNat RI.z).a0) 17 <| bkF ((L0.getD (v9).toNat RI.z).a0) 16 <| bkF ((L0.getD (v9).toNat RI.z).a0) 15 <| bhN g7 <| bhT g6 <| bhF g5 w5
  refine ok_bind fun z8 c8 => ?_;cases z8 with
  | r0 y8_0 y8_1 y8_2 =>
   exact Mach.okN0 [0, 1, 2, 3] (tV 1 <| kW ((v6 : Int) + 1) (((v6 + 1) : Nat) : Int) <| kKg 1 (Zc0 c8 [0] 5) w8) (bQ <| bM (.cells (ZaR RA 8 [ms RC y8_0] y8_1 [vi (i64.wrap (v9 + 1)), ms RA L5, vi (i64.wrap (v11 + 1)), vi y8_2]) 153) <| bM κb <| bR <| bE)
  | r1 y8_0 y8_1 =>
   exact Mach.okN0 [0, 1, 2, 3] (tV 1 <| kW ((v6 : Int) + 1) (((v6 + 1) : Nat) : Int) <| kKg 1 (Zc1 c8 [0] 5) w8) (bQ <| bM (.cells (ZaR RA 8 [ms RC y8_0] y8_1 [vi (i64.wrap (v9 + 1)), ms RA L5, vi v11, vi v12]) 153) <| bM κb <| bR <| bE)
 refine ok_ite (fun g7 => ?_) fun g7 => ?_
 ·
  refine ok_ite (fun _ => ok_none) (fun g8 => ?_);refine ok_bind fun z9 c9 => ?_;cases z9 with
  | r0 y9_0 y9_1 =>
   exact Mach.okN0 [0, 1, 2, 3] (tV 1 <| kW ((v6 : Int) + 1) (((v6 + 1) : Nat) : Int) <| kKg 1 (tQ (Zhe c9) 5) <| bhF g6 <| bhF g5 <| bhF g4 <| bhF g3 <| bkF ((L0.getD (v9).toNat RI.z).a0) 18 <| bkF ((L0.getD (v9).toNat RI.z).a0) 17 <| bkF ((L0.getD (v9).toNat RI.z).a0) 16 <| bkF ((L0.getD (v9).toNat RI.z).a0) 15 <| bhN g8 <| bhT g7 <| bhF g6 <| bhF g5 w5) (bQ <| bM (.cells (ZaR RA 8 [ms RC v7] y9_0 [vi y9_1, ms RA L5, vi v11, vi v12]) 153) <| bM κb <| bR <| bE)
 have w8 := bhF g7 <| bhF g6 <| bhF g5 w5
 refine ok_ite (fun _ => ok_none) (fun g8 => ?_);refine ok_ite (fun _ => ok_none) (fun g9 => ?_);have w10 := bhF g8 <| bhN g9 <| bhF g8 w8
 refine ok_ite (fun _ => ok_none) (fun g10 => ?_);refine ok_ite (fun g11 => ?_) fun g11 => ?_
 · exact Mach.okF0 [0] (bhT g11 <| bhF g10 w10) (bQ <| bE)
 refine ok_ite (fun g12 => ?_) fun g12 => ?_
 ·
  refine ok_bind fun z13 c13 => ?_;cases z13 with
  | r0 =>
   exact Mach.okF0 [0] (kKg 1 (Zt3 c13 [3] 5) <| bhT g12 <| bhF g11 <| bhF g10 w10) (bQ <| bE)
 refine ok_bind fun z13 c13 => ?_;cases z13 with
 | r0 y13_0 y13_1 =>
  exact Mach.okN0 [0, 1, 2, 3] (tV 1 <| kW ((v6 : Int) + 1) (((v6 + 1) : Nat) : Int) <| kKg 1 (tQ (Zhe c13) 5) <| bhF g6 <| bhF g5 <| bhF g4 <| bhF g3 <| bhF g12 <| bhF g11 <| bhF g10 w10) (bQ <| bM (.cells (ZaR RA 8 [ms RC v7] y13_0 [vi y13_1, ms RA L5, vi v11, vi v12]) 153) <| bM κb <| bR <| bE)

noncomputable abbrev κF (L2 : List RJ) (L3 : List RG) (a4 : Int) (L5 : List RG) (a6 a7 : Int) := ([ms RC L2] ++ (rv8 L3 ++ [vi a4, ms RA L5, vi a6, vi a7]))
theorem ZuX (a9 : Int) (N : Nat) : (Zgv L0 a1 L2 L3 a4 L5 a6 a7 L8 a9 N).Enter Tryz.prog Ze #[ms RB L0, vi a1, Value.agg (List.toArray (κF L2 L3 a4 L5 a6 a7)), vs 0 0 L8.length L8.length, vi a9] (Zha L0 a1 L2 L3 a4 L5 a6 a7 L8 a9 N) := by
 unfold Zha;refine en_bind (fun z0 c0 => ?_);cases z0 with
 | r0 =>
  exact en_none
 | r1 y0_0 =>
  exact Mach.enH0 [0, 1, 2] (kKg 1 (tQ (Zw4 c0) 3) Zg) (bQ <| bM (.cells (ZaR RA 8 [ms RC L2] L3 [vi a4, ms RA L5, vi a6, vi a7]) 153) <| bM κb <| bE)

theorem ZrY (a9 : Int) (N : Nat) (r : ZH) (h : ZfK L0 a1 L2 L3 a4 L5 a6 a7 L8 a9 N = some r) : LSpec Tryz.prog 125 #[ms RB L0, vi a1, Value.agg (List.toArray (κF L2 L3 a4 L5 a6 a7)), vs 0 0 L8.length L8.length, vi a9] (κbA L8) (Zpx L0 a1 L2 L3 a4 L5 a6 a7 L8 a9 r) (ZnS L0 a1 L2 L3 a4 L5 a6 a7 L8 a9 r) :=
 Mach.specT Zv (Zgv L0 a1 L2 L3 a4 L5 a6 a7 L8 a9 N) Tryz.func125 (fun x => (show (Zgv L0 a1 L2 L3 a4 L5 a6 a7 L8 a9 N).Ok Tryz.prog Ze x (ZdE L0 a1 L2 L3 a4 L5 a6 a7 L8 a9 N x) from by
  cases x with
  | h1m0 v4 => exact ZqC L0 a1 L2 L3 a4 L5 a6 a7 L8 a9 v4 N
  | h1m1 v3 v4 v6 v7 v8 v9 v11 v12 => exact ZqD L0 a1 L2 L3 a4 L5 a6 a7 L8 a9 v3 v4 v6 v7 v8 v9 v11 v12 N
  )) (ZuX L0 a1 L2 L3 a4 L5 a6 a7 L8 a9 N) h

noncomputable def ZwK {L0 : List RI} {a1 : Int} {L2 : List RJ} {L3 : List RG} {a4 : Int} {L5 : List RG} {a6 a7 : Int} {L8 : List RG} {a9 : Int} {w1 : List RJ} {w2 : List RG} {w3 w5 w6 : Int} {w8 : Bool} {w9 : Int} {N : Nat} (h : ZfK L0 a1 L2 L3 a4 L5 a6 a7 L8 a9 N = some (.r0 w1 w2 w3 w5 w6 w8 w9)) (ks : List Nat) (n : Nat) : ToldS := ⟨#[ms RB L0, vi a1, Value.agg (List.toArray (κF L2 L3 a4 L5 a6 a7)), vs (nth ks 0) 0 L8.length L8.length, vi a9], [((nth ks 0), .cells (Za RA L8) 44 true)], Value.tuple #[Value.agg (List.toArray ([ms RC w1] ++ (rv8 w2 ++ [vi w3, ms RA L5, vi w5, vi w6]))), vq, Value.bool w8, vi w9], [], 0⟩

theorem ZwL {L0 : List RI} {a1 : Int} {L2 : List RJ} {L3 : List RG} {a4 : Int} {L5 : List RG} {a6 a7 : Int} {L8 : List RG} {a9 : Int} {w1 : List RJ} {w2 : List RG} {w3 w5 w6 : Int} {w8 : Bool} {w9 : Int} {N : Nat} (h : ZfK L0 a1 L2 L3 a4 L5 a6 a7 L8 a9 N = some (.r0 w1 w2 w3 w5 w6 w8 w9)) (ks : List Nat) (n : Nat) (hk : ks.length = 1 := by rfl) (hnd : ks.Nodup := by decide +kernel) (hlt : ∀ k ∈ ks, k < n := by decide +kernel) : (ZwK (N := N)  h ks n).P Tryz.prog 125 n :=
 match ks, hk, hnd, hlt with
 | [k0], _, hnd, hlt => Zci (show LSpec Tryz.prog 125 #[ms RB L0, vi a1, Value.agg (List.toArray (κF L2 L3 a4 L5 a6 a7)), vs 0 0 L8.length L8.length, vi a9] (κbA L8) (Value.tuple #[Value.agg (List.toArray ([ms RC w1] ++ (rv8 w2 ++ [vi w3, ms RA L5, vi w5, vi w6]))), vq, Value.bool w8, vi w9]) [some (κbz L8)] from ZrY L0 a1 L2 L3 a4 L5 a6 a7 L8 a9 N _ h) _ n [] hnd hlt

noncomputable def Zpy (L0 : List RI) (a1 : Int) (L2 : List RJ) (L3 : List RG) (a4 : Int) (L5 : List RG) (a6 a7 : Int) (L8 : List RG) : Zgm → Value
 | .r0 w1 w2 w3 w5 w6 w8 => Value.tuple #[Value.agg (List.toArray ([ms RC w1] ++ (rv8 w2 ++ [vi w3, ms RA L5, vi w5, vi w6]))), vq, Value.bool w8]
noncomputable def ZnT (L0 : List RI) (a1 : Int) (L2 : List RJ) (L3 : List RG) (a4 : Int) (L5 : List RG) (a6 a7 : Int) (L8 : List RG) : Zgm → List (Option AObj)
 | .r0 w1 w2 w3 w5 w6 w8 => [some (κbz L8)]

theorem ZuY (N : Nat) : Fx Tryz.prog Ze Tryz.f103 (κbA L8) #[ms RB L0, vi a1, Value.agg (List.toArray (κF L2 L3 a4 L5 a6 a7)), vs 0 0 L8.length L8.length] (Zpy L0 a1 L2 L3 a4 L5 a6 a7 L8) (ZnT L0 a1 L2 L3 a4 L5 a6 a7 L8) (ZaP L0 a1 L2 L3 a4 L5 a6 a7 L8 N) := by
 unfold ZaP;refine Zx (fun z0 c0 => ?_);cases z0 with
 | r0 y0_0 y0_1 y0_2 y0_3 y0_4 y0_5 y0_6 =>
  exact Zq [0] (kKg 1 (ZwL c0 [0] 3) Zg) (bQ <| bE)

theorem ZrZ (N : Nat) (r : Zgm) (h : ZaP L0 a1 L2 L3 a4 L5 a6 a7 L8 N = some r) : LSpec Tryz.prog 103 #[ms RB L0, vi a1, Value.agg (List.toArray (κF L2 L3 a4 L5 a6 a7)), vs 0 0 L8.length L8.length] (κbA L8) (Zpy L0 a1 L2 L3 a4 L5 a6 a7 L8 r) (ZnT L0 a1 L2 L3 a4 L5 a6 a7 L8 r) :=
 ZI Zv Tryz.func103 (by kernel_rfl) (by kernel_rfl) (fun r => by cases r <;> exact ZP _ rfl) (ZuY L0 a1 L2 L3 a4 L5 a6 a7 L8 N) h

end
noncomputable def ZwM {L0 : List RI} {a1 : Int} {L2 : List RJ} {L3 : List RG} {a4 : Int} {L5 : List RG} {a6 a7 : Int} {L8 : List RG} {w1 : List RJ} {w2 : List RG} {w3 w5 w6 : Int} {w8 : Bool} {N : Nat} (h : ZaP L0 a1 L2 L3 a4 L5 a6 a7 L8 N = some (.r0 w1 w2 w3 w5 w6 w8)) (ks : List Nat) (n : Nat) : ToldS := ⟨#[ms RB L0, vi a1, Value.agg (List.toArray (κF L2 L3 a4 L5 a6 a7)), vs (nth ks 0) 0 L8.length L8.length], [((nth ks 0), .cells (Za RA L8) 44 true)], Value.tuple #[Value.agg (List.toArray ([ms RC w1] ++ (rv8 w2 ++ [vi w3, ms RA L5, vi w5, vi w6]))), vq, Value.bool w8], [], 0⟩

theorem ZwN {L0 : List RI} {a1 : Int} {L2 : List RJ} {L3 : List RG} {a4 : Int} {L5 : List RG} {a6 a7 : Int} {L8 : List RG} {w1 : List RJ} {w2 : List RG} {w3 w5 w6 : Int} {w8 : Bool} {N : Nat} (h : ZaP L0 a1 L2 L3 a4 L5 a6 a7 L8 N = some (.r0 w1 w2 w3 w5 w6 w8)) (ks : List Nat) (n : Nat) (hk : ks.length = 1 := by rfl) (hnd : ks.Nodup := by decide +kernel) (hlt : ∀ k ∈ ks, k < n := by decide +kernel) : (ZwM (N := N)  h ks n).P Tryz.prog 103 n :=
 match ks, hk, hnd, hlt with
 | [k0], _, hnd, hlt => Zci (show LSpec Tryz.prog 103 #[ms RB L0, vi a1, Value.agg (List.toArray (κF L2 L3 a4 L5 a6 a7)), vs 0 0 L8.length L8.length] (κbA L8) (Value.tuple #[Value.agg (List.toArray ([ms RC w1] ++ (rv8 w2 ++ [vi w3, ms RA L5, vi w5, vi w6]))), vq, Value.bool w8]) [some (κbz L8)] from ZrZ L0 a1 L2 L3 a4 L5 a6 a7 L8 N _ h) _ n [] hnd hlt

noncomputable def Zrl (L0 : List (List RI)) (L1 : List RL) (L2 : List RJ) (a3 a4 a5 a6 : Int) (L7 L8 L9 : List RG) : ZgR → Value
 | .r0 w1 w2 w3 w5 w6 w8 => Value.tuple #[Value.agg (List.toArray ([ms RC w1] ++ (rv8 w2 ++ [vi w3, ms RA L8, vi w5, vi w6]))), vq, Value.bool w8]
noncomputable def Zpz (L0 : List (List RI)) (L1 : List RL) (L2 : List RJ) (a3 a4 a5 a6 : Int) (L7 L8 L9 : List RG) : ZgR → List (Option AObj)
 | .r0 w1 w2 w3 w5 w6 w8 => [some (.cells (Za RA L9) 44 true)]

noncomputable abbrev κbB (L9 : List RG) := [AObj.cells (Za RA L9) 44 true]
section
variable (a4 a5 a6 : Int) (L7 L8 : List RG)
noncomputable abbrev κS := ([vi a4, vi a5, vi a6] ++ (rv8 L7 ++ [ms RA L8]))
end
section
variable (L0 : List (List RI)) (L1 : List RL) (L2 : List RJ) (a3 a4 a5 a6 : Int) (L7 L8 : List RG)
theorem ZwO (L9 : List RG) (N : Nat) : Fx Tryz.prog Ze Tryz.f76 (κbB L9) #[Value.agg (κd L0 L1 L2), vi a3, Value.agg (List.toArray (κS a4 a5 a6 L7 L8)), vs 0 0 L9.length L9.length] (Zrl L0 L1 L2 a3 a4 a5 a6 L7 L8 L9) (Zpz L0 L1 L2 a3 a4 a5 a6 L7 L8 L9) (ZeK L0 L1 L2 a3 a4 a5 a6 L7 L8 L9 N) := by
 unfold ZeK;refine Zb (fun g0 => ?_) (fun _ => Zd);refine Zb (fun g1 => ?_) (fun _ => Zd);refine Zb (fun g2 => ?_) (fun _ => Zd);refine Zb (fun g3 => ?_) (fun _ => Zd);refine Zb (fun g4 => ?_) (fun _ => Zd);refine Zx (fun z5 c5 => ?_);cases z5 with
 | r0 y5_0 y5_1 y5_2 y5_3 y5_4 y5_5 =>
  exact Zq [0] (kKg 4 (ZwN c5 [0] 6) <| tL 2 ([(mc RB (L0.getD a3.toNat []))]) <| kG (Zm RB) L0 (0 + (a3.toNat * 1)) (a3.toNat) 0 1 1 <| kB a3.toNat L0.length <| xkI a3 (a3.toNat) <| bhT g4 <| tL 1 (RB.cel ((L0.getD a3.toNat []).getD a6.toNat RI.z)) <| kG RB (L0.getD a3.toNat []) (0 + (a6.toNat * 4)) (a6.toNat) 0 4 4 <| kB a6.toNat (L0.getD a3.toNat []).length <| xkI a6 (a6.toNat) <| tL 5 ([(mc RB (L0.getD a3.toNat []))]) <| kG (Zm RB) L0 (0 + (a3.toNat * 1)) (a3.toNat) 0 1 1 <| kB a3.toNat L0.length <| xkI a3 (a3.toNat) Zg) (bQ <| bE)

theorem Zt4 (L9 : List RG) (N : Nat) (r : ZgR) (h : ZeK L0 L1 L2 a3 a4 a5 a6 L7 L8 L9 N = some r) : LSpec Tryz.prog 76 #[Value.agg (κd L0 L1 L2), vi a3, Value.agg (List.toArray (κS a4 a5 a6 L7 L8)), vs 0 0 L9.length L9.length] (κbB L9) (Zrl L0 L1 L2 a3 a4 a5 a6 L7 L8 L9 r) (Zpz L0 L1 L2 a3 a4 a5 a6 L7 L8 L9 r) :=
 ZI Zv Tryz.func76 (by kernel_rfl) (by kernel_rfl) (fun r => by cases r <;> exact ZP _ rfl) (ZwO L0 L1 L2 a3 a4 a5 a6 L7 L8 L9 N) h

noncomputable def Zz2 {L0 : List (List RI)} {L1 : List RL} {L2 : List RJ} {a3 a4 a5 a6 : Int} {L7 L8 L9 : List RG} {w1 : List RJ} {w2 : List RG} {w3 w5 w6 : Int} {w8 : Bool} {N : Nat} (h : ZeK L0 L1 L2 a3 a4 a5 a6 L7 L8 L9 N = some (.r0 w1 w2 w3 w5 w6 w8)) (ks : List Nat) (n : Nat) : ToldS := ⟨#[Value.agg (κd L0 L1 L2), vi a3, Value.agg (List.toArray (κS a4 a5 a6 L7 L8)), vs (nth ks 0) 0 L9.length L9.length], [((nth ks 0), .cells (Za RA L9) 44 true)], Value.tuple #[Value.agg (List.toArray ([ms RC w1] ++ (rv8 w2 ++ [vi w3, ms RA L8, vi w5, vi w6]))), vq, Value.bool w8], [], 0⟩

theorem Zz3 {L0 : List (List RI)} {L1 : List RL} {L2 : List RJ} {a3 a4 a5 a6 : Int} {L7 L8 L9 : List RG} {w1 : List RJ} {w2 : List RG} {w3 w5 w6 : Int} {w8 : Bool} {N : Nat} (h : ZeK L0 L1 L2 a3 a4 a5 a6 L7 L8 L9 N = some (.r0 w1 w2 w3 w5 w6 w8)) (ks : List Nat) (n : Nat) (hk : ks.length = 1 := by rfl) (hnd : ks.Nodup := by decide +kernel) (hlt : ∀ k ∈ ks, k < n := by decide +kernel) : (Zz2 (N := N)  h ks n).P Tryz.prog 76 n :=
 match ks, hk, hnd, hlt with
 | [k0], _, hnd, hlt => Zci (show LSpec Tryz.prog 76 #[Value.agg (κd L0 L1 L2), vi a3, Value.agg (List.toArray (κS a4 a5 a6 L7 L8)), vs 0 0 L9.length L9.length] (κbB L9) (Value.tuple #[Value.agg (List.toArray ([ms RC w1] ++ (rv8 w2 ++ [vi w3, ms RA L8, vi w5, vi w6]))), vq, Value.bool w8]) [some (.cells (Za RA L9) 44 true)] from Zt4 L0 L1 L2 a3 a4 a5 a6 L7 L8 L9 N _ h) _ n [] hnd hlt

noncomputable def Zp0 (L0 : List (List RI)) (L1 : List RL) (L2 : List RJ) (a3 a4 a5 a6 : Int) (L7 L8 : List RG) : Zdu → Value
 | .r0 => Value.agg #[ms (Zm RB) L0, vs 0 0 L1.length L1.length, ms RC L2]
noncomputable def ZnU (L0 : List (List RI)) (L1 : List RL) (L2 : List RJ) (a3 a4 a5 a6 : Int) (L7 L8 : List RG) : Zdu → List (Option AObj)
 | .r0 => [some (.cells (Za RE (L1.set a3.toNat (Zg2 L7 a4 a5 a6 L8 : RL))) 65)]

noncomputable def Zrm : Zdu → Value
 | .r0 => Value.agg #[ms (Zm RB) L0, ms RE (L1.set a3.toNat (Zg2 L7 a4 a5 a6 L8 : RL)), ms RC L2]
noncomputable def Zp1 : Zdu → List (Option AObj)
 | .r0 => []

noncomputable abbrev κbu (L1 : List RL) := (Za RE L1)
theorem ZwP (N : Nat) : Fx Tryz.prog Ze Tryz.f49 [] #[Value.agg (κd L0 L1 L2), vi a3, Value.agg (List.toArray (κS a4 a5 a6 L7 L8))] (Zp0 L0 L1 L2 a3 a4 a5 a6 L7 L8) (ZnU L0 L1 L2 a3 a4 a5 a6 L7 L8) (ZcM L0 L1 L2 a3 a4 a5 a6 L7 L8 N) := by unfold ZcM;refine Zb (fun _ => Zd) (fun g0 => ?_);refine Zb (fun g1 => ?_) (fun _ => Zd);refine Zb (fun g2 => ?_) (fun _ => Zd);refine Zb (fun g3 => ?_) (fun _ => Zd);exact fxC [4] (Value.agg #[ms (Zm RB) L0, vs 4 0 (0 + L1.length) (0 + L1.length), ms RC L2]) (tW 0 (.st (Za RE (L1.set a3.toNat (Zg2 L7 a4 a5 a6 L8 : RL)))) <| kC (Zbi (E := RE) (L := L1) (i := a3.toNat) (q := 0) (l := [vi a4, vi a5, vi a6, vi (L7.getD 0 RG.z).a0, vi (L7.getD 0 RG.z).a1, vi (L7.getD 1 RG.z).a0, vi (L7.getD 1 RG.z).a1, vi (L7.getD 2 RG.z).a0, vi (L7.getD 2 RG.z).a1, vi (L7.getD 3 RG.z).a0, vi (L7.getD 3 RG.z).a1, vi (L7.getD 4 RG.z).a0, vi (L7.getD 4 RG.z).a1, vi (L7.getD 5 RG.z).a0, vi (L7.getD 5 RG.z).a1, vi (L7.getD 6 RG.z).a0, vi (L7.getD 6 RG.z).a1, vi (L7.getD 7 RG.z).a0, vi (L7.getD 7 RG.z).a1, ms RA L8]) (Zg2 L7 a4 a5 a6 L8 : RL) (by omega) (show (0 + (a3.toNat * 20)) = a3.toNat * 20 + 0 from by omega) (show 0 + 20 ≤ 20 from by decide) rfl) <| kB a3.toNat (0 + L1.length) <| xkI a3 (a3.toNat) <| tW 1 (.ap L1.length (κbu L1) (κbu L1)) <| kX (dP ((L1.length = L1.length ∧ ((L1.length * 20 = 0 ∧ (κbu L1) = []) ∨ ∃ c, L1.length * 20 ≠ 0 ∧ ZS (code (Z9 RE L1)) 0 (L1.length * 20) = some c ∧ (κbu L1) = Zl c)) ∧ 0 < L1.length ∧ L1.length ≤ 100000 ∧ 0 < 0 + L1.length ∧ 0 ≤ 100000 ∧ 0 * 20 ≤ (List.length []) ∧ List.take (0 * 20) [] ++ (κbu L1) = (κbu L1))) true (Zn ⟨⟨rfl, (Zc4 (E := RE) (L := L1) (n := L1.length) (size := 20) rfl (by decide) (by omega))⟩, by omega, by omega, ltA, by omega, (Zas (E := RE) (L := ([] : List RL)) (M := L1) (n := 0) (show _ = _ * 20 from rfl) ltA (R := L1) (by rw [List.take_of_length_le ltA]; rfl))⟩) Zg) (bR <| bE) (hv := ⟨Eq.trans (show (Value.agg #[ms (Zm RB) L0, vs 0 0 L1.length L1.length, ms RC L2] : Value) = Value.agg #[ms (Zm RB) L0, vs 0 0 (0 + L1.length) (0 + L1.length), ms RC L2] from (ZbU (cr (Zw (Zi rfl eqA eqA) (cr rfl))))) (by rfl), by rfl⟩)

theorem Zsa (N : Nat) (r : Zdu) (h : ZcM L0 L1 L2 a3 a4 a5 a6 L7 L8 N = some r) : LSpec Tryz.prog 49 #[Value.agg (κd L0 L1 L2), vi a3, Value.agg (List.toArray (κS a4 a5 a6 L7 L8))] [] (Zp0 L0 L1 L2 a3 a4 a5 a6 L7 L8 r) (ZnU L0 L1 L2 a3 a4 a5 a6 L7 L8 r) :=
 ZI Zv Tryz.func49 (by kernel_rfl) (by kernel_rfl) (fun r => by cases r <;> exact ZP _ rfl) (ZwP L0 L1 L2 a3 a4 a5 a6 L7 L8 N) h

theorem Zt5 (N : Nat) (r : Zdu) (h : ZcM L0 L1 L2 a3 a4 a5 a6 L7 L8 N = some r) : LSpec Tryz.prog 49 #[Value.agg (κd L0 L1 L2), vi a3, Value.agg (List.toArray (κS a4 a5 a6 L7 L8))] [] (Zrm L0 L1 L2 a3 a4 a5 a6 L7 L8 r) (Zp1 r) := by
 have h0 := Zsa L0 L1 L2 a3 a4 a5 a6 L7 L8 N r h;cases r with
 | r0 => exact (LSpec.frzv (E := RE) (L := (L1.set a3.toNat (Zg2 L7 a4 a5 a6 L8 : RL))) (post := []) (v2 := Value.agg #[ms (Zm RB) L0, ms RE (L1.set a3.toNat (Zg2 L7 a4 a5 a6 L8 : RL)), ms RC L2]) h0 (show 0 ≤ 0 from by decide) (show 0 < 1000000000 from by decide) trivial rfl (ZbU (cr (Zw (Zfn eqA eqA) (cr rfl)))) rfl)

end
theorem Zp2 {L0 : List (List RI)} {L1 : List RL} {L2 : List RJ} {a3 a4 a5 a6 : Int} {L7 L8 : List RG} {N : Nat} {r : Zdu} (h : ZcM L0 L1 L2 a3 a4 a5 a6 L7 L8 N = some r) : LSpec Tryz.prog 49 #[Value.agg (κd L0 L1 L2), vi a3, Value.agg (List.toArray (κS a4 a5 a6 L7 L8))] [] (Zrm L0 L1 L2 a3 a4 a5 a6 L7 L8 r) (Zp1 r) := Zt5 L0 L1 L2 a3 a4 a5 a6 L7 L8 N r h

noncomputable def ZvK (L0 : List (List RI)) (L1 : List RL) (L2 : List RJ) (a3 a4 a5 a6 a7 a8 : Int) (L9 : List RG) (a10 : Int) : Zgn → Value
 | .r0 w2 w3 w4 => Value.tuple #[Value.agg #[ms (Zm RB) L0, ms RE w2, ms RC w3], vi w4]
noncomputable def Zt6 (L0 : List (List RI)) (L1 : List RL) (L2 : List RJ) (a3 a4 a5 a6 a7 a8 : Int) (L9 : List RG) (a10 : Int) : Zgn → List (Option AObj)
 | .r0 w2 w3 w4 => [some (.cells (Za RA L9) 44 true)]

section
variable (L0 : List (List RI)) (L1 : List RL) (L2 : List RJ) (a3 a4 a5 a6 a7 a8 : Int) (L9 : List RG) (a10 : Int) (N : Nat)
theorem Z0O : Fx Tryz.prog Ze Tryz.f45 (κbB L9) #[Value.agg (κd L0 L1 L2), Value.agg #[vi a3, vi a4, vi a5, vi a6, vi a7, vi a8, vs 0 0 L9.length L9.length, vi a10]] (ZvK L0 L1 L2 a3 a4 a5 a6 a7 a8 L9 a10) (Zt6 L0 L1 L2 a3 a4 a5 a6 a7 a8 L9 a10) (ZcN L0 L1 L2 a3 a4 a5 a6 a7 a8 L9 a10 N) := by
 unfold ZcN;refine Zx (fun z0 c0 => ?_);cases z0 with
 | r0 =>
  exact Zd
 | r1 y0_0 y0_1 y0_2 y0_3 =>
  have w1 := kKg 1 (tQ (Zie c0) 4) Zg;refine Zb (fun _ => Zd) (fun g1 => ?_);refine Zb (fun _ => Zd) (fun g2 => ?_);have w3 := bhF g2 <| tB 1 <| kE y0_1 a5 w1
  refine Zb (fun _ => Zd) (fun g3 => ?_);refine Zx (fun z4 c4 => ?_);cases z4 with
  | r0 =>
   have w5 := kKg 2 (Zw1 c4 [0] 5) <| bkE a3 2 w3
   refine Zx (fun z5 c5 => ?_);cases z5 with
   | r0 y5_0 y5_1 y5_2 y5_3 y5_4 y5_5 =>
    have w6 := kK (Zz3 c5 [0] 5) w5;refine Zb (fun g6 => ?_) (fun g6 => ?_)
    · exact Zq [0] (tB 1 <| kX ((!y5_5)) true nbt w6) (bQ <| bE)
    have w7 := tB 1 <| kX ((!y5_5)) false nbf w6
    refine Zb (fun g7 => ?_) (fun g7 => ?_)
    · exact Zq [0] (tB 1 <| hD g7 w7) (bQ <| bE)
    refine Zx (fun z8 c8 => ?_);cases z8 with
    | r0 =>
     exact Zq [0] (kKg 6 (tQ (Zp2 c8) 6) <| tB 1 <| kE y5_3 (L9.length : Int) w7) (bQ <| bE)

theorem ZwQ (r : Zgn) (h : ZcN L0 L1 L2 a3 a4 a5 a6 a7 a8 L9 a10 N = some r) : LSpec Tryz.prog 45 #[Value.agg (κd L0 L1 L2), Value.agg #[vi a3, vi a4, vi a5, vi a6, vi a7, vi a8, vs 0 0 L9.length L9.length, vi a10]] (κbB L9) (ZvK L0 L1 L2 a3 a4 a5 a6 a7 a8 L9 a10 r) (Zt6 L0 L1 L2 a3 a4 a5 a6 a7 a8 L9 a10 r) :=
 ZI Zv Tryz.func45 (by kernel_rfl) (by kernel_rfl) (fun r => by cases r <;> exact ZP _ rfl) (Z0O L0 L1 L2 a3 a4 a5 a6 a7 a8 L9 a10 N) h

end
noncomputable def Z24 {L0 : List (List RI)} {L1 : List RL} {L2 : List RJ} {a3 a4 a5 a6 a7 a8 : Int} {L9 : List RG} {a10 : Int} {w2 : List RL} {w3 : List RJ} {w4 : Int} {N : Nat} (h : ZcN L0 L1 L2 a3 a4 a5 a6 a7 a8 L9 a10 N = some (.r0 w2 w3 w4)) (ks : List Nat) (n : Nat) : ToldS := ⟨#[Value.agg (κd L0 L1 L2), Value.agg #[vi a3, vi a4, vi a5, vi a6, vi a7, vi a8, vs (nth ks 0) 0 L9.length L9.length, vi a10]], [((nth ks 0), .cells (Za RA L9) 44 true)], Value.tuple #[Value.agg #[ms (Zm RB) L0, ms RE w2, ms RC w3], vi w4], [], 0⟩

theorem Zt7 {L0 : List (List RI)} {L1 : List RL} {L2 : List RJ} {a3 a4 a5 a6 a7 a8 : Int} {L9 : List RG} {a10 : Int} {w2 : List RL} {w3 : List RJ} {w4 : Int} {N : Nat} (h : ZcN L0 L1 L2 a3 a4 a5 a6 a7 a8 L9 a10 N = some (.r0 w2 w3 w4)) (ks : List Nat) (n : Nat) (hk : ks.length = 1 := by rfl) (hnd : ks.Nodup := by decide +kernel) (hlt : ∀ k ∈ ks, k < n := by decide +kernel) : (Z24 (N := N)  h ks n).P Tryz.prog 45 n :=
 match ks, hk, hnd, hlt with
 | [k0], _, hnd, hlt => Zci (show LSpec Tryz.prog 45 #[Value.agg (κd L0 L1 L2), Value.agg #[vi a3, vi a4, vi a5, vi a6, vi a7, vi a8, vs 0 0 L9.length L9.length, vi a10]] (κbB L9) (Value.tuple #[Value.agg #[ms (Zm RB) L0, ms RE w2, ms RC w3], vi w4]) [some (.cells (Za RA L9) 44 true)] from ZwQ L0 L1 L2 a3 a4 a5 a6 a7 a8 L9 a10 N _ h) _ n [] hnd hlt

open Mach (oi ok_ite ok_bind okN okH enH en_none en_bind)
set_option linter.unusedVariables false
set_option maxRecDepth 100000
noncomputable def ZlI (L0 : List (List RI)) (L1 : List RL) (L2 : List RJ) (a3 a4 : Int) : ZbB → Value
 | .r0 w1 w2 w3 w4 => Value.tuple #[Value.agg #[ms (Zm RB) L0, ms RE w1, ms RC w2], vi w3, Value.bool w4]
noncomputable def ZkO : ZbB → List (Option AObj)
 | .r0 w1 w2 w3 w4 => []

def Zz4 : ZbC → Nat
 | .h1m0 v1 v7 v11 => 1
noncomputable def Z0P (L0 : List (List RI)) (L1 : List RL) (L2 : List RJ) (a3 a4 : Int) : ZbC → List (Nat × Value)
 | .h1m0 v1 v7 v11 => [(2, vi a4), (3, vp 0 0), (6, vp 1 0), (11, vp 2 0), (12, vi (v1 : Int))]
section
variable (L0 : List (List RI)) (L1 : List RL) (L2 : List RJ)
noncomputable def Z0Q (a3 a4 : Int) : ZbC → List (Option AObj)
 | .h1m0 v1 v7 v11 => [some (.cells (κf L0 L1 L2) 34), some κ6, some (.cells [vi 2, vi a3, vi v7, vq, vq, vq, vs 3 0 v11.length v11.length, vq] 118), some (.cells (Za RA v11) 44 true)]

noncomputable def ZlJ : Nat → Code × List ZL
 | 1 => Z5 [1, 1, 1, 1, 0, 1, 3] (ZM Tryz.f14) []
 | _ => (.skip, [])

noncomputable def ZgS (a3 a4 : Int) (N : Nat) : Mach := ⟨Tryz.f14, [], ZbC, ZbB, Zff L0 L1 L2 a3 a4 N, Zz4, ZlJ, ilT, Z0P L0 L1 L2 a3 a4, Z0Q L0 L1 L2 a3 a4, ZlI L0 L1 L2 a3 a4, ZkO⟩

theorem Zsb (a3 a4 : Int) (v1 : Nat) (v7 : Int) (v11 : List RG) (N : Nat) : (ZgS L0 L1 L2 a3 a4 N).Ok Tryz.prog Ze (.h1m0 v1 v7 v11 : ZbC) (ZcO L0 L1 L2 a3 a4 N v1 v7 v11) := by
 unfold ZcO;refine ok_ite (fun g0 => ?_) fun g0 => ?_
 ·
  refine ok_bind fun z1 c1 => ?_;cases z1 with
  | r0 y1_0 y1_1 y1_2 =>
   refine ok_ite (fun g2 => ?_) fun g2 => ?_
   · exact Mach.okF0 [] (bhT g2 <| kK (Zt7 c1 [3] 4) <| bhY g0 Zg) bE
   refine oi fun g3 => ?_;exact Mach.okN0 [0, 1, 2, 6] (tV 2 <| kW ((v1 : Int) + 1) (((v1 + 1) : Nat) : Int) <| tW 2 (.ap 1 [vi 2, vi (i64.wrap ((i64.wrap ((1048594 : Int) + a4)) + (v1 : Int)))] (Za RA (v11 ++ ([(⟨2, (i64.wrap ((i64.wrap ((1048594 : Int) + a4)) + (v1 : Int)))⟩ : RG)] : List RG)))) <| kA RA v11 (⟨2, (i64.wrap ((i64.wrap ((1048594 : Int) + a4)) + (v1 : Int)))⟩ : RG) <| bhF g2 <| kK (Zt7 c1 [3] 4) <| bhY g0 Zg) (bS (κf L0 L1 L2) <| bS [vn, vn, vn] <| bU [vi 2, vi a3, vi v7, vq, vq, vq, vs 6 0 (v11.length + 1) (v11.length + 1), vq] 6 (show (vs 3 0 (v11.length + 1) (v11.length + 1) : Value) = vs 3 0 (v11 ++ ([(⟨2, (i64.wrap ((i64.wrap ((1048594 : Int) + a4)) + (v1 : Int)))⟩ : RG)] : List RG)).length (v11 ++ ([(⟨2, (i64.wrap ((i64.wrap ((1048594 : Int) + a4)) + (v1 : Int)))⟩ : RG)] : List RG)).length from Zi rfl eqA eqA) <| bQ <| bE)
 exact Mach.okF0 [] (bhN g0 Zg) bE

theorem ZwR (a3 a4 : Int) (N : Nat) : (ZgS L0 L1 L2 a3 a4 N).Enter Tryz.prog Ze #[Value.agg (κd L0 L1 L2), vi a3, vi a4] (Zfg L0 L1 L2 a3 a4 N) := by
 unfold Zfg;refine en_bind (fun z0 c0 => ?_);cases z0 with
 | r0 =>
  exact Mach.enF0 [] (kKg 1 (tQ (Zie c0) 2) Zg) bE
 | r1 y0_0 y0_1 y0_2 y0_3 =>
  exact Mach.en_headW (bK := ZlJ 1) (M := ZgS L0 L1 L2 a3 a4 N) (cd := 1000000) (cm := 0) (y := (.h1m0 0 y0_1 ([] : List RG) : ZbC)) (fu := 4000) (orc := (Zhm (oq []) [] [] [] [(1, (tP (Zie c0)).t)])) (live := [0, 1, 3, 500000004]) (tv := [some (vi a4), some (vp 0 0), some (vp 1 0), some (vp 3 0), some (vq)]) (bl := [some (.cells (κf L0 L1 L2) 34), some κ6, some (.cells [vi 2, vi a3, vi y0_1, vq, vq, vq, vn, vq] 118), none]) [some (.cells (κf L0 L1 L2) 34), some κ6, some (.cells [vi 2, vi a3, vi y0_1, vq, vq, vq, vn, vq] 118), none] [(3, 44)] 0 ⟨(.inl rfl), ⟨(.inl rfl), ⟨(Zr2 ⟨.inl rfl, ⟨.inl rfl, ⟨.inl rfl, ⟨.inl rfl, ⟨.inl rfl, ⟨.inl rfl, ⟨.inr ⟨rfl, _, rfl⟩, ⟨.inl rfl, trivial⟩⟩⟩⟩⟩⟩⟩⟩), ⟨(.inl rfl), trivial⟩⟩⟩⟩ (by rfl) (by rfl) rfl rfl (show ZaD (ZlJ 1).2 = [] from rfl) (by kernel_rfl) (kKg 1 (tQ (Zie c0) 2) Zg) rfl (by decide +kernel) (by rfl) ⟨rr, ⟨rr, ⟨rr, ⟨rr, ⟨⟨Eq.trans (show κg = vq from ci) (by rfl), by rfl⟩, trivial⟩⟩⟩⟩⟩ ⟨sm, ⟨sm, ⟨sm, trivial⟩⟩⟩

theorem Zt8 (a3 a4 : Int) (N : Nat) (r : ZbB) (h : Za9 L0 L1 L2 a3 a4 N = some r) : LSpec Tryz.prog 14 #[Value.agg (κd L0 L1 L2), vi a3, vi a4] [] (ZlI L0 L1 L2 a3 a4 r) (ZkO r) :=
 Mach.specT Zv (ZgS L0 L1 L2 a3 a4 N) Tryz.func14 (fun x => (show (ZgS L0 L1 L2 a3 a4 N).Ok Tryz.prog Ze x (Zff L0 L1 L2 a3 a4 N x) from by
  cases x with
  | h1m0 v1 v7 v11 => exact Zsb L0 L1 L2 a3 a4 v1 v7 v11 N
  )) (ZwR L0 L1 L2 a3 a4 N) h

theorem Zbs {L0 : List (List RI)} {L1 : List RL} {L2 : List RJ} {a3 a4 : Int} {N : Nat} {r : ZbB} (h : Za9 L0 L1 L2 a3 a4 N = some r) : LSpec Tryz.prog 14 #[Value.agg (κd L0 L1 L2), vi a3, vi a4] [] (ZlI L0 L1 L2 a3 a4 r) (ZkO r) := Zt8 L0 L1 L2 a3 a4 N r h

noncomputable def ZjJ (L0 : List (List RI)) (L1 : List RL) (L2 : List RJ) : Zbp → Value
 | .r0 w1 => Value.agg #[ms (Zm RB) L0, ms RE w1, ms RC L2]
noncomputable def ZiJ : Zbp → List (Option AObj)
 | .r0 w1 => []

def ZuZ : ZaX → Nat
 | .h1m0 v0 v2 => 1
noncomputable def ZwS (L0 : List (List RI)) (L1 : List RL) (L2 : List RJ) : ZaX → List (Nat × Value)
 | .h1m0 v0 v2 => [(1, vp 0 0), (2, vp 1 0), (3, vi (v0 : Int))]
noncomputable def ZwT (L0 : List (List RI)) (L1 : List RL) (L2 : List RJ) : ZaX → List (Option AObj)
 | .h1m0 v0 v2 => [some (.cells [ms (Zm RB) L0, ms RE v2, ms RC L2] 34), some κ6]

noncomputable def ZwU : Nat → Code × List ZL
 | 1 => Z5 [1, 0, 1, 3] (ZM Tryz.f17) []
 | _ => (.skip, [])

noncomputable def Zhf (N : Nat) : Mach := ⟨Tryz.f17, [], ZaX, Zbp, Zcw L0 L1 L2 N, ZuZ, ZwU, ilT, ZwS L0 L1 L2, ZwT L0 L1 L2, ZjJ L0 L1 L2, ZiJ⟩

theorem Zp3 (v0 : Nat) (v2 : List RL) (N : Nat) : (Zhf L0 L1 L2 N).Ok Tryz.prog Ze (.h1m0 v0 v2 : ZaX) (ZbP L0 L1 L2 N v0 v2) := by
 unfold ZbP;refine ok_ite (fun g0 => ?_) fun g0 => ?_
 ·
  refine ok_ite (fun g1 => ?_) fun g1 => ?_
  ·
   refine ok_bind fun z2 c2 => ?_;cases z2 with
   | r0 y2_0 y2_1 y2_2 y2_3 =>
    refine ok_bind fun z3 c3 => ?_;cases z3 with
    | r0 =>
     refine oi fun g4 => ?_;exact Mach.okN0 [0, 1] (vkW ((v0 : Int) + 1) (((v0 + 1) : Nat) : Int) <| kKg 2 (tQ (Zp2 c3) 3) <| kK (tQ (Znt c2) 2) <| tL 1 (RE.cel (v2.getD v0 RL.z)) <| kG RE v2 (0 + (v0 * 20)) v0 0 20 20 <| kB v0 v2.length <| xkI (v0 : Int) v0 <| tL 3 ([(mc RB (L0.getD v0 []))]) <| kG (Zm RB) L0 (0 + (v0 * 1)) v0 0 1 1 <| kB v0 L0.length <| xkI (v0 : Int) v0 <| bhY g1 <| bhY g0 Zg) (bS [ms (Zm RB) L0, ms RE (v2.set ((v0 : Int)).toNat (Zg2 y2_2 y2_0 ((v2.getD v0 RL.z).a1) y2_1 y2_3 : RL)), ms RC L2] <| bS [vn, vn, vn] <| bE)
  exact Mach.okF0 [] (bhN g1 <| bhY g0 Zg) bE
 exact Mach.okF0 [] (bhN g0 Zg) bE

theorem Zt9 (N : Nat) : (Zhf L0 L1 L2 N).Enter Tryz.prog Ze #[Value.agg (κd L0 L1 L2)] (Zi9 L0 L1 L2 N) := by unfold Zi9;exact enH [0, 1] [some (vp 0 0), some (vp 1 0), some (vq)] Zg (tC (tC (tC (tE) ⟨Eq.trans (show κg = vq from ci) (by rfl), by rfl⟩))) (bS (κf L0 L1 L2) <| bS [vn, vn, vn] <| bE)

theorem ZqE (N : Nat) (r : Zbp) (h : Zbq L0 L1 L2 N = some r) : LSpec Tryz.prog 17 #[Value.agg (κd L0 L1 L2)] [] (ZjJ L0 L1 L2 r) (ZiJ r) :=
 Mach.specT Zv (Zhf L0 L1 L2 N) Tryz.func17 (fun x => (show (Zhf L0 L1 L2 N).Ok Tryz.prog Ze x (Zcw L0 L1 L2 N x) from by
  cases x with
  | h1m0 v0 v2 => exact Zp3 L0 L1 L2 v0 v2 N
  )) (Zt9 L0 L1 L2 N) h

end
theorem Zc2 {L0 : List (List RI)} {L1 : List RL} {L2 : List RJ} {N : Nat} {r : Zbp} (h : Zbq L0 L1 L2 N = some r) : LSpec Tryz.prog 17 #[Value.agg (κd L0 L1 L2)] [] (ZjJ L0 L1 L2 r) (ZiJ r) := ZqE L0 L1 L2 N r h

noncomputable def Zp4 : Za2 → Value
 | .r0 w1 w2 w3 => Value.tuple #[Value.agg #[ms (Zm RB) w1, ms RE w2, ms RC w3], vn, vT]
 | .r1 w1 w2 w3 w4 => Value.tuple #[Value.agg #[ms (Zm RB) w1, ms RE w2, ms RC w3], vs 1 0 w4.length w4.length, vT]
section
variable (L0 : List (List RI))
noncomputable def ZnV (a1 : Int) : Za2 → List (Option AObj)
 | .r0 w1 w2 w3 => [some (κn L0)]
 | .r1 w1 w2 w3 w4 => [some (κn L0), some (.cells (Za eI w4) 3)]

noncomputable def Z0R : Za2 → Value
 | .r0 w1 w2 w3 => Value.tuple #[Value.agg #[ms (Zm RB) w1, ms RE w2, ms RC w3], vn, vT]
 | .r1 w1 w2 w3 w4 => Value.tuple #[Value.agg #[ms (Zm RB) w1, ms RE w2, ms RC w3], ms eI w4, vT]
noncomputable def Zz5 (a1 : Int) : Za2 → List (Option AObj)
 | .r0 w1 w2 w3 => [some (κn L0)]
 | .r1 w1 w2 w3 w4 => [some (κn L0)]

def Zz6 : Z7 → Nat
 | .h1m0 v4 v5 v6 => 1
 | .h2m0 v4 v5 v6 => 2
 | .h2m1 v2 v3 v4 v5 v6 v7 => 2
 | .h3m0 v2 v5 v6 v7 v8 => 3
 | .h3m1 v2 v3 v4 v5 v6 v7 v8 v9 => 3
noncomputable def Z0S (a1 : Int) : Z7 → List (Nat × Value)
 | .h1m0 v4 v5 v6 => [(κbk L0), (1, vn), (2, vi a1), (6, vp 1 0), (9, vp 2 0), (11, vq), (12, vn), (13, vq)]
 | .h2m0 v4 v5 v6 => [(κbk L0), (2, vi a1), (6, vp 1 0), (9, vp 2 0), (11, vq), (12, vn), (17, vq)]
 | .h2m1 v2 v3 v4 v5 v6 v7 => [(κbk L0), (2, vi a1), (6, vp 1 0), (9, vp 2 0), (11, vi v2), (12, vs 3 0 v3.length v3.length), (17, vi (v4 : Int))]
 | .h3m0 v2 v5 v6 v7 v8 => [(κbk L0), (2, vi a1), (6, vp 1 0), (9, vp 2 0), (11, vi v2), (12, vn), (17, vq), (18, vf), (19, vi (v5 : Int))]
 | .h3m1 v2 v3 v4 v5 v6 v7 v8 v9 => [(κbk L0), (2, vi a1), (6, vp 1 0), (9, vp 2 0), (11, vi v2), (12, vs 3 0 v3.length v3.length), (17, vi (v4 : Int)), (18, Value.bool v5), (19, vi (v6 : Int))]
noncomputable def Z0T (a1 : Int) : Z7 → List (Option AObj)
 | .h1m0 v4 v5 v6 => [some (κn L0), some κ6, some (.cells [ms (Zm RB) v4, ms RE v5, ms RC v6] 34)]
 | .h2m0 v4 v5 v6 => [some (κn L0), some κ6, some (.cells [ms (Zm RB) v4, ms RE v5, ms RC v6] 34)]
 | .h2m1 v2 v3 v4 v5 v6 v7 => [some (κn L0), some κ6, some (.cells [ms (Zm RB) v5, ms RE v6, ms RC v7] 34), some (.cells (Za eI v3) 3)]
 | .h3m0 v2 v5 v6 v7 v8 => [some (κn L0), some κ6, some (.cells [ms (Zm RB) v6, ms RE v7, ms RC v8] 34)]
 | .h3m1 v2 v3 v4 v5 v6 v7 v8 v9 => [some (κn L0), some κ6, some (.cells [ms (Zm RB) v7, ms RE v8, ms RC v9] 34), some (.cells (Za eI v3) 3)]

end
noncomputable def Z0U : Nat → Code × List ZL
 | 1 => Z5 [1, 1, 1, 1, 1, 0, 1, 3] (ZM Tryz.f9) []
 | 2 => Z5 [1, 1, 1, 1, 1, 1, 0, 1, 3] (ZM Tryz.f9) []
 | 3 => Z5 [1, 1, 1, 1, 1, 1, 0, 1, 3, 8, 1, 0, 3, 1, 0, 1, 3] (ZM Tryz.f9) []
 | _ => (.skip, [])

section
variable (L0 : List (List RI)) (a1 : Int)
noncomputable def Zee (N : Nat) : Mach := ⟨Tryz.f9, (κT L0), Z7, Za2, ZiA L0 a1 N, Zz6, Z0U, ilT, Z0S L0 a1, Z0T L0 a1, Zp4, ZnV L0 a1⟩

theorem Zsc (v4 : List (List RI)) (v5 : List RL) (v6 : List RJ) (N : Nat) : (Zee L0 a1 N).Ok Tryz.prog Ze (.h1m0 v4 v5 v6 : Z7) (ZhS L0 a1 N v4 v5 v6) := by unfold ZhS;exact Mach.okH0 [0, 1, 2] Zg (bR <| bS [vn, vn, vn] <| bS [ms (Zm RB) v4, ms RE v5, ms RC v6] <| bE)

theorem Zsd (v4 : List (List RI)) (v5 : List RL) (v6 : List RJ) (N : Nat) : (Zee L0 a1 N).Ok Tryz.prog Ze (.h2m0 v4 v5 v6 : Z7) (ZhT L0 a1 N v4 v5 v6) := by unfold ZhT;refine oi fun g0 => ?_;exact okH [0, 1, 2] [some (vs 0 0 L0.length L0.length), some (vi a1), some (vp 1 0), some (vp 2 0), some (vq), some (vn), some (vq), some (vf), some (vq)] (bhY g0 Zg) (tC (tC (tC (tC (tC (tC (tC (tC (tC (tE) ⟨Eq.trans (show κg = vq from ci) (by rfl), by rfl⟩))))))))) (bR <| bS [vn, vn, vn] <| bS [ms (Zm RB) v4, ms RE v5, ms RC v6] <| bE)

theorem Zse (v2 : Int) (v3 : List Int) (v4 : Nat) (v5 : List (List RI)) (v6 : List RL) (v7 : List RJ) (N : Nat) : (Zee L0 a1 N).Ok Tryz.prog Ze (.h2m1 v2 v3 v4 v5 v6 v7 : Z7) (ZhU L0 a1 N v2 v3 v4 v5 v6 v7) := by unfold ZhU;refine oi fun g0 => ?_;exact okH [0, 1, 2, 3] [some (vs 0 0 L0.length L0.length), some (vi a1), some (vp 1 0), some (vp 2 0), some (vi v2), some (vs 3 0 v3.length v3.length), some (vi (v4 : Int)), some (vf), some (vq)] (bhY g0 Zg) (tC (tC (tC (tC (tC (tC (tC (tC (tC (tE) ⟨Eq.trans (show κg = vq from ci) (by rfl), by rfl⟩))))))))) (bR <| bS [vn, vn, vn] <| bS [ms (Zm RB) v5, ms RE v6, ms RC v7] <| bR <| bE)

theorem Zsf (v2 : Int) (v5 : Nat) (v6 : List (List RI)) (v7 : List RL) (v8 : List RJ) (N : Nat) : (Zee L0 a1 N).Ok Tryz.prog Ze (.h3m0 v2 v5 v6 v7 v8 : Z7) (ZhV L0 a1 N v2 v5 v6 v7 v8) := by
 unfold ZhV;refine ok_ite (fun g0 => ?_) fun g0 => ?_
 ·
  refine ok_bind fun z1 c1 => ?_;cases z1 with
  | r0 y1_0 y1_1 y1_2 y1_3 =>
   refine ok_ite (fun g2 => ?_) fun g2 => ?_
   · subst g2;refine oi fun g3 => ?_;exact okN [0, 1, 2, 5] [some (vs 0 0 L0.length L0.length), some (vi a1), some (vp 1 0), some (vp 2 0), some (vi y1_2), some (vs 5 0 1 1), some (vq), some (vT), some (vi (((v5 + 1) : Nat) : Int))] (vkW ((v5 : Int) + 1) (((v5 + 1) : Nat) : Int) <| kK (tQ (Zbs c1) 3) <| bhY g0 Zg) (tC (tC (tC (tC (tC (tC (tC (tC (tC (tE))) ⟨Eq.trans (show κg = vq from ci) (by rfl), by rfl⟩) ⟨Eq.trans (show (vs 3 0 ([(v5 : Int)] : List Int).length ([(v5 : Int)] : List Int).length : Value) = vs 3 0 1 1 from (Zi rfl eqA eqA)) (by rfl), by rfl⟩)))))) (bR <| bS [vn, vn, vn] <| bS [ms (Zm RB) v6, ms RE y1_0, ms RC y1_1] <| bC (o := .cells [vi (v5 : Int)] 3) (Zz (E := eI) _ (L := ([(v5 : Int)] : List Int)) _ (show ([vi (v5 : Int)] : List Value) = Za eI ([(v5 : Int)] : List Int) from rfl)) <| bE)
   obtain rfl : y1_3 = false := by simpa using g2
   refine oi fun g3 => ?_;exact Mach.okN0 [0, 1, 2] (vkW ((v5 : Int) + 1) (((v5 + 1) : Nat) : Int) <| kK (tQ (Zbs c1) 3) <| bhY g0 Zg) (bR <| bS [vn, vn, vn] <| bS [ms (Zm RB) v6, ms RE y1_0, ms RC y1_1] <| bE)
 refine ok_bind fun z1 c1 => ?_;cases z1 with
 | r0 y1_0 =>
  exact Mach.okF0 [0] (kK (tQ (Zc2 c1) 3) <| bhN g0 Zg) (bR <| bE)

noncomputable abbrev κbf (y2_2 : Int) (v3 : List Int) (v4 v6 : Nat) := [some (vs 0 0 L0.length L0.length), some (vi a1), some (vp 1 0), some (vp 2 0), some (vi y2_2), some (vs 6 0 (v3.length + 1) (v3.length + 1)), some (vi (v4 : Int)), some (vT), some (vi (((v6 + 1) : Nat) : Int))]
theorem Zsg (v2 : Int) (v3 : List Int) (v4 : Nat) (v5 : Bool) (v6 : Nat) (v7 : List (List RI)) (v8 : List RL) (v9 : List RJ) (N : Nat) : (Zee L0 a1 N).Ok Tryz.prog Ze (.h3m1 v2 v3 v4 v5 v6 v7 v8 v9 : Z7) (ZhW L0 a1 N v2 v3 v4 v5 v6 v7 v8 v9) := by
 unfold ZhW;refine ok_ite (fun g0 => ?_) fun g0 => ?_
 ·
  subst g0;refine ok_ite (fun g1 => ?_) fun g1 => ?_
  ·
   refine ok_bind fun z2 c2 => ?_;cases z2 with
   | r0 y2_0 y2_1 y2_2 y2_3 =>
    refine ok_ite (fun g3 => ?_) fun g3 => ?_
    · subst g3;refine oi fun g4 => ?_;refine oi fun g5 => ?_;exact okN [0, 1, 2, 6] (κbf L0 a1 y2_2 v3 v4 v6) (vkW ((v6 : Int) + 1) (((v6 + 1) : Nat) : Int) <| tW 2 (.ap 1 [vi (v6 : Int)] (Za eI (v3 ++ ([(v6 : Int)] : List Int)))) <| kA eI v3 (v6 : Int) <| kK (tQ (Zbs c2) 4) <| bhY g1 Zg) (tC (tC (tC (tC (tC (tC (tC (tC (tC (tE)))) ⟨Eq.trans (show (vs 3 0 (v3 ++ ([(v6 : Int)] : List Int)).length (v3 ++ ([(v6 : Int)] : List Int)).length : Value) = vs 3 0 (v3.length + 1) (v3.length + 1) from (Zi rfl eqA eqA)) (by rfl), by rfl⟩)))))) (bR <| bS [vn, vn, vn] <| bS [ms (Zm RB) v7, ms RE y2_0, ms RC y2_1] <| bR <| bE)
    obtain rfl : y2_3 = false := by simpa using g3
    refine oi fun g4 => ?_;exact Mach.okN0 [0, 1, 2, 3] (vkW ((v6 : Int) + 1) (((v6 + 1) : Nat) : Int) <| kK (tQ (Zbs c2) 4) <| bhY g1 Zg) (bR <| bS [vn, vn, vn] <| bS [ms (Zm RB) v7, ms RE y2_0, ms RC y2_1] <| bR <| bE)
  refine oi fun g2 => ?_;exact Mach.okN0 [0, 1, 2, 3] (vkW ((v4 : Int) + 1) (((v4 + 1) : Nat) : Int) <| bhN g1 Zg) (bR <| bS [vn, vn, vn] <| bS [ms (Zm RB) v7, ms RE v8, ms RC v9] <| bR <| bE)
 obtain rfl : v5 = false := by simpa using g0
 refine ok_ite (fun g1 => ?_) fun g1 => ?_
 ·
  refine ok_bind fun z2 c2 => ?_;cases z2 with
  | r0 y2_0 y2_1 y2_2 y2_3 =>
   refine ok_ite (fun g3 => ?_) fun g3 => ?_
   · subst g3;refine oi fun g4 => ?_;refine oi fun g5 => ?_;exact okN [0, 1, 2, 6] (κbf L0 a1 y2_2 v3 v4 v6) (vkW ((v6 : Int) + 1) (((v6 + 1) : Nat) : Int) <| tW 2 (.ap 1 [vi (v6 : Int)] (Za eI (v3 ++ ([(v6 : Int)] : List Int)))) <| kA eI v3 (v6 : Int) <| kK (tQ (Zbs c2) 4) <| bhY g1 Zg) (tC (tC (tC (tC (tC (tC (tC (tC (tC (tE)))) ⟨Eq.trans (show (vs 3 0 (v3 ++ ([(v6 : Int)] : List Int)).length (v3 ++ ([(v6 : Int)] : List Int)).length : Value) = vs 3 0 (v3.length + 1) (v3.length + 1) from (Zi rfl eqA eqA)) (by rfl), by rfl⟩)))))) (bR <| bS [vn, vn, vn] <| bS [ms (Zm RB) v7, ms RE y2_0, ms RC y2_1] <| bR <| bE)
   obtain rfl : y2_3 = false := by simpa using g3
   refine oi fun g4 => ?_;exact Mach.okN0 [0, 1, 2, 3] (vkW ((v6 : Int) + 1) (((v6 + 1) : Nat) : Int) <| kK (tQ (Zbs c2) 4) <| bhY g1 Zg) (bR <| bS [vn, vn, vn] <| bS [ms (Zm RB) v7, ms RE y2_0, ms RC y2_1] <| bR <| bE)
 refine ok_bind fun z2 c2 => ?_;cases z2 with
 | r0 y2_0 =>
  exact Mach.okF0 [0, 3] (kK (tQ (Zc2 c2) 4) <| bhN g1 Zg) (bR <| bR <| bE)

theorem ZwV (N : Nat) : (Zee L0 a1 N).Enter Tryz.prog Ze #[vs 0 0 L0.length L0.length, vn, vi a1] (Zk2 L0 a1 N) := by
 unfold Zk2;refine en_bind (fun z0 c0 => ?_);cases z0 with
 | r0 =>
  exact en_none
 | r1 _ =>
  exact en_none
 | r2 y0_0 y0_1 y0_2 =>
  exact Mach.enH0 [0, 1, 2] (kKg 1 (ZjB c0 [0] 2) Zg) (bR <| bS [vn, vn, vn] <| bS [ms (Zm RB) y0_0, ms RE y0_1, ms RC y0_2] <| bE)

theorem Zsh (N : Nat) (r : Za2) (h : Zf1 L0 a1 N = some r) : LSpec Tryz.prog 9 #[vs 0 0 L0.length L0.length, vn, vi a1] (κT L0) (Zp4 r) (ZnV L0 a1 r) :=
 Mach.specT Zv (Zee L0 a1 N) Tryz.func9 (fun x => (show (Zee L0 a1 N).Ok Tryz.prog Ze x (ZiA L0 a1 N x) from by
  cases x with
  | h1m0 v4 v5 v6 => exact Zsc L0 a1 v4 v5 v6 N
  | h2m0 v4 v5 v6 => exact Zsd L0 a1 v4 v5 v6 N
  | h2m1 v2 v3 v4 v5 v6 v7 => exact Zse L0 a1 v2 v3 v4 v5 v6 v7 N
  | h3m0 v2 v5 v6 v7 v8 => exact Zsf L0 a1 v2 v5 v6 v7 v8 N
  | h3m1 v2 v3 v4 v5 v6 v7 v8 v9 => exact Zsg L0 a1 v2 v3 v4 v5 v6 v7 v8 v9 N
  )) (ZwV L0 a1 N) h

theorem Zlt (N : Nat) (r : Za2) (h : Zf1 L0 a1 N = some r) : LSpec Tryz.prog 9 #[vs 0 0 L0.length L0.length, vn, vi a1] (κT L0) (Z0R r) (Zz5 L0 a1 r) := by
 have h0 := Zsh L0 a1 N r h;cases r with
 | r0 _ _ _ => exact h0
 | r1 w1 w2 w3 w4 => exact (LSpec.frzv (E := eI) (L := w4) (post := [some (κn L0)]) (v2 := Value.tuple #[Value.agg #[ms (Zm RB) w1, ms RE w2, ms RC w3], ms eI w4, vT]) h0 (show 1 ≤ 1 from by decide) (show 1 < 1000000000 from by decide) ⟨(ZcY _ _ _), trivial⟩ rfl rfl rfl)

end
noncomputable def Zz7 {L0 : List (List RI)} {a1 : Int} {w1 : List (List RI)} {w2 : List RL} {w3 : List RJ} {N : Nat} (h : Zf1 L0 a1 N = some (.r0 w1 w2 w3)) (ks : List Nat) (n : Nat) : ToldS := ⟨#[vs (nth ks 0) 0 L0.length L0.length, vn, vi a1], (κbi ks L0), Value.tuple #[Value.agg (κU w1 w2 w3), vn, vT], [], 0⟩

theorem Zz8 {L0 : List (List RI)} {a1 : Int} {w1 : List (List RI)} {w2 : List RL} {w3 : List RJ} {N : Nat} (h : Zf1 L0 a1 N = some (.r0 w1 w2 w3)) (ks : List Nat) (n : Nat) (hk : ks.length = 1 := by rfl) (hnd : ks.Nodup := by decide +kernel) (hlt : ∀ k ∈ ks, k < n := by decide +kernel) : (Zz7 (N := N)  h ks n).P Tryz.prog 9 n :=
 match ks, hk, hnd, hlt with
 | [k0], _, hnd, hlt => Zci (show LSpec Tryz.prog 9 #[vs 0 0 L0.length L0.length, vn, vi a1] (κT L0) (Value.tuple #[Value.agg (κU w1 w2 w3), vn, vT]) [some (κn L0)] from Zlt L0 a1 N _ h) _ n [] hnd hlt

noncomputable def Zz9 {L0 : List (List RI)} {a1 : Int} {w1 : List (List RI)} {w2 : List RL} {w3 : List RJ} {w4 : List Int} {N : Nat} (h : Zf1 L0 a1 N = some (.r1 w1 w2 w3 w4)) (ks : List Nat) (n : Nat) : ToldS := ⟨#[vs (nth ks 0) 0 L0.length L0.length, vn, vi a1], (κbi ks L0), Value.tuple #[Value.agg (κU w1 w2 w3), ms eI w4, vT], [], 0⟩

theorem ZzA {L0 : List (List RI)} {a1 : Int} {w1 : List (List RI)} {w2 : List RL} {w3 : List RJ} {w4 : List Int} {N : Nat} (h : Zf1 L0 a1 N = some (.r1 w1 w2 w3 w4)) (ks : List Nat) (n : Nat) (hk : ks.length = 1 := by rfl) (hnd : ks.Nodup := by decide +kernel) (hlt : ∀ k ∈ ks, k < n := by decide +kernel) : (Zz9 (N := N)  h ks n).P Tryz.prog 9 n :=
 match ks, hk, hnd, hlt with
 | [k0], _, hnd, hlt => Zci (show LSpec Tryz.prog 9 #[vs 0 0 L0.length L0.length, vn, vi a1] (κT L0) (Value.tuple #[Value.agg (κU w1 w2 w3), ms eI w4, vT]) [some (κn L0)] from Zlt L0 a1 N _ h) _ n [] hnd hlt

noncomputable def ZlK : Zdv → Value
 | .r0 w0 => Value.bool w0
noncomputable def ZkP : Zdv → List (Option AObj)
 | .r0 w0 => []

section
variable (a0 a1 a2 a3 : Int) (N : Nat)
theorem ZwW : Fx Tryz.prog Ze Tryz.f31 [] #[Value.agg #[vi a0, vi a1], Value.agg #[vi a2, vi a3]] (ZlK) (ZkP) (Zf2 a0 a1 a2 a3 N) := by
 unfold Zf2;refine Zb (fun g0 => ?_) (fun _ => Zd);refine Zx (fun z1 c1 => ?_);cases z1 with
 | r0 y1_0 =>
  have w2 := kK (tQ (ZeM c1) 4) <| bhT g0 Zg
  refine Zb (fun _ => Zd) (fun g2 => ?_);have w3 := bkX ((!y1_0)) false nbf w2;refine Zb (fun g3 => ?_) (fun _ => Zd);refine Zx (fun z4 c4 => ?_);cases z4 with
  | r0 y4_0 =>
   have w5 := kKg 1 (tQ (ZeM c4) 6) <| bhT g3 w3
   refine Zb (fun _ => Zd) (fun g5 => ?_);have w6 := bkX ((!y4_0)) false nbf w5;refine Zb (fun g6 => ?_) (fun g6 => ?_)
   · exact Zq [] (bhY g6 w6) bE
   refine Zb (fun g7 => ?_) (fun g7 => ?_)
   ·
    refine Zx (fun z8 c8 => ?_);cases z8 with
    | r0 y8_0 =>
     have w9 := kKg 1 (tQ (ZeM c8) 8) <| bhT g0 <| bhT g7 <| bhN g6 w6
     refine Zb (fun _ => Zd) (fun g9 => ?_);have w10 := bhT g3 <| bkX ((!y8_0)) false nbf w9
     refine Zx (fun z10 c10 => ?_);cases z10 with
     | r0 y10_0 =>
      refine Zb (fun _ => Zd) (fun g11 => ?_);have w12 := bkX ((!y10_0)) false nbf <| kK (tQ (ZeM c10) 10) w10
      refine Zb (fun g12 => ?_) (fun g12 => ?_)
      · exact Zq [] (bhY g12 w12) bE
      exact Zq [] (bhN g12 w12) bE
   exact Zq [] (bhF g7 <| bhN g6 w6) bE

theorem ZtA (r : Zdv) (h : Zf2 a0 a1 a2 a3 N = some r) : LSpec Tryz.prog 31 #[Value.agg #[vi a0, vi a1], Value.agg #[vi a2, vi a3]] [] (ZlK r) (ZkP r) :=
 ZI Zv Tryz.func31 (by kernel_rfl) (by kernel_rfl) (fun r => by cases r <;> exact ZP _ rfl) (ZwW a0 a1 a2 a3 N) h

end
theorem Zp5 {a0 a1 a2 a3 : Int} {N : Nat} {r : Zdv} (h : Zf2 a0 a1 a2 a3 N = some r) : LSpec Tryz.prog 31 #[Value.agg #[vi a0, vi a1], Value.agg #[vi a2, vi a3]] [] (ZlK r) (ZkP r) := ZtA a0 a1 a2 a3 N r h

end Ev
end Go.Proofs.YthfohmhipifiaaaGreat
namespace Go.Proofs.YthfohmhipifiaaaGreat
open Go.RowKit
namespace Ev
open Mach (oi ok_ite ok_bind okN okH enH)
set_option linter.unusedVariables false
set_option maxRecDepth 100000
noncomputable def Zlu : ZJ → Value
 | .r0 => vn
 | .r1 w0 => vs 0 0 w0.length w0.length
noncomputable def ZkQ : ZJ → List (Option AObj)
 | .r0 => []
 | .r1 w0 => [some (.cells (Za RC w0) 97)]

noncomputable def Zm0 : ZJ → Value
 | .r0 => ms RC ([] : List RJ)
 | .r1 w0 => ms RC w0
noncomputable def Zlv : ZJ → List (Option AObj)
 | .r0 => []
 | .r1 w0 => []

def ZtB : Zt → Nat
 | .h1m0 v0 => 1
 | .h1m1 v0 v1 => 1
 | .h2m0 v0 => 2
 | .h2m1 v0 v1 v2 => 2
 | .h3m0 v0 => 3
 | .h3m1 v0 v1 v2 => 3
noncomputable def Zva (L0 : List (List RI)) (L1 : List RL) (L2 : List RJ) : Zt → List (Nat × Value)
 | .h1m0 v0 => [(1, vp 0 0), (3, vn), (4, vi (v0 : Int))]
 | .h1m1 v0 v1 => [(1, vp 0 0), (3, vs 1 0 v0.length v0.length), (4, vi (v1 : Int))]
 | .h2m0 v0 => [(1, vp 0 0), (3, vn), (4, vi (v0 : Int)), (5, vq)]
 | .h2m1 v0 v1 v2 => [(1, vp 0 0), (3, vs 1 0 v0.length v0.length), (4, vi (v1 : Int)), (5, vi (v2 : Int))]
 | .h3m0 v0 => [(1, vp 0 0), (3, vn), (4, vi (v0 : Int)), (5, vq)]
 | .h3m1 v0 v1 v2 => [(1, vp 0 0), (3, vs 1 0 v0.length v0.length), (4, vi (v1 : Int)), (5, vi (v2 : Int))]
section
variable (L0 : List (List RI)) (L1 : List RL) (L2 : List RJ)
noncomputable def Zvb : Zt → List (Option AObj)
 | .h1m0 v0 => [some (.cells (κf L0 L1 L2) 34)]
 | .h1m1 v0 v1 => [some (.cells (κf L0 L1 L2) 34), some (.cells (Za RC v0) 97)]
 | .h2m0 v0 => [some (.cells (κf L0 L1 L2) 34)]
 | .h2m1 v0 v1 v2 => [some (.cells (κf L0 L1 L2) 34), some (.cells (Za RC v0) 97)]
 | .h3m0 v0 => [some (.cells (κf L0 L1 L2) 34)]
 | .h3m1 v0 v1 v2 => [some (.cells (κf L0 L1 L2) 34), some (.cells (Za RC v0) 97)]

noncomputable def Zvc : Nat → Code × List ZL
 | 1 => Z5 [1, 1, 0, 1, 3] (ZM Tryz.f10) []
 | 2 => Z5 [1, 1, 0, 1, 3, 7, 1, 0, 3, 1, 1, 0, 3] (ZM Tryz.f10) []
 | 3 => Znh [1, 1, 0, 1, 3, 7, 1, 0, 3, 1, 1, 1] (ZM Tryz.f10) []
 | _ => (.skip, [])
def ZtC : Nat → Bool
 | 1 => true
 | 2 => true
 | 3 => false
 | _ => true

noncomputable def ZbN (N : Nat) : Mach := ⟨Tryz.f10, [], Zt, ZJ, ZcW L0 L1 L2 N, ZtB, Zvc, ZtC, Zva L0 L1 L2, Zvb L0 L1 L2, Zlu, ZkQ⟩

theorem Zoj (v0 N : Nat) : (ZbN L0 L1 L2 N).Ok Tryz.prog Ze (.h1m0 v0 : Zt) (Zd2 L0 L1 L2 N v0) := by
 unfold Zd2;refine ok_ite (fun g0 => ?_) fun g0 => ?_
 ·
  have w1 := tL 2 [.i (L2.getD v0 RJ.z).a5] <| kG RC L2 (((0 + (v0 * 8)) + 2) + 3) v0 5 1 8 <| kB v0 L2.length <| xkI (v0 : Int) v0 <| bhY g0 Zg
  refine ok_ite (fun g1 => ?_) fun g1 => ?_
  · refine oi fun g2 => ?_;exact Mach.okN0 [0] (vkW ((v0 : Int) + 1) (((v0 + 1) : Nat) : Int) <| bhT g1 w1) (bS (κf L0 L1 L2) <| bE)
  exact Mach.okH0 [0] (bhF g1 w1) (bS (κf L0 L1 L2) <| bE)
 exact Mach.okF0 [] (bhN g0 Zg) bE

theorem Zok (v0 : List RJ) (v1 N : Nat) : (ZbN L0 L1 L2 N).Ok Tryz.prog Ze (.h1m1 v0 v1 : Zt) (ZaK L0 L1 L2 N v0 v1) := by
 unfold ZaK;refine ok_ite (fun g0 => ?_) fun g0 => ?_
 ·
  have w1 := tL 2 [.i (L2.getD v1 RJ.z).a5] <| kG RC L2 (((0 + (v1 * 8)) + 2) + 3) v1 5 1 8 <| kB v1 L2.length <| xkI (v1 : Int) v1 <| bhY g0 Zg
  refine ok_ite (fun g1 => ?_) fun g1 => ?_
  · refine oi fun g2 => ?_;exact Mach.okN0 [0, 1] (vkW ((v1 : Int) + 1) (((v1 + 1) : Nat) : Int) <| bhT g1 w1) (bS (κf L0 L1 L2) <| bR <| bE)
  exact okH [0, 1] [some (vp 0 0), some (vs 1 0 v0.length v0.length), some (vi (v1 : Int)), some (vq)] (bhF g1 w1) (tC (tC (tC (tC (tE) ⟨Eq.trans (show κg = vq from ci) (by rfl), by rfl⟩)))) (bS (κf L0 L1 L2) <| bR <| bE)
 exact Mach.okF0 [1] (bhN g0 Zg) (bR <| bE)

theorem Zol (v0 N : Nat) : (ZbN L0 L1 L2 N).Ok Tryz.prog Ze (.h2m0 v0 : Zt) (Zgo L0 L1 L2 N v0) := by unfold Zgo;exact Mach.okC0 5 0 [0] Zg (bS (κf L0 L1 L2) <| bE)

theorem Zom (v0 : List RJ) (v1 v2 N : Nat) : (ZbN L0 L1 L2 N).Ok Tryz.prog Ze (.h2m1 v0 v1 v2 : Zt) (Zb7 L0 L1 L2 N v0 v1 v2) := by
 unfold Zb7;refine ok_ite (fun g0 => ?_) fun g0 => ?_
 ·
  have w1 := lkL RC v0 v2 0 2 <| kB v2 v0.length <| xkI (v2 : Int) v2 <| bhY g0 Zg
  refine oi fun g1 => ?_;have w2 := tL 1 [.i (L2.getD v1 RJ.z).a0, .i (L2.getD v1 RJ.z).a1] <| kG RC L2 ((0 + (v1 * 8)) + 0) v1 0 2 8 <| kB v1 L2.length <| xkI (v1 : Int) v1 w1
  refine ok_bind fun z2 c2 => ?_;cases z2 with
  | r0 y2_0 =>
   refine ok_ite (fun g3 => ?_) fun g3 => ?_
   · subst g3;refine oi fun g4 => ?_;exact Mach.okN0 [0, 1] (vkW ((v2 : Int) + 1) (((v2 + 1) : Nat) : Int) <| kK (tQ (Zp5 c2) 2) w2) (bS (κf L0 L1 L2) <| bR <| bE)
   obtain rfl : y2_0 = false := by simpa using g3
   exact Mach.okC0 5 0 [0, 1] (kK (tQ (Zp5 c2) 2) w2) (bS (κf L0 L1 L2) <| bR <| bE)
 exact Mach.okC0 5 0 [0, 1] (bhN g0 Zg) (bS (κf L0 L1 L2) <| bR <| bE)

theorem Zon (v0 N : Nat) : (ZbN L0 L1 L2 N).Ok Tryz.prog Ze (.h3m0 v0 : Zt) (Zd3 L0 L1 L2 N v0) := by unfold Zd3;refine oi fun g0 => ?_;refine oi fun g1 => ?_;exact okN [0, 2] [some (vp 0 0), some (vs 2 0 1 1), some (vi (((v0 + 1) : Nat) : Int))] (vkW ((v0 : Int) + 1) (((v0 + 1) : Nat) : Int) <| tL 1 (RC.cel (L2.getD v0 RJ.z)) <| kG RC L2 (0 + (v0 * 8)) v0 0 8 8 <| kB v0 L2.length <| xkI (v0 : Int) v0 Zg) (tC (tC (tC (tE)) ⟨Eq.trans (show (vs 1 0 ([(⟨(L2.getD v0 RJ.z).a0, (L2.getD v0 RJ.z).a1, (L2.getD v0 RJ.z).a2, (L2.getD v0 RJ.z).a3, (L2.getD v0 RJ.z).a4, (L2.getD v0 RJ.z).a5, (L2.getD v0 RJ.z).a6, (L2.getD v0 RJ.z).a7⟩ : RJ)] : List RJ).length ([(⟨(L2.getD v0 RJ.z).a0, (L2.getD v0 RJ.z).a1, (L2.getD v0 RJ.z).a2, (L2.getD v0 RJ.z).a3, (L2.getD v0 RJ.z).a4, (L2.getD v0 RJ.z).a5, (L2.getD v0 RJ.z).a6, (L2.getD v0 RJ.z).a7⟩ : RJ)] : List RJ).length : Value) = vs 1 0 1 1 from (Zi rfl eqA eqA)) (by rfl), by rfl⟩)) (bS (κf L0 L1 L2) <| bC (o := .cells [vi (L2.getD v0 RJ.z).a0, vi (L2.getD v0 RJ.z).a1, vi (L2.getD v0 RJ.z).a2, vi (L2.getD v0 RJ.z).a3, vi (L2.getD v0 RJ.z).a4, vi (L2.getD v0 RJ.z).a5, vi (L2.getD v0 RJ.z).a6, ms RA (L2.getD v0 RJ.z).a7] 97) (Zz (E := RC) _ (L := ([(⟨(L2.getD v0 RJ.z).a0, (L2.getD v0 RJ.z).a1, (L2.getD v0 RJ.z).a2, (L2.getD v0 RJ.z).a3, (L2.getD v0 RJ.z).a4, (L2.getD v0 RJ.z).a5, (L2.getD v0 RJ.z).a6, (L2.getD v0 RJ.z).a7⟩ : RJ)] : List RJ)) _ (show ([vi (L2.getD v0 RJ.z).a0, vi (L2.getD v0 RJ.z).a1, vi (L2.getD v0 RJ.z).a2, vi (L2.getD v0 RJ.z).a3, vi (L2.getD v0 RJ.z).a4, vi (L2.getD v0 RJ.z).a5, vi (L2.getD v0 RJ.z).a6, ms RA (L2.getD v0 RJ.z).a7] : List Value) = Za RC ([(⟨(L2.getD v0 RJ.z).a0, (L2.getD v0 RJ.z).a1, (L2.getD v0 RJ.z).a2, (L2.getD v0 RJ.z).a3, (L2.getD v0 RJ.z).a4, (L2.getD v0 RJ.z).a5, (L2.getD v0 RJ.z).a6, (L2.getD v0 RJ.z).a7⟩ : RJ)] : List RJ) from rfl)) <| bE)

noncomputable abbrev κbH (v0 : List RJ) (v2 : Nat) := (dP (0 = (v0.length - v2) ∧ Z4 ((v0.length - v2) * 8) (List.drop (0 + (v2 * 8)) (Za RC v0)) = some [] ∧ Zu Zbf [] = true))
noncomputable abbrev κ9 (v0 : List RJ) (v2 : Nat) := (Za RC (v0.take (v2 - 0)))
noncomputable abbrev κP (v0 : List RJ) (v2 : Nat) := (Za RC ((v0.drop v2).take (v0.length - v2)))
theorem Zoo (v0 : List RJ) (v1 v2 N : Nat) : (ZbN L0 L1 L2 N).Ok Tryz.prog Ze (.h3m1 v0 v1 v2 : Zt) (Zd4 L0 L1 L2 N v0 v1 v2) := by
 unfold Zd4;refine oi fun g0 => ?_;have w1 := kX (dP (0 ≤ v2 ∧ v2 ≤ v0.length)) true (Zn ⟨ltA, ltA⟩) <| kI (v2 : Int) (Int.ofNat v2) <| tW 0 (.sl 0 v2) <| kR 0 Zg
 refine ok_ite (fun g1 => ?_) fun g1 => ?_
 ·
  have w2 := tW 0 (.ap0) <| kX (dP (0 = (v2 - 0) ∧ Z4 ((v2 - 0) * 8) (List.drop (0 + (0 * 8)) (Za RC v0)) = some [] ∧ Zu Zbf [] = true)) true (Zn ⟨by omega, by rw [show (v2 - 0) = 0 by omega]; rfl, rfl⟩) w1
  refine oi fun g2 => ?_;have w3 := kX (dP (v2 ≤ v0.length ∧ v0.length ≤ v0.length)) true (Zn ⟨ltA, ltA⟩) <| kR v0.length <| tW 1 (.sl v2 v0.length) <| kI (v2 : Int) (Int.ofNat v2) <| tL 1 (RC.cel (L2.getD v1 RJ.z)) <| kG RC L2 (0 + (v1 * 8)) v1 0 8 8 <| kB v1 L2.length <| xkI (v1 : Int) v1 w2
  refine ok_ite (fun g3 => ?_) fun g3 => ?_
  · refine oi fun g4 => ?_;exact okN [0, 3] [some (vp 0 0), some (vs 3 0 1 1), some (vi (((v1 + 1) : Nat) : Int))] (vkW ((v1 : Int) + 1) (((v1 + 1) : Nat) : Int) <| tW 0 (.ap0) <| kX (κbH v0 v2) true (Zn ⟨by omega, by rw [show (v0.length - v2) = 0 by omega]; rfl, rfl⟩) w3) (tC (tC (tC (tE)) ⟨Eq.trans (show (vs 1 0 ([(⟨(L2.getD v1 RJ.z).a0, (L2.getD v1 RJ.z).a1, (L2.getD v1 RJ.z).a2, (L2.getD v1 RJ.z).a3, (L2.getD v1 RJ.z).a4, (L2.getD v1 RJ.z).a5, (L2.getD v1 RJ.z).a6, (L2.getD v1 RJ.z).a7⟩ : RJ)] : List RJ).length ([(⟨(L2.getD v1 RJ.z).a0, (L2.getD v1 RJ.z).a1, (L2.getD v1 RJ.z).a2, (L2.getD v1 RJ.z).a3, (L2.getD v1 RJ.z).a4, (L2.getD v1 RJ.z).a5, (L2.getD v1 RJ.z).a6, (L2.getD v1 RJ.z).a7⟩ : RJ)] : List RJ).length : Value) = vs 1 0 1 1 from (Zi rfl eqA eqA)) (by rfl), by rfl⟩)) (bS (κf L0 L1 L2) <| bC (o := .cells [vi (L2.getD v1 RJ.z).a0, vi (L2.getD v1 RJ.z).a1, vi (L2.getD v1 RJ.z).a2, vi (L2.getD v1 RJ.z).a3, vi (L2.getD v1 RJ.z).a4, vi (L2.getD v1 RJ.z).a5, vi (L2.getD v1 RJ.z).a6, ms RA (L2.getD v1 RJ.z).a7] 97) (Zz (E := RC) _ (L := ([(⟨(L2.getD v1 RJ.z).a0, (L2.getD v1 RJ.z).a1, (L2.getD v1 RJ.z).a2, (L2.getD v1 RJ.z).a3, (L2.getD v1 RJ.z).a4, (L2.getD v1 RJ.z).a5, (L2.getD v1 RJ.z).a6, (L2.getD v1 RJ.z).a7⟩ : RJ)] : List RJ)) _ (show ([vi (L2.getD v1 RJ.z).a0, vi (L2.getD v1 RJ.z).a1, vi (L2.getD v1 RJ.z).a2, vi (L2.getD v1 RJ.z).a3, vi (L2.getD v1 RJ.z).a4, vi (L2.getD v1 RJ.z).a5, vi (L2.getD v1 RJ.z).a6, ms RA (L2.getD v1 RJ.z).a7] : List Value) = Za RC ([(⟨(L2.getD v1 RJ.z).a0, (L2.getD v1 RJ.z).a1, (L2.getD v1 RJ.z).a2, (L2.getD v1 RJ.z).a3, (L2.getD v1 RJ.z).a4, (L2.getD v1 RJ.z).a5, (L2.getD v1 RJ.z).a6, (L2.getD v1 RJ.z).a7⟩ : RJ)] : List RJ) from rfl)) <| bE)
  refine oi fun g4 => ?_;refine oi fun g5 => ?_;exact okN [0, 4] [some (vp 0 0), some (vs 4 0 (1 + (v0.length - v2)) (1 + (v0.length - v2))), some (vi (((v1 + 1) : Nat) : Int))] (vkW ((v1 : Int) + 1) (((v1 + 1) : Nat) : Int) <| tW 0 (.ap (v0.length - v2) (κP v0 v2) (Za RC (([(⟨(L2.getD v1 RJ.z).a0, (L2.getD v1 RJ.z).a1, (L2.getD v1 RJ.z).a2, (L2.getD v1 RJ.z).a3, (L2.getD v1 RJ.z).a4, (L2.getD v1 RJ.z).a5, (L2.getD v1 RJ.z).a6, (L2.getD v1 RJ.z).a7⟩ : RJ)] : List RJ) ++ ((v0.drop v2).take (v0.length - v2))))) <| kX (dP (((v0.length - v2) = (v0.length - v2) ∧ Z4 ((v0.length - v2) * 8) (List.drop (0 + (v2 * 8)) (Za RC v0)) = some (κP v0 v2) ∧ Zu Zbf (κP v0 v2) = true) ∧ 0 < (v0.length - v2) ∧ (v0.length - v2) ≤ 100000 ∧ 1 < 1 + (v0.length - v2) ∧ 1 ≤ 100000 ∧ 1 * 8 ≤ (List.length [vi (L2.getD v1 RJ.z).a0, vi (L2.getD v1 RJ.z).a1, vi (L2.getD v1 RJ.z).a2, vi (L2.getD v1 RJ.z).a3, vi (L2.getD v1 RJ.z).a4, vi (L2.getD v1 RJ.z).a5, vi (L2.getD v1 RJ.z).a6, ms RA (L2.getD v1 RJ.z).a7]) ∧ List.take (1 * 8) [vi (L2.getD v1 RJ.z).a0, vi (L2.getD v1 RJ.z).a1, vi (L2.getD v1 RJ.z).a2, vi (L2.getD v1 RJ.z).a3, vi (L2.getD v1 RJ.z).a4, vi (L2.getD v1 RJ.z).a5, vi (L2.getD v1 RJ.z).a6, ms RA (L2.getD v1 RJ.z).a7] ++ (κP v0 v2) = (Za RC (([(⟨(L2.getD v1 RJ.z).a0, (L2.getD v1 RJ.z).a1, (L2.getD v1 RJ.z).a2, (L2.getD v1 RJ.z).a3, (L2.getD v1 RJ.z).a4, (L2.getD v1 RJ.z).a5, (L2.getD v1 RJ.z).a6, (L2.getD v1 RJ.z).a7⟩ : RJ)] : List RJ) ++ ((v0.drop v2).take (v0.length - v2)))))) true (Zn ⟨⟨rfl, (Zud (E := RC) (L := v0) (a := v2) (n := (v0.length - v2)) (by omega) (by show _ = _ * 8; omega) (show _ = _ * 8 from rfl) rfl)⟩, by omega, by omega, ltA, by omega, (Zas (E := RC) (L := ([(⟨(L2.getD v1 RJ.z).a0, (L2.getD v1 RJ.z).a1, (L2.getD v1 RJ.z).a2, (L2.getD v1 RJ.z).a3, (L2.getD v1 RJ.z).a4, (L2.getD v1 RJ.z).a5, (L2.getD v1 RJ.z).a6, (L2.getD v1 RJ.z).a7⟩ : RJ)] : List RJ)) (M := ((v0.drop v2).take (v0.length - v2))) (n := 1) (show _ = _ * 8 from rfl) ltA (R := (([(⟨(L2.getD v1 RJ.z).a0, (L2.getD v1 RJ.z).a1, (L2.getD v1 RJ.z).a2, (L2.getD v1 RJ.z).a3, (L2.getD v1 RJ.z).a4, (L2.getD v1 RJ.z).a5, (L2.getD v1 RJ.z).a6, (L2.getD v1 RJ.z).a7⟩ : RJ)] : List RJ) ++ ((v0.drop v2).take (v0.length - v2)))) (by rw [List.take_of_length_le ltA]))⟩) w3) (tC (tC (tC (tE)) ⟨Eq.trans (show (vs 1 0 (([(⟨(L2.getD v1 RJ.z).a0, (L2.getD v1 RJ.z).a1, (L2.getD v1 RJ.z).a2, (L2.getD v1 RJ.z).a3, (L2.getD v1 RJ.z).a4, (L2.getD v1 RJ.z).a5, (L2.getD v1 RJ.z).a6, (L2.getD v1 RJ.z).a7⟩ : RJ)] : List RJ) ++ ((v0.drop v2).take (v0.length - v2))).length (([(⟨(L2.getD v1 RJ.z).a0, (L2.getD v1 RJ.z).a1, (L2.getD v1 RJ.z).a2, (L2.getD v1 RJ.z).a3, (L2.getD v1 RJ.z).a4, (L2.getD v1 RJ.z).a5, (L2.getD v1 RJ.z).a6, (L2.getD v1 RJ.z).a7⟩ : RJ)] : List RJ) ++ ((v0.drop v2).take (v0.length - v2))).length : Value) = vs 1 0 (1 + (v0.length - v2)) (1 + (v0.length - v2)) from (Zi rfl eqA eqA)) (by rfl), by rfl⟩)) (bS (κf L0 L1 L2) <| bR <| bE)
 refine oi fun g2 => ?_;have w3 := tW 0 (.ap (v2 - 0) (κ9 v0 v2) (κ9 v0 v2)) <| kX (dP (((v2 - 0) = (v2 - 0) ∧ Z4 ((v2 - 0) * 8) (List.drop (0 + (0 * 8)) (Za RC v0)) = some (κ9 v0 v2) ∧ Zu Zbf (κ9 v0 v2) = true) ∧ 0 < (v2 - 0) ∧ (v2 - 0) ≤ 100000 ∧ (κ9 v0 v2) = (κ9 v0 v2))) true (Zn ⟨⟨rfl, (Zud (E := RC) (L := v0) (a := 0) (n := (v2 - 0)) (by omega) (by show _ = _ * 8; omega) (show _ = _ * 8 from rfl) (by rw [List.drop_zero]))⟩, by omega, by omega, rfl⟩) w1
 refine oi fun g3 => ?_;have w4 := kX (dP (v2 ≤ v0.length ∧ v0.length ≤ v0.length)) true (Zn ⟨ltA, ltA⟩) <| kR v0.length <| tW 0 (.sl v2 v0.length) <| kI (v2 : Int) (Int.ofNat v2) <| tW 0 (.ap 1 [vi (L2.getD v1 RJ.z).a0, vi (L2.getD v1 RJ.z).a1, vi (L2.getD v1 RJ.z).a2, vi (L2.getD v1 RJ.z).a3, vi (L2.getD v1 RJ.z).a4, vi (L2.getD v1 RJ.z).a5, vi (L2.getD v1 RJ.z).a6, ms RA (L2.getD v1 RJ.z).a7] (Za RC ((v0.take (v2 - 0)) ++ ([(⟨(L2.getD v1 RJ.z).a0, (L2.getD v1 RJ.z).a1, (L2.getD v1 RJ.z).a2, (L2.getD v1 RJ.z).a3, (L2.getD v1 RJ.z).a4, (L2.getD v1 RJ.z).a5, (L2.getD v1 RJ.z).a6, (L2.getD v1 RJ.z).a7⟩ : RJ)] : List RJ)))) <| kX (dP ((1 = 1 ∧ Z4 (1 * 8) (List.drop 0 [vi (L2.getD v1 RJ.z).a0, vi (L2.getD v1 RJ.z).a1, vi (L2.getD v1 RJ.z).a2, vi (L2.getD v1 RJ.z).a3, vi (L2.getD v1 RJ.z).a4, vi (L2.getD v1 RJ.z).a5, vi (L2.getD v1 RJ.z).a6, ms RA (L2.getD v1 RJ.z).a7]) = some [vi (L2.getD v1 RJ.z).a0, vi (L2.getD v1 RJ.z).a1, vi (L2.getD v1 RJ.z).a2, vi (L2.getD v1 RJ.z).a3, vi (L2.getD v1 RJ.z).a4, vi (L2.getD v1 RJ.z).a5, vi (L2.getD v1 RJ.z).a6, ms RA (L2.getD v1 RJ.z).a7] ∧ Zu Zbf [vi (L2.getD v1 RJ.z).a0, vi (L2.getD v1 RJ.z).a1, vi (L2.getD v1 RJ.z).a2, vi (L2.getD v1 RJ.z).a3, vi (L2.getD v1 RJ.z).a4, vi (L2.getD v1 RJ.z).a5, vi (L2.getD v1 RJ.z).a6, ms RA (L2.getD v1 RJ.z).a7] = true) ∧ 0 < 1 ∧ 1 ≤ 100000 ∧ (v2 - 0) < (v2 - 0) + 1 ∧ (v2 - 0) ≤ 100000 ∧ (v2 - 0) * 8 ≤ (List.length (κ9 v0 v2)) ∧ List.take ((v2 - 0) * 8) (κ9 v0 v2) ++ [vi (L2.getD v1 RJ.z).a0, vi (L2.getD v1 RJ.z).a1, vi (L2.getD v1 RJ.z).a2, vi (L2.getD v1 RJ.z).a3, vi (L2.getD v1 RJ.z).a4, vi (L2.getD v1 RJ.z).a5, vi (L2.getD v1 RJ.z).a6, ms RA (L2.getD v1 RJ.z).a7] = (Za RC ((v0.take (v2 - 0)) ++ ([(⟨(L2.getD v1 RJ.z).a0, (L2.getD v1 RJ.z).a1, (L2.getD v1 RJ.z).a2, (L2.getD v1 RJ.z).a3, (L2.getD v1 RJ.z).a4, (L2.getD v1 RJ.z).a5, (L2.getD v1 RJ.z).a6, (L2.getD v1 RJ.z).a7⟩ : RJ)] : List RJ))))) true (Zn ⟨⟨rfl, ⟨rfl, rfl⟩⟩, by omega, by omega, ltA, by omega, (Zas (E := RC) (L := (v0.take (v2 - 0))) (M := ([(⟨(L2.getD v1 RJ.z).a0, (L2.getD v1 RJ.z).a1, (L2.getD v1 RJ.z).a2, (L2.getD v1 RJ.z).a3, (L2.getD v1 RJ.z).a4, (L2.getD v1 RJ.z).a5, (L2.getD v1 RJ.z).a6, (L2.getD v1 RJ.z).a7⟩ : RJ)] : List RJ)) (n := (v2 - 0)) (show _ = _ * 8 from rfl) ltA (R := ((v0.take (v2 - 0)) ++ ([(⟨(L2.getD v1 RJ.z).a0, (L2.getD v1 RJ.z).a1, (L2.getD v1 RJ.z).a2, (L2.getD v1 RJ.z).a3, (L2.getD v1 RJ.z).a4, (L2.getD v1 RJ.z).a5, (L2.getD v1 RJ.z).a6, (L2.getD v1 RJ.z).a7⟩ : RJ)] : List RJ))) (by rw [List.take_of_length_le ltA]))⟩) <| tL 1 (RC.cel (L2.getD v1 RJ.z)) <| kG RC L2 (0 + (v1 * 8)) v1 0 8 8 <| kB v1 L2.length <| xkI (v1 : Int) v1 w3
 refine ok_ite (fun g4 => ?_) fun g4 => ?_
 · refine oi fun g5 => ?_;exact okN [0, 4] [some (vp 0 0), some (vs 4 0 ((v2 - 0) + 1) ((v2 - 0) + 1)), some (vi (((v1 + 1) : Nat) : Int))] (vkW ((v1 : Int) + 1) (((v1 + 1) : Nat) : Int) <| tW 0 (.ap0) <| kX (κbH v0 v2) true (Zn ⟨by omega, by rw [show (v0.length - v2) = 0 by omega]; rfl, rfl⟩) w4) (tC (tC (tC (tE)) ⟨Eq.trans (show (vs 1 0 ((v0.take (v2 - 0)) ++ ([(⟨(L2.getD v1 RJ.z).a0, (L2.getD v1 RJ.z).a1, (L2.getD v1 RJ.z).a2, (L2.getD v1 RJ.z).a3, (L2.getD v1 RJ.z).a4, (L2.getD v1 RJ.z).a5, (L2.getD v1 RJ.z).a6, (L2.getD v1 RJ.z).a7⟩ : RJ)] : List RJ)).length ((v0.take (v2 - 0)) ++ ([(⟨(L2.getD v1 RJ.z).a0, (L2.getD v1 RJ.z).a1, (L2.getD v1 RJ.z).a2, (L2.getD v1 RJ.z).a3, (L2.getD v1 RJ.z).a4, (L2.getD v1 RJ.z).a5, (L2.getD v1 RJ.z).a6, (L2.getD v1 RJ.z).a7⟩ : RJ)] : List RJ)).length : Value) = vs 1 0 ((v2 - 0) + 1) ((v2 - 0) + 1) from (Zi rfl eqA eqA)) (by rfl), by rfl⟩)) (bS (κf L0 L1 L2) <| bR <| bE)
 refine oi fun g5 => ?_;refine oi fun g6 => ?_;refine oi fun g7 => ?_;exact okN [0, 5] [some (vp 0 0), some (vs 5 0 (((v2 - 0) + 1) + (v0.length - v2)) (((v2 - 0) + 1) + (v0.length - v2))), some (vi (((v1 + 1) : Nat) : Int))] (vkW ((v1 : Int) + 1) (((v1 + 1) : Nat) : Int) <| tW 0 (.ap (v0.length - v2) (κP v0 v2) (Za RC (((v0.take (v2 - 0)) ++ ([(⟨(L2.getD v1 RJ.z).a0, (L2.getD v1 RJ.z).a1, (L2.getD v1 RJ.z).a2, (L2.getD v1 RJ.z).a3, (L2.getD v1 RJ.z).a4, (L2.getD v1 RJ.z).a5, (L2.getD v1 RJ.z).a6, (L2.getD v1 RJ.z).a7⟩ : RJ)] : List RJ)) ++ ((v0.drop v2).take (v0.length - v2))))) <| kX (dP (((v0.length - v2) = (v0.length - v2) ∧ Z4 ((v0.length - v2) * 8) (List.drop (0 + (v2 * 8)) (Za RC v0)) = some (κP v0 v2) ∧ Zu Zbf (κP v0 v2) = true) ∧ 0 < (v0.length - v2) ∧ (v0.length - v2) ≤ 100000 ∧ ((v2 - 0) + 1) < ((v2 - 0) + 1) + (v0.length - v2) ∧ ((v2 - 0) + 1) ≤ 100000 ∧ ((v2 - 0) + 1) * 8 ≤ (List.length (Za RC ((v0.take (v2 - 0)) ++ ([(⟨(L2.getD v1 RJ.z).a0, (L2.getD v1 RJ.z).a1, (L2.getD v1 RJ.z).a2, (L2.getD v1 RJ.z).a3, (L2.getD v1 RJ.z).a4, (L2.getD v1 RJ.z).a5, (L2.getD v1 RJ.z).a6, (L2.getD v1 RJ.z).a7⟩ : RJ)] : List RJ)))) ∧ List.take (((v2 - 0) + 1) * 8) (Za RC ((v0.take (v2 - 0)) ++ ([(⟨(L2.getD v1 RJ.z).a0, (L2.getD v1 RJ.z).a1, (L2.getD v1 RJ.z).a2, (L2.getD v1 RJ.z).a3, (L2.getD v1 RJ.z).a4, (L2.getD v1 RJ.z).a5, (L2.getD v1 RJ.z).a6, (L2.getD v1 RJ.z).a7⟩ : RJ)] : List RJ))) ++ (κP v0 v2) = (Za RC (((v0.take (v2 - 0)) ++ ([(⟨(L2.getD v1 RJ.z).a0, (L2.getD v1 RJ.z).a1, (L2.getD v1 RJ.z).a2, (L2.getD v1 RJ.z).a3, (L2.getD v1 RJ.z).a4, (L2.getD v1 RJ.z).a5, (L2.getD v1 RJ.z).a6, (L2.getD v1 RJ.z).a7⟩ : RJ)] : List RJ)) ++ ((v0.drop v2).take (v0.length - v2)))))) true (Zn ⟨⟨rfl, (Zud (E := RC) (L := v0) (a := v2) (n := (v0.length - v2)) (by omega) (by show _ = _ * 8; omega) (show _ = _ * 8 from rfl) rfl)⟩, by omega, by omega, ltA, by omega, (Zas (E := RC) (L := ((v0.take (v2 - 0)) ++ ([(⟨(L2.getD v1 RJ.z).a0, (L2.getD v1 RJ.z).a1, (L2.getD v1 RJ.z).a2, (L2.getD v1 RJ.z).a3, (L2.getD v1 RJ.z).a4, (L2.getD v1 RJ.z).a5, (L2.getD v1 RJ.z).a6, (L2.getD v1 RJ.z).a7⟩ : RJ)] : List RJ))) (M := ((v0.drop v2).take (v0.length - v2))) (n := ((v2 - 0) + 1)) (show _ = _ * 8 from rfl) ltA (R := (((v0.take (v2 - 0)) ++ ([(⟨(L2.getD v1 RJ.z).a0, (L2.getD v1 RJ.z).a1, (L2.getD v1 RJ.z).a2, (L2.getD v1 RJ.z).a3, (L2.getD v1 RJ.z).a4, (L2.getD v1 RJ.z).a5, (L2.getD v1 RJ.z).a6, (L2.getD v1 RJ.z).a7⟩ : RJ)] : List RJ)) ++ ((v0.drop v2).take (v0.length - v2)))) (by rw [List.take_of_length_le ltA]))⟩) w4) (tC (tC (tC (tE)) ⟨Eq.trans (show (vs 1 0 (((v0.take (v2 - 0)) ++ ([(⟨(L2.getD v1 RJ.z).a0, (L2.getD v1 RJ.z).a1, (L2.getD v1 RJ.z).a2, (L2.getD v1 RJ.z).a3, (L2.getD v1 RJ.z).a4, (L2.getD v1 RJ.z).a5, (L2.getD v1 RJ.z).a6, (L2.getD v1 RJ.z).a7⟩ : RJ)] : List RJ)) ++ ((v0.drop v2).take (v0.length - v2))).length (((v0.take (v2 - 0)) ++ ([(⟨(L2.getD v1 RJ.z).a0, (L2.getD v1 RJ.z).a1, (L2.getD v1 RJ.z).a2, (L2.getD v1 RJ.z).a3, (L2.getD v1 RJ.z).a4, (L2.getD v1 RJ.z).a5, (L2.getD v1 RJ.z).a6, (L2.getD v1 RJ.z).a7⟩ : RJ)] : List RJ)) ++ ((v0.drop v2).take (v0.length - v2))).length : Value) = vs 1 0 (((v2 - 0) + 1) + (v0.length - v2)) (((v2 - 0) + 1) + (v0.length - v2)) from (Zi rfl eqA eqA)) (by rfl), by rfl⟩)) (bS (κf L0 L1 L2) <| bR <| bE)

theorem Zsi (N : Nat) : (ZbN L0 L1 L2 N).Enter Tryz.prog Ze #[Value.agg (κd L0 L1 L2)] (ZhX L0 L1 L2 N) := by unfold ZhX;exact enH [0] [some (vp 0 0), some (vn), some (vq)] Zg (tC (tC (tC (tE) ⟨Eq.trans (show κg = vq from ci) (by rfl), by rfl⟩))) (bS (κf L0 L1 L2) <| bE)

theorem Zop (N : Nat) (r : ZJ) (h : Zda L0 L1 L2 N = some r) : LSpec Tryz.prog 10 #[Value.agg (κd L0 L1 L2)] [] (Zlu r) (ZkQ r) :=
 Mach.specT Zv (ZbN L0 L1 L2 N) Tryz.func10 (fun x => (show (ZbN L0 L1 L2 N).Ok Tryz.prog Ze x (ZcW L0 L1 L2 N x) from by
  cases x with
  | h1m0 v0 => exact Zoj L0 L1 L2 v0 N
  | h1m1 v0 v1 => exact Zok L0 L1 L2 v0 v1 N
  | h2m0 v0 => exact Zol L0 L1 L2 v0 N
  | h2m1 v0 v1 v2 => exact Zom L0 L1 L2 v0 v1 v2 N
  | h3m0 v0 => exact Zon L0 L1 L2 v0 N
  | h3m1 v0 v1 v2 => exact Zoo L0 L1 L2 v0 v1 v2 N
  )) (Zsi L0 L1 L2 N) h

theorem Zp6 (N : Nat) (r : ZJ) (h : Zda L0 L1 L2 N = some r) : LSpec Tryz.prog 10 #[Value.agg (κd L0 L1 L2)] [] (Zm0 r) (Zlv r) := by
 have h0 := Zop L0 L1 L2 N r h;cases r with
 | r0 => exact (LSpec.nlv (v2 := ms RC ([] : List RJ)) h0 rfl rfl)
 | r1 w0 => exact (LSpec.frzv (E := RC) (L := w0) (post := []) (v2 := ms RC w0) h0 (show 0 ≤ 0 from by decide) (show 0 < 1000000000 from by decide) trivial rfl rfl rfl)

end
theorem ZeN {L0 : List (List RI)} {L1 : List RL} {L2 : List RJ} {N : Nat} {r : ZJ} (h : Zda L0 L1 L2 N = some r) : LSpec Tryz.prog 10 #[Value.agg (κd L0 L1 L2)] [] (Zm0 r) (Zlv r) := Zp6 L0 L1 L2 N r h

open Mach (oi ok_ite ok_none okN enH en_ite en_none)
set_option linter.unusedVariables false
set_option maxRecDepth 100000
noncomputable def Zp7 : fifo_ItemsR → Value
 | .r0 => Value.tuple #[vn, vq]
 | .r1 w0 => Value.tuple #[vs 0 0 w0.length w0.length, vq]
noncomputable def ZnW : fifo_ItemsR → List (Option AObj)
 | .r0 => []
 | .r1 w0 => [some (.cells (Za eI w0) 3)]

noncomputable def Zrn : fifo_ItemsR → Value
 | .r0 => Value.tuple #[vn, vq]
 | .r1 w0 => Value.tuple #[ms eI w0, vq]
noncomputable def Zp8 : fifo_ItemsR → List (Option AObj)
 | .r0 => []
 | .r1 w0 => []

def ZzB : Zag → Nat
 | .h1m0 v1 v5 => 1
 | .h2m0 v1 v2 v3 v4 v5 v6 v7 v8 v9 v10 v11 v12 v13 v16 v17 => 2
 | .h2m1 v0 v2 v3 v4 v5 v6 v7 v8 v9 v10 v11 v12 v13 v14 v15 v16 v17 v18 => 2
noncomputable def Z0V (L0 : List RJ) (a1 a2 a3 : Int) : Zag → List (Nat × Value)
 | .h1m0 v1 v5 => [(2, vi a3), (3, vp 0 0), (4, vp 1 0), (8, vp 2 0), (9, vi v1)]
 | .h2m0 v1 v2 v3 v4 v5 v6 v7 v8 v9 v10 v11 v12 v13 v16 v17 => [(3, vp 0 0), (10, Value.func (.func 32) #[] #[vp 1 0, vp 0 0]), (11, vp 2 0), (14, vp 3 0), (15, vp 4 0), (16, vn), (17, vp 5 0), (18, vp 6 0)]
 | .h2m1 v0 v2 v3 v4 v5 v6 v7 v8 v9 v10 v11 v12 v13 v14 v15 v16 v17 v18 => [(3, vp 0 0), (10, Value.func (.func 32) #[] #[vp 1 0, vp 0 0]), (11, vp 2 0), (14, vp 3 0), (15, vp 4 0), (16, vs 5 0 v0.length v0.length), (17, vp 6 0), (18, vp 7 0)]
noncomputable def Z0W (L0 : List RJ) (a1 a2 a3 : Int) : Zag → List (Option AObj)
 | .h1m0 v1 v5 => [some (.cells [ms RC L0] 32), some (.cells [vi a1, vi a2] 44), some (.cells [Value.map (some 3)] 99), some (.ro (Zes v5) true)]
 | .h2m0 v1 v2 v3 v4 v5 v6 v7 v8 v9 v10 v11 v12 v13 v16 v17 => [some (.cells [ms RC L0] 32), some (.cells [Value.map (some 7)] 99), some (.cells [vi v2, vi v3, vi v4, vi v5, vi v6, vi v7, vi v8, ms RA v9] 97), some (.cells [vi v10, vi v11] 44), some (.cells [vi v12, vi v13] 44), some (.cells [vi 2, vq] 44), some (.cells [vi v16, vi v17] 44), some (.ro (Zes v1) true)]
 | .h2m1 v0 v2 v3 v4 v5 v6 v7 v8 v9 v10 v11 v12 v13 v14 v15 v16 v17 v18 => [some (.cells [ms RC L0] 32), some (.cells [Value.map (some 8)] 99), some (.cells [vi v3, vi v4, vi v5, vi v6, vi v7, vi v8, vi v9, ms RA v10] 97), some (.cells [vi v11, vi v12] 44), some (.cells [vi v13, vi v14] 44), some (.cells (Za eI v0) 3), some (.cells [vi v15, vi v16] 44), some (.cells [vi v17, vi v18] 44), some (.ro (Zes v2) true)]

noncomputable def Z0X : Nat → Code × List ZL
 | 1 => Z5 [1, 1, 0, 1, 3] (ZM Tryz.f11) []
 | 2 => Z5 [1, 1, 1, 1, 1, 1, 1, 1, 1, 1, 0, 1, 3] (ZM Tryz.f11) []
 | _ => (.skip, [])

section
variable (L0 : List RJ) (a1 a2 a3 : Int)
noncomputable def ZfL (N : Nat) : Mach := ⟨Tryz.f11, [], Zag, fifo_ItemsR, Zeg L0 a1 a2 a3 N, ZzB, Z0X, ilT, Z0V L0 a1 a2 a3, Z0W L0 a1 a2 a3, Zp7, ZnW⟩

theorem Zsj (v1 : Int) (v5 : List RH) (N : Nat) : (ZfL L0 a1 a2 a3 N).Ok Tryz.prog Ze (.h1m0 v1 v5 : Zag) (ZcP L0 a1 a2 a3 N v1 v5) := by
 unfold ZcP;refine ok_ite (fun g0 => ?_) fun g0 => ?_
 · refine oi fun g1 => ?_;exact Mach.okN0 [0, 1, 2, 3] (tW 0 (.mp (Zco (ZdC v5 (L0.getD (v1).toNat RJ.z).a0 (L0.getD (v1).toNat RJ.z).a1 v1))) <| kX (dP (putM Tryz.prog 44 (Value.agg #[vi (L0.getD (v1).toNat RJ.z).a0, vi (L0.getD (v1).toNat RJ.z).a1]) (vi v1) (Zco v5) = some (Zco (ZdC v5 (L0.getD (v1).toNat RJ.z).a0 (L0.getD (v1).toNat RJ.z).a1 v1)))) true (Zn (Z6a _ _ _ _)) <| tL 2 [.i (L0.getD (v1).toNat RJ.z).a0, .i (L0.getD (v1).toNat RJ.z).a1] <| kG RC L0 ((0 + ((v1).toNat * 8)) + 0) ((v1).toNat) 0 2 8 <| kB (v1).toNat L0.length <| xkI v1 ((v1).toNat) <| bkY (v1 ≥ 0) Zg) (bS [ms RC L0] <| bS [vi a1, vi a2] <| bS [Value.map (some 3)] <| bC (o := .ro (Zes (ZdC v5 (L0.getD (v1).toNat RJ.z).a0 (L0.getD (v1).toNat RJ.z).a1 v1)) true) (show Zes (ZdC v5 (L0.getD (v1).toNat RJ.z).a0 (L0.getD (v1).toNat RJ.z).a1 v1) = Zes (ZdC v5 (L0.getD (v1).toNat RJ.z).a0 (L0.getD (v1).toNat RJ.z).a1 v1) from rfl) <| bE)
 refine oi fun g1 => ?_;refine ok_ite (fun _ => ok_none) (fun g2 => ?_);refine ok_ite (fun _ => ok_none) (fun g3 => ?_);refine oi fun g4 => ?_;refine oi fun g5 => ?_;refine oi fun g6 => ?_;refine oi fun g7 => ?_;refine ok_ite (fun _ => ok_none) (fun g8 => ?_);refine ok_ite (fun _ => ok_none) (fun g9 => ?_);refine ok_ite (fun _ => ok_none) (fun g10 => ?_);refine ok_ite (fun _ => ok_none) (fun g11 => ?_);exact Mach.okH0 [0, 2, 8, 10, 11, 13, 14, 3] (bkE (((L0.getD ((Zh v5 a1 a2)).toNat RJ.z).a7.getD (((8 : Int) + a3)).toNat RG.z).a0) 1 <| bkE (((L0.getD ((Zh v5 a1 a2)).toNat RJ.z).a7.getD ((((2 : Int) * a3) + 1)).toNat RG.z).a0) 2 <| bkE (((L0.getD ((Zh v5 a1 a2)).toNat RJ.z).a7.getD (((2 : Int) * a3)).toNat RG.z).a0) 2 <| tL 1 (RA.cel ((L0.getD ((Zh v5 a1 a2)).toNat RJ.z).a7.getD (((8 : Int) + a3)).toNat RG.z)) <| kG RA ((L0.getD ((Zh v5 a1 a2)).toNat RJ.z).a7) (0 + ((((8 : Int) + a3)).toNat * 2)) ((((8 : Int) + a3)).toNat) 0 2 2 <| kB (((8 : Int) + a3)).toNat (L0.getD ((Zh v5 a1 a2)).toNat RJ.z).a7.length <| xkI ((8 : Int) + a3) ((((8 : Int) + a3)).toNat) <| vkW ((8 : Int) + a3) ((8 : Int) + a3) <| tL 1 (RA.cel ((L0.getD ((Zh v5 a1 a2)).toNat RJ.z).a7.getD ((((2 : Int) * a3) + 1)).toNat RG.z)) <| kG RA ((L0.getD ((Zh v5 a1 a2)).toNat RJ.z).a7) (0 + (((((2 : Int) * a3) + 1)).toNat * 2)) (((((2 : Int) * a3) + 1)).toNat) 0 2 2 <| kB ((((2 : Int) * a3) + 1)).toNat (L0.getD ((Zh v5 a1 a2)).toNat RJ.z).a7.length <| xkI (((2 : Int) * a3) + 1) (((((2 : Int) * a3) + 1)).toNat) <| vkW (((2 : Int) * a3) + 1) (((2 : Int) * a3) + 1) <| vkW ((2 : Int) * a3) ((2 : Int) * a3) <| tL 2 (RA.cel ((L0.getD ((Zh v5 a1 a2)).toNat RJ.z).a7.getD (((2 : Int) * a3)).toNat RG.z)) <| kG RA ((L0.getD ((Zh v5 a1 a2)).toNat RJ.z).a7) (0 + ((((2 : Int) * a3)).toNat * 2)) ((((2 : Int) * a3)).toNat) 0 2 2 <| kB (((2 : Int) * a3)).toNat (L0.getD ((Zh v5 a1 a2)).toNat RJ.z).a7.length <| xkI ((2 : Int) * a3) ((((2 : Int) * a3)).toNat) <| vkW ((2 : Int) * a3) ((2 : Int) * a3) <| tB 1 <| hN g8 <| bhY g7 <| tB 1 <| kY (a3 ≥ 0) <| tL 7 (RC.cel (L0.getD ((Zh v5 a1 a2)).toNat RJ.z)) <| kG RC L0 (0 + (((Zh v5 a1 a2)).toNat * 8)) (((Zh v5 a1 a2)).toNat) 0 8 8 <| kB ((Zh v5 a1 a2)).toNat L0.length <| xkI (Zh v5 a1 a2) (((Zh v5 a1 a2)).toNat) <| bkO ((a1 == 2) && ((a2 == 0) && true)) <| tB 1 <| kE a1 2 <| tW 1 (.lk (some (vi (Zh v5 a1 a2)))) <| kX (dP ((ZeS Tryz.prog 44 (Value.agg #[vi a1, vi a2]) (Zco v5)).map (Option.map Prod.snd) = some (some (vi (Zh v5 a1 a2))))) true (Zn (Zy1 (by assumption))) <| bkN (v1 ≥ 0) Zg) (bS [ms RC L0] <| bS [Value.map (some 3)] <| bS [vi (L0.getD ((Zh v5 a1 a2)).toNat RJ.z).a0, vi (L0.getD ((Zh v5 a1 a2)).toNat RJ.z).a1, vi (L0.getD ((Zh v5 a1 a2)).toNat RJ.z).a2, vi (L0.getD ((Zh v5 a1 a2)).toNat RJ.z).a3, vi (L0.getD ((Zh v5 a1 a2)).toNat RJ.z).a4, vi (L0.getD ((Zh v5 a1 a2)).toNat RJ.z).a5, vi (L0.getD ((Zh v5 a1 a2)).toNat RJ.z).a6, ms RA (L0.getD ((Zh v5 a1 a2)).toNat RJ.z).a7] <| bS [vi ((L0.getD ((Zh v5 a1 a2)).toNat RJ.z).a7.getD ((((2 : Int) * a3) + 1)).toNat RG.z).a0, vi ((L0.getD ((Zh v5 a1 a2)).toNat RJ.z).a7.getD ((((2 : Int) * a3) + 1)).toNat RG.z).a1] <| bS [vi ((L0.getD ((Zh v5 a1 a2)).toNat RJ.z).a7.getD (((8 : Int) + a3)).toNat RG.z).a0, vi ((L0.getD ((Zh v5 a1 a2)).toNat RJ.z).a7.getD (((8 : Int) + a3)).toNat RG.z).a1] <| bS [vi 2, vq] <| bS [vi ((L0.getD ((Zh v5 a1 a2)).toNat RJ.z).a7.getD (((2 : Int) * a3)).toNat RG.z).a0, vi ((L0.getD ((Zh v5 a1 a2)).toNat RJ.z).a7.getD (((2 : Int) * a3)).toNat RG.z).a1] <| bC (o := .ro (Zes v5) true) (show Zes v5 = Zes v5 from rfl) <| bE)

theorem Zsk (v1 : List RH) (v2 v3 v4 v5 v6 v7 v8 : Int) (v9 : List RG) (v10 v11 v12 v13 v16 v17 : Int) (N : Nat) : (ZfL L0 a1 a2 a3 N).Ok Tryz.prog Ze (.h2m0 v1 v2 v3 v4 v5 v6 v7 v8 v9 v10 v11 v12 v13 v16 v17 : Zag) (ZcQ L0 a1 a2 a3 N v1 v2 v3 v4 v5 v6 v7 v8 v9 v10 v11 v12 v13 v16 v17) := by
 unfold ZcQ;refine ok_ite (fun g0 => ?_) fun g0 => ?_
 · refine ok_ite (fun _ => ok_none) (fun g1 => ?_);refine ok_ite (fun _ => ok_none) (fun g2 => ?_);exact Mach.okF0 [] (bkE v13 0 <| tB 1 <| kX ((!(((2 : Int) == v10) && (((0 : Int) == v11) && true)))) false (by rw [Bool.not_eq_false']; first | (simp only [beq_self_eq_true, Bool.and_self]; done) | (simp only [Bool.and_true, Bool.and_eq_true, beq_iff_eq] <;> first | omega | (simp_all; done) | grind)) <| bkZ ((v16 == 2) && ((v17 == 0) && true)) Zg) bE
 refine oi fun g1 => ?_;refine ok_ite (fun _ => ok_none) (fun g2 => ?_);refine oi fun g3 => ?_;refine oi fun g4 => ?_;refine oi fun g5 => ?_;refine oi fun g6 => ?_;refine oi fun g7 => ?_;refine oi fun g8 => ?_;exact okN (rg 0 5 (16 :: (5 :: (17 :: [7])))) [some (vp 0 0), some (Value.func (.func 32) #[] #[vp 1 0, vp 0 0]), some (vp 2 0), some (vp 3 0), some (vp 4 0), some (vs 16 0 1 1), some (vp 5 0), some (vp 17 0)] (tL 3 (RA.cel ((L0.getD ((Zh v1 v16 v17)).toNat RJ.z).a7.getD 0 RG.z)) <| kG RA ((L0.getD ((Zh v1 v16 v17)).toNat RJ.z).a7) (0 + (0 * 2)) 0 0 2 2 <| kB 0 (L0.getD ((Zh v1 v16 v17)).toNat RJ.z).a7.length <| xkI 0 0 <| tL 2 [.i ((L0.getD ((Zh v1 v16 v17)).toNat RJ.z).a7.getD 1 RG.z).a1] <| kG RA ((L0.getD ((Zh v1 v16 v17)).toNat RJ.z).a7) ((0 + (1 * 2)) + 1) 1 1 1 2 <| kB 1 (L0.getD ((Zh v1 v16 v17)).toNat RJ.z).a7.length <| xkI 1 1 <| tB 1 <| kF 0 (L0.length : Int) <| bhT g8 <| tL 1 [.i ((L0.getD ((Zh v1 v16 v17)).toNat RJ.z).a7.getD 1 RG.z).a0] <| kG RA ((L0.getD ((Zh v1 v16 v17)).toNat RJ.z).a7) ((0 + (1 * 2)) + 0) 1 0 1 2 <| kB 1 (L0.getD ((Zh v1 v16 v17)).toNat RJ.z).a7.length <| xkI 1 1 <| bhT g7 <| tL 4 [.i ((L0.getD ((Zh v1 v16 v17)).toNat RJ.z).a7.getD 0 RG.z).a0] <| kG RA ((L0.getD ((Zh v1 v16 v17)).toNat RJ.z).a7) ((0 + (0 * 2)) + 0) 0 0 1 2 <| kB 0 (L0.getD ((Zh v1 v16 v17)).toNat RJ.z).a7.length <| xkI 0 0 <| bhT g6 <| tB 1 <| hD g5 <| tL 9 (RC.cel (L0.getD ((Zh v1 v16 v17)).toNat RJ.z)) <| kG RC L0 (0 + (((Zh v1 v16 v17)).toNat * 8)) (((Zh v1 v16 v17)).toNat) 0 8 8 <| kB ((Zh v1 v16 v17)).toNat L0.length <| xkI (Zh v1 v16 v17) (((Zh v1 v16 v17)).toNat) <| bkO ((v16 == 2) && ((v17 == 0) && true)) <| tB 2 <| kE v16 2 <| tW 2 (.lk (some (vi (Zh v1 v16 v17)))) <| kX (dP ((ZeS Tryz.prog 44 (Value.agg #[vi v16, vi v17]) (Zco v1)).map (Option.map Prod.snd) = some (some (vi (Zh v1 v16 v17))))) true (Zn (Zy1 (by assumption))) <| bkO ((v16 == 2) && ((v17 == 0) && true)) Zg) (tC (tC (tC (tC (tC (tC (tC (tC (tE))) ⟨Eq.trans (show (vs 5 0 ([((L0.getD ((Zh v1 v16 v17)).toNat RJ.z).a7.getD 1 RG.z).a1] : List Int).length ([((L0.getD ((Zh v1 v16 v17)).toNat RJ.z).a7.getD 1 RG.z).a1] : List Int).length : Value) = vs 5 0 1 1 from (Zi rfl eqA eqA)) (by rfl), by rfl⟩)))))) (bS [ms RC L0] <| bS [Value.map (some 7)] <| bS [vi (L0.getD ((Zh v1 v16 v17)).toNat RJ.z).a0, vi (L0.getD ((Zh v1 v16 v17)).toNat RJ.z).a1, vi (L0.getD ((Zh v1 v16 v17)).toNat RJ.z).a2, vi (L0.getD ((Zh v1 v16 v17)).toNat RJ.z).a3, vi (L0.getD ((Zh v1 v16 v17)).toNat RJ.z).a4, vi (L0.getD ((Zh v1 v16 v17)).toNat RJ.z).a5, vi (L0.getD ((Zh v1 v16 v17)).toNat RJ.z).a6, ms RA (L0.getD ((Zh v1 v16 v17)).toNat RJ.z).a7] <| bS [vi v10, vi v11] <| bS [vi v12, vi v13] <| bC (o := .cells [vi ((L0.getD ((Zh v1 v16 v17)).toNat RJ.z).a7.getD 1 RG.z).a1] 3) (Zz (E := eI) _ (L := ([((L0.getD ((Zh v1 v16 v17)).toNat RJ.z).a7.getD 1 RG.z).a1] : List Int)) _ (show ([vi ((L0.getD ((Zh v1 v16 v17)).toNat RJ.z).a7.getD 1 RG.z).a1] : List Value) = Za eI ([((L0.getD ((Zh v1 v16 v17)).toNat RJ.z).a7.getD 1 RG.z).a1] : List Int) from rfl)) <| bS [vi v16, vi v17] <| bS [vi ((L0.getD ((Zh v1 v16 v17)).toNat RJ.z).a7.getD 0 RG.z).a0, vi ((L0.getD ((Zh v1 v16 v17)).toNat RJ.z).a7.getD 0 RG.z).a1] <| bC (o := .ro (Zes v1) true) (show Zes v1 = Zes v1 from rfl) <| bE)

theorem Zsl (v0 : List Int) (v2 : List RH) (v3 v4 v5 v6 v7 v8 v9 : Int) (v10 : List RG) (v11 v12 v13 v14 v15 v16 v17 v18 : Int) (N : Nat) : (ZfL L0 a1 a2 a3 N).Ok Tryz.prog Ze (.h2m1 v0 v2 v3 v4 v5 v6 v7 v8 v9 v10 v11 v12 v13 v14 v15 v16 v17 v18 : Zag) (ZcR L0 a1 a2 a3 N v0 v2 v3 v4 v5 v6 v7 v8 v9 v10 v11 v12 v13 v14 v15 v16 v17 v18) := by
 unfold ZcR;refine ok_ite (fun g0 => ?_) fun g0 => ?_
 · refine ok_ite (fun _ => ok_none) (fun g1 => ?_);refine ok_ite (fun _ => ok_none) (fun g2 => ?_);exact Mach.okF0 [5] (bkE v14 (v0.length : Int) <| tB 1 <| kX ((!((v15 == v11) && ((v16 == v12) && true)))) false (by rw [Bool.not_eq_false']; first | (simp only [beq_self_eq_true, Bool.and_self]; done) | (simp only [Bool.and_true, Bool.and_eq_true, beq_iff_eq] <;> first | omega | (simp_all; done) | grind)) <| bkZ ((v17 == 2) && ((v18 == 0) && true)) Zg) (bR <| bE)
 refine oi fun g1 => ?_;refine ok_ite (fun _ => ok_none) (fun g2 => ?_);refine oi fun g3 => ?_;refine oi fun g4 => ?_;refine oi fun g5 => ?_;refine oi fun g6 => ?_;refine oi fun g7 => ?_;refine oi fun g8 => ?_;refine ok_ite (fun _ => ok_none) (fun g9 => ?_);refine oi fun g10 => ?_;exact okN (rg 0 5 (17 :: (6 :: (18 :: [8])))) [some (vp 0 0), some (Value.func (.func 32) #[] #[vp 1 0, vp 0 0]), some (vp 2 0), some (vp 3 0), some (vp 4 0), some (vs 17 0 (v0.length + 1) (v0.length + 1)), some (vp 6 0), some (vp 18 0)] (tL 3 (RA.cel ((L0.getD ((Zh v2 v17 v18)).toNat RJ.z).a7.getD 0 RG.z)) <| kG RA ((L0.getD ((Zh v2 v17 v18)).toNat RJ.z).a7) (0 + (0 * 2)) 0 0 2 2 <| kB 0 (L0.getD ((Zh v2 v17 v18)).toNat RJ.z).a7.length <| xkI 0 0 <| tW 3 (.ap 1 [vi ((L0.getD ((Zh v2 v17 v18)).toNat RJ.z).a7.getD 1 RG.z).a1] (Za eI (v0 ++ ([((L0.getD ((Zh v2 v17 v18)).toNat RJ.z).a7.getD 1 RG.z).a1] : List Int)))) <| kA eI v0 (((L0.getD ((Zh v2 v17 v18)).toNat RJ.z).a7.getD 1 RG.z).a1) <| tL 2 [.i ((L0.getD ((Zh v2 v17 v18)).toNat RJ.z).a7.getD 1 RG.z).a1] <| kG RA ((L0.getD ((Zh v2 v17 v18)).toNat RJ.z).a7) ((0 + (1 * 2)) + 1) 1 1 1 2 <| kB 1 (L0.getD ((Zh v2 v17 v18)).toNat RJ.z).a7.length <| xkI 1 1 <| tB 1 <| hF g9 <| bhT g8 <| tL 1 [.i ((L0.getD ((Zh v2 v17 v18)).toNat RJ.z).a7.getD 1 RG.z).a0] <| kG RA ((L0.getD ((Zh v2 v17 v18)).toNat RJ.z).a7) ((0 + (1 * 2)) + 0) 1 0 1 2 <| kB 1 (L0.getD ((Zh v2 v17 v18)).toNat RJ.z).a7.length <| xkI 1 1 <| bhT g7 <| tL 4 [.i ((L0.getD ((Zh v2 v17 v18)).toNat RJ.z).a7.getD 0 RG.z).a0] <| kG RA ((L0.getD ((Zh v2 v17 v18)).toNat RJ.z).a7) ((0 + (0 * 2)) + 0) 0 0 1 2 <| kB 0 (L0.getD ((Zh v2 v17 v18)).toNat RJ.z).a7.length <| xkI 0 0 <| bhT g6 <| tB 1 <| hD g5 <| tL 9 (RC.cel (L0.getD ((Zh v2 v17 v18)).toNat RJ.z)) <| kG RC L0 (0 + (((Zh v2 v17 v18)).toNat * 8)) (((Zh v2 v17 v18)).toNat) 0 8 8 <| kB ((Zh v2 v17 v18)).toNat L0.length <| xkI (Zh v2 v17 v18) (((Zh v2 v17 v18)).toNat) <| bkO ((v17 == 2) && ((v18 == 0) && true)) <| tB 2 <| kE v17 2 <| tW 2 (.lk (some (vi (Zh v2 v17 v18)))) <| kX (dP ((ZeS Tryz.prog 44 (Value.agg #[vi v17, vi v18]) (Zco v2)).map (Option.map Prod.snd) = some (some (vi (Zh v2 v17 v18))))) true (Zn (Zy1 (by assumption))) <| bkO ((v17 == 2) && ((v18 == 0) && true)) Zg) (tC (tC (tC (tC (tC (tC (tC (tC (tE))) ⟨Eq.trans (show (vs 5 0 (v0 ++ ([((L0.getD ((Zh v2 v17 v18)).toNat RJ.z).a7.getD 1 RG.z).a1] : List Int)).length (v0 ++ ([((L0.getD ((Zh v2 v17 v18)).toNat RJ.z).a7.getD 1 RG.z).a1] : List Int)).length : Value) = vs 5 0 (v0.length + 1) (v0.length + 1) from (Zi rfl eqA eqA)) (by rfl), by rfl⟩)))))) (bS [ms RC L0] <| bS [Value.map (some 8)] <| bS [vi (L0.getD ((Zh v2 v17 v18)).toNat RJ.z).a0, vi (L0.getD ((Zh v2 v17 v18)).toNat RJ.z).a1, vi (L0.getD ((Zh v2 v17 v18)).toNat RJ.z).a2, vi (L0.getD ((Zh v2 v17 v18)).toNat RJ.z).a3, vi (L0.getD ((Zh v2 v17 v18)).toNat RJ.z).a4, vi (L0.getD ((Zh v2 v17 v18)).toNat RJ.z).a5, vi (L0.getD ((Zh v2 v17 v18)).toNat RJ.z).a6, ms RA (L0.getD ((Zh v2 v17 v18)).toNat RJ.z).a7] <| bS [vi v11, vi v12] <| bS [vi v13, vi v14] <| bR <| bS [vi v17, vi v18] <| bS [vi ((L0.getD ((Zh v2 v17 v18)).toNat RJ.z).a7.getD 0 RG.z).a0, vi ((L0.getD ((Zh v2 v17 v18)).toNat RJ.z).a7.getD 0 RG.z).a1] <| bC (o := .ro (Zes v2) true) (show Zes v2 = Zes v2 from rfl) <| bE)

theorem ZwX (N : Nat) : (ZfL L0 a1 a2 a3 N).Enter Tryz.prog Ze (κw L0 a1 a2 a3) (ZhY L0 a1 a2 a3 N) := by unfold ZhY;refine en_ite (fun g0 => ?_) (fun _ => en_none);exact Mach.enH0 [0, 1, 3, 2] (vkW ((L0.length : Int) - 1) ((L0.length : Int) - 1) Zg) (bS [ms RC L0] <| bS [vi a1, vi a2] <| bS [Value.map (some 2)] <| bC (o := .ro (Zes ([] : List RH)) true) (show Zes ([] : List RH) = Zes ([] : List RH) from rfl) <| bE)

theorem Zsm (N : Nat) (r : fifo_ItemsR) (h : ZeL L0 a1 a2 a3 N = some r) : LSpec Tryz.prog 11 (κw L0 a1 a2 a3) [] (Zp7 r) (ZnW r) :=
 Mach.specT Zv (ZfL L0 a1 a2 a3 N) Tryz.func11 (fun x => (show (ZfL L0 a1 a2 a3 N).Ok Tryz.prog Ze x (Zeg L0 a1 a2 a3 N x) from by
  cases x with
  | h1m0 v1 v5 => exact Zsj L0 a1 a2 a3 v1 v5 N
  | h2m0 v1 v2 v3 v4 v5 v6 v7 v8 v9 v10 v11 v12 v13 v16 v17 => exact Zsk L0 a1 a2 a3 v1 v2 v3 v4 v5 v6 v7 v8 v9 v10 v11 v12 v13 v16 v17 N
  | h2m1 v0 v2 v3 v4 v5 v6 v7 v8 v9 v10 v11 v12 v13 v14 v15 v16 v17 v18 => exact Zsl L0 a1 a2 a3 v0 v2 v3 v4 v5 v6 v7 v8 v9 v10 v11 v12 v13 v14 v15 v16 v17 v18 N
  )) (ZwX L0 a1 a2 a3 N) h

theorem ZtD (N : Nat) (r : fifo_ItemsR) (h : ZeL L0 a1 a2 a3 N = some r) : LSpec Tryz.prog 11 (κw L0 a1 a2 a3) [] (Zrn r) (Zp8 r) := by
 have h0 := Zsm L0 a1 a2 a3 N r h;cases r with
 | r0 => exact h0
 | r1 w0 => exact (LSpec.frzv (E := eI) (L := w0) (post := []) (v2 := Value.tuple #[ms eI w0, vq]) h0 (show 0 ≤ 0 from by decide) (show 0 < 1000000000 from by decide) trivial rfl rfl rfl)

end
theorem Zfm {L0 : List RJ} {a1 a2 a3 : Int} {N : Nat} {r : fifo_ItemsR} (h : ZeL L0 a1 a2 a3 N = some r) : LSpec Tryz.prog 11 (κw L0 a1 a2 a3) [] (Zrn r) (Zp8 r) := ZtD L0 a1 a2 a3 N r h

noncomputable def Zro : Zdw → Value
 | .r0 => vT
section
variable (L0 : List Int)
noncomputable def Zp9 : Zdw → List (Option AObj)
 | .r0 => [some (.cells (Za eI L0) 3)]

def ZzC : ZcA → Nat
 | .h1m0 => 1
noncomputable def Z0Y : ZcA → List (Nat × Value)
 | .h1m0 => [(0, vn), (1, vs 0 0 L0.length L0.length), (5, vq)]
noncomputable def Z0Z : ZcA → List (Option AObj)
 | .h1m0 => [some (.cells (Za eI L0) 3)]

noncomputable def Z1a : Nat → Code × List ZL
 | 1 => Z5 [1, 1, 0, 1, 3] (ZM Tryz.f19) []
 | _ => (.skip, [])

noncomputable def ZiV (N : Nat) : Mach := ⟨Tryz.f19, [.cells (Za eI L0) 3], ZcA, Zdw, ZiB L0 N, ZzC, Z1a, ilT, Z0Y L0, Z0Z L0, Zro, Zp9 L0⟩

theorem Zsn (N : Nat) : (ZiV L0 N).Ok Tryz.prog Ze (.h1m0 : ZcA) (ZhZ L0 N) := by unfold ZhZ;exact Mach.okF0 [0] Zg (bR <| bE)

theorem ZwY (N : Nat) : (ZiV L0 N).Enter Tryz.prog Ze #[vn, vs 0 0 L0.length L0.length] (Zk3 L0 N) := by unfold Zk3;refine en_ite (fun _ => en_none) (fun g0 => ?_);exact Mach.enH0 [0] (bkE 0 (L0.length : Int) Zg) (bR <| bE)

theorem ZtE (N : Nat) (r : Zdw) (h : Zia L0 N = some r) : LSpec Tryz.prog 19 #[vn, vs 0 0 L0.length L0.length] [.cells (Za eI L0) 3] (Zro r) (Zp9 L0 r) :=
 Mach.specT Zv (ZiV L0 N) Tryz.func19 (fun x => (show (ZiV L0 N).Ok Tryz.prog Ze x (ZiB L0 N x) from by
  cases x with
  | h1m0 => exact Zsn L0 N
  )) (ZwY L0 N) h

end
noncomputable def ZzD {L0 : List Int} {N : Nat} (h : Zia L0 N = some (.r0)) (ks : List Nat) (n : Nat) : ToldS := ⟨#[vn, vs (nth ks 0) 0 L0.length L0.length], [((nth ks 0), .cells (Za eI L0) 3)], vT, [], 0⟩

theorem ZpA {L0 : List Int} {N : Nat} (h : Zia L0 N = some (.r0)) (ks : List Nat) (n : Nat) (hk : ks.length = 1 := by rfl) (hnd : ks.Nodup := by decide +kernel) (hlt : ∀ k ∈ ks, k < n := by decide +kernel) : (ZzD (N := N)  h ks n).P Tryz.prog 19 n :=
 match ks, hk, hnd, hlt with
 | [k0], _, hnd, hlt => Zci (show LSpec Tryz.prog 19 #[vn, vs 0 0 L0.length L0.length] [.cells (Za eI L0) 3] (vT) [some (.cells (Za eI L0) 3)] from ZtE L0 N _ h) _ n [] hnd hlt

noncomputable def Zrp : Zdx → Value
 | .r0 => vT
noncomputable def ZpB (L0 L1 : List RG) : Zdx → List (Option AObj)
 | .r0 => (κ0 L1)

def ZzE : Zcf → Nat
 | .h1m0 v2 => 1
section
variable (L0 L1 : List RG)
noncomputable def Z1b : Zcf → List (Nat × Value)
 | .h1m0 v2 => [(0, ms RA L0), (1, vs 0 0 L1.length L1.length), (5, vi (v2 : Int))]
noncomputable def Z1c (L0 L1 : List RG) : Zcf → List (Option AObj)
 | .h1m0 v2 => (κ0 L1)

noncomputable def Z1d : Nat → Code × List ZL
 | 1 => Z5 [1, 1, 0, 1, 3] (ZM Tryz.f18) []
 | _ => (.skip, [])

noncomputable def ZiW (N : Nat) : Mach := ⟨Tryz.f18, (κ1 L1), Zcf, Zdx, ZiC L0 L1 N, ZzE, Z1d, ilT, Z1b L0 L1, Z1c L0 L1, Zrp, ZpB L0 L1⟩

theorem Zso (v2 N : Nat) : (ZiW L0 L1 N).Ok Tryz.prog Ze (.h1m0 v2 : Zcf) (Zib L0 L1 N v2) := by
 unfold Zib;refine ok_ite (fun g0 => ?_) fun g0 => ?_
 · refine oi fun g1 => ?_;refine ok_ite (fun _ => ok_none) (fun g2 => ?_);refine oi fun g3 => ?_;exact Mach.okN0 [0] (vkW ((v2 : Int) + 1) (((v2 + 1) : Nat) : Int) <| bkX ((!(((L0.getD v2 RG.z).a0 == (L1.getD v2 RG.z).a0) && (((L0.getD v2 RG.z).a1 == (L1.getD v2 RG.z).a1) && true)))) false (by rw [Bool.not_eq_false']; first | (simp only [beq_self_eq_true, Bool.and_self]; done) | (simp only [Bool.and_true, Bool.and_eq_true, beq_iff_eq] <;> first | omega | (simp_all; done) | grind)) <| Za3 RA L1 v2 0 2 <| kB v2 L1.length <| xkI (v2 : Int) v2 <| lkG RA L0 (0 + (v2 * 2)) v2 0 2 2 <| kB v2 L0.length <| xkI (v2 : Int) v2 <| bhY g0 Zg) (bR <| bE)
 exact Mach.okF0 [0] (bhN g0 Zg) (bR <| bE)

noncomputable abbrev κbh := #[ms RA L0, vs 0 0 L1.length L1.length]
theorem ZwZ (N : Nat) : (ZiW L0 L1 N).Enter Tryz.prog Ze (κbh L0 L1) (Zk4 L0 L1 N) := by unfold Zk4;refine en_ite (fun _ => en_none) (fun g0 => ?_);exact enH [0] [some (ms RA L0), some (vs 0 0 L1.length L1.length), some (vq)] (bkE (L0.length : Int) (L1.length : Int) Zg) (tC (tC (tC (tE) ⟨Eq.trans (show κg = vq from ci) (by rfl), by rfl⟩))) (bR <| bE)

theorem ZtF (N : Nat) (r : Zdx) (h : Zf3 L0 L1 N = some r) : LSpec Tryz.prog 18 (κbh L0 L1) (κ1 L1) (Zrp r) (ZpB L0 L1 r) :=
 Mach.specT Zv (ZiW L0 L1 N) Tryz.func18 (fun x => (show (ZiW L0 L1 N).Ok Tryz.prog Ze x (ZiC L0 L1 N x) from by
  cases x with
  | h1m0 v2 => exact Zso L0 L1 v2 N
  )) (ZwZ L0 L1 N) h

end
noncomputable def ZzF {L0 L1 : List RG} {N : Nat} (h : Zf3 L0 L1 N = some (.r0)) (ks : List Nat) (n : Nat) : ToldS := ⟨#[ms RA L0, vs (nth ks 0) 0 L1.length L1.length], [((nth ks 0), .cells (Za RA L1) 44)], vT, [], 0⟩

theorem Zim {L0 L1 : List RG} {N : Nat} (h : Zf3 L0 L1 N = some (.r0)) (ks : List Nat) (n : Nat) (hk : ks.length = 1 := by rfl) (hnd : ks.Nodup := by decide +kernel) (hlt : ∀ k ∈ ks, k < n := by decide +kernel) : (ZzF (N := N)  h ks n).P Tryz.prog 18 n :=
 match ks, hk, hnd, hlt with
 | [k0], _, hnd, hlt => Zci (show LSpec Tryz.prog 18 (κbh L0 L1) (κ1 L1) (vT) (κ0 L1) from ZtF L0 L1 N _ h) _ n [] hnd hlt

noncomputable def ZnX : Zcm → Value
 | .r0 => vT
noncomputable def Zm1 (L0 L1 : List Int) : Zcm → List (Option AObj)
 | .r0 => [some (.cells (Za eI L1) 3)]

def Zvd : Zbr → Nat
 | .h1m0 v2 => 1
section
variable (L0 L1 : List Int)
noncomputable def Zxa : Zbr → List (Nat × Value)
 | .h1m0 v2 => [(0, ms eI L0), (1, vs 0 0 L1.length L1.length), (5, vi (v2 : Int))]
noncomputable def Zxb (L0 L1 : List Int) : Zbr → List (Option AObj)
 | .h1m0 v2 => [some (.cells (Za eI L1) 3)]

noncomputable def Zxc : Nat → Code × List ZL
 | 1 => Z5 [1, 1, 0, 1, 3] (ZM Tryz.f19) []
 | _ => (.skip, [])

noncomputable def Zhg (N : Nat) : Mach := ⟨Tryz.f19, [.cells (Za eI L1) 3], Zbr, Zcm, Zht L0 L1 N, Zvd, Zxc, ilT, Zxa L0 L1, Zxb L0 L1, ZnX, Zm1 L0 L1⟩

theorem ZpC (v2 N : Nat) : (Zhg L0 L1 N).Ok Tryz.prog Ze (.h1m0 v2 : Zbr) (ZgL L0 L1 N v2) := by
 unfold ZgL;refine ok_ite (fun g0 => ?_) fun g0 => ?_
 · refine oi fun g1 => ?_;refine ok_ite (fun _ => ok_none) (fun g2 => ?_);refine oi fun g3 => ?_;exact Mach.okN0 [0] (vkW ((v2 : Int) + 1) (((v2 + 1) : Nat) : Int) <| bkE (L0.getD v2 0) (L1.getD v2 0) <| Za3 eI L1 v2 0 1 <| kB v2 L1.length <| xkI (v2 : Int) v2 <| lkG eI L0 (0 + (v2 * 1)) v2 0 1 1 <| kB v2 L0.length <| xkI (v2 : Int) v2 <| bhY g0 Zg) (bR <| bE)
 exact Mach.okF0 [0] (bhN g0 Zg) (bR <| bE)

theorem ZtG (N : Nat) : (Zhg L0 L1 N).Enter Tryz.prog Ze #[ms eI L0, vs 0 0 L1.length L1.length] (ZiD L0 L1 N) := by unfold ZiD;refine en_ite (fun _ => en_none) (fun g0 => ?_);exact enH [0] [some (ms eI L0), some (vs 0 0 L1.length L1.length), some (vq)] (bkE (L0.length : Int) (L1.length : Int) Zg) (tC (tC (tC (tE) ⟨Eq.trans (show κg = vq from ci) (by rfl), by rfl⟩))) (bR <| bE)

theorem ZqF (N : Nat) (r : Zcm) (h : Zgp L0 L1 N = some r) : LSpec Tryz.prog 19 #[ms eI L0, vs 0 0 L1.length L1.length] [.cells (Za eI L1) 3] (ZnX r) (Zm1 L0 L1 r) :=
 Mach.specT Zv (Zhg L0 L1 N) Tryz.func19 (fun x => (show (Zhg L0 L1 N).Ok Tryz.prog Ze x (Zht L0 L1 N x) from by
  cases x with
  | h1m0 v2 => exact ZpC L0 L1 v2 N
  )) (ZtG L0 L1 N) h

end
noncomputable def Zve {L0 L1 : List Int} {N : Nat} (h : Zgp L0 L1 N = some (.r0)) (ks : List Nat) (n : Nat) : ToldS := ⟨#[ms eI L0, vs (nth ks 0) 0 L1.length L1.length], [((nth ks 0), .cells (Za eI L1) 3)], vT, [], 0⟩

theorem Zm2 {L0 L1 : List Int} {N : Nat} (h : Zgp L0 L1 N = some (.r0)) (ks : List Nat) (n : Nat) (hk : ks.length = 1 := by rfl) (hnd : ks.Nodup := by decide +kernel) (hlt : ∀ k ∈ ks, k < n := by decide +kernel) : (Zve (N := N)  h ks n).P Tryz.prog 19 n :=
 match ks, hk, hnd, hlt with
 | [k0], _, hnd, hlt => Zci (show LSpec Tryz.prog 19 #[ms eI L0, vs 0 0 L1.length L1.length] [.cells (Za eI L1) 3] (vT) [some (.cells (Za eI L1) 3)] from ZqF L0 L1 N _ h) _ n [] hnd hlt

noncomputable def ZkR  : ZcS → Value
 | .r0 => vT
noncomputable def ZjK  : ZcS → List (Option AObj)
 | .r0 => []

noncomputable abbrev κbJ := (Za RF ([(⟨0, 2, 0, 5, 2⟩ : RM), (⟨0, 2, 0, 6, 2⟩ : RM), (⟨1, 2, 0, 0, 0⟩ : RM)] : List RM))
noncomputable abbrev κbE (y0_0 : List RI) := (Za (Zm RB) ([y0_0] : List (List RI)))
noncomputable abbrev κbc := (Za eI ([(6 : Int)] : List Int))
noncomputable abbrev κba := [vi 1, vi 1, vi 1, vi 1, vi 1, vi 5]
noncomputable abbrev κ8 := [Value.int .u8 0, Value.int .u8 2, Value.int .u8 0, Value.int .u8 5, Value.int .u8 2, Value.int .u8 0, Value.int .u8 2, Value.int .u8 0, Value.int .u8 6, Value.int .u8 2, Value.int .u8 1, Value.int .u8 2, Value.int .u8 0, Value.int .u8 0, Value.int .u8 0]
noncomputable abbrev κE := (Za RA ([(⟨1, 1⟩ : RG), (⟨1, 1⟩ : RG), (⟨1, 5⟩ : RG)] : List RG))
theorem Zvf  (N : Nat) : Fx Tryz.prog Ze Tryz.f8 [] #[] (ZkR ) (ZjK ) (ZcB  N) := by
 unfold ZcB;refine Zx (fun z0 c0 => ?_);cases z0 with
 | r0 y0_0 =>
  have w1 := kKa (Zqk c0 [0] 1) <| kX (dP (κ8 = κbJ)) true (Zn (show (κ8 : List Value) = κbJ from rfl)) Zg
  refine Zx (fun z1 c1 => ?_);cases z1 with
  | r0 y1_0 y1_1 y1_2 =>
   have w2 := kKa (Zz8 c1 [1] 2) <| kX (dP ([ms RB y0_0] = (κbE y0_0))) true (Zn (show ([ms RB y0_0] : List Value) = (κbE y0_0) from rfl)) w1
   refine Zx (fun z2 c2 => ?_);cases z2 with
   | r0 =>
    exact Zd
   | r1 y2_0 =>
    refine Zx (fun z3 c3 => ?_);cases z3 with
    | r0 =>
     refine Zx (fun z4 c4 => ?_);cases z4 with
     | r0 =>
      refine Zb (fun g5 => ?_) (fun _ => Zd);refine Zx (fun z6 c6 => ?_);cases z6 with
      | r0 =>
       exact Zq [] (Z2t 3 (Zim c6 [11] 12) <| kX (dP (κba = κE)) true (Zn (show (κba : List Value) = κE from rfl)) <| tL 3 [(mc RA (y1_1.getD 0 RL.z).a19)] <| kG RE y1_1 ((0 + (0 * 20)) + 19) 0 19 1 20 <| kB 0 y1_1.length <| xkI 0 0 <| kKa (ZpA c4 [7] 8) <| kX (dP ([vi 6] = κbc)) true (Zn (show ([vi 6] : List Value) = κbc from rfl)) <| kKg 4 (tQ (Zfm c3) 7) <| kKg 2 (tQ (ZeN c2) 3) w2) bE
    | r1 y3_0 =>
     refine Zx (fun z4 c4 => ?_);cases z4 with
     | r0 =>
      refine Zb (fun g5 => ?_) (fun _ => Zd);refine Zx (fun z6 c6 => ?_);cases z6 with
      | r0 =>
       exact Zq [] (Z2t 3 (Zim c6 [11] 12) <| kX (dP (κba = κE)) true (Zn (show (κba : List Value) = κE from rfl)) <| tL 3 [(mc RA (y1_1.getD 0 RL.z).a19)] <| kG RE y1_1 ((0 + (0 * 20)) + 19) 0 19 1 20 <| kB 0 y1_1.length <| xkI 0 0 <| kKa (Zm2 c4 [7] 8) <| kX (dP ([vi 6] = κbc)) true (Zn (show ([vi 6] : List Value) = κbc from rfl)) <| kKg 4 (tQ (Zfm c3) 7) <| kKg 2 (tQ (ZeN c2) 3) w2) bE
  | r1 y1_0 y1_1 y1_2 y1_3 =>
   have w2 := kKa (ZzA c1 [1] 2) <| kX (dP ([ms RB y0_0] = (κbE y0_0))) true (Zn (show ([ms RB y0_0] : List Value) = (κbE y0_0) from rfl)) w1
   refine Zx (fun z2 c2 => ?_);cases z2 with
   | r0 =>
    exact Zd
   | r1 y2_0 =>
    refine Zx (fun z3 c3 => ?_);cases z3 with
    | r0 =>
     refine Zx (fun z4 c4 => ?_);cases z4 with
     | r0 =>
      refine Zb (fun g5 => ?_) (fun _ => Zd);refine Zx (fun z6 c6 => ?_);cases z6 with
      | r0 =>
       exact Zq [] (Z2t 3 (Zim c6 [11] 12) <| kX (dP (κba = κE)) true (Zn (show (κba : List Value) = κE from rfl)) <| tL 3 [(mc RA (y1_1.getD 0 RL.z).a19)] <| kG RE y1_1 ((0 + (0 * 20)) + 19) 0 19 1 20 <| kB 0 y1_1.length <| xkI 0 0 <| kKa (ZpA c4 [7] 8) <| kX (dP ([vi 6] = κbc)) true (Zn (show ([vi 6] : List Value) = κbc from rfl)) <| kKg 4 (tQ (Zfm c3) 7) <| kKg 2 (tQ (ZeN c2) 3) w2) bE
    | r1 y3_0 =>
     refine Zx (fun z4 c4 => ?_);cases z4 with
     | r0 =>
      refine Zb (fun g5 => ?_) (fun _ => Zd);refine Zx (fun z6 c6 => ?_);cases z6 with
      | r0 =>
       exact Zq [] (Z2t 3 (Zim c6 [11] 12) <| kX (dP (κba = κE)) true (Zn (show (κba : List Value) = κE from rfl)) <| tL 3 [(mc RA (y1_1.getD 0 RL.z).a19)] <| kG RE y1_1 ((0 + (0 * 20)) + 19) 0 19 1 20 <| kB 0 y1_1.length <| xkI 0 0 <| kKa (Zm2 c4 [7] 8) <| kX (dP ([vi 6] = κbc)) true (Zn (show ([vi 6] : List Value) = κbc from rfl)) <| kKg 4 (tQ (Zfm c3) 7) <| kKg 2 (tQ (ZeN c2) 3) w2) bE

theorem Zsp  (N : Nat) (r : ZcS) (h : ZcB  N = some r) : LSpec Tryz.prog 8 #[] [] (ZkR  r) (ZjK  r) :=
 ZI Zv Tryz.func8 (by kernel_rfl) (by kernel_rfl) (fun r => by cases r <;> exact ZP _ rfl) (Zvf  N) h

theorem Zbt  {N : Nat} {r : ZcS} (h : ZcB  N = some r) : LSpec Tryz.prog 8 #[] [] (ZkR  r) (ZjK  r) := Zsp  N r h

noncomputable def Zn0 : ZbH → Value
 | .r0 w0 w1 w2 w3 w4 w5 => Value.tuple #[Value.agg #[ms eI w0, ms eI w1, ms eI w2, ms eI w3], vi w4, Value.bool w5]
noncomputable def ZlL : ZbH → List (Option AObj)
 | .r0 w0 w1 w2 w3 w4 w5 => []

section
variable (L0 L1 L2 L3 : List Int)
noncomputable abbrev κQ := #[ms eI L0, ms eI L1, ms eI L2, ms eI L3]
noncomputable abbrev κa := [ms eI ([] : List Int), ms eI ([] : List Int), ms eI ([] : List Int), ms eI ([] : List Int)]
theorem ZzG (a4 : Int) (N : Nat) : Fx Tryz.prog Ze Tryz.f46 [] #[Value.agg (κQ L0 L1 L2 L3), vi a4] (Zn0) (ZlL) (Zd5 L0 L1 L2 L3 a4 N) := by
 unfold Zd5;have w0 := tW 0 (.apn 0 [] [] κa) <| kX (dP (List.map (nlV 0) [vn, vn, vn, vn] = κa)) true (Zn rfl) Zg
 refine Zb (fun g0 => ?_) (fun g0 => ?_)
 ·
  refine Zb (fun g1 => ?_) (fun g1 => ?_)
  · exact Zq [] (bhT g1 <| kB 0 4 <| xkJ a4 0 w0) bE
  exact Zq [] (kB 0 4 <| xkJ a4 0 <| kC (Znk (E := eI) (L := L0) (R := ((L0.drop 1).take (L0.length - 1))) (l := 1) (h := L0.length) (size := 1) ltA ltA (by decide) (by simp)) <| kR L0.length <| tW 0 (.ms 1 L0.length ((L0.drop 1).take (L0.length - 1)).length (Z9 eI ((L0.drop 1).take (L0.length - 1)))) <| kI 1 (Int.ofNat 1) <| kB 0 4 <| xkJ a4 0 <| tL 2 [.i (L0.getD 0 0)] <| kG eI L0 (0 + (0 * 1)) 0 0 1 1 <| kB 0 L0.length <| xkI 0 0 <| kB 0 4 <| xkJ a4 0 <| bhF g1 <| kB 0 4 <| xkJ a4 0 w0) bE
 refine Zb (fun g1 => ?_) (fun g1 => ?_)
 ·
  refine Zb (fun g2 => ?_) (fun g2 => ?_)
  · exact Zq [] (bhT g2 <| kB 1 4 <| xkJ a4 1 w0) bE
  exact Zq [] (kB 1 4 <| xkJ a4 1 <| kC (Znk (E := eI) (L := L1) (R := ((L1.drop 1).take (L1.length - 1))) (l := 1) (h := L1.length) (size := 1) ltA ltA (by decide) (by simp)) <| kR L1.length <| tW 0 (.ms 1 L1.length ((L1.drop 1).take (L1.length - 1)).length (Z9 eI ((L1.drop 1).take (L1.length - 1)))) <| kI 1 (Int.ofNat 1) <| kB 1 4 <| xkJ a4 1 <| tL 2 [.i (L1.getD 0 0)] <| kG eI L1 (0 + (0 * 1)) 0 0 1 1 <| kB 0 L1.length <| xkI 0 0 <| kB 1 4 <| xkJ a4 1 <| bhF g2 <| kB 1 4 <| xkJ a4 1 w0) bE
 refine Zb (fun g2 => ?_) (fun g2 => ?_)
 ·
  refine Zb (fun g3 => ?_) (fun g3 => ?_)
  · exact Zq [] (bhT g3 <| kB 2 4 <| xkJ a4 2 w0) bE
  exact Zq [] (kB 2 4 <| xkJ a4 2 <| kC (Znk (E := eI) (L := L2) (R := ((L2.drop 1).take (L2.length - 1))) (l := 1) (h := L2.length) (size := 1) ltA ltA (by decide) (by simp)) <| kR L2.length <| tW 0 (.ms 1 L2.length ((L2.drop 1).take (L2.length - 1)).length (Z9 eI ((L2.drop 1).take (L2.length - 1)))) <| kI 1 (Int.ofNat 1) <| kB 2 4 <| xkJ a4 2 <| tL 2 [.i (L2.getD 0 0)] <| kG eI L2 (0 + (0 * 1)) 0 0 1 1 <| kB 0 L2.length <| xkI 0 0 <| kB 2 4 <| xkJ a4 2 <| bhF g3 <| kB 2 4 <| xkJ a4 2 w0) bE
 refine Zb (fun g3 => ?_) (fun _ => Zd);refine Zb (fun g4 => ?_) (fun g4 => ?_)
 · exact Zq [] (bhT g4 <| kB 3 4 <| xkJ a4 3 w0) bE
 exact Zq [] (kB 3 4 <| xkJ a4 3 <| kC (Znk (E := eI) (L := L3) (R := ((L3.drop 1).take (L3.length - 1))) (l := 1) (h := L3.length) (size := 1) ltA ltA (by decide) (by simp)) <| kR L3.length <| tW 0 (.ms 1 L3.length ((L3.drop 1).take (L3.length - 1)).length (Z9 eI ((L3.drop 1).take (L3.length - 1)))) <| kI 1 (Int.ofNat 1) <| kB 3 4 <| xkJ a4 3 <| tL 2 [.i (L3.getD 0 0)] <| kG eI L3 (0 + (0 * 1)) 0 0 1 1 <| kB 0 L3.length <| xkI 0 0 <| kB 3 4 <| xkJ a4 3 <| bhF g4 <| kB 3 4 <| xkJ a4 3 w0) bE

theorem Zvg (a4 : Int) (N : Nat) (r : ZbH) (h : Zd5 L0 L1 L2 L3 a4 N = some r) : LSpec Tryz.prog 46 #[Value.agg (κQ L0 L1 L2 L3), vi a4] [] (Zn0 r) (ZlL r) :=
 ZI Zv Tryz.func46 (by kernel_rfl) (by kernel_rfl) (fun r => by cases r <;> exact ZP _ rfl) (ZzG L0 L1 L2 L3 a4 N) h

end
theorem ZlM {L0 L1 L2 L3 : List Int} {a4 : Int} {N : Nat} {r : ZbH} (h : Zd5 L0 L1 L2 L3 a4 N = some r) : LSpec Tryz.prog 46 #[Value.agg (κQ L0 L1 L2 L3), vi a4] [] (Zn0 r) (ZlL r) := Zvg L0 L1 L2 L3 a4 N r h

end Ev
end Go.Proofs.YthfohmhipifiaaaGreat
namespace Go.Proofs.YthfohmhipifiaaaGreat
open Go.IntKind (i64)
open Go.RowKit
namespace Ev
open Mach (oi ok_ite ok_none enH en_ite en_none)
set_option linter.unusedVariables false
set_option maxRecDepth 100000
noncomputable def ZpD : ZY → Value
 | .r0 w0 w1 w2 w3 => Value.tuple #[Value.agg #[ms eI w0, ms eI w1, ms eI w2, ms eI w3], vf]
 | .r1 w0 w1 w2 w3 => Value.tuple #[Value.agg #[vs 0 0 w0.length w0.length, ms eI w1, ms eI w2, ms eI w3], vT]
 | .r2 w0 w1 w2 w3 => Value.tuple #[Value.agg #[ms eI w0, vs 0 0 w1.length w1.length, ms eI w2, ms eI w3], vT]
 | .r3 w0 w1 w2 w3 => Value.tuple #[Value.agg #[ms eI w0, ms eI w1, vs 0 0 w2.length w2.length, ms eI w3], vT]
 | .r4 w0 w1 w2 w3 => Value.tuple #[Value.agg #[ms eI w0, ms eI w1, ms eI w2, vs 0 0 w3.length w3.length], vT]
noncomputable def ZnY : ZY → List (Option AObj)
 | .r0 w0 w1 w2 w3 => []
 | .r1 w0 w1 w2 w3 => [some (.cells (Za eI w0) 3)]
 | .r2 w0 w1 w2 w3 => [some (.cells (Za eI w1) 3)]
 | .r3 w0 w1 w2 w3 => [some (.cells (Za eI w2) 3)]
 | .r4 w0 w1 w2 w3 => [some (.cells (Za eI w3) 3)]

noncomputable def Zrq : ZY → Value
 | .r0 w0 w1 w2 w3 => Value.tuple #[Value.agg #[ms eI w0, ms eI w1, ms eI w2, ms eI w3], vf]
 | .r1 w0 w1 w2 w3 => Value.tuple #[Value.agg #[ms eI w0, ms eI w1, ms eI w2, ms eI w3], vT]
 | .r2 w0 w1 w2 w3 => Value.tuple #[Value.agg #[ms eI w0, ms eI w1, ms eI w2, ms eI w3], vT]
 | .r3 w0 w1 w2 w3 => Value.tuple #[Value.agg #[ms eI w0, ms eI w1, ms eI w2, ms eI w3], vT]
 | .r4 w0 w1 w2 w3 => Value.tuple #[Value.agg #[ms eI w0, ms eI w1, ms eI w2, ms eI w3], vT]
noncomputable def ZpE : ZY → List (Option AObj)
 | .r0 w0 w1 w2 w3 => []
 | .r1 w0 w1 w2 w3 => []
 | .r2 w0 w1 w2 w3 => []
 | .r3 w0 w1 w2 w3 => []
 | .r4 w0 w1 w2 w3 => []

section
variable (L0 L1 L2 L3 : List Int) (a4 a5 a6 : Int)
theorem Zxd (N : Nat) : Fx Tryz.prog Ze Tryz.f47 [] #[Value.agg (κQ L0 L1 L2 L3), vi a4, vi a5, vi a6] (ZpD) (ZnY) (ZcT L0 L1 L2 L3 a4 a5 a6 N) := by
 unfold ZcT;have w0 := tW 0 (.apn 0 [] [] κa) <| kX (dP (List.map (nlV 0) [vn, vn, vn, vn] = κa)) true (Zn rfl) Zg
 refine Zb (fun g0 => ?_) (fun g0 => ?_)
 ·
  refine Zb (fun g1 => ?_) (fun g1 => ?_)
  · exact Zq [] (bkY ((L0.length : Int) ≥ a6) <| kB 0 4 <| xkJ a4 0 w0) bE
  have w2 := kB 0 4 <| xkJ a4 0 <| bkN ((L0.length : Int) ≥ a6) <| kB 0 4 <| xkJ a4 0 w0
  refine Zb (fun g2 => ?_) (fun g2 => ?_)
  · exact fxC [4] (Value.tuple #[Value.agg #[vs 4 0 1 1, ms eI L1, ms eI L2, ms eI L3], vT]) (kB 0 4 <| xkJ a4 0 <| tW 0 (.ap0) <| kX (dP (0 = L0.length ∧ ((L0.length * 1 = 0 ∧ ([] : List Value) = []) ∨ ∃ c, L0.length * 1 ≠ 0 ∧ ZS (code (Z9 eI L0)) 0 (L0.length * 1) = some c ∧ ([] : List Value) = Zl c))) true (Zn ⟨by omega, .inl ⟨by omega, rfl⟩⟩) w2) (bC (o := .cells [vi a5] 3) (Zz (E := eI) _ (L := ([a5] : List Int)) _ (show ([vi a5] : List Value) = Za eI ([a5] : List Int) from rfl)) <| bE) (hv := ⟨Eq.trans (show (Value.tuple #[Value.agg #[vs 0 0 ([a5] : List Int).length ([a5] : List Int).length, ms eI L1, ms eI L2, ms eI L3], vT] : Value) = Value.tuple #[Value.agg #[vs 0 0 1 1, ms eI L1, ms eI L2, ms eI L3], vT] from (Zax (Zw (ZbU (Zw (Zi rfl eqA eqA) (cr (cr (cr rfl))))) (cr rfl)))) (by rfl), by rfl⟩)
  refine Zb (fun g3 => ?_) (fun _ => Zd);exact fxC [5] (Value.tuple #[Value.agg #[vs 5 0 ((0 + L0.length) + 1) ((0 + L0.length) + 1), ms eI L1, ms eI L2, ms eI L3], vT]) (kB 0 4 <| xkJ a4 0 <| ZoO eI L0 (0 + L0.length) a5 <| tW 0 (.ap L0.length (Za eI L0) (Za eI L0)) <| kX (dP ((L0.length = L0.length ∧ ((L0.length * 1 = 0 ∧ (Za eI L0) = []) ∨ ∃ c, L0.length * 1 ≠ 0 ∧ ZS (code (Z9 eI L0)) 0 (L0.length * 1) = some c ∧ (Za eI L0) = Zl c)) ∧ 0 < L0.length ∧ L0.length ≤ 100000 ∧ 0 < 0 + L0.length ∧ 0 ≤ 100000 ∧ 0 * 1 ≤ (List.length []) ∧ List.take (0 * 1) [] ++ (Za eI L0) = (Za eI L0))) true (Zn ⟨⟨rfl, (Zc4 (E := eI) (L := L0) (n := L0.length) (size := 1) rfl (by decide) (by omega))⟩, by omega, by omega, ltA, by omega, (Zas (E := eI) (L := ([] : List Int)) (M := L0) (n := 0) (show _ = _ * 1 from rfl) ltA (R := L0) (by rw [List.take_of_length_le ltA]; rfl))⟩) w2) (bR <| bE) (hv := ⟨Eq.trans (show (Value.tuple #[Value.agg #[vs 0 0 (L0 ++ ([a5] : List Int)).length (L0 ++ ([a5] : List Int)).length, ms eI L1, ms eI L2, ms eI L3], vT] : Value) = Value.tuple #[Value.agg #[vs 0 0 ((0 + L0.length) + 1) ((0 + L0.length) + 1), ms eI L1, ms eI L2, ms eI L3], vT] from (Zax (Zw (ZbU (Zw (Zi rfl eqA eqA) (cr (cr (cr rfl))))) (cr rfl)))) (by rfl), by rfl⟩)
 refine Zb (fun g1 => ?_) (fun g1 => ?_)
 ·
  refine Zb (fun g2 => ?_) (fun g2 => ?_)
  · exact Zq [] (bkY ((L1.length : Int) ≥ a6) <| kB 1 4 <| xkJ a4 1 w0) bE
  have w3 := kB 1 4 <| xkJ a4 1 <| bkN ((L1.length : Int) ≥ a6) <| kB 1 4 <| xkJ a4 1 w0
  refine Zb (fun g3 => ?_) (fun g3 => ?_)
  · exact fxC [4] (Value.tuple #[Value.agg #[ms eI L0, vs 4 0 1 1, ms eI L2, ms eI L3], vT]) (kB 1 4 <| xkJ a4 1 <| tW 0 (.ap0) <| kX (dP (0 = L1.length ∧ ((L1.length * 1 = 0 ∧ ([] : List Value) = []) ∨ ∃ c, L1.length * 1 ≠ 0 ∧ ZS (code (Z9 eI L1)) 0 (L1.length * 1) = some c ∧ ([] : List Value) = Zl c))) true (Zn ⟨by omega, .inl ⟨by omega, rfl⟩⟩) w3) (bC (o := .cells [vi a5] 3) (Zz (E := eI) _ (L := ([a5] : List Int)) _ (show ([vi a5] : List Value) = Za eI ([a5] : List Int) from rfl)) <| bE) (hv := ⟨Eq.trans (show (Value.tuple #[Value.agg #[ms eI L0, vs 0 0 ([a5] : List Int).length ([a5] : List Int).length, ms eI L2, ms eI L3], vT] : Value) = Value.tuple #[Value.agg #[ms eI L0, vs 0 0 1 1, ms eI L2, ms eI L3], vT] from (Zax (Zw (ZbU (cr (Zw (Zi rfl eqA eqA) (cr (cr rfl))))) (cr rfl)))) (by rfl), by rfl⟩)
  refine Zb (fun g4 => ?_) (fun _ => Zd);exact fxC [5] (Value.tuple #[Value.agg #[ms eI L0, vs 5 0 ((0 + L1.length) + 1) ((0 + L1.length) + 1), ms eI L2, ms eI L3], vT]) (kB 1 4 <| xkJ a4 1 <| ZoO eI L1 (0 + L1.length) a5 <| tW 0 (.ap L1.length (Za eI L1) (Za eI L1)) <| kX (dP ((L1.length = L1.length ∧ ((L1.length * 1 = 0 ∧ (Za eI L1) = []) ∨ ∃ c, L1.length * 1 ≠ 0 ∧ ZS (code (Z9 eI L1)) 0 (L1.length * 1) = some c ∧ (Za eI L1) = Zl c)) ∧ 0 < L1.length ∧ L1.length ≤ 100000 ∧ 0 < 0 + L1.length ∧ 0 ≤ 100000 ∧ 0 * 1 ≤ (List.length []) ∧ List.take (0 * 1) [] ++ (Za eI L1) = (Za eI L1))) true (Zn ⟨⟨rfl, (Zc4 (E := eI) (L := L1) (n := L1.length) (size := 1) rfl (by decide) (by omega))⟩, by omega, by omega, ltA, by omega, (Zas (E := eI) (L := ([] : List Int)) (M := L1) (n := 0) (show _ = _ * 1 from rfl) ltA (R := L1) (by rw [List.take_of_length_le ltA]; rfl))⟩) w3) (bR <| bE) (hv := ⟨Eq.trans (show (Value.tuple #[Value.agg #[ms eI L0, vs 0 0 (L1 ++ ([a5] : List Int)).length (L1 ++ ([a5] : List Int)).length, ms eI L2, ms eI L3], vT] : Value) = Value.tuple #[Value.agg #[ms eI L0, vs 0 0 ((0 + L1.length) + 1) ((0 + L1.length) + 1), ms eI L2, ms eI L3], vT] from (Zax (Zw (ZbU (cr (Zw (Zi rfl eqA eqA) (cr (cr rfl))))) (cr rfl)))) (by rfl), by rfl⟩)
 refine Zb (fun g2 => ?_) (fun g2 => ?_)
 ·
  refine Zb (fun g3 => ?_) (fun g3 => ?_)
  · exact Zq [] (bkY ((L2.length : Int) ≥ a6) <| kB 2 4 <| xkJ a4 2 w0) bE
  have w4 := kB 2 4 <| xkJ a4 2 <| bkN ((L2.length : Int) ≥ a6) <| kB 2 4 <| xkJ a4 2 w0
  refine Zb (fun g4 => ?_) (fun g4 => ?_)
  · exact fxC [4] (Value.tuple #[Value.agg #[ms eI L0, ms eI L1, vs 4 0 1 1, ms eI L3], vT]) (kB 2 4 <| xkJ a4 2 <| tW 0 (.ap0) <| kX (dP (0 = L2.length ∧ ((L2.length * 1 = 0 ∧ ([] : List Value) = []) ∨ ∃ c, L2.length * 1 ≠ 0 ∧ ZS (code (Z9 eI L2)) 0 (L2.length * 1) = some c ∧ ([] : List Value) = Zl c))) true (Zn ⟨by omega, .inl ⟨by omega, rfl⟩⟩) w4) (bC (o := .cells [vi a5] 3) (Zz (E := eI) _ (L := ([a5] : List Int)) _ (show ([vi a5] : List Value) = Za eI ([a5] : List Int) from rfl)) <| bE) (hv := ⟨Eq.trans (show (Value.tuple #[Value.agg #[ms eI L0, ms eI L1, vs 0 0 ([a5] : List Int).length ([a5] : List Int).length, ms eI L3], vT] : Value) = Value.tuple #[Value.agg #[ms eI L0, ms eI L1, vs 0 0 1 1, ms eI L3], vT] from (Zax (Zw (ZbU (cr (cr (Zw (Zi rfl eqA eqA) (cr rfl))))) (cr rfl)))) (by rfl), by rfl⟩)
  refine Zb (fun g5 => ?_) (fun _ => Zd);exact fxC [5] (Value.tuple #[Value.agg #[ms eI L0, ms eI L1, vs 5 0 ((0 + L2.length) + 1) ((0 + L2.length) + 1), ms eI L3], vT]) (kB 2 4 <| xkJ a4 2 <| ZoO eI L2 (0 + L2.length) a5 <| tW 0 (.ap L2.length (Za eI L2) (Za eI L2)) <| kX (dP ((L2.length = L2.length ∧ ((L2.length * 1 = 0 ∧ (Za eI L2) = []) ∨ ∃ c, L2.length * 1 ≠ 0 ∧ ZS (code (Z9 eI L2)) 0 (L2.length * 1) = some c ∧ (Za eI L2) = Zl c)) ∧ 0 < L2.length ∧ L2.length ≤ 100000 ∧ 0 < 0 + L2.length ∧ 0 ≤ 100000 ∧ 0 * 1 ≤ (List.length []) ∧ List.take (0 * 1) [] ++ (Za eI L2) = (Za eI L2))) true (Zn ⟨⟨rfl, (Zc4 (E := eI) (L := L2) (n := L2.length) (size := 1) rfl (by decide) (by omega))⟩, by omega, by omega, ltA, by omega, (Zas (E := eI) (L := ([] : List Int)) (M := L2) (n := 0) (show _ = _ * 1 from rfl) ltA (R := L2) (by rw [List.take_of_length_le ltA]; rfl))⟩) w4) (bR <| bE) (hv := ⟨Eq.trans (show (Value.tuple #[Value.agg #[ms eI L0, ms eI L1, vs 0 0 (L2 ++ ([a5] : List Int)).length (L2 ++ ([a5] : List Int)).length, ms eI L3], vT] : Value) = Value.tuple #[Value.agg #[ms eI L0, ms eI L1, vs 0 0 ((0 + L2.length) + 1) ((0 + L2.length) + 1), ms eI L3], vT] from (Zax (Zw (ZbU (cr (cr (Zw (Zi rfl eqA eqA) (cr rfl))))) (cr rfl)))) (by rfl), by rfl⟩)
 refine Zb (fun g3 => ?_) (fun _ => Zd);refine Zb (fun g4 => ?_) (fun g4 => ?_)
 · exact Zq [] (bkY ((L3.length : Int) ≥ a6) <| kB 3 4 <| xkJ a4 3 w0) bE
 have w5 := kB 3 4 <| xkJ a4 3 <| bkN ((L3.length : Int) ≥ a6) <| kB 3 4 <| xkJ a4 3 w0
 refine Zb (fun g5 => ?_) (fun g5 => ?_)
 · exact fxC [4] (Value.tuple #[Value.agg #[ms eI L0, ms eI L1, ms eI L2, vs 4 0 1 1], vT]) (kB 3 4 <| xkJ a4 3 <| tW 0 (.ap0) <| kX (dP (0 = L3.length ∧ ((L3.length * 1 = 0 ∧ ([] : List Value) = []) ∨ ∃ c, L3.length * 1 ≠ 0 ∧ ZS (code (Z9 eI L3)) 0 (L3.length * 1) = some c ∧ ([] : List Value) = Zl c))) true (Zn ⟨by omega, .inl ⟨by omega, rfl⟩⟩) w5) (bC (o := .cells [vi a5] 3) (Zz (E := eI) _ (L := ([a5] : List Int)) _ (show ([vi a5] : List Value) = Za eI ([a5] : List Int) from rfl)) <| bE) (hv := ⟨Eq.trans (show (Value.tuple #[Value.agg #[ms eI L0, ms eI L1, ms eI L2, vs 0 0 ([a5] : List Int).length ([a5] : List Int).length], vT] : Value) = Value.tuple #[Value.agg #[ms eI L0, ms eI L1, ms eI L2, vs 0 0 1 1], vT] from (Zax (Zw (ZbU (cr (cr (cr (Zw (Zi rfl eqA eqA) rfl))))) (cr rfl)))) (by rfl), by rfl⟩)
 refine Zb (fun g6 => ?_) (fun _ => Zd);exact fxC [5] (Value.tuple #[Value.agg #[ms eI L0, ms eI L1, ms eI L2, vs 5 0 ((0 + L3.length) + 1) ((0 + L3.length) + 1)], vT]) (kB 3 4 <| xkJ a4 3 <| ZoO eI L3 (0 + L3.length) a5 <| tW 0 (.ap L3.length (Za eI L3) (Za eI L3)) <| kX (dP ((L3.length = L3.length ∧ ((L3.length * 1 = 0 ∧ (Za eI L3) = []) ∨ ∃ c, L3.length * 1 ≠ 0 ∧ ZS (code (Z9 eI L3)) 0 (L3.length * 1) = some c ∧ (Za eI L3) = Zl c)) ∧ 0 < L3.length ∧ L3.length ≤ 100000 ∧ 0 < 0 + L3.length ∧ 0 ≤ 100000 ∧ 0 * 1 ≤ (List.length []) ∧ List.take (0 * 1) [] ++ (Za eI L3) = (Za eI L3))) true (Zn ⟨⟨rfl, (Zc4 (E := eI) (L := L3) (n := L3.length) (size := 1) rfl (by decide) (by omega))⟩, by omega, by omega, ltA, by omega, (Zas (E := eI) (L := ([] : List Int)) (M := L3) (n := 0) (show _ = _ * 1 from rfl) ltA (R := L3) (by rw [List.take_of_length_le ltA]; rfl))⟩) w5) (bR <| bE) (hv := ⟨Eq.trans (show (Value.tuple #[Value.agg #[ms eI L0, ms eI L1, ms eI L2, vs 0 0 (L3 ++ ([a5] : List Int)).length (L3 ++ ([a5] : List Int)).length], vT] : Value) = Value.tuple #[Value.agg #[ms eI L0, ms eI L1, ms eI L2, vs 0 0 ((0 + L3.length) + 1) ((0 + L3.length) + 1)], vT] from (Zax (Zw (ZbU (cr (cr (cr (Zw (Zi rfl eqA eqA) rfl))))) (cr rfl)))) (by rfl), by rfl⟩)

theorem Zsq (N : Nat) (r : ZY) (h : ZcT L0 L1 L2 L3 a4 a5 a6 N = some r) : LSpec Tryz.prog 47 #[Value.agg (κQ L0 L1 L2 L3), vi a4, vi a5, vi a6] [] (ZpD r) (ZnY r) :=
 ZI Zv Tryz.func47 (by kernel_rfl) (by kernel_rfl) (fun r => by cases r <;> exact ZP _ rfl) (Zxd L0 L1 L2 L3 a4 a5 a6 N) h

theorem ZtH (N : Nat) (r : ZY) (h : ZcT L0 L1 L2 L3 a4 a5 a6 N = some r) : LSpec Tryz.prog 47 #[Value.agg (κQ L0 L1 L2 L3), vi a4, vi a5, vi a6] [] (Zrq r) (ZpE r) := by
 have h0 := Zsq L0 L1 L2 L3 a4 a5 a6 N r h;cases r with
 | r0 _ _ _ _ => exact h0
 | r1 w0 w1 w2 w3 => exact (LSpec.frzv (E := eI) (L := w0) (post := []) (v2 := Value.tuple #[Value.agg #[ms eI w0, ms eI w1, ms eI w2, ms eI w3], vT]) h0 (show 0 ≤ 0 from by decide) (show 0 < 1000000000 from by decide) trivial rfl rfl rfl)
 | r2 w0 w1 w2 w3 => exact (LSpec.frzv (E := eI) (L := w1) (post := []) (v2 := Value.tuple #[Value.agg #[ms eI w0, ms eI w1, ms eI w2, ms eI w3], vT]) h0 (show 0 ≤ 0 from by decide) (show 0 < 1000000000 from by decide) trivial rfl rfl rfl)
 | r3 w0 w1 w2 w3 => exact (LSpec.frzv (E := eI) (L := w2) (post := []) (v2 := Value.tuple #[Value.agg #[ms eI w0, ms eI w1, ms eI w2, ms eI w3], vT]) h0 (show 0 ≤ 0 from by decide) (show 0 < 1000000000 from by decide) trivial rfl rfl rfl)
 | r4 w0 w1 w2 w3 => exact (LSpec.frzv (E := eI) (L := w3) (post := []) (v2 := Value.tuple #[Value.agg #[ms eI w0, ms eI w1, ms eI w2, ms eI w3], vT]) h0 (show 0 ≤ 0 from by decide) (show 0 < 1000000000 from by decide) trivial rfl rfl rfl)

theorem Zch {L0 L1 L2 L3 : List Int} {a4 a5 a6 : Int} {N : Nat} {r : ZY} (h : ZcT L0 L1 L2 L3 a4 a5 a6 N = some r) : LSpec Tryz.prog 47 #[Value.agg (κQ L0 L1 L2 L3), vi a4, vi a5, vi a6] [] (Zrq r) (ZpE r) := ZtH L0 L1 L2 L3 a4 a5 a6 N r h

noncomputable def ZpF : ZaL → Value
 | .r0 w0 w1 w2 w3 w4 w5 => Value.tuple #[Value.agg #[ms eI w0, ms eI w1, ms eI w2, ms eI w3], vi w4, Value.bool w5]
noncomputable def Zn1 : ZaL → List (Option AObj)
 | .r0 w0 w1 w2 w3 w4 w5 => []

theorem Z1e (a7 a8 : Int) (N : Nat) : Fx Tryz.prog Ze Tryz.f15 [] #[Value.agg (κQ L0 L1 L2 L3), Value.agg #[Value.int .u8 a4, Value.int .u8 a5, Value.int .u8 a6, Value.int .u8 a7, Value.int .u8 a8]] (ZpF) (Zn1) (Zdl L0 L1 L2 L3 a4 a5 a6 a7 a8 N) := by
 unfold Zdl;refine Zb (fun g0 => ?_) (fun _ => Zd);refine Zb (fun g1 => ?_) (fun _ => Zd);refine Zb (fun g2 => ?_) (fun _ => Zd);refine Zb (fun g3 => ?_) (fun _ => Zd);refine Zb (fun g4 => ?_) (fun _ => Zd);refine Zb (fun g5 => ?_) (fun _ => Zd);refine Zb (fun g6 => ?_) (fun _ => Zd);refine Zb (fun g7 => ?_) (fun _ => Zd);refine Zb (fun g8 => ?_) (fun _ => Zd);refine Zb (fun g9 => ?_) (fun _ => Zd);have w10 := vkM a4 4 <| vkW ((1 : Int) + (a8 % 3)) ((1 : Int) + (a8 % 3)) <| vkM a8 3 <| tV 0 <| kX ((i64.wrap a8) == a8) true (beq_iff_eq.2 (wrap_i64 ltA)) <| vkM a5 4 <| tV 0 <| kX ((i64.wrap a5) == a5) true (beq_iff_eq.2 (wrap_i64 ltA)) <| tW 0 (.apn 0 [] [] κa) <| kX (dP (List.map (nlV 0) [vn, vn, vn, vn] = κa)) true (Zn rfl) Zg
 refine Zb (fun g10 => ?_) (fun g10 => ?_)
 ·
  refine Zx (fun z11 c11 => ?_);cases z11 with
  | r0 y11_0 y11_1 y11_2 y11_3 y11_4 y11_5 =>
   exact Zq [] (kKg 3 (tQ (ZlM c11) 3) <| bhT g10 w10) bE
 refine Zb (fun g11 => ?_) (fun g11 => ?_)
 ·
  refine Zx (fun z12 c12 => ?_);cases z12 with
  | r0 y12_0 y12_1 y12_2 y12_3 y12_4 y12_5 =>
   have w13 := tW 0 (.apn 0 [] [] κa) <| kX (dP (List.map (nlV 0) [vn, vn, vn, vn] = κa)) true (Zn rfl) <| kKg 3 (tQ (ZlM c12) 3) <| bhT g11 <| bhF g10 w10
   refine Zb (fun g13 => ?_) (fun g13 => ?_)
   · exact Zq [] (tV 0 <| kX ((i64.wrap a7) == a7) true (beq_iff_eq.2 (wrap_i64 ltA)) <| bkX ((!y12_5)) true nbt w13) bE
   exact Zq [] (bkX ((!y12_5)) false nbf w13) bE
 have w12 := bhF g11 <| bhF g10 w10
 refine Zb (fun g12 => ?_) (fun g12 => ?_)
 ·
  refine Zx (fun z13 c13 => ?_);cases z13 with
  | r0 y13_0 y13_1 y13_2 y13_3 y13_4 y13_5 =>
   have w14 := tW 0 (.apn 0 [] [] κa) <| kX (dP (List.map (nlV 0) [vn, vn, vn, vn] = κa)) true (Zn rfl) <| kKg 3 (tQ (ZlM c13) 3) <| bhT g12 w12
   refine Zb (fun g14 => ?_) (fun g14 => ?_)
   · exact Zq [] (bkX ((!y13_5)) true nbt w14) bE
   have w15 := vkM a6 4 <| tV 0 <| kX ((i64.wrap a6) == a6) true (beq_iff_eq.2 (wrap_i64 ltA)) <| bkX ((!y13_5)) false nbf w14
   refine Zx (fun z15 c15 => ?_);cases z15 with
   | r0 y15_0 y15_1 y15_2 y15_3 =>
    exact Zq [] (tW 0 (.apn 0 [] [] κa) <| kX (dP (List.map (nlV 0) [vn, vn, vn, vn] = κa)) true (Zn rfl) <| kKg 2 (tQ (Zch c15) 4) w15) bE
   | r1 y15_0 y15_1 y15_2 y15_3 =>
    exact Zq [] (tW 0 (.apn 0 [] [] κa) <| kX (dP (List.map (nlV 0) [vn, vn, vn, vn] = κa)) true (Zn rfl) <| kKg 2 (tQ (Zch c15) 4) w15) bE
   | r2 y15_0 y15_1 y15_2 y15_3 =>
    exact Zq [] (tW 0 (.apn 0 [] [] κa) <| kX (dP (List.map (nlV 0) [vn, vn, vn, vn] = κa)) true (Zn rfl) <| kKg 2 (tQ (Zch c15) 4) w15) bE
   | r3 y15_0 y15_1 y15_2 y15_3 =>
    exact Zq [] (tW 0 (.apn 0 [] [] κa) <| kX (dP (List.map (nlV 0) [vn, vn, vn, vn] = κa)) true (Zn rfl) <| kKg 2 (tQ (Zch c15) 4) w15) bE
   | r4 y15_0 y15_1 y15_2 y15_3 =>
    exact Zq [] (tW 0 (.apn 0 [] [] κa) <| kX (dP (List.map (nlV 0) [vn, vn, vn, vn] = κa)) true (Zn rfl) <| kKg 2 (tQ (Zch c15) 4) w15) bE
 have w13 := tV 0 <| kX ((i64.wrap a7) == a7) true (beq_iff_eq.2 (wrap_i64 ltA)) <| bhF g12 w12
 refine Zx (fun z13 c13 => ?_);cases z13 with
 | r0 y13_0 y13_1 y13_2 y13_3 =>
  exact Zq [] (tW 0 (.apn 0 [] [] κa) <| kX (dP (List.map (nlV 0) [vn, vn, vn, vn] = κa)) true (Zn rfl) <| kKg 3 (tQ (Zch c13) 3) w13) bE
 | r1 y13_0 y13_1 y13_2 y13_3 =>
  exact Zq [] (tW 0 (.apn 0 [] [] κa) <| kX (dP (List.map (nlV 0) [vn, vn, vn, vn] = κa)) true (Zn rfl) <| kKg 3 (tQ (Zch c13) 3) w13) bE
 | r2 y13_0 y13_1 y13_2 y13_3 =>
  exact Zq [] (tW 0 (.apn 0 [] [] κa) <| kX (dP (List.map (nlV 0) [vn, vn, vn, vn] = κa)) true (Zn rfl) <| kKg 3 (tQ (Zch c13) 3) w13) bE
 | r3 y13_0 y13_1 y13_2 y13_3 =>
  exact Zq [] (tW 0 (.apn 0 [] [] κa) <| kX (dP (List.map (nlV 0) [vn, vn, vn, vn] = κa)) true (Zn rfl) <| kKg 3 (tQ (Zch c13) 3) w13) bE
 | r4 y13_0 y13_1 y13_2 y13_3 =>
  exact Zq [] (tW 0 (.apn 0 [] [] κa) <| kX (dP (List.map (nlV 0) [vn, vn, vn, vn] = κa)) true (Zn rfl) <| kKg 3 (tQ (Zch c13) 3) w13) bE

theorem Zxe (a7 a8 : Int) (N : Nat) (r : ZaL) (h : Zdl L0 L1 L2 L3 a4 a5 a6 a7 a8 N = some r) : LSpec Tryz.prog 15 #[Value.agg (κQ L0 L1 L2 L3), Value.agg #[Value.int .u8 a4, Value.int .u8 a5, Value.int .u8 a6, Value.int .u8 a7, Value.int .u8 a8]] [] (ZpF r) (Zn1 r) :=
 ZI Zv Tryz.func15 (by kernel_rfl) (by kernel_rfl) (fun r => by cases r <;> exact ZP _ rfl) (Z1e L0 L1 L2 L3 a4 a5 a6 a7 a8 N) h

end
theorem ZgC {L0 L1 L2 L3 : List Int} {a4 a5 a6 a7 a8 : Int} {N : Nat} {r : ZaL} (h : Zdl L0 L1 L2 L3 a4 a5 a6 a7 a8 N = some r) : LSpec Tryz.prog 15 #[Value.agg (κQ L0 L1 L2 L3), Value.agg #[Value.int .u8 a4, Value.int .u8 a5, Value.int .u8 a6, Value.int .u8 a7, Value.int .u8 a8]] [] (ZpF r) (Zn1 r) := Zxe L0 L1 L2 L3 a4 a5 a6 a7 a8 N r h

noncomputable def ZnZ : Zcn → Value
 | .r0 => vT
noncomputable def Zm3 (L0 L1 : List RG) : Zcn → List (Option AObj)
 | .r0 => [some (.cells (Za RA L1) 44 true)]

def Zvh : ZaY → Nat
 | .h1m0 v2 => 1
section
variable (L0 L1 : List RG)
noncomputable def Zxf : ZaY → List (Nat × Value)
 | .h1m0 v2 => [(0, ms RA L0), (1, vs 0 0 L1.length L1.length), (5, vi (v2 : Int))]
noncomputable def Zxg (L0 L1 : List RG) : ZaY → List (Option AObj)
 | .h1m0 v2 => [some (.cells (Za RA L1) 44 true)]

noncomputable def Zxh : Nat → Code × List ZL
 | 1 => Z5 [1, 1, 0, 1, 3] (ZM Tryz.f18) []
 | _ => (.skip, [])

noncomputable def Zhh (N : Nat) : Mach := ⟨Tryz.f18, [.cells (Za RA L1) 44 true], ZaY, Zcn, Zf4 L0 L1 N, Zvh, Zxh, ilT, Zxf L0 L1, Zxg L0 L1, ZnZ, Zm3 L0 L1⟩

theorem ZpG (v2 N : Nat) : (Zhh L0 L1 N).Ok Tryz.prog Ze (.h1m0 v2 : ZaY) (ZbQ L0 L1 N v2) := by
 unfold ZbQ;refine ok_ite (fun g0 => ?_) fun g0 => ?_
 · refine oi fun g1 => ?_;refine ok_ite (fun _ => ok_none) (fun g2 => ?_);refine oi fun g3 => ?_;exact Mach.okN0 [0] (vkW ((v2 : Int) + 1) (((v2 + 1) : Nat) : Int) <| bkX ((!(((L0.getD v2 RG.z).a0 == (L1.getD v2 RG.z).a0) && (((L0.getD v2 RG.z).a1 == (L1.getD v2 RG.z).a1) && true)))) false (by rw [Bool.not_eq_false']; first | (simp only [beq_self_eq_true, Bool.and_self]; done) | (simp only [Bool.and_true, Bool.and_eq_true, beq_iff_eq] <;> first | omega | (simp_all; done) | grind)) <| Za3 RA L1 v2 0 2 <| kB v2 L1.length <| xkI (v2 : Int) v2 <| lkG RA L0 (0 + (v2 * 2)) v2 0 2 2 <| kB v2 L0.length <| xkI (v2 : Int) v2 <| bhY g0 Zg) (bQ <| bE)
 exact Mach.okF0 [0] (bhN g0 Zg) (bQ <| bE)

theorem ZtI (N : Nat) : (Zhh L0 L1 N).Enter Tryz.prog Ze (κbh L0 L1) (Zg4 L0 L1 N) := by unfold Zg4;refine en_ite (fun _ => en_none) (fun g0 => ?_);exact enH [0] [some (ms RA L0), some (vs 0 0 L1.length L1.length), some (vq)] (bkE (L0.length : Int) (L1.length : Int) Zg) (tC (tC (tC (tE) ⟨Eq.trans (show κg = vq from ci) (by rfl), by rfl⟩))) (bQ <| bE)

theorem ZqG (N : Nat) (r : Zcn) (h : Zao L0 L1 N = some r) : LSpec Tryz.prog 18 (κbh L0 L1) [.cells (Za RA L1) 44 true] (ZnZ r) (Zm3 L0 L1 r) :=
 Mach.specT Zv (Zhh L0 L1 N) Tryz.func18 (fun x => (show (Zhh L0 L1 N).Ok Tryz.prog Ze x (Zf4 L0 L1 N x) from by
  cases x with
  | h1m0 v2 => exact ZpG L0 L1 v2 N
  )) (ZtI L0 L1 N) h

end
noncomputable def Zvi {L0 L1 : List RG} {N : Nat} (h : Zao L0 L1 N = some (.r0)) (ks : List Nat) (n : Nat) : ToldS := ⟨#[ms RA L0, vs (nth ks 0) 0 L1.length L1.length], [((nth ks 0), .cells (Za RA L1) 44 true)], vT, [], 0⟩

theorem Zeh {L0 L1 : List RG} {N : Nat} (h : Zao L0 L1 N = some (.r0)) (ks : List Nat) (n : Nat) (hk : ks.length = 1 := by rfl) (hnd : ks.Nodup := by decide +kernel) (hlt : ∀ k ∈ ks, k < n := by decide +kernel) : (Zvi (N := N)  h ks n).P Tryz.prog 18 n :=
 match ks, hk, hnd, hlt with
 | [k0], _, hnd, hlt => Zci (show LSpec Tryz.prog 18 (κbh L0 L1) [.cells (Za RA L1) 44 true] (vT) [some (.cells (Za RA L1) 44 true)] from ZqG L0 L1 N _ h) _ n [] hnd hlt

noncomputable def ZjL : ZbD → Value
 | .r0 => vT
noncomputable def ZiK : ZbD → List (Option AObj)
 | .r0 => []

def Zvj : ref24_Same_3X → Nat
 | .h1m0 => 1
noncomputable def Zxi (L0 : List Int) : ref24_Same_3X → List (Nat × Value)
 | .h1m0 => [(0, vn), (1, ms eI L0), (5, vq)]
noncomputable def Zxj (L0 : List Int) : ref24_Same_3X → List (Option AObj)
 | .h1m0 => []

noncomputable def Zxk : Nat → Code × List ZL
 | 1 => Z5 [1, 1, 0, 1, 3] (ZM Tryz.f19) []
 | _ => (.skip, [])

section
variable (L0 : List Int) (N : Nat)
noncomputable def Zhi : Mach := ⟨Tryz.f19, [], ref24_Same_3X, ZbD, Zhu L0 N, Zvj, Zxk, ilT, Zxi L0, Zxj L0, ZjL, ZiK⟩

theorem ZpH : (Zhi L0 N).Ok Tryz.prog Ze (.h1m0 : ref24_Same_3X) (ZgM L0 N) := by unfold ZgM;exact Mach.okF0 [] Zg bE

theorem ZtJ : (Zhi L0 N).Enter Tryz.prog Ze #[vn, ms eI L0] (ZiE L0 N) := by unfold ZiE;refine en_ite (fun _ => en_none) (fun g0 => ?_);exact Mach.enH0 [] (bkE 0 (L0.length : Int) Zg) bE

theorem ZqH (r : ZbD) (h : Zeo L0 N = some r) : LSpec Tryz.prog 19 #[vn, ms eI L0] [] (ZjL r) (ZiK r) :=
 Mach.specT Zv (Zhi L0 N) Tryz.func19 (fun x => (show (Zhi L0 N).Ok Tryz.prog Ze x (Zhu L0 N x) from by
  cases x with
  | h1m0 => exact ZpH L0 N
  )) (ZtJ L0 N) h

end
theorem ZgD {L0 : List Int} {N : Nat} {r : ZbD} (h : Zeo L0 N = some r) : LSpec Tryz.prog 19 #[vn, ms eI L0] [] (ZjL r) (ZiK r) := ZqH L0 N r h

noncomputable def ZjM : ZbE → Value
 | .r0 => vT
noncomputable def ZiL : ZbE → List (Option AObj)
 | .r0 => []

def Zvk : ZaZ → Nat
 | .h1m0 v2 => 1
section
variable (L0 L1 : List Int)
noncomputable def Zxl : ZaZ → List (Nat × Value)
 | .h1m0 v2 => [(0, ms eI L0), (1, ms eI L1), (5, vi (v2 : Int))]
noncomputable def Zxm (L0 L1 : List Int) : ZaZ → List (Option AObj)
 | .h1m0 v2 => []

noncomputable def Zxn : Nat → Code × List ZL
 | 1 => Z5 [1, 1, 0, 1, 3] (ZM Tryz.f19) []
 | _ => (.skip, [])

noncomputable def Zhj (N : Nat) : Mach := ⟨Tryz.f19, [], ZaZ, ZbE, Zf5 L0 L1 N, Zvk, Zxn, ilT, Zxl L0 L1, Zxm L0 L1, ZjM, ZiL⟩

theorem ZpI (v2 N : Nat) : (Zhj L0 L1 N).Ok Tryz.prog Ze (.h1m0 v2 : ZaZ) (ZbR L0 L1 N v2) := by
 unfold ZbR;refine ok_ite (fun g0 => ?_) fun g0 => ?_
 · refine oi fun g1 => ?_;refine ok_ite (fun _ => ok_none) (fun g2 => ?_);refine oi fun g3 => ?_;exact Mach.okN0 [] (vkW ((v2 : Int) + 1) (((v2 + 1) : Nat) : Int) <| bkE (L0.getD v2 0) (L1.getD v2 0) <| lkG eI L1 (0 + (v2 * 1)) v2 0 1 1 <| kB v2 L1.length <| xkI (v2 : Int) v2 <| lkG eI L0 (0 + (v2 * 1)) v2 0 1 1 <| kB v2 L0.length <| xkI (v2 : Int) v2 <| bhY g0 Zg) bE
 exact Mach.okF0 [] (bhN g0 Zg) bE

theorem ZtK (N : Nat) : (Zhj L0 L1 N).Enter Tryz.prog Ze #[ms eI L0, ms eI L1] (Zg5 L0 L1 N) := by unfold Zg5;refine en_ite (fun _ => en_none) (fun g0 => ?_);exact enH [] [some (ms eI L0), some (ms eI L1), some (vq)] (bkE (L0.length : Int) (L1.length : Int) Zg) (tC (tC (tC (tE) ⟨Eq.trans (show κg = vq from ci) (by rfl), by rfl⟩))) bE

theorem ZqI (N : Nat) (r : ZbE) (h : Zd6 L0 L1 N = some r) : LSpec Tryz.prog 19 #[ms eI L0, ms eI L1] [] (ZjM r) (ZiL r) :=
 Mach.specT Zv (Zhj L0 L1 N) Tryz.func19 (fun x => (show (Zhj L0 L1 N).Ok Tryz.prog Ze x (Zf5 L0 L1 N x) from by
  cases x with
  | h1m0 v2 => exact ZpI L0 L1 v2 N
  )) (ZtK L0 L1 N) h

end
theorem ZgE {L0 L1 : List Int} {N : Nat} {r : ZbE} (h : Zd6 L0 L1 N = some r) : LSpec Tryz.prog 19 #[ms eI L0, ms eI L1] [] (ZjM r) (ZiL r) := ZqI L0 L1 N r h

end Ev
end Go.Proofs.YthfohmhipifiaaaGreat
