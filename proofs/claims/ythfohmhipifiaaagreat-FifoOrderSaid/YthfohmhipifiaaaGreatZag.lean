/- Part 7. -/
import Derived.Test.YthfohmhipifiaaaGreatZaf
set_option linter.unusedSimpArgs false
set_option linter.unusedVariables false
set_option linter.unusedVariables false
set_option maxRecDepth 100000
/- Calls do what the plain functions say. -/
namespace Go.Proofs.YthfohmhipifiaaaGreat
open Go.IntKind (i64)
open Go.RowKit
namespace Ev
open Mach (oi ok_ite ok_none en_ite en_none)
noncomputable abbrev κbq (a2 : Int) (L3 : List RG) (a4 a5 : Int) := [vi (i64.wrap (a2 + 1)), ms RA L3, vi a4, vi a5]
noncomputable def Zm5 (L0 : List RJ) (L1 : List RG) (a2 : Int) (L3 : List RG) (a4 a5 a6 a7 a8 a9 a10 : Int) (L11 : List RG) (b12 : Bool) : ZaX → Value
 | .r0 w1 w2 w6 => Value.tuple #[Value.agg (List.toArray ([vs 1 0 w1.length w1.length] ++ (rv8 w2 ++ [vi (i64.wrap (a2 + 1)), ms RA L3, vi (i64.wrap (a4 + 1)), vi w6]))), vq]
 | .r1 w1 w2 => Value.tuple #[Value.agg (List.toArray ([ms RC w1] ++ (rv8 w2 ++ (κbq a2 L3 a4 a5)))), vq]
noncomputable abbrev κbh (L11 : List RG) := [some (AObj.cells (Za RA L11) 44 true)]
noncomputable def Zly (L0 : List RJ) (L1 : List RG) (a2 : Int) (L3 : List RG) (a4 a5 a6 a7 a8 a9 a10 : Int) (L11 : List RG) (b12 : Bool) : ZaX → List (Option AObj)
 | .r0 w1 w2 w6 => [some (.cells (Za RA L11) 44 true), some (.cells (Za RC w1) 97)]
 | .r1 w1 w2 => (κbh L11)

noncomputable def ZwT (L0 : List RJ) (L1 : List RG) (a2 : Int) (L3 : List RG) (a4 a5 a6 a7 a8 a9 a10 : Int) (L11 : List RG) (b12 : Bool) : ZaX → Value
 | .r0 w1 w2 w6 => Value.tuple #[Value.agg (List.toArray ([ms RC w1] ++ (rv8 w2 ++ [vi (i64.wrap (a2 + 1)), ms RA L3, vi (i64.wrap (a4 + 1)), vi w6]))), vq]
 | .r1 w1 w2 => Value.tuple #[Value.agg (List.toArray ([ms RC w1] ++ (rv8 w2 ++ (κbq a2 L3 a4 a5)))), vq]
noncomputable def Zvd (L0 : List RJ) (L1 : List RG) (a2 : Int) (L3 : List RG) (a4 a5 a6 a7 a8 a9 a10 : Int) (L11 : List RG) (b12 : Bool) : ZaX → List (Option AObj)
 | .r0 w1 w2 w6 => (κbh L11)
 | .r1 w1 w2 => (κbh L11)

noncomputable abbrev κbX (L0 : List RJ) := [vs 8 0 ((0 + L0.length) + 1) ((0 + L0.length) + 1)]
noncomputable abbrev κbO (L11 : List RG) := [AObj.cells (Za RA L11) 44 true]
section
variable (L1 : List RG) (a8 y1_0 y1_1 a2 : Int) (L3 : List RG) (a4 y1_2 : Int)
noncomputable abbrev κs := (rv8 (L1.set a8.toNat (⟨y1_0, y1_1⟩ : RG)) ++ [vi (i64.wrap (a2 + 1)), ms RA L3, vi (i64.wrap (a4 + 1)), vi y1_2])
end
section
variable (L0 : List RJ) (L1 : List RG) (a2 : Int) (L3 : List RG) (a4 a5 a6 a7 a8 a9 a10 : Int) (L11 : List RG) (b12 : Bool) (N : Nat)
theorem ZtB : Fx Tryz.prog Ze Tryz.f104 (κbO L11) #[Value.agg (List.toArray (κl L0 L1 a2 L3 a4 a5)), vi a6, Value.agg #[vi a7, vi a8, vi a9, vi a10], vs 0 0 L11.length L11.length, Value.bool b12] (Zm5 L0 L1 a2 L3 a4 a5 a6 a7 a8 a9 a10 L11 b12) (Zly L0 L1 a2 L3 a4 a5 a6 a7 a8 a9 a10 L11 b12) (Z6 L0 L1 a2 L3 a4 a5 a6 a7 a8 a9 a10 L11 b12 N) := by
 unfold Z6;refine Zb (fun g0 => ?_) (fun g0 => ?_)
 ·
  refine Zx (fun z1 c1 => ?_);cases z1 with
  | r0 y1_0 y1_1 y1_2 =>
   refine Zb (fun g2 => ?_) (fun g2 => ?_)
   ·
    refine Zb (fun g3 => ?_) (fun _ => Zd);refine Zb (fun g4 => ?_) (fun _ => Zd);refine Zx (fun z5 c5 => ?_);cases z5 with
    | r0 y5_0 =>
     refine Zb (fun g6 => ?_) (fun _ => Zd);refine Zb (fun g7 => ?_) (fun _ => Zd);refine Zb (fun g8 => ?_) (fun _ => Zd);exact fxC [0, 7] (Value.tuple #[Value.agg (List.toArray ([vs 7 0 1 1] ++ (κs L1 a8 y1_0 y1_1 a2 L3 a4 y1_2))), vq]) (tW 3 (.st (Za3 RA 8 [vs 7 0 1 1] (L1.set a8.toNat (⟨y1_0, y1_1⟩ : RG)) [vi a2, ms RA L3, vi (i64.wrap (a4 + 1)), vi y1_2])) <| kC (Zup (E := RA) (a := [vs 7 0 1 1]) (b := [vi a2, ms RA L3, vi (i64.wrap (a4 + 1)), vi y1_2]) (L := L1) (n := 8) (p := 1) (i := a8.toNat) (q := 0) (l := [vi y1_0, vi y1_1]) (⟨y1_0, y1_1⟩ : RG) rfl (by omega) (by omega) (show (1 + (a8.toNat * 2)) = 1 + a8.toNat * 2 + 0 from by omega) (show 0 + 2 ≤ 2 from by decide) rfl) <| kB a8.toNat 8 <| xkI a8 (a8.toNat) <| kKb (A := #[Value.agg #[vi y1_0, vi y1_1], vi a9, vi a10, vi a6]) (Zem (cr (Zw ci (Zw ci (cr rfl))))) (tQ (ZnX c5) 6) <| tW 2 (.ap0) <| kX (dP (0 = L0.length ∧ ((L0.length * 8 = 0 ∧ ([] : List Value) = []) ∨ ∃ c, L0.length * 8 ≠ 0 ∧ ZS (code (Z9 RC L0)) 0 (L0.length * 8) = some c ∧ ([] : List Value) = Zm c))) true (Zn ⟨by omega, .inl ⟨by omega, rfl⟩⟩) <| kKg 1 (Zpw c1 [0] 4) <| bhT g0 Zg) (bQ <| bC (o := .cells [vi y1_0, vi y1_1, vi (i64.wrap (Int.tdiv y1_1 1048576)), vi 2, vi 1, vi 1, vi a6, ms RA y5_0] 97) (Zz (E := RC) _ (L := ([(⟨y1_0, y1_1, (i64.wrap (Int.tdiv y1_1 1048576)), 2, 1, 1, a6, y5_0⟩ : RJ)] : List RJ)) _ (show ([vi y1_0, vi y1_1, vi (i64.wrap (Int.tdiv y1_1 1048576)), vi 2, vi 1, vi 1, vi a6, ms RA y5_0] : List Value) = Za RC ([(⟨y1_0, y1_1, (i64.wrap (Int.tdiv y1_1 1048576)), 2, 1, 1, a6, y5_0⟩ : RJ)] : List RJ) from rfl)) <| bE) (hv := ⟨Eq.trans (show (Value.tuple #[Value.agg (List.toArray ([vs 1 0 ([(⟨y1_0, y1_1, (i64.wrap (Int.tdiv y1_1 1048576)), 2, 1, 1, a6, y5_0⟩ : RJ)] : List RJ).length ([(⟨y1_0, y1_1, (i64.wrap (Int.tdiv y1_1 1048576)), 2, 1, 1, a6, y5_0⟩ : RJ)] : List RJ).length] ++ (κs L1 a8 y1_0 y1_1 a2 L3 a4 y1_2))), vq] : Value) = Value.tuple #[Value.agg (List.toArray ([vs 1 0 1 1] ++ (κs L1 a8 y1_0 y1_1 a2 L3 a4 y1_2))), vq] from (Zaw (Zw (ZbV (Zw (Zi rfl eqA eqA) (cr4 (cr4 (cr4 (cr4 (cr4 rfl))))))) (cr rfl)))) (by rfl), by rfl⟩)
   refine Zb (fun g3 => ?_) (fun _ => Zd);refine Zb (fun g4 => ?_) (fun _ => Zd);refine Zb (fun g5 => ?_) (fun _ => Zd);refine Zx (fun z6 c6 => ?_);cases z6 with
   | r0 y6_0 =>
    refine Zb (fun g7 => ?_) (fun _ => Zd);refine Zb (fun g8 => ?_) (fun _ => Zd);refine Zb (fun g9 => ?_) (fun _ => Zd);exact fxC [0, 8] (Value.tuple #[Value.agg (List.toArray ((κbX L0) ++ (κs L1 a8 y1_0 y1_1 a2 L3 a4 y1_2))), vq]) (tW 2 (.st (Za3 RA 8 (κbX L0) (L1.set a8.toNat (⟨y1_0, y1_1⟩ : RG)) [vi a2, ms RA L3, vi (i64.wrap (a4 + 1)), vi y1_2])) <| kC (Zup (E := RA) (a := (κbX L0)) (b := [vi a2, ms RA L3, vi (i64.wrap (a4 + 1)), vi y1_2]) (L := L1) (n := 8) (p := 1) (i := a8.toNat) (q := 0) (l := [vi y1_0, vi y1_1]) (⟨y1_0, y1_1⟩ : RG) rfl (by omega) (by omega) (show (1 + (a8.toNat * 2)) = 1 + a8.toNat * 2 + 0 from by omega) (show 0 + 2 ≤ 2 from by decide) rfl) <| kB a8.toNat 8 <| xkI a8 (a8.toNat) <| ZoZ RC L0 (0 + L0.length) (⟨y1_0, y1_1, (i64.wrap (Int.tdiv y1_1 1048576)), 2, 1, 1, a6, y6_0⟩ : RJ) <| kKb (A := #[Value.agg #[vi y1_0, vi y1_1], vi a9, vi a10, vi a6]) (Zem (cr (Zw ci (Zw ci (cr rfl))))) (tQ (ZnX c6) 7) <| tW 2 (.ap L0.length (Za RC L0) (Za RC L0)) <| kX (dP ((L0.length = L0.length ∧ ((L0.length * 8 = 0 ∧ (Za RC L0) = []) ∨ ∃ c, L0.length * 8 ≠ 0 ∧ ZS (code (Z9 RC L0)) 0 (L0.length * 8) = some c ∧ (Za RC L0) = Zm c)) ∧ 0 < L0.length ∧ L0.length ≤ 100000 ∧ 0 < 0 + L0.length ∧ 0 ≤ 100000 ∧ 0 * 8 ≤ (List.length []) ∧ List.take (0 * 8) [] ++ (Za RC L0) = (Za RC L0))) true (Zn ⟨⟨rfl, (Zc5 (E := RC) (L := L0) (n := L0.length) (size := 8) rfl (by decide) (by omega))⟩, by omega, by omega, ltA, by omega, (Zar (E := RC) (L := ([] : List RJ)) (M := L0) (n := 0) (show _ = _ * 8 from rfl) ltA (R := L0) (by rw [List.take_of_length_le ltA]; rfl))⟩) <| kKg 1 (Zpw c1 [0] 4) <| bhT g0 Zg) (bQ <| bR <| bE) (hv := ⟨Eq.trans (show (Value.tuple #[Value.agg (List.toArray ([vs 1 0 (L0 ++ ([(⟨y1_0, y1_1, (i64.wrap (Int.tdiv y1_1 1048576)), 2, 1, 1, a6, y6_0⟩ : RJ)] : List RJ)).length (L0 ++ ([(⟨y1_0, y1_1, (i64.wrap (Int.tdiv y1_1 1048576)), 2, 1, 1, a6, y6_0⟩ : RJ)] : List RJ)).length] ++ (κs L1 a8 y1_0 y1_1 a2 L3 a4 y1_2))), vq] : Value) = Value.tuple #[Value.agg (List.toArray ([vs 1 0 ((0 + L0.length) + 1) ((0 + L0.length) + 1)] ++ (κs L1 a8 y1_0 y1_1 a2 L3 a4 y1_2))), vq] from (Zaw (Zw (ZbV (Zw (Zi rfl eqA eqA) (cr4 (cr4 (cr4 (cr4 (cr4 rfl))))))) (cr rfl)))) (by rfl), by rfl⟩)
 refine Zb (fun g1 => ?_) (fun g1 => ?_)
 ·
  refine Zb (fun g2 => ?_) (fun _ => Zd);refine Zb (fun g3 => ?_) (fun _ => Zd);refine Zx (fun z4 c4 => ?_);cases z4 with
  | r0 y4_0 y4_1 =>
   refine Zb (fun g5 => ?_) (fun _ => Zd);refine Zb (fun g6 => ?_) (fun _ => Zd);refine Zb (fun g7 => ?_) (fun _ => Zd);exact Zr [0] (tW 1 (.st (Za3 RA 8 [ms RC L0] (L1.set a8.toNat (⟨y4_0, y4_1⟩ : RG)) (κq a2 L3 a4 a5))) <| kC (Zup (E := RA) (a := [ms RC L0]) (b := (κq a2 L3 a4 a5)) (L := L1) (n := 8) (p := 1) (i := a8.toNat) (q := 0) (l := [vi y4_0, vi y4_1]) (⟨y4_0, y4_1⟩ : RG) rfl (by omega) (by omega) (show (1 + (a8.toNat * 2)) = 1 + a8.toNat * 2 + 0 from by omega) (show 0 + 2 ≤ 2 from by decide) rfl) <| kB a8.toNat 8 <| xkI a8 (a8.toNat) <| kKg 1 (tQ (Zrt c4) 4) <| tL 3 (RA.cel (L1.getD a9.toNat RG.z)) <| kX (ZdQ (Z4 2 (List.drop (1 + (a9.toNat * 2)) (Za3 RA 8 [ms RC L0] L1 (κq a2 L3 a4 a5)))) [.i (L1.getD a9.toNat RG.z).a0, .i (L1.getD a9.toNat RG.z).a1]) true (Znw (E := RA) (L := L1) (n := 8) (p := 1) (i := a9.toNat) (q := 0) rfl (by omega) (show (1 + (a9.toNat * 2)) = 1 + a9.toNat * 2 + 0 from by omega) (show 0 + 2 ≤ 2 from by decide) rfl rfl) <| kB a9.toNat 8 <| xkI a9 (a9.toNat) <| bhT g1 <| bhF g0 Zg) (bQ <| bE)
 refine Zb (fun g2 => ?_) (fun g2 => ?_)
 ·
  refine Zb (fun g3 => ?_) (fun _ => Zd);refine Zb (fun g4 => ?_) (fun _ => Zd);refine Zb (fun g5 => ?_) (fun _ => Zd);refine Zb (fun g6 => ?_) (fun _ => Zd);refine Zx (fun z7 c7 => ?_);cases z7 with
  | r0 y7_0 =>
   exact Zr [0] (kKg 1 (tQ (Z1e c7) 4) <| tL 2 (RA.cel (L1.getD a10.toNat RG.z)) <| kX (ZdQ (Z4 2 (List.drop (1 + (a10.toNat * 2)) (Za3 RA 8 [ms RC L0] L1 (κq a2 L3 a4 a5)))) [.i (L1.getD a10.toNat RG.z).a0, .i (L1.getD a10.toNat RG.z).a1]) true (Znw (E := RA) (L := L1) (n := 8) (p := 1) (i := a10.toNat) (q := 0) rfl (by omega) (show (1 + (a10.toNat * 2)) = 1 + a10.toNat * 2 + 0 from by omega) (show 0 + 2 ≤ 2 from by decide) rfl rfl) <| kB a10.toNat 8 <| xkI a10 (a10.toNat) <| tL 3 (RA.cel (L1.getD a8.toNat RG.z)) <| kX (ZdQ (Z4 2 (List.drop (1 + (a8.toNat * 2)) (Za3 RA 8 [ms RC L0] L1 (κq a2 L3 a4 a5)))) [.i (L1.getD a8.toNat RG.z).a0, .i (L1.getD a8.toNat RG.z).a1]) true (Znw (E := RA) (L := L1) (n := 8) (p := 1) (i := a8.toNat) (q := 0) rfl (by omega) (show (1 + (a8.toNat * 2)) = 1 + a8.toNat * 2 + 0 from by omega) (show 0 + 2 ≤ 2 from by decide) rfl rfl) <| kB a8.toNat 8 <| xkI a8 (a8.toNat) <| bhT g2 <| bhF g1 <| bhF g0 Zg) (bQ <| bE)
 refine Zb (fun g3 => ?_) (fun _ => Zd);refine Zb (fun g4 => ?_) (fun _ => Zd);refine Zx (fun z5 c5 => ?_);cases z5 with
 | r0 y5_0 =>
  exact Zr [0] (kKg 1 (tQ (ZzB c5) 4) <| tL 3 (RA.cel (L1.getD a8.toNat RG.z)) <| kX (ZdQ (Z4 2 (List.drop (1 + (a8.toNat * 2)) (Za3 RA 8 [ms RC L0] L1 (κq a2 L3 a4 a5)))) [.i (L1.getD a8.toNat RG.z).a0, .i (L1.getD a8.toNat RG.z).a1]) true (Znw (E := RA) (L := L1) (n := 8) (p := 1) (i := a8.toNat) (q := 0) rfl (by omega) (show (1 + (a8.toNat * 2)) = 1 + a8.toNat * 2 + 0 from by omega) (show 0 + 2 ≤ 2 from by decide) rfl rfl) <| kB a8.toNat 8 <| xkI a8 (a8.toNat) <| bhF g2 <| bhF g1 <| bhF g0 Zg) (bQ <| bE)

theorem Zp6 (r : ZaX) (h : Z6 L0 L1 a2 L3 a4 a5 a6 a7 a8 a9 a10 L11 b12 N = some r) : LSpec Tryz.prog 104 #[Value.agg (List.toArray (κl L0 L1 a2 L3 a4 a5)), vi a6, Value.agg #[vi a7, vi a8, vi a9, vi a10], vs 0 0 L11.length L11.length, Value.bool b12] (κbO L11) (Zm5 L0 L1 a2 L3 a4 a5 a6 a7 a8 a9 a10 L11 b12 r) (Zly L0 L1 a2 L3 a4 a5 a6 a7 a8 a9 a10 L11 b12 r) :=
 ZI Zv Tryz.func104 (by kernel_rfl) (by kernel_rfl) (fun r => by cases r <;> exact ZP _ rfl) (ZtB L0 L1 a2 L3 a4 a5 a6 a7 a8 a9 a10 L11 b12 N) h

theorem ZjT (r : ZaX) (h : Z6 L0 L1 a2 L3 a4 a5 a6 a7 a8 a9 a10 L11 b12 N = some r) : LSpec Tryz.prog 104 #[Value.agg (List.toArray (κl L0 L1 a2 L3 a4 a5)), vi a6, Value.agg #[vi a7, vi a8, vi a9, vi a10], vs 0 0 L11.length L11.length, Value.bool b12] (κbO L11) (ZwT L0 L1 a2 L3 a4 a5 a6 a7 a8 a9 a10 L11 b12 r) (Zvd L0 L1 a2 L3 a4 a5 a6 a7 a8 a9 a10 L11 b12 r) := by
 have h0 := Zp6 L0 L1 a2 L3 a4 a5 a6 a7 a8 a9 a10 L11 b12 N r h;cases r with
 | r0 w1 w2 w6 => exact (LSpec.frzv (E := RC) (L := w1) (post := (κbh L11)) (v2 := Value.tuple #[Value.agg (List.toArray ([ms RC w1] ++ (rv8 w2 ++ [vi (i64.wrap (a2 + 1)), ms RA L3, vi (i64.wrap (a4 + 1)), vi w6]))), vq]) h0 (show 1 ≤ 1 from by decide) (show 1 < 1000000000 from by decide) ⟨(ZcZ _ _ _), trivial⟩ rfl rfl rfl)
 | r1 _ _ => exact h0

end
noncomputable def Zve {L0 : List RJ} {L1 : List RG} {a2 : Int} {L3 : List RG} {a4 a5 a6 a7 a8 a9 a10 : Int} {L11 : List RG} {b12 : Bool} {w1 : List RJ} {w2 : List RG} {w6 : Int} {N : Nat} (h : Z6 L0 L1 a2 L3 a4 a5 a6 a7 a8 a9 a10 L11 b12 N = some (.r0 w1 w2 w6)) (ks : List Nat) (n : Nat) : ToldS := ⟨#[Value.agg (List.toArray (κl L0 L1 a2 L3 a4 a5)), vi a6, Value.agg #[vi a7, vi a8, vi a9, vi a10], vs (nth ks 0) 0 L11.length L11.length, Value.bool b12], [((nth ks 0), .cells (Za RA L11) 44 true)], Value.tuple #[Value.agg (List.toArray ([ms RC w1] ++ (rv8 w2 ++ [vi (i64.wrap (a2 + 1)), ms RA L3, vi (i64.wrap (a4 + 1)), vi w6]))), vq], [], 0⟩

theorem Zc1 {L0 : List RJ} {L1 : List RG} {a2 : Int} {L3 : List RG} {a4 a5 a6 a7 a8 a9 a10 : Int} {L11 : List RG} {b12 : Bool} {w1 : List RJ} {w2 : List RG} {w6 : Int} {N : Nat} (h : Z6 L0 L1 a2 L3 a4 a5 a6 a7 a8 a9 a10 L11 b12 N = some (.r0 w1 w2 w6)) (ks : List Nat) (n : Nat) (hk : ks.length = 1 := by rfl) (hnd : ks.Nodup := by decide +kernel) (hlt : ∀ k ∈ ks, k < n := by decide +kernel) : (Zve (N := N)  h ks n).P Tryz.prog 104 n :=
 match ks, hk, hnd, hlt with
 | [k0], _, hnd, hlt => Zcj (show LSpec Tryz.prog 104 #[Value.agg (List.toArray (κl L0 L1 a2 L3 a4 a5)), vi a6, Value.agg #[vi a7, vi a8, vi a9, vi a10], vs 0 0 L11.length L11.length, Value.bool b12] (κbO L11) (Value.tuple #[Value.agg (List.toArray ([ms RC w1] ++ (rv8 w2 ++ [vi (i64.wrap (a2 + 1)), ms RA L3, vi (i64.wrap (a4 + 1)), vi w6]))), vq]) (κbh L11) from ZjT L0 L1 a2 L3 a4 a5 a6 a7 a8 a9 a10 L11 b12 N _ h) _ n [] hnd hlt

noncomputable def Zvf {L0 : List RJ} {L1 : List RG} {a2 : Int} {L3 : List RG} {a4 a5 a6 a7 a8 a9 a10 : Int} {L11 : List RG} {b12 : Bool} {w1 : List RJ} {w2 : List RG} {N : Nat} (h : Z6 L0 L1 a2 L3 a4 a5 a6 a7 a8 a9 a10 L11 b12 N = some (.r1 w1 w2)) (ks : List Nat) (n : Nat) : ToldS := ⟨#[Value.agg (List.toArray (κl L0 L1 a2 L3 a4 a5)), vi a6, Value.agg #[vi a7, vi a8, vi a9, vi a10], vs (nth ks 0) 0 L11.length L11.length, Value.bool b12], [((nth ks 0), .cells (Za RA L11) 44 true)], Value.tuple #[Value.agg (List.toArray ([ms RC w1] ++ (rv8 w2 ++ (κbq a2 L3 a4 a5)))), vq], [], 0⟩

theorem Zc2 {L0 : List RJ} {L1 : List RG} {a2 : Int} {L3 : List RG} {a4 a5 a6 a7 a8 a9 a10 : Int} {L11 : List RG} {b12 : Bool} {w1 : List RJ} {w2 : List RG} {N : Nat} (h : Z6 L0 L1 a2 L3 a4 a5 a6 a7 a8 a9 a10 L11 b12 N = some (.r1 w1 w2)) (ks : List Nat) (n : Nat) (hk : ks.length = 1 := by rfl) (hnd : ks.Nodup := by decide +kernel) (hlt : ∀ k ∈ ks, k < n := by decide +kernel) : (Zvf (N := N)  h ks n).P Tryz.prog 104 n :=
 match ks, hk, hnd, hlt with
 | [k0], _, hnd, hlt => Zcj (show LSpec Tryz.prog 104 #[Value.agg (List.toArray (κl L0 L1 a2 L3 a4 a5)), vi a6, Value.agg #[vi a7, vi a8, vi a9, vi a10], vs 0 0 L11.length L11.length, Value.bool b12] (κbO L11) (Value.tuple #[Value.agg (List.toArray ([ms RC w1] ++ (rv8 w2 ++ (κbq a2 L3 a4 a5)))), vq]) (κbh L11) from ZjT L0 L1 a2 L3 a4 a5 a6 a7 a8 a9 a10 L11 b12 N _ h) _ n [] hnd hlt

noncomputable def ZkR (L0 : List RJ) (L1 : List RG) (a2 : Int) (L3 : List RG) (a4 a5 a6 a7 a8 a9 : Int) : Zfe → Value
 | .r0 w1 w2 => Value.tuple #[Value.agg (List.toArray ([ms RC L0] ++ (rv8 w1 ++ [vi w2, ms RA L3, vi a4, vi a5]))), vq]
noncomputable def ZjL : Zfe → List (Option AObj)
 | .r0 w1 w2 => []

section
variable (L0 : List RJ) (L1 : List RG) (a2 : Int) (L3 : List RG) (a4 a5 a6 a7 a8 a9 : Int) (N : Nat)
theorem Zvg : Fx Tryz.prog Ze Tryz.f139 [] #[Value.agg (List.toArray (κl L0 L1 a2 L3 a4 a5)), Value.agg #[vi a6, vi a7, vi a8, vi a9]] (ZkR L0 L1 a2 L3 a4 a5 a6 a7 a8 a9) (ZjL) (Zcd L0 L1 a2 L3 a4 a5 a6 a7 a8 a9 N) := by
 unfold Zcd;refine Zx (fun z0 c0 => ?_);cases z0 with
 | r0 y0_0 y0_1 y0_2 =>
  refine Zb (fun g1 => ?_) (fun g1 => ?_)
  · subst g1;exact Zd
  obtain rfl : y0_2 = false := by simpa using g1
  refine Zx (fun z2 c2 => ?_);cases z2 with
  | r0 y2_0 y2_1 =>
   exact Zr [] (kKg 5 (tQ (ZbN c2) 8) <| kKg 1 (tQ (Zbf c0) 3) Zg) bE

theorem Zsg (r : Zfe) (h : Zcd L0 L1 a2 L3 a4 a5 a6 a7 a8 a9 N = some r) : LSpec Tryz.prog 139 #[Value.agg (List.toArray (κl L0 L1 a2 L3 a4 a5)), Value.agg #[vi a6, vi a7, vi a8, vi a9]] [] (ZkR L0 L1 a2 L3 a4 a5 a6 a7 a8 a9 r) (ZjL r) :=
 ZI Zv Tryz.func139 (by kernel_rfl) (by kernel_rfl) (fun r => by cases r <;> exact ZP _ rfl) (Zvg L0 L1 a2 L3 a4 a5 a6 a7 a8 a9 N) h

end
theorem Zhk {L0 : List RJ} {L1 : List RG} {a2 : Int} {L3 : List RG} {a4 a5 a6 a7 a8 a9 : Int} {N : Nat} {r : Zfe} (h : Zcd L0 L1 a2 L3 a4 a5 a6 a7 a8 a9 N = some r) : LSpec Tryz.prog 139 #[Value.agg (List.toArray (κl L0 L1 a2 L3 a4 a5)), Value.agg #[vi a6, vi a7, vi a8, vi a9]] [] (ZkR L0 L1 a2 L3 a4 a5 a6 a7 a8 a9 r) (ZjL r) := Zsg L0 L1 a2 L3 a4 a5 a6 a7 a8 a9 N r h

noncomputable abbrev κV := #[Value.agg #[vn, vq, vq, vq, vq, vq, vq, vq, vq, vq, vq, vq, vq, vq, vq, vq, vq, vq, vn, vq, vq], vn, vf]
noncomputable def ZkS : Zce → Value
 | .r0 => Value.tuple κV
noncomputable def ZjM : Zce → List (Option AObj)
 | .r0 => []

def ZwU : Zcf → Nat
 | .h1m0 => 1
section
variable (L0 : List RI) (L1 : List Int)
noncomputable def ZzC : Zcf → List (Nat × Value)
 | .h1m0 => [(0, ms RB L0), (1, ms eI L1), (2, vn), (6, vp 0 0), (9, vi (-1 : Int))]
noncomputable abbrev κb := (AObj.cells (Za3 RA 8 [vn] ([(⟨0, 0⟩ : RG), (⟨0, 0⟩ : RG), (⟨0, 0⟩ : RG), (⟨0, 0⟩ : RG), (⟨0, 0⟩ : RG), (⟨0, 0⟩ : RG), (⟨0, 0⟩ : RG), (⟨0, 0⟩ : RG)] : List RG) [vq, vn, vq, vq]) 153)
noncomputable def ZzD (L0 : List RI) (L1 : List Int) : Zcf → List (Option AObj)
 | .h1m0 => [some κb]

noncomputable def ZzE : Nat → Code × List ZL
 | 1 => Z5 [1, 0, 1, 3] (ZM Tryz.f138) []
 | _ => (.skip, [])

noncomputable def Zis (N : Nat) : Mach := ⟨Tryz.f138, [], Zcf, Zce, ZhX L0 L1 N, ZwU, ZzE, ilT, ZzC L0 L1, ZzD L0 L1, ZkS, ZjM⟩

theorem ZqM (N : Nat) : (Zis L0 L1 N).Ok Tryz.prog Ze (.h1m0 : Zcf) (Zhy L0 L1 N) := by unfold Zhy;exact Mach.okF0 [] Zg bE

theorem Zvh (N : Nat) : (Zis L0 L1 N).Enter Tryz.prog Ze #[ms RB L0, ms eI L1, vn] (Zj7 L0 L1 N) := by unfold Zj7;exact Mach.enH0 [0] Zg (bM κb <| bE)

theorem Zsh (N : Nat) (r : Zce) (h : ZlB L0 L1 N = some r) : LSpec Tryz.prog 138 #[ms RB L0, ms eI L1, vn] [] (ZkS r) (ZjM r) :=
 Mach.specT Zv (Zis L0 L1 N) Tryz.func138 (fun x => (show (Zis L0 L1 N).Ok Tryz.prog Ze x (ZhX L0 L1 N x) from by
  cases x with
  | h1m0 => exact ZqM L0 L1 N
  )) (Zvh L0 L1 N) h

end
theorem ZwV {L0 : List RI} {L1 : List Int} {N : Nat} {r : Zce} (h : ZlB L0 L1 N = some r) : LSpec Tryz.prog 138 #[ms RB L0, ms eI L1, vn] [] (ZkS r) (ZjM r) := Zsh L0 L1 N r h

noncomputable def Zm6 : ZbH → Value
 | .r0 => Value.tuple κV
noncomputable abbrev κbe (L2 : List R_iiDiiiiiiiiiiiiiiiiiAii) := (Za ZaS L2)
noncomputable def Zlz (L0 : List RI) (L1 : List Int) (L2 : List R_iiDiiiiiiiiiiiiiiiiiAii) : ZbH → List (Option AObj)
 | .r0 => [some (.cells (κbe L2) 218)]

def ZtC : Zap → Nat
 | .h1m0 v3 => 1
section
variable (L0 : List RI) (L1 : List Int) (L2 : List R_iiDiiiiiiiiiiiiiiiiiAii)
noncomputable def Zvi : Zap → List (Nat × Value)
 | .h1m0 v3 => [(0, ms RB L0), (1, ms eI L1), (2, vs 0 0 L2.length L2.length), (6, vp 1 0), (9, vi v3)]
noncomputable def Zvj (L0 : List RI) (L1 : List Int) (L2 : List R_iiDiiiiiiiiiiiiiiiiiAii) : Zap → List (Option AObj)
 | .h1m0 v3 => [some (.cells (κbe L2) 218), some κb]

noncomputable def Zvk : Nat → Code × List ZL
 | 1 => Z5 [1, 0, 1, 3] (ZM Tryz.f138) []
 | _ => (.skip, [])

noncomputable def ZgF (N : Nat) : Mach := ⟨Tryz.f138, [.cells (κbe L2) 218], Zap, ZbH, ZgO L0 L1 L2 N, ZtC, Zvk, ilT, Zvi L0 L1 L2, Zvj L0 L1 L2, Zm6, Zlz L0 L1 L2⟩

theorem Zor (v3 : Int) (N : Nat) : (ZgF L0 L1 L2 N).Ok Tryz.prog Ze (.h1m0 v3 : Zap) (Zd4 L0 L1 L2 N v3) := by
 unfold Zd4;refine ok_ite (fun g0 => ?_) fun g0 => ?_
 ·
  refine oi fun g1 => ?_;have w2 := lkL ZaS L2 ((v3).toNat) 0 1 <| kB (v3).toNat L2.length <| xkI v3 ((v3).toNat) <| bkY (v3 ≥ 0) Zg
  refine oi fun g2 => ?_;refine oi fun g3 => ?_;have w4 := lkL ZaS L2 ((v3).toNat) 1 1 <| kB (v3).toNat L2.length <| xkI v3 ((v3).toNat) <| lkG eI L1 (0 + (((L2.getD (v3).toNat R_iiDiiiiiiiiiiiiiiiiiAii.z).a0).toNat * 1)) (((L2.getD (v3).toNat R_iiDiiiiiiiiiiiiiiiiiAii.z).a0).toNat) 0 1 1 <| kB ((L2.getD (v3).toNat R_iiDiiiiiiiiiiiiiiiiiAii.z).a0).toNat L1.length <| xkI ((L2.getD (v3).toNat R_iiDiiiiiiiiiiiiiiiiiAii.z).a0) (((L2.getD (v3).toNat R_iiDiiiiiiiiiiiiiiiiiAii.z).a0).toNat) w2
  refine ok_ite (fun g4 => ?_) fun g4 => ?_
  · refine oi fun g5 => ?_;refine oi fun g6 => ?_;refine ok_ite (fun _ => ok_none) (fun g7 => ?_);exact Mach.okN0 [0, 1] (bhF g7 <| lkG RB L0 ((0 + (((L1.getD ((L2.getD (v3).toNat R_iiDiiiiiiiiiiiiiiiiiAii.z).a0).toNat 0)).toNat * 4)) + 0) (((L1.getD ((L2.getD (v3).toNat R_iiDiiiiiiiiiiiiiiiiiAii.z).a0).toNat 0)).toNat) 0 1 4 <| kB ((L1.getD ((L2.getD (v3).toNat R_iiDiiiiiiiiiiiiiiiiiAii.z).a0).toNat 0)).toNat L0.length <| xkI (L1.getD ((L2.getD (v3).toNat R_iiDiiiiiiiiiiiiiiiiiAii.z).a0).toNat 0) (((L1.getD ((L2.getD (v3).toNat R_iiDiiiiiiiiiiiiiiiiiAii.z).a0).toNat 0)).toNat) <| bhT g4 w4) (bR <| bM κb <| bE)
  exact Mach.okN0 [0, 1] (bhF g4 w4) (bR <| bM κb <| bE)
 exact Mach.okF0 [0] (bkN (v3 ≥ 0) Zg) (bR <| bE)

theorem Zsi (N : Nat) : (ZgF L0 L1 L2 N).Enter Tryz.prog Ze #[ms RB L0, ms eI L1, vs 0 0 L2.length L2.length] (ZhY L0 L1 L2 N) := by unfold ZhY;refine en_ite (fun g0 => ?_) (fun _ => en_none);exact Mach.enH0 [0, 1] (vkW ((L2.length : Int) - 1) ((L2.length : Int) - 1) Zg) (bR <| bM κb <| bE)

theorem Zp7 (N : Nat) (r : ZbH) (h : Zex L0 L1 L2 N = some r) : LSpec Tryz.prog 138 #[ms RB L0, ms eI L1, vs 0 0 L2.length L2.length] [.cells (κbe L2) 218] (Zm6 r) (Zlz L0 L1 L2 r) :=
 Mach.specT Zv (ZgF L0 L1 L2 N) Tryz.func138 (fun x => (show (ZgF L0 L1 L2 N).Ok Tryz.prog Ze x (ZgO L0 L1 L2 N x) from by
  cases x with
  | h1m0 v3 => exact Zor L0 L1 L2 v3 N
  )) (Zsi L0 L1 L2 N) h

end
noncomputable def ZtD {L0 : List RI} {L1 : List Int} {L2 : List R_iiDiiiiiiiiiiiiiiiiiAii} {N : Nat} (h : Zex L0 L1 L2 N = some (.r0)) (ks : List Nat) (n : Nat) : ToldS := ⟨#[ms RB L0, ms eI L1, vs (nth ks 0) 0 L2.length L2.length], [((nth ks 0), .cells (κbe L2) 218)], Value.tuple κV, [], 0⟩

theorem ZtE {L0 : List RI} {L1 : List Int} {L2 : List R_iiDiiiiiiiiiiiiiiiiiAii} {N : Nat} (h : Zex L0 L1 L2 N = some (.r0)) (ks : List Nat) (n : Nat) (hk : ks.length = 1 := by rfl) (hnd : ks.Nodup := by decide +kernel) (hlt : ∀ k ∈ ks, k < n := by decide +kernel) : (ZtD (N := N)  h ks n).P Tryz.prog 138 n :=
 match ks, hk, hnd, hlt with
 | [k0], _, hnd, hlt => Zcj (show LSpec Tryz.prog 138 #[ms RB L0, ms eI L1, vs 0 0 L2.length L2.length] [.cells (κbe L2) 218] (Value.tuple κV) [some (.cells (κbe L2) 218)] from Zp7 L0 L1 L2 N _ h) _ n [] hnd hlt

open Mach (oi ok_ite ok_none ok_bind okN en_none en_bind)
noncomputable def Zp8 (L0 : List RI) (a1 : Int) (L2 : List RJ) (L3 : List RG) (a4 : Int) (L5 : List RG) (a6 a7 : Int) (L8 : List RG) (a9 : Int) : ZH → Value
 | .r0 w1 w2 w3 w5 w6 w8 w9 => Value.tuple #[Value.agg (List.toArray ([ms RC w1] ++ (rv8 w2 ++ [vi w3, ms RA L5, vi w5, vi w6]))), vq, Value.bool w8, vi w9]
noncomputable abbrev κbD (L8 : List RG) := (AObj.cells (Za RA L8) 44 true)
noncomputable def Zob (L0 : List RI) (a1 : Int) (L2 : List RJ) (L3 : List RG) (a4 : Int) (L5 : List RG) (a6 a7 : Int) (L8 : List RG) (a9 : Int) : ZH → List (Option AObj)
 | .r0 w1 w2 w3 w5 w6 w8 w9 => [some (κbD L8)]

def ZwW : ref20_blockX → Nat
 | .h1m0 v4 => 1
 | .h1m1 .. => 1
noncomputable def ZzF (L0 : List RI) (a1 : Int) (L2 : List RJ) (L3 : List RG) (a4 : Int) (L5 : List RG) (a6 a7 : Int) (L8 : List RG) (a9 : Int) : ref20_blockX → List (Nat × Value)
 | .h1m0 v4 => [(0, ms RB L0), (1, vi a1), (3, vs 0 0 L8.length L8.length), (4, vi a9), (7, vp 1 0), (10, vp 2 0), (14, ms eI v4), (16, vn), (17, vq)]
 | .h1m1 v3 v4 v6 v7 v8 v9 v11 v12 => [(0, ms RB L0), (1, vi a1), (3, vs 0 0 L8.length L8.length), (4, vi v3), (7, vp 1 0), (10, vp 2 0), (14, ms eI v4), (16, vs 3 0 1 1), (17, vi (v6 : Int))]
noncomputable def ZzG (L0 : List RI) (a1 : Int) (L2 : List RJ) (L3 : List RG) (a4 : Int) (L5 : List RG) (a6 a7 : Int) (L8 : List RG) (a9 : Int) : ref20_blockX → List (Option AObj)
 | .h1m0 v4 => [some (κbD L8), some (.cells (Za3 RA 8 [ms RC L2] L3 [vi a4, ms RA L5, vi a6, vi a7]) 153), some κb]
 | .h1m1 v3 v4 v6 v7 v8 v9 v11 v12 => [some (κbD L8), some (.cells (Za3 RA 8 [ms RC v7] v8 [vi v9, ms RA L5, vi v11, vi v12]) 153), some κb, some (.cells (Za ZaS ([(ZjY L3 a4 0 L2 a4 L5 a6 a7 : R_iiDiiiiiiiiiiiiiiiiiAii)] : List R_iiDiiiiiiiiiiiiiiiiiAii)) 218)]

noncomputable def ZzH : Nat → Code × List ZL
 | 1 => Z5 [1, 1, 1, 0, 1, 3] (ZM Tryz.f125) []
 | _ => (.skip, [])

noncomputable abbrev κbE (L8 : List RG) := [AObj.cells (Za RA L8) 44 true]
section
variable (L0 : List RI) (a1 : Int) (L2 : List RJ) (L3 : List RG) (a4 : Int) (L5 : List RG) (a6 a7 : Int) (L8 : List RG)
noncomputable def Zgy (a9 : Int) (N : Nat) : Mach := ⟨Tryz.f125, (κbE L8), ref20_blockX, ZH, ZdG L0 a1 L2 L3 a4 L5 a6 a7 L8 a9 N, ZwW, ZzH, ilT, ZzF L0 a1 L2 L3 a4 L5 a6 a7 L8 a9, ZzG L0 a1 L2 L3 a4 L5 a6 a7 L8 a9, Zp8 L0 a1 L2 L3 a4 L5 a6 a7 L8 a9, Zob L0 a1 L2 L3 a4 L5 a6 a7 L8 a9⟩

theorem ZqN (a9 : Int) (v4 : List Int) (N : Nat) : (Zgy L0 a1 L2 L3 a4 L5 a6 a7 L8 a9 N).Ok Tryz.prog Ze (.h1m0 v4 : ref20_blockX) (Zeo L0 a1 L2 L3 a4 L5 a6 a7 L8 a9 N v4) := by
 unfold Zeo;refine oi fun g0 => ?_;refine oi fun g1 => ?_;have w2 := tL 1 (RB.cel (L0.getD a4.toNat RI.z)) <| kG RB L0 (0 + (a4.toNat * 4)) (a4.toNat) 0 4 4 <| kB a4.toNat L0.length <| xkI a4 (a4.toNat) Zg
 refine ok_ite (fun g2 => ?_) fun g2 => ?_
 ·
  refine ok_ite (fun _ => ok_none) (fun g3 => ?_);have w4 := bhT g2 <| bkF ((L0.getD a4.toNat RI.z).a0) 18 <| bkF ((L0.getD a4.toNat RI.z).a0) 17 <| bkF ((L0.getD a4.toNat RI.z).a0) 16 <| bkF ((L0.getD a4.toNat RI.z).a0) 15 <| bhN g3 <| tB 1 <| hT g2 w2
  refine ok_bind fun z4 c4 => ?_;cases z4 with
  | r0 y4_0 y4_1 y4_2 =>
   exact Mach.okF0 [0] (kKg 1 (Zc1 c4 [0] 4) w4) (bQ <| bE)
  | r1 y4_0 y4_1 =>
   exact Mach.okF0 [0] (kKg 1 (Zc2 c4 [0] 4) w4) (bQ <| bE)
 have w3 := tB 1 <| hF g2 w2
 refine ok_ite (fun g3 => ?_) fun g3 => ?_
 ·
  refine ok_ite (fun _ => ok_none) (fun g4 => ?_);have w5 := bhT g3 <| bhF g2 <| bkF ((L0.getD a4.toNat RI.z).a0) 18 <| bkF ((L0.getD a4.toNat RI.z).a0) 17 <| bkF ((L0.getD a4.toNat RI.z).a0) 16 <| bkF ((L0.getD a4.toNat RI.z).a0) 15 <| bhN g4 <| bhT g3 w3
  refine ok_bind fun z5 c5 => ?_;cases z5 with
  | r0 y5_0 y5_1 y5_2 =>
   exact Mach.okF0 [0] (kKg 1 (Zc1 c5 [0] 4) w5) (bQ <| bE)
  | r1 y5_0 y5_1 =>
   exact Mach.okF0 [0] (kKg 1 (Zc2 c5 [0] 4) w5) (bQ <| bE)
 refine ok_ite (fun g4 => ?_) fun g4 => ?_
 ·
  refine ok_ite (fun _ => ok_none) (fun g5 => ?_);have w6 := bhT g4 <| bhF g3 <| bhF g2 <| bkF ((L0.getD a4.toNat RI.z).a0) 18 <| bkF ((L0.getD a4.toNat RI.z).a0) 17 <| bkF ((L0.getD a4.toNat RI.z).a0) 16 <| bkF ((L0.getD a4.toNat RI.z).a0) 15 <| bhN g5 <| bhT g4 <| bhF g3 w3
  refine ok_bind fun z6 c6 => ?_;cases z6 with
  | r0 y6_0 y6_1 y6_2 =>
   exact Mach.okF0 [0] (kKg 1 (Zc1 c6 [0] 4) w6) (bQ <| bE)
  | r1 y6_0 y6_1 =>
   exact Mach.okF0 [0] (kKg 1 (Zc2 c6 [0] 4) w6) (bQ <| bE)
 have w5 := bhF g4 <| bhF g3 w3
 refine ok_ite (fun g5 => ?_) fun g5 => ?_
 ·
  refine ok_ite (fun _ => ok_none) (fun g6 => ?_);have w7 := bhT g5 <| bhF g4 <| bhF g3 <| bhF g2 <| bkF ((L0.getD a4.toNat RI.z).a0) 18 <| bkF ((L0.getD a4.toNat RI.z).a0) 17 <| bkF ((L0.getD a4.toNat RI.z).a0) 16 <| bkF ((L0.getD a4.toNat RI.z).a0) 15 <| bhN g6 <| bhT g5 w5
  refine ok_bind fun z7 c7 => ?_;cases z7 with
  | r0 y7_0 y7_1 y7_2 =>
   exact Mach.okF0 [0] (kKg 1 (Zc1 c7 [0] 4) w7) (bQ <| bE)
  | r1 y7_0 y7_1 =>
   exact Mach.okF0 [0] (kKg 1 (Zc2 c7 [0] 4) w7) (bQ <| bE)
 refine ok_ite (fun g6 => ?_) fun g6 => ?_
 ·
  refine ok_ite (fun _ => ok_none) (fun g7 => ?_);refine ok_bind fun z8 c8 => ?_;cases z8 with
  | r0 y8_0 y8_1 =>
   exact Mach.okF0 [0] (kKg 1 (tQ (Zhk c8) 4) <| bhF g5 <| bhF g4 <| bhF g3 <| bhF g2 <| bkF ((L0.getD a4.toNat RI.z).a0) 18 <| bkF ((L0.getD a4.toNat RI.z).a0) 17 <| bkF ((L0.getD a4.toNat RI.z).a0) 16 <| bkF ((L0.getD a4.toNat RI.z).a0) 15 <| bhN g7 <| bhT g6 <| bhF g5 w5) (bQ <| bE)
 refine ok_ite (fun g7 => ?_) fun g7 => ?_
 · refine ok_ite (fun _ => ok_none) (fun g8 => ?_);exact okN [0, 1, 2, 6] [some (ms RB L0), some (vi a1), some (vs 0 0 L8.length L8.length), some (vi (i64.wrap (a9 - 2000))), some (vp 1 0), some (vp 2 0), some (ms eI v4), some (vs 6 0 1 1), some (vi 1)] (bhT g7 <| bhN g8 <| bhT g7 <| bhF g6 <| bhF g5 w5) (tC (tC (tC (tC (tC (tC (tC (tC (tC (tE) ⟨Eq.trans (show κK = vi 1 from ci) (by rfl), by rfl⟩))))))))) (bQ <| bM (.cells (Za3 RA 8 [ms RC L2] L3 [vi (i64.wrap (a4 + 1)), ms RA L5, vi a6, vi a7]) 153) <| bM κb <| bC (o := .cells [vi a4, vq, ms RC L2, vi (L3.getD 0 RG.z).a0, vi (L3.getD 0 RG.z).a1, vi (L3.getD 1 RG.z).a0, vi (L3.getD 1 RG.z).a1, vi (L3.getD 2 RG.z).a0, vi (L3.getD 2 RG.z).a1, vi (L3.getD 3 RG.z).a0, vi (L3.getD 3 RG.z).a1, vi (L3.getD 4 RG.z).a0, vi (L3.getD 4 RG.z).a1, vi (L3.getD 5 RG.z).a0, vi (L3.getD 5 RG.z).a1, vi (L3.getD 6 RG.z).a0, vi (L3.getD 6 RG.z).a1, vi (L3.getD 7 RG.z).a0, vi (L3.getD 7 RG.z).a1, vi a4, ms RA L5, vi a6, vi a7] 218) (Zz (E := ZaS) _ (L := ([(ZjY L3 a4 0 L2 a4 L5 a6 a7 : R_iiDiiiiiiiiiiiiiiiiiAii)] : List R_iiDiiiiiiiiiiiiiiiiiAii)) _ (show ([vi a4, vq, ms RC L2, vi (L3.getD 0 RG.z).a0, vi (L3.getD 0 RG.z).a1, vi (L3.getD 1 RG.z).a0, vi (L3.getD 1 RG.z).a1, vi (L3.getD 2 RG.z).a0, vi (L3.getD 2 RG.z).a1, vi (L3.getD 3 RG.z).a0, vi (L3.getD 3 RG.z).a1, vi (L3.getD 4 RG.z).a0, vi (L3.getD 4 RG.z).a1, vi (L3.getD 5 RG.z).a0, vi (L3.getD 5 RG.z).a1, vi (L3.getD 6 RG.z).a0, vi (L3.getD 6 RG.z).a1, vi (L3.getD 7 RG.z).a0, vi (L3.getD 7 RG.z).a1, vi a4, ms RA L5, vi a6, vi a7] : List Value) = Za ZaS ([(ZjY L3 a4 0 L2 a4 L5 a6 a7 : R_iiDiiiiiiiiiiiiiiiiiAii)] : List R_iiDiiiiiiiiiiiiiiiiiAii) from rfl)) <| bE)
 refine ok_ite (fun _ => ok_none) (fun g8 => ?_);have w9 := bhF g7 <| bhN g8 <| bhF g7 <| bhF g6 <| bhF g5 w5
 refine ok_ite (fun _ => ok_none) (fun g9 => ?_);refine ok_ite (fun _ => ok_none) (fun g10 => ?_);refine ok_ite (fun g11 => ?_) fun g11 => ?_
 ·
  refine ok_bind fun z12 c12 => ?_;cases z12 with
  | r0 =>
   exact Mach.okF0 [0] (kKg 1 (tQ (ZwV c12) 4) <| bhT g11 <| bhF g10 <| bhF g9 w9) (bQ <| bE)
 refine ok_bind fun z12 c12 => ?_;cases z12 with
 | r0 y12_0 y12_1 =>
  exact Mach.okF0 [0] (kKg 1 (tQ (Zhk c12) 4) <| bhF g5 <| bhF g4 <| bhF g3 <| bhF g2 <| bhF g11 <| bhF g10 <| bhF g9 w9) (bQ <| bE)

theorem ZqO (a9 v3 : Int) (v4 : List Int) (v6 : Nat) (v7 : List RJ) (v8 : List RG) (v9 v11 v12 : Int) (N : Nat) : (Zgy L0 a1 L2 L3 a4 L5 a6 a7 L8 a9 N).Ok Tryz.prog Ze (.h1m1 v3 v4 v6 v7 v8 v9 v11 v12 : ref20_blockX) (Za7 L0 a1 L2 L3 a4 L5 a6 a7 L8 a9 N v3 v4 v6 v7 v8 v9 v11 v12) := by
 unfold Za7;refine oi fun g0 => ?_;refine oi fun g1 => ?_;refine oi fun g2 => ?_;have w3 := tL 1 (RB.cel (L0.getD (v9).toNat RI.z)) <| kG RB L0 (0 + ((v9).toNat * 4)) ((v9).toNat) 0 4 4 <| kB (v9).toNat L0.length <| xkI v9 ((v9).toNat) <| bhY g0 Zg
 refine ok_ite (fun g3 => ?_) fun g3 => ?_
 ·
  refine ok_ite (fun _ => ok_none) (fun g4 => ?_);have w5 := bhT g3 <| bkF ((L0.getD (v9).toNat RI.z).a0) 18 <| bkF ((L0.getD (v9).toNat RI.z).a0) 17 <| bkF ((L0.getD (v9).toNat RI.z).a0) 16 <| bkF ((L0.getD (v9).toNat RI.z).a0) 15 <| bhN g4 <| bhT g3 w3
  refine ok_bind fun z5 c5 => ?_;cases z5 with
  | r0 y5_0 y5_1 y5_2 =>
   exact Mach.okN0 [0, 1, 2, 3] (tV 1 <| kW ((v6 : Int) + 1) (((v6 + 1) : Nat) : Int) <| kKg 1 (Zc1 c5 [0] 5) w5) (bQ <| bM (.cells (Za3 RA 8 [ms RC y5_0] y5_1 [vi (i64.wrap (v9 + 1)), ms RA L5, vi (i64.wrap (v11 + 1)), vi y5_2]) 153) <| bM κb <| bR <| bE)
  | r1 y5_0 y5_1 =>
   exact Mach.okN0 [0, 1, 2, 3] (tV 1 <| kW ((v6 : Int) + 1) (((v6 + 1) : Nat) : Int) <| kKg 1 (Zc2 c5 [0] 5) w5) (bQ <| bM (.cells (Za3 RA 8 [ms RC y5_0] y5_1 [vi (i64.wrap (v9 + 1)), ms RA L5, vi v11, vi v12]) 153) <| bM κb <| bR <| bE)
 refine ok_ite (fun g4 => ?_) fun g4 => ?_
 ·
  refine ok_ite (fun _ => ok_none) (fun g5 => ?_);have w6 := bhT g4 <| bhF g3 <| bkF ((L0.getD (v9).toNat RI.z).a0) 18 <| bkF ((L0.getD (v9).toNat RI.z).a0) 17 <| bkF ((L0.getD (v9).toNat RI.z).a0) 16 <| bkF ((L0.getD (v9).toNat RI.z).a0) 15 <| bhN g5 <| bhT g4 <| bhF g3 w3
  refine ok_bind fun z6 c6 => ?_;cases z6 with
  | r0 y6_0 y6_1 y6_2 =>
   exact Mach.okN0 [0, 1, 2, 3] (tV 1 <| kW ((v6 : Int) + 1) (((v6 + 1) : Nat) : Int) <| kKg 1 (Zc1 c6 [0] 5) w6) (bQ <| bM (.cells (Za3 RA 8 [ms RC y6_0] y6_1 [vi (i64.wrap (v9 + 1)), ms RA L5, vi (i64.wrap (v11 + 1)), vi y6_2]) 153) <| bM κb <| bR <| bE)
  | r1 y6_0 y6_1 =>
   exact Mach.okN0 [0, 1, 2, 3] (tV 1 <| kW ((v6 : Int) + 1) (((v6 + 1) : Nat) : Int) <| kKg 1 (Zc2 c6 [0] 5) w6) (bQ <| bM (.cells (Za3 RA 8 [ms RC y6_0] y6_1 [vi (i64.wrap (v9 + 1)), ms RA L5, vi v11, vi v12]) 153) <| bM κb <| bR <| bE)
 have w5 := bhF g4 <| bhF g3 w3
 refine ok_ite (fun g5 => ?_) fun g5 => ?_
 ·
  refine ok_ite (fun _ => ok_none) (fun g6 => ?_);have w7 := bhT g5 <| bhF g4 <| bhF g3 <| bkF ((L0.getD (v9).toNat RI.z).a0) 18 <| bkF ((L0.getD (v9).toNat RI.z).a0) 17 <| bkF ((L0.getD (v9).toNat RI.z).a0) 16 <| bkF ((L0.getD (v9).toNat RI.z).a0) 15 <| bhN g6 <| bhT g5 w5
  refine ok_bind fun z7 c7 => ?_;cases z7 with
  | r0 y7_0 y7_1 y7_2 =>
   exact Mach.okN0 [0, 1, 2, 3] (tV 1 <| kW ((v6 : Int) + 1) (((v6 + 1) : Nat) : Int) <| kKg 1 (Zc1 c7 [0] 5) w7) (bQ <| bM (.cells (Za3 RA 8 [ms RC y7_0] y7_1 [vi (i64.wrap (v9 + 1)), ms RA L5, vi (i64.wrap (v11 + 1)), vi y7_2]) 153) <| bM κb <| bR <| bE)
  | r1 y7_0 y7_1 =>
   exact Mach.okN0 [0, 1, 2, 3] (tV 1 <| kW ((v6 : Int) + 1) (((v6 + 1) : Nat) : Int) <| kKg 1 (Zc2 c7 [0] 5) w7) (bQ <| bM (.cells (Za3 RA 8 [ms RC y7_0] y7_1 [vi (i64.wrap (v9 + 1)), ms RA L5, vi v11, vi v12]) 153) <| bM κb <| bR <| bE)
 refine ok_ite (fun g6 => ?_) fun g6 => ?_
 ·
  refine ok_ite (fun _ => ok_none) (fun g7 => ?_);have w8 := bhT g6 <| bhF g5 <| bhF g4 <| bhF g3 <| bkF ((L0.getD (v9).toNat RI.z).a0) 18 <| bkF ((L0.getD (v9).toNat RI.z).a0) 17 <| bkF ((L0.getD (v9).toNat RI.z).a0) 16 <| bkF ((L0.getD (v9).toNat RI.z).a0) 15 <| bhN g7 <| bhT g6 <| bhF g5 w5
  refine ok_bind fun z8 c8 => ?_;cases z8 with
  | r0 y8_0 y8_1 y8_2 =>
   exact Mach.okN0 [0, 1, 2, 3] (tV 1 <| kW ((v6 : Int) + 1) (((v6 + 1) : Nat) : Int) <| kKg 1 (Zc1 c8 [0] 5) w8) (bQ <| bM (.cells (Za3 RA 8 [ms RC y8_0] y8_1 [vi (i64.wrap (v9 + 1)), ms RA L5, vi (i64.wrap (v11 + 1)), vi y8_2]) 153) <| bM κb <| bR <| bE)
  | r1 y8_0 y8_1 =>
   exact Mach.okN0 [0, 1, 2, 3] (tV 1 <| kW ((v6 : Int) + 1) (((v6 + 1) : Nat) : Int) <| kKg 1 (Zc2 c8 [0] 5) w8) (bQ <| bM (.cells (Za3 RA 8 [ms RC y8_0] y8_1 [vi (i64.wrap (v9 + 1)), ms RA L5, vi v11, vi v12]) 153) <| bM κb <| bR <| bE)
 refine ok_ite (fun g7 => ?_) fun g7 => ?_
 ·
  refine ok_ite (fun _ => ok_none) (fun g8 => ?_);refine ok_bind fun z9 c9 => ?_;cases z9 with
  | r0 y9_0 y9_1 =>
   exact Mach.okN0 [0, 1, 2, 3] (tV 1 <| kW ((v6 : Int) + 1) (((v6 + 1) : Nat) : Int) <| kKg 1 (tQ (Zhk c9) 5) <| bhF g6 <| bhF g5 <| bhF g4 <| bhF g3 <| bkF ((L0.getD (v9).toNat RI.z).a0) 18 <| bkF ((L0.getD (v9).toNat RI.z).a0) 17 <| bkF ((L0.getD (v9).toNat RI.z).a0) 16 <| bkF ((L0.getD (v9).toNat RI.z).a0) 15 <| bhN g8 <| bhT g7 <| bhF g6 <| bhF g5 w5) (bQ <| bM (.cells (Za3 RA 8 [ms RC v7] y9_0 [vi y9_1, ms RA L5, vi v11, vi v12]) 153) <| bM κb <| bR <| bE)
 have w8 := bhF g7 <| bhF g6 <| bhF g5 w5
 refine ok_ite (fun _ => ok_none) (fun g8 => ?_);refine ok_ite (fun _ => ok_none) (fun g9 => ?_);have w10 := bhF g8 <| bhN g9 <| bhF g8 w8
 refine ok_ite (fun _ => ok_none) (fun g10 => ?_);refine ok_ite (fun g11 => ?_) fun g11 => ?_
 · exact Mach.okF0 [0] (bhT g11 <| bhF g10 w10) (bQ <| bE)
 refine ok_ite (fun g12 => ?_) fun g12 => ?_
 ·
  refine ok_bind fun z13 c13 => ?_;cases z13 with
  | r0 =>
   exact Mach.okF0 [0] (kKg 1 (ZtE c13 [3] 5) <| bhT g12 <| bhF g11 <| bhF g10 w10) (bQ <| bE)
 refine ok_bind fun z13 c13 => ?_;cases z13 with
 | r0 y13_0 y13_1 =>
  exact Mach.okN0 [0, 1, 2, 3] (tV 1 <| kW ((v6 : Int) + 1) (((v6 + 1) : Nat) : Int) <| kKg 1 (tQ (Zhk c13) 5) <| bhF g6 <| bhF g5 <| bhF g4 <| bhF g3 <| bhF g12 <| bhF g11 <| bhF g10 w10) (bQ <| bM (.cells (Za3 RA 8 [ms RC v7] y13_0 [vi y13_1, ms RA L5, vi v11, vi v12]) 153) <| bM κb <| bR <| bE)

noncomputable abbrev κC (L2 : List RJ) (L3 : List RG) (a4 : Int) (L5 : List RG) (a6 a7 : Int) := ([ms RC L2] ++ (rv8 L3 ++ [vi a4, ms RA L5, vi a6, vi a7]))
theorem Zvl (a9 : Int) (N : Nat) : (Zgy L0 a1 L2 L3 a4 L5 a6 a7 L8 a9 N).Enter Tryz.prog Ze #[ms RB L0, vi a1, Value.agg (List.toArray (κC L2 L3 a4 L5 a6 a7)), vs 0 0 L8.length L8.length, vi a9] (Zhg L0 a1 L2 L3 a4 L5 a6 a7 L8 a9 N) := by
 unfold Zhg;refine en_bind (fun z0 c0 => ?_);cases z0 with
 | r0 =>
  exact en_none
 | r1 y0_0 =>
  exact Mach.enH0 [0, 1, 2] (kKg 1 (tQ (ZwH c0) 3) Zg) (bQ <| bM (.cells (Za3 RA 8 [ms RC L2] L3 [vi a4, ms RA L5, vi a6, vi a7]) 153) <| bM κb <| bE)

theorem Zsj (a9 : Int) (N : Nat) (r : ZH) (h : ZfL L0 a1 L2 L3 a4 L5 a6 a7 L8 a9 N = some r) : LSpec Tryz.prog 125 #[ms RB L0, vi a1, Value.agg (List.toArray (κC L2 L3 a4 L5 a6 a7)), vs 0 0 L8.length L8.length, vi a9] (κbE L8) (Zp8 L0 a1 L2 L3 a4 L5 a6 a7 L8 a9 r) (Zob L0 a1 L2 L3 a4 L5 a6 a7 L8 a9 r) :=
 Mach.specT Zv (Zgy L0 a1 L2 L3 a4 L5 a6 a7 L8 a9 N) Tryz.func125 (fun x => (show (Zgy L0 a1 L2 L3 a4 L5 a6 a7 L8 a9 N).Ok Tryz.prog Ze x (ZdG L0 a1 L2 L3 a4 L5 a6 a7 L8 a9 N x) from by
  cases x with
  | h1m0 v4 => exact ZqN L0 a1 L2 L3 a4 L5 a6 a7 L8 a9 v4 N
  | h1m1 v3 v4 v6 v7 v8 v9 v11 v12 => exact ZqO L0 a1 L2 L3 a4 L5 a6 a7 L8 a9 v3 v4 v6 v7 v8 v9 v11 v12 N
  )) (Zvl L0 a1 L2 L3 a4 L5 a6 a7 L8 a9 N) h

noncomputable def ZwX {L0 : List RI} {a1 : Int} {L2 : List RJ} {L3 : List RG} {a4 : Int} {L5 : List RG} {a6 a7 : Int} {L8 : List RG} {a9 : Int} {w1 : List RJ} {w2 : List RG} {w3 w5 w6 : Int} {w8 : Bool} {w9 : Int} {N : Nat} (h : ZfL L0 a1 L2 L3 a4 L5 a6 a7 L8 a9 N = some (.r0 w1 w2 w3 w5 w6 w8 w9)) (ks : List Nat) (n : Nat) : ToldS := ⟨#[ms RB L0, vi a1, Value.agg (List.toArray (κC L2 L3 a4 L5 a6 a7)), vs (nth ks 0) 0 L8.length L8.length, vi a9], [((nth ks 0), .cells (Za RA L8) 44 true)], Value.tuple #[Value.agg (List.toArray ([ms RC w1] ++ (rv8 w2 ++ [vi w3, ms RA L5, vi w5, vi w6]))), vq, Value.bool w8, vi w9], [], 0⟩

theorem ZwY {L0 : List RI} {a1 : Int} {L2 : List RJ} {L3 : List RG} {a4 : Int} {L5 : List RG} {a6 a7 : Int} {L8 : List RG} {a9 : Int} {w1 : List RJ} {w2 : List RG} {w3 w5 w6 : Int} {w8 : Bool} {w9 : Int} {N : Nat} (h : ZfL L0 a1 L2 L3 a4 L5 a6 a7 L8 a9 N = some (.r0 w1 w2 w3 w5 w6 w8 w9)) (ks : List Nat) (n : Nat) (hk : ks.length = 1 := by rfl) (hnd : ks.Nodup := by decide +kernel) (hlt : ∀ k ∈ ks, k < n := by decide +kernel) : (ZwX (N := N)  h ks n).P Tryz.prog 125 n :=
 match ks, hk, hnd, hlt with
 | [k0], _, hnd, hlt => Zcj (show LSpec Tryz.prog 125 #[ms RB L0, vi a1, Value.agg (List.toArray (κC L2 L3 a4 L5 a6 a7)), vs 0 0 L8.length L8.length, vi a9] (κbE L8) (Value.tuple #[Value.agg (List.toArray ([ms RC w1] ++ (rv8 w2 ++ [vi w3, ms RA L5, vi w5, vi w6]))), vq, Value.bool w8, vi w9]) [some (κbD L8)] from Zsj L0 a1 L2 L3 a4 L5 a6 a7 L8 a9 N _ h) _ n [] hnd hlt

noncomputable def Zp9 (L0 : List RI) (a1 : Int) (L2 : List RJ) (L3 : List RG) (a4 : Int) (L5 : List RG) (a6 a7 : Int) (L8 : List RG) : Zgp → Value
 | .r0 w1 w2 w3 w5 w6 w8 => Value.tuple #[Value.agg (List.toArray ([ms RC w1] ++ (rv8 w2 ++ [vi w3, ms RA L5, vi w5, vi w6]))), vq, Value.bool w8]
noncomputable def Zoc (L0 : List RI) (a1 : Int) (L2 : List RJ) (L3 : List RG) (a4 : Int) (L5 : List RG) (a6 a7 : Int) (L8 : List RG) : Zgp → List (Option AObj)
 | .r0 w1 w2 w3 w5 w6 w8 => [some (κbD L8)]

theorem Zvm (N : Nat) : Fx Tryz.prog Ze Tryz.f103 (κbE L8) #[ms RB L0, vi a1, Value.agg (List.toArray (κC L2 L3 a4 L5 a6 a7)), vs 0 0 L8.length L8.length] (Zp9 L0 a1 L2 L3 a4 L5 a6 a7 L8) (Zoc L0 a1 L2 L3 a4 L5 a6 a7 L8) (ZaQ L0 a1 L2 L3 a4 L5 a6 a7 L8 N) := by
 unfold ZaQ;refine Zx (fun z0 c0 => ?_);cases z0 with
 | r0 y0_0 y0_1 y0_2 y0_3 y0_4 y0_5 y0_6 =>
  exact Zr [0] (kKg 1 (ZwY c0 [0] 3) Zg) (bQ <| bE)

theorem Zsk (N : Nat) (r : Zgp) (h : ZaQ L0 a1 L2 L3 a4 L5 a6 a7 L8 N = some r) : LSpec Tryz.prog 103 #[ms RB L0, vi a1, Value.agg (List.toArray (κC L2 L3 a4 L5 a6 a7)), vs 0 0 L8.length L8.length] (κbE L8) (Zp9 L0 a1 L2 L3 a4 L5 a6 a7 L8 r) (Zoc L0 a1 L2 L3 a4 L5 a6 a7 L8 r) :=
 ZI Zv Tryz.func103 (by kernel_rfl) (by kernel_rfl) (fun r => by cases r <;> exact ZP _ rfl) (Zvm L0 a1 L2 L3 a4 L5 a6 a7 L8 N) h

end
noncomputable def ZwZ {L0 : List RI} {a1 : Int} {L2 : List RJ} {L3 : List RG} {a4 : Int} {L5 : List RG} {a6 a7 : Int} {L8 : List RG} {w1 : List RJ} {w2 : List RG} {w3 w5 w6 : Int} {w8 : Bool} {N : Nat} (h : ZaQ L0 a1 L2 L3 a4 L5 a6 a7 L8 N = some (.r0 w1 w2 w3 w5 w6 w8)) (ks : List Nat) (n : Nat) : ToldS := ⟨#[ms RB L0, vi a1, Value.agg (List.toArray (κC L2 L3 a4 L5 a6 a7)), vs (nth ks 0) 0 L8.length L8.length], [((nth ks 0), .cells (Za RA L8) 44 true)], Value.tuple #[Value.agg (List.toArray ([ms RC w1] ++ (rv8 w2 ++ [vi w3, ms RA L5, vi w5, vi w6]))), vq, Value.bool w8], [], 0⟩

theorem Zxa {L0 : List RI} {a1 : Int} {L2 : List RJ} {L3 : List RG} {a4 : Int} {L5 : List RG} {a6 a7 : Int} {L8 : List RG} {w1 : List RJ} {w2 : List RG} {w3 w5 w6 : Int} {w8 : Bool} {N : Nat} (h : ZaQ L0 a1 L2 L3 a4 L5 a6 a7 L8 N = some (.r0 w1 w2 w3 w5 w6 w8)) (ks : List Nat) (n : Nat) (hk : ks.length = 1 := by rfl) (hnd : ks.Nodup := by decide +kernel) (hlt : ∀ k ∈ ks, k < n := by decide +kernel) : (ZwZ (N := N)  h ks n).P Tryz.prog 103 n :=
 match ks, hk, hnd, hlt with
 | [k0], _, hnd, hlt => Zcj (show LSpec Tryz.prog 103 #[ms RB L0, vi a1, Value.agg (List.toArray (κC L2 L3 a4 L5 a6 a7)), vs 0 0 L8.length L8.length] (κbE L8) (Value.tuple #[Value.agg (List.toArray ([ms RC w1] ++ (rv8 w2 ++ [vi w3, ms RA L5, vi w5, vi w6]))), vq, Value.bool w8]) [some (κbD L8)] from Zsk L0 a1 L2 L3 a4 L5 a6 a7 L8 N _ h) _ n [] hnd hlt

noncomputable def Zrw (L0 : List (List RI)) (L1 : List RL) (L2 : List RJ) (a3 a4 a5 a6 : Int) (L7 L8 L9 : List RG) : ZgW → Value
 | .r0 w1 w2 w3 w5 w6 w8 => Value.tuple #[Value.agg (List.toArray ([ms RC w1] ++ (rv8 w2 ++ [vi w3, ms RA L8, vi w5, vi w6]))), vq, Value.bool w8]
noncomputable abbrev κbW (L9 : List RG) := [some (AObj.cells (Za RA L9) 44 true)]
noncomputable def ZpA (L0 : List (List RI)) (L1 : List RL) (L2 : List RJ) (a3 a4 a5 a6 : Int) (L7 L8 L9 : List RG) : ZgW → List (Option AObj)
 | .r0 w1 w2 w3 w5 w6 w8 => (κbW L9)

noncomputable abbrev κbF (L9 : List RG) := [AObj.cells (Za RA L9) 44 true]
section
variable (a4 a5 a6 : Int) (L7 L8 : List RG)
noncomputable abbrev κP := ([vi a4, vi a5, vi a6] ++ (rv8 L7 ++ [ms RA L8]))
end
section
variable (L0 : List (List RI)) (L1 : List RL) (L2 : List RJ) (a3 a4 a5 a6 : Int) (L7 L8 : List RG)
theorem Zxb (L9 : List RG) (N : Nat) : Fx Tryz.prog Ze Tryz.f76 (κbF L9) #[Value.agg (κd L0 L1 L2), vi a3, Value.agg (List.toArray (κP a4 a5 a6 L7 L8)), vs 0 0 L9.length L9.length] (Zrw L0 L1 L2 a3 a4 a5 a6 L7 L8 L9) (ZpA L0 L1 L2 a3 a4 a5 a6 L7 L8 L9) (ZeL L0 L1 L2 a3 a4 a5 a6 L7 L8 L9 N) := by
 unfold ZeL;refine Zb (fun g0 => ?_) (fun _ => Zd);refine Zb (fun g1 => ?_) (fun _ => Zd);refine Zb (fun g2 => ?_) (fun _ => Zd);refine Zb (fun g3 => ?_) (fun _ => Zd);refine Zb (fun g4 => ?_) (fun _ => Zd);refine Zx (fun z5 c5 => ?_);cases z5 with
 | r0 y5_0 y5_1 y5_2 y5_3 y5_4 y5_5 =>
  exact Zr [0] (kKg 4 (Zxa c5 [0] 6) <| tL 2 ([(mc RB (L0.getD a3.toNat []))]) <| kG (Zp RB) L0 (0 + (a3.toNat * 1)) (a3.toNat) 0 1 1 <| kB a3.toNat L0.length <| xkI a3 (a3.toNat) <| bhT g4 <| tL 1 (RB.cel ((L0.getD a3.toNat []).getD a6.toNat RI.z)) <| kG RB (L0.getD a3.toNat []) (0 + (a6.toNat * 4)) (a6.toNat) 0 4 4 <| kB a6.toNat (L0.getD a3.toNat []).length <| xkI a6 (a6.toNat) <| tL 5 ([(mc RB (L0.getD a3.toNat []))]) <| kG (Zp RB) L0 (0 + (a3.toNat * 1)) (a3.toNat) 0 1 1 <| kB a3.toNat L0.length <| xkI a3 (a3.toNat) Zg) (bQ <| bE)

theorem ZtF (L9 : List RG) (N : Nat) (r : ZgW) (h : ZeL L0 L1 L2 a3 a4 a5 a6 L7 L8 L9 N = some r) : LSpec Tryz.prog 76 #[Value.agg (κd L0 L1 L2), vi a3, Value.agg (List.toArray (κP a4 a5 a6 L7 L8)), vs 0 0 L9.length L9.length] (κbF L9) (Zrw L0 L1 L2 a3 a4 a5 a6 L7 L8 L9 r) (ZpA L0 L1 L2 a3 a4 a5 a6 L7 L8 L9 r) :=
 ZI Zv Tryz.func76 (by kernel_rfl) (by kernel_rfl) (fun r => by cases r <;> exact ZP _ rfl) (Zxb L0 L1 L2 a3 a4 a5 a6 L7 L8 L9 N) h

noncomputable def ZzI {L0 : List (List RI)} {L1 : List RL} {L2 : List RJ} {a3 a4 a5 a6 : Int} {L7 L8 L9 : List RG} {w1 : List RJ} {w2 : List RG} {w3 w5 w6 : Int} {w8 : Bool} {N : Nat} (h : ZeL L0 L1 L2 a3 a4 a5 a6 L7 L8 L9 N = some (.r0 w1 w2 w3 w5 w6 w8)) (ks : List Nat) (n : Nat) : ToldS := ⟨#[Value.agg (κd L0 L1 L2), vi a3, Value.agg (List.toArray (κP a4 a5 a6 L7 L8)), vs (nth ks 0) 0 L9.length L9.length], [((nth ks 0), .cells (Za RA L9) 44 true)], Value.tuple #[Value.agg (List.toArray ([ms RC w1] ++ (rv8 w2 ++ [vi w3, ms RA L8, vi w5, vi w6]))), vq, Value.bool w8], [], 0⟩

theorem ZzJ {L0 : List (List RI)} {L1 : List RL} {L2 : List RJ} {a3 a4 a5 a6 : Int} {L7 L8 L9 : List RG} {w1 : List RJ} {w2 : List RG} {w3 w5 w6 : Int} {w8 : Bool} {N : Nat} (h : ZeL L0 L1 L2 a3 a4 a5 a6 L7 L8 L9 N = some (.r0 w1 w2 w3 w5 w6 w8)) (ks : List Nat) (n : Nat) (hk : ks.length = 1 := by rfl) (hnd : ks.Nodup := by decide +kernel) (hlt : ∀ k ∈ ks, k < n := by decide +kernel) : (ZzI (N := N)  h ks n).P Tryz.prog 76 n :=
 match ks, hk, hnd, hlt with
 | [k0], _, hnd, hlt => Zcj (show LSpec Tryz.prog 76 #[Value.agg (κd L0 L1 L2), vi a3, Value.agg (List.toArray (κP a4 a5 a6 L7 L8)), vs 0 0 L9.length L9.length] (κbF L9) (Value.tuple #[Value.agg (List.toArray ([ms RC w1] ++ (rv8 w2 ++ [vi w3, ms RA L8, vi w5, vi w6]))), vq, Value.bool w8]) (κbW L9) from ZtF L0 L1 L2 a3 a4 a5 a6 L7 L8 L9 N _ h) _ n [] hnd hlt

noncomputable def ZpB (L0 : List (List RI)) (L1 : List RL) (L2 : List RJ) (a3 a4 a5 a6 : Int) (L7 L8 : List RG) : Zdx → Value
 | .r0 => Value.agg #[ms (Zp RB) L0, vs 0 0 L1.length L1.length, ms RC L2]
noncomputable def Zod (L0 : List (List RI)) (L1 : List RL) (L2 : List RJ) (a3 a4 a5 a6 : Int) (L7 L8 : List RG) : Zdx → List (Option AObj)
 | .r0 => [some (.cells (Za RE (L1.set a3.toNat (Zg6 L7 a4 a5 a6 L8 : RL))) 65)]

noncomputable def Zrx : Zdx → Value
 | .r0 => Value.agg #[ms (Zp RB) L0, ms RE (L1.set a3.toNat (Zg6 L7 a4 a5 a6 L8 : RL)), ms RC L2]
noncomputable def ZpC : Zdx → List (Option AObj)
 | .r0 => []

noncomputable abbrev κbx (L1 : List RL) := (Za RE L1)
theorem Zxc (N : Nat) : Fx Tryz.prog Ze Tryz.f49 [] #[Value.agg (κd L0 L1 L2), vi a3, Value.agg (List.toArray (κP a4 a5 a6 L7 L8))] (ZpB L0 L1 L2 a3 a4 a5 a6 L7 L8) (Zod L0 L1 L2 a3 a4 a5 a6 L7 L8) (ZcN L0 L1 L2 a3 a4 a5 a6 L7 L8 N) := by unfold ZcN;refine Zb (fun _ => Zd) (fun g0 => ?_);refine Zb (fun g1 => ?_) (fun _ => Zd);refine Zb (fun g2 => ?_) (fun _ => Zd);refine Zb (fun g3 => ?_) (fun _ => Zd);exact fxC [4] (Value.agg #[ms (Zp RB) L0, vs 4 0 (0 + L1.length) (0 + L1.length), ms RC L2]) (tW 0 (.st (Za RE (L1.set a3.toNat (Zg6 L7 a4 a5 a6 L8 : RL)))) <| kC (Zbj (E := RE) (L := L1) (i := a3.toNat) (q := 0) (l := [vi a4, vi a5, vi a6, vi (L7.getD 0 RG.z).a0, vi (L7.getD 0 RG.z).a1, vi (L7.getD 1 RG.z).a0, vi (L7.getD 1 RG.z).a1, vi (L7.getD 2 RG.z).a0, vi (L7.getD 2 RG.z).a1, vi (L7.getD 3 RG.z).a0, vi (L7.getD 3 RG.z).a1, vi (L7.getD 4 RG.z).a0, vi (L7.getD 4 RG.z).a1, vi (L7.getD 5 RG.z).a0, vi (L7.getD 5 RG.z).a1, vi (L7.getD 6 RG.z).a0, vi (L7.getD 6 RG.z).a1, vi (L7.getD 7 RG.z).a0, vi (L7.getD 7 RG.z).a1, ms RA L8]) (Zg6 L7 a4 a5 a6 L8 : RL) (by omega) (show (0 + (a3.toNat * 20)) = a3.toNat * 20 + 0 from by omega) (show 0 + 20 ≤ 20 from by decide) rfl) <| kB a3.toNat (0 + L1.length) <| xkI a3 (a3.toNat) <| tW 1 (.ap L1.length (κbx L1) (κbx L1)) <| kX (dP ((L1.length = L1.length ∧ ((L1.length * 20 = 0 ∧ (κbx L1) = []) ∨ ∃ c, L1.length * 20 ≠ 0 ∧ ZS (code (Z9 RE L1)) 0 (L1.length * 20) = some c ∧ (κbx L1) = Zm c)) ∧ 0 < L1.length ∧ L1.length ≤ 100000 ∧ 0 < 0 + L1.length ∧ 0 ≤ 100000 ∧ 0 * 20 ≤ (List.length []) ∧ List.take (0 * 20) [] ++ (κbx L1) = (κbx L1))) true (Zn ⟨⟨rfl, (Zc5 (E := RE) (L := L1) (n := L1.length) (size := 20) rfl (by decide) (by omega))⟩, by omega, by omega, ltA, by omega, (Zar (E := RE) (L := ([] : List RL)) (M := L1) (n := 0) (show _ = _ * 20 from rfl) ltA (R := L1) (by rw [List.take_of_length_le ltA]; rfl))⟩) Zg) (bR <| bE) (hv := ⟨Eq.trans (show (Value.agg #[ms (Zp RB) L0, vs 0 0 L1.length L1.length, ms RC L2] : Value) = Value.agg #[ms (Zp RB) L0, vs 0 0 (0 + L1.length) (0 + L1.length), ms RC L2] from (ZbV (cr (Zw (Zi rfl eqA eqA) (cr rfl))))) (by rfl), by rfl⟩)

theorem Zsl (N : Nat) (r : Zdx) (h : ZcN L0 L1 L2 a3 a4 a5 a6 L7 L8 N = some r) : LSpec Tryz.prog 49 #[Value.agg (κd L0 L1 L2), vi a3, Value.agg (List.toArray (κP a4 a5 a6 L7 L8))] [] (ZpB L0 L1 L2 a3 a4 a5 a6 L7 L8 r) (Zod L0 L1 L2 a3 a4 a5 a6 L7 L8 r) :=
 ZI Zv Tryz.func49 (by kernel_rfl) (by kernel_rfl) (fun r => by cases r <;> exact ZP _ rfl) (Zxc L0 L1 L2 a3 a4 a5 a6 L7 L8 N) h

theorem ZtG (N : Nat) (r : Zdx) (h : ZcN L0 L1 L2 a3 a4 a5 a6 L7 L8 N = some r) : LSpec Tryz.prog 49 #[Value.agg (κd L0 L1 L2), vi a3, Value.agg (List.toArray (κP a4 a5 a6 L7 L8))] [] (Zrx L0 L1 L2 a3 a4 a5 a6 L7 L8 r) (ZpC r) := by
 have h0 := Zsl L0 L1 L2 a3 a4 a5 a6 L7 L8 N r h;cases r with
 | r0 => exact (LSpec.frzv (E := RE) (L := (L1.set a3.toNat (Zg6 L7 a4 a5 a6 L8 : RL))) (post := []) (v2 := Value.agg #[ms (Zp RB) L0, ms RE (L1.set a3.toNat (Zg6 L7 a4 a5 a6 L8 : RL)), ms RC L2]) h0 (show 0 ≤ 0 from by decide) (show 0 < 1000000000 from by decide) trivial rfl (ZbV (cr (Zw (Zfn eqA eqA) (cr rfl)))) rfl)

end
theorem ZpD {L0 : List (List RI)} {L1 : List RL} {L2 : List RJ} {a3 a4 a5 a6 : Int} {L7 L8 : List RG} {N : Nat} {r : Zdx} (h : ZcN L0 L1 L2 a3 a4 a5 a6 L7 L8 N = some r) : LSpec Tryz.prog 49 #[Value.agg (κd L0 L1 L2), vi a3, Value.agg (List.toArray (κP a4 a5 a6 L7 L8))] [] (Zrx L0 L1 L2 a3 a4 a5 a6 L7 L8 r) (ZpC r) := ZtG L0 L1 L2 a3 a4 a5 a6 L7 L8 N r h

noncomputable def ZvX (L0 : List (List RI)) (L1 : List RL) (L2 : List RJ) (a3 a4 a5 a6 a7 a8 : Int) (L9 : List RG) (a10 : Int) : Zgq → Value
 | .r0 w2 w3 w4 => Value.tuple #[Value.agg #[ms (Zp RB) L0, ms RE w2, ms RC w3], vi w4]
noncomputable def ZtH (L0 : List (List RI)) (L1 : List RL) (L2 : List RJ) (a3 a4 a5 a6 a7 a8 : Int) (L9 : List RG) (a10 : Int) : Zgq → List (Option AObj)
 | .r0 w2 w3 w4 => (κbW L9)

section
variable (L0 : List (List RI)) (L1 : List RL) (L2 : List RJ) (a3 a4 a5 a6 a7 a8 : Int) (L9 : List RG) (a10 : Int) (N : Nat)
theorem Z1f : Fx Tryz.prog Ze Tryz.f45 (κbF L9) #[Value.agg (κd L0 L1 L2), Value.agg #[vi a3, vi a4, vi a5, vi a6, vi a7, vi a8, vs 0 0 L9.length L9.length, vi a10]] (ZvX L0 L1 L2 a3 a4 a5 a6 a7 a8 L9 a10) (ZtH L0 L1 L2 a3 a4 a5 a6 a7 a8 L9 a10) (ZcO L0 L1 L2 a3 a4 a5 a6 a7 a8 L9 a10 N) := by
 unfold ZcO;refine Zx (fun z0 c0 => ?_);cases z0 with
 | r0 =>
  exact Zd
 | r1 y0_0 y0_1 y0_2 y0_3 =>
  have w1 := kKg 1 (tQ (Zil c0) 4) Zg;refine Zb (fun _ => Zd) (fun g1 => ?_);refine Zb (fun _ => Zd) (fun g2 => ?_);have w3 := bhF g2 <| tB 1 <| kE y0_1 a5 w1
  refine Zb (fun _ => Zd) (fun g3 => ?_);refine Zx (fun z4 c4 => ?_);cases z4 with
  | r0 =>
   have w5 := kKg 2 (ZwE c4 [0] 5) <| bkE a3 2 w3
   refine Zx (fun z5 c5 => ?_);cases z5 with
   | r0 y5_0 y5_1 y5_2 y5_3 y5_4 y5_5 =>
    have w6 := kK (ZzJ c5 [0] 5) w5;refine Zb (fun g6 => ?_) (fun g6 => ?_)
    · exact Zr [0] (tB 1 <| kX ((!y5_5)) true nbt w6) (bQ <| bE)
    have w7 := tB 1 <| kX ((!y5_5)) false nbf w6
    refine Zb (fun g7 => ?_) (fun g7 => ?_)
    · exact Zr [0] (tB 1 <| hD g7 w7) (bQ <| bE)
    refine Zx (fun z8 c8 => ?_);cases z8 with
    | r0 =>
     exact Zr [0] (kKg 6 (tQ (ZpD c8) 6) <| tB 1 <| kE y5_3 (L9.length : Int) w7) (bQ <| bE)

theorem Zxd (r : Zgq) (h : ZcO L0 L1 L2 a3 a4 a5 a6 a7 a8 L9 a10 N = some r) : LSpec Tryz.prog 45 #[Value.agg (κd L0 L1 L2), Value.agg #[vi a3, vi a4, vi a5, vi a6, vi a7, vi a8, vs 0 0 L9.length L9.length, vi a10]] (κbF L9) (ZvX L0 L1 L2 a3 a4 a5 a6 a7 a8 L9 a10 r) (ZtH L0 L1 L2 a3 a4 a5 a6 a7 a8 L9 a10 r) :=
 ZI Zv Tryz.func45 (by kernel_rfl) (by kernel_rfl) (fun r => by cases r <;> exact ZP _ rfl) (Z1f L0 L1 L2 a3 a4 a5 a6 a7 a8 L9 a10 N) h

end
noncomputable def Z2Q {L0 : List (List RI)} {L1 : List RL} {L2 : List RJ} {a3 a4 a5 a6 a7 a8 : Int} {L9 : List RG} {a10 : Int} {w2 : List RL} {w3 : List RJ} {w4 : Int} {N : Nat} (h : ZcO L0 L1 L2 a3 a4 a5 a6 a7 a8 L9 a10 N = some (.r0 w2 w3 w4)) (ks : List Nat) (n : Nat) : ToldS := ⟨#[Value.agg (κd L0 L1 L2), Value.agg #[vi a3, vi a4, vi a5, vi a6, vi a7, vi a8, vs (nth ks 0) 0 L9.length L9.length, vi a10]], [((nth ks 0), .cells (Za RA L9) 44 true)], Value.tuple #[Value.agg #[ms (Zp RB) L0, ms RE w2, ms RC w3], vi w4], [], 0⟩

theorem ZtI {L0 : List (List RI)} {L1 : List RL} {L2 : List RJ} {a3 a4 a5 a6 a7 a8 : Int} {L9 : List RG} {a10 : Int} {w2 : List RL} {w3 : List RJ} {w4 : Int} {N : Nat} (h : ZcO L0 L1 L2 a3 a4 a5 a6 a7 a8 L9 a10 N = some (.r0 w2 w3 w4)) (ks : List Nat) (n : Nat) (hk : ks.length = 1 := by rfl) (hnd : ks.Nodup := by decide +kernel) (hlt : ∀ k ∈ ks, k < n := by decide +kernel) : (Z2Q (N := N)  h ks n).P Tryz.prog 45 n :=
 match ks, hk, hnd, hlt with
 | [k0], _, hnd, hlt => Zcj (show LSpec Tryz.prog 45 #[Value.agg (κd L0 L1 L2), Value.agg #[vi a3, vi a4, vi a5, vi a6, vi a7, vi a8, vs 0 0 L9.length L9.length, vi a10]] (κbF L9) (Value.tuple #[Value.agg #[ms (Zp RB) L0, ms RE w2, ms RC w3], vi w4]) (κbW L9) from Zxd L0 L1 L2 a3 a4 a5 a6 a7 a8 L9 a10 N _ h) _ n [] hnd hlt

open Mach (oi ok_ite ok_bind okN okH enH en_none en_bind)
noncomputable def ZlP (L0 : List (List RI)) (L1 : List RL) (L2 : List RJ) (a3 a4 : Int) : ZbC → Value
 | .r0 w1 w2 w3 w4 => Value.tuple #[Value.agg #[ms (Zp RB) L0, ms RE w1, ms RC w2], vi w3, Value.bool w4]
noncomputable def ZkT : ZbC → List (Option AObj)
 | .r0 w1 w2 w3 w4 => []

def ZzK : ZbD → Nat
 | .h1m0 .. => 1
noncomputable def Z1g (L0 : List (List RI)) (L1 : List RL) (L2 : List RJ) (a3 a4 : Int) : ZbD → List (Nat × Value)
 | .h1m0 v1 v7 v11 => [(2, vi a4), (3, vp 0 0), (6, vp 1 0), (11, vp 2 0), (12, vi (v1 : Int))]
section
variable (L0 : List (List RI)) (L1 : List RL) (L2 : List RJ)
noncomputable def Z1h (a3 a4 : Int) : ZbD → List (Option AObj)
 | .h1m0 v1 v7 v11 => [some (.cells (κf L0 L1 L2) 34), some κ3, some (.cells [vi 2, vi a3, vi v7, vq, vq, vq, vs 3 0 v11.length v11.length, vq] 118), some (.cells (Za RA v11) 44 true)]

noncomputable def ZlQ : Nat → Code × List ZL
 | 1 => Z5 [1, 1, 1, 1, 0, 1, 3] (ZM Tryz.f14) []
 | _ => (.skip, [])

noncomputable def ZgX (a3 a4 : Int) (N : Nat) : Mach := ⟨Tryz.f14, [], ZbD, ZbC, Zff L0 L1 L2 a3 a4 N, ZzK, ZlQ, ilT, Z1g L0 L1 L2 a3 a4, Z1h L0 L1 L2 a3 a4, ZlP L0 L1 L2 a3 a4, ZkT⟩

theorem Zsm (a3 a4 : Int) (v1 : Nat) (v7 : Int) (v11 : List RG) (N : Nat) : (ZgX L0 L1 L2 a3 a4 N).Ok Tryz.prog Ze (.h1m0 v1 v7 v11 : ZbD) (ZcP L0 L1 L2 a3 a4 N v1 v7 v11) := by
 unfold ZcP;refine ok_ite (fun g0 => ?_) fun g0 => ?_
 ·
  refine ok_bind fun z1 c1 => ?_;cases z1 with
  | r0 y1_0 y1_1 y1_2 =>
   refine ok_ite (fun g2 => ?_) fun g2 => ?_
   · exact Mach.okF0 [] (bhT g2 <| kK (ZtI c1 [3] 4) <| bhY g0 Zg) bE
   refine oi fun g3 => ?_;exact Mach.okN0 [0, 1, 2, 6] (tV 2 <| kW ((v1 : Int) + 1) (((v1 + 1) : Nat) : Int) <| tW 2 (.ap 1 [vi 2, vi (i64.wrap ((i64.wrap ((1048594 : Int) + a4)) + (v1 : Int)))] (Za RA (v11 ++ ([(⟨2, (i64.wrap ((i64.wrap ((1048594 : Int) + a4)) + (v1 : Int)))⟩ : RG)] : List RG)))) <| kA RA v11 (⟨2, (i64.wrap ((i64.wrap ((1048594 : Int) + a4)) + (v1 : Int)))⟩ : RG) <| bhF g2 <| kK (ZtI c1 [3] 4) <| bhY g0 Zg) (bS (κf L0 L1 L2) <| bS [vn, vn, vn] <| bU [vi 2, vi a3, vi v7, vq, vq, vq, vs 6 0 (v11.length + 1) (v11.length + 1), vq] 6 (show (vs 3 0 (v11.length + 1) (v11.length + 1) : Value) = vs 3 0 (v11 ++ ([(⟨2, (i64.wrap ((i64.wrap ((1048594 : Int) + a4)) + (v1 : Int)))⟩ : RG)] : List RG)).length (v11 ++ ([(⟨2, (i64.wrap ((i64.wrap ((1048594 : Int) + a4)) + (v1 : Int)))⟩ : RG)] : List RG)).length from Zi rfl eqA eqA) <| bQ <| bE)
 exact Mach.okF0 [] (bhN g0 Zg) bE

theorem Zxe (a3 a4 : Int) (N : Nat) : (ZgX L0 L1 L2 a3 a4 N).Enter Tryz.prog Ze #[Value.agg (κd L0 L1 L2), vi a3, vi a4] (Zfg L0 L1 L2 a3 a4 N) := by
 unfold Zfg;refine en_bind (fun z0 c0 => ?_);cases z0 with
 | r0 =>
  exact Mach.enF0 [] (kKg 1 (tQ (Zil c0) 2) Zg) bE
 | r1 y0_0 y0_1 y0_2 y0_3 =>
  exact Mach.en_headW (bK := ZlQ 1) (M := ZgX L0 L1 L2 a3 a4 N) (cd := 1000000) (cm := 0) (y := (.h1m0 0 y0_1 ([] : List RG) : ZbD)) (fu := 4000) (orc := (Zhs (oq []) [] [] [] [(1, (tP (Zil c0)).t)])) (live := [0, 1, 3, 500000004]) (tv := [some (vi a4), some (vp 0 0), some (vp 1 0), some (vp 3 0), some (vq)]) (bl := [some (.cells (κf L0 L1 L2) 34), some κ3, some (.cells [vi 2, vi a3, vi y0_1, vq, vq, vq, vn, vq] 118), none]) [some (.cells (κf L0 L1 L2) 34), some κ3, some (.cells [vi 2, vi a3, vi y0_1, vq, vq, vq, vn, vq] 118), none] [(3, 44)] 0 ⟨(.inl rfl), ⟨(.inl rfl), ⟨(ZrD ⟨.inl rfl, ⟨.inl rfl, ⟨.inl rfl, ⟨.inl rfl, ⟨.inl rfl, ⟨.inl rfl, ⟨.inr ⟨rfl, _, rfl⟩, ⟨.inl rfl, trivial⟩⟩⟩⟩⟩⟩⟩⟩), ⟨(.inl rfl), trivial⟩⟩⟩⟩ (by rfl) (by rfl) rfl rfl (show ZaD (ZlQ 1).2 = [] from rfl) (by kernel_rfl) (kKg 1 (tQ (Zil c0) 2) Zg) rfl (by decide +kernel) (by rfl) ⟨rr, ⟨rr, ⟨rr, ⟨rr, ⟨⟨Eq.trans (show κg = vq from ci) (by rfl), by rfl⟩, trivial⟩⟩⟩⟩⟩ ⟨sm, ⟨sm, ⟨sm, trivial⟩⟩⟩

theorem ZtJ (a3 a4 : Int) (N : Nat) (r : ZbC) (h : Za9 L0 L1 L2 a3 a4 N = some r) : LSpec Tryz.prog 14 #[Value.agg (κd L0 L1 L2), vi a3, vi a4] [] (ZlP L0 L1 L2 a3 a4 r) (ZkT r) :=
 Mach.specT Zv (ZgX L0 L1 L2 a3 a4 N) Tryz.func14 (fun x => (show (ZgX L0 L1 L2 a3 a4 N).Ok Tryz.prog Ze x (Zff L0 L1 L2 a3 a4 N x) from by
  cases x with
  | h1m0 v1 v7 v11 => exact Zsm L0 L1 L2 a3 a4 v1 v7 v11 N
  )) (Zxe L0 L1 L2 a3 a4 N) h

theorem Zbt {L0 : List (List RI)} {L1 : List RL} {L2 : List RJ} {a3 a4 : Int} {N : Nat} {r : ZbC} (h : Za9 L0 L1 L2 a3 a4 N = some r) : LSpec Tryz.prog 14 #[Value.agg (κd L0 L1 L2), vi a3, vi a4] [] (ZlP L0 L1 L2 a3 a4 r) (ZkT r) := ZtJ L0 L1 L2 a3 a4 N r h

noncomputable def ZjN (L0 : List (List RI)) (L1 : List RL) (L2 : List RJ) : Zbq → Value
 | .r0 w1 => Value.agg #[ms (Zp RB) L0, ms RE w1, ms RC L2]
noncomputable def ZiQ : Zbq → List (Option AObj)
 | .r0 w1 => []

def Zvn : ZaY → Nat
 | .h1m0 .. => 1
noncomputable def Zxf (L0 : List (List RI)) (L1 : List RL) (L2 : List RJ) : ZaY → List (Nat × Value)
 | .h1m0 v0 v2 => [(1, vp 0 0), (2, vp 1 0), (3, vi (v0 : Int))]
noncomputable def Zxg (L0 : List (List RI)) (L1 : List RL) (L2 : List RJ) : ZaY → List (Option AObj)
 | .h1m0 v0 v2 => [some (.cells [ms (Zp RB) L0, ms RE v2, ms RC L2] 34), some κ3]

noncomputable def Zxh : Nat → Code × List ZL
 | 1 => Z5 [1, 0, 1, 3] (ZM Tryz.f17) []
 | _ => (.skip, [])

noncomputable def Zhl (N : Nat) : Mach := ⟨Tryz.f17, [], ZaY, Zbq, Zcx L0 L1 L2 N, Zvn, Zxh, ilT, Zxf L0 L1 L2, Zxg L0 L1 L2, ZjN L0 L1 L2, ZiQ⟩

theorem ZpE (v0 : Nat) (v2 : List RL) (N : Nat) : (Zhl L0 L1 L2 N).Ok Tryz.prog Ze (.h1m0 v0 v2 : ZaY) (ZbQ L0 L1 L2 N v0 v2) := by
 unfold ZbQ;refine ok_ite (fun g0 => ?_) fun g0 => ?_
 ·
  refine ok_ite (fun g1 => ?_) fun g1 => ?_
  ·
   refine ok_bind fun z2 c2 => ?_;cases z2 with
   | r0 y2_0 y2_1 y2_2 y2_3 =>
    refine ok_bind fun z3 c3 => ?_;cases z3 with
    | r0 =>
     refine oi fun g4 => ?_;exact Mach.okN0 [0, 1] (vkW ((v0 : Int) + 1) (((v0 + 1) : Nat) : Int) <| kKg 2 (tQ (ZpD c3) 3) <| kK (tQ (Zn2 c2) 2) <| tL 1 (RE.cel (v2.getD v0 RL.z)) <| kG RE v2 (0 + (v0 * 20)) v0 0 20 20 <| kB v0 v2.length <| xkI (v0 : Int) v0 <| tL 3 ([(mc RB (L0.getD v0 []))]) <| kG (Zp RB) L0 (0 + (v0 * 1)) v0 0 1 1 <| kB v0 L0.length <| xkI (v0 : Int) v0 <| bhY g1 <| bhY g0 Zg) (bS [ms (Zp RB) L0, ms RE (v2.set ((v0 : Int)).toNat (Zg6 y2_2 y2_0 ((v2.getD v0 RL.z).a1) y2_1 y2_3 : RL)), ms RC L2] <| bS [vn, vn, vn] <| bE)
  exact Mach.okF0 [] (bhN g1 <| bhY g0 Zg) bE
 exact Mach.okF0 [] (bhN g0 Zg) bE

theorem ZtK (N : Nat) : (Zhl L0 L1 L2 N).Enter Tryz.prog Ze #[Value.agg (κd L0 L1 L2)] (ZiG L0 L1 L2 N) := by unfold ZiG;exact enH [0, 1] [some (vp 0 0), some (vp 1 0), some (vq)] Zg (tC (tC (tC (tE) ⟨Eq.trans (show κg = vq from ci) (by rfl), by rfl⟩))) (bS (κf L0 L1 L2) <| bS [vn, vn, vn] <| bE)

theorem ZqP (N : Nat) (r : Zbq) (h : Zbr L0 L1 L2 N = some r) : LSpec Tryz.prog 17 #[Value.agg (κd L0 L1 L2)] [] (ZjN L0 L1 L2 r) (ZiQ r) :=
 Mach.specT Zv (Zhl L0 L1 L2 N) Tryz.func17 (fun x => (show (Zhl L0 L1 L2 N).Ok Tryz.prog Ze x (Zcx L0 L1 L2 N x) from by
  cases x with
  | h1m0 v0 v2 => exact ZpE L0 L1 L2 v0 v2 N
  )) (ZtK L0 L1 L2 N) h

end
theorem Zc3 {L0 : List (List RI)} {L1 : List RL} {L2 : List RJ} {N : Nat} {r : Zbq} (h : Zbr L0 L1 L2 N = some r) : LSpec Tryz.prog 17 #[Value.agg (κd L0 L1 L2)] [] (ZjN L0 L1 L2 r) (ZiQ r) := ZqP L0 L1 L2 N r h

noncomputable def ZpF : Za1 → Value
 | .r0 w1 w2 w3 => Value.tuple #[Value.agg #[ms (Zp RB) w1, ms RE w2, ms RC w3], vn, vT]
 | .r1 w1 w2 w3 w4 => Value.tuple #[Value.agg #[ms (Zp RB) w1, ms RE w2, ms RC w3], vs 1 0 w4.length w4.length, vT]
section
variable (L0 : List (List RI))
noncomputable def Zoe (a1 : Int) : Za1 → List (Option AObj)
 | .r0 w1 w2 w3 => [some (κm L0)]
 | .r1 w1 w2 w3 w4 => [some (κm L0), some (.cells (Za eI w4) 3)]

noncomputable def Z1i : Za1 → Value
 | .r0 w1 w2 w3 => Value.tuple #[Value.agg #[ms (Zp RB) w1, ms RE w2, ms RC w3], vn, vT]
 | .r1 w1 w2 w3 w4 => Value.tuple #[Value.agg #[ms (Zp RB) w1, ms RE w2, ms RC w3], ms eI w4, vT]
noncomputable def ZzL (a1 : Int) : Za1 → List (Option AObj)
 | .r0 w1 w2 w3 => [some (κm L0)]
 | .r1 w1 w2 w3 w4 => [some (κm L0)]

def ZzM : Z7 → Nat
 | .h1m0 .. => 1
 | .h2m0 .. => 2
 | .h2m1 .. => 2
 | .h3m0 .. => 3
 | .h3m1 .. => 3
noncomputable def Z1j (a1 : Int) : Z7 → List (Nat × Value)
 | .h1m0 .. => [(κbi L0), (1, vn), (2, vi a1), (6, vp 1 0), (9, vp 2 0), (11, vq), (12, vn), (13, vq)]
 | .h2m0 .. => [(κbi L0), (2, vi a1), (6, vp 1 0), (9, vp 2 0), (11, vq), (12, vn), (17, vq)]
 | .h2m1 v2 v3 v4 v5 v6 v7 => [(κbi L0), (2, vi a1), (6, vp 1 0), (9, vp 2 0), (11, vi v2), (12, vs 3 0 v3.length v3.length), (17, vi (v4 : Int))]
 | .h3m0 v2 v5 v6 v7 v8 => [(κbi L0), (2, vi a1), (6, vp 1 0), (9, vp 2 0), (11, vi v2), (12, vn), (17, vq), (18, vf), (19, vi (v5 : Int))]
 | .h3m1 v2 v3 v4 v5 v6 v7 v8 v9 => [(κbi L0), (2, vi a1), (6, vp 1 0), (9, vp 2 0), (11, vi v2), (12, vs 3 0 v3.length v3.length), (17, vi (v4 : Int)), (18, Value.bool v5), (19, vi (v6 : Int))]
noncomputable def Z1k (a1 : Int) : Z7 → List (Option AObj)
 | .h1m0 v4 v5 v6 => [some (κm L0), some κ3, some (.cells [ms (Zp RB) v4, ms RE v5, ms RC v6] 34)]
 | .h2m0 v4 v5 v6 => [some (κm L0), some κ3, some (.cells [ms (Zp RB) v4, ms RE v5, ms RC v6] 34)]
 | .h2m1 v2 v3 v4 v5 v6 v7 => [some (κm L0), some κ3, some (.cells [ms (Zp RB) v5, ms RE v6, ms RC v7] 34), some (.cells (Za eI v3) 3)]
 | .h3m0 v2 v5 v6 v7 v8 => [some (κm L0), some κ3, some (.cells [ms (Zp RB) v6, ms RE v7, ms RC v8] 34)]
 | .h3m1 v2 v3 v4 v5 v6 v7 v8 v9 => [some (κm L0), some κ3, some (.cells [ms (Zp RB) v7, ms RE v8, ms RC v9] 34), some (.cells (Za eI v3) 3)]

end
noncomputable def Z1l : Nat → Code × List ZL
 | 1 => Z5 [1, 1, 1, 1, 1, 0, 1, 3] (ZM Tryz.f9) []
 | 2 => Z5 [1, 1, 1, 1, 1, 1, 0, 1, 3] (ZM Tryz.f9) []
 | 3 => Z5 [1, 1, 1, 1, 1, 1, 0, 1, 3, 8, 1, 0, 3, 1, 0, 1, 3] (ZM Tryz.f9) []
 | _ => (.skip, [])

section
variable (L0 : List (List RI)) (a1 : Int)
noncomputable def Zef (N : Nat) : Mach := ⟨Tryz.f9, (κQ L0), Z7, Za1, ZiH L0 a1 N, ZzM, Z1l, ilT, Z1j L0 a1, Z1k L0 a1, ZpF, Zoe L0 a1⟩

theorem Zsn (v4 : List (List RI)) (v5 : List RL) (v6 : List RJ) (N : Nat) : (Zef L0 a1 N).Ok Tryz.prog Ze (.h1m0 v4 v5 v6 : Z7) (ZhZ L0 a1 N v4 v5 v6) := by unfold ZhZ;exact Mach.okH0 [0, 1, 2] Zg (bR <| bS [vn, vn, vn] <| bS [ms (Zp RB) v4, ms RE v5, ms RC v6] <| bE)

theorem Zso (v4 : List (List RI)) (v5 : List RL) (v6 : List RJ) (N : Nat) : (Zef L0 a1 N).Ok Tryz.prog Ze (.h2m0 v4 v5 v6 : Z7) (Zia L0 a1 N v4 v5 v6) := by unfold Zia;refine oi fun g0 => ?_;exact okH [0, 1, 2] [some (vs 0 0 L0.length L0.length), some (vi a1), some (vp 1 0), some (vp 2 0), some (vq), some (vn), some (vq), some (vf), some (vq)] (bhY g0 Zg) (tC (tC (tC (tC (tC (tC (tC (tC (tC (tE) ⟨Eq.trans (show κg = vq from ci) (by rfl), by rfl⟩))))))))) (bR <| bS [vn, vn, vn] <| bS [ms (Zp RB) v4, ms RE v5, ms RC v6] <| bE)

theorem Zsp (v2 : Int) (v3 : List Int) (v4 : Nat) (v5 : List (List RI)) (v6 : List RL) (v7 : List RJ) (N : Nat) : (Zef L0 a1 N).Ok Tryz.prog Ze (.h2m1 v2 v3 v4 v5 v6 v7 : Z7) (Zib L0 a1 N v2 v3 v4 v5 v6 v7) := by unfold Zib;refine oi fun g0 => ?_;exact okH [0, 1, 2, 3] [some (vs 0 0 L0.length L0.length), some (vi a1), some (vp 1 0), some (vp 2 0), some (vi v2), some (vs 3 0 v3.length v3.length), some (vi (v4 : Int)), some (vf), some (vq)] (bhY g0 Zg) (tC (tC (tC (tC (tC (tC (tC (tC (tC (tE) ⟨Eq.trans (show κg = vq from ci) (by rfl), by rfl⟩))))))))) (bR <| bS [vn, vn, vn] <| bS [ms (Zp RB) v5, ms RE v6, ms RC v7] <| bR <| bE)

noncomputable abbrev κbr (v5 : Nat) := (vi (((v5 + 1) : Nat) : Int))
theorem Zsq (v2 : Int) (v5 : Nat) (v6 : List (List RI)) (v7 : List RL) (v8 : List RJ) (N : Nat) : (Zef L0 a1 N).Ok Tryz.prog Ze (.h3m0 v2 v5 v6 v7 v8 : Z7) (Zic L0 a1 N v2 v5 v6 v7 v8) := by
 unfold Zic;refine ok_ite (fun g0 => ?_) fun g0 => ?_
 ·
  refine ok_bind fun z1 c1 => ?_;cases z1 with
  | r0 y1_0 y1_1 y1_2 y1_3 =>
   refine ok_ite (fun g2 => ?_) fun g2 => ?_
   · subst g2;refine oi fun g3 => ?_;exact okN [0, 1, 2, 5] [some (vs 0 0 L0.length L0.length), some (vi a1), some (vp 1 0), some (vp 2 0), some (vi y1_2), some (vs 5 0 1 1), some (vq), some (vT), some (κbr v5)] (vkW ((v5 : Int) + 1) (((v5 + 1) : Nat) : Int) <| kK (tQ (Zbt c1) 3) <| bhY g0 Zg) (tC (tC (tC (tC (tC (tC (tC (tC (tC (tE))) ⟨Eq.trans (show κg = vq from ci) (by rfl), by rfl⟩) ⟨Eq.trans (show (vs 3 0 ([(v5 : Int)] : List Int).length ([(v5 : Int)] : List Int).length : Value) = vs 3 0 1 1 from (Zi rfl eqA eqA)) (by rfl), by rfl⟩)))))) (bR <| bS [vn, vn, vn] <| bS [ms (Zp RB) v6, ms RE y1_0, ms RC y1_1] <| bC (o := .cells [vi (v5 : Int)] 3) (Zz (E := eI) _ (L := ([(v5 : Int)] : List Int)) _ (show ([vi (v5 : Int)] : List Value) = Za eI ([(v5 : Int)] : List Int) from rfl)) <| bE)
   obtain rfl : y1_3 = false := by simpa using g2
   refine oi fun g3 => ?_;exact Mach.okN0 [0, 1, 2] (vkW ((v5 : Int) + 1) (((v5 + 1) : Nat) : Int) <| kK (tQ (Zbt c1) 3) <| bhY g0 Zg) (bR <| bS [vn, vn, vn] <| bS [ms (Zp RB) v6, ms RE y1_0, ms RC y1_1] <| bE)
 refine ok_bind fun z1 c1 => ?_;cases z1 with
 | r0 y1_0 =>
  exact Mach.okF0 [0] (kK (tQ (Zc3 c1) 3) <| bhN g0 Zg) (bR <| bE)

noncomputable abbrev κbd (y2_2 : Int) (v3 : List Int) (v4 v6 : Nat) := [some (vs 0 0 L0.length L0.length), some (vi a1), some (vp 1 0), some (vp 2 0), some (vi y2_2), some (vs 6 0 (v3.length + 1) (v3.length + 1)), some (vi (v4 : Int)), some (vT), some (vi (((v6 + 1) : Nat) : Int))]
noncomputable abbrev κbc (v7 : List (List RI)) (y2_0 : List RL) (y2_1 : List RJ) := [ms (Zp RB) v7, ms RE y2_0, ms RC y2_1]
theorem Zsr (v2 : Int) (v3 : List Int) (v4 : Nat) (v5 : Bool) (v6 : Nat) (v7 : List (List RI)) (v8 : List RL) (v9 : List RJ) (N : Nat) : (Zef L0 a1 N).Ok Tryz.prog Ze (.h3m1 v2 v3 v4 v5 v6 v7 v8 v9 : Z7) (Zid L0 a1 N v2 v3 v4 v5 v6 v7 v8 v9) := by
 unfold Zid;refine ok_ite (fun g0 => ?_) fun g0 => ?_
 ·
  subst g0;refine ok_ite (fun g1 => ?_) fun g1 => ?_
  ·
   refine ok_bind fun z2 c2 => ?_;cases z2 with
   | r0 y2_0 y2_1 y2_2 y2_3 =>
    refine ok_ite (fun g3 => ?_) fun g3 => ?_
    · subst g3;refine oi fun g4 => ?_;refine oi fun g5 => ?_;exact okN [0, 1, 2, 6] (κbd L0 a1 y2_2 v3 v4 v6) (vkW ((v6 : Int) + 1) (((v6 + 1) : Nat) : Int) <| tW 2 (.ap 1 [vi (v6 : Int)] (Za eI (v3 ++ ([(v6 : Int)] : List Int)))) <| kA eI v3 (v6 : Int) <| kK (tQ (Zbt c2) 4) <| bhY g1 Zg) (tC (tC (tC (tC (tC (tC (tC (tC (tC (tE)))) ⟨Eq.trans (show (vs 3 0 (v3 ++ ([(v6 : Int)] : List Int)).length (v3 ++ ([(v6 : Int)] : List Int)).length : Value) = vs 3 0 (v3.length + 1) (v3.length + 1) from (Zi rfl eqA eqA)) (by rfl), by rfl⟩)))))) (bR <| bS [vn, vn, vn] <| bS (κbc v7 y2_0 y2_1) <| bR <| bE)
    obtain rfl : y2_3 = false := by simpa using g3
    refine oi fun g4 => ?_;exact Mach.okN0 [0, 1, 2, 3] (vkW ((v6 : Int) + 1) (((v6 + 1) : Nat) : Int) <| kK (tQ (Zbt c2) 4) <| bhY g1 Zg) (bR <| bS [vn, vn, vn] <| bS (κbc v7 y2_0 y2_1) <| bR <| bE)
  refine oi fun g2 => ?_;exact Mach.okN0 [0, 1, 2, 3] (vkW ((v4 : Int) + 1) (((v4 + 1) : Nat) : Int) <| bhN g1 Zg) (bR <| bS [vn, vn, vn] <| bS [ms (Zp RB) v7, ms RE v8, ms RC v9] <| bR <| bE)
 obtain rfl : v5 = false := by simpa using g0
 refine ok_ite (fun g1 => ?_) fun g1 => ?_
 ·
  refine ok_bind fun z2 c2 => ?_;cases z2 with
  | r0 y2_0 y2_1 y2_2 y2_3 =>
   refine ok_ite (fun g3 => ?_) fun g3 => ?_
   · subst g3;refine oi fun g4 => ?_;refine oi fun g5 => ?_;exact okN [0, 1, 2, 6] (κbd L0 a1 y2_2 v3 v4 v6) (vkW ((v6 : Int) + 1) (((v6 + 1) : Nat) : Int) <| tW 2 (.ap 1 [vi (v6 : Int)] (Za eI (v3 ++ ([(v6 : Int)] : List Int)))) <| kA eI v3 (v6 : Int) <| kK (tQ (Zbt c2) 4) <| bhY g1 Zg) (tC (tC (tC (tC (tC (tC (tC (tC (tC (tE)))) ⟨Eq.trans (show (vs 3 0 (v3 ++ ([(v6 : Int)] : List Int)).length (v3 ++ ([(v6 : Int)] : List Int)).length : Value) = vs 3 0 (v3.length + 1) (v3.length + 1) from (Zi rfl eqA eqA)) (by rfl), by rfl⟩)))))) (bR <| bS [vn, vn, vn] <| bS (κbc v7 y2_0 y2_1) <| bR <| bE)
   obtain rfl : y2_3 = false := by simpa using g3
   refine oi fun g4 => ?_;exact Mach.okN0 [0, 1, 2, 3] (vkW ((v6 : Int) + 1) (((v6 + 1) : Nat) : Int) <| kK (tQ (Zbt c2) 4) <| bhY g1 Zg) (bR <| bS [vn, vn, vn] <| bS (κbc v7 y2_0 y2_1) <| bR <| bE)
 refine ok_bind fun z2 c2 => ?_;cases z2 with
 | r0 y2_0 =>
  exact Mach.okF0 [0, 3] (kK (tQ (Zc3 c2) 4) <| bhN g1 Zg) (bR <| bR <| bE)

noncomputable abbrev κby := #[vs 0 0 L0.length L0.length, vn, vi a1]
theorem Zxi (N : Nat) : (Zef L0 a1 N).Enter Tryz.prog Ze (κby L0 a1) (Zk7 L0 a1 N) := by
 unfold Zk7;refine en_bind (fun z0 c0 => ?_);cases z0 with
 | r0 =>
  exact en_none
 | r1 _ =>
  exact en_none
 | r2 y0_0 y0_1 y0_2 =>
  exact Mach.enH0 [0, 1, 2] (kKg 1 (ZjF c0 [0] 2) Zg) (bR <| bS [vn, vn, vn] <| bS [ms (Zp RB) y0_0, ms RE y0_1, ms RC y0_2] <| bE)

theorem Zss (N : Nat) (r : Za1) (h : Zf1 L0 a1 N = some r) : LSpec Tryz.prog 9 (κby L0 a1) (κQ L0) (ZpF r) (Zoe L0 a1 r) :=
 Mach.specT Zv (Zef L0 a1 N) Tryz.func9 (fun x => (show (Zef L0 a1 N).Ok Tryz.prog Ze x (ZiH L0 a1 N x) from by
  cases x with
  | h1m0 v4 v5 v6 => exact Zsn L0 a1 v4 v5 v6 N
  | h2m0 v4 v5 v6 => exact Zso L0 a1 v4 v5 v6 N
  | h2m1 v2 v3 v4 v5 v6 v7 => exact Zsp L0 a1 v2 v3 v4 v5 v6 v7 N
  | h3m0 v2 v5 v6 v7 v8 => exact Zsq L0 a1 v2 v5 v6 v7 v8 N
  | h3m1 v2 v3 v4 v5 v6 v7 v8 v9 => exact Zsr L0 a1 v2 v3 v4 v5 v6 v7 v8 v9 N
  )) (Zxi L0 a1 N) h

theorem Zl0 (N : Nat) (r : Za1) (h : Zf1 L0 a1 N = some r) : LSpec Tryz.prog 9 (κby L0 a1) (κQ L0) (Z1i r) (ZzL L0 a1 r) := by
 have h0 := Zss L0 a1 N r h;cases r with
 | r0 _ _ _ => exact h0
 | r1 w1 w2 w3 w4 => exact (LSpec.frzv (E := eI) (L := w4) (post := [some (κm L0)]) (v2 := Value.tuple #[Value.agg #[ms (Zp RB) w1, ms RE w2, ms RC w3], ms eI w4, vT]) h0 (show 1 ≤ 1 from by decide) (show 1 < 1000000000 from by decide) ⟨(ZcZ _ _ _), trivial⟩ rfl rfl rfl)

end
noncomputable def ZzN {L0 : List (List RI)} {a1 : Int} {w1 : List (List RI)} {w2 : List RL} {w3 : List RJ} {N : Nat} (h : Zf1 L0 a1 N = some (.r0 w1 w2 w3)) (ks : List Nat) (n : Nat) : ToldS := ⟨#[vs (nth ks 0) 0 L0.length L0.length, vn, vi a1], (κbg ks L0), Value.tuple #[Value.agg (κR w1 w2 w3), vn, vT], [], 0⟩

theorem ZzO {L0 : List (List RI)} {a1 : Int} {w1 : List (List RI)} {w2 : List RL} {w3 : List RJ} {N : Nat} (h : Zf1 L0 a1 N = some (.r0 w1 w2 w3)) (ks : List Nat) (n : Nat) (hk : ks.length = 1 := by rfl) (hnd : ks.Nodup := by decide +kernel) (hlt : ∀ k ∈ ks, k < n := by decide +kernel) : (ZzN (N := N)  h ks n).P Tryz.prog 9 n :=
 match ks, hk, hnd, hlt with
 | [k0], _, hnd, hlt => Zcj (show LSpec Tryz.prog 9 (κby L0 a1) (κQ L0) (Value.tuple #[Value.agg (κR w1 w2 w3), vn, vT]) [some (κm L0)] from Zl0 L0 a1 N _ h) _ n [] hnd hlt

noncomputable def ZzP {L0 : List (List RI)} {a1 : Int} {w1 : List (List RI)} {w2 : List RL} {w3 : List RJ} {w4 : List Int} {N : Nat} (h : Zf1 L0 a1 N = some (.r1 w1 w2 w3 w4)) (ks : List Nat) (n : Nat) : ToldS := ⟨#[vs (nth ks 0) 0 L0.length L0.length, vn, vi a1], (κbg ks L0), Value.tuple #[Value.agg (κR w1 w2 w3), ms eI w4, vT], [], 0⟩

theorem ZzQ {L0 : List (List RI)} {a1 : Int} {w1 : List (List RI)} {w2 : List RL} {w3 : List RJ} {w4 : List Int} {N : Nat} (h : Zf1 L0 a1 N = some (.r1 w1 w2 w3 w4)) (ks : List Nat) (n : Nat) (hk : ks.length = 1 := by rfl) (hnd : ks.Nodup := by decide +kernel) (hlt : ∀ k ∈ ks, k < n := by decide +kernel) : (ZzP (N := N)  h ks n).P Tryz.prog 9 n :=
 match ks, hk, hnd, hlt with
 | [k0], _, hnd, hlt => Zcj (show LSpec Tryz.prog 9 (κby L0 a1) (κQ L0) (Value.tuple #[Value.agg (κR w1 w2 w3), ms eI w4, vT]) [some (κm L0)] from Zl0 L0 a1 N _ h) _ n [] hnd hlt

noncomputable def ZlR : Zdy → Value
 | .r0 w0 => Value.bool w0
noncomputable def ZkU : Zdy → List (Option AObj)
 | .r0 w0 => []

section
variable (a0 a1 a2 a3 : Int) (N : Nat)
theorem Zxj : Fx Tryz.prog Ze Tryz.f31 [] #[Value.agg #[vi a0, vi a1], Value.agg #[vi a2, vi a3]] (ZlR) (ZkU) (Zf2 a0 a1 a2 a3 N) := by
 unfold Zf2;refine Zb (fun g0 => ?_) (fun _ => Zd);refine Zx (fun z1 c1 => ?_);cases z1 with
 | r0 y1_0 =>
  have w2 := kK (tQ (ZeN c1) 4) <| bhT g0 Zg
  refine Zb (fun _ => Zd) (fun g2 => ?_);have w3 := bkX ((!y1_0)) false nbf w2;refine Zb (fun g3 => ?_) (fun _ => Zd);refine Zx (fun z4 c4 => ?_);cases z4 with
  | r0 y4_0 =>
   have w5 := kKg 1 (tQ (ZeN c4) 6) <| bhT g3 w3
   refine Zb (fun _ => Zd) (fun g5 => ?_);have w6 := bkX ((!y4_0)) false nbf w5;refine Zb (fun g6 => ?_) (fun g6 => ?_)
   · exact Zr [] (bhY g6 w6) bE
   refine Zb (fun g7 => ?_) (fun g7 => ?_)
   ·
    refine Zx (fun z8 c8 => ?_);cases z8 with
    | r0 y8_0 =>
     have w9 := kKg 1 (tQ (ZeN c8) 8) <| bhT g0 <| bhT g7 <| bhN g6 w6
     refine Zb (fun _ => Zd) (fun g9 => ?_);have w10 := bhT g3 <| bkX ((!y8_0)) false nbf w9
     refine Zx (fun z10 c10 => ?_);cases z10 with
     | r0 y10_0 =>
      refine Zb (fun _ => Zd) (fun g11 => ?_);have w12 := bkX ((!y10_0)) false nbf <| kK (tQ (ZeN c10) 10) w10
      refine Zb (fun g12 => ?_) (fun g12 => ?_)
      · exact Zr [] (bhY g12 w12) bE
      exact Zr [] (bhN g12 w12) bE
   exact Zr [] (bhF g7 <| bhN g6 w6) bE

theorem ZtL (r : Zdy) (h : Zf2 a0 a1 a2 a3 N = some r) : LSpec Tryz.prog 31 #[Value.agg #[vi a0, vi a1], Value.agg #[vi a2, vi a3]] [] (ZlR r) (ZkU r) :=
 ZI Zv Tryz.func31 (by kernel_rfl) (by kernel_rfl) (fun r => by cases r <;> exact ZP _ rfl) (Zxj a0 a1 a2 a3 N) h

end
theorem ZpG {a0 a1 a2 a3 : Int} {N : Nat} {r : Zdy} (h : Zf2 a0 a1 a2 a3 N = some r) : LSpec Tryz.prog 31 #[Value.agg #[vi a0, vi a1], Value.agg #[vi a2, vi a3]] [] (ZlR r) (ZkU r) := ZtL a0 a1 a2 a3 N r h

end Ev
end Go.Proofs.YthfohmhipifiaaaGreat
namespace Go.Proofs.YthfohmhipifiaaaGreat
open Go.RowKit
namespace Ev
open Mach (oi ok_ite ok_bind okN okH enH)
noncomputable def Zl1 : ZJ → Value
 | .r0 => vn
 | .r1 w0 => vs 0 0 w0.length w0.length
noncomputable def ZkV : ZJ → List (Option AObj)
 | .r0 => []
 | .r1 w0 => [some (.cells (Za RC w0) 97)]

noncomputable def Zm7 : ZJ → Value
 | .r0 => ms RC ([] : List RJ)
 | .r1 w0 => ms RC w0
noncomputable def Zl2 : ZJ → List (Option AObj)
 | .r0 => []
 | .r1 w0 => []

def ZtM : Zt → Nat
 | .h1m0 v0 => 1
 | .h1m1 .. => 1
 | .h2m0 v0 => 2
 | .h2m1 .. => 2
 | .h3m0 v0 => 3
 | .h3m1 .. => 3
noncomputable def Zvo (L0 : List (List RI)) (L1 : List RL) (L2 : List RJ) : Zt → List (Nat × Value)
 | .h1m0 v0 => [(1, vp 0 0), (3, vn), (4, vi (v0 : Int))]
 | .h1m1 v0 v1 => [(1, vp 0 0), (3, vs 1 0 v0.length v0.length), (4, vi (v1 : Int))]
 | .h2m0 v0 => [(1, vp 0 0), (3, vn), (4, vi (v0 : Int)), (5, vq)]
 | .h2m1 v0 v1 v2 => [(1, vp 0 0), (3, vs 1 0 v0.length v0.length), (4, vi (v1 : Int)), (5, vi (v2 : Int))]
 | .h3m0 v0 => [(1, vp 0 0), (3, vn), (4, vi (v0 : Int)), (5, vq)]
 | .h3m1 v0 v1 v2 => [(1, vp 0 0), (3, vs 1 0 v0.length v0.length), (4, vi (v1 : Int)), (5, vi (v2 : Int))]
section
variable (L0 : List (List RI)) (L1 : List RL) (L2 : List RJ)
noncomputable def Zvp : Zt → List (Option AObj)
 | .h1m0 v0 => [some (.cells (κf L0 L1 L2) 34)]
 | .h1m1 v0 v1 => [some (.cells (κf L0 L1 L2) 34), some (.cells (Za RC v0) 97)]
 | .h2m0 v0 => [some (.cells (κf L0 L1 L2) 34)]
 | .h2m1 v0 v1 v2 => [some (.cells (κf L0 L1 L2) 34), some (.cells (Za RC v0) 97)]
 | .h3m0 v0 => [some (.cells (κf L0 L1 L2) 34)]
 | .h3m1 v0 v1 v2 => [some (.cells (κf L0 L1 L2) 34), some (.cells (Za RC v0) 97)]

noncomputable def Zvq : Nat → Code × List ZL
 | 1 => Z5 [1, 1, 0, 1, 3] (ZM Tryz.f10) []
 | 2 => Z5 [1, 1, 0, 1, 3, 7, 1, 0, 3, 1, 1, 0, 3] (ZM Tryz.f10) []
 | 3 => Znq [1, 1, 0, 1, 3, 7, 1, 0, 3, 1, 1, 1] (ZM Tryz.f10) []
 | _ => (.skip, [])
def ZtN : Nat → Bool
 | 1 => true
 | 2 => true
 | 3 => false
 | _ => true

noncomputable def ZbO (N : Nat) : Mach := ⟨Tryz.f10, [], Zt, ZJ, ZcX L0 L1 L2 N, ZtM, Zvq, ZtN, Zvo L0 L1 L2, Zvp L0 L1 L2, Zl1, ZkV⟩

theorem Zos (v0 N : Nat) : (ZbO L0 L1 L2 N).Ok Tryz.prog Ze (.h1m0 v0 : Zt) (Zd5 L0 L1 L2 N v0) := by
 unfold Zd5;refine ok_ite (fun g0 => ?_) fun g0 => ?_
 ·
  have w1 := tL 2 [.i (L2.getD v0 RJ.z).a5] <| kG RC L2 (((0 + (v0 * 8)) + 2) + 3) v0 5 1 8 <| kB v0 L2.length <| xkI (v0 : Int) v0 <| bhY g0 Zg
  refine ok_ite (fun g1 => ?_) fun g1 => ?_
  · refine oi fun g2 => ?_;exact Mach.okN0 [0] (vkW ((v0 : Int) + 1) (((v0 + 1) : Nat) : Int) <| bhT g1 w1) (bS (κf L0 L1 L2) <| bE)
  exact Mach.okH0 [0] (bhF g1 w1) (bS (κf L0 L1 L2) <| bE)
 exact Mach.okF0 [] (bhN g0 Zg) bE

theorem Zot (v0 : List RJ) (v1 N : Nat) : (ZbO L0 L1 L2 N).Ok Tryz.prog Ze (.h1m1 v0 v1 : Zt) (ZaL L0 L1 L2 N v0 v1) := by
 unfold ZaL;refine ok_ite (fun g0 => ?_) fun g0 => ?_
 ·
  have w1 := tL 2 [.i (L2.getD v1 RJ.z).a5] <| kG RC L2 (((0 + (v1 * 8)) + 2) + 3) v1 5 1 8 <| kB v1 L2.length <| xkI (v1 : Int) v1 <| bhY g0 Zg
  refine ok_ite (fun g1 => ?_) fun g1 => ?_
  · refine oi fun g2 => ?_;exact Mach.okN0 [0, 1] (vkW ((v1 : Int) + 1) (((v1 + 1) : Nat) : Int) <| bhT g1 w1) (bS (κf L0 L1 L2) <| bR <| bE)
  exact okH [0, 1] [some (vp 0 0), some (vs 1 0 v0.length v0.length), some (vi (v1 : Int)), some (vq)] (bhF g1 w1) (tC (tC (tC (tC (tE) ⟨Eq.trans (show κg = vq from ci) (by rfl), by rfl⟩)))) (bS (κf L0 L1 L2) <| bR <| bE)
 exact Mach.okF0 [1] (bhN g0 Zg) (bR <| bE)

theorem Zou (v0 N : Nat) : (ZbO L0 L1 L2 N).Ok Tryz.prog Ze (.h2m0 v0 : Zt) (Zgr L0 L1 L2 N v0) := by unfold Zgr;exact Mach.okC0 5 0 [0] Zg (bS (κf L0 L1 L2) <| bE)

theorem Zov (v0 : List RJ) (v1 v2 N : Nat) : (ZbO L0 L1 L2 N).Ok Tryz.prog Ze (.h2m1 v0 v1 v2 : Zt) (Zb8 L0 L1 L2 N v0 v1 v2) := by
 unfold Zb8;refine ok_ite (fun g0 => ?_) fun g0 => ?_
 ·
  have w1 := lkL RC v0 v2 0 2 <| kB v2 v0.length <| xkI (v2 : Int) v2 <| bhY g0 Zg
  refine oi fun g1 => ?_;have w2 := tL 1 [.i (L2.getD v1 RJ.z).a0, .i (L2.getD v1 RJ.z).a1] <| kG RC L2 ((0 + (v1 * 8)) + 0) v1 0 2 8 <| kB v1 L2.length <| xkI (v1 : Int) v1 w1
  refine ok_bind fun z2 c2 => ?_;cases z2 with
  | r0 y2_0 =>
   refine ok_ite (fun g3 => ?_) fun g3 => ?_
   · subst g3;refine oi fun g4 => ?_;exact Mach.okN0 [0, 1] (vkW ((v2 : Int) + 1) (((v2 + 1) : Nat) : Int) <| kK (tQ (ZpG c2) 2) w2) (bS (κf L0 L1 L2) <| bR <| bE)
   obtain rfl : y2_0 = false := by simpa using g3
   exact Mach.okC0 5 0 [0, 1] (kK (tQ (ZpG c2) 2) w2) (bS (κf L0 L1 L2) <| bR <| bE)
 exact Mach.okC0 5 0 [0, 1] (bhN g0 Zg) (bS (κf L0 L1 L2) <| bR <| bE)

theorem Zow (v0 N : Nat) : (ZbO L0 L1 L2 N).Ok Tryz.prog Ze (.h3m0 v0 : Zt) (Zd6 L0 L1 L2 N v0) := by unfold Zd6;refine oi fun g0 => ?_;refine oi fun g1 => ?_;exact okN [0, 2] [some (vp 0 0), some (vs 2 0 1 1), some (vi (((v0 + 1) : Nat) : Int))] (vkW ((v0 : Int) + 1) (((v0 + 1) : Nat) : Int) <| tL 1 (RC.cel (L2.getD v0 RJ.z)) <| kG RC L2 (0 + (v0 * 8)) v0 0 8 8 <| kB v0 L2.length <| xkI (v0 : Int) v0 Zg) (tC (tC (tC (tE)) ⟨Eq.trans (show (vs 1 0 ([(eJ (L2.getD v0 RJ.z))] : List RJ).length ([(eJ (L2.getD v0 RJ.z))] : List RJ).length : Value) = vs 1 0 1 1 from (Zi rfl eqA eqA)) (by rfl), by rfl⟩)) (bS (κf L0 L1 L2) <| bC (o := .cells [vi (L2.getD v0 RJ.z).a0, vi (L2.getD v0 RJ.z).a1, vi (L2.getD v0 RJ.z).a2, vi (L2.getD v0 RJ.z).a3, vi (L2.getD v0 RJ.z).a4, vi (L2.getD v0 RJ.z).a5, vi (L2.getD v0 RJ.z).a6, ms RA (L2.getD v0 RJ.z).a7] 97) (Zz (E := RC) _ (L := ([(eJ (L2.getD v0 RJ.z))] : List RJ)) _ (show ([vi (L2.getD v0 RJ.z).a0, vi (L2.getD v0 RJ.z).a1, vi (L2.getD v0 RJ.z).a2, vi (L2.getD v0 RJ.z).a3, vi (L2.getD v0 RJ.z).a4, vi (L2.getD v0 RJ.z).a5, vi (L2.getD v0 RJ.z).a6, ms RA (L2.getD v0 RJ.z).a7] : List Value) = Za RC ([(eJ (L2.getD v0 RJ.z))] : List RJ) from rfl)) <| bE)

noncomputable abbrev κbM (v0 : List RJ) (v2 : Nat) := (dP (0 = (v0.length - v2) ∧ Z4 ((v0.length - v2) * 8) (List.drop (0 + (v2 * 8)) (Za RC v0)) = some [] ∧ Zu Zbg [] = true))
noncomputable abbrev κ6 (v0 : List RJ) (v2 : Nat) := (Za RC (v0.take (v2 - 0)))
noncomputable abbrev κY (v0 : List RJ) (v2 : Nat) (L2 : List RJ) (v1 : Nat) := (Za RC ((v0.take (v2 - 0)) ++ ([(eJ (L2.getD v1 RJ.z))] : List RJ)))
noncomputable abbrev κM (v0 : List RJ) (v2 : Nat) := (Za RC ((v0.drop v2).take (v0.length - v2)))
theorem Zox (v0 : List RJ) (v1 v2 N : Nat) : (ZbO L0 L1 L2 N).Ok Tryz.prog Ze (.h3m1 v0 v1 v2 : Zt) (Zd7 L0 L1 L2 N v0 v1 v2) := by
 unfold Zd7;refine oi fun g0 => ?_;have w1 := kX (dP (0 ≤ v2 ∧ v2 ≤ v0.length)) true (Zn ⟨ltA, ltA⟩) <| kI (v2 : Int) (Int.ofNat v2) <| tW 0 (.sl 0 v2) <| kR 0 Zg
 refine ok_ite (fun g1 => ?_) fun g1 => ?_
 ·
  have w2 := tW 0 (.ap0) <| kX (dP (0 = (v2 - 0) ∧ Z4 ((v2 - 0) * 8) (List.drop (0 + (0 * 8)) (Za RC v0)) = some [] ∧ Zu Zbg [] = true)) true (Zn ⟨by omega, by rw [show (v2 - 0) = 0 by omega]; rfl, rfl⟩) w1
  refine oi fun g2 => ?_;have w3 := kX (dP (v2 ≤ v0.length ∧ v0.length ≤ v0.length)) true (Zn ⟨ltA, ltA⟩) <| kR v0.length <| tW 1 (.sl v2 v0.length) <| kI (v2 : Int) (Int.ofNat v2) <| tL 1 (RC.cel (L2.getD v1 RJ.z)) <| kG RC L2 (0 + (v1 * 8)) v1 0 8 8 <| kB v1 L2.length <| xkI (v1 : Int) v1 w2
  refine ok_ite (fun g3 => ?_) fun g3 => ?_
  · refine oi fun g4 => ?_;exact okN [0, 3] [some (vp 0 0), some (vs 3 0 1 1), some (κbU v1)] (vkW ((v1 : Int) + 1) (((v1 + 1) : Nat) : Int) <| tW 0 (.ap0) <| kX (κbM v0 v2) true (Zn ⟨by omega, by rw [show (v0.length - v2) = 0 by omega]; rfl, rfl⟩) w3) (tC (tC (tC (tE)) ⟨Eq.trans (show (vs 1 0 ([(eJ (L2.getD v1 RJ.z))] : List RJ).length ([(eJ (L2.getD v1 RJ.z))] : List RJ).length : Value) = vs 1 0 1 1 from (Zi rfl eqA eqA)) (by rfl), by rfl⟩)) (bS (κf L0 L1 L2) <| bC (o := .cells [vi (L2.getD v1 RJ.z).a0, vi (L2.getD v1 RJ.z).a1, vi (L2.getD v1 RJ.z).a2, vi (L2.getD v1 RJ.z).a3, vi (L2.getD v1 RJ.z).a4, vi (L2.getD v1 RJ.z).a5, vi (L2.getD v1 RJ.z).a6, ms RA (L2.getD v1 RJ.z).a7] 97) (Zz (E := RC) _ (L := ([(eJ (L2.getD v1 RJ.z))] : List RJ)) _ (show ([vi (L2.getD v1 RJ.z).a0, vi (L2.getD v1 RJ.z).a1, vi (L2.getD v1 RJ.z).a2, vi (L2.getD v1 RJ.z).a3, vi (L2.getD v1 RJ.z).a4, vi (L2.getD v1 RJ.z).a5, vi (L2.getD v1 RJ.z).a6, ms RA (L2.getD v1 RJ.z).a7] : List Value) = Za RC ([(eJ (L2.getD v1 RJ.z))] : List RJ) from rfl)) <| bE)
  refine oi fun g4 => ?_;refine oi fun g5 => ?_;exact okN [0, 4] [some (vp 0 0), some (vs 4 0 (1 + (v0.length - v2)) (1 + (v0.length - v2))), some (κbU v1)] (vkW ((v1 : Int) + 1) (((v1 + 1) : Nat) : Int) <| tW 0 (.ap (v0.length - v2) (κM v0 v2) (Za RC (([(eJ (L2.getD v1 RJ.z))] : List RJ) ++ ((v0.drop v2).take (v0.length - v2))))) <| kX (dP (((v0.length - v2) = (v0.length - v2) ∧ Z4 ((v0.length - v2) * 8) (List.drop (0 + (v2 * 8)) (Za RC v0)) = some (κM v0 v2) ∧ Zu Zbg (κM v0 v2) = true) ∧ 0 < (v0.length - v2) ∧ (v0.length - v2) ≤ 100000 ∧ 1 < 1 + (v0.length - v2) ∧ 1 ≤ 100000 ∧ 1 * 8 ≤ (List.length [vi (L2.getD v1 RJ.z).a0, vi (L2.getD v1 RJ.z).a1, vi (L2.getD v1 RJ.z).a2, vi (L2.getD v1 RJ.z).a3, vi (L2.getD v1 RJ.z).a4, vi (L2.getD v1 RJ.z).a5, vi (L2.getD v1 RJ.z).a6, ms RA (L2.getD v1 RJ.z).a7]) ∧ List.take (1 * 8) [vi (L2.getD v1 RJ.z).a0, vi (L2.getD v1 RJ.z).a1, vi (L2.getD v1 RJ.z).a2, vi (L2.getD v1 RJ.z).a3, vi (L2.getD v1 RJ.z).a4, vi (L2.getD v1 RJ.z).a5, vi (L2.getD v1 RJ.z).a6, ms RA (L2.getD v1 RJ.z).a7] ++ (κM v0 v2) = (Za RC (([(eJ (L2.getD v1 RJ.z))] : List RJ) ++ ((v0.drop v2).take (v0.length - v2)))))) true (Zn ⟨⟨rfl, (Zun (E := RC) (L := v0) (a := v2) (n := (v0.length - v2)) (by omega) (by show _ = _ * 8; omega) (show _ = _ * 8 from rfl) rfl)⟩, by omega, by omega, ltA, by omega, (Zar (E := RC) (L := ([(eJ (L2.getD v1 RJ.z))] : List RJ)) (M := ((v0.drop v2).take (v0.length - v2))) (n := 1) (show _ = _ * 8 from rfl) ltA (R := (([(eJ (L2.getD v1 RJ.z))] : List RJ) ++ ((v0.drop v2).take (v0.length - v2)))) (by rw [List.take_of_length_le ltA]))⟩) w3) (tC (tC (tC (tE)) ⟨Eq.trans (show (vs 1 0 (([(eJ (L2.getD v1 RJ.z))] : List RJ) ++ ((v0.drop v2).take (v0.length - v2))).length (([(eJ (L2.getD v1 RJ.z))] : List RJ) ++ ((v0.drop v2).take (v0.length - v2))).length : Value) = vs 1 0 (1 + (v0.length - v2)) (1 + (v0.length - v2)) from (Zi rfl eqA eqA)) (by rfl), by rfl⟩)) (bS (κf L0 L1 L2) <| bR <| bE)
 refine oi fun g2 => ?_;have w3 := tW 0 (.ap (v2 - 0) (κ6 v0 v2) (κ6 v0 v2)) <| kX (dP (((v2 - 0) = (v2 - 0) ∧ Z4 ((v2 - 0) * 8) (List.drop (0 + (0 * 8)) (Za RC v0)) = some (κ6 v0 v2) ∧ Zu Zbg (κ6 v0 v2) = true) ∧ 0 < (v2 - 0) ∧ (v2 - 0) ≤ 100000 ∧ (κ6 v0 v2) = (κ6 v0 v2))) true (Zn ⟨⟨rfl, (Zun (E := RC) (L := v0) (a := 0) (n := (v2 - 0)) (by omega) (by show _ = _ * 8; omega) (show _ = _ * 8 from rfl) (by rw [List.drop_zero]))⟩, by omega, by omega, rfl⟩) w1
 refine oi fun g3 => ?_;have w4 := kX (dP (v2 ≤ v0.length ∧ v0.length ≤ v0.length)) true (Zn ⟨ltA, ltA⟩) <| kR v0.length <| tW 0 (.sl v2 v0.length) <| kI (v2 : Int) (Int.ofNat v2) <| tW 0 (.ap 1 [vi (L2.getD v1 RJ.z).a0, vi (L2.getD v1 RJ.z).a1, vi (L2.getD v1 RJ.z).a2, vi (L2.getD v1 RJ.z).a3, vi (L2.getD v1 RJ.z).a4, vi (L2.getD v1 RJ.z).a5, vi (L2.getD v1 RJ.z).a6, ms RA (L2.getD v1 RJ.z).a7] (κY v0 v2 L2 v1)) <| kX (dP ((1 = 1 ∧ Z4 (1 * 8) (List.drop 0 [vi (L2.getD v1 RJ.z).a0, vi (L2.getD v1 RJ.z).a1, vi (L2.getD v1 RJ.z).a2, vi (L2.getD v1 RJ.z).a3, vi (L2.getD v1 RJ.z).a4, vi (L2.getD v1 RJ.z).a5, vi (L2.getD v1 RJ.z).a6, ms RA (L2.getD v1 RJ.z).a7]) = some [vi (L2.getD v1 RJ.z).a0, vi (L2.getD v1 RJ.z).a1, vi (L2.getD v1 RJ.z).a2, vi (L2.getD v1 RJ.z).a3, vi (L2.getD v1 RJ.z).a4, vi (L2.getD v1 RJ.z).a5, vi (L2.getD v1 RJ.z).a6, ms RA (L2.getD v1 RJ.z).a7] ∧ Zu Zbg [vi (L2.getD v1 RJ.z).a0, vi (L2.getD v1 RJ.z).a1, vi (L2.getD v1 RJ.z).a2, vi (L2.getD v1 RJ.z).a3, vi (L2.getD v1 RJ.z).a4, vi (L2.getD v1 RJ.z).a5, vi (L2.getD v1 RJ.z).a6, ms RA (L2.getD v1 RJ.z).a7] = true) ∧ 0 < 1 ∧ 1 ≤ 100000 ∧ (v2 - 0) < (v2 - 0) + 1 ∧ (v2 - 0) ≤ 100000 ∧ (v2 - 0) * 8 ≤ (List.length (κ6 v0 v2)) ∧ List.take ((v2 - 0) * 8) (κ6 v0 v2) ++ [vi (L2.getD v1 RJ.z).a0, vi (L2.getD v1 RJ.z).a1, vi (L2.getD v1 RJ.z).a2, vi (L2.getD v1 RJ.z).a3, vi (L2.getD v1 RJ.z).a4, vi (L2.getD v1 RJ.z).a5, vi (L2.getD v1 RJ.z).a6, ms RA (L2.getD v1 RJ.z).a7] = (κY v0 v2 L2 v1))) true (Zn ⟨⟨rfl, ⟨rfl, rfl⟩⟩, by omega, by omega, ltA, by omega, (Zar (E := RC) (L := (v0.take (v2 - 0))) (M := ([(eJ (L2.getD v1 RJ.z))] : List RJ)) (n := (v2 - 0)) (show _ = _ * 8 from rfl) ltA (R := ((v0.take (v2 - 0)) ++ ([(eJ (L2.getD v1 RJ.z))] : List RJ))) (by rw [List.take_of_length_le ltA]))⟩) <| tL 1 (RC.cel (L2.getD v1 RJ.z)) <| kG RC L2 (0 + (v1 * 8)) v1 0 8 8 <| kB v1 L2.length <| xkI (v1 : Int) v1 w3
 refine ok_ite (fun g4 => ?_) fun g4 => ?_
 · refine oi fun g5 => ?_;exact okN [0, 4] [some (vp 0 0), some (vs 4 0 ((v2 - 0) + 1) ((v2 - 0) + 1)), some (κbU v1)] (vkW ((v1 : Int) + 1) (((v1 + 1) : Nat) : Int) <| tW 0 (.ap0) <| kX (κbM v0 v2) true (Zn ⟨by omega, by rw [show (v0.length - v2) = 0 by omega]; rfl, rfl⟩) w4) (tC (tC (tC (tE)) ⟨Eq.trans (show (vs 1 0 ((v0.take (v2 - 0)) ++ ([(eJ (L2.getD v1 RJ.z))] : List RJ)).length ((v0.take (v2 - 0)) ++ ([(eJ (L2.getD v1 RJ.z))] : List RJ)).length : Value) = vs 1 0 ((v2 - 0) + 1) ((v2 - 0) + 1) from (Zi rfl eqA eqA)) (by rfl), by rfl⟩)) (bS (κf L0 L1 L2) <| bR <| bE)
 refine oi fun g5 => ?_;refine oi fun g6 => ?_;refine oi fun g7 => ?_;exact okN [0, 5] [some (vp 0 0), some (vs 5 0 (((v2 - 0) + 1) + (v0.length - v2)) (((v2 - 0) + 1) + (v0.length - v2))), some (κbU v1)] (vkW ((v1 : Int) + 1) (((v1 + 1) : Nat) : Int) <| tW 0 (.ap (v0.length - v2) (κM v0 v2) (Za RC (((v0.take (v2 - 0)) ++ ([(eJ (L2.getD v1 RJ.z))] : List RJ)) ++ ((v0.drop v2).take (v0.length - v2))))) <| kX (dP (((v0.length - v2) = (v0.length - v2) ∧ Z4 ((v0.length - v2) * 8) (List.drop (0 + (v2 * 8)) (Za RC v0)) = some (κM v0 v2) ∧ Zu Zbg (κM v0 v2) = true) ∧ 0 < (v0.length - v2) ∧ (v0.length - v2) ≤ 100000 ∧ ((v2 - 0) + 1) < ((v2 - 0) + 1) + (v0.length - v2) ∧ ((v2 - 0) + 1) ≤ 100000 ∧ ((v2 - 0) + 1) * 8 ≤ (List.length (κY v0 v2 L2 v1)) ∧ List.take (((v2 - 0) + 1) * 8) (κY v0 v2 L2 v1) ++ (κM v0 v2) = (Za RC (((v0.take (v2 - 0)) ++ ([(eJ (L2.getD v1 RJ.z))] : List RJ)) ++ ((v0.drop v2).take (v0.length - v2)))))) true (Zn ⟨⟨rfl, (Zun (E := RC) (L := v0) (a := v2) (n := (v0.length - v2)) (by omega) (by show _ = _ * 8; omega) (show _ = _ * 8 from rfl) rfl)⟩, by omega, by omega, ltA, by omega, (Zar (E := RC) (L := ((v0.take (v2 - 0)) ++ ([(eJ (L2.getD v1 RJ.z))] : List RJ))) (M := ((v0.drop v2).take (v0.length - v2))) (n := ((v2 - 0) + 1)) (show _ = _ * 8 from rfl) ltA (R := (((v0.take (v2 - 0)) ++ ([(eJ (L2.getD v1 RJ.z))] : List RJ)) ++ ((v0.drop v2).take (v0.length - v2)))) (by rw [List.take_of_length_le ltA]))⟩) w4) (tC (tC (tC (tE)) ⟨Eq.trans (show (vs 1 0 (((v0.take (v2 - 0)) ++ ([(eJ (L2.getD v1 RJ.z))] : List RJ)) ++ ((v0.drop v2).take (v0.length - v2))).length (((v0.take (v2 - 0)) ++ ([(eJ (L2.getD v1 RJ.z))] : List RJ)) ++ ((v0.drop v2).take (v0.length - v2))).length : Value) = vs 1 0 (((v2 - 0) + 1) + (v0.length - v2)) (((v2 - 0) + 1) + (v0.length - v2)) from (Zi rfl eqA eqA)) (by rfl), by rfl⟩)) (bS (κf L0 L1 L2) <| bR <| bE)

theorem Zst (N : Nat) : (ZbO L0 L1 L2 N).Enter Tryz.prog Ze #[Value.agg (κd L0 L1 L2)] (Zie L0 L1 L2 N) := by unfold Zie;exact enH [0] [some (vp 0 0), some (vn), some (vq)] Zg (tC (tC (tC (tE) ⟨Eq.trans (show κg = vq from ci) (by rfl), by rfl⟩))) (bS (κf L0 L1 L2) <| bE)

theorem Zoy (N : Nat) (r : ZJ) (h : Zdb L0 L1 L2 N = some r) : LSpec Tryz.prog 10 #[Value.agg (κd L0 L1 L2)] [] (Zl1 r) (ZkV r) :=
 Mach.specT Zv (ZbO L0 L1 L2 N) Tryz.func10 (fun x => (show (ZbO L0 L1 L2 N).Ok Tryz.prog Ze x (ZcX L0 L1 L2 N x) from by
  cases x with
  | h1m0 v0 => exact Zos L0 L1 L2 v0 N
  | h1m1 v0 v1 => exact Zot L0 L1 L2 v0 v1 N
  | h2m0 v0 => exact Zou L0 L1 L2 v0 N
  | h2m1 v0 v1 v2 => exact Zov L0 L1 L2 v0 v1 v2 N
  | h3m0 v0 => exact Zow L0 L1 L2 v0 N
  | h3m1 v0 v1 v2 => exact Zox L0 L1 L2 v0 v1 v2 N
  )) (Zst L0 L1 L2 N) h

theorem ZpH (N : Nat) (r : ZJ) (h : Zdb L0 L1 L2 N = some r) : LSpec Tryz.prog 10 #[Value.agg (κd L0 L1 L2)] [] (Zm7 r) (Zl2 r) := by
 have h0 := Zoy L0 L1 L2 N r h;cases r with
 | r0 => exact (LSpec.nlv (v2 := ms RC ([] : List RJ)) h0 rfl rfl)
 | r1 w0 => exact (LSpec.frzv (E := RC) (L := w0) (post := []) (v2 := ms RC w0) h0 (show 0 ≤ 0 from by decide) (show 0 < 1000000000 from by decide) trivial rfl rfl rfl)

end
theorem ZeO {L0 : List (List RI)} {L1 : List RL} {L2 : List RJ} {N : Nat} {r : ZJ} (h : Zdb L0 L1 L2 N = some r) : LSpec Tryz.prog 10 #[Value.agg (κd L0 L1 L2)] [] (Zm7 r) (Zl2 r) := ZpH L0 L1 L2 N r h

open Mach (oi ok_ite ok_none okN enH en_ite en_none)
noncomputable def ZpI : fifo_ItemsR → Value
 | .r0 => Value.tuple #[vn, vq]
 | .r1 w0 => Value.tuple #[vs 0 0 w0.length w0.length, vq]
noncomputable def Zof : fifo_ItemsR → List (Option AObj)
 | .r0 => []
 | .r1 w0 => [some (.cells (Za eI w0) 3)]

noncomputable def Zry : fifo_ItemsR → Value
 | .r0 => Value.tuple #[vn, vq]
 | .r1 w0 => Value.tuple #[ms eI w0, vq]
noncomputable def ZpJ : fifo_ItemsR → List (Option AObj)
 | .r0 => []
 | .r1 w0 => []

def ZzR : Zag → Nat
 | .h1m0 .. => 1
 | .h2m0 .. => 2
 | .h2m1 .. => 2
noncomputable def Z1m (L0 : List RJ) (a1 a2 a3 : Int) : Zag → List (Nat × Value)
 | .h1m0 v1 v5 => [(2, vi a3), (3, vp 0 0), (4, vp 1 0), (8, vp 2 0), (9, vi v1)]
 | .h2m0 .. => [(3, vp 0 0), (10, Value.func (.func 32) #[] #[vp 1 0, vp 0 0]), (11, vp 2 0), (14, vp 3 0), (15, vp 4 0), (16, vn), (17, vp 5 0), (18, vp 6 0)]
 | .h2m1 v0 v2 v3 v4 v5 v6 v7 v8 v9 v10 v11 v12 v13 v14 v15 v16 v17 v18 => [(3, vp 0 0), (10, Value.func (.func 32) #[] #[vp 1 0, vp 0 0]), (11, vp 2 0), (14, vp 3 0), (15, vp 4 0), (16, vs 5 0 v0.length v0.length), (17, vp 6 0), (18, vp 7 0)]
noncomputable def Z1n (L0 : List RJ) (a1 a2 a3 : Int) : Zag → List (Option AObj)
 | .h1m0 v1 v5 => [some (.cells [ms RC L0] 32), some (.cells [vi a1, vi a2] 44), some (.cells [Value.map (some 3)] 99), some (.ro (Zet v5) true)]
 | .h2m0 v1 v2 v3 v4 v5 v6 v7 v8 v9 v10 v11 v12 v13 v16 v17 => [some (.cells [ms RC L0] 32), some (.cells [Value.map (some 7)] 99), some (.cells [vi v2, vi v3, vi v4, vi v5, vi v6, vi v7, vi v8, ms RA v9] 97), some (.cells [vi v10, vi v11] 44), some (.cells [vi v12, vi v13] 44), some (.cells [vi 2, vq] 44), some (.cells [vi v16, vi v17] 44), some (.ro (Zet v1) true)]
 | .h2m1 v0 v2 v3 v4 v5 v6 v7 v8 v9 v10 v11 v12 v13 v14 v15 v16 v17 v18 => [some (.cells [ms RC L0] 32), some (.cells [Value.map (some 8)] 99), some (.cells [vi v3, vi v4, vi v5, vi v6, vi v7, vi v8, vi v9, ms RA v10] 97), some (.cells [vi v11, vi v12] 44), some (.cells [vi v13, vi v14] 44), some (.cells (Za eI v0) 3), some (.cells [vi v15, vi v16] 44), some (.cells [vi v17, vi v18] 44), some (.ro (Zet v2) true)]

noncomputable def Z1o : Nat → Code × List ZL
 | 1 => Z5 [1, 1, 0, 1, 3] (ZM Tryz.f11) []
 | 2 => Z5 [1, 1, 1, 1, 1, 1, 1, 1, 1, 1, 0, 1, 3] (ZM Tryz.f11) []
 | _ => (.skip, [])

section
variable (L0 : List RJ) (a1 a2 a3 : Int)
noncomputable def ZfM (N : Nat) : Mach := ⟨Tryz.f11, [], Zag, fifo_ItemsR, Zeh L0 a1 a2 a3 N, ZzR, Z1o, ilT, Z1m L0 a1 a2 a3, Z1n L0 a1 a2 a3, ZpI, Zof⟩

theorem Zsu (v1 : Int) (v5 : List RH) (N : Nat) : (ZfM L0 a1 a2 a3 N).Ok Tryz.prog Ze (.h1m0 v1 v5 : Zag) (ZcQ L0 a1 a2 a3 N v1 v5) := by
 unfold ZcQ;refine ok_ite (fun g0 => ?_) fun g0 => ?_
 · refine oi fun g1 => ?_;exact Mach.okN0 [0, 1, 2, 3] (tW 0 (.mp (Zcp (ZdE v5 (L0.getD (v1).toNat RJ.z).a0 (L0.getD (v1).toNat RJ.z).a1 v1))) <| kX (dP (putM Tryz.prog 44 (Value.agg #[vi (L0.getD (v1).toNat RJ.z).a0, vi (L0.getD (v1).toNat RJ.z).a1]) (vi v1) (Zcp v5) = some (Zcp (ZdE v5 (L0.getD (v1).toNat RJ.z).a0 (L0.getD (v1).toNat RJ.z).a1 v1)))) true (Zn (Z6w _ _ _ _)) <| tL 2 [.i (L0.getD (v1).toNat RJ.z).a0, .i (L0.getD (v1).toNat RJ.z).a1] <| kG RC L0 ((0 + ((v1).toNat * 8)) + 0) ((v1).toNat) 0 2 8 <| kB (v1).toNat L0.length <| xkI v1 ((v1).toNat) <| bkY (v1 ≥ 0) Zg) (bS [ms RC L0] <| bS [vi a1, vi a2] <| bS [Value.map (some 3)] <| bC (o := .ro (Zet (ZdE v5 (L0.getD (v1).toNat RJ.z).a0 (L0.getD (v1).toNat RJ.z).a1 v1)) true) (show Zet (ZdE v5 (L0.getD (v1).toNat RJ.z).a0 (L0.getD (v1).toNat RJ.z).a1 v1) = Zet (ZdE v5 (L0.getD (v1).toNat RJ.z).a0 (L0.getD (v1).toNat RJ.z).a1 v1) from rfl) <| bE)
 refine oi fun g1 => ?_;refine ok_ite (fun _ => ok_none) (fun g2 => ?_);refine ok_ite (fun _ => ok_none) (fun g3 => ?_);refine oi fun g4 => ?_;refine oi fun g5 => ?_;refine oi fun g6 => ?_;refine oi fun g7 => ?_;refine ok_ite (fun _ => ok_none) (fun g8 => ?_);refine ok_ite (fun _ => ok_none) (fun g9 => ?_);refine ok_ite (fun _ => ok_none) (fun g10 => ?_);refine ok_ite (fun _ => ok_none) (fun g11 => ?_);exact Mach.okH0 [0, 2, 8, 10, 11, 13, 14, 3] (bkE (((L0.getD ((Zh v5 a1 a2)).toNat RJ.z).a7.getD (((8 : Int) + a3)).toNat RG.z).a0) 1 <| bkE (((L0.getD ((Zh v5 a1 a2)).toNat RJ.z).a7.getD ((((2 : Int) * a3) + 1)).toNat RG.z).a0) 2 <| bkE (((L0.getD ((Zh v5 a1 a2)).toNat RJ.z).a7.getD (((2 : Int) * a3)).toNat RG.z).a0) 2 <| tL 1 (RA.cel ((L0.getD ((Zh v5 a1 a2)).toNat RJ.z).a7.getD (((8 : Int) + a3)).toNat RG.z)) <| kG RA ((L0.getD ((Zh v5 a1 a2)).toNat RJ.z).a7) (0 + ((((8 : Int) + a3)).toNat * 2)) ((((8 : Int) + a3)).toNat) 0 2 2 <| kB (((8 : Int) + a3)).toNat (L0.getD ((Zh v5 a1 a2)).toNat RJ.z).a7.length <| xkI ((8 : Int) + a3) ((((8 : Int) + a3)).toNat) <| vkW ((8 : Int) + a3) ((8 : Int) + a3) <| tL 1 (RA.cel ((L0.getD ((Zh v5 a1 a2)).toNat RJ.z).a7.getD ((((2 : Int) * a3) + 1)).toNat RG.z)) <| kG RA ((L0.getD ((Zh v5 a1 a2)).toNat RJ.z).a7) (0 + (((((2 : Int) * a3) + 1)).toNat * 2)) (((((2 : Int) * a3) + 1)).toNat) 0 2 2 <| kB ((((2 : Int) * a3) + 1)).toNat (L0.getD ((Zh v5 a1 a2)).toNat RJ.z).a7.length <| xkI (((2 : Int) * a3) + 1) (((((2 : Int) * a3) + 1)).toNat) <| vkW (((2 : Int) * a3) + 1) (((2 : Int) * a3) + 1) <| vkW ((2 : Int) * a3) ((2 : Int) * a3) <| tL 2 (RA.cel ((L0.getD ((Zh v5 a1 a2)).toNat RJ.z).a7.getD (((2 : Int) * a3)).toNat RG.z)) <| kG RA ((L0.getD ((Zh v5 a1 a2)).toNat RJ.z).a7) (0 + ((((2 : Int) * a3)).toNat * 2)) ((((2 : Int) * a3)).toNat) 0 2 2 <| kB (((2 : Int) * a3)).toNat (L0.getD ((Zh v5 a1 a2)).toNat RJ.z).a7.length <| xkI ((2 : Int) * a3) ((((2 : Int) * a3)).toNat) <| vkW ((2 : Int) * a3) ((2 : Int) * a3) <| tB 1 <| hN g8 <| bhY g7 <| tB 1 <| kY (a3 ≥ 0) <| tL 7 (RC.cel (L0.getD ((Zh v5 a1 a2)).toNat RJ.z)) <| kG RC L0 (0 + (((Zh v5 a1 a2)).toNat * 8)) (((Zh v5 a1 a2)).toNat) 0 8 8 <| kB ((Zh v5 a1 a2)).toNat L0.length <| xkI (Zh v5 a1 a2) (((Zh v5 a1 a2)).toNat) <| bkO ((a1 == 2) && ((a2 == 0) && true)) <| tB 1 <| kE a1 2 <| tW 1 (.lk (some (vi (Zh v5 a1 a2)))) <| kX (dP ((Zdo Tryz.prog 44 (Value.agg #[vi a1, vi a2]) (Zcp v5)).map (Option.map Prod.snd) = some (some (vi (Zh v5 a1 a2))))) true (Zn (ZyH (by assumption))) <| bkN (v1 ≥ 0) Zg) (bS [ms RC L0] <| bS [Value.map (some 3)] <| bS [vi (L0.getD ((Zh v5 a1 a2)).toNat RJ.z).a0, vi (L0.getD ((Zh v5 a1 a2)).toNat RJ.z).a1, vi (L0.getD ((Zh v5 a1 a2)).toNat RJ.z).a2, vi (L0.getD ((Zh v5 a1 a2)).toNat RJ.z).a3, vi (L0.getD ((Zh v5 a1 a2)).toNat RJ.z).a4, vi (L0.getD ((Zh v5 a1 a2)).toNat RJ.z).a5, vi (L0.getD ((Zh v5 a1 a2)).toNat RJ.z).a6, ms RA (L0.getD ((Zh v5 a1 a2)).toNat RJ.z).a7] <| bS [vi ((L0.getD ((Zh v5 a1 a2)).toNat RJ.z).a7.getD ((((2 : Int) * a3) + 1)).toNat RG.z).a0, vi ((L0.getD ((Zh v5 a1 a2)).toNat RJ.z).a7.getD ((((2 : Int) * a3) + 1)).toNat RG.z).a1] <| bS [vi ((L0.getD ((Zh v5 a1 a2)).toNat RJ.z).a7.getD (((8 : Int) + a3)).toNat RG.z).a0, vi ((L0.getD ((Zh v5 a1 a2)).toNat RJ.z).a7.getD (((8 : Int) + a3)).toNat RG.z).a1] <| bS [vi 2, vq] <| bS [vi ((L0.getD ((Zh v5 a1 a2)).toNat RJ.z).a7.getD (((2 : Int) * a3)).toNat RG.z).a0, vi ((L0.getD ((Zh v5 a1 a2)).toNat RJ.z).a7.getD (((2 : Int) * a3)).toNat RG.z).a1] <| bC (o := .ro (Zet v5) true) (show Zet v5 = Zet v5 from rfl) <| bE)

theorem Zsv (v1 : List RH) (v2 v3 v4 v5 v6 v7 v8 : Int) (v9 : List RG) (v10 v11 v12 v13 v16 v17 : Int) (N : Nat) : (ZfM L0 a1 a2 a3 N).Ok Tryz.prog Ze (.h2m0 v1 v2 v3 v4 v5 v6 v7 v8 v9 v10 v11 v12 v13 v16 v17 : Zag) (ZcR L0 a1 a2 a3 N v1 v2 v3 v4 v5 v6 v7 v8 v9 v10 v11 v12 v13 v16 v17) := by
 unfold ZcR;refine ok_ite (fun g0 => ?_) fun g0 => ?_
 · refine ok_ite (fun _ => ok_none) (fun g1 => ?_);refine ok_ite (fun _ => ok_none) (fun g2 => ?_);exact Mach.okF0 [] (bkE v13 0 <| tB 1 <| kX ((!(((2 : Int) == v10) && (((0 : Int) == v11) && true)))) false (by rw [Bool.not_eq_false']; first | (simp only [beq_self_eq_true, Bool.and_self]; done) | (simp only [Bool.and_true, Bool.and_eq_true, beq_iff_eq] <;> first | omega | (simp_all; done) | grind)) <| bkZ ((v16 == 2) && ((v17 == 0) && true)) Zg) bE
 refine oi fun g1 => ?_;refine ok_ite (fun _ => ok_none) (fun g2 => ?_);refine oi fun g3 => ?_;refine oi fun g4 => ?_;refine oi fun g5 => ?_;refine oi fun g6 => ?_;refine oi fun g7 => ?_;refine oi fun g8 => ?_;exact okN (rg 0 5 (16 :: (5 :: (17 :: [7])))) [some (vp 0 0), some (Value.func (.func 32) #[] #[vp 1 0, vp 0 0]), some (vp 2 0), some (vp 3 0), some (vp 4 0), some (vs 16 0 1 1), some (vp 5 0), some (vp 17 0)] (tL 3 (RA.cel ((L0.getD ((Zh v1 v16 v17)).toNat RJ.z).a7.getD 0 RG.z)) <| kG RA ((L0.getD ((Zh v1 v16 v17)).toNat RJ.z).a7) (0 + (0 * 2)) 0 0 2 2 <| kB 0 (L0.getD ((Zh v1 v16 v17)).toNat RJ.z).a7.length <| xkI 0 0 <| tL 2 [.i ((L0.getD ((Zh v1 v16 v17)).toNat RJ.z).a7.getD 1 RG.z).a1] <| kG RA ((L0.getD ((Zh v1 v16 v17)).toNat RJ.z).a7) ((0 + (1 * 2)) + 1) 1 1 1 2 <| kB 1 (L0.getD ((Zh v1 v16 v17)).toNat RJ.z).a7.length <| xkI 1 1 <| tB 1 <| kF 0 (L0.length : Int) <| bhT g8 <| tL 1 [.i ((L0.getD ((Zh v1 v16 v17)).toNat RJ.z).a7.getD 1 RG.z).a0] <| kG RA ((L0.getD ((Zh v1 v16 v17)).toNat RJ.z).a7) ((0 + (1 * 2)) + 0) 1 0 1 2 <| kB 1 (L0.getD ((Zh v1 v16 v17)).toNat RJ.z).a7.length <| xkI 1 1 <| bhT g7 <| tL 4 [.i ((L0.getD ((Zh v1 v16 v17)).toNat RJ.z).a7.getD 0 RG.z).a0] <| kG RA ((L0.getD ((Zh v1 v16 v17)).toNat RJ.z).a7) ((0 + (0 * 2)) + 0) 0 0 1 2 <| kB 0 (L0.getD ((Zh v1 v16 v17)).toNat RJ.z).a7.length <| xkI 0 0 <| bhT g6 <| tB 1 <| hD g5 <| tL 9 (RC.cel (L0.getD ((Zh v1 v16 v17)).toNat RJ.z)) <| kG RC L0 (0 + (((Zh v1 v16 v17)).toNat * 8)) (((Zh v1 v16 v17)).toNat) 0 8 8 <| kB ((Zh v1 v16 v17)).toNat L0.length <| xkI (Zh v1 v16 v17) (((Zh v1 v16 v17)).toNat) <| bkO ((v16 == 2) && ((v17 == 0) && true)) <| tB 2 <| kE v16 2 <| tW 2 (.lk (some (vi (Zh v1 v16 v17)))) <| kX (dP ((Zdo Tryz.prog 44 (Value.agg #[vi v16, vi v17]) (Zcp v1)).map (Option.map Prod.snd) = some (some (vi (Zh v1 v16 v17))))) true (Zn (ZyH (by assumption))) <| bkO ((v16 == 2) && ((v17 == 0) && true)) Zg) (tC (tC (tC (tC (tC (tC (tC (tC (tE))) ⟨Eq.trans (show (vs 5 0 ([((L0.getD ((Zh v1 v16 v17)).toNat RJ.z).a7.getD 1 RG.z).a1] : List Int).length ([((L0.getD ((Zh v1 v16 v17)).toNat RJ.z).a7.getD 1 RG.z).a1] : List Int).length : Value) = vs 5 0 1 1 from (Zi rfl eqA eqA)) (by rfl), by rfl⟩)))))) (bS [ms RC L0] <| bS [Value.map (some 7)] <| bS [vi (L0.getD ((Zh v1 v16 v17)).toNat RJ.z).a0, vi (L0.getD ((Zh v1 v16 v17)).toNat RJ.z).a1, vi (L0.getD ((Zh v1 v16 v17)).toNat RJ.z).a2, vi (L0.getD ((Zh v1 v16 v17)).toNat RJ.z).a3, vi (L0.getD ((Zh v1 v16 v17)).toNat RJ.z).a4, vi (L0.getD ((Zh v1 v16 v17)).toNat RJ.z).a5, vi (L0.getD ((Zh v1 v16 v17)).toNat RJ.z).a6, ms RA (L0.getD ((Zh v1 v16 v17)).toNat RJ.z).a7] <| bS [vi v10, vi v11] <| bS [vi v12, vi v13] <| bC (o := .cells [vi ((L0.getD ((Zh v1 v16 v17)).toNat RJ.z).a7.getD 1 RG.z).a1] 3) (Zz (E := eI) _ (L := ([((L0.getD ((Zh v1 v16 v17)).toNat RJ.z).a7.getD 1 RG.z).a1] : List Int)) _ (show ([vi ((L0.getD ((Zh v1 v16 v17)).toNat RJ.z).a7.getD 1 RG.z).a1] : List Value) = Za eI ([((L0.getD ((Zh v1 v16 v17)).toNat RJ.z).a7.getD 1 RG.z).a1] : List Int) from rfl)) <| bS [vi v16, vi v17] <| bS [vi ((L0.getD ((Zh v1 v16 v17)).toNat RJ.z).a7.getD 0 RG.z).a0, vi ((L0.getD ((Zh v1 v16 v17)).toNat RJ.z).a7.getD 0 RG.z).a1] <| bC (o := .ro (Zet v1) true) (show Zet v1 = Zet v1 from rfl) <| bE)

theorem Zsw (v0 : List Int) (v2 : List RH) (v3 v4 v5 v6 v7 v8 v9 : Int) (v10 : List RG) (v11 v12 v13 v14 v15 v16 v17 v18 : Int) (N : Nat) : (ZfM L0 a1 a2 a3 N).Ok Tryz.prog Ze (.h2m1 v0 v2 v3 v4 v5 v6 v7 v8 v9 v10 v11 v12 v13 v14 v15 v16 v17 v18 : Zag) (ZcS L0 a1 a2 a3 N v0 v2 v3 v4 v5 v6 v7 v8 v9 v10 v11 v12 v13 v14 v15 v16 v17 v18) := by
 unfold ZcS;refine ok_ite (fun g0 => ?_) fun g0 => ?_
 · refine ok_ite (fun _ => ok_none) (fun g1 => ?_);refine ok_ite (fun _ => ok_none) (fun g2 => ?_);exact Mach.okF0 [5] (bkE v14 (v0.length : Int) <| tB 1 <| kX ((!((v15 == v11) && ((v16 == v12) && true)))) false (by rw [Bool.not_eq_false']; first | (simp only [beq_self_eq_true, Bool.and_self]; done) | (simp only [Bool.and_true, Bool.and_eq_true, beq_iff_eq] <;> first | omega | (simp_all; done) | grind)) <| bkZ ((v17 == 2) && ((v18 == 0) && true)) Zg) (bR <| bE)
 refine oi fun g1 => ?_;refine ok_ite (fun _ => ok_none) (fun g2 => ?_);refine oi fun g3 => ?_;refine oi fun g4 => ?_;refine oi fun g5 => ?_;refine oi fun g6 => ?_;refine oi fun g7 => ?_;refine oi fun g8 => ?_;refine ok_ite (fun _ => ok_none) (fun g9 => ?_);refine oi fun g10 => ?_;exact okN (rg 0 5 (17 :: (6 :: (18 :: [8])))) [some (vp 0 0), some (Value.func (.func 32) #[] #[vp 1 0, vp 0 0]), some (vp 2 0), some (vp 3 0), some (vp 4 0), some (vs 17 0 (v0.length + 1) (v0.length + 1)), some (vp 6 0), some (vp 18 0)] (tL 3 (RA.cel ((L0.getD ((Zh v2 v17 v18)).toNat RJ.z).a7.getD 0 RG.z)) <| kG RA ((L0.getD ((Zh v2 v17 v18)).toNat RJ.z).a7) (0 + (0 * 2)) 0 0 2 2 <| kB 0 (L0.getD ((Zh v2 v17 v18)).toNat RJ.z).a7.length <| xkI 0 0 <| tW 3 (.ap 1 [vi ((L0.getD ((Zh v2 v17 v18)).toNat RJ.z).a7.getD 1 RG.z).a1] (Za eI (v0 ++ ([((L0.getD ((Zh v2 v17 v18)).toNat RJ.z).a7.getD 1 RG.z).a1] : List Int)))) <| kA eI v0 (((L0.getD ((Zh v2 v17 v18)).toNat RJ.z).a7.getD 1 RG.z).a1) <| tL 2 [.i ((L0.getD ((Zh v2 v17 v18)).toNat RJ.z).a7.getD 1 RG.z).a1] <| kG RA ((L0.getD ((Zh v2 v17 v18)).toNat RJ.z).a7) ((0 + (1 * 2)) + 1) 1 1 1 2 <| kB 1 (L0.getD ((Zh v2 v17 v18)).toNat RJ.z).a7.length <| xkI 1 1 <| tB 1 <| hF g9 <| bhT g8 <| tL 1 [.i ((L0.getD ((Zh v2 v17 v18)).toNat RJ.z).a7.getD 1 RG.z).a0] <| kG RA ((L0.getD ((Zh v2 v17 v18)).toNat RJ.z).a7) ((0 + (1 * 2)) + 0) 1 0 1 2 <| kB 1 (L0.getD ((Zh v2 v17 v18)).toNat RJ.z).a7.length <| xkI 1 1 <| bhT g7 <| tL 4 [.i ((L0.getD ((Zh v2 v17 v18)).toNat RJ.z).a7.getD 0 RG.z).a0] <| kG RA ((L0.getD ((Zh v2 v17 v18)).toNat RJ.z).a7) ((0 + (0 * 2)) + 0) 0 0 1 2 <| kB 0 (L0.getD ((Zh v2 v17 v18)).toNat RJ.z).a7.length <| xkI 0 0 <| bhT g6 <| tB 1 <| hD g5 <| tL 9 (RC.cel (L0.getD ((Zh v2 v17 v18)).toNat RJ.z)) <| kG RC L0 (0 + (((Zh v2 v17 v18)).toNat * 8)) (((Zh v2 v17 v18)).toNat) 0 8 8 <| kB ((Zh v2 v17 v18)).toNat L0.length <| xkI (Zh v2 v17 v18) (((Zh v2 v17 v18)).toNat) <| bkO ((v17 == 2) && ((v18 == 0) && true)) <| tB 2 <| kE v17 2 <| tW 2 (.lk (some (vi (Zh v2 v17 v18)))) <| kX (dP ((Zdo Tryz.prog 44 (Value.agg #[vi v17, vi v18]) (Zcp v2)).map (Option.map Prod.snd) = some (some (vi (Zh v2 v17 v18))))) true (Zn (ZyH (by assumption))) <| bkO ((v17 == 2) && ((v18 == 0) && true)) Zg) (tC (tC (tC (tC (tC (tC (tC (tC (tE))) ⟨Eq.trans (show (vs 5 0 (v0 ++ ([((L0.getD ((Zh v2 v17 v18)).toNat RJ.z).a7.getD 1 RG.z).a1] : List Int)).length (v0 ++ ([((L0.getD ((Zh v2 v17 v18)).toNat RJ.z).a7.getD 1 RG.z).a1] : List Int)).length : Value) = vs 5 0 (v0.length + 1) (v0.length + 1) from (Zi rfl eqA eqA)) (by rfl), by rfl⟩)))))) (bS [ms RC L0] <| bS [Value.map (some 8)] <| bS [vi (L0.getD ((Zh v2 v17 v18)).toNat RJ.z).a0, vi (L0.getD ((Zh v2 v17 v18)).toNat RJ.z).a1, vi (L0.getD ((Zh v2 v17 v18)).toNat RJ.z).a2, vi (L0.getD ((Zh v2 v17 v18)).toNat RJ.z).a3, vi (L0.getD ((Zh v2 v17 v18)).toNat RJ.z).a4, vi (L0.getD ((Zh v2 v17 v18)).toNat RJ.z).a5, vi (L0.getD ((Zh v2 v17 v18)).toNat RJ.z).a6, ms RA (L0.getD ((Zh v2 v17 v18)).toNat RJ.z).a7] <| bS [vi v11, vi v12] <| bS [vi v13, vi v14] <| bR <| bS [vi v17, vi v18] <| bS [vi ((L0.getD ((Zh v2 v17 v18)).toNat RJ.z).a7.getD 0 RG.z).a0, vi ((L0.getD ((Zh v2 v17 v18)).toNat RJ.z).a7.getD 0 RG.z).a1] <| bC (o := .ro (Zet v2) true) (show Zet v2 = Zet v2 from rfl) <| bE)

theorem Zxk (N : Nat) : (ZfM L0 a1 a2 a3 N).Enter Tryz.prog Ze (κt L0 a1 a2 a3) (Zif L0 a1 a2 a3 N) := by unfold Zif;refine en_ite (fun g0 => ?_) (fun _ => en_none);exact Mach.enH0 [0, 1, 3, 2] (vkW ((L0.length : Int) - 1) ((L0.length : Int) - 1) Zg) (bS [ms RC L0] <| bS [vi a1, vi a2] <| bS [Value.map (some 2)] <| bC (o := .ro (Zet ([] : List RH)) true) (show Zet ([] : List RH) = Zet ([] : List RH) from rfl) <| bE)

theorem Zsx (N : Nat) (r : fifo_ItemsR) (h : ZeM L0 a1 a2 a3 N = some r) : LSpec Tryz.prog 11 (κt L0 a1 a2 a3) [] (ZpI r) (Zof r) :=
 Mach.specT Zv (ZfM L0 a1 a2 a3 N) Tryz.func11 (fun x => (show (ZfM L0 a1 a2 a3 N).Ok Tryz.prog Ze x (Zeh L0 a1 a2 a3 N x) from by
  cases x with
  | h1m0 v1 v5 => exact Zsu L0 a1 a2 a3 v1 v5 N
  | h2m0 v1 v2 v3 v4 v5 v6 v7 v8 v9 v10 v11 v12 v13 v16 v17 => exact Zsv L0 a1 a2 a3 v1 v2 v3 v4 v5 v6 v7 v8 v9 v10 v11 v12 v13 v16 v17 N
  | h2m1 v0 v2 v3 v4 v5 v6 v7 v8 v9 v10 v11 v12 v13 v14 v15 v16 v17 v18 => exact Zsw L0 a1 a2 a3 v0 v2 v3 v4 v5 v6 v7 v8 v9 v10 v11 v12 v13 v14 v15 v16 v17 v18 N
  )) (Zxk L0 a1 a2 a3 N) h

theorem ZtO (N : Nat) (r : fifo_ItemsR) (h : ZeM L0 a1 a2 a3 N = some r) : LSpec Tryz.prog 11 (κt L0 a1 a2 a3) [] (Zry r) (ZpJ r) := by
 have h0 := Zsx L0 a1 a2 a3 N r h;cases r with
 | r0 => exact h0
 | r1 w0 => exact (LSpec.frzv (E := eI) (L := w0) (post := []) (v2 := Value.tuple #[ms eI w0, vq]) h0 (show 0 ≤ 0 from by decide) (show 0 < 1000000000 from by decide) trivial rfl rfl rfl)

end
theorem Zfm {L0 : List RJ} {a1 a2 a3 : Int} {N : Nat} {r : fifo_ItemsR} (h : ZeM L0 a1 a2 a3 N = some r) : LSpec Tryz.prog 11 (κt L0 a1 a2 a3) [] (Zry r) (ZpJ r) := ZtO L0 a1 a2 a3 N r h

noncomputable def Zrz : Zdz → Value
 | .r0 => vT
section
variable (L0 : List Int)
noncomputable def ZpK : Zdz → List (Option AObj)
 | .r0 => [some (.cells (Za eI L0) 3)]

def ZzS : ZcB → Nat
 | .h1m0 => 1
noncomputable def Z1p : ZcB → List (Nat × Value)
 | .h1m0 => [(0, vn), (1, vs 0 0 L0.length L0.length), (5, vq)]
noncomputable def Z1q : ZcB → List (Option AObj)
 | .h1m0 => [some (.cells (Za eI L0) 3)]

noncomputable def Z1r : Nat → Code × List ZL
 | 1 => Z5 [1, 1, 0, 1, 3] (ZM Tryz.f19) []
 | _ => (.skip, [])

noncomputable def Zjc (N : Nat) : Mach := ⟨Tryz.f19, [.cells (Za eI L0) 3], ZcB, Zdz, ZiI L0 N, ZzS, Z1r, ilT, Z1p L0, Z1q L0, Zrz, ZpK L0⟩

theorem Zsy (N : Nat) : (Zjc L0 N).Ok Tryz.prog Ze (.h1m0 : ZcB) (Zig L0 N) := by unfold Zig;exact Mach.okF0 [0] Zg (bR <| bE)

theorem Zxl (N : Nat) : (Zjc L0 N).Enter Tryz.prog Ze #[vn, vs 0 0 L0.length L0.length] (Zk8 L0 N) := by unfold Zk8;refine en_ite (fun _ => en_none) (fun g0 => ?_);exact Mach.enH0 [0] (bkE 0 (L0.length : Int) Zg) (bR <| bE)

theorem ZtP (N : Nat) (r : Zdz) (h : Zih L0 N = some r) : LSpec Tryz.prog 19 #[vn, vs 0 0 L0.length L0.length] [.cells (Za eI L0) 3] (Zrz r) (ZpK L0 r) :=
 Mach.specT Zv (Zjc L0 N) Tryz.func19 (fun x => (show (Zjc L0 N).Ok Tryz.prog Ze x (ZiI L0 N x) from by
  cases x with
  | h1m0 => exact Zsy L0 N
  )) (Zxl L0 N) h

end
noncomputable def ZzT {L0 : List Int} {N : Nat} (h : Zih L0 N = some (.r0)) (ks : List Nat) (n : Nat) : ToldS := ⟨#[vn, vs (nth ks 0) 0 L0.length L0.length], [((nth ks 0), .cells (Za eI L0) 3)], vT, [], 0⟩

theorem ZpL {L0 : List Int} {N : Nat} (h : Zih L0 N = some (.r0)) (ks : List Nat) (n : Nat) (hk : ks.length = 1 := by rfl) (hnd : ks.Nodup := by decide +kernel) (hlt : ∀ k ∈ ks, k < n := by decide +kernel) : (ZzT (N := N)  h ks n).P Tryz.prog 19 n :=
 match ks, hk, hnd, hlt with
 | [k0], _, hnd, hlt => Zcj (show LSpec Tryz.prog 19 #[vn, vs 0 0 L0.length L0.length] [.cells (Za eI L0) 3] (vT) [some (.cells (Za eI L0) 3)] from ZtP L0 N _ h) _ n [] hnd hlt

noncomputable def Zr0 : Zd0 → Value
 | .r0 => vT
noncomputable def ZpM (L0 L1 : List RG) : Zd0 → List (Option AObj)
 | .r0 => (κW L1)

def ZzU : Zcg → Nat
 | .h1m0 v2 => 1
section
variable (L0 L1 : List RG)
noncomputable def Z1s : Zcg → List (Nat × Value)
 | .h1m0 v2 => [(0, ms RA L0), (1, vs 0 0 L1.length L1.length), (5, vi (v2 : Int))]
noncomputable def Z1t (L0 L1 : List RG) : Zcg → List (Option AObj)
 | .h1m0 v2 => (κW L1)

noncomputable def Z1u : Nat → Code × List ZL
 | 1 => Z5 [1, 1, 0, 1, 3] (ZM Tryz.f18) []
 | _ => (.skip, [])

noncomputable def Zjd (N : Nat) : Mach := ⟨Tryz.f18, (κX L1), Zcg, Zd0, ZiJ L0 L1 N, ZzU, Z1u, ilT, Z1s L0 L1, Z1t L0 L1, Zr0, ZpM L0 L1⟩

theorem Zsz (v2 N : Nat) : (Zjd L0 L1 N).Ok Tryz.prog Ze (.h1m0 v2 : Zcg) (Zii L0 L1 N v2) := by
 unfold Zii;refine ok_ite (fun g0 => ?_) fun g0 => ?_
 · refine oi fun g1 => ?_;refine ok_ite (fun _ => ok_none) (fun g2 => ?_);refine oi fun g3 => ?_;exact Mach.okN0 [0] (vkW ((v2 : Int) + 1) (((v2 + 1) : Nat) : Int) <| bkX ((!(((L0.getD v2 RG.z).a0 == (L1.getD v2 RG.z).a0) && (((L0.getD v2 RG.z).a1 == (L1.getD v2 RG.z).a1) && true)))) false (by rw [Bool.not_eq_false']; first | (simp only [beq_self_eq_true, Bool.and_self]; done) | (simp only [Bool.and_true, Bool.and_eq_true, beq_iff_eq] <;> first | omega | (simp_all; done) | grind)) <| Za2 RA L1 v2 0 2 <| kB v2 L1.length <| xkI (v2 : Int) v2 <| lkG RA L0 (0 + (v2 * 2)) v2 0 2 2 <| kB v2 L0.length <| xkI (v2 : Int) v2 <| bhY g0 Zg) (bR <| bE)
 exact Mach.okF0 [0] (bhN g0 Zg) (bR <| bE)

noncomputable abbrev κbf := #[ms RA L0, vs 0 0 L1.length L1.length]
theorem Zxm (N : Nat) : (Zjd L0 L1 N).Enter Tryz.prog Ze (κbf L0 L1) (Zk9 L0 L1 N) := by unfold Zk9;refine en_ite (fun _ => en_none) (fun g0 => ?_);exact enH [0] [some (ms RA L0), some (vs 0 0 L1.length L1.length), some (vq)] (bkE (L0.length : Int) (L1.length : Int) Zg) (tC (tC (tC (tE) ⟨Eq.trans (show κg = vq from ci) (by rfl), by rfl⟩))) (bR <| bE)

theorem ZtQ (N : Nat) (r : Zd0) (h : Zf3 L0 L1 N = some r) : LSpec Tryz.prog 18 (κbf L0 L1) (κX L1) (Zr0 r) (ZpM L0 L1 r) :=
 Mach.specT Zv (Zjd L0 L1 N) Tryz.func18 (fun x => (show (Zjd L0 L1 N).Ok Tryz.prog Ze x (ZiJ L0 L1 N x) from by
  cases x with
  | h1m0 v2 => exact Zsz L0 L1 v2 N
  )) (Zxm L0 L1 N) h

end
noncomputable def ZzV {L0 L1 : List RG} {N : Nat} (h : Zf3 L0 L1 N = some (.r0)) (ks : List Nat) (n : Nat) : ToldS := ⟨#[ms RA L0, vs (nth ks 0) 0 L1.length L1.length], [((nth ks 0), .cells (Za RA L1) 44)], vT, [], 0⟩

theorem Zit {L0 L1 : List RG} {N : Nat} (h : Zf3 L0 L1 N = some (.r0)) (ks : List Nat) (n : Nat) (hk : ks.length = 1 := by rfl) (hnd : ks.Nodup := by decide +kernel) (hlt : ∀ k ∈ ks, k < n := by decide +kernel) : (ZzV (N := N)  h ks n).P Tryz.prog 18 n :=
 match ks, hk, hnd, hlt with
 | [k0], _, hnd, hlt => Zcj (show LSpec Tryz.prog 18 (κbf L0 L1) (κX L1) (vT) (κW L1) from ZtQ L0 L1 N _ h) _ n [] hnd hlt

noncomputable def Zog : Zcn → Value
 | .r0 => vT
noncomputable def Zm8 (L0 L1 : List Int) : Zcn → List (Option AObj)
 | .r0 => [some (.cells (Za eI L1) 3)]

def Zvr : Zbs → Nat
 | .h1m0 v2 => 1
section
variable (L0 L1 : List Int)
noncomputable def Zxn : Zbs → List (Nat × Value)
 | .h1m0 v2 => [(0, ms eI L0), (1, vs 0 0 L1.length L1.length), (5, vi (v2 : Int))]
noncomputable def Zxo (L0 L1 : List Int) : Zbs → List (Option AObj)
 | .h1m0 v2 => [some (.cells (Za eI L1) 3)]

noncomputable def Zxp : Nat → Code × List ZL
 | 1 => Z5 [1, 1, 0, 1, 3] (ZM Tryz.f19) []
 | _ => (.skip, [])

noncomputable def Zhm (N : Nat) : Mach := ⟨Tryz.f19, [.cells (Za eI L1) 3], Zbs, Zcn, Zhz L0 L1 N, Zvr, Zxp, ilT, Zxn L0 L1, Zxo L0 L1, Zog, Zm8 L0 L1⟩

theorem ZpN (v2 N : Nat) : (Zhm L0 L1 N).Ok Tryz.prog Ze (.h1m0 v2 : Zbs) (ZgP L0 L1 N v2) := by
 unfold ZgP;refine ok_ite (fun g0 => ?_) fun g0 => ?_
 · refine oi fun g1 => ?_;refine ok_ite (fun _ => ok_none) (fun g2 => ?_);refine oi fun g3 => ?_;exact Mach.okN0 [0] (vkW ((v2 : Int) + 1) (((v2 + 1) : Nat) : Int) <| bkE (L0.getD v2 0) (L1.getD v2 0) <| Za2 eI L1 v2 0 1 <| kB v2 L1.length <| xkI (v2 : Int) v2 <| lkG eI L0 (0 + (v2 * 1)) v2 0 1 1 <| kB v2 L0.length <| xkI (v2 : Int) v2 <| bhY g0 Zg) (bR <| bE)
 exact Mach.okF0 [0] (bhN g0 Zg) (bR <| bE)

theorem ZtR (N : Nat) : (Zhm L0 L1 N).Enter Tryz.prog Ze #[ms eI L0, vs 0 0 L1.length L1.length] (ZiK L0 L1 N) := by unfold ZiK;refine en_ite (fun _ => en_none) (fun g0 => ?_);exact enH [0] [some (ms eI L0), some (vs 0 0 L1.length L1.length), some (vq)] (bkE (L0.length : Int) (L1.length : Int) Zg) (tC (tC (tC (tE) ⟨Eq.trans (show κg = vq from ci) (by rfl), by rfl⟩))) (bR <| bE)

theorem ZqQ (N : Nat) (r : Zcn) (h : Zgs L0 L1 N = some r) : LSpec Tryz.prog 19 #[ms eI L0, vs 0 0 L1.length L1.length] [.cells (Za eI L1) 3] (Zog r) (Zm8 L0 L1 r) :=
 Mach.specT Zv (Zhm L0 L1 N) Tryz.func19 (fun x => (show (Zhm L0 L1 N).Ok Tryz.prog Ze x (Zhz L0 L1 N x) from by
  cases x with
  | h1m0 v2 => exact ZpN L0 L1 v2 N
  )) (ZtR L0 L1 N) h

end
noncomputable def Zvs {L0 L1 : List Int} {N : Nat} (h : Zgs L0 L1 N = some (.r0)) (ks : List Nat) (n : Nat) : ToldS := ⟨#[ms eI L0, vs (nth ks 0) 0 L1.length L1.length], [((nth ks 0), .cells (Za eI L1) 3)], vT, [], 0⟩

theorem Zm9 {L0 L1 : List Int} {N : Nat} (h : Zgs L0 L1 N = some (.r0)) (ks : List Nat) (n : Nat) (hk : ks.length = 1 := by rfl) (hnd : ks.Nodup := by decide +kernel) (hlt : ∀ k ∈ ks, k < n := by decide +kernel) : (Zvs (N := N)  h ks n).P Tryz.prog 19 n :=
 match ks, hk, hnd, hlt with
 | [k0], _, hnd, hlt => Zcj (show LSpec Tryz.prog 19 #[ms eI L0, vs 0 0 L1.length L1.length] [.cells (Za eI L1) 3] (vT) [some (.cells (Za eI L1) 3)] from ZqQ L0 L1 N _ h) _ n [] hnd hlt

noncomputable def ZkW  : ZcT → Value
 | .r0 => vT
noncomputable def ZjO  : ZcT → List (Option AObj)
 | .r0 => []

noncomputable abbrev κbT := (Za RF ([(⟨0, 2, 0, 5, 2⟩ : RM), (⟨0, 2, 0, 6, 2⟩ : RM), (⟨1, 2, 0, 0, 0⟩ : RM)] : List RM))
noncomputable abbrev κbI (y0_0 : List RI) := (Za (Zp RB) ([y0_0] : List (List RI)))
noncomputable abbrev κ9 := (Za eI ([(6 : Int)] : List Int))
noncomputable abbrev κ7 := [vi 1, vi 1, vi 1, vi 1, vi 1, vi 5]
noncomputable abbrev κ5 := [Value.int .u8 0, Value.int .u8 2, Value.int .u8 0, Value.int .u8 5, Value.int .u8 2, Value.int .u8 0, Value.int .u8 2, Value.int .u8 0, Value.int .u8 6, Value.int .u8 2, Value.int .u8 1, Value.int .u8 2, Value.int .u8 0, Value.int .u8 0, Value.int .u8 0]
noncomputable abbrev κB := (Za RA ([(⟨1, 1⟩ : RG), (⟨1, 1⟩ : RG), (⟨1, 5⟩ : RG)] : List RG))
theorem Zvt  (N : Nat) : Fx Tryz.prog Ze Tryz.f8 [] #[] (ZkW ) (ZjO ) (ZcC  N) := by
 unfold ZcC;refine Zx (fun z0 c0 => ?_);cases z0 with
 | r0 y0_0 =>
  have w1 := kKa (Zqv c0 [0] 1) <| kX (dP (κ5 = κbT)) true (Zn (show (κ5 : List Value) = κbT from rfl)) Zg
  refine Zx (fun z1 c1 => ?_);cases z1 with
  | r0 y1_0 y1_1 y1_2 =>
   have w2 := kKa (ZzO c1 [1] 2) <| kX (dP ([ms RB y0_0] = (κbI y0_0))) true (Zn (show ([ms RB y0_0] : List Value) = (κbI y0_0) from rfl)) w1
   refine Zx (fun z2 c2 => ?_);cases z2 with
   | r0 =>
    exact Zd
   | r1 y2_0 =>
    refine Zx (fun z3 c3 => ?_);cases z3 with
    | r0 =>
     refine Zx (fun z4 c4 => ?_);cases z4 with
     | r0 =>
      refine Zb (fun g5 => ?_) (fun _ => Zd);refine Zx (fun z6 c6 => ?_);cases z6 with
      | r0 =>
       exact Zr [] (Z2F 3 (Zit c6 [11] 12) <| kX (dP (κ7 = κB)) true (Zn (show (κ7 : List Value) = κB from rfl)) <| tL 3 [(mc RA (y1_1.getD 0 RL.z).a19)] <| kG RE y1_1 ((0 + (0 * 20)) + 19) 0 19 1 20 <| kB 0 y1_1.length <| xkI 0 0 <| kKa (ZpL c4 [7] 8) <| kX (dP ([vi 6] = κ9)) true (Zn (show ([vi 6] : List Value) = κ9 from rfl)) <| kKg 4 (tQ (Zfm c3) 7) <| kKg 2 (tQ (ZeO c2) 3) w2) bE
    | r1 y3_0 =>
     refine Zx (fun z4 c4 => ?_);cases z4 with
     | r0 =>
      refine Zb (fun g5 => ?_) (fun _ => Zd);refine Zx (fun z6 c6 => ?_);cases z6 with
      | r0 =>
       exact Zr [] (Z2F 3 (Zit c6 [11] 12) <| kX (dP (κ7 = κB)) true (Zn (show (κ7 : List Value) = κB from rfl)) <| tL 3 [(mc RA (y1_1.getD 0 RL.z).a19)] <| kG RE y1_1 ((0 + (0 * 20)) + 19) 0 19 1 20 <| kB 0 y1_1.length <| xkI 0 0 <| kKa (Zm9 c4 [7] 8) <| kX (dP ([vi 6] = κ9)) true (Zn (show ([vi 6] : List Value) = κ9 from rfl)) <| kKg 4 (tQ (Zfm c3) 7) <| kKg 2 (tQ (ZeO c2) 3) w2) bE
  | r1 y1_0 y1_1 y1_2 y1_3 =>
   have w2 := kKa (ZzQ c1 [1] 2) <| kX (dP ([ms RB y0_0] = (κbI y0_0))) true (Zn (show ([ms RB y0_0] : List Value) = (κbI y0_0) from rfl)) w1
   refine Zx (fun z2 c2 => ?_);cases z2 with
   | r0 =>
    exact Zd
   | r1 y2_0 =>
    refine Zx (fun z3 c3 => ?_);cases z3 with
    | r0 =>
     refine Zx (fun z4 c4 => ?_);cases z4 with
     | r0 =>
      refine Zb (fun g5 => ?_) (fun _ => Zd);refine Zx (fun z6 c6 => ?_);cases z6 with
      | r0 =>
       exact Zr [] (Z2F 3 (Zit c6 [11] 12) <| kX (dP (κ7 = κB)) true (Zn (show (κ7 : List Value) = κB from rfl)) <| tL 3 [(mc RA (y1_1.getD 0 RL.z).a19)] <| kG RE y1_1 ((0 + (0 * 20)) + 19) 0 19 1 20 <| kB 0 y1_1.length <| xkI 0 0 <| kKa (ZpL c4 [7] 8) <| kX (dP ([vi 6] = κ9)) true (Zn (show ([vi 6] : List Value) = κ9 from rfl)) <| kKg 4 (tQ (Zfm c3) 7) <| kKg 2 (tQ (ZeO c2) 3) w2) bE
    | r1 y3_0 =>
     refine Zx (fun z4 c4 => ?_);cases z4 with
     | r0 =>
      refine Zb (fun g5 => ?_) (fun _ => Zd);refine Zx (fun z6 c6 => ?_);cases z6 with
      | r0 =>
       exact Zr [] (Z2F 3 (Zit c6 [11] 12) <| kX (dP (κ7 = κB)) true (Zn (show (κ7 : List Value) = κB from rfl)) <| tL 3 [(mc RA (y1_1.getD 0 RL.z).a19)] <| kG RE y1_1 ((0 + (0 * 20)) + 19) 0 19 1 20 <| kB 0 y1_1.length <| xkI 0 0 <| kKa (Zm9 c4 [7] 8) <| kX (dP ([vi 6] = κ9)) true (Zn (show ([vi 6] : List Value) = κ9 from rfl)) <| kKg 4 (tQ (Zfm c3) 7) <| kKg 2 (tQ (ZeO c2) 3) w2) bE

theorem Zs0  (N : Nat) (r : ZcT) (h : ZcC  N = some r) : LSpec Tryz.prog 8 #[] [] (ZkW  r) (ZjO  r) :=
 ZI Zv Tryz.func8 (by kernel_rfl) (by kernel_rfl) (fun r => by cases r <;> exact ZP _ rfl) (Zvt  N) h

theorem Zbu  {N : Nat} {r : ZcT} (h : ZcC  N = some r) : LSpec Tryz.prog 8 #[] [] (ZkW  r) (ZjO  r) := Zs0  N r h

noncomputable def Zn9 : ZbI → Value
 | .r0 w0 w1 w2 w3 w4 w5 => Value.tuple #[Value.agg #[ms eI w0, ms eI w1, ms eI w2, ms eI w3], vi w4, Value.bool w5]
noncomputable def ZlS : ZbI → List (Option AObj)
 | .r0 w0 w1 w2 w3 w4 w5 => []

section
variable (L0 L1 L2 L3 : List Int)
noncomputable abbrev κN := #[ms eI L0, ms eI L1, ms eI L2, ms eI L3]
noncomputable abbrev κa := [ms eI ([] : List Int), ms eI ([] : List Int), ms eI ([] : List Int), ms eI ([] : List Int)]
theorem ZzW (a4 : Int) (N : Nat) : Fx Tryz.prog Ze Tryz.f46 [] #[Value.agg (κN L0 L1 L2 L3), vi a4] (Zn9) (ZlS) (Zd8 L0 L1 L2 L3 a4 N) := by
 unfold Zd8;have w0 := tW 0 (.apn 0 [] [] κa) <| kX (dP (List.map (nlV 0) [vn, vn, vn, vn] = κa)) true (Zn rfl) Zg
 refine Zb (fun g0 => ?_) (fun g0 => ?_)
 ·
  refine Zb (fun g1 => ?_) (fun g1 => ?_)
  · exact Zr [] (bhT g1 <| kB 0 4 <| xkJ a4 0 w0) bE
  exact Zr [] (kB 0 4 <| xkJ a4 0 <| kC (Znt (E := eI) (L := L0) (R := ((L0.drop 1).take (L0.length - 1))) (l := 1) (h := L0.length) (size := 1) ltA ltA (by decide) (by simp)) <| kR L0.length <| tW 0 (.ms 1 L0.length ((L0.drop 1).take (L0.length - 1)).length (Z9 eI ((L0.drop 1).take (L0.length - 1)))) <| kI 1 (Int.ofNat 1) <| kB 0 4 <| xkJ a4 0 <| tL 2 [.i (L0.getD 0 0)] <| kG eI L0 (0 + (0 * 1)) 0 0 1 1 <| kB 0 L0.length <| xkI 0 0 <| kB 0 4 <| xkJ a4 0 <| bhF g1 <| kB 0 4 <| xkJ a4 0 w0) bE
 refine Zb (fun g1 => ?_) (fun g1 => ?_)
 ·
  refine Zb (fun g2 => ?_) (fun g2 => ?_)
  · exact Zr [] (bhT g2 <| kB 1 4 <| xkJ a4 1 w0) bE
  exact Zr [] (kB 1 4 <| xkJ a4 1 <| kC (Znt (E := eI) (L := L1) (R := ((L1.drop 1).take (L1.length - 1))) (l := 1) (h := L1.length) (size := 1) ltA ltA (by decide) (by simp)) <| kR L1.length <| tW 0 (.ms 1 L1.length ((L1.drop 1).take (L1.length - 1)).length (Z9 eI ((L1.drop 1).take (L1.length - 1)))) <| kI 1 (Int.ofNat 1) <| kB 1 4 <| xkJ a4 1 <| tL 2 [.i (L1.getD 0 0)] <| kG eI L1 (0 + (0 * 1)) 0 0 1 1 <| kB 0 L1.length <| xkI 0 0 <| kB 1 4 <| xkJ a4 1 <| bhF g2 <| kB 1 4 <| xkJ a4 1 w0) bE
 refine Zb (fun g2 => ?_) (fun g2 => ?_)
 ·
  refine Zb (fun g3 => ?_) (fun g3 => ?_)
  · exact Zr [] (bhT g3 <| kB 2 4 <| xkJ a4 2 w0) bE
  exact Zr [] (kB 2 4 <| xkJ a4 2 <| kC (Znt (E := eI) (L := L2) (R := ((L2.drop 1).take (L2.length - 1))) (l := 1) (h := L2.length) (size := 1) ltA ltA (by decide) (by simp)) <| kR L2.length <| tW 0 (.ms 1 L2.length ((L2.drop 1).take (L2.length - 1)).length (Z9 eI ((L2.drop 1).take (L2.length - 1)))) <| kI 1 (Int.ofNat 1) <| kB 2 4 <| xkJ a4 2 <| tL 2 [.i (L2.getD 0 0)] <| kG eI L2 (0 + (0 * 1)) 0 0 1 1 <| kB 0 L2.length <| xkI 0 0 <| kB 2 4 <| xkJ a4 2 <| bhF g3 <| kB 2 4 <| xkJ a4 2 w0) bE
 refine Zb (fun g3 => ?_) (fun _ => Zd);refine Zb (fun g4 => ?_) (fun g4 => ?_)
 · exact Zr [] (bhT g4 <| kB 3 4 <| xkJ a4 3 w0) bE
 exact Zr [] (kB 3 4 <| xkJ a4 3 <| kC (Znt (E := eI) (L := L3) (R := ((L3.drop 1).take (L3.length - 1))) (l := 1) (h := L3.length) (size := 1) ltA ltA (by decide) (by simp)) <| kR L3.length <| tW 0 (.ms 1 L3.length ((L3.drop 1).take (L3.length - 1)).length (Z9 eI ((L3.drop 1).take (L3.length - 1)))) <| kI 1 (Int.ofNat 1) <| kB 3 4 <| xkJ a4 3 <| tL 2 [.i (L3.getD 0 0)] <| kG eI L3 (0 + (0 * 1)) 0 0 1 1 <| kB 0 L3.length <| xkI 0 0 <| kB 3 4 <| xkJ a4 3 <| bhF g4 <| kB 3 4 <| xkJ a4 3 w0) bE

theorem Zvu (a4 : Int) (N : Nat) (r : ZbI) (h : Zd8 L0 L1 L2 L3 a4 N = some r) : LSpec Tryz.prog 46 #[Value.agg (κN L0 L1 L2 L3), vi a4] [] (Zn9 r) (ZlS r) :=
 ZI Zv Tryz.func46 (by kernel_rfl) (by kernel_rfl) (fun r => by cases r <;> exact ZP _ rfl) (ZzW L0 L1 L2 L3 a4 N) h

end
theorem ZlT {L0 L1 L2 L3 : List Int} {a4 : Int} {N : Nat} {r : ZbI} (h : Zd8 L0 L1 L2 L3 a4 N = some r) : LSpec Tryz.prog 46 #[Value.agg (κN L0 L1 L2 L3), vi a4] [] (Zn9 r) (ZlS r) := Zvu L0 L1 L2 L3 a4 N r h

end Ev
end Go.Proofs.YthfohmhipifiaaaGreat
namespace Go.Proofs.YthfohmhipifiaaaGreat
open Go.IntKind (i64)
open Go.RowKit
namespace Ev
open Mach (oi ok_ite ok_none enH en_ite en_none)
noncomputable def ZpO : ZY → Value
 | .r0 w0 w1 w2 w3 => Value.tuple #[Value.agg #[ms eI w0, ms eI w1, ms eI w2, ms eI w3], vf]
 | .r1 w0 w1 w2 w3 => Value.tuple #[Value.agg #[vs 0 0 w0.length w0.length, ms eI w1, ms eI w2, ms eI w3], vT]
 | .r2 w0 w1 w2 w3 => Value.tuple #[Value.agg #[ms eI w0, vs 0 0 w1.length w1.length, ms eI w2, ms eI w3], vT]
 | .r3 w0 w1 w2 w3 => Value.tuple #[Value.agg #[ms eI w0, ms eI w1, vs 0 0 w2.length w2.length, ms eI w3], vT]
 | .r4 w0 w1 w2 w3 => Value.tuple #[Value.agg #[ms eI w0, ms eI w1, ms eI w2, vs 0 0 w3.length w3.length], vT]
noncomputable def Zoh : ZY → List (Option AObj)
 | .r0 w0 w1 w2 w3 => []
 | .r1 w0 w1 w2 w3 => [some (.cells (Za eI w0) 3)]
 | .r2 w0 w1 w2 w3 => [some (.cells (Za eI w1) 3)]
 | .r3 w0 w1 w2 w3 => [some (.cells (Za eI w2) 3)]
 | .r4 w0 w1 w2 w3 => [some (.cells (Za eI w3) 3)]

noncomputable def Zr1 : ZY → Value
 | .r0 w0 w1 w2 w3 => Value.tuple #[Value.agg #[ms eI w0, ms eI w1, ms eI w2, ms eI w3], vf]
 | .r1 w0 w1 w2 w3 => Value.tuple #[Value.agg #[ms eI w0, ms eI w1, ms eI w2, ms eI w3], vT]
 | .r2 w0 w1 w2 w3 => Value.tuple #[Value.agg #[ms eI w0, ms eI w1, ms eI w2, ms eI w3], vT]
 | .r3 w0 w1 w2 w3 => Value.tuple #[Value.agg #[ms eI w0, ms eI w1, ms eI w2, ms eI w3], vT]
 | .r4 w0 w1 w2 w3 => Value.tuple #[Value.agg #[ms eI w0, ms eI w1, ms eI w2, ms eI w3], vT]
noncomputable def ZpP : ZY → List (Option AObj)
 | .r0 w0 w1 w2 w3 => []
 | .r1 w0 w1 w2 w3 => []
 | .r2 w0 w1 w2 w3 => []
 | .r3 w0 w1 w2 w3 => []
 | .r4 w0 w1 w2 w3 => []

section
variable (L0 L1 L2 L3 : List Int) (a4 a5 a6 : Int)
theorem Zxq (N : Nat) : Fx Tryz.prog Ze Tryz.f47 [] #[Value.agg (κN L0 L1 L2 L3), vi a4, vi a5, vi a6] (ZpO) (Zoh) (ZcU L0 L1 L2 L3 a4 a5 a6 N) := by
 unfold ZcU;have w0 := tW 0 (.apn 0 [] [] κa) <| kX (dP (List.map (nlV 0) [vn, vn, vn, vn] = κa)) true (Zn rfl) Zg
 refine Zb (fun g0 => ?_) (fun g0 => ?_)
 ·
  refine Zb (fun g1 => ?_) (fun g1 => ?_)
  · exact Zr [] (bkY ((L0.length : Int) ≥ a6) <| kB 0 4 <| xkJ a4 0 w0) bE
  have w2 := kB 0 4 <| xkJ a4 0 <| bkN ((L0.length : Int) ≥ a6) <| kB 0 4 <| xkJ a4 0 w0
  refine Zb (fun g2 => ?_) (fun g2 => ?_)
  · exact fxC [4] (Value.tuple #[Value.agg #[vs 4 0 1 1, ms eI L1, ms eI L2, ms eI L3], vT]) (kB 0 4 <| xkJ a4 0 <| tW 0 (.ap0) <| kX (dP (0 = L0.length ∧ ((L0.length * 1 = 0 ∧ ([] : List Value) = []) ∨ ∃ c, L0.length * 1 ≠ 0 ∧ ZS (code (Z9 eI L0)) 0 (L0.length * 1) = some c ∧ ([] : List Value) = Zm c))) true (Zn ⟨by omega, .inl ⟨by omega, rfl⟩⟩) w2) (bC (o := .cells [vi a5] 3) (Zz (E := eI) _ (L := ([a5] : List Int)) _ (show ([vi a5] : List Value) = Za eI ([a5] : List Int) from rfl)) <| bE) (hv := ⟨Eq.trans (show (Value.tuple #[Value.agg #[vs 0 0 ([a5] : List Int).length ([a5] : List Int).length, ms eI L1, ms eI L2, ms eI L3], vT] : Value) = Value.tuple #[Value.agg #[vs 0 0 1 1, ms eI L1, ms eI L2, ms eI L3], vT] from (Zaw (Zw (ZbV (Zw (Zi rfl eqA eqA) (cr (cr (cr rfl))))) (cr rfl)))) (by rfl), by rfl⟩)
  refine Zb (fun g3 => ?_) (fun _ => Zd);exact fxC [5] (Value.tuple #[Value.agg #[vs 5 0 ((0 + L0.length) + 1) ((0 + L0.length) + 1), ms eI L1, ms eI L2, ms eI L3], vT]) (kB 0 4 <| xkJ a4 0 <| ZoZ eI L0 (0 + L0.length) a5 <| tW 0 (.ap L0.length (Za eI L0) (Za eI L0)) <| kX (dP ((L0.length = L0.length ∧ ((L0.length * 1 = 0 ∧ (Za eI L0) = []) ∨ ∃ c, L0.length * 1 ≠ 0 ∧ ZS (code (Z9 eI L0)) 0 (L0.length * 1) = some c ∧ (Za eI L0) = Zm c)) ∧ 0 < L0.length ∧ L0.length ≤ 100000 ∧ 0 < 0 + L0.length ∧ 0 ≤ 100000 ∧ 0 * 1 ≤ (List.length []) ∧ List.take (0 * 1) [] ++ (Za eI L0) = (Za eI L0))) true (Zn ⟨⟨rfl, (Zc5 (E := eI) (L := L0) (n := L0.length) (size := 1) rfl (by decide) (by omega))⟩, by omega, by omega, ltA, by omega, (Zar (E := eI) (L := ([] : List Int)) (M := L0) (n := 0) (show _ = _ * 1 from rfl) ltA (R := L0) (by rw [List.take_of_length_le ltA]; rfl))⟩) w2) (bR <| bE) (hv := ⟨Eq.trans (show (Value.tuple #[Value.agg #[vs 0 0 (L0 ++ ([a5] : List Int)).length (L0 ++ ([a5] : List Int)).length, ms eI L1, ms eI L2, ms eI L3], vT] : Value) = Value.tuple #[Value.agg #[vs 0 0 ((0 + L0.length) + 1) ((0 + L0.length) + 1), ms eI L1, ms eI L2, ms eI L3], vT] from (Zaw (Zw (ZbV (Zw (Zi rfl eqA eqA) (cr (cr (cr rfl))))) (cr rfl)))) (by rfl), by rfl⟩)
 refine Zb (fun g1 => ?_) (fun g1 => ?_)
 ·
  refine Zb (fun g2 => ?_) (fun g2 => ?_)
  · exact Zr [] (bkY ((L1.length : Int) ≥ a6) <| kB 1 4 <| xkJ a4 1 w0) bE
  have w3 := kB 1 4 <| xkJ a4 1 <| bkN ((L1.length : Int) ≥ a6) <| kB 1 4 <| xkJ a4 1 w0
  refine Zb (fun g3 => ?_) (fun g3 => ?_)
  · exact fxC [4] (Value.tuple #[Value.agg #[ms eI L0, vs 4 0 1 1, ms eI L2, ms eI L3], vT]) (kB 1 4 <| xkJ a4 1 <| tW 0 (.ap0) <| kX (dP (0 = L1.length ∧ ((L1.length * 1 = 0 ∧ ([] : List Value) = []) ∨ ∃ c, L1.length * 1 ≠ 0 ∧ ZS (code (Z9 eI L1)) 0 (L1.length * 1) = some c ∧ ([] : List Value) = Zm c))) true (Zn ⟨by omega, .inl ⟨by omega, rfl⟩⟩) w3) (bC (o := .cells [vi a5] 3) (Zz (E := eI) _ (L := ([a5] : List Int)) _ (show ([vi a5] : List Value) = Za eI ([a5] : List Int) from rfl)) <| bE) (hv := ⟨Eq.trans (show (Value.tuple #[Value.agg #[ms eI L0, vs 0 0 ([a5] : List Int).length ([a5] : List Int).length, ms eI L2, ms eI L3], vT] : Value) = Value.tuple #[Value.agg #[ms eI L0, vs 0 0 1 1, ms eI L2, ms eI L3], vT] from (Zaw (Zw (ZbV (cr (Zw (Zi rfl eqA eqA) (cr (cr rfl))))) (cr rfl)))) (by rfl), by rfl⟩)
  refine Zb (fun g4 => ?_) (fun _ => Zd);exact fxC [5] (Value.tuple #[Value.agg #[ms eI L0, vs 5 0 ((0 + L1.length) + 1) ((0 + L1.length) + 1), ms eI L2, ms eI L3], vT]) (kB 1 4 <| xkJ a4 1 <| ZoZ eI L1 (0 + L1.length) a5 <| tW 0 (.ap L1.length (Za eI L1) (Za eI L1)) <| kX (dP ((L1.length = L1.length ∧ ((L1.length * 1 = 0 ∧ (Za eI L1) = []) ∨ ∃ c, L1.length * 1 ≠ 0 ∧ ZS (code (Z9 eI L1)) 0 (L1.length * 1) = some c ∧ (Za eI L1) = Zm c)) ∧ 0 < L1.length ∧ L1.length ≤ 100000 ∧ 0 < 0 + L1.length ∧ 0 ≤ 100000 ∧ 0 * 1 ≤ (List.length []) ∧ List.take (0 * 1) [] ++ (Za eI L1) = (Za eI L1))) true (Zn ⟨⟨rfl, (Zc5 (E := eI) (L := L1) (n := L1.length) (size := 1) rfl (by decide) (by omega))⟩, by omega, by omega, ltA, by omega, (Zar (E := eI) (L := ([] : List Int)) (M := L1) (n := 0) (show _ = _ * 1 from rfl) ltA (R := L1) (by rw [List.take_of_length_le ltA]; rfl))⟩) w3) (bR <| bE) (hv := ⟨Eq.trans (show (Value.tuple #[Value.agg #[ms eI L0, vs 0 0 (L1 ++ ([a5] : List Int)).length (L1 ++ ([a5] : List Int)).length, ms eI L2, ms eI L3], vT] : Value) = Value.tuple #[Value.agg #[ms eI L0, vs 0 0 ((0 + L1.length) + 1) ((0 + L1.length) + 1), ms eI L2, ms eI L3], vT] from (Zaw (Zw (ZbV (cr (Zw (Zi rfl eqA eqA) (cr (cr rfl))))) (cr rfl)))) (by rfl), by rfl⟩)
 refine Zb (fun g2 => ?_) (fun g2 => ?_)
 ·
  refine Zb (fun g3 => ?_) (fun g3 => ?_)
  · exact Zr [] (bkY ((L2.length : Int) ≥ a6) <| kB 2 4 <| xkJ a4 2 w0) bE
  have w4 := kB 2 4 <| xkJ a4 2 <| bkN ((L2.length : Int) ≥ a6) <| kB 2 4 <| xkJ a4 2 w0
  refine Zb (fun g4 => ?_) (fun g4 => ?_)
  · exact fxC [4] (Value.tuple #[Value.agg #[ms eI L0, ms eI L1, vs 4 0 1 1, ms eI L3], vT]) (kB 2 4 <| xkJ a4 2 <| tW 0 (.ap0) <| kX (dP (0 = L2.length ∧ ((L2.length * 1 = 0 ∧ ([] : List Value) = []) ∨ ∃ c, L2.length * 1 ≠ 0 ∧ ZS (code (Z9 eI L2)) 0 (L2.length * 1) = some c ∧ ([] : List Value) = Zm c))) true (Zn ⟨by omega, .inl ⟨by omega, rfl⟩⟩) w4) (bC (o := .cells [vi a5] 3) (Zz (E := eI) _ (L := ([a5] : List Int)) _ (show ([vi a5] : List Value) = Za eI ([a5] : List Int) from rfl)) <| bE) (hv := ⟨Eq.trans (show (Value.tuple #[Value.agg #[ms eI L0, ms eI L1, vs 0 0 ([a5] : List Int).length ([a5] : List Int).length, ms eI L3], vT] : Value) = Value.tuple #[Value.agg #[ms eI L0, ms eI L1, vs 0 0 1 1, ms eI L3], vT] from (Zaw (Zw (ZbV (cr (cr (Zw (Zi rfl eqA eqA) (cr rfl))))) (cr rfl)))) (by rfl), by rfl⟩)
  refine Zb (fun g5 => ?_) (fun _ => Zd);exact fxC [5] (Value.tuple #[Value.agg #[ms eI L0, ms eI L1, vs 5 0 ((0 + L2.length) + 1) ((0 + L2.length) + 1), ms eI L3], vT]) (kB 2 4 <| xkJ a4 2 <| ZoZ eI L2 (0 + L2.length) a5 <| tW 0 (.ap L2.length (Za eI L2) (Za eI L2)) <| kX (dP ((L2.length = L2.length ∧ ((L2.length * 1 = 0 ∧ (Za eI L2) = []) ∨ ∃ c, L2.length * 1 ≠ 0 ∧ ZS (code (Z9 eI L2)) 0 (L2.length * 1) = some c ∧ (Za eI L2) = Zm c)) ∧ 0 < L2.length ∧ L2.length ≤ 100000 ∧ 0 < 0 + L2.length ∧ 0 ≤ 100000 ∧ 0 * 1 ≤ (List.length []) ∧ List.take (0 * 1) [] ++ (Za eI L2) = (Za eI L2))) true (Zn ⟨⟨rfl, (Zc5 (E := eI) (L := L2) (n := L2.length) (size := 1) rfl (by decide) (by omega))⟩, by omega, by omega, ltA, by omega, (Zar (E := eI) (L := ([] : List Int)) (M := L2) (n := 0) (show _ = _ * 1 from rfl) ltA (R := L2) (by rw [List.take_of_length_le ltA]; rfl))⟩) w4) (bR <| bE) (hv := ⟨Eq.trans (show (Value.tuple #[Value.agg #[ms eI L0, ms eI L1, vs 0 0 (L2 ++ ([a5] : List Int)).length (L2 ++ ([a5] : List Int)).length, ms eI L3], vT] : Value) = Value.tuple #[Value.agg #[ms eI L0, ms eI L1, vs 0 0 ((0 + L2.length) + 1) ((0 + L2.length) + 1), ms eI L3], vT] from (Zaw (Zw (ZbV (cr (cr (Zw (Zi rfl eqA eqA) (cr rfl))))) (cr rfl)))) (by rfl), by rfl⟩)
 refine Zb (fun g3 => ?_) (fun _ => Zd);refine Zb (fun g4 => ?_) (fun g4 => ?_)
 · exact Zr [] (bkY ((L3.length : Int) ≥ a6) <| kB 3 4 <| xkJ a4 3 w0) bE
 have w5 := kB 3 4 <| xkJ a4 3 <| bkN ((L3.length : Int) ≥ a6) <| kB 3 4 <| xkJ a4 3 w0
 refine Zb (fun g5 => ?_) (fun g5 => ?_)
 · exact fxC [4] (Value.tuple #[Value.agg #[ms eI L0, ms eI L1, ms eI L2, vs 4 0 1 1], vT]) (kB 3 4 <| xkJ a4 3 <| tW 0 (.ap0) <| kX (dP (0 = L3.length ∧ ((L3.length * 1 = 0 ∧ ([] : List Value) = []) ∨ ∃ c, L3.length * 1 ≠ 0 ∧ ZS (code (Z9 eI L3)) 0 (L3.length * 1) = some c ∧ ([] : List Value) = Zm c))) true (Zn ⟨by omega, .inl ⟨by omega, rfl⟩⟩) w5) (bC (o := .cells [vi a5] 3) (Zz (E := eI) _ (L := ([a5] : List Int)) _ (show ([vi a5] : List Value) = Za eI ([a5] : List Int) from rfl)) <| bE) (hv := ⟨Eq.trans (show (Value.tuple #[Value.agg #[ms eI L0, ms eI L1, ms eI L2, vs 0 0 ([a5] : List Int).length ([a5] : List Int).length], vT] : Value) = Value.tuple #[Value.agg #[ms eI L0, ms eI L1, ms eI L2, vs 0 0 1 1], vT] from (Zaw (Zw (ZbV (cr (cr (cr (Zw (Zi rfl eqA eqA) rfl))))) (cr rfl)))) (by rfl), by rfl⟩)
 refine Zb (fun g6 => ?_) (fun _ => Zd);exact fxC [5] (Value.tuple #[Value.agg #[ms eI L0, ms eI L1, ms eI L2, vs 5 0 ((0 + L3.length) + 1) ((0 + L3.length) + 1)], vT]) (kB 3 4 <| xkJ a4 3 <| ZoZ eI L3 (0 + L3.length) a5 <| tW 0 (.ap L3.length (Za eI L3) (Za eI L3)) <| kX (dP ((L3.length = L3.length ∧ ((L3.length * 1 = 0 ∧ (Za eI L3) = []) ∨ ∃ c, L3.length * 1 ≠ 0 ∧ ZS (code (Z9 eI L3)) 0 (L3.length * 1) = some c ∧ (Za eI L3) = Zm c)) ∧ 0 < L3.length ∧ L3.length ≤ 100000 ∧ 0 < 0 + L3.length ∧ 0 ≤ 100000 ∧ 0 * 1 ≤ (List.length []) ∧ List.take (0 * 1) [] ++ (Za eI L3) = (Za eI L3))) true (Zn ⟨⟨rfl, (Zc5 (E := eI) (L := L3) (n := L3.length) (size := 1) rfl (by decide) (by omega))⟩, by omega, by omega, ltA, by omega, (Zar (E := eI) (L := ([] : List Int)) (M := L3) (n := 0) (show _ = _ * 1 from rfl) ltA (R := L3) (by rw [List.take_of_length_le ltA]; rfl))⟩) w5) (bR <| bE) (hv := ⟨Eq.trans (show (Value.tuple #[Value.agg #[ms eI L0, ms eI L1, ms eI L2, vs 0 0 (L3 ++ ([a5] : List Int)).length (L3 ++ ([a5] : List Int)).length], vT] : Value) = Value.tuple #[Value.agg #[ms eI L0, ms eI L1, ms eI L2, vs 0 0 ((0 + L3.length) + 1) ((0 + L3.length) + 1)], vT] from (Zaw (Zw (ZbV (cr (cr (cr (Zw (Zi rfl eqA eqA) rfl))))) (cr rfl)))) (by rfl), by rfl⟩)

theorem Zs1 (N : Nat) (r : ZY) (h : ZcU L0 L1 L2 L3 a4 a5 a6 N = some r) : LSpec Tryz.prog 47 #[Value.agg (κN L0 L1 L2 L3), vi a4, vi a5, vi a6] [] (ZpO r) (Zoh r) :=
 ZI Zv Tryz.func47 (by kernel_rfl) (by kernel_rfl) (fun r => by cases r <;> exact ZP _ rfl) (Zxq L0 L1 L2 L3 a4 a5 a6 N) h

theorem ZtS (N : Nat) (r : ZY) (h : ZcU L0 L1 L2 L3 a4 a5 a6 N = some r) : LSpec Tryz.prog 47 #[Value.agg (κN L0 L1 L2 L3), vi a4, vi a5, vi a6] [] (Zr1 r) (ZpP r) := by
 have h0 := Zs1 L0 L1 L2 L3 a4 a5 a6 N r h;cases r with
 | r0 _ _ _ _ => exact h0
 | r1 w0 w1 w2 w3 => exact (LSpec.frzv (E := eI) (L := w0) (post := []) (v2 := Value.tuple #[Value.agg #[ms eI w0, ms eI w1, ms eI w2, ms eI w3], vT]) h0 (show 0 ≤ 0 from by decide) (show 0 < 1000000000 from by decide) trivial rfl rfl rfl)
 | r2 w0 w1 w2 w3 => exact (LSpec.frzv (E := eI) (L := w1) (post := []) (v2 := Value.tuple #[Value.agg #[ms eI w0, ms eI w1, ms eI w2, ms eI w3], vT]) h0 (show 0 ≤ 0 from by decide) (show 0 < 1000000000 from by decide) trivial rfl rfl rfl)
 | r3 w0 w1 w2 w3 => exact (LSpec.frzv (E := eI) (L := w2) (post := []) (v2 := Value.tuple #[Value.agg #[ms eI w0, ms eI w1, ms eI w2, ms eI w3], vT]) h0 (show 0 ≤ 0 from by decide) (show 0 < 1000000000 from by decide) trivial rfl rfl rfl)
 | r4 w0 w1 w2 w3 => exact (LSpec.frzv (E := eI) (L := w3) (post := []) (v2 := Value.tuple #[Value.agg #[ms eI w0, ms eI w1, ms eI w2, ms eI w3], vT]) h0 (show 0 ≤ 0 from by decide) (show 0 < 1000000000 from by decide) trivial rfl rfl rfl)

theorem Zci {L0 L1 L2 L3 : List Int} {a4 a5 a6 : Int} {N : Nat} {r : ZY} (h : ZcU L0 L1 L2 L3 a4 a5 a6 N = some r) : LSpec Tryz.prog 47 #[Value.agg (κN L0 L1 L2 L3), vi a4, vi a5, vi a6] [] (Zr1 r) (ZpP r) := ZtS L0 L1 L2 L3 a4 a5 a6 N r h

noncomputable def ZpQ : ZaM → Value
 | .r0 w0 w1 w2 w3 w4 w5 => Value.tuple #[Value.agg #[ms eI w0, ms eI w1, ms eI w2, ms eI w3], vi w4, Value.bool w5]
noncomputable def ZnA : ZaM → List (Option AObj)
 | .r0 w0 w1 w2 w3 w4 w5 => []

noncomputable abbrev κbj (a4 a5 a6 a7 a8 : Int) := #[Value.int .u8 a4, Value.int .u8 a5, Value.int .u8 a6, Value.int .u8 a7, Value.int .u8 a8]
theorem Z1v (a7 a8 : Int) (N : Nat) : Fx Tryz.prog Ze Tryz.f15 [] #[Value.agg (κN L0 L1 L2 L3), Value.agg (κbj a4 a5 a6 a7 a8)] (ZpQ) (ZnA) (Zdm L0 L1 L2 L3 a4 a5 a6 a7 a8 N) := by
 unfold Zdm;refine Zb (fun g0 => ?_) (fun _ => Zd);refine Zb (fun g1 => ?_) (fun _ => Zd);refine Zb (fun g2 => ?_) (fun _ => Zd);refine Zb (fun g3 => ?_) (fun _ => Zd);refine Zb (fun g4 => ?_) (fun _ => Zd);refine Zb (fun g5 => ?_) (fun _ => Zd);refine Zb (fun g6 => ?_) (fun _ => Zd);refine Zb (fun g7 => ?_) (fun _ => Zd);refine Zb (fun g8 => ?_) (fun _ => Zd);refine Zb (fun g9 => ?_) (fun _ => Zd);have w10 := vkM a4 4 <| vkW ((1 : Int) + (a8 % 3)) ((1 : Int) + (a8 % 3)) <| vkM a8 3 <| tV 0 <| kX ((i64.wrap a8) == a8) true (beq_iff_eq.2 (wrap_i64 ltA)) <| vkM a5 4 <| tV 0 <| kX ((i64.wrap a5) == a5) true (beq_iff_eq.2 (wrap_i64 ltA)) <| tW 0 (.apn 0 [] [] κa) <| kX (dP (List.map (nlV 0) [vn, vn, vn, vn] = κa)) true (Zn rfl) Zg
 refine Zb (fun g10 => ?_) (fun g10 => ?_)
 ·
  refine Zx (fun z11 c11 => ?_);cases z11 with
  | r0 y11_0 y11_1 y11_2 y11_3 y11_4 y11_5 =>
   exact Zr [] (kKg 3 (tQ (ZlT c11) 3) <| bhT g10 w10) bE
 refine Zb (fun g11 => ?_) (fun g11 => ?_)
 ·
  refine Zx (fun z12 c12 => ?_);cases z12 with
  | r0 y12_0 y12_1 y12_2 y12_3 y12_4 y12_5 =>
   have w13 := tW 0 (.apn 0 [] [] κa) <| kX (dP (List.map (nlV 0) [vn, vn, vn, vn] = κa)) true (Zn rfl) <| kKg 3 (tQ (ZlT c12) 3) <| bhT g11 <| bhF g10 w10
   refine Zb (fun g13 => ?_) (fun g13 => ?_)
   · exact Zr [] (tV 0 <| kX ((i64.wrap a7) == a7) true (beq_iff_eq.2 (wrap_i64 ltA)) <| bkX ((!y12_5)) true nbt w13) bE
   exact Zr [] (bkX ((!y12_5)) false nbf w13) bE
 have w12 := bhF g11 <| bhF g10 w10
 refine Zb (fun g12 => ?_) (fun g12 => ?_)
 ·
  refine Zx (fun z13 c13 => ?_);cases z13 with
  | r0 y13_0 y13_1 y13_2 y13_3 y13_4 y13_5 =>
   have w14 := tW 0 (.apn 0 [] [] κa) <| kX (dP (List.map (nlV 0) [vn, vn, vn, vn] = κa)) true (Zn rfl) <| kKg 3 (tQ (ZlT c13) 3) <| bhT g12 w12
   refine Zb (fun g14 => ?_) (fun g14 => ?_)
   · exact Zr [] (bkX ((!y13_5)) true nbt w14) bE
   have w15 := vkM a6 4 <| tV 0 <| kX ((i64.wrap a6) == a6) true (beq_iff_eq.2 (wrap_i64 ltA)) <| bkX ((!y13_5)) false nbf w14
   refine Zx (fun z15 c15 => ?_);cases z15 with
   | r0 y15_0 y15_1 y15_2 y15_3 =>
    exact Zr [] (tW 0 (.apn 0 [] [] κa) <| kX (dP (List.map (nlV 0) [vn, vn, vn, vn] = κa)) true (Zn rfl) <| kKg 2 (tQ (Zci c15) 4) w15) bE
   | r1 y15_0 y15_1 y15_2 y15_3 =>
    exact Zr [] (tW 0 (.apn 0 [] [] κa) <| kX (dP (List.map (nlV 0) [vn, vn, vn, vn] = κa)) true (Zn rfl) <| kKg 2 (tQ (Zci c15) 4) w15) bE
   | r2 y15_0 y15_1 y15_2 y15_3 =>
    exact Zr [] (tW 0 (.apn 0 [] [] κa) <| kX (dP (List.map (nlV 0) [vn, vn, vn, vn] = κa)) true (Zn rfl) <| kKg 2 (tQ (Zci c15) 4) w15) bE
   | r3 y15_0 y15_1 y15_2 y15_3 =>
    exact Zr [] (tW 0 (.apn 0 [] [] κa) <| kX (dP (List.map (nlV 0) [vn, vn, vn, vn] = κa)) true (Zn rfl) <| kKg 2 (tQ (Zci c15) 4) w15) bE
   | r4 y15_0 y15_1 y15_2 y15_3 =>
    exact Zr [] (tW 0 (.apn 0 [] [] κa) <| kX (dP (List.map (nlV 0) [vn, vn, vn, vn] = κa)) true (Zn rfl) <| kKg 2 (tQ (Zci c15) 4) w15) bE
 have w13 := tV 0 <| kX ((i64.wrap a7) == a7) true (beq_iff_eq.2 (wrap_i64 ltA)) <| bhF g12 w12
 refine Zx (fun z13 c13 => ?_);cases z13 with
 | r0 y13_0 y13_1 y13_2 y13_3 =>
  exact Zr [] (tW 0 (.apn 0 [] [] κa) <| kX (dP (List.map (nlV 0) [vn, vn, vn, vn] = κa)) true (Zn rfl) <| kKg 3 (tQ (Zci c13) 3) w13) bE
 | r1 y13_0 y13_1 y13_2 y13_3 =>
  exact Zr [] (tW 0 (.apn 0 [] [] κa) <| kX (dP (List.map (nlV 0) [vn, vn, vn, vn] = κa)) true (Zn rfl) <| kKg 3 (tQ (Zci c13) 3) w13) bE
 | r2 y13_0 y13_1 y13_2 y13_3 =>
  exact Zr [] (tW 0 (.apn 0 [] [] κa) <| kX (dP (List.map (nlV 0) [vn, vn, vn, vn] = κa)) true (Zn rfl) <| kKg 3 (tQ (Zci c13) 3) w13) bE
 | r3 y13_0 y13_1 y13_2 y13_3 =>
  exact Zr [] (tW 0 (.apn 0 [] [] κa) <| kX (dP (List.map (nlV 0) [vn, vn, vn, vn] = κa)) true (Zn rfl) <| kKg 3 (tQ (Zci c13) 3) w13) bE
 | r4 y13_0 y13_1 y13_2 y13_3 =>
  exact Zr [] (tW 0 (.apn 0 [] [] κa) <| kX (dP (List.map (nlV 0) [vn, vn, vn, vn] = κa)) true (Zn rfl) <| kKg 3 (tQ (Zci c13) 3) w13) bE

theorem Zxr (a7 a8 : Int) (N : Nat) (r : ZaM) (h : Zdm L0 L1 L2 L3 a4 a5 a6 a7 a8 N = some r) : LSpec Tryz.prog 15 #[Value.agg (κN L0 L1 L2 L3), Value.agg (κbj a4 a5 a6 a7 a8)] [] (ZpQ r) (ZnA r) :=
 ZI Zv Tryz.func15 (by kernel_rfl) (by kernel_rfl) (fun r => by cases r <;> exact ZP _ rfl) (Z1v L0 L1 L2 L3 a4 a5 a6 a7 a8 N) h

end
theorem ZgG {L0 L1 L2 L3 : List Int} {a4 a5 a6 a7 a8 : Int} {N : Nat} {r : ZaM} (h : Zdm L0 L1 L2 L3 a4 a5 a6 a7 a8 N = some r) : LSpec Tryz.prog 15 #[Value.agg (κN L0 L1 L2 L3), Value.agg (κbj a4 a5 a6 a7 a8)] [] (ZpQ r) (ZnA r) := Zxr L0 L1 L2 L3 a4 a5 a6 a7 a8 N r h

noncomputable def Zoi : Zco → Value
 | .r0 => vT
noncomputable def ZmA (L0 L1 : List RG) : Zco → List (Option AObj)
 | .r0 => [some (.cells (Za RA L1) 44 true)]

def Zvv : ZaZ → Nat
 | .h1m0 v2 => 1
section
variable (L0 L1 : List RG)
noncomputable def Zxs : ZaZ → List (Nat × Value)
 | .h1m0 v2 => [(0, ms RA L0), (1, vs 0 0 L1.length L1.length), (5, vi (v2 : Int))]
noncomputable def Zxt (L0 L1 : List RG) : ZaZ → List (Option AObj)
 | .h1m0 v2 => [some (.cells (Za RA L1) 44 true)]

noncomputable def Zxu : Nat → Code × List ZL
 | 1 => Z5 [1, 1, 0, 1, 3] (ZM Tryz.f18) []
 | _ => (.skip, [])

noncomputable def Zhn (N : Nat) : Mach := ⟨Tryz.f18, [.cells (Za RA L1) 44 true], ZaZ, Zco, Zf4 L0 L1 N, Zvv, Zxu, ilT, Zxs L0 L1, Zxt L0 L1, Zoi, ZmA L0 L1⟩

theorem ZpR (v2 N : Nat) : (Zhn L0 L1 N).Ok Tryz.prog Ze (.h1m0 v2 : ZaZ) (ZbR L0 L1 N v2) := by
 unfold ZbR;refine ok_ite (fun g0 => ?_) fun g0 => ?_
 · refine oi fun g1 => ?_;refine ok_ite (fun _ => ok_none) (fun g2 => ?_);refine oi fun g3 => ?_;exact Mach.okN0 [0] (vkW ((v2 : Int) + 1) (((v2 + 1) : Nat) : Int) <| bkX ((!(((L0.getD v2 RG.z).a0 == (L1.getD v2 RG.z).a0) && (((L0.getD v2 RG.z).a1 == (L1.getD v2 RG.z).a1) && true)))) false (by rw [Bool.not_eq_false']; first | (simp only [beq_self_eq_true, Bool.and_self]; done) | (simp only [Bool.and_true, Bool.and_eq_true, beq_iff_eq] <;> first | omega | (simp_all; done) | grind)) <| Za2 RA L1 v2 0 2 <| kB v2 L1.length <| xkI (v2 : Int) v2 <| lkG RA L0 (0 + (v2 * 2)) v2 0 2 2 <| kB v2 L0.length <| xkI (v2 : Int) v2 <| bhY g0 Zg) (bQ <| bE)
 exact Mach.okF0 [0] (bhN g0 Zg) (bQ <| bE)

theorem ZtT (N : Nat) : (Zhn L0 L1 N).Enter Tryz.prog Ze (κbf L0 L1) (Zg8 L0 L1 N) := by unfold Zg8;refine en_ite (fun _ => en_none) (fun g0 => ?_);exact enH [0] [some (ms RA L0), some (vs 0 0 L1.length L1.length), some (vq)] (bkE (L0.length : Int) (L1.length : Int) Zg) (tC (tC (tC (tE) ⟨Eq.trans (show κg = vq from ci) (by rfl), by rfl⟩))) (bQ <| bE)

theorem ZqR (N : Nat) (r : Zco) (h : Zan L0 L1 N = some r) : LSpec Tryz.prog 18 (κbf L0 L1) [.cells (Za RA L1) 44 true] (Zoi r) (ZmA L0 L1 r) :=
 Mach.specT Zv (Zhn L0 L1 N) Tryz.func18 (fun x => (show (Zhn L0 L1 N).Ok Tryz.prog Ze x (Zf4 L0 L1 N x) from by
  cases x with
  | h1m0 v2 => exact ZpR L0 L1 v2 N
  )) (ZtT L0 L1 N) h

end
noncomputable def Zvw {L0 L1 : List RG} {N : Nat} (h : Zan L0 L1 N = some (.r0)) (ks : List Nat) (n : Nat) : ToldS := ⟨#[ms RA L0, vs (nth ks 0) 0 L1.length L1.length], [((nth ks 0), .cells (Za RA L1) 44 true)], vT, [], 0⟩

theorem Zei {L0 L1 : List RG} {N : Nat} (h : Zan L0 L1 N = some (.r0)) (ks : List Nat) (n : Nat) (hk : ks.length = 1 := by rfl) (hnd : ks.Nodup := by decide +kernel) (hlt : ∀ k ∈ ks, k < n := by decide +kernel) : (Zvw (N := N)  h ks n).P Tryz.prog 18 n :=
 match ks, hk, hnd, hlt with
 | [k0], _, hnd, hlt => Zcj (show LSpec Tryz.prog 18 (κbf L0 L1) [.cells (Za RA L1) 44 true] (vT) [some (.cells (Za RA L1) 44 true)] from ZqR L0 L1 N _ h) _ n [] hnd hlt

noncomputable def ZjP : ZbE → Value
 | .r0 => vT
noncomputable def ZiR : ZbE → List (Option AObj)
 | .r0 => []

def Zvx : ref24_Same_3X → Nat
 | .h1m0 => 1
noncomputable def Zxv (L0 : List Int) : ref24_Same_3X → List (Nat × Value)
 | .h1m0 => [(0, vn), (1, ms eI L0), (5, vq)]
noncomputable def Zxw (L0 : List Int) : ref24_Same_3X → List (Option AObj)
 | .h1m0 => []

noncomputable def Zxx : Nat → Code × List ZL
 | 1 => Z5 [1, 1, 0, 1, 3] (ZM Tryz.f19) []
 | _ => (.skip, [])

section
variable (L0 : List Int) (N : Nat)
noncomputable def Zho : Mach := ⟨Tryz.f19, [], ref24_Same_3X, ZbE, Zh0 L0 N, Zvx, Zxx, ilT, Zxv L0, Zxw L0, ZjP, ZiR⟩

theorem ZpS : (Zho L0 N).Ok Tryz.prog Ze (.h1m0 : ref24_Same_3X) (ZgQ L0 N) := by unfold ZgQ;exact Mach.okF0 [] Zg bE

theorem ZtU : (Zho L0 N).Enter Tryz.prog Ze #[vn, ms eI L0] (ZiL L0 N) := by unfold ZiL;refine en_ite (fun _ => en_none) (fun g0 => ?_);exact Mach.enH0 [] (bkE 0 (L0.length : Int) Zg) bE

theorem ZqS (r : ZbE) (h : Zep L0 N = some r) : LSpec Tryz.prog 19 #[vn, ms eI L0] [] (ZjP r) (ZiR r) :=
 Mach.specT Zv (Zho L0 N) Tryz.func19 (fun x => (show (Zho L0 N).Ok Tryz.prog Ze x (Zh0 L0 N x) from by
  cases x with
  | h1m0 => exact ZpS L0 N
  )) (ZtU L0 N) h

end
theorem ZgH {L0 : List Int} {N : Nat} {r : ZbE} (h : Zep L0 N = some r) : LSpec Tryz.prog 19 #[vn, ms eI L0] [] (ZjP r) (ZiR r) := ZqS L0 N r h

noncomputable def ZjQ : ZbF → Value
 | .r0 => vT
noncomputable def ZiS : ZbF → List (Option AObj)
 | .r0 => []

def Zvy : Zba → Nat
 | .h1m0 v2 => 1
section
variable (L0 L1 : List Int)
noncomputable def Zxy : Zba → List (Nat × Value)
 | .h1m0 v2 => [(0, ms eI L0), (1, ms eI L1), (5, vi (v2 : Int))]
noncomputable def Zxz (L0 L1 : List Int) : Zba → List (Option AObj)
 | .h1m0 v2 => []

noncomputable def Zx0 : Nat → Code × List ZL
 | 1 => Z5 [1, 1, 0, 1, 3] (ZM Tryz.f19) []
 | _ => (.skip, [])

noncomputable def Zhp (N : Nat) : Mach := ⟨Tryz.f19, [], Zba, ZbF, Zf5 L0 L1 N, Zvy, Zx0, ilT, Zxy L0 L1, Zxz L0 L1, ZjQ, ZiS⟩

theorem ZpT (v2 N : Nat) : (Zhp L0 L1 N).Ok Tryz.prog Ze (.h1m0 v2 : Zba) (ZbS L0 L1 N v2) := by
 unfold ZbS;refine ok_ite (fun g0 => ?_) fun g0 => ?_
 · refine oi fun g1 => ?_;refine ok_ite (fun _ => ok_none) (fun g2 => ?_);refine oi fun g3 => ?_;exact Mach.okN0 [] (vkW ((v2 : Int) + 1) (((v2 + 1) : Nat) : Int) <| bkE (L0.getD v2 0) (L1.getD v2 0) <| lkG eI L1 (0 + (v2 * 1)) v2 0 1 1 <| kB v2 L1.length <| xkI (v2 : Int) v2 <| lkG eI L0 (0 + (v2 * 1)) v2 0 1 1 <| kB v2 L0.length <| xkI (v2 : Int) v2 <| bhY g0 Zg) bE
 exact Mach.okF0 [] (bhN g0 Zg) bE

theorem ZtV (N : Nat) : (Zhp L0 L1 N).Enter Tryz.prog Ze #[ms eI L0, ms eI L1] (Zg9 L0 L1 N) := by unfold Zg9;refine en_ite (fun _ => en_none) (fun g0 => ?_);exact enH [] [some (ms eI L0), some (ms eI L1), some (vq)] (bkE (L0.length : Int) (L1.length : Int) Zg) (tC (tC (tC (tE) ⟨Eq.trans (show κg = vq from ci) (by rfl), by rfl⟩))) bE

theorem ZqT (N : Nat) (r : ZbF) (h : Zd9 L0 L1 N = some r) : LSpec Tryz.prog 19 #[ms eI L0, ms eI L1] [] (ZjQ r) (ZiS r) :=
 Mach.specT Zv (Zhp L0 L1 N) Tryz.func19 (fun x => (show (Zhp L0 L1 N).Ok Tryz.prog Ze x (Zf5 L0 L1 N x) from by
  cases x with
  | h1m0 v2 => exact ZpT L0 L1 v2 N
  )) (ZtV L0 L1 N) h

end
theorem ZgI {L0 L1 : List Int} {N : Nat} {r : ZbF} (h : Zd9 L0 L1 N = some r) : LSpec Tryz.prog 19 #[ms eI L0, ms eI L1] [] (ZjQ r) (ZiS r) := ZqT L0 L1 N r h

end Ev
end Go.Proofs.YthfohmhipifiaaaGreat
