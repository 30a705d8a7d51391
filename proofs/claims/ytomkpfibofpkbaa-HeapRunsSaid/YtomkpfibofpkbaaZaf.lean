/- Part 6. -/
import Derived.Test.YtomkpfibofpkbaaZae
import Derived.Test.YtomkpfibofpkbaaZac
import Derived.Test.YtomkpfibofpkbaaZad
set_option linter.unusedSimpArgs false
set_option linter.unusedVariables false
/- Calls do what the plain functions say. -/
namespace Go.Proofs.Ytomkpfibofpkbaa
open Go.IntKind (i64)
open Go.RowKit
namespace Ev
set_option linter.unusedVariables false
set_option maxRecDepth 100000
set_option maxHeartbeats 4000000
noncomputable def ZlR (a0 : Int) (L1 : List RI) (L2 : List Int) (a3 a4 a5 a6 a7 : Int) : Zam → Value
 | .r0 w1 w3 => Value.tuple #[Value.agg #[vi a0, ms RD w1, ms eI L2], vi w3]
noncomputable def ZkC (a0 : Int) (L1 : List RI) (L2 : List Int) (a3 a4 a5 a6 a7 : Int) : Zam → List (Option AObj)
 | .r0 w1 w3 => []

theorem ZoY (a0 : Int) (L1 : List RI) (L2 : List Int) (a3 a4 a5 a6 a7 : Int) (N : Nat) : Fx Try.prog Z1 Try.f31 [] #[Value.agg (κc a0 L1 L2), Value.agg #[vi a3, vi a4], vi a5, Value.agg #[vi a6, vi a7]] (ZlR a0 L1 L2 a3 a4 a5 a6 a7) (ZkC a0 L1 L2 a3 a4 a5 a6 a7) (Zc3 a0 L1 L2 a3 a4 a5 a6 a7 N) := by
 unfold Zc3
 refine Z7 (fun z0 c0 => ?_)
 cases z0 with
 | r0 y0_0 y0_1 =>
  have w1 := kK (ZcA c0 [] 4) Zm
  refine Zf (fun g1 => ?_) (fun g1 => ?_)
  ·
   exact fxC (Zg (oq [1]) [] [] [] [(0, (Zz c0 [] 4).t)]) [] (Value.tuple #[Value.agg (κc a0 L1 L2), vi y0_1]) (hD g1 w1) bE
  ·
   have w2 := kE y0_1 (0 : Int) w1
   refine Zf (fun g2 => ?_) (fun _ => Zp)
   refine Zf (fun g3 => ?_) (fun _ => Zp)
   have w4 := kG RD L1 (0 + ((y0_0).toNat * 9)) ((y0_0).toNat) 0 9 9 <| kB (y0_0).toNat L1.length <| kI y0_0 (Int.ofNat (y0_0).toNat) w2
   refine Zf (fun g4 => ?_) (fun g4 => ?_)
   ·
    exact fxC (Zg (oq [0, 3]) [] [(0, (y0_0).toNat)] [(3, (RD.cel (L1.getD (y0_0).toNat RI.z)))] [(0, (Zz c0 [] 4).t)]) [] (Value.tuple #[Value.agg (κc a0 L1 L2), vi (22 : Int)]) (hY g4 w4) bE
   ·
    refine Zf (fun g5 => ?_) (fun g5 => ?_)
    ·
     exact fxC (Zg (oq [0, 2, 5]) [] [(0, (y0_0).toNat)] [(3, (RD.cel (L1.getD (y0_0).toNat RI.z)))] [(0, (Zz c0 [] 4).t)]) [] (Value.tuple #[Value.agg (κc a0 L1 L2), vi (22 : Int)]) (kY (a5 ≥ (L1.getD (y0_0).toNat RI.z).a4) <| hN g4 w4) bE
    ·
     have w6 := kN (a5 ≥ (L1.getD (y0_0).toNat RI.z).a4) <| hN g4 w4
     refine Zf (fun g6 => ?_) (fun g6 => ?_)
     ·
      refine Zf (fun g7 => ?_) (fun _ => Zp)
      have w8 := kX ((IntKind.u64.wrap a5) == a5) true (beq_iff_eq.2 (Zkc ltA)) <| kF a6 (2 : Int) <| hT g6 w6
      refine Zf (fun g8 => ?_) (fun _ => Zp)
      refine Zf (fun g9 => ?_) (fun _ => Zp)
      have w10 := kM ((L1.getD (y0_0).toNat RI.z).a5 / (2 ^ (a5).toNat : Int)) (2 : Int) <| kS a5 ((a5).toNat) .i64 w8
      refine Zf (fun g10 => ?_) (fun g10 => ?_)
      ·
       exact fxC (Zg (oq [0, 2, 4, 7, 8, 11]) [(0, a5), (2, (((L1.getD (y0_0).toNat RI.z).a5 / (2 ^ (a5).toNat : Int)) % (2 : Int)))] [(0, (y0_0).toNat)] [(3, (RD.cel (L1.getD (y0_0).toNat RI.z)))] [(0, (Zz c0 [] 4).t), (2, .sh (a5).toNat)]) [] (Value.tuple #[Value.agg (κc a0 L1 L2), vi (10 : Int)]) (hT g10 w10) bE
      ·
       refine Zf (fun _ => Zp) (fun g11 => ?_)
       refine Zf (fun g12 => ?_) (fun _ => Zp)
       refine Zf (fun g13 => ?_) (fun _ => Zp)
       refine Z7 (fun z14 c14 => ?_)
       cases z14 with
       | r0 =>
        exact fxC (Zg (oq [0, 2, 4, 7, 8, 10]) [(0, a5), (2, (((L1.getD (y0_0).toNat RI.z).a5 / (2 ^ (a5).toNat : Int)) % (2 : Int)))] [(0, (y0_0).toNat), (1, (a5).toNat)] [(3, (RD.cel (L1.getD (y0_0).toNat RI.z)))] [(0, (Zz c0 [] 4).t), (2, .sh (a5).toNat), (4, .ap (L1.getD (y0_0).toNat RI.z).a8.length (Za RA (L1.getD (y0_0).toNat RI.z).a8) (Za RA (L1.getD (y0_0).toNat RI.z).a8)), (5, .st (Za RA ((L1.getD (y0_0).toNat RI.z).a8.set (a5).toNat (⟨a6, a7⟩ : RF)))), (7, (Zfn c14 [8] 9).t)]) [] (Value.tuple #[Value.agg #[vi a0, ms RD (L1.set (y0_0).toNat (⟨(L1.getD (y0_0).toNat RI.z).a0, (L1.getD (y0_0).toNat RI.z).a1, (L1.getD (y0_0).toNat RI.z).a2, (L1.getD (y0_0).toNat RI.z).a3, (L1.getD (y0_0).toNat RI.z).a4, (L1.getD (y0_0).toNat RI.z).a5, (L1.getD (y0_0).toNat RI.z).a6, (L1.getD (y0_0).toNat RI.z).a7, ((L1.getD (y0_0).toNat RI.z).a8.set (a5).toNat (⟨a6, a7⟩ : RF))⟩ : RI)), ms eI L2], vq]) (kKb (A := #[Value.agg (κc a0 L1 L2), vi y0_0, Value.agg #[vi (L1.getD (y0_0).toNat RI.z).a0, vi (L1.getD (y0_0).toNat RI.z).a1, vi (L1.getD (y0_0).toNat RI.z).a2, vi (L1.getD (y0_0).toNat RI.z).a3, vi (L1.getD (y0_0).toNat RI.z).a4, vi (L1.getD (y0_0).toNat RI.z).a5, vi (L1.getD (y0_0).toNat RI.z).a6, vi (L1.getD (y0_0).toNat RI.z).a7, vs 8 0 (0 + (L1.getD (y0_0).toNat RI.z).a8.length) (0 + (L1.getD (y0_0).toNat RI.z).a8.length)]]) (Zgy (Zj rfl (Zj rfl (Zj (Zc5 (Zj rfl (Zj rfl (Zj rfl (Zj rfl (Zj rfl (Zj rfl (Zj rfl (Zj rfl (Zj (Zn rfl eqA eqA) rfl)))))))))) rfl)))) (Zg0 c14 [8] 9) <| kR (Za RA ((L1.getD (y0_0).toNat RI.z).a8.set (a5).toNat (⟨a6, a7⟩ : RF))) <| kC (ZaL (E := RA) (L := (L1.getD (y0_0).toNat RI.z).a8) (i := (a5).toNat) (q := 0) (l := [vi a6, vi a7]) (⟨a6, a7⟩ : RF) ltA (show (0 + ((a5).toNat * 2)) = (a5).toNat * 2 + 0 from by omega) (show 0 + 2 ≤ 2 from by decide) rfl) <| kB (a5).toNat (0 + (L1.getD (y0_0).toNat RI.z).a8.length) <| kI a5 (Int.ofNat (a5).toNat) <| kX (dP (((L1.getD (y0_0).toNat RI.z).a8.length = (L1.getD (y0_0).toNat RI.z).a8.length ∧ (((L1.getD (y0_0).toNat RI.z).a8.length * 2 = 0 ∧ (Za RA (L1.getD (y0_0).toNat RI.z).a8) = []) ∨ ∃ c, (L1.getD (y0_0).toNat RI.z).a8.length * 2 ≠ 0 ∧ Zat (code (Zac RA (L1.getD (y0_0).toNat RI.z).a8)) 0 ((L1.getD (y0_0).toNat RI.z).a8.length * 2) = some c ∧ (Za RA (L1.getD (y0_0).toNat RI.z).a8) = Zs c)) ∧ 0 < (L1.getD (y0_0).toNat RI.z).a8.length ∧ (L1.getD (y0_0).toNat RI.z).a8.length ≤ 100000 ∧ 0 < 0 + (L1.getD (y0_0).toNat RI.z).a8.length ∧ 0 ≤ 100000 ∧ 0 * 2 ≤ (List.length []) ∧ List.take (0 * 2) [] ++ (Za RA (L1.getD (y0_0).toNat RI.z).a8) = (Za RA (L1.getD (y0_0).toNat RI.z).a8))) true (ZaD ⟨⟨rfl, (Zf0 (E := RA) (L := (L1.getD (y0_0).toNat RI.z).a8) (n := (L1.getD (y0_0).toNat RI.z).a8.length) (size := 2) rfl (by decide) (by omega))⟩, by omega, by omega, ltA, by omega, (ZdL (E := RA) (L := ([] : List RF)) (M := (L1.getD (y0_0).toNat RI.z).a8) (n := 0) (show _ = _ * 2 from rfl) ltA (R := (L1.getD (y0_0).toNat RI.z).a8) (by rw [List.take_of_length_le ltA]; rfl))⟩) <| hF g10 w10) bE
     ·
      refine Zf (fun g7 => ?_) (fun g7 => ?_)
      ·
       refine Zf (fun g8 => ?_) (fun g8 => ?_)
       ·
        refine Zf (fun g9 => ?_) (fun _ => Zp)
        have w10 := kX ((IntKind.u64.wrap a5) == a5) true (beq_iff_eq.2 (Zkc ltA)) <| hT g7 <| hT g8 <| hT g7 <| hF g6 w6
        refine Zf (fun g10 => ?_) (fun _ => Zp)
        refine Zf (fun g11 => ?_) (fun _ => Zp)
        have w12 := kM ((L1.getD (y0_0).toNat RI.z).a5 / (2 ^ (a5).toNat : Int)) (2 : Int) <| kS a5 ((a5).toNat) .i64 w10
        refine Zf (fun g12 => ?_) (fun g12 => ?_)
        ·
         refine Zf (fun _ => Zp) (fun g13 => ?_)
         refine Zf (fun g14 => ?_) (fun _ => Zp)
         refine Zf (fun g15 => ?_) (fun _ => Zp)
         refine Z7 (fun z16 c16 => ?_)
         cases z16 with
         | r0 =>
          exact fxC (Zg (oq [0, 2, 4, 6, 9, 11, 13, 15]) [(0, a5), (2, (((L1.getD (y0_0).toNat RI.z).a5 / (2 ^ (a5).toNat : Int)) % (2 : Int)))] [(0, (y0_0).toNat), (1, (a5).toNat)] [(3, (RD.cel (L1.getD (y0_0).toNat RI.z)))] [(0, (Zz c0 [] 4).t), (2, .sh (a5).toNat), (4, .ap (L1.getD (y0_0).toNat RI.z).a8.length (Za RA (L1.getD (y0_0).toNat RI.z).a8) (Za RA (L1.getD (y0_0).toNat RI.z).a8)), (5, .st (Za RA ((L1.getD (y0_0).toNat RI.z).a8.set (a5).toNat (⟨a6, a7⟩ : RF)))), (7, (Zfn c16 [8] 9).t)]) [] (Value.tuple #[Value.agg #[vi a0, ms RD (L1.set (y0_0).toNat (⟨(L1.getD (y0_0).toNat RI.z).a0, (L1.getD (y0_0).toNat RI.z).a1, (L1.getD (y0_0).toNat RI.z).a2, (L1.getD (y0_0).toNat RI.z).a3, (L1.getD (y0_0).toNat RI.z).a4, (L1.getD (y0_0).toNat RI.z).a5, (L1.getD (y0_0).toNat RI.z).a6, (L1.getD (y0_0).toNat RI.z).a7, ((L1.getD (y0_0).toNat RI.z).a8.set (a5).toNat (⟨a6, a7⟩ : RF))⟩ : RI)), ms eI L2], vq]) (kKb (A := #[Value.agg (κc a0 L1 L2), vi y0_0, Value.agg #[vi (L1.getD (y0_0).toNat RI.z).a0, vi (L1.getD (y0_0).toNat RI.z).a1, vi (L1.getD (y0_0).toNat RI.z).a2, vi (L1.getD (y0_0).toNat RI.z).a3, vi (L1.getD (y0_0).toNat RI.z).a4, vi (L1.getD (y0_0).toNat RI.z).a5, vi (L1.getD (y0_0).toNat RI.z).a6, vi (L1.getD (y0_0).toNat RI.z).a7, vs 8 0 (0 + (L1.getD (y0_0).toNat RI.z).a8.length) (0 + (L1.getD (y0_0).toNat RI.z).a8.length)]]) (Zgy (Zj rfl (Zj rfl (Zj (Zc5 (Zj rfl (Zj rfl (Zj rfl (Zj rfl (Zj rfl (Zj rfl (Zj rfl (Zj rfl (Zj (Zn rfl eqA eqA) rfl)))))))))) rfl)))) (Zg0 c16 [8] 9) <| kR (Za RA ((L1.getD (y0_0).toNat RI.z).a8.set (a5).toNat (⟨a6, a7⟩ : RF))) <| kC (ZaL (E := RA) (L := (L1.getD (y0_0).toNat RI.z).a8) (i := (a5).toNat) (q := 0) (l := [vi a6, vi a7]) (⟨a6, a7⟩ : RF) ltA (show (0 + ((a5).toNat * 2)) = (a5).toNat * 2 + 0 from by omega) (show 0 + 2 ≤ 2 from by decide) rfl) <| kB (a5).toNat (0 + (L1.getD (y0_0).toNat RI.z).a8.length) <| kI a5 (Int.ofNat (a5).toNat) <| kX (dP (((L1.getD (y0_0).toNat RI.z).a8.length = (L1.getD (y0_0).toNat RI.z).a8.length ∧ (((L1.getD (y0_0).toNat RI.z).a8.length * 2 = 0 ∧ (Za RA (L1.getD (y0_0).toNat RI.z).a8) = []) ∨ ∃ c, (L1.getD (y0_0).toNat RI.z).a8.length * 2 ≠ 0 ∧ Zat (code (Zac RA (L1.getD (y0_0).toNat RI.z).a8)) 0 ((L1.getD (y0_0).toNat RI.z).a8.length * 2) = some c ∧ (Za RA (L1.getD (y0_0).toNat RI.z).a8) = Zs c)) ∧ 0 < (L1.getD (y0_0).toNat RI.z).a8.length ∧ (L1.getD (y0_0).toNat RI.z).a8.length ≤ 100000 ∧ 0 < 0 + (L1.getD (y0_0).toNat RI.z).a8.length ∧ 0 ≤ 100000 ∧ 0 * 2 ≤ (List.length []) ∧ List.take (0 * 2) [] ++ (Za RA (L1.getD (y0_0).toNat RI.z).a8) = (Za RA (L1.getD (y0_0).toNat RI.z).a8))) true (ZaD ⟨⟨rfl, (Zf0 (E := RA) (L := (L1.getD (y0_0).toNat RI.z).a8) (n := (L1.getD (y0_0).toNat RI.z).a8.length) (size := 2) rfl (by decide) (by omega))⟩, by omega, by omega, ltA, by omega, (ZdL (E := RA) (L := ([] : List RF)) (M := (L1.getD (y0_0).toNat RI.z).a8) (n := 0) (show _ = _ * 2 from rfl) ltA (R := (L1.getD (y0_0).toNat RI.z).a8) (by rw [List.take_of_length_le ltA]; rfl))⟩) <| hT g12 w12) bE
        ·
         exact fxC (Zg (oq [0, 2, 4, 6, 9, 11, 13, 14]) [(0, a5), (2, (((L1.getD (y0_0).toNat RI.z).a5 / (2 ^ (a5).toNat : Int)) % (2 : Int)))] [(0, (y0_0).toNat)] [(3, (RD.cel (L1.getD (y0_0).toNat RI.z)))] [(0, (Zz c0 [] 4).t), (2, .sh (a5).toNat)]) [] (Value.tuple #[Value.agg (κc a0 L1 L2), vi (10 : Int)]) (hF g12 w12) bE
       ·
        refine Zf (fun g9 => ?_) (fun g9 => ?_)
        ·
         have w10 := kY (a7 ≥ (1048576 : Int)) <| hF g8 <| hT g7 <| hF g6 w6
         refine Zf (fun g10 => ?_) (fun _ => Zp)
         refine Zf (fun g11 => ?_) (fun g11 => ?_)
         ·
          have w12 := kM a7 (1048576 : Int) <| hY g11 <| kV a7 (1048576 : Int) w10
          refine Zf (fun g12 => ?_) (fun g12 => ?_)
          ·
           refine Zf (fun g13 => ?_) (fun _ => Zp)
           have w14 := kX ((IntKind.u64.wrap a5) == a5) true (beq_iff_eq.2 (Zkc ltA)) <| hT g7 <| kY ((a7 % (1048576 : Int)) ≥ (1 : Int)) w12
           refine Zf (fun g14 => ?_) (fun _ => Zp)
           refine Zf (fun g15 => ?_) (fun _ => Zp)
           have w16 := kM ((L1.getD (y0_0).toNat RI.z).a5 / (2 ^ (a5).toNat : Int)) (2 : Int) <| kS a5 ((a5).toNat) .i64 w14
           refine Zf (fun g16 => ?_) (fun g16 => ?_)
           ·
            refine Zf (fun _ => Zp) (fun g17 => ?_)
            refine Zf (fun g18 => ?_) (fun _ => Zp)
            refine Zf (fun g19 => ?_) (fun _ => Zp)
            refine Z7 (fun z20 c20 => ?_)
            cases z20 with
            | r0 =>
             exact fxC (Zg (oq [0, 2, 4, 6, 9, 10, 13, 15, 17, 19, 21]) [(0, (a7 / (1048576 : Int))), (1, (a7 % (1048576 : Int))), (2, a5), (4, (((L1.getD (y0_0).toNat RI.z).a5 / (2 ^ (a5).toNat : Int)) % (2 : Int)))] [(0, (y0_0).toNat), (1, (a5).toNat)] [(3, (RD.cel (L1.getD (y0_0).toNat RI.z)))] [(0, (Zz c0 [] 4).t), (3, .sh (a5).toNat), (5, .ap (L1.getD (y0_0).toNat RI.z).a8.length (Za RA (L1.getD (y0_0).toNat RI.z).a8) (Za RA (L1.getD (y0_0).toNat RI.z).a8)), (6, .st (Za RA ((L1.getD (y0_0).toNat RI.z).a8.set (a5).toNat (⟨a6, a7⟩ : RF)))), (8, (Zfn c20 [8] 9).t)]) [] (Value.tuple #[Value.agg #[vi a0, ms RD (L1.set (y0_0).toNat (⟨(L1.getD (y0_0).toNat RI.z).a0, (L1.getD (y0_0).toNat RI.z).a1, (L1.getD (y0_0).toNat RI.z).a2, (L1.getD (y0_0).toNat RI.z).a3, (L1.getD (y0_0).toNat RI.z).a4, (L1.getD (y0_0).toNat RI.z).a5, (L1.getD (y0_0).toNat RI.z).a6, (L1.getD (y0_0).toNat RI.z).a7, ((L1.getD (y0_0).toNat RI.z).a8.set (a5).toNat (⟨a6, a7⟩ : RF))⟩ : RI)), ms eI L2], vq]) (kKb (A := #[Value.agg (κc a0 L1 L2), vi y0_0, Value.agg #[vi (L1.getD (y0_0).toNat RI.z).a0, vi (L1.getD (y0_0).toNat RI.z).a1, vi (L1.getD (y0_0).toNat RI.z).a2, vi (L1.getD (y0_0).toNat RI.z).a3, vi (L1.getD (y0_0).toNat RI.z).a4, vi (L1.getD (y0_0).toNat RI.z).a5, vi (L1.getD (y0_0).toNat RI.z).a6, vi (L1.getD (y0_0).toNat RI.z).a7, vs 8 0 (0 + (L1.getD (y0_0).toNat RI.z).a8.length) (0 + (L1.getD (y0_0).toNat RI.z).a8.length)]]) (Zgy (Zj rfl (Zj rfl (Zj (Zc5 (Zj rfl (Zj rfl (Zj rfl (Zj rfl (Zj rfl (Zj rfl (Zj rfl (Zj rfl (Zj (Zn rfl eqA eqA) rfl)))))))))) rfl)))) (Zg0 c20 [8] 9) <| kR (Za RA ((L1.getD (y0_0).toNat RI.z).a8.set (a5).toNat (⟨a6, a7⟩ : RF))) <| kC (ZaL (E := RA) (L := (L1.getD (y0_0).toNat RI.z).a8) (i := (a5).toNat) (q := 0) (l := [vi a6, vi a7]) (⟨a6, a7⟩ : RF) ltA (show (0 + ((a5).toNat * 2)) = (a5).toNat * 2 + 0 from by omega) (show 0 + 2 ≤ 2 from by decide) rfl) <| kB (a5).toNat (0 + (L1.getD (y0_0).toNat RI.z).a8.length) <| kI a5 (Int.ofNat (a5).toNat) <| kX (dP (((L1.getD (y0_0).toNat RI.z).a8.length = (L1.getD (y0_0).toNat RI.z).a8.length ∧ (((L1.getD (y0_0).toNat RI.z).a8.length * 2 = 0 ∧ (Za RA (L1.getD (y0_0).toNat RI.z).a8) = []) ∨ ∃ c, (L1.getD (y0_0).toNat RI.z).a8.length * 2 ≠ 0 ∧ Zat (code (Zac RA (L1.getD (y0_0).toNat RI.z).a8)) 0 ((L1.getD (y0_0).toNat RI.z).a8.length * 2) = some c ∧ (Za RA (L1.getD (y0_0).toNat RI.z).a8) = Zs c)) ∧ 0 < (L1.getD (y0_0).toNat RI.z).a8.length ∧ (L1.getD (y0_0).toNat RI.z).a8.length ≤ 100000 ∧ 0 < 0 + (L1.getD (y0_0).toNat RI.z).a8.length ∧ 0 ≤ 100000 ∧ 0 * 2 ≤ (List.length []) ∧ List.take (0 * 2) [] ++ (Za RA (L1.getD (y0_0).toNat RI.z).a8) = (Za RA (L1.getD (y0_0).toNat RI.z).a8))) true (ZaD ⟨⟨rfl, (Zf0 (E := RA) (L := (L1.getD (y0_0).toNat RI.z).a8) (n := (L1.getD (y0_0).toNat RI.z).a8.length) (size := 2) rfl (by decide) (by omega))⟩, by omega, by omega, ltA, by omega, (ZdL (E := RA) (L := ([] : List RF)) (M := (L1.getD (y0_0).toNat RI.z).a8) (n := 0) (show _ = _ * 2 from rfl) ltA (R := (L1.getD (y0_0).toNat RI.z).a8) (by rw [List.take_of_length_le ltA]; rfl))⟩) <| hT g16 w16) bE
           ·
            exact fxC (Zg (oq [0, 2, 4, 6, 9, 10, 13, 15, 17, 19, 20]) [(0, (a7 / (1048576 : Int))), (1, (a7 % (1048576 : Int))), (2, a5), (4, (((L1.getD (y0_0).toNat RI.z).a5 / (2 ^ (a5).toNat : Int)) % (2 : Int)))] [(0, (y0_0).toNat)] [(3, (RD.cel (L1.getD (y0_0).toNat RI.z)))] [(0, (Zz c0 [] 4).t), (3, .sh (a5).toNat)]) [] (Value.tuple #[Value.agg (κc a0 L1 L2), vi (10 : Int)]) (hF g16 w16) bE
          ·
           exact fxC (Zg (oq [0, 2, 4, 6, 9, 10, 13, 15, 16]) [(0, (a7 / (1048576 : Int))), (1, (a7 % (1048576 : Int)))] [(0, (y0_0).toNat)] [(3, (RD.cel (L1.getD (y0_0).toNat RI.z)))] [(0, (Zz c0 [] 4).t)]) [] (Value.tuple #[Value.agg (κc a0 L1 L2), vi (10 : Int)]) (kN ((a7 % (1048576 : Int)) ≥ (1 : Int)) w12) bE
         ·
          exact fxC (Zg (oq [0, 2, 4, 6, 9, 10, 13, 14]) [(0, (a7 / (1048576 : Int)))] [(0, (y0_0).toNat)] [(3, (RD.cel (L1.getD (y0_0).toNat RI.z)))] [(0, (Zz c0 [] 4).t)]) [] (Value.tuple #[Value.agg (κc a0 L1 L2), vi (10 : Int)]) (hN g11 <| kV a7 (1048576 : Int) w10) bE
        ·
         exact fxC (Zg (oq [0, 2, 4, 6, 9, 10, 12]) [] [(0, (y0_0).toNat)] [(3, (RD.cel (L1.getD (y0_0).toNat RI.z)))] [(0, (Zz c0 [] 4).t)]) [] (Value.tuple #[Value.agg (κc a0 L1 L2), vi (10 : Int)]) (kN (a7 ≥ (1048576 : Int)) <| hF g8 <| hT g7 <| hF g6 w6) bE
      ·
       exact fxC (Zg (oq [0, 2, 4, 6, 8]) [] [(0, (y0_0).toNat)] [(3, (RD.cel (L1.getD (y0_0).toNat RI.z)))] [(0, (Zz c0 [] 4).t)]) [] (Value.tuple #[Value.agg (κc a0 L1 L2), vi (10 : Int)]) (hF g7 <| hF g6 w6) bE

theorem Zns (a0 : Int) (L1 : List RI) (L2 : List Int) (a3 a4 a5 a6 a7 : Int) (N : Nat) (r : Zam) (h : Zc3 a0 L1 L2 a3 a4 a5 a6 a7 N = some r) : LSpec Try.prog 31 #[Value.agg (κc a0 L1 L2), Value.agg #[vi a3, vi a4], vi a5, Value.agg #[vi a6, vi a7]] [] (ZlR a0 L1 L2 a3 a4 a5 a6 a7 r) (ZkC a0 L1 L2 a3 a4 a5 a6 a7 r) :=
 ZaA Zq Try.func31 (by kernel_rfl) (by kernel_rfl) (fun r => by cases r <;> exact Z8 _ rfl) (ZoY a0 L1 L2 a3 a4 a5 a6 a7 N) h

noncomputable def Ze2 {a0 : Int} {L1 : List RI} {L2 : List Int} {a3 : Int} {a4 : Int} {a5 : Int} {a6 : Int} {a7 : Int} {w1 : List RI} {w3 : Int} {N : Nat} (h : Zc3 a0 L1 L2 a3 a4 a5 a6 a7 N = some (.r0 w1 w3)) (ks : List Nat) (n : Nat) : ToldS := ⟨#[Value.agg (κc a0 L1 L2), Value.agg #[vi a3, vi a4], vi a5, Value.agg #[vi a6, vi a7]], [], Value.tuple #[Value.agg #[vi a0, ms RD w1, ms eI L2], vi w3], [], 0⟩

theorem Zf1 {a0 : Int} {L1 : List RI} {L2 : List Int} {a3 : Int} {a4 : Int} {a5 : Int} {a6 : Int} {a7 : Int} {w1 : List RI} {w3 : Int} {N : Nat} (h : Zc3 a0 L1 L2 a3 a4 a5 a6 a7 N = some (.r0 w1 w3)) (ks : List Nat) (n : Nat) (hk : ks.length = 0 := by rfl) (hnd : ks.Nodup := by decide +kernel) (hlt : ∀ k ∈ ks, k < n := by decide +kernel) : (Ze2 (N := N)  h ks n).P Try.prog 31 n :=
 match ks, hk, hnd, hlt with
 | [], _, hnd, hlt => ZW (show LSpec Try.prog 31 #[Value.agg (κc a0 L1 L2), Value.agg #[vi a3, vi a4], vi a5, Value.agg #[vi a6, vi a7]] [] (Value.tuple #[Value.agg #[vi a0, ms RD w1, ms eI L2], vi w3]) [] from Zns a0 L1 L2 a3 a4 a5 a6 a7 N _ h) _ n [] hnd hlt

noncomputable def Zih (a0 a1 a2 : Int) (L3 : List RG) (L4 : List RF) (W5 : Nat → List Int) : ZaZ → Value
 | .r0 w0 w19 => vi w19
noncomputable def Zhh (a0 a1 a2 : Int) (L3 : List RG) (L4 : List RF) (W5 : Nat → List Int) : ZaZ → List (Option AObj)
 | .r0 w0 w19 => (some (.cells (hpC a2 1 w0.length 2 L4.length 3 W5) 67) :: some (.cells (Za RB w0) 50) :: some (.cells (Za RA L4) 41) :: hpO W5 [])

theorem ZlS (a0 a1 a2 : Int) (L3 : List RG) (L4 : List RF) (W5 : Nat → List Int) (N : Nat) : Fx Try.prog Z1 Try.f32 (κg a2 L3 L4 W5) (κF a0 a1) (Zih a0 a1 a2 L3 L4 W5) (Zhh a0 a1 a2 L3 L4 W5) (ZaV a0 a1 a2 L3 L4 W5 N) := by
 unfold ZaV
 refine Zf (fun g0 => ?_) (fun g0 => ?_)
 ·
  refine Z7 (fun z1 c1 => ?_)
  cases z1 with
  | r0 y1_0 y1_1 =>
   have w2 := kK (Zcw c1 (rg 0 20 []) 21) <| kY (a2 > (0 : Int)) Zm
   refine Zf (fun g2 => ?_) (fun g2 => ?_)
   ·
    exact fxC (Zg (oq [3, 7]) [] [] [] [(0, (ZF c1 (rg 0 20 []) 21).t)]) (rg 0 20 []) (vi y1_1) (hD g2 w2) (bS (hpC a2 1 L3.length 2 L4.length 3 W5) <| bR <| bR <| Zo <| bQ <| bE)
   ·
    refine Zf (fun g3 => ?_) (fun _ => Zp)
    refine Zf (fun g4 => ?_) (fun _ => Zp)
    have w5 := kL RB L3 (((i64.wrap (y1_0 - (1 : Int)))).toNat) 3 1 <| kB ((i64.wrap (y1_0 - (1 : Int)))).toNat L3.length <| kI (i64.wrap (y1_0 - (1 : Int))) (Int.ofNat ((i64.wrap (y1_0 - (1 : Int)))).toNat) <| kE y1_1 (0 : Int) w2
    refine Zf (fun g5 => ?_) (fun g5 => ?_)
    ·
     exact fxC (Zg (oq [3, 6, 9]) [] [(0, ((i64.wrap (y1_0 - (1 : Int)))).toNat)] [(3, [.i (L3.getD ((i64.wrap (y1_0 - (1 : Int)))).toNat RG.z).a3])] [(0, (ZF c1 (rg 0 20 []) 21).t), (1, .st (Za RB (L3.set ((i64.wrap (y1_0 - (1 : Int)))).toNat (⟨(L3.getD ((i64.wrap (y1_0 - (1 : Int)))).toNat RG.z).a0, (L3.getD ((i64.wrap (y1_0 - (1 : Int)))).toNat RG.z).a1, (L3.getD ((i64.wrap (y1_0 - (1 : Int)))).toNat RG.z).a2, (2 : Int), (L3.getD ((i64.wrap (y1_0 - (1 : Int)))).toNat RG.z).a4⟩ : RG))))]) (rg 0 20 []) (vq) (kC (ZaL (E := RB) (L := L3) (i := ((i64.wrap (y1_0 - (1 : Int)))).toNat) (q := 3) (l := [vi (2 : Int)]) (⟨(L3.getD ((i64.wrap (y1_0 - (1 : Int)))).toNat RG.z).a0, (L3.getD ((i64.wrap (y1_0 - (1 : Int)))).toNat RG.z).a1, (L3.getD ((i64.wrap (y1_0 - (1 : Int)))).toNat RG.z).a2, (2 : Int), (L3.getD ((i64.wrap (y1_0 - (1 : Int)))).toNat RG.z).a4⟩ : RG) (by omega) (show ((0 + (((i64.wrap (y1_0 - (1 : Int)))).toNat * 5)) + 3) = ((i64.wrap (y1_0 - (1 : Int)))).toNat * 5 + 3 from by omega) (show 3 + 1 ≤ 5 from by decide) rfl) <| hT g5 w5) (bU (hpC a2 1 L3.length 2 L4.length 3 W5) 1 (show (vs 1 0 L3.length L3.length : Value) = vs 1 0 (L3.set ((i64.wrap (y1_0 - (1 : Int)))).toNat (⟨(L3.getD ((i64.wrap (y1_0 - (1 : Int)))).toNat RG.z).a0, (L3.getD ((i64.wrap (y1_0 - (1 : Int)))).toNat RG.z).a1, (L3.getD ((i64.wrap (y1_0 - (1 : Int)))).toNat RG.z).a2, (2 : Int), (L3.getD ((i64.wrap (y1_0 - (1 : Int)))).toNat RG.z).a4⟩ : RG)).length (L3.set ((i64.wrap (y1_0 - (1 : Int)))).toNat (⟨(L3.getD ((i64.wrap (y1_0 - (1 : Int)))).toNat RG.z).a0, (L3.getD ((i64.wrap (y1_0 - (1 : Int)))).toNat RG.z).a1, (L3.getD ((i64.wrap (y1_0 - (1 : Int)))).toNat RG.z).a2, (2 : Int), (L3.getD ((i64.wrap (y1_0 - (1 : Int)))).toNat RG.z).a4⟩ : RG)).length from Zn rfl eqA eqA) <| bR <| bR <| Zo <| bQ <| bE)
    ·
     exact fxC (Zg (oq [3, 6, 8]) [] [(0, ((i64.wrap (y1_0 - (1 : Int)))).toNat)] [(3, [.i (L3.getD ((i64.wrap (y1_0 - (1 : Int)))).toNat RG.z).a3])] [(0, (ZF c1 (rg 0 20 []) 21).t)]) (rg 0 20 []) (vq) (hF g5 w5) (bS (hpC a2 1 L3.length 2 L4.length 3 W5) <| bR <| bR <| Zo <| bQ <| bE)
 ·
  exact fxC (Zg (oq [2]) [] [] [] []) (rg 0 20 []) (vi (4 : Int)) (kN (a2 > (0 : Int)) Zm) (bS (hpC a2 1 L3.length 2 L4.length 3 W5) <| bR <| bR <| Zo <| bQ <| bE)

theorem Zkr (a0 a1 a2 : Int) (L3 : List RG) (L4 : List RF) (W5 : Nat → List Int) (N : Nat) (r : ZaZ) (h : ZaV a0 a1 a2 L3 L4 W5 N = some r) : LSpec Try.prog 32 (κF a0 a1) (κg a2 L3 L4 W5) (Zih a0 a1 a2 L3 L4 W5 r) (Zhh a0 a1 a2 L3 L4 W5 r) :=
 ZaA Zq Try.func32 (by kernel_rfl) (by kernel_rfl) (fun r => by cases r <;> exact Z8 _ rfl) (ZlS a0 a1 a2 L3 L4 W5 N) h

noncomputable def Zb3 {a0 : Int} {a1 : Int} {a2 : Int} {L3 : List RG} {L4 : List RF} {W5 : Nat → List Int} {w0 : List RG} {w19 : Int} {N : Nat} (h : ZaV a0 a1 a2 L3 L4 W5 N = some (.r0 w0 w19)) (ks : List Nat) (n : Nat) : ToldS := ⟨#[vp (nth ks 0) 0, Value.agg #[vi a0, vi a1]], (κv ks a2 L3 L4 W5), vi w19, [((nth ks 0), some (.cells (ZhQ a2 (nth ks 1) w0.length (nth ks 2) L4.length (Zeu ks 3 17) W5) 67)), ((nth ks 1), some (.cells (Za RB w0) 50))], 0⟩

theorem Zm4 {a0 : Int} {a1 : Int} {a2 : Int} {L3 : List RG} {L4 : List RF} {W5 : Nat → List Int} {w0 : List RG} {w19 : Int} {N : Nat} (h : ZaV a0 a1 a2 L3 L4 W5 N = some (.r0 w0 w19)) (ks : List Nat) (n : Nat) (hk : ks.length = 20 := by rfl) (hnd : ks.Nodup := by decide +kernel) (hlt : ∀ k ∈ ks, k < n := by decide +kernel) : (Zb3 (N := N)  h ks n).P Try.prog 32 n :=
 match ks, hk, hnd, hlt with
 | [k0, k1, k2, k3, k4, k5, k6, k7, k8, k9, k10, k11, k12, k13, k14, k15, k16, k17, k18, k19], _, hnd, hlt => ZW (show LSpec Try.prog 32 (κF a0 a1) (κg a2 L3 L4 W5) (vi w19) (some (.cells (hpC a2 1 w0.length 2 L4.length 3 W5) 67) :: some (.cells (Za RB w0) 50) :: some (.cells (Za RA L4) 41) :: hpO W5 []) from Zkr a0 a1 a2 L3 L4 W5 N _ h) _ n [0, 1] hnd hlt

noncomputable def Zou (a0 : Int) (L1 : List RI) (L2 : List Int) (a3 a4 a5 : Int) : Zda → Value
 | .r0 w1 w3 => Value.tuple #[Value.agg #[vi a0, ms RD w1, ms eI L2], vi w3]
noncomputable def ZmO (a0 : Int) (L1 : List RI) (L2 : List Int) (a3 a4 a5 : Int) : Zda → List (Option AObj)
 | .r0 w1 w3 => []

theorem ZrD (a0 : Int) (L1 : List RI) (L2 : List Int) (a3 a4 a5 : Int) (N : Nat) : Fx Try.prog Z1 Try.f35 [] #[Value.agg (κc a0 L1 L2), Value.agg #[vi a3, vi a4], vi a5] (Zou a0 L1 L2 a3 a4 a5) (ZmO a0 L1 L2 a3 a4 a5) (Zdk a0 L1 L2 a3 a4 a5 N) := by
 unfold Zdk
 refine Z7 (fun z0 c0 => ?_)
 cases z0 with
 | r0 y0_0 y0_1 =>
  have w1 := kK (ZcA c0 [] 3) Zm
  refine Zf (fun g1 => ?_) (fun g1 => ?_)
  ·
   exact fxC (Zg (oq [1]) [] [] [] [(0, (Zz c0 [] 3).t)]) [] (Value.tuple #[Value.agg (κc a0 L1 L2), vi y0_1]) (hD g1 w1) bE
  ·
   refine Zf (fun g2 => ?_) (fun g2 => ?_)
   ·
    refine Zf (fun g3 => ?_) (fun g3 => ?_)
    ·
     refine Zf (fun g4 => ?_) (fun g4 => ?_)
     ·
      exact fxC (Zg (oq [0, 3, 5, 7]) [] [] [] [(0, (Zz c0 [] 3).t)]) [] (Value.tuple #[Value.agg (κc a0 L1 L2), vi (1 : Int)]) (hD g4 <| hD g3 <| hD g2 <| kE y0_1 (0 : Int) w1) bE
     ·
      refine Zf (fun g5 => ?_) (fun _ => Zp)
      refine Zf (fun g6 => ?_) (fun _ => Zp)
      refine Z7 (fun z7 c7 => ?_)
      cases z7 with
      | r0 =>
       exact fxC (Zg (oq [0, 3, 5, 6]) [] [(0, (y0_0).toNat)] [(3, (RD.cel (L1.getD (y0_0).toNat RI.z)))] [(0, (Zz c0 [] 3).t), (3, (Zcx c7 [] 4).t)]) [] (Value.tuple #[Value.agg #[vi a0, ms RD (L1.set (y0_0).toNat (⟨(L1.getD (y0_0).toNat RI.z).a0, (L1.getD (y0_0).toNat RI.z).a1, (L1.getD (y0_0).toNat RI.z).a2, (L1.getD (y0_0).toNat RI.z).a3, (L1.getD (y0_0).toNat RI.z).a4, (L1.getD (y0_0).toNat RI.z).a5, a5, (L1.getD (y0_0).toNat RI.z).a7, (L1.getD (y0_0).toNat RI.z).a8⟩ : RI)), ms eI L2], vq]) (kK (Zdo c7 [] 4) <| kG RD L1 (0 + ((y0_0).toNat * 9)) ((y0_0).toNat) 0 9 9 <| kB (y0_0).toNat L1.length <| kI y0_0 (Int.ofNat (y0_0).toNat) <| kE a5 (3 : Int) <| hD g3 <| hD g2 <| kE y0_1 (0 : Int) w1) bE
    ·
     refine Zf (fun g4 => ?_) (fun _ => Zp)
     refine Zf (fun g5 => ?_) (fun _ => Zp)
     refine Z7 (fun z6 c6 => ?_)
     cases z6 with
     | r0 =>
      exact fxC (Zg (oq [0, 3, 4]) [] [(0, (y0_0).toNat)] [(3, (RD.cel (L1.getD (y0_0).toNat RI.z)))] [(0, (Zz c0 [] 3).t), (3, (Zcx c6 [] 4).t)]) [] (Value.tuple #[Value.agg #[vi a0, ms RD (L1.set (y0_0).toNat (⟨(L1.getD (y0_0).toNat RI.z).a0, (L1.getD (y0_0).toNat RI.z).a1, (L1.getD (y0_0).toNat RI.z).a2, (L1.getD (y0_0).toNat RI.z).a3, (L1.getD (y0_0).toNat RI.z).a4, (L1.getD (y0_0).toNat RI.z).a5, a5, (L1.getD (y0_0).toNat RI.z).a7, (L1.getD (y0_0).toNat RI.z).a8⟩ : RI)), ms eI L2], vq]) (kK (Zdo c6 [] 4) <| kG RD L1 (0 + ((y0_0).toNat * 9)) ((y0_0).toNat) 0 9 9 <| kB (y0_0).toNat L1.length <| kI y0_0 (Int.ofNat (y0_0).toNat) <| kE a5 (2 : Int) <| hD g2 <| kE y0_1 (0 : Int) w1) bE
   ·
    refine Zf (fun g3 => ?_) (fun _ => Zp)
    refine Zf (fun g4 => ?_) (fun _ => Zp)
    refine Z7 (fun z5 c5 => ?_)
    cases z5 with
    | r0 =>
     exact fxC (Zg (oq [0, 2]) [] [(0, (y0_0).toNat)] [(3, (RD.cel (L1.getD (y0_0).toNat RI.z)))] [(0, (Zz c0 [] 3).t), (3, (Zcx c5 [] 4).t)]) [] (Value.tuple #[Value.agg #[vi a0, ms RD (L1.set (y0_0).toNat (⟨(L1.getD (y0_0).toNat RI.z).a0, (L1.getD (y0_0).toNat RI.z).a1, (L1.getD (y0_0).toNat RI.z).a2, (L1.getD (y0_0).toNat RI.z).a3, (L1.getD (y0_0).toNat RI.z).a4, (L1.getD (y0_0).toNat RI.z).a5, a5, (L1.getD (y0_0).toNat RI.z).a7, (L1.getD (y0_0).toNat RI.z).a8⟩ : RI)), ms eI L2], vq]) (kK (Zdo c5 [] 4) <| kG RD L1 (0 + ((y0_0).toNat * 9)) ((y0_0).toNat) 0 9 9 <| kB (y0_0).toNat L1.length <| kI y0_0 (Int.ofNat (y0_0).toNat) <| kE a5 (1 : Int) <| kE y0_1 (0 : Int) w1) bE

theorem ZoZ (a0 : Int) (L1 : List RI) (L2 : List Int) (a3 a4 a5 : Int) (N : Nat) (r : Zda) (h : Zdk a0 L1 L2 a3 a4 a5 N = some r) : LSpec Try.prog 35 #[Value.agg (κc a0 L1 L2), Value.agg #[vi a3, vi a4], vi a5] [] (Zou a0 L1 L2 a3 a4 a5 r) (ZmO a0 L1 L2 a3 a4 a5 r) :=
 ZaA Zq Try.func35 (by kernel_rfl) (by kernel_rfl) (fun r => by cases r <;> exact Z8 _ rfl) (ZrD a0 L1 L2 a3 a4 a5 N) h

noncomputable def ZdN {a0 : Int} {L1 : List RI} {L2 : List Int} {a3 : Int} {a4 : Int} {a5 : Int} {w1 : List RI} {w3 : Int} {N : Nat} (h : Zdk a0 L1 L2 a3 a4 a5 N = some (.r0 w1 w3)) (ks : List Nat) (n : Nat) : ToldS := ⟨#[Value.agg (κc a0 L1 L2), Value.agg #[vi a3, vi a4], vi a5], [], Value.tuple #[Value.agg #[vi a0, ms RD w1, ms eI L2], vi w3], [], 0⟩

theorem Zg3 {a0 : Int} {L1 : List RI} {L2 : List Int} {a3 : Int} {a4 : Int} {a5 : Int} {w1 : List RI} {w3 : Int} {N : Nat} (h : Zdk a0 L1 L2 a3 a4 a5 N = some (.r0 w1 w3)) (ks : List Nat) (n : Nat) (hk : ks.length = 0 := by rfl) (hnd : ks.Nodup := by decide +kernel) (hlt : ∀ k ∈ ks, k < n := by decide +kernel) : (ZdN (N := N)  h ks n).P Try.prog 35 n :=
 match ks, hk, hnd, hlt with
 | [], _, hnd, hlt => ZW (show LSpec Try.prog 35 #[Value.agg (κc a0 L1 L2), Value.agg #[vi a3, vi a4], vi a5] [] (Value.tuple #[Value.agg #[vi a0, ms RD w1, ms eI L2], vi w3]) [] from ZoZ a0 L1 L2 a3 a4 a5 N _ h) _ n [] hnd hlt

set_option linter.unusedVariables false
set_option maxRecDepth 100000
set_option maxHeartbeats 4000000
noncomputable def ZjK (a0 a1 a2 a3 : Int) (L4 : List RG) (L5 : List RF) (W6 : Nat → List Int) : Zbc → Value
 | .r0 w0 w19 => vi w19
noncomputable def ZiI (a0 a1 a2 a3 : Int) (L4 : List RG) (L5 : List RF) (W6 : Nat → List Int) : Zbc → List (Option AObj)
 | .r0 w0 w19 => (some (.cells (hpC a3 1 w0.length 2 L5.length 3 W6) 67) :: some (.cells (Za RB w0) 50) :: some (.cells (Za RA L5) 41) :: hpO W6 [])

theorem Znt (a0 a1 a2 a3 : Int) (L4 : List RG) (L5 : List RF) (W6 : Nat → List Int) (N : Nat) : Fx Try.prog Z1 Try.f34 (κf a3 L4 L5 W6) #[vp 0 0, Value.agg #[vi a0, vi a1], vi a2] (ZjK a0 a1 a2 a3 L4 L5 W6) (ZiI a0 a1 a2 a3 L4 L5 W6) (Zco a0 a1 a2 a3 L4 L5 W6 N) := by
 unfold Zco
 refine Zf (fun g0 => ?_) (fun g0 => ?_)
 ·
  refine Z7 (fun z1 c1 => ?_)
  cases z1 with
  | r0 y1_0 y1_1 =>
   have w2 := kK (Zcw c1 (rg 0 20 []) 21) <| kY (a3 > (0 : Int)) Zm
   refine Zf (fun g2 => ?_) (fun g2 => ?_)
   ·
    exact fxC (Zg (oq [3, 7]) [] [] [] [(0, (ZF c1 (rg 0 20 []) 21).t)]) (rg 0 20 []) (vi y1_1) (hD g2 w2) (bS (hpC a3 1 L4.length 2 L5.length 3 W6) <| bR <| bR <| Zo <| bQ <| bE)
   ·
    refine Zf (fun g3 => ?_) (fun g3 => ?_)
    ·
     refine Zf (fun g4 => ?_) (fun g4 => ?_)
     ·
      refine Zf (fun g5 => ?_) (fun g5 => ?_)
      ·
       exact fxC (Zg (oq [3, 6, 9, 11, 13]) [] [] [] [(0, (ZF c1 (rg 0 20 []) 21).t)]) (rg 0 20 []) (vi (1 : Int)) (hD g5 <| hD g4 <| hD g3 <| kE y1_1 (0 : Int) w2) (bS (hpC a3 1 L4.length 2 L5.length 3 W6) <| bR <| bR <| Zo <| bQ <| bE)
      ·
       refine Zf (fun g6 => ?_) (fun _ => Zp)
       refine Zf (fun g7 => ?_) (fun _ => Zp)
       exact fxC (Zg (oq [3, 6, 9, 11, 12]) [] [(0, ((i64.wrap (y1_0 - (1 : Int)))).toNat)] [] [(0, (ZF c1 (rg 0 20 []) 21).t), (1, .st (Za RB (L4.set ((i64.wrap (y1_0 - (1 : Int)))).toNat (⟨(L4.getD ((i64.wrap (y1_0 - (1 : Int)))).toNat RG.z).a0, (L4.getD ((i64.wrap (y1_0 - (1 : Int)))).toNat RG.z).a1, (L4.getD ((i64.wrap (y1_0 - (1 : Int)))).toNat RG.z).a2, a2, (L4.getD ((i64.wrap (y1_0 - (1 : Int)))).toNat RG.z).a4⟩ : RG))))]) (rg 0 20 []) (vq) (kC (ZaL (E := RB) (L := L4) (i := ((i64.wrap (y1_0 - (1 : Int)))).toNat) (q := 3) (l := [vi a2]) (⟨(L4.getD ((i64.wrap (y1_0 - (1 : Int)))).toNat RG.z).a0, (L4.getD ((i64.wrap (y1_0 - (1 : Int)))).toNat RG.z).a1, (L4.getD ((i64.wrap (y1_0 - (1 : Int)))).toNat RG.z).a2, a2, (L4.getD ((i64.wrap (y1_0 - (1 : Int)))).toNat RG.z).a4⟩ : RG) (by omega) (show ((0 + (((i64.wrap (y1_0 - (1 : Int)))).toNat * 5)) + 3) = ((i64.wrap (y1_0 - (1 : Int)))).toNat * 5 + 3 from by omega) (show 3 + 1 ≤ 5 from by decide) rfl) <| kB ((i64.wrap (y1_0 - (1 : Int)))).toNat L4.length <| kI (i64.wrap (y1_0 - (1 : Int))) (Int.ofNat ((i64.wrap (y1_0 - (1 : Int)))).toNat) <| kE a2 (3 : Int) <| hD g4 <| hD g3 <| kE y1_1 (0 : Int) w2) (bU (hpC a3 1 L4.length 2 L5.length 3 W6) 1 (show (vs 1 0 L4.length L4.length : Value) = vs 1 0 (L4.set ((i64.wrap (y1_0 - (1 : Int)))).toNat (⟨(L4.getD ((i64.wrap (y1_0 - (1 : Int)))).toNat RG.z).a0, (L4.getD ((i64.wrap (y1_0 - (1 : Int)))).toNat RG.z).a1, (L4.getD ((i64.wrap (y1_0 - (1 : Int)))).toNat RG.z).a2, a2, (L4.getD ((i64.wrap (y1_0 - (1 : Int)))).toNat RG.z).a4⟩ : RG)).length (L4.set ((i64.wrap (y1_0 - (1 : Int)))).toNat (⟨(L4.getD ((i64.wrap (y1_0 - (1 : Int)))).toNat RG.z).a0, (L4.getD ((i64.wrap (y1_0 - (1 : Int)))).toNat RG.z).a1, (L4.getD ((i64.wrap (y1_0 - (1 : Int)))).toNat RG.z).a2, a2, (L4.getD ((i64.wrap (y1_0 - (1 : Int)))).toNat RG.z).a4⟩ : RG)).length from Zn rfl eqA eqA) <| bR <| bR <| Zo <| bQ <| bE)
     ·
      refine Zf (fun g5 => ?_) (fun _ => Zp)
      refine Zf (fun g6 => ?_) (fun _ => Zp)
      exact fxC (Zg (oq [3, 6, 9, 10]) [] [(0, ((i64.wrap (y1_0 - (1 : Int)))).toNat)] [] [(0, (ZF c1 (rg 0 20 []) 21).t), (1, .st (Za RB (L4.set ((i64.wrap (y1_0 - (1 : Int)))).toNat (⟨(L4.getD ((i64.wrap (y1_0 - (1 : Int)))).toNat RG.z).a0, (L4.getD ((i64.wrap (y1_0 - (1 : Int)))).toNat RG.z).a1, (L4.getD ((i64.wrap (y1_0 - (1 : Int)))).toNat RG.z).a2, a2, (L4.getD ((i64.wrap (y1_0 - (1 : Int)))).toNat RG.z).a4⟩ : RG))))]) (rg 0 20 []) (vq) (kC (ZaL (E := RB) (L := L4) (i := ((i64.wrap (y1_0 - (1 : Int)))).toNat) (q := 3) (l := [vi a2]) (⟨(L4.getD ((i64.wrap (y1_0 - (1 : Int)))).toNat RG.z).a0, (L4.getD ((i64.wrap (y1_0 - (1 : Int)))).toNat RG.z).a1, (L4.getD ((i64.wrap (y1_0 - (1 : Int)))).toNat RG.z).a2, a2, (L4.getD ((i64.wrap (y1_0 - (1 : Int)))).toNat RG.z).a4⟩ : RG) (by omega) (show ((0 + (((i64.wrap (y1_0 - (1 : Int)))).toNat * 5)) + 3) = ((i64.wrap (y1_0 - (1 : Int)))).toNat * 5 + 3 from by omega) (show 3 + 1 ≤ 5 from by decide) rfl) <| kB ((i64.wrap (y1_0 - (1 : Int)))).toNat L4.length <| kI (i64.wrap (y1_0 - (1 : Int))) (Int.ofNat ((i64.wrap (y1_0 - (1 : Int)))).toNat) <| kE a2 (2 : Int) <| hD g3 <| kE y1_1 (0 : Int) w2) (bU (hpC a3 1 L4.length 2 L5.length 3 W6) 1 (show (vs 1 0 L4.length L4.length : Value) = vs 1 0 (L4.set ((i64.wrap (y1_0 - (1 : Int)))).toNat (⟨(L4.getD ((i64.wrap (y1_0 - (1 : Int)))).toNat RG.z).a0, (L4.getD ((i64.wrap (y1_0 - (1 : Int)))).toNat RG.z).a1, (L4.getD ((i64.wrap (y1_0 - (1 : Int)))).toNat RG.z).a2, a2, (L4.getD ((i64.wrap (y1_0 - (1 : Int)))).toNat RG.z).a4⟩ : RG)).length (L4.set ((i64.wrap (y1_0 - (1 : Int)))).toNat (⟨(L4.getD ((i64.wrap (y1_0 - (1 : Int)))).toNat RG.z).a0, (L4.getD ((i64.wrap (y1_0 - (1 : Int)))).toNat RG.z).a1, (L4.getD ((i64.wrap (y1_0 - (1 : Int)))).toNat RG.z).a2, a2, (L4.getD ((i64.wrap (y1_0 - (1 : Int)))).toNat RG.z).a4⟩ : RG)).length from Zn rfl eqA eqA) <| bR <| bR <| Zo <| bQ <| bE)
    ·
     refine Zf (fun g4 => ?_) (fun _ => Zp)
     refine Zf (fun g5 => ?_) (fun _ => Zp)
     exact fxC (Zg (oq [3, 6, 8]) [] [(0, ((i64.wrap (y1_0 - (1 : Int)))).toNat)] [] [(0, (ZF c1 (rg 0 20 []) 21).t), (1, .st (Za RB (L4.set ((i64.wrap (y1_0 - (1 : Int)))).toNat (⟨(L4.getD ((i64.wrap (y1_0 - (1 : Int)))).toNat RG.z).a0, (L4.getD ((i64.wrap (y1_0 - (1 : Int)))).toNat RG.z).a1, (L4.getD ((i64.wrap (y1_0 - (1 : Int)))).toNat RG.z).a2, a2, (L4.getD ((i64.wrap (y1_0 - (1 : Int)))).toNat RG.z).a4⟩ : RG))))]) (rg 0 20 []) (vq) (kC (ZaL (E := RB) (L := L4) (i := ((i64.wrap (y1_0 - (1 : Int)))).toNat) (q := 3) (l := [vi a2]) (⟨(L4.getD ((i64.wrap (y1_0 - (1 : Int)))).toNat RG.z).a0, (L4.getD ((i64.wrap (y1_0 - (1 : Int)))).toNat RG.z).a1, (L4.getD ((i64.wrap (y1_0 - (1 : Int)))).toNat RG.z).a2, a2, (L4.getD ((i64.wrap (y1_0 - (1 : Int)))).toNat RG.z).a4⟩ : RG) (by omega) (show ((0 + (((i64.wrap (y1_0 - (1 : Int)))).toNat * 5)) + 3) = ((i64.wrap (y1_0 - (1 : Int)))).toNat * 5 + 3 from by omega) (show 3 + 1 ≤ 5 from by decide) rfl) <| kB ((i64.wrap (y1_0 - (1 : Int)))).toNat L4.length <| kI (i64.wrap (y1_0 - (1 : Int))) (Int.ofNat ((i64.wrap (y1_0 - (1 : Int)))).toNat) <| kE a2 (1 : Int) <| kE y1_1 (0 : Int) w2) (bU (hpC a3 1 L4.length 2 L5.length 3 W6) 1 (show (vs 1 0 L4.length L4.length : Value) = vs 1 0 (L4.set ((i64.wrap (y1_0 - (1 : Int)))).toNat (⟨(L4.getD ((i64.wrap (y1_0 - (1 : Int)))).toNat RG.z).a0, (L4.getD ((i64.wrap (y1_0 - (1 : Int)))).toNat RG.z).a1, (L4.getD ((i64.wrap (y1_0 - (1 : Int)))).toNat RG.z).a2, a2, (L4.getD ((i64.wrap (y1_0 - (1 : Int)))).toNat RG.z).a4⟩ : RG)).length (L4.set ((i64.wrap (y1_0 - (1 : Int)))).toNat (⟨(L4.getD ((i64.wrap (y1_0 - (1 : Int)))).toNat RG.z).a0, (L4.getD ((i64.wrap (y1_0 - (1 : Int)))).toNat RG.z).a1, (L4.getD ((i64.wrap (y1_0 - (1 : Int)))).toNat RG.z).a2, a2, (L4.getD ((i64.wrap (y1_0 - (1 : Int)))).toNat RG.z).a4⟩ : RG)).length from Zn rfl eqA eqA) <| bR <| bR <| Zo <| bQ <| bE)
 ·
  exact fxC (Zg (oq [2]) [] [] [] []) (rg 0 20 []) (vi (4 : Int)) (kN (a3 > (0 : Int)) Zm) (bS (hpC a3 1 L4.length 2 L5.length 3 W6) <| bR <| bR <| Zo <| bQ <| bE)

theorem ZlT (a0 a1 a2 a3 : Int) (L4 : List RG) (L5 : List RF) (W6 : Nat → List Int) (N : Nat) (r : Zbc) (h : Zco a0 a1 a2 a3 L4 L5 W6 N = some r) : LSpec Try.prog 34 #[vp 0 0, Value.agg #[vi a0, vi a1], vi a2] (κf a3 L4 L5 W6) (ZjK a0 a1 a2 a3 L4 L5 W6 r) (ZiI a0 a1 a2 a3 L4 L5 W6 r) :=
 ZaA Zq Try.func34 (by kernel_rfl) (by kernel_rfl) (fun r => by cases r <;> exact Z8 _ rfl) (Znt a0 a1 a2 a3 L4 L5 W6 N) h

noncomputable def ZdI {a0 : Int} {a1 : Int} {a2 : Int} {a3 : Int} {L4 : List RG} {L5 : List RF} {W6 : Nat → List Int} {w0 : List RG} {w19 : Int} {N : Nat} (h : Zco a0 a1 a2 a3 L4 L5 W6 N = some (.r0 w0 w19)) (ks : List Nat) (n : Nat) : ToldS := ⟨#[vp (nth ks 0) 0, Value.agg #[vi a0, vi a1], vi a2], (κu ks a3 L4 L5 W6), vi w19, [((nth ks 0), some (.cells (ZhQ a3 (nth ks 1) w0.length (nth ks 2) L5.length (Zeu ks 3 17) W6) 67)), ((nth ks 1), some (.cells (Za RB w0) 50))], 0⟩

theorem ZiJ {a0 : Int} {a1 : Int} {a2 : Int} {a3 : Int} {L4 : List RG} {L5 : List RF} {W6 : Nat → List Int} {w0 : List RG} {w19 : Int} {N : Nat} (h : Zco a0 a1 a2 a3 L4 L5 W6 N = some (.r0 w0 w19)) (ks : List Nat) (n : Nat) (hk : ks.length = 20 := by rfl) (hnd : ks.Nodup := by decide +kernel) (hlt : ∀ k ∈ ks, k < n := by decide +kernel) : (ZdI (N := N)  h ks n).P Try.prog 34 n :=
 match ks, hk, hnd, hlt with
 | [k0, k1, k2, k3, k4, k5, k6, k7, k8, k9, k10, k11, k12, k13, k14, k15, k16, k17, k18, k19], _, hnd, hlt => ZW (show LSpec Try.prog 34 #[vp 0 0, Value.agg #[vi a0, vi a1], vi a2] (κf a3 L4 L5 W6) (vi w19) (some (.cells (hpC a3 1 w0.length 2 L5.length 3 W6) 67) :: some (.cells (Za RB w0) 50) :: some (.cells (Za RA L5) 41) :: hpO W6 []) from ZlT a0 a1 a2 a3 L4 L5 W6 N _ h) _ n [0, 1] hnd hlt

noncomputable def ZfA (L0 : List RG) : Za5 → Value
 | .r0 => vs 1 0 L0.length L0.length
noncomputable def Zfw (L0 : List RG) : Za5 → List (Option AObj)
 | .r0 => [some (.cells (Za RB L0) 50), some (.cells (Za RB L0) 50)]

theorem Zfa (L0 : List RG) (N : Nat) (r : Za5) (h : Zas L0 N = some r) : LSpec Try.prog 48 #[vs 0 0 L0.length L0.length] [.cells (Za RB L0) 50] (ZfA L0 r) (Zfw L0 r) := by
 unfold Zas at h
 by_cases h0 : 0 < L0.length
 · rw [if_pos h0] at h
   by_cases h1 : L0.length ≤ 100000
   · rw [if_pos h1] at h
     obtain rfl := (Option.some.inj h).symm
     exact Zoe (E := RB) (L := L0) Zvz (List.length_pos_iff.1 h0) (Nat.le_trans h1 (by decide)) (by show L0.length * 40 ≤ _; omega)
   · rw [if_neg h1] at h; cases h
 · rw [if_neg h0] at h; cases h

noncomputable def Zdl {L0 : List RG} {N : Nat} (h : Zas L0 N = some (.r0)) (ks : List Nat) (n : Nat) : ToldS := ⟨#[vs (nth ks 0) 0 L0.length L0.length], [((nth ks 0), .cells (Za RB L0) 50)], vs n 0 L0.length L0.length, [(n, some (.cells (Za RB L0) 50))], 1⟩

theorem Zfx {L0 : List RG} {N : Nat} (h : Zas L0 N = some (.r0)) (ks : List Nat) (n : Nat) (hk : ks.length = 1 := by rfl) (hnd : ks.Nodup := by decide +kernel) (hlt : ∀ k ∈ ks, k < n := by decide +kernel) : (Zdl (N := N)  h ks n).P Try.prog 48 n :=
 match ks, hk, hnd, hlt with
 | [k0], _, hnd, hlt => ZW (show LSpec Try.prog 48 #[vs 0 0 L0.length L0.length] [.cells (Za RB L0) 50] (vs 1 0 L0.length L0.length) [some (.cells (Za RB L0) 50), some (.cells (Za RB L0) 50)] from Zfa L0 N _ h) _ n [1] hnd hlt

noncomputable def Zgm (L0 : List RF) : ZaI → Value
 | .r0 => vs 1 0 L0.length L0.length
noncomputable def ZfO (L0 : List RF) : ZaI → List (Option AObj)
 | .r0 => [some (.cells (Za RA L0) 41), some (.cells (Za RA L0) 41)]

theorem Zfq (L0 : List RF) (N : Nat) (r : ZaI) (h : Za2 L0 N = some r) : LSpec Try.prog 45 #[vs 0 0 L0.length L0.length] [.cells (Za RA L0) 41] (Zgm L0 r) (ZfO L0 r) := by
 unfold Za2 at h
 by_cases h0 : 0 < L0.length
 · rw [if_pos h0] at h
   by_cases h1 : L0.length ≤ 100000
   · rw [if_pos h1] at h
     obtain rfl := (Option.some.inj h).symm
     exact Zoe (E := RA) (L := L0) Zr0 (List.length_pos_iff.1 h0) (Nat.le_trans h1 (by decide)) (by show L0.length * 16 ≤ _; omega)
   · rw [if_neg h1] at h; cases h
 · rw [if_neg h0] at h; cases h

noncomputable def Zd2 {L0 : List RF} {N : Nat} (h : Za2 L0 N = some (.r0)) (ks : List Nat) (n : Nat) : ToldS := ⟨#[vs (nth ks 0) 0 L0.length L0.length], [((nth ks 0), .cells (Za RA L0) 41)], vs n 0 L0.length L0.length, [(n, some (.cells (Za RA L0) 41))], 1⟩

theorem ZfP {L0 : List RF} {N : Nat} (h : Za2 L0 N = some (.r0)) (ks : List Nat) (n : Nat) (hk : ks.length = 1 := by rfl) (hnd : ks.Nodup := by decide +kernel) (hlt : ∀ k ∈ ks, k < n := by decide +kernel) : (Zd2 (N := N)  h ks n).P Try.prog 45 n :=
 match ks, hk, hnd, hlt with
 | [k0], _, hnd, hlt => ZW (show LSpec Try.prog 45 #[vs 0 0 L0.length L0.length] [.cells (Za RA L0) 41] (vs 1 0 L0.length L0.length) [some (.cells (Za RA L0) 41), some (.cells (Za RA L0) 41)] from Zfq L0 N _ h) _ n [1] hnd hlt

noncomputable def Zjj (L0 : List Int) : ZbG → Value
 | .r0 => vs 1 0 L0.length L0.length
noncomputable def Zis (L0 : List Int) : ZbG → List (Option AObj)
 | .r0 => [some (.cells (Za eI L0) 3 true), some (.cells (Za eI L0) 3 true)]

theorem Zha (L0 : List Int) (N : Nat) (r : ZbG) (h : Zv L0 N = some r) : LSpec Try.prog 49 #[vs 0 0 L0.length L0.length] [.cells (Za eI L0) 3 true] (Zjj L0 r) (Zis L0 r) := by
 unfold Zv at h
 by_cases h1 : L0.length ≤ 100000
 · rw [if_pos h1] at h
   obtain rfl := (Option.some.inj h).symm
   exact Zwi (E := eI) (L := L0) Zv0 (Nat.le_trans h1 (by decide)) (by show L0.length * 8 ≤ _; omega)
 · rw [if_neg h1] at h; cases h

noncomputable def Z2 {L0 : List Int} {N : Nat} (h : Zv L0 N = some (.r0)) (ks : List Nat) (n : Nat) : ToldS := ⟨#[vs (nth ks 0) 0 L0.length L0.length], [((nth ks 0), .cells (Za eI L0) 3 true)], vs n 0 L0.length L0.length, [(n, some (.cells (Za eI L0) 3 true))], 1⟩

theorem Z3 {L0 : List Int} {N : Nat} (h : Zv L0 N = some (.r0)) (ks : List Nat) (n : Nat) (hk : ks.length = 1 := by rfl) (hnd : ks.Nodup := by decide +kernel) (hlt : ∀ k ∈ ks, k < n := by decide +kernel) : (Z2 (N := N)  h ks n).P Try.prog 49 n :=
 match ks, hk, hnd, hlt with
 | [k0], _, hnd, hlt => ZW (show LSpec Try.prog 49 #[vs 0 0 L0.length L0.length] [.cells (Za eI L0) 3 true] (vs 1 0 L0.length L0.length) [some (.cells (Za eI L0) 3 true), some (.cells (Za eI L0) 3 true)] from Zha L0 N _ h) _ n [1] hnd hlt

end Ev
end Go.Proofs.Ytomkpfibofpkbaa
namespace Go.Proofs.Ytomkpfibofpkbaa
open Go.RowKit
namespace Ev
set_option linter.unusedVariables false
set_option maxRecDepth 100000
set_option maxHeartbeats 4000000
noncomputable def ZiK (a0 : Int) (L1 : List RG) (L2 : List RF) (W3 : Nat → List Int) : ZcL → Value
 | .r0 => vp 20 0
 | .r1 => Value.pointer none
noncomputable abbrev κm (a0 : Int) (L1 : List RG) (L2 : List RF) (W3 : Nat → List Int) := (some (AObj.cells (hpC a0 21 L1.length 22 L2.length 23 W3) 67) :: none :: none :: none :: none :: none :: none :: none :: none :: none :: none :: none :: none :: none :: none :: none :: none :: none :: none :: none :: some (AObj.cells (hpC a0 40 L1.length 41 L2.length 42 W3) 67) :: some (κt L1) :: some (AObj.cells (Za RA L2) 41) :: hpO W3 [some (κt L1), some (AObj.cells (Za RA L2) 41), some (AObj.cells (Za eI (W3 0)) 3 true), some (AObj.cells (Za eI (W3 1)) 3 true), some (AObj.cells (Za eI (W3 2)) 3 true), some (AObj.cells (Za eI (W3 3)) 3 true), some (AObj.cells (Za eI (W3 4)) 3 true), some (AObj.cells (Za eI (W3 5)) 3 true), some (AObj.cells (Za eI (W3 6)) 3 true), some (AObj.cells (Za eI (W3 7)) 3 true), some (AObj.cells (Za eI (W3 8)) 3 true), some (AObj.cells (Za eI (W3 9)) 3 true), some (AObj.cells (Za eI (W3 10)) 3 true), some (AObj.cells (Za eI (W3 11)) 3 true), some (AObj.cells (Za eI (W3 12)) 3 true), some (AObj.cells (Za eI (W3 13)) 3 true), some (AObj.cells (Za eI (W3 14)) 3 true), some (AObj.cells (Za eI (W3 15)) 3 true), some (AObj.cells (Za eI (W3 16)) 3 true)])
noncomputable def Zii (a0 : Int) (L1 : List RG) (L2 : List RF) (W3 : Nat → List Int) : ZcL → List (Option AObj)
 | .r0 => (κm a0 L1 L2 W3)
 | .r1 => (some (.cells (hpC a0 20 L1.length 21 L2.length 22 W3) 67) :: none :: none :: none :: none :: none :: none :: none :: none :: none :: none :: none :: none :: none :: none :: none :: none :: none :: none :: none :: some (κt L1) :: some (.cells (Za RA L2) 41) :: hpO W3 [])

theorem Zm5 (a0 : Int) (L1 : List RG) (L2 : List RF) (W3 : Nat → List Int) (N : Nat) : Gx Try.prog 15 (κe a0 L1 L2 W3) #[vp 0 0] (ZiK a0 L1 L2 W3) (Zii a0 L1 L2 W3) (Zbz a0 L1 L2 W3 N) := by
 unfold Zbz
 refine Zw (fun g0 => ?_) (fun g0 => ?_)
 ·
  refine Z4 (fun z1 c1 => ?_)
  cases z1 with
  | r0 =>
   refine Z4 (fun z2 c2 => ?_)
   cases z2 with
   | r0 =>
    refine Z4 (fun z3 c3 => ?_)
    cases z3 with
    | r0 =>
     refine Z4 (fun z4 c4 => ?_)
     cases z4 with
     | r0 =>
      refine Z4 (fun z5 c5 => ?_)
      cases z5 with
      | r0 =>
       refine Z4 (fun z6 c6 => ?_)
       cases z6 with
       | r0 =>
        refine Z4 (fun z7 c7 => ?_)
        cases z7 with
        | r0 =>
         refine Z4 (fun z8 c8 => ?_)
         cases z8 with
         | r0 =>
          refine Z4 (fun z9 c9 => ?_)
          cases z9 with
          | r0 =>
           refine Z4 (fun z10 c10 => ?_)
           cases z10 with
           | r0 =>
            refine Z4 (fun z11 c11 => ?_)
            cases z11 with
            | r0 =>
             refine Z4 (fun z12 c12 => ?_)
             cases z12 with
             | r0 =>
              refine Z4 (fun z13 c13 => ?_)
              cases z13 with
              | r0 =>
               refine Z4 (fun z14 c14 => ?_)
               cases z14 with
               | r0 =>
                refine Z4 (fun z15 c15 => ?_)
                cases z15 with
                | r0 =>
                 refine Z4 (fun z16 c16 => ?_)
                 cases z16 with
                 | r0 =>
                  refine Z4 (fun z17 c17 => ?_)
                  cases z17 with
                  | r0 =>
                   refine Z4 (fun z18 c18 => ?_)
                   cases z18 with
                   | r0 =>
                    refine Z4 (fun z19 c19 => ?_)
                    cases z19 with
                    | r0 =>
                     exact gxR Zq 1 (Zg (oq [3]) [] [] [] [(0, (Zdl c1 [1] 20).t), (1, (Zd2 c2 [2] 21).t), (2, (Z2 c3 [3] 23).t), (4, (Z2 c4 [4] 24).t), (6, (Z2 c5 [5] 25).t), (8, (Z2 c6 [6] 26).t), (10, (Z2 c7 [7] 27).t), (12, (Z2 c8 [8] 28).t), (14, (Z2 c9 [9] 29).t), (16, (Z2 c10 [10] 30).t), (18, (Z2 c11 [11] 31).t), (20, (Z2 c12 [12] 32).t), (22, (Z2 c13 [13] 33).t), (24, (Z2 c14 [14] 34).t), (26, (Z2 c15 [15] 35).t), (28, (Z2 c16 [16] 36).t), (30, (Z2 c17 [17] 37).t), (32, (Z2 c18 [18] 38).t), (34, (Z2 c19 [19] 39).t)]) (0 :: (rg 900000001 19 (22 :: (rg 1 21 (rg 23 17 []))))) (vp 22 0) (kK (Z3 c19 [19] 39) <| kK (Z3 c18 [18] 38) <| kK (Z3 c17 [17] 37) <| kK (Z3 c16 [16] 36) <| kK (Z3 c15 [15] 35) <| kK (Z3 c14 [14] 34) <| kK (Z3 c13 [13] 33) <| kK (Z3 c12 [12] 32) <| kK (Z3 c11 [11] 31) <| kK (Z3 c10 [10] 30) <| kK (Z3 c9 [9] 29) <| kK (Z3 c8 [8] 28) <| kK (Z3 c7 [7] 27) <| kK (Z3 c6 [6] 26) <| kK (Z3 c5 [5] 25) <| kK (Z3 c4 [4] 24) <| kK (Z3 c3 [3] 23) <| kK (ZfP c2 [2] 21) <| kK (Zfx c1 [1] 20) <| kY (a0 > (0 : Int)) Zm) (bS (hpC a0 1 L1.length 2 L2.length 3 W3) <| ZN <| bN <| bN <| bN <| bS (hpC a0 20 L1.length 21 L2.length 23 W3) <| bR <| bR <| Zo <| bQ <| bR <| bR <| Zo <| bQ <| bE)
 ·
  exact gxR Zq 1 (Zg (oq [2]) [] [] [] []) (0 :: (rg 900000001 19 (rg 1 19 []))) (Value.pointer none) (kN (a0 > (0 : Int)) Zm) (bS (hpC a0 1 L1.length 2 L2.length 3 W3) <| ZN <| bN <| bN <| bN <| bR <| bR <| Zo <| bQ <| bE)

theorem Zgq (a0 : Int) (L1 : List RG) (L2 : List RF) (W3 : Nat → List Int) (N : Nat) (r : ZcL) (h : Zbz a0 L1 L2 W3 N = some r) : LSpec Try.prog 15 #[vp 0 0] (κe a0 L1 L2 W3) (ZiK a0 L1 L2 W3 r) (Zii a0 L1 L2 W3 r) :=
 Zm5 a0 L1 L2 W3 N r h

noncomputable def ZfB {a0 : Int} {L1 : List RG} {L2 : List RF} {W3 : Nat → List Int} {N : Nat} (h : Zbz a0 L1 L2 W3 N = some (.r0)) (ks : List Nat) (n : Nat) : ToldS := ⟨#[vp (nth ks 0) 0], (κo ks a0 L1 L2 W3), vp n 0, [((nth ks 0), some (.cells [vi a0, vs (n + 1) 0 L1.length L1.length, vs (n + 2) 0 L2.length L2.length, vs (n + 3) 0 (W3 0).length (W3 0).length, vs (n + 4) 0 (W3 1).length (W3 1).length, vs (n + 5) 0 (W3 2).length (W3 2).length, vs (n + 6) 0 (W3 3).length (W3 3).length, vs (n + 7) 0 (W3 4).length (W3 4).length, vs (n + 8) 0 (W3 5).length (W3 5).length, vs (n + 9) 0 (W3 6).length (W3 6).length, vs (n + 10) 0 (W3 7).length (W3 7).length, vs (n + 11) 0 (W3 8).length (W3 8).length, vs (n + 12) 0 (W3 9).length (W3 9).length, vs (n + 13) 0 (W3 10).length (W3 10).length, vs (n + 14) 0 (W3 11).length (W3 11).length, vs (n + 15) 0 (W3 12).length (W3 12).length, vs (n + 16) 0 (W3 13).length (W3 13).length, vs (n + 17) 0 (W3 14).length (W3 14).length, vs (n + 18) 0 (W3 15).length (W3 15).length, vs (n + 19) 0 (W3 16).length (W3 16).length] 67)), ((nth ks 1), none), ((nth ks 2), none), ((nth ks 3), none), ((nth ks 4), none), ((nth ks 5), none), ((nth ks 6), none), ((nth ks 7), none), ((nth ks 8), none), ((nth ks 9), none), ((nth ks 10), none), ((nth ks 11), none), ((nth ks 12), none), ((nth ks 13), none), ((nth ks 14), none), ((nth ks 15), none), ((nth ks 16), none), ((nth ks 17), none), ((nth ks 18), none), ((nth ks 19), none), (n, some (.cells [vi a0, vs (n + 20) 0 L1.length L1.length, vs (n + 21) 0 L2.length L2.length, vs (n + 22) 0 (W3 0).length (W3 0).length, vs (n + 23) 0 (W3 1).length (W3 1).length, vs (n + 24) 0 (W3 2).length (W3 2).length, vs (n + 25) 0 (W3 3).length (W3 3).length, vs (n + 26) 0 (W3 4).length (W3 4).length, vs (n + 27) 0 (W3 5).length (W3 5).length, vs (n + 28) 0 (W3 6).length (W3 6).length, vs (n + 29) 0 (W3 7).length (W3 7).length, vs (n + 30) 0 (W3 8).length (W3 8).length, vs (n + 31) 0 (W3 9).length (W3 9).length, vs (n + 32) 0 (W3 10).length (W3 10).length, vs (n + 33) 0 (W3 11).length (W3 11).length, vs (n + 34) 0 (W3 12).length (W3 12).length, vs (n + 35) 0 (W3 13).length (W3 13).length, vs (n + 36) 0 (W3 14).length (W3 14).length, vs (n + 37) 0 (W3 15).length (W3 15).length, vs (n + 38) 0 (W3 16).length (W3 16).length] 67)), ((n + 1), some (κt L1)), ((n + 2), some (.cells (Za RA L2) 41)), ((n + 3), some (.cells (Za eI (W3 0)) 3 true)), ((n + 4), some (.cells (Za eI (W3 1)) 3 true)), ((n + 5), some (.cells (Za eI (W3 2)) 3 true)), ((n + 6), some (.cells (Za eI (W3 3)) 3 true)), ((n + 7), some (.cells (Za eI (W3 4)) 3 true)), ((n + 8), some (.cells (Za eI (W3 5)) 3 true)), ((n + 9), some (.cells (Za eI (W3 6)) 3 true)), ((n + 10), some (.cells (Za eI (W3 7)) 3 true)), ((n + 11), some (.cells (Za eI (W3 8)) 3 true)), ((n + 12), some (.cells (Za eI (W3 9)) 3 true)), ((n + 13), some (.cells (Za eI (W3 10)) 3 true)), ((n + 14), some (.cells (Za eI (W3 11)) 3 true)), ((n + 15), some (.cells (Za eI (W3 12)) 3 true)), ((n + 16), some (.cells (Za eI (W3 13)) 3 true)), ((n + 17), some (.cells (Za eI (W3 14)) 3 true)), ((n + 18), some (.cells (Za eI (W3 15)) 3 true)), ((n + 19), some (.cells (Za eI (W3 16)) 3 true)), ((n + 20), some (κt L1)), ((n + 21), some (.cells (Za RA L2) 41)), ((n + 22), some (.cells (Za eI (W3 0)) 3 true)), ((n + 23), some (.cells (Za eI (W3 1)) 3 true)), ((n + 24), some (.cells (Za eI (W3 2)) 3 true)), ((n + 25), some (.cells (Za eI (W3 3)) 3 true)), ((n + 26), some (.cells (Za eI (W3 4)) 3 true)), ((n + 27), some (.cells (Za eI (W3 5)) 3 true)), ((n + 28), some (.cells (Za eI (W3 6)) 3 true)), ((n + 29), some (.cells (Za eI (W3 7)) 3 true)), ((n + 30), some (.cells (Za eI (W3 8)) 3 true)), ((n + 31), some (.cells (Za eI (W3 9)) 3 true)), ((n + 32), some (.cells (Za eI (W3 10)) 3 true)), ((n + 33), some (.cells (Za eI (W3 11)) 3 true)), ((n + 34), some (.cells (Za eI (W3 12)) 3 true)), ((n + 35), some (.cells (Za eI (W3 13)) 3 true)), ((n + 36), some (.cells (Za eI (W3 14)) 3 true)), ((n + 37), some (.cells (Za eI (W3 15)) 3 true)), ((n + 38), some (.cells (Za eI (W3 16)) 3 true))], 39⟩

theorem Znu {a0 : Int} {L1 : List RG} {L2 : List RF} {W3 : Nat → List Int} {N : Nat} (h : Zbz a0 L1 L2 W3 N = some (.r0)) (ks : List Nat) (n : Nat) (hk : ks.length = 20 := by rfl) (hnd : ks.Nodup := by decide +kernel) (hlt : ∀ k ∈ ks, k < n := by decide +kernel) : (ZfB (N := N)  h ks n).P Try.prog 15 n :=
 match ks, hk, hnd, hlt with
 | [k0, k1, k2, k3, k4, k5, k6, k7, k8, k9, k10, k11, k12, k13, k14, k15, k16, k17, k18, k19], _, hnd, hlt => ZW (show LSpec Try.prog 15 #[vp 0 0] (κe a0 L1 L2 W3) (vp 20 0) (κm a0 L1 L2 W3) from Zgq a0 L1 L2 W3 N _ h) _ n (rg 0 59 []) hnd hlt

noncomputable def Zij {a0 : Int} {L1 : List RG} {L2 : List RF} {W3 : Nat → List Int} {N : Nat} (h : Zbz a0 L1 L2 W3 N = some (.r1)) (ks : List Nat) (n : Nat) : ToldS := ⟨#[vp (nth ks 0) 0], (κo ks a0 L1 L2 W3), Value.pointer none, [((nth ks 0), some (.cells [vi a0, vs n 0 L1.length L1.length, vs (n + 1) 0 L2.length L2.length, vs (n + 2) 0 (W3 0).length (W3 0).length, vs (n + 3) 0 (W3 1).length (W3 1).length, vs (n + 4) 0 (W3 2).length (W3 2).length, vs (n + 5) 0 (W3 3).length (W3 3).length, vs (n + 6) 0 (W3 4).length (W3 4).length, vs (n + 7) 0 (W3 5).length (W3 5).length, vs (n + 8) 0 (W3 6).length (W3 6).length, vs (n + 9) 0 (W3 7).length (W3 7).length, vs (n + 10) 0 (W3 8).length (W3 8).length, vs (n + 11) 0 (W3 9).length (W3 9).length, vs (n + 12) 0 (W3 10).length (W3 10).length, vs (n + 13) 0 (W3 11).length (W3 11).length, vs (n + 14) 0 (W3 12).length (W3 12).length, vs (n + 15) 0 (W3 13).length (W3 13).length, vs (n + 16) 0 (W3 14).length (W3 14).length, vs (n + 17) 0 (W3 15).length (W3 15).length, vs (n + 18) 0 (W3 16).length (W3 16).length] 67)), ((nth ks 1), none), ((nth ks 2), none), ((nth ks 3), none), ((nth ks 4), none), ((nth ks 5), none), ((nth ks 6), none), ((nth ks 7), none), ((nth ks 8), none), ((nth ks 9), none), ((nth ks 10), none), ((nth ks 11), none), ((nth ks 12), none), ((nth ks 13), none), ((nth ks 14), none), ((nth ks 15), none), ((nth ks 16), none), ((nth ks 17), none), ((nth ks 18), none), ((nth ks 19), none), (n, some (κt L1)), ((n + 1), some (.cells (Za RA L2) 41)), ((n + 2), some (.cells (Za eI (W3 0)) 3 true)), ((n + 3), some (.cells (Za eI (W3 1)) 3 true)), ((n + 4), some (.cells (Za eI (W3 2)) 3 true)), ((n + 5), some (.cells (Za eI (W3 3)) 3 true)), ((n + 6), some (.cells (Za eI (W3 4)) 3 true)), ((n + 7), some (.cells (Za eI (W3 5)) 3 true)), ((n + 8), some (.cells (Za eI (W3 6)) 3 true)), ((n + 9), some (.cells (Za eI (W3 7)) 3 true)), ((n + 10), some (.cells (Za eI (W3 8)) 3 true)), ((n + 11), some (.cells (Za eI (W3 9)) 3 true)), ((n + 12), some (.cells (Za eI (W3 10)) 3 true)), ((n + 13), some (.cells (Za eI (W3 11)) 3 true)), ((n + 14), some (.cells (Za eI (W3 12)) 3 true)), ((n + 15), some (.cells (Za eI (W3 13)) 3 true)), ((n + 16), some (.cells (Za eI (W3 14)) 3 true)), ((n + 17), some (.cells (Za eI (W3 15)) 3 true)), ((n + 18), some (.cells (Za eI (W3 16)) 3 true))], 19⟩

theorem Znv {a0 : Int} {L1 : List RG} {L2 : List RF} {W3 : Nat → List Int} {N : Nat} (h : Zbz a0 L1 L2 W3 N = some (.r1)) (ks : List Nat) (n : Nat) (hk : ks.length = 20 := by rfl) (hnd : ks.Nodup := by decide +kernel) (hlt : ∀ k ∈ ks, k < n := by decide +kernel) : (Zij (N := N)  h ks n).P Try.prog 15 n :=
 match ks, hk, hnd, hlt with
 | [k0, k1, k2, k3, k4, k5, k6, k7, k8, k9, k10, k11, k12, k13, k14, k15, k16, k17, k18, k19], _, hnd, hlt => ZW (show LSpec Try.prog 15 #[vp 0 0] (κe a0 L1 L2 W3) (Value.pointer none) (some (.cells (hpC a0 20 L1.length 21 L2.length 22 W3) 67) :: none :: none :: none :: none :: none :: none :: none :: none :: none :: none :: none :: none :: none :: none :: none :: none :: none :: none :: none :: some (κt L1) :: some (.cells (Za RA L2) 41) :: hpO W3 []) from Zgq a0 L1 L2 W3 N _ h) _ n (rg 0 39 []) hnd hlt

set_option linter.unusedVariables false
set_option maxRecDepth 100000
set_option maxHeartbeats 4000000
noncomputable def Zik (a0 a1 a2 a3 a4 : Int) (b5 : Bool) (a6 a7 a8 a9 a10 : Int) (L11 : List RI) (L12 : List Int) (L13 : List RF) (a14 : Int) (L15 : List RG) (L16 : List RF) (W17 : Nat → List Int) : Ze → Value
 | .r0 w0 w2 w3 w4 w6 w7 w8 => Value.bool w0
noncomputable def Zhi (a0 a1 a2 a3 a4 : Int) (b5 : Bool) (a6 a7 a8 a9 a10 : Int) (L11 : List RI) (L12 : List Int) (L13 : List RF) (a14 : Int) (L15 : List RG) (L16 : List RF) (W17 : Nat → List Int) : Ze → List (Option AObj)
 | .r0 w0 w2 w3 w4 w6 w7 w8 => (some (.cells [vp 22 0, vi a10, ms RD w2, ms eI w3, vs 23 0 w4.length w4.length] 37) :: none :: none :: none :: none :: none :: none :: none :: none :: none :: none :: none :: none :: none :: none :: none :: none :: none :: none :: none :: none :: none :: some (.cells (hpC a14 24 w6.length 25 w7.length 26 w8) 67) :: some (.cells (Za RA w4) 41 true) :: some (.cells (Za RB w6) 50) :: some (.cells (Za RA w7) 41) :: hpO w8 [])

noncomputable abbrev κG (L13 : List RF) := (Za RA (L13 ++ ([(⟨(0 : Int), (0 : Int)⟩ : RF)] : List RF)))
noncomputable abbrev κC (a10 : Int) (L11 : List RI) (L12 : List Int) (L13 : List RF) := [vp 1 0, vi a10, ms RD L11, ms eI L12, vs 47 0 (L13.length + 1) (L13.length + 1)]
noncomputable abbrev κi (L13 : List RF) := (vs 23 0 (L13.length + 1) (L13.length + 1) : Value)
theorem ZlU (a0 a1 a2 a3 a4 : Int) (b5 : Bool) (a6 a7 a8 a9 a10 : Int) (L11 : List RI) (L12 : List Int) (L13 : List RF) (a14 : Int) (L15 : List RG) (L16 : List RF) (W17 : Nat → List Int) (N : Nat) : Gx Try.prog 9 (.cells (κb a10 L11 L12 L13) 37 :: .cells (hpC a14 3 L15.length 4 L16.length 5 W17) 67 :: .cells (Za RA L13) 41 true :: .cells (Za RB L15) 50 :: .cells (Za RA L16) 41 :: hpP W17 []) #[vp 0 0, Value.agg (κd a0 a1 a2 a3 a4 b5 a6 a7 a8 a9)] (Zik a0 a1 a2 a3 a4 b5 a6 a7 a8 a9 a10 L11 L12 L13 a14 L15 L16 W17) (Zhi a0 a1 a2 a3 a4 b5 a6 a7 a8 a9 a10 L11 L12 L13 a14 L15 L16 W17) (Zbl a0 a1 a2 a3 a4 b5 a6 a7 a8 a9 a10 L11 L12 L13 a14 L15 L16 W17 N) := by
 unfold Zbl
 refine Z4 (fun z0 c0 => ?_)
 cases z0 with
 | r0 y0_0 y0_1 =>
  have w1 := kK (Zf9 c0 (rg 0 22 []) 23) Zm
  refine Zw (fun g1 => ?_) (fun _ => Zbw)
  have w2 := kM a0 (8 : Int) w1
  refine Zw (fun g2 => ?_) (fun g2 => ?_)
  ·
   refine Z4 (fun z3 c3 => ?_)
   cases z3 with
   | r0 y3_0 y3_1 y3_2 y3_3 y3_4 y3_5 =>
    have w4 := kK (Zfp c3 (1 :: (rg 3 19 [])) 24) <| hT g2 w2
    refine Z4 (fun z4 c4 => ?_)
    cases z4 with
    | r0 y4_0 =>
     have w5 := kK (Zk8 c4 [] 44) w4
     refine Zw (fun g5 => ?_) (fun g5 => ?_)
     ·
      refine Zw (fun g6 => ?_) (fun _ => Zbw)
      have w7 := kA RA L13 (⟨(0 : Int), (0 : Int)⟩ : RF) <| hT g5 w5
      refine Zw (fun g7 => ?_) (fun g7 => ?_)
      ·
       refine Zw (fun g8 => ?_) (fun g8 => ?_)
       ·
        exact gxR Zq 1 (Zg (oq [1, 3, 5, 7]) [(0, (a0 % (8 : Int)))] [] [] [(0, (Zc c0 (rg 0 22 []) 23).t), (3, (Zr c3 (1 :: (rg 3 19 [])) 24).t), (5, (ZaC c4 [] 44).t), (9, .ap 1 [vq, vq] (κG L13))]) (0 :: (rg 900000001 21 (1 :: (47 :: (rg 24 19 []))))) (vT) (hT g8 <| kZ ((y3_0 == (0 : Int)) && ((y3_1 == (0 : Int)) && true)) w7) (bU (κC a10 L11 L12 L13) 4 (show (κi L13) = vs 23 0 (L13 ++ ([(⟨(0 : Int), (0 : Int)⟩ : RF)] : List RF)).length (L13 ++ ([(⟨(0 : Int), (0 : Int)⟩ : RF)] : List RF)).length from Zn rfl eqA eqA) <| ZN <| bN4 <| bN <| bS (hpC a14 24 y3_3.length 25 y3_4.length 26 y3_5) <| bQ <| bR <| bR <| Zo <| bQ <| bE)
       ·
        exact gxR Zq 1 (Zg (oq [1, 3, 5, 6]) [(0, (a0 % (8 : Int)))] [] [] [(0, (Zc c0 (rg 0 22 []) 23).t), (3, (Zr c3 (1 :: (rg 3 19 [])) 24).t), (5, (ZaC c4 [] 44).t), (9, .ap 1 [vq, vq] (κG L13))]) (0 :: (rg 900000001 21 (1 :: (47 :: (rg 24 19 []))))) (vf) (hF g8 <| kZ ((y3_0 == (0 : Int)) && ((y3_1 == (0 : Int)) && true)) w7) (bU (κC a10 L11 L12 L13) 4 (show (κi L13) = vs 23 0 (L13 ++ ([(⟨(0 : Int), (0 : Int)⟩ : RF)] : List RF)).length (L13 ++ ([(⟨(0 : Int), (0 : Int)⟩ : RF)] : List RF)).length from Zn rfl eqA eqA) <| ZN <| bN4 <| bN <| bS (hpC a14 24 y3_3.length 25 y3_4.length 26 y3_5) <| bQ <| bR <| bR <| Zo <| bQ <| bE)
      ·
       exact gxR Zq 1 (Zg (oq [1, 3, 4]) [(0, (a0 % (8 : Int)))] [] [] [(0, (Zc c0 (rg 0 22 []) 23).t), (3, (Zr c3 (1 :: (rg 3 19 [])) 24).t), (5, (ZaC c4 [] 44).t), (9, .ap 1 [vq, vq] (κG L13))]) (0 :: (rg 900000001 21 (1 :: (47 :: (rg 24 19 []))))) (vf) (kO ((y3_0 == (0 : Int)) && ((y3_1 == (0 : Int)) && true)) w7) (bU (κC a10 L11 L12 L13) 4 (show (κi L13) = vs 23 0 (L13 ++ ([(⟨(0 : Int), (0 : Int)⟩ : RF)] : List RF)).length (L13 ++ ([(⟨(0 : Int), (0 : Int)⟩ : RF)] : List RF)).length from Zn rfl eqA eqA) <| ZN <| bN4 <| bN <| bS (hpC a14 24 y3_3.length 25 y3_4.length 26 y3_5) <| bQ <| bR <| bR <| Zo <| bQ <| bE)
     ·
      refine Zw (fun g6 => ?_) (fun g6 => ?_)
      ·
       refine Zw (fun g7 => ?_) (fun g7 => ?_)
       ·
        exact gxR Zq 1 (Zg (oq [1, 2, 5, 7]) [(0, (a0 % (8 : Int)))] [] [] [(0, (Zc c0 (rg 0 22 []) 23).t), (3, (Zr c3 (1 :: (rg 3 19 [])) 24).t), (5, (ZaC c4 [] 44).t)]) (0 :: (rg 900000001 21 (1 :: (2 :: (rg 24 19 []))))) (vT) (hT g7 <| kZ ((y3_0 == (0 : Int)) && ((y3_1 == (0 : Int)) && true)) <| hF g5 w5) (bS (κb a10 L11 L12 L13) <| ZN <| bN4 <| bN <| bS (hpC a14 24 y3_3.length 25 y3_4.length 26 y3_5) <| bQ <| bR <| bR <| Zo <| bQ <| bE)
       ·
        exact gxR Zq 1 (Zg (oq [1, 2, 5, 6]) [(0, (a0 % (8 : Int)))] [] [] [(0, (Zc c0 (rg 0 22 []) 23).t), (3, (Zr c3 (1 :: (rg 3 19 [])) 24).t), (5, (ZaC c4 [] 44).t)]) (0 :: (rg 900000001 21 (1 :: (2 :: (rg 24 19 []))))) (vf) (hF g7 <| kZ ((y3_0 == (0 : Int)) && ((y3_1 == (0 : Int)) && true)) <| hF g5 w5) (bS (κb a10 L11 L12 L13) <| ZN <| bN4 <| bN <| bS (hpC a14 24 y3_3.length 25 y3_4.length 26 y3_5) <| bQ <| bR <| bR <| Zo <| bQ <| bE)
      ·
       exact gxR Zq 1 (Zg (oq [1, 2, 4]) [(0, (a0 % (8 : Int)))] [] [] [(0, (Zc c0 (rg 0 22 []) 23).t), (3, (Zr c3 (1 :: (rg 3 19 [])) 24).t), (5, (ZaC c4 [] 44).t)]) (0 :: (rg 900000001 21 (1 :: (2 :: (rg 24 19 []))))) (vf) (kO ((y3_0 == (0 : Int)) && ((y3_1 == (0 : Int)) && true)) <| hF g5 w5) (bS (κb a10 L11 L12 L13) <| ZN <| bN4 <| bN <| bS (hpC a14 24 y3_3.length 25 y3_4.length 26 y3_5) <| bQ <| bR <| bR <| Zo <| bQ <| bE)
    | r1 y4_0 y4_1 y4_2 =>
     refine Zw (fun g5 => ?_) (fun _ => Zbw)
     have w6 := kA RA L13 (⟨y4_1, y4_2⟩ : RF) <| kK (Zk9 c4 [] 44) w4
     refine Zw (fun g6 => ?_) (fun g6 => ?_)
     ·
      refine Zw (fun g7 => ?_) (fun g7 => ?_)
      ·
       exact gxR Zq 1 (Zg (oq [1, 5, 7]) [(0, (a0 % (8 : Int)))] [] [] [(0, (Zc c0 (rg 0 22 []) 23).t), (3, (Zr c3 (1 :: (rg 3 19 [])) 24).t), (5, (ZcT c4 [] 44).t), (9, .ap 1 [vi y4_1, vi y4_2] (Za RA (L13 ++ ([(⟨y4_1, y4_2⟩ : RF)] : List RF))))]) (0 :: (rg 900000001 21 (1 :: (47 :: (rg 24 19 []))))) (vT) (hT g7 <| kZ ((y3_0 == y4_1) && ((y3_1 == y4_2) && true)) w6) (bU [vp 1 0, vi a10, ms RD y4_0, ms eI ([] : List Int), vs 47 0 (L13.length + 1) (L13.length + 1)] 4 (show (κi L13) = vs 23 0 (L13 ++ ([(⟨y4_1, y4_2⟩ : RF)] : List RF)).length (L13 ++ ([(⟨y4_1, y4_2⟩ : RF)] : List RF)).length from Zn rfl eqA eqA) <| ZN <| bN4 <| bN <| bS (hpC a14 24 y3_3.length 25 y3_4.length 26 y3_5) <| bQ <| bR <| bR <| Zo <| bQ <| bE)
      ·
       exact gxR Zq 1 (Zg (oq [1, 5, 6]) [(0, (a0 % (8 : Int)))] [] [] [(0, (Zc c0 (rg 0 22 []) 23).t), (3, (Zr c3 (1 :: (rg 3 19 [])) 24).t), (5, (ZcT c4 [] 44).t), (9, .ap 1 [vi y4_1, vi y4_2] (Za RA (L13 ++ ([(⟨y4_1, y4_2⟩ : RF)] : List RF))))]) (0 :: (rg 900000001 21 (1 :: (47 :: (rg 24 19 []))))) (vf) (hF g7 <| kZ ((y3_0 == y4_1) && ((y3_1 == y4_2) && true)) w6) (bU [vp 1 0, vi a10, ms RD y4_0, ms eI ([] : List Int), vs 47 0 (L13.length + 1) (L13.length + 1)] 4 (show (κi L13) = vs 23 0 (L13 ++ ([(⟨y4_1, y4_2⟩ : RF)] : List RF)).length (L13 ++ ([(⟨y4_1, y4_2⟩ : RF)] : List RF)).length from Zn rfl eqA eqA) <| ZN <| bN4 <| bN <| bS (hpC a14 24 y3_3.length 25 y3_4.length 26 y3_5) <| bQ <| bR <| bR <| Zo <| bQ <| bE)
     ·
      exact gxR Zq 1 (Zg (oq [1, 4]) [(0, (a0 % (8 : Int)))] [] [] [(0, (Zc c0 (rg 0 22 []) 23).t), (3, (Zr c3 (1 :: (rg 3 19 [])) 24).t), (5, (ZcT c4 [] 44).t), (9, .ap 1 [vi y4_1, vi y4_2] (Za RA (L13 ++ ([(⟨y4_1, y4_2⟩ : RF)] : List RF))))]) (0 :: (rg 900000001 21 (1 :: (47 :: (rg 24 19 []))))) (vf) (kO ((y3_0 == y4_1) && ((y3_1 == y4_2) && true)) w6) (bU [vp 1 0, vi a10, ms RD y4_0, ms eI ([] : List Int), vs 47 0 (L13.length + 1) (L13.length + 1)] 4 (show (κi L13) = vs 23 0 (L13 ++ ([(⟨y4_1, y4_2⟩ : RF)] : List RF)).length (L13 ++ ([(⟨y4_1, y4_2⟩ : RF)] : List RF)).length from Zn rfl eqA eqA) <| ZN <| bN4 <| bN <| bS (hpC a14 24 y3_3.length 25 y3_4.length 26 y3_5) <| bQ <| bR <| bR <| Zo <| bQ <| bE)
    | r2 y4_0 y4_1 y4_2 y4_3 =>
     refine Zw (fun g5 => ?_) (fun _ => Zbw)
     have w6 := kA RA L13 (⟨y4_2, y4_3⟩ : RF) <| kK (ZkA c4 [] 44) w4
     refine Zw (fun g6 => ?_) (fun g6 => ?_)
     ·
      refine Zw (fun g7 => ?_) (fun g7 => ?_)
      ·
       exact gxR Zq 1 (Zg (oq [1, 5, 7]) [(0, (a0 % (8 : Int)))] [] [] [(0, (Zc c0 (rg 0 22 []) 23).t), (3, (Zr c3 (1 :: (rg 3 19 [])) 24).t), (5, (ZcU c4 [] 44).t), (9, .ap 1 [vi y4_2, vi y4_3] (Za RA (L13 ++ ([(⟨y4_2, y4_3⟩ : RF)] : List RF))))]) (0 :: (rg 900000001 21 (1 :: (47 :: (rg 24 19 []))))) (vT) (hT g7 <| kZ ((y3_0 == y4_2) && ((y3_1 == y4_3) && true)) w6) (bU [vp 1 0, vi a10, ms RD y4_0, ms eI y4_1, vs 47 0 (L13.length + 1) (L13.length + 1)] 4 (show (κi L13) = vs 23 0 (L13 ++ ([(⟨y4_2, y4_3⟩ : RF)] : List RF)).length (L13 ++ ([(⟨y4_2, y4_3⟩ : RF)] : List RF)).length from Zn rfl eqA eqA) <| ZN <| bN4 <| bN <| bS (hpC a14 24 y3_3.length 25 y3_4.length 26 y3_5) <| bQ <| bR <| bR <| Zo <| bQ <| bE)
      ·
       exact gxR Zq 1 (Zg (oq [1, 5, 6]) [(0, (a0 % (8 : Int)))] [] [] [(0, (Zc c0 (rg 0 22 []) 23).t), (3, (Zr c3 (1 :: (rg 3 19 [])) 24).t), (5, (ZcU c4 [] 44).t), (9, .ap 1 [vi y4_2, vi y4_3] (Za RA (L13 ++ ([(⟨y4_2, y4_3⟩ : RF)] : List RF))))]) (0 :: (rg 900000001 21 (1 :: (47 :: (rg 24 19 []))))) (vf) (hF g7 <| kZ ((y3_0 == y4_2) && ((y3_1 == y4_3) && true)) w6) (bU [vp 1 0, vi a10, ms RD y4_0, ms eI y4_1, vs 47 0 (L13.length + 1) (L13.length + 1)] 4 (show (κi L13) = vs 23 0 (L13 ++ ([(⟨y4_2, y4_3⟩ : RF)] : List RF)).length (L13 ++ ([(⟨y4_2, y4_3⟩ : RF)] : List RF)).length from Zn rfl eqA eqA) <| ZN <| bN4 <| bN <| bS (hpC a14 24 y3_3.length 25 y3_4.length 26 y3_5) <| bQ <| bR <| bR <| Zo <| bQ <| bE)
     ·
      exact gxR Zq 1 (Zg (oq [1, 4]) [(0, (a0 % (8 : Int)))] [] [] [(0, (Zc c0 (rg 0 22 []) 23).t), (3, (Zr c3 (1 :: (rg 3 19 [])) 24).t), (5, (ZcU c4 [] 44).t), (9, .ap 1 [vi y4_2, vi y4_3] (Za RA (L13 ++ ([(⟨y4_2, y4_3⟩ : RF)] : List RF))))]) (0 :: (rg 900000001 21 (1 :: (47 :: (rg 24 19 []))))) (vf) (kO ((y3_0 == y4_2) && ((y3_1 == y4_3) && true)) w6) (bU [vp 1 0, vi a10, ms RD y4_0, ms eI y4_1, vs 47 0 (L13.length + 1) (L13.length + 1)] 4 (show (κi L13) = vs 23 0 (L13 ++ ([(⟨y4_2, y4_3⟩ : RF)] : List RF)).length (L13 ++ ([(⟨y4_2, y4_3⟩ : RF)] : List RF)).length from Zn rfl eqA eqA) <| ZN <| bN4 <| bN <| bS (hpC a14 24 y3_3.length 25 y3_4.length 26 y3_5) <| bQ <| bR <| bR <| Zo <| bQ <| bE)
    | r3 y4_0 y4_1 y4_2 =>
     refine Zw (fun g5 => ?_) (fun _ => Zbw)
     have w6 := kA RA L13 (⟨y4_1, y4_2⟩ : RF) <| kK (ZkB c4 [] 44) w4
     refine Zw (fun g6 => ?_) (fun g6 => ?_)
     ·
      refine Zw (fun g7 => ?_) (fun g7 => ?_)
      ·
       exact gxR Zq 1 (Zg (oq [1, 5, 7]) [(0, (a0 % (8 : Int)))] [] [] [(0, (Zc c0 (rg 0 22 []) 23).t), (3, (Zr c3 (1 :: (rg 3 19 [])) 24).t), (5, (ZcV c4 [] 44).t), (9, .ap 1 [vi y4_1, vi y4_2] (Za RA (L13 ++ ([(⟨y4_1, y4_2⟩ : RF)] : List RF))))]) (0 :: (rg 900000001 21 (1 :: (47 :: (rg 24 19 []))))) (vT) (hT g7 <| kZ ((y3_0 == y4_1) && ((y3_1 == y4_2) && true)) w6) (bU [vp 1 0, vi a10, ms RD y4_0, ms eI L12, vs 47 0 (L13.length + 1) (L13.length + 1)] 4 (show (κi L13) = vs 23 0 (L13 ++ ([(⟨y4_1, y4_2⟩ : RF)] : List RF)).length (L13 ++ ([(⟨y4_1, y4_2⟩ : RF)] : List RF)).length from Zn rfl eqA eqA) <| ZN <| bN4 <| bN <| bS (hpC a14 24 y3_3.length 25 y3_4.length 26 y3_5) <| bQ <| bR <| bR <| Zo <| bQ <| bE)
      ·
       exact gxR Zq 1 (Zg (oq [1, 5, 6]) [(0, (a0 % (8 : Int)))] [] [] [(0, (Zc c0 (rg 0 22 []) 23).t), (3, (Zr c3 (1 :: (rg 3 19 [])) 24).t), (5, (ZcV c4 [] 44).t), (9, .ap 1 [vi y4_1, vi y4_2] (Za RA (L13 ++ ([(⟨y4_1, y4_2⟩ : RF)] : List RF))))]) (0 :: (rg 900000001 21 (1 :: (47 :: (rg 24 19 []))))) (vf) (hF g7 <| kZ ((y3_0 == y4_1) && ((y3_1 == y4_2) && true)) w6) (bU [vp 1 0, vi a10, ms RD y4_0, ms eI L12, vs 47 0 (L13.length + 1) (L13.length + 1)] 4 (show (κi L13) = vs 23 0 (L13 ++ ([(⟨y4_1, y4_2⟩ : RF)] : List RF)).length (L13 ++ ([(⟨y4_1, y4_2⟩ : RF)] : List RF)).length from Zn rfl eqA eqA) <| ZN <| bN4 <| bN <| bS (hpC a14 24 y3_3.length 25 y3_4.length 26 y3_5) <| bQ <| bR <| bR <| Zo <| bQ <| bE)
     ·
      exact gxR Zq 1 (Zg (oq [1, 4]) [(0, (a0 % (8 : Int)))] [] [] [(0, (Zc c0 (rg 0 22 []) 23).t), (3, (Zr c3 (1 :: (rg 3 19 [])) 24).t), (5, (ZcV c4 [] 44).t), (9, .ap 1 [vi y4_1, vi y4_2] (Za RA (L13 ++ ([(⟨y4_1, y4_2⟩ : RF)] : List RF))))]) (0 :: (rg 900000001 21 (1 :: (47 :: (rg 24 19 []))))) (vf) (kO ((y3_0 == y4_1) && ((y3_1 == y4_2) && true)) w6) (bU [vp 1 0, vi a10, ms RD y4_0, ms eI L12, vs 47 0 (L13.length + 1) (L13.length + 1)] 4 (show (κi L13) = vs 23 0 (L13 ++ ([(⟨y4_1, y4_2⟩ : RF)] : List RF)).length (L13 ++ ([(⟨y4_1, y4_2⟩ : RF)] : List RF)).length from Zn rfl eqA eqA) <| ZN <| bN4 <| bN <| bS (hpC a14 24 y3_3.length 25 y3_4.length 26 y3_5) <| bQ <| bR <| bR <| Zo <| bQ <| bE)
  ·
   refine Zw (fun g3 => ?_) (fun g3 => ?_)
   ·
    have w4 := hT g3 <| hF g2 w2
    refine Z4 (fun z4 c4 => ?_)
    cases z4 with
    | r0 y4_0 y4_1 y4_2 y4_3 y4_4 y4_5 =>
     have w5 := kK (Zfp c4 (1 :: (rg 3 19 [])) 24) w4
     refine Z4 (fun z5 c5 => ?_)
     cases z5 with
     | r0 y5_0 =>
      have w6 := kK (Zk8 c5 [] 44) w5
      refine Zw (fun g6 => ?_) (fun g6 => ?_)
      ·
       refine Zw (fun g7 => ?_) (fun _ => Zbw)
       have w8 := kA RA L13 (⟨(0 : Int), (0 : Int)⟩ : RF) <| hT g6 w6
       refine Zw (fun g8 => ?_) (fun g8 => ?_)
       ·
        refine Zw (fun g9 => ?_) (fun g9 => ?_)
        ·
         exact gxR Zq 1 (Zg (oq [0, 3, 5, 7, 9]) [(0, (a0 % (8 : Int)))] [] [] [(0, (Zc c0 (rg 0 22 []) 23).t), (3, (Zr c4 (1 :: (rg 3 19 [])) 24).t), (5, (ZaC c5 [] 44).t), (9, .ap 1 [vq, vq] (κG L13))]) (0 :: (rg 900000001 21 (1 :: (47 :: (rg 24 19 []))))) (vT) (hT g9 <| kZ ((y4_0 == (0 : Int)) && ((y4_1 == (0 : Int)) && true)) w8) (bU (κC a10 L11 L12 L13) 4 (show (κi L13) = vs 23 0 (L13 ++ ([(⟨(0 : Int), (0 : Int)⟩ : RF)] : List RF)).length (L13 ++ ([(⟨(0 : Int), (0 : Int)⟩ : RF)] : List RF)).length from Zn rfl eqA eqA) <| ZN <| bN4 <| bN <| bS (hpC a14 24 y4_3.length 25 y4_4.length 26 y4_5) <| bQ <| bR <| bR <| Zo <| bQ <| bE)
        ·
         exact gxR Zq 1 (Zg (oq [0, 3, 5, 7, 8]) [(0, (a0 % (8 : Int)))] [] [] [(0, (Zc c0 (rg 0 22 []) 23).t), (3, (Zr c4 (1 :: (rg 3 19 [])) 24).t), (5, (ZaC c5 [] 44).t), (9, .ap 1 [vq, vq] (κG L13))]) (0 :: (rg 900000001 21 (1 :: (47 :: (rg 24 19 []))))) (vf) (hF g9 <| kZ ((y4_0 == (0 : Int)) && ((y4_1 == (0 : Int)) && true)) w8) (bU (κC a10 L11 L12 L13) 4 (show (κi L13) = vs 23 0 (L13 ++ ([(⟨(0 : Int), (0 : Int)⟩ : RF)] : List RF)).length (L13 ++ ([(⟨(0 : Int), (0 : Int)⟩ : RF)] : List RF)).length from Zn rfl eqA eqA) <| ZN <| bN4 <| bN <| bS (hpC a14 24 y4_3.length 25 y4_4.length 26 y4_5) <| bQ <| bR <| bR <| Zo <| bQ <| bE)
       ·
        exact gxR Zq 1 (Zg (oq [0, 3, 5, 6]) [(0, (a0 % (8 : Int)))] [] [] [(0, (Zc c0 (rg 0 22 []) 23).t), (3, (Zr c4 (1 :: (rg 3 19 [])) 24).t), (5, (ZaC c5 [] 44).t), (9, .ap 1 [vq, vq] (κG L13))]) (0 :: (rg 900000001 21 (1 :: (47 :: (rg 24 19 []))))) (vf) (kO ((y4_0 == (0 : Int)) && ((y4_1 == (0 : Int)) && true)) w8) (bU (κC a10 L11 L12 L13) 4 (show (κi L13) = vs 23 0 (L13 ++ ([(⟨(0 : Int), (0 : Int)⟩ : RF)] : List RF)).length (L13 ++ ([(⟨(0 : Int), (0 : Int)⟩ : RF)] : List RF)).length from Zn rfl eqA eqA) <| ZN <| bN4 <| bN <| bS (hpC a14 24 y4_3.length 25 y4_4.length 26 y4_5) <| bQ <| bR <| bR <| Zo <| bQ <| bE)
      ·
       refine Zw (fun g7 => ?_) (fun g7 => ?_)
       ·
        refine Zw (fun g8 => ?_) (fun g8 => ?_)
        ·
         exact gxR Zq 1 (Zg (oq [0, 3, 4, 7, 9]) [(0, (a0 % (8 : Int)))] [] [] [(0, (Zc c0 (rg 0 22 []) 23).t), (3, (Zr c4 (1 :: (rg 3 19 [])) 24).t), (5, (ZaC c5 [] 44).t)]) (0 :: (rg 900000001 21 (1 :: (2 :: (rg 24 19 []))))) (vT) (hT g8 <| kZ ((y4_0 == (0 : Int)) && ((y4_1 == (0 : Int)) && true)) <| hF g6 w6) (bS (κb a10 L11 L12 L13) <| ZN <| bN4 <| bN <| bS (hpC a14 24 y4_3.length 25 y4_4.length 26 y4_5) <| bQ <| bR <| bR <| Zo <| bQ <| bE)
        ·
         exact gxR Zq 1 (Zg (oq [0, 3, 4, 7, 8]) [(0, (a0 % (8 : Int)))] [] [] [(0, (Zc c0 (rg 0 22 []) 23).t), (3, (Zr c4 (1 :: (rg 3 19 [])) 24).t), (5, (ZaC c5 [] 44).t)]) (0 :: (rg 900000001 21 (1 :: (2 :: (rg 24 19 []))))) (vf) (hF g8 <| kZ ((y4_0 == (0 : Int)) && ((y4_1 == (0 : Int)) && true)) <| hF g6 w6) (bS (κb a10 L11 L12 L13) <| ZN <| bN4 <| bN <| bS (hpC a14 24 y4_3.length 25 y4_4.length 26 y4_5) <| bQ <| bR <| bR <| Zo <| bQ <| bE)
       ·
        exact gxR Zq 1 (Zg (oq [0, 3, 4, 6]) [(0, (a0 % (8 : Int)))] [] [] [(0, (Zc c0 (rg 0 22 []) 23).t), (3, (Zr c4 (1 :: (rg 3 19 [])) 24).t), (5, (ZaC c5 [] 44).t)]) (0 :: (rg 900000001 21 (1 :: (2 :: (rg 24 19 []))))) (vf) (kO ((y4_0 == (0 : Int)) && ((y4_1 == (0 : Int)) && true)) <| hF g6 w6) (bS (κb a10 L11 L12 L13) <| ZN <| bN4 <| bN <| bS (hpC a14 24 y4_3.length 25 y4_4.length 26 y4_5) <| bQ <| bR <| bR <| Zo <| bQ <| bE)
     | r1 y5_0 y5_1 y5_2 =>
      refine Zw (fun g6 => ?_) (fun _ => Zbw)
      have w7 := kA RA L13 (⟨y5_1, y5_2⟩ : RF) <| kK (Zk9 c5 [] 44) w5
      refine Zw (fun g7 => ?_) (fun g7 => ?_)
      ·
       refine Zw (fun g8 => ?_) (fun g8 => ?_)
       ·
        exact gxR Zq 1 (Zg (oq [0, 3, 7, 9]) [(0, (a0 % (8 : Int)))] [] [] [(0, (Zc c0 (rg 0 22 []) 23).t), (3, (Zr c4 (1 :: (rg 3 19 [])) 24).t), (5, (ZcT c5 [] 44).t), (9, .ap 1 [vi y5_1, vi y5_2] (Za RA (L13 ++ ([(⟨y5_1, y5_2⟩ : RF)] : List RF))))]) (0 :: (rg 900000001 21 (1 :: (47 :: (rg 24 19 []))))) (vT) (hT g8 <| kZ ((y4_0 == y5_1) && ((y4_1 == y5_2) && true)) w7) (bU [vp 1 0, vi a10, ms RD y5_0, ms eI ([] : List Int), vs 47 0 (L13.length + 1) (L13.length + 1)] 4 (show (κi L13) = vs 23 0 (L13 ++ ([(⟨y5_1, y5_2⟩ : RF)] : List RF)).length (L13 ++ ([(⟨y5_1, y5_2⟩ : RF)] : List RF)).length from Zn rfl eqA eqA) <| ZN <| bN4 <| bN <| bS (hpC a14 24 y4_3.length 25 y4_4.length 26 y4_5) <| bQ <| bR <| bR <| Zo <| bQ <| bE)
       ·
        exact gxR Zq 1 (Zg (oq [0, 3, 7, 8]) [(0, (a0 % (8 : Int)))] [] [] [(0, (Zc c0 (rg 0 22 []) 23).t), (3, (Zr c4 (1 :: (rg 3 19 [])) 24).t), (5, (ZcT c5 [] 44).t), (9, .ap 1 [vi y5_1, vi y5_2] (Za RA (L13 ++ ([(⟨y5_1, y5_2⟩ : RF)] : List RF))))]) (0 :: (rg 900000001 21 (1 :: (47 :: (rg 24 19 []))))) (vf) (hF g8 <| kZ ((y4_0 == y5_1) && ((y4_1 == y5_2) && true)) w7) (bU [vp 1 0, vi a10, ms RD y5_0, ms eI ([] : List Int), vs 47 0 (L13.length + 1) (L13.length + 1)] 4 (show (κi L13) = vs 23 0 (L13 ++ ([(⟨y5_1, y5_2⟩ : RF)] : List RF)).length (L13 ++ ([(⟨y5_1, y5_2⟩ : RF)] : List RF)).length from Zn rfl eqA eqA) <| ZN <| bN4 <| bN <| bS (hpC a14 24 y4_3.length 25 y4_4.length 26 y4_5) <| bQ <| bR <| bR <| Zo <| bQ <| bE)
      ·
       exact gxR Zq 1 (Zg (oq [0, 3, 6]) [(0, (a0 % (8 : Int)))] [] [] [(0, (Zc c0 (rg 0 22 []) 23).t), (3, (Zr c4 (1 :: (rg 3 19 [])) 24).t), (5, (ZcT c5 [] 44).t), (9, .ap 1 [vi y5_1, vi y5_2] (Za RA (L13 ++ ([(⟨y5_1, y5_2⟩ : RF)] : List RF))))]) (0 :: (rg 900000001 21 (1 :: (47 :: (rg 24 19 []))))) (vf) (kO ((y4_0 == y5_1) && ((y4_1 == y5_2) && true)) w7) (bU [vp 1 0, vi a10, ms RD y5_0, ms eI ([] : List Int), vs 47 0 (L13.length + 1) (L13.length + 1)] 4 (show (κi L13) = vs 23 0 (L13 ++ ([(⟨y5_1, y5_2⟩ : RF)] : List RF)).length (L13 ++ ([(⟨y5_1, y5_2⟩ : RF)] : List RF)).length from Zn rfl eqA eqA) <| ZN <| bN4 <| bN <| bS (hpC a14 24 y4_3.length 25 y4_4.length 26 y4_5) <| bQ <| bR <| bR <| Zo <| bQ <| bE)
     | r2 y5_0 y5_1 y5_2 y5_3 =>
      refine Zw (fun g6 => ?_) (fun _ => Zbw)
      have w7 := kA RA L13 (⟨y5_2, y5_3⟩ : RF) <| kK (ZkA c5 [] 44) w5
      refine Zw (fun g7 => ?_) (fun g7 => ?_)
      ·
       refine Zw (fun g8 => ?_) (fun g8 => ?_)
       ·
        exact gxR Zq 1 (Zg (oq [0, 3, 7, 9]) [(0, (a0 % (8 : Int)))] [] [] [(0, (Zc c0 (rg 0 22 []) 23).t), (3, (Zr c4 (1 :: (rg 3 19 [])) 24).t), (5, (ZcU c5 [] 44).t), (9, .ap 1 [vi y5_2, vi y5_3] (Za RA (L13 ++ ([(⟨y5_2, y5_3⟩ : RF)] : List RF))))]) (0 :: (rg 900000001 21 (1 :: (47 :: (rg 24 19 []))))) (vT) (hT g8 <| kZ ((y4_0 == y5_2) && ((y4_1 == y5_3) && true)) w7) (bU [vp 1 0, vi a10, ms RD y5_0, ms eI y5_1, vs 47 0 (L13.length + 1) (L13.length + 1)] 4 (show (κi L13) = vs 23 0 (L13 ++ ([(⟨y5_2, y5_3⟩ : RF)] : List RF)).length (L13 ++ ([(⟨y5_2, y5_3⟩ : RF)] : List RF)).length from Zn rfl eqA eqA) <| ZN <| bN4 <| bN <| bS (hpC a14 24 y4_3.length 25 y4_4.length 26 y4_5) <| bQ <| bR <| bR <| Zo <| bQ <| bE)
       ·
        exact gxR Zq 1 (Zg (oq [0, 3, 7, 8]) [(0, (a0 % (8 : Int)))] [] [] [(0, (Zc c0 (rg 0 22 []) 23).t), (3, (Zr c4 (1 :: (rg 3 19 [])) 24).t), (5, (ZcU c5 [] 44).t), (9, .ap 1 [vi y5_2, vi y5_3] (Za RA (L13 ++ ([(⟨y5_2, y5_3⟩ : RF)] : List RF))))]) (0 :: (rg 900000001 21 (1 :: (47 :: (rg 24 19 []))))) (vf) (hF g8 <| kZ ((y4_0 == y5_2) && ((y4_1 == y5_3) && true)) w7) (bU [vp 1 0, vi a10, ms RD y5_0, ms eI y5_1, vs 47 0 (L13.length + 1) (L13.length + 1)] 4 (show (κi L13) = vs 23 0 (L13 ++ ([(⟨y5_2, y5_3⟩ : RF)] : List RF)).length (L13 ++ ([(⟨y5_2, y5_3⟩ : RF)] : List RF)).length from Zn rfl eqA eqA) <| ZN <| bN4 <| bN <| bS (hpC a14 24 y4_3.length 25 y4_4.length 26 y4_5) <| bQ <| bR <| bR <| Zo <| bQ <| bE)
      ·
       exact gxR Zq 1 (Zg (oq [0, 3, 6]) [(0, (a0 % (8 : Int)))] [] [] [(0, (Zc c0 (rg 0 22 []) 23).t), (3, (Zr c4 (1 :: (rg 3 19 [])) 24).t), (5, (ZcU c5 [] 44).t), (9, .ap 1 [vi y5_2, vi y5_3] (Za RA (L13 ++ ([(⟨y5_2, y5_3⟩ : RF)] : List RF))))]) (0 :: (rg 900000001 21 (1 :: (47 :: (rg 24 19 []))))) (vf) (kO ((y4_0 == y5_2) && ((y4_1 == y5_3) && true)) w7) (bU [vp 1 0, vi a10, ms RD y5_0, ms eI y5_1, vs 47 0 (L13.length + 1) (L13.length + 1)] 4 (show (κi L13) = vs 23 0 (L13 ++ ([(⟨y5_2, y5_3⟩ : RF)] : List RF)).length (L13 ++ ([(⟨y5_2, y5_3⟩ : RF)] : List RF)).length from Zn rfl eqA eqA) <| ZN <| bN4 <| bN <| bS (hpC a14 24 y4_3.length 25 y4_4.length 26 y4_5) <| bQ <| bR <| bR <| Zo <| bQ <| bE)
     | r3 y5_0 y5_1 y5_2 =>
      refine Zw (fun g6 => ?_) (fun _ => Zbw)
      have w7 := kA RA L13 (⟨y5_1, y5_2⟩ : RF) <| kK (ZkB c5 [] 44) w5
      refine Zw (fun g7 => ?_) (fun g7 => ?_)
      ·
       refine Zw (fun g8 => ?_) (fun g8 => ?_)
       ·
        exact gxR Zq 1 (Zg (oq [0, 3, 7, 9]) [(0, (a0 % (8 : Int)))] [] [] [(0, (Zc c0 (rg 0 22 []) 23).t), (3, (Zr c4 (1 :: (rg 3 19 [])) 24).t), (5, (ZcV c5 [] 44).t), (9, .ap 1 [vi y5_1, vi y5_2] (Za RA (L13 ++ ([(⟨y5_1, y5_2⟩ : RF)] : List RF))))]) (0 :: (rg 900000001 21 (1 :: (47 :: (rg 24 19 []))))) (vT) (hT g8 <| kZ ((y4_0 == y5_1) && ((y4_1 == y5_2) && true)) w7) (bU [vp 1 0, vi a10, ms RD y5_0, ms eI L12, vs 47 0 (L13.length + 1) (L13.length + 1)] 4 (show (κi L13) = vs 23 0 (L13 ++ ([(⟨y5_1, y5_2⟩ : RF)] : List RF)).length (L13 ++ ([(⟨y5_1, y5_2⟩ : RF)] : List RF)).length from Zn rfl eqA eqA) <| ZN <| bN4 <| bN <| bS (hpC a14 24 y4_3.length 25 y4_4.length 26 y4_5) <| bQ <| bR <| bR <| Zo <| bQ <| bE)
       ·
        exact gxR Zq 1 (Zg (oq [0, 3, 7, 8]) [(0, (a0 % (8 : Int)))] [] [] [(0, (Zc c0 (rg 0 22 []) 23).t), (3, (Zr c4 (1 :: (rg 3 19 [])) 24).t), (5, (ZcV c5 [] 44).t), (9, .ap 1 [vi y5_1, vi y5_2] (Za RA (L13 ++ ([(⟨y5_1, y5_2⟩ : RF)] : List RF))))]) (0 :: (rg 900000001 21 (1 :: (47 :: (rg 24 19 []))))) (vf) (hF g8 <| kZ ((y4_0 == y5_1) && ((y4_1 == y5_2) && true)) w7) (bU [vp 1 0, vi a10, ms RD y5_0, ms eI L12, vs 47 0 (L13.length + 1) (L13.length + 1)] 4 (show (κi L13) = vs 23 0 (L13 ++ ([(⟨y5_1, y5_2⟩ : RF)] : List RF)).length (L13 ++ ([(⟨y5_1, y5_2⟩ : RF)] : List RF)).length from Zn rfl eqA eqA) <| ZN <| bN4 <| bN <| bS (hpC a14 24 y4_3.length 25 y4_4.length 26 y4_5) <| bQ <| bR <| bR <| Zo <| bQ <| bE)
      ·
       exact gxR Zq 1 (Zg (oq [0, 3, 6]) [(0, (a0 % (8 : Int)))] [] [] [(0, (Zc c0 (rg 0 22 []) 23).t), (3, (Zr c4 (1 :: (rg 3 19 [])) 24).t), (5, (ZcV c5 [] 44).t), (9, .ap 1 [vi y5_1, vi y5_2] (Za RA (L13 ++ ([(⟨y5_1, y5_2⟩ : RF)] : List RF))))]) (0 :: (rg 900000001 21 (1 :: (47 :: (rg 24 19 []))))) (vf) (kO ((y4_0 == y5_1) && ((y4_1 == y5_2) && true)) w7) (bU [vp 1 0, vi a10, ms RD y5_0, ms eI L12, vs 47 0 (L13.length + 1) (L13.length + 1)] 4 (show (κi L13) = vs 23 0 (L13 ++ ([(⟨y5_1, y5_2⟩ : RF)] : List RF)).length (L13 ++ ([(⟨y5_1, y5_2⟩ : RF)] : List RF)).length from Zn rfl eqA eqA) <| ZN <| bN4 <| bN <| bS (hpC a14 24 y4_3.length 25 y4_4.length 26 y4_5) <| bQ <| bR <| bR <| Zo <| bQ <| bE)
   ·
    have w4 := hF g3 <| hF g2 w2
    refine Zw (fun g4 => ?_) (fun g4 => ?_)
    ·
     refine Z4 (fun z5 c5 => ?_)
     cases z5 with
     | r0 y5_0 y5_1 y5_2 =>
      have w6 := kK (ZkL c5 (1 :: (rg 3 19 [])) 24) <| hT g4 w4
      refine Z4 (fun z6 c6 => ?_)
      cases z6 with
      | r0 y6_0 y6_1 =>
       refine Zw (fun g7 => ?_) (fun g7 => ?_)
       ·
        exact gxR Zq 1 (Zg (oq [0, 2, 5, 7]) [(0, (a0 % (8 : Int)))] [] [] [(0, (Zc c0 (rg 0 22 []) 23).t), (3, (Zcq c5 (1 :: (rg 3 19 [])) 24).t), (4, (Zgi c6 [] 43).t)]) (0 :: (rg 900000001 21 (1 :: (2 :: (rg 24 19 []))))) (vT) (hT g7 <| kK (ZiE c6 [] 43) w6) (bS [vp 1 0, vi a10, ms RD y6_0, ms eI L12, vs 2 0 L13.length L13.length] <| ZN <| bN4 <| bN <| bS (hpC a14 24 y5_1.length 25 L16.length 26 y5_2) <| bQ <| bR <| bR <| Zo <| bQ <| bE)
       ·
        exact gxR Zq 1 (Zg (oq [0, 2, 5, 6]) [(0, (a0 % (8 : Int)))] [] [] [(0, (Zc c0 (rg 0 22 []) 23).t), (3, (Zcq c5 (1 :: (rg 3 19 [])) 24).t), (4, (Zgi c6 [] 43).t)]) (0 :: (rg 900000001 21 (1 :: (2 :: (rg 24 19 []))))) (vf) (hF g7 <| kK (ZiE c6 [] 43) w6) (bS [vp 1 0, vi a10, ms RD y6_0, ms eI L12, vs 2 0 L13.length L13.length] <| ZN <| bN4 <| bN <| bS (hpC a14 24 y5_1.length 25 L16.length 26 y5_2) <| bQ <| bR <| bR <| Zo <| bQ <| bE)
      | r1 y6_0 y6_1 =>
       refine Zw (fun g7 => ?_) (fun g7 => ?_)
       ·
        exact gxR Zq 1 (Zg (oq [0, 2, 5, 7]) [(0, (a0 % (8 : Int)))] [] [] [(0, (Zc c0 (rg 0 22 []) 23).t), (3, (Zcq c5 (1 :: (rg 3 19 [])) 24).t), (4, (Zgj c6 [] 43).t)]) (0 :: (rg 900000001 21 (1 :: (2 :: (rg 24 19 []))))) (vT) (hT g7 <| kK (ZiF c6 [] 43) w6) (bS [vp 1 0, vi a10, ms RD y6_0, ms eI y6_1, vs 2 0 L13.length L13.length] <| ZN <| bN4 <| bN <| bS (hpC a14 24 y5_1.length 25 L16.length 26 y5_2) <| bQ <| bR <| bR <| Zo <| bQ <| bE)
       ·
        exact gxR Zq 1 (Zg (oq [0, 2, 5, 6]) [(0, (a0 % (8 : Int)))] [] [] [(0, (Zc c0 (rg 0 22 []) 23).t), (3, (Zcq c5 (1 :: (rg 3 19 [])) 24).t), (4, (Zgj c6 [] 43).t)]) (0 :: (rg 900000001 21 (1 :: (2 :: (rg 24 19 []))))) (vf) (hF g7 <| kK (ZiF c6 [] 43) w6) (bS [vp 1 0, vi a10, ms RD y6_0, ms eI y6_1, vs 2 0 L13.length L13.length] <| ZN <| bN4 <| bN <| bS (hpC a14 24 y5_1.length 25 L16.length 26 y5_2) <| bQ <| bR <| bR <| Zo <| bQ <| bE)
    ·
     refine Zw (fun g5 => ?_) (fun g5 => ?_)
     ·
      refine Z4 (fun z6 c6 => ?_)
      cases z6 with
      | r0 y6_0 y6_1 y6_2 =>
       have w7 := kK (Znr c6 (1 :: (rg 3 19 [])) 24) <| hT g5 <| hF g4 w4
       refine Z4 (fun z7 c7 => ?_)
       cases z7 with
       | r0 y7_0 y7_1 y7_2 =>
        refine Zw (fun g8 => ?_) (fun g8 => ?_)
        ·
         have w9 := kZ ((y6_0 == y7_0) && ((y6_1 == y7_1) && true)) <| kK (ZlO c7 [] 25) w7
         refine Zw (fun g9 => ?_) (fun g9 => ?_)
         ·
          exact gxR Zq 1 (Zg (oq [0, 2, 4, 7, 9, 11]) [(0, (a0 % (8 : Int)))] [] [] [(0, (Zc c0 (rg 0 22 []) 23).t), (3, (Ze0 c6 (1 :: (rg 3 19 [])) 24).t), (5, (Zgl c7 [] 25).t)]) (0 :: (rg 900000001 21 (rg 1 21 []))) (vT) (hT g9 w9) (bS (κb a10 L11 L12 L13) <| ZN <| bN4 <| bN <| bS (hpC a14 3 L15.length 4 L16.length 5 W17) <| bQ <| bR <| bR <| Zo <| bQ <| bE)
         ·
          exact gxR Zq 1 (Zg (oq [0, 2, 4, 7, 9, 10]) [(0, (a0 % (8 : Int)))] [] [] [(0, (Zc c0 (rg 0 22 []) 23).t), (3, (Ze0 c6 (1 :: (rg 3 19 [])) 24).t), (5, (Zgl c7 [] 25).t)]) (0 :: (rg 900000001 21 (rg 1 21 []))) (vf) (hF g9 w9) (bS (κb a10 L11 L12 L13) <| ZN <| bN4 <| bN <| bS (hpC a14 3 L15.length 4 L16.length 5 W17) <| bQ <| bR <| bR <| Zo <| bQ <| bE)
        ·
         exact gxR Zq 1 (Zg (oq [0, 2, 4, 7, 8]) [(0, (a0 % (8 : Int)))] [] [] [(0, (Zc c0 (rg 0 22 []) 23).t), (3, (Ze0 c6 (1 :: (rg 3 19 [])) 24).t), (5, (Zgl c7 [] 25).t)]) (0 :: (rg 900000001 21 (rg 1 21 []))) (vf) (kO ((y6_0 == y7_0) && ((y6_1 == y7_1) && true)) <| kK (ZlO c7 [] 25) w7) (bS (κb a10 L11 L12 L13) <| ZN <| bN4 <| bN <| bS (hpC a14 3 L15.length 4 L16.length 5 W17) <| bQ <| bR <| bR <| Zo <| bQ <| bE)
     ·
      have w6 := hF g5 <| hF g4 w4
      refine Zw (fun g6 => ?_) (fun g6 => ?_)
      ·
       refine Z4 (fun z7 c7 => ?_)
       cases z7 with
       | r0 y7_0 y7_1 =>
        refine Z4 (fun z8 c8 => ?_)
        cases z8 with
        | r0 y8_0 y8_1 =>
         have w9 := kK (ZdP c8 (1 :: (rg 3 19 [])) 24) <| kK (ZbW c7 (rg 0 22 []) 24) <| hT g6 w6
         refine Z4 (fun z9 c9 => ?_)
         cases z9 with
         | r0 y9_0 y9_1 =>
          refine Z4 (fun z10 c10 => ?_)
          cases z10 with
          | r0 y10_0 y10_1 =>
           refine Zw (fun g11 => ?_) (fun g11 => ?_)
           ·
            exact gxR Zq 1 (Zg (oq [0, 2, 4, 6, 9, 11]) [(0, (a0 % (8 : Int)))] [] [] [(0, (Zc c0 (rg 0 22 []) 23).t), (3, (ZaJ c7 (rg 0 22 []) 24).t), (4, (Zb2 c8 (1 :: (rg 3 19 [])) 24).t), (5, (ZaJ c9 (rg 0 22 []) 24).t), (6, (Ze2 c10 [] 24).t)]) (0 :: (rg 900000001 21 (rg 1 21 []))) (vT) (hT g11 <| kK (Zf1 c10 [] 24) <| kK (ZbW c9 (rg 0 22 []) 24) w9) (bS [vp 1 0, vi a10, ms RD y10_0, ms eI L12, vs 2 0 L13.length L13.length] <| ZN <| bN4 <| bN <| bS (hpC a14 3 L15.length 4 y8_0.length 5 W17) <| bQ <| bR <| bR <| Zo <| bQ <| bE)
           ·
            exact gxR Zq 1 (Zg (oq [0, 2, 4, 6, 9, 10]) [(0, (a0 % (8 : Int)))] [] [] [(0, (Zc c0 (rg 0 22 []) 23).t), (3, (ZaJ c7 (rg 0 22 []) 24).t), (4, (Zb2 c8 (1 :: (rg 3 19 [])) 24).t), (5, (ZaJ c9 (rg 0 22 []) 24).t), (6, (Ze2 c10 [] 24).t)]) (0 :: (rg 900000001 21 (rg 1 21 []))) (vf) (hF g11 <| kK (Zf1 c10 [] 24) <| kK (ZbW c9 (rg 0 22 []) 24) w9) (bS [vp 1 0, vi a10, ms RD y10_0, ms eI L12, vs 2 0 L13.length L13.length] <| ZN <| bN4 <| bN <| bS (hpC a14 3 L15.length 4 y8_0.length 5 W17) <| bQ <| bR <| bR <| Zo <| bQ <| bE)
      ·
       refine Zw (fun g7 => ?_) (fun g7 => ?_)
       ·
        refine Z4 (fun z8 c8 => ?_)
        cases z8 with
        | r0 y8_0 y8_1 =>
         refine Z4 (fun z9 c9 => ?_)
         cases z9 with
         | r0 y9_0 y9_1 =>
          have w10 := kK (ZdP c9 (1 :: (rg 3 19 [])) 24) <| kK (ZbW c8 (rg 0 22 []) 24) <| hT g7 <| hF g6 w6
          refine Z4 (fun z10 c10 => ?_)
          cases z10 with
          | r0 y10_0 y10_1 =>
           refine Z4 (fun z11 c11 => ?_)
           cases z11 with
           | r0 y11_0 y11_1 =>
            refine Zw (fun g12 => ?_) (fun g12 => ?_)
            ·
             exact gxR Zq 1 (Zg (oq [0, 2, 4, 6, 8, 11, 13]) [(0, (a0 % (8 : Int)))] [] [] [(0, (Zc c0 (rg 0 22 []) 23).t), (3, (ZaJ c8 (rg 0 22 []) 24).t), (4, (Zb2 c9 (1 :: (rg 3 19 [])) 24).t), (5, (ZaJ c10 (rg 0 22 []) 24).t), (6, (Ze2 c11 [] 24).t)]) (0 :: (rg 900000001 21 (rg 1 21 []))) (vT) (hT g12 <| kK (Zf1 c11 [] 24) <| kK (ZbW c10 (rg 0 22 []) 24) w10) (bS [vp 1 0, vi a10, ms RD y11_0, ms eI L12, vs 2 0 L13.length L13.length] <| ZN <| bN4 <| bN <| bS (hpC a14 3 L15.length 4 y9_0.length 5 W17) <| bQ <| bR <| bR <| Zo <| bQ <| bE)
            ·
             exact gxR Zq 1 (Zg (oq [0, 2, 4, 6, 8, 11, 12]) [(0, (a0 % (8 : Int)))] [] [] [(0, (Zc c0 (rg 0 22 []) 23).t), (3, (ZaJ c8 (rg 0 22 []) 24).t), (4, (Zb2 c9 (1 :: (rg 3 19 [])) 24).t), (5, (ZaJ c10 (rg 0 22 []) 24).t), (6, (Ze2 c11 [] 24).t)]) (0 :: (rg 900000001 21 (rg 1 21 []))) (vf) (hF g12 <| kK (Zf1 c11 [] 24) <| kK (ZbW c10 (rg 0 22 []) 24) w10) (bS [vp 1 0, vi a10, ms RD y11_0, ms eI L12, vs 2 0 L13.length L13.length] <| ZN <| bN4 <| bN <| bS (hpC a14 3 L15.length 4 y9_0.length 5 W17) <| bQ <| bR <| bR <| Zo <| bQ <| bE)
       ·
        have w8 := hF g7 <| hF g6 w6
        refine Zw (fun g8 => ?_) (fun g8 => ?_)
        ·
         refine Zw (fun g9 => ?_) (fun g9 => ?_)
         ·
          have w10 := kM a2 (2 : Int) <| kY (a2 ≥ (8 : Int)) <| hT g8 w8
          refine Zw (fun g10 => ?_) (fun g10 => ?_)
          ·
           refine Z4 (fun z11 c11 => ?_)
           cases z11 with
           | r0 y11_0 y11_1 =>
            have w12 := kK (Zm4 c11 (1 :: (rg 3 19 [])) 24) <| hT g10 w10
            refine Z4 (fun z12 c12 => ?_)
            cases z12 with
            | r0 y12_0 y12_1 =>
             have w13 := kK (ZcA c12 [] 27) w12
             refine Zw (fun g13 => ?_) (fun g13 => ?_)
             ·
              refine Zw (fun g14 => ?_) (fun g14 => ?_)
              ·
               exact gxR Zq 1 (Zg (oq [0, 2, 4, 6, 8, 10, 13, 15, 17, 19, 21]) [(0, (a0 % (8 : Int))), (1, (a2 % (2 : Int)))] [] [] [(0, (Zc c0 (rg 0 22 []) 23).t), (4, (Zb3 c11 (1 :: (rg 3 19 [])) 24).t), (5, (Zz c12 [] 27).t)]) (0 :: (rg 900000001 21 (rg 1 21 []))) (vT) (hT g14 <| hD g13 w13) (bS (κb a10 L11 L12 L13) <| ZN <| bN4 <| bN <| bS (hpC a14 3 y11_0.length 4 L16.length 5 W17) <| bQ <| bR <| bR <| Zo <| bQ <| bE)
              ·
               exact gxR Zq 1 (Zg (oq [0, 2, 4, 6, 8, 10, 13, 15, 17, 19, 20]) [(0, (a0 % (8 : Int))), (1, (a2 % (2 : Int)))] [] [] [(0, (Zc c0 (rg 0 22 []) 23).t), (4, (Zb3 c11 (1 :: (rg 3 19 [])) 24).t), (5, (Zz c12 [] 27).t)]) (0 :: (rg 900000001 21 (rg 1 21 []))) (vf) (hF g14 <| hD g13 w13) (bS (κb a10 L11 L12 L13) <| ZN <| bN4 <| bN <| bS (hpC a14 3 y11_0.length 4 L16.length 5 W17) <| bQ <| bR <| bR <| Zo <| bQ <| bE)
             ·
              refine Zw (fun g14 => ?_) (fun _ => Zbw)
              refine Zw (fun g15 => ?_) (fun _ => Zbw)
              have w16 := kG RD L11 ((((0 + ((y12_0).toNat * 9)) + 1) + 2) + 3) ((y12_0).toNat) 6 1 9 <| kB (y12_0).toNat L11.length <| kI y12_0 (Int.ofNat (y12_0).toNat) <| kE y12_1 (0 : Int) w13
              refine Zw (fun g16 => ?_) (fun g16 => ?_)
              ·
               refine Zw (fun g17 => ?_) (fun g17 => ?_)
               ·
                exact gxR Zq 1 (Zg (oq [0, 2, 4, 6, 8, 10, 13, 15, 17, 18, 21, 23]) [(0, (a0 % (8 : Int))), (1, (a2 % (2 : Int)))] [(0, (y12_0).toNat)] [(11, [.i (L11.getD (y12_0).toNat RI.z).a6])] [(0, (Zc c0 (rg 0 22 []) 23).t), (4, (Zb3 c11 (1 :: (rg 3 19 [])) 24).t), (5, (Zz c12 [] 27).t)]) (0 :: (rg 900000001 21 (rg 1 21 []))) (vT) (hT g17 <| hD g16 w16) (bS (κb a10 L11 L12 L13) <| ZN <| bN4 <| bN <| bS (hpC a14 3 y11_0.length 4 L16.length 5 W17) <| bQ <| bR <| bR <| Zo <| bQ <| bE)
               ·
                exact gxR Zq 1 (Zg (oq [0, 2, 4, 6, 8, 10, 13, 15, 17, 18, 21, 22]) [(0, (a0 % (8 : Int))), (1, (a2 % (2 : Int)))] [(0, (y12_0).toNat)] [(11, [.i (L11.getD (y12_0).toNat RI.z).a6])] [(0, (Zc c0 (rg 0 22 []) 23).t), (4, (Zb3 c11 (1 :: (rg 3 19 [])) 24).t), (5, (Zz c12 [] 27).t)]) (0 :: (rg 900000001 21 (rg 1 21 []))) (vf) (hF g17 <| hD g16 w16) (bS (κb a10 L11 L12 L13) <| ZN <| bN4 <| bN <| bS (hpC a14 3 y11_0.length 4 L16.length 5 W17) <| bQ <| bR <| bR <| Zo <| bQ <| bE)
              ·
               refine Z4 (fun z17 c17 => ?_)
               cases z17 with
               | r0 y17_0 y17_1 =>
                have w18 := kK (Zg3 c17 [] 27) <| kE ((L11.getD (y12_0).toNat RI.z).a6) (1 : Int) w16
                refine Zw (fun g18 => ?_) (fun g18 => ?_)
                ·
                 exact gxR Zq 1 (Zg (oq [0, 2, 4, 6, 8, 10, 13, 15, 17, 18, 20, 23]) [(0, (a0 % (8 : Int))), (1, (a2 % (2 : Int)))] [(0, (y12_0).toNat)] [(11, [.i (L11.getD (y12_0).toNat RI.z).a6])] [(0, (Zc c0 (rg 0 22 []) 23).t), (4, (Zb3 c11 (1 :: (rg 3 19 [])) 24).t), (5, (Zz c12 [] 27).t), (6, (ZdN c17 [] 27).t)]) (0 :: (rg 900000001 21 (rg 1 21 []))) (vT) (hT g18 w18) (bS [vp 1 0, vi a10, ms RD y17_0, ms eI L12, vs 2 0 L13.length L13.length] <| ZN <| bN4 <| bN <| bS (hpC a14 3 y11_0.length 4 L16.length 5 W17) <| bQ <| bR <| bR <| Zo <| bQ <| bE)
                ·
                 exact gxR Zq 1 (Zg (oq [0, 2, 4, 6, 8, 10, 13, 15, 17, 18, 20, 22]) [(0, (a0 % (8 : Int))), (1, (a2 % (2 : Int)))] [(0, (y12_0).toNat)] [(11, [.i (L11.getD (y12_0).toNat RI.z).a6])] [(0, (Zc c0 (rg 0 22 []) 23).t), (4, (Zb3 c11 (1 :: (rg 3 19 [])) 24).t), (5, (Zz c12 [] 27).t), (6, (ZdN c17 [] 27).t)]) (0 :: (rg 900000001 21 (rg 1 21 []))) (vf) (hF g18 w18) (bS [vp 1 0, vi a10, ms RD y17_0, ms eI L12, vs 2 0 L13.length L13.length] <| ZN <| bN4 <| bN <| bS (hpC a14 3 y11_0.length 4 L16.length 5 W17) <| bQ <| bR <| bR <| Zo <| bQ <| bE)
          ·
           refine Z4 (fun z11 c11 => ?_)
           cases z11 with
           | r0 y11_0 y11_1 =>
            refine Z4 (fun z12 c12 => ?_)
            cases z12 with
            | r0 y12_0 y12_1 =>
             have w13 := kK (Zg3 c12 [] 24) <| kK (ZiJ c11 (1 :: (rg 3 19 [])) 24) <| hF g10 w10
             refine Zw (fun g13 => ?_) (fun g13 => ?_)
             ·
              exact gxR Zq 1 (Zg (oq [0, 2, 4, 6, 8, 10, 13, 15, 16, 19]) [(0, (a0 % (8 : Int))), (1, (a2 % (2 : Int)))] [] [] [(0, (Zc c0 (rg 0 22 []) 23).t), (4, (ZdI c11 (1 :: (rg 3 19 [])) 24).t), (5, (ZdN c12 [] 24).t)]) (0 :: (rg 900000001 21 (rg 1 21 []))) (vT) (hT g13 w13) (bS [vp 1 0, vi a10, ms RD y12_0, ms eI L12, vs 2 0 L13.length L13.length] <| ZN <| bN4 <| bN <| bS (hpC a14 3 y11_0.length 4 L16.length 5 W17) <| bQ <| bR <| bR <| Zo <| bQ <| bE)
             ·
              exact gxR Zq 1 (Zg (oq [0, 2, 4, 6, 8, 10, 13, 15, 16, 18]) [(0, (a0 % (8 : Int))), (1, (a2 % (2 : Int)))] [] [] [(0, (Zc c0 (rg 0 22 []) 23).t), (4, (ZdI c11 (1 :: (rg 3 19 [])) 24).t), (5, (ZdN c12 [] 24).t)]) (0 :: (rg 900000001 21 (rg 1 21 []))) (vf) (hF g13 w13) (bS [vp 1 0, vi a10, ms RD y12_0, ms eI L12, vs 2 0 L13.length L13.length] <| ZN <| bN4 <| bN <| bS (hpC a14 3 y11_0.length 4 L16.length 5 W17) <| bQ <| bR <| bR <| Zo <| bQ <| bE)
         ·
          refine Z4 (fun z10 c10 => ?_)
          cases z10 with
          | r0 y10_0 y10_1 =>
           have w11 := kK (ZiJ c10 (1 :: (rg 3 19 [])) 24) <| kN (a2 ≥ (8 : Int)) <| hT g8 w8
           refine Z4 (fun z11 c11 => ?_)
           cases z11 with
           | r0 y11_0 y11_1 =>
            refine Zw (fun g12 => ?_) (fun g12 => ?_)
            ·
             exact gxR Zq 1 (Zg (oq [0, 2, 4, 6, 8, 10, 13, 14, 17]) [(0, (a0 % (8 : Int)))] [] [] [(0, (Zc c0 (rg 0 22 []) 23).t), (3, (ZdI c10 (1 :: (rg 3 19 [])) 24).t), (4, (ZdN c11 [] 24).t)]) (0 :: (rg 900000001 21 (rg 1 21 []))) (vT) (hT g12 <| kK (Zg3 c11 [] 24) w11) (bS [vp 1 0, vi a10, ms RD y11_0, ms eI L12, vs 2 0 L13.length L13.length] <| ZN <| bN4 <| bN <| bS (hpC a14 3 y10_0.length 4 L16.length 5 W17) <| bQ <| bR <| bR <| Zo <| bQ <| bE)
            ·
             exact gxR Zq 1 (Zg (oq [0, 2, 4, 6, 8, 10, 13, 14, 16]) [(0, (a0 % (8 : Int)))] [] [] [(0, (Zc c0 (rg 0 22 []) 23).t), (3, (ZdI c10 (1 :: (rg 3 19 [])) 24).t), (4, (ZdN c11 [] 24).t)]) (0 :: (rg 900000001 21 (rg 1 21 []))) (vf) (hF g12 <| kK (Zg3 c11 [] 24) w11) (bS [vp 1 0, vi a10, ms RD y11_0, ms eI L12, vs 2 0 L13.length L13.length] <| ZN <| bN4 <| bN <| bS (hpC a14 3 y10_0.length 4 L16.length 5 W17) <| bQ <| bR <| bR <| Zo <| bQ <| bE)
        ·
         refine Z4 (fun z9 c9 => ?_)
         cases z9 with
         | r0 =>
          refine Z4 (fun z10 c10 => ?_)
          cases z10 with
          | r0 y10_0 y10_1 y10_2 y10_3 y10_4 y10_5 =>
           have w11 := kK (Zfp c10 (1 :: (rg 25 19 [])) 63) <| kK (Znu c9 (1 :: (rg 3 19 [])) 24) <| hF g8 w8
           refine Zw (fun g11 => ?_) (fun g11 => ?_)
           ·
            refine Z4 (fun z12 c12 => ?_)
            cases z12 with
            | r0 y12_0 y12_1 y12_2 =>
             refine Z4 (fun z13 c13 => ?_)
             cases z13 with
             | r0 y13_0 y13_1 =>
              exact gxR Zq 1 (Zg (oq [0, 2, 4, 6, 8, 10, 12, 19]) [(0, (a0 % (8 : Int)))] [] [] [(0, (Zc c0 (rg 0 22 []) 23).t), (3, (ZfB c9 (1 :: (rg 3 19 [])) 24).t), (4, (Zr c10 (1 :: (rg 25 19 [])) 63).t), (5, (Zbm c12 [] 83).t), (9, (Zb2 c13 (1 :: (rg 63 19 [])) 85).t)]) (0 :: (rg 900000001 21 (24 :: (2 :: (rg 44 19 []))))) (vT) (kK (ZdP c13 (1 :: (rg 63 19 [])) 85) <| kK (Zdb c12 [] 83) <| kY (a14 > (0 : Int)) w11) (bS [vp 24 0, vi a10, ms RD L11, ms eI L12, vs 2 0 L13.length L13.length] <| ZN <| bN4 <| bN <| bS (hpC a14 44 L15.length 45 L16.length 46 W17) <| bQ <| bR <| bR <| Zo <| bQ <| bE)
           ·
            refine Z4 (fun z12 c12 => ?_)
            cases z12 with
            | r0 y12_0 y12_1 =>
             exact gxR Zq 1 (Zg (oq [0, 2, 4, 6, 8, 10, 12, 18]) [(0, (a0 % (8 : Int)))] [] [] [(0, (Zc c0 (rg 0 22 []) 23).t), (3, (ZfB c9 (1 :: (rg 3 19 [])) 24).t), (4, (Zr c10 (1 :: (rg 25 19 [])) 63).t), (7, (Zb2 c12 (1 :: (rg 63 19 [])) 84).t)]) (0 :: (rg 900000001 21 (24 :: (2 :: (rg 44 19 []))))) (vT) (kK (ZdP c12 (1 :: (rg 63 19 [])) 84) <| kN (a14 > (0 : Int)) w11) (bS [vp 24 0, vi a10, ms RD L11, ms eI L12, vs 2 0 L13.length L13.length] <| ZN <| bN4 <| bN <| bS (hpC a14 44 L15.length 45 L16.length 46 W17) <| bQ <| bR <| bR <| Zo <| bQ <| bE)
         | r1 =>
          exact gxR Zq 1 (Zg (oq [0, 2, 4, 6, 8, 10, 12]) [(0, (a0 % (8 : Int)))] [] [] [(0, (Zc c0 (rg 0 22 []) 23).t), (3, (Zij c9 (1 :: (rg 3 19 [])) 24).t)]) (0 :: (rg 900000001 21 (1 :: (2 :: (rg 24 19 []))))) (vf) (kK (Znv c9 (1 :: (rg 3 19 [])) 24) <| hF g8 w8) (bS (κb a10 L11 L12 L13) <| ZN <| bN4 <| bN <| bS (hpC a14 24 L15.length 25 L16.length 26 W17) <| bQ <| bR <| bR <| Zo <| bQ <| bE)

theorem Zks (a0 a1 a2 a3 a4 : Int) (b5 : Bool) (a6 a7 a8 a9 a10 : Int) (L11 : List RI) (L12 : List Int) (L13 : List RF) (a14 : Int) (L15 : List RG) (L16 : List RF) (W17 : Nat → List Int) (N : Nat) (r : Ze) (h : Zbl a0 a1 a2 a3 a4 b5 a6 a7 a8 a9 a10 L11 L12 L13 a14 L15 L16 W17 N = some r) : LSpec Try.prog 9 #[vp 0 0, Value.agg (κd a0 a1 a2 a3 a4 b5 a6 a7 a8 a9)] (.cells (κb a10 L11 L12 L13) 37 :: .cells (hpC a14 3 L15.length 4 L16.length 5 W17) 67 :: .cells (Za RA L13) 41 true :: .cells (Za RB L15) 50 :: .cells (Za RA L16) 41 :: hpP W17 []) (Zik a0 a1 a2 a3 a4 b5 a6 a7 a8 a9 a10 L11 L12 L13 a14 L15 L16 W17 r) (Zhi a0 a1 a2 a3 a4 b5 a6 a7 a8 a9 a10 L11 L12 L13 a14 L15 L16 W17 r) :=
 ZlU a0 a1 a2 a3 a4 b5 a6 a7 a8 a9 a10 L11 L12 L13 a14 L15 L16 W17 N r h

noncomputable def ZdQ {a0 : Int} {a1 : Int} {a2 : Int} {a3 : Int} {a4 : Int} {b5 : Bool} {a6 : Int} {a7 : Int} {a8 : Int} {a9 : Int} {a10 : Int} {L11 : List RI} {L12 : List Int} {L13 : List RF} {a14 : Int} {L15 : List RG} {L16 : List RF} {W17 : Nat → List Int} {w0 : Bool} {w2 : List RI} {w3 : List Int} {w4 : List RF} {w6 : List RG} {w7 : List RF} {w8 : Nat → List Int} {N : Nat} (h : Zbl a0 a1 a2 a3 a4 b5 a6 a7 a8 a9 a10 L11 L12 L13 a14 L15 L16 W17 N = some (.r0 w0 w2 w3 w4 w6 w7 w8)) (ks : List Nat) (n : Nat) : ToldS := ⟨#[vp (nth ks 0) 0, Value.agg (κd a0 a1 a2 a3 a4 b5 a6 a7 a8 a9)], (κk ks a10 L11 L12 L13 a14 L15 L16 W17), Value.bool w0, [((nth ks 0), some (.cells [vp n 0, vi a10, ms RD w2, ms eI w3, vs (n + 1) 0 w4.length w4.length] 37)), ((nth ks 1), none), ((nth ks 2), none), ((nth ks 3), none), ((nth ks 4), none), ((nth ks 5), none), ((nth ks 6), none), ((nth ks 7), none), ((nth ks 8), none), ((nth ks 9), none), ((nth ks 10), none), ((nth ks 11), none), ((nth ks 12), none), ((nth ks 13), none), ((nth ks 14), none), ((nth ks 15), none), ((nth ks 16), none), ((nth ks 17), none), ((nth ks 18), none), ((nth ks 19), none), ((nth ks 20), none), ((nth ks 21), none), (n, some (.cells [vi a14, vs (n + 2) 0 w6.length w6.length, vs (n + 3) 0 w7.length w7.length, vs (n + 4) 0 (w8 0).length (w8 0).length, vs (n + 5) 0 (w8 1).length (w8 1).length, vs (n + 6) 0 (w8 2).length (w8 2).length, vs (n + 7) 0 (w8 3).length (w8 3).length, vs (n + 8) 0 (w8 4).length (w8 4).length, vs (n + 9) 0 (w8 5).length (w8 5).length, vs (n + 10) 0 (w8 6).length (w8 6).length, vs (n + 11) 0 (w8 7).length (w8 7).length, vs (n + 12) 0 (w8 8).length (w8 8).length, vs (n + 13) 0 (w8 9).length (w8 9).length, vs (n + 14) 0 (w8 10).length (w8 10).length, vs (n + 15) 0 (w8 11).length (w8 11).length, vs (n + 16) 0 (w8 12).length (w8 12).length, vs (n + 17) 0 (w8 13).length (w8 13).length, vs (n + 18) 0 (w8 14).length (w8 14).length, vs (n + 19) 0 (w8 15).length (w8 15).length, vs (n + 20) 0 (w8 16).length (w8 16).length] 67)), ((n + 1), some (.cells (Za RA w4) 41 true)), ((n + 2), some (.cells (Za RB w6) 50)), ((n + 3), some (.cells (Za RA w7) 41)), ((n + 4), some (.cells (Za eI (w8 0)) 3 true)), ((n + 5), some (.cells (Za eI (w8 1)) 3 true)), ((n + 6), some (.cells (Za eI (w8 2)) 3 true)), ((n + 7), some (.cells (Za eI (w8 3)) 3 true)), ((n + 8), some (.cells (Za eI (w8 4)) 3 true)), ((n + 9), some (.cells (Za eI (w8 5)) 3 true)), ((n + 10), some (.cells (Za eI (w8 6)) 3 true)), ((n + 11), some (.cells (Za eI (w8 7)) 3 true)), ((n + 12), some (.cells (Za eI (w8 8)) 3 true)), ((n + 13), some (.cells (Za eI (w8 9)) 3 true)), ((n + 14), some (.cells (Za eI (w8 10)) 3 true)), ((n + 15), some (.cells (Za eI (w8 11)) 3 true)), ((n + 16), some (.cells (Za eI (w8 12)) 3 true)), ((n + 17), some (.cells (Za eI (w8 13)) 3 true)), ((n + 18), some (.cells (Za eI (w8 14)) 3 true)), ((n + 19), some (.cells (Za eI (w8 15)) 3 true)), ((n + 20), some (.cells (Za eI (w8 16)) 3 true))], 21⟩

theorem Zhj {a0 : Int} {a1 : Int} {a2 : Int} {a3 : Int} {a4 : Int} {b5 : Bool} {a6 : Int} {a7 : Int} {a8 : Int} {a9 : Int} {a10 : Int} {L11 : List RI} {L12 : List Int} {L13 : List RF} {a14 : Int} {L15 : List RG} {L16 : List RF} {W17 : Nat → List Int} {w0 : Bool} {w2 : List RI} {w3 : List Int} {w4 : List RF} {w6 : List RG} {w7 : List RF} {w8 : Nat → List Int} {N : Nat} (h : Zbl a0 a1 a2 a3 a4 b5 a6 a7 a8 a9 a10 L11 L12 L13 a14 L15 L16 W17 N = some (.r0 w0 w2 w3 w4 w6 w7 w8)) (ks : List Nat) (n : Nat) (hk : ks.length = 22 := by rfl) (hnd : ks.Nodup := by decide +kernel) (hlt : ∀ k ∈ ks, k < n := by decide +kernel) : (ZdQ (N := N)  h ks n).P Try.prog 9 n :=
 match ks, hk, hnd, hlt with
 | [k0, k1, k2, k3, k4, k5, k6, k7, k8, k9, k10, k11, k12, k13, k14, k15, k16, k17, k18, k19, k20, k21], _, hnd, hlt => ZW (show LSpec Try.prog 9 #[vp 0 0, Value.agg (κd a0 a1 a2 a3 a4 b5 a6 a7 a8 a9)] (.cells (κb a10 L11 L12 L13) 37 :: .cells (hpC a14 3 L15.length 4 L16.length 5 W17) 67 :: .cells (Za RA L13) 41 true :: .cells (Za RB L15) 50 :: .cells (Za RA L16) 41 :: hpP W17 []) (Value.bool w0) (some (.cells [vp 22 0, vi a10, ms RD w2, ms eI w3, vs 23 0 w4.length w4.length] 37) :: none :: none :: none :: none :: none :: none :: none :: none :: none :: none :: none :: none :: none :: none :: none :: none :: none :: none :: none :: none :: none :: some (.cells (hpC a14 24 w6.length 25 w7.length 26 w8) 67) :: some (.cells (Za RA w4) 41 true) :: some (.cells (Za RB w6) 50) :: some (.cells (Za RA w7) 41) :: hpO w8 []) from Zks a0 a1 a2 a3 a4 b5 a6 a7 a8 a9 a10 L11 L12 L13 a14 L15 L16 W17 N _ h) _ n (rg 0 43 []) hnd hlt

end Ev
end Go.Proofs.Ytomkpfibofpkbaa
namespace Go.Proofs.Ytomkpfibofpkbaa
open Go.IntKind (i64)
open Go.RowKit
namespace Ev
set_option linter.unusedVariables false
set_option maxRecDepth 100000
set_option maxHeartbeats 4000000
noncomputable def ZiL (a0 a1 a2 : Int) (L3 : List RG) (L4 : List RF) (W5 : Nat → List Int) : Zce → Value
 | .r0 w19 w20 w21 w22 w23 w24 => Value.tuple #[Value.agg #[vi w19, vi w20, vi w21, vi w22, vi w23], Value.bool w24]
noncomputable def Zil (a0 a1 a2 : Int) (L3 : List RG) (L4 : List RF) (W5 : Nat → List Int) : Zce → List (Option AObj)
 | .r0 w19 w20 w21 w22 w23 w24 => (κD a2 L3 L4 W5)

theorem Zm6 (a0 a1 a2 : Int) (L3 : List RG) (L4 : List RF) (W5 : Nat → List Int) (N : Nat) : Fx Try.prog Z1 Try.f36 (κg a2 L3 L4 W5) (κF a0 a1) (ZiL a0 a1 a2 L3 L4 W5) (Zil a0 a1 a2 L3 L4 W5) (Zcv a0 a1 a2 L3 L4 W5 N) := by
 unfold Zcv
 refine Zf (fun g0 => ?_) (fun g0 => ?_)
 ·
  refine Z7 (fun z1 c1 => ?_)
  cases z1 with
  | r0 y1_0 y1_1 =>
   refine Zf (fun g2 => ?_) (fun g2 => ?_)
   ·
    exact fxC (Zg (oq [3, 7]) [] [] [] [(0, (ZF c1 (rg 0 20 []) 22).t)]) (rg 0 20 []) (Value.tuple #[Value.agg #[vq, vq, vq, vq, vq], vf]) (hD g2 <| kK (Zcw c1 (rg 0 20 []) 22) <| kY (a2 > (0 : Int)) Zm) (bS (hpC a2 1 L3.length 2 L4.length 3 W5) <| bR <| bR <| Zo <| bQ <| bE)
   ·
    refine Zf (fun g3 => ?_) (fun _ => Zp)
    refine Zf (fun g4 => ?_) (fun _ => Zp)
    exact fxC (Zg (oq [3, 6]) [] [(0, ((i64.wrap (y1_0 - (1 : Int)))).toNat)] [(3, (RB.cel (L3.getD ((i64.wrap (y1_0 - (1 : Int)))).toNat RG.z)))] [(0, (ZF c1 (rg 0 20 []) 22).t)]) (rg 0 20 []) (Value.tuple #[Value.agg #[vi (L3.getD ((i64.wrap (y1_0 - (1 : Int)))).toNat RG.z).a0, vi (L3.getD ((i64.wrap (y1_0 - (1 : Int)))).toNat RG.z).a1, vi (L3.getD ((i64.wrap (y1_0 - (1 : Int)))).toNat RG.z).a2, vi (L3.getD ((i64.wrap (y1_0 - (1 : Int)))).toNat RG.z).a3, vi (L3.getD ((i64.wrap (y1_0 - (1 : Int)))).toNat RG.z).a4], vT]) (kLn RB L3 (((i64.wrap (y1_0 - (1 : Int)))).toNat) 0 5 <| kB ((i64.wrap (y1_0 - (1 : Int)))).toNat L3.length <| kI (i64.wrap (y1_0 - (1 : Int))) (Int.ofNat ((i64.wrap (y1_0 - (1 : Int)))).toNat) <| kE y1_1 (0 : Int) <| kK (Zcw c1 (rg 0 20 []) 22) <| kY (a2 > (0 : Int)) Zm) (bS (hpC a2 1 L3.length 2 L4.length 3 W5) <| bR <| bR <| Zo <| bQ <| bE)
 ·
  exact fxC (Zg (oq [2]) [] [] [] []) (rg 0 20 []) (Value.tuple #[Value.agg #[vq, vq, vq, vq, vq], vf]) (kN (a2 > (0 : Int)) Zm) (bS (hpC a2 1 L3.length 2 L4.length 3 W5) <| bR <| bR <| Zo <| bQ <| bE)

theorem ZkP (a0 a1 a2 : Int) (L3 : List RG) (L4 : List RF) (W5 : Nat → List Int) (N : Nat) (r : Zce) (h : Zcv a0 a1 a2 L3 L4 W5 N = some r) : LSpec Try.prog 36 (κF a0 a1) (κg a2 L3 L4 W5) (ZiL a0 a1 a2 L3 L4 W5 r) (Zil a0 a1 a2 L3 L4 W5 r) :=
 ZaA Zq Try.func36 (by kernel_rfl) (by kernel_rfl) (fun r => by cases r <;> exact Z8 _ rfl) (Zm6 a0 a1 a2 L3 L4 W5 N) h

noncomputable def Zy {a0 : Int} {a1 : Int} {a2 : Int} {L3 : List RG} {L4 : List RF} {W5 : Nat → List Int} {w19 : Int} {w20 : Int} {w21 : Int} {w22 : Int} {w23 : Int} {w24 : Bool} {N : Nat} (h : Zcv a0 a1 a2 L3 L4 W5 N = some (.r0 w19 w20 w21 w22 w23 w24)) (ks : List Nat) (n : Nat) : ToldS := ⟨#[vp (nth ks 0) 0, Value.agg #[vi a0, vi a1]], (κv ks a2 L3 L4 W5), Value.tuple #[Value.agg #[vi w19, vi w20, vi w21, vi w22, vi w23], Value.bool w24], [], 0⟩

theorem Znw {a0 : Int} {a1 : Int} {a2 : Int} {L3 : List RG} {L4 : List RF} {W5 : Nat → List Int} {w19 : Int} {w20 : Int} {w21 : Int} {w22 : Int} {w23 : Int} {w24 : Bool} {N : Nat} (h : Zcv a0 a1 a2 L3 L4 W5 N = some (.r0 w19 w20 w21 w22 w23 w24)) (ks : List Nat) (n : Nat) (hk : ks.length = 20 := by rfl) (hnd : ks.Nodup := by decide +kernel) (hlt : ∀ k ∈ ks, k < n := by decide +kernel) : (Zy (N := N)  h ks n).P Try.prog 36 n :=
 match ks, hk, hnd, hlt with
 | [k0, k1, k2, k3, k4, k5, k6, k7, k8, k9, k10, k11, k12, k13, k14, k15, k16, k17, k18, k19], _, hnd, hlt => ZW (show LSpec Try.prog 36 (κF a0 a1) (κg a2 L3 L4 W5) (Value.tuple #[Value.agg #[vi w19, vi w20, vi w21, vi w22, vi w23], Value.bool w24]) (κD a2 L3 L4 W5) from ZkP a0 a1 a2 L3 L4 W5 N _ h) _ n [] hnd hlt

noncomputable def ZmP (a0 : Int) (L1 : List RI) (L2 : List Int) (a3 a4 : Int) : Ze8 → Value
 | .r0 w0 w1 w2 w3 w4 w5 => Value.tuple #[Value.agg #[vi w0, vi w1, vi w2, vi w3, vi w4], Value.bool w5]
noncomputable def ZlV (a0 : Int) (L1 : List RI) (L2 : List Int) (a3 a4 : Int) : Ze8 → List (Option AObj)
 | .r0 w0 w1 w2 w3 w4 w5 => []

theorem Zqc (a0 : Int) (L1 : List RI) (L2 : List Int) (a3 a4 : Int) (N : Nat) : Fx Try.prog Z1 Try.f37 [] #[Value.agg (κc a0 L1 L2), Value.agg #[vi a3, vi a4]] (ZmP a0 L1 L2 a3 a4) (ZlV a0 L1 L2 a3 a4) (Zey a0 L1 L2 a3 a4 N) := by
 unfold Zey
 refine Z7 (fun z0 c0 => ?_)
 cases z0 with
 | r0 y0_0 y0_1 =>
  refine Zf (fun g1 => ?_) (fun g1 => ?_)
  ·
   exact fxC (Zg (oq [1]) [] [] [] [(0, (Zz c0 [] 3).t)]) [] (Value.tuple #[Value.agg #[vq, vq, vq, vq, vq], vf]) (hD g1 <| kK (ZcA c0 [] 3) Zm) bE
  ·
   refine Zf (fun g2 => ?_) (fun _ => Zp)
   refine Zf (fun g3 => ?_) (fun _ => Zp)
   exact fxC (Zg (oq [0]) [] [(0, (y0_0).toNat)] [(3, [.i (L1.getD (y0_0).toNat RI.z).a3, .i (L1.getD (y0_0).toNat RI.z).a4, .i (L1.getD (y0_0).toNat RI.z).a5, .i (L1.getD (y0_0).toNat RI.z).a6, .i (L1.getD (y0_0).toNat RI.z).a7])] [(0, (Zz c0 [] 3).t)]) [] (Value.tuple #[Value.agg #[vi (L1.getD (y0_0).toNat RI.z).a3, vi (L1.getD (y0_0).toNat RI.z).a4, vi (L1.getD (y0_0).toNat RI.z).a5, vi (L1.getD (y0_0).toNat RI.z).a6, vi (L1.getD (y0_0).toNat RI.z).a7], vT]) (kG RD L1 (((0 + ((y0_0).toNat * 9)) + 1) + 2) ((y0_0).toNat) 3 5 9 <| kB (y0_0).toNat L1.length <| kI y0_0 (Int.ofNat (y0_0).toNat) <| kE y0_1 (0 : Int) <| kK (ZcA c0 [] 3) Zm) bE

theorem Zov (a0 : Int) (L1 : List RI) (L2 : List Int) (a3 a4 : Int) (N : Nat) (r : Ze8) (h : Zey a0 L1 L2 a3 a4 N = some r) : LSpec Try.prog 37 #[Value.agg (κc a0 L1 L2), Value.agg #[vi a3, vi a4]] [] (ZmP a0 L1 L2 a3 a4 r) (ZlV a0 L1 L2 a3 a4 r) :=
 ZaA Zq Try.func37 (by kernel_rfl) (by kernel_rfl) (fun r => by cases r <;> exact Z8 _ rfl) (Zqc a0 L1 L2 a3 a4 N) h

noncomputable def ZA {a0 : Int} {L1 : List RI} {L2 : List Int} {a3 : Int} {a4 : Int} {w0 : Int} {w1 : Int} {w2 : Int} {w3 : Int} {w4 : Int} {w5 : Bool} {N : Nat} (h : Zey a0 L1 L2 a3 a4 N = some (.r0 w0 w1 w2 w3 w4 w5)) (ks : List Nat) (n : Nat) : ToldS := ⟨#[Value.agg (κc a0 L1 L2), Value.agg #[vi a3, vi a4]], [], Value.tuple #[Value.agg #[vi w0, vi w1, vi w2, vi w3, vi w4], Value.bool w5], [], 0⟩

theorem ZrE {a0 : Int} {L1 : List RI} {L2 : List Int} {a3 : Int} {a4 : Int} {w0 : Int} {w1 : Int} {w2 : Int} {w3 : Int} {w4 : Int} {w5 : Bool} {N : Nat} (h : Zey a0 L1 L2 a3 a4 N = some (.r0 w0 w1 w2 w3 w4 w5)) (ks : List Nat) (n : Nat) (hk : ks.length = 0 := by rfl) (hnd : ks.Nodup := by decide +kernel) (hlt : ∀ k ∈ ks, k < n := by decide +kernel) : (ZA (N := N)  h ks n).P Try.prog 37 n :=
 match ks, hk, hnd, hlt with
 | [], _, hnd, hlt => ZW (show LSpec Try.prog 37 #[Value.agg (κc a0 L1 L2), Value.agg #[vi a3, vi a4]] [] (Value.tuple #[Value.agg #[vi w0, vi w1, vi w2, vi w3, vi w4], Value.bool w5]) [] from Zov a0 L1 L2 a3 a4 N _ h) _ n [] hnd hlt

noncomputable def ZfC (L0 : List RF) (n1 n2 n3 : Nat) : Za6 → Value
 | .r0 => ms RA ((L0.drop n1).take n2)
noncomputable def Zfy (L0 : List RF) (n1 n2 n3 : Nat) : Za6 → List (Option AObj)
 | .r0 => [some (.cells (Za RA L0) 41)]

theorem Zfb (L0 : List RF) (n1 n2 n3 N : Nat) (r : Za6) (h : Zae L0 n1 n2 n3 N = some r) : LSpec Try.prog 45 #[vs 0 (n1 * 2) n2 n3] [.cells (Za RA L0) 41] (ZfC L0 n1 n2 n3 r) (Zfy L0 n1 n2 n3 r) := by
 unfold Zae at h
 by_cases h0 : n1 + n2 ≤ L0.length
 · rw [if_pos h0] at h
   by_cases h1 : n2 ≤ 100000
   · rw [if_pos h1] at h
     obtain rfl := (Option.some.inj h).symm
     exact ZtD (E := RA) (L := L0) Zr0 rfl h0 (show _ = _ * 2 from by omega) (Nat.le_trans h1 (by decide)) (by show n2 * 16 ≤ _; omega)
   · rw [if_neg h1] at h; cases h
 · rw [if_neg h0] at h; cases h

noncomputable def ZbI {L0 : List RF} {n1 : Nat} {n2 : Nat} {n3 : Nat} {N : Nat} (h : Zae L0 n1 n2 n3 N = some (.r0)) (ks : List Nat) (n : Nat) : ToldS := ⟨#[vs (nth ks 0) (n1 * 2) n2 n3], [((nth ks 0), .cells (Za RA L0) 41)], ms RA ((L0.drop n1).take n2), [], 0⟩

theorem Zdm {L0 : List RF} {n1 : Nat} {n2 : Nat} {n3 : Nat} {N : Nat} (h : Zae L0 n1 n2 n3 N = some (.r0)) (ks : List Nat) (n : Nat) (hk : ks.length = 1 := by rfl) (hnd : ks.Nodup := by decide +kernel) (hlt : ∀ k ∈ ks, k < n := by decide +kernel) : (ZbI (N := N)  h ks n).P Try.prog 45 n :=
 match ks, hk, hnd, hlt with
 | [k0], _, hnd, hlt => ZW (show LSpec Try.prog 45 #[vs 0 (n1 * 2) n2 n3] [.cells (Za RA L0) 41] (ms RA ((L0.drop n1).take n2)) [some (.cells (Za RA L0) 41)] from Zfb L0 n1 n2 n3 N _ h) _ n [] hnd hlt

set_option linter.unusedVariables false
set_option maxRecDepth 100000
set_option maxHeartbeats 4000000
noncomputable def ZeJ (a0 : Int) (L1 : List RG) (L2 : List RF) (W3 : Nat → List Int) : heap_Heap_ObjectsR → Value
 | .r0 => vn
 | .r1 w19 => vs 20 0 w19.length w19.length
noncomputable def Ze1 (a0 : Int) (L1 : List RG) (L2 : List RF) (W3 : Nat → List Int) : heap_Heap_ObjectsR → List (Option AObj)
 | .r0 => (κn a0 L1 L2 W3)
 | .r1 w19 => (some (.cells (hpC a0 1 L1.length 2 L2.length 3 W3) 67) :: some (κt L1) :: some (.cells (Za RA L2) 41) :: hpO W3 [some (.cells (Za RC w19) 52)])

noncomputable def ZlW (a0 : Int) (L1 : List RG) (L2 : List RF) (W3 : Nat → List Int) : heap_Heap_ObjectsR → Value
 | .r0 => ms RC ([] : List RH)
 | .r1 w19 => ms RC w19
noncomputable def ZkQ (a0 : Int) (L1 : List RG) (L2 : List RF) (W3 : Nat → List Int) : heap_Heap_ObjectsR → List (Option AObj)
 | .r0 => (κn a0 L1 L2 W3)
 | .r1 w19 => (κn a0 L1 L2 W3)

noncomputable def outD (live : List Nat) (r : Out) : Option (Value × List (Option AObj) × List (Bool × Bool)) :=
 match r with
 | some (u, s) => bif Nat.ble s.n 1000000000 then some (u, live.map s.h.get, s.ob) else none
 | none => none
theorem Zsv {P : Program} {ext : FuncId → Option Ext} (F : Fit P ext) {f : FuncId} {fn : Func} {c : Code} (hfn : P.funcs[f]? = some fn) (hb : fn.body = some c) {A : Array Value} {pre : List AObj} {v u : Value} {post : List (Option AObj)} {orc : Orc} {live : List Nat} {bl : List (Option AObj)} {ob : List (Bool × Bool)} (ho : ∀ p ∈ ob, p.1 = p.2) (hv : v = ZT (rho live far) 3 u ∧ Z9 3 u = true) (hbl : Zx (rho live far) bl post) (hev : outD live (Zj6 P ext 4000 f A ⟨ZcZ 0 pre, pre.length, [], orc, []⟩) = some (u, bl, ob)) (hle : post.length ≤ far)
  (hl : live.length = post.length) (hn : live.Nodup) (hk : Zbj pre.length live = true) : LSpec P f A pre v post := by
 intro ι w args' hdm ha he
 unfold outD at hev
 split at hev
 · rename_i u' s h1
   obtain ⟨hnn, hev⟩ := Zl hev
   injection hev with hev; simp only [Prod.mk.injEq] at hev; obtain ⟨rfl, rfl, rfl⟩ := hev
   have hg := (ZnU (fu := 4000) F hfn hb).does A _ u' s h1 ho ι w args' ha (by show Emb P ι (ZcZ 0 pre).get w; rw [ZdK]; exact he) ⟨Nat.le_of_ble_eq_true hnn, fun k k1 k2 => by
    cases hk2 : ι k with
    | none => rfl
    | some b => exact absurd (hdm k (by rw [hk2]; simp)) (by have h3 : pre.length ≤ k := k1; have h4 : k < s.n := k2; have h5 : s.n ≤ 1000000000 := Nat.le_of_ble_eq_true hnn; unfold ZH; omega)⟩
   rcases hg with ⟨_, hc⟩ | ⟨v0, w0, hr, _⟩
   · refine hc.mono ?_
     rintro e w' ⟨v', ι', rfl, g1, _, g3⟩
     exact Zly hle hdm ⟨hl, hn, hk, hv, Zd9 hbl⟩ (by have := g1; simp only [ZdK] at this; exact this) g3
   · rw [ZbQ hfn (F.go f fn hfn) hb] at hr; cases hr
 · cases hev
def RdG {X R : Type} (Q : X ⊕ R → Prop) (o : Option (X ⊕ R)) : Prop := ∀ o', o = some o' → Q o'
section
variable {X R : Type} {Q : X ⊕ R → Prop}
theorem ZeD : RdG Q none := fun _ h => by cases h
theorem Zhx {o : X ⊕ R} (h : Q o) : RdG Q (some o) := fun _ e => by cases e; exact h
theorem Zeg {c : Prop} [Decidable c] {B C : Option (X ⊕ R)} (h1 : c → RdG Q B) (h2 : ¬ c → RdG Q C) : RdG Q (if c then B else C) := by
 by_cases h : c
 · rw [if_pos h]; exact h1 h
 · rw [if_neg h]; exact h2 h
theorem Zmm {Z : Type} {f : Option Z} {g : Z → Option (X ⊕ R)} (h : ∀ z, f = some z → RdG Q (g z)) : RdG Q (f.bind g) := by
 cases hf : f with
 | none => exact ZeD
 | some z => exact h z hf
end
noncomputable def Zd0 : Nat × Code := match (Try.f42).body with
 | some (.seq _ (.block id (.loop cB))) => (id, cB)
 | _ => (0, .skip)
noncomputable def Zd1 : Code × Code := match (Try.f12).body with
 | some (.seq _ (.seq _ (.seq _ (.seq (.seq _ (.block _ (.rangeFunc _ _ asg body))) _)))) => (asg, body)
 | _ => (.skip, .skip)
noncomputable def ZcB (a0 : Int) (L1 : List RG) (L2 : List RF) (W3 : Nat → List Int) : heap_Heap_ObjectsX → List (Option AObj)
 | .h1m0 v19 => (some (.cells (hpC a0 1 L1.length 2 L2.length 3 W3) 67) :: some (κt L1) :: some (.cells (Za RA L2) 41) :: hpO W3 [some (.cells [vp 0 0] 23), some (.cells [vn] 46), none])
 | .h1m1 v19 v21 => (some (.cells (hpC a0 1 L1.length 2 L2.length 3 W3) 67) :: some (κt L1) :: some (.cells (Za RA L2) 41) :: hpO W3 [some (.cells [vp 0 0] 23), some (.cells [vs 22 0 v21.length v21.length] 46), some (.cells (Za RC v21) 52)])
noncomputable def ZeK (a0 : Int) (L1 : List RG) (L2 : List RF) (W3 : Nat → List Int) : heap_Heap_ObjectsR → List (Option AObj)
 | .r0 => (some (.cells (hpC a0 1 L1.length 2 L2.length 3 W3) 67) :: some (κt L1) :: some (.cells (Za RA L2) 41) :: hpO W3 [some (.cells [vp 0 0] 23), some (.cells [vn] 46), none])
 | .r1 v21 => (some (.cells (hpC a0 1 L1.length 2 L2.length 3 W3) 67) :: some (κt L1) :: some (.cells (Za RA L2) 41) :: hpO W3 [some (.cells [vp 0 0] 23), some (.cells [vs 22 0 v21.length v21.length] 46), some (.cells (Za RC v21) 52)])
noncomputable def ZbB : heap_Heap_ObjectsX → List (Nat × Value)
 | .h1m0 v19 => [(0, vp 0 0), (4, vi v19)]
 | .h1m1 v19 v21 => [(0, vp 0 0), (4, vi v19)]
noncomputable def ZbC : List (Nat × Value) := [(1, vp 20 0), (3, vp 21 0), (12, .func (.func 42) #[vp 0 0] #[])]
def ZgR (a0 : Int) (L1 : List RG) (L2 : List RF) (W3 : Nat → List Int) (x : heap_Heap_ObjectsX) (gv gvc : Nat → Value) (ps : Array Tmp) (asg body : Code) (id : Nat) (cB : Code) : heap_Heap_ObjectsX ⊕ heap_Heap_ObjectsR → Prop
 | .inl y => ∃ fu orc live tv bl ob, Zng live ((ZbB y).map (·.1)) [1] (evI Try.prog Z1 (Try.f42).ntmps ⟨(Try.f12).ntmps, tmps (Try.f12).ntmps (fun t => ZQ t ZbC) gvc, ps, asg, body⟩ fu cB (tmps (Try.f42).ntmps (fun t => ZQ t (ZbB x)) gv) ⟨ZbK 0 (ZcB a0 L1 L2 W3 x), 23, [], orc, []⟩ [1] none) = some (.normal, tv, bl, ob) ∧ (∀ p ∈ ob, p.1 = p.2) ∧ live.length = 23 ∧ live.Nodup ∧ Zbj 22 live = true ∧ ZcG (rho live far) tv (ZbB y) ∧ Zx (rho live far) bl (ZcB a0 L1 L2 W3 y)
 | .inr r => ∃ fu orc live bl ob, Zng live [] [1] (evI Try.prog Z1 (Try.f42).ntmps ⟨(Try.f12).ntmps, tmps (Try.f12).ntmps (fun t => ZQ t ZbC) gvc, ps, asg, body⟩ fu cB (tmps (Try.f42).ntmps (fun t => ZQ t (ZbB x)) gv) ⟨ZbK 0 (ZcB a0 L1 L2 W3 x), 23, [], orc, []⟩ [1] none) = some (.exit id, [], bl, ob) ∧ (∀ p ∈ ob, p.1 = p.2) ∧ live.length = 23 ∧ live.Nodup ∧ Zbj 22 live = true ∧ Zx (rho live far) bl (ZeK a0 L1 L2 W3 r)

theorem ZfM (a0 : Int) (L1 : List RG) (L2 : List RF) (W3 : Nat → List Int) (N : Nat) (v19 : Int) (gv gvc : Nat → Value) (ps : Array Tmp) (asg body : Code) (id : Nat) (cB : Code) (hps : ps = #[13]) (hcode : (id, cB) = Zd0) (hab : (asg, body) = Zd1) : RdG (ZgR a0 L1 L2 W3 (.h1m0 v19) gv gvc ps asg body id cB) (Zbd a0 L1 L2 W3 N v19) := by
 subst hps
 simp only [Zd0, Zd1, Prod.mk.injEq] at hcode hab
 obtain ⟨rfl, rfl⟩ := hcode
 obtain ⟨rfl, rfl⟩ := hab
 unfold Zbd
 refine Zeg (fun g0 => ?_) (fun _ => ZeD)
 refine Zeg (fun g1 => ?_) (fun _ => ZeD)
 refine Zeg (fun g2 => ?_) (fun g2 => ?_)
 ·
  have w3 := kLn RB L1 (((v19 - (1 : Int))).toNat) 0 5 <| kB ((v19 - (1 : Int))).toNat L1.length <| kI (v19 - (1 : Int)) (Int.ofNat ((v19 - (1 : Int))).toNat) <| kW (v19 - (1 : Int)) (v19 - (1 : Int)) <| hY g2 Zm
  refine Zeg (fun g3 => ?_) (fun g3 => ?_)
  ·
   exact Zhx (⟨4000, (Zg (oq [1, 3]) [(0, (v19 - (1 : Int))), (1, (v19 - (1 : Int)))] [(0, ((v19 - (1 : Int))).toNat), (1, ((v19 - (1 : Int))).toNat)] [(3, (RB.cel (L1.getD ((v19 - (1 : Int))).toNat RG.z))), (6, [.i (L1.getD ((v19 - (1 : Int))).toNat RG.z).a1])] []), (rg 0 22 [900000000]), [some (vp 0 0), some (vi (i64.wrap (v19 + (i64.wrap ((L1.getD ((v19 - (1 : Int))).toNat RG.z).a1 + (1 : Int))))))], _, _, by kernel_rfl, (kL RB L1 (((v19 - (1 : Int))).toNat) 1 1 <| kB ((v19 - (1 : Int))).toNat L1.length <| kI (v19 - (1 : Int)) (Int.ofNat ((v19 - (1 : Int))).toNat) <| kW (v19 - (1 : Int)) (v19 - (1 : Int)) <| hT g3 w3), rfl, by decide +kernel, by rfl, (tC (tC (tE))), (bS (hpC a0 1 L1.length 2 L2.length 3 W3) <| bR <| bR <| Zo <| bQ <| bS [vp 0 0] <| bS [vn] <| bN <| bE)⟩)
  ·
   refine Zmm (fun z4 c4 => ?_)
   cases z4 with
   | r0 y4_0 y4_1 y4_2 =>
    refine Zeg (fun g5 => ?_) (fun _ => ZeD)
    refine Zeg (fun g6 => ?_) (fun _ => ZeD)
    refine Zmm (fun z7 c7 => ?_)
    cases z7 with
    | r0 =>
     exact Zhx (⟨4000, (Zg (oq [1, 2]) [(0, (v19 - (1 : Int))), (2, (v19 - (1 : Int)))] [(0, ((v19 - (1 : Int))).toNat), (1, ((v19 - (1 : Int))).toNat)] [(3, (RB.cel (L1.getD ((v19 - (1 : Int))).toNat RG.z))), (13, [.i (L1.getD ((v19 - (1 : Int))).toNat RG.z).a1])] [(1, (Zbm c4 [] 24).t), (3, .sl (v19).toNat ((i64.wrap (v19 + (L1.getD ((v19 - (1 : Int))).toNat RG.z).a1))).toNat), (4, (ZbI c7 [2] 25).t)]), (rg 0 22 [26]), [some (vp 0 0), some (vi (i64.wrap (v19 + (i64.wrap ((L1.getD ((v19 - (1 : Int))).toNat RG.z).a1 + (1 : Int))))))], _, _, by kernel_rfl, (kL RB L1 (((v19 - (1 : Int))).toNat) 1 1 <| kB ((v19 - (1 : Int))).toNat L1.length <| kI (v19 - (1 : Int)) (Int.ofNat ((v19 - (1 : Int))).toNat) <| kW (v19 - (1 : Int)) (v19 - (1 : Int)) <| kKb (A := #[Value.slice (some ⟨2, (0 + ((v19).toNat * 2)), none⟩) (((i64.wrap (v19 + (L1.getD ((v19 - (1 : Int))).toNat RG.z).a1))).toNat - (v19).toNat) (L2.length - (v19).toNat)]) (Zgy (Zj (Zn eqA rfl rfl) rfl)) (Zdm c7 [2] 25) <| kR (Za RA L2) <| kX (dP ((v19).toNat ≤ ((i64.wrap (v19 + (L1.getD ((v19 - (1 : Int))).toNat RG.z).a1))).toNat ∧ ((i64.wrap (v19 + (L1.getD ((v19 - (1 : Int))).toNat RG.z).a1))).toNat ≤ L2.length)) true (ZaD ⟨ltA, ltA⟩) <| kI (i64.wrap (v19 + (L1.getD ((v19 - (1 : Int))).toNat RG.z).a1)) (Int.ofNat ((i64.wrap (v19 + (L1.getD ((v19 - (1 : Int))).toNat RG.z).a1))).toNat) <| kI v19 (Int.ofNat (v19).toNat) <| kK (Zdb c4 [] 24) <| hF g3 w3), rfl, by decide +kernel, by rfl, (tC (tC (tE))), (bS (hpC a0 1 L1.length 2 L2.length 3 W3) <| bR <| bR <| Zo <| bQ <| bS [vp 0 0] <| bU [vs 26 0 1 1] 0 (show (vs 22 0 1 1 : Value) = vs 22 0 ([(⟨y4_0, y4_1, (L1.getD ((v19 - (1 : Int))).toNat RG.z).a0, (L1.getD ((v19 - (1 : Int))).toNat RG.z).a1, (L1.getD ((v19 - (1 : Int))).toNat RG.z).a2, (L1.getD ((v19 - (1 : Int))).toNat RG.z).a3, (L1.getD ((v19 - (1 : Int))).toNat RG.z).a4, ((L2.drop (v19).toNat).take (((i64.wrap (v19 + (L1.getD ((v19 - (1 : Int))).toNat RG.z).a1))).toNat - (v19).toNat))⟩ : RH)] : List RH).length ([(⟨y4_0, y4_1, (L1.getD ((v19 - (1 : Int))).toNat RG.z).a0, (L1.getD ((v19 - (1 : Int))).toNat RG.z).a1, (L1.getD ((v19 - (1 : Int))).toNat RG.z).a2, (L1.getD ((v19 - (1 : Int))).toNat RG.z).a3, (L1.getD ((v19 - (1 : Int))).toNat RG.z).a4, ((L2.drop (v19).toNat).take (((i64.wrap (v19 + (L1.getD ((v19 - (1 : Int))).toNat RG.z).a1))).toNat - (v19).toNat))⟩ : RH)] : List RH).length from Zn rfl eqA eqA) <| bC (o := .cells [vi y4_0, vi y4_1, vi (L1.getD ((v19 - (1 : Int))).toNat RG.z).a0, vi (L1.getD ((v19 - (1 : Int))).toNat RG.z).a1, vi (L1.getD ((v19 - (1 : Int))).toNat RG.z).a2, vi (L1.getD ((v19 - (1 : Int))).toNat RG.z).a3, vi (L1.getD ((v19 - (1 : Int))).toNat RG.z).a4, ms RA ((L2.drop (v19).toNat).take (((i64.wrap (v19 + (L1.getD ((v19 - (1 : Int))).toNat RG.z).a1))).toNat - (v19).toNat))] 52) (Zet (E := RC) _ (L := ([(⟨y4_0, y4_1, (L1.getD ((v19 - (1 : Int))).toNat RG.z).a0, (L1.getD ((v19 - (1 : Int))).toNat RG.z).a1, (L1.getD ((v19 - (1 : Int))).toNat RG.z).a2, (L1.getD ((v19 - (1 : Int))).toNat RG.z).a3, (L1.getD ((v19 - (1 : Int))).toNat RG.z).a4, ((L2.drop (v19).toNat).take (((i64.wrap (v19 + (L1.getD ((v19 - (1 : Int))).toNat RG.z).a1))).toNat - (v19).toNat))⟩ : RH)] : List RH)) _ (show ([vi y4_0, vi y4_1, vi (L1.getD ((v19 - (1 : Int))).toNat RG.z).a0, vi (L1.getD ((v19 - (1 : Int))).toNat RG.z).a1, vi (L1.getD ((v19 - (1 : Int))).toNat RG.z).a2, vi (L1.getD ((v19 - (1 : Int))).toNat RG.z).a3, vi (L1.getD ((v19 - (1 : Int))).toNat RG.z).a4, ms RA ((L2.drop (v19).toNat).take (((i64.wrap (v19 + (L1.getD ((v19 - (1 : Int))).toNat RG.z).a1))).toNat - (v19).toNat))] : List Value) = Za RC ([(⟨y4_0, y4_1, (L1.getD ((v19 - (1 : Int))).toNat RG.z).a0, (L1.getD ((v19 - (1 : Int))).toNat RG.z).a1, (L1.getD ((v19 - (1 : Int))).toNat RG.z).a2, (L1.getD ((v19 - (1 : Int))).toNat RG.z).a3, (L1.getD ((v19 - (1 : Int))).toNat RG.z).a4, ((L2.drop (v19).toNat).take (((i64.wrap (v19 + (L1.getD ((v19 - (1 : Int))).toNat RG.z).a1))).toNat - (v19).toNat))⟩ : RH)] : List RH) from rfl)) <| bE)⟩)
 ·
  exact Zhx (⟨4000, (Zg (oq [0]) [] [] [] []), (rg 0 22 [900000000]), _, _, by kernel_rfl, (hN g2 Zm), rfl, by decide +kernel, by rfl, (bS (hpC a0 1 L1.length 2 L2.length 3 W3) <| bR <| bR <| Zo <| bQ <| bS [vp 0 0] <| bS [vn] <| bN <| bE)⟩)

theorem ZfN (a0 : Int) (L1 : List RG) (L2 : List RF) (W3 : Nat → List Int) (N : Nat) (v19 : Int) (v21 : List RH) (gv gvc : Nat → Value) (ps : Array Tmp) (asg body : Code) (id : Nat) (cB : Code) (hps : ps = #[13]) (hcode : (id, cB) = Zd0) (hab : (asg, body) = Zd1) : RdG (ZgR a0 L1 L2 W3 (.h1m1 v19 v21) gv gvc ps asg body id cB) (Zbe a0 L1 L2 W3 N v19 v21) := by
 subst hps
 simp only [Zd0, Zd1, Prod.mk.injEq] at hcode hab
 obtain ⟨rfl, rfl⟩ := hcode
 obtain ⟨rfl, rfl⟩ := hab
 unfold Zbe
 refine Zeg (fun g0 => ?_) (fun _ => ZeD)
 refine Zeg (fun g1 => ?_) (fun _ => ZeD)
 refine Zeg (fun g2 => ?_) (fun g2 => ?_)
 ·
  have w3 := kLn RB L1 (((v19 - (1 : Int))).toNat) 0 5 <| kB ((v19 - (1 : Int))).toNat L1.length <| kI (v19 - (1 : Int)) (Int.ofNat ((v19 - (1 : Int))).toNat) <| kW (v19 - (1 : Int)) (v19 - (1 : Int)) <| hY g2 Zm
  refine Zeg (fun g3 => ?_) (fun g3 => ?_)
  ·
   exact Zhx (⟨4000, (Zg (oq [1, 3]) [(0, (v19 - (1 : Int))), (1, (v19 - (1 : Int)))] [(0, ((v19 - (1 : Int))).toNat), (1, ((v19 - (1 : Int))).toNat)] [(3, (RB.cel (L1.getD ((v19 - (1 : Int))).toNat RG.z))), (6, [.i (L1.getD ((v19 - (1 : Int))).toNat RG.z).a1])] []), (rg 0 23 []), [some (vp 0 0), some (vi (i64.wrap (v19 + (i64.wrap ((L1.getD ((v19 - (1 : Int))).toNat RG.z).a1 + (1 : Int))))))], _, _, by kernel_rfl, (kL RB L1 (((v19 - (1 : Int))).toNat) 1 1 <| kB ((v19 - (1 : Int))).toNat L1.length <| kI (v19 - (1 : Int)) (Int.ofNat ((v19 - (1 : Int))).toNat) <| kW (v19 - (1 : Int)) (v19 - (1 : Int)) <| hT g3 w3), rfl, by decide +kernel, by rfl, (tC (tC (tE))), (bS (hpC a0 1 L1.length 2 L2.length 3 W3) <| bR <| bR <| Zo <| bQ <| bS [vp 0 0] <| bS [vs 22 0 v21.length v21.length] <| bR <| bE)⟩)
  ·
   refine Zmm (fun z4 c4 => ?_)
   cases z4 with
   | r0 y4_0 y4_1 y4_2 =>
    refine Zeg (fun g5 => ?_) (fun _ => ZeD)
    refine Zeg (fun g6 => ?_) (fun _ => ZeD)
    refine Zmm (fun z7 c7 => ?_)
    cases z7 with
    | r0 =>
     refine Zeg (fun g8 => ?_) (fun _ => ZeD)
     exact Zhx (⟨4000, (Zg (oq [1, 2]) [(0, (v19 - (1 : Int))), (2, (v19 - (1 : Int)))] [(0, ((v19 - (1 : Int))).toNat), (1, ((v19 - (1 : Int))).toNat)] [(3, (RB.cel (L1.getD ((v19 - (1 : Int))).toNat RG.z))), (13, [.i (L1.getD ((v19 - (1 : Int))).toNat RG.z).a1])] [(1, (Zbm c4 [] 24).t), (3, .sl (v19).toNat ((i64.wrap (v19 + (L1.getD ((v19 - (1 : Int))).toNat RG.z).a1))).toNat), (4, (ZbI c7 [2] 25).t), (5, .ap 1 [vi y4_0, vi y4_1, vi (L1.getD ((v19 - (1 : Int))).toNat RG.z).a0, vi (L1.getD ((v19 - (1 : Int))).toNat RG.z).a1, vi (L1.getD ((v19 - (1 : Int))).toNat RG.z).a2, vi (L1.getD ((v19 - (1 : Int))).toNat RG.z).a3, vi (L1.getD ((v19 - (1 : Int))).toNat RG.z).a4, ms RA ((L2.drop (v19).toNat).take (((i64.wrap (v19 + (L1.getD ((v19 - (1 : Int))).toNat RG.z).a1))).toNat - (v19).toNat))] (Za RC (v21 ++ ([(⟨y4_0, y4_1, (L1.getD ((v19 - (1 : Int))).toNat RG.z).a0, (L1.getD ((v19 - (1 : Int))).toNat RG.z).a1, (L1.getD ((v19 - (1 : Int))).toNat RG.z).a2, (L1.getD ((v19 - (1 : Int))).toNat RG.z).a3, (L1.getD ((v19 - (1 : Int))).toNat RG.z).a4, ((L2.drop (v19).toNat).take (((i64.wrap (v19 + (L1.getD ((v19 - (1 : Int))).toNat RG.z).a1))).toNat - (v19).toNat))⟩ : RH)] : List RH))))]), (rg 0 22 [26]), [some (vp 0 0), some (vi (i64.wrap (v19 + (i64.wrap ((L1.getD ((v19 - (1 : Int))).toNat RG.z).a1 + (1 : Int))))))], _, _, by kernel_rfl, (kL RB L1 (((v19 - (1 : Int))).toNat) 1 1 <| kB ((v19 - (1 : Int))).toNat L1.length <| kI (v19 - (1 : Int)) (Int.ofNat ((v19 - (1 : Int))).toNat) <| kW (v19 - (1 : Int)) (v19 - (1 : Int)) <| kA RC v21 (⟨y4_0, y4_1, (L1.getD ((v19 - (1 : Int))).toNat RG.z).a0, (L1.getD ((v19 - (1 : Int))).toNat RG.z).a1, (L1.getD ((v19 - (1 : Int))).toNat RG.z).a2, (L1.getD ((v19 - (1 : Int))).toNat RG.z).a3, (L1.getD ((v19 - (1 : Int))).toNat RG.z).a4, ((L2.drop (v19).toNat).take (((i64.wrap (v19 + (L1.getD ((v19 - (1 : Int))).toNat RG.z).a1))).toNat - (v19).toNat))⟩ : RH) <| kKb (A := #[Value.slice (some ⟨2, (0 + ((v19).toNat * 2)), none⟩) (((i64.wrap (v19 + (L1.getD ((v19 - (1 : Int))).toNat RG.z).a1))).toNat - (v19).toNat) (L2.length - (v19).toNat)]) (Zgy (Zj (Zn eqA rfl rfl) rfl)) (Zdm c7 [2] 25) <| kR (Za RA L2) <| kX (dP ((v19).toNat ≤ ((i64.wrap (v19 + (L1.getD ((v19 - (1 : Int))).toNat RG.z).a1))).toNat ∧ ((i64.wrap (v19 + (L1.getD ((v19 - (1 : Int))).toNat RG.z).a1))).toNat ≤ L2.length)) true (ZaD ⟨ltA, ltA⟩) <| kI (i64.wrap (v19 + (L1.getD ((v19 - (1 : Int))).toNat RG.z).a1)) (Int.ofNat ((i64.wrap (v19 + (L1.getD ((v19 - (1 : Int))).toNat RG.z).a1))).toNat) <| kI v19 (Int.ofNat (v19).toNat) <| kK (Zdb c4 [] 24) <| hF g3 w3), rfl, by decide +kernel, by rfl, (tC (tC (tE))), (bS (hpC a0 1 L1.length 2 L2.length 3 W3) <| bR <| bR <| Zo <| bQ <| bS [vp 0 0] <| bU [vs 26 0 (v21.length + 1) (v21.length + 1)] 0 (show (vs 22 0 (v21.length + 1) (v21.length + 1) : Value) = vs 22 0 (v21 ++ ([(⟨y4_0, y4_1, (L1.getD ((v19 - (1 : Int))).toNat RG.z).a0, (L1.getD ((v19 - (1 : Int))).toNat RG.z).a1, (L1.getD ((v19 - (1 : Int))).toNat RG.z).a2, (L1.getD ((v19 - (1 : Int))).toNat RG.z).a3, (L1.getD ((v19 - (1 : Int))).toNat RG.z).a4, ((L2.drop (v19).toNat).take (((i64.wrap (v19 + (L1.getD ((v19 - (1 : Int))).toNat RG.z).a1))).toNat - (v19).toNat))⟩ : RH)] : List RH)).length (v21 ++ ([(⟨y4_0, y4_1, (L1.getD ((v19 - (1 : Int))).toNat RG.z).a0, (L1.getD ((v19 - (1 : Int))).toNat RG.z).a1, (L1.getD ((v19 - (1 : Int))).toNat RG.z).a2, (L1.getD ((v19 - (1 : Int))).toNat RG.z).a3, (L1.getD ((v19 - (1 : Int))).toNat RG.z).a4, ((L2.drop (v19).toNat).take (((i64.wrap (v19 + (L1.getD ((v19 - (1 : Int))).toNat RG.z).a1))).toNat - (v19).toNat))⟩ : RH)] : List RH)).length from Zn rfl eqA eqA) <| bR <| bE)⟩)
 ·
  exact Zhx (⟨4000, (Zg (oq [0]) [] [] [] []), (rg 0 23 []), _, _, by kernel_rfl, (hN g2 Zm), rfl, by decide +kernel, by rfl, (bS (hpC a0 1 L1.length 2 L2.length 3 W3) <| bR <| bR <| Zo <| bQ <| bS [vp 0 0] <| bS [vs 22 0 v21.length v21.length] <| bR <| bE)⟩)

theorem Zjk (a0 : Int) (L1 : List RG) (L2 : List RF) (W3 : Nat → List Int) (N : Nat) (g0 : (0 : Int) < a0) (h : Zbn (Za8 a0 L1 L2 W3 N) N (.h1m0 (1 : Int)) = some (.r0)) : LSpec Try.prog 12 #[vp 0 0] (κe a0 L1 L2 W3) (ZeJ a0 L1 L2 W3 (.r0)) (Ze1 a0 L1 L2 W3 (.r0)) := by
 refine Zoc (cs := [_, _, _]) Zq Try.func12 rfl (by kernel_rfl) (Z8 _ rfl)
  ZbC (some (.cells (hpC a0 1 L1.length 2 L2.length 3 W3) 67) :: some (κt L1) :: some (.cells (Za RA L2) 41) :: hpO W3 [some (.cells [vp 0 0] 23), some (.cells [vn] 46)]) (fu1 := 4000) (orc1 := (Zg (oq [3]) [] [] [] [])) (live1 := rg 0 22 []) (tv1 := [some (vp 20 0), some (vp 21 0), some (.func (.func 42) #[vp 0 0] #[])])
  (by kernel_rfl) (kY (a0 > (0 : Int)) Zm) rfl (by decide +kernel) (by rfl) (tC (tC (tC (tE)))) (bS (hpC a0 1 L1.length 2 L2.length 3 W3) <| bR <| bR <| Zo <| bQ <| bS [vp 0 0] <| bS [vn] <| bE)
  (Z8 _ rfl) (show 20 ≤ 22 from by decide) (fun x hx => ZB (p := fun x : Nat × Value => ZdC 22 3 x.2) (l := ZbC) (by kernel_rfl) x hx) (by repeat' (first | exact trivial | apply And.intro | exact Zak _ _ _ | rfl))
  (gf := 42) (av := #[vp 0 0]) (bv := #[]) (fun gv => by kernel_rfl) rfl Try.func42 rfl (by kernel_rfl) rfl
  (Za8 a0 L1 L2 W3 N) ZbB (ZcB a0 L1 L2 W3) (m := 23) (fun x => by cases x <;> rfl) (Z8 _ rfl) [1] (ZeK a0 L1 L2 W3 (.r0)) (Z8 _ rfl) (.r0) _ N h
  (fun gv => ⟨4000, Zg [] [] [] [] [], rg 0 22 [900000000], [some (vp 0 0), some (vi (1 : Int))], _, _, by kernel_rfl, Zm, rfl, by decide +kernel, by rfl, (tC (tC (tE))), (bS (hpC a0 1 L1.length 2 L2.length 3 W3) <| bR <| bR <| Zo <| bQ <| bS [vp 0 0] <| bS [vn] <| bN <| bE)⟩)
  (fun x o hs gv gvc => by
   cases x with
   | h1m0 v19 =>
    have hq := ZfM a0 L1 L2 W3 N v19 gv gvc _ _ _ _ _ rfl rfl rfl o hs
    cases o with
    | inl y => exact hq
    | inr r' => intro e; subst e; exact hq
   | h1m1 v19 v21 =>
    have hq := ZfN a0 L1 L2 W3 N v19 v21 gv gvc _ _ _ _ _ rfl rfl rfl o hs
    cases o with
    | inl y => exact hq
    | inr r' => intro e; subst e; exact hq) ?_
 intro gv
 exact ⟨4000, Zg [] [] [] [] [], rg 0 20 [], vn, _, _, by kernel_rfl, Zm, rfl, by decide +kernel, by rfl, ⟨by rfl, by rfl⟩, (bS (hpC a0 1 L1.length 2 L2.length 3 W3) <| bR <| bR <| Zo <| bQ <| bE)⟩

theorem Zjl (a0 : Int) (L1 : List RG) (L2 : List RF) (W3 : Nat → List Int) (N : Nat) (w19 : List RH) (g0 : (0 : Int) < a0) (h : Zbn (Za8 a0 L1 L2 W3 N) N (.h1m0 (1 : Int)) = some (.r1 w19)) : LSpec Try.prog 12 #[vp 0 0] (κe a0 L1 L2 W3) (ZeJ a0 L1 L2 W3 (.r1 w19)) (Ze1 a0 L1 L2 W3 (.r1 w19)) := by
 refine Zoc (cs := [_, _, _]) Zq Try.func12 rfl (by kernel_rfl) (Z8 _ rfl)
  ZbC (some (.cells (hpC a0 1 L1.length 2 L2.length 3 W3) 67) :: some (κt L1) :: some (.cells (Za RA L2) 41) :: hpO W3 [some (.cells [vp 0 0] 23), some (.cells [vn] 46)]) (fu1 := 4000) (orc1 := (Zg (oq [3]) [] [] [] [])) (live1 := rg 0 22 []) (tv1 := [some (vp 20 0), some (vp 21 0), some (.func (.func 42) #[vp 0 0] #[])])
  (by kernel_rfl) (kY (a0 > (0 : Int)) Zm) rfl (by decide +kernel) (by rfl) (tC (tC (tC (tE)))) (bS (hpC a0 1 L1.length 2 L2.length 3 W3) <| bR <| bR <| Zo <| bQ <| bS [vp 0 0] <| bS [vn] <| bE)
  (Z8 _ rfl) (show 20 ≤ 22 from by decide) (fun x hx => ZB (p := fun x : Nat × Value => ZdC 22 3 x.2) (l := ZbC) (by kernel_rfl) x hx) (by repeat' (first | exact trivial | apply And.intro | exact Zak _ _ _ | rfl))
  (gf := 42) (av := #[vp 0 0]) (bv := #[]) (fun gv => by kernel_rfl) rfl Try.func42 rfl (by kernel_rfl) rfl
  (Za8 a0 L1 L2 W3 N) ZbB (ZcB a0 L1 L2 W3) (m := 23) (fun x => by cases x <;> rfl) (Z8 _ rfl) [1] (ZeK a0 L1 L2 W3 (.r1 w19)) (Z8 _ rfl) (.r1 w19) _ N h
  (fun gv => ⟨4000, Zg [] [] [] [] [], rg 0 22 [900000000], [some (vp 0 0), some (vi (1 : Int))], _, _, by kernel_rfl, Zm, rfl, by decide +kernel, by rfl, (tC (tC (tE))), (bS (hpC a0 1 L1.length 2 L2.length 3 W3) <| bR <| bR <| Zo <| bQ <| bS [vp 0 0] <| bS [vn] <| bN <| bE)⟩)
  (fun x o hs gv gvc => by
   cases x with
   | h1m0 v19 =>
    have hq := ZfM a0 L1 L2 W3 N v19 gv gvc _ _ _ _ _ rfl rfl rfl o hs
    cases o with
    | inl y => exact hq
    | inr r' => intro e; subst e; exact hq
   | h1m1 v19 v21 =>
    have hq := ZfN a0 L1 L2 W3 N v19 v21 gv gvc _ _ _ _ _ rfl rfl rfl o hs
    cases o with
    | inl y => exact hq
    | inr r' => intro e; subst e; exact hq) ?_
 intro gv
 exact ⟨4000, Zg [] [] [] [] [], rg 0 20 [22], vs 22 0 w19.length w19.length, _, _, by kernel_rfl, Zm, rfl, by decide +kernel, by rfl, ⟨by rfl, by rfl⟩, (bS (hpC a0 1 L1.length 2 L2.length 3 W3) <| bR <| bR <| Zo <| bQ <| bR <| bE)⟩

theorem Zit (a0 : Int) (L1 : List RG) (L2 : List RF) (W3 : Nat → List Int) (N : Nat) (r : heap_Heap_ObjectsR) (h : Za9 a0 L1 L2 W3 N = some r) : LSpec Try.prog 12 #[vp 0 0] (κe a0 L1 L2 W3) (ZeJ a0 L1 L2 W3 r) (Ze1 a0 L1 L2 W3 r) := by
 unfold Za9 ZeI at h
 by_cases g0 : (0 : Int) < a0
 · rw [if_pos g0] at h
   have h : Zbn (Za8 a0 L1 L2 W3 N) N (.h1m0 (1 : Int)) = some r := h
   cases r with
   | r0 => exact Zjk a0 L1 L2 W3 N g0 h
   | r1 w19 => exact Zjl a0 L1 L2 W3 N w19 g0 h
 · rw [if_neg g0] at h
   obtain rfl : heap_Heap_ObjectsR.r0 = r := Option.some.inj h
   exact Zsv Zq Try.func12 rfl (orc := (Zg (oq [2]) [] [] [] [])) (live := (rg 0 20 [])) (u := (vn)) (kN (a0 > (0 : Int)) Zm) ⟨by rfl, by rfl⟩ (bS (hpC a0 1 L1.length 2 L2.length 3 W3) <| bR <| bR <| Zo <| bQ <| bE) (by kernel_rfl) (Z8 _ rfl) rfl (by decide +kernel) (by rfl)

theorem Zfz (a0 : Int) (L1 : List RG) (L2 : List RF) (W3 : Nat → List Int) (N : Nat) (r : heap_Heap_ObjectsR) (h : Za9 a0 L1 L2 W3 N = some r) : LSpec Try.prog 12 #[vp 0 0] (κe a0 L1 L2 W3) (ZlW a0 L1 L2 W3 r) (ZkQ a0 L1 L2 W3 r) := by
 have h0 := Zit a0 L1 L2 W3 N r h
 cases r with
 | r0 => exact (LSpec.nlv (v2 := ms RC ([] : List RH)) h0 rfl rfl)
 | r1 w19 => exact (LSpec.frzv (E := RC) (L := w19) (post := (κn a0 L1 L2 W3)) (v2 := ms RC w19) h0 (show 20 ≤ 20 from by decide) (show 20 < 1000000000 from by decide) ⟨rfl, ⟨(Zak _ _ _), ⟨(Zak _ _ _), ⟨(Zak _ _ _), ⟨(Zak _ _ _), ⟨(Zak _ _ _), ⟨(Zak _ _ _), ⟨(Zak _ _ _), ⟨(Zak _ _ _), ⟨(Zak _ _ _), ⟨(Zak _ _ _), ⟨(Zak _ _ _), ⟨(Zak _ _ _), ⟨(Zak _ _ _), ⟨(Zak _ _ _), ⟨(Zak _ _ _), ⟨(Zak _ _ _), ⟨(Zak _ _ _), ⟨(Zak _ _ _), ⟨(Zak _ _ _), trivial⟩⟩⟩⟩⟩⟩⟩⟩⟩⟩⟩⟩⟩⟩⟩⟩⟩⟩⟩⟩ rfl rfl rfl)

noncomputable def ZX {a0 : Int} {L1 : List RG} {L2 : List RF} {W3 : Nat → List Int} {N : Nat} (h : Za9 a0 L1 L2 W3 N = some (.r0)) (ks : List Nat) (n : Nat) : ToldS := ⟨#[vp (nth ks 0) 0], (κo ks a0 L1 L2 W3), ms RC ([] : List RH), [], 0⟩

theorem ZkR {a0 : Int} {L1 : List RG} {L2 : List RF} {W3 : Nat → List Int} {N : Nat} (h : Za9 a0 L1 L2 W3 N = some (.r0)) (ks : List Nat) (n : Nat) (hk : ks.length = 20 := by rfl) (hnd : ks.Nodup := by decide +kernel) (hlt : ∀ k ∈ ks, k < n := by decide +kernel) : (ZX (N := N)  h ks n).P Try.prog 12 n :=
 match ks, hk, hnd, hlt with
 | [k0, k1, k2, k3, k4, k5, k6, k7, k8, k9, k10, k11, k12, k13, k14, k15, k16, k17, k18, k19], _, hnd, hlt => ZW (show LSpec Try.prog 12 #[vp 0 0] (κe a0 L1 L2 W3) (ms RC ([] : List RH)) (κn a0 L1 L2 W3) from Zfz a0 L1 L2 W3 N _ h) _ n [] hnd hlt

noncomputable def ZY {a0 : Int} {L1 : List RG} {L2 : List RF} {W3 : Nat → List Int} {w19 : List RH} {N : Nat} (h : Za9 a0 L1 L2 W3 N = some (.r1 w19)) (ks : List Nat) (n : Nat) : ToldS := ⟨#[vp (nth ks 0) 0], (κo ks a0 L1 L2 W3), ms RC w19, [], 0⟩

theorem ZkS {a0 : Int} {L1 : List RG} {L2 : List RF} {W3 : Nat → List Int} {w19 : List RH} {N : Nat} (h : Za9 a0 L1 L2 W3 N = some (.r1 w19)) (ks : List Nat) (n : Nat) (hk : ks.length = 20 := by rfl) (hnd : ks.Nodup := by decide +kernel) (hlt : ∀ k ∈ ks, k < n := by decide +kernel) : (ZY (N := N)  h ks n).P Try.prog 12 n :=
 match ks, hk, hnd, hlt with
 | [k0, k1, k2, k3, k4, k5, k6, k7, k8, k9, k10, k11, k12, k13, k14, k15, k16, k17, k18, k19], _, hnd, hlt => ZW (show LSpec Try.prog 12 #[vp 0 0] (κe a0 L1 L2 W3) (ms RC w19) (κn a0 L1 L2 W3) from Zfz a0 L1 L2 W3 N _ h) _ n [] hnd hlt

end Ev
end Go.Proofs.Ytomkpfibofpkbaa
namespace Go.Proofs.Ytomkpfibofpkbaa
open Go.RowKit
namespace Ev
set_option linter.unusedVariables false
set_option maxRecDepth 100000
set_option maxHeartbeats 4000000
noncomputable def ZiM (a0 : Int) (L1 : List RI) (L2 : List Int) : Zap → Value
 | .r0 => vn
 | .r1 w0 => vs 0 0 w0.length w0.length
noncomputable def Zim (a0 : Int) (L1 : List RI) (L2 : List Int) : Zap → List (Option AObj)
 | .r0 => []
 | .r1 w0 => [some (.cells (Za RC w0) 52)]

noncomputable def Zpa (a0 : Int) (L1 : List RI) (L2 : List Int) : Zap → Value
 | .r0 => ms RC ([] : List RH)
 | .r1 w0 => ms RC w0
noncomputable def Zow (a0 : Int) (L1 : List RI) (L2 : List Int) : Zap → List (Option AObj)
 | .r0 => []
 | .r1 w0 => []

def Zox : ZE → Nat
 | .h1m0 v0 => 1
 | .h1m1 v0 v1 => 1
noncomputable def Zpb (a0 : Int) (L1 : List RI) (L2 : List Int) : ZE → List (Nat × Value)
 | .h1m0 v0 => [(1, vp 0 0), (3, vn), (4, vi (v0 : Int))]
 | .h1m1 v0 v1 => [(1, vp 0 0), (3, vs 1 0 v0.length v0.length), (4, vi (v1 : Int))]
noncomputable def Zpc (a0 : Int) (L1 : List RI) (L2 : List Int) : ZE → List (Option AObj)
 | .h1m0 v0 => [some (.cells (κx a0 L1 L2) 30)]
 | .h1m1 v0 v1 => [some (.cells (κx a0 L1 L2) 30), some (.cells (Za RC v0) 52)]

noncomputable def Zcy : Nat → Code × List ZaK
 | 1 => Zc4 [1, 1, 0, 1, 3] (Zer Try.f38) []
 | _ => (.skip, [])
def ZiN : Nat → Bool
 | 1 => true
 | _ => true
noncomputable def Zfo (i : Nat) : List ZaK := match ZiN i with | true => .rnd i :: (Zcy i).2 | false => (Zcy i).2

noncomputable def ZbX (a0 : Int) (L1 : List RI) (L2 : List Int) (N : Nat) : Mach := ⟨Try.f38, [], ZE, Zap, Zb1 a0 L1 L2 N, Zox, Zcy, ZiN, Zpb a0 L1 L2, Zpc a0 L1 L2, ZiM a0 L1 L2, Zim a0 L1 L2⟩

theorem ZkT (a0 : Int) (L1 : List RI) (L2 : List Int) (v0 N : Nat) : (ZbX a0 L1 L2 N).Ok Try.prog Z1 (.h1m0 v0 : ZE) (Zb1 a0 L1 L2 N (.h1m0 v0 : ZE)) := by
 show (ZbX a0 L1 L2 N).Ok Try.prog Z1 (.h1m0 v0 : ZE) (Zc6 a0 L1 L2 N v0)
 unfold Zc6
 refine Mach.ok_ite (fun g0 => ?_) (fun g0 => ?_)
 ·
  have w1 := kG RD L1 ((((0 + (v0 * 9)) + 1) + 2) + 3) v0 6 1 9 <| kB v0 L1.length <| kI (v0 : Int) (Int.ofNat v0) <| hY g0 Zm
  refine Mach.ok_ite (fun g1 => ?_) (fun g1 => ?_)
  ·
   refine Mach.ok_ite (fun g2 => ?_) (fun _ => Mach.ok_none)
   exact Mach.okN (Zg (oq [1, 3]) [(0, (((v0 + 1) : Nat) : Int))] [(0, v0), (1, v0)] [(2, [.i (L1.getD v0 RI.z).a6]), (4, [.i (L1.getD v0 RI.z).a1, .i (L1.getD v0 RI.z).a2, .i (L1.getD v0 RI.z).a3, .i (L1.getD v0 RI.z).a4, .i (L1.getD v0 RI.z).a5, .i (L1.getD v0 RI.z).a6, .i (L1.getD v0 RI.z).a7, (mc RA (L1.getD v0 RI.z).a8)])] []) [0, 2] [some (vp 0 0), some (vs 2 0 1 1), some (vi (((v0 + 1) : Nat) : Int))] (kW ((v0 : Int) + (1 : Int)) (((v0 + 1) : Nat) : Int) <| kG RD L1 ((0 + (v0 * 9)) + 1) v0 1 8 9 <| kB v0 L1.length <| kI (v0 : Int) (Int.ofNat v0) <| hD g1 w1) (tC (tC (tC (tE)) ⟨Eq.trans (show (vs 1 0 ([(⟨(L1.getD v0 RI.z).a1, (L1.getD v0 RI.z).a2, (L1.getD v0 RI.z).a3, (L1.getD v0 RI.z).a4, (L1.getD v0 RI.z).a5, (L1.getD v0 RI.z).a6, (L1.getD v0 RI.z).a7, (L1.getD v0 RI.z).a8⟩ : RH)] : List RH).length ([(⟨(L1.getD v0 RI.z).a1, (L1.getD v0 RI.z).a2, (L1.getD v0 RI.z).a3, (L1.getD v0 RI.z).a4, (L1.getD v0 RI.z).a5, (L1.getD v0 RI.z).a6, (L1.getD v0 RI.z).a7, (L1.getD v0 RI.z).a8⟩ : RH)] : List RH).length : Value) = vs 1 0 1 1 from (Zn rfl eqA eqA)) (by rfl), by rfl⟩)) (bS (κx a0 L1 L2) <| bC (o := .cells [vi (L1.getD v0 RI.z).a1, vi (L1.getD v0 RI.z).a2, vi (L1.getD v0 RI.z).a3, vi (L1.getD v0 RI.z).a4, vi (L1.getD v0 RI.z).a5, vi (L1.getD v0 RI.z).a6, vi (L1.getD v0 RI.z).a7, ms RA (L1.getD v0 RI.z).a8] 52) (Zet (E := RC) _ (L := ([(⟨(L1.getD v0 RI.z).a1, (L1.getD v0 RI.z).a2, (L1.getD v0 RI.z).a3, (L1.getD v0 RI.z).a4, (L1.getD v0 RI.z).a5, (L1.getD v0 RI.z).a6, (L1.getD v0 RI.z).a7, (L1.getD v0 RI.z).a8⟩ : RH)] : List RH)) _ (show ([vi (L1.getD v0 RI.z).a1, vi (L1.getD v0 RI.z).a2, vi (L1.getD v0 RI.z).a3, vi (L1.getD v0 RI.z).a4, vi (L1.getD v0 RI.z).a5, vi (L1.getD v0 RI.z).a6, vi (L1.getD v0 RI.z).a7, ms RA (L1.getD v0 RI.z).a8] : List Value) = Za RC ([(⟨(L1.getD v0 RI.z).a1, (L1.getD v0 RI.z).a2, (L1.getD v0 RI.z).a3, (L1.getD v0 RI.z).a4, (L1.getD v0 RI.z).a5, (L1.getD v0 RI.z).a6, (L1.getD v0 RI.z).a7, (L1.getD v0 RI.z).a8⟩ : RH)] : List RH) from rfl)) <| bE) (show 1 ∈ ZZ (Zfo 1) from by decide +kernel)
  ·
   refine Mach.ok_ite (fun g2 => ?_) (fun _ => Mach.ok_none)
   exact Mach.okN (Zg (oq [1, 2]) [(0, (((v0 + 1) : Nat) : Int))] [(0, v0)] [(2, [.i (L1.getD v0 RI.z).a6])] []) [0] [some (vp 0 0), some (vn), some (vi (((v0 + 1) : Nat) : Int))] (kW ((v0 : Int) + (1 : Int)) (((v0 + 1) : Nat) : Int) <| kE ((L1.getD v0 RI.z).a6) (0 : Int) w1) (tC (tC (tC (tE)))) (bS (κx a0 L1 L2) <| bE) (show 1 ∈ ZZ (Zfo 1) from by decide +kernel)
 ·
  exact Mach.okF (Zg (oq [0]) [] [] [] []) [] (vn) (hN g0 Zm) bE

theorem ZkU (a0 : Int) (L1 : List RI) (L2 : List Int) (v0 : List RH) (v1 N : Nat) : (ZbX a0 L1 L2 N).Ok Try.prog Z1 (.h1m1 v0 v1 : ZE) (Zb1 a0 L1 L2 N (.h1m1 v0 v1 : ZE)) := by
 show (ZbX a0 L1 L2 N).Ok Try.prog Z1 (.h1m1 v0 v1 : ZE) (Zc7 a0 L1 L2 N v0 v1)
 unfold Zc7
 refine Mach.ok_ite (fun g0 => ?_) (fun g0 => ?_)
 ·
  have w1 := kG RD L1 ((((0 + (v1 * 9)) + 1) + 2) + 3) v1 6 1 9 <| kB v1 L1.length <| kI (v1 : Int) (Int.ofNat v1) <| hY g0 Zm
  refine Mach.ok_ite (fun g1 => ?_) (fun g1 => ?_)
  ·
   refine Mach.ok_ite (fun g2 => ?_) (fun _ => Mach.ok_none)
   refine Mach.ok_ite (fun g3 => ?_) (fun _ => Mach.ok_none)
   exact Mach.okN (Zg (oq [1, 3]) [(0, (((v1 + 1) : Nat) : Int))] [(0, v1), (1, v1)] [(2, [.i (L1.getD v1 RI.z).a6]), (4, [.i (L1.getD v1 RI.z).a1, .i (L1.getD v1 RI.z).a2, .i (L1.getD v1 RI.z).a3, .i (L1.getD v1 RI.z).a4, .i (L1.getD v1 RI.z).a5, .i (L1.getD v1 RI.z).a6, .i (L1.getD v1 RI.z).a7, (mc RA (L1.getD v1 RI.z).a8)])] [(0, .ap 1 [vi (L1.getD v1 RI.z).a1, vi (L1.getD v1 RI.z).a2, vi (L1.getD v1 RI.z).a3, vi (L1.getD v1 RI.z).a4, vi (L1.getD v1 RI.z).a5, vi (L1.getD v1 RI.z).a6, vi (L1.getD v1 RI.z).a7, ms RA (L1.getD v1 RI.z).a8] (Za RC (v0 ++ ([(⟨(L1.getD v1 RI.z).a1, (L1.getD v1 RI.z).a2, (L1.getD v1 RI.z).a3, (L1.getD v1 RI.z).a4, (L1.getD v1 RI.z).a5, (L1.getD v1 RI.z).a6, (L1.getD v1 RI.z).a7, (L1.getD v1 RI.z).a8⟩ : RH)] : List RH))))]) [0, 3] [some (vp 0 0), some (vs 3 0 (v0.length + 1) (v0.length + 1)), some (vi (((v1 + 1) : Nat) : Int))] (kW ((v1 : Int) + (1 : Int)) (((v1 + 1) : Nat) : Int) <| kA RC v0 (⟨(L1.getD v1 RI.z).a1, (L1.getD v1 RI.z).a2, (L1.getD v1 RI.z).a3, (L1.getD v1 RI.z).a4, (L1.getD v1 RI.z).a5, (L1.getD v1 RI.z).a6, (L1.getD v1 RI.z).a7, (L1.getD v1 RI.z).a8⟩ : RH) <| kG RD L1 ((0 + (v1 * 9)) + 1) v1 1 8 9 <| kB v1 L1.length <| kI (v1 : Int) (Int.ofNat v1) <| hD g1 w1) (tC (tC (tC (tE)) ⟨Eq.trans (show (vs 1 0 (v0 ++ ([(⟨(L1.getD v1 RI.z).a1, (L1.getD v1 RI.z).a2, (L1.getD v1 RI.z).a3, (L1.getD v1 RI.z).a4, (L1.getD v1 RI.z).a5, (L1.getD v1 RI.z).a6, (L1.getD v1 RI.z).a7, (L1.getD v1 RI.z).a8⟩ : RH)] : List RH)).length (v0 ++ ([(⟨(L1.getD v1 RI.z).a1, (L1.getD v1 RI.z).a2, (L1.getD v1 RI.z).a3, (L1.getD v1 RI.z).a4, (L1.getD v1 RI.z).a5, (L1.getD v1 RI.z).a6, (L1.getD v1 RI.z).a7, (L1.getD v1 RI.z).a8⟩ : RH)] : List RH)).length : Value) = vs 1 0 (v0.length + 1) (v0.length + 1) from (Zn rfl eqA eqA)) (by rfl), by rfl⟩)) (bS (κx a0 L1 L2) <| bR <| bE) (show 1 ∈ ZZ (Zfo 1) from by decide +kernel)
  ·
   refine Mach.ok_ite (fun g2 => ?_) (fun _ => Mach.ok_none)
   exact Mach.okN (Zg (oq [1, 2]) [(0, (((v1 + 1) : Nat) : Int))] [(0, v1)] [(2, [.i (L1.getD v1 RI.z).a6])] []) [0, 1] [some (vp 0 0), some (vs 1 0 v0.length v0.length), some (vi (((v1 + 1) : Nat) : Int))] (kW ((v1 : Int) + (1 : Int)) (((v1 + 1) : Nat) : Int) <| kE ((L1.getD v1 RI.z).a6) (0 : Int) w1) (tC (tC (tC (tE)))) (bS (κx a0 L1 L2) <| bR <| bE) (show 1 ∈ ZZ (Zfo 1) from by decide +kernel)
 ·
  exact Mach.okF (Zg (oq [0]) [] [] [] []) [1] (vs 1 0 v0.length v0.length) (hN g0 Zm) (bR <| bE)

theorem Znx (a0 : Int) (L1 : List RI) (L2 : List Int) (N : Nat) : (ZbX a0 L1 L2 N).Enter Try.prog Z1 #[Value.agg (κc a0 L1 L2)] (Zge a0 L1 L2 N) := by
 unfold Zge
 exact Mach.en_head (bK := Zcy 1) (M := ZbX a0 L1 L2 N) (cd := 1000000) (cm := 0) (y := (.h1m0 (0) : ZE)) (fu := 4000) (orc := (Zg (oq []) [] [] [] [])) (live := [0]) (tv := [some (vp 0 0), some (vn), some (vq)]) (bl := [some (.cells (κx a0 L1 L2) 30)]) rfl rfl (show ZZ (Zcy 1).2 = [] from rfl) (by kernel_rfl) Zm rfl (by decide +kernel) (by rfl) ⟨rr, ⟨rr, ⟨⟨Eq.trans (show (vi ((0 : Nat) : Int) : Value) = vq from (congrArg (Value.int .i64) (by first | rfl | omega))) (by rfl), by rfl⟩, trivial⟩⟩⟩ ⟨sm, trivial⟩

theorem ZkV (a0 : Int) (L1 : List RI) (L2 : List Int) (N : Nat) (r : Zap) (h : Zbv a0 L1 L2 N = some r) : LSpec Try.prog 38 #[Value.agg (κc a0 L1 L2)] [] (ZiM a0 L1 L2 r) (Zim a0 L1 L2 r) :=
 Mach.spec Zq (ZbX a0 L1 L2 N) Try.func38 (by kernel_rfl) (by kernel_rfl) (fun x => by cases x <;> exact Z8 _ rfl) (fun r => by cases r <;> exact Z8 _ rfl) (fun x => by
  cases x with
  | h1m0 _ => exact fun _ => (show ¬ (1 ∈ ZZ (Zcy 1).2) from by decide +kernel)
  | h1m1 _ _ => exact fun _ => (show ¬ (1 ∈ ZZ (Zcy 1).2) from by decide +kernel)
  ) (fun x => (show (ZbX a0 L1 L2 N).Ok Try.prog Z1 x (Zb1 a0 L1 L2 N x) from by
  cases x with
  | h1m0 v0 => exact ZkT a0 L1 L2 v0 N
  | h1m1 v0 v1 => exact ZkU a0 L1 L2 v0 v1 N
  )) (Znx a0 L1 L2 N) (n := N) h

theorem ZgS (a0 : Int) (L1 : List RI) (L2 : List Int) (N : Nat) (r : Zap) (h : Zbv a0 L1 L2 N = some r) : LSpec Try.prog 38 #[Value.agg (κc a0 L1 L2)] [] (Zpa a0 L1 L2 r) (Zow a0 L1 L2 r) := by
 have h0 := ZkV a0 L1 L2 N r h
 cases r with
 | r0 => exact (LSpec.nlv (v2 := ms RC ([] : List RH)) h0 rfl rfl)
 | r1 w0 => exact (LSpec.frzv (E := RC) (L := w0) (post := []) (v2 := ms RC w0) h0 (show 0 ≤ 0 from by decide) (show 0 < 1000000000 from by decide) trivial rfl rfl rfl)

noncomputable def Zaz {a0 : Int} {L1 : List RI} {L2 : List Int} {N : Nat} (h : Zbv a0 L1 L2 N = some (.r0)) (ks : List Nat) (n : Nat) : ToldS := ⟨#[Value.agg (κc a0 L1 L2)], [], ms RC ([] : List RH), [], 0⟩

theorem ZiO {a0 : Int} {L1 : List RI} {L2 : List Int} {N : Nat} (h : Zbv a0 L1 L2 N = some (.r0)) (ks : List Nat) (n : Nat) (hk : ks.length = 0 := by rfl) (hnd : ks.Nodup := by decide +kernel) (hlt : ∀ k ∈ ks, k < n := by decide +kernel) : (Zaz (N := N)  h ks n).P Try.prog 38 n :=
 match ks, hk, hnd, hlt with
 | [], _, hnd, hlt => ZW (show LSpec Try.prog 38 #[Value.agg (κc a0 L1 L2)] [] (ms RC ([] : List RH)) [] from ZgS a0 L1 L2 N _ h) _ n [] hnd hlt

noncomputable def Za0 {a0 : Int} {L1 : List RI} {L2 : List Int} {w0 : List RH} {N : Nat} (h : Zbv a0 L1 L2 N = some (.r1 w0)) (ks : List Nat) (n : Nat) : ToldS := ⟨#[Value.agg (κc a0 L1 L2)], [], ms RC w0, [], 0⟩

theorem ZiP {a0 : Int} {L1 : List RI} {L2 : List Int} {w0 : List RH} {N : Nat} (h : Zbv a0 L1 L2 N = some (.r1 w0)) (ks : List Nat) (n : Nat) (hk : ks.length = 0 := by rfl) (hnd : ks.Nodup := by decide +kernel) (hlt : ∀ k ∈ ks, k < n := by decide +kernel) : (Za0 (N := N)  h ks n).P Try.prog 38 n :=
 match ks, hk, hnd, hlt with
 | [], _, hnd, hlt => ZW (show LSpec Try.prog 38 #[Value.agg (κc a0 L1 L2)] [] (ms RC w0) [] from ZgS a0 L1 L2 N _ h) _ n [] hnd hlt

noncomputable def ZmQ (L0 L1 : List RF) : ZbH → Value
 | .r0 w0 => Value.bool w0
noncomputable def ZlX (L0 L1 : List RF) : ZbH → List (Option AObj)
 | .r0 w0 => []

def ZrF : ZaW → Nat
 | .h1m0 v2 => 1
noncomputable def Zsw (L0 L1 : List RF) : ZaW → List (Nat × Value)
 | .h1m0 v2 => [(0, ms RA L0), (1, ms RA L1), (5, vi (v2 : Int))]
noncomputable def Zsx (L0 L1 : List RF) : ZaW → List (Option AObj)
 | .h1m0 v2 => []

noncomputable def ZeE : Nat → Code × List ZaK
 | 1 => Zc4 [1, 1, 0, 1, 3] (Zer Try.f64) []
 | _ => (.skip, [])
def ZlY : Nat → Bool
 | 1 => true
 | _ => true
noncomputable def Zsy (i : Nat) : List ZaK := match ZlY i with | true => .rnd i :: (ZeE i).2 | false => (ZeE i).2

noncomputable def ZeF (L0 L1 : List RF) (N : Nat) : Mach := ⟨Try.f64, [], ZaW, ZbH, Zec L0 L1 N, ZrF, ZeE, ZlY, Zsw L0 L1, Zsx L0 L1, ZmQ L0 L1, ZlX L0 L1⟩

theorem Zny (L0 L1 : List RF) (v2 N : Nat) : (ZeF L0 L1 N).Ok Try.prog Z1 (.h1m0 v2 : ZaW) (Zec L0 L1 N (.h1m0 v2 : ZaW)) := by
 show (ZeF L0 L1 N).Ok Try.prog Z1 (.h1m0 v2 : ZaW) (ZdH L0 L1 N v2)
 unfold ZdH
 refine Mach.ok_ite (fun g0 => ?_) (fun g0 => ?_)
 ·
  have w1 := kG RA L0 (0 + (v2 * 2)) v2 0 2 2 <| kB v2 L0.length <| kI (v2 : Int) (Int.ofNat v2) <| hY g0 Zm
  refine Mach.ok_ite (fun g1 => ?_) (fun _ => Mach.ok_none)
  have w2 := kG RA L1 (0 + (v2 * 2)) v2 0 2 2 <| kB v2 L1.length <| kI (v2 : Int) (Int.ofNat v2) w1
  refine Mach.ok_ite (fun g2 => ?_) (fun g2 => ?_)
  ·
   exact Mach.okF (Zg (oq [1, 3]) [] [(0, v2), (1, v2)] [(0, (RA.cel (L0.getD v2 RF.z))), (1, (RA.cel (L1.getD v2 RF.z)))] []) [] (vf) (kX ((!(((L0.getD v2 RF.z).a0 == (L1.getD v2 RF.z).a0) && (((L0.getD v2 RF.z).a1 == (L1.getD v2 RF.z).a1) && true)))) true (by rw [Bool.not_eq_true']; exact Bool.eq_false_iff.2 (by simp only [ne_eq, Bool.and_true, Bool.and_eq_true, beq_iff_eq]; first | omega | (intro hh; simp_all; done) | (intro hh; grind))) w2) bE
  ·
   refine Mach.ok_ite (fun g3 => ?_) (fun _ => Mach.ok_none)
   exact Mach.okN (Zg (oq [1, 2]) [(0, (((v2 + 1) : Nat) : Int))] [(0, v2), (1, v2)] [(0, (RA.cel (L0.getD v2 RF.z))), (1, (RA.cel (L1.getD v2 RF.z)))] []) [] [some (ms RA L0), some (ms RA L1), some (vi (((v2 + 1) : Nat) : Int))] (kW ((v2 : Int) + (1 : Int)) (((v2 + 1) : Nat) : Int) <| kX ((!(((L0.getD v2 RF.z).a0 == (L1.getD v2 RF.z).a0) && (((L0.getD v2 RF.z).a1 == (L1.getD v2 RF.z).a1) && true)))) false (by rw [Bool.not_eq_false']; first | (simp only [beq_self_eq_true, Bool.and_self]; done) | (simp only [Bool.and_true, Bool.and_eq_true, beq_iff_eq] <;> first | omega | (simp_all; done) | grind)) w2) (tC (tC (tC (tE)))) bE (show 1 ∈ ZZ (Zsy 1) from by decide +kernel)
 ·
  exact Mach.okF (Zg (oq [0]) [] [] [] []) [] (vT) (hN g0 Zm) bE

theorem Zqd (L0 L1 : List RF) (N : Nat) : (ZeF L0 L1 N).Enter Try.prog Z1 #[ms RA L0, ms RA L1] (ZhT L0 L1 N) := by
 unfold ZhT
 refine Mach.en_ite (fun g0 => ?_) (fun g0 => ?_)
 ·
  exact Mach.enF (Zg (oq [1]) [] [] [] []) [] (vf) (hD g0 Zm) bE
 ·
  exact Mach.en_head (bK := ZeE 1) (M := ZeF L0 L1 N) (cd := 1000000) (cm := 0) (y := (.h1m0 (0) : ZaW)) (fu := 4000) (orc := (Zg (oq [0]) [] [] [] [])) (live := []) (tv := [some (ms RA L0), some (ms RA L1), some (vq)]) (bl := []) rfl rfl (show ZZ (ZeE 1).2 = [] from rfl) (by kernel_rfl) (kE (L0.length : Int) (L1.length : Int) Zm) rfl (by decide +kernel) (by rfl) ⟨rr, ⟨rr, ⟨⟨Eq.trans (show (vi ((0 : Nat) : Int) : Value) = vq from (congrArg (Value.int .i64) (by first | rfl | omega))) (by rfl), by rfl⟩, trivial⟩⟩⟩ trivial

theorem Zoy (L0 L1 : List RF) (N : Nat) (r : ZbH) (h : Zgf L0 L1 N = some r) : LSpec Try.prog 64 #[ms RA L0, ms RA L1] [] (ZmQ L0 L1 r) (ZlX L0 L1 r) :=
 Mach.spec Zq (ZeF L0 L1 N) Try.func64 (by kernel_rfl) (by kernel_rfl) (fun x => by cases x <;> exact Z8 _ rfl) (fun r => by cases r <;> exact Z8 _ rfl) (fun x => by
  cases x with
  | h1m0 _ => exact fun _ => (show ¬ (1 ∈ ZZ (ZeE 1).2) from by decide +kernel)
  ) (fun x => (show (ZeF L0 L1 N).Ok Try.prog Z1 x (Zec L0 L1 N x) from by
  cases x with
  | h1m0 v2 => exact Zny L0 L1 v2 N
  )) (Zqd L0 L1 N) (n := N) h

noncomputable def Zin {L0 : List RF} {L1 : List RF} {w0 : Bool} {N : Nat} (h : Zgf L0 L1 N = some (.r0 w0)) (ks : List Nat) (n : Nat) : ToldS := ⟨#[ms RA L0, ms RA L1], [], Value.bool w0, [], 0⟩

theorem ZlZ {L0 : List RF} {L1 : List RF} {w0 : Bool} {N : Nat} (h : Zgf L0 L1 N = some (.r0 w0)) (ks : List Nat) (n : Nat) (hk : ks.length = 0 := by rfl) (hnd : ks.Nodup := by decide +kernel) (hlt : ∀ k ∈ ks, k < n := by decide +kernel) : (Zin (N := N)  h ks n).P Try.prog 64 n :=
 match ks, hk, hnd, hlt with
 | [], _, hnd, hlt => ZW (show LSpec Try.prog 64 #[ms RA L0, ms RA L1] [] (Value.bool w0) [] from Zoy L0 L1 N _ h) _ n [] hnd hlt

noncomputable def ZjL (L0 L1 : List RH) : Za4 → Value
 | .r0 w0 => Value.bool w0
noncomputable def ZiQ (L0 L1 : List RH) : Za4 → List (Option AObj)
 | .r0 w0 => []

def Zoz : Zay → Nat
 | .h1m0 v2 => 1
noncomputable def Zpd (L0 L1 : List RH) : Zay → List (Nat × Value)
 | .h1m0 v2 => [(0, ms RC L0), (1, ms RC L1), (5, vi (v2 : Int))]
noncomputable def Zpe (L0 L1 : List RH) : Zay → List (Option AObj)
 | .h1m0 v2 => []

noncomputable def Zdp : Nat → Code × List ZaK
 | 1 => Zc4 [1, 1, 0, 1, 3] (Zer Try.f20) []
 | _ => (.skip, [])
def ZiR : Nat → Bool
 | 1 => true
 | _ => true
noncomputable def Zpf (i : Nat) : List ZaK := match ZiR i with | true => .rnd i :: (Zdp i).2 | false => (Zdp i).2

noncomputable def Zdq (L0 L1 : List RH) (N : Nat) : Mach := ⟨Try.f20, [], Zay, Za4, ZcX L0 L1 N, Zoz, Zdp, ZiR, Zpd L0 L1, Zpe L0 L1, ZjL L0 L1, ZiQ L0 L1⟩

theorem ZkW (L0 L1 : List RH) (v2 N : Nat) : (Zdq L0 L1 N).Ok Try.prog Z1 (.h1m0 v2 : Zay) (ZcX L0 L1 N (.h1m0 v2 : Zay)) := by
 show (Zdq L0 L1 N).Ok Try.prog Z1 (.h1m0 v2 : Zay) (Zc8 L0 L1 N v2)
 unfold Zc8
 refine Mach.ok_ite (fun g0 => ?_) (fun g0 => ?_)
 ·
  have w1 := kG RC L0 (0 + (v2 * 8)) v2 0 8 8 <| kB v2 L0.length <| kI (v2 : Int) (Int.ofNat v2) <| hY g0 Zm
  refine Mach.ok_ite (fun g1 => ?_) (fun _ => Mach.ok_none)
  have w2 := kG RC L1 (0 + (v2 * 8)) v2 0 8 8 <| kB v2 L1.length <| kI (v2 : Int) (Int.ofNat v2) w1
  refine Mach.ok_ite (fun g2 => ?_) (fun g2 => ?_)
  ·
   have w3 := kZ (((L0.getD v2 RH.z).a0 == (L1.getD v2 RH.z).a0) && (((L0.getD v2 RH.z).a1 == (L1.getD v2 RH.z).a1) && true)) w2
   refine Mach.ok_ite (fun g3 => ?_) (fun g3 => ?_)
   ·
    have w4 := kZ (((L0.getD v2 RH.z).a2 == (L1.getD v2 RH.z).a2) && (((L0.getD v2 RH.z).a3 == (L1.getD v2 RH.z).a3) && (((L0.getD v2 RH.z).a4 == (L1.getD v2 RH.z).a4) && (((L0.getD v2 RH.z).a5 == (L1.getD v2 RH.z).a5) && (((L0.getD v2 RH.z).a6 == (L1.getD v2 RH.z).a6) && true))))) w3
    refine Mach.ok_bind (fun z4 c4 => ?_)
    cases z4 with
    | r0 y4_0 =>
     refine Mach.ok_ite (fun g5 => ?_) (fun g5 => ?_)
     ·
      exact Mach.okF (Zg (oq [1, 3, 5, 7]) [] [(0, v2), (1, v2)] [(0, (RC.cel (L0.getD v2 RH.z))), (1, (RC.cel (L1.getD v2 RH.z)))] [(0, (Zin c4 [] 2).t)]) [] (vf) (kX ((!y4_0)) true (Zrq (by first | assumption | simp_all)) <| kK (ZlZ c4 [] 2) w4) bE
     ·
      refine Mach.ok_ite (fun g6 => ?_) (fun _ => Mach.ok_none)
      exact Mach.okN (Zg (oq [1, 3, 5, 6]) [(0, (((v2 + 1) : Nat) : Int))] [(0, v2), (1, v2)] [(0, (RC.cel (L0.getD v2 RH.z))), (1, (RC.cel (L1.getD v2 RH.z)))] [(0, (Zin c4 [] 2).t)]) [] [some (ms RC L0), some (ms RC L1), some (vi (((v2 + 1) : Nat) : Int))] (kW ((v2 : Int) + (1 : Int)) (((v2 + 1) : Nat) : Int) <| kX ((!y4_0)) false (Zrr (by first | assumption | exact Decidable.not_not.1 (by assumption) | simp_all)) <| kK (ZlZ c4 [] 2) w4) (tC (tC (tC (tE)))) bE (show 1 ∈ ZZ (Zpf 1) from by decide +kernel)
   ·
    exact Mach.okF (Zg (oq [1, 3, 4]) [] [(0, v2), (1, v2)] [(0, (RC.cel (L0.getD v2 RH.z))), (1, (RC.cel (L1.getD v2 RH.z)))] []) [] (vf) (kO (((L0.getD v2 RH.z).a2 == (L1.getD v2 RH.z).a2) && (((L0.getD v2 RH.z).a3 == (L1.getD v2 RH.z).a3) && (((L0.getD v2 RH.z).a4 == (L1.getD v2 RH.z).a4) && (((L0.getD v2 RH.z).a5 == (L1.getD v2 RH.z).a5) && (((L0.getD v2 RH.z).a6 == (L1.getD v2 RH.z).a6) && true))))) w3) bE
  ·
   exact Mach.okF (Zg (oq [1, 2]) [] [(0, v2), (1, v2)] [(0, (RC.cel (L0.getD v2 RH.z))), (1, (RC.cel (L1.getD v2 RH.z)))] []) [] (vf) (kO (((L0.getD v2 RH.z).a0 == (L1.getD v2 RH.z).a0) && (((L0.getD v2 RH.z).a1 == (L1.getD v2 RH.z).a1) && true)) w2) bE
 ·
  exact Mach.okF (Zg (oq [0]) [] [] [] []) [] (vT) (hN g0 Zm) bE

theorem Znz (L0 L1 : List RH) (N : Nat) : (Zdq L0 L1 N).Enter Try.prog Z1 #[ms RC L0, ms RC L1] (Zgg L0 L1 N) := by
 unfold Zgg
 refine Mach.en_ite (fun g0 => ?_) (fun g0 => ?_)
 ·
  exact Mach.enF (Zg (oq [1]) [] [] [] []) [] (vf) (hD g0 Zm) bE
 ·
  exact Mach.en_head (bK := Zdp 1) (M := Zdq L0 L1 N) (cd := 1000000) (cm := 0) (y := (.h1m0 (0) : Zay)) (fu := 4000) (orc := (Zg (oq [0]) [] [] [] [])) (live := []) (tv := [some (ms RC L0), some (ms RC L1), some (vq)]) (bl := []) rfl rfl (show ZZ (Zdp 1).2 = [] from rfl) (by kernel_rfl) (kE (L0.length : Int) (L1.length : Int) Zm) rfl (by decide +kernel) (by rfl) ⟨rr, ⟨rr, ⟨⟨Eq.trans (show (vi ((0 : Nat) : Int) : Value) = vq from (congrArg (Value.int .i64) (by first | rfl | omega))) (by rfl), by rfl⟩, trivial⟩⟩⟩ trivial

theorem Zma (L0 L1 : List RH) (N : Nat) (r : Za4) (h : ZbL L0 L1 N = some r) : LSpec Try.prog 20 #[ms RC L0, ms RC L1] [] (ZjL L0 L1 r) (ZiQ L0 L1 r) :=
 Mach.spec Zq (Zdq L0 L1 N) Try.func20 (by kernel_rfl) (by kernel_rfl) (fun x => by cases x <;> exact Z8 _ rfl) (fun r => by cases r <;> exact Z8 _ rfl) (fun x => by
  cases x with
  | h1m0 _ => exact fun _ => (show ¬ (1 ∈ ZZ (Zdp 1).2) from by decide +kernel)
  ) (fun x => (show (Zdq L0 L1 N).Ok Try.prog Z1 x (ZcX L0 L1 N x) from by
  cases x with
  | h1m0 v2 => exact ZkW L0 L1 v2 N
  )) (Znz L0 L1 N) (n := N) h

noncomputable def Z5 {L0 : List RH} {L1 : List RH} {w0 : Bool} {N : Nat} (h : ZbL L0 L1 N = some (.r0 w0)) (ks : List Nat) (n : Nat) : ToldS := ⟨#[ms RC L0, ms RC L1], [], Value.bool w0, [], 0⟩

theorem Zb6 {L0 : List RH} {L1 : List RH} {w0 : Bool} {N : Nat} (h : ZbL L0 L1 N = some (.r0 w0)) (ks : List Nat) (n : Nat) (hk : ks.length = 0 := by rfl) (hnd : ks.Nodup := by decide +kernel) (hlt : ∀ k ∈ ks, k < n := by decide +kernel) : (Z5 (N := N)  h ks n).P Try.prog 20 n :=
 match ks, hk, hnd, hlt with
 | [], _, hnd, hlt => ZW (show LSpec Try.prog 20 #[ms RC L0, ms RC L1] [] (Value.bool w0) [] from Zma L0 L1 N _ h) _ n [] hnd hlt

set_option linter.unusedVariables false
set_option maxRecDepth 100000
set_option maxHeartbeats 4000000
noncomputable def Zio (a0 a1 a2 a3 a4 : Int) (b5 : Bool) (a6 a7 a8 a9 a10 : Int) (L11 : List RI) (L12 : List Int) (L13 : List RF) (a14 : Int) (L15 : List RG) (L16 : List RF) (W17 : Nat → List Int) : Zu → Value
 | .r0 w20 => Value.bool w20
noncomputable def Zhk (a0 a1 a2 a3 a4 : Int) (b5 : Bool) (a6 a7 a8 a9 a10 : Int) (L11 : List RI) (L12 : List Int) (L13 : List RF) (a14 : Int) (L15 : List RG) (L16 : List RF) (W17 : Nat → List Int) : Zu → List (Option AObj)
 | .r0 w20 => (some (.cells (κb a10 L11 L12 L13) 37) :: some (.cells (hpC a14 3 L15.length 4 L16.length 5 W17) 67) :: some (.cells (Za RA L13) 41 true) :: some (.cells (Za RB L15) 50) :: some (.cells (Za RA L16) 41) :: hpO W17 [])

theorem Zmb (a0 a1 a2 a3 a4 : Int) (b5 : Bool) (a6 a7 a8 a9 a10 : Int) (L11 : List RI) (L12 : List Int) (L13 : List RF) (a14 : Int) (L15 : List RG) (L16 : List RF) (W17 : Nat → List Int) (N : Nat) : Fx Try.prog Z1 Try.f10 (.cells (κb a10 L11 L12 L13) 37 :: .cells (hpC a14 3 L15.length 4 L16.length 5 W17) 67 :: .cells (Za RA L13) 41 true :: .cells (Za RB L15) 50 :: .cells (Za RA L16) 41 :: hpP W17 []) #[vp 0 0, Value.agg (κd a0 a1 a2 a3 a4 b5 a6 a7 a8 a9)] (Zio a0 a1 a2 a3 a4 b5 a6 a7 a8 a9 a10 L11 L12 L13 a14 L15 L16 W17) (Zhk a0 a1 a2 a3 a4 b5 a6 a7 a8 a9 a10 L11 L12 L13 a14 L15 L16 W17) (Zcf a0 a1 a2 a3 a4 b5 a6 a7 a8 a9 a10 L11 L12 L13 a14 L15 L16 W17 N) := by
 unfold Zcf
 refine Z7 (fun z0 c0 => ?_)
 cases z0 with
 | r0 y0_0 y0_1 =>
  have w1 := kK (Zf9 c0 (rg 0 22 []) 23) Zm
  refine Z7 (fun z1 c1 => ?_)
  cases z1 with
  | r0 y1_0 y1_1 y1_2 y1_3 y1_4 y1_5 =>
   have w2 := kK (Znw c1 (1 :: (rg 3 19 [])) 23) w1
   refine Z7 (fun z2 c2 => ?_)
   cases z2 with
   | r0 y2_0 y2_1 =>
    have w3 := kK (Zf9 c2 (rg 0 22 []) 24) w2
    refine Z7 (fun z3 c3 => ?_)
    cases z3 with
    | r0 y3_0 y3_1 y3_2 y3_3 y3_4 y3_5 =>
     have w4 := kK (ZrE c3 [] 24) w3
     refine Zf (fun g4 => ?_) (fun g4 => ?_)
     ·
      have w5 := kZ ((y1_0 == y3_0) && ((y1_1 == y3_1) && ((y1_2 == y3_2) && ((y1_3 == y3_3) && ((y1_4 == y3_4) && true))))) w4
      refine Zf (fun g5 => ?_) (fun g5 => ?_)
      ·
       have w6 := kX ((y1_5 == y3_5)) true (eqB_t (by first | assumption | rfl | simp_all)) w5
       refine Z7 (fun z6 c6 => ?_)
       cases z6 with
       | r0 =>
        have w7 := kK (ZkR c6 (1 :: (rg 3 19 [])) 25) w6
        refine Z7 (fun z7 c7 => ?_)
        cases z7 with
        | r0 =>
         have w8 := kK (ZiO c7 [] 25) w7
         refine Z7 (fun z8 c8 => ?_)
         cases z8 with
         | r0 y8_0 =>
          refine Zf (fun g9 => ?_) (fun g9 => ?_)
          ·
           subst g9
           have w10 := kK (Zb6 c8 [] 25) w8
           refine Z7 (fun z10 c10 => ?_)
           cases z10 with
           | r0 y10_0 =>
            have w11 := kK (Zdz c10 (1 :: (rg 3 19 [])) 25) w10
            refine Z7 (fun z11 c11 => ?_)
            cases z11 with
            | r0 y11_0 =>
             have w12 := kK (ZeZ c11 [] 25) w11
             refine Zf (fun g12 => ?_) (fun g12 => ?_)
             ·
              refine Zf (fun g13 => ?_) (fun g13 => ?_)
              ·
               refine Z7 (fun z14 c14 => ?_)
               cases z14 with
               | r0 y14_0 y14_1 y14_2 =>
                refine Z7 (fun z15 c15 => ?_)
                cases z15 with
                | r0 y15_0 y15_1 =>
                 have w16 := kK (Zaf c15 [] 28) <| kK (Zdb c14 [] 26) <| kY (a14 > (0 : Int)) <| hT g12 w12
                 refine Zf (fun g16 => ?_) (fun g16 => ?_)
                 ·
                  exact fxC (Zg (oq [1, 3, 5, 9, 13]) [] [] [] [(0, (Zc c0 (rg 0 22 []) 23).t), (1, (Zy c1 (1 :: (rg 3 19 [])) 23).t), (3, (Zc c2 (rg 0 22 []) 24).t), (4, (ZA c3 [] 24).t), (6, (ZX c6 (1 :: (rg 3 19 [])) 25).t), (7, (Zaz c7 [] 25).t), (8, (Z5 c8 [] 25).t), (9, (Z6 c10 (1 :: (rg 3 19 [])) 25).t), (10, (ZK c11 [] 25).t), (11, (Zbm c14 [] 26).t), (14, (ZC c15 [] 28).t)]) (rg 0 22 []) (vT) (kZ ((y14_0 == y15_0) && ((y14_1 == y15_1) && true)) w16) (bS (κb a10 L11 L12 L13) <| bS (hpC a14 3 L15.length 4 L16.length 5 W17) <| bQ <| bR <| bR <| Zo <| bQ <| bE)
                 ·
                  exact fxC (Zg (oq [1, 3, 5, 9, 12]) [] [] [] [(0, (Zc c0 (rg 0 22 []) 23).t), (1, (Zy c1 (1 :: (rg 3 19 [])) 23).t), (3, (Zc c2 (rg 0 22 []) 24).t), (4, (ZA c3 [] 24).t), (6, (ZX c6 (1 :: (rg 3 19 [])) 25).t), (7, (Zaz c7 [] 25).t), (8, (Z5 c8 [] 25).t), (9, (Z6 c10 (1 :: (rg 3 19 [])) 25).t), (10, (ZK c11 [] 25).t), (11, (Zbm c14 [] 26).t), (14, (ZC c15 [] 28).t)]) (rg 0 22 []) (vf) (kO ((y14_0 == y15_0) && ((y14_1 == y15_1) && true)) w16) (bS (κb a10 L11 L12 L13) <| bS (hpC a14 3 L15.length 4 L16.length 5 W17) <| bQ <| bR <| bR <| Zo <| bQ <| bE)
              ·
               refine Z7 (fun z14 c14 => ?_)
               cases z14 with
               | r0 y14_0 y14_1 =>
                refine Zf (fun g15 => ?_) (fun g15 => ?_)
                ·
                 exact fxC (Zg (oq [1, 3, 5, 8, 13]) [] [] [] [(0, (Zc c0 (rg 0 22 []) 23).t), (1, (Zy c1 (1 :: (rg 3 19 [])) 23).t), (3, (Zc c2 (rg 0 22 []) 24).t), (4, (ZA c3 [] 24).t), (6, (ZX c6 (1 :: (rg 3 19 [])) 25).t), (7, (Zaz c7 [] 25).t), (8, (Z5 c8 [] 25).t), (9, (Z6 c10 (1 :: (rg 3 19 [])) 25).t), (10, (ZK c11 [] 25).t), (12, (ZC c14 [] 27).t)]) (rg 0 22 []) (vT) (kZ (((0 : Int) == y14_0) && (((0 : Int) == y14_1) && true)) <| kK (Zaf c14 [] 27) <| kN (a14 > (0 : Int)) <| hT g12 w12) (bS (κb a10 L11 L12 L13) <| bS (hpC a14 3 L15.length 4 L16.length 5 W17) <| bQ <| bR <| bR <| Zo <| bQ <| bE)
                ·
                 exact fxC (Zg (oq [1, 3, 5, 8, 12]) [] [] [] [(0, (Zc c0 (rg 0 22 []) 23).t), (1, (Zy c1 (1 :: (rg 3 19 [])) 23).t), (3, (Zc c2 (rg 0 22 []) 24).t), (4, (ZA c3 [] 24).t), (6, (ZX c6 (1 :: (rg 3 19 [])) 25).t), (7, (Zaz c7 [] 25).t), (8, (Z5 c8 [] 25).t), (9, (Z6 c10 (1 :: (rg 3 19 [])) 25).t), (10, (ZK c11 [] 25).t), (12, (ZC c14 [] 27).t)]) (rg 0 22 []) (vf) (kO (((0 : Int) == y14_0) && (((0 : Int) == y14_1) && true)) <| kK (Zaf c14 [] 27) <| kN (a14 > (0 : Int)) <| hT g12 w12) (bS (κb a10 L11 L12 L13) <| bS (hpC a14 3 L15.length 4 L16.length 5 W17) <| bQ <| bR <| bR <| Zo <| bQ <| bE)
             ·
              exact fxC (Zg (oq [1, 3, 4]) [] [] [] [(0, (Zc c0 (rg 0 22 []) 23).t), (1, (Zy c1 (1 :: (rg 3 19 [])) 23).t), (3, (Zc c2 (rg 0 22 []) 24).t), (4, (ZA c3 [] 24).t), (6, (ZX c6 (1 :: (rg 3 19 [])) 25).t), (7, (Zaz c7 [] 25).t), (8, (Z5 c8 [] 25).t), (9, (Z6 c10 (1 :: (rg 3 19 [])) 25).t), (10, (ZK c11 [] 25).t)]) (rg 0 22 []) (vf) (hF g12 w12) (bS (κb a10 L11 L12 L13) <| bS (hpC a14 3 L15.length 4 L16.length 5 W17) <| bQ <| bR <| bR <| Zo <| bQ <| bE)
          ·
           obtain rfl : y8_0 = false := by simpa using g9
           exact fxC (Zg (oq [1, 3]) [] [] [] [(0, (Zc c0 (rg 0 22 []) 23).t), (1, (Zy c1 (1 :: (rg 3 19 [])) 23).t), (3, (Zc c2 (rg 0 22 []) 24).t), (4, (ZA c3 [] 24).t), (6, (ZX c6 (1 :: (rg 3 19 [])) 25).t), (7, (Zaz c7 [] 25).t), (8, (Z5 c8 [] 25).t)]) (rg 0 22 []) (vf) (kK (Zb6 c8 [] 25) w8) (bS (κb a10 L11 L12 L13) <| bS (hpC a14 3 L15.length 4 L16.length 5 W17) <| bQ <| bR <| bR <| Zo <| bQ <| bE)
        | r1 y7_0 =>
         have w8 := kK (ZiP c7 [] 25) w7
         refine Z7 (fun z8 c8 => ?_)
         cases z8 with
         | r0 y8_0 =>
          refine Zf (fun g9 => ?_) (fun g9 => ?_)
          ·
           subst g9
           have w10 := kK (Zb6 c8 [] 25) w8
           refine Z7 (fun z10 c10 => ?_)
           cases z10 with
           | r0 y10_0 =>
            have w11 := kK (Zdz c10 (1 :: (rg 3 19 [])) 25) w10
            refine Z7 (fun z11 c11 => ?_)
            cases z11 with
            | r0 y11_0 =>
             have w12 := kK (ZeZ c11 [] 25) w11
             refine Zf (fun g12 => ?_) (fun g12 => ?_)
             ·
              refine Zf (fun g13 => ?_) (fun g13 => ?_)
              ·
               refine Z7 (fun z14 c14 => ?_)
               cases z14 with
               | r0 y14_0 y14_1 y14_2 =>
                refine Z7 (fun z15 c15 => ?_)
                cases z15 with
                | r0 y15_0 y15_1 =>
                 have w16 := kK (Zaf c15 [] 28) <| kK (Zdb c14 [] 26) <| kY (a14 > (0 : Int)) <| hT g12 w12
                 refine Zf (fun g16 => ?_) (fun g16 => ?_)
                 ·
                  exact fxC (Zg (oq [1, 3, 5, 9, 13]) [] [] [] [(0, (Zc c0 (rg 0 22 []) 23).t), (1, (Zy c1 (1 :: (rg 3 19 [])) 23).t), (3, (Zc c2 (rg 0 22 []) 24).t), (4, (ZA c3 [] 24).t), (6, (ZX c6 (1 :: (rg 3 19 [])) 25).t), (7, (Za0 c7 [] 25).t), (8, (Z5 c8 [] 25).t), (9, (Z6 c10 (1 :: (rg 3 19 [])) 25).t), (10, (ZK c11 [] 25).t), (11, (Zbm c14 [] 26).t), (14, (ZC c15 [] 28).t)]) (rg 0 22 []) (vT) (kZ ((y14_0 == y15_0) && ((y14_1 == y15_1) && true)) w16) (bS (κb a10 L11 L12 L13) <| bS (hpC a14 3 L15.length 4 L16.length 5 W17) <| bQ <| bR <| bR <| Zo <| bQ <| bE)
                 ·
                  exact fxC (Zg (oq [1, 3, 5, 9, 12]) [] [] [] [(0, (Zc c0 (rg 0 22 []) 23).t), (1, (Zy c1 (1 :: (rg 3 19 [])) 23).t), (3, (Zc c2 (rg 0 22 []) 24).t), (4, (ZA c3 [] 24).t), (6, (ZX c6 (1 :: (rg 3 19 [])) 25).t), (7, (Za0 c7 [] 25).t), (8, (Z5 c8 [] 25).t), (9, (Z6 c10 (1 :: (rg 3 19 [])) 25).t), (10, (ZK c11 [] 25).t), (11, (Zbm c14 [] 26).t), (14, (ZC c15 [] 28).t)]) (rg 0 22 []) (vf) (kO ((y14_0 == y15_0) && ((y14_1 == y15_1) && true)) w16) (bS (κb a10 L11 L12 L13) <| bS (hpC a14 3 L15.length 4 L16.length 5 W17) <| bQ <| bR <| bR <| Zo <| bQ <| bE)
              ·
               refine Z7 (fun z14 c14 => ?_)
               cases z14 with
               | r0 y14_0 y14_1 =>
                refine Zf (fun g15 => ?_) (fun g15 => ?_)
                ·
                 exact fxC (Zg (oq [1, 3, 5, 8, 13]) [] [] [] [(0, (Zc c0 (rg 0 22 []) 23).t), (1, (Zy c1 (1 :: (rg 3 19 [])) 23).t), (3, (Zc c2 (rg 0 22 []) 24).t), (4, (ZA c3 [] 24).t), (6, (ZX c6 (1 :: (rg 3 19 [])) 25).t), (7, (Za0 c7 [] 25).t), (8, (Z5 c8 [] 25).t), (9, (Z6 c10 (1 :: (rg 3 19 [])) 25).t), (10, (ZK c11 [] 25).t), (12, (ZC c14 [] 27).t)]) (rg 0 22 []) (vT) (kZ (((0 : Int) == y14_0) && (((0 : Int) == y14_1) && true)) <| kK (Zaf c14 [] 27) <| kN (a14 > (0 : Int)) <| hT g12 w12) (bS (κb a10 L11 L12 L13) <| bS (hpC a14 3 L15.length 4 L16.length 5 W17) <| bQ <| bR <| bR <| Zo <| bQ <| bE)
                ·
                 exact fxC (Zg (oq [1, 3, 5, 8, 12]) [] [] [] [(0, (Zc c0 (rg 0 22 []) 23).t), (1, (Zy c1 (1 :: (rg 3 19 [])) 23).t), (3, (Zc c2 (rg 0 22 []) 24).t), (4, (ZA c3 [] 24).t), (6, (ZX c6 (1 :: (rg 3 19 [])) 25).t), (7, (Za0 c7 [] 25).t), (8, (Z5 c8 [] 25).t), (9, (Z6 c10 (1 :: (rg 3 19 [])) 25).t), (10, (ZK c11 [] 25).t), (12, (ZC c14 [] 27).t)]) (rg 0 22 []) (vf) (kO (((0 : Int) == y14_0) && (((0 : Int) == y14_1) && true)) <| kK (Zaf c14 [] 27) <| kN (a14 > (0 : Int)) <| hT g12 w12) (bS (κb a10 L11 L12 L13) <| bS (hpC a14 3 L15.length 4 L16.length 5 W17) <| bQ <| bR <| bR <| Zo <| bQ <| bE)
             ·
              exact fxC (Zg (oq [1, 3, 4]) [] [] [] [(0, (Zc c0 (rg 0 22 []) 23).t), (1, (Zy c1 (1 :: (rg 3 19 [])) 23).t), (3, (Zc c2 (rg 0 22 []) 24).t), (4, (ZA c3 [] 24).t), (6, (ZX c6 (1 :: (rg 3 19 [])) 25).t), (7, (Za0 c7 [] 25).t), (8, (Z5 c8 [] 25).t), (9, (Z6 c10 (1 :: (rg 3 19 [])) 25).t), (10, (ZK c11 [] 25).t)]) (rg 0 22 []) (vf) (hF g12 w12) (bS (κb a10 L11 L12 L13) <| bS (hpC a14 3 L15.length 4 L16.length 5 W17) <| bQ <| bR <| bR <| Zo <| bQ <| bE)
          ·
           obtain rfl : y8_0 = false := by simpa using g9
           exact fxC (Zg (oq [1, 3]) [] [] [] [(0, (Zc c0 (rg 0 22 []) 23).t), (1, (Zy c1 (1 :: (rg 3 19 [])) 23).t), (3, (Zc c2 (rg 0 22 []) 24).t), (4, (ZA c3 [] 24).t), (6, (ZX c6 (1 :: (rg 3 19 [])) 25).t), (7, (Za0 c7 [] 25).t), (8, (Z5 c8 [] 25).t)]) (rg 0 22 []) (vf) (kK (Zb6 c8 [] 25) w8) (bS (κb a10 L11 L12 L13) <| bS (hpC a14 3 L15.length 4 L16.length 5 W17) <| bQ <| bR <| bR <| Zo <| bQ <| bE)
       | r1 y6_0 =>
        have w7 := kK (ZkS c6 (1 :: (rg 3 19 [])) 25) w6
        refine Z7 (fun z7 c7 => ?_)
        cases z7 with
        | r0 =>
         have w8 := kK (ZiO c7 [] 25) w7
         refine Z7 (fun z8 c8 => ?_)
         cases z8 with
         | r0 y8_0 =>
          refine Zf (fun g9 => ?_) (fun g9 => ?_)
          ·
           subst g9
           have w10 := kK (Zb6 c8 [] 25) w8
           refine Z7 (fun z10 c10 => ?_)
           cases z10 with
           | r0 y10_0 =>
            have w11 := kK (Zdz c10 (1 :: (rg 3 19 [])) 25) w10
            refine Z7 (fun z11 c11 => ?_)
            cases z11 with
            | r0 y11_0 =>
             have w12 := kK (ZeZ c11 [] 25) w11
             refine Zf (fun g12 => ?_) (fun g12 => ?_)
             ·
              refine Zf (fun g13 => ?_) (fun g13 => ?_)
              ·
               refine Z7 (fun z14 c14 => ?_)
               cases z14 with
               | r0 y14_0 y14_1 y14_2 =>
                refine Z7 (fun z15 c15 => ?_)
                cases z15 with
                | r0 y15_0 y15_1 =>
                 have w16 := kK (Zaf c15 [] 28) <| kK (Zdb c14 [] 26) <| kY (a14 > (0 : Int)) <| hT g12 w12
                 refine Zf (fun g16 => ?_) (fun g16 => ?_)
                 ·
                  exact fxC (Zg (oq [1, 3, 5, 9, 13]) [] [] [] [(0, (Zc c0 (rg 0 22 []) 23).t), (1, (Zy c1 (1 :: (rg 3 19 [])) 23).t), (3, (Zc c2 (rg 0 22 []) 24).t), (4, (ZA c3 [] 24).t), (6, (ZY c6 (1 :: (rg 3 19 [])) 25).t), (7, (Zaz c7 [] 25).t), (8, (Z5 c8 [] 25).t), (9, (Z6 c10 (1 :: (rg 3 19 [])) 25).t), (10, (ZK c11 [] 25).t), (11, (Zbm c14 [] 26).t), (14, (ZC c15 [] 28).t)]) (rg 0 22 []) (vT) (kZ ((y14_0 == y15_0) && ((y14_1 == y15_1) && true)) w16) (bS (κb a10 L11 L12 L13) <| bS (hpC a14 3 L15.length 4 L16.length 5 W17) <| bQ <| bR <| bR <| Zo <| bQ <| bE)
                 ·
                  exact fxC (Zg (oq [1, 3, 5, 9, 12]) [] [] [] [(0, (Zc c0 (rg 0 22 []) 23).t), (1, (Zy c1 (1 :: (rg 3 19 [])) 23).t), (3, (Zc c2 (rg 0 22 []) 24).t), (4, (ZA c3 [] 24).t), (6, (ZY c6 (1 :: (rg 3 19 [])) 25).t), (7, (Zaz c7 [] 25).t), (8, (Z5 c8 [] 25).t), (9, (Z6 c10 (1 :: (rg 3 19 [])) 25).t), (10, (ZK c11 [] 25).t), (11, (Zbm c14 [] 26).t), (14, (ZC c15 [] 28).t)]) (rg 0 22 []) (vf) (kO ((y14_0 == y15_0) && ((y14_1 == y15_1) && true)) w16) (bS (κb a10 L11 L12 L13) <| bS (hpC a14 3 L15.length 4 L16.length 5 W17) <| bQ <| bR <| bR <| Zo <| bQ <| bE)
              ·
               refine Z7 (fun z14 c14 => ?_)
               cases z14 with
               | r0 y14_0 y14_1 =>
                refine Zf (fun g15 => ?_) (fun g15 => ?_)
                ·
                 exact fxC (Zg (oq [1, 3, 5, 8, 13]) [] [] [] [(0, (Zc c0 (rg 0 22 []) 23).t), (1, (Zy c1 (1 :: (rg 3 19 [])) 23).t), (3, (Zc c2 (rg 0 22 []) 24).t), (4, (ZA c3 [] 24).t), (6, (ZY c6 (1 :: (rg 3 19 [])) 25).t), (7, (Zaz c7 [] 25).t), (8, (Z5 c8 [] 25).t), (9, (Z6 c10 (1 :: (rg 3 19 [])) 25).t), (10, (ZK c11 [] 25).t), (12, (ZC c14 [] 27).t)]) (rg 0 22 []) (vT) (kZ (((0 : Int) == y14_0) && (((0 : Int) == y14_1) && true)) <| kK (Zaf c14 [] 27) <| kN (a14 > (0 : Int)) <| hT g12 w12) (bS (κb a10 L11 L12 L13) <| bS (hpC a14 3 L15.length 4 L16.length 5 W17) <| bQ <| bR <| bR <| Zo <| bQ <| bE)
                ·
                 exact fxC (Zg (oq [1, 3, 5, 8, 12]) [] [] [] [(0, (Zc c0 (rg 0 22 []) 23).t), (1, (Zy c1 (1 :: (rg 3 19 [])) 23).t), (3, (Zc c2 (rg 0 22 []) 24).t), (4, (ZA c3 [] 24).t), (6, (ZY c6 (1 :: (rg 3 19 [])) 25).t), (7, (Zaz c7 [] 25).t), (8, (Z5 c8 [] 25).t), (9, (Z6 c10 (1 :: (rg 3 19 [])) 25).t), (10, (ZK c11 [] 25).t), (12, (ZC c14 [] 27).t)]) (rg 0 22 []) (vf) (kO (((0 : Int) == y14_0) && (((0 : Int) == y14_1) && true)) <| kK (Zaf c14 [] 27) <| kN (a14 > (0 : Int)) <| hT g12 w12) (bS (κb a10 L11 L12 L13) <| bS (hpC a14 3 L15.length 4 L16.length 5 W17) <| bQ <| bR <| bR <| Zo <| bQ <| bE)
             ·
              exact fxC (Zg (oq [1, 3, 4]) [] [] [] [(0, (Zc c0 (rg 0 22 []) 23).t), (1, (Zy c1 (1 :: (rg 3 19 [])) 23).t), (3, (Zc c2 (rg 0 22 []) 24).t), (4, (ZA c3 [] 24).t), (6, (ZY c6 (1 :: (rg 3 19 [])) 25).t), (7, (Zaz c7 [] 25).t), (8, (Z5 c8 [] 25).t), (9, (Z6 c10 (1 :: (rg 3 19 [])) 25).t), (10, (ZK c11 [] 25).t)]) (rg 0 22 []) (vf) (hF g12 w12) (bS (κb a10 L11 L12 L13) <| bS (hpC a14 3 L15.length 4 L16.length 5 W17) <| bQ <| bR <| bR <| Zo <| bQ <| bE)
          ·
           obtain rfl : y8_0 = false := by simpa using g9
           exact fxC (Zg (oq [1, 3]) [] [] [] [(0, (Zc c0 (rg 0 22 []) 23).t), (1, (Zy c1 (1 :: (rg 3 19 [])) 23).t), (3, (Zc c2 (rg 0 22 []) 24).t), (4, (ZA c3 [] 24).t), (6, (ZY c6 (1 :: (rg 3 19 [])) 25).t), (7, (Zaz c7 [] 25).t), (8, (Z5 c8 [] 25).t)]) (rg 0 22 []) (vf) (kK (Zb6 c8 [] 25) w8) (bS (κb a10 L11 L12 L13) <| bS (hpC a14 3 L15.length 4 L16.length 5 W17) <| bQ <| bR <| bR <| Zo <| bQ <| bE)
        | r1 y7_0 =>
         have w8 := kK (ZiP c7 [] 25) w7
         refine Z7 (fun z8 c8 => ?_)
         cases z8 with
         | r0 y8_0 =>
          refine Zf (fun g9 => ?_) (fun g9 => ?_)
          ·
           subst g9
           have w10 := kK (Zb6 c8 [] 25) w8
           refine Z7 (fun z10 c10 => ?_)
           cases z10 with
           | r0 y10_0 =>
            have w11 := kK (Zdz c10 (1 :: (rg 3 19 [])) 25) w10
            refine Z7 (fun z11 c11 => ?_)
            cases z11 with
            | r0 y11_0 =>
             have w12 := kK (ZeZ c11 [] 25) w11
             refine Zf (fun g12 => ?_) (fun g12 => ?_)
             ·
              refine Zf (fun g13 => ?_) (fun g13 => ?_)
              ·
               refine Z7 (fun z14 c14 => ?_)
               cases z14 with
               | r0 y14_0 y14_1 y14_2 =>
                refine Z7 (fun z15 c15 => ?_)
                cases z15 with
                | r0 y15_0 y15_1 =>
                 have w16 := kK (Zaf c15 [] 28) <| kK (Zdb c14 [] 26) <| kY (a14 > (0 : Int)) <| hT g12 w12
                 refine Zf (fun g16 => ?_) (fun g16 => ?_)
                 ·
                  exact fxC (Zg (oq [1, 3, 5, 9, 13]) [] [] [] [(0, (Zc c0 (rg 0 22 []) 23).t), (1, (Zy c1 (1 :: (rg 3 19 [])) 23).t), (3, (Zc c2 (rg 0 22 []) 24).t), (4, (ZA c3 [] 24).t), (6, (ZY c6 (1 :: (rg 3 19 [])) 25).t), (7, (Za0 c7 [] 25).t), (8, (Z5 c8 [] 25).t), (9, (Z6 c10 (1 :: (rg 3 19 [])) 25).t), (10, (ZK c11 [] 25).t), (11, (Zbm c14 [] 26).t), (14, (ZC c15 [] 28).t)]) (rg 0 22 []) (vT) (kZ ((y14_0 == y15_0) && ((y14_1 == y15_1) && true)) w16) (bS (κb a10 L11 L12 L13) <| bS (hpC a14 3 L15.length 4 L16.length 5 W17) <| bQ <| bR <| bR <| Zo <| bQ <| bE)
                 ·
                  exact fxC (Zg (oq [1, 3, 5, 9, 12]) [] [] [] [(0, (Zc c0 (rg 0 22 []) 23).t), (1, (Zy c1 (1 :: (rg 3 19 [])) 23).t), (3, (Zc c2 (rg 0 22 []) 24).t), (4, (ZA c3 [] 24).t), (6, (ZY c6 (1 :: (rg 3 19 [])) 25).t), (7, (Za0 c7 [] 25).t), (8, (Z5 c8 [] 25).t), (9, (Z6 c10 (1 :: (rg 3 19 [])) 25).t), (10, (ZK c11 [] 25).t), (11, (Zbm c14 [] 26).t), (14, (ZC c15 [] 28).t)]) (rg 0 22 []) (vf) (kO ((y14_0 == y15_0) && ((y14_1 == y15_1) && true)) w16) (bS (κb a10 L11 L12 L13) <| bS (hpC a14 3 L15.length 4 L16.length 5 W17) <| bQ <| bR <| bR <| Zo <| bQ <| bE)
              ·
               refine Z7 (fun z14 c14 => ?_)
               cases z14 with
               | r0 y14_0 y14_1 =>
                refine Zf (fun g15 => ?_) (fun g15 => ?_)
                ·
                 exact fxC (Zg (oq [1, 3, 5, 8, 13]) [] [] [] [(0, (Zc c0 (rg 0 22 []) 23).t), (1, (Zy c1 (1 :: (rg 3 19 [])) 23).t), (3, (Zc c2 (rg 0 22 []) 24).t), (4, (ZA c3 [] 24).t), (6, (ZY c6 (1 :: (rg 3 19 [])) 25).t), (7, (Za0 c7 [] 25).t), (8, (Z5 c8 [] 25).t), (9, (Z6 c10 (1 :: (rg 3 19 [])) 25).t), (10, (ZK c11 [] 25).t), (12, (ZC c14 [] 27).t)]) (rg 0 22 []) (vT) (kZ (((0 : Int) == y14_0) && (((0 : Int) == y14_1) && true)) <| kK (Zaf c14 [] 27) <| kN (a14 > (0 : Int)) <| hT g12 w12) (bS (κb a10 L11 L12 L13) <| bS (hpC a14 3 L15.length 4 L16.length 5 W17) <| bQ <| bR <| bR <| Zo <| bQ <| bE)
                ·
                 exact fxC (Zg (oq [1, 3, 5, 8, 12]) [] [] [] [(0, (Zc c0 (rg 0 22 []) 23).t), (1, (Zy c1 (1 :: (rg 3 19 [])) 23).t), (3, (Zc c2 (rg 0 22 []) 24).t), (4, (ZA c3 [] 24).t), (6, (ZY c6 (1 :: (rg 3 19 [])) 25).t), (7, (Za0 c7 [] 25).t), (8, (Z5 c8 [] 25).t), (9, (Z6 c10 (1 :: (rg 3 19 [])) 25).t), (10, (ZK c11 [] 25).t), (12, (ZC c14 [] 27).t)]) (rg 0 22 []) (vf) (kO (((0 : Int) == y14_0) && (((0 : Int) == y14_1) && true)) <| kK (Zaf c14 [] 27) <| kN (a14 > (0 : Int)) <| hT g12 w12) (bS (κb a10 L11 L12 L13) <| bS (hpC a14 3 L15.length 4 L16.length 5 W17) <| bQ <| bR <| bR <| Zo <| bQ <| bE)
             ·
              exact fxC (Zg (oq [1, 3, 4]) [] [] [] [(0, (Zc c0 (rg 0 22 []) 23).t), (1, (Zy c1 (1 :: (rg 3 19 [])) 23).t), (3, (Zc c2 (rg 0 22 []) 24).t), (4, (ZA c3 [] 24).t), (6, (ZY c6 (1 :: (rg 3 19 [])) 25).t), (7, (Za0 c7 [] 25).t), (8, (Z5 c8 [] 25).t), (9, (Z6 c10 (1 :: (rg 3 19 [])) 25).t), (10, (ZK c11 [] 25).t)]) (rg 0 22 []) (vf) (hF g12 w12) (bS (κb a10 L11 L12 L13) <| bS (hpC a14 3 L15.length 4 L16.length 5 W17) <| bQ <| bR <| bR <| Zo <| bQ <| bE)
          ·
           obtain rfl : y8_0 = false := by simpa using g9
           exact fxC (Zg (oq [1, 3]) [] [] [] [(0, (Zc c0 (rg 0 22 []) 23).t), (1, (Zy c1 (1 :: (rg 3 19 [])) 23).t), (3, (Zc c2 (rg 0 22 []) 24).t), (4, (ZA c3 [] 24).t), (6, (ZY c6 (1 :: (rg 3 19 [])) 25).t), (7, (Za0 c7 [] 25).t), (8, (Z5 c8 [] 25).t)]) (rg 0 22 []) (vf) (kK (Zb6 c8 [] 25) w8) (bS (κb a10 L11 L12 L13) <| bS (hpC a14 3 L15.length 4 L16.length 5 W17) <| bQ <| bR <| bR <| Zo <| bQ <| bE)
      ·
       exact fxC (Zg (oq [1, 2]) [] [] [] [(0, (Zc c0 (rg 0 22 []) 23).t), (1, (Zy c1 (1 :: (rg 3 19 [])) 23).t), (3, (Zc c2 (rg 0 22 []) 24).t), (4, (ZA c3 [] 24).t)]) (rg 0 22 []) (vf) (kX ((y1_5 == y3_5)) false (eqB_f (by first | assumption | rfl | simp_all)) w5) (bS (κb a10 L11 L12 L13) <| bS (hpC a14 3 L15.length 4 L16.length 5 W17) <| bQ <| bR <| bR <| Zo <| bQ <| bE)
     ·
      exact fxC (Zg (oq [0]) [] [] [] [(0, (Zc c0 (rg 0 22 []) 23).t), (1, (Zy c1 (1 :: (rg 3 19 [])) 23).t), (3, (Zc c2 (rg 0 22 []) 24).t), (4, (ZA c3 [] 24).t)]) (rg 0 22 []) (vf) (kO ((y1_0 == y3_0) && ((y1_1 == y3_1) && ((y1_2 == y3_2) && ((y1_3 == y3_3) && ((y1_4 == y3_4) && true))))) w4) (bS (κb a10 L11 L12 L13) <| bS (hpC a14 3 L15.length 4 L16.length 5 W17) <| bQ <| bR <| bR <| Zo <| bQ <| bE)

theorem Zkt (a0 a1 a2 a3 a4 : Int) (b5 : Bool) (a6 a7 a8 a9 a10 : Int) (L11 : List RI) (L12 : List Int) (L13 : List RF) (a14 : Int) (L15 : List RG) (L16 : List RF) (W17 : Nat → List Int) (N : Nat) (r : Zu) (h : Zcf a0 a1 a2 a3 a4 b5 a6 a7 a8 a9 a10 L11 L12 L13 a14 L15 L16 W17 N = some r) : LSpec Try.prog 10 #[vp 0 0, Value.agg (κd a0 a1 a2 a3 a4 b5 a6 a7 a8 a9)] (.cells (κb a10 L11 L12 L13) 37 :: .cells (hpC a14 3 L15.length 4 L16.length 5 W17) 67 :: .cells (Za RA L13) 41 true :: .cells (Za RB L15) 50 :: .cells (Za RA L16) 41 :: hpP W17 []) (Zio a0 a1 a2 a3 a4 b5 a6 a7 a8 a9 a10 L11 L12 L13 a14 L15 L16 W17 r) (Zhk a0 a1 a2 a3 a4 b5 a6 a7 a8 a9 a10 L11 L12 L13 a14 L15 L16 W17 r) :=
 ZaA Zq Try.func10 (by kernel_rfl) (by kernel_rfl) (fun r => by cases r <;> exact Z8 _ rfl) (Zmb a0 a1 a2 a3 a4 b5 a6 a7 a8 a9 a10 L11 L12 L13 a14 L15 L16 W17 N) h

noncomputable def Zfr {a0 : Int} {a1 : Int} {a2 : Int} {a3 : Int} {a4 : Int} {b5 : Bool} {a6 : Int} {a7 : Int} {a8 : Int} {a9 : Int} {a10 : Int} {L11 : List RI} {L12 : List Int} {L13 : List RF} {a14 : Int} {L15 : List RG} {L16 : List RF} {W17 : Nat → List Int} {w20 : Bool} {N : Nat} (h : Zcf a0 a1 a2 a3 a4 b5 a6 a7 a8 a9 a10 L11 L12 L13 a14 L15 L16 W17 N = some (.r0 w20)) (ks : List Nat) (n : Nat) : ToldS := ⟨#[vp (nth ks 0) 0, Value.agg (κd a0 a1 a2 a3 a4 b5 a6 a7 a8 a9)], (κk ks a10 L11 L12 L13 a14 L15 L16 W17), Value.bool w20, [], 0⟩

theorem Zhl {a0 : Int} {a1 : Int} {a2 : Int} {a3 : Int} {a4 : Int} {b5 : Bool} {a6 : Int} {a7 : Int} {a8 : Int} {a9 : Int} {a10 : Int} {L11 : List RI} {L12 : List Int} {L13 : List RF} {a14 : Int} {L15 : List RG} {L16 : List RF} {W17 : Nat → List Int} {w20 : Bool} {N : Nat} (h : Zcf a0 a1 a2 a3 a4 b5 a6 a7 a8 a9 a10 L11 L12 L13 a14 L15 L16 W17 N = some (.r0 w20)) (ks : List Nat) (n : Nat) (hk : ks.length = 22 := by rfl) (hnd : ks.Nodup := by decide +kernel) (hlt : ∀ k ∈ ks, k < n := by decide +kernel) : (Zfr (N := N)  h ks n).P Try.prog 10 n :=
 match ks, hk, hnd, hlt with
 | [k0, k1, k2, k3, k4, k5, k6, k7, k8, k9, k10, k11, k12, k13, k14, k15, k16, k17, k18, k19, k20, k21], _, hnd, hlt => ZW (show LSpec Try.prog 10 #[vp 0 0, Value.agg (κd a0 a1 a2 a3 a4 b5 a6 a7 a8 a9)] (.cells (κb a10 L11 L12 L13) 37 :: .cells (hpC a14 3 L15.length 4 L16.length 5 W17) 67 :: .cells (Za RA L13) 41 true :: .cells (Za RB L15) 50 :: .cells (Za RA L16) 41 :: hpP W17 []) (Value.bool w20) (some (.cells (κb a10 L11 L12 L13) 37) :: some (.cells (hpC a14 3 L15.length 4 L16.length 5 W17) 67) :: some (.cells (Za RA L13) 41 true) :: some (.cells (Za RB L15) 50) :: some (.cells (Za RA L16) 41) :: hpO W17 []) from Zkt a0 a1 a2 a3 a4 b5 a6 a7 a8 a9 a10 L11 L12 L13 a14 L15 L16 W17 N _ h) _ n [] hnd hlt

end Ev
end Go.Proofs.Ytomkpfibofpkbaa
namespace Go.Proofs.Ytomkpfibofpkbaa
open Go.IntKind (i64)
open Go.RowKit
namespace Ev
set_option linter.unusedVariables false
set_option maxRecDepth 100000
set_option maxHeartbeats 4000000
noncomputable def ZiS (a0 : Int) (L1 : List RJ) : Zaj → Value
 | .r0 w0 => Value.bool w0
noncomputable def Zip (a0 : Int) (L1 : List RJ) : Zaj → List (Option AObj)
 | .r0 w0 => []

def Zn0 : Zan → Nat
 | .h1m0 v1 v3 v4 v5 v7 v8 v9 => 1
noncomputable def Zo0 (a0 : Int) (L1 : List RJ) : Zan → List (Nat × Value)
 | .h1m0 v1 v3 v4 v5 v7 v8 v9 => [(1, ms RE L1), (9, vp 0 0), (10, vi (v1 : Int))]
noncomputable def Zo1 (a0 : Int) (L1 : List RJ) : Zan → List (Option AObj)
 | .h1m0 v1 v3 v4 v5 v7 v8 v9 => (some (.cells [vp 1 0, vi a0, ms RD v3, ms eI v4, vs 2 0 v5.length v5.length] 37) :: some (.cells (hpC a0 3 v7.length 4 v8.length 5 v9) 67) :: some (.cells (Za RA v5) 41 true) :: some (.cells (Za RB v7) 50) :: some (.cells (Za RA v8) 41) :: hpO v9 [])

noncomputable def ZcO : Nat → Code × List ZaK
 | 1 => Zc4 [1, 1, 1, 1, 1, 1, 0, 1, 3] (Zer Try.f3) []
 | _ => (.skip, [])
def Ziq : Nat → Bool
 | 1 => true
 | _ => true
noncomputable def Zo2 (i : Nat) : List ZaK := match Ziq i with | true => .rnd i :: (ZcO i).2 | false => (ZcO i).2

noncomputable def ZcP (a0 : Int) (L1 : List RJ) (N : Nat) : Mach := ⟨Try.f3, [], Zan, Zaj, ZbV a0 L1 N, Zn0, ZcO, Ziq, Zo0 a0 L1, Zo1 a0 L1, ZiS a0 L1, Zip a0 L1⟩

theorem Zku (a0 : Int) (L1 : List RJ) (v1 : Nat) (v3 : List RI) (v4 : List Int) (v5 : List RF) (v7 : List RG) (v8 : List RF) (v9 : Nat → List Int) (N : Nat) : (ZcP a0 L1 N).Ok Try.prog Z1 (.h1m0 v1 v3 v4 v5 v7 v8 v9 : Zan) (ZbV a0 L1 N (.h1m0 v1 v3 v4 v5 v7 v8 v9 : Zan)) := by
 show (ZcP a0 L1 N).Ok Try.prog Z1 (.h1m0 v1 v3 v4 v5 v7 v8 v9 : Zan) (ZbA a0 L1 N v1 v3 v4 v5 v7 v8 v9)
 unfold ZbA
 refine Mach.ok_ite (fun g0 => ?_) (fun g0 => ?_)
 ·
  refine Mach.ok_ite (fun g1 => ?_) (fun g1 => ?_)
  ·
   have w2 := kG RE L1 (0 + (v1 * 10)) v1 0 10 10 <| kB v1 L1.length <| kI (v1 : Int) (Int.ofNat v1) <| hY g1 <| hY g0 Zm
   refine Mach.ok_bind (fun z2 c2 => ?_)
   cases z2 with
   | r0 y2_0 y2_1 y2_2 y2_3 y2_4 y2_5 y2_6 =>
    refine Mach.ok_ite (fun g3 => ?_) (fun g3 => ?_)
    ·
     exact Mach.okF (Zg (oq [1, 3, 5]) [] [(0, v1)] [(0, (RE.cel (L1.getD v1 RJ.z)))] [(0, (ZdQ c2 (rg 0 22 []) 22).t)]) [] (vf) (kX ((!y2_0)) true (Zrq (by first | assumption | simp_all)) <| kK (Zhj c2 (rg 0 22 []) 22) w2) bE
    ·
     have w4 := kG RE L1 (0 + (v1 * 10)) v1 0 10 10 <| kB v1 L1.length <| kI (v1 : Int) (Int.ofNat v1) <| kX ((!y2_0)) false (Zrr (by first | assumption | exact Decidable.not_not.1 (by assumption) | simp_all)) <| kK (Zhj c2 (rg 0 22 []) 22) w2
     refine Mach.ok_bind (fun z4 c4 => ?_)
     cases z4 with
     | r0 y4_0 =>
      refine Mach.ok_ite (fun g5 => ?_) (fun g5 => ?_)
      ·
       exact Mach.okF (Zg (oq [1, 3, 4, 7]) [] [(0, v1), (1, v1)] [(0, (RE.cel (L1.getD v1 RJ.z))), (1, (RE.cel (L1.getD v1 RJ.z)))] [(0, (ZdQ c2 (rg 0 22 []) 22).t), (1, (Zfr c4 (0 :: (rg 22 21 [])) 43).t)]) [] (vf) (kX ((!y4_0)) true (Zrq (by first | assumption | simp_all)) <| kK (Zhl c4 (0 :: (rg 22 21 [])) 43) w4) bE
      ·
       exact Mach.okN (Zg (oq [1, 3, 4, 6]) [(0, (((v1 + 1) : Nat) : Int))] [(0, v1), (1, v1)] [(0, (RE.cel (L1.getD v1 RJ.z))), (1, (RE.cel (L1.getD v1 RJ.z)))] [(0, (ZdQ c2 (rg 0 22 []) 22).t), (1, (Zfr c4 (0 :: (rg 22 21 [])) 43).t)]) (0 :: (rg 22 21 [])) [some (ms RE L1), some (vp 0 0), some (vi (((v1 + 1) : Nat) : Int))] (kW ((v1 : Int) + (1 : Int)) (((v1 + 1) : Nat) : Int) <| kX ((!y4_0)) false (Zrr (by first | assumption | exact Decidable.not_not.1 (by assumption) | simp_all)) <| kK (Zhl c4 (0 :: (rg 22 21 [])) 43) w4) (tC (tC (tC (tE)))) (bS [vp 22 0, vi a0, ms RD y2_1, ms eI y2_2, vs 23 0 y2_3.length y2_3.length] <| bS (hpC a0 24 y2_4.length 25 y2_5.length 26 y2_6) <| bQ <| bR <| bR <| Zo <| bQ <| bE) (show 1 ∈ ZZ (Zo2 1) from by decide +kernel)
  ·
   exact Mach.okF (Zg (oq [1, 2]) [] [] [] []) [] (vT) (hN g1 <| hY g0 Zm) bE
 ·
  exact Mach.okF (Zg (oq [0]) [] [] [] []) [] (vT) (hN g0 Zm) bE

theorem Zm7 (a0 : Int) (L1 : List RJ) (N : Nat) : (ZcP a0 L1 N).Enter Try.prog Z1 #[vi a0, ms RE L1] (Zf8 a0 L1 N) := by
 unfold Zf8
 refine Mach.en_bind (fun z0 c0 => ?_)
 cases z0 with
 | r0 =>
  refine Mach.en_bind (fun z1 c1 => ?_)
  cases z1 with
  | r0 =>
   exact Mach.enF (Zg (oq []) [] [] [] [(0, (Zkm c0 [] 0).t), (1, (Zje c1 [] 0).t)]) [] (vT) (kK (ZmI c1 [] 0) <| kK (Zoi c0 [] 0) Zm) bE
  | r1 y1_0 =>
   exact Mach.enF (Zg (oq []) [] [] [] [(0, (Zkm c0 [] 0).t), (1, (Zjf c1 [] 0).t)]) [] (vf) (kK (ZmJ c1 [] 0) <| kK (Zoi c0 [] 0) Zm) bE
 | r1 y0_0 =>
  refine Mach.en_bind (fun z1 c1 => ?_)
  cases z1 with
  | r0 =>
   exact Mach.enF (Zg (oq []) [] [] [] [(0, (Zkn c0 [] 0).t), (1, (Zje c1 [] 20).t)]) [] (vf) (kK (ZmI c1 [] 20) <| kK (Zoj c0 [] 0) Zm) bE
  | r1 y1_0 =>
   exact Mach.en_headW (bK := ZcO 1) (M := ZcP a0 L1 N) (cd := 1000000) (cm := 0) (y := (.h1m0 (0) (y1_0) (([] : List Int)) (([] : List RF)) (((List.replicate ((i64.wrap ((16 : Int) + (1 : Int)))).toNat (⟨(0 : Int), (0 : Int), (0 : Int), (0 : Int), (0 : Int)⟩ : RG)).set ((i64.wrap ((1 : Int) - (1 : Int)))).toNat (⟨(1 : Int), (16 : Int), (255 : Int), (2 : Int), (0 : Int)⟩ : RG))) (y0_0) ((wOf [([] : List Int), ([] : List Int), ([] : List Int), ([] : List Int), ([] : List Int), ([] : List Int), ([] : List Int), ([] : List Int), ([] : List Int), ([] : List Int), ([] : List Int), ([] : List Int), ([] : List Int), ([] : List Int), ([] : List Int), ([] : List Int), ([] : List Int)])) : Zan)) (fu := 4000) (orc := (Zg (oq []) [] [] [] [(0, (Zkn c0 [] 0).t), (1, (Zjf c1 [] 20).t)])) (live := (21 :: (0 :: (500000022 :: (rg 1 19 []))))) (tv := [some (ms RE L1), some (vp 21 0), some (vq)]) (bl := [some (.cells [vp 0 0, vi a0, ms RD y1_0, ms eI ([] : List Int), vn] 37), some (.cells [vi a0, vs 1 0 ((i64.wrap ((16 : Int) + (1 : Int)))).toNat ((i64.wrap ((16 : Int) + (1 : Int)))).toNat, vs 2 0 y0_0.length y0_0.length, vs 3 0 0 0, vs 4 0 0 0, vs 5 0 0 0, vs 6 0 0 0, vs 7 0 0 0, vs 8 0 0 0, vs 9 0 0 0, vs 10 0 0 0, vs 11 0 0 0, vs 12 0 0 0, vs 13 0 0 0, vs 14 0 0 0, vs 15 0 0 0, vs 16 0 0 0, vs 17 0 0 0, vs 18 0 0 0, vs 19 0 0 0] 67), none, some κj, some (.cells (Za RA y0_0) 41), some κa, some κa, some κa, some κa, some κa, some κa, some κa, some κa, some κa, some κa, some κa, some κa, some κa, some κa, some κa, some κa, some κa]) [some (.cells [vp 1 0, vi a0, ms RD y1_0, ms eI ([] : List Int), vn] 37), some (.cells [vi a0, vs 3 0 ((List.replicate ((i64.wrap ((16 : Int) + (1 : Int)))).toNat (⟨(0 : Int), (0 : Int), (0 : Int), (0 : Int), (0 : Int)⟩ : RG)).set ((i64.wrap ((1 : Int) - (1 : Int)))).toNat (⟨(1 : Int), (16 : Int), (255 : Int), (2 : Int), (0 : Int)⟩ : RG)).length ((List.replicate ((i64.wrap ((16 : Int) + (1 : Int)))).toNat (⟨(0 : Int), (0 : Int), (0 : Int), (0 : Int), (0 : Int)⟩ : RG)).set ((i64.wrap ((1 : Int) - (1 : Int)))).toNat (⟨(1 : Int), (16 : Int), (255 : Int), (2 : Int), (0 : Int)⟩ : RG)).length, vs 4 0 y0_0.length y0_0.length, vs 5 0 ([] : List Int).length ([] : List Int).length, vs 6 0 ([] : List Int).length ([] : List Int).length, vs 7 0 ([] : List Int).length ([] : List Int).length, vs 8 0 ([] : List Int).length ([] : List Int).length, vs 9 0 ([] : List Int).length ([] : List Int).length, vs 10 0 ([] : List Int).length ([] : List Int).length, vs 11 0 ([] : List Int).length ([] : List Int).length, vs 12 0 ([] : List Int).length ([] : List Int).length, vs 13 0 ([] : List Int).length ([] : List Int).length, vs 14 0 ([] : List Int).length ([] : List Int).length, vs 15 0 ([] : List Int).length ([] : List Int).length, vs 16 0 ([] : List Int).length ([] : List Int).length, vs 17 0 ([] : List Int).length ([] : List Int).length, vs 18 0 ([] : List Int).length ([] : List Int).length, vs 19 0 ([] : List Int).length ([] : List Int).length, vs 20 0 ([] : List Int).length ([] : List Int).length, vs 21 0 ([] : List Int).length ([] : List Int).length] 67), none, some κj, some (.cells (Za RA y0_0) 41), some κa, some κa, some κa, some κa, some κa, some κa, some κa, some κa, some κa, some κa, some κa, some κa, some κa, some κa, some κa, some κa, some κa] [(2, 41)] 0 ⟨(wk_c ⟨.inl rfl, ⟨.inl rfl, ⟨.inl rfl, ⟨.inl rfl, ⟨.inr ⟨rfl, _, rfl⟩, trivial⟩⟩⟩⟩⟩), ⟨(.inl rfl), ⟨(.inl rfl), ⟨(.inl rfl), ⟨(.inl rfl), ⟨(.inl rfl), ⟨(.inl rfl), ⟨(.inl rfl), ⟨(.inl rfl), ⟨(.inl rfl), ⟨(.inl rfl), ⟨(.inl rfl), ⟨(.inl rfl), ⟨(.inl rfl), ⟨(.inl rfl), ⟨(.inl rfl), ⟨(.inl rfl), ⟨(.inl rfl), ⟨(.inl rfl), ⟨(.inl rfl), ⟨(.inl rfl), ⟨(.inl rfl), trivial⟩⟩⟩⟩⟩⟩⟩⟩⟩⟩⟩⟩⟩⟩⟩⟩⟩⟩⟩⟩⟩⟩ (by rfl) (by rfl) rfl rfl (show ZZ (ZcO 1).2 = [] from rfl) (by kernel_rfl) (kK (ZmJ c1 [] 20) <| kK (Zoj c0 [] 0) Zm) rfl (by decide +kernel) (by rfl) ⟨rr, ⟨rr, ⟨⟨Eq.trans (show (vi ((0 : Nat) : Int) : Value) = vq from (congrArg (Value.int .i64) (by first | rfl | omega))) (by rfl), by rfl⟩, trivial⟩⟩⟩ ⟨sm, ⟨⟨rfl, ⟨[], (show ([vi a0, vs 3 0 ((i64.wrap ((16 : Int) + (1 : Int)))).toNat ((i64.wrap ((16 : Int) + (1 : Int)))).toNat, vs 4 0 y0_0.length y0_0.length, vs 5 0 0 0, vs 6 0 0 0, vs 7 0 0 0, vs 8 0 0 0, vs 9 0 0 0, vs 10 0 0 0, vs 11 0 0 0, vs 12 0 0 0, vs 13 0 0 0, vs 14 0 0 0, vs 15 0 0 0, vs 16 0 0 0, vs 17 0 0 0, vs 18 0 0 0, vs 19 0 0 0, vs 20 0 0 0, vs 21 0 0 0] : List Value) = _ from (Zj rfl (Zj (Zn rfl eqA eqA) (Zj rfl (Zj (Zn rfl eqA eqA) (Zj (Zn rfl eqA eqA) (Zj (Zn rfl eqA eqA) (Zj (Zn rfl eqA eqA) (Zj (Zn rfl eqA eqA) (Zj (Zn rfl eqA eqA) (Zj (Zn rfl eqA eqA) (Zj (Zn rfl eqA eqA) (Zj (Zn rfl eqA eqA) (Zj (Zn rfl eqA eqA) (Zj (Zn rfl eqA eqA) (Zj (Zn rfl eqA eqA) (Zj (Zn rfl eqA eqA) (Zj (Zn rfl eqA eqA) (Zj (Zn rfl eqA eqA) (Zj (Zn rfl eqA eqA) (Zj (Zn rfl eqA eqA) rfl)))))))))))))))))))).symm)⟩, by rfl⟩, ⟨(ZeV (E := RB) (α := RG) _ ((List.replicate ((i64.wrap ((16 : Int) + (1 : Int)))).toNat (⟨(0 : Int), (0 : Int), (0 : Int), (0 : Int), (0 : Int)⟩ : RG)).set ((i64.wrap ((1 : Int) - (1 : Int)))).toNat (⟨(1 : Int), (16 : Int), (255 : Int), (2 : Int), (0 : Int)⟩ : RG)) _), ⟨(ZeV (E := RA) (α := RF) _ y0_0 _), ⟨(ZD (E := eI) (α := Int) _ ([] : List Int) _), ⟨(ZD (E := eI) (α := Int) _ ([] : List Int) _), ⟨(ZD (E := eI) (α := Int) _ ([] : List Int) _), ⟨(ZD (E := eI) (α := Int) _ ([] : List Int) _), ⟨(ZD (E := eI) (α := Int) _ ([] : List Int) _), ⟨(ZD (E := eI) (α := Int) _ ([] : List Int) _), ⟨(ZD (E := eI) (α := Int) _ ([] : List Int) _), ⟨(ZD (E := eI) (α := Int) _ ([] : List Int) _), ⟨(ZD (E := eI) (α := Int) _ ([] : List Int) _), ⟨(ZD (E := eI) (α := Int) _ ([] : List Int) _), ⟨(ZD (E := eI) (α := Int) _ ([] : List Int) _), ⟨(ZD (E := eI) (α := Int) _ ([] : List Int) _), ⟨(ZD (E := eI) (α := Int) _ ([] : List Int) _), ⟨(ZD (E := eI) (α := Int) _ ([] : List Int) _), ⟨(ZD (E := eI) (α := Int) _ ([] : List Int) _), ⟨(ZD (E := eI) (α := Int) _ ([] : List Int) _), ⟨(ZD (E := eI) (α := Int) _ ([] : List Int) _), trivial⟩⟩⟩⟩⟩⟩⟩⟩⟩⟩⟩⟩⟩⟩⟩⟩⟩⟩⟩⟩⟩

theorem ZkX (a0 : Int) (L1 : List RJ) (N : Nat) (r : Zaj) (h : ZjA a0 L1 N = some r) : LSpec Try.prog 3 #[vi a0, ms RE L1] [] (ZiS a0 L1 r) (Zip a0 L1 r) :=
 Mach.spec Zq (ZcP a0 L1 N) Try.func3 (by kernel_rfl) (by kernel_rfl) (fun x => by cases x <;> exact Z8 _ rfl) (fun r => by cases r <;> exact Z8 _ rfl) (fun x => by
  cases x with
  | h1m0 _ _ _ _ _ _ _ => exact fun _ => (show ¬ (1 ∈ ZZ (ZcO 1).2) from by decide +kernel)
  ) (fun x => (show (ZcP a0 L1 N).Ok Try.prog Z1 x (ZbV a0 L1 N x) from by
  cases x with
  | h1m0 v1 v3 v4 v5 v7 v8 v9 => exact Zku a0 L1 v1 v3 v4 v5 v7 v8 v9 N
  )) (Zm7 a0 L1 N) (n := N) h

end Ev
end Go.Proofs.Ytomkpfibofpkbaa
namespace Go.Proofs.Ytomkpfibofpkbaa
open Go.RowKit
namespace Ev
section
variable {X R : Type} {step : X → Option (X ⊕ R)} {n : Nat} {x y : X} {r : R}
theorem ZbY (h : step x = some (.inl y)) : Zbn step (n + 1) x = Zbn step n y := by simp [Zbn, h]
theorem Zb7 (h : step x = some (.inr r)) : Zbn step (n + 1) x = some r := by simp [Zbn, h]
theorem Zfc {o : Option (X ⊕ R)} (h : o = some (.inl x)) : goM step n o = Zbn step n x := by subst h; rfl
theorem Zhy {o : Option (X ⊕ R)} (h : o = some (.inr r)) : goM step n o = some r := by subst h; rfl
end
section
variable {α : Type}
theorem ZiT {L : List α} {i : Nat} (h : i < L.length) (d : α) : L.take i ++ [L.getD i d] = L.take (i + 1) := by
 rw [List.take_succ_eq_append_getElem h, List.getD_eq_getElem?_getD, List.getElem?_eq_getElem h, Option.getD_some]
theorem Zqe {L : List α} {i : Nat} {v d : α} (h : i < L.length) : (L.set i v).getD i d = v := by simp [h]
theorem Zsz {L : List α} {i j : Nat} {v d : α} (h : i ≠ j) : (L.set i v).getD j d = L.getD j d := by simp [List.getElem?_set_ne h]
theorem Zv1 {L : List α} {i j : Nat} {v d : α} (h : i < L.length) : (L.set i v).getD j d = if j = i then v else L.getD j d := by
 by_cases e : j = i
 ·subst e; rw [if_pos rfl, Zqe h]
 ·rw [if_neg e, Zsz (fun h => e h.symm)]
theorem Zv2 {n i : Nat} {v d : α} (h : i < n) : (List.replicate n v).getD i d = v := by simp [h]
theorem ZkD {L M : List α} {i : Nat} {d : α} (h : i < L.length) : (L ++ M).getD i d = L.getD i d := by simp [List.getElem?_append_left h]
end
theorem ZL {α : Type} {c : Prop} [Decidable c] {a b r : α} (h1 : c → a = r) (h2 : ¬ c → b = r) : (if c then a else b) = r := by
 by_cases h : c
 ·rw [if_pos h]; exact h1 h
 ·rw [if_neg h]; exact h2 h
theorem Zb {α : Type} {c : Prop} [Decidable c] {a b r : α} (h : c) (e : a = r) : (if c then a else b) = r := by rw [if_pos h]; exact e
theorem Zi {α : Type} {c : Prop} [Decidable c] {a b r : α} (h : ¬ c) (e : b = r) : (if c then a else b) = r := by rw [if_neg h]; exact e
theorem Zh {α β : Type} {o : Option α} {a : α} {k : α → Option β} {r : Option β} (h : o = some a) (e : k a = r) : o.bind k = r := by rw [h]; exact e
theorem w64 {x : Int} (h1 : -9223372036854775808 ≤ x) (h2 : x ≤ 9223372036854775807) : IntKind.i64.wrap x = x := wrap_i64 ⟨h1, h2⟩
set_option linter.unusedVariables false
set_option linter.unusedSimpArgs false
set_option maxRecDepth 100000
namespace Hl
abbrev PA := RI
def pl (p : PA) : RG := ⟨p.a3, p.a4, p.a5, p.a6, p.a7⟩
def hd (L : List PA) : List RG := L.flatMap fun p => pl p :: List.replicate p.a4.toNat RG.z
def vl (L : List PA) : List RF := L.flatMap fun p => RF.z :: p.a8
def sz (L : List PA) : Nat := (hd L).length
structure Pl (a g : Int) (p : PA) : Prop where
 ad : p.a0 = a
 f1 : 1 ≤ p.a4
 f2 : p.a4 ≤ 16
 fl : (p.a8.length : Int) = p.a4
 k : p.a1 = 2
 n : p.a2 = p.a3 * 1048576 + p.a0
 g1 : 1 ≤ p.a3
 g2 : p.a3 ≤ g
 m0 : 0 ≤ p.a5
def Ok (g : Int) : Int → List PA → Prop
 | _, [] => True
 | a, p :: L => Pl a g p ∧ Ok g (a + 1 + p.a4) L
theorem Zmc (A B : List PA) : hd (A ++ B) = hd A ++ hd B := by simp [hd]
theorem Zgn (A B : List PA) : vl (A ++ B) = vl A ++ vl B := by simp [vl]
theorem Zg1 (p : PA) (B : List PA) : hd (p :: B) = pl p :: (List.replicate p.a4.toNat RG.z ++ hd B) := by simp [hd]
theorem ZeG (p : PA) (B : List PA) : vl (p :: B) = RF.z :: (p.a8 ++ vl B) := by simp [vl]
theorem Zo3 (A B : List PA) : sz (A ++ B) = sz A + sz B := by simp [sz, Zmc]
theorem ZeH (p : PA) (B : List PA) : sz (p :: B) = 1 + p.a4.toNat + sz B := by simp [sz, Zg1]; omega
theorem Ok.split {g : Int} : ∀ {A : List PA} {a : Int} {p : PA} {B : List PA}, Ok g a (A ++ p :: B) → Ok g a A ∧ Pl (a + sz A) g p ∧ Ok g (a + sz A + 1 + p.a4) B
 | [], a, p, B, h => ⟨trivial, by have : (sz [] : Int) = 0 := rfl; rw [this, Int.add_zero]; exact h.1, by have : (sz [] : Int) = 0 := rfl; rw [this, Int.add_zero]; exact h.2⟩
 | q :: A, a, p, B, h => by
  have h1 : Pl a g q := h.1
  obtain ⟨h2, h3, h4⟩ := Ok.split (A := A) h.2
  have e : a + 1 + q.a4 + (sz A : Int) = a + (sz (q :: A) : Int) := by rw [ZeH]; have := h1.f1; omega
  rw [e] at h3 h4
  exact ⟨⟨h1, h2⟩, h3, h4⟩
theorem Ok.join {g : Int} : ∀ {A : List PA} {a : Int} {p : PA} {B : List PA}, Ok g a A → Pl (a + sz A) g p → Ok g (a + sz A + 1 + p.a4) B → Ok g a (A ++ p :: B)
 | [], a, p, B, _, h1, h2 => by have e : (sz [] : Int) = 0 := rfl; rw [e, Int.add_zero] at h1 h2; exact ⟨h1, h2⟩
 | q :: A, a, p, B, h, h1, h2 => by
  have e : a + 1 + q.a4 + (sz A : Int) = a + (sz (q :: A) : Int) := by rw [ZeH]; have := h.1.f1; omega
  rw [← e] at h1 h2
  exact ⟨h.1, Ok.join (A := A) h.2 h1 h2⟩
theorem Ok.up {g g' : Int} (hg : g ≤ g') : ∀ {L : List PA} {a : Int}, Ok g a L → Ok g' a L
 | [], _, _ => trivial
 | p :: L, a, h => ⟨{ h.1 with g2 := Int.le_trans h.1.g2 hg }, Ok.up hg h.2⟩
theorem Zgo {g : Int} : ∀ {L : List PA} {a : Int}, Ok g a L → (vl L).length = sz L
 | [], _, _ => rfl
 | p :: L, a, h => by
  have := Zgo h.2
  have := h.1.fl
  rw [ZeG, ZeH, List.length_cons, List.length_append]; omega
theorem Zfd {L : List PA} {k : Nat} (h : k < L.length) : L = L.take k ++ L.getD k RI.z :: L.drop (k + 1) := by
 rw [List.getD_eq_getElem?_getD, List.getElem?_eq_getElem h, Option.getD_some, ← List.drop_eq_getElem_cons h, List.take_append_drop]
theorem ZrG {A B : List PA} {p q : PA} : (A ++ p :: B).set A.length q = A ++ q :: B := by
 rw [List.set_append_right _ _ (by simp)]; simp
theorem Zu4 (A : List PA) (p : PA) (B : List PA) : (hd (A ++ p :: B)).getD (sz A) RG.z = pl p := by
 rw [Zmc, Zg1]; simp [sz]
theorem ZwD (A : List PA) (p q : PA) (B : List PA) (h : q.a4 = p.a4) : (hd (A ++ p :: B)).set (sz A) (pl q) = hd (A ++ q :: B) := by
 rw [Zmc, Zmc, Zg1, Zg1, h, List.set_append_right _ _ (by simp [sz])]; simp [sz]
theorem ZsP {g : Int} : ∀ {L : List PA} {a : Int}, Ok g a L → ∀ j, j < sz L → (∃ A p B, L = A ++ p :: B ∧ j = sz A) ∨ (hd L).getD j RG.z = RG.z
 | [], _, _, j, h => by simp [sz, hd] at h
 | p :: L, a, hk, j, h => by
  rcases Nat.eq_zero_or_pos j with rfl | h0
  ·exact .inl ⟨[], p, L, rfl, rfl⟩
  ·rw [ZeH] at h
   rcases Nat.lt_or_ge j (1 + p.a4.toNat) with h1 | h1
   ·right
    rw [Zg1]
    obtain ⟨i, rfl⟩ : ∃ i, j = i + 1 := ⟨j - 1, by omega⟩
    rw [List.getD_cons_succ, ZkD (by simp; omega)]
    exact Zv2 (by omega)
   ·rcases ZsP hk.2 (j - (1 + p.a4.toNat)) (by omega) with ⟨A, q, B, e1, e2⟩ | e
    ·exact .inl ⟨p :: A, q, B, by rw [e1]; rfl, by rw [ZeH]; omega⟩
    ·right
     rw [Zg1]
     obtain ⟨i, rfl⟩ : ∃ i, j = i + 1 := ⟨j - 1, by omega⟩
     rw [List.getD_cons_succ, List.getD_eq_getElem?_getD, List.getElem?_append_right (by simp; omega), ← List.getD_eq_getElem?_getD]
     simpa [show i - p.a4.toNat = i + 1 - (1 + p.a4.toNat) by omega] using e
theorem ZwE {A : List PA} {p : PA} {B : List PA} {f : Nat} (hA : (vl A).length = sz A) (hf : f < p.a8.length) (d : RF) : (vl (A ++ p :: B)).getD (sz A + 1 + f) d = p.a8.getD f d := by
 rw [Zgn, ZeG, List.getD_eq_getElem?_getD, List.getElem?_append_right (by omega), hA, show sz A + 1 + f - sz A = f + 1 by omega, List.getElem?_cons_succ, List.getElem?_append_left hf, ← List.getD_eq_getElem?_getD]
theorem ZwF {A : List PA} {p q : PA} {B : List PA} {f : Nat} {v : RF} (hA : (vl A).length = sz A) (hf : f < p.a8.length) (hq : q.a8 = p.a8.set f v) : (vl (A ++ p :: B)).set (sz A + 1 + f) v = vl (A ++ q :: B) := by
 rw [Zgn, Zgn, ZeG, ZeG, hq, List.set_append_right _ _ (by omega), hA, show sz A + 1 + f - sz A = f + 1 by omega, List.set_cons_succ, List.set_append_left _ _ (by omega)]
/-! ### find -/
def hit (K N : Int) (p : PA) : Prop := p.a1 = K ∧ p.a2 = N ∧ ¬ p.a6 = 0
theorem ZpB {w : Int} {L : List PA} {Fr : List Int} {K Q : Int} {N : Nat} (hL : L.length ≤ 100000) : ∀ (m v n : Nat), L.length - v = m → m < n →
  (∃ k, v ≤ k ∧ k < L.length ∧ hit K Q (L.getD k RI.z) ∧ Zbn (ZbU w L Fr K Q N) n (.h1m0 v) = some (.r0 (k : Int) 0)) ∨
  ((∀ k, v ≤ k → k < L.length → ¬ hit K Q (L.getD k RI.z)) ∧ Zbn (ZbU w L Fr K Q N) n (.h1m0 v) = some (.r0 0 21))
 | 0, v, n, hm, hn => by
  obtain ⟨n, rfl⟩ : ∃ m, n = m + 1 := ⟨n - 1, by omega⟩
  exact .inr ⟨fun k h1 h2 => by omega, Zb7 (show ZcJ w L Fr K Q N v = _ from Zi (by omega) rfl)⟩
 | m + 1, v, n, hm, hn => by
  obtain ⟨n, rfl⟩ : ∃ m, n = m + 1 := ⟨n - 1, by omega⟩
  by_cases h : hit K Q (L.getD v RI.z)
  ·exact .inl ⟨v, Nat.le_refl _, by omega, h, Zb7 (show ZcJ w L Fr K Q N v = _ from Zb (by omega) <| Zb ⟨h.1, h.2.1⟩ <| Zb h.2.2 rfl)⟩
  ·have hs : ZbU w L Fr K Q N (.h1m0 v) = some (.inl (.h1m0 (v + 1))) := show ZcJ w L Fr K Q N v = _ from
    Zb (by omega) <| ZL (fun h1 => Zi (fun h2 => h ⟨h1.1, h1.2, h2⟩) <| Zb (by omega) rfl) (fun _ => Zb (by omega) rfl)
   rcases ZpB hL m (v + 1) n (by omega) (by omega) with ⟨k, h1, h2, h3, h4⟩ | ⟨h1, h2⟩
   ·exact .inl ⟨k, by omega, h2, h3, (ZbY hs).trans h4⟩
   ·refine .inr ⟨fun k q1 q2 => ?_, (ZbY hs).trans h2⟩
    rcases Nat.eq_or_lt_of_le q1 with rfl | q3
    ·exact h
    ·exact h1 k q3 q2
theorem Ok.at_ {g : Int} {L : List PA} (hk : Ok g 1 L) {k : Nat} (h : k < L.length) : Pl (1 + sz (L.take k)) g (L.getD k RI.z) ∧ (sz (L.take k) : Int) + 1 + (L.getD k RI.z).a4 ≤ sz L ∧ (hd L).getD (sz (L.take k)) RG.z = pl (L.getD k RI.z) := by
 have e := Zfd h
 have hk' := hk
 rw [e] at hk'
 obtain ⟨h1, h2, h3⟩ := hk'.split
 refine ⟨h2, ?_, ?_⟩
 ·have : sz L = sz (L.take k) + (1 + (L.getD k RI.z).a4.toNat + sz (L.drop (k + 1))) := by
   conv => lhs; rw [e]
   rw [Zo3, ZeH]
  have := h2.f1
  omega
 ·have q := Zu4 (L.take k) (L.getD k RI.z) (L.drop (k + 1))
  rwa [← e] at q
def isR (Q : Int) : Prop := 1048576 ≤ Q ∧ Q / 1048576 ≤ 1073741824 ∧ 1 ≤ Q % 1048576
instance (Q : Int) : Decidable (isR Q) := by unfold isR; infer_instance
theorem find2 {g w : Int} {L : List PA} {Fr : List Int} {K Q : Int} {N : Nat} (V : List RF) (W : Nat → List Int) (hk : Ok g 1 L) (hs : sz L ≤ 65536) (hQ : Q ≤ 9223372036854775807) (hN : L.length < N) (hN' : L.length ≤ 100000) :
  ∃ e x k, Zao K Q w (hd L) V W N = some (.r0 x e) ∧ Zax w L Fr K Q N = some (.r0 k e) ∧ (e = 0 → 0 ≤ k ∧ k.toNat < L.length ∧ x = (L.getD k.toNat RI.z).a0 ∧ ¬ (L.getD k.toNat RI.z).a6 = 0) := by
 by_cases hK : ¬ K = 2
 ·exact ⟨10, 0, 0, Zb hK rfl, Zhy (Zb hK rfl), fun h => by cases h⟩
 have hK : K = 2 := Decidable.not_not.1 hK
 by_cases h0 : Q = 0
 ·exact ⟨11, 0, 0, Zi (fun h => h hK) <| Zi (fun h => h h0) rfl, Zhy (Zi (fun h => h hK) <| Zb h0 rfl), fun h => by cases h⟩
 by_cases hi : ¬ isR Q
 ·refine ⟨10, 0, 0, Zi (fun h => h hK) <| Zb h0 ?_, Zhy (Zi (fun h => h hK) <| Zi h0 ?_), fun h => by cases h⟩
  ·unfold isR at hi
   exact ZL (fun h => Zb (by omega) <| ZL (fun h1 => ZL (fun h2 => Zi (by omega) rfl) fun _ => rfl) fun _ => rfl) fun _ => rfl
  ·unfold isR at hi
   exact ZL (fun h => Zb (by omega) <| ZL (fun h1 => Zi (by omega) rfl) fun _ => rfl) fun _ => rfl
 obtain ⟨i1, i2, i3⟩ := Decidable.not_not.1 hi
 have hdoc : ∀ {r}, Zbn (ZbU w L Fr K Q N) N (.h1m0 0) = some r → Zax w L Fr K Q N = some r := fun h =>
  (Zfc (Zi (fun h => h hK) <| Zi h0 <| Zb i1 <| Zb (by omega) <| Zb i2 <| Zb i3 rfl)).trans h
 have hprog : ∀ {r}, (if ((hd L).length : Int) < Q % 1048576 then some (.r0 0 21 : Zai) else if ¬ ((hd L).getD (Q % 1048576 - 1).toNat RG.z).a0 = Q / 1048576 then some (.r0 0 21) else if ((hd L).getD (Q % 1048576 - 1).toNat RG.z).a3 = 0 then some (.r0 0 21) else some (.r0 (Q % 1048576) 0)) = some r → Zao K Q w (hd L) V W N = some r := fun h =>
  Zi (fun h => h hK) <| Zb h0 <| Zb (by omega) <| Zb (by omega) <| Zb (by omega) <| Zb i2 <| Zb i3 h
 rcases ZpB (w := w) (Fr := Fr) (K := K) (Q := Q) (N := N) hN' L.length 0 N (by omega) hN with ⟨k, _, k2, ⟨k3, k4, k5⟩, k6⟩ | ⟨h1, h2⟩
 ·obtain ⟨p1, p2, p3⟩ := hk.at_ k2
  have q1 := p1.ad; have q2 := p1.n; have q3 := p1.g1; have q4 := p1.f1
  have e1 : Q % 1048576 = (L.getD k RI.z).a0 := by rw [k4] at q2; omega
  have e2 : Q / 1048576 = (L.getD k RI.z).a3 := by rw [k4] at q2; omega
  refine ⟨0, Q % 1048576, (k : Int), hprog ?_, hdoc k6, fun _ => ⟨by omega, by simpa using k2, by simpa using e1, by simpa using k5⟩⟩
  have e3 : (Q % 1048576 - 1).toNat = sz (L.take k) := by omega
  rw [e3, p3]
  exact Zi (by show ¬ ((sz L : Int) < _); omega) <| Zi (fun h => h e2.symm) <| Zi k5 rfl
 ·refine ⟨21, 0, 0, hprog ?_, hdoc h2, fun h => by cases h⟩
  refine ZL (fun _ => rfl) fun hl => ?_
  have hl : ¬ ((sz L : Int) < Q % 1048576) := hl
  rcases ZsP hk (Q % 1048576 - 1).toNat (by omega) with ⟨A, p, B, e1, e2⟩ | e
  ·subst e1
   obtain ⟨_, p1, _⟩ := hk.split
   have hp : (A ++ p :: B).getD A.length RI.z = p := by simp
   have hm := h1 A.length (by omega) (by simp)
   rw [hp] at hm
   have hg := Zu4 A p B
   rw [e2, hg]
   refine ZL (fun _ => rfl) fun h3 => Zb ?_ rfl
   have h3 : p.a3 = Q / 1048576 := Decidable.not_not.1 h3
   show p.a6 = 0
   by_cases h4 : p.a6 = 0
   ·exact h4
   ·exfalso
    have q1 := p1.ad; have q2 := p1.n
    exact hm ⟨p1.k.trans hK.symm, by omega, h4⟩
  ·rw [e]
   exact Zb (by show ¬ ((0 : Int) = _); omega) rfl
end Hl
end Ev
end Go.Proofs.Ytomkpfibofpkbaa
namespace Go.Proofs.Ytomkpfibofpkbaa
open Go.IntKind (i64)
open Go.RowKit
namespace Ev
set_option linter.unusedVariables false
set_option linter.unusedSimpArgs false
set_option maxRecDepth 100000
namespace Hl
/-! ### A new object's fields -/
def fr (n : Nat) (m : Int) : List RF := (List.range n).map fun f => if m / 2 ^ f % 2 = 1 then ⟨2, 0⟩ else ⟨1, 0⟩
theorem Zmd (n : Nat) (m : Int) : (fr n m).length = n := by simp [fr]
theorem Zhz (n : Nat) (m : Int) : fr (n + 1) m = fr n m ++ [if m / 2 ^ n % 2 = 1 then (⟨2, 0⟩ : RF) else ⟨1, 0⟩] := by simp [fr, List.range_succ]
theorem half (m : Int) (v : Nat) : m / 2 ^ v / 2 = m / 2 ^ (v + 1) := by
 rw [Int.pow_succ, Int.ediv_ediv_of_nonneg (Int.pow_nonneg (by decide))]
theorem Zn1 (v : Nat) : (0 : Int) < 2 ^ v := Int.pow_pos (by decide)
theorem Zo4 {a0 a1 : Int} {N : Nat} (h0 : 0 ≤ a1) (h2 : a1 ≤ 65536) (hn : a0 ≤ 16) : ∀ (m v n : Nat), (v : Int) + m = a0 → 0 < v → m < n → Zbn (Zb5 a0 a1 N) n (.h1m1 (a1 / 2 ^ v) (fr v a1) v) = some (.r1 (fr a0.toNat a1))
 | 0, v, n, hv, hp, hm => by
  obtain ⟨n, rfl⟩ : ∃ m, n = m + 1 := ⟨n - 1, by omega⟩
  obtain rfl : v = a0.toNat := by omega
  exact Zb7 (show Zdx a0 a1 N _ _ _ = _ from Zi (by omega) rfl)
 | m + 1, v, n, hv, hp, hm => by
  obtain ⟨n, rfl⟩ : ∃ m, n = m + 1 := ⟨n - 1, by omega⟩
  have hd0 : 0 ≤ a1 / 2 ^ v := Int.ediv_nonneg h0 (Int.le_of_lt (Zn1 v))
  have hd1 : a1 / 2 ^ v ≤ a1 := Int.ediv_le_self _ h0
  have hs : Zb5 a0 a1 N (.h1m1 (a1 / 2 ^ v) (fr v a1) v) = some (.inl (.h1m1 (a1 / 2 ^ (v + 1)) (fr (v + 1) a1) (v + 1))) := by
   show Zdx a0 a1 N _ _ _ = _
   refine Zb (by omega) <| Zb hd0 <| ZL (fun hb => Zb (by rw [Zmd]; omega) <| Zb (by omega) <| Zb (by omega) ?_) (fun hb => Zb (by rw [Zmd]; omega) <| Zb (by omega) <| Zb (by omega) ?_)
   ·rw [half, Zhz, if_pos hb]
   ·rw [half, Zhz, if_neg hb]
  exact (ZbY hs).trans (Zo4 h0 h2 hn m (v + 1) n (by omega) (by omega) (by omega))
theorem Zn2 {a0 a1 : Int} {N : Nat} (h1 : 1 ≤ a0) (hn : a0 ≤ 16) (h0 : 0 ≤ a1) (h2 : a1 ≤ 65536) (hN : 20 ≤ N) : ZbD a0 a1 N = some (.r1 (fr a0.toNat a1)) := by
 obtain ⟨n, rfl⟩ : ∃ m, N = m + 1 := ⟨N - 1, by omega⟩
 have hs : Zb5 a0 a1 (n + 1) .h1m0 = some (.inl (.h1m1 (a1 / 2 ^ 1) (fr 1 a1) 1)) := by
  show Zew a0 a1 (n + 1) = _
  have e : a1 / 2 ^ 1 = a1 / 2 := by simp
  have f : fr 1 a1 = [if a1 % 2 = 1 then (⟨2, 0⟩ : RF) else ⟨1, 0⟩] := by simp [fr]
  rw [e, f]
  refine Zb (by omega) <| Zb h0 <| ZL (fun hb => Zb (by omega) ?_) (fun hb => Zb (by omega) ?_)
  ·rw [if_pos hb]
  ·rw [if_neg hb]
 exact (Zfc rfl).trans ((ZbY hs).trans (Zo4 h0 h2 hn (a0.toNat - 1) 1 n (by omega) (by omega) (by omega)))

/-! ### fill_2 -/
theorem ZmR {a0 a1 a2 a3 a4 a5 a6 : Int} {L7 : List RG} {L8 : List RF} {W : Nat → List Int} {N : Nat} {P Q : List RF} (h1 : 1 ≤ a0) (ha : a0 ≤ 1000000) (hP : (P.length : Int) = a0) (hn : a2 ≤ 16) : ∀ (m v n : Nat) (S : List RF), S.length = m → (v : Int) + m = a2 → m < n →
  Zbn (Zby a0 a1 a2 a3 a4 a5 a6 L7 L8 W N) n (.h1m0 (P ++ (fr v a3 ++ (S ++ Q))) v) = some (.r0 (P ++ (fr a2.toNat a3 ++ Q)))
 | 0, v, n, [], _, hv, hm => by
  obtain ⟨n, rfl⟩ : ∃ m, n = m + 1 := ⟨n - 1, by omega⟩
  obtain rfl : v = a2.toNat := by omega
  exact Zb7 (show Zbo a0 a1 a2 a3 a4 a5 a6 L7 L8 W N _ _ = _ from Zi (by omega) rfl)
 | m + 1, v, n, x :: S, hS, hv, hm => by
  obtain ⟨n, rfl⟩ : ∃ m, n = m + 1 := ⟨n - 1, by omega⟩
  have hw : i64.wrap (a0 + (v : Int)) = a0 + v := w64 (by omega) (by omega)
  have hlen : (P ++ (fr v a3 ++ (x :: S ++ Q))).length = P.length + (v + (S.length + 1 + Q.length)) := by simp [fr]; omega
  have hset : ∀ y, (P ++ (fr v a3 ++ (x :: S ++ Q))).set (a0 + (v : Int)).toNat y = P ++ (fr v a3 ++ [y] ++ (S ++ Q)) := fun y => by
   rw [List.set_append_right _ _ (by omega), List.set_append_right _ _ (by simp [fr]; omega), show (a0 + (v : Int)).toNat - P.length - (fr v a3).length = 0 by simp [fr]; omega]
   simp
  have hs : Zby a0 a1 a2 a3 a4 a5 a6 L7 L8 W N (.h1m0 (P ++ (fr v a3 ++ (x :: S ++ Q))) v) = some (.inl (.h1m0 (P ++ (fr (v + 1) a3 ++ (S ++ Q))) (v + 1))) := by
   show Zbo a0 a1 a2 a3 a4 a5 a6 L7 L8 W N _ _ = _
   unfold Zbo
   rw [hw]
   refine Zb (by omega) <| Zb (by omega) <| ZL (fun hb => Zb (by omega) <| Zb (by omega) ?_) (fun hb => Zb (by omega) <| Zb (by omega) ?_)
   ·rw [hset, Zhz, if_pos hb]
   ·rw [hset, Zhz, if_neg hb]
  exact (ZbY hs).trans (ZmR h1 ha hP hn m (v + 1) n S (by simpa using hS) (by omega) (by omega))
theorem ZpC {a0 a1 a2 a3 a4 a5 a6 : Int} {L7 : List RG} {W : Nat → List Int} {N : Nat} {P S Q : List RF} (h1 : 1 ≤ a0) (ha : a0 ≤ 1000000) (hP : (P.length : Int) = a0) (hS : (S.length : Int) = a2) (hn : a2 ≤ 16) (hL : a0 ≤ L7.length) (hN : 20 ≤ N) :
  Zbs a0 a1 a2 a3 a4 a5 a6 L7 (P ++ (S ++ Q)) W N = some (.r0 (P ++ (fr a2.toNat a3 ++ Q))) := by
 have hw : i64.wrap (a0 - 1) = a0 - 1 := w64 (by omega) (by omega)
 refine (Zfc (x := .h1m0 (P ++ (S ++ Q)) 0) ?_).trans ?_
 ·unfold ZdE
  rw [hw]
  exact Zb (by omega) <| Zb (by omega) rfl
 ·exact ZmR (L8 := P ++ (S ++ Q)) h1 ha hP hn S.length 0 N S rfl (by omega) (by omega)

/-! ### fill -/
theorem ZpD {a0 a1 a2 a3 a4 a5 a6 : Int} {L7 : List RG} {L8 : List RF} {N : Nat} {P Q : List RF} (h1 : 1 ≤ a0) (ha : a0 ≤ 1000000) (hP : (P.length : Int) = a0) (hn : a2 ≤ 16) : ∀ (m v n : Nat) (S : List RF), S.length = m → (v : Int) + m = a2 → m < n →
  Zbn (ZbR a0 a1 a2 a3 a4 a5 a6 L7 L8 N) n (.h1m0 (P ++ (fr v a3 ++ (S ++ Q))) v) = some (.r0 (P ++ (fr a2.toNat a3 ++ Q)))
 | 0, v, n, [], _, hv, hm => by
  obtain ⟨n, rfl⟩ : ∃ m, n = m + 1 := ⟨n - 1, by omega⟩
  obtain rfl : v = a2.toNat := by omega
  exact Zb7 (show Zb9 a0 a1 a2 a3 a4 a5 a6 L7 L8 N _ _ = _ from Zi (by omega) rfl)
 | m + 1, v, n, x :: S, hS, hv, hm => by
  obtain ⟨n, rfl⟩ : ∃ m, n = m + 1 := ⟨n - 1, by omega⟩
  have hw : i64.wrap (a0 + (v : Int)) = a0 + v := w64 (by omega) (by omega)
  have hlen : (P ++ (fr v a3 ++ (x :: S ++ Q))).length = P.length + (v + (S.length + 1 + Q.length)) := by simp [fr]; omega
  have hset : ∀ y, (P ++ (fr v a3 ++ (x :: S ++ Q))).set (a0 + (v : Int)).toNat y = P ++ (fr v a3 ++ [y] ++ (S ++ Q)) := fun y => by
   rw [List.set_append_right _ _ (by omega), List.set_append_right _ _ (by simp [fr]; omega), show (a0 + (v : Int)).toNat - P.length - (fr v a3).length = 0 by simp [fr]; omega]
   simp
  have hs : ZbR a0 a1 a2 a3 a4 a5 a6 L7 L8 N (.h1m0 (P ++ (fr v a3 ++ (x :: S ++ Q))) v) = some (.inl (.h1m0 (P ++ (fr (v + 1) a3 ++ (S ++ Q))) (v + 1))) := by
   show Zb9 a0 a1 a2 a3 a4 a5 a6 L7 L8 N _ _ = _
   unfold Zb9
   rw [hw]
   refine Zb (by omega) <| Zb (by omega) <| ZL (fun hb => Zb (by omega) <| Zb (by omega) ?_) (fun hb => Zb (by omega) <| Zb (by omega) ?_)
   ·rw [hset, Zhz, if_pos hb]
   ·rw [hset, Zhz, if_neg hb]
  exact (ZbY hs).trans (ZpD h1 ha hP hn m (v + 1) n S (by simpa using hS) (by omega) (by omega))
theorem Zwj {a0 a1 a2 a3 a4 a5 a6 : Int} {L7 : List RG} {N : Nat} {P S Q : List RF} (h1 : 1 ≤ a0) (ha : a0 ≤ 1000000) (hP : (P.length : Int) = a0) (hS : (S.length : Int) = a2) (hn : a2 ≤ 16) (hL : a0 ≤ L7.length) (hN : 20 ≤ N) :
  Zeb a0 a1 a2 a3 a4 a5 a6 L7 (P ++ (S ++ Q)) N = some (.r0 (P ++ (fr a2.toNat a3 ++ Q))) := by
 have hw : i64.wrap (a0 - 1) = a0 - 1 := w64 (by omega) (by omega)
 refine (Zfc (x := .h1m0 (P ++ (S ++ Q)) 0) ?_).trans ?_
 ·unfold Zev
  rw [hw]
  exact Zb (by omega) <| Zb (by omega) rfl
 ·exact ZpD (L8 := P ++ (S ++ Q)) h1 ha hP hn S.length 0 N S rfl (by omega) (by omega)

/-! ### Used -/
theorem ZpE {g w : Int} {L : List PA} {Fr : List Int} {N : Nat} (hk : Ok g 1 L) (hs : sz L ≤ 65536) (hL : L.length ≤ 100000) : ∀ (m v n : Nat), v + m = L.length → m < n → Zbn (Zdn w L Fr N) n (.h1m0 (sz (L.take v) : Int) v) = some (.r0 (sz L : Int))
 | 0, v, n, hv, hm => by
  obtain ⟨n, rfl⟩ : ∃ m, n = m + 1 := ⟨n - 1, by omega⟩
  rw [List.take_of_length_le (by omega)]
  exact Zb7 (show ZcI w L Fr N _ _ = _ from Zi (by omega) rfl)
 | m + 1, v, n, hv, hm => by
  obtain ⟨n, rfl⟩ : ∃ m, n = m + 1 := ⟨n - 1, by omega⟩
  obtain ⟨p1, p2, _⟩ := hk.at_ (k := v) (by omega)
  have e : sz (L.take (v + 1)) = sz (L.take v) + (1 + (L.getD v RI.z).a4.toNat) := by
   rw [← ZiT (i := v) (by omega) RI.z, Zo3, ZeH]
   have : sz [] = 0 := rfl
   omega
  have f1 := p1.f1; have f2 := p1.f2
  have hs' : Zdn w L Fr N (.h1m0 (sz (L.take v) : Int) v) = some (.inl (.h1m0 (sz (L.take (v + 1)) : Int) (v + 1))) := by
   show ZcI w L Fr N _ _ = _
   unfold ZcI
   rw [w64 (x := (sz (L.take v) : Int) + 1) (by omega) (by omega), w64 (by omega) (by omega), show (sz (L.take v) : Int) + 1 + (L.getD v RI.z).a4 = (sz (L.take (v + 1)) : Int) by omega]
   exact Zb (by omega) <| Zb (by omega) rfl
  exact (ZbY hs').trans (ZpE hk hs hL m (v + 1) n (by omega) (by omega))
theorem ZsQ {g w : Int} {L : List PA} {Fr : List Int} {N : Nat} (hk : Ok g 1 L) (hs : sz L ≤ 65536) (hL : L.length ≤ 1000) (hN : 2000 ≤ N) : Zcd w L Fr N = some (.r0 (sz L : Int)) :=
 (Zfc rfl).trans (ZpE hk hs (by omega) L.length 0 N (by omega) (by omega))
/-! ### Rows that are the same -/
theorem ZpF {l : List RF} {N : Nat} (hl : l.length ≤ 1000) : ∀ (m v n : Nat), v + m = l.length → m < n → Zbn (Zec l l N) n (.h1m0 v) = some (.r0 true)
 | 0, v, n, hv, hm => by
  obtain ⟨n, rfl⟩ : ∃ m, n = m + 1 := ⟨n - 1, by omega⟩
  exact Zb7 (show ZdH l l N _ = _ from Zi (by omega) rfl)
 | m + 1, v, n, hv, hm => by
  obtain ⟨n, rfl⟩ : ∃ m, n = m + 1 := ⟨n - 1, by omega⟩
  exact (ZbY (show ZdH l l N v = _ from Zb (by omega) <| Zb (by omega) <| Zi (fun h => h ⟨rfl, rfl⟩) <| Zb (by omega) rfl)).trans (ZpF hl m (v + 1) n (by omega) (by omega))
theorem Zwk {l : List RF} {N : Nat} (hl : l.length ≤ 1000) (hN : 2000 ≤ N) : Zgf l l N = some (.r0 true) := (Zfc (Zi (fun h => h rfl) rfl)).trans (ZpF hl l.length 0 N (by omega) (by omega))
theorem ZrH {l : List RH} {N : Nat} (hl : l.length ≤ 1000) (hf : ∀ x ∈ l, x.a7.length ≤ 1000) (hN : 2000 ≤ N) : ∀ (m v n : Nat), v + m = l.length → m < n → Zbn (ZcX l l N) n (.h1m0 v) = some (.r0 true)
 | 0, v, n, hv, hm => by
  obtain ⟨n, rfl⟩ : ∃ m, n = m + 1 := ⟨n - 1, by omega⟩
  exact Zb7 (show Zc8 l l N _ = _ from Zi (by omega) rfl)
 | m + 1, v, n, hv, hm => by
  obtain ⟨n, rfl⟩ : ∃ m, n = m + 1 := ⟨n - 1, by omega⟩
  have hx : (l.getD v RH.z).a7.length ≤ 1000 := by
   rw [List.getD_eq_getElem?_getD, List.getElem?_eq_getElem (by omega), Option.getD_some]
   exact hf _ (List.getElem_mem _)
  exact (ZbY (show Zc8 l l N v = _ from Zb (by omega) <| Zb (by omega) <| Zb ⟨rfl, rfl⟩ <| Zb ⟨rfl, rfl, rfl, rfl, rfl⟩ <| Zh (Zwk hx hN) <| Zi (fun h => h rfl) <| Zb (by omega) rfl)).trans (ZrH hl hf hN m (v + 1) n (by omega) (by omega))
theorem ZwG {l : List RH} {N : Nat} (hl : l.length ≤ 1000) (hf : ∀ x ∈ l, x.a7.length ≤ 1000) (hN : 2000 ≤ N) : ZbL l l N = some (.r0 true) := (Zfc (Zi (fun h => h rfl) rfl)).trans (ZrH hl hf hN l.length 0 N (by omega) (by omega))
/-! ### Objects -/
def ob (p : PA) : RH := ⟨p.a1, p.a2, p.a3, p.a4, p.a5, p.a6, p.a7, p.a8⟩
def fl (L : List PA) : List RH := (L.filter fun p => !(p.a6 == 0)).map ob
theorem ZsR (L : List PA) (p : PA) : fl (L ++ [p]) = if p.a6 = 0 then fl L else fl L ++ [ob p] := by
 unfold fl
 rw [List.filter_append, List.map_append]
 by_cases h : p.a6 = 0 <;> simp [h]
theorem ZrI (L : List PA) : (fl L).length ≤ L.length := by unfold fl; rw [List.length_map]; exact List.length_filter_le _ _
def obD : List RH → Zap
 | [] => .r0
 | l => .r1 l
def obP : List RH → heap_Heap_ObjectsR
 | [] => .r0
 | l => .r1 l
def stD (l : List RH) (v : Nat) : ZE := match l with
 | [] => .h1m0 v
 | l => .h1m1 l v
def stP (l : List RH) (v : Int) : heap_Heap_ObjectsX := match l with
 | [] => .h1m0 v
 | l => .h1m1 v l
theorem ZpG {w : Int} {L : List PA} {Fr : List Int} {N : Nat} (hL : L.length ≤ 1000) : ∀ (m v n : Nat), v + m = L.length → m < n → Zbn (Zb1 w L Fr N) n (stD (fl (L.take v)) v) = some (obD (fl L))
 | 0, v, n, hv, hm => by
  obtain ⟨n, rfl⟩ : ∃ m, n = m + 1 := ⟨n - 1, by omega⟩
  rw [List.take_of_length_le (by omega)]
  refine Zb7 ?_
  cases h : fl L with
  | nil => exact (show Zc6 w L Fr N v = _ from Zi (by omega) rfl)
  | cons x l => exact (show Zc7 w L Fr N (x :: l) v = _ from Zi (by omega) rfl)
 | m + 1, v, n, hv, hm => by
  obtain ⟨n, rfl⟩ : ∃ m, n = m + 1 := ⟨n - 1, by omega⟩
  have e := ZsR (L.take v) (L.getD v RI.z)
  rw [ZiT (i := v) (by omega) RI.z] at e
  have hl := ZrI (L.take v)
  rw [List.length_take] at hl
  have hs : Zb1 w L Fr N (stD (fl (L.take v)) v) = some (.inl (stD (fl (L.take (v + 1))) (v + 1))) := by
   rw [e]
   cases h : fl (L.take v) with
   | nil =>
    show Zc6 w L Fr N v = _
    refine Zb (by omega) <| ZL (fun h1 => Zb (by omega) ?_) (fun h1 => Zb (by omega) ?_)
    ·rw [if_neg h1]; rfl
    ·rw [if_pos (Decidable.not_not.1 h1)]; rfl
   | cons x l =>
    rw [h] at hl
    show Zc7 w L Fr N (x :: l) v = _
    refine Zb (by omega) <| ZL (fun h1 => Zb (by omega) <| Zb (by omega) ?_) (fun h1 => Zb (by omega) ?_)
    ·rw [if_neg h1]; rfl
    ·rw [if_pos (Decidable.not_not.1 h1)]; rfl
  exact (ZbY hs).trans (ZpG hL m (v + 1) n (by omega) (by omega))
theorem Zwl {w : Int} {L : List PA} {Fr : List Int} {N : Nat} (hL : L.length ≤ 1000) (hN : 2000 ≤ N) : Zbv w L Fr N = some (obD (fl L)) :=
 (Zfc rfl).trans (ZpG hL L.length 0 N (by omega) (by omega))
theorem ZpH {g w : Int} {L : List PA} {W : Nat → List Int} {N : Nat} (hg : g ≤ 1073741824) (hk : Ok g 1 L) (hs : sz L ≤ 65536) (hL : L.length ≤ 1000) : ∀ (m v n : Nat), v + m = L.length → m < n → Zbn (Za8 w (hd L) (vl L) W N) n (stP (fl (L.take v)) (1 + sz (L.take v))) = some (obP (fl L))
 | 0, v, n, hv, hm => by
  obtain ⟨n, rfl⟩ : ∃ m, n = m + 1 := ⟨n - 1, by omega⟩
  rw [List.take_of_length_le (by omega)]
  refine Zb7 ?_
  have hz : ¬ (1 + (sz L : Int) ≤ ((hd L).length : Int)) := by show ¬ (1 + (sz L : Int) ≤ (sz L : Int)); omega
  cases h : fl L with
  | nil => exact (show Zbd w (hd L) (vl L) W N _ = _ from Zb (by omega) <| Zb (by omega) <| Zi hz rfl)
  | cons x l => exact (show Zbe w (hd L) (vl L) W N _ (x :: l) = _ from Zb (by omega) <| Zb (by omega) <| Zi hz rfl)
 | m + 1, v, n, hv, hm => by
  obtain ⟨n, rfl⟩ : ∃ m, n = m + 1 := ⟨n - 1, by omega⟩
  have hv' : v < L.length := by omega
  have e := ZsR (L.take v) (L.getD v RI.z)
  rw [ZiT (i := v) hv' RI.z] at e
  have hl := ZrI (L.take v)
  rw [List.length_take] at hl
  obtain ⟨p1, p2, p3⟩ := hk.at_ hv'
  have es : sz (L.take (v + 1)) = sz (L.take v) + (1 + (L.getD v RI.z).a4.toNat) := by
   rw [← ZiT (i := v) hv' RI.z, Zo3, ZeH]
   have : sz [] = 0 := rfl
   omega
  have hvl := Zgo hk
  have f1 := p1.f1; have f2 := p1.f2; have f3 := p1.fl; have f4 := p1.g1; have f5 := p1.g2; have f6 := p1.k; have f7 := p1.n; have f8 := p1.ad
  have i1 : (1 + (sz (L.take v) : Int) - 1).toNat = sz (L.take v) := by omega
  have hF : ((vl L).drop (1 + (sz (L.take v) : Int)).toNat).take ((1 + (sz (L.take v) : Int) + (L.getD v RI.z).a4).toNat - (1 + (sz (L.take v) : Int)).toNat) = (L.getD v RI.z).a8 := by
   have q := Zfd hv'
   have hk' := hk
   rw [q] at hk'
   have hA := Zgo hk'.split.1
   have e1 : (1 + (sz (L.take v) : Int)).toNat = (vl (L.take v)).length + 1 := by omega
   have e2 : (1 + (sz (L.take v) : Int) + (L.getD v RI.z).a4).toNat - ((vl (L.take v)).length + 1) = (L.getD v RI.z).a8.length := by omega
   have e3 : vl L = vl (L.take v) ++ (RF.z :: ((L.getD v RI.z).a8 ++ vl (L.drop (v + 1)))) := by
    have := congrArg vl q
    rwa [Zgn, ZeG] at this
   rw [e1, e2, e3, ← List.drop_drop]
   simp
  have hs : Za8 w (hd L) (vl L) W N (stP (fl (L.take v)) (1 + sz (L.take v))) = some (.inl (stP (fl (L.take (v + 1))) (1 + sz (L.take (v + 1))))) := by
   have hw1 : i64.wrap (1 + (sz (L.take v) : Int) + i64.wrap ((pl (L.getD v RI.z)).a1 + 1)) = 1 + (sz (L.take (v + 1)) : Int) := by
    show i64.wrap (1 + (sz (L.take v) : Int) + i64.wrap ((L.getD v RI.z).a4 + 1)) = _; rw [w64 (x := (L.getD v RI.z).a4 + 1) (by omega) (by omega), w64 (by omega) (by omega)]; omega
   have hw2 : i64.wrap (1 + (sz (L.take v) : Int) + (pl (L.getD v RI.z)).a1) = 1 + (sz (L.take v) : Int) + (L.getD v RI.z).a4 := w64 (x := 1 + (sz (L.take v) : Int) + (L.getD v RI.z).a4) (by omega) (by omega)
   have hvo : ZaS (L.getD v RI.z).a3 (1 + (sz (L.take v) : Int)) N = some (.r0 (L.getD v RI.z).a1 (L.getD v RI.z).a2 0) := by
    rw [f6, f7, f8]
    exact Zb f4 <| Zb (by omega) <| Zb (by omega) <| Zb (by omega) rfl
   have hc : Zae (vl L) (1 + (sz (L.take v) : Int)).toNat ((1 + (sz (L.take v) : Int) + (L.getD v RI.z).a4).toNat - (1 + (sz (L.take v) : Int)).toNat) ((vl L).length - (1 + (sz (L.take v) : Int)).toNat) N = some .r0 := Zb (by omega) <| Zb (by omega) rfl
   have hlen : 1 + (sz (L.take v) : Int) ≤ ((hd L).length : Int) := by show _ ≤ (sz L : Int); omega
   rw [e]
   cases h : fl (L.take v) with
   | nil =>
    show Zbd w (hd L) (vl L) W N _ = _
    unfold Zbd
    rw [i1, p3]
    refine Zb (by omega) <| Zb (by omega) <| Zb hlen <| ZL (fun h1 => ?_) (fun h1 => Zh hvo <| ?_)
    ·have h1 : (L.getD v RI.z).a6 = 0 := h1
     rw [if_pos h1]
     exact congrArg (fun z => some (Sum.inl (heap_Heap_ObjectsX.h1m0 z))) hw1
    ·have h1 : ¬ (L.getD v RI.z).a6 = 0 := h1
     rw [if_neg h1]
     refine Zb (by rw [hw2]; omega) <| Zb (by rw [hw2]; omega) <| Zh (by rw [hw2]; exact hc) ?_
     rw [hw1, hw2, hF]
     rfl
   | cons x l =>
    rw [h] at hl
    show Zbe w (hd L) (vl L) W N _ (x :: l) = _
    unfold Zbe
    rw [i1, p3]
    refine Zb (by omega) <| Zb (by omega) <| Zb hlen <| ZL (fun h1 => ?_) (fun h1 => Zh hvo <| ?_)
    ·have h1 : (L.getD v RI.z).a6 = 0 := h1
     rw [if_pos h1]
     exact congrArg (fun z => some (Sum.inl (heap_Heap_ObjectsX.h1m1 z (x :: l)))) hw1
    ·have h1 : ¬ (L.getD v RI.z).a6 = 0 := h1
     rw [if_neg h1]
     refine Zb (by rw [hw2]; omega) <| Zb (by rw [hw2]; omega) <| Zh (by rw [hw2]; exact hc) <| Zb (by omega) ?_
     rw [hw1, hw2, hF]
     rfl
  exact (ZbY hs).trans (ZpH hg hk ‹sz L ≤ 65536› hL m (v + 1) n (by omega) (by omega))
theorem Zwm {g w : Int} {L : List PA} {W : Nat → List Int} {N : Nat} (hw : 0 < w) (hg : g ≤ 1073741824) (hk : Ok g 1 L) (hs : sz L ≤ 65536) (hL : L.length ≤ 1000) (hN : 2000 ≤ N) : Za9 w (hd L) (vl L) W N = some (obP (fl L)) :=
 (Zfc (show ZeI w (hd L) (vl L) W N = some (.inl (.h1m0 1)) from Zb hw rfl)).trans (ZpH hg hk hs hL L.length 0 N (by omega) (by omega))
end Hl
set_option linter.unusedVariables false
set_option linter.unusedSimpArgs false
set_option maxRecDepth 100000
namespace Hl

def fl4 (L : List PA) (n : Nat) (k : Int) : Bool := decide ((L.getD k.toNat RI.z).a4 = (n : Int))
def wf (L : List PA) (Fr : List Int) (n : Nat) : List Int := (Fr.filter (fl4 L n)).map fun k => (L.getD k.toNat RI.z).a0
structure Inv (i : Nat) (w : Int) (L : List PA) (Fr : List Int) (Md : List RF) (H : List RG) (V : List RF) (W : Nat → List Int) : Prop where
 w1 : 17 ≤ w
 w2 : w ≤ 65536
 ok : Ok (i + 1) 1 L
 ne : 0 < L.length
 ln : L.length ≤ i + 1
 hh : H = hd L
 vv : V = vl L
 sw : (sz L : Int) ≤ w
 fn : Fr.length ≤ i
 fk : ∀ k ∈ Fr, 0 ≤ k ∧ k < L.length
 ww : ∀ n, n ≤ 16 → W n = wf L Fr n
 mn : Md.length ≤ i
 mb : ∀ x ∈ Md, x.a1 ≤ 9223372036854775807
section
variable {i : Nat} {w : Int} {L : List PA} {Fr : List Int} {Md : List RF} {H : List RG} {V : List RF} {W : Nat → List Int} {N : Nat}
theorem ZrJ {g a : Int} {L : List PA} (hk : Ok g a L) (h : 0 < L.length) : 0 < sz L := by
 cases L with
 | nil => simp at h
 | cons p L => rw [ZeH]; omega
theorem Inv.at_ (I : Inv i w L Fr Md H V W) {k : Nat} (h : k < L.length) : Pl (1 + sz (L.take k)) (i + 1) (L.getD k RI.z) ∧ (sz (L.take k) : Int) + 1 + (L.getD k RI.z).a4 ≤ sz L ∧ H.getD (sz (L.take k)) RG.z = pl (L.getD k RI.z) := by rw [I.hh]; exact I.ok.at_ h
theorem Ok.set {g : Int} {L : List PA} (hk : Ok g 1 L) {k : Nat} (h : k < L.length) {q : PA} (hq : Pl (1 + sz (L.take k)) g q) (h4 : q.a4 = (L.getD k RI.z).a4) : Ok g 1 (L.set k q) ∧ (hd L).set (sz (L.take k)) (pl q) = hd (L.set k q) ∧ sz (L.set k q) = sz L := by
 have e := Zfd h
 have hl : (L.take k).length = k := by rw [List.length_take]; omega
 have es : L.set k q = L.take k ++ q :: L.drop (k + 1) := by
  conv => lhs; rw [e]
  conv => lhs; arg 2; rw [← hl]
  exact ZrG
 have hk' := hk
 rw [e] at hk'
 obtain ⟨h1, h2, h3⟩ := hk'.split
 have hs : (hd L).set (sz (L.take k)) (pl q) = hd (L.set k q) := by
  rw [es, ← ZwD (L.take k) (L.getD k RI.z) q (L.drop (k + 1)) h4, ← e]
 refine ⟨?_, hs, ?_⟩
 ·rw [es]
  exact Ok.join h1 hq (by rw [h4]; exact h3)
 ·unfold sz
  rw [← hs, List.length_set]
theorem Zwn {g : Int} {L : List PA} (hk : Ok g 1 L) {k f : Nat} (h : k < L.length) {q : PA} {v : RF} (hf : f < (L.getD k RI.z).a8.length) (hq : q.a8 = (L.getD k RI.z).a8.set f v) : (vl L).set (sz (L.take k) + 1 + f) v = vl (L.set k q) := by
 have e := Zfd h
 have hl : (L.take k).length = k := by rw [List.length_take]; omega
 have es : L.set k q = L.take k ++ q :: L.drop (k + 1) := by
  conv => lhs; rw [e]
  conv => lhs; arg 2; rw [← hl]
  exact ZrG
 have hk' := hk
 rw [e] at hk'
 rw [es, ← ZwF (p := L.getD k RI.z) (Zgo hk'.split.1) hf hq, ← e]
theorem Zn3 {L : List PA} {k : Nat} (h : k < L.length) {q : PA} (hq : q.a8 = (L.getD k RI.z).a8) : vl (L.set k q) = vl L := by
 have e := Zfd h
 have hl : (L.take k).length = k := by rw [List.length_take]; omega
 have es : L.set k q = L.take k ++ q :: L.drop (k + 1) := by
  conv => lhs; rw [e]
  conv => lhs; arg 2; rw [← hl]
  exact ZrG
 rw [es]
 conv => rhs; rw [e]
 rw [Zgn, Zgn, ZeG, ZeG, hq]
theorem Zwo {g : Int} {L : List PA} (hk : Ok g 1 L) {k f : Nat} (h : k < L.length) (hf : f < (L.getD k RI.z).a8.length) (d : RF) : (vl L).getD (sz (L.take k) + 1 + f) d = (L.getD k RI.z).a8.getD f d := by
 have e := Zfd h
 have hk' := hk
 rw [e] at hk'
 have := ZwE (p := L.getD k RI.z) (B := L.drop (k + 1)) (Zgo hk'.split.1) hf d
 rwa [← e] at this
theorem ZiU {L : List PA} {k : Nat} {q : PA} (h : k < L.length) (j : Nat) : ((L.set k q).getD j RI.z) = if j = k then q else L.getD j RI.z := Zv1 h
theorem Zu5 {L : List PA} {k : Nat} (h : k < L.length) {q : PA} (h4 : q.a4 = (L.getD k RI.z).a4) (h0 : q.a0 = (L.getD k RI.z).a0) (Fr : List Int) (n : Nat) : wf (L.set k q) Fr n = wf L Fr n := by
 have e4 : ∀ j, ((L.set k q).getD j RI.z).a4 = (L.getD j RI.z).a4 := fun j => by
  rw [ZiU h]
  by_cases hj : j = k
  ·rw [if_pos hj, h4, hj]
  ·rw [if_neg hj]
 have e0 : ∀ j, ((L.set k q).getD j RI.z).a0 = (L.getD j RI.z).a0 := fun j => by
  rw [ZiU h]
  by_cases hj : j = k
  ·rw [if_pos hj, h0, hj]
  ·rw [if_neg hj]
 unfold wf
 have hf : fl4 (L.set k q) n = fl4 L n := funext fun j => by unfold fl4; rw [e4]
 rw [hf]
 simp only [e0]
theorem Inv.set (I : Inv i w L Fr Md H V W) {k : Nat} (h : k < L.length) {q : PA} (hq : Pl (1 + sz (L.take k)) (i + 2) q) (h4 : q.a4 = (L.getD k RI.z).a4) (h0 : q.a0 = (L.getD k RI.z).a0) {V' : List RF} (hV : V' = vl (L.set k q)) : Inv (i + 1) w (L.set k q) Fr Md (H.set (sz (L.take k)) (pl q)) V' W where
 w1 := I.w1
 w2 := I.w2
 ok := by
  have := (I.ok.up (show (i : Int) + 1 ≤ i + 2 by omega)).set h hq h4
  have e : ((i + 1 : Nat) : Int) + 1 = i + 2 := by omega
  rw [e]; exact this.1
 ne := by rw [List.length_set]; exact I.ne
 ln := by rw [List.length_set]; have := I.ln; omega
 hh := by rw [I.hh]; exact ((I.ok.up (show (i : Int) + 1 ≤ i + 2 by omega)).set h hq h4).2.1
 vv := hV
 sw := by rw [((I.ok.up (show (i : Int) + 1 ≤ i + 2 by omega)).set h hq h4).2.2]; exact I.sw
 fn := by have := I.fn; omega
 fk := fun j hj => by rw [List.length_set]; exact I.fk j hj
 ww := fun n hn => by rw [Zu5 h h4 h0]; exact I.ww n hn
 mn := by have := I.mn; omega
 mb := I.mb
theorem Inv.up (I : Inv i w L Fr Md H V W) : Inv (i + 1) w L Fr Md H V W :=
 ⟨I.w1, I.w2, I.ok.up (by omega), I.ne, by have := I.ln; omega, I.hh, I.vv, I.sw, by have := I.fn; omega, I.fk, I.ww, by have := I.mn; omega, I.mb⟩
variable {K Q : Int}
theorem Inv.find (I : Inv i w L Fr Md H V W) (hi : i ≤ 60) (hQ : Q ≤ 9223372036854775807) (hN : 2000 ≤ N) : ∃ e x k, Zao K Q w H V W N = some (.r0 x e) ∧ Zax w L Fr K Q N = some (.r0 k e) ∧ (e = 0 → 0 ≤ k ∧ k.toNat < L.length ∧ x = (L.getD k.toNat RI.z).a0 ∧ ¬ (L.getD k.toNat RI.z).a6 = 0) := by
 have h1 := I.sw; have h2 := I.w2; have h3 := I.ln
 obtain ⟨e, x, k, q1, q2, q3⟩ := find2 (w := w) (Fr := Fr) (K := K) (Q := Q) (N := N) V W I.ok (by omega) hQ (by omega) (by omega)
 exact ⟨e, x, k, by rw [I.hh]; exact q1, q2, q3⟩
theorem Inv.ix (I : Inv i w L Fr Md H V W) {k : Nat} (h : k < L.length) : i64.wrap ((L.getD k RI.z).a0 - 1) = sz (L.take k) ∧ sz (L.take k) < H.length ∧ H.getD ((sz (L.take k) : Int)).toNat RG.z = pl (L.getD k RI.z) := by
 obtain ⟨p1, p2, p3⟩ := I.at_ h
 have := p1.ad; have := p1.f1; have h1 := I.sw; have h2 := I.w2
 refine ⟨by rw [w64 (by omega) (by omega)]; omega, ?_, by rw [show ((sz (L.take k) : Int)).toNat = sz (L.take k) by omega]; exact p3⟩
 have : H.length = sz L := by rw [I.hh]; rfl
 omega
theorem Zn4 {a4 a5 a6 a7 a8 a9 a10 a11 : Int} {L12 : List RF} {k : Nat} (h : k < L.length) (hL : L.length ≤ 1000) : Zbt w L Fr (k : Int) a4 a5 a6 a7 a8 a9 a10 a11 L12 N = some .r0 := Zi (by omega) <| Zb (by omega) <| Zb (by omega) <| Zb (by omega) rfl
theorem Zv3 {a4 a5 a6 a7 a8 a9 a10 a11 : Int} {L12 : List RF} {k : Nat} (h : k < L.length) (hL : L.length ≤ 1000) : ZbF w L Fr (k : Int) a4 a5 a6 a7 a8 a9 a10 a11 L12 N = some .r0 := Zi (by omega) <| Zb (by omega) <| Zb (by omega) <| Zb (by omega) rfl
theorem Inv.get (I : Inv i w L Fr Md H V W) (hi : i ≤ 60) (hQ : Q ≤ 9223372036854775807) (hN : 2000 ≤ N) :
  (∃ e x k, ¬ e = 0 ∧ Zao K Q w H V W N = some (.r0 x e) ∧ Zax w L Fr K Q N = some (.r0 k e)) ∨
  (∃ k : Nat, k < L.length ∧ Zao K Q w H V W N = some (.r0 (L.getD k RI.z).a0 0) ∧ Zax w L Fr K Q N = some (.r0 (k : Int) 0) ∧ ¬ (L.getD k RI.z).a6 = 0) := by
 obtain ⟨e, x, k, h1, h2, h3⟩ := I.find (K := K) (Q := Q) hi hQ hN
 by_cases he : e = 0
 ·subst he
  obtain ⟨q1, q2, q3, q4⟩ := h3 rfl
  refine .inr ⟨k.toNat, q2, by rw [h1, q3], by rw [h2, Int.toNat_of_nonneg q1], q4⟩
 ·exact .inl ⟨e, x, k, he, h1, h2⟩
theorem Inv.head (I : Inv i w L Fr Md H V W) (hi : i ≤ 60) (hQ : Q ≤ 9223372036854775807) (hN : 2000 ≤ N) : ∃ a b c d e f, Zcv K Q w H V W N = some (.r0 a b c d e f) ∧ Zey w L Fr K Q N = some (.r0 a b c d e f) := by
 have hw : 0 < w := by have := I.w1; omega
 rcases I.get (K := K) (Q := Q) hi hQ hN with ⟨e, x, k, he, h1, h2⟩ | ⟨k, hk, h1, h2, h3⟩
 ·exact ⟨_, _, _, _, _, _, Zb hw <| Zh h1 <| Zb he rfl, Zh h2 <| Zb he rfl⟩
 ·obtain ⟨i1, i2, i3⟩ := I.ix hk
  refine ⟨(L.getD k RI.z).a3, (L.getD k RI.z).a4, (L.getD k RI.z).a5, (L.getD k RI.z).a6, (L.getD k RI.z).a7, true, Zb hw <| Zh h1 <| Zi (fun h => h rfl) ?_, Zh h2 <| Zi (fun h => h rfl) <| Zb (by omega) <| Zb (by omega) ?_⟩
  ·show (if 0 ≤ i64.wrap ((L.getD k RI.z).a0 - 1) then _ else _) = _
   rw [i1, i3]
   exact Zb (by omega) <| Zb (by omega) rfl
  ·rw [show ((k : Int)).toNat = k by omega]
theorem Inv.put (I : Inv i w L Fr Md H V W) (hi : i ≤ 60) (hQ : Q ≤ 9223372036854775807) (hN : 2000 ≤ N) (s : Int) : ∃ e H' L', Zco K Q s w H V W N = some (.r0 H' e) ∧ Zdk w L Fr K Q s N = some (.r0 L' e) ∧ Inv (i + 1) w L' Fr Md H' V W := by
 have hw : 0 < w := by have := I.w1; omega
 have hl := I.ln
 rcases I.get (K := K) (Q := Q) hi hQ hN with ⟨e, x, k, he, h1, h2⟩ | ⟨k, hk, h1, h2, h3⟩
 ·exact ⟨_, _, _, Zb hw <| Zh h1 <| Zb he rfl, Zh h2 <| Zb he rfl, I.up⟩
 ·obtain ⟨i1, i2, i3⟩ := I.ix hk
  obtain ⟨p1, _, _⟩ := I.at_ hk
  by_cases hs : ¬ (s = 1 ∨ s = 2 ∨ s = 3)
  ·exact ⟨1, H, L, Zb hw <| Zh h1 <| Zi (fun h => h rfl) <| Zb (by omega) <| Zb (by omega) <| Zb (by omega) rfl, Zh h2 <| Zi (fun h => h rfl) <| Zb (by omega) <| Zb (by omega) <| Zb (by omega) rfl, I.up⟩
  ·have hs := Decidable.not_not.1 hs
   have hpl : Pl (1 + sz (L.take k)) (i + 2) ({ L.getD k RI.z with a6 := s } : PA) := ⟨p1.ad, p1.f1, p1.f2, p1.fl, p1.k, p1.n, p1.g1, by have := p1.g2; show (L.getD k RI.z).a3 ≤ _; omega, p1.m0⟩
   refine ⟨0, H.set (sz (L.take k)) (pl { L.getD k RI.z with a6 := s }), L.set k { L.getD k RI.z with a6 := s }, Zb hw <| Zh h1 <| Zi (fun h => h rfl) ?_, Zh h2 <| Zi (fun h => h rfl) ?_, I.set hk hpl rfl rfl (by rw [I.vv]; exact (Zn3 (q := { L.getD k RI.z with a6 := s }) hk rfl).symm)⟩
   ·show (if ¬ s = 1 then if ¬ s = 2 then if ¬ s = 3 then _ else if 0 ≤ i64.wrap ((L.getD k RI.z).a0 - 1) then _ else _ else if 0 ≤ i64.wrap ((L.getD k RI.z).a0 - 1) then _ else _ else if 0 ≤ i64.wrap ((L.getD k RI.z).a0 - 1) then _ else _) = _
    rw [i1, i3]
    refine ZL (fun s1 => ZL (fun s2 => Zi (by omega) ?_) fun s2 => ?_) fun s1 => ?_ <;> exact Zb (by omega) <| Zb (by omega) rfl
   ·have hw3 := Zn4 (w := w) (Fr := Fr) (N := N) (a4 := (L.getD k RI.z).a0) (a5 := (L.getD k RI.z).a1) (a6 := (L.getD k RI.z).a2) (a7 := (L.getD k RI.z).a3) (a8 := (L.getD k RI.z).a4) (a9 := (L.getD k RI.z).a5) (a10 := s) (a11 := (L.getD k RI.z).a7) (L12 := (L.getD k RI.z).a8) hk (show L.length ≤ 1000 by omega)
    show (if ¬ s = 1 then if ¬ s = 2 then if ¬ s = 3 then _ else if (0 : Int) ≤ (k : Int) then _ else _ else if (0 : Int) ≤ (k : Int) then _ else _ else if (0 : Int) ≤ (k : Int) then _ else _) = _
    refine ZL (fun s1 => ZL (fun s2 => Zi (by omega) ?_) fun s2 => ?_) fun s1 => ?_ <;> exact Zb (by omega) <| Zb (by omega) <| Zh hw3 rfl
end
end Hl
end Ev
end Go.Proofs.Ytomkpfibofpkbaa
