/- Part 6. -/
import Derived.Test.YtomkpfibofpkbaaYae
import Derived.Test.YtomkpfibofpkbaaYac
import Derived.Test.YtomkpfibofpkbaaYad
set_option linter.unusedSimpArgs false
set_option linter.unusedVariables false
/- Calls do what the plain functions say. -/
namespace Go.Proofs.Ytomkpfibofpkbaa
open Go.IntKind (i64)
open Go.RowKit
namespace Ev
set_option linter.unusedVariables false
set_option maxRecDepth 100000
set_option maxHeartbeats 4000000
noncomputable def ZkW (a0 : Int) (L1 : List RI) (L2 : List Int) (a3 a4 a5 a6 a7 : Int) : Zag → Value
 | .r0 w1 w3 => Value.tuple #[Value.agg #[vi a0, ms RD w1, ms eI L2], vi w3]
noncomputable def ZjM (a0 : Int) (L1 : List RI) (L2 : List Int) (a3 a4 a5 a6 a7 : Int) : Zag → List (Option AObj)
 | .r0 w1 w3 => []

theorem ZnO (a0 : Int) (L1 : List RI) (L2 : List Int) (a3 a4 a5 a6 a7 : Int) (N : Nat) : Fx Try.prog Z7 Try.f31 [] #[Value.agg (κb a0 L1 L2), Value.agg #[vi a3, vi a4], vi a5, Value.agg #[vi a6, vi a7]] (ZkW a0 L1 L2 a3 a4 a5 a6 a7) (ZjM a0 L1 L2 a3 a4 a5 a6 a7) (Zch a0 L1 L2 a3 a4 a5 a6 a7 N) := by
 unfold Zch
 refine Zbb (fun z0 c0 => ?_)
 cases z0 with
 | r0 y0_0 y0_1 =>
  have w1 := kK (Zd8 c0 [] 4) Zp
  refine Zh (fun g1 => ?_) (fun g1 => ?_)
  ·
   exact fxC (Ze (oq [1]) [] [] [] [(0, (Z2 c0 [] 4).t)]) [] (Value.tuple #[Value.agg (κb a0 L1 L2), vi y0_1]) (hD g1 w1) bE
  ·
   have w2 := kE y0_1 (0 : Int) w1
   refine Zh (fun g2 => ?_) (fun _ => Zq)
   refine Zh (fun g3 => ?_) (fun _ => Zq)
   have w4 := kG RD L1 (0 + ((y0_0).toNat * 9)) ((y0_0).toNat) 0 9 9 <| kB (y0_0).toNat L1.length <| kI y0_0 (Int.ofNat (y0_0).toNat) w2
   refine Zh (fun g4 => ?_) (fun g4 => ?_)
   ·
    exact fxC (Ze (oq [0, 3]) [] [(0, (y0_0).toNat)] [(3, (RD.cel (L1.getD (y0_0).toNat RI.z)))] [(0, (Z2 c0 [] 4).t)]) [] (Value.tuple #[Value.agg (κb a0 L1 L2), vi (22 : Int)]) (hY g4 w4) bE
   ·
    refine Zh (fun g5 => ?_) (fun g5 => ?_)
    ·
     exact fxC (Ze (oq [0, 2, 5]) [] [(0, (y0_0).toNat)] [(3, (RD.cel (L1.getD (y0_0).toNat RI.z)))] [(0, (Z2 c0 [] 4).t)]) [] (Value.tuple #[Value.agg (κb a0 L1 L2), vi (22 : Int)]) (kY (a5 ≥ (L1.getD (y0_0).toNat RI.z).a4) <| hN g4 w4) bE
    ·
     have w6 := kN (a5 ≥ (L1.getD (y0_0).toNat RI.z).a4) <| hN g4 w4
     refine Zh (fun g6 => ?_) (fun g6 => ?_)
     ·
      refine Zh (fun g7 => ?_) (fun _ => Zq)
      have w8 := kX ((IntKind.u64.wrap a5) == a5) true (beq_iff_eq.2 (ZeY ltA)) <| kF a6 (2 : Int) <| hT g6 w6
      refine Zh (fun g8 => ?_) (fun _ => Zq)
      refine Zh (fun g9 => ?_) (fun _ => Zq)
      have w10 := kM ((L1.getD (y0_0).toNat RI.z).a5 / (2 ^ (a5).toNat : Int)) (2 : Int) <| kS a5 ((a5).toNat) .i64 w8
      refine Zh (fun g10 => ?_) (fun g10 => ?_)
      ·
       exact fxC (Ze (oq [0, 2, 4, 7, 8, 11]) [(0, a5), (2, (((L1.getD (y0_0).toNat RI.z).a5 / (2 ^ (a5).toNat : Int)) % (2 : Int)))] [(0, (y0_0).toNat)] [(3, (RD.cel (L1.getD (y0_0).toNat RI.z)))] [(0, (Z2 c0 [] 4).t), (2, .sh (a5).toNat)]) [] (Value.tuple #[Value.agg (κb a0 L1 L2), vi (10 : Int)]) (hT g10 w10) bE
      ·
       refine Zh (fun _ => Zq) (fun g11 => ?_)
       refine Zh (fun g12 => ?_) (fun _ => Zq)
       refine Zh (fun g13 => ?_) (fun _ => Zq)
       refine Zbb (fun z14 c14 => ?_)
       cases z14 with
       | r0 =>
        exact fxC (Ze (oq [0, 2, 4, 7, 8, 10]) [(0, a5), (2, (((L1.getD (y0_0).toNat RI.z).a5 / (2 ^ (a5).toNat : Int)) % (2 : Int)))] [(0, (y0_0).toNat), (1, (a5).toNat)] [(3, (RD.cel (L1.getD (y0_0).toNat RI.z)))] [(0, (Z2 c0 [] 4).t), (2, .sh (a5).toNat), (4, .ap (L1.getD (y0_0).toNat RI.z).a8.length (Za RA (L1.getD (y0_0).toNat RI.z).a8) (Za RA (L1.getD (y0_0).toNat RI.z).a8)), (5, .st (Za RA ((L1.getD (y0_0).toNat RI.z).a8.set (a5).toNat (⟨a6, a7⟩ : RF)))), (7, (ZeG c14 [8] 9).t)]) [] (Value.tuple #[Value.agg #[vi a0, ms RD (L1.set (y0_0).toNat (⟨(L1.getD (y0_0).toNat RI.z).a0, (L1.getD (y0_0).toNat RI.z).a1, (L1.getD (y0_0).toNat RI.z).a2, (L1.getD (y0_0).toNat RI.z).a3, (L1.getD (y0_0).toNat RI.z).a4, (L1.getD (y0_0).toNat RI.z).a5, (L1.getD (y0_0).toNat RI.z).a6, (L1.getD (y0_0).toNat RI.z).a7, ((L1.getD (y0_0).toNat RI.z).a8.set (a5).toNat (⟨a6, a7⟩ : RF))⟩ : RI)), ms eI L2], vq]) (kKb (A := #[Value.agg (κb a0 L1 L2), vi y0_0, Value.agg #[vi (L1.getD (y0_0).toNat RI.z).a0, vi (L1.getD (y0_0).toNat RI.z).a1, vi (L1.getD (y0_0).toNat RI.z).a2, vi (L1.getD (y0_0).toNat RI.z).a3, vi (L1.getD (y0_0).toNat RI.z).a4, vi (L1.getD (y0_0).toNat RI.z).a5, vi (L1.getD (y0_0).toNat RI.z).a6, vi (L1.getD (y0_0).toNat RI.z).a7, vs 8 0 (0 + (L1.getD (y0_0).toNat RI.z).a8.length) (0 + (L1.getD (y0_0).toNat RI.z).a8.length)]]) (ZfP (Zf rfl (Zf rfl (Zf (Zci (Zf rfl (Zf rfl (Zf rfl (Zf rfl (Zf rfl (Zf rfl (Zf rfl (Zf rfl (Zf (Zo rfl eqA eqA) rfl)))))))))) rfl)))) (ZfR c14 [8] 9) <| kR (Za RA ((L1.getD (y0_0).toNat RI.z).a8.set (a5).toNat (⟨a6, a7⟩ : RF))) <| kC (Za8 (E := RA) (L := (L1.getD (y0_0).toNat RI.z).a8) (i := (a5).toNat) (q := 0) (l := [vi a6, vi a7]) (⟨a6, a7⟩ : RF) ltA (show (0 + ((a5).toNat * 2)) = (a5).toNat * 2 + 0 from by omega) (show 0 + 2 ≤ 2 from by decide) rfl) <| kB (a5).toNat (0 + (L1.getD (y0_0).toNat RI.z).a8.length) <| kI a5 (Int.ofNat (a5).toNat) <| kX (dP (((L1.getD (y0_0).toNat RI.z).a8.length = (L1.getD (y0_0).toNat RI.z).a8.length ∧ (((L1.getD (y0_0).toNat RI.z).a8.length * 2 = 0 ∧ (Za RA (L1.getD (y0_0).toNat RI.z).a8) = []) ∨ ∃ c, (L1.getD (y0_0).toNat RI.z).a8.length * 2 ≠ 0 ∧ Zam (code (ZW RA (L1.getD (y0_0).toNat RI.z).a8)) 0 ((L1.getD (y0_0).toNat RI.z).a8.length * 2) = some c ∧ (Za RA (L1.getD (y0_0).toNat RI.z).a8) = Zu c)) ∧ 0 < (L1.getD (y0_0).toNat RI.z).a8.length ∧ (L1.getD (y0_0).toNat RI.z).a8.length ≤ 100000 ∧ 0 < 0 + (L1.getD (y0_0).toNat RI.z).a8.length ∧ 0 ≤ 100000 ∧ 0 * 2 ≤ (List.length []) ∧ List.take (0 * 2) [] ++ (Za RA (L1.getD (y0_0).toNat RI.z).a8) = (Za RA (L1.getD (y0_0).toNat RI.z).a8))) true (Za1 ⟨⟨rfl, (ZeR (E := RA) (L := (L1.getD (y0_0).toNat RI.z).a8) (n := (L1.getD (y0_0).toNat RI.z).a8.length) (size := 2) rfl (by decide) (by omega))⟩, by omega, by omega, ltA, by omega, (Zdq (E := RA) (L := ([] : List RF)) (M := (L1.getD (y0_0).toNat RI.z).a8) (n := 0) (show _ = _ * 2 from rfl) ltA (R := (L1.getD (y0_0).toNat RI.z).a8) (by rw [List.take_of_length_le ltA]; rfl))⟩) <| hF g10 w10) bE
     ·
      refine Zh (fun g7 => ?_) (fun g7 => ?_)
      ·
       refine Zh (fun g8 => ?_) (fun g8 => ?_)
       ·
        refine Zh (fun g9 => ?_) (fun _ => Zq)
        have w10 := kX ((IntKind.u64.wrap a5) == a5) true (beq_iff_eq.2 (ZeY ltA)) <| hT g7 <| hT g8 <| hT g7 <| hF g6 w6
        refine Zh (fun g10 => ?_) (fun _ => Zq)
        refine Zh (fun g11 => ?_) (fun _ => Zq)
        have w12 := kM ((L1.getD (y0_0).toNat RI.z).a5 / (2 ^ (a5).toNat : Int)) (2 : Int) <| kS a5 ((a5).toNat) .i64 w10
        refine Zh (fun g12 => ?_) (fun g12 => ?_)
        ·
         refine Zh (fun _ => Zq) (fun g13 => ?_)
         refine Zh (fun g14 => ?_) (fun _ => Zq)
         refine Zh (fun g15 => ?_) (fun _ => Zq)
         refine Zbb (fun z16 c16 => ?_)
         cases z16 with
         | r0 =>
          exact fxC (Ze (oq [0, 2, 4, 6, 9, 11, 13, 15]) [(0, a5), (2, (((L1.getD (y0_0).toNat RI.z).a5 / (2 ^ (a5).toNat : Int)) % (2 : Int)))] [(0, (y0_0).toNat), (1, (a5).toNat)] [(3, (RD.cel (L1.getD (y0_0).toNat RI.z)))] [(0, (Z2 c0 [] 4).t), (2, .sh (a5).toNat), (4, .ap (L1.getD (y0_0).toNat RI.z).a8.length (Za RA (L1.getD (y0_0).toNat RI.z).a8) (Za RA (L1.getD (y0_0).toNat RI.z).a8)), (5, .st (Za RA ((L1.getD (y0_0).toNat RI.z).a8.set (a5).toNat (⟨a6, a7⟩ : RF)))), (7, (ZeG c16 [8] 9).t)]) [] (Value.tuple #[Value.agg #[vi a0, ms RD (L1.set (y0_0).toNat (⟨(L1.getD (y0_0).toNat RI.z).a0, (L1.getD (y0_0).toNat RI.z).a1, (L1.getD (y0_0).toNat RI.z).a2, (L1.getD (y0_0).toNat RI.z).a3, (L1.getD (y0_0).toNat RI.z).a4, (L1.getD (y0_0).toNat RI.z).a5, (L1.getD (y0_0).toNat RI.z).a6, (L1.getD (y0_0).toNat RI.z).a7, ((L1.getD (y0_0).toNat RI.z).a8.set (a5).toNat (⟨a6, a7⟩ : RF))⟩ : RI)), ms eI L2], vq]) (kKb (A := #[Value.agg (κb a0 L1 L2), vi y0_0, Value.agg #[vi (L1.getD (y0_0).toNat RI.z).a0, vi (L1.getD (y0_0).toNat RI.z).a1, vi (L1.getD (y0_0).toNat RI.z).a2, vi (L1.getD (y0_0).toNat RI.z).a3, vi (L1.getD (y0_0).toNat RI.z).a4, vi (L1.getD (y0_0).toNat RI.z).a5, vi (L1.getD (y0_0).toNat RI.z).a6, vi (L1.getD (y0_0).toNat RI.z).a7, vs 8 0 (0 + (L1.getD (y0_0).toNat RI.z).a8.length) (0 + (L1.getD (y0_0).toNat RI.z).a8.length)]]) (ZfP (Zf rfl (Zf rfl (Zf (Zci (Zf rfl (Zf rfl (Zf rfl (Zf rfl (Zf rfl (Zf rfl (Zf rfl (Zf rfl (Zf (Zo rfl eqA eqA) rfl)))))))))) rfl)))) (ZfR c16 [8] 9) <| kR (Za RA ((L1.getD (y0_0).toNat RI.z).a8.set (a5).toNat (⟨a6, a7⟩ : RF))) <| kC (Za8 (E := RA) (L := (L1.getD (y0_0).toNat RI.z).a8) (i := (a5).toNat) (q := 0) (l := [vi a6, vi a7]) (⟨a6, a7⟩ : RF) ltA (show (0 + ((a5).toNat * 2)) = (a5).toNat * 2 + 0 from by omega) (show 0 + 2 ≤ 2 from by decide) rfl) <| kB (a5).toNat (0 + (L1.getD (y0_0).toNat RI.z).a8.length) <| kI a5 (Int.ofNat (a5).toNat) <| kX (dP (((L1.getD (y0_0).toNat RI.z).a8.length = (L1.getD (y0_0).toNat RI.z).a8.length ∧ (((L1.getD (y0_0).toNat RI.z).a8.length * 2 = 0 ∧ (Za RA (L1.getD (y0_0).toNat RI.z).a8) = []) ∨ ∃ c, (L1.getD (y0_0).toNat RI.z).a8.length * 2 ≠ 0 ∧ Zam (code (ZW RA (L1.getD (y0_0).toNat RI.z).a8)) 0 ((L1.getD (y0_0).toNat RI.z).a8.length * 2) = some c ∧ (Za RA (L1.getD (y0_0).toNat RI.z).a8) = Zu c)) ∧ 0 < (L1.getD (y0_0).toNat RI.z).a8.length ∧ (L1.getD (y0_0).toNat RI.z).a8.length ≤ 100000 ∧ 0 < 0 + (L1.getD (y0_0).toNat RI.z).a8.length ∧ 0 ≤ 100000 ∧ 0 * 2 ≤ (List.length []) ∧ List.take (0 * 2) [] ++ (Za RA (L1.getD (y0_0).toNat RI.z).a8) = (Za RA (L1.getD (y0_0).toNat RI.z).a8))) true (Za1 ⟨⟨rfl, (ZeR (E := RA) (L := (L1.getD (y0_0).toNat RI.z).a8) (n := (L1.getD (y0_0).toNat RI.z).a8.length) (size := 2) rfl (by decide) (by omega))⟩, by omega, by omega, ltA, by omega, (Zdq (E := RA) (L := ([] : List RF)) (M := (L1.getD (y0_0).toNat RI.z).a8) (n := 0) (show _ = _ * 2 from rfl) ltA (R := (L1.getD (y0_0).toNat RI.z).a8) (by rw [List.take_of_length_le ltA]; rfl))⟩) <| hT g12 w12) bE
        ·
         exact fxC (Ze (oq [0, 2, 4, 6, 9, 11, 13, 14]) [(0, a5), (2, (((L1.getD (y0_0).toNat RI.z).a5 / (2 ^ (a5).toNat : Int)) % (2 : Int)))] [(0, (y0_0).toNat)] [(3, (RD.cel (L1.getD (y0_0).toNat RI.z)))] [(0, (Z2 c0 [] 4).t), (2, .sh (a5).toNat)]) [] (Value.tuple #[Value.agg (κb a0 L1 L2), vi (10 : Int)]) (hF g12 w12) bE
       ·
        refine Zh (fun g9 => ?_) (fun g9 => ?_)
        ·
         have w10 := kY (a7 ≥ (1048576 : Int)) <| hF g8 <| hT g7 <| hF g6 w6
         refine Zh (fun g10 => ?_) (fun _ => Zq)
         refine Zh (fun g11 => ?_) (fun g11 => ?_)
         ·
          have w12 := kM a7 (1048576 : Int) <| hY g11 <| kV a7 (1048576 : Int) w10
          refine Zh (fun g12 => ?_) (fun g12 => ?_)
          ·
           refine Zh (fun g13 => ?_) (fun _ => Zq)
           have w14 := kX ((IntKind.u64.wrap a5) == a5) true (beq_iff_eq.2 (ZeY ltA)) <| hT g7 <| kY ((a7 % (1048576 : Int)) ≥ (1 : Int)) w12
           refine Zh (fun g14 => ?_) (fun _ => Zq)
           refine Zh (fun g15 => ?_) (fun _ => Zq)
           have w16 := kM ((L1.getD (y0_0).toNat RI.z).a5 / (2 ^ (a5).toNat : Int)) (2 : Int) <| kS a5 ((a5).toNat) .i64 w14
           refine Zh (fun g16 => ?_) (fun g16 => ?_)
           ·
            refine Zh (fun _ => Zq) (fun g17 => ?_)
            refine Zh (fun g18 => ?_) (fun _ => Zq)
            refine Zh (fun g19 => ?_) (fun _ => Zq)
            refine Zbb (fun z20 c20 => ?_)
            cases z20 with
            | r0 =>
             exact fxC (Ze (oq [0, 2, 4, 6, 9, 10, 13, 15, 17, 19, 21]) [(0, (a7 / (1048576 : Int))), (1, (a7 % (1048576 : Int))), (2, a5), (4, (((L1.getD (y0_0).toNat RI.z).a5 / (2 ^ (a5).toNat : Int)) % (2 : Int)))] [(0, (y0_0).toNat), (1, (a5).toNat)] [(3, (RD.cel (L1.getD (y0_0).toNat RI.z)))] [(0, (Z2 c0 [] 4).t), (3, .sh (a5).toNat), (5, .ap (L1.getD (y0_0).toNat RI.z).a8.length (Za RA (L1.getD (y0_0).toNat RI.z).a8) (Za RA (L1.getD (y0_0).toNat RI.z).a8)), (6, .st (Za RA ((L1.getD (y0_0).toNat RI.z).a8.set (a5).toNat (⟨a6, a7⟩ : RF)))), (8, (ZeG c20 [8] 9).t)]) [] (Value.tuple #[Value.agg #[vi a0, ms RD (L1.set (y0_0).toNat (⟨(L1.getD (y0_0).toNat RI.z).a0, (L1.getD (y0_0).toNat RI.z).a1, (L1.getD (y0_0).toNat RI.z).a2, (L1.getD (y0_0).toNat RI.z).a3, (L1.getD (y0_0).toNat RI.z).a4, (L1.getD (y0_0).toNat RI.z).a5, (L1.getD (y0_0).toNat RI.z).a6, (L1.getD (y0_0).toNat RI.z).a7, ((L1.getD (y0_0).toNat RI.z).a8.set (a5).toNat (⟨a6, a7⟩ : RF))⟩ : RI)), ms eI L2], vq]) (kKb (A := #[Value.agg (κb a0 L1 L2), vi y0_0, Value.agg #[vi (L1.getD (y0_0).toNat RI.z).a0, vi (L1.getD (y0_0).toNat RI.z).a1, vi (L1.getD (y0_0).toNat RI.z).a2, vi (L1.getD (y0_0).toNat RI.z).a3, vi (L1.getD (y0_0).toNat RI.z).a4, vi (L1.getD (y0_0).toNat RI.z).a5, vi (L1.getD (y0_0).toNat RI.z).a6, vi (L1.getD (y0_0).toNat RI.z).a7, vs 8 0 (0 + (L1.getD (y0_0).toNat RI.z).a8.length) (0 + (L1.getD (y0_0).toNat RI.z).a8.length)]]) (ZfP (Zf rfl (Zf rfl (Zf (Zci (Zf rfl (Zf rfl (Zf rfl (Zf rfl (Zf rfl (Zf rfl (Zf rfl (Zf rfl (Zf (Zo rfl eqA eqA) rfl)))))))))) rfl)))) (ZfR c20 [8] 9) <| kR (Za RA ((L1.getD (y0_0).toNat RI.z).a8.set (a5).toNat (⟨a6, a7⟩ : RF))) <| kC (Za8 (E := RA) (L := (L1.getD (y0_0).toNat RI.z).a8) (i := (a5).toNat) (q := 0) (l := [vi a6, vi a7]) (⟨a6, a7⟩ : RF) ltA (show (0 + ((a5).toNat * 2)) = (a5).toNat * 2 + 0 from by omega) (show 0 + 2 ≤ 2 from by decide) rfl) <| kB (a5).toNat (0 + (L1.getD (y0_0).toNat RI.z).a8.length) <| kI a5 (Int.ofNat (a5).toNat) <| kX (dP (((L1.getD (y0_0).toNat RI.z).a8.length = (L1.getD (y0_0).toNat RI.z).a8.length ∧ (((L1.getD (y0_0).toNat RI.z).a8.length * 2 = 0 ∧ (Za RA (L1.getD (y0_0).toNat RI.z).a8) = []) ∨ ∃ c, (L1.getD (y0_0).toNat RI.z).a8.length * 2 ≠ 0 ∧ Zam (code (ZW RA (L1.getD (y0_0).toNat RI.z).a8)) 0 ((L1.getD (y0_0).toNat RI.z).a8.length * 2) = some c ∧ (Za RA (L1.getD (y0_0).toNat RI.z).a8) = Zu c)) ∧ 0 < (L1.getD (y0_0).toNat RI.z).a8.length ∧ (L1.getD (y0_0).toNat RI.z).a8.length ≤ 100000 ∧ 0 < 0 + (L1.getD (y0_0).toNat RI.z).a8.length ∧ 0 ≤ 100000 ∧ 0 * 2 ≤ (List.length []) ∧ List.take (0 * 2) [] ++ (Za RA (L1.getD (y0_0).toNat RI.z).a8) = (Za RA (L1.getD (y0_0).toNat RI.z).a8))) true (Za1 ⟨⟨rfl, (ZeR (E := RA) (L := (L1.getD (y0_0).toNat RI.z).a8) (n := (L1.getD (y0_0).toNat RI.z).a8.length) (size := 2) rfl (by decide) (by omega))⟩, by omega, by omega, ltA, by omega, (Zdq (E := RA) (L := ([] : List RF)) (M := (L1.getD (y0_0).toNat RI.z).a8) (n := 0) (show _ = _ * 2 from rfl) ltA (R := (L1.getD (y0_0).toNat RI.z).a8) (by rw [List.take_of_length_le ltA]; rfl))⟩) <| hT g16 w16) bE
           ·
            exact fxC (Ze (oq [0, 2, 4, 6, 9, 10, 13, 15, 17, 19, 20]) [(0, (a7 / (1048576 : Int))), (1, (a7 % (1048576 : Int))), (2, a5), (4, (((L1.getD (y0_0).toNat RI.z).a5 / (2 ^ (a5).toNat : Int)) % (2 : Int)))] [(0, (y0_0).toNat)] [(3, (RD.cel (L1.getD (y0_0).toNat RI.z)))] [(0, (Z2 c0 [] 4).t), (3, .sh (a5).toNat)]) [] (Value.tuple #[Value.agg (κb a0 L1 L2), vi (10 : Int)]) (hF g16 w16) bE
          ·
           exact fxC (Ze (oq [0, 2, 4, 6, 9, 10, 13, 15, 16]) [(0, (a7 / (1048576 : Int))), (1, (a7 % (1048576 : Int)))] [(0, (y0_0).toNat)] [(3, (RD.cel (L1.getD (y0_0).toNat RI.z)))] [(0, (Z2 c0 [] 4).t)]) [] (Value.tuple #[Value.agg (κb a0 L1 L2), vi (10 : Int)]) (kN ((a7 % (1048576 : Int)) ≥ (1 : Int)) w12) bE
         ·
          exact fxC (Ze (oq [0, 2, 4, 6, 9, 10, 13, 14]) [(0, (a7 / (1048576 : Int)))] [(0, (y0_0).toNat)] [(3, (RD.cel (L1.getD (y0_0).toNat RI.z)))] [(0, (Z2 c0 [] 4).t)]) [] (Value.tuple #[Value.agg (κb a0 L1 L2), vi (10 : Int)]) (hN g11 <| kV a7 (1048576 : Int) w10) bE
        ·
         exact fxC (Ze (oq [0, 2, 4, 6, 9, 10, 12]) [] [(0, (y0_0).toNat)] [(3, (RD.cel (L1.getD (y0_0).toNat RI.z)))] [(0, (Z2 c0 [] 4).t)]) [] (Value.tuple #[Value.agg (κb a0 L1 L2), vi (10 : Int)]) (kN (a7 ≥ (1048576 : Int)) <| hF g8 <| hT g7 <| hF g6 w6) bE
      ·
       exact fxC (Ze (oq [0, 2, 4, 6, 8]) [] [(0, (y0_0).toNat)] [(3, (RD.cel (L1.getD (y0_0).toNat RI.z)))] [(0, (Z2 c0 [] 4).t)]) [] (Value.tuple #[Value.agg (κb a0 L1 L2), vi (10 : Int)]) (hF g7 <| hF g6 w6) bE

theorem Zmv (a0 : Int) (L1 : List RI) (L2 : List Int) (a3 a4 a5 a6 a7 : Int) (N : Nat) (r : Zag) (h : Zch a0 L1 L2 a3 a4 a5 a6 a7 N = some r) : LSpec Try.prog 31 #[Value.agg (κb a0 L1 L2), Value.agg #[vi a3, vi a4], vi a5, Value.agg #[vi a6, vi a7]] [] (ZkW a0 L1 L2 a3 a4 a5 a6 a7 r) (ZjM a0 L1 L2 a3 a4 a5 a6 a7 r) :=
 ZaK Zr Try.func31 (by kernel_rfl) (by kernel_rfl) (fun r => by cases r <;> exact ZH _ rfl) (ZnO a0 L1 L2 a3 a4 a5 a6 a7 N) h

noncomputable def ZdX {a0 : Int} {L1 : List RI} {L2 : List Int} {a3 : Int} {a4 : Int} {a5 : Int} {a6 : Int} {a7 : Int} {w1 : List RI} {w3 : Int} {N : Nat} (h : Zch a0 L1 L2 a3 a4 a5 a6 a7 N = some (.r0 w1 w3)) (ks : List Nat) (n : Nat) : ToldS := ⟨#[Value.agg (κb a0 L1 L2), Value.agg #[vi a3, vi a4], vi a5, Value.agg #[vi a6, vi a7]], [], Value.tuple #[Value.agg #[vi a0, ms RD w1, ms eI L2], vi w3], [], 0⟩

theorem ZeS {a0 : Int} {L1 : List RI} {L2 : List Int} {a3 : Int} {a4 : Int} {a5 : Int} {a6 : Int} {a7 : Int} {w1 : List RI} {w3 : Int} {N : Nat} (h : Zch a0 L1 L2 a3 a4 a5 a6 a7 N = some (.r0 w1 w3)) (ks : List Nat) (n : Nat) (hk : ks.length = 0 := by rfl) (hnd : ks.Nodup := by decide +kernel) (hlt : ∀ k ∈ ks, k < n := by decide +kernel) : (ZdX (N := N)  h ks n).P Try.prog 31 n :=
 match ks, hk, hnd, hlt with
 | [], _, hnd, hlt => Zad (show LSpec Try.prog 31 #[Value.agg (κb a0 L1 L2), Value.agg #[vi a3, vi a4], vi a5, Value.agg #[vi a6, vi a7]] [] (Value.tuple #[Value.agg #[vi a0, ms RD w1, ms eI L2], vi w3]) [] from Zmv a0 L1 L2 a3 a4 a5 a6 a7 N _ h) _ n [] hnd hlt

noncomputable def Zh8 (a0 a1 a2 : Int) (L3 : List RG) (L4 : List RF) (W5 : Nat → List Int) : ZaN → Value
 | .r0 w0 w19 => vi w19
noncomputable def ZgB (a0 a1 a2 : Int) (L3 : List RG) (L4 : List RF) (W5 : Nat → List Int) : ZaN → List (Option AObj)
 | .r0 w0 w19 => (some (.cells (hpC a2 1 w0.length 2 L4.length 3 W5) 67) :: some (.cells (Za RB w0) 50) :: some (.cells (Za RA L4) 41) :: hpO W5 [])

theorem ZkX (a0 a1 a2 : Int) (L3 : List RG) (L4 : List RF) (W5 : Nat → List Int) (N : Nat) : Fx Try.prog Z7 Try.f32 (κo a2 L3 L4 W5) #[vp 0 0, Value.agg #[vi a0, vi a1]] (Zh8 a0 a1 a2 L3 L4 W5) (ZgB a0 a1 a2 L3 L4 W5) (ZaI a0 a1 a2 L3 L4 W5 N) := by
 unfold ZaI
 refine Zh (fun g0 => ?_) (fun g0 => ?_)
 ·
  refine Zbb (fun z1 c1 => ?_)
  cases z1 with
  | r0 y1_0 y1_1 =>
   have w2 := kK (ZdU c1 (rg 0 20 []) 21) <| kY (a2 > (0 : Int)) Zp
   refine Zh (fun g2 => ?_) (fun g2 => ?_)
   ·
    exact fxC (Ze (oq [3, 7]) [] [] [] [(0, (ZL c1 (rg 0 20 []) 21).t)]) (rg 0 20 []) (vi y1_1) (hD g2 w2) (bS (hpC a2 1 L3.length 2 L4.length 3 W5) <| bR <| bR <| Zs <| bQ <| bE)
   ·
    refine Zh (fun g3 => ?_) (fun _ => Zq)
    refine Zh (fun g4 => ?_) (fun _ => Zq)
    have w5 := kL RB L3 (((i64.wrap (y1_0 - (1 : Int)))).toNat) 3 1 <| kB ((i64.wrap (y1_0 - (1 : Int)))).toNat L3.length <| kI (i64.wrap (y1_0 - (1 : Int))) (Int.ofNat ((i64.wrap (y1_0 - (1 : Int)))).toNat) <| kE y1_1 (0 : Int) w2
    refine Zh (fun g5 => ?_) (fun g5 => ?_)
    ·
     exact fxC (Ze (oq [3, 6, 9]) [] [(0, ((i64.wrap (y1_0 - (1 : Int)))).toNat)] [(3, [.i (L3.getD ((i64.wrap (y1_0 - (1 : Int)))).toNat RG.z).a3])] [(0, (ZL c1 (rg 0 20 []) 21).t), (1, .st (Za RB (L3.set ((i64.wrap (y1_0 - (1 : Int)))).toNat (⟨(L3.getD ((i64.wrap (y1_0 - (1 : Int)))).toNat RG.z).a0, (L3.getD ((i64.wrap (y1_0 - (1 : Int)))).toNat RG.z).a1, (L3.getD ((i64.wrap (y1_0 - (1 : Int)))).toNat RG.z).a2, (2 : Int), (L3.getD ((i64.wrap (y1_0 - (1 : Int)))).toNat RG.z).a4⟩ : RG))))]) (rg 0 20 []) (vq) (kC (Za8 (E := RB) (L := L3) (i := ((i64.wrap (y1_0 - (1 : Int)))).toNat) (q := 3) (l := [vi (2 : Int)]) (⟨(L3.getD ((i64.wrap (y1_0 - (1 : Int)))).toNat RG.z).a0, (L3.getD ((i64.wrap (y1_0 - (1 : Int)))).toNat RG.z).a1, (L3.getD ((i64.wrap (y1_0 - (1 : Int)))).toNat RG.z).a2, (2 : Int), (L3.getD ((i64.wrap (y1_0 - (1 : Int)))).toNat RG.z).a4⟩ : RG) (by omega) (show ((0 + (((i64.wrap (y1_0 - (1 : Int)))).toNat * 5)) + 3) = ((i64.wrap (y1_0 - (1 : Int)))).toNat * 5 + 3 from by omega) (show 3 + 1 ≤ 5 from by decide) rfl) <| hT g5 w5) (bU (hpC a2 1 L3.length 2 L4.length 3 W5) 1 (show (vs 1 0 L3.length L3.length : Value) = vs 1 0 (L3.set ((i64.wrap (y1_0 - (1 : Int)))).toNat (⟨(L3.getD ((i64.wrap (y1_0 - (1 : Int)))).toNat RG.z).a0, (L3.getD ((i64.wrap (y1_0 - (1 : Int)))).toNat RG.z).a1, (L3.getD ((i64.wrap (y1_0 - (1 : Int)))).toNat RG.z).a2, (2 : Int), (L3.getD ((i64.wrap (y1_0 - (1 : Int)))).toNat RG.z).a4⟩ : RG)).length (L3.set ((i64.wrap (y1_0 - (1 : Int)))).toNat (⟨(L3.getD ((i64.wrap (y1_0 - (1 : Int)))).toNat RG.z).a0, (L3.getD ((i64.wrap (y1_0 - (1 : Int)))).toNat RG.z).a1, (L3.getD ((i64.wrap (y1_0 - (1 : Int)))).toNat RG.z).a2, (2 : Int), (L3.getD ((i64.wrap (y1_0 - (1 : Int)))).toNat RG.z).a4⟩ : RG)).length from Zo rfl eqA eqA) <| bR <| bR <| Zs <| bQ <| bE)
    ·
     exact fxC (Ze (oq [3, 6, 8]) [] [(0, ((i64.wrap (y1_0 - (1 : Int)))).toNat)] [(3, [.i (L3.getD ((i64.wrap (y1_0 - (1 : Int)))).toNat RG.z).a3])] [(0, (ZL c1 (rg 0 20 []) 21).t)]) (rg 0 20 []) (vq) (hF g5 w5) (bS (hpC a2 1 L3.length 2 L4.length 3 W5) <| bR <| bR <| Zs <| bQ <| bE)
 ·
  exact fxC (Ze (oq [2]) [] [] [] []) (rg 0 20 []) (vi (4 : Int)) (kN (a2 > (0 : Int)) Zp) (bS (hpC a2 1 L3.length 2 L4.length 3 W5) <| bR <| bR <| Zs <| bQ <| bE)

theorem Zj4 (a0 a1 a2 : Int) (L3 : List RG) (L4 : List RF) (W5 : Nat → List Int) (N : Nat) (r : ZaN) (h : ZaI a0 a1 a2 L3 L4 W5 N = some r) : LSpec Try.prog 32 #[vp 0 0, Value.agg #[vi a0, vi a1]] (κo a2 L3 L4 W5) (Zh8 a0 a1 a2 L3 L4 W5 r) (ZgB a0 a1 a2 L3 L4 W5 r) :=
 ZaK Zr Try.func32 (by kernel_rfl) (by kernel_rfl) (fun r => by cases r <;> exact ZH _ rfl) (ZkX a0 a1 a2 L3 L4 W5 N) h

noncomputable def Zbp {a0 : Int} {a1 : Int} {a2 : Int} {L3 : List RG} {L4 : List RF} {W5 : Nat → List Int} {w0 : List RG} {w19 : Int} {N : Nat} (h : ZaI a0 a1 a2 L3 L4 W5 N = some (.r0 w0 w19)) (ks : List Nat) (n : Nat) : ToldS := ⟨#[vp (nth ks 0) 0, Value.agg #[vi a0, vi a1]], (κF ks a2 L3 L4 W5), vi w19, [((nth ks 0), some (.cells (Zhs a2 (nth ks 1) w0.length (nth ks 2) L4.length (ZdN ks 3 17) W5) 67)), ((nth ks 1), some (.cells (Za RB w0) 50))], 0⟩

theorem Zl6 {a0 : Int} {a1 : Int} {a2 : Int} {L3 : List RG} {L4 : List RF} {W5 : Nat → List Int} {w0 : List RG} {w19 : Int} {N : Nat} (h : ZaI a0 a1 a2 L3 L4 W5 N = some (.r0 w0 w19)) (ks : List Nat) (n : Nat) (hk : ks.length = 20 := by rfl) (hnd : ks.Nodup := by decide +kernel) (hlt : ∀ k ∈ ks, k < n := by decide +kernel) : (Zbp (N := N)  h ks n).P Try.prog 32 n :=
 match ks, hk, hnd, hlt with
 | [k0, k1, k2, k3, k4, k5, k6, k7, k8, k9, k10, k11, k12, k13, k14, k15, k16, k17, k18, k19], _, hnd, hlt => Zad (show LSpec Try.prog 32 #[vp 0 0, Value.agg #[vi a0, vi a1]] (κo a2 L3 L4 W5) (vi w19) (some (.cells (hpC a2 1 w0.length 2 L4.length 3 W5) 67) :: some (.cells (Za RB w0) 50) :: some (.cells (Za RA L4) 41) :: hpO W5 []) from Zj4 a0 a1 a2 L3 L4 W5 N _ h) _ n [0, 1] hnd hlt

noncomputable def Znt (a0 : Int) (L1 : List RI) (L2 : List Int) (a3 a4 a5 : Int) : Zc9 → Value
 | .r0 w1 w3 => Value.tuple #[Value.agg #[vi a0, ms RD w1, ms eI L2], vi w3]
noncomputable def ZlR (a0 : Int) (L1 : List RI) (L2 : List Int) (a3 a4 a5 : Int) : Zc9 → List (Option AObj)
 | .r0 w1 w3 => []

theorem Zqr (a0 : Int) (L1 : List RI) (L2 : List Int) (a3 a4 a5 : Int) (N : Nat) : Fx Try.prog Z7 Try.f35 [] #[Value.agg (κb a0 L1 L2), Value.agg #[vi a3, vi a4], vi a5] (Znt a0 L1 L2 a3 a4 a5) (ZlR a0 L1 L2 a3 a4 a5) (ZcI a0 L1 L2 a3 a4 a5 N) := by
 unfold ZcI
 refine Zbb (fun z0 c0 => ?_)
 cases z0 with
 | r0 y0_0 y0_1 =>
  have w1 := kK (Zd8 c0 [] 3) Zp
  refine Zh (fun g1 => ?_) (fun g1 => ?_)
  ·
   exact fxC (Ze (oq [1]) [] [] [] [(0, (Z2 c0 [] 3).t)]) [] (Value.tuple #[Value.agg (κb a0 L1 L2), vi y0_1]) (hD g1 w1) bE
  ·
   refine Zh (fun g2 => ?_) (fun g2 => ?_)
   ·
    refine Zh (fun g3 => ?_) (fun g3 => ?_)
    ·
     refine Zh (fun g4 => ?_) (fun g4 => ?_)
     ·
      exact fxC (Ze (oq [0, 3, 5, 7]) [] [] [] [(0, (Z2 c0 [] 3).t)]) [] (Value.tuple #[Value.agg (κb a0 L1 L2), vi (1 : Int)]) (hD g4 <| hD g3 <| hD g2 <| kE y0_1 (0 : Int) w1) bE
     ·
      refine Zh (fun g5 => ?_) (fun _ => Zq)
      refine Zh (fun g6 => ?_) (fun _ => Zq)
      refine Zbb (fun z7 c7 => ?_)
      cases z7 with
      | r0 =>
       exact fxC (Ze (oq [0, 3, 5, 6]) [] [(0, (y0_0).toNat)] [(3, (RD.cel (L1.getD (y0_0).toNat RI.z)))] [(0, (Z2 c0 [] 3).t), (3, (Zcc c7 [] 4).t)]) [] (Value.tuple #[Value.agg #[vi a0, ms RD (L1.set (y0_0).toNat (⟨(L1.getD (y0_0).toNat RI.z).a0, (L1.getD (y0_0).toNat RI.z).a1, (L1.getD (y0_0).toNat RI.z).a2, (L1.getD (y0_0).toNat RI.z).a3, (L1.getD (y0_0).toNat RI.z).a4, (L1.getD (y0_0).toNat RI.z).a5, a5, (L1.getD (y0_0).toNat RI.z).a7, (L1.getD (y0_0).toNat RI.z).a8⟩ : RI)), ms eI L2], vq]) (kK (ZcM c7 [] 4) <| kG RD L1 (0 + ((y0_0).toNat * 9)) ((y0_0).toNat) 0 9 9 <| kB (y0_0).toNat L1.length <| kI y0_0 (Int.ofNat (y0_0).toNat) <| kE a5 (3 : Int) <| hD g3 <| hD g2 <| kE y0_1 (0 : Int) w1) bE
    ·
     refine Zh (fun g4 => ?_) (fun _ => Zq)
     refine Zh (fun g5 => ?_) (fun _ => Zq)
     refine Zbb (fun z6 c6 => ?_)
     cases z6 with
     | r0 =>
      exact fxC (Ze (oq [0, 3, 4]) [] [(0, (y0_0).toNat)] [(3, (RD.cel (L1.getD (y0_0).toNat RI.z)))] [(0, (Z2 c0 [] 3).t), (3, (Zcc c6 [] 4).t)]) [] (Value.tuple #[Value.agg #[vi a0, ms RD (L1.set (y0_0).toNat (⟨(L1.getD (y0_0).toNat RI.z).a0, (L1.getD (y0_0).toNat RI.z).a1, (L1.getD (y0_0).toNat RI.z).a2, (L1.getD (y0_0).toNat RI.z).a3, (L1.getD (y0_0).toNat RI.z).a4, (L1.getD (y0_0).toNat RI.z).a5, a5, (L1.getD (y0_0).toNat RI.z).a7, (L1.getD (y0_0).toNat RI.z).a8⟩ : RI)), ms eI L2], vq]) (kK (ZcM c6 [] 4) <| kG RD L1 (0 + ((y0_0).toNat * 9)) ((y0_0).toNat) 0 9 9 <| kB (y0_0).toNat L1.length <| kI y0_0 (Int.ofNat (y0_0).toNat) <| kE a5 (2 : Int) <| hD g2 <| kE y0_1 (0 : Int) w1) bE
   ·
    refine Zh (fun g3 => ?_) (fun _ => Zq)
    refine Zh (fun g4 => ?_) (fun _ => Zq)
    refine Zbb (fun z5 c5 => ?_)
    cases z5 with
    | r0 =>
     exact fxC (Ze (oq [0, 2]) [] [(0, (y0_0).toNat)] [(3, (RD.cel (L1.getD (y0_0).toNat RI.z)))] [(0, (Z2 c0 [] 3).t), (3, (Zcc c5 [] 4).t)]) [] (Value.tuple #[Value.agg #[vi a0, ms RD (L1.set (y0_0).toNat (⟨(L1.getD (y0_0).toNat RI.z).a0, (L1.getD (y0_0).toNat RI.z).a1, (L1.getD (y0_0).toNat RI.z).a2, (L1.getD (y0_0).toNat RI.z).a3, (L1.getD (y0_0).toNat RI.z).a4, (L1.getD (y0_0).toNat RI.z).a5, a5, (L1.getD (y0_0).toNat RI.z).a7, (L1.getD (y0_0).toNat RI.z).a8⟩ : RI)), ms eI L2], vq]) (kK (ZcM c5 [] 4) <| kG RD L1 (0 + ((y0_0).toNat * 9)) ((y0_0).toNat) 0 9 9 <| kB (y0_0).toNat L1.length <| kI y0_0 (Int.ofNat (y0_0).toNat) <| kE a5 (1 : Int) <| kE y0_1 (0 : Int) w1) bE

theorem ZnP (a0 : Int) (L1 : List RI) (L2 : List Int) (a3 a4 a5 : Int) (N : Nat) (r : Zc9) (h : ZcI a0 L1 L2 a3 a4 a5 N = some r) : LSpec Try.prog 35 #[Value.agg (κb a0 L1 L2), Value.agg #[vi a3, vi a4], vi a5] [] (Znt a0 L1 L2 a3 a4 a5 r) (ZlR a0 L1 L2 a3 a4 a5 r) :=
 ZaK Zr Try.func35 (by kernel_rfl) (by kernel_rfl) (fun r => by cases r <;> exact ZH _ rfl) (Zqr a0 L1 L2 a3 a4 a5 N) h

noncomputable def Zds {a0 : Int} {L1 : List RI} {L2 : List Int} {a3 : Int} {a4 : Int} {a5 : Int} {w1 : List RI} {w3 : Int} {N : Nat} (h : ZcI a0 L1 L2 a3 a4 a5 N = some (.r0 w1 w3)) (ks : List Nat) (n : Nat) : ToldS := ⟨#[Value.agg (κb a0 L1 L2), Value.agg #[vi a3, vi a4], vi a5], [], Value.tuple #[Value.agg #[vi a0, ms RD w1, ms eI L2], vi w3], [], 0⟩

theorem ZfU {a0 : Int} {L1 : List RI} {L2 : List Int} {a3 : Int} {a4 : Int} {a5 : Int} {w1 : List RI} {w3 : Int} {N : Nat} (h : ZcI a0 L1 L2 a3 a4 a5 N = some (.r0 w1 w3)) (ks : List Nat) (n : Nat) (hk : ks.length = 0 := by rfl) (hnd : ks.Nodup := by decide +kernel) (hlt : ∀ k ∈ ks, k < n := by decide +kernel) : (Zds (N := N)  h ks n).P Try.prog 35 n :=
 match ks, hk, hnd, hlt with
 | [], _, hnd, hlt => Zad (show LSpec Try.prog 35 #[Value.agg (κb a0 L1 L2), Value.agg #[vi a3, vi a4], vi a5] [] (Value.tuple #[Value.agg #[vi a0, ms RD w1, ms eI L2], vi w3]) [] from ZnP a0 L1 L2 a3 a4 a5 N _ h) _ n [] hnd hlt

set_option linter.unusedVariables false
set_option maxRecDepth 100000
set_option maxHeartbeats 4000000
noncomputable def ZiY (a0 a1 a2 a3 : Int) (L4 : List RG) (L5 : List RF) (W6 : Nat → List Int) : ZaS → Value
 | .r0 w0 w19 => vi w19
noncomputable def Zid (a0 a1 a2 a3 : Int) (L4 : List RG) (L5 : List RF) (W6 : Nat → List Int) : ZaS → List (Option AObj)
 | .r0 w0 w19 => (some (.cells (hpC a3 1 w0.length 2 L5.length 3 W6) 67) :: some (.cells (Za RB w0) 50) :: some (.cells (Za RA L5) 41) :: hpO W6 [])

theorem Zmw (a0 a1 a2 a3 : Int) (L4 : List RG) (L5 : List RF) (W6 : Nat → List Int) (N : Nat) : Fx Try.prog Z7 Try.f34 (κf a3 L4 L5 W6) #[vp 0 0, Value.agg #[vi a0, vi a1], vi a2] (ZiY a0 a1 a2 a3 L4 L5 W6) (Zid a0 a1 a2 a3 L4 L5 W6) (ZbS a0 a1 a2 a3 L4 L5 W6 N) := by
 unfold ZbS
 refine Zh (fun g0 => ?_) (fun g0 => ?_)
 ·
  refine Zbb (fun z1 c1 => ?_)
  cases z1 with
  | r0 y1_0 y1_1 =>
   have w2 := kK (ZdU c1 (rg 0 20 []) 21) <| kY (a3 > (0 : Int)) Zp
   refine Zh (fun g2 => ?_) (fun g2 => ?_)
   ·
    exact fxC (Ze (oq [3, 7]) [] [] [] [(0, (ZL c1 (rg 0 20 []) 21).t)]) (rg 0 20 []) (vi y1_1) (hD g2 w2) (bS (hpC a3 1 L4.length 2 L5.length 3 W6) <| bR <| bR <| Zs <| bQ <| bE)
   ·
    refine Zh (fun g3 => ?_) (fun g3 => ?_)
    ·
     refine Zh (fun g4 => ?_) (fun g4 => ?_)
     ·
      refine Zh (fun g5 => ?_) (fun g5 => ?_)
      ·
       exact fxC (Ze (oq [3, 6, 9, 11, 13]) [] [] [] [(0, (ZL c1 (rg 0 20 []) 21).t)]) (rg 0 20 []) (vi (1 : Int)) (hD g5 <| hD g4 <| hD g3 <| kE y1_1 (0 : Int) w2) (bS (hpC a3 1 L4.length 2 L5.length 3 W6) <| bR <| bR <| Zs <| bQ <| bE)
      ·
       refine Zh (fun g6 => ?_) (fun _ => Zq)
       refine Zh (fun g7 => ?_) (fun _ => Zq)
       exact fxC (Ze (oq [3, 6, 9, 11, 12]) [] [(0, ((i64.wrap (y1_0 - (1 : Int)))).toNat)] [] [(0, (ZL c1 (rg 0 20 []) 21).t), (1, .st (Za RB (L4.set ((i64.wrap (y1_0 - (1 : Int)))).toNat (⟨(L4.getD ((i64.wrap (y1_0 - (1 : Int)))).toNat RG.z).a0, (L4.getD ((i64.wrap (y1_0 - (1 : Int)))).toNat RG.z).a1, (L4.getD ((i64.wrap (y1_0 - (1 : Int)))).toNat RG.z).a2, a2, (L4.getD ((i64.wrap (y1_0 - (1 : Int)))).toNat RG.z).a4⟩ : RG))))]) (rg 0 20 []) (vq) (kC (Za8 (E := RB) (L := L4) (i := ((i64.wrap (y1_0 - (1 : Int)))).toNat) (q := 3) (l := [vi a2]) (⟨(L4.getD ((i64.wrap (y1_0 - (1 : Int)))).toNat RG.z).a0, (L4.getD ((i64.wrap (y1_0 - (1 : Int)))).toNat RG.z).a1, (L4.getD ((i64.wrap (y1_0 - (1 : Int)))).toNat RG.z).a2, a2, (L4.getD ((i64.wrap (y1_0 - (1 : Int)))).toNat RG.z).a4⟩ : RG) (by omega) (show ((0 + (((i64.wrap (y1_0 - (1 : Int)))).toNat * 5)) + 3) = ((i64.wrap (y1_0 - (1 : Int)))).toNat * 5 + 3 from by omega) (show 3 + 1 ≤ 5 from by decide) rfl) <| kB ((i64.wrap (y1_0 - (1 : Int)))).toNat L4.length <| kI (i64.wrap (y1_0 - (1 : Int))) (Int.ofNat ((i64.wrap (y1_0 - (1 : Int)))).toNat) <| kE a2 (3 : Int) <| hD g4 <| hD g3 <| kE y1_1 (0 : Int) w2) (bU (hpC a3 1 L4.length 2 L5.length 3 W6) 1 (show (vs 1 0 L4.length L4.length : Value) = vs 1 0 (L4.set ((i64.wrap (y1_0 - (1 : Int)))).toNat (⟨(L4.getD ((i64.wrap (y1_0 - (1 : Int)))).toNat RG.z).a0, (L4.getD ((i64.wrap (y1_0 - (1 : Int)))).toNat RG.z).a1, (L4.getD ((i64.wrap (y1_0 - (1 : Int)))).toNat RG.z).a2, a2, (L4.getD ((i64.wrap (y1_0 - (1 : Int)))).toNat RG.z).a4⟩ : RG)).length (L4.set ((i64.wrap (y1_0 - (1 : Int)))).toNat (⟨(L4.getD ((i64.wrap (y1_0 - (1 : Int)))).toNat RG.z).a0, (L4.getD ((i64.wrap (y1_0 - (1 : Int)))).toNat RG.z).a1, (L4.getD ((i64.wrap (y1_0 - (1 : Int)))).toNat RG.z).a2, a2, (L4.getD ((i64.wrap (y1_0 - (1 : Int)))).toNat RG.z).a4⟩ : RG)).length from Zo rfl eqA eqA) <| bR <| bR <| Zs <| bQ <| bE)
     ·
      refine Zh (fun g5 => ?_) (fun _ => Zq)
      refine Zh (fun g6 => ?_) (fun _ => Zq)
      exact fxC (Ze (oq [3, 6, 9, 10]) [] [(0, ((i64.wrap (y1_0 - (1 : Int)))).toNat)] [] [(0, (ZL c1 (rg 0 20 []) 21).t), (1, .st (Za RB (L4.set ((i64.wrap (y1_0 - (1 : Int)))).toNat (⟨(L4.getD ((i64.wrap (y1_0 - (1 : Int)))).toNat RG.z).a0, (L4.getD ((i64.wrap (y1_0 - (1 : Int)))).toNat RG.z).a1, (L4.getD ((i64.wrap (y1_0 - (1 : Int)))).toNat RG.z).a2, a2, (L4.getD ((i64.wrap (y1_0 - (1 : Int)))).toNat RG.z).a4⟩ : RG))))]) (rg 0 20 []) (vq) (kC (Za8 (E := RB) (L := L4) (i := ((i64.wrap (y1_0 - (1 : Int)))).toNat) (q := 3) (l := [vi a2]) (⟨(L4.getD ((i64.wrap (y1_0 - (1 : Int)))).toNat RG.z).a0, (L4.getD ((i64.wrap (y1_0 - (1 : Int)))).toNat RG.z).a1, (L4.getD ((i64.wrap (y1_0 - (1 : Int)))).toNat RG.z).a2, a2, (L4.getD ((i64.wrap (y1_0 - (1 : Int)))).toNat RG.z).a4⟩ : RG) (by omega) (show ((0 + (((i64.wrap (y1_0 - (1 : Int)))).toNat * 5)) + 3) = ((i64.wrap (y1_0 - (1 : Int)))).toNat * 5 + 3 from by omega) (show 3 + 1 ≤ 5 from by decide) rfl) <| kB ((i64.wrap (y1_0 - (1 : Int)))).toNat L4.length <| kI (i64.wrap (y1_0 - (1 : Int))) (Int.ofNat ((i64.wrap (y1_0 - (1 : Int)))).toNat) <| kE a2 (2 : Int) <| hD g3 <| kE y1_1 (0 : Int) w2) (bU (hpC a3 1 L4.length 2 L5.length 3 W6) 1 (show (vs 1 0 L4.length L4.length : Value) = vs 1 0 (L4.set ((i64.wrap (y1_0 - (1 : Int)))).toNat (⟨(L4.getD ((i64.wrap (y1_0 - (1 : Int)))).toNat RG.z).a0, (L4.getD ((i64.wrap (y1_0 - (1 : Int)))).toNat RG.z).a1, (L4.getD ((i64.wrap (y1_0 - (1 : Int)))).toNat RG.z).a2, a2, (L4.getD ((i64.wrap (y1_0 - (1 : Int)))).toNat RG.z).a4⟩ : RG)).length (L4.set ((i64.wrap (y1_0 - (1 : Int)))).toNat (⟨(L4.getD ((i64.wrap (y1_0 - (1 : Int)))).toNat RG.z).a0, (L4.getD ((i64.wrap (y1_0 - (1 : Int)))).toNat RG.z).a1, (L4.getD ((i64.wrap (y1_0 - (1 : Int)))).toNat RG.z).a2, a2, (L4.getD ((i64.wrap (y1_0 - (1 : Int)))).toNat RG.z).a4⟩ : RG)).length from Zo rfl eqA eqA) <| bR <| bR <| Zs <| bQ <| bE)
    ·
     refine Zh (fun g4 => ?_) (fun _ => Zq)
     refine Zh (fun g5 => ?_) (fun _ => Zq)
     exact fxC (Ze (oq [3, 6, 8]) [] [(0, ((i64.wrap (y1_0 - (1 : Int)))).toNat)] [] [(0, (ZL c1 (rg 0 20 []) 21).t), (1, .st (Za RB (L4.set ((i64.wrap (y1_0 - (1 : Int)))).toNat (⟨(L4.getD ((i64.wrap (y1_0 - (1 : Int)))).toNat RG.z).a0, (L4.getD ((i64.wrap (y1_0 - (1 : Int)))).toNat RG.z).a1, (L4.getD ((i64.wrap (y1_0 - (1 : Int)))).toNat RG.z).a2, a2, (L4.getD ((i64.wrap (y1_0 - (1 : Int)))).toNat RG.z).a4⟩ : RG))))]) (rg 0 20 []) (vq) (kC (Za8 (E := RB) (L := L4) (i := ((i64.wrap (y1_0 - (1 : Int)))).toNat) (q := 3) (l := [vi a2]) (⟨(L4.getD ((i64.wrap (y1_0 - (1 : Int)))).toNat RG.z).a0, (L4.getD ((i64.wrap (y1_0 - (1 : Int)))).toNat RG.z).a1, (L4.getD ((i64.wrap (y1_0 - (1 : Int)))).toNat RG.z).a2, a2, (L4.getD ((i64.wrap (y1_0 - (1 : Int)))).toNat RG.z).a4⟩ : RG) (by omega) (show ((0 + (((i64.wrap (y1_0 - (1 : Int)))).toNat * 5)) + 3) = ((i64.wrap (y1_0 - (1 : Int)))).toNat * 5 + 3 from by omega) (show 3 + 1 ≤ 5 from by decide) rfl) <| kB ((i64.wrap (y1_0 - (1 : Int)))).toNat L4.length <| kI (i64.wrap (y1_0 - (1 : Int))) (Int.ofNat ((i64.wrap (y1_0 - (1 : Int)))).toNat) <| kE a2 (1 : Int) <| kE y1_1 (0 : Int) w2) (bU (hpC a3 1 L4.length 2 L5.length 3 W6) 1 (show (vs 1 0 L4.length L4.length : Value) = vs 1 0 (L4.set ((i64.wrap (y1_0 - (1 : Int)))).toNat (⟨(L4.getD ((i64.wrap (y1_0 - (1 : Int)))).toNat RG.z).a0, (L4.getD ((i64.wrap (y1_0 - (1 : Int)))).toNat RG.z).a1, (L4.getD ((i64.wrap (y1_0 - (1 : Int)))).toNat RG.z).a2, a2, (L4.getD ((i64.wrap (y1_0 - (1 : Int)))).toNat RG.z).a4⟩ : RG)).length (L4.set ((i64.wrap (y1_0 - (1 : Int)))).toNat (⟨(L4.getD ((i64.wrap (y1_0 - (1 : Int)))).toNat RG.z).a0, (L4.getD ((i64.wrap (y1_0 - (1 : Int)))).toNat RG.z).a1, (L4.getD ((i64.wrap (y1_0 - (1 : Int)))).toNat RG.z).a2, a2, (L4.getD ((i64.wrap (y1_0 - (1 : Int)))).toNat RG.z).a4⟩ : RG)).length from Zo rfl eqA eqA) <| bR <| bR <| Zs <| bQ <| bE)
 ·
  exact fxC (Ze (oq [2]) [] [] [] []) (rg 0 20 []) (vi (4 : Int)) (kN (a3 > (0 : Int)) Zp) (bS (hpC a3 1 L4.length 2 L5.length 3 W6) <| bR <| bR <| Zs <| bQ <| bE)

theorem ZkY (a0 a1 a2 a3 : Int) (L4 : List RG) (L5 : List RF) (W6 : Nat → List Int) (N : Nat) (r : ZaS) (h : ZbS a0 a1 a2 a3 L4 L5 W6 N = some r) : LSpec Try.prog 34 #[vp 0 0, Value.agg #[vi a0, vi a1], vi a2] (κf a3 L4 L5 W6) (ZiY a0 a1 a2 a3 L4 L5 W6 r) (Zid a0 a1 a2 a3 L4 L5 W6 r) :=
 ZaK Zr Try.func34 (by kernel_rfl) (by kernel_rfl) (fun r => by cases r <;> exact ZH _ rfl) (Zmw a0 a1 a2 a3 L4 L5 W6 N) h

noncomputable def Zdn {a0 : Int} {a1 : Int} {a2 : Int} {a3 : Int} {L4 : List RG} {L5 : List RF} {W6 : Nat → List Int} {w0 : List RG} {w19 : Int} {N : Nat} (h : ZbS a0 a1 a2 a3 L4 L5 W6 N = some (.r0 w0 w19)) (ks : List Nat) (n : Nat) : ToldS := ⟨#[vp (nth ks 0) 0, Value.agg #[vi a0, vi a1], vi a2], (κw ks a3 L4 L5 W6), vi w19, [((nth ks 0), some (.cells (Zhs a3 (nth ks 1) w0.length (nth ks 2) L5.length (ZdN ks 3 17) W6) 67)), ((nth ks 1), some (.cells (Za RB w0) 50))], 0⟩

theorem Zie {a0 : Int} {a1 : Int} {a2 : Int} {a3 : Int} {L4 : List RG} {L5 : List RF} {W6 : Nat → List Int} {w0 : List RG} {w19 : Int} {N : Nat} (h : ZbS a0 a1 a2 a3 L4 L5 W6 N = some (.r0 w0 w19)) (ks : List Nat) (n : Nat) (hk : ks.length = 20 := by rfl) (hnd : ks.Nodup := by decide +kernel) (hlt : ∀ k ∈ ks, k < n := by decide +kernel) : (Zdn (N := N)  h ks n).P Try.prog 34 n :=
 match ks, hk, hnd, hlt with
 | [k0, k1, k2, k3, k4, k5, k6, k7, k8, k9, k10, k11, k12, k13, k14, k15, k16, k17, k18, k19], _, hnd, hlt => Zad (show LSpec Try.prog 34 #[vp 0 0, Value.agg #[vi a0, vi a1], vi a2] (κf a3 L4 L5 W6) (vi w19) (some (.cells (hpC a3 1 w0.length 2 L5.length 3 W6) 67) :: some (.cells (Za RB w0) 50) :: some (.cells (Za RA L5) 41) :: hpO W6 []) from ZkY a0 a1 a2 a3 L4 L5 W6 N _ h) _ n [0, 1] hnd hlt

noncomputable def Zfa (L0 : List RG) : Zau → Value
 | .r0 => vs 1 0 L0.length L0.length
noncomputable def ZeN (L0 : List RG) : Zau → List (Option AObj)
 | .r0 => [some (.cells (Za RB L0) 50), some (.cells (Za RB L0) 50)]

theorem Ze1 (L0 : List RG) (N : Nat) (r : Zau) (h : Zak L0 N = some r) : LSpec Try.prog 48 #[vs 0 0 L0.length L0.length] [.cells (Za RB L0) 50] (Zfa L0 r) (ZeN L0 r) := by
 unfold Zak at h
 by_cases h0 : 0 < L0.length
 · rw [if_pos h0] at h
   by_cases h1 : L0.length ≤ 100000
   · rw [if_pos h1] at h
     obtain rfl := (Option.some.inj h).symm
     exact Znd (E := RB) (L := L0) ZtZ (List.length_pos_iff.1 h0) (Nat.le_trans h1 (by decide)) (by show L0.length * 40 ≤ _; omega)
   · rw [if_neg h1] at h; cases h
 · rw [if_neg h0] at h; cases h

noncomputable def ZcJ {L0 : List RG} {N : Nat} (h : Zak L0 N = some (.r0)) (ks : List Nat) (n : Nat) : ToldS := ⟨#[vs (nth ks 0) 0 L0.length L0.length], [((nth ks 0), .cells (Za RB L0) 50)], vs n 0 L0.length L0.length, [(n, some (.cells (Za RB L0) 50))], 1⟩

theorem ZeO {L0 : List RG} {N : Nat} (h : Zak L0 N = some (.r0)) (ks : List Nat) (n : Nat) (hk : ks.length = 1 := by rfl) (hnd : ks.Nodup := by decide +kernel) (hlt : ∀ k ∈ ks, k < n := by decide +kernel) : (ZcJ (N := N)  h ks n).P Try.prog 48 n :=
 match ks, hk, hnd, hlt with
 | [k0], _, hnd, hlt => Zad (show LSpec Try.prog 48 #[vs 0 0 L0.length L0.length] [.cells (Za RB L0) 50] (vs 1 0 L0.length L0.length) [some (.cells (Za RB L0) 50), some (.cells (Za RB L0) 50)] from Ze1 L0 N _ h) _ n [1] hnd hlt

noncomputable def ZfB (L0 : List RF) : Za6 → Value
 | .r0 => vs 1 0 L0.length L0.length
noncomputable def Zfo (L0 : List RF) : Za6 → List (Option AObj)
 | .r0 => [some (.cells (Za RA L0) 41), some (.cells (Za RA L0) 41)]

theorem ZeI (L0 : List RF) (N : Nat) (r : Za6) (h : Zar L0 N = some r) : LSpec Try.prog 45 #[vs 0 0 L0.length L0.length] [.cells (Za RA L0) 41] (ZfB L0 r) (Zfo L0 r) := by
 unfold Zar at h
 by_cases h0 : 0 < L0.length
 · rw [if_pos h0] at h
   by_cases h1 : L0.length ≤ 100000
   · rw [if_pos h1] at h
     obtain rfl := (Option.some.inj h).symm
     exact Znd (E := RA) (L := L0) Zqd (List.length_pos_iff.1 h0) (Nat.le_trans h1 (by decide)) (by show L0.length * 16 ≤ _; omega)
   · rw [if_neg h1] at h; cases h
 · rw [if_neg h0] at h; cases h

noncomputable def ZcW {L0 : List RF} {N : Nat} (h : Zar L0 N = some (.r0)) (ks : List Nat) (n : Nat) : ToldS := ⟨#[vs (nth ks 0) 0 L0.length L0.length], [((nth ks 0), .cells (Za RA L0) 41)], vs n 0 L0.length L0.length, [(n, some (.cells (Za RA L0) 41))], 1⟩

theorem Zfp {L0 : List RF} {N : Nat} (h : Zar L0 N = some (.r0)) (ks : List Nat) (n : Nat) (hk : ks.length = 1 := by rfl) (hnd : ks.Nodup := by decide +kernel) (hlt : ∀ k ∈ ks, k < n := by decide +kernel) : (ZcW (N := N)  h ks n).P Try.prog 45 n :=
 match ks, hk, hnd, hlt with
 | [k0], _, hnd, hlt => Zad (show LSpec Try.prog 45 #[vs 0 0 L0.length L0.length] [.cells (Za RA L0) 41] (vs 1 0 L0.length L0.length) [some (.cells (Za RA L0) 41), some (.cells (Za RA L0) 41)] from ZeI L0 N _ h) _ n [1] hnd hlt

noncomputable def Ziv (L0 : List Int) : Zb0 → Value
 | .r0 => vs 1 0 L0.length L0.length
noncomputable def ZhD (L0 : List Int) : Zb0 → List (Option AObj)
 | .r0 => [some (.cells (Za eI L0) 3 true), some (.cells (Za eI L0) 3 true)]

theorem Zg4 (L0 : List Int) (N : Nat) (r : Zb0) (h : Zw L0 N = some r) : LSpec Try.prog 49 #[vs 0 0 L0.length L0.length] [.cells (Za eI L0) 3 true] (Ziv L0 r) (ZhD L0 r) := by
 unfold Zw at h
 by_cases h1 : L0.length ≤ 100000
 · rw [if_pos h1] at h
   obtain rfl := (Option.some.inj h).symm
   exact ZuF (E := eI) (L := L0) Zua (Nat.le_trans h1 (by decide)) (by show L0.length * 8 ≤ _; omega)
 · rw [if_neg h1] at h; cases h

noncomputable def Z1 {L0 : List Int} {N : Nat} (h : Zw L0 N = some (.r0)) (ks : List Nat) (n : Nat) : ToldS := ⟨#[vs (nth ks 0) 0 L0.length L0.length], [((nth ks 0), .cells (Za eI L0) 3 true)], vs n 0 L0.length L0.length, [(n, some (.cells (Za eI L0) 3 true))], 1⟩

theorem Z3 {L0 : List Int} {N : Nat} (h : Zw L0 N = some (.r0)) (ks : List Nat) (n : Nat) (hk : ks.length = 1 := by rfl) (hnd : ks.Nodup := by decide +kernel) (hlt : ∀ k ∈ ks, k < n := by decide +kernel) : (Z1 (N := N)  h ks n).P Try.prog 49 n :=
 match ks, hk, hnd, hlt with
 | [k0], _, hnd, hlt => Zad (show LSpec Try.prog 49 #[vs 0 0 L0.length L0.length] [.cells (Za eI L0) 3 true] (vs 1 0 L0.length L0.length) [some (.cells (Za eI L0) 3 true), some (.cells (Za eI L0) 3 true)] from Zg4 L0 N _ h) _ n [1] hnd hlt

end Ev
end Go.Proofs.Ytomkpfibofpkbaa
namespace Go.Proofs.Ytomkpfibofpkbaa
open Go.RowKit
namespace Ev
set_option linter.unusedVariables false
set_option maxRecDepth 100000
set_option maxHeartbeats 4000000
noncomputable def Zif (a0 : Int) (L1 : List RG) (L2 : List RF) (W3 : Nat → List Int) : Zcv → Value
 | .r0 => vp 20 0
 | .r1 => Value.pointer none
noncomputable abbrev κl (a0 : Int) (L1 : List RG) (L2 : List RF) (W3 : Nat → List Int) := (some (AObj.cells (hpC a0 21 L1.length 22 L2.length 23 W3) 67) :: none :: none :: none :: none :: none :: none :: none :: none :: none :: none :: none :: none :: none :: none :: none :: none :: none :: none :: none :: some (AObj.cells (hpC a0 40 L1.length 41 L2.length 42 W3) 67) :: some (κv L1) :: some (AObj.cells (Za RA L2) 41) :: hpO W3 [some (κv L1), some (AObj.cells (Za RA L2) 41), some (AObj.cells (Za eI (W3 0)) 3 true), some (AObj.cells (Za eI (W3 1)) 3 true), some (AObj.cells (Za eI (W3 2)) 3 true), some (AObj.cells (Za eI (W3 3)) 3 true), some (AObj.cells (Za eI (W3 4)) 3 true), some (AObj.cells (Za eI (W3 5)) 3 true), some (AObj.cells (Za eI (W3 6)) 3 true), some (AObj.cells (Za eI (W3 7)) 3 true), some (AObj.cells (Za eI (W3 8)) 3 true), some (AObj.cells (Za eI (W3 9)) 3 true), some (AObj.cells (Za eI (W3 10)) 3 true), some (AObj.cells (Za eI (W3 11)) 3 true), some (AObj.cells (Za eI (W3 12)) 3 true), some (AObj.cells (Za eI (W3 13)) 3 true), some (AObj.cells (Za eI (W3 14)) 3 true), some (AObj.cells (Za eI (W3 15)) 3 true), some (AObj.cells (Za eI (W3 16)) 3 true)])
noncomputable def Zh9 (a0 : Int) (L1 : List RG) (L2 : List RF) (W3 : Nat → List Int) : Zcv → List (Option AObj)
 | .r0 => (κl a0 L1 L2 W3)
 | .r1 => (some (.cells (hpC a0 20 L1.length 21 L2.length 22 W3) 67) :: none :: none :: none :: none :: none :: none :: none :: none :: none :: none :: none :: none :: none :: none :: none :: none :: none :: none :: none :: some (κv L1) :: some (.cells (Za RA L2) 41) :: hpO W3 [])

theorem Zl7 (a0 : Int) (L1 : List RG) (L2 : List RF) (W3 : Nat → List Int) (N : Nat) : Gx Try.prog 15 (κe a0 L1 L2 W3) #[vp 0 0] (Zif a0 L1 L2 W3) (Zh9 a0 L1 L2 W3) (Zbm a0 L1 L2 W3 N) := by
 unfold Zbm
 refine Zx (fun g0 => ?_) (fun g0 => ?_)
 ·
  refine Z5 (fun z1 c1 => ?_)
  cases z1 with
  | r0 =>
   refine Z5 (fun z2 c2 => ?_)
   cases z2 with
   | r0 =>
    refine Z5 (fun z3 c3 => ?_)
    cases z3 with
    | r0 =>
     refine Z5 (fun z4 c4 => ?_)
     cases z4 with
     | r0 =>
      refine Z5 (fun z5 c5 => ?_)
      cases z5 with
      | r0 =>
       refine Z5 (fun z6 c6 => ?_)
       cases z6 with
       | r0 =>
        refine Z5 (fun z7 c7 => ?_)
        cases z7 with
        | r0 =>
         refine Z5 (fun z8 c8 => ?_)
         cases z8 with
         | r0 =>
          refine Z5 (fun z9 c9 => ?_)
          cases z9 with
          | r0 =>
           refine Z5 (fun z10 c10 => ?_)
           cases z10 with
           | r0 =>
            refine Z5 (fun z11 c11 => ?_)
            cases z11 with
            | r0 =>
             refine Z5 (fun z12 c12 => ?_)
             cases z12 with
             | r0 =>
              refine Z5 (fun z13 c13 => ?_)
              cases z13 with
              | r0 =>
               refine Z5 (fun z14 c14 => ?_)
               cases z14 with
               | r0 =>
                refine Z5 (fun z15 c15 => ?_)
                cases z15 with
                | r0 =>
                 refine Z5 (fun z16 c16 => ?_)
                 cases z16 with
                 | r0 =>
                  refine Z5 (fun z17 c17 => ?_)
                  cases z17 with
                  | r0 =>
                   refine Z5 (fun z18 c18 => ?_)
                   cases z18 with
                   | r0 =>
                    refine Z5 (fun z19 c19 => ?_)
                    cases z19 with
                    | r0 =>
                     exact gxR Zr 1 (Ze (oq [3]) [] [] [] [(0, (ZcJ c1 [1] 20).t), (1, (ZcW c2 [2] 21).t), (2, (Z1 c3 [3] 23).t), (4, (Z1 c4 [4] 24).t), (6, (Z1 c5 [5] 25).t), (8, (Z1 c6 [6] 26).t), (10, (Z1 c7 [7] 27).t), (12, (Z1 c8 [8] 28).t), (14, (Z1 c9 [9] 29).t), (16, (Z1 c10 [10] 30).t), (18, (Z1 c11 [11] 31).t), (20, (Z1 c12 [12] 32).t), (22, (Z1 c13 [13] 33).t), (24, (Z1 c14 [14] 34).t), (26, (Z1 c15 [15] 35).t), (28, (Z1 c16 [16] 36).t), (30, (Z1 c17 [17] 37).t), (32, (Z1 c18 [18] 38).t), (34, (Z1 c19 [19] 39).t)]) (0 :: (rg 900000001 19 (22 :: (rg 1 21 (rg 23 17 []))))) (vp 22 0) (kK (Z3 c19 [19] 39) <| kK (Z3 c18 [18] 38) <| kK (Z3 c17 [17] 37) <| kK (Z3 c16 [16] 36) <| kK (Z3 c15 [15] 35) <| kK (Z3 c14 [14] 34) <| kK (Z3 c13 [13] 33) <| kK (Z3 c12 [12] 32) <| kK (Z3 c11 [11] 31) <| kK (Z3 c10 [10] 30) <| kK (Z3 c9 [9] 29) <| kK (Z3 c8 [8] 28) <| kK (Z3 c7 [7] 27) <| kK (Z3 c6 [6] 26) <| kK (Z3 c5 [5] 25) <| kK (Z3 c4 [4] 24) <| kK (Z3 c3 [3] 23) <| kK (Zfp c2 [2] 21) <| kK (ZeO c1 [1] 20) <| kY (a0 > (0 : Int)) Zp) (bS (hpC a0 1 L1.length 2 L2.length 3 W3) <| ZK <| bN <| bN <| bN <| bS (hpC a0 20 L1.length 21 L2.length 23 W3) <| bR <| bR <| Zs <| bQ <| bR <| bR <| Zs <| bQ <| bE)
 ·
  exact gxR Zr 1 (Ze (oq [2]) [] [] [] []) (0 :: (rg 900000001 19 (rg 1 19 []))) (Value.pointer none) (kN (a0 > (0 : Int)) Zp) (bS (hpC a0 1 L1.length 2 L2.length 3 W3) <| ZK <| bN <| bN <| bN <| bR <| bR <| Zs <| bQ <| bE)

theorem ZfF (a0 : Int) (L1 : List RG) (L2 : List RF) (W3 : Nat → List Int) (N : Nat) (r : Zcv) (h : Zbm a0 L1 L2 W3 N = some r) : LSpec Try.prog 15 #[vp 0 0] (κe a0 L1 L2 W3) (Zif a0 L1 L2 W3 r) (Zh9 a0 L1 L2 W3 r) :=
 Zl7 a0 L1 L2 W3 N r h

noncomputable def Zfb {a0 : Int} {L1 : List RG} {L2 : List RF} {W3 : Nat → List Int} {N : Nat} (h : Zbm a0 L1 L2 W3 N = some (.r0)) (ks : List Nat) (n : Nat) : ToldS := ⟨#[vp (nth ks 0) 0], (κp ks a0 L1 L2 W3), vp n 0, [((nth ks 0), some (.cells [vi a0, vs (n + 1) 0 L1.length L1.length, vs (n + 2) 0 L2.length L2.length, vs (n + 3) 0 (W3 0).length (W3 0).length, vs (n + 4) 0 (W3 1).length (W3 1).length, vs (n + 5) 0 (W3 2).length (W3 2).length, vs (n + 6) 0 (W3 3).length (W3 3).length, vs (n + 7) 0 (W3 4).length (W3 4).length, vs (n + 8) 0 (W3 5).length (W3 5).length, vs (n + 9) 0 (W3 6).length (W3 6).length, vs (n + 10) 0 (W3 7).length (W3 7).length, vs (n + 11) 0 (W3 8).length (W3 8).length, vs (n + 12) 0 (W3 9).length (W3 9).length, vs (n + 13) 0 (W3 10).length (W3 10).length, vs (n + 14) 0 (W3 11).length (W3 11).length, vs (n + 15) 0 (W3 12).length (W3 12).length, vs (n + 16) 0 (W3 13).length (W3 13).length, vs (n + 17) 0 (W3 14).length (W3 14).length, vs (n + 18) 0 (W3 15).length (W3 15).length, vs (n + 19) 0 (W3 16).length (W3 16).length] 67)), ((nth ks 1), none), ((nth ks 2), none), ((nth ks 3), none), ((nth ks 4), none), ((nth ks 5), none), ((nth ks 6), none), ((nth ks 7), none), ((nth ks 8), none), ((nth ks 9), none), ((nth ks 10), none), ((nth ks 11), none), ((nth ks 12), none), ((nth ks 13), none), ((nth ks 14), none), ((nth ks 15), none), ((nth ks 16), none), ((nth ks 17), none), ((nth ks 18), none), ((nth ks 19), none), (n, some (.cells [vi a0, vs (n + 20) 0 L1.length L1.length, vs (n + 21) 0 L2.length L2.length, vs (n + 22) 0 (W3 0).length (W3 0).length, vs (n + 23) 0 (W3 1).length (W3 1).length, vs (n + 24) 0 (W3 2).length (W3 2).length, vs (n + 25) 0 (W3 3).length (W3 3).length, vs (n + 26) 0 (W3 4).length (W3 4).length, vs (n + 27) 0 (W3 5).length (W3 5).length, vs (n + 28) 0 (W3 6).length (W3 6).length, vs (n + 29) 0 (W3 7).length (W3 7).length, vs (n + 30) 0 (W3 8).length (W3 8).length, vs (n + 31) 0 (W3 9).length (W3 9).length, vs (n + 32) 0 (W3 10).length (W3 10).length, vs (n + 33) 0 (W3 11).length (W3 11).length, vs (n + 34) 0 (W3 12).length (W3 12).length, vs (n + 35) 0 (W3 13).length (W3 13).length, vs (n + 36) 0 (W3 14).length (W3 14).length, vs (n + 37) 0 (W3 15).length (W3 15).length, vs (n + 38) 0 (W3 16).length (W3 16).length] 67)), ((n + 1), some (κv L1)), ((n + 2), some (.cells (Za RA L2) 41)), ((n + 3), some (.cells (Za eI (W3 0)) 3 true)), ((n + 4), some (.cells (Za eI (W3 1)) 3 true)), ((n + 5), some (.cells (Za eI (W3 2)) 3 true)), ((n + 6), some (.cells (Za eI (W3 3)) 3 true)), ((n + 7), some (.cells (Za eI (W3 4)) 3 true)), ((n + 8), some (.cells (Za eI (W3 5)) 3 true)), ((n + 9), some (.cells (Za eI (W3 6)) 3 true)), ((n + 10), some (.cells (Za eI (W3 7)) 3 true)), ((n + 11), some (.cells (Za eI (W3 8)) 3 true)), ((n + 12), some (.cells (Za eI (W3 9)) 3 true)), ((n + 13), some (.cells (Za eI (W3 10)) 3 true)), ((n + 14), some (.cells (Za eI (W3 11)) 3 true)), ((n + 15), some (.cells (Za eI (W3 12)) 3 true)), ((n + 16), some (.cells (Za eI (W3 13)) 3 true)), ((n + 17), some (.cells (Za eI (W3 14)) 3 true)), ((n + 18), some (.cells (Za eI (W3 15)) 3 true)), ((n + 19), some (.cells (Za eI (W3 16)) 3 true)), ((n + 20), some (κv L1)), ((n + 21), some (.cells (Za RA L2) 41)), ((n + 22), some (.cells (Za eI (W3 0)) 3 true)), ((n + 23), some (.cells (Za eI (W3 1)) 3 true)), ((n + 24), some (.cells (Za eI (W3 2)) 3 true)), ((n + 25), some (.cells (Za eI (W3 3)) 3 true)), ((n + 26), some (.cells (Za eI (W3 4)) 3 true)), ((n + 27), some (.cells (Za eI (W3 5)) 3 true)), ((n + 28), some (.cells (Za eI (W3 6)) 3 true)), ((n + 29), some (.cells (Za eI (W3 7)) 3 true)), ((n + 30), some (.cells (Za eI (W3 8)) 3 true)), ((n + 31), some (.cells (Za eI (W3 9)) 3 true)), ((n + 32), some (.cells (Za eI (W3 10)) 3 true)), ((n + 33), some (.cells (Za eI (W3 11)) 3 true)), ((n + 34), some (.cells (Za eI (W3 12)) 3 true)), ((n + 35), some (.cells (Za eI (W3 13)) 3 true)), ((n + 36), some (.cells (Za eI (W3 14)) 3 true)), ((n + 37), some (.cells (Za eI (W3 15)) 3 true)), ((n + 38), some (.cells (Za eI (W3 16)) 3 true))], 39⟩

theorem Zmx {a0 : Int} {L1 : List RG} {L2 : List RF} {W3 : Nat → List Int} {N : Nat} (h : Zbm a0 L1 L2 W3 N = some (.r0)) (ks : List Nat) (n : Nat) (hk : ks.length = 20 := by rfl) (hnd : ks.Nodup := by decide +kernel) (hlt : ∀ k ∈ ks, k < n := by decide +kernel) : (Zfb (N := N)  h ks n).P Try.prog 15 n :=
 match ks, hk, hnd, hlt with
 | [k0, k1, k2, k3, k4, k5, k6, k7, k8, k9, k10, k11, k12, k13, k14, k15, k16, k17, k18, k19], _, hnd, hlt => Zad (show LSpec Try.prog 15 #[vp 0 0] (κe a0 L1 L2 W3) (vp 20 0) (κl a0 L1 L2 W3) from ZfF a0 L1 L2 W3 N _ h) _ n (rg 0 59 []) hnd hlt

noncomputable def ZhA {a0 : Int} {L1 : List RG} {L2 : List RF} {W3 : Nat → List Int} {N : Nat} (h : Zbm a0 L1 L2 W3 N = some (.r1)) (ks : List Nat) (n : Nat) : ToldS := ⟨#[vp (nth ks 0) 0], (κp ks a0 L1 L2 W3), Value.pointer none, [((nth ks 0), some (.cells [vi a0, vs n 0 L1.length L1.length, vs (n + 1) 0 L2.length L2.length, vs (n + 2) 0 (W3 0).length (W3 0).length, vs (n + 3) 0 (W3 1).length (W3 1).length, vs (n + 4) 0 (W3 2).length (W3 2).length, vs (n + 5) 0 (W3 3).length (W3 3).length, vs (n + 6) 0 (W3 4).length (W3 4).length, vs (n + 7) 0 (W3 5).length (W3 5).length, vs (n + 8) 0 (W3 6).length (W3 6).length, vs (n + 9) 0 (W3 7).length (W3 7).length, vs (n + 10) 0 (W3 8).length (W3 8).length, vs (n + 11) 0 (W3 9).length (W3 9).length, vs (n + 12) 0 (W3 10).length (W3 10).length, vs (n + 13) 0 (W3 11).length (W3 11).length, vs (n + 14) 0 (W3 12).length (W3 12).length, vs (n + 15) 0 (W3 13).length (W3 13).length, vs (n + 16) 0 (W3 14).length (W3 14).length, vs (n + 17) 0 (W3 15).length (W3 15).length, vs (n + 18) 0 (W3 16).length (W3 16).length] 67)), ((nth ks 1), none), ((nth ks 2), none), ((nth ks 3), none), ((nth ks 4), none), ((nth ks 5), none), ((nth ks 6), none), ((nth ks 7), none), ((nth ks 8), none), ((nth ks 9), none), ((nth ks 10), none), ((nth ks 11), none), ((nth ks 12), none), ((nth ks 13), none), ((nth ks 14), none), ((nth ks 15), none), ((nth ks 16), none), ((nth ks 17), none), ((nth ks 18), none), ((nth ks 19), none), (n, some (κv L1)), ((n + 1), some (.cells (Za RA L2) 41)), ((n + 2), some (.cells (Za eI (W3 0)) 3 true)), ((n + 3), some (.cells (Za eI (W3 1)) 3 true)), ((n + 4), some (.cells (Za eI (W3 2)) 3 true)), ((n + 5), some (.cells (Za eI (W3 3)) 3 true)), ((n + 6), some (.cells (Za eI (W3 4)) 3 true)), ((n + 7), some (.cells (Za eI (W3 5)) 3 true)), ((n + 8), some (.cells (Za eI (W3 6)) 3 true)), ((n + 9), some (.cells (Za eI (W3 7)) 3 true)), ((n + 10), some (.cells (Za eI (W3 8)) 3 true)), ((n + 11), some (.cells (Za eI (W3 9)) 3 true)), ((n + 12), some (.cells (Za eI (W3 10)) 3 true)), ((n + 13), some (.cells (Za eI (W3 11)) 3 true)), ((n + 14), some (.cells (Za eI (W3 12)) 3 true)), ((n + 15), some (.cells (Za eI (W3 13)) 3 true)), ((n + 16), some (.cells (Za eI (W3 14)) 3 true)), ((n + 17), some (.cells (Za eI (W3 15)) 3 true)), ((n + 18), some (.cells (Za eI (W3 16)) 3 true))], 19⟩

theorem Zmy {a0 : Int} {L1 : List RG} {L2 : List RF} {W3 : Nat → List Int} {N : Nat} (h : Zbm a0 L1 L2 W3 N = some (.r1)) (ks : List Nat) (n : Nat) (hk : ks.length = 20 := by rfl) (hnd : ks.Nodup := by decide +kernel) (hlt : ∀ k ∈ ks, k < n := by decide +kernel) : (ZhA (N := N)  h ks n).P Try.prog 15 n :=
 match ks, hk, hnd, hlt with
 | [k0, k1, k2, k3, k4, k5, k6, k7, k8, k9, k10, k11, k12, k13, k14, k15, k16, k17, k18, k19], _, hnd, hlt => Zad (show LSpec Try.prog 15 #[vp 0 0] (κe a0 L1 L2 W3) (Value.pointer none) (some (.cells (hpC a0 20 L1.length 21 L2.length 22 W3) 67) :: none :: none :: none :: none :: none :: none :: none :: none :: none :: none :: none :: none :: none :: none :: none :: none :: none :: none :: none :: some (κv L1) :: some (.cells (Za RA L2) 41) :: hpO W3 []) from ZfF a0 L1 L2 W3 N _ h) _ n (rg 0 39 []) hnd hlt

set_option linter.unusedVariables false
set_option maxRecDepth 100000
set_option maxHeartbeats 4000000
noncomputable def ZhB (a0 a1 a2 a3 a4 : Int) (b5 : Bool) (a6 a7 a8 a9 a10 : Int) (L11 : List RI) (L12 : List Int) (L13 : List RF) (a14 : Int) (L15 : List RG) (L16 : List RF) (W17 : Nat → List Int) : Zd → Value
 | .r0 w0 w2 w3 w4 w6 w7 w8 => Value.bool w0
noncomputable def ZgC (a0 a1 a2 a3 a4 : Int) (b5 : Bool) (a6 a7 a8 a9 a10 : Int) (L11 : List RI) (L12 : List Int) (L13 : List RF) (a14 : Int) (L15 : List RG) (L16 : List RF) (W17 : Nat → List Int) : Zd → List (Option AObj)
 | .r0 w0 w2 w3 w4 w6 w7 w8 => (some (.cells [vp 22 0, vi a10, ms RD w2, ms eI w3, vs 23 0 w4.length w4.length] 37) :: none :: none :: none :: none :: none :: none :: none :: none :: none :: none :: none :: none :: none :: none :: none :: none :: none :: none :: none :: none :: none :: some (.cells (hpC a14 24 w6.length 25 w7.length 26 w8) 67) :: some (.cells (Za RA w4) 41 true) :: some (.cells (Za RB w6) 50) :: some (.cells (Za RA w7) 41) :: hpO w8 [])

noncomputable abbrev κH (L13 : List RF) := (Za RA (L13 ++ ([(⟨(0 : Int), (0 : Int)⟩ : RF)] : List RF)))
noncomputable abbrev κD (a10 : Int) (L11 : List RI) (L12 : List Int) (L13 : List RF) := [vp 1 0, vi a10, ms RD L11, ms eI L12, vs 47 0 (L13.length + 1) (L13.length + 1)]
noncomputable abbrev κh (L13 : List RF) := (vs 23 0 (L13.length + 1) (L13.length + 1) : Value)
theorem ZkZ (a0 a1 a2 a3 a4 : Int) (b5 : Bool) (a6 a7 a8 a9 a10 : Int) (L11 : List RI) (L12 : List Int) (L13 : List RF) (a14 : Int) (L15 : List RG) (L16 : List RF) (W17 : Nat → List Int) (N : Nat) : Gx Try.prog 9 (.cells (κc a10 L11 L12 L13) 37 :: .cells (hpC a14 3 L15.length 4 L16.length 5 W17) 67 :: .cells (Za RA L13) 41 true :: .cells (Za RB L15) 50 :: .cells (Za RA L16) 41 :: hpP W17 []) #[vp 0 0, Value.agg (κk a0 a1 a2 a3 a4 b5 a6 a7 a8 a9)] (ZhB a0 a1 a2 a3 a4 b5 a6 a7 a8 a9 a10 L11 L12 L13 a14 L15 L16 W17) (ZgC a0 a1 a2 a3 a4 b5 a6 a7 a8 a9 a10 L11 L12 L13 a14 L15 L16 W17) (Zba a0 a1 a2 a3 a4 b5 a6 a7 a8 a9 a10 L11 L12 L13 a14 L15 L16 W17 N) := by
 unfold Zba
 refine Z5 (fun z0 c0 => ?_)
 cases z0 with
 | r0 y0_0 y0_1 =>
  have w1 := kK (Zmp c0 (rg 0 22 []) 23) Zp
  refine Zx (fun g1 => ?_) (fun _ => Zbk)
  have w2 := kM a0 (8 : Int) w1
  refine Zx (fun g2 => ?_) (fun g2 => ?_)
  ·
   refine Z5 (fun z3 c3 => ?_)
   cases z3 with
   | r0 y3_0 y3_1 y3_2 y3_3 y3_4 y3_5 =>
    have w4 := kK (ZeH c3 (1 :: (rg 3 19 [])) 24) <| hT g2 w2
    refine Z5 (fun z4 c4 => ?_)
    cases z4 with
    | r0 y4_0 =>
     have w5 := kK (ZjI c4 [] 44) w4
     refine Zx (fun g5 => ?_) (fun g5 => ?_)
     ·
      refine Zx (fun g6 => ?_) (fun _ => Zbk)
      have w7 := kA RA L13 (⟨(0 : Int), (0 : Int)⟩ : RF) <| hT g5 w5
      refine Zx (fun g7 => ?_) (fun g7 => ?_)
      ·
       refine Zx (fun g8 => ?_) (fun g8 => ?_)
       ·
        exact gxR Zr 1 (Ze (oq [1, 3, 5, 7]) [(0, (a0 % (8 : Int)))] [] [] [(0, (Zk c0 (rg 0 22 []) 23).t), (3, (Zt c3 (1 :: (rg 3 19 [])) 24).t), (5, (Za0 c4 [] 44).t), (9, .ap 1 [vq, vq] (κH L13))]) (0 :: (rg 900000001 21 (1 :: (47 :: (rg 24 19 []))))) (vT) (hT g8 <| kZ ((y3_0 == (0 : Int)) && ((y3_1 == (0 : Int)) && true)) w7) (bU (κD a10 L11 L12 L13) 4 (show (κh L13) = vs 23 0 (L13 ++ ([(⟨(0 : Int), (0 : Int)⟩ : RF)] : List RF)).length (L13 ++ ([(⟨(0 : Int), (0 : Int)⟩ : RF)] : List RF)).length from Zo rfl eqA eqA) <| ZK <| bN4 <| bN <| bS (hpC a14 24 y3_3.length 25 y3_4.length 26 y3_5) <| bQ <| bR <| bR <| Zs <| bQ <| bE)
       ·
        exact gxR Zr 1 (Ze (oq [1, 3, 5, 6]) [(0, (a0 % (8 : Int)))] [] [] [(0, (Zk c0 (rg 0 22 []) 23).t), (3, (Zt c3 (1 :: (rg 3 19 [])) 24).t), (5, (Za0 c4 [] 44).t), (9, .ap 1 [vq, vq] (κH L13))]) (0 :: (rg 900000001 21 (1 :: (47 :: (rg 24 19 []))))) (vf) (hF g8 <| kZ ((y3_0 == (0 : Int)) && ((y3_1 == (0 : Int)) && true)) w7) (bU (κD a10 L11 L12 L13) 4 (show (κh L13) = vs 23 0 (L13 ++ ([(⟨(0 : Int), (0 : Int)⟩ : RF)] : List RF)).length (L13 ++ ([(⟨(0 : Int), (0 : Int)⟩ : RF)] : List RF)).length from Zo rfl eqA eqA) <| ZK <| bN4 <| bN <| bS (hpC a14 24 y3_3.length 25 y3_4.length 26 y3_5) <| bQ <| bR <| bR <| Zs <| bQ <| bE)
      ·
       exact gxR Zr 1 (Ze (oq [1, 3, 4]) [(0, (a0 % (8 : Int)))] [] [] [(0, (Zk c0 (rg 0 22 []) 23).t), (3, (Zt c3 (1 :: (rg 3 19 [])) 24).t), (5, (Za0 c4 [] 44).t), (9, .ap 1 [vq, vq] (κH L13))]) (0 :: (rg 900000001 21 (1 :: (47 :: (rg 24 19 []))))) (vf) (kO ((y3_0 == (0 : Int)) && ((y3_1 == (0 : Int)) && true)) w7) (bU (κD a10 L11 L12 L13) 4 (show (κh L13) = vs 23 0 (L13 ++ ([(⟨(0 : Int), (0 : Int)⟩ : RF)] : List RF)).length (L13 ++ ([(⟨(0 : Int), (0 : Int)⟩ : RF)] : List RF)).length from Zo rfl eqA eqA) <| ZK <| bN4 <| bN <| bS (hpC a14 24 y3_3.length 25 y3_4.length 26 y3_5) <| bQ <| bR <| bR <| Zs <| bQ <| bE)
     ·
      refine Zx (fun g6 => ?_) (fun g6 => ?_)
      ·
       refine Zx (fun g7 => ?_) (fun g7 => ?_)
       ·
        exact gxR Zr 1 (Ze (oq [1, 2, 5, 7]) [(0, (a0 % (8 : Int)))] [] [] [(0, (Zk c0 (rg 0 22 []) 23).t), (3, (Zt c3 (1 :: (rg 3 19 [])) 24).t), (5, (Za0 c4 [] 44).t)]) (0 :: (rg 900000001 21 (1 :: (2 :: (rg 24 19 []))))) (vT) (hT g7 <| kZ ((y3_0 == (0 : Int)) && ((y3_1 == (0 : Int)) && true)) <| hF g5 w5) (bS (κc a10 L11 L12 L13) <| ZK <| bN4 <| bN <| bS (hpC a14 24 y3_3.length 25 y3_4.length 26 y3_5) <| bQ <| bR <| bR <| Zs <| bQ <| bE)
       ·
        exact gxR Zr 1 (Ze (oq [1, 2, 5, 6]) [(0, (a0 % (8 : Int)))] [] [] [(0, (Zk c0 (rg 0 22 []) 23).t), (3, (Zt c3 (1 :: (rg 3 19 [])) 24).t), (5, (Za0 c4 [] 44).t)]) (0 :: (rg 900000001 21 (1 :: (2 :: (rg 24 19 []))))) (vf) (hF g7 <| kZ ((y3_0 == (0 : Int)) && ((y3_1 == (0 : Int)) && true)) <| hF g5 w5) (bS (κc a10 L11 L12 L13) <| ZK <| bN4 <| bN <| bS (hpC a14 24 y3_3.length 25 y3_4.length 26 y3_5) <| bQ <| bR <| bR <| Zs <| bQ <| bE)
      ·
       exact gxR Zr 1 (Ze (oq [1, 2, 4]) [(0, (a0 % (8 : Int)))] [] [] [(0, (Zk c0 (rg 0 22 []) 23).t), (3, (Zt c3 (1 :: (rg 3 19 [])) 24).t), (5, (Za0 c4 [] 44).t)]) (0 :: (rg 900000001 21 (1 :: (2 :: (rg 24 19 []))))) (vf) (kO ((y3_0 == (0 : Int)) && ((y3_1 == (0 : Int)) && true)) <| hF g5 w5) (bS (κc a10 L11 L12 L13) <| ZK <| bN4 <| bN <| bS (hpC a14 24 y3_3.length 25 y3_4.length 26 y3_5) <| bQ <| bR <| bR <| Zs <| bQ <| bE)
    | r1 y4_0 y4_1 y4_2 =>
     refine Zx (fun g5 => ?_) (fun _ => Zbk)
     have w6 := kA RA L13 (⟨y4_1, y4_2⟩ : RF) <| kK (ZjJ c4 [] 44) w4
     refine Zx (fun g6 => ?_) (fun g6 => ?_)
     ·
      refine Zx (fun g7 => ?_) (fun g7 => ?_)
      ·
       exact gxR Zr 1 (Ze (oq [1, 5, 7]) [(0, (a0 % (8 : Int)))] [] [] [(0, (Zk c0 (rg 0 22 []) 23).t), (3, (Zt c3 (1 :: (rg 3 19 [])) 24).t), (5, (Zc1 c4 [] 44).t), (9, .ap 1 [vi y4_1, vi y4_2] (Za RA (L13 ++ ([(⟨y4_1, y4_2⟩ : RF)] : List RF))))]) (0 :: (rg 900000001 21 (1 :: (47 :: (rg 24 19 []))))) (vT) (hT g7 <| kZ ((y3_0 == y4_1) && ((y3_1 == y4_2) && true)) w6) (bU [vp 1 0, vi a10, ms RD y4_0, ms eI ([] : List Int), vs 47 0 (L13.length + 1) (L13.length + 1)] 4 (show (κh L13) = vs 23 0 (L13 ++ ([(⟨y4_1, y4_2⟩ : RF)] : List RF)).length (L13 ++ ([(⟨y4_1, y4_2⟩ : RF)] : List RF)).length from Zo rfl eqA eqA) <| ZK <| bN4 <| bN <| bS (hpC a14 24 y3_3.length 25 y3_4.length 26 y3_5) <| bQ <| bR <| bR <| Zs <| bQ <| bE)
      ·
       exact gxR Zr 1 (Ze (oq [1, 5, 6]) [(0, (a0 % (8 : Int)))] [] [] [(0, (Zk c0 (rg 0 22 []) 23).t), (3, (Zt c3 (1 :: (rg 3 19 [])) 24).t), (5, (Zc1 c4 [] 44).t), (9, .ap 1 [vi y4_1, vi y4_2] (Za RA (L13 ++ ([(⟨y4_1, y4_2⟩ : RF)] : List RF))))]) (0 :: (rg 900000001 21 (1 :: (47 :: (rg 24 19 []))))) (vf) (hF g7 <| kZ ((y3_0 == y4_1) && ((y3_1 == y4_2) && true)) w6) (bU [vp 1 0, vi a10, ms RD y4_0, ms eI ([] : List Int), vs 47 0 (L13.length + 1) (L13.length + 1)] 4 (show (κh L13) = vs 23 0 (L13 ++ ([(⟨y4_1, y4_2⟩ : RF)] : List RF)).length (L13 ++ ([(⟨y4_1, y4_2⟩ : RF)] : List RF)).length from Zo rfl eqA eqA) <| ZK <| bN4 <| bN <| bS (hpC a14 24 y3_3.length 25 y3_4.length 26 y3_5) <| bQ <| bR <| bR <| Zs <| bQ <| bE)
     ·
      exact gxR Zr 1 (Ze (oq [1, 4]) [(0, (a0 % (8 : Int)))] [] [] [(0, (Zk c0 (rg 0 22 []) 23).t), (3, (Zt c3 (1 :: (rg 3 19 [])) 24).t), (5, (Zc1 c4 [] 44).t), (9, .ap 1 [vi y4_1, vi y4_2] (Za RA (L13 ++ ([(⟨y4_1, y4_2⟩ : RF)] : List RF))))]) (0 :: (rg 900000001 21 (1 :: (47 :: (rg 24 19 []))))) (vf) (kO ((y3_0 == y4_1) && ((y3_1 == y4_2) && true)) w6) (bU [vp 1 0, vi a10, ms RD y4_0, ms eI ([] : List Int), vs 47 0 (L13.length + 1) (L13.length + 1)] 4 (show (κh L13) = vs 23 0 (L13 ++ ([(⟨y4_1, y4_2⟩ : RF)] : List RF)).length (L13 ++ ([(⟨y4_1, y4_2⟩ : RF)] : List RF)).length from Zo rfl eqA eqA) <| ZK <| bN4 <| bN <| bS (hpC a14 24 y3_3.length 25 y3_4.length 26 y3_5) <| bQ <| bR <| bR <| Zs <| bQ <| bE)
    | r2 y4_0 y4_1 y4_2 y4_3 =>
     refine Zx (fun g5 => ?_) (fun _ => Zbk)
     have w6 := kA RA L13 (⟨y4_2, y4_3⟩ : RF) <| kK (ZjK c4 [] 44) w4
     refine Zx (fun g6 => ?_) (fun g6 => ?_)
     ·
      refine Zx (fun g7 => ?_) (fun g7 => ?_)
      ·
       exact gxR Zr 1 (Ze (oq [1, 5, 7]) [(0, (a0 % (8 : Int)))] [] [] [(0, (Zk c0 (rg 0 22 []) 23).t), (3, (Zt c3 (1 :: (rg 3 19 [])) 24).t), (5, (Zc2 c4 [] 44).t), (9, .ap 1 [vi y4_2, vi y4_3] (Za RA (L13 ++ ([(⟨y4_2, y4_3⟩ : RF)] : List RF))))]) (0 :: (rg 900000001 21 (1 :: (47 :: (rg 24 19 []))))) (vT) (hT g7 <| kZ ((y3_0 == y4_2) && ((y3_1 == y4_3) && true)) w6) (bU [vp 1 0, vi a10, ms RD y4_0, ms eI y4_1, vs 47 0 (L13.length + 1) (L13.length + 1)] 4 (show (κh L13) = vs 23 0 (L13 ++ ([(⟨y4_2, y4_3⟩ : RF)] : List RF)).length (L13 ++ ([(⟨y4_2, y4_3⟩ : RF)] : List RF)).length from Zo rfl eqA eqA) <| ZK <| bN4 <| bN <| bS (hpC a14 24 y3_3.length 25 y3_4.length 26 y3_5) <| bQ <| bR <| bR <| Zs <| bQ <| bE)
      ·
       exact gxR Zr 1 (Ze (oq [1, 5, 6]) [(0, (a0 % (8 : Int)))] [] [] [(0, (Zk c0 (rg 0 22 []) 23).t), (3, (Zt c3 (1 :: (rg 3 19 [])) 24).t), (5, (Zc2 c4 [] 44).t), (9, .ap 1 [vi y4_2, vi y4_3] (Za RA (L13 ++ ([(⟨y4_2, y4_3⟩ : RF)] : List RF))))]) (0 :: (rg 900000001 21 (1 :: (47 :: (rg 24 19 []))))) (vf) (hF g7 <| kZ ((y3_0 == y4_2) && ((y3_1 == y4_3) && true)) w6) (bU [vp 1 0, vi a10, ms RD y4_0, ms eI y4_1, vs 47 0 (L13.length + 1) (L13.length + 1)] 4 (show (κh L13) = vs 23 0 (L13 ++ ([(⟨y4_2, y4_3⟩ : RF)] : List RF)).length (L13 ++ ([(⟨y4_2, y4_3⟩ : RF)] : List RF)).length from Zo rfl eqA eqA) <| ZK <| bN4 <| bN <| bS (hpC a14 24 y3_3.length 25 y3_4.length 26 y3_5) <| bQ <| bR <| bR <| Zs <| bQ <| bE)
     ·
      exact gxR Zr 1 (Ze (oq [1, 4]) [(0, (a0 % (8 : Int)))] [] [] [(0, (Zk c0 (rg 0 22 []) 23).t), (3, (Zt c3 (1 :: (rg 3 19 [])) 24).t), (5, (Zc2 c4 [] 44).t), (9, .ap 1 [vi y4_2, vi y4_3] (Za RA (L13 ++ ([(⟨y4_2, y4_3⟩ : RF)] : List RF))))]) (0 :: (rg 900000001 21 (1 :: (47 :: (rg 24 19 []))))) (vf) (kO ((y3_0 == y4_2) && ((y3_1 == y4_3) && true)) w6) (bU [vp 1 0, vi a10, ms RD y4_0, ms eI y4_1, vs 47 0 (L13.length + 1) (L13.length + 1)] 4 (show (κh L13) = vs 23 0 (L13 ++ ([(⟨y4_2, y4_3⟩ : RF)] : List RF)).length (L13 ++ ([(⟨y4_2, y4_3⟩ : RF)] : List RF)).length from Zo rfl eqA eqA) <| ZK <| bN4 <| bN <| bS (hpC a14 24 y3_3.length 25 y3_4.length 26 y3_5) <| bQ <| bR <| bR <| Zs <| bQ <| bE)
    | r3 y4_0 y4_1 y4_2 =>
     refine Zx (fun g5 => ?_) (fun _ => Zbk)
     have w6 := kA RA L13 (⟨y4_1, y4_2⟩ : RF) <| kK (ZjL c4 [] 44) w4
     refine Zx (fun g6 => ?_) (fun g6 => ?_)
     ·
      refine Zx (fun g7 => ?_) (fun g7 => ?_)
      ·
       exact gxR Zr 1 (Ze (oq [1, 5, 7]) [(0, (a0 % (8 : Int)))] [] [] [(0, (Zk c0 (rg 0 22 []) 23).t), (3, (Zt c3 (1 :: (rg 3 19 [])) 24).t), (5, (Zc3 c4 [] 44).t), (9, .ap 1 [vi y4_1, vi y4_2] (Za RA (L13 ++ ([(⟨y4_1, y4_2⟩ : RF)] : List RF))))]) (0 :: (rg 900000001 21 (1 :: (47 :: (rg 24 19 []))))) (vT) (hT g7 <| kZ ((y3_0 == y4_1) && ((y3_1 == y4_2) && true)) w6) (bU [vp 1 0, vi a10, ms RD y4_0, ms eI L12, vs 47 0 (L13.length + 1) (L13.length + 1)] 4 (show (κh L13) = vs 23 0 (L13 ++ ([(⟨y4_1, y4_2⟩ : RF)] : List RF)).length (L13 ++ ([(⟨y4_1, y4_2⟩ : RF)] : List RF)).length from Zo rfl eqA eqA) <| ZK <| bN4 <| bN <| bS (hpC a14 24 y3_3.length 25 y3_4.length 26 y3_5) <| bQ <| bR <| bR <| Zs <| bQ <| bE)
      ·
       exact gxR Zr 1 (Ze (oq [1, 5, 6]) [(0, (a0 % (8 : Int)))] [] [] [(0, (Zk c0 (rg 0 22 []) 23).t), (3, (Zt c3 (1 :: (rg 3 19 [])) 24).t), (5, (Zc3 c4 [] 44).t), (9, .ap 1 [vi y4_1, vi y4_2] (Za RA (L13 ++ ([(⟨y4_1, y4_2⟩ : RF)] : List RF))))]) (0 :: (rg 900000001 21 (1 :: (47 :: (rg 24 19 []))))) (vf) (hF g7 <| kZ ((y3_0 == y4_1) && ((y3_1 == y4_2) && true)) w6) (bU [vp 1 0, vi a10, ms RD y4_0, ms eI L12, vs 47 0 (L13.length + 1) (L13.length + 1)] 4 (show (κh L13) = vs 23 0 (L13 ++ ([(⟨y4_1, y4_2⟩ : RF)] : List RF)).length (L13 ++ ([(⟨y4_1, y4_2⟩ : RF)] : List RF)).length from Zo rfl eqA eqA) <| ZK <| bN4 <| bN <| bS (hpC a14 24 y3_3.length 25 y3_4.length 26 y3_5) <| bQ <| bR <| bR <| Zs <| bQ <| bE)
     ·
      exact gxR Zr 1 (Ze (oq [1, 4]) [(0, (a0 % (8 : Int)))] [] [] [(0, (Zk c0 (rg 0 22 []) 23).t), (3, (Zt c3 (1 :: (rg 3 19 [])) 24).t), (5, (Zc3 c4 [] 44).t), (9, .ap 1 [vi y4_1, vi y4_2] (Za RA (L13 ++ ([(⟨y4_1, y4_2⟩ : RF)] : List RF))))]) (0 :: (rg 900000001 21 (1 :: (47 :: (rg 24 19 []))))) (vf) (kO ((y3_0 == y4_1) && ((y3_1 == y4_2) && true)) w6) (bU [vp 1 0, vi a10, ms RD y4_0, ms eI L12, vs 47 0 (L13.length + 1) (L13.length + 1)] 4 (show (κh L13) = vs 23 0 (L13 ++ ([(⟨y4_1, y4_2⟩ : RF)] : List RF)).length (L13 ++ ([(⟨y4_1, y4_2⟩ : RF)] : List RF)).length from Zo rfl eqA eqA) <| ZK <| bN4 <| bN <| bS (hpC a14 24 y3_3.length 25 y3_4.length 26 y3_5) <| bQ <| bR <| bR <| Zs <| bQ <| bE)
  ·
   refine Zx (fun g3 => ?_) (fun g3 => ?_)
   ·
    have w4 := hT g3 <| hF g2 w2
    refine Z5 (fun z4 c4 => ?_)
    cases z4 with
    | r0 y4_0 y4_1 y4_2 y4_3 y4_4 y4_5 =>
     have w5 := kK (ZeH c4 (1 :: (rg 3 19 [])) 24) w4
     refine Z5 (fun z5 c5 => ?_)
     cases z5 with
     | r0 y5_0 =>
      have w6 := kK (ZjI c5 [] 44) w5
      refine Zx (fun g6 => ?_) (fun g6 => ?_)
      ·
       refine Zx (fun g7 => ?_) (fun _ => Zbk)
       have w8 := kA RA L13 (⟨(0 : Int), (0 : Int)⟩ : RF) <| hT g6 w6
       refine Zx (fun g8 => ?_) (fun g8 => ?_)
       ·
        refine Zx (fun g9 => ?_) (fun g9 => ?_)
        ·
         exact gxR Zr 1 (Ze (oq [0, 3, 5, 7, 9]) [(0, (a0 % (8 : Int)))] [] [] [(0, (Zk c0 (rg 0 22 []) 23).t), (3, (Zt c4 (1 :: (rg 3 19 [])) 24).t), (5, (Za0 c5 [] 44).t), (9, .ap 1 [vq, vq] (κH L13))]) (0 :: (rg 900000001 21 (1 :: (47 :: (rg 24 19 []))))) (vT) (hT g9 <| kZ ((y4_0 == (0 : Int)) && ((y4_1 == (0 : Int)) && true)) w8) (bU (κD a10 L11 L12 L13) 4 (show (κh L13) = vs 23 0 (L13 ++ ([(⟨(0 : Int), (0 : Int)⟩ : RF)] : List RF)).length (L13 ++ ([(⟨(0 : Int), (0 : Int)⟩ : RF)] : List RF)).length from Zo rfl eqA eqA) <| ZK <| bN4 <| bN <| bS (hpC a14 24 y4_3.length 25 y4_4.length 26 y4_5) <| bQ <| bR <| bR <| Zs <| bQ <| bE)
        ·
         exact gxR Zr 1 (Ze (oq [0, 3, 5, 7, 8]) [(0, (a0 % (8 : Int)))] [] [] [(0, (Zk c0 (rg 0 22 []) 23).t), (3, (Zt c4 (1 :: (rg 3 19 [])) 24).t), (5, (Za0 c5 [] 44).t), (9, .ap 1 [vq, vq] (κH L13))]) (0 :: (rg 900000001 21 (1 :: (47 :: (rg 24 19 []))))) (vf) (hF g9 <| kZ ((y4_0 == (0 : Int)) && ((y4_1 == (0 : Int)) && true)) w8) (bU (κD a10 L11 L12 L13) 4 (show (κh L13) = vs 23 0 (L13 ++ ([(⟨(0 : Int), (0 : Int)⟩ : RF)] : List RF)).length (L13 ++ ([(⟨(0 : Int), (0 : Int)⟩ : RF)] : List RF)).length from Zo rfl eqA eqA) <| ZK <| bN4 <| bN <| bS (hpC a14 24 y4_3.length 25 y4_4.length 26 y4_5) <| bQ <| bR <| bR <| Zs <| bQ <| bE)
       ·
        exact gxR Zr 1 (Ze (oq [0, 3, 5, 6]) [(0, (a0 % (8 : Int)))] [] [] [(0, (Zk c0 (rg 0 22 []) 23).t), (3, (Zt c4 (1 :: (rg 3 19 [])) 24).t), (5, (Za0 c5 [] 44).t), (9, .ap 1 [vq, vq] (κH L13))]) (0 :: (rg 900000001 21 (1 :: (47 :: (rg 24 19 []))))) (vf) (kO ((y4_0 == (0 : Int)) && ((y4_1 == (0 : Int)) && true)) w8) (bU (κD a10 L11 L12 L13) 4 (show (κh L13) = vs 23 0 (L13 ++ ([(⟨(0 : Int), (0 : Int)⟩ : RF)] : List RF)).length (L13 ++ ([(⟨(0 : Int), (0 : Int)⟩ : RF)] : List RF)).length from Zo rfl eqA eqA) <| ZK <| bN4 <| bN <| bS (hpC a14 24 y4_3.length 25 y4_4.length 26 y4_5) <| bQ <| bR <| bR <| Zs <| bQ <| bE)
      ·
       refine Zx (fun g7 => ?_) (fun g7 => ?_)
       ·
        refine Zx (fun g8 => ?_) (fun g8 => ?_)
        ·
         exact gxR Zr 1 (Ze (oq [0, 3, 4, 7, 9]) [(0, (a0 % (8 : Int)))] [] [] [(0, (Zk c0 (rg 0 22 []) 23).t), (3, (Zt c4 (1 :: (rg 3 19 [])) 24).t), (5, (Za0 c5 [] 44).t)]) (0 :: (rg 900000001 21 (1 :: (2 :: (rg 24 19 []))))) (vT) (hT g8 <| kZ ((y4_0 == (0 : Int)) && ((y4_1 == (0 : Int)) && true)) <| hF g6 w6) (bS (κc a10 L11 L12 L13) <| ZK <| bN4 <| bN <| bS (hpC a14 24 y4_3.length 25 y4_4.length 26 y4_5) <| bQ <| bR <| bR <| Zs <| bQ <| bE)
        ·
         exact gxR Zr 1 (Ze (oq [0, 3, 4, 7, 8]) [(0, (a0 % (8 : Int)))] [] [] [(0, (Zk c0 (rg 0 22 []) 23).t), (3, (Zt c4 (1 :: (rg 3 19 [])) 24).t), (5, (Za0 c5 [] 44).t)]) (0 :: (rg 900000001 21 (1 :: (2 :: (rg 24 19 []))))) (vf) (hF g8 <| kZ ((y4_0 == (0 : Int)) && ((y4_1 == (0 : Int)) && true)) <| hF g6 w6) (bS (κc a10 L11 L12 L13) <| ZK <| bN4 <| bN <| bS (hpC a14 24 y4_3.length 25 y4_4.length 26 y4_5) <| bQ <| bR <| bR <| Zs <| bQ <| bE)
       ·
        exact gxR Zr 1 (Ze (oq [0, 3, 4, 6]) [(0, (a0 % (8 : Int)))] [] [] [(0, (Zk c0 (rg 0 22 []) 23).t), (3, (Zt c4 (1 :: (rg 3 19 [])) 24).t), (5, (Za0 c5 [] 44).t)]) (0 :: (rg 900000001 21 (1 :: (2 :: (rg 24 19 []))))) (vf) (kO ((y4_0 == (0 : Int)) && ((y4_1 == (0 : Int)) && true)) <| hF g6 w6) (bS (κc a10 L11 L12 L13) <| ZK <| bN4 <| bN <| bS (hpC a14 24 y4_3.length 25 y4_4.length 26 y4_5) <| bQ <| bR <| bR <| Zs <| bQ <| bE)
     | r1 y5_0 y5_1 y5_2 =>
      refine Zx (fun g6 => ?_) (fun _ => Zbk)
      have w7 := kA RA L13 (⟨y5_1, y5_2⟩ : RF) <| kK (ZjJ c5 [] 44) w5
      refine Zx (fun g7 => ?_) (fun g7 => ?_)
      ·
       refine Zx (fun g8 => ?_) (fun g8 => ?_)
       ·
        exact gxR Zr 1 (Ze (oq [0, 3, 7, 9]) [(0, (a0 % (8 : Int)))] [] [] [(0, (Zk c0 (rg 0 22 []) 23).t), (3, (Zt c4 (1 :: (rg 3 19 [])) 24).t), (5, (Zc1 c5 [] 44).t), (9, .ap 1 [vi y5_1, vi y5_2] (Za RA (L13 ++ ([(⟨y5_1, y5_2⟩ : RF)] : List RF))))]) (0 :: (rg 900000001 21 (1 :: (47 :: (rg 24 19 []))))) (vT) (hT g8 <| kZ ((y4_0 == y5_1) && ((y4_1 == y5_2) && true)) w7) (bU [vp 1 0, vi a10, ms RD y5_0, ms eI ([] : List Int), vs 47 0 (L13.length + 1) (L13.length + 1)] 4 (show (κh L13) = vs 23 0 (L13 ++ ([(⟨y5_1, y5_2⟩ : RF)] : List RF)).length (L13 ++ ([(⟨y5_1, y5_2⟩ : RF)] : List RF)).length from Zo rfl eqA eqA) <| ZK <| bN4 <| bN <| bS (hpC a14 24 y4_3.length 25 y4_4.length 26 y4_5) <| bQ <| bR <| bR <| Zs <| bQ <| bE)
       ·
        exact gxR Zr 1 (Ze (oq [0, 3, 7, 8]) [(0, (a0 % (8 : Int)))] [] [] [(0, (Zk c0 (rg 0 22 []) 23).t), (3, (Zt c4 (1 :: (rg 3 19 [])) 24).t), (5, (Zc1 c5 [] 44).t), (9, .ap 1 [vi y5_1, vi y5_2] (Za RA (L13 ++ ([(⟨y5_1, y5_2⟩ : RF)] : List RF))))]) (0 :: (rg 900000001 21 (1 :: (47 :: (rg 24 19 []))))) (vf) (hF g8 <| kZ ((y4_0 == y5_1) && ((y4_1 == y5_2) && true)) w7) (bU [vp 1 0, vi a10, ms RD y5_0, ms eI ([] : List Int), vs 47 0 (L13.length + 1) (L13.length + 1)] 4 (show (κh L13) = vs 23 0 (L13 ++ ([(⟨y5_1, y5_2⟩ : RF)] : List RF)).length (L13 ++ ([(⟨y5_1, y5_2⟩ : RF)] : List RF)).length from Zo rfl eqA eqA) <| ZK <| bN4 <| bN <| bS (hpC a14 24 y4_3.length 25 y4_4.length 26 y4_5) <| bQ <| bR <| bR <| Zs <| bQ <| bE)
      ·
       exact gxR Zr 1 (Ze (oq [0, 3, 6]) [(0, (a0 % (8 : Int)))] [] [] [(0, (Zk c0 (rg 0 22 []) 23).t), (3, (Zt c4 (1 :: (rg 3 19 [])) 24).t), (5, (Zc1 c5 [] 44).t), (9, .ap 1 [vi y5_1, vi y5_2] (Za RA (L13 ++ ([(⟨y5_1, y5_2⟩ : RF)] : List RF))))]) (0 :: (rg 900000001 21 (1 :: (47 :: (rg 24 19 []))))) (vf) (kO ((y4_0 == y5_1) && ((y4_1 == y5_2) && true)) w7) (bU [vp 1 0, vi a10, ms RD y5_0, ms eI ([] : List Int), vs 47 0 (L13.length + 1) (L13.length + 1)] 4 (show (κh L13) = vs 23 0 (L13 ++ ([(⟨y5_1, y5_2⟩ : RF)] : List RF)).length (L13 ++ ([(⟨y5_1, y5_2⟩ : RF)] : List RF)).length from Zo rfl eqA eqA) <| ZK <| bN4 <| bN <| bS (hpC a14 24 y4_3.length 25 y4_4.length 26 y4_5) <| bQ <| bR <| bR <| Zs <| bQ <| bE)
     | r2 y5_0 y5_1 y5_2 y5_3 =>
      refine Zx (fun g6 => ?_) (fun _ => Zbk)
      have w7 := kA RA L13 (⟨y5_2, y5_3⟩ : RF) <| kK (ZjK c5 [] 44) w5
      refine Zx (fun g7 => ?_) (fun g7 => ?_)
      ·
       refine Zx (fun g8 => ?_) (fun g8 => ?_)
       ·
        exact gxR Zr 1 (Ze (oq [0, 3, 7, 9]) [(0, (a0 % (8 : Int)))] [] [] [(0, (Zk c0 (rg 0 22 []) 23).t), (3, (Zt c4 (1 :: (rg 3 19 [])) 24).t), (5, (Zc2 c5 [] 44).t), (9, .ap 1 [vi y5_2, vi y5_3] (Za RA (L13 ++ ([(⟨y5_2, y5_3⟩ : RF)] : List RF))))]) (0 :: (rg 900000001 21 (1 :: (47 :: (rg 24 19 []))))) (vT) (hT g8 <| kZ ((y4_0 == y5_2) && ((y4_1 == y5_3) && true)) w7) (bU [vp 1 0, vi a10, ms RD y5_0, ms eI y5_1, vs 47 0 (L13.length + 1) (L13.length + 1)] 4 (show (κh L13) = vs 23 0 (L13 ++ ([(⟨y5_2, y5_3⟩ : RF)] : List RF)).length (L13 ++ ([(⟨y5_2, y5_3⟩ : RF)] : List RF)).length from Zo rfl eqA eqA) <| ZK <| bN4 <| bN <| bS (hpC a14 24 y4_3.length 25 y4_4.length 26 y4_5) <| bQ <| bR <| bR <| Zs <| bQ <| bE)
       ·
        exact gxR Zr 1 (Ze (oq [0, 3, 7, 8]) [(0, (a0 % (8 : Int)))] [] [] [(0, (Zk c0 (rg 0 22 []) 23).t), (3, (Zt c4 (1 :: (rg 3 19 [])) 24).t), (5, (Zc2 c5 [] 44).t), (9, .ap 1 [vi y5_2, vi y5_3] (Za RA (L13 ++ ([(⟨y5_2, y5_3⟩ : RF)] : List RF))))]) (0 :: (rg 900000001 21 (1 :: (47 :: (rg 24 19 []))))) (vf) (hF g8 <| kZ ((y4_0 == y5_2) && ((y4_1 == y5_3) && true)) w7) (bU [vp 1 0, vi a10, ms RD y5_0, ms eI y5_1, vs 47 0 (L13.length + 1) (L13.length + 1)] 4 (show (κh L13) = vs 23 0 (L13 ++ ([(⟨y5_2, y5_3⟩ : RF)] : List RF)).length (L13 ++ ([(⟨y5_2, y5_3⟩ : RF)] : List RF)).length from Zo rfl eqA eqA) <| ZK <| bN4 <| bN <| bS (hpC a14 24 y4_3.length 25 y4_4.length 26 y4_5) <| bQ <| bR <| bR <| Zs <| bQ <| bE)
      ·
       exact gxR Zr 1 (Ze (oq [0, 3, 6]) [(0, (a0 % (8 : Int)))] [] [] [(0, (Zk c0 (rg 0 22 []) 23).t), (3, (Zt c4 (1 :: (rg 3 19 [])) 24).t), (5, (Zc2 c5 [] 44).t), (9, .ap 1 [vi y5_2, vi y5_3] (Za RA (L13 ++ ([(⟨y5_2, y5_3⟩ : RF)] : List RF))))]) (0 :: (rg 900000001 21 (1 :: (47 :: (rg 24 19 []))))) (vf) (kO ((y4_0 == y5_2) && ((y4_1 == y5_3) && true)) w7) (bU [vp 1 0, vi a10, ms RD y5_0, ms eI y5_1, vs 47 0 (L13.length + 1) (L13.length + 1)] 4 (show (κh L13) = vs 23 0 (L13 ++ ([(⟨y5_2, y5_3⟩ : RF)] : List RF)).length (L13 ++ ([(⟨y5_2, y5_3⟩ : RF)] : List RF)).length from Zo rfl eqA eqA) <| ZK <| bN4 <| bN <| bS (hpC a14 24 y4_3.length 25 y4_4.length 26 y4_5) <| bQ <| bR <| bR <| Zs <| bQ <| bE)
     | r3 y5_0 y5_1 y5_2 =>
      refine Zx (fun g6 => ?_) (fun _ => Zbk)
      have w7 := kA RA L13 (⟨y5_1, y5_2⟩ : RF) <| kK (ZjL c5 [] 44) w5
      refine Zx (fun g7 => ?_) (fun g7 => ?_)
      ·
       refine Zx (fun g8 => ?_) (fun g8 => ?_)
       ·
        exact gxR Zr 1 (Ze (oq [0, 3, 7, 9]) [(0, (a0 % (8 : Int)))] [] [] [(0, (Zk c0 (rg 0 22 []) 23).t), (3, (Zt c4 (1 :: (rg 3 19 [])) 24).t), (5, (Zc3 c5 [] 44).t), (9, .ap 1 [vi y5_1, vi y5_2] (Za RA (L13 ++ ([(⟨y5_1, y5_2⟩ : RF)] : List RF))))]) (0 :: (rg 900000001 21 (1 :: (47 :: (rg 24 19 []))))) (vT) (hT g8 <| kZ ((y4_0 == y5_1) && ((y4_1 == y5_2) && true)) w7) (bU [vp 1 0, vi a10, ms RD y5_0, ms eI L12, vs 47 0 (L13.length + 1) (L13.length + 1)] 4 (show (κh L13) = vs 23 0 (L13 ++ ([(⟨y5_1, y5_2⟩ : RF)] : List RF)).length (L13 ++ ([(⟨y5_1, y5_2⟩ : RF)] : List RF)).length from Zo rfl eqA eqA) <| ZK <| bN4 <| bN <| bS (hpC a14 24 y4_3.length 25 y4_4.length 26 y4_5) <| bQ <| bR <| bR <| Zs <| bQ <| bE)
       ·
        exact gxR Zr 1 (Ze (oq [0, 3, 7, 8]) [(0, (a0 % (8 : Int)))] [] [] [(0, (Zk c0 (rg 0 22 []) 23).t), (3, (Zt c4 (1 :: (rg 3 19 [])) 24).t), (5, (Zc3 c5 [] 44).t), (9, .ap 1 [vi y5_1, vi y5_2] (Za RA (L13 ++ ([(⟨y5_1, y5_2⟩ : RF)] : List RF))))]) (0 :: (rg 900000001 21 (1 :: (47 :: (rg 24 19 []))))) (vf) (hF g8 <| kZ ((y4_0 == y5_1) && ((y4_1 == y5_2) && true)) w7) (bU [vp 1 0, vi a10, ms RD y5_0, ms eI L12, vs 47 0 (L13.length + 1) (L13.length + 1)] 4 (show (κh L13) = vs 23 0 (L13 ++ ([(⟨y5_1, y5_2⟩ : RF)] : List RF)).length (L13 ++ ([(⟨y5_1, y5_2⟩ : RF)] : List RF)).length from Zo rfl eqA eqA) <| ZK <| bN4 <| bN <| bS (hpC a14 24 y4_3.length 25 y4_4.length 26 y4_5) <| bQ <| bR <| bR <| Zs <| bQ <| bE)
      ·
       exact gxR Zr 1 (Ze (oq [0, 3, 6]) [(0, (a0 % (8 : Int)))] [] [] [(0, (Zk c0 (rg 0 22 []) 23).t), (3, (Zt c4 (1 :: (rg 3 19 [])) 24).t), (5, (Zc3 c5 [] 44).t), (9, .ap 1 [vi y5_1, vi y5_2] (Za RA (L13 ++ ([(⟨y5_1, y5_2⟩ : RF)] : List RF))))]) (0 :: (rg 900000001 21 (1 :: (47 :: (rg 24 19 []))))) (vf) (kO ((y4_0 == y5_1) && ((y4_1 == y5_2) && true)) w7) (bU [vp 1 0, vi a10, ms RD y5_0, ms eI L12, vs 47 0 (L13.length + 1) (L13.length + 1)] 4 (show (κh L13) = vs 23 0 (L13 ++ ([(⟨y5_1, y5_2⟩ : RF)] : List RF)).length (L13 ++ ([(⟨y5_1, y5_2⟩ : RF)] : List RF)).length from Zo rfl eqA eqA) <| ZK <| bN4 <| bN <| bS (hpC a14 24 y4_3.length 25 y4_4.length 26 y4_5) <| bQ <| bR <| bR <| Zs <| bQ <| bE)
   ·
    have w4 := hF g3 <| hF g2 w2
    refine Zx (fun g4 => ?_) (fun g4 => ?_)
    ·
     refine Z5 (fun z5 c5 => ?_)
     cases z5 with
     | r0 y5_0 y5_1 y5_2 =>
      have w6 := kK (ZjV c5 (1 :: (rg 3 19 [])) 24) <| hT g4 w4
      refine Z5 (fun z6 c6 => ?_)
      cases z6 with
      | r0 y6_0 y6_1 =>
       refine Zx (fun g7 => ?_) (fun g7 => ?_)
       ·
        exact gxR Zr 1 (Ze (oq [0, 2, 5, 7]) [(0, (a0 % (8 : Int)))] [] [] [(0, (Zk c0 (rg 0 22 []) 23).t), (3, (ZbV c5 (1 :: (rg 3 19 [])) 24).t), (4, (Zf7 c6 [] 43).t)]) (0 :: (rg 900000001 21 (1 :: (2 :: (rg 24 19 []))))) (vT) (hT g7 <| kK (ZhZ c6 [] 43) w6) (bS [vp 1 0, vi a10, ms RD y6_0, ms eI L12, vs 2 0 L13.length L13.length] <| ZK <| bN4 <| bN <| bS (hpC a14 24 y5_1.length 25 L16.length 26 y5_2) <| bQ <| bR <| bR <| Zs <| bQ <| bE)
       ·
        exact gxR Zr 1 (Ze (oq [0, 2, 5, 6]) [(0, (a0 % (8 : Int)))] [] [] [(0, (Zk c0 (rg 0 22 []) 23).t), (3, (ZbV c5 (1 :: (rg 3 19 [])) 24).t), (4, (Zf7 c6 [] 43).t)]) (0 :: (rg 900000001 21 (1 :: (2 :: (rg 24 19 []))))) (vf) (hF g7 <| kK (ZhZ c6 [] 43) w6) (bS [vp 1 0, vi a10, ms RD y6_0, ms eI L12, vs 2 0 L13.length L13.length] <| ZK <| bN4 <| bN <| bS (hpC a14 24 y5_1.length 25 L16.length 26 y5_2) <| bQ <| bR <| bR <| Zs <| bQ <| bE)
      | r1 y6_0 y6_1 =>
       refine Zx (fun g7 => ?_) (fun g7 => ?_)
       ·
        exact gxR Zr 1 (Ze (oq [0, 2, 5, 7]) [(0, (a0 % (8 : Int)))] [] [] [(0, (Zk c0 (rg 0 22 []) 23).t), (3, (ZbV c5 (1 :: (rg 3 19 [])) 24).t), (4, (Zf8 c6 [] 43).t)]) (0 :: (rg 900000001 21 (1 :: (2 :: (rg 24 19 []))))) (vT) (hT g7 <| kK (Zia c6 [] 43) w6) (bS [vp 1 0, vi a10, ms RD y6_0, ms eI y6_1, vs 2 0 L13.length L13.length] <| ZK <| bN4 <| bN <| bS (hpC a14 24 y5_1.length 25 L16.length 26 y5_2) <| bQ <| bR <| bR <| Zs <| bQ <| bE)
       ·
        exact gxR Zr 1 (Ze (oq [0, 2, 5, 6]) [(0, (a0 % (8 : Int)))] [] [] [(0, (Zk c0 (rg 0 22 []) 23).t), (3, (ZbV c5 (1 :: (rg 3 19 [])) 24).t), (4, (Zf8 c6 [] 43).t)]) (0 :: (rg 900000001 21 (1 :: (2 :: (rg 24 19 []))))) (vf) (hF g7 <| kK (Zia c6 [] 43) w6) (bS [vp 1 0, vi a10, ms RD y6_0, ms eI y6_1, vs 2 0 L13.length L13.length] <| ZK <| bN4 <| bN <| bS (hpC a14 24 y5_1.length 25 L16.length 26 y5_2) <| bQ <| bR <| bR <| Zs <| bQ <| bE)
    ·
     refine Zx (fun g5 => ?_) (fun g5 => ?_)
     ·
      refine Z5 (fun z6 c6 => ?_)
      cases z6 with
      | r0 y6_0 y6_1 y6_2 =>
       have w7 := kK (Zmu c6 (1 :: (rg 3 19 [])) 24) <| hT g5 <| hF g4 w4
       refine Z5 (fun z7 c7 => ?_)
       cases z7 with
       | r0 y7_0 y7_1 y7_2 =>
        refine Zx (fun g8 => ?_) (fun g8 => ?_)
        ·
         have w9 := kZ ((y6_0 == y7_0) && ((y6_1 == y7_1) && true)) <| kK (ZkT c7 [] 25) w7
         refine Zx (fun g9 => ?_) (fun g9 => ?_)
         ·
          exact gxR Zr 1 (Ze (oq [0, 2, 4, 7, 9, 11]) [(0, (a0 % (8 : Int)))] [] [] [(0, (Zk c0 (rg 0 22 []) 23).t), (3, (ZdV c6 (1 :: (rg 3 19 [])) 24).t), (5, (ZfA c7 [] 25).t)]) (0 :: (rg 900000001 21 (rg 1 21 []))) (vT) (hT g9 w9) (bS (κc a10 L11 L12 L13) <| ZK <| bN4 <| bN <| bS (hpC a14 3 L15.length 4 L16.length 5 W17) <| bQ <| bR <| bR <| Zs <| bQ <| bE)
         ·
          exact gxR Zr 1 (Ze (oq [0, 2, 4, 7, 9, 10]) [(0, (a0 % (8 : Int)))] [] [] [(0, (Zk c0 (rg 0 22 []) 23).t), (3, (ZdV c6 (1 :: (rg 3 19 [])) 24).t), (5, (ZfA c7 [] 25).t)]) (0 :: (rg 900000001 21 (rg 1 21 []))) (vf) (hF g9 w9) (bS (κc a10 L11 L12 L13) <| ZK <| bN4 <| bN <| bS (hpC a14 3 L15.length 4 L16.length 5 W17) <| bQ <| bR <| bR <| Zs <| bQ <| bE)
        ·
         exact gxR Zr 1 (Ze (oq [0, 2, 4, 7, 8]) [(0, (a0 % (8 : Int)))] [] [] [(0, (Zk c0 (rg 0 22 []) 23).t), (3, (ZdV c6 (1 :: (rg 3 19 [])) 24).t), (5, (ZfA c7 [] 25).t)]) (0 :: (rg 900000001 21 (rg 1 21 []))) (vf) (kO ((y6_0 == y7_0) && ((y6_1 == y7_1) && true)) <| kK (ZkT c7 [] 25) w7) (bS (κc a10 L11 L12 L13) <| ZK <| bN4 <| bN <| bS (hpC a14 3 L15.length 4 L16.length 5 W17) <| bQ <| bR <| bR <| Zs <| bQ <| bE)
     ·
      have w6 := hF g5 <| hF g4 w4
      refine Zx (fun g6 => ?_) (fun g6 => ?_)
      ·
       refine Z5 (fun z7 c7 => ?_)
       cases z7 with
       | r0 y7_0 y7_1 =>
        refine Z5 (fun z8 c8 => ?_)
        cases z8 with
        | r0 y8_0 y8_1 =>
         have w9 := kK (Zdu c8 (1 :: (rg 3 19 [])) 24) <| kK (ZbF c7 (rg 0 22 []) 24) <| hT g6 w6
         refine Z5 (fun z9 c9 => ?_)
         cases z9 with
         | r0 y9_0 y9_1 =>
          refine Z5 (fun z10 c10 => ?_)
          cases z10 with
          | r0 y10_0 y10_1 =>
           refine Zx (fun g11 => ?_) (fun g11 => ?_)
           ·
            exact gxR Zr 1 (Ze (oq [0, 2, 4, 6, 9, 11]) [(0, (a0 % (8 : Int)))] [] [] [(0, (Zk c0 (rg 0 22 []) 23).t), (3, (Za7 c7 (rg 0 22 []) 24).t), (4, (Zbo c8 (1 :: (rg 3 19 [])) 24).t), (5, (Za7 c9 (rg 0 22 []) 24).t), (6, (ZdX c10 [] 24).t)]) (0 :: (rg 900000001 21 (rg 1 21 []))) (vT) (hT g11 <| kK (ZeS c10 [] 24) <| kK (ZbF c9 (rg 0 22 []) 24) w9) (bS [vp 1 0, vi a10, ms RD y10_0, ms eI L12, vs 2 0 L13.length L13.length] <| ZK <| bN4 <| bN <| bS (hpC a14 3 L15.length 4 y8_0.length 5 W17) <| bQ <| bR <| bR <| Zs <| bQ <| bE)
           ·
            exact gxR Zr 1 (Ze (oq [0, 2, 4, 6, 9, 10]) [(0, (a0 % (8 : Int)))] [] [] [(0, (Zk c0 (rg 0 22 []) 23).t), (3, (Za7 c7 (rg 0 22 []) 24).t), (4, (Zbo c8 (1 :: (rg 3 19 [])) 24).t), (5, (Za7 c9 (rg 0 22 []) 24).t), (6, (ZdX c10 [] 24).t)]) (0 :: (rg 900000001 21 (rg 1 21 []))) (vf) (hF g11 <| kK (ZeS c10 [] 24) <| kK (ZbF c9 (rg 0 22 []) 24) w9) (bS [vp 1 0, vi a10, ms RD y10_0, ms eI L12, vs 2 0 L13.length L13.length] <| ZK <| bN4 <| bN <| bS (hpC a14 3 L15.length 4 y8_0.length 5 W17) <| bQ <| bR <| bR <| Zs <| bQ <| bE)
      ·
       refine Zx (fun g7 => ?_) (fun g7 => ?_)
       ·
        refine Z5 (fun z8 c8 => ?_)
        cases z8 with
        | r0 y8_0 y8_1 =>
         refine Z5 (fun z9 c9 => ?_)
         cases z9 with
         | r0 y9_0 y9_1 =>
          have w10 := kK (Zdu c9 (1 :: (rg 3 19 [])) 24) <| kK (ZbF c8 (rg 0 22 []) 24) <| hT g7 <| hF g6 w6
          refine Z5 (fun z10 c10 => ?_)
          cases z10 with
          | r0 y10_0 y10_1 =>
           refine Z5 (fun z11 c11 => ?_)
           cases z11 with
           | r0 y11_0 y11_1 =>
            refine Zx (fun g12 => ?_) (fun g12 => ?_)
            ·
             exact gxR Zr 1 (Ze (oq [0, 2, 4, 6, 8, 11, 13]) [(0, (a0 % (8 : Int)))] [] [] [(0, (Zk c0 (rg 0 22 []) 23).t), (3, (Za7 c8 (rg 0 22 []) 24).t), (4, (Zbo c9 (1 :: (rg 3 19 [])) 24).t), (5, (Za7 c10 (rg 0 22 []) 24).t), (6, (ZdX c11 [] 24).t)]) (0 :: (rg 900000001 21 (rg 1 21 []))) (vT) (hT g12 <| kK (ZeS c11 [] 24) <| kK (ZbF c10 (rg 0 22 []) 24) w10) (bS [vp 1 0, vi a10, ms RD y11_0, ms eI L12, vs 2 0 L13.length L13.length] <| ZK <| bN4 <| bN <| bS (hpC a14 3 L15.length 4 y9_0.length 5 W17) <| bQ <| bR <| bR <| Zs <| bQ <| bE)
            ·
             exact gxR Zr 1 (Ze (oq [0, 2, 4, 6, 8, 11, 12]) [(0, (a0 % (8 : Int)))] [] [] [(0, (Zk c0 (rg 0 22 []) 23).t), (3, (Za7 c8 (rg 0 22 []) 24).t), (4, (Zbo c9 (1 :: (rg 3 19 [])) 24).t), (5, (Za7 c10 (rg 0 22 []) 24).t), (6, (ZdX c11 [] 24).t)]) (0 :: (rg 900000001 21 (rg 1 21 []))) (vf) (hF g12 <| kK (ZeS c11 [] 24) <| kK (ZbF c10 (rg 0 22 []) 24) w10) (bS [vp 1 0, vi a10, ms RD y11_0, ms eI L12, vs 2 0 L13.length L13.length] <| ZK <| bN4 <| bN <| bS (hpC a14 3 L15.length 4 y9_0.length 5 W17) <| bQ <| bR <| bR <| Zs <| bQ <| bE)
       ·
        have w8 := hF g7 <| hF g6 w6
        refine Zx (fun g8 => ?_) (fun g8 => ?_)
        ·
         refine Zx (fun g9 => ?_) (fun g9 => ?_)
         ·
          have w10 := kM a2 (2 : Int) <| kY (a2 ≥ (8 : Int)) <| hT g8 w8
          refine Zx (fun g10 => ?_) (fun g10 => ?_)
          ·
           refine Z5 (fun z11 c11 => ?_)
           cases z11 with
           | r0 y11_0 y11_1 =>
            have w12 := kK (Zl6 c11 (1 :: (rg 3 19 [])) 24) <| hT g10 w10
            refine Z5 (fun z12 c12 => ?_)
            cases z12 with
            | r0 y12_0 y12_1 =>
             have w13 := kK (Zd8 c12 [] 27) w12
             refine Zx (fun g13 => ?_) (fun g13 => ?_)
             ·
              refine Zx (fun g14 => ?_) (fun g14 => ?_)
              ·
               exact gxR Zr 1 (Ze (oq [0, 2, 4, 6, 8, 10, 13, 15, 17, 19, 21]) [(0, (a0 % (8 : Int))), (1, (a2 % (2 : Int)))] [] [] [(0, (Zk c0 (rg 0 22 []) 23).t), (4, (Zbp c11 (1 :: (rg 3 19 [])) 24).t), (5, (Z2 c12 [] 27).t)]) (0 :: (rg 900000001 21 (rg 1 21 []))) (vT) (hT g14 <| hD g13 w13) (bS (κc a10 L11 L12 L13) <| ZK <| bN4 <| bN <| bS (hpC a14 3 y11_0.length 4 L16.length 5 W17) <| bQ <| bR <| bR <| Zs <| bQ <| bE)
              ·
               exact gxR Zr 1 (Ze (oq [0, 2, 4, 6, 8, 10, 13, 15, 17, 19, 20]) [(0, (a0 % (8 : Int))), (1, (a2 % (2 : Int)))] [] [] [(0, (Zk c0 (rg 0 22 []) 23).t), (4, (Zbp c11 (1 :: (rg 3 19 [])) 24).t), (5, (Z2 c12 [] 27).t)]) (0 :: (rg 900000001 21 (rg 1 21 []))) (vf) (hF g14 <| hD g13 w13) (bS (κc a10 L11 L12 L13) <| ZK <| bN4 <| bN <| bS (hpC a14 3 y11_0.length 4 L16.length 5 W17) <| bQ <| bR <| bR <| Zs <| bQ <| bE)
             ·
              refine Zx (fun g14 => ?_) (fun _ => Zbk)
              refine Zx (fun g15 => ?_) (fun _ => Zbk)
              have w16 := kG RD L11 ((((0 + ((y12_0).toNat * 9)) + 1) + 2) + 3) ((y12_0).toNat) 6 1 9 <| kB (y12_0).toNat L11.length <| kI y12_0 (Int.ofNat (y12_0).toNat) <| kE y12_1 (0 : Int) w13
              refine Zx (fun g16 => ?_) (fun g16 => ?_)
              ·
               refine Zx (fun g17 => ?_) (fun g17 => ?_)
               ·
                exact gxR Zr 1 (Ze (oq [0, 2, 4, 6, 8, 10, 13, 15, 17, 18, 21, 23]) [(0, (a0 % (8 : Int))), (1, (a2 % (2 : Int)))] [(0, (y12_0).toNat)] [(11, [.i (L11.getD (y12_0).toNat RI.z).a6])] [(0, (Zk c0 (rg 0 22 []) 23).t), (4, (Zbp c11 (1 :: (rg 3 19 [])) 24).t), (5, (Z2 c12 [] 27).t)]) (0 :: (rg 900000001 21 (rg 1 21 []))) (vT) (hT g17 <| hD g16 w16) (bS (κc a10 L11 L12 L13) <| ZK <| bN4 <| bN <| bS (hpC a14 3 y11_0.length 4 L16.length 5 W17) <| bQ <| bR <| bR <| Zs <| bQ <| bE)
               ·
                exact gxR Zr 1 (Ze (oq [0, 2, 4, 6, 8, 10, 13, 15, 17, 18, 21, 22]) [(0, (a0 % (8 : Int))), (1, (a2 % (2 : Int)))] [(0, (y12_0).toNat)] [(11, [.i (L11.getD (y12_0).toNat RI.z).a6])] [(0, (Zk c0 (rg 0 22 []) 23).t), (4, (Zbp c11 (1 :: (rg 3 19 [])) 24).t), (5, (Z2 c12 [] 27).t)]) (0 :: (rg 900000001 21 (rg 1 21 []))) (vf) (hF g17 <| hD g16 w16) (bS (κc a10 L11 L12 L13) <| ZK <| bN4 <| bN <| bS (hpC a14 3 y11_0.length 4 L16.length 5 W17) <| bQ <| bR <| bR <| Zs <| bQ <| bE)
              ·
               refine Z5 (fun z17 c17 => ?_)
               cases z17 with
               | r0 y17_0 y17_1 =>
                have w18 := kK (ZfU c17 [] 27) <| kE ((L11.getD (y12_0).toNat RI.z).a6) (1 : Int) w16
                refine Zx (fun g18 => ?_) (fun g18 => ?_)
                ·
                 exact gxR Zr 1 (Ze (oq [0, 2, 4, 6, 8, 10, 13, 15, 17, 18, 20, 23]) [(0, (a0 % (8 : Int))), (1, (a2 % (2 : Int)))] [(0, (y12_0).toNat)] [(11, [.i (L11.getD (y12_0).toNat RI.z).a6])] [(0, (Zk c0 (rg 0 22 []) 23).t), (4, (Zbp c11 (1 :: (rg 3 19 [])) 24).t), (5, (Z2 c12 [] 27).t), (6, (Zds c17 [] 27).t)]) (0 :: (rg 900000001 21 (rg 1 21 []))) (vT) (hT g18 w18) (bS [vp 1 0, vi a10, ms RD y17_0, ms eI L12, vs 2 0 L13.length L13.length] <| ZK <| bN4 <| bN <| bS (hpC a14 3 y11_0.length 4 L16.length 5 W17) <| bQ <| bR <| bR <| Zs <| bQ <| bE)
                ·
                 exact gxR Zr 1 (Ze (oq [0, 2, 4, 6, 8, 10, 13, 15, 17, 18, 20, 22]) [(0, (a0 % (8 : Int))), (1, (a2 % (2 : Int)))] [(0, (y12_0).toNat)] [(11, [.i (L11.getD (y12_0).toNat RI.z).a6])] [(0, (Zk c0 (rg 0 22 []) 23).t), (4, (Zbp c11 (1 :: (rg 3 19 [])) 24).t), (5, (Z2 c12 [] 27).t), (6, (Zds c17 [] 27).t)]) (0 :: (rg 900000001 21 (rg 1 21 []))) (vf) (hF g18 w18) (bS [vp 1 0, vi a10, ms RD y17_0, ms eI L12, vs 2 0 L13.length L13.length] <| ZK <| bN4 <| bN <| bS (hpC a14 3 y11_0.length 4 L16.length 5 W17) <| bQ <| bR <| bR <| Zs <| bQ <| bE)
          ·
           refine Z5 (fun z11 c11 => ?_)
           cases z11 with
           | r0 y11_0 y11_1 =>
            refine Z5 (fun z12 c12 => ?_)
            cases z12 with
            | r0 y12_0 y12_1 =>
             have w13 := kK (ZfU c12 [] 24) <| kK (Zie c11 (1 :: (rg 3 19 [])) 24) <| hF g10 w10
             refine Zx (fun g13 => ?_) (fun g13 => ?_)
             ·
              exact gxR Zr 1 (Ze (oq [0, 2, 4, 6, 8, 10, 13, 15, 16, 19]) [(0, (a0 % (8 : Int))), (1, (a2 % (2 : Int)))] [] [] [(0, (Zk c0 (rg 0 22 []) 23).t), (4, (Zdn c11 (1 :: (rg 3 19 [])) 24).t), (5, (Zds c12 [] 24).t)]) (0 :: (rg 900000001 21 (rg 1 21 []))) (vT) (hT g13 w13) (bS [vp 1 0, vi a10, ms RD y12_0, ms eI L12, vs 2 0 L13.length L13.length] <| ZK <| bN4 <| bN <| bS (hpC a14 3 y11_0.length 4 L16.length 5 W17) <| bQ <| bR <| bR <| Zs <| bQ <| bE)
             ·
              exact gxR Zr 1 (Ze (oq [0, 2, 4, 6, 8, 10, 13, 15, 16, 18]) [(0, (a0 % (8 : Int))), (1, (a2 % (2 : Int)))] [] [] [(0, (Zk c0 (rg 0 22 []) 23).t), (4, (Zdn c11 (1 :: (rg 3 19 [])) 24).t), (5, (Zds c12 [] 24).t)]) (0 :: (rg 900000001 21 (rg 1 21 []))) (vf) (hF g13 w13) (bS [vp 1 0, vi a10, ms RD y12_0, ms eI L12, vs 2 0 L13.length L13.length] <| ZK <| bN4 <| bN <| bS (hpC a14 3 y11_0.length 4 L16.length 5 W17) <| bQ <| bR <| bR <| Zs <| bQ <| bE)
         ·
          refine Z5 (fun z10 c10 => ?_)
          cases z10 with
          | r0 y10_0 y10_1 =>
           have w11 := kK (Zie c10 (1 :: (rg 3 19 [])) 24) <| kN (a2 ≥ (8 : Int)) <| hT g8 w8
           refine Z5 (fun z11 c11 => ?_)
           cases z11 with
           | r0 y11_0 y11_1 =>
            refine Zx (fun g12 => ?_) (fun g12 => ?_)
            ·
             exact gxR Zr 1 (Ze (oq [0, 2, 4, 6, 8, 10, 13, 14, 17]) [(0, (a0 % (8 : Int)))] [] [] [(0, (Zk c0 (rg 0 22 []) 23).t), (3, (Zdn c10 (1 :: (rg 3 19 [])) 24).t), (4, (Zds c11 [] 24).t)]) (0 :: (rg 900000001 21 (rg 1 21 []))) (vT) (hT g12 <| kK (ZfU c11 [] 24) w11) (bS [vp 1 0, vi a10, ms RD y11_0, ms eI L12, vs 2 0 L13.length L13.length] <| ZK <| bN4 <| bN <| bS (hpC a14 3 y10_0.length 4 L16.length 5 W17) <| bQ <| bR <| bR <| Zs <| bQ <| bE)
            ·
             exact gxR Zr 1 (Ze (oq [0, 2, 4, 6, 8, 10, 13, 14, 16]) [(0, (a0 % (8 : Int)))] [] [] [(0, (Zk c0 (rg 0 22 []) 23).t), (3, (Zdn c10 (1 :: (rg 3 19 [])) 24).t), (4, (Zds c11 [] 24).t)]) (0 :: (rg 900000001 21 (rg 1 21 []))) (vf) (hF g12 <| kK (ZfU c11 [] 24) w11) (bS [vp 1 0, vi a10, ms RD y11_0, ms eI L12, vs 2 0 L13.length L13.length] <| ZK <| bN4 <| bN <| bS (hpC a14 3 y10_0.length 4 L16.length 5 W17) <| bQ <| bR <| bR <| Zs <| bQ <| bE)
        ·
         refine Z5 (fun z9 c9 => ?_)
         cases z9 with
         | r0 =>
          refine Z5 (fun z10 c10 => ?_)
          cases z10 with
          | r0 y10_0 y10_1 y10_2 y10_3 y10_4 y10_5 =>
           have w11 := kK (ZeH c10 (1 :: (rg 25 19 [])) 63) <| kK (Zmx c9 (1 :: (rg 3 19 [])) 24) <| hF g8 w8
           refine Zx (fun g11 => ?_) (fun g11 => ?_)
           ·
            refine Z5 (fun z12 c12 => ?_)
            cases z12 with
            | r0 y12_0 y12_1 y12_2 =>
             refine Z5 (fun z13 c13 => ?_)
             cases z13 with
             | r0 y13_0 y13_1 =>
              exact gxR Zr 1 (Ze (oq [0, 2, 4, 6, 8, 10, 12, 19]) [(0, (a0 % (8 : Int)))] [] [] [(0, (Zk c0 (rg 0 22 []) 23).t), (3, (Zfb c9 (1 :: (rg 3 19 [])) 24).t), (4, (Zt c10 (1 :: (rg 25 19 [])) 63).t), (5, (ZeE c12 [] 83).t), (9, (Zbo c13 (1 :: (rg 63 19 [])) 85).t)]) (0 :: (rg 900000001 21 (24 :: (2 :: (rg 44 19 []))))) (vT) (kK (Zdu c13 (1 :: (rg 63 19 [])) 85) <| kK (Zf5 c12 [] 83) <| kY (a14 > (0 : Int)) w11) (bS [vp 24 0, vi a10, ms RD L11, ms eI L12, vs 2 0 L13.length L13.length] <| ZK <| bN4 <| bN <| bS (hpC a14 44 L15.length 45 L16.length 46 W17) <| bQ <| bR <| bR <| Zs <| bQ <| bE)
           ·
            refine Z5 (fun z12 c12 => ?_)
            cases z12 with
            | r0 y12_0 y12_1 =>
             exact gxR Zr 1 (Ze (oq [0, 2, 4, 6, 8, 10, 12, 18]) [(0, (a0 % (8 : Int)))] [] [] [(0, (Zk c0 (rg 0 22 []) 23).t), (3, (Zfb c9 (1 :: (rg 3 19 [])) 24).t), (4, (Zt c10 (1 :: (rg 25 19 [])) 63).t), (7, (Zbo c12 (1 :: (rg 63 19 [])) 84).t)]) (0 :: (rg 900000001 21 (24 :: (2 :: (rg 44 19 []))))) (vT) (kK (Zdu c12 (1 :: (rg 63 19 [])) 84) <| kN (a14 > (0 : Int)) w11) (bS [vp 24 0, vi a10, ms RD L11, ms eI L12, vs 2 0 L13.length L13.length] <| ZK <| bN4 <| bN <| bS (hpC a14 44 L15.length 45 L16.length 46 W17) <| bQ <| bR <| bR <| Zs <| bQ <| bE)
         | r1 =>
          exact gxR Zr 1 (Ze (oq [0, 2, 4, 6, 8, 10, 12]) [(0, (a0 % (8 : Int)))] [] [] [(0, (Zk c0 (rg 0 22 []) 23).t), (3, (ZhA c9 (1 :: (rg 3 19 [])) 24).t)]) (0 :: (rg 900000001 21 (1 :: (2 :: (rg 24 19 []))))) (vf) (kK (Zmy c9 (1 :: (rg 3 19 [])) 24) <| hF g8 w8) (bS (κc a10 L11 L12 L13) <| ZK <| bN4 <| bN <| bS (hpC a14 24 L15.length 25 L16.length 26 W17) <| bQ <| bR <| bR <| Zs <| bQ <| bE)

theorem Zj5 (a0 a1 a2 a3 a4 : Int) (b5 : Bool) (a6 a7 a8 a9 a10 : Int) (L11 : List RI) (L12 : List Int) (L13 : List RF) (a14 : Int) (L15 : List RG) (L16 : List RF) (W17 : Nat → List Int) (N : Nat) (r : Zd) (h : Zba a0 a1 a2 a3 a4 b5 a6 a7 a8 a9 a10 L11 L12 L13 a14 L15 L16 W17 N = some r) : LSpec Try.prog 9 #[vp 0 0, Value.agg (κk a0 a1 a2 a3 a4 b5 a6 a7 a8 a9)] (.cells (κc a10 L11 L12 L13) 37 :: .cells (hpC a14 3 L15.length 4 L16.length 5 W17) 67 :: .cells (Za RA L13) 41 true :: .cells (Za RB L15) 50 :: .cells (Za RA L16) 41 :: hpP W17 []) (ZhB a0 a1 a2 a3 a4 b5 a6 a7 a8 a9 a10 L11 L12 L13 a14 L15 L16 W17 r) (ZgC a0 a1 a2 a3 a4 b5 a6 a7 a8 a9 a10 L11 L12 L13 a14 L15 L16 W17 r) :=
 ZkZ a0 a1 a2 a3 a4 b5 a6 a7 a8 a9 a10 L11 L12 L13 a14 L15 L16 W17 N r h

noncomputable def Zc6 {a0 : Int} {a1 : Int} {a2 : Int} {a3 : Int} {a4 : Int} {b5 : Bool} {a6 : Int} {a7 : Int} {a8 : Int} {a9 : Int} {a10 : Int} {L11 : List RI} {L12 : List Int} {L13 : List RF} {a14 : Int} {L15 : List RG} {L16 : List RF} {W17 : Nat → List Int} {w0 : Bool} {w2 : List RI} {w3 : List Int} {w4 : List RF} {w6 : List RG} {w7 : List RF} {w8 : Nat → List Int} {N : Nat} (h : Zba a0 a1 a2 a3 a4 b5 a6 a7 a8 a9 a10 L11 L12 L13 a14 L15 L16 W17 N = some (.r0 w0 w2 w3 w4 w6 w7 w8)) (ks : List Nat) (n : Nat) : ToldS := ⟨#[vp (nth ks 0) 0, Value.agg (κk a0 a1 a2 a3 a4 b5 a6 a7 a8 a9)], (κt ks a10 L11 L12 L13 a14 L15 L16 W17), Value.bool w0, [((nth ks 0), some (.cells [vp n 0, vi a10, ms RD w2, ms eI w3, vs (n + 1) 0 w4.length w4.length] 37)), ((nth ks 1), none), ((nth ks 2), none), ((nth ks 3), none), ((nth ks 4), none), ((nth ks 5), none), ((nth ks 6), none), ((nth ks 7), none), ((nth ks 8), none), ((nth ks 9), none), ((nth ks 10), none), ((nth ks 11), none), ((nth ks 12), none), ((nth ks 13), none), ((nth ks 14), none), ((nth ks 15), none), ((nth ks 16), none), ((nth ks 17), none), ((nth ks 18), none), ((nth ks 19), none), ((nth ks 20), none), ((nth ks 21), none), (n, some (.cells [vi a14, vs (n + 2) 0 w6.length w6.length, vs (n + 3) 0 w7.length w7.length, vs (n + 4) 0 (w8 0).length (w8 0).length, vs (n + 5) 0 (w8 1).length (w8 1).length, vs (n + 6) 0 (w8 2).length (w8 2).length, vs (n + 7) 0 (w8 3).length (w8 3).length, vs (n + 8) 0 (w8 4).length (w8 4).length, vs (n + 9) 0 (w8 5).length (w8 5).length, vs (n + 10) 0 (w8 6).length (w8 6).length, vs (n + 11) 0 (w8 7).length (w8 7).length, vs (n + 12) 0 (w8 8).length (w8 8).length, vs (n + 13) 0 (w8 9).length (w8 9).length, vs (n + 14) 0 (w8 10).length (w8 10).length, vs (n + 15) 0 (w8 11).length (w8 11).length, vs (n + 16) 0 (w8 12).length (w8 12).length, vs (n + 17) 0 (w8 13).length (w8 13).length, vs (n + 18) 0 (w8 14).length (w8 14).length, vs (n + 19) 0 (w8 15).length (w8 15).length, vs (n + 20) 0 (w8 16).length (w8 16).length] 67)), ((n + 1), some (.cells (Za RA w4) 41 true)), ((n + 2), some (.cells (Za RB w6) 50)), ((n + 3), some (.cells (Za RA w7) 41)), ((n + 4), some (.cells (Za eI (w8 0)) 3 true)), ((n + 5), some (.cells (Za eI (w8 1)) 3 true)), ((n + 6), some (.cells (Za eI (w8 2)) 3 true)), ((n + 7), some (.cells (Za eI (w8 3)) 3 true)), ((n + 8), some (.cells (Za eI (w8 4)) 3 true)), ((n + 9), some (.cells (Za eI (w8 5)) 3 true)), ((n + 10), some (.cells (Za eI (w8 6)) 3 true)), ((n + 11), some (.cells (Za eI (w8 7)) 3 true)), ((n + 12), some (.cells (Za eI (w8 8)) 3 true)), ((n + 13), some (.cells (Za eI (w8 9)) 3 true)), ((n + 14), some (.cells (Za eI (w8 10)) 3 true)), ((n + 15), some (.cells (Za eI (w8 11)) 3 true)), ((n + 16), some (.cells (Za eI (w8 12)) 3 true)), ((n + 17), some (.cells (Za eI (w8 13)) 3 true)), ((n + 18), some (.cells (Za eI (w8 14)) 3 true)), ((n + 19), some (.cells (Za eI (w8 15)) 3 true)), ((n + 20), some (.cells (Za eI (w8 16)) 3 true))], 21⟩

theorem Zl8 {a0 : Int} {a1 : Int} {a2 : Int} {a3 : Int} {a4 : Int} {b5 : Bool} {a6 : Int} {a7 : Int} {a8 : Int} {a9 : Int} {a10 : Int} {L11 : List RI} {L12 : List Int} {L13 : List RF} {a14 : Int} {L15 : List RG} {L16 : List RF} {W17 : Nat → List Int} {w0 : Bool} {w2 : List RI} {w3 : List Int} {w4 : List RF} {w6 : List RG} {w7 : List RF} {w8 : Nat → List Int} {N : Nat} (h : Zba a0 a1 a2 a3 a4 b5 a6 a7 a8 a9 a10 L11 L12 L13 a14 L15 L16 W17 N = some (.r0 w0 w2 w3 w4 w6 w7 w8)) (ks : List Nat) (n : Nat) (hk : ks.length = 22 := by rfl) (hnd : ks.Nodup := by decide +kernel) (hlt : ∀ k ∈ ks, k < n := by decide +kernel) : (Zc6 (N := N)  h ks n).P Try.prog 9 n :=
 match ks, hk, hnd, hlt with
 | [k0, k1, k2, k3, k4, k5, k6, k7, k8, k9, k10, k11, k12, k13, k14, k15, k16, k17, k18, k19, k20, k21], _, hnd, hlt => Zad (show LSpec Try.prog 9 #[vp 0 0, Value.agg (κk a0 a1 a2 a3 a4 b5 a6 a7 a8 a9)] (.cells (κc a10 L11 L12 L13) 37 :: .cells (hpC a14 3 L15.length 4 L16.length 5 W17) 67 :: .cells (Za RA L13) 41 true :: .cells (Za RB L15) 50 :: .cells (Za RA L16) 41 :: hpP W17 []) (Value.bool w0) (some (.cells [vp 22 0, vi a10, ms RD w2, ms eI w3, vs 23 0 w4.length w4.length] 37) :: none :: none :: none :: none :: none :: none :: none :: none :: none :: none :: none :: none :: none :: none :: none :: none :: none :: none :: none :: none :: none :: some (.cells (hpC a14 24 w6.length 25 w7.length 26 w8) 67) :: some (.cells (Za RA w4) 41 true) :: some (.cells (Za RB w6) 50) :: some (.cells (Za RA w7) 41) :: hpO w8 []) from Zj5 a0 a1 a2 a3 a4 b5 a6 a7 a8 a9 a10 L11 L12 L13 a14 L15 L16 W17 N _ h) _ n (rg 0 43 []) hnd hlt

set_option linter.unusedVariables false
set_option maxRecDepth 100000
set_option maxHeartbeats 4000000
noncomputable def Zfc (L0 : List RF) (n1 n2 n3 : Nat) : Zav → Value
 | .r0 => ms RA ((L0.drop n1).take n2)
noncomputable def ZeP (L0 : List RF) (n1 n2 n3 : Nat) : Zav → List (Option AObj)
 | .r0 => [some (.cells (Za RA L0) 41)]

theorem Ze2 (L0 : List RF) (n1 n2 n3 N : Nat) (r : Zav) (h : ZZ L0 n1 n2 n3 N = some r) : LSpec Try.prog 45 #[vs 0 (n1 * 2) n2 n3] [.cells (Za RA L0) 41] (Zfc L0 n1 n2 n3 r) (ZeP L0 n1 n2 n3 r) := by
 unfold ZZ at h
 by_cases h0 : n1 + n2 ≤ L0.length
 · rw [if_pos h0] at h
   by_cases h1 : n2 ≤ 100000
   · rw [if_pos h1] at h
     obtain rfl := (Option.some.inj h).symm
     exact Zsm (E := RA) (L := L0) Zqd rfl h0 (show _ = _ * 2 from by omega) (Nat.le_trans h1 (by decide)) (by show n2 * 16 ≤ _; omega)
   · rw [if_neg h1] at h; cases h
 · rw [if_neg h0] at h; cases h

noncomputable def Zb1 {L0 : List RF} {n1 : Nat} {n2 : Nat} {n3 : Nat} {N : Nat} (h : ZZ L0 n1 n2 n3 N = some (.r0)) (ks : List Nat) (n : Nat) : ToldS := ⟨#[vs (nth ks 0) (n1 * 2) n2 n3], [((nth ks 0), .cells (Za RA L0) 41)], ms RA ((L0.drop n1).take n2), [], 0⟩

theorem ZcK {L0 : List RF} {n1 : Nat} {n2 : Nat} {n3 : Nat} {N : Nat} (h : ZZ L0 n1 n2 n3 N = some (.r0)) (ks : List Nat) (n : Nat) (hk : ks.length = 1 := by rfl) (hnd : ks.Nodup := by decide +kernel) (hlt : ∀ k ∈ ks, k < n := by decide +kernel) : (Zb1 (N := N)  h ks n).P Try.prog 45 n :=
 match ks, hk, hnd, hlt with
 | [k0], _, hnd, hlt => Zad (show LSpec Try.prog 45 #[vs 0 (n1 * 2) n2 n3] [.cells (Za RA L0) 41] (ms RA ((L0.drop n1).take n2)) [some (.cells (Za RA L0) 41)] from Ze2 L0 n1 n2 n3 N _ h) _ n [] hnd hlt

end Ev
end Go.Proofs.Ytomkpfibofpkbaa
namespace Go.Proofs.Ytomkpfibofpkbaa
open Go.IntKind (i64)
open Go.RowKit
namespace Ev
set_option linter.unusedVariables false
set_option maxRecDepth 100000
set_option maxHeartbeats 4000000
noncomputable def Zek (a0 : Int) (L1 : List RG) (L2 : List RF) (W3 : Nat → List Int) : heap_Heap_ObjectsR → Value
 | .r0 => vn
 | .r1 w19 => vs 20 0 w19.length w19.length
noncomputable def ZdW (a0 : Int) (L1 : List RG) (L2 : List RF) (W3 : Nat → List Int) : heap_Heap_ObjectsR → List (Option AObj)
 | .r0 => (κn a0 L1 L2 W3)
 | .r1 w19 => (some (.cells (hpC a0 1 L1.length 2 L2.length 3 W3) 67) :: some (κv L1) :: some (.cells (Za RA L2) 41) :: hpO W3 [some (.cells (Za Z6 w19) 52)])

noncomputable def Zla (a0 : Int) (L1 : List RG) (L2 : List RF) (W3 : Nat → List Int) : heap_Heap_ObjectsR → Value
 | .r0 => ms Z6 ([] : List RH)
 | .r1 w19 => ms Z6 w19
noncomputable def ZjZ (a0 : Int) (L1 : List RG) (L2 : List RF) (W3 : Nat → List Int) : heap_Heap_ObjectsR → List (Option AObj)
 | .r0 => (κn a0 L1 L2 W3)
 | .r1 w19 => (κn a0 L1 L2 W3)

noncomputable def outD (live : List Nat) (r : Out) : Option (Value × List (Option AObj) × List (Bool × Bool)) :=
 match r with
 | some (u, s) => bif Nat.ble s.n 1000000000 then some (u, live.map s.h.get, s.ob) else none
 | none => none
theorem ZqW {P : Program} {ext : FuncId → Option Ext} (F : Fit P ext) {f : FuncId} {fn : Func} {c : Code} (hfn : P.funcs[f]? = some fn) (hb : fn.body = some c) {A : Array Value} {pre : List AObj} {v u : Value} {post : List (Option AObj)} {orc : Orc} {live : List Nat} {bl : List (Option AObj)} {ob : List (Bool × Bool)} (ho : ∀ p ∈ ob, p.1 = p.2) (hv : v = ZR (rho live far) 3 u ∧ ZA 3 u = true) (hbl : Zz (rho live far) bl post) (hev : outD live (ZiL P ext 4000 f A ⟨Zc8 0 pre, pre.length, [], orc, []⟩) = some (u, bl, ob)) (hle : post.length ≤ far)
  (hl : live.length = post.length) (hn : live.Nodup) (hk : ZaQ pre.length live = true) : LSpec P f A pre v post := by
 intro ι w args' hdm ha he
 unfold outD at hev
 split at hev
 · rename_i u' s h1
   obtain ⟨hnn, hev⟩ := Zm hev
   injection hev with hev; simp only [Prod.mk.injEq] at hev; obtain ⟨rfl, rfl, rfl⟩ := hev
   have hg := (ZmT (fu := 4000) F hfn hb).does A _ u' s h1 ho ι w args' ha (by show Emb P ι (Zc8 0 pre).get w; rw [Zdp]; exact he) ⟨Nat.le_of_ble_eq_true hnn, fun k k1 k2 => by
    cases hk2 : ι k with
    | none => rfl
    | some b => exact absurd (hdm k (by rw [hk2]; simp)) (by have h3 : pre.length ≤ k := k1; have h4 : k < s.n := k2; have h5 : s.n ≤ 1000000000 := Nat.le_of_ble_eq_true hnn; unfold ZE; omega)⟩
   rcases hg with ⟨_, hc⟩ | ⟨v0, w0, hr, _⟩
   · refine hc.mono ?_
     rintro e w' ⟨v', ι', rfl, g1, _, g3⟩
     exact Zk3 hle hdm ⟨hl, hn, hk, hv, Zde hbl⟩ (by have := g1; simp only [Zdp] at this; exact this) g3
   · rw [Zb9 hfn (F.go f fn hfn) hb] at hr; cases hr
 · cases hev
def RdG {X R : Type} (Q : X ⊕ R → Prop) (o : Option (X ⊕ R)) : Prop := ∀ o', o = some o' → Q o'
section
variable {X R : Type} {Q : X ⊕ R → Prop}
theorem Zeh : RdG Q none := fun _ h => by cases h
theorem ZgP {o : X ⊕ R} (h : Q o) : RdG Q (some o) := fun _ e => by cases e; exact h
theorem ZdA {c : Prop} [Decidable c] {B C : Option (X ⊕ R)} (h1 : c → RdG Q B) (h2 : ¬ c → RdG Q C) : RdG Q (if c then B else C) := by
 by_cases h : c
 · rw [if_pos h]; exact h1 h
 · rw [if_neg h]; exact h2 h
theorem Zln {Z : Type} {f : Option Z} {g : Z → Option (X ⊕ R)} (h : ∀ z, f = some z → RdG Q (g z)) : RdG Q (f.bind g) := by
 cases hf : f with
 | none => exact Zeh
 | some z => exact h z hf
end
noncomputable def ZcU : Nat × Code := match (Try.f42).body with
 | some (.seq _ (.block id (.loop cB))) => (id, cB)
 | _ => (0, .skip)
noncomputable def ZcV : Code × Code := match (Try.f12).body with
 | some (.seq _ (.seq _ (.seq _ (.seq (.seq _ (.block _ (.rangeFunc _ _ asg body))) _)))) => (asg, body)
 | _ => (.skip, .skip)
noncomputable def Zcl (a0 : Int) (L1 : List RG) (L2 : List RF) (W3 : Nat → List Int) : heap_Heap_ObjectsX → List (Option AObj)
 | .h1m0 v19 => (some (.cells (hpC a0 1 L1.length 2 L2.length 3 W3) 67) :: some (κv L1) :: some (.cells (Za RA L2) 41) :: hpO W3 [some (.cells [vp 0 0] 23), some (.cells [vn] 46), none])
 | .h1m1 v19 v21 => (some (.cells (hpC a0 1 L1.length 2 L2.length 3 W3) 67) :: some (κv L1) :: some (.cells (Za RA L2) 41) :: hpO W3 [some (.cells [vp 0 0] 23), some (.cells [vs 22 0 v21.length v21.length] 46), some (.cells (Za Z6 v21) 52)])
noncomputable def Zel (a0 : Int) (L1 : List RG) (L2 : List RF) (W3 : Nat → List Int) : heap_Heap_ObjectsR → List (Option AObj)
 | .r0 => (some (.cells (hpC a0 1 L1.length 2 L2.length 3 W3) 67) :: some (κv L1) :: some (.cells (Za RA L2) 41) :: hpO W3 [some (.cells [vp 0 0] 23), some (.cells [vn] 46), none])
 | .r1 v21 => (some (.cells (hpC a0 1 L1.length 2 L2.length 3 W3) 67) :: some (κv L1) :: some (.cells (Za RA L2) 41) :: hpO W3 [some (.cells [vp 0 0] 23), some (.cells [vs 22 0 v21.length v21.length] 46), some (.cells (Za Z6 v21) 52)])
noncomputable def Zbv : heap_Heap_ObjectsX → List (Nat × Value)
 | .h1m0 v19 => [(0, vp 0 0), (4, vi v19)]
 | .h1m1 v19 v21 => [(0, vp 0 0), (4, vi v19)]
noncomputable def Zbw : List (Nat × Value) := [(1, vp 20 0), (3, vp 21 0), (12, .func (.func 42) #[vp 0 0] #[])]
def Zgs (a0 : Int) (L1 : List RG) (L2 : List RF) (W3 : Nat → List Int) (x : heap_Heap_ObjectsX) (gv gvc : Nat → Value) (ps : Array Tmp) (asg body : Code) (id : Nat) (cB : Code) : heap_Heap_ObjectsX ⊕ heap_Heap_ObjectsR → Prop
 | .inl y => ∃ fu orc live tv bl ob, Zmi live ((Zbv y).map (·.1)) [1] (evI Try.prog Z7 (Try.f42).ntmps ⟨(Try.f12).ntmps, tmps (Try.f12).ntmps (fun t => ZO t Zbw) gvc, ps, asg, body⟩ fu cB (tmps (Try.f42).ntmps (fun t => ZO t (Zbv x)) gv) ⟨Zb3 0 (Zcl a0 L1 L2 W3 x), 23, [], orc, []⟩ [1] none) = some (.normal, tv, bl, ob) ∧ (∀ p ∈ ob, p.1 = p.2) ∧ live.length = 23 ∧ live.Nodup ∧ ZaQ 22 live = true ∧ ZbZ (rho live far) tv (Zbv y) ∧ Zz (rho live far) bl (Zcl a0 L1 L2 W3 y)
 | .inr r => ∃ fu orc live bl ob, Zmi live [] [1] (evI Try.prog Z7 (Try.f42).ntmps ⟨(Try.f12).ntmps, tmps (Try.f12).ntmps (fun t => ZO t Zbw) gvc, ps, asg, body⟩ fu cB (tmps (Try.f42).ntmps (fun t => ZO t (Zbv x)) gv) ⟨Zb3 0 (Zcl a0 L1 L2 W3 x), 23, [], orc, []⟩ [1] none) = some (.exit id, [], bl, ob) ∧ (∀ p ∈ ob, p.1 = p.2) ∧ live.length = 23 ∧ live.Nodup ∧ ZaQ 22 live = true ∧ Zz (rho live far) bl (Zel a0 L1 L2 W3 r)

theorem Zfm (a0 : Int) (L1 : List RG) (L2 : List RF) (W3 : Nat → List Int) (N : Nat) (v19 : Int) (gv gvc : Nat → Value) (ps : Array Tmp) (asg body : Code) (id : Nat) (cB : Code) (hps : ps = #[13]) (hcode : (id, cB) = ZcU) (hab : (asg, body) = ZcV) : RdG (Zgs a0 L1 L2 W3 (.h1m0 v19) gv gvc ps asg body id cB) (ZaT a0 L1 L2 W3 N v19) := by
 subst hps
 simp only [ZcU, ZcV, Prod.mk.injEq] at hcode hab
 obtain ⟨rfl, rfl⟩ := hcode
 obtain ⟨rfl, rfl⟩ := hab
 unfold ZaT
 refine ZdA (fun g0 => ?_) (fun _ => Zeh)
 refine ZdA (fun g1 => ?_) (fun _ => Zeh)
 refine ZdA (fun g2 => ?_) (fun g2 => ?_)
 ·
  have w3 := kLn RB L1 (((v19 - (1 : Int))).toNat) 0 5 <| kB ((v19 - (1 : Int))).toNat L1.length <| kI (v19 - (1 : Int)) (Int.ofNat ((v19 - (1 : Int))).toNat) <| kW (v19 - (1 : Int)) (v19 - (1 : Int)) <| hY g2 Zp
  refine ZdA (fun g3 => ?_) (fun g3 => ?_)
  ·
   exact ZgP (⟨4000, (Ze (oq [1, 3]) [(0, (v19 - (1 : Int))), (1, (v19 - (1 : Int)))] [(0, ((v19 - (1 : Int))).toNat), (1, ((v19 - (1 : Int))).toNat)] [(3, (RB.cel (L1.getD ((v19 - (1 : Int))).toNat RG.z))), (6, [.i (L1.getD ((v19 - (1 : Int))).toNat RG.z).a1])] []), (rg 0 22 [900000000]), [some (vp 0 0), some (vi (i64.wrap (v19 + (i64.wrap ((L1.getD ((v19 - (1 : Int))).toNat RG.z).a1 + (1 : Int))))))], _, _, by kernel_rfl, (kL RB L1 (((v19 - (1 : Int))).toNat) 1 1 <| kB ((v19 - (1 : Int))).toNat L1.length <| kI (v19 - (1 : Int)) (Int.ofNat ((v19 - (1 : Int))).toNat) <| kW (v19 - (1 : Int)) (v19 - (1 : Int)) <| hT g3 w3), rfl, by decide +kernel, by rfl, (tC (tC (tE))), (bS (hpC a0 1 L1.length 2 L2.length 3 W3) <| bR <| bR <| Zs <| bQ <| bS [vp 0 0] <| bS [vn] <| bN <| bE)⟩)
  ·
   refine Zln (fun z4 c4 => ?_)
   cases z4 with
   | r0 y4_0 y4_1 y4_2 =>
    refine ZdA (fun g5 => ?_) (fun _ => Zeh)
    refine ZdA (fun g6 => ?_) (fun _ => Zeh)
    refine Zln (fun z7 c7 => ?_)
    cases z7 with
    | r0 =>
     exact ZgP (⟨4000, (Ze (oq [1, 2]) [(0, (v19 - (1 : Int))), (2, (v19 - (1 : Int)))] [(0, ((v19 - (1 : Int))).toNat), (1, ((v19 - (1 : Int))).toNat)] [(3, (RB.cel (L1.getD ((v19 - (1 : Int))).toNat RG.z))), (13, [.i (L1.getD ((v19 - (1 : Int))).toNat RG.z).a1])] [(1, (ZeE c4 [] 24).t), (3, .sl (v19).toNat ((i64.wrap (v19 + (L1.getD ((v19 - (1 : Int))).toNat RG.z).a1))).toNat), (4, (Zb1 c7 [2] 25).t)]), (rg 0 22 [26]), [some (vp 0 0), some (vi (i64.wrap (v19 + (i64.wrap ((L1.getD ((v19 - (1 : Int))).toNat RG.z).a1 + (1 : Int))))))], _, _, by kernel_rfl, (kL RB L1 (((v19 - (1 : Int))).toNat) 1 1 <| kB ((v19 - (1 : Int))).toNat L1.length <| kI (v19 - (1 : Int)) (Int.ofNat ((v19 - (1 : Int))).toNat) <| kW (v19 - (1 : Int)) (v19 - (1 : Int)) <| kKb (A := #[Value.slice (some ⟨2, (0 + ((v19).toNat * 2)), none⟩) (((i64.wrap (v19 + (L1.getD ((v19 - (1 : Int))).toNat RG.z).a1))).toNat - (v19).toNat) (L2.length - (v19).toNat)]) (ZfP (Zf (Zo eqA rfl rfl) rfl)) (ZcK c7 [2] 25) <| kR (Za RA L2) <| kX (dP ((v19).toNat ≤ ((i64.wrap (v19 + (L1.getD ((v19 - (1 : Int))).toNat RG.z).a1))).toNat ∧ ((i64.wrap (v19 + (L1.getD ((v19 - (1 : Int))).toNat RG.z).a1))).toNat ≤ L2.length)) true (Za1 ⟨ltA, ltA⟩) <| kI (i64.wrap (v19 + (L1.getD ((v19 - (1 : Int))).toNat RG.z).a1)) (Int.ofNat ((i64.wrap (v19 + (L1.getD ((v19 - (1 : Int))).toNat RG.z).a1))).toNat) <| kI v19 (Int.ofNat (v19).toNat) <| kK (Zf5 c4 [] 24) <| hF g3 w3), rfl, by decide +kernel, by rfl, (tC (tC (tE))), (bS (hpC a0 1 L1.length 2 L2.length 3 W3) <| bR <| bR <| Zs <| bQ <| bS [vp 0 0] <| bU [vs 26 0 1 1] 0 (show (vs 22 0 1 1 : Value) = vs 22 0 ([(⟨y4_0, y4_1, (L1.getD ((v19 - (1 : Int))).toNat RG.z).a0, (L1.getD ((v19 - (1 : Int))).toNat RG.z).a1, (L1.getD ((v19 - (1 : Int))).toNat RG.z).a2, (L1.getD ((v19 - (1 : Int))).toNat RG.z).a3, (L1.getD ((v19 - (1 : Int))).toNat RG.z).a4, ((L2.drop (v19).toNat).take (((i64.wrap (v19 + (L1.getD ((v19 - (1 : Int))).toNat RG.z).a1))).toNat - (v19).toNat))⟩ : RH)] : List RH).length ([(⟨y4_0, y4_1, (L1.getD ((v19 - (1 : Int))).toNat RG.z).a0, (L1.getD ((v19 - (1 : Int))).toNat RG.z).a1, (L1.getD ((v19 - (1 : Int))).toNat RG.z).a2, (L1.getD ((v19 - (1 : Int))).toNat RG.z).a3, (L1.getD ((v19 - (1 : Int))).toNat RG.z).a4, ((L2.drop (v19).toNat).take (((i64.wrap (v19 + (L1.getD ((v19 - (1 : Int))).toNat RG.z).a1))).toNat - (v19).toNat))⟩ : RH)] : List RH).length from Zo rfl eqA eqA) <| bC (o := .cells [vi y4_0, vi y4_1, vi (L1.getD ((v19 - (1 : Int))).toNat RG.z).a0, vi (L1.getD ((v19 - (1 : Int))).toNat RG.z).a1, vi (L1.getD ((v19 - (1 : Int))).toNat RG.z).a2, vi (L1.getD ((v19 - (1 : Int))).toNat RG.z).a3, vi (L1.getD ((v19 - (1 : Int))).toNat RG.z).a4, ms RA ((L2.drop (v19).toNat).take (((i64.wrap (v19 + (L1.getD ((v19 - (1 : Int))).toNat RG.z).a1))).toNat - (v19).toNat))] 52) (ZeC (E := Z6) _ (L := ([(⟨y4_0, y4_1, (L1.getD ((v19 - (1 : Int))).toNat RG.z).a0, (L1.getD ((v19 - (1 : Int))).toNat RG.z).a1, (L1.getD ((v19 - (1 : Int))).toNat RG.z).a2, (L1.getD ((v19 - (1 : Int))).toNat RG.z).a3, (L1.getD ((v19 - (1 : Int))).toNat RG.z).a4, ((L2.drop (v19).toNat).take (((i64.wrap (v19 + (L1.getD ((v19 - (1 : Int))).toNat RG.z).a1))).toNat - (v19).toNat))⟩ : RH)] : List RH)) _ (show ([vi y4_0, vi y4_1, vi (L1.getD ((v19 - (1 : Int))).toNat RG.z).a0, vi (L1.getD ((v19 - (1 : Int))).toNat RG.z).a1, vi (L1.getD ((v19 - (1 : Int))).toNat RG.z).a2, vi (L1.getD ((v19 - (1 : Int))).toNat RG.z).a3, vi (L1.getD ((v19 - (1 : Int))).toNat RG.z).a4, ms RA ((L2.drop (v19).toNat).take (((i64.wrap (v19 + (L1.getD ((v19 - (1 : Int))).toNat RG.z).a1))).toNat - (v19).toNat))] : List Value) = Za Z6 ([(⟨y4_0, y4_1, (L1.getD ((v19 - (1 : Int))).toNat RG.z).a0, (L1.getD ((v19 - (1 : Int))).toNat RG.z).a1, (L1.getD ((v19 - (1 : Int))).toNat RG.z).a2, (L1.getD ((v19 - (1 : Int))).toNat RG.z).a3, (L1.getD ((v19 - (1 : Int))).toNat RG.z).a4, ((L2.drop (v19).toNat).take (((i64.wrap (v19 + (L1.getD ((v19 - (1 : Int))).toNat RG.z).a1))).toNat - (v19).toNat))⟩ : RH)] : List RH) from rfl)) <| bE)⟩)
 ·
  exact ZgP (⟨4000, (Ze (oq [0]) [] [] [] []), (rg 0 22 [900000000]), _, _, by kernel_rfl, (hN g2 Zp), rfl, by decide +kernel, by rfl, (bS (hpC a0 1 L1.length 2 L2.length 3 W3) <| bR <| bR <| Zs <| bQ <| bS [vp 0 0] <| bS [vn] <| bN <| bE)⟩)

theorem Zfn (a0 : Int) (L1 : List RG) (L2 : List RF) (W3 : Nat → List Int) (N : Nat) (v19 : Int) (v21 : List RH) (gv gvc : Nat → Value) (ps : Array Tmp) (asg body : Code) (id : Nat) (cB : Code) (hps : ps = #[13]) (hcode : (id, cB) = ZcU) (hab : (asg, body) = ZcV) : RdG (Zgs a0 L1 L2 W3 (.h1m1 v19 v21) gv gvc ps asg body id cB) (ZaU a0 L1 L2 W3 N v19 v21) := by
 subst hps
 simp only [ZcU, ZcV, Prod.mk.injEq] at hcode hab
 obtain ⟨rfl, rfl⟩ := hcode
 obtain ⟨rfl, rfl⟩ := hab
 unfold ZaU
 refine ZdA (fun g0 => ?_) (fun _ => Zeh)
 refine ZdA (fun g1 => ?_) (fun _ => Zeh)
 refine ZdA (fun g2 => ?_) (fun g2 => ?_)
 ·
  have w3 := kLn RB L1 (((v19 - (1 : Int))).toNat) 0 5 <| kB ((v19 - (1 : Int))).toNat L1.length <| kI (v19 - (1 : Int)) (Int.ofNat ((v19 - (1 : Int))).toNat) <| kW (v19 - (1 : Int)) (v19 - (1 : Int)) <| hY g2 Zp
  refine ZdA (fun g3 => ?_) (fun g3 => ?_)
  ·
   exact ZgP (⟨4000, (Ze (oq [1, 3]) [(0, (v19 - (1 : Int))), (1, (v19 - (1 : Int)))] [(0, ((v19 - (1 : Int))).toNat), (1, ((v19 - (1 : Int))).toNat)] [(3, (RB.cel (L1.getD ((v19 - (1 : Int))).toNat RG.z))), (6, [.i (L1.getD ((v19 - (1 : Int))).toNat RG.z).a1])] []), (rg 0 23 []), [some (vp 0 0), some (vi (i64.wrap (v19 + (i64.wrap ((L1.getD ((v19 - (1 : Int))).toNat RG.z).a1 + (1 : Int))))))], _, _, by kernel_rfl, (kL RB L1 (((v19 - (1 : Int))).toNat) 1 1 <| kB ((v19 - (1 : Int))).toNat L1.length <| kI (v19 - (1 : Int)) (Int.ofNat ((v19 - (1 : Int))).toNat) <| kW (v19 - (1 : Int)) (v19 - (1 : Int)) <| hT g3 w3), rfl, by decide +kernel, by rfl, (tC (tC (tE))), (bS (hpC a0 1 L1.length 2 L2.length 3 W3) <| bR <| bR <| Zs <| bQ <| bS [vp 0 0] <| bS [vs 22 0 v21.length v21.length] <| bR <| bE)⟩)
  ·
   refine Zln (fun z4 c4 => ?_)
   cases z4 with
   | r0 y4_0 y4_1 y4_2 =>
    refine ZdA (fun g5 => ?_) (fun _ => Zeh)
    refine ZdA (fun g6 => ?_) (fun _ => Zeh)
    refine Zln (fun z7 c7 => ?_)
    cases z7 with
    | r0 =>
     refine ZdA (fun g8 => ?_) (fun _ => Zeh)
     exact ZgP (⟨4000, (Ze (oq [1, 2]) [(0, (v19 - (1 : Int))), (2, (v19 - (1 : Int)))] [(0, ((v19 - (1 : Int))).toNat), (1, ((v19 - (1 : Int))).toNat)] [(3, (RB.cel (L1.getD ((v19 - (1 : Int))).toNat RG.z))), (13, [.i (L1.getD ((v19 - (1 : Int))).toNat RG.z).a1])] [(1, (ZeE c4 [] 24).t), (3, .sl (v19).toNat ((i64.wrap (v19 + (L1.getD ((v19 - (1 : Int))).toNat RG.z).a1))).toNat), (4, (Zb1 c7 [2] 25).t), (5, .ap 1 [vi y4_0, vi y4_1, vi (L1.getD ((v19 - (1 : Int))).toNat RG.z).a0, vi (L1.getD ((v19 - (1 : Int))).toNat RG.z).a1, vi (L1.getD ((v19 - (1 : Int))).toNat RG.z).a2, vi (L1.getD ((v19 - (1 : Int))).toNat RG.z).a3, vi (L1.getD ((v19 - (1 : Int))).toNat RG.z).a4, ms RA ((L2.drop (v19).toNat).take (((i64.wrap (v19 + (L1.getD ((v19 - (1 : Int))).toNat RG.z).a1))).toNat - (v19).toNat))] (Za Z6 (v21 ++ ([(⟨y4_0, y4_1, (L1.getD ((v19 - (1 : Int))).toNat RG.z).a0, (L1.getD ((v19 - (1 : Int))).toNat RG.z).a1, (L1.getD ((v19 - (1 : Int))).toNat RG.z).a2, (L1.getD ((v19 - (1 : Int))).toNat RG.z).a3, (L1.getD ((v19 - (1 : Int))).toNat RG.z).a4, ((L2.drop (v19).toNat).take (((i64.wrap (v19 + (L1.getD ((v19 - (1 : Int))).toNat RG.z).a1))).toNat - (v19).toNat))⟩ : RH)] : List RH))))]), (rg 0 22 [26]), [some (vp 0 0), some (vi (i64.wrap (v19 + (i64.wrap ((L1.getD ((v19 - (1 : Int))).toNat RG.z).a1 + (1 : Int))))))], _, _, by kernel_rfl, (kL RB L1 (((v19 - (1 : Int))).toNat) 1 1 <| kB ((v19 - (1 : Int))).toNat L1.length <| kI (v19 - (1 : Int)) (Int.ofNat ((v19 - (1 : Int))).toNat) <| kW (v19 - (1 : Int)) (v19 - (1 : Int)) <| kA Z6 v21 (⟨y4_0, y4_1, (L1.getD ((v19 - (1 : Int))).toNat RG.z).a0, (L1.getD ((v19 - (1 : Int))).toNat RG.z).a1, (L1.getD ((v19 - (1 : Int))).toNat RG.z).a2, (L1.getD ((v19 - (1 : Int))).toNat RG.z).a3, (L1.getD ((v19 - (1 : Int))).toNat RG.z).a4, ((L2.drop (v19).toNat).take (((i64.wrap (v19 + (L1.getD ((v19 - (1 : Int))).toNat RG.z).a1))).toNat - (v19).toNat))⟩ : RH) <| kKb (A := #[Value.slice (some ⟨2, (0 + ((v19).toNat * 2)), none⟩) (((i64.wrap (v19 + (L1.getD ((v19 - (1 : Int))).toNat RG.z).a1))).toNat - (v19).toNat) (L2.length - (v19).toNat)]) (ZfP (Zf (Zo eqA rfl rfl) rfl)) (ZcK c7 [2] 25) <| kR (Za RA L2) <| kX (dP ((v19).toNat ≤ ((i64.wrap (v19 + (L1.getD ((v19 - (1 : Int))).toNat RG.z).a1))).toNat ∧ ((i64.wrap (v19 + (L1.getD ((v19 - (1 : Int))).toNat RG.z).a1))).toNat ≤ L2.length)) true (Za1 ⟨ltA, ltA⟩) <| kI (i64.wrap (v19 + (L1.getD ((v19 - (1 : Int))).toNat RG.z).a1)) (Int.ofNat ((i64.wrap (v19 + (L1.getD ((v19 - (1 : Int))).toNat RG.z).a1))).toNat) <| kI v19 (Int.ofNat (v19).toNat) <| kK (Zf5 c4 [] 24) <| hF g3 w3), rfl, by decide +kernel, by rfl, (tC (tC (tE))), (bS (hpC a0 1 L1.length 2 L2.length 3 W3) <| bR <| bR <| Zs <| bQ <| bS [vp 0 0] <| bU [vs 26 0 (v21.length + 1) (v21.length + 1)] 0 (show (vs 22 0 (v21.length + 1) (v21.length + 1) : Value) = vs 22 0 (v21 ++ ([(⟨y4_0, y4_1, (L1.getD ((v19 - (1 : Int))).toNat RG.z).a0, (L1.getD ((v19 - (1 : Int))).toNat RG.z).a1, (L1.getD ((v19 - (1 : Int))).toNat RG.z).a2, (L1.getD ((v19 - (1 : Int))).toNat RG.z).a3, (L1.getD ((v19 - (1 : Int))).toNat RG.z).a4, ((L2.drop (v19).toNat).take (((i64.wrap (v19 + (L1.getD ((v19 - (1 : Int))).toNat RG.z).a1))).toNat - (v19).toNat))⟩ : RH)] : List RH)).length (v21 ++ ([(⟨y4_0, y4_1, (L1.getD ((v19 - (1 : Int))).toNat RG.z).a0, (L1.getD ((v19 - (1 : Int))).toNat RG.z).a1, (L1.getD ((v19 - (1 : Int))).toNat RG.z).a2, (L1.getD ((v19 - (1 : Int))).toNat RG.z).a3, (L1.getD ((v19 - (1 : Int))).toNat RG.z).a4, ((L2.drop (v19).toNat).take (((i64.wrap (v19 + (L1.getD ((v19 - (1 : Int))).toNat RG.z).a1))).toNat - (v19).toNat))⟩ : RH)] : List RH)).length from Zo rfl eqA eqA) <| bR <| bE)⟩)
 ·
  exact ZgP (⟨4000, (Ze (oq [0]) [] [] [] []), (rg 0 23 []), _, _, by kernel_rfl, (hN g2 Zp), rfl, by decide +kernel, by rfl, (bS (hpC a0 1 L1.length 2 L2.length 3 W3) <| bR <| bR <| Zs <| bQ <| bS [vp 0 0] <| bS [vs 22 0 v21.length v21.length] <| bR <| bE)⟩)

theorem Ziw (a0 : Int) (L1 : List RG) (L2 : List RF) (W3 : Nat → List Int) (N : Nat) (g0 : (0 : Int) < a0) (h : ZaL (Zax a0 L1 L2 W3 N) N (.h1m0 (1 : Int)) = some (.r0)) : LSpec Try.prog 12 #[vp 0 0] (κe a0 L1 L2 W3) (Zek a0 L1 L2 W3 (.r0)) (ZdW a0 L1 L2 W3 (.r0)) := by
 refine Znb (cs := [_, _, _]) Zr Try.func12 rfl (by kernel_rfl) (ZH _ rfl)
  Zbw (some (.cells (hpC a0 1 L1.length 2 L2.length 3 W3) 67) :: some (κv L1) :: some (.cells (Za RA L2) 41) :: hpO W3 [some (.cells [vp 0 0] 23), some (.cells [vn] 46)]) (fu1 := 4000) (orc1 := (Ze (oq [3]) [] [] [] [])) (live1 := rg 0 22 []) (tv1 := [some (vp 20 0), some (vp 21 0), some (.func (.func 42) #[vp 0 0] #[])])
  (by kernel_rfl) (kY (a0 > (0 : Int)) Zp) rfl (by decide +kernel) (by rfl) (tC (tC (tC (tE)))) (bS (hpC a0 1 L1.length 2 L2.length 3 W3) <| bR <| bR <| Zs <| bQ <| bS [vp 0 0] <| bS [vn] <| bE)
  (ZH _ rfl) (show 20 ≤ 22 from by decide) (fun x hx => ZB (p := fun x : Nat × Value => Zdh 22 3 x.2) (l := Zbw) (by kernel_rfl) x hx) (by repeat' (first | exact trivial | apply And.intro | exact Zae _ _ _ | rfl))
  (gf := 42) (av := #[vp 0 0]) (bv := #[]) (fun gv => by kernel_rfl) rfl Try.func42 rfl (by kernel_rfl) rfl
  (Zax a0 L1 L2 W3 N) Zbv (Zcl a0 L1 L2 W3) (m := 23) (fun x => by cases x <;> rfl) (ZH _ rfl) [1] (Zel a0 L1 L2 W3 (.r0)) (ZH _ rfl) (.r0) _ N h
  (fun gv => ⟨4000, Ze [] [] [] [] [], rg 0 22 [900000000], [some (vp 0 0), some (vi (1 : Int))], _, _, by kernel_rfl, Zp, rfl, by decide +kernel, by rfl, (tC (tC (tE))), (bS (hpC a0 1 L1.length 2 L2.length 3 W3) <| bR <| bR <| Zs <| bQ <| bS [vp 0 0] <| bS [vn] <| bN <| bE)⟩)
  (fun x o hs gv gvc => by
   cases x with
   | h1m0 v19 =>
    have hq := Zfm a0 L1 L2 W3 N v19 gv gvc _ _ _ _ _ rfl rfl rfl o hs
    cases o with
    | inl y => exact hq
    | inr r' => intro e; subst e; exact hq
   | h1m1 v19 v21 =>
    have hq := Zfn a0 L1 L2 W3 N v19 v21 gv gvc _ _ _ _ _ rfl rfl rfl o hs
    cases o with
    | inl y => exact hq
    | inr r' => intro e; subst e; exact hq) ?_
 intro gv
 exact ⟨4000, Ze [] [] [] [] [], rg 0 20 [], vn, _, _, by kernel_rfl, Zp, rfl, by decide +kernel, by rfl, ⟨by rfl, by rfl⟩, (bS (hpC a0 1 L1.length 2 L2.length 3 W3) <| bR <| bR <| Zs <| bQ <| bE)⟩

theorem Zix (a0 : Int) (L1 : List RG) (L2 : List RF) (W3 : Nat → List Int) (N : Nat) (w19 : List RH) (g0 : (0 : Int) < a0) (h : ZaL (Zax a0 L1 L2 W3 N) N (.h1m0 (1 : Int)) = some (.r1 w19)) : LSpec Try.prog 12 #[vp 0 0] (κe a0 L1 L2 W3) (Zek a0 L1 L2 W3 (.r1 w19)) (ZdW a0 L1 L2 W3 (.r1 w19)) := by
 refine Znb (cs := [_, _, _]) Zr Try.func12 rfl (by kernel_rfl) (ZH _ rfl)
  Zbw (some (.cells (hpC a0 1 L1.length 2 L2.length 3 W3) 67) :: some (κv L1) :: some (.cells (Za RA L2) 41) :: hpO W3 [some (.cells [vp 0 0] 23), some (.cells [vn] 46)]) (fu1 := 4000) (orc1 := (Ze (oq [3]) [] [] [] [])) (live1 := rg 0 22 []) (tv1 := [some (vp 20 0), some (vp 21 0), some (.func (.func 42) #[vp 0 0] #[])])
  (by kernel_rfl) (kY (a0 > (0 : Int)) Zp) rfl (by decide +kernel) (by rfl) (tC (tC (tC (tE)))) (bS (hpC a0 1 L1.length 2 L2.length 3 W3) <| bR <| bR <| Zs <| bQ <| bS [vp 0 0] <| bS [vn] <| bE)
  (ZH _ rfl) (show 20 ≤ 22 from by decide) (fun x hx => ZB (p := fun x : Nat × Value => Zdh 22 3 x.2) (l := Zbw) (by kernel_rfl) x hx) (by repeat' (first | exact trivial | apply And.intro | exact Zae _ _ _ | rfl))
  (gf := 42) (av := #[vp 0 0]) (bv := #[]) (fun gv => by kernel_rfl) rfl Try.func42 rfl (by kernel_rfl) rfl
  (Zax a0 L1 L2 W3 N) Zbv (Zcl a0 L1 L2 W3) (m := 23) (fun x => by cases x <;> rfl) (ZH _ rfl) [1] (Zel a0 L1 L2 W3 (.r1 w19)) (ZH _ rfl) (.r1 w19) _ N h
  (fun gv => ⟨4000, Ze [] [] [] [] [], rg 0 22 [900000000], [some (vp 0 0), some (vi (1 : Int))], _, _, by kernel_rfl, Zp, rfl, by decide +kernel, by rfl, (tC (tC (tE))), (bS (hpC a0 1 L1.length 2 L2.length 3 W3) <| bR <| bR <| Zs <| bQ <| bS [vp 0 0] <| bS [vn] <| bN <| bE)⟩)
  (fun x o hs gv gvc => by
   cases x with
   | h1m0 v19 =>
    have hq := Zfm a0 L1 L2 W3 N v19 gv gvc _ _ _ _ _ rfl rfl rfl o hs
    cases o with
    | inl y => exact hq
    | inr r' => intro e; subst e; exact hq
   | h1m1 v19 v21 =>
    have hq := Zfn a0 L1 L2 W3 N v19 v21 gv gvc _ _ _ _ _ rfl rfl rfl o hs
    cases o with
    | inl y => exact hq
    | inr r' => intro e; subst e; exact hq) ?_
 intro gv
 exact ⟨4000, Ze [] [] [] [] [], rg 0 20 [22], vs 22 0 w19.length w19.length, _, _, by kernel_rfl, Zp, rfl, by decide +kernel, by rfl, ⟨by rfl, by rfl⟩, (bS (hpC a0 1 L1.length 2 L2.length 3 W3) <| bR <| bR <| Zs <| bQ <| bR <| bE)⟩

theorem ZhE (a0 : Int) (L1 : List RG) (L2 : List RF) (W3 : Nat → List Int) (N : Nat) (r : heap_Heap_ObjectsR) (h : Zay a0 L1 L2 W3 N = some r) : LSpec Try.prog 12 #[vp 0 0] (κe a0 L1 L2 W3) (Zek a0 L1 L2 W3 r) (ZdW a0 L1 L2 W3 r) := by
 unfold Zay Zej at h
 by_cases g0 : (0 : Int) < a0
 · rw [if_pos g0] at h
   have h : ZaL (Zax a0 L1 L2 W3 N) N (.h1m0 (1 : Int)) = some r := h
   cases r with
   | r0 => exact Ziw a0 L1 L2 W3 N g0 h
   | r1 w19 => exact Zix a0 L1 L2 W3 N w19 g0 h
 · rw [if_neg g0] at h
   obtain rfl : heap_Heap_ObjectsR.r0 = r := Option.some.inj h
   exact ZqW Zr Try.func12 rfl (orc := (Ze (oq [2]) [] [] [] [])) (live := (rg 0 20 [])) (u := (vn)) (kN (a0 > (0 : Int)) Zp) ⟨by rfl, by rfl⟩ (bS (hpC a0 1 L1.length 2 L2.length 3 W3) <| bR <| bR <| Zs <| bQ <| bE) (by kernel_rfl) (ZH _ rfl) rfl (by decide +kernel) (by rfl)

theorem ZeQ (a0 : Int) (L1 : List RG) (L2 : List RF) (W3 : Nat → List Int) (N : Nat) (r : heap_Heap_ObjectsR) (h : Zay a0 L1 L2 W3 N = some r) : LSpec Try.prog 12 #[vp 0 0] (κe a0 L1 L2 W3) (Zla a0 L1 L2 W3 r) (ZjZ a0 L1 L2 W3 r) := by
 have h0 := ZhE a0 L1 L2 W3 N r h
 cases r with
 | r0 => exact (LSpec.nlv (v2 := ms Z6 ([] : List RH)) h0 rfl rfl)
 | r1 w19 => exact (LSpec.frzv (E := Z6) (L := w19) (post := (κn a0 L1 L2 W3)) (v2 := ms Z6 w19) h0 (show 20 ≤ 20 from by decide) (show 20 < 1000000000 from by decide) ⟨rfl, ⟨(Zae _ _ _), ⟨(Zae _ _ _), ⟨(Zae _ _ _), ⟨(Zae _ _ _), ⟨(Zae _ _ _), ⟨(Zae _ _ _), ⟨(Zae _ _ _), ⟨(Zae _ _ _), ⟨(Zae _ _ _), ⟨(Zae _ _ _), ⟨(Zae _ _ _), ⟨(Zae _ _ _), ⟨(Zae _ _ _), ⟨(Zae _ _ _), ⟨(Zae _ _ _), ⟨(Zae _ _ _), ⟨(Zae _ _ _), ⟨(Zae _ _ _), ⟨(Zae _ _ _), trivial⟩⟩⟩⟩⟩⟩⟩⟩⟩⟩⟩⟩⟩⟩⟩⟩⟩⟩⟩⟩ rfl rfl rfl)

noncomputable def ZfG {a0 : Int} {L1 : List RG} {L2 : List RF} {W3 : Nat → List Int} {N : Nat} (h : Zay a0 L1 L2 W3 N = some (.r0)) (ks : List Nat) (n : Nat) : ToldS := ⟨#[vp (nth ks 0) 0], (κp ks a0 L1 L2 W3), ms Z6 ([] : List RH), [], 0⟩

theorem Zka {a0 : Int} {L1 : List RG} {L2 : List RF} {W3 : Nat → List Int} {N : Nat} (h : Zay a0 L1 L2 W3 N = some (.r0)) (ks : List Nat) (n : Nat) (hk : ks.length = 20 := by rfl) (hnd : ks.Nodup := by decide +kernel) (hlt : ∀ k ∈ ks, k < n := by decide +kernel) : (ZfG (N := N)  h ks n).P Try.prog 12 n :=
 match ks, hk, hnd, hlt with
 | [k0, k1, k2, k3, k4, k5, k6, k7, k8, k9, k10, k11, k12, k13, k14, k15, k16, k17, k18, k19], _, hnd, hlt => Zad (show LSpec Try.prog 12 #[vp 0 0] (κe a0 L1 L2 W3) (ms Z6 ([] : List RH)) (κn a0 L1 L2 W3) from ZeQ a0 L1 L2 W3 N _ h) _ n [] hnd hlt

noncomputable def ZfH {a0 : Int} {L1 : List RG} {L2 : List RF} {W3 : Nat → List Int} {w19 : List RH} {N : Nat} (h : Zay a0 L1 L2 W3 N = some (.r1 w19)) (ks : List Nat) (n : Nat) : ToldS := ⟨#[vp (nth ks 0) 0], (κp ks a0 L1 L2 W3), ms Z6 w19, [], 0⟩

theorem Zkb {a0 : Int} {L1 : List RG} {L2 : List RF} {W3 : Nat → List Int} {w19 : List RH} {N : Nat} (h : Zay a0 L1 L2 W3 N = some (.r1 w19)) (ks : List Nat) (n : Nat) (hk : ks.length = 20 := by rfl) (hnd : ks.Nodup := by decide +kernel) (hlt : ∀ k ∈ ks, k < n := by decide +kernel) : (ZfH (N := N)  h ks n).P Try.prog 12 n :=
 match ks, hk, hnd, hlt with
 | [k0, k1, k2, k3, k4, k5, k6, k7, k8, k9, k10, k11, k12, k13, k14, k15, k16, k17, k18, k19], _, hnd, hlt => Zad (show LSpec Try.prog 12 #[vp 0 0] (κe a0 L1 L2 W3) (ms Z6 w19) (κn a0 L1 L2 W3) from ZeQ a0 L1 L2 W3 N _ h) _ n [] hnd hlt

set_option linter.unusedVariables false
set_option maxRecDepth 100000
set_option maxHeartbeats 4000000
noncomputable def ZgD (a0 : Int) (L1 : List RJ) : Zj → Value
 | .r0 w0 => Value.bool w0
noncomputable def Zgt (a0 : Int) (L1 : List RJ) : Zj → List (Option AObj)
 | .r0 w0 => []

def Zlb : Zn → Nat
 | .h1m0 v2 v4 v5 v6 v8 v9 v10 => 1
 | .h2m0 v2 v3 v4 v6 v7 v8 v10 v11 v12 => 2
 | .h3m0 v2 v3 v4 v5 v7 v8 v9 v11 v12 v13 => 3
noncomputable def Zl9 (a0 : Int) (L1 : List RJ) : Zn → List (Nat × Value)
 | .h1m0 v2 v4 v5 v6 v8 v9 v10 => [(1, ms RE L1), (5, vi (i64.wrap ((17 : Int) + a0))), (10, vp 0 0), (11, vi (v2 : Int))]
 | .h2m0 v2 v3 v4 v6 v7 v8 v10 v11 v12 => [(1, ms RE L1), (5, vi (i64.wrap ((17 : Int) + a0))), (10, vp 0 0), (11, vi (v2 : Int)), (13, ms Z6 v3), (14, vi (v4 : Int))]
 | .h3m0 v2 v3 v4 v5 v7 v8 v9 v11 v12 v13 => [(1, ms RE L1), (5, vi (i64.wrap ((17 : Int) + a0))), (10, vp 0 0), (11, vi (v2 : Int)), (13, ms Z6 v3), (14, vi (v4 : Int)), (15, vi (v5 : Int))]
noncomputable def ZlA (a0 : Int) (L1 : List RJ) : Zn → List (Option AObj)
 | .h1m0 v2 v4 v5 v6 v8 v9 v10 => (some (.cells [vp 1 0, vi (i64.wrap ((17 : Int) + a0)), ms RD v4, ms eI v5, vs 2 0 v6.length v6.length] 37) :: some (.cells (hpC (i64.wrap ((17 : Int) + a0)) 3 v8.length 4 v9.length 5 v10) 67) :: some (.cells (Za RA v6) 41 true) :: some (.cells (Za RB v8) 50) :: some (.cells (Za RA v9) 41) :: hpO v10 [])
 | .h2m0 v2 v3 v4 v6 v7 v8 v10 v11 v12 => (some (.cells [vp 1 0, vi (i64.wrap ((17 : Int) + a0)), ms RD v6, ms eI v7, vs 2 0 v8.length v8.length] 37) :: some (.cells (hpC (i64.wrap ((17 : Int) + a0)) 3 v10.length 4 v11.length 5 v12) 67) :: some (.cells (Za RA v8) 41 true) :: some (.cells (Za RB v10) 50) :: some (.cells (Za RA v11) 41) :: hpO v12 [])
 | .h3m0 v2 v3 v4 v5 v7 v8 v9 v11 v12 v13 => (some (.cells [vp 1 0, vi (i64.wrap ((17 : Int) + a0)), ms RD v7, ms eI v8, vs 2 0 v9.length v9.length] 37) :: some (.cells (hpC (i64.wrap ((17 : Int) + a0)) 3 v11.length 4 v12.length 5 v13) 67) :: some (.cells (Za RA v9) 41 true) :: some (.cells (Za RB v11) 50) :: some (.cells (Za RA v12) 41) :: hpO v13 [])

noncomputable def Zy : Nat → Code × List ZaO
 | 1 => Zc4 [1, 1, 1, 1, 1, 1, 0, 1, 3] (Zep Try.f4) []
 | 2 => Zc4 [1, 1, 1, 1, 1, 1, 0, 1, 3, 7, 1, 0, 3, 1, 1, 1, 1, 1, 3] (Zep Try.f4) []
 | 3 => Zc4 [1, 1, 1, 1, 1, 1, 0, 1, 3, 7, 1, 0, 3, 1, 1, 1, 1, 1, 3, 8, 1, 0, 3, 1, 1, 3] (Zep Try.f4) []
 | _ => (.skip, [])
def Zgu : Nat → Bool
 | 1 => true
 | 2 => true
 | 3 => true
 | _ => true
noncomputable def ZX (i : Nat) : List ZaO := match Zgu i with | true => .rnd i :: (Zy i).2 | false => (Zy i).2

noncomputable def Z9 (a0 : Int) (L1 : List RJ) (N : Nat) : Mach := ⟨Try.f4, [], Zn, Zj, Z8 a0 L1 N, Zlb, Zy, Zgu, Zl9 a0 L1, ZlA a0 L1, ZgD a0 L1, Zgt a0 L1⟩

noncomputable abbrev κy (a0 : Int) := (vi (i64.wrap ((17 : Int) + a0)))
theorem Ziy (a0 : Int) (L1 : List RJ) (v2 : Nat) (v4 : List RI) (v5 : List Int) (v6 : List RF) (v8 : List RG) (v9 : List RF) (v10 : Nat → List Int) (N : Nat) : (Z9 a0 L1 N).Ok Try.prog Z7 (.h1m0 v2 v4 v5 v6 v8 v9 v10 : Zn) (Z8 a0 L1 N (.h1m0 v2 v4 v5 v6 v8 v9 v10 : Zn)) := by
 show (Z9 a0 L1 N).Ok Try.prog Z7 (.h1m0 v2 v4 v5 v6 v8 v9 v10 : Zn) (ZaF a0 L1 N v2 v4 v5 v6 v8 v9 v10)
 unfold ZaF
 refine Mach.ok_ite (fun g0 => ?_) (fun g0 => ?_)
 ·
  refine Mach.ok_ite (fun g1 => ?_) (fun g1 => ?_)
  ·
   refine Mach.ok_bind (fun z2 c2 => ?_)
   cases z2 with
   | r0 y2_0 =>
    have w3 := kG RE L1 (0 + (v2 * 10)) v2 0 10 10 <| kB v2 L1.length <| kI (v2 : Int) (Int.ofNat v2) <| kK (ZdS c2 (1 :: (rg 3 19 [])) 22) <| hY g1 <| hY g0 Zp
    refine Mach.ok_bind (fun z3 c3 => ?_)
    cases z3 with
    | r0 y3_0 y3_1 y3_2 y3_3 y3_4 y3_5 y3_6 =>
     have w4 := kK (Zl8 c3 (rg 0 22 []) 22) w3
     refine Mach.ok_bind (fun z4 c4 => ?_)
     cases z4 with
     | r0 y4_0 =>
      have w5 := kK (ZdS c4 (22 :: (rg 24 19 [])) 43) w4
      refine Mach.ok_ite (fun g5 => ?_) (fun g5 => ?_)
      ·
       exact Mach.okF (Ze (oq [1, 3, 5]) [] [(0, v2)] [(1, (RE.cel (L1.getD v2 RJ.z)))] [(0, (Zac c2 (1 :: (rg 3 19 [])) 22).t), (1, (Zc6 c3 (rg 0 22 []) 22).t), (2, (Zac c4 (22 :: (rg 24 19 [])) 43).t)]) [] (vf) (hY g5 w5) bE
      ·
       refine Mach.ok_bind (fun z6 c6 => ?_)
       cases z6 with
       | r0 y6_0 =>
        have w7 := kK (ZdS c6 (22 :: (rg 24 19 [])) 43) <| hN g5 w5
        refine Mach.ok_ite (fun g7 => ?_) (fun g7 => ?_)
        ·
         exact Mach.okF (Ze (oq [1, 3, 4, 7]) [] [(0, v2)] [(1, (RE.cel (L1.getD v2 RJ.z)))] [(0, (Zac c2 (1 :: (rg 3 19 [])) 22).t), (1, (Zc6 c3 (rg 0 22 []) 22).t), (2, (Zac c4 (22 :: (rg 24 19 [])) 43).t), (3, (Zac c6 (22 :: (rg 24 19 [])) 43).t)]) [] (vf) (kY (y6_0 > (i64.wrap ((17 : Int) + a0))) w7) bE
        ·
         refine Mach.ok_bind (fun z8 c8 => ?_)
         cases z8 with
         | r0 =>
          exact Mach.ok_head (bK := Zy 2) (M := Z9 a0 L1 N) (cd := 1000000) (cm := 0) (y := (.h2m0 (v2) (([] : List RH)) (0) (y3_1) (y3_2) (y3_3) (y3_4) (y3_5) (y3_6) : Zn)) (fu := 4000) (orc := (Ze (oq [1, 3, 4, 6]) [] [(0, v2)] [(1, (RE.cel (L1.getD v2 RJ.z)))] [(0, (Zac c2 (1 :: (rg 3 19 [])) 22).t), (1, (Zc6 c3 (rg 0 22 []) 22).t), (2, (Zac c4 (22 :: (rg 24 19 [])) 43).t), (3, (Zac c6 (22 :: (rg 24 19 [])) 43).t), (4, (ZfG c8 (22 :: (rg 24 19 [])) 43).t)])) (live := (0 :: (rg 22 21 []))) (tv := fun _ => [some (ms RE L1), some (κy a0), some (vp 0 0), some (vi (v2 : Int)), some (ms Z6 ([] : List RH)), some (vq)]) (bl := (some (.cells [vp 22 0, vi (i64.wrap ((17 : Int) + a0)), ms RD y3_1, ms eI y3_2, vs 23 0 y3_3.length y3_3.length] 37) :: some (.cells (hpC (i64.wrap ((17 : Int) + a0)) 24 y3_4.length 25 y3_5.length 26 y3_6) 67) :: some (.cells (Za RA y3_3) 41 true) :: some (.cells (Za RB y3_4) 50) :: some (.cells (Za RA y3_5) 41) :: hpO y3_6 [])) rfl rfl (show ∀ j ∈ ZC (Zy 2).2, j ∈ ZC (ZX 1) from by decide +kernel) (fun gv => by kernel_rfl) (kK (Zka c8 (22 :: (rg 24 19 [])) 43) <| kN (y6_0 > (i64.wrap ((17 : Int) + a0))) w7) rfl (by decide +kernel) (by rfl) (fun _ => ⟨rr, ⟨rr, ⟨rr, ⟨rr, ⟨rr, ⟨⟨Eq.trans (show κG = vq from (congrArg (Value.int .i64) (by first | rfl | omega))) (by rfl), by rfl⟩, trivial⟩⟩⟩⟩⟩⟩) ⟨sm, ⟨sm, ⟨(Z4 (E := RA) (α := RF) _ y3_3 _), ⟨(Zal (E := RB) (α := RG) _ y3_4 _), ⟨(Zal (E := RA) (α := RF) _ y3_5 _), (hpS trivial)⟩⟩⟩⟩⟩
         | r1 y8_0 =>
          exact Mach.ok_head (bK := Zy 2) (M := Z9 a0 L1 N) (cd := 1000000) (cm := 0) (y := (.h2m0 (v2) (y8_0) (0) (y3_1) (y3_2) (y3_3) (y3_4) (y3_5) (y3_6) : Zn)) (fu := 4000) (orc := (Ze (oq [1, 3, 4, 6]) [] [(0, v2)] [(1, (RE.cel (L1.getD v2 RJ.z)))] [(0, (Zac c2 (1 :: (rg 3 19 [])) 22).t), (1, (Zc6 c3 (rg 0 22 []) 22).t), (2, (Zac c4 (22 :: (rg 24 19 [])) 43).t), (3, (Zac c6 (22 :: (rg 24 19 [])) 43).t), (4, (ZfH c8 (22 :: (rg 24 19 [])) 43).t)])) (live := (0 :: (rg 22 21 []))) (tv := fun _ => [some (ms RE L1), some (κy a0), some (vp 0 0), some (vi (v2 : Int)), some (ms Z6 y8_0), some (vq)]) (bl := (some (.cells [vp 22 0, vi (i64.wrap ((17 : Int) + a0)), ms RD y3_1, ms eI y3_2, vs 23 0 y3_3.length y3_3.length] 37) :: some (.cells (hpC (i64.wrap ((17 : Int) + a0)) 24 y3_4.length 25 y3_5.length 26 y3_6) 67) :: some (.cells (Za RA y3_3) 41 true) :: some (.cells (Za RB y3_4) 50) :: some (.cells (Za RA y3_5) 41) :: hpO y3_6 [])) rfl rfl (show ∀ j ∈ ZC (Zy 2).2, j ∈ ZC (ZX 1) from by decide +kernel) (fun gv => by kernel_rfl) (kK (Zkb c8 (22 :: (rg 24 19 [])) 43) <| kN (y6_0 > (i64.wrap ((17 : Int) + a0))) w7) rfl (by decide +kernel) (by rfl) (fun _ => ⟨rr, ⟨rr, ⟨rr, ⟨rr, ⟨rr, ⟨⟨Eq.trans (show κG = vq from (congrArg (Value.int .i64) (by first | rfl | omega))) (by rfl), by rfl⟩, trivial⟩⟩⟩⟩⟩⟩) ⟨sm, ⟨sm, ⟨(Z4 (E := RA) (α := RF) _ y3_3 _), ⟨(Zal (E := RB) (α := RG) _ y3_4 _), ⟨(Zal (E := RA) (α := RF) _ y3_5 _), (hpS trivial)⟩⟩⟩⟩⟩
  ·
   exact Mach.okF (Ze (oq [1, 2]) [] [] [] []) [] (vT) (hN g1 <| hY g0 Zp) bE
 ·
  exact Mach.okF (Ze (oq [0]) [] [] [] []) [] (vT) (hN g0 Zp) bE

noncomputable abbrev κm (L1 : List RJ) (a0 : Int) (v2 : Nat) (v3 : List RH) (v4 : Nat) := [some (ms RE L1), some (κy a0), some (vp 0 0), some (vi (v2 : Int)), some (ms Z6 v3), some (vi (v4 : Int)), some (vq)]
noncomputable abbrev κd (a0 : Int) (v6 : List RI) (v7 : List Int) (v8 : List RF) (v10 : List RG) (v11 : List RF) (v12 : Nat → List Int) := (some (AObj.cells [vp 1 0, vi (i64.wrap ((17 : Int) + a0)), ms RD v6, ms eI v7, vs 2 0 v8.length v8.length] 37) :: some (AObj.cells (hpC (i64.wrap ((17 : Int) + a0)) 3 v10.length 4 v11.length 5 v12) 67) :: some (AObj.cells (Za RA v8) 41 true) :: some (AObj.cells (Za RB v10) 50) :: some (AObj.cells (Za RA v11) 41) :: hpO v12 [])
theorem Ziz (a0 : Int) (L1 : List RJ) (v2 : Nat) (v3 : List RH) (v4 : Nat) (v6 : List RI) (v7 : List Int) (v8 : List RF) (v10 : List RG) (v11 : List RF) (v12 : Nat → List Int) (N : Nat) : (Z9 a0 L1 N).Ok Try.prog Z7 (.h2m0 v2 v3 v4 v6 v7 v8 v10 v11 v12 : Zn) (Z8 a0 L1 N (.h2m0 v2 v3 v4 v6 v7 v8 v10 v11 v12 : Zn)) := by
 show (Z9 a0 L1 N).Ok Try.prog Z7 (.h2m0 v2 v3 v4 v6 v7 v8 v10 v11 v12 : Zn) (ZbD a0 L1 N v2 v3 v4 v6 v7 v8 v10 v11 v12)
 unfold ZbD
 refine Mach.ok_ite (fun g0 => ?_) (fun g0 => ?_)
 ·
  have w1 := kG Z6 v3 (((0 + (v4 * 8)) + 2) + 1) v4 3 1 8 <| kB v4 v3.length <| kI (v4 : Int) (Int.ofNat v4) <| kG Z6 v3 ((0 + (v4 * 8)) + 7) v4 7 1 8 <| kB v4 v3.length <| kI (v4 : Int) (Int.ofNat v4) <| hY g0 Zp
  refine Mach.ok_ite (fun g1 => ?_) (fun g1 => ?_)
  ·
   exact Mach.okF (Ze (oq [1, 3]) [] [(0, v4), (1, v4)] [(0, [(mc RA (v3.getD v4 RH.z).a7)]), (1, [.i (v3.getD v4 RH.z).a3])] []) [] (vf) (hD g1 w1) bE
  ·
   have w2 := kE (((v3.getD v4 RH.z).a7.length : Nat) : Int) ((v3.getD v4 RH.z).a3) w1
   refine Mach.ok_ite (fun g2 => ?_) (fun g2 => ?_)
   ·
    have w3 := kY ((v4 : Int) > (0 : Int)) w2
    refine Mach.ok_ite (fun g3 => ?_) (fun _ => Mach.ok_none)
    have w4 := kG Z6 v3 ((0 + ((v4 - 1) * 8)) + 0) (v4 - 1) 0 2 8 <| kB (v4 - 1) v3.length <| kI (((v4 - 1) : Nat) : Int) (Int.ofNat (v4 - 1)) <| kW ((v4 : Int) - (1 : Int)) (((v4 - 1) : Nat) : Int) w3
    refine Mach.ok_ite (fun g4 => ?_) (fun g4 => ?_)
    ·
     have w5 := hT g4 <| kF ((v3.getD (v4 - 1) RH.z).a0) (1 : Int) <| hT g4 w4
     refine Mach.ok_ite (fun g5 => ?_) (fun g5 => ?_)
     ·
      have w6 := kG Z6 v3 ((0 + (v4 * 8)) + 0) v4 0 2 8 <| kB v4 v3.length <| kI (v4 : Int) (Int.ofNat v4) <| kM ((v3.getD (v4 - 1) RH.z).a1) (1048576 : Int) <| hT g5 w5
      refine Mach.ok_ite (fun g6 => ?_) (fun g6 => ?_)
      ·
       have w7 := hT g6 <| kF ((v3.getD v4 RH.z).a0) (1 : Int) <| hT g6 w6
       refine Mach.ok_ite (fun g7 => ?_) (fun g7 => ?_)
       ·
        exact Mach.okF (Ze (oq [1, 2, 5, 7, 8, 11, 13, 17, 18, 21, 23, 27]) [(0, (((v4 - 1) : Nat) : Int)), (1, ((v3.getD (v4 - 1) RH.z).a1 % (1048576 : Int))), (2, ((v3.getD v4 RH.z).a1 % (1048576 : Int)))] [(0, v4), (1, v4), (2, (v4 - 1)), (3, v4)] [(0, [(mc RA (v3.getD v4 RH.z).a7)]), (1, [.i (v3.getD v4 RH.z).a3]), (2, [.i (v3.getD (v4 - 1) RH.z).a0, .i (v3.getD (v4 - 1) RH.z).a1]), (9, [.i (v3.getD v4 RH.z).a0, .i (v3.getD v4 RH.z).a1])] []) [] (vf) (kY (((v3.getD (v4 - 1) RH.z).a1 % (1048576 : Int)) ≥ ((v3.getD v4 RH.z).a1 % (1048576 : Int))) <| kM ((v3.getD v4 RH.z).a1) (1048576 : Int) <| hT g7 w7) bE
       ·
        refine Mach.ok_ite (fun g8 => ?_) (fun g8 => ?_)
        ·
         have w9 := kY ((v3.getD v4 RH.z).a1 ≥ (1048576 : Int)) <| hF g7 w7
         refine Mach.ok_ite (fun g9 => ?_) (fun _ => Mach.ok_none)
         have w10 := kV ((v3.getD v4 RH.z).a1) (1048576 : Int) w9
         refine Mach.ok_ite (fun g10 => ?_) (fun g10 => ?_)
         ·
          refine Mach.ok_ite (fun g11 => ?_) (fun g11 => ?_)
          ·
           exact Mach.ok_head (bK := Zy 3) (M := Z9 a0 L1 N) (cd := 1000000) (cm := 0) (y := (.h3m0 (v2) (v3) (v4) (0) (v6) (v7) (v8) (v10) (v11) (v12) : Zn)) (fu := 4000) (orc := (Ze (oq [1, 2, 5, 7, 8, 11, 13, 17, 18, 21, 22, 25, 27, 29, 32]) [(0, (((v4 - 1) : Nat) : Int)), (1, ((v3.getD (v4 - 1) RH.z).a1 % (1048576 : Int))), (2, ((v3.getD v4 RH.z).a1 / (1048576 : Int))), (3, ((v3.getD v4 RH.z).a1 % (1048576 : Int))), (4, ((v3.getD v4 RH.z).a1 % (1048576 : Int)))] [(0, v4), (1, v4), (2, (v4 - 1)), (3, v4)] [(0, [(mc RA (v3.getD v4 RH.z).a7)]), (1, [.i (v3.getD v4 RH.z).a3]), (2, [.i (v3.getD (v4 - 1) RH.z).a0, .i (v3.getD (v4 - 1) RH.z).a1]), (9, [.i (v3.getD v4 RH.z).a0, .i (v3.getD v4 RH.z).a1])] [])) (live := (rg 0 22 [])) (tv := fun _ => (κm L1 a0 v2 v3 v4)) (bl := (κd a0 v6 v7 v8 v10 v11 v12)) rfl rfl (show ∀ j ∈ ZC (Zy 3).2, j ∈ ZC (ZX 2) from by decide +kernel) (fun gv => by kernel_rfl) (kN (((v3.getD (v4 - 1) RH.z).a1 % (1048576 : Int)) ≥ ((v3.getD v4 RH.z).a1 % (1048576 : Int))) <| kM ((v3.getD v4 RH.z).a1) (1048576 : Int) <| kY (((v3.getD v4 RH.z).a1 % (1048576 : Int)) ≥ (1 : Int)) <| kM ((v3.getD v4 RH.z).a1) (1048576 : Int) <| hY g10 w10) rfl (by decide +kernel) (by rfl) (fun _ => ⟨rr, ⟨rr, ⟨rr, ⟨rr, ⟨rr, ⟨rr, ⟨⟨Eq.trans (show κG = vq from (congrArg (Value.int .i64) (by first | rfl | omega))) (by rfl), by rfl⟩, trivial⟩⟩⟩⟩⟩⟩⟩) ⟨sm, ⟨sm, ⟨(Z4 (E := RA) (α := RF) _ v8 _), ⟨(Zal (E := RB) (α := RG) _ v10 _), ⟨(Zal (E := RA) (α := RF) _ v11 _), (hpS trivial)⟩⟩⟩⟩⟩
          ·
           exact Mach.okF (Ze (oq [1, 2, 5, 7, 8, 11, 13, 17, 18, 21, 22, 25, 27, 28, 33]) [(0, (((v4 - 1) : Nat) : Int)), (1, ((v3.getD (v4 - 1) RH.z).a1 % (1048576 : Int))), (2, ((v3.getD v4 RH.z).a1 / (1048576 : Int))), (3, ((v3.getD v4 RH.z).a1 % (1048576 : Int)))] [(0, v4), (1, v4), (2, (v4 - 1)), (3, v4)] [(0, [(mc RA (v3.getD v4 RH.z).a7)]), (1, [.i (v3.getD v4 RH.z).a3]), (2, [.i (v3.getD (v4 - 1) RH.z).a0, .i (v3.getD (v4 - 1) RH.z).a1]), (9, [.i (v3.getD v4 RH.z).a0, .i (v3.getD v4 RH.z).a1])] []) [] (vf) (kY (((v3.getD (v4 - 1) RH.z).a1 % (1048576 : Int)) ≥ (0 : Int)) <| kN (((v3.getD v4 RH.z).a1 % (1048576 : Int)) ≥ (1 : Int)) <| kM ((v3.getD v4 RH.z).a1) (1048576 : Int) <| hY g10 w10) bE
         ·
          exact Mach.okF (Ze (oq [1, 2, 5, 7, 8, 11, 13, 17, 18, 21, 22, 25, 26, 31]) [(0, (((v4 - 1) : Nat) : Int)), (1, ((v3.getD (v4 - 1) RH.z).a1 % (1048576 : Int))), (2, ((v3.getD v4 RH.z).a1 / (1048576 : Int)))] [(0, v4), (1, v4), (2, (v4 - 1)), (3, v4)] [(0, [(mc RA (v3.getD v4 RH.z).a7)]), (1, [.i (v3.getD v4 RH.z).a3]), (2, [.i (v3.getD (v4 - 1) RH.z).a0, .i (v3.getD (v4 - 1) RH.z).a1]), (9, [.i (v3.getD v4 RH.z).a0, .i (v3.getD v4 RH.z).a1])] []) [] (vf) (kY (((v3.getD (v4 - 1) RH.z).a1 % (1048576 : Int)) ≥ (0 : Int)) <| hN g10 w10) bE
        ·
         exact Mach.okF (Ze (oq [1, 2, 5, 7, 8, 11, 13, 17, 18, 21, 22, 24, 29]) [(0, (((v4 - 1) : Nat) : Int)), (1, ((v3.getD (v4 - 1) RH.z).a1 % (1048576 : Int)))] [(0, v4), (1, v4), (2, (v4 - 1)), (3, v4)] [(0, [(mc RA (v3.getD v4 RH.z).a7)]), (1, [.i (v3.getD v4 RH.z).a3]), (2, [.i (v3.getD (v4 - 1) RH.z).a0, .i (v3.getD (v4 - 1) RH.z).a1]), (9, [.i (v3.getD v4 RH.z).a0, .i (v3.getD v4 RH.z).a1])] []) [] (vf) (kY (((v3.getD (v4 - 1) RH.z).a1 % (1048576 : Int)) ≥ (0 : Int)) <| kN ((v3.getD v4 RH.z).a1 ≥ (1048576 : Int)) <| hF g7 w7) bE
      ·
       exact Mach.okF (Ze (oq [1, 2, 5, 7, 8, 11, 13, 16, 21]) [(0, (((v4 - 1) : Nat) : Int)), (1, ((v3.getD (v4 - 1) RH.z).a1 % (1048576 : Int)))] [(0, v4), (1, v4), (2, (v4 - 1)), (3, v4)] [(0, [(mc RA (v3.getD v4 RH.z).a7)]), (1, [.i (v3.getD v4 RH.z).a3]), (2, [.i (v3.getD (v4 - 1) RH.z).a0, .i (v3.getD (v4 - 1) RH.z).a1]), (9, [.i (v3.getD v4 RH.z).a0, .i (v3.getD v4 RH.z).a1])] []) [] (vf) (kY (((v3.getD (v4 - 1) RH.z).a1 % (1048576 : Int)) ≥ (0 : Int)) <| hF g6 w6) bE
     ·
      refine Mach.ok_ite (fun g6 => ?_) (fun g6 => ?_)
      ·
       have w7 := kY ((v3.getD (v4 - 1) RH.z).a1 ≥ (1048576 : Int)) <| hF g5 w5
       refine Mach.ok_ite (fun g7 => ?_) (fun _ => Mach.ok_none)
       have w8 := kV ((v3.getD (v4 - 1) RH.z).a1) (1048576 : Int) w7
       refine Mach.ok_ite (fun g8 => ?_) (fun g8 => ?_)
       ·
        have w9 := kM ((v3.getD (v4 - 1) RH.z).a1) (1048576 : Int) <| hY g8 w8
        refine Mach.ok_ite (fun g9 => ?_) (fun g9 => ?_)
        ·
         have w10 := kG Z6 v3 ((0 + (v4 * 8)) + 0) v4 0 2 8 <| kB v4 v3.length <| kI (v4 : Int) (Int.ofNat v4) <| kM ((v3.getD (v4 - 1) RH.z).a1) (1048576 : Int) <| kY (((v3.getD (v4 - 1) RH.z).a1 % (1048576 : Int)) ≥ (1 : Int)) w9
         refine Mach.ok_ite (fun g10 => ?_) (fun g10 => ?_)
         ·
          have w11 := hT g10 <| kF ((v3.getD v4 RH.z).a0) (1 : Int) <| hT g10 w10
          refine Mach.ok_ite (fun g11 => ?_) (fun g11 => ?_)
          ·
           exact Mach.okF (Ze (oq [1, 2, 5, 7, 8, 11, 12, 15, 17, 19, 23, 24, 27, 29, 33]) [(0, (((v4 - 1) : Nat) : Int)), (1, ((v3.getD (v4 - 1) RH.z).a1 / (1048576 : Int))), (2, ((v3.getD (v4 - 1) RH.z).a1 % (1048576 : Int))), (3, ((v3.getD (v4 - 1) RH.z).a1 % (1048576 : Int))), (4, ((v3.getD v4 RH.z).a1 % (1048576 : Int)))] [(0, v4), (1, v4), (2, (v4 - 1)), (3, v4)] [(0, [(mc RA (v3.getD v4 RH.z).a7)]), (1, [.i (v3.getD v4 RH.z).a3]), (2, [.i (v3.getD (v4 - 1) RH.z).a0, .i (v3.getD (v4 - 1) RH.z).a1]), (12, [.i (v3.getD v4 RH.z).a0, .i (v3.getD v4 RH.z).a1])] []) [] (vf) (kY (((v3.getD (v4 - 1) RH.z).a1 % (1048576 : Int)) ≥ ((v3.getD v4 RH.z).a1 % (1048576 : Int))) <| kM ((v3.getD v4 RH.z).a1) (1048576 : Int) <| hT g11 w11) bE
          ·
           refine Mach.ok_ite (fun g12 => ?_) (fun g12 => ?_)
           ·
            have w13 := kY ((v3.getD v4 RH.z).a1 ≥ (1048576 : Int)) <| hF g11 w11
            refine Mach.ok_ite (fun g13 => ?_) (fun _ => Mach.ok_none)
            have w14 := kV ((v3.getD v4 RH.z).a1) (1048576 : Int) w13
            refine Mach.ok_ite (fun g14 => ?_) (fun g14 => ?_)
            ·
             have w15 := kM ((v3.getD v4 RH.z).a1) (1048576 : Int) <| hY g14 w14
             refine Mach.ok_ite (fun g15 => ?_) (fun g15 => ?_)
             ·
              have w16 := kM ((v3.getD v4 RH.z).a1) (1048576 : Int) <| kY (((v3.getD v4 RH.z).a1 % (1048576 : Int)) ≥ (1 : Int)) w15
              refine Mach.ok_ite (fun g16 => ?_) (fun g16 => ?_)
              ·
               exact Mach.okF (Ze (oq [1, 2, 5, 7, 8, 11, 12, 15, 17, 19, 23, 24, 27, 28, 31, 33, 35, 39]) [(0, (((v4 - 1) : Nat) : Int)), (1, ((v3.getD (v4 - 1) RH.z).a1 / (1048576 : Int))), (2, ((v3.getD (v4 - 1) RH.z).a1 % (1048576 : Int))), (3, ((v3.getD (v4 - 1) RH.z).a1 % (1048576 : Int))), (4, ((v3.getD v4 RH.z).a1 / (1048576 : Int))), (5, ((v3.getD v4 RH.z).a1 % (1048576 : Int))), (6, ((v3.getD v4 RH.z).a1 % (1048576 : Int)))] [(0, v4), (1, v4), (2, (v4 - 1)), (3, v4)] [(0, [(mc RA (v3.getD v4 RH.z).a7)]), (1, [.i (v3.getD v4 RH.z).a3]), (2, [.i (v3.getD (v4 - 1) RH.z).a0, .i (v3.getD (v4 - 1) RH.z).a1]), (12, [.i (v3.getD v4 RH.z).a0, .i (v3.getD v4 RH.z).a1])] []) [] (vf) (kY (((v3.getD (v4 - 1) RH.z).a1 % (1048576 : Int)) ≥ ((v3.getD v4 RH.z).a1 % (1048576 : Int))) w16) bE
              ·
               exact Mach.ok_head (bK := Zy 3) (M := Z9 a0 L1 N) (cd := 1000000) (cm := 0) (y := (.h3m0 (v2) (v3) (v4) (0) (v6) (v7) (v8) (v10) (v11) (v12) : Zn)) (fu := 4000) (orc := (Ze (oq [1, 2, 5, 7, 8, 11, 12, 15, 17, 19, 23, 24, 27, 28, 31, 33, 35, 38]) [(0, (((v4 - 1) : Nat) : Int)), (1, ((v3.getD (v4 - 1) RH.z).a1 / (1048576 : Int))), (2, ((v3.getD (v4 - 1) RH.z).a1 % (1048576 : Int))), (3, ((v3.getD (v4 - 1) RH.z).a1 % (1048576 : Int))), (4, ((v3.getD v4 RH.z).a1 / (1048576 : Int))), (5, ((v3.getD v4 RH.z).a1 % (1048576 : Int))), (6, ((v3.getD v4 RH.z).a1 % (1048576 : Int)))] [(0, v4), (1, v4), (2, (v4 - 1)), (3, v4)] [(0, [(mc RA (v3.getD v4 RH.z).a7)]), (1, [.i (v3.getD v4 RH.z).a3]), (2, [.i (v3.getD (v4 - 1) RH.z).a0, .i (v3.getD (v4 - 1) RH.z).a1]), (12, [.i (v3.getD v4 RH.z).a0, .i (v3.getD v4 RH.z).a1])] [])) (live := (rg 0 22 [])) (tv := fun _ => (κm L1 a0 v2 v3 v4)) (bl := (κd a0 v6 v7 v8 v10 v11 v12)) rfl rfl (show ∀ j ∈ ZC (Zy 3).2, j ∈ ZC (ZX 2) from by decide +kernel) (fun gv => by kernel_rfl) (kN (((v3.getD (v4 - 1) RH.z).a1 % (1048576 : Int)) ≥ ((v3.getD v4 RH.z).a1 % (1048576 : Int))) w16) rfl (by decide +kernel) (by rfl) (fun _ => ⟨rr, ⟨rr, ⟨rr, ⟨rr, ⟨rr, ⟨rr, ⟨⟨Eq.trans (show κG = vq from (congrArg (Value.int .i64) (by first | rfl | omega))) (by rfl), by rfl⟩, trivial⟩⟩⟩⟩⟩⟩⟩) ⟨sm, ⟨sm, ⟨(Z4 (E := RA) (α := RF) _ v8 _), ⟨(Zal (E := RB) (α := RG) _ v10 _), ⟨(Zal (E := RA) (α := RF) _ v11 _), (hpS trivial)⟩⟩⟩⟩⟩
             ·
              exact Mach.okF (Ze (oq [1, 2, 5, 7, 8, 11, 12, 15, 17, 19, 23, 24, 27, 28, 31, 33, 34, 39]) [(0, (((v4 - 1) : Nat) : Int)), (1, ((v3.getD (v4 - 1) RH.z).a1 / (1048576 : Int))), (2, ((v3.getD (v4 - 1) RH.z).a1 % (1048576 : Int))), (3, ((v3.getD (v4 - 1) RH.z).a1 % (1048576 : Int))), (4, ((v3.getD v4 RH.z).a1 / (1048576 : Int))), (5, ((v3.getD v4 RH.z).a1 % (1048576 : Int)))] [(0, v4), (1, v4), (2, (v4 - 1)), (3, v4)] [(0, [(mc RA (v3.getD v4 RH.z).a7)]), (1, [.i (v3.getD v4 RH.z).a3]), (2, [.i (v3.getD (v4 - 1) RH.z).a0, .i (v3.getD (v4 - 1) RH.z).a1]), (12, [.i (v3.getD v4 RH.z).a0, .i (v3.getD v4 RH.z).a1])] []) [] (vf) (kY (((v3.getD (v4 - 1) RH.z).a1 % (1048576 : Int)) ≥ (0 : Int)) <| kN (((v3.getD v4 RH.z).a1 % (1048576 : Int)) ≥ (1 : Int)) w15) bE
            ·
             exact Mach.okF (Ze (oq [1, 2, 5, 7, 8, 11, 12, 15, 17, 19, 23, 24, 27, 28, 31, 32, 37]) [(0, (((v4 - 1) : Nat) : Int)), (1, ((v3.getD (v4 - 1) RH.z).a1 / (1048576 : Int))), (2, ((v3.getD (v4 - 1) RH.z).a1 % (1048576 : Int))), (3, ((v3.getD (v4 - 1) RH.z).a1 % (1048576 : Int))), (4, ((v3.getD v4 RH.z).a1 / (1048576 : Int)))] [(0, v4), (1, v4), (2, (v4 - 1)), (3, v4)] [(0, [(mc RA (v3.getD v4 RH.z).a7)]), (1, [.i (v3.getD v4 RH.z).a3]), (2, [.i (v3.getD (v4 - 1) RH.z).a0, .i (v3.getD (v4 - 1) RH.z).a1]), (12, [.i (v3.getD v4 RH.z).a0, .i (v3.getD v4 RH.z).a1])] []) [] (vf) (kY (((v3.getD (v4 - 1) RH.z).a1 % (1048576 : Int)) ≥ (0 : Int)) <| hN g14 w14) bE
           ·
            exact Mach.okF (Ze (oq [1, 2, 5, 7, 8, 11, 12, 15, 17, 19, 23, 24, 27, 28, 30, 35]) [(0, (((v4 - 1) : Nat) : Int)), (1, ((v3.getD (v4 - 1) RH.z).a1 / (1048576 : Int))), (2, ((v3.getD (v4 - 1) RH.z).a1 % (1048576 : Int))), (3, ((v3.getD (v4 - 1) RH.z).a1 % (1048576 : Int)))] [(0, v4), (1, v4), (2, (v4 - 1)), (3, v4)] [(0, [(mc RA (v3.getD v4 RH.z).a7)]), (1, [.i (v3.getD v4 RH.z).a3]), (2, [.i (v3.getD (v4 - 1) RH.z).a0, .i (v3.getD (v4 - 1) RH.z).a1]), (12, [.i (v3.getD v4 RH.z).a0, .i (v3.getD v4 RH.z).a1])] []) [] (vf) (kY (((v3.getD (v4 - 1) RH.z).a1 % (1048576 : Int)) ≥ (0 : Int)) <| kN ((v3.getD v4 RH.z).a1 ≥ (1048576 : Int)) <| hF g11 w11) bE
         ·
          exact Mach.okF (Ze (oq [1, 2, 5, 7, 8, 11, 12, 15, 17, 19, 22, 27]) [(0, (((v4 - 1) : Nat) : Int)), (1, ((v3.getD (v4 - 1) RH.z).a1 / (1048576 : Int))), (2, ((v3.getD (v4 - 1) RH.z).a1 % (1048576 : Int))), (3, ((v3.getD (v4 - 1) RH.z).a1 % (1048576 : Int)))] [(0, v4), (1, v4), (2, (v4 - 1)), (3, v4)] [(0, [(mc RA (v3.getD v4 RH.z).a7)]), (1, [.i (v3.getD v4 RH.z).a3]), (2, [.i (v3.getD (v4 - 1) RH.z).a0, .i (v3.getD (v4 - 1) RH.z).a1]), (12, [.i (v3.getD v4 RH.z).a0, .i (v3.getD v4 RH.z).a1])] []) [] (vf) (kY (((v3.getD (v4 - 1) RH.z).a1 % (1048576 : Int)) ≥ (0 : Int)) <| hF g10 w10) bE
        ·
         have w10 := kG Z6 v3 ((0 + (v4 * 8)) + 0) v4 0 2 8 <| kB v4 v3.length <| kI (v4 : Int) (Int.ofNat v4) <| kN (((v3.getD (v4 - 1) RH.z).a1 % (1048576 : Int)) ≥ (1 : Int)) w9
         refine Mach.ok_ite (fun g10 => ?_) (fun g10 => ?_)
         ·
          have w11 := hT g10 <| kF ((v3.getD v4 RH.z).a0) (1 : Int) <| hT g10 w10
          refine Mach.ok_ite (fun g11 => ?_) (fun g11 => ?_)
          ·
           exact Mach.okF (Ze (oq [1, 2, 5, 7, 8, 11, 12, 15, 17, 18, 23, 24, 27, 29, 33]) [(0, (((v4 - 1) : Nat) : Int)), (1, ((v3.getD (v4 - 1) RH.z).a1 / (1048576 : Int))), (2, ((v3.getD (v4 - 1) RH.z).a1 % (1048576 : Int))), (3, ((v3.getD v4 RH.z).a1 % (1048576 : Int)))] [(0, v4), (1, v4), (2, (v4 - 1)), (3, v4)] [(0, [(mc RA (v3.getD v4 RH.z).a7)]), (1, [.i (v3.getD v4 RH.z).a3]), (2, [.i (v3.getD (v4 - 1) RH.z).a0, .i (v3.getD (v4 - 1) RH.z).a1]), (11, [.i (v3.getD v4 RH.z).a0, .i (v3.getD v4 RH.z).a1])] []) [] (vf) (kY ((0 : Int) ≥ ((v3.getD v4 RH.z).a1 % (1048576 : Int))) <| kM ((v3.getD v4 RH.z).a1) (1048576 : Int) <| hT g11 w11) bE
          ·
           refine Mach.ok_ite (fun g12 => ?_) (fun g12 => ?_)
           ·
            have w13 := kY ((v3.getD v4 RH.z).a1 ≥ (1048576 : Int)) <| hF g11 w11
            refine Mach.ok_ite (fun g13 => ?_) (fun _ => Mach.ok_none)
            have w14 := kV ((v3.getD v4 RH.z).a1) (1048576 : Int) w13
            refine Mach.ok_ite (fun g14 => ?_) (fun g14 => ?_)
            ·
             refine Mach.ok_ite (fun g15 => ?_) (fun g15 => ?_)
             ·
              exact Mach.ok_head (bK := Zy 3) (M := Z9 a0 L1 N) (cd := 1000000) (cm := 0) (y := (.h3m0 (v2) (v3) (v4) (0) (v6) (v7) (v8) (v10) (v11) (v12) : Zn)) (fu := 4000) (orc := (Ze (oq [1, 2, 5, 7, 8, 11, 12, 15, 17, 18, 23, 24, 27, 28, 31, 33, 35, 38]) [(0, (((v4 - 1) : Nat) : Int)), (1, ((v3.getD (v4 - 1) RH.z).a1 / (1048576 : Int))), (2, ((v3.getD (v4 - 1) RH.z).a1 % (1048576 : Int))), (3, ((v3.getD v4 RH.z).a1 / (1048576 : Int))), (4, ((v3.getD v4 RH.z).a1 % (1048576 : Int))), (5, ((v3.getD v4 RH.z).a1 % (1048576 : Int)))] [(0, v4), (1, v4), (2, (v4 - 1)), (3, v4)] [(0, [(mc RA (v3.getD v4 RH.z).a7)]), (1, [.i (v3.getD v4 RH.z).a3]), (2, [.i (v3.getD (v4 - 1) RH.z).a0, .i (v3.getD (v4 - 1) RH.z).a1]), (11, [.i (v3.getD v4 RH.z).a0, .i (v3.getD v4 RH.z).a1])] [])) (live := (rg 0 22 [])) (tv := fun _ => (κm L1 a0 v2 v3 v4)) (bl := (κd a0 v6 v7 v8 v10 v11 v12)) rfl rfl (show ∀ j ∈ ZC (Zy 3).2, j ∈ ZC (ZX 2) from by decide +kernel) (fun gv => by kernel_rfl) (kN ((0 : Int) ≥ ((v3.getD v4 RH.z).a1 % (1048576 : Int))) <| kM ((v3.getD v4 RH.z).a1) (1048576 : Int) <| kY (((v3.getD v4 RH.z).a1 % (1048576 : Int)) ≥ (1 : Int)) <| kM ((v3.getD v4 RH.z).a1) (1048576 : Int) <| hY g14 w14) rfl (by decide +kernel) (by rfl) (fun _ => ⟨rr, ⟨rr, ⟨rr, ⟨rr, ⟨rr, ⟨rr, ⟨⟨Eq.trans (show κG = vq from (congrArg (Value.int .i64) (by first | rfl | omega))) (by rfl), by rfl⟩, trivial⟩⟩⟩⟩⟩⟩⟩) ⟨sm, ⟨sm, ⟨(Z4 (E := RA) (α := RF) _ v8 _), ⟨(Zal (E := RB) (α := RG) _ v10 _), ⟨(Zal (E := RA) (α := RF) _ v11 _), (hpS trivial)⟩⟩⟩⟩⟩
             ·
              exact Mach.okF (Ze (oq [1, 2, 5, 7, 8, 11, 12, 15, 17, 18, 23, 24, 27, 28, 31, 33, 34]) [(0, (((v4 - 1) : Nat) : Int)), (1, ((v3.getD (v4 - 1) RH.z).a1 / (1048576 : Int))), (2, ((v3.getD (v4 - 1) RH.z).a1 % (1048576 : Int))), (3, ((v3.getD v4 RH.z).a1 / (1048576 : Int))), (4, ((v3.getD v4 RH.z).a1 % (1048576 : Int)))] [(0, v4), (1, v4), (2, (v4 - 1)), (3, v4)] [(0, [(mc RA (v3.getD v4 RH.z).a7)]), (1, [.i (v3.getD v4 RH.z).a3]), (2, [.i (v3.getD (v4 - 1) RH.z).a0, .i (v3.getD (v4 - 1) RH.z).a1]), (11, [.i (v3.getD v4 RH.z).a0, .i (v3.getD v4 RH.z).a1])] []) [] (vf) (kN (((v3.getD v4 RH.z).a1 % (1048576 : Int)) ≥ (1 : Int)) <| kM ((v3.getD v4 RH.z).a1) (1048576 : Int) <| hY g14 w14) bE
            ·
             exact Mach.okF (Ze (oq [1, 2, 5, 7, 8, 11, 12, 15, 17, 18, 23, 24, 27, 28, 31, 32]) [(0, (((v4 - 1) : Nat) : Int)), (1, ((v3.getD (v4 - 1) RH.z).a1 / (1048576 : Int))), (2, ((v3.getD (v4 - 1) RH.z).a1 % (1048576 : Int))), (3, ((v3.getD v4 RH.z).a1 / (1048576 : Int)))] [(0, v4), (1, v4), (2, (v4 - 1)), (3, v4)] [(0, [(mc RA (v3.getD v4 RH.z).a7)]), (1, [.i (v3.getD v4 RH.z).a3]), (2, [.i (v3.getD (v4 - 1) RH.z).a0, .i (v3.getD (v4 - 1) RH.z).a1]), (11, [.i (v3.getD v4 RH.z).a0, .i (v3.getD v4 RH.z).a1])] []) [] (vf) (hN g14 w14) bE
           ·
            exact Mach.okF (Ze (oq [1, 2, 5, 7, 8, 11, 12, 15, 17, 18, 23, 24, 27, 28, 30]) [(0, (((v4 - 1) : Nat) : Int)), (1, ((v3.getD (v4 - 1) RH.z).a1 / (1048576 : Int))), (2, ((v3.getD (v4 - 1) RH.z).a1 % (1048576 : Int)))] [(0, v4), (1, v4), (2, (v4 - 1)), (3, v4)] [(0, [(mc RA (v3.getD v4 RH.z).a7)]), (1, [.i (v3.getD v4 RH.z).a3]), (2, [.i (v3.getD (v4 - 1) RH.z).a0, .i (v3.getD (v4 - 1) RH.z).a1]), (11, [.i (v3.getD v4 RH.z).a0, .i (v3.getD v4 RH.z).a1])] []) [] (vf) (kN ((v3.getD v4 RH.z).a1 ≥ (1048576 : Int)) <| hF g11 w11) bE
         ·
          exact Mach.okF (Ze (oq [1, 2, 5, 7, 8, 11, 12, 15, 17, 18, 22]) [(0, (((v4 - 1) : Nat) : Int)), (1, ((v3.getD (v4 - 1) RH.z).a1 / (1048576 : Int))), (2, ((v3.getD (v4 - 1) RH.z).a1 % (1048576 : Int)))] [(0, v4), (1, v4), (2, (v4 - 1)), (3, v4)] [(0, [(mc RA (v3.getD v4 RH.z).a7)]), (1, [.i (v3.getD v4 RH.z).a3]), (2, [.i (v3.getD (v4 - 1) RH.z).a0, .i (v3.getD (v4 - 1) RH.z).a1]), (11, [.i (v3.getD v4 RH.z).a0, .i (v3.getD v4 RH.z).a1])] []) [] (vf) (hF g10 w10) bE
       ·
        have w9 := kG Z6 v3 ((0 + (v4 * 8)) + 0) v4 0 2 8 <| kB v4 v3.length <| kI (v4 : Int) (Int.ofNat v4) <| hN g8 w8
        refine Mach.ok_ite (fun g9 => ?_) (fun g9 => ?_)
        ·
         have w10 := hT g9 <| kF ((v3.getD v4 RH.z).a0) (1 : Int) <| hT g9 w9
         refine Mach.ok_ite (fun g10 => ?_) (fun g10 => ?_)
         ·
          exact Mach.okF (Ze (oq [1, 2, 5, 7, 8, 11, 12, 15, 16, 21, 22, 25, 27, 31]) [(0, (((v4 - 1) : Nat) : Int)), (1, ((v3.getD (v4 - 1) RH.z).a1 / (1048576 : Int))), (2, ((v3.getD v4 RH.z).a1 % (1048576 : Int)))] [(0, v4), (1, v4), (2, (v4 - 1)), (3, v4)] [(0, [(mc RA (v3.getD v4 RH.z).a7)]), (1, [.i (v3.getD v4 RH.z).a3]), (2, [.i (v3.getD (v4 - 1) RH.z).a0, .i (v3.getD (v4 - 1) RH.z).a1]), (10, [.i (v3.getD v4 RH.z).a0, .i (v3.getD v4 RH.z).a1])] []) [] (vf) (kY ((0 : Int) ≥ ((v3.getD v4 RH.z).a1 % (1048576 : Int))) <| kM ((v3.getD v4 RH.z).a1) (1048576 : Int) <| hT g10 w10) bE
         ·
          refine Mach.ok_ite (fun g11 => ?_) (fun g11 => ?_)
          ·
           have w12 := kY ((v3.getD v4 RH.z).a1 ≥ (1048576 : Int)) <| hF g10 w10
           refine Mach.ok_ite (fun g12 => ?_) (fun _ => Mach.ok_none)
           have w13 := kV ((v3.getD v4 RH.z).a1) (1048576 : Int) w12
           refine Mach.ok_ite (fun g13 => ?_) (fun g13 => ?_)
           ·
            refine Mach.ok_ite (fun g14 => ?_) (fun g14 => ?_)
            ·
             exact Mach.ok_head (bK := Zy 3) (M := Z9 a0 L1 N) (cd := 1000000) (cm := 0) (y := (.h3m0 (v2) (v3) (v4) (0) (v6) (v7) (v8) (v10) (v11) (v12) : Zn)) (fu := 4000) (orc := (Ze (oq [1, 2, 5, 7, 8, 11, 12, 15, 16, 21, 22, 25, 26, 29, 31, 33, 36]) [(0, (((v4 - 1) : Nat) : Int)), (1, ((v3.getD (v4 - 1) RH.z).a1 / (1048576 : Int))), (2, ((v3.getD v4 RH.z).a1 / (1048576 : Int))), (3, ((v3.getD v4 RH.z).a1 % (1048576 : Int))), (4, ((v3.getD v4 RH.z).a1 % (1048576 : Int)))] [(0, v4), (1, v4), (2, (v4 - 1)), (3, v4)] [(0, [(mc RA (v3.getD v4 RH.z).a7)]), (1, [.i (v3.getD v4 RH.z).a3]), (2, [.i (v3.getD (v4 - 1) RH.z).a0, .i (v3.getD (v4 - 1) RH.z).a1]), (10, [.i (v3.getD v4 RH.z).a0, .i (v3.getD v4 RH.z).a1])] [])) (live := (rg 0 22 [])) (tv := fun _ => (κm L1 a0 v2 v3 v4)) (bl := (κd a0 v6 v7 v8 v10 v11 v12)) rfl rfl (show ∀ j ∈ ZC (Zy 3).2, j ∈ ZC (ZX 2) from by decide +kernel) (fun gv => by kernel_rfl) (kN ((0 : Int) ≥ ((v3.getD v4 RH.z).a1 % (1048576 : Int))) <| kM ((v3.getD v4 RH.z).a1) (1048576 : Int) <| kY (((v3.getD v4 RH.z).a1 % (1048576 : Int)) ≥ (1 : Int)) <| kM ((v3.getD v4 RH.z).a1) (1048576 : Int) <| hY g13 w13) rfl (by decide +kernel) (by rfl) (fun _ => ⟨rr, ⟨rr, ⟨rr, ⟨rr, ⟨rr, ⟨rr, ⟨⟨Eq.trans (show κG = vq from (congrArg (Value.int .i64) (by first | rfl | omega))) (by rfl), by rfl⟩, trivial⟩⟩⟩⟩⟩⟩⟩) ⟨sm, ⟨sm, ⟨(Z4 (E := RA) (α := RF) _ v8 _), ⟨(Zal (E := RB) (α := RG) _ v10 _), ⟨(Zal (E := RA) (α := RF) _ v11 _), (hpS trivial)⟩⟩⟩⟩⟩
            ·
             exact Mach.okF (Ze (oq [1, 2, 5, 7, 8, 11, 12, 15, 16, 21, 22, 25, 26, 29, 31, 32]) [(0, (((v4 - 1) : Nat) : Int)), (1, ((v3.getD (v4 - 1) RH.z).a1 / (1048576 : Int))), (2, ((v3.getD v4 RH.z).a1 / (1048576 : Int))), (3, ((v3.getD v4 RH.z).a1 % (1048576 : Int)))] [(0, v4), (1, v4), (2, (v4 - 1)), (3, v4)] [(0, [(mc RA (v3.getD v4 RH.z).a7)]), (1, [.i (v3.getD v4 RH.z).a3]), (2, [.i (v3.getD (v4 - 1) RH.z).a0, .i (v3.getD (v4 - 1) RH.z).a1]), (10, [.i (v3.getD v4 RH.z).a0, .i (v3.getD v4 RH.z).a1])] []) [] (vf) (kN (((v3.getD v4 RH.z).a1 % (1048576 : Int)) ≥ (1 : Int)) <| kM ((v3.getD v4 RH.z).a1) (1048576 : Int) <| hY g13 w13) bE
           ·
            exact Mach.okF (Ze (oq [1, 2, 5, 7, 8, 11, 12, 15, 16, 21, 22, 25, 26, 29, 30]) [(0, (((v4 - 1) : Nat) : Int)), (1, ((v3.getD (v4 - 1) RH.z).a1 / (1048576 : Int))), (2, ((v3.getD v4 RH.z).a1 / (1048576 : Int)))] [(0, v4), (1, v4), (2, (v4 - 1)), (3, v4)] [(0, [(mc RA (v3.getD v4 RH.z).a7)]), (1, [.i (v3.getD v4 RH.z).a3]), (2, [.i (v3.getD (v4 - 1) RH.z).a0, .i (v3.getD (v4 - 1) RH.z).a1]), (10, [.i (v3.getD v4 RH.z).a0, .i (v3.getD v4 RH.z).a1])] []) [] (vf) (hN g13 w13) bE
          ·
           exact Mach.okF (Ze (oq [1, 2, 5, 7, 8, 11, 12, 15, 16, 21, 22, 25, 26, 28]) [(0, (((v4 - 1) : Nat) : Int)), (1, ((v3.getD (v4 - 1) RH.z).a1 / (1048576 : Int)))] [(0, v4), (1, v4), (2, (v4 - 1)), (3, v4)] [(0, [(mc RA (v3.getD v4 RH.z).a7)]), (1, [.i (v3.getD v4 RH.z).a3]), (2, [.i (v3.getD (v4 - 1) RH.z).a0, .i (v3.getD (v4 - 1) RH.z).a1]), (10, [.i (v3.getD v4 RH.z).a0, .i (v3.getD v4 RH.z).a1])] []) [] (vf) (kN ((v3.getD v4 RH.z).a1 ≥ (1048576 : Int)) <| hF g10 w10) bE
        ·
         exact Mach.okF (Ze (oq [1, 2, 5, 7, 8, 11, 12, 15, 16, 20]) [(0, (((v4 - 1) : Nat) : Int)), (1, ((v3.getD (v4 - 1) RH.z).a1 / (1048576 : Int)))] [(0, v4), (1, v4), (2, (v4 - 1)), (3, v4)] [(0, [(mc RA (v3.getD v4 RH.z).a7)]), (1, [.i (v3.getD v4 RH.z).a3]), (2, [.i (v3.getD (v4 - 1) RH.z).a0, .i (v3.getD (v4 - 1) RH.z).a1]), (10, [.i (v3.getD v4 RH.z).a0, .i (v3.getD v4 RH.z).a1])] []) [] (vf) (hF g9 w9) bE
      ·
       have w7 := kG Z6 v3 ((0 + (v4 * 8)) + 0) v4 0 2 8 <| kB v4 v3.length <| kI (v4 : Int) (Int.ofNat v4) <| kN ((v3.getD (v4 - 1) RH.z).a1 ≥ (1048576 : Int)) <| hF g5 w5
       refine Mach.ok_ite (fun g7 => ?_) (fun g7 => ?_)
       ·
        have w8 := hT g7 <| kF ((v3.getD v4 RH.z).a0) (1 : Int) <| hT g7 w7
        refine Mach.ok_ite (fun g8 => ?_) (fun g8 => ?_)
        ·
         exact Mach.okF (Ze (oq [1, 2, 5, 7, 8, 11, 12, 14, 19, 20, 23, 25, 29]) [(0, (((v4 - 1) : Nat) : Int)), (1, ((v3.getD v4 RH.z).a1 % (1048576 : Int)))] [(0, v4), (1, v4), (2, (v4 - 1)), (3, v4)] [(0, [(mc RA (v3.getD v4 RH.z).a7)]), (1, [.i (v3.getD v4 RH.z).a3]), (2, [.i (v3.getD (v4 - 1) RH.z).a0, .i (v3.getD (v4 - 1) RH.z).a1]), (9, [.i (v3.getD v4 RH.z).a0, .i (v3.getD v4 RH.z).a1])] []) [] (vf) (kY ((0 : Int) ≥ ((v3.getD v4 RH.z).a1 % (1048576 : Int))) <| kM ((v3.getD v4 RH.z).a1) (1048576 : Int) <| hT g8 w8) bE
        ·
         refine Mach.ok_ite (fun g9 => ?_) (fun g9 => ?_)
         ·
          have w10 := kY ((v3.getD v4 RH.z).a1 ≥ (1048576 : Int)) <| hF g8 w8
          refine Mach.ok_ite (fun g10 => ?_) (fun _ => Mach.ok_none)
          have w11 := kV ((v3.getD v4 RH.z).a1) (1048576 : Int) w10
          refine Mach.ok_ite (fun g11 => ?_) (fun g11 => ?_)
          ·
           refine Mach.ok_ite (fun g12 => ?_) (fun g12 => ?_)
           ·
            exact Mach.ok_head (bK := Zy 3) (M := Z9 a0 L1 N) (cd := 1000000) (cm := 0) (y := (.h3m0 (v2) (v3) (v4) (0) (v6) (v7) (v8) (v10) (v11) (v12) : Zn)) (fu := 4000) (orc := (Ze (oq [1, 2, 5, 7, 8, 11, 12, 14, 19, 20, 23, 24, 27, 29, 31, 34]) [(0, (((v4 - 1) : Nat) : Int)), (1, ((v3.getD v4 RH.z).a1 / (1048576 : Int))), (2, ((v3.getD v4 RH.z).a1 % (1048576 : Int))), (3, ((v3.getD v4 RH.z).a1 % (1048576 : Int)))] [(0, v4), (1, v4), (2, (v4 - 1)), (3, v4)] [(0, [(mc RA (v3.getD v4 RH.z).a7)]), (1, [.i (v3.getD v4 RH.z).a3]), (2, [.i (v3.getD (v4 - 1) RH.z).a0, .i (v3.getD (v4 - 1) RH.z).a1]), (9, [.i (v3.getD v4 RH.z).a0, .i (v3.getD v4 RH.z).a1])] [])) (live := (rg 0 22 [])) (tv := fun _ => (κm L1 a0 v2 v3 v4)) (bl := (κd a0 v6 v7 v8 v10 v11 v12)) rfl rfl (show ∀ j ∈ ZC (Zy 3).2, j ∈ ZC (ZX 2) from by decide +kernel) (fun gv => by kernel_rfl) (kN ((0 : Int) ≥ ((v3.getD v4 RH.z).a1 % (1048576 : Int))) <| kM ((v3.getD v4 RH.z).a1) (1048576 : Int) <| kY (((v3.getD v4 RH.z).a1 % (1048576 : Int)) ≥ (1 : Int)) <| kM ((v3.getD v4 RH.z).a1) (1048576 : Int) <| hY g11 w11) rfl (by decide +kernel) (by rfl) (fun _ => ⟨rr, ⟨rr, ⟨rr, ⟨rr, ⟨rr, ⟨rr, ⟨⟨Eq.trans (show κG = vq from (congrArg (Value.int .i64) (by first | rfl | omega))) (by rfl), by rfl⟩, trivial⟩⟩⟩⟩⟩⟩⟩) ⟨sm, ⟨sm, ⟨(Z4 (E := RA) (α := RF) _ v8 _), ⟨(Zal (E := RB) (α := RG) _ v10 _), ⟨(Zal (E := RA) (α := RF) _ v11 _), (hpS trivial)⟩⟩⟩⟩⟩
           ·
            exact Mach.okF (Ze (oq [1, 2, 5, 7, 8, 11, 12, 14, 19, 20, 23, 24, 27, 29, 30]) [(0, (((v4 - 1) : Nat) : Int)), (1, ((v3.getD v4 RH.z).a1 / (1048576 : Int))), (2, ((v3.getD v4 RH.z).a1 % (1048576 : Int)))] [(0, v4), (1, v4), (2, (v4 - 1)), (3, v4)] [(0, [(mc RA (v3.getD v4 RH.z).a7)]), (1, [.i (v3.getD v4 RH.z).a3]), (2, [.i (v3.getD (v4 - 1) RH.z).a0, .i (v3.getD (v4 - 1) RH.z).a1]), (9, [.i (v3.getD v4 RH.z).a0, .i (v3.getD v4 RH.z).a1])] []) [] (vf) (kN (((v3.getD v4 RH.z).a1 % (1048576 : Int)) ≥ (1 : Int)) <| kM ((v3.getD v4 RH.z).a1) (1048576 : Int) <| hY g11 w11) bE
          ·
           exact Mach.okF (Ze (oq [1, 2, 5, 7, 8, 11, 12, 14, 19, 20, 23, 24, 27, 28]) [(0, (((v4 - 1) : Nat) : Int)), (1, ((v3.getD v4 RH.z).a1 / (1048576 : Int)))] [(0, v4), (1, v4), (2, (v4 - 1)), (3, v4)] [(0, [(mc RA (v3.getD v4 RH.z).a7)]), (1, [.i (v3.getD v4 RH.z).a3]), (2, [.i (v3.getD (v4 - 1) RH.z).a0, .i (v3.getD (v4 - 1) RH.z).a1]), (9, [.i (v3.getD v4 RH.z).a0, .i (v3.getD v4 RH.z).a1])] []) [] (vf) (hN g11 w11) bE
         ·
          exact Mach.okF (Ze (oq [1, 2, 5, 7, 8, 11, 12, 14, 19, 20, 23, 24, 26]) [(0, (((v4 - 1) : Nat) : Int))] [(0, v4), (1, v4), (2, (v4 - 1)), (3, v4)] [(0, [(mc RA (v3.getD v4 RH.z).a7)]), (1, [.i (v3.getD v4 RH.z).a3]), (2, [.i (v3.getD (v4 - 1) RH.z).a0, .i (v3.getD (v4 - 1) RH.z).a1]), (9, [.i (v3.getD v4 RH.z).a0, .i (v3.getD v4 RH.z).a1])] []) [] (vf) (kN ((v3.getD v4 RH.z).a1 ≥ (1048576 : Int)) <| hF g8 w8) bE
       ·
        exact Mach.okF (Ze (oq [1, 2, 5, 7, 8, 11, 12, 14, 18]) [(0, (((v4 - 1) : Nat) : Int))] [(0, v4), (1, v4), (2, (v4 - 1)), (3, v4)] [(0, [(mc RA (v3.getD v4 RH.z).a7)]), (1, [.i (v3.getD v4 RH.z).a3]), (2, [.i (v3.getD (v4 - 1) RH.z).a0, .i (v3.getD (v4 - 1) RH.z).a1]), (9, [.i (v3.getD v4 RH.z).a0, .i (v3.getD v4 RH.z).a1])] []) [] (vf) (hF g7 w7) bE
    ·
     have w5 := kG Z6 v3 ((0 + (v4 * 8)) + 0) v4 0 2 8 <| kB v4 v3.length <| kI (v4 : Int) (Int.ofNat v4) <| hF g4 w4
     refine Mach.ok_ite (fun g5 => ?_) (fun g5 => ?_)
     ·
      have w6 := hT g5 <| kF ((v3.getD v4 RH.z).a0) (1 : Int) <| hT g5 w5
      refine Mach.ok_ite (fun g6 => ?_) (fun g6 => ?_)
      ·
       exact Mach.okF (Ze (oq [1, 2, 5, 6, 11, 12, 15, 17, 21]) [(0, (((v4 - 1) : Nat) : Int)), (1, ((v3.getD v4 RH.z).a1 % (1048576 : Int)))] [(0, v4), (1, v4), (2, (v4 - 1)), (3, v4)] [(0, [(mc RA (v3.getD v4 RH.z).a7)]), (1, [.i (v3.getD v4 RH.z).a3]), (2, [.i (v3.getD (v4 - 1) RH.z).a0, .i (v3.getD (v4 - 1) RH.z).a1]), (5, [.i (v3.getD v4 RH.z).a0, .i (v3.getD v4 RH.z).a1])] []) [] (vf) (kY ((0 : Int) ≥ ((v3.getD v4 RH.z).a1 % (1048576 : Int))) <| kM ((v3.getD v4 RH.z).a1) (1048576 : Int) <| hT g6 w6) bE
      ·
       refine Mach.ok_ite (fun g7 => ?_) (fun g7 => ?_)
       ·
        have w8 := kY ((v3.getD v4 RH.z).a1 ≥ (1048576 : Int)) <| hF g6 w6
        refine Mach.ok_ite (fun g8 => ?_) (fun _ => Mach.ok_none)
        have w9 := kV ((v3.getD v4 RH.z).a1) (1048576 : Int) w8
        refine Mach.ok_ite (fun g9 => ?_) (fun g9 => ?_)
        ·
         refine Mach.ok_ite (fun g10 => ?_) (fun g10 => ?_)
         ·
          exact Mach.ok_head (bK := Zy 3) (M := Z9 a0 L1 N) (cd := 1000000) (cm := 0) (y := (.h3m0 (v2) (v3) (v4) (0) (v6) (v7) (v8) (v10) (v11) (v12) : Zn)) (fu := 4000) (orc := (Ze (oq [1, 2, 5, 6, 11, 12, 15, 16, 19, 21, 23, 26]) [(0, (((v4 - 1) : Nat) : Int)), (1, ((v3.getD v4 RH.z).a1 / (1048576 : Int))), (2, ((v3.getD v4 RH.z).a1 % (1048576 : Int))), (3, ((v3.getD v4 RH.z).a1 % (1048576 : Int)))] [(0, v4), (1, v4), (2, (v4 - 1)), (3, v4)] [(0, [(mc RA (v3.getD v4 RH.z).a7)]), (1, [.i (v3.getD v4 RH.z).a3]), (2, [.i (v3.getD (v4 - 1) RH.z).a0, .i (v3.getD (v4 - 1) RH.z).a1]), (5, [.i (v3.getD v4 RH.z).a0, .i (v3.getD v4 RH.z).a1])] [])) (live := (rg 0 22 [])) (tv := fun _ => (κm L1 a0 v2 v3 v4)) (bl := (κd a0 v6 v7 v8 v10 v11 v12)) rfl rfl (show ∀ j ∈ ZC (Zy 3).2, j ∈ ZC (ZX 2) from by decide +kernel) (fun gv => by kernel_rfl) (kN ((0 : Int) ≥ ((v3.getD v4 RH.z).a1 % (1048576 : Int))) <| kM ((v3.getD v4 RH.z).a1) (1048576 : Int) <| kY (((v3.getD v4 RH.z).a1 % (1048576 : Int)) ≥ (1 : Int)) <| kM ((v3.getD v4 RH.z).a1) (1048576 : Int) <| hY g9 w9) rfl (by decide +kernel) (by rfl) (fun _ => ⟨rr, ⟨rr, ⟨rr, ⟨rr, ⟨rr, ⟨rr, ⟨⟨Eq.trans (show κG = vq from (congrArg (Value.int .i64) (by first | rfl | omega))) (by rfl), by rfl⟩, trivial⟩⟩⟩⟩⟩⟩⟩) ⟨sm, ⟨sm, ⟨(Z4 (E := RA) (α := RF) _ v8 _), ⟨(Zal (E := RB) (α := RG) _ v10 _), ⟨(Zal (E := RA) (α := RF) _ v11 _), (hpS trivial)⟩⟩⟩⟩⟩
         ·
          exact Mach.okF (Ze (oq [1, 2, 5, 6, 11, 12, 15, 16, 19, 21, 22]) [(0, (((v4 - 1) : Nat) : Int)), (1, ((v3.getD v4 RH.z).a1 / (1048576 : Int))), (2, ((v3.getD v4 RH.z).a1 % (1048576 : Int)))] [(0, v4), (1, v4), (2, (v4 - 1)), (3, v4)] [(0, [(mc RA (v3.getD v4 RH.z).a7)]), (1, [.i (v3.getD v4 RH.z).a3]), (2, [.i (v3.getD (v4 - 1) RH.z).a0, .i (v3.getD (v4 - 1) RH.z).a1]), (5, [.i (v3.getD v4 RH.z).a0, .i (v3.getD v4 RH.z).a1])] []) [] (vf) (kN (((v3.getD v4 RH.z).a1 % (1048576 : Int)) ≥ (1 : Int)) <| kM ((v3.getD v4 RH.z).a1) (1048576 : Int) <| hY g9 w9) bE
        ·
         exact Mach.okF (Ze (oq [1, 2, 5, 6, 11, 12, 15, 16, 19, 20]) [(0, (((v4 - 1) : Nat) : Int)), (1, ((v3.getD v4 RH.z).a1 / (1048576 : Int)))] [(0, v4), (1, v4), (2, (v4 - 1)), (3, v4)] [(0, [(mc RA (v3.getD v4 RH.z).a7)]), (1, [.i (v3.getD v4 RH.z).a3]), (2, [.i (v3.getD (v4 - 1) RH.z).a0, .i (v3.getD (v4 - 1) RH.z).a1]), (5, [.i (v3.getD v4 RH.z).a0, .i (v3.getD v4 RH.z).a1])] []) [] (vf) (hN g9 w9) bE
       ·
        exact Mach.okF (Ze (oq [1, 2, 5, 6, 11, 12, 15, 16, 18]) [(0, (((v4 - 1) : Nat) : Int))] [(0, v4), (1, v4), (2, (v4 - 1)), (3, v4)] [(0, [(mc RA (v3.getD v4 RH.z).a7)]), (1, [.i (v3.getD v4 RH.z).a3]), (2, [.i (v3.getD (v4 - 1) RH.z).a0, .i (v3.getD (v4 - 1) RH.z).a1]), (5, [.i (v3.getD v4 RH.z).a0, .i (v3.getD v4 RH.z).a1])] []) [] (vf) (kN ((v3.getD v4 RH.z).a1 ≥ (1048576 : Int)) <| hF g6 w6) bE
     ·
      exact Mach.okF (Ze (oq [1, 2, 5, 6, 10]) [(0, (((v4 - 1) : Nat) : Int))] [(0, v4), (1, v4), (2, (v4 - 1)), (3, v4)] [(0, [(mc RA (v3.getD v4 RH.z).a7)]), (1, [.i (v3.getD v4 RH.z).a3]), (2, [.i (v3.getD (v4 - 1) RH.z).a0, .i (v3.getD (v4 - 1) RH.z).a1]), (5, [.i (v3.getD v4 RH.z).a0, .i (v3.getD v4 RH.z).a1])] []) [] (vf) (hF g5 w5) bE
   ·
    exact Mach.ok_head (bK := Zy 3) (M := Z9 a0 L1 N) (cd := 1000000) (cm := 0) (y := (.h3m0 (v2) (v3) (v4) (0) (v6) (v7) (v8) (v10) (v11) (v12) : Zn)) (fu := 4000) (orc := (Ze (oq [1, 2, 4]) [] [(0, v4), (1, v4)] [(0, [(mc RA (v3.getD v4 RH.z).a7)]), (1, [.i (v3.getD v4 RH.z).a3])] [])) (live := (rg 0 22 [])) (tv := fun _ => (κm L1 a0 v2 v3 v4)) (bl := (κd a0 v6 v7 v8 v10 v11 v12)) rfl rfl (show ∀ j ∈ ZC (Zy 3).2, j ∈ ZC (ZX 2) from by decide +kernel) (fun gv => by kernel_rfl) (kN ((v4 : Int) > (0 : Int)) w2) rfl (by decide +kernel) (by rfl) (fun _ => ⟨rr, ⟨rr, ⟨rr, ⟨rr, ⟨rr, ⟨rr, ⟨⟨Eq.trans (show κG = vq from (congrArg (Value.int .i64) (by first | rfl | omega))) (by rfl), by rfl⟩, trivial⟩⟩⟩⟩⟩⟩⟩) ⟨sm, ⟨sm, ⟨(Z4 (E := RA) (α := RF) _ v8 _), ⟨(Zal (E := RB) (α := RG) _ v10 _), ⟨(Zal (E := RA) (α := RF) _ v11 _), (hpS trivial)⟩⟩⟩⟩⟩
 ·
  refine Mach.ok_ite (fun g1 => ?_) (fun _ => Mach.ok_none)
  exact Mach.okN (Ze (oq [0]) [(0, (((v2 + 1) : Nat) : Int))] [] [] []) (rg 0 22 []) [some (ms RE L1), some (κy a0), some (vp 0 0), some (vi (((v2 + 1) : Nat) : Int))] (kW ((v2 : Int) + (1 : Int)) (((v2 + 1) : Nat) : Int) <| hN g0 Zp) (tC (tC (tC (tC (tE))))) (bS [vp 1 0, vi (i64.wrap ((17 : Int) + a0)), ms RD v6, ms eI v7, vs 2 0 v8.length v8.length] <| bS (hpC (i64.wrap ((17 : Int) + a0)) 3 v10.length 4 v11.length 5 v12) <| bQ <| bR <| bR <| Zs <| bQ <| bE) (show 1 ∈ ZC (ZX 2) from by decide +kernel)

theorem Zi0 (a0 : Int) (L1 : List RJ) (v2 : Nat) (v3 : List RH) (v4 v5 : Nat) (v7 : List RI) (v8 : List Int) (v9 : List RF) (v11 : List RG) (v12 : List RF) (v13 : Nat → List Int) (N : Nat) : (Z9 a0 L1 N).Ok Try.prog Z7 (.h3m0 v2 v3 v4 v5 v7 v8 v9 v11 v12 v13 : Zn) (Z8 a0 L1 N (.h3m0 v2 v3 v4 v5 v7 v8 v9 v11 v12 v13 : Zn)) := by
 show (Z9 a0 L1 N).Ok Try.prog Z7 (.h3m0 v2 v3 v4 v5 v7 v8 v9 v11 v12 v13 : Zn) (ZbE a0 L1 N v2 v3 v4 v5 v7 v8 v9 v11 v12 v13)
 unfold ZbE
 refine Mach.ok_ite (fun g0 => ?_) (fun _ => Mach.ok_none)
 have w1 := kG Z6 v3 ((0 + (v4 * 8)) + 7) v4 7 1 8 <| kB v4 v3.length <| kI (v4 : Int) (Int.ofNat v4) Zp
 refine Mach.ok_ite (fun g1 => ?_) (fun g1 => ?_)
 ·
  have w2 := kG RA ((v3.getD v4 RH.z).a7) (0 + (v5 * 2)) v5 0 2 2 <| kB v5 (v3.getD v4 RH.z).a7.length <| kI (v5 : Int) (Int.ofNat v5) <| kG Z6 v3 ((0 + (v4 * 8)) + 7) v4 7 1 8 <| kB v4 v3.length <| kI (v4 : Int) (Int.ofNat v4) <| kG Z6 v3 (((0 + (v4 * 8)) + 2) + 2) v4 4 1 8 <| kB v4 v3.length <| kI (v4 : Int) (Int.ofNat v4) <| hY g1 w1
  refine Mach.ok_ite (fun g2 => ?_) (fun g2 => ?_)
  ·
   refine Mach.ok_ite (fun g3 => ?_) (fun _ => Mach.ok_none)
   have w4 := kX ((IntKind.u64.wrap (v5 : Int)) == (v5 : Int)) true (beq_iff_eq.2 (ZeY ltA)) <| kF (((v3.getD v4 RH.z).a7.getD v5 RF.z).a0) (2 : Int) <| hT g2 w2
   refine Mach.ok_ite (fun g4 => ?_) (fun _ => Mach.ok_none)
   refine Mach.ok_ite (fun g5 => ?_) (fun _ => Mach.ok_none)
   have w6 := kM ((v3.getD v4 RH.z).a4 / (2 ^ v5 : Int)) (2 : Int) <| kS (v5 : Int) v5 .i64 w4
   refine Mach.ok_ite (fun g6 => ?_) (fun g6 => ?_)
   ·
    exact Mach.okF (Ze (oq [1, 3, 4, 7]) [(0, (v5 : Int)), (2, (((v3.getD v4 RH.z).a4 / (2 ^ v5 : Int)) % (2 : Int)))] [(0, v4), (1, v4), (2, v4), (3, v5)] [(0, [(mc RA (v3.getD v4 RH.z).a7)]), (1, [.i (v3.getD v4 RH.z).a4]), (2, [(mc RA (v3.getD v4 RH.z).a7)]), (3, (RA.cel ((v3.getD v4 RH.z).a7.getD v5 RF.z)))] [(0, .sh v5)]) [] (vf) (hT g6 w6) bE
   ·
    exact Mach.okN (Ze (oq [1, 3, 4, 6]) [(0, (v5 : Int)), (2, (((v3.getD v4 RH.z).a4 / (2 ^ v5 : Int)) % (2 : Int))), (3, (((v5 + 1) : Nat) : Int))] [(0, v4), (1, v4), (2, v4), (3, v5)] [(0, [(mc RA (v3.getD v4 RH.z).a7)]), (1, [.i (v3.getD v4 RH.z).a4]), (2, [(mc RA (v3.getD v4 RH.z).a7)]), (3, (RA.cel ((v3.getD v4 RH.z).a7.getD v5 RF.z)))] [(0, .sh v5)]) (rg 0 22 []) [some (ms RE L1), some (κy a0), some (vp 0 0), some (vi (v2 : Int)), some (ms Z6 v3), some (vi (v4 : Int)), some (vi (((v5 + 1) : Nat) : Int))] (kW ((v5 : Int) + (1 : Int)) (((v5 + 1) : Nat) : Int) <| hF g6 w6) (tC (tC (tC (tC (tC (tC (tC (tE)))))))) (bS [vp 1 0, vi (i64.wrap ((17 : Int) + a0)), ms RD v7, ms eI v8, vs 2 0 v9.length v9.length] <| bS (hpC (i64.wrap ((17 : Int) + a0)) 3 v11.length 4 v12.length 5 v13) <| bQ <| bR <| bR <| Zs <| bQ <| bE) (show 3 ∈ ZC (ZX 3) from by decide +kernel)
  ·
   refine Mach.ok_ite (fun g3 => ?_) (fun g3 => ?_)
   ·
    refine Mach.ok_ite (fun g4 => ?_) (fun g4 => ?_)
    ·
     refine Mach.ok_ite (fun g5 => ?_) (fun _ => Mach.ok_none)
     have w6 := kX ((IntKind.u64.wrap (v5 : Int)) == (v5 : Int)) true (beq_iff_eq.2 (ZeY ltA)) <| hT g3 <| hT g4 <| hT g3 <| hF g2 w2
     refine Mach.ok_ite (fun g6 => ?_) (fun _ => Mach.ok_none)
     refine Mach.ok_ite (fun g7 => ?_) (fun _ => Mach.ok_none)
     have w8 := kM ((v3.getD v4 RH.z).a4 / (2 ^ v5 : Int)) (2 : Int) <| kS (v5 : Int) v5 .i64 w6
     refine Mach.ok_ite (fun g8 => ?_) (fun g8 => ?_)
     ·
      exact Mach.okN (Ze (oq [1, 2, 5, 7, 9, 11]) [(0, (v5 : Int)), (2, (((v3.getD v4 RH.z).a4 / (2 ^ v5 : Int)) % (2 : Int))), (3, (((v5 + 1) : Nat) : Int))] [(0, v4), (1, v4), (2, v4), (3, v5)] [(0, [(mc RA (v3.getD v4 RH.z).a7)]), (1, [.i (v3.getD v4 RH.z).a4]), (2, [(mc RA (v3.getD v4 RH.z).a7)]), (3, (RA.cel ((v3.getD v4 RH.z).a7.getD v5 RF.z)))] [(0, .sh v5)]) (rg 0 22 []) [some (ms RE L1), some (κy a0), some (vp 0 0), some (vi (v2 : Int)), some (ms Z6 v3), some (vi (v4 : Int)), some (vi (((v5 + 1) : Nat) : Int))] (kW ((v5 : Int) + (1 : Int)) (((v5 + 1) : Nat) : Int) <| hT g8 w8) (tC (tC (tC (tC (tC (tC (tC (tE)))))))) (bS [vp 1 0, vi (i64.wrap ((17 : Int) + a0)), ms RD v7, ms eI v8, vs 2 0 v9.length v9.length] <| bS (hpC (i64.wrap ((17 : Int) + a0)) 3 v11.length 4 v12.length 5 v13) <| bQ <| bR <| bR <| Zs <| bQ <| bE) (show 3 ∈ ZC (ZX 3) from by decide +kernel)
     ·
      exact Mach.okF (Ze (oq [1, 2, 5, 7, 9, 10]) [(0, (v5 : Int)), (2, (((v3.getD v4 RH.z).a4 / (2 ^ v5 : Int)) % (2 : Int)))] [(0, v4), (1, v4), (2, v4), (3, v5)] [(0, [(mc RA (v3.getD v4 RH.z).a7)]), (1, [.i (v3.getD v4 RH.z).a4]), (2, [(mc RA (v3.getD v4 RH.z).a7)]), (3, (RA.cel ((v3.getD v4 RH.z).a7.getD v5 RF.z)))] [(0, .sh v5)]) [] (vf) (hF g8 w8) bE
    ·
     refine Mach.ok_ite (fun g5 => ?_) (fun g5 => ?_)
     ·
      have w6 := kY (((v3.getD v4 RH.z).a7.getD v5 RF.z).a1 ≥ (1048576 : Int)) <| hF g4 <| hT g3 <| hF g2 w2
      refine Mach.ok_ite (fun g6 => ?_) (fun _ => Mach.ok_none)
      have w7 := kV (((v3.getD v4 RH.z).a7.getD v5 RF.z).a1) (1048576 : Int) w6
      refine Mach.ok_ite (fun g7 => ?_) (fun g7 => ?_)
      ·
       have w8 := kM (((v3.getD v4 RH.z).a7.getD v5 RF.z).a1) (1048576 : Int) <| hY g7 w7
       refine Mach.ok_ite (fun g8 => ?_) (fun g8 => ?_)
       ·
        have w9 := hT g3 <| kY ((((v3.getD v4 RH.z).a7.getD v5 RF.z).a1 % (1048576 : Int)) ≥ (1 : Int)) w8
        refine Mach.ok_ite (fun g9 => ?_) (fun _ => Mach.ok_none)
        have w10 := kX ((IntKind.u64.wrap (v5 : Int)) == (v5 : Int)) true (beq_iff_eq.2 (ZeY ltA)) w9
        refine Mach.ok_ite (fun g10 => ?_) (fun _ => Mach.ok_none)
        refine Mach.ok_ite (fun g11 => ?_) (fun _ => Mach.ok_none)
        have w12 := kM ((v3.getD v4 RH.z).a4 / (2 ^ v5 : Int)) (2 : Int) <| kS (v5 : Int) v5 .i64 w10
        refine Mach.ok_ite (fun g12 => ?_) (fun g12 => ?_)
        ·
         exact Mach.okN (Ze (oq [1, 2, 5, 6, 9, 11, 13, 15, 17]) [(0, (((v3.getD v4 RH.z).a7.getD v5 RF.z).a1 / (1048576 : Int))), (1, (((v3.getD v4 RH.z).a7.getD v5 RF.z).a1 % (1048576 : Int))), (2, (v5 : Int)), (4, (((v3.getD v4 RH.z).a4 / (2 ^ v5 : Int)) % (2 : Int))), (5, (((v5 + 1) : Nat) : Int))] [(0, v4), (1, v4), (2, v4), (3, v5)] [(0, [(mc RA (v3.getD v4 RH.z).a7)]), (1, [.i (v3.getD v4 RH.z).a4]), (2, [(mc RA (v3.getD v4 RH.z).a7)]), (3, (RA.cel ((v3.getD v4 RH.z).a7.getD v5 RF.z)))] [(1, .sh v5)]) (rg 0 22 []) [some (ms RE L1), some (κy a0), some (vp 0 0), some (vi (v2 : Int)), some (ms Z6 v3), some (vi (v4 : Int)), some (vi (((v5 + 1) : Nat) : Int))] (kW ((v5 : Int) + (1 : Int)) (((v5 + 1) : Nat) : Int) <| hT g12 w12) (tC (tC (tC (tC (tC (tC (tC (tE)))))))) (bS [vp 1 0, vi (i64.wrap ((17 : Int) + a0)), ms RD v7, ms eI v8, vs 2 0 v9.length v9.length] <| bS (hpC (i64.wrap ((17 : Int) + a0)) 3 v11.length 4 v12.length 5 v13) <| bQ <| bR <| bR <| Zs <| bQ <| bE) (show 3 ∈ ZC (ZX 3) from by decide +kernel)
        ·
         exact Mach.okF (Ze (oq [1, 2, 5, 6, 9, 11, 13, 15, 16]) [(0, (((v3.getD v4 RH.z).a7.getD v5 RF.z).a1 / (1048576 : Int))), (1, (((v3.getD v4 RH.z).a7.getD v5 RF.z).a1 % (1048576 : Int))), (2, (v5 : Int)), (4, (((v3.getD v4 RH.z).a4 / (2 ^ v5 : Int)) % (2 : Int)))] [(0, v4), (1, v4), (2, v4), (3, v5)] [(0, [(mc RA (v3.getD v4 RH.z).a7)]), (1, [.i (v3.getD v4 RH.z).a4]), (2, [(mc RA (v3.getD v4 RH.z).a7)]), (3, (RA.cel ((v3.getD v4 RH.z).a7.getD v5 RF.z)))] [(1, .sh v5)]) [] (vf) (hF g12 w12) bE
       ·
        exact Mach.okF (Ze (oq [1, 2, 5, 6, 9, 11, 12]) [(0, (((v3.getD v4 RH.z).a7.getD v5 RF.z).a1 / (1048576 : Int))), (1, (((v3.getD v4 RH.z).a7.getD v5 RF.z).a1 % (1048576 : Int)))] [(0, v4), (1, v4), (2, v4), (3, v5)] [(0, [(mc RA (v3.getD v4 RH.z).a7)]), (1, [.i (v3.getD v4 RH.z).a4]), (2, [(mc RA (v3.getD v4 RH.z).a7)]), (3, (RA.cel ((v3.getD v4 RH.z).a7.getD v5 RF.z)))] []) [] (vf) (kN ((((v3.getD v4 RH.z).a7.getD v5 RF.z).a1 % (1048576 : Int)) ≥ (1 : Int)) w8) bE
      ·
       exact Mach.okF (Ze (oq [1, 2, 5, 6, 9, 10]) [(0, (((v3.getD v4 RH.z).a7.getD v5 RF.z).a1 / (1048576 : Int)))] [(0, v4), (1, v4), (2, v4), (3, v5)] [(0, [(mc RA (v3.getD v4 RH.z).a7)]), (1, [.i (v3.getD v4 RH.z).a4]), (2, [(mc RA (v3.getD v4 RH.z).a7)]), (3, (RA.cel ((v3.getD v4 RH.z).a7.getD v5 RF.z)))] []) [] (vf) (hN g7 w7) bE
     ·
      exact Mach.okF (Ze (oq [1, 2, 5, 6, 8]) [] [(0, v4), (1, v4), (2, v4), (3, v5)] [(0, [(mc RA (v3.getD v4 RH.z).a7)]), (1, [.i (v3.getD v4 RH.z).a4]), (2, [(mc RA (v3.getD v4 RH.z).a7)]), (3, (RA.cel ((v3.getD v4 RH.z).a7.getD v5 RF.z)))] []) [] (vf) (kN (((v3.getD v4 RH.z).a7.getD v5 RF.z).a1 ≥ (1048576 : Int)) <| hF g4 <| hT g3 <| hF g2 w2) bE
   ·
    exact Mach.okF (Ze (oq [1, 2, 4]) [] [(0, v4), (1, v4), (2, v4), (3, v5)] [(0, [(mc RA (v3.getD v4 RH.z).a7)]), (1, [.i (v3.getD v4 RH.z).a4]), (2, [(mc RA (v3.getD v4 RH.z).a7)]), (3, (RA.cel ((v3.getD v4 RH.z).a7.getD v5 RF.z)))] []) [] (vf) (hF g3 <| hF g2 w2) bE
 ·
  refine Mach.ok_ite (fun g2 => ?_) (fun _ => Mach.ok_none)
  exact Mach.okN (Ze (oq [0]) [(0, (((v4 + 1) : Nat) : Int))] [(0, v4)] [(0, [(mc RA (v3.getD v4 RH.z).a7)])] []) (rg 0 22 []) [some (ms RE L1), some (κy a0), some (vp 0 0), some (vi (v2 : Int)), some (ms Z6 v3), some (vi (((v4 + 1) : Nat) : Int))] (kW ((v4 : Int) + (1 : Int)) (((v4 + 1) : Nat) : Int) <| hN g1 w1) (tC (tC (tC (tC (tC (tC (tE))))))) (bS [vp 1 0, vi (i64.wrap ((17 : Int) + a0)), ms RD v7, ms eI v8, vs 2 0 v9.length v9.length] <| bS (hpC (i64.wrap ((17 : Int) + a0)) 3 v11.length 4 v12.length 5 v13) <| bQ <| bR <| bR <| Zs <| bQ <| bE) (show 2 ∈ ZC (ZX 3) from by decide +kernel)

theorem Zkc (a0 : Int) (L1 : List RJ) (N : Nat) : (Z9 a0 L1 N).Enter Try.prog Z7 #[Value.int .u8 a0, ms RE L1] (Zdm a0 L1 N) := by
 unfold Zdm
 refine Mach.en_ite (fun g0 => ?_) (fun _ => Mach.en_none)
 refine Mach.en_ite (fun g1 => ?_) (fun _ => Mach.en_none)
 have w2 := kX ((i64.wrap a0) == a0) true (beq_iff_eq.2 (wrap_i64 ltA)) Zp
 refine Mach.en_bind (fun z2 c2 => ?_)
 cases z2 with
 | r0 =>
  refine Mach.en_bind (fun z3 c3 => ?_)
  cases z3 with
  | r0 =>
   exact Mach.enF (Ze (oq []) [(0, a0)] [] [] [(0, (Zjz c2 [] 0).t), (1, (Ziq c3 [] 0).t)]) [] (vf) (kK (ZlL c3 [] 0) <| kK (Znh c2 [] 0) w2) bE
  | r1 y3_0 =>
   exact Mach.enF (Ze (oq []) [(0, a0)] [] [] [(0, (Zjz c2 [] 0).t), (1, (Zir c3 [] 0).t)]) [] (vf) (kK (ZlM c3 [] 0) <| kK (Znh c2 [] 0) w2) bE
 | r1 y2_0 =>
  refine Mach.en_bind (fun z3 c3 => ?_)
  cases z3 with
  | r0 =>
   exact Mach.enF (Ze (oq []) [(0, a0)] [] [] [(0, (Zj0 c2 [] 0).t), (1, (Ziq c3 [] 20).t)]) [] (vf) (kK (ZlL c3 [] 20) <| kK (Zni c2 [] 0) w2) bE
  | r1 y3_0 =>
   exact Mach.en_headW (bK := Zy 1) (M := Z9 a0 L1 N) (cd := 1000000) (cm := 0) (y := (.h1m0 (0) (y3_0) (([] : List Int)) (([] : List RF)) (((List.replicate ((i64.wrap ((16 : Int) + (1 : Int)))).toNat (⟨(0 : Int), (0 : Int), (0 : Int), (0 : Int), (0 : Int)⟩ : RG)).set ((i64.wrap ((1 : Int) - (1 : Int)))).toNat (⟨(1 : Int), (16 : Int), (255 : Int), (2 : Int), (0 : Int)⟩ : RG))) (y2_0) ((wOf [([] : List Int), ([] : List Int), ([] : List Int), ([] : List Int), ([] : List Int), ([] : List Int), ([] : List Int), ([] : List Int), ([] : List Int), ([] : List Int), ([] : List Int), ([] : List Int), ([] : List Int), ([] : List Int), ([] : List Int), ([] : List Int), ([] : List Int)])) : Zn)) (fu := 4000) (orc := (Ze (oq []) [(0, a0)] [] [] [(0, (Zj0 c2 [] 0).t), (1, (Zir c3 [] 20).t)])) (live := (21 :: (0 :: (500000022 :: (rg 1 19 []))))) (tv := [some (ms RE L1), some (κy a0), some (vp 21 0), some (vq)]) (bl := [some (.cells [vp 0 0, vi (i64.wrap ((17 : Int) + a0)), ms RD y3_0, ms eI ([] : List Int), vn] 37), some (.cells [vi (i64.wrap ((17 : Int) + a0)), vs 1 0 ((i64.wrap ((16 : Int) + (1 : Int)))).toNat ((i64.wrap ((16 : Int) + (1 : Int)))).toNat, vs 2 0 y2_0.length y2_0.length, vs 3 0 0 0, vs 4 0 0 0, vs 5 0 0 0, vs 6 0 0 0, vs 7 0 0 0, vs 8 0 0 0, vs 9 0 0 0, vs 10 0 0 0, vs 11 0 0 0, vs 12 0 0 0, vs 13 0 0 0, vs 14 0 0 0, vs 15 0 0 0, vs 16 0 0 0, vs 17 0 0 0, vs 18 0 0 0, vs 19 0 0 0] 67), none, some κi, some (.cells (Za RA y2_0) 41), some κa, some κa, some κa, some κa, some κa, some κa, some κa, some κa, some κa, some κa, some κa, some κa, some κa, some κa, some κa, some κa, some κa]) [some (.cells [vp 1 0, vi (i64.wrap ((17 : Int) + a0)), ms RD y3_0, ms eI ([] : List Int), vn] 37), some (.cells [vi (i64.wrap ((17 : Int) + a0)), vs 3 0 ((List.replicate ((i64.wrap ((16 : Int) + (1 : Int)))).toNat (⟨(0 : Int), (0 : Int), (0 : Int), (0 : Int), (0 : Int)⟩ : RG)).set ((i64.wrap ((1 : Int) - (1 : Int)))).toNat (⟨(1 : Int), (16 : Int), (255 : Int), (2 : Int), (0 : Int)⟩ : RG)).length ((List.replicate ((i64.wrap ((16 : Int) + (1 : Int)))).toNat (⟨(0 : Int), (0 : Int), (0 : Int), (0 : Int), (0 : Int)⟩ : RG)).set ((i64.wrap ((1 : Int) - (1 : Int)))).toNat (⟨(1 : Int), (16 : Int), (255 : Int), (2 : Int), (0 : Int)⟩ : RG)).length, vs 4 0 y2_0.length y2_0.length, vs 5 0 ([] : List Int).length ([] : List Int).length, vs 6 0 ([] : List Int).length ([] : List Int).length, vs 7 0 ([] : List Int).length ([] : List Int).length, vs 8 0 ([] : List Int).length ([] : List Int).length, vs 9 0 ([] : List Int).length ([] : List Int).length, vs 10 0 ([] : List Int).length ([] : List Int).length, vs 11 0 ([] : List Int).length ([] : List Int).length, vs 12 0 ([] : List Int).length ([] : List Int).length, vs 13 0 ([] : List Int).length ([] : List Int).length, vs 14 0 ([] : List Int).length ([] : List Int).length, vs 15 0 ([] : List Int).length ([] : List Int).length, vs 16 0 ([] : List Int).length ([] : List Int).length, vs 17 0 ([] : List Int).length ([] : List Int).length, vs 18 0 ([] : List Int).length ([] : List Int).length, vs 19 0 ([] : List Int).length ([] : List Int).length, vs 20 0 ([] : List Int).length ([] : List Int).length, vs 21 0 ([] : List Int).length ([] : List Int).length] 67), none, some κi, some (.cells (Za RA y2_0) 41), some κa, some κa, some κa, some κa, some κa, some κa, some κa, some κa, some κa, some κa, some κa, some κa, some κa, some κa, some κa, some κa, some κa] [(2, 41)] 0 ⟨(wk_c ⟨.inl rfl, ⟨.inl rfl, ⟨.inl rfl, ⟨.inl rfl, ⟨.inr ⟨rfl, _, rfl⟩, trivial⟩⟩⟩⟩⟩), ⟨(.inl rfl), ⟨(.inl rfl), ⟨(.inl rfl), ⟨(.inl rfl), ⟨(.inl rfl), ⟨(.inl rfl), ⟨(.inl rfl), ⟨(.inl rfl), ⟨(.inl rfl), ⟨(.inl rfl), ⟨(.inl rfl), ⟨(.inl rfl), ⟨(.inl rfl), ⟨(.inl rfl), ⟨(.inl rfl), ⟨(.inl rfl), ⟨(.inl rfl), ⟨(.inl rfl), ⟨(.inl rfl), ⟨(.inl rfl), ⟨(.inl rfl), trivial⟩⟩⟩⟩⟩⟩⟩⟩⟩⟩⟩⟩⟩⟩⟩⟩⟩⟩⟩⟩⟩⟩ (by rfl) (by rfl) rfl rfl (show ZC (Zy 1).2 = [] from rfl) (by kernel_rfl) (kK (ZlM c3 [] 20) <| kK (Zni c2 [] 0) w2) rfl (by decide +kernel) (by rfl) ⟨rr, ⟨rr, ⟨rr, ⟨⟨Eq.trans (show κG = vq from (congrArg (Value.int .i64) (by first | rfl | omega))) (by rfl), by rfl⟩, trivial⟩⟩⟩⟩ ⟨sm, ⟨⟨rfl, ⟨[], (show ([vi (i64.wrap ((17 : Int) + a0)), vs 3 0 ((i64.wrap ((16 : Int) + (1 : Int)))).toNat ((i64.wrap ((16 : Int) + (1 : Int)))).toNat, vs 4 0 y2_0.length y2_0.length, vs 5 0 0 0, vs 6 0 0 0, vs 7 0 0 0, vs 8 0 0 0, vs 9 0 0 0, vs 10 0 0 0, vs 11 0 0 0, vs 12 0 0 0, vs 13 0 0 0, vs 14 0 0 0, vs 15 0 0 0, vs 16 0 0 0, vs 17 0 0 0, vs 18 0 0 0, vs 19 0 0 0, vs 20 0 0 0, vs 21 0 0 0] : List Value) = _ from (Zf rfl (Zf (Zo rfl eqA eqA) (Zf rfl (Zf (Zo rfl eqA eqA) (Zf (Zo rfl eqA eqA) (Zf (Zo rfl eqA eqA) (Zf (Zo rfl eqA eqA) (Zf (Zo rfl eqA eqA) (Zf (Zo rfl eqA eqA) (Zf (Zo rfl eqA eqA) (Zf (Zo rfl eqA eqA) (Zf (Zo rfl eqA eqA) (Zf (Zo rfl eqA eqA) (Zf (Zo rfl eqA eqA) (Zf (Zo rfl eqA eqA) (Zf (Zo rfl eqA eqA) (Zf (Zo rfl eqA eqA) (Zf (Zo rfl eqA eqA) (Zf (Zo rfl eqA eqA) (Zf (Zo rfl eqA eqA) rfl)))))))))))))))))))).symm)⟩, by rfl⟩, ⟨(Zal (E := RB) (α := RG) _ ((List.replicate ((i64.wrap ((16 : Int) + (1 : Int)))).toNat (⟨(0 : Int), (0 : Int), (0 : Int), (0 : Int), (0 : Int)⟩ : RG)).set ((i64.wrap ((1 : Int) - (1 : Int)))).toNat (⟨(1 : Int), (16 : Int), (255 : Int), (2 : Int), (0 : Int)⟩ : RG)) _), ⟨(Zal (E := RA) (α := RF) _ y2_0 _), ⟨(Z4 (E := eI) (α := Int) _ ([] : List Int) _), ⟨(Z4 (E := eI) (α := Int) _ ([] : List Int) _), ⟨(Z4 (E := eI) (α := Int) _ ([] : List Int) _), ⟨(Z4 (E := eI) (α := Int) _ ([] : List Int) _), ⟨(Z4 (E := eI) (α := Int) _ ([] : List Int) _), ⟨(Z4 (E := eI) (α := Int) _ ([] : List Int) _), ⟨(Z4 (E := eI) (α := Int) _ ([] : List Int) _), ⟨(Z4 (E := eI) (α := Int) _ ([] : List Int) _), ⟨(Z4 (E := eI) (α := Int) _ ([] : List Int) _), ⟨(Z4 (E := eI) (α := Int) _ ([] : List Int) _), ⟨(Z4 (E := eI) (α := Int) _ ([] : List Int) _), ⟨(Z4 (E := eI) (α := Int) _ ([] : List Int) _), ⟨(Z4 (E := eI) (α := Int) _ ([] : List Int) _), ⟨(Z4 (E := eI) (α := Int) _ ([] : List Int) _), ⟨(Z4 (E := eI) (α := Int) _ ([] : List Int) _), ⟨(Z4 (E := eI) (α := Int) _ ([] : List Int) _), ⟨(Z4 (E := eI) (α := Int) _ ([] : List Int) _), trivial⟩⟩⟩⟩⟩⟩⟩⟩⟩⟩⟩⟩⟩⟩⟩⟩⟩⟩⟩⟩⟩

theorem ZiZ (a0 : Int) (L1 : List RJ) (N : Nat) (r : Zj) (h : ZeZ a0 L1 N = some r) : LSpec Try.prog 4 #[Value.int .u8 a0, ms RE L1] [] (ZgD a0 L1 r) (Zgt a0 L1 r) :=
 Mach.spec Zr (Z9 a0 L1 N) Try.func4 (by kernel_rfl) (by kernel_rfl) (fun x => by cases x <;> exact ZH _ rfl) (fun r => by cases r <;> exact ZH _ rfl) (fun x => by
  cases x with
  | h1m0 _ _ _ _ _ _ _ => exact fun _ => (show ¬ (1 ∈ ZC (Zy 1).2) from by decide +kernel)
  | h2m0 _ _ _ _ _ _ _ _ _ => exact fun _ => (show ¬ (2 ∈ ZC (Zy 2).2) from by decide +kernel)
  | h3m0 _ _ _ _ _ _ _ _ _ _ => exact fun _ => (show ¬ (3 ∈ ZC (Zy 3).2) from by decide +kernel)
  ) (fun x => (show (Z9 a0 L1 N).Ok Try.prog Z7 x (Z8 a0 L1 N x) from by
  cases x with
  | h1m0 v2 v4 v5 v6 v8 v9 v10 => exact Ziy a0 L1 v2 v4 v5 v6 v8 v9 v10 N
  | h2m0 v2 v3 v4 v6 v7 v8 v10 v11 v12 => exact Ziz a0 L1 v2 v3 v4 v6 v7 v8 v10 v11 v12 N
  | h3m0 v2 v3 v4 v5 v7 v8 v9 v11 v12 v13 => exact Zi0 a0 L1 v2 v3 v4 v5 v7 v8 v9 v11 v12 v13 N
  )) (Zkc a0 L1 N) (n := N) h

end Ev
end Go.Proofs.Ytomkpfibofpkbaa
namespace Go.Proofs.Ytomkpfibofpkbaa
open Go.RowKit
namespace Ev
section
variable {X R : Type} {step : X → Option (X ⊕ R)} {n : Nat} {x y : X} {r : R}
theorem Zbs (h : step x = some (.inl y)) : ZaL step (n + 1) x = ZaL step n y := by simp [ZaL, h]
theorem Zcm (h : step x = some (.inr r)) : ZaL step (n + 1) x = some r := by simp [ZaL, h]
theorem Zgv {o : Option (X ⊕ R)} (h : o = some (.inl x)) : goM step n o = ZaL step n x := by subst h; rfl
theorem Zlo {o : Option (X ⊕ R)} (h : o = some (.inr r)) : goM step n o = some r := by subst h; rfl
end
section
variable {α : Type}
theorem Zlc {L : List α} {i : Nat} (h : i < L.length) (d : α) : L.take i ++ [L.getD i d] = L.take (i + 1) := by
 rw [List.take_succ_eq_append_getElem h, List.getD_eq_getElem?_getD, List.getElem?_eq_getElem h, Option.getD_some]
theorem ZoK {L : List α} {i : Nat} {v d : α} (h : i < L.length) : (L.set i v).getD i d = v := by simp [h]
theorem ZqX {L : List α} {i j : Nat} {v d : α} (h : i ≠ j) : (L.set i v).getD j d = L.getD j d := by simp [List.getElem?_set_ne h]
theorem Zqs {L : List α} {i j : Nat} {v d : α} (h : i < L.length) : (L.set i v).getD j d = if j = i then v else L.getD j d := by
 by_cases e : j = i
 ·subst e; rw [if_pos rfl, ZoK h]
 ·rw [if_neg e, ZqX (fun h => e h.symm)]
theorem Zub {n i : Nat} {v d : α} (h : i < n) : (List.replicate n v).getD i d = v := by simp [h]
theorem ZjN {L M : List α} {i : Nat} {d : α} (h : i < L.length) : (L ++ M).getD i d = L.getD i d := by simp [List.getElem?_append_left h]
end
theorem ZI {α : Type} {c : Prop} [Decidable c] {a b r : α} (h1 : c → a = r) (h2 : ¬ c → b = r) : (if c then a else b) = r := by
 by_cases h : c
 ·rw [if_pos h]; exact h1 h
 ·rw [if_neg h]; exact h2 h
theorem Zb {α : Type} {c : Prop} [Decidable c] {a b r : α} (h : c) (e : a = r) : (if c then a else b) = r := by rw [if_pos h]; exact e
theorem Zg {α : Type} {c : Prop} [Decidable c] {a b r : α} (h : ¬ c) (e : b = r) : (if c then a else b) = r := by rw [if_neg h]; exact e
theorem Zi {α β : Type} {o : Option α} {a : α} {k : α → Option β} {r : Option β} (h : o = some a) (e : k a = r) : o.bind k = r := by rw [h]; exact e
theorem w64 {x : Int} (h1 : -9223372036854775808 ≤ x) (h2 : x ≤ 9223372036854775807) : IntKind.i64.wrap x = x := wrap_i64 ⟨h1, h2⟩
set_option linter.unusedVariables false
set_option linter.unusedSimpArgs false
set_option maxRecDepth 100000
namespace Hl
abbrev PA := RI
def pl (p : PA) : RG := ⟨p.a3, p.a4, p.a5, p.a6, p.a7⟩
def hd (L : List PA) : List RG := L.flatMap fun p => pl p :: List.replicate p.a4.toNat RG.z
def vl (L : List PA) : List RF := L.flatMap fun p => RF.z :: p.a8
def sz (L : List PA) : Nat := (hd L).length
def isR (Q : Int) : Prop := 1048576 ≤ Q ∧ Q / 1048576 ≤ 1073741824 ∧ 1 ≤ Q % 1048576
instance (Q : Int) : Decidable (isR Q) := by unfold isR; infer_instance
def bit (p : PA) (f : Int) : Prop := p.a5 / 2 ^ f.toNat % 2 = 1
instance (p : PA) (f : Int) : Decidable (bit p f) := by unfold bit; infer_instance
def Zmz (p : PA) (f vK vN : Int) : Prop := (vK = 1 ∧ ¬ bit p f) ∨ (vK = 2 ∧ (vN = 0 ∨ isR vN) ∧ bit p f)
instance (p : PA) (f vK vN : Int) : Decidable (Zmz p f vK vN) := by unfold Zmz; infer_instance
structure Pl (a g : Int) (p : PA) : Prop where
 ad : p.a0 = a
 f1 : 1 ≤ p.a4
 f2 : p.a4 ≤ 16
 fl : (p.a8.length : Int) = p.a4
 k : p.a1 = 2
 n : p.a2 = p.a3 * 1048576 + p.a0
 g1 : 1 ≤ p.a3
 g2 : p.a3 ≤ g
 m0 : 0 ≤ p.a5
 ft : ∀ f : Nat, f < p.a8.length → Zmz p (f : Int) (p.a8.getD f RF.z).a0 (p.a8.getD f RF.z).a1
def Ok (g : Int) : Int → List PA → Prop
 | _, [] => True
 | a, p :: L => Pl a g p ∧ Ok g (a + 1 + p.a4) L
theorem Zld (A B : List PA) : hd (A ++ B) = hd A ++ hd B := by simp [hd]
theorem ZfC (A B : List PA) : vl (A ++ B) = vl A ++ vl B := by simp [vl]
theorem ZfS (p : PA) (B : List PA) : hd (p :: B) = pl p :: (List.replicate p.a4.toNat RG.z ++ hd B) := by simp [hd]
theorem Zei (p : PA) (B : List PA) : vl (p :: B) = RF.z :: (p.a8 ++ vl B) := by simp [vl]
theorem Zle (A B : List PA) : sz (A ++ B) = sz A + sz B := by simp [sz, Zld]
theorem ZdB (p : PA) (B : List PA) : sz (p :: B) = 1 + p.a4.toNat + sz B := by simp [sz, ZfS]; omega
theorem Ok.split {g : Int} : ∀ {A : List PA} {a : Int} {p : PA} {B : List PA}, Ok g a (A ++ p :: B) → Ok g a A ∧ Pl (a + sz A) g p ∧ Ok g (a + sz A + 1 + p.a4) B
 | [], a, p, B, h => ⟨trivial, by have : (sz [] : Int) = 0 := rfl; rw [this, Int.add_zero]; exact h.1, by have : (sz [] : Int) = 0 := rfl; rw [this, Int.add_zero]; exact h.2⟩
 | q :: A, a, p, B, h => by
  have h1 : Pl a g q := h.1
  obtain ⟨h2, h3, h4⟩ := Ok.split (A := A) h.2
  have e : a + 1 + q.a4 + (sz A : Int) = a + (sz (q :: A) : Int) := by rw [ZdB]; have := h1.f1; omega
  rw [e] at h3 h4
  exact ⟨⟨h1, h2⟩, h3, h4⟩
theorem Ok.join {g : Int} : ∀ {A : List PA} {a : Int} {p : PA} {B : List PA}, Ok g a A → Pl (a + sz A) g p → Ok g (a + sz A + 1 + p.a4) B → Ok g a (A ++ p :: B)
 | [], a, p, B, _, h1, h2 => by have e : (sz [] : Int) = 0 := rfl; rw [e, Int.add_zero] at h1 h2; exact ⟨h1, h2⟩
 | q :: A, a, p, B, h, h1, h2 => by
  have e : a + 1 + q.a4 + (sz A : Int) = a + (sz (q :: A) : Int) := by rw [ZdB]; have := h.1.f1; omega
  rw [← e] at h1 h2
  exact ⟨h.1, Ok.join (A := A) h.2 h1 h2⟩
theorem Ok.up {g g' : Int} (hg : g ≤ g') : ∀ {L : List PA} {a : Int}, Ok g a L → Ok g' a L
 | [], _, _ => trivial
 | p :: L, a, h => ⟨{ h.1 with g2 := Int.le_trans h.1.g2 hg }, Ok.up hg h.2⟩
theorem ZfD {g : Int} : ∀ {L : List PA} {a : Int}, Ok g a L → (vl L).length = sz L
 | [], _, _ => rfl
 | p :: L, a, h => by
  have := ZfD h.2
  have := h.1.fl
  rw [Zei, ZdB, List.length_cons, List.length_append]; omega
theorem Ze3 {L : List PA} {k : Nat} (h : k < L.length) : L = L.take k ++ L.getD k RI.z :: L.drop (k + 1) := by
 rw [List.getD_eq_getElem?_getD, List.getElem?_eq_getElem h, Option.getD_some, ← List.drop_eq_getElem_cons h, List.take_append_drop]
theorem Zqt {A B : List PA} {p q : PA} : (A ++ p :: B).set A.length q = A ++ q :: B := by
 rw [List.set_append_right _ _ (by simp)]; simp
theorem Zte (A : List PA) (p : PA) (B : List PA) : (hd (A ++ p :: B)).getD (sz A) RG.z = pl p := by
 rw [Zld, ZfS]; simp [sz]
theorem Zvm (A : List PA) (p q : PA) (B : List PA) (h : q.a4 = p.a4) : (hd (A ++ p :: B)).set (sz A) (pl q) = hd (A ++ q :: B) := by
 rw [Zld, Zld, ZfS, ZfS, h, List.set_append_right _ _ (by simp [sz])]; simp [sz]
theorem Zrx {g : Int} : ∀ {L : List PA} {a : Int}, Ok g a L → ∀ j, j < sz L → (∃ A p B, L = A ++ p :: B ∧ j = sz A) ∨ (hd L).getD j RG.z = RG.z
 | [], _, _, j, h => by simp [sz, hd] at h
 | p :: L, a, hk, j, h => by
  rcases Nat.eq_zero_or_pos j with rfl | h0
  ·exact .inl ⟨[], p, L, rfl, rfl⟩
  ·rw [ZdB] at h
   rcases Nat.lt_or_ge j (1 + p.a4.toNat) with h1 | h1
   ·right
    rw [ZfS]
    obtain ⟨i, rfl⟩ : ∃ i, j = i + 1 := ⟨j - 1, by omega⟩
    rw [List.getD_cons_succ, ZjN (by simp; omega)]
    exact Zub (by omega)
   ·rcases Zrx hk.2 (j - (1 + p.a4.toNat)) (by omega) with ⟨A, q, B, e1, e2⟩ | e
    ·exact .inl ⟨p :: A, q, B, by rw [e1]; rfl, by rw [ZdB]; omega⟩
    ·right
     rw [ZfS]
     obtain ⟨i, rfl⟩ : ∃ i, j = i + 1 := ⟨j - 1, by omega⟩
     rw [List.getD_cons_succ, List.getD_eq_getElem?_getD, List.getElem?_append_right (by simp; omega), ← List.getD_eq_getElem?_getD]
     simpa [show i - p.a4.toNat = i + 1 - (1 + p.a4.toNat) by omega] using e
theorem Zvn {A : List PA} {p : PA} {B : List PA} {f : Nat} (hA : (vl A).length = sz A) (hf : f < p.a8.length) (d : RF) : (vl (A ++ p :: B)).getD (sz A + 1 + f) d = p.a8.getD f d := by
 rw [ZfC, Zei, List.getD_eq_getElem?_getD, List.getElem?_append_right (by omega), hA, show sz A + 1 + f - sz A = f + 1 by omega, List.getElem?_cons_succ, List.getElem?_append_left hf, ← List.getD_eq_getElem?_getD]
theorem Zvo {A : List PA} {p q : PA} {B : List PA} {f : Nat} {v : RF} (hA : (vl A).length = sz A) (hf : f < p.a8.length) (hq : q.a8 = p.a8.set f v) : (vl (A ++ p :: B)).set (sz A + 1 + f) v = vl (A ++ q :: B) := by
 rw [ZfC, ZfC, Zei, Zei, hq, List.set_append_right _ _ (by omega), hA, show sz A + 1 + f - sz A = f + 1 by omega, List.set_cons_succ, List.set_append_left _ _ (by omega)]
/-! ### find -/
def hit (K N : Int) (p : PA) : Prop := p.a1 = K ∧ p.a2 = N ∧ ¬ p.a6 = 0
theorem Zow {w : Int} {L : List PA} {Fr : List Int} {K Q : Int} {N : Nat} (hL : L.length ≤ 100000) : ∀ (m v n : Nat), L.length - v = m → m < n →
  (∃ k, v ≤ k ∧ k < L.length ∧ hit K Q (L.getD k RI.z) ∧ ZaL (ZbC w L Fr K Q N) n (.h1m0 v) = some (.r0 (k : Int) 0)) ∨
  ((∀ k, v ≤ k → k < L.length → ¬ hit K Q (L.getD k RI.z)) ∧ ZaL (ZbC w L Fr K Q N) n (.h1m0 v) = some (.r0 0 21))
 | 0, v, n, hm, hn => by
  obtain ⟨n, rfl⟩ : ∃ m, n = m + 1 := ⟨n - 1, by omega⟩
  exact .inr ⟨fun k h1 h2 => by omega, Zcm (show Zct w L Fr K Q N v = _ from Zg (by omega) rfl)⟩
 | m + 1, v, n, hm, hn => by
  obtain ⟨n, rfl⟩ : ∃ m, n = m + 1 := ⟨n - 1, by omega⟩
  by_cases h : hit K Q (L.getD v RI.z)
  ·exact .inl ⟨v, Nat.le_refl _, by omega, h, Zcm (show Zct w L Fr K Q N v = _ from Zb (by omega) <| Zb ⟨h.1, h.2.1⟩ <| Zb h.2.2 rfl)⟩
  ·have hs : ZbC w L Fr K Q N (.h1m0 v) = some (.inl (.h1m0 (v + 1))) := show Zct w L Fr K Q N v = _ from
    Zb (by omega) <| ZI (fun h1 => Zg (fun h2 => h ⟨h1.1, h1.2, h2⟩) <| Zb (by omega) rfl) (fun _ => Zb (by omega) rfl)
   rcases Zow hL m (v + 1) n (by omega) (by omega) with ⟨k, h1, h2, h3, h4⟩ | ⟨h1, h2⟩
   ·exact .inl ⟨k, by omega, h2, h3, (Zbs hs).trans h4⟩
   ·refine .inr ⟨fun k q1 q2 => ?_, (Zbs hs).trans h2⟩
    rcases Nat.eq_or_lt_of_le q1 with rfl | q3
    ·exact h
    ·exact h1 k q3 q2
theorem Ok.at_ {g : Int} {L : List PA} (hk : Ok g 1 L) {k : Nat} (h : k < L.length) : Pl (1 + sz (L.take k)) g (L.getD k RI.z) ∧ (sz (L.take k) : Int) + 1 + (L.getD k RI.z).a4 ≤ sz L ∧ (hd L).getD (sz (L.take k)) RG.z = pl (L.getD k RI.z) := by
 have e := Ze3 h
 have hk' := hk
 rw [e] at hk'
 obtain ⟨h1, h2, h3⟩ := hk'.split
 refine ⟨h2, ?_, ?_⟩
 ·have : sz L = sz (L.take k) + (1 + (L.getD k RI.z).a4.toNat + sz (L.drop (k + 1))) := by
   conv => lhs; rw [e]
   rw [Zle, ZdB]
  have := h2.f1
  omega
 ·have q := Zte (L.take k) (L.getD k RI.z) (L.drop (k + 1))
  rwa [← e] at q
theorem find2 {g w : Int} {L : List PA} {Fr : List Int} {K Q : Int} {N : Nat} (V : List RF) (W : Nat → List Int) (hk : Ok g 1 L) (hs : sz L ≤ 65536) (hQ : Q ≤ 9223372036854775807) (hN : L.length < N) (hN' : L.length ≤ 100000) :
  ∃ e x k, Zap K Q w (hd L) V W N = some (.r0 x e) ∧ Zas w L Fr K Q N = some (.r0 k e) ∧ (e = 0 → 0 ≤ k ∧ k.toNat < L.length ∧ x = (L.getD k.toNat RI.z).a0 ∧ ¬ (L.getD k.toNat RI.z).a6 = 0) := by
 by_cases hK : ¬ K = 2
 ·exact ⟨10, 0, 0, Zb hK rfl, Zlo (Zb hK rfl), fun h => by cases h⟩
 have hK : K = 2 := Decidable.not_not.1 hK
 by_cases h0 : Q = 0
 ·exact ⟨11, 0, 0, Zg (fun h => h hK) <| Zg (fun h => h h0) rfl, Zlo (Zg (fun h => h hK) <| Zb h0 rfl), fun h => by cases h⟩
 by_cases hi : ¬ isR Q
 ·refine ⟨10, 0, 0, Zg (fun h => h hK) <| Zb h0 ?_, Zlo (Zg (fun h => h hK) <| Zg h0 ?_), fun h => by cases h⟩
  ·unfold isR at hi
   exact ZI (fun h => Zb (by omega) <| ZI (fun h1 => ZI (fun h2 => Zg (by omega) rfl) fun _ => rfl) fun _ => rfl) fun _ => rfl
  ·unfold isR at hi
   exact ZI (fun h => Zb (by omega) <| ZI (fun h1 => Zg (by omega) rfl) fun _ => rfl) fun _ => rfl
 obtain ⟨i1, i2, i3⟩ := Decidable.not_not.1 hi
 have hdoc : ∀ {r}, ZaL (ZbC w L Fr K Q N) N (.h1m0 0) = some r → Zas w L Fr K Q N = some r := fun h =>
  (Zgv (Zg (fun h => h hK) <| Zg h0 <| Zb i1 <| Zb (by omega) <| Zb i2 <| Zb i3 rfl)).trans h
 have hprog : ∀ {r}, (if ((hd L).length : Int) < Q % 1048576 then some (.r0 0 21 : Zab) else if ¬ ((hd L).getD (Q % 1048576 - 1).toNat RG.z).a0 = Q / 1048576 then some (.r0 0 21) else if ((hd L).getD (Q % 1048576 - 1).toNat RG.z).a3 = 0 then some (.r0 0 21) else some (.r0 (Q % 1048576) 0)) = some r → Zap K Q w (hd L) V W N = some r := fun h =>
  Zg (fun h => h hK) <| Zb h0 <| Zb (by omega) <| Zb (by omega) <| Zb (by omega) <| Zb i2 <| Zb i3 h
 rcases Zow (w := w) (Fr := Fr) (K := K) (Q := Q) (N := N) hN' L.length 0 N (by omega) hN with ⟨k, _, k2, ⟨k3, k4, k5⟩, k6⟩ | ⟨h1, h2⟩
 ·obtain ⟨p1, p2, p3⟩ := hk.at_ k2
  have q1 := p1.ad; have q2 := p1.n; have q3 := p1.g1; have q4 := p1.f1
  have e1 : Q % 1048576 = (L.getD k RI.z).a0 := by rw [k4] at q2; omega
  have e2 : Q / 1048576 = (L.getD k RI.z).a3 := by rw [k4] at q2; omega
  refine ⟨0, Q % 1048576, (k : Int), hprog ?_, hdoc k6, fun _ => ⟨by omega, by simpa using k2, by simpa using e1, by simpa using k5⟩⟩
  have e3 : (Q % 1048576 - 1).toNat = sz (L.take k) := by omega
  rw [e3, p3]
  exact Zg (by show ¬ ((sz L : Int) < _); omega) <| Zg (fun h => h e2.symm) <| Zg k5 rfl
 ·refine ⟨21, 0, 0, hprog ?_, hdoc h2, fun h => by cases h⟩
  refine ZI (fun _ => rfl) fun hl => ?_
  have hl : ¬ ((sz L : Int) < Q % 1048576) := hl
  rcases Zrx hk (Q % 1048576 - 1).toNat (by omega) with ⟨A, p, B, e1, e2⟩ | e
  ·subst e1
   obtain ⟨_, p1, _⟩ := hk.split
   have hp : (A ++ p :: B).getD A.length RI.z = p := by simp
   have hm := h1 A.length (by omega) (by simp)
   rw [hp] at hm
   have hg := Zte A p B
   rw [e2, hg]
   refine ZI (fun _ => rfl) fun h3 => Zb ?_ rfl
   have h3 : p.a3 = Q / 1048576 := Decidable.not_not.1 h3
   show p.a6 = 0
   by_cases h4 : p.a6 = 0
   ·exact h4
   ·exfalso
    have q1 := p1.ad; have q2 := p1.n
    exact hm ⟨p1.k.trans hK.symm, by omega, h4⟩
  ·rw [e]
   exact Zb (by show ¬ ((0 : Int) = _); omega) rfl
end Hl
end Ev
end Go.Proofs.Ytomkpfibofpkbaa
namespace Go.Proofs.Ytomkpfibofpkbaa
open Go.IntKind (i64)
open Go.RowKit
namespace Ev
set_option linter.unusedVariables false
set_option linter.unusedSimpArgs false
set_option maxRecDepth 100000
namespace Hl
/-! ### A new object's fields -/
def fr (n : Nat) (m : Int) : List RF := (List.range n).map fun f => if m / 2 ^ f % 2 = 1 then ⟨2, 0⟩ else ⟨1, 0⟩
theorem Zja (n : Nat) (m : Int) : (fr n m).length = n := by simp [fr]
theorem ZgQ (n : Nat) (m : Int) : fr (n + 1) m = fr n m ++ [if m / 2 ^ n % 2 = 1 then (⟨2, 0⟩ : RF) else ⟨1, 0⟩] := by simp [fr, List.range_succ]
theorem Zvp (n : Nat) (m : Int) {f : Nat} (h : f < n) : (fr n m).getD f RF.z = if m / 2 ^ f % 2 = 1 then ⟨2, 0⟩ else ⟨1, 0⟩ := by
 unfold fr
 rw [List.getD_eq_getElem?_getD, List.getElem?_map, List.getElem?_range h]; rfl
theorem ZnQ {p : PA} {n : Nat} (h : p.a8 = fr n p.a5) (f : Nat) (hf : f < p.a8.length) : Zmz p (f : Int) (p.a8.getD f RF.z).a0 (p.a8.getD f RF.z).a1 := by
 rw [h, Zja] at hf
 rw [h, Zvp n p.a5 hf]
 by_cases hb : p.a5 / 2 ^ f % 2 = 1
 ·rw [if_pos hb]; exact .inr ⟨rfl, .inl rfl, hb⟩
 ·rw [if_neg hb]; exact .inl ⟨rfl, hb⟩
theorem half (m : Int) (v : Nat) : m / 2 ^ v / 2 = m / 2 ^ (v + 1) := by
 rw [Int.pow_succ, Int.ediv_ediv_of_nonneg (Int.pow_nonneg (by decide))]
theorem Zj6 (v : Nat) : (0 : Int) < 2 ^ v := Int.pow_pos (by decide)
theorem Znu {a0 a1 : Int} {N : Nat} (h0 : 0 ≤ a1) (h2 : a1 ≤ 65536) (hn : a0 ≤ 16) : ∀ (m v n : Nat), (v : Int) + m = a0 → 0 < v → m < n → ZaL (Zbr a0 a1 N) n (.h1m1 (a1 / 2 ^ v) (fr v a1) v) = some (.r1 (fr a0.toNat a1))
 | 0, v, n, hv, hp, hm => by
  obtain ⟨n, rfl⟩ : ∃ m, n = m + 1 := ⟨n - 1, by omega⟩
  obtain rfl : v = a0.toNat := by omega
  exact Zcm (show ZcS a0 a1 N _ _ _ = _ from Zg (by omega) rfl)
 | m + 1, v, n, hv, hp, hm => by
  obtain ⟨n, rfl⟩ : ∃ m, n = m + 1 := ⟨n - 1, by omega⟩
  have hd0 : 0 ≤ a1 / 2 ^ v := Int.ediv_nonneg h0 (Int.le_of_lt (Zj6 v))
  have hd1 : a1 / 2 ^ v ≤ a1 := Int.ediv_le_self _ h0
  have hs : Zbr a0 a1 N (.h1m1 (a1 / 2 ^ v) (fr v a1) v) = some (.inl (.h1m1 (a1 / 2 ^ (v + 1)) (fr (v + 1) a1) (v + 1))) := by
   show ZcS a0 a1 N _ _ _ = _
   refine Zb (by omega) <| Zb hd0 <| ZI (fun hb => Zb (by rw [Zja]; omega) <| Zb (by omega) <| Zb (by omega) ?_) (fun hb => Zb (by rw [Zja]; omega) <| Zb (by omega) <| Zb (by omega) ?_)
   ·rw [half, ZgQ, if_pos hb]
   ·rw [half, ZgQ, if_neg hb]
  exact (Zbs hs).trans (Znu h0 h2 hn m (v + 1) n (by omega) (by omega) (by omega))
theorem Zm0 {a0 a1 : Int} {N : Nat} (h1 : 1 ≤ a0) (hn : a0 ≤ 16) (h0 : 0 ≤ a1) (h2 : a1 ≤ 65536) (hN : 20 ≤ N) : Zbx a0 a1 N = some (.r1 (fr a0.toNat a1)) := by
 obtain ⟨n, rfl⟩ : ∃ m, N = m + 1 := ⟨N - 1, by omega⟩
 have hs : Zbr a0 a1 (n + 1) .h1m0 = some (.inl (.h1m1 (a1 / 2 ^ 1) (fr 1 a1) 1)) := by
  show ZdQ a0 a1 (n + 1) = _
  have e : a1 / 2 ^ 1 = a1 / 2 := by simp
  have f : fr 1 a1 = [if a1 % 2 = 1 then (⟨2, 0⟩ : RF) else ⟨1, 0⟩] := by simp [fr]
  rw [e, f]
  refine Zb (by omega) <| Zb h0 <| ZI (fun hb => Zb (by omega) ?_) (fun hb => Zb (by omega) ?_)
  ·rw [if_pos hb]
  ·rw [if_neg hb]
 exact (Zgv rfl).trans ((Zbs hs).trans (Znu h0 h2 hn (a0.toNat - 1) 1 n (by omega) (by omega) (by omega)))

/-! ### fill_2 -/
theorem ZlS {a0 a1 a2 a3 a4 a5 a6 : Int} {L7 : List RG} {L8 : List RF} {W : Nat → List Int} {N : Nat} {P Q : List RF} (h1 : 1 ≤ a0) (ha : a0 ≤ 1000000) (hP : (P.length : Int) = a0) (hn : a2 ≤ 16) : ∀ (m v n : Nat) (S : List RF), S.length = m → (v : Int) + m = a2 → m < n →
  ZaL (Zbl a0 a1 a2 a3 a4 a5 a6 L7 L8 W N) n (.h1m0 (P ++ (fr v a3 ++ (S ++ Q))) v) = some (.r0 (P ++ (fr a2.toNat a3 ++ Q)))
 | 0, v, n, [], _, hv, hm => by
  obtain ⟨n, rfl⟩ : ∃ m, n = m + 1 := ⟨n - 1, by omega⟩
  obtain rfl : v = a2.toNat := by omega
  exact Zcm (show Zbc a0 a1 a2 a3 a4 a5 a6 L7 L8 W N _ _ = _ from Zg (by omega) rfl)
 | m + 1, v, n, x :: S, hS, hv, hm => by
  obtain ⟨n, rfl⟩ : ∃ m, n = m + 1 := ⟨n - 1, by omega⟩
  have hw : i64.wrap (a0 + (v : Int)) = a0 + v := w64 (by omega) (by omega)
  have hlen : (P ++ (fr v a3 ++ (x :: S ++ Q))).length = P.length + (v + (S.length + 1 + Q.length)) := by simp [fr]; omega
  have hset : ∀ y, (P ++ (fr v a3 ++ (x :: S ++ Q))).set (a0 + (v : Int)).toNat y = P ++ (fr v a3 ++ [y] ++ (S ++ Q)) := fun y => by
   rw [List.set_append_right _ _ (by omega), List.set_append_right _ _ (by simp [fr]; omega), show (a0 + (v : Int)).toNat - P.length - (fr v a3).length = 0 by simp [fr]; omega]
   simp
  have hs : Zbl a0 a1 a2 a3 a4 a5 a6 L7 L8 W N (.h1m0 (P ++ (fr v a3 ++ (x :: S ++ Q))) v) = some (.inl (.h1m0 (P ++ (fr (v + 1) a3 ++ (S ++ Q))) (v + 1))) := by
   show Zbc a0 a1 a2 a3 a4 a5 a6 L7 L8 W N _ _ = _
   unfold Zbc
   rw [hw]
   refine Zb (by omega) <| Zb (by omega) <| ZI (fun hb => Zb (by omega) <| Zb (by omega) ?_) (fun hb => Zb (by omega) <| Zb (by omega) ?_)
   ·rw [hset, ZgQ, if_pos hb]
   ·rw [hset, ZgQ, if_neg hb]
  exact (Zbs hs).trans (ZlS h1 ha hP hn m (v + 1) n S (by simpa using hS) (by omega) (by omega))
theorem Zox {a0 a1 a2 a3 a4 a5 a6 : Int} {L7 : List RG} {W : Nat → List Int} {N : Nat} {P S Q : List RF} (h1 : 1 ≤ a0) (ha : a0 ≤ 1000000) (hP : (P.length : Int) = a0) (hS : (S.length : Int) = a2) (hn : a2 ≤ 16) (hL : a0 ≤ L7.length) (hN : 20 ≤ N) :
  Zbg a0 a1 a2 a3 a4 a5 a6 L7 (P ++ (S ++ Q)) W N = some (.r0 (P ++ (fr a2.toNat a3 ++ Q))) := by
 have hw : i64.wrap (a0 - 1) = a0 - 1 := w64 (by omega) (by omega)
 refine (Zgv (x := .h1m0 (P ++ (S ++ Q)) 0) ?_).trans ?_
 ·unfold Zdj
  rw [hw]
  exact Zb (by omega) <| Zb (by omega) rfl
 ·exact ZlS (L8 := P ++ (S ++ Q)) h1 ha hP hn S.length 0 N S rfl (by omega) (by omega)

/-! ### fill -/
theorem Zoy {a0 a1 a2 a3 a4 a5 a6 : Int} {L7 : List RG} {L8 : List RF} {N : Nat} {P Q : List RF} (h1 : 1 ≤ a0) (ha : a0 ≤ 1000000) (hP : (P.length : Int) = a0) (hn : a2 ≤ 16) : ∀ (m v n : Nat) (S : List RF), S.length = m → (v : Int) + m = a2 → m < n →
  ZaL (ZbA a0 a1 a2 a3 a4 a5 a6 L7 L8 N) n (.h1m0 (P ++ (fr v a3 ++ (S ++ Q))) v) = some (.r0 (P ++ (fr a2.toNat a3 ++ Q)))
 | 0, v, n, [], _, hv, hm => by
  obtain ⟨n, rfl⟩ : ∃ m, n = m + 1 := ⟨n - 1, by omega⟩
  obtain rfl : v = a2.toNat := by omega
  exact Zcm (show Zbu a0 a1 a2 a3 a4 a5 a6 L7 L8 N _ _ = _ from Zg (by omega) rfl)
 | m + 1, v, n, x :: S, hS, hv, hm => by
  obtain ⟨n, rfl⟩ : ∃ m, n = m + 1 := ⟨n - 1, by omega⟩
  have hw : i64.wrap (a0 + (v : Int)) = a0 + v := w64 (by omega) (by omega)
  have hlen : (P ++ (fr v a3 ++ (x :: S ++ Q))).length = P.length + (v + (S.length + 1 + Q.length)) := by simp [fr]; omega
  have hset : ∀ y, (P ++ (fr v a3 ++ (x :: S ++ Q))).set (a0 + (v : Int)).toNat y = P ++ (fr v a3 ++ [y] ++ (S ++ Q)) := fun y => by
   rw [List.set_append_right _ _ (by omega), List.set_append_right _ _ (by simp [fr]; omega), show (a0 + (v : Int)).toNat - P.length - (fr v a3).length = 0 by simp [fr]; omega]
   simp
  have hs : ZbA a0 a1 a2 a3 a4 a5 a6 L7 L8 N (.h1m0 (P ++ (fr v a3 ++ (x :: S ++ Q))) v) = some (.inl (.h1m0 (P ++ (fr (v + 1) a3 ++ (S ++ Q))) (v + 1))) := by
   show Zbu a0 a1 a2 a3 a4 a5 a6 L7 L8 N _ _ = _
   unfold Zbu
   rw [hw]
   refine Zb (by omega) <| Zb (by omega) <| ZI (fun hb => Zb (by omega) <| Zb (by omega) ?_) (fun hb => Zb (by omega) <| Zb (by omega) ?_)
   ·rw [hset, ZgQ, if_pos hb]
   ·rw [hset, ZgQ, if_neg hb]
  exact (Zbs hs).trans (Zoy h1 ha hP hn m (v + 1) n S (by simpa using hS) (by omega) (by omega))
theorem ZuG {a0 a1 a2 a3 a4 a5 a6 : Int} {L7 : List RG} {N : Nat} {P S Q : List RF} (h1 : 1 ≤ a0) (ha : a0 ≤ 1000000) (hP : (P.length : Int) = a0) (hS : (S.length : Int) = a2) (hn : a2 ≤ 16) (hL : a0 ≤ L7.length) (hN : 20 ≤ N) :
  Zd5 a0 a1 a2 a3 a4 a5 a6 L7 (P ++ (S ++ Q)) N = some (.r0 (P ++ (fr a2.toNat a3 ++ Q))) := by
 have hw : i64.wrap (a0 - 1) = a0 - 1 := w64 (by omega) (by omega)
 refine (Zgv (x := .h1m0 (P ++ (S ++ Q)) 0) ?_).trans ?_
 ·unfold ZdO
  rw [hw]
  exact Zb (by omega) <| Zb (by omega) rfl
 ·exact Zoy (L8 := P ++ (S ++ Q)) h1 ha hP hn S.length 0 N S rfl (by omega) (by omega)

/-! ### Used -/
theorem Zoz {g w : Int} {L : List PA} {Fr : List Int} {N : Nat} (hk : Ok g 1 L) (hs : sz L ≤ 65536) (hL : L.length ≤ 100000) : ∀ (m v n : Nat), v + m = L.length → m < n → ZaL (ZcL w L Fr N) n (.h1m0 (sz (L.take v) : Int) v) = some (.r0 (sz L : Int))
 | 0, v, n, hv, hm => by
  obtain ⟨n, rfl⟩ : ∃ m, n = m + 1 := ⟨n - 1, by omega⟩
  rw [List.take_of_length_le (by omega)]
  exact Zcm (show Zcs w L Fr N _ _ = _ from Zg (by omega) rfl)
 | m + 1, v, n, hv, hm => by
  obtain ⟨n, rfl⟩ : ∃ m, n = m + 1 := ⟨n - 1, by omega⟩
  obtain ⟨p1, p2, _⟩ := hk.at_ (k := v) (by omega)
  have e : sz (L.take (v + 1)) = sz (L.take v) + (1 + (L.getD v RI.z).a4.toNat) := by
   rw [← Zlc (i := v) (by omega) RI.z, Zle, ZdB]
   have : sz [] = 0 := rfl
   omega
  have f1 := p1.f1; have f2 := p1.f2
  have hs' : ZcL w L Fr N (.h1m0 (sz (L.take v) : Int) v) = some (.inl (.h1m0 (sz (L.take (v + 1)) : Int) (v + 1))) := by
   show Zcs w L Fr N _ _ = _
   unfold Zcs
   rw [w64 (x := (sz (L.take v) : Int) + 1) (by omega) (by omega), w64 (by omega) (by omega), show (sz (L.take v) : Int) + 1 + (L.getD v RI.z).a4 = (sz (L.take (v + 1)) : Int) by omega]
   exact Zb (by omega) <| Zb (by omega) rfl
  exact (Zbs hs').trans (Zoz hk hs hL m (v + 1) n (by omega) (by omega))
theorem ZuH {g w : Int} {L : List PA} {Fr : List Int} {N : Nat} (hk : Ok g 1 L) (hs : sz L ≤ 65536) (hL : L.length ≤ 1000) (hN : 2000 ≤ N) : ZeD w L Fr N = some (.r0 (sz L : Int)) :=
 (Zgv rfl).trans (Zoz hk hs (by omega) L.length 0 N (by omega) (by omega))
/-! ### Rows that are the same -/
/-! ### Objects -/
def ob (p : PA) : RH := ⟨p.a1, p.a2, p.a3, p.a4, p.a5, p.a6, p.a7, p.a8⟩
def fl (L : List PA) : List RH := (L.filter fun p => !(p.a6 == 0)).map ob
theorem ZuI (L : List PA) (p : PA) : fl (L ++ [p]) = if p.a6 = 0 then fl L else fl L ++ [ob p] := by
 unfold fl
 rw [List.filter_append, List.map_append]
 by_cases h : p.a6 = 0 <;> simp [h]
theorem Ztf (L : List PA) : (fl L).length ≤ L.length := by unfold fl; rw [List.length_map]; exact List.length_filter_le _ _
def obP : List RH → heap_Heap_ObjectsR
 | [] => .r0
 | l => .r1 l
def stP (l : List RH) (v : Int) : heap_Heap_ObjectsX := match l with
 | [] => .h1m0 v
 | l => .h1m1 v l
theorem Zo0 {g w : Int} {L : List PA} {W : Nat → List Int} {N : Nat} (hg : g ≤ 1073741824) (hk : Ok g 1 L) (hs : sz L ≤ 65536) (hL : L.length ≤ 1000) : ∀ (m v n : Nat), v + m = L.length → m < n → ZaL (Zax w (hd L) (vl L) W N) n (stP (fl (L.take v)) (1 + sz (L.take v))) = some (obP (fl L))
 | 0, v, n, hv, hm => by
  obtain ⟨n, rfl⟩ : ∃ m, n = m + 1 := ⟨n - 1, by omega⟩
  rw [List.take_of_length_le (by omega)]
  refine Zcm ?_
  have hz : ¬ (1 + (sz L : Int) ≤ ((hd L).length : Int)) := by show ¬ (1 + (sz L : Int) ≤ (sz L : Int)); omega
  cases h : fl L with
  | nil => exact (show ZaT w (hd L) (vl L) W N _ = _ from Zb (by omega) <| Zb (by omega) <| Zg hz rfl)
  | cons x l => exact (show ZaU w (hd L) (vl L) W N _ (x :: l) = _ from Zb (by omega) <| Zb (by omega) <| Zg hz rfl)
 | m + 1, v, n, hv, hm => by
  obtain ⟨n, rfl⟩ : ∃ m, n = m + 1 := ⟨n - 1, by omega⟩
  have hv' : v < L.length := by omega
  have e := ZuI (L.take v) (L.getD v RI.z)
  rw [Zlc (i := v) hv' RI.z] at e
  have hl := Ztf (L.take v)
  rw [List.length_take] at hl
  obtain ⟨p1, p2, p3⟩ := hk.at_ hv'
  have es : sz (L.take (v + 1)) = sz (L.take v) + (1 + (L.getD v RI.z).a4.toNat) := by
   rw [← Zlc (i := v) hv' RI.z, Zle, ZdB]
   have : sz [] = 0 := rfl
   omega
  have hvl := ZfD hk
  have f1 := p1.f1; have f2 := p1.f2; have f3 := p1.fl; have f4 := p1.g1; have f5 := p1.g2; have f6 := p1.k; have f7 := p1.n; have f8 := p1.ad
  have i1 : (1 + (sz (L.take v) : Int) - 1).toNat = sz (L.take v) := by omega
  have hF : ((vl L).drop (1 + (sz (L.take v) : Int)).toNat).take ((1 + (sz (L.take v) : Int) + (L.getD v RI.z).a4).toNat - (1 + (sz (L.take v) : Int)).toNat) = (L.getD v RI.z).a8 := by
   have q := Ze3 hv'
   have hk' := hk
   rw [q] at hk'
   have hA := ZfD hk'.split.1
   have e1 : (1 + (sz (L.take v) : Int)).toNat = (vl (L.take v)).length + 1 := by omega
   have e2 : (1 + (sz (L.take v) : Int) + (L.getD v RI.z).a4).toNat - ((vl (L.take v)).length + 1) = (L.getD v RI.z).a8.length := by omega
   have e3 : vl L = vl (L.take v) ++ (RF.z :: ((L.getD v RI.z).a8 ++ vl (L.drop (v + 1)))) := by
    have := congrArg vl q
    rwa [ZfC, Zei] at this
   rw [e1, e2, e3, ← List.drop_drop]
   simp
  have hs : Zax w (hd L) (vl L) W N (stP (fl (L.take v)) (1 + sz (L.take v))) = some (.inl (stP (fl (L.take (v + 1))) (1 + sz (L.take (v + 1))))) := by
   have hw1 : i64.wrap (1 + (sz (L.take v) : Int) + i64.wrap ((pl (L.getD v RI.z)).a1 + 1)) = 1 + (sz (L.take (v + 1)) : Int) := by
    show i64.wrap (1 + (sz (L.take v) : Int) + i64.wrap ((L.getD v RI.z).a4 + 1)) = _; rw [w64 (x := (L.getD v RI.z).a4 + 1) (by omega) (by omega), w64 (by omega) (by omega)]; omega
   have hw2 : i64.wrap (1 + (sz (L.take v) : Int) + (pl (L.getD v RI.z)).a1) = 1 + (sz (L.take v) : Int) + (L.getD v RI.z).a4 := w64 (x := 1 + (sz (L.take v) : Int) + (L.getD v RI.z).a4) (by omega) (by omega)
   have hvo : Zb4 (L.getD v RI.z).a3 (1 + (sz (L.take v) : Int)) N = some (.r0 (L.getD v RI.z).a1 (L.getD v RI.z).a2 0) := by
    rw [f6, f7, f8]
    exact Zb f4 <| Zb (by omega) <| Zb (by omega) <| Zb (by omega) rfl
   have hc : ZZ (vl L) (1 + (sz (L.take v) : Int)).toNat ((1 + (sz (L.take v) : Int) + (L.getD v RI.z).a4).toNat - (1 + (sz (L.take v) : Int)).toNat) ((vl L).length - (1 + (sz (L.take v) : Int)).toNat) N = some .r0 := Zb (by omega) <| Zb (by omega) rfl
   have hlen : 1 + (sz (L.take v) : Int) ≤ ((hd L).length : Int) := by show _ ≤ (sz L : Int); omega
   rw [e]
   cases h : fl (L.take v) with
   | nil =>
    show ZaT w (hd L) (vl L) W N _ = _
    unfold ZaT
    rw [i1, p3]
    refine Zb (by omega) <| Zb (by omega) <| Zb hlen <| ZI (fun h1 => ?_) (fun h1 => Zi hvo <| ?_)
    ·have h1 : (L.getD v RI.z).a6 = 0 := h1
     rw [if_pos h1]
     exact congrArg (fun z => some (Sum.inl (heap_Heap_ObjectsX.h1m0 z))) hw1
    ·have h1 : ¬ (L.getD v RI.z).a6 = 0 := h1
     rw [if_neg h1]
     refine Zb (by rw [hw2]; omega) <| Zb (by rw [hw2]; omega) <| Zi (by rw [hw2]; exact hc) ?_
     rw [hw1, hw2, hF]
     rfl
   | cons x l =>
    rw [h] at hl
    show ZaU w (hd L) (vl L) W N _ (x :: l) = _
    unfold ZaU
    rw [i1, p3]
    refine Zb (by omega) <| Zb (by omega) <| Zb hlen <| ZI (fun h1 => ?_) (fun h1 => Zi hvo <| ?_)
    ·have h1 : (L.getD v RI.z).a6 = 0 := h1
     rw [if_pos h1]
     exact congrArg (fun z => some (Sum.inl (heap_Heap_ObjectsX.h1m1 z (x :: l)))) hw1
    ·have h1 : ¬ (L.getD v RI.z).a6 = 0 := h1
     rw [if_neg h1]
     refine Zb (by rw [hw2]; omega) <| Zb (by rw [hw2]; omega) <| Zi (by rw [hw2]; exact hc) <| Zb (by omega) ?_
     rw [hw1, hw2, hF]
     rfl
  exact (Zbs hs).trans (Zo0 hg hk ‹sz L ≤ 65536› hL m (v + 1) n (by omega) (by omega))
theorem ZuJ {g w : Int} {L : List PA} {W : Nat → List Int} {N : Nat} (hw : 0 < w) (hg : g ≤ 1073741824) (hk : Ok g 1 L) (hs : sz L ≤ 65536) (hL : L.length ≤ 1000) (hN : 2000 ≤ N) : Zay w (hd L) (vl L) W N = some (obP (fl L)) :=
 (Zgv (show Zej w (hd L) (vl L) W N = some (.inl (.h1m0 1)) from Zb hw rfl)).trans (Zo0 hg hk hs hL L.length 0 N (by omega) (by omega))
end Hl
end Ev
end Go.Proofs.Ytomkpfibofpkbaa
namespace Go.Proofs.Ytomkpfibofpkbaa
open Go.RowKit
namespace Ev
set_option linter.unusedVariables false
set_option linter.unusedSimpArgs false
set_option maxRecDepth 100000
namespace Hl

def fl4 (L : List PA) (n : Nat) (k : Int) : Bool := decide ((L.getD k.toNat RI.z).a4 = (n : Int))
def wf (L : List PA) (Fr : List Int) (n : Nat) : List Int := (Fr.filter (fl4 L n)).map fun k => (L.getD k.toNat RI.z).a0
structure Inv (u i : Nat) (w : Int) (L : List PA) (Fr : List Int) (Md : List RF) (H : List RG) (V : List RF) (W : Nat → List Int) : Prop where
 w1 : 17 ≤ w
 w2 : w ≤ 65536
 ok : Ok (i + 1) 1 L
 ne : 0 < L.length
 ln : L.length ≤ i + 1
 hh : H = hd L
 vv : V = vl L
 sw : (sz L : Int) ≤ w
 fn : Fr.length ≤ i
 fk : ∀ k ∈ Fr, 0 ≤ k ∧ k < L.length
 ww : ∀ n, n ≤ 16 → W n = wf L Fr n
 mn : Md.length ≤ i
 mb : ∀ x ∈ Md, x.a1 ≤ 9223372036854775807
 lwr : u ≤ sz L
section
variable {u i : Nat} {w : Int} {L : List PA} {Fr : List Int} {Md : List RF} {H : List RG} {V : List RF} {W : Nat → List Int} {N : Nat}
theorem Zqu {g a : Int} {L : List PA} (hk : Ok g a L) (h : 0 < L.length) : 0 < sz L := by
 cases L with
 | nil => simp at h
 | cons p L => rw [ZdB]; omega
theorem Inv.at_ (I : Inv u i w L Fr Md H V W) {k : Nat} (h : k < L.length) : Pl (1 + sz (L.take k)) (i + 1) (L.getD k RI.z) ∧ (sz (L.take k) : Int) + 1 + (L.getD k RI.z).a4 ≤ sz L ∧ H.getD (sz (L.take k)) RG.z = pl (L.getD k RI.z) := by rw [I.hh]; exact I.ok.at_ h
theorem Ok.set {g : Int} {L : List PA} (hk : Ok g 1 L) {k : Nat} (h : k < L.length) {q : PA} (hq : Pl (1 + sz (L.take k)) g q) (h4 : q.a4 = (L.getD k RI.z).a4) : Ok g 1 (L.set k q) ∧ (hd L).set (sz (L.take k)) (pl q) = hd (L.set k q) ∧ sz (L.set k q) = sz L := by
 have e := Ze3 h
 have hl : (L.take k).length = k := by rw [List.length_take]; omega
 have es : L.set k q = L.take k ++ q :: L.drop (k + 1) := by
  conv => lhs; rw [e]
  conv => lhs; arg 2; rw [← hl]
  exact Zqt
 have hk' := hk
 rw [e] at hk'
 obtain ⟨h1, h2, h3⟩ := hk'.split
 have hs : (hd L).set (sz (L.take k)) (pl q) = hd (L.set k q) := by
  rw [es, ← Zvm (L.take k) (L.getD k RI.z) q (L.drop (k + 1)) h4, ← e]
 refine ⟨?_, hs, ?_⟩
 ·rw [es]
  exact Ok.join h1 hq (by rw [h4]; exact h3)
 ·unfold sz
  rw [← hs, List.length_set]
theorem ZuK {g : Int} {L : List PA} (hk : Ok g 1 L) {k f : Nat} (h : k < L.length) {q : PA} {v : RF} (hf : f < (L.getD k RI.z).a8.length) (hq : q.a8 = (L.getD k RI.z).a8.set f v) : (vl L).set (sz (L.take k) + 1 + f) v = vl (L.set k q) := by
 have e := Ze3 h
 have hl : (L.take k).length = k := by rw [List.length_take]; omega
 have es : L.set k q = L.take k ++ q :: L.drop (k + 1) := by
  conv => lhs; rw [e]
  conv => lhs; arg 2; rw [← hl]
  exact Zqt
 have hk' := hk
 rw [e] at hk'
 rw [es, ← Zvo (p := L.getD k RI.z) (ZfD hk'.split.1) hf hq, ← e]
theorem Zm1 {L : List PA} {k : Nat} (h : k < L.length) {q : PA} (hq : q.a8 = (L.getD k RI.z).a8) : vl (L.set k q) = vl L := by
 have e := Ze3 h
 have hl : (L.take k).length = k := by rw [List.length_take]; omega
 have es : L.set k q = L.take k ++ q :: L.drop (k + 1) := by
  conv => lhs; rw [e]
  conv => lhs; arg 2; rw [← hl]
  exact Zqt
 rw [es]
 conv => rhs; rw [e]
 rw [ZfC, ZfC, Zei, Zei, hq]
theorem ZuL {g : Int} {L : List PA} (hk : Ok g 1 L) {k f : Nat} (h : k < L.length) (hf : f < (L.getD k RI.z).a8.length) (d : RF) : (vl L).getD (sz (L.take k) + 1 + f) d = (L.getD k RI.z).a8.getD f d := by
 have e := Ze3 h
 have hk' := hk
 rw [e] at hk'
 have := Zvn (p := L.getD k RI.z) (B := L.drop (k + 1)) (ZfD hk'.split.1) hf d
 rwa [← e] at this
theorem Zig {L : List PA} {k : Nat} {q : PA} (h : k < L.length) (j : Nat) : ((L.set k q).getD j RI.z) = if j = k then q else L.getD j RI.z := Zqs h
theorem Ztg {L : List PA} {k : Nat} (h : k < L.length) {q : PA} (h4 : q.a4 = (L.getD k RI.z).a4) (h0 : q.a0 = (L.getD k RI.z).a0) (Fr : List Int) (n : Nat) : wf (L.set k q) Fr n = wf L Fr n := by
 have e4 : ∀ j, ((L.set k q).getD j RI.z).a4 = (L.getD j RI.z).a4 := fun j => by
  rw [Zig h]
  by_cases hj : j = k
  ·rw [if_pos hj, h4, hj]
  ·rw [if_neg hj]
 have e0 : ∀ j, ((L.set k q).getD j RI.z).a0 = (L.getD j RI.z).a0 := fun j => by
  rw [Zig h]
  by_cases hj : j = k
  ·rw [if_pos hj, h0, hj]
  ·rw [if_neg hj]
 unfold wf
 have hf : fl4 (L.set k q) n = fl4 L n := funext fun j => by unfold fl4; rw [e4]
 rw [hf]
 simp only [e0]
theorem Inv.set (I : Inv u i w L Fr Md H V W) {k : Nat} (h : k < L.length) {q : PA} (hq : Pl (1 + sz (L.take k)) (i + 2) q) (h4 : q.a4 = (L.getD k RI.z).a4) (h0 : q.a0 = (L.getD k RI.z).a0) {V' : List RF} (hV : V' = vl (L.set k q)) : Inv u (i + 1) w (L.set k q) Fr Md (H.set (sz (L.take k)) (pl q)) V' W where
 w1 := I.w1
 w2 := I.w2
 ok := by
  have := (I.ok.up (show (i : Int) + 1 ≤ i + 2 by omega)).set h hq h4
  have e : ((i + 1 : Nat) : Int) + 1 = i + 2 := by omega
  rw [e]; exact this.1
 ne := by rw [List.length_set]; exact I.ne
 ln := by rw [List.length_set]; have := I.ln; omega
 hh := by rw [I.hh]; exact ((I.ok.up (show (i : Int) + 1 ≤ i + 2 by omega)).set h hq h4).2.1
 vv := hV
 sw := by rw [((I.ok.up (show (i : Int) + 1 ≤ i + 2 by omega)).set h hq h4).2.2]; exact I.sw
 fn := by have := I.fn; omega
 fk := fun j hj => by rw [List.length_set]; exact I.fk j hj
 ww := fun n hn => by rw [Ztg h h4 h0]; exact I.ww n hn
 mn := by have := I.mn; omega
 mb := I.mb
 lwr := by rw [((I.ok.up (show (i : Int) + 1 ≤ i + 2 by omega)).set h hq h4).2.2]; exact I.lwr
theorem Inv.up (I : Inv u i w L Fr Md H V W) : Inv u (i + 1) w L Fr Md H V W :=
 ⟨I.w1, I.w2, I.ok.up (by omega), I.ne, by have := I.ln; omega, I.hh, I.vv, I.sw, by have := I.fn; omega, I.fk, I.ww, by have := I.mn; omega, I.mb, I.lwr⟩
variable {K Q : Int}
theorem Inv.find (I : Inv u i w L Fr Md H V W) (hi : i ≤ 60) (hQ : Q ≤ 9223372036854775807) (hN : 2000 ≤ N) : ∃ e x k, Zap K Q w H V W N = some (.r0 x e) ∧ Zas w L Fr K Q N = some (.r0 k e) ∧ (e = 0 → 0 ≤ k ∧ k.toNat < L.length ∧ x = (L.getD k.toNat RI.z).a0 ∧ ¬ (L.getD k.toNat RI.z).a6 = 0) := by
 have h1 := I.sw; have h2 := I.w2; have h3 := I.ln
 obtain ⟨e, x, k, q1, q2, q3⟩ := find2 (w := w) (Fr := Fr) (K := K) (Q := Q) (N := N) V W I.ok (by omega) hQ (by omega) (by omega)
 exact ⟨e, x, k, by rw [I.hh]; exact q1, q2, q3⟩
theorem Inv.ix (I : Inv u i w L Fr Md H V W) {k : Nat} (h : k < L.length) : IntKind.i64.wrap ((L.getD k RI.z).a0 - 1) = sz (L.take k) ∧ sz (L.take k) < H.length ∧ H.getD ((sz (L.take k) : Int)).toNat RG.z = pl (L.getD k RI.z) := by
 obtain ⟨p1, p2, p3⟩ := I.at_ h
 have := p1.ad; have := p1.f1; have h1 := I.sw; have h2 := I.w2
 refine ⟨by rw [w64 (by omega) (by omega)]; omega, ?_, by rw [show ((sz (L.take k) : Int)).toNat = sz (L.take k) by omega]; exact p3⟩
 have : H.length = sz L := by rw [I.hh]; rfl
 omega
theorem Zm2 {a4 a5 a6 a7 a8 a9 a10 a11 : Int} {L12 : List RF} {k : Nat} (h : k < L.length) (hL : L.length ≤ 1000) : Zbh w L Fr (k : Int) a4 a5 a6 a7 a8 a9 a10 a11 L12 N = some .r0 := Zg (by omega) <| Zb (by omega) <| Zb (by omega) <| Zb (by omega) rfl
theorem Zuc {a4 a5 a6 a7 a8 a9 a10 a11 : Int} {L12 : List RF} {k : Nat} (h : k < L.length) (hL : L.length ≤ 1000) : Zbz w L Fr (k : Int) a4 a5 a6 a7 a8 a9 a10 a11 L12 N = some .r0 := Zg (by omega) <| Zb (by omega) <| Zb (by omega) <| Zb (by omega) rfl
theorem Inv.get (I : Inv u i w L Fr Md H V W) (hi : i ≤ 60) (hQ : Q ≤ 9223372036854775807) (hN : 2000 ≤ N) :
  (∃ e x k, ¬ e = 0 ∧ Zap K Q w H V W N = some (.r0 x e) ∧ Zas w L Fr K Q N = some (.r0 k e)) ∨
  (∃ k : Nat, k < L.length ∧ Zap K Q w H V W N = some (.r0 (L.getD k RI.z).a0 0) ∧ Zas w L Fr K Q N = some (.r0 (k : Int) 0) ∧ ¬ (L.getD k RI.z).a6 = 0) := by
 obtain ⟨e, x, k, h1, h2, h3⟩ := I.find (K := K) (Q := Q) hi hQ hN
 by_cases he : e = 0
 ·subst he
  obtain ⟨q1, q2, q3, q4⟩ := h3 rfl
  refine .inr ⟨k.toNat, q2, by rw [h1, q3], by rw [h2, Int.toNat_of_nonneg q1], q4⟩
 ·exact .inl ⟨e, x, k, he, h1, h2⟩
theorem Inv.put (I : Inv u i w L Fr Md H V W) (hi : i ≤ 60) (hQ : Q ≤ 9223372036854775807) (hN : 2000 ≤ N) (s : Int) : ∃ e H' L', ZbS K Q s w H V W N = some (.r0 H' e) ∧ ZcI w L Fr K Q s N = some (.r0 L' e) ∧ Inv u (i + 1) w L' Fr Md H' V W := by
 have hw : 0 < w := by have := I.w1; omega
 have hl := I.ln
 rcases I.get (K := K) (Q := Q) hi hQ hN with ⟨e, x, k, he, h1, h2⟩ | ⟨k, hk, h1, h2, h3⟩
 ·exact ⟨_, _, _, Zb hw <| Zi h1 <| Zb he rfl, Zi h2 <| Zb he rfl, I.up⟩
 ·obtain ⟨i1, i2, i3⟩ := I.ix hk
  obtain ⟨p1, _, _⟩ := I.at_ hk
  by_cases hs : ¬ (s = 1 ∨ s = 2 ∨ s = 3)
  ·exact ⟨1, H, L, Zb hw <| Zi h1 <| Zg (fun h => h rfl) <| Zb (by omega) <| Zb (by omega) <| Zb (by omega) rfl, Zi h2 <| Zg (fun h => h rfl) <| Zb (by omega) <| Zb (by omega) <| Zb (by omega) rfl, I.up⟩
  ·have hs := Decidable.not_not.1 hs
   have hpl : Pl (1 + sz (L.take k)) (i + 2) ({ L.getD k RI.z with a6 := s } : PA) := ⟨p1.ad, p1.f1, p1.f2, p1.fl, p1.k, p1.n, p1.g1, by have := p1.g2; show (L.getD k RI.z).a3 ≤ _; omega, p1.m0, p1.ft⟩
   refine ⟨0, H.set (sz (L.take k)) (pl { L.getD k RI.z with a6 := s }), L.set k { L.getD k RI.z with a6 := s }, Zb hw <| Zi h1 <| Zg (fun h => h rfl) ?_, Zi h2 <| Zg (fun h => h rfl) ?_, I.set hk hpl rfl rfl (by rw [I.vv]; exact (Zm1 (q := { L.getD k RI.z with a6 := s }) hk rfl).symm)⟩
   ·show (if ¬ s = 1 then if ¬ s = 2 then if ¬ s = 3 then _ else if 0 ≤ IntKind.i64.wrap ((L.getD k RI.z).a0 - 1) then _ else _ else if 0 ≤ IntKind.i64.wrap ((L.getD k RI.z).a0 - 1) then _ else _ else if 0 ≤ IntKind.i64.wrap ((L.getD k RI.z).a0 - 1) then _ else _) = _
    rw [i1, i3]
    refine ZI (fun s1 => ZI (fun s2 => Zg (by omega) ?_) fun s2 => ?_) fun s1 => ?_ <;> exact Zb (by omega) <| Zb (by omega) rfl
   ·have hw3 := Zm2 (w := w) (Fr := Fr) (N := N) (a4 := (L.getD k RI.z).a0) (a5 := (L.getD k RI.z).a1) (a6 := (L.getD k RI.z).a2) (a7 := (L.getD k RI.z).a3) (a8 := (L.getD k RI.z).a4) (a9 := (L.getD k RI.z).a5) (a10 := s) (a11 := (L.getD k RI.z).a7) (L12 := (L.getD k RI.z).a8) hk (show L.length ≤ 1000 by omega)
    show (if ¬ s = 1 then if ¬ s = 2 then if ¬ s = 3 then _ else if (0 : Int) ≤ (k : Int) then _ else _ else if (0 : Int) ≤ (k : Int) then _ else _ else if (0 : Int) ≤ (k : Int) then _ else _) = _
    refine ZI (fun s1 => ZI (fun s2 => Zg (by omega) ?_) fun s2 => ?_) fun s1 => ?_ <;> exact Zb (by omega) <| Zb (by omega) <| Zi hw3 rfl
end
end Hl
end Ev
end Go.Proofs.Ytomkpfibofpkbaa
