/- Part 6. -/
import Derived.Test.YtlbbiflodemagaaDoorZae
import Derived.Test.YtlbbiflodemagaaDoorZad
import Derived.Test.YtlbbiflodemagaaDoorZac
set_option linter.unusedSimpArgs false
set_option linter.unusedVariables false
/- Calls do what the plain functions say. -/
namespace Go.Proofs.YtlbbiflodemagaaDoor
open Go.RowKit
namespace Ev
set_option linter.unusedVariables false
set_option maxRecDepth 100000
theorem Znd (a0 a1 a2 a3 : Int) (N : Nat) (r : ZaQ) (h : ZG a0 a1 a2 a3 N = some r) : LSpec Tryd.prog 14 #[Value.agg #[vi a0, vi a1, vi a2, vi a3]] [] (ZgQ a0 a1 a2 a3 r) (Zgi a0 a1 a2 a3 r) :=
 ZoN a0 a1 a2 a3 N r h

noncomputable def Z1 (a0 a1 a2 a3 w0 : Int) (n : Nat) : ZaG := .call [] (vi w0) [] 0
def ZaV (A : Array Value) (a0 a1 a2 a3 w0 : Int) (n : Nat) : Prop := ZB Tryd.prog 14 A [] (vi w0) [] n 0

theorem Zbe (A : Array Value) (a0 a1 a2 a3 w0 : Int) (N : Nat) (h : ZG a0 a1 a2 a3 N = some (.r0 w0)) (n : Nat) (hA : A = #[Value.agg #[vi a0, vi a1, vi a2, vi a3]]) (hnd : ([] : List Nat).Nodup) (hlt : ∀ k ∈ ([] : List Nat), k < n) : ZaV A a0 a1 a2 a3 w0  n :=
 Zaq hA (LSpec.callL (show LSpec Tryd.prog 14 #[Value.agg #[vi a0, vi a1, vi a2, vi a3]] [] (vi w0) [] from Znd a0 a1 a2 a3 N _ h) [] n [] rfl hnd hlt (show 0 ≤ 0 from by decide) (show ∀ j ∈ ([] : List Nat), j < 0 from by decide) (by rfl) trivial (by rfl) trivial trivial rfl rfl rfl rfl rfl)

noncomputable def Zjp (L0 : List Int) (a1 : Int) (L2 : List RA) (L3 : List Int) (L4 : List R_is) (L5 : List (List Int)) (L6 : List R_si) : Zy → Value
 | .r0 w0 => Value.iface 88 (Value.agg #[vi w0])
 | .r1 w6 => vtt
 | .r2 w0 w6 w7 w8 => vtt
noncomputable def ZiN (L0 : List Int) (a1 : Int) (L2 : List RA) (L3 : List Int) (L4 : List R_is) (L5 : List (List Int)) (L6 : List R_si) : Zy → List (Option AObj)
 | .r0 w0 => [none, none, none, none, none, none]
 | .r1 w6 => [some (.cells [Value.string (Za L0), vi w6, vs 1 0 L2.length L2.length, vs 2 0 L3.length L3.length, vs 3 0 L4.length L4.length, vs 4 0 L5.length L5.length, Value.map (some 5)] 57), some (.cells (Zb E_iiii L2) 24 true), some (.cells (Zb eI L3) 3 true), some (.cells (Zb Zu L4) 122 true), some (.cells (Zb Zs L5) 9 true), some (.ro (Zj L6) true)]
 | .r2 w0 w6 w7 w8 => [some (.cells [Value.string (Za L0), vi w6, vs 1 0 w0.length w0.length, vs 2 0 L3.length L3.length, vs 3 (w7 * 2) w8 w8, vs 4 0 L5.length L5.length, Value.map (some 5)] 57), some (.cells (Zb E_iiii w0) 24 true), some (.cells (Zb eI L3) 3 true), some (.cells (Zb Zu L4) 122 true), some (.cells (Zb Zs L5) 9 true), some (.ro (Zj L6) true)]

def Zne : asm_reader_aimX → Nat
 | .h1m0 v6 v8 => 1
 | .h1m1 v0 v6 v8 v9 v10 => 1
noncomputable def Zoa (L0 : List Int) (a1 : Int) (L2 : List RA) (L3 : List Int) (L4 : List R_is) (L5 : List (List Int)) (L6 : List R_si) : asm_reader_aimX → List (Nat × Value)
 | .h1m0 v6 v8 => [(0, vp 0 0), (9, vs 1 0 L2.length L2.length), (10, vi (L2.length : Int)), (11, vi (v6 : Int))]
 | .h1m1 v0 v6 v8 v9 v10 => [(0, vp 0 0), (9, vs 1 0 v0.length v0.length), (10, vi (L2.length : Int)), (11, vi (v6 : Int))]
noncomputable def Zob (L0 : List Int) (a1 : Int) (L2 : List RA) (L3 : List Int) (L4 : List R_is) (L5 : List (List Int)) (L6 : List R_si) : asm_reader_aimX → List (Option AObj)
 | .h1m0 v6 v8 => [some (.cells [Value.string (Za L0), vi v8, vs 1 0 L2.length L2.length, vs 2 0 L3.length L3.length, vs 3 0 L4.length L4.length, vs 4 0 L5.length L5.length, Value.map (some 5)] 57), some (.cells (Zb E_iiii L2) 24 true), some (.cells (Zb eI L3) 3 true), some (.cells (Zb Zu L4) 122 true), some (.cells (Zb Zs L5) 9 true), some (.ro (Zj L6) true)]
 | .h1m1 v0 v6 v8 v9 v10 => [some (.cells [Value.string (Za L0), vi v8, vs 1 0 v0.length v0.length, vs 2 0 L3.length L3.length, vs 3 (v9 * 2) v10 v10, vs 4 0 L5.length L5.length, Value.map (some 5)] 57), some (.cells (Zb E_iiii v0) 24 true), some (.cells (Zb eI L3) 3 true), some (.cells (Zb Zu L4) 122 true), some (.cells (Zb Zs L5) 9 true), some (.ro (Zj L6) true)]

noncomputable def Zcm : Nat → Code × List ZbE
 | 1 => ZeE [1, 3] (Zhs Tryd.f52) []
 | _ => (.skip, [])
def ZiO : Nat → Bool
 | 1 => true
 | _ => true
noncomputable def Zba (i : Nat) : List ZbE := match ZiO i with | true => .rnd i :: (Zcm i).2 | false => (Zcm i).2

noncomputable def Z5 (L0 : List Int) (a1 : Int) (L2 : List RA) (L3 : List Int) (L4 : List R_is) (L5 : List (List Int)) (L6 : List R_si) (N : Nat) : Mach := ⟨Tryd.f52, [.cells [Value.string (Za L0), vi a1, vs 1 0 L2.length L2.length, vs 2 0 L3.length L3.length, vs 3 0 L4.length L4.length, vs 4 0 L5.length L5.length, Value.map (some 5)] 57, .cells (Zb E_iiii L2) 24 true, .cells (Zb eI L3) 3 true, .cells (Zb Zu L4) 122 true, .cells (Zb Zs L5) 9 true, .ro (Zj L6) true], asm_reader_aimX, Zy, Zbc L0 a1 L2 L3 L4 L5 L6 N, Zne, Zcm, ZiO, Zoa L0 a1 L2 L3 L4 L5 L6, Zob L0 a1 L2 L3 L4 L5 L6, Zjp L0 a1 L2 L3 L4 L5 L6, ZiN L0 a1 L2 L3 L4 L5 L6⟩

noncomputable def ZhT (L0 : List Int) (a1 : Int) (L2 : List RA) (L3 : List Int) (L4 : List R_is) (L5 : List (List Int)) (L6 : List R_si) (v6 : Nat) (v8 : Int) : List (Bool × Bool) := (ZaA (Z8 4 (List.drop (0 + (v6 * 4)) (Zb E_iiii L2))) (aic L2 v6), true) :: (Nat.blt v6 L2.length, true) :: ((v6 : Int) == Int.ofNat v6, true) :: ((decide ((v6 : Int) < (L2.length : Int))), true) :: []

noncomputable def ZfN (L0 : List Int) (a1 : Int) (L2 : List RA) (L3 : List Int) (L4 : List R_is) (L5 : List (List Int)) (L6 : List R_si) (v6 : Nat) (v8 : Int) : List (Bool × Bool) := (ZaA (Z8 1 (List.drop (0 + (v6 * 1)) (Zb eI L3))) [.i (L3.getD v6 0)], true) :: (Nat.blt v6 L3.length, true) :: ((v6 : Int) == Int.ofNat v6, true) :: ZhT L0 a1 L2 L3 L4 L5 L6 v6 v8

noncomputable def ZfO (L0 : List Int) (a1 : Int) (L2 : List RA) (L3 : List Int) (L4 : List R_is) (L5 : List (List Int)) (L6 : List R_si) (v6 : Nat) (v8 : Int) : List (Bool × Bool) := (ZaA (Z8 1 (List.drop ((0 + (0 * 2)) + 0) (Zb Zu L4))) [.i (aj L4 0).a0], true) :: (Nat.blt 0 L4.length, true) :: ((0 : Int) == Int.ofNat 0, true) :: ((decide ((L4.length : Int) > (0 : Int))), true) :: ZfN L0 a1 L2 L3 L4 L5 L6 v6 v8

noncomputable def ZfP (L0 : List Int) (a1 : Int) (L2 : List RA) (L3 : List Int) (L4 : List R_is) (L5 : List (List Int)) (L6 : List R_si) (v6 : Nat) (v8 : Int) : List (Bool × Bool) := (ZaA (Z8 1 (List.drop ((0 + (0 * 2)) + 1) (Zb Zu L4))) [.s (Za (aj L4 0).a1)], true) :: (Nat.blt 0 L4.length, true) :: ((0 : Int) == Int.ofNat 0, true) :: (((aj L4 0).a0 == (v6 : Int)), true) :: ZfO L0 a1 L2 L3 L4 L5 L6 v6 v8

noncomputable def ZdY (L0 : List Int) (a1 : Int) (L2 : List RA) (L3 : List Int) (L4 : List R_is) (L5 : List (List Int)) (L6 : List R_si) (v6 : Nat) (v8 : Int) : List (Bool × Bool) := (dP ((Zbo Tryd.prog 9 (Value.string (Za (aj L4 0).a1)) (ZaZ L6)).map (Option.map Prod.snd) = some (some (vi (ZD L6 (aj L4 0).a1)))), true) :: ZfP L0 a1 L2 L3 L4 L5 L6 v6 v8

noncomputable def ZhU (L0 : List Int) (a1 : Int) (L2 : List RA) (L3 : List Int) (L4 : List R_is) (L5 : List (List Int)) (L6 : List R_si) (v6 : Nat) (v8 : Int) : List (Bool × Bool) := (dP ((0 + (v6 * 4)) + ([vi (ai L2 v6).a0, vi (ZD L6 (aj L4 0).a1), vi (ai L2 v6).a2, vi (ai L2 v6).a3] : List Value).length ≤ ((Zb E_iiii L2) : List Value).length ∧ Zea (Zb E_iiii L2) (0 + (v6 * 4)) [vi (ai L2 v6).a0, vi (ZD L6 (aj L4 0).a1), vi (ai L2 v6).a2, vi (ai L2 v6).a3] = (Zb E_iiii (L2.set v6 (aiA L2 v6 L6 L4 0)))), true) :: (Nat.blt v6 L2.length, true) :: ((v6 : Int) == Int.ofNat v6, true) :: (dP (1 ≤ L4.length ∧ L4.length ≤ L4.length), true) :: (dS L4.length, true) :: ((1 : Int) == Int.ofNat 1, true) :: (((ai L2 v6).a0 == (8 : Int)), true) :: ZdY L0 a1 L2 L3 L4 L5 L6 v6 v8

noncomputable def ZfQ (L0 : List Int) (a1 : Int) (L2 : List RA) (L3 : List Int) (L4 : List R_is) (L5 : List (List Int)) (L6 : List R_si) (v6 : Nat) (v8 y6_0 : Int) : List (Bool × Bool) := (dP (ZaV #[Value.agg #[vi (ai L2 v6).a0, vi (ZD L6 (aj L4 0).a1), vi (ai L2 v6).a2, vi (ai L2 v6).a3]] ((ai L2 v6).a0) ((ZD L6 (aj L4 0).a1)) ((ai L2 v6).a2) ((ai L2 v6).a3)  y6_0  9), true) :: ZhU L0 a1 L2 L3 L4 L5 L6 v6 v8

noncomputable def ZhV (L0 : List Int) (a1 : Int) (L2 : List RA) (L3 : List Int) (L4 : List R_is) (L5 : List (List Int)) (L6 : List R_si) (v6 : Nat) (v8 : Int) : List (Bool × Bool) := (dP ((0 + (v6 * 4)) + ([vi (ai L2 v6).a0, vi (ai L2 v6).a1, vi (ZD L6 (aj L4 0).a1), vi (ai L2 v6).a3] : List Value).length ≤ ((Zb E_iiii L2) : List Value).length ∧ Zea (Zb E_iiii L2) (0 + (v6 * 4)) [vi (ai L2 v6).a0, vi (ai L2 v6).a1, vi (ZD L6 (aj L4 0).a1), vi (ai L2 v6).a3] = (Zb E_iiii (L2.set v6 (aiB L2 v6 L6 L4 0)))), true) :: (Nat.blt v6 L2.length, true) :: ((v6 : Int) == Int.ofNat v6, true) :: (dP (1 ≤ L4.length ∧ L4.length ≤ L4.length), true) :: (dS L4.length, true) :: ((1 : Int) == Int.ofNat 1, true) :: (((ai L2 v6).a0 == (9 : Int)), true) :: (((ai L2 v6).a0 == (8 : Int)), false) :: ZdY L0 a1 L2 L3 L4 L5 L6 v6 v8

noncomputable def ZfR (L0 : List Int) (a1 : Int) (L2 : List RA) (L3 : List Int) (L4 : List R_is) (L5 : List (List Int)) (L6 : List R_si) (v6 : Nat) (v8 y7_0 : Int) : List (Bool × Bool) := (dP (ZaV #[Value.agg #[vi (ai L2 v6).a0, vi (ai L2 v6).a1, vi (ZD L6 (aj L4 0).a1), vi (ai L2 v6).a3]] ((ai L2 v6).a0) ((ai L2 v6).a1) ((ZD L6 (aj L4 0).a1)) ((ai L2 v6).a3)  y7_0  9), true) :: ZhV L0 a1 L2 L3 L4 L5 L6 v6 v8

noncomputable def ZhW (L0 : List Int) (a1 : Int) (L2 : List RA) (L3 : List Int) (L4 : List R_is) (L5 : List (List Int)) (L6 : List R_si) (v6 : Nat) (v8 : Int) : List (Bool × Bool) := (dP ((0 + (v6 * 4)) + ([vi (ai L2 v6).a0, vi (ai L2 v6).a1, vi (ai L2 v6).a2, vi (ai L2 v6).a3] : List Value).length ≤ ((Zb E_iiii L2) : List Value).length ∧ Zea (Zb E_iiii L2) (0 + (v6 * 4)) [vi (ai L2 v6).a0, vi (ai L2 v6).a1, vi (ai L2 v6).a2, vi (ai L2 v6).a3] = (Zb E_iiii (L2.set v6 (aiC L2 v6)))), true) :: (Nat.blt v6 L2.length, true) :: ((v6 : Int) == Int.ofNat v6, true) :: (dP (1 ≤ L4.length ∧ L4.length ≤ L4.length), true) :: (dS L4.length, true) :: ((1 : Int) == Int.ofNat 1, true) :: (((ai L2 v6).a0 == (9 : Int)), false) :: (((ai L2 v6).a0 == (8 : Int)), false) :: ZdY L0 a1 L2 L3 L4 L5 L6 v6 v8

noncomputable def Zfw (L0 : List Int) (a1 : Int) (L2 : List RA) (L3 : List Int) (L4 : List R_is) (L5 : List (List Int)) (L6 : List R_si) (v6 : Nat) (v8 y7_0 : Int) : List (Bool × Bool) := (dP (ZaV #[Value.agg #[vi (ai L2 v6).a0, vi (ai L2 v6).a1, vi (ai L2 v6).a2, vi (ai L2 v6).a3]] ((ai L2 v6).a0) ((ai L2 v6).a1) ((ai L2 v6).a2) ((ai L2 v6).a3)  y7_0  9), true) :: ZhW L0 a1 L2 L3 L4 L5 L6 v6 v8

noncomputable def Zfx (L0 : List Int) (a1 : Int) (L2 : List RA) (L3 : List Int) (L4 : List R_is) (L5 : List (List Int)) (L6 : List R_si) (v6 : Nat) (v8 y4_0 : Int) : List (Bool × Bool) := (dP (ZaV #[Value.agg #[vi (ai L2 v6).a0, vi (ai L2 v6).a1, vi (ai L2 v6).a2, vi (ai L2 v6).a3]] ((ai L2 v6).a0) ((ai L2 v6).a1) ((ai L2 v6).a2) ((ai L2 v6).a3)  y4_0  7), true) :: (((aj L4 0).a0 == (v6 : Int)), false) :: ZfO L0 a1 L2 L3 L4 L5 L6 v6 v8

noncomputable def Zfy (L0 : List Int) (a1 : Int) (L2 : List RA) (L3 : List Int) (L4 : List R_is) (L5 : List (List Int)) (L6 : List R_si) (v6 : Nat) (v8 y3_0 : Int) : List (Bool × Bool) := (dP (ZaV #[Value.agg #[vi (ai L2 v6).a0, vi (ai L2 v6).a1, vi (ai L2 v6).a2, vi (ai L2 v6).a3]] ((ai L2 v6).a0) ((ai L2 v6).a1) ((ai L2 v6).a2) ((ai L2 v6).a3)  y3_0  7), true) :: ((decide ((L4.length : Int) > (0 : Int))), false) :: ZfN L0 a1 L2 L3 L4 L5 L6 v6 v8

set_option maxHeartbeats 4000000 in
theorem ZkB (L0 : List Int) (a1 : Int) (L2 : List RA) (L3 : List Int) (L4 : List R_is) (L5 : List (List Int)) (L6 : List R_si) (v6 : Nat) (v8 : Int) (N : Nat) : (Z5 L0 a1 L2 L3 L4 L5 L6 N).Ok Tryd.prog ZJ (.h1m0 v6 v8 : asm_reader_aimX) (Zbc L0 a1 L2 L3 L4 L5 L6 N (.h1m0 v6 v8 : asm_reader_aimX)) := by
 show (Z5 L0 a1 L2 L3 L4 L5 L6 N).Ok Tryd.prog ZJ (.h1m0 v6 v8 : asm_reader_aimX) (Zbk L0 a1 L2 L3 L4 L5 L6 N v6 v8)
 unfold Zbk
 refine Mach.ok_ite (fun g0 => ?_) (fun g0 => ?_)
 ·
  have w1 : OkL (ZhT L0 a1 L2 L3 L4 L5 L6 v6 v8) :=
   Zc (Zc4 (E := E_iiii) (L := L2) (i := v6) (q := 0) (by omega) (show (0 + (v6 * 4)) = v6 * 4 + 0 from by omega) (show 0 + 4 ≤ 4 from by decide) rfl rfl) <| oB <| oI <| oY <| ZL
  refine Mach.ok_ite (fun g1 => ?_) (fun _ => Mach.ok_none)
  have w2 : OkL (ZfN L0 a1 L2 L3 L4 L5 L6 v6 v8) :=
   Zc (Zc4 (E := eI) (L := L3) (i := v6) (q := 0) (by omega) (show (0 + (v6 * 1)) = v6 * 1 + 0 from by omega) (show 0 + 1 ≤ 1 from by decide) rfl rfl) <| oB <| oI <| w1
  refine Mach.ok_ite (fun g2 => ?_) (fun g2 => ?_)
  ·
   have w3 : OkL (ZfO L0 a1 L2 L3 L4 L5 L6 v6 v8) :=
    Zc (Zc4 (E := Zu) (L := L4) (i := 0) (q := 0) (by omega) (show ((0 + (0 * 2)) + 0) = 0 * 2 + 0 from by omega) (show 0 + 1 ≤ 2 from by decide) rfl rfl) <| oB <| oI <| oY <| w2
   refine Mach.ok_ite (fun g3 => ?_) (fun g3 => ?_)
   ·
    have w4 : OkL (ZfP L0 a1 L2 L3 L4 L5 L6 v6 v8) :=
     Zc (Zc4 (E := Zu) (L := L4) (i := 0) (q := 1) (by omega) (show ((0 + (0 * 2)) + 1) = 0 * 2 + 1 from by omega) (show 1 + 1 ≤ 2 from by decide) rfl rfl) <| oB <| oI <| oT <| w3
    refine Mach.ok_ite (fun g4 => ?_) (fun g4 => ?_)
    ·
     have w5 : OkL (ZdY L0 a1 L2 L3 L4 L5 L6 v6 v8) :=
      Zc (Zn (Zo1 rfl (by assumption))) <| w4
     refine Mach.ok_ite (fun g5 => ?_) (fun g5 => ?_)
     ·
      have w6 : OkL (ZhU L0 a1 L2 L3 L4 L5 L6 v6 v8) :=
       Zc (Zn (Zhj (E := E_iiii) (L := L2) (i := v6) (q := 0) (l := [vi (ai L2 v6).a0, vi (ZD L6 (aj L4 0).a1), vi (ai L2 v6).a2, vi (ai L2 v6).a3]) (aiA L2 v6 L6 L4 0) (by omega) (show (0 + (v6 * 4)) = v6 * 4 + 0 from by omega) (show 0 + 4 ≤ 4 from by decide) rfl)) <| oB <| oI <| Zc (Zn ⟨ltA, ltA⟩) <| oR <| oI <| oT <| w5
      refine Mach.ok_bind (fun z6 c6 => ?_)
      cases z6 with
      | r0 y6_0 =>
       have w7 : OkL (ZfQ L0 a1 L2 L3 L4 L5 L6 v6 v8 y6_0) :=
        Zc (Zn (Zbe #[Value.agg #[vi (ai L2 v6).a0, vi (ZD L6 (aj L4 0).a1), vi (ai L2 v6).a2, vi (ai L2 v6).a3]] ((ai L2 v6).a0) ((ZD L6 (aj L4 0).a1)) ((ai L2 v6).a2) ((ai L2 v6).a3)  y6_0 N c6  9 rfl dcd dcd)) <| w6
       refine Mach.ok_ite (fun g7 => ?_) (fun g7 => ?_)
       ·
        exact Mach.ok_thr (M := Z5 L0 a1 L2 L3 L4 L5 L6 N) (cd := 1000000) (cm := 0) (r := (.r0 ((L3.getD v6 0)) : Zy)) (fu := 4000) (orc := (Zr [(0, true), (1, true), (2, true), (4, true), (5, true)] [] [(0, v6), (1, v6), (2, 0), (3, 0), (4, v6)] [(0, (aic L2 v6)), (2, [.i (L3.getD v6 0)]), (5, [.i (aj L4 0).a0]), (8, [.s (Za (aj L4 0).a1)])] [(2, .lk (some (vi (ZD L6 (aj L4 0).a1)))), (6, .sl 1 L4.length), (7, .st (Zb E_iiii (L2.set v6 (aiA L2 v6 L6 L4 0)))), (9, (Z1 ((ai L2 v6).a0) ((ZD L6 (aj L4 0).a1)) ((ai L2 v6).a2) ((ai L2 v6).a3)  y6_0  9))])) (u := Value.iface 88 (Value.agg #[vi (L3.getD v6 0)])) (ob := (((y6_0 != (0 : Int)), true) :: ZfQ L0 a1 L2 L3 L4 L5 L6 v6 v8 y6_0)) (fun gv => by as_aux_lemma => kernel_rfl) (oD <| w7) rfl (by rfl) (by rfl)
       ·
        refine Mach.ok_ite (fun g8 => ?_) (fun _ => Mach.ok_none)
        exact Mach.ok_next (M := Z5 L0 a1 L2 L3 L4 L5 L6 N) (cd := 1000000) (cm := 0) (y := (.h1m1 ((L2.set v6 (aiA L2 v6 L6 L4 0))) ((v6 + 1)) ((L3.getD v6 0)) (1) ((L4.length - 1)) : asm_reader_aimX)) (fu := 4000) (orc := (Zr [(0, true), (1, true), (2, true), (4, true), (5, false)] [(0, (((v6 + 1) : Nat) : Int))] [(0, v6), (1, v6), (2, 0), (3, 0), (4, v6)] [(0, (aic L2 v6)), (2, [.i (L3.getD v6 0)]), (5, [.i (aj L4 0).a0]), (8, [.s (Za (aj L4 0).a1)])] [(2, .lk (some (vi (ZD L6 (aj L4 0).a1)))), (6, .sl 1 L4.length), (7, .st (Zb E_iiii (L2.set v6 (aiA L2 v6 L6 L4 0)))), (9, (Z1 ((ai L2 v6).a0) ((ZD L6 (aj L4 0).a1)) ((ai L2 v6).a2) ((ai L2 v6).a3)  y6_0  9))])) (live := [0, 1, 2, 3, 4, 5]) (tv := fun _ => [some (vp 0 0), some (vs 1 0 L2.length L2.length), some (vi (L2.length : Int)), some (vi (((v6 + 1) : Nat) : Int))]) (bl := [some (.cells [Value.string (Za L0), vi (L3.getD v6 0), vs 1 0 L2.length L2.length, vs 2 0 L3.length L3.length, Value.slice (some ⟨3, (0 + (1 * 2)), none⟩) (L4.length - 1) (L4.length - 1), vs 4 0 L5.length L5.length, Value.map (some 5)] 57), some (.cells (Zb E_iiii (L2.set v6 (aiA L2 v6 L6 L4 0))) 24 true), some (.cells (Zb eI L3) 3 true), some (.cells (Zb Zu L4) 122 true), some (.cells (Zb Zs L5) 9 true), some (.ro (Zj L6) true)]) (ob := (((IntKind.i64.wrap ((v6 : Int) + (1 : Int))) == (((v6 + 1) : Nat) : Int), true) :: ((y6_0 != (0 : Int)), false) :: ZfQ L0 a1 L2 L3 L4 L5 L6 v6 v8 y6_0)) rfl (show 1 ∈ Zaw (Zba 1) from by decide +kernel) (fun gv => by as_aux_lemma => kernel_rfl) (Zc (beq_iff_eq.2 ((wrap_i64 ltA).trans (by first | rfl | omega))) <| oE <| w7) rfl (by decide) (by rfl) (fun _ => ⟨rr, ⟨⟨Eq.trans (show (vs 1 0 (L2.set v6 (aiA L2 v6 L6 L4 0)).length (L2.set v6 (aiA L2 v6 L6 L4 0)).length : Value) = vs 1 0 L2.length L2.length from (ZS rfl eqA eqA)) (by rfl), by rfl⟩, ⟨rr, ⟨rr, trivial⟩⟩⟩⟩) ⟨⟨rfl, ⟨[], (show ([Value.string (Za L0), vi (L3.getD v6 0), vs 1 0 L2.length L2.length, vs 2 0 L3.length L3.length, Value.slice (some ⟨3, (0 + (1 * 2)), none⟩) (L4.length - 1) (L4.length - 1), vs 4 0 L5.length L5.length, Value.map (some 5)] : List Value) = _ from (Zd rfl (Zd rfl (Zd (ZS rfl eqA eqA) (Zd rfl (Zd (ZS eqA rfl rfl) (Zd rfl (Zd rfl rfl))))))).symm)⟩, by rfl⟩, ⟨(Zm (E := E_iiii) (α := RA) _ (L2.set v6 (aiA L2 v6 L6 L4 0)) _), ⟨(Zm (E := eI) (α := Int) _ L3 _), ⟨(Zm (E := Zu) (α := R_is) _ L4 _), ⟨(Zm (E := Zs) (α := List Int) _ L5 _), ⟨(show Zj L6 = Zj L6 from rfl), trivial⟩⟩⟩⟩⟩⟩
     ·
      refine Mach.ok_ite (fun g6 => ?_) (fun g6 => ?_)
      ·
       have w7 : OkL (ZhV L0 a1 L2 L3 L4 L5 L6 v6 v8) :=
        Zc (Zn (Zhj (E := E_iiii) (L := L2) (i := v6) (q := 0) (l := [vi (ai L2 v6).a0, vi (ai L2 v6).a1, vi (ZD L6 (aj L4 0).a1), vi (ai L2 v6).a3]) (aiB L2 v6 L6 L4 0) (by omega) (show (0 + (v6 * 4)) = v6 * 4 + 0 from by omega) (show 0 + 4 ≤ 4 from by decide) rfl)) <| oB <| oI <| Zc (Zn ⟨ltA, ltA⟩) <| oR <| oI <| oT <| oF <| w5
       refine Mach.ok_bind (fun z7 c7 => ?_)
       cases z7 with
       | r0 y7_0 =>
        have w8 : OkL (ZfR L0 a1 L2 L3 L4 L5 L6 v6 v8 y7_0) :=
         Zc (Zn (Zbe #[Value.agg #[vi (ai L2 v6).a0, vi (ai L2 v6).a1, vi (ZD L6 (aj L4 0).a1), vi (ai L2 v6).a3]] ((ai L2 v6).a0) ((ai L2 v6).a1) ((ZD L6 (aj L4 0).a1)) ((ai L2 v6).a3)  y7_0 N c7  9 rfl dcd dcd)) <| w7
        refine Mach.ok_ite (fun g8 => ?_) (fun g8 => ?_)
        ·
         exact Mach.ok_thr (M := Z5 L0 a1 L2 L3 L4 L5 L6 N) (cd := 1000000) (cm := 0) (r := (.r0 ((L3.getD v6 0)) : Zy)) (fu := 4000) (orc := (Zr [(0, true), (1, true), (2, true), (4, false), (5, true), (6, true)] [] [(0, v6), (1, v6), (2, 0), (3, 0), (4, v6)] [(0, (aic L2 v6)), (2, [.i (L3.getD v6 0)]), (5, [.i (aj L4 0).a0]), (8, [.s (Za (aj L4 0).a1)])] [(2, .lk (some (vi (ZD L6 (aj L4 0).a1)))), (6, .sl 1 L4.length), (7, .st (Zb E_iiii (L2.set v6 (aiB L2 v6 L6 L4 0)))), (9, (Z1 ((ai L2 v6).a0) ((ai L2 v6).a1) ((ZD L6 (aj L4 0).a1)) ((ai L2 v6).a3)  y7_0  9))])) (u := Value.iface 88 (Value.agg #[vi (L3.getD v6 0)])) (ob := (((y7_0 != (0 : Int)), true) :: ZfR L0 a1 L2 L3 L4 L5 L6 v6 v8 y7_0)) (fun gv => by as_aux_lemma => kernel_rfl) (oD <| w8) rfl (by rfl) (by rfl)
        ·
         refine Mach.ok_ite (fun g9 => ?_) (fun _ => Mach.ok_none)
         exact Mach.ok_next (M := Z5 L0 a1 L2 L3 L4 L5 L6 N) (cd := 1000000) (cm := 0) (y := (.h1m1 ((L2.set v6 (aiB L2 v6 L6 L4 0))) ((v6 + 1)) ((L3.getD v6 0)) (1) ((L4.length - 1)) : asm_reader_aimX)) (fu := 4000) (orc := (Zr [(0, true), (1, true), (2, true), (4, false), (5, true), (6, false)] [(0, (((v6 + 1) : Nat) : Int))] [(0, v6), (1, v6), (2, 0), (3, 0), (4, v6)] [(0, (aic L2 v6)), (2, [.i (L3.getD v6 0)]), (5, [.i (aj L4 0).a0]), (8, [.s (Za (aj L4 0).a1)])] [(2, .lk (some (vi (ZD L6 (aj L4 0).a1)))), (6, .sl 1 L4.length), (7, .st (Zb E_iiii (L2.set v6 (aiB L2 v6 L6 L4 0)))), (9, (Z1 ((ai L2 v6).a0) ((ai L2 v6).a1) ((ZD L6 (aj L4 0).a1)) ((ai L2 v6).a3)  y7_0  9))])) (live := [0, 1, 2, 3, 4, 5]) (tv := fun _ => [some (vp 0 0), some (vs 1 0 L2.length L2.length), some (vi (L2.length : Int)), some (vi (((v6 + 1) : Nat) : Int))]) (bl := [some (.cells [Value.string (Za L0), vi (L3.getD v6 0), vs 1 0 L2.length L2.length, vs 2 0 L3.length L3.length, Value.slice (some ⟨3, (0 + (1 * 2)), none⟩) (L4.length - 1) (L4.length - 1), vs 4 0 L5.length L5.length, Value.map (some 5)] 57), some (.cells (Zb E_iiii (L2.set v6 (aiB L2 v6 L6 L4 0))) 24 true), some (.cells (Zb eI L3) 3 true), some (.cells (Zb Zu L4) 122 true), some (.cells (Zb Zs L5) 9 true), some (.ro (Zj L6) true)]) (ob := (((IntKind.i64.wrap ((v6 : Int) + (1 : Int))) == (((v6 + 1) : Nat) : Int), true) :: ((y7_0 != (0 : Int)), false) :: ZfR L0 a1 L2 L3 L4 L5 L6 v6 v8 y7_0)) rfl (show 1 ∈ Zaw (Zba 1) from by decide +kernel) (fun gv => by as_aux_lemma => kernel_rfl) (Zc (beq_iff_eq.2 ((wrap_i64 ltA).trans (by first | rfl | omega))) <| oE <| w8) rfl (by decide) (by rfl) (fun _ => ⟨rr, ⟨⟨Eq.trans (show (vs 1 0 (L2.set v6 (aiB L2 v6 L6 L4 0)).length (L2.set v6 (aiB L2 v6 L6 L4 0)).length : Value) = vs 1 0 L2.length L2.length from (ZS rfl eqA eqA)) (by rfl), by rfl⟩, ⟨rr, ⟨rr, trivial⟩⟩⟩⟩) ⟨⟨rfl, ⟨[], (show ([Value.string (Za L0), vi (L3.getD v6 0), vs 1 0 L2.length L2.length, vs 2 0 L3.length L3.length, Value.slice (some ⟨3, (0 + (1 * 2)), none⟩) (L4.length - 1) (L4.length - 1), vs 4 0 L5.length L5.length, Value.map (some 5)] : List Value) = _ from (Zd rfl (Zd rfl (Zd (ZS rfl eqA eqA) (Zd rfl (Zd (ZS eqA rfl rfl) (Zd rfl (Zd rfl rfl))))))).symm)⟩, by rfl⟩, ⟨(Zm (E := E_iiii) (α := RA) _ (L2.set v6 (aiB L2 v6 L6 L4 0)) _), ⟨(Zm (E := eI) (α := Int) _ L3 _), ⟨(Zm (E := Zu) (α := R_is) _ L4 _), ⟨(Zm (E := Zs) (α := List Int) _ L5 _), ⟨(show Zj L6 = Zj L6 from rfl), trivial⟩⟩⟩⟩⟩⟩
      ·
       have w7 : OkL (ZhW L0 a1 L2 L3 L4 L5 L6 v6 v8) :=
        Zc (Zn (Zhj (E := E_iiii) (L := L2) (i := v6) (q := 0) (l := [vi (ai L2 v6).a0, vi (ai L2 v6).a1, vi (ai L2 v6).a2, vi (ai L2 v6).a3]) (aiC L2 v6) (by omega) (show (0 + (v6 * 4)) = v6 * 4 + 0 from by omega) (show 0 + 4 ≤ 4 from by decide) rfl)) <| oB <| oI <| Zc (Zn ⟨ltA, ltA⟩) <| oR <| oI <| oF <| oF <| w5
       refine Mach.ok_bind (fun z7 c7 => ?_)
       cases z7 with
       | r0 y7_0 =>
        have w8 : OkL (Zfw L0 a1 L2 L3 L4 L5 L6 v6 v8 y7_0) :=
         Zc (Zn (Zbe #[Value.agg #[vi (ai L2 v6).a0, vi (ai L2 v6).a1, vi (ai L2 v6).a2, vi (ai L2 v6).a3]] ((ai L2 v6).a0) ((ai L2 v6).a1) ((ai L2 v6).a2) ((ai L2 v6).a3)  y7_0 N c7  9 rfl dcd dcd)) <| w7
        refine Mach.ok_ite (fun g8 => ?_) (fun g8 => ?_)
        ·
         exact Mach.ok_thr (M := Z5 L0 a1 L2 L3 L4 L5 L6 N) (cd := 1000000) (cm := 0) (r := (.r0 ((L3.getD v6 0)) : Zy)) (fu := 4000) (orc := (Zr [(0, true), (1, true), (2, true), (4, false), (5, false), (6, true)] [] [(0, v6), (1, v6), (2, 0), (3, 0), (4, v6)] [(0, (aic L2 v6)), (2, [.i (L3.getD v6 0)]), (5, [.i (aj L4 0).a0]), (8, [.s (Za (aj L4 0).a1)])] [(2, .lk (some (vi (ZD L6 (aj L4 0).a1)))), (5, .sl 1 L4.length), (6, .st (Zb E_iiii (L2.set v6 (aiC L2 v6)))), (8, (Z1 ((ai L2 v6).a0) ((ai L2 v6).a1) ((ai L2 v6).a2) ((ai L2 v6).a3)  y7_0  9))])) (u := Value.iface 88 (Value.agg #[vi (L3.getD v6 0)])) (ob := (((y7_0 != (0 : Int)), true) :: Zfw L0 a1 L2 L3 L4 L5 L6 v6 v8 y7_0)) (fun gv => by as_aux_lemma => kernel_rfl) (oD <| w8) rfl (by rfl) (by rfl)
        ·
         refine Mach.ok_ite (fun g9 => ?_) (fun _ => Mach.ok_none)
         exact Mach.ok_next (M := Z5 L0 a1 L2 L3 L4 L5 L6 N) (cd := 1000000) (cm := 0) (y := (.h1m1 ((L2.set v6 (aiC L2 v6))) ((v6 + 1)) ((L3.getD v6 0)) (1) ((L4.length - 1)) : asm_reader_aimX)) (fu := 4000) (orc := (Zr [(0, true), (1, true), (2, true), (4, false), (5, false), (6, false)] [(0, (((v6 + 1) : Nat) : Int))] [(0, v6), (1, v6), (2, 0), (3, 0), (4, v6)] [(0, (aic L2 v6)), (2, [.i (L3.getD v6 0)]), (5, [.i (aj L4 0).a0]), (8, [.s (Za (aj L4 0).a1)])] [(2, .lk (some (vi (ZD L6 (aj L4 0).a1)))), (5, .sl 1 L4.length), (6, .st (Zb E_iiii (L2.set v6 (aiC L2 v6)))), (8, (Z1 ((ai L2 v6).a0) ((ai L2 v6).a1) ((ai L2 v6).a2) ((ai L2 v6).a3)  y7_0  9))])) (live := [0, 1, 2, 3, 4, 5]) (tv := fun _ => [some (vp 0 0), some (vs 1 0 L2.length L2.length), some (vi (L2.length : Int)), some (vi (((v6 + 1) : Nat) : Int))]) (bl := [some (.cells [Value.string (Za L0), vi (L3.getD v6 0), vs 1 0 L2.length L2.length, vs 2 0 L3.length L3.length, Value.slice (some ⟨3, (0 + (1 * 2)), none⟩) (L4.length - 1) (L4.length - 1), vs 4 0 L5.length L5.length, Value.map (some 5)] 57), some (.cells (Zb E_iiii (L2.set v6 (aiC L2 v6))) 24 true), some (.cells (Zb eI L3) 3 true), some (.cells (Zb Zu L4) 122 true), some (.cells (Zb Zs L5) 9 true), some (.ro (Zj L6) true)]) (ob := (((IntKind.i64.wrap ((v6 : Int) + (1 : Int))) == (((v6 + 1) : Nat) : Int), true) :: ((y7_0 != (0 : Int)), false) :: Zfw L0 a1 L2 L3 L4 L5 L6 v6 v8 y7_0)) rfl (show 1 ∈ Zaw (Zba 1) from by decide +kernel) (fun gv => by as_aux_lemma => kernel_rfl) (Zc (beq_iff_eq.2 ((wrap_i64 ltA).trans (by first | rfl | omega))) <| oE <| w8) rfl (by decide) (by rfl) (fun _ => ⟨rr, ⟨⟨Eq.trans (show (vs 1 0 (L2.set v6 (aiC L2 v6)).length (L2.set v6 (aiC L2 v6)).length : Value) = vs 1 0 L2.length L2.length from (ZS rfl eqA eqA)) (by rfl), by rfl⟩, ⟨rr, ⟨rr, trivial⟩⟩⟩⟩) ⟨⟨rfl, ⟨[], (show ([Value.string (Za L0), vi (L3.getD v6 0), vs 1 0 L2.length L2.length, vs 2 0 L3.length L3.length, Value.slice (some ⟨3, (0 + (1 * 2)), none⟩) (L4.length - 1) (L4.length - 1), vs 4 0 L5.length L5.length, Value.map (some 5)] : List Value) = _ from (Zd rfl (Zd rfl (Zd (ZS rfl eqA eqA) (Zd rfl (Zd (ZS eqA rfl rfl) (Zd rfl (Zd rfl rfl))))))).symm)⟩, by rfl⟩, ⟨(Zm (E := E_iiii) (α := RA) _ (L2.set v6 (aiC L2 v6)) _), ⟨(Zm (E := eI) (α := Int) _ L3 _), ⟨(Zm (E := Zu) (α := R_is) _ L4 _), ⟨(Zm (E := Zs) (α := List Int) _ L5 _), ⟨(show Zj L6 = Zj L6 from rfl), trivial⟩⟩⟩⟩⟩⟩
    ·
     exact Mach.ok_thr (M := Z5 L0 a1 L2 L3 L4 L5 L6 N) (cd := 1000000) (cm := 0) (r := (.r0 ((L3.getD v6 0)) : Zy)) (fu := 4000) (orc := (Zz [o1, o1, o1] [] [(0, v6), (1, v6), (2, 0), (3, 0)] [(0, (aic L2 v6)), (2, [.i (L3.getD v6 0)]), (5, [.i (aj L4 0).a0]), (8, [.s (Za (aj L4 0).a1)])] [(2, .lk (none))])) (u := Value.iface 88 (Value.agg #[vi (L3.getD v6 0)])) (ob := ((dP ((Zbo Tryd.prog 9 (Value.string (Za (aj L4 0).a1)) (ZaZ L6)).map (Option.map Prod.snd) = some (none)), true) :: ZfP L0 a1 L2 L3 L4 L5 L6 v6 v8)) (fun gv => by as_aux_lemma => kernel_rfl) (Zc (Zn (Zmc rfl (by assumption))) <| w4) rfl (by rfl) (by rfl)
   ·
    refine Mach.ok_bind (fun z4 c4 => ?_)
    cases z4 with
    | r0 y4_0 =>
     have w5 : OkL (Zfx L0 a1 L2 L3 L4 L5 L6 v6 v8 y4_0) :=
      Zc (Zn (Zbe #[Value.agg #[vi (ai L2 v6).a0, vi (ai L2 v6).a1, vi (ai L2 v6).a2, vi (ai L2 v6).a3]] ((ai L2 v6).a0) ((ai L2 v6).a1) ((ai L2 v6).a2) ((ai L2 v6).a3)  y4_0 N c4  7 rfl dcd dcd)) <| oF <| w3
     refine Mach.ok_ite (fun g5 => ?_) (fun g5 => ?_)
     ·
      exact Mach.ok_thr (M := Z5 L0 a1 L2 L3 L4 L5 L6 N) (cd := 1000000) (cm := 0) (r := (.r0 ((L3.getD v6 0)) : Zy)) (fu := 4000) (orc := (Zz [o1, o1, o0, o1] [] [(0, v6), (1, v6), (2, 0)] [(0, (aic L2 v6)), (2, [.i (L3.getD v6 0)]), (5, [.i (aj L4 0).a0])] [(2, (Z1 ((ai L2 v6).a0) ((ai L2 v6).a1) ((ai L2 v6).a2) ((ai L2 v6).a3)  y4_0  7))])) (u := Value.iface 88 (Value.agg #[vi (L3.getD v6 0)])) (ob := (((y4_0 != (0 : Int)), true) :: Zfx L0 a1 L2 L3 L4 L5 L6 v6 v8 y4_0)) (fun gv => by as_aux_lemma => kernel_rfl) (oD <| w5) rfl (by rfl) (by rfl)
     ·
      refine Mach.ok_ite (fun g6 => ?_) (fun _ => Mach.ok_none)
      exact Mach.ok_next (M := Z5 L0 a1 L2 L3 L4 L5 L6 N) (cd := 1000000) (cm := 0) (y := (.h1m0 ((v6 + 1)) ((L3.getD v6 0)) : asm_reader_aimX)) (fu := 4000) (orc := (Zz [o1, o1, o0, o0] [(0, (((v6 + 1) : Nat) : Int))] [(0, v6), (1, v6), (2, 0)] [(0, (aic L2 v6)), (2, [.i (L3.getD v6 0)]), (5, [.i (aj L4 0).a0])] [(2, (Z1 ((ai L2 v6).a0) ((ai L2 v6).a1) ((ai L2 v6).a2) ((ai L2 v6).a3)  y4_0  7))])) (live := [0, 1, 2, 3, 4, 5]) (tv := fun _ => [some (vp 0 0), some (vs 1 0 L2.length L2.length), some (vi (L2.length : Int)), some (vi (((v6 + 1) : Nat) : Int))]) (bl := [some (.cells [Value.string (Za L0), vi (L3.getD v6 0), vs 1 0 L2.length L2.length, vs 2 0 L3.length L3.length, vs 3 0 L4.length L4.length, vs 4 0 L5.length L5.length, Value.map (some 5)] 57), some (.cells (Zb E_iiii L2) 24 true), some (.cells (Zb eI L3) 3 true), some (.cells (Zb Zu L4) 122 true), some (.cells (Zb Zs L5) 9 true), some (.ro (Zj L6) true)]) (ob := (((IntKind.i64.wrap ((v6 : Int) + (1 : Int))) == (((v6 + 1) : Nat) : Int), true) :: ((y4_0 != (0 : Int)), false) :: Zfx L0 a1 L2 L3 L4 L5 L6 v6 v8 y4_0)) rfl (show 1 ∈ Zaw (Zba 1) from by decide +kernel) (fun gv => by as_aux_lemma => kernel_rfl) (Zc (beq_iff_eq.2 ((wrap_i64 ltA).trans (by first | rfl | omega))) <| oE <| w5) rfl (by decide) (by rfl) (fun _ => ⟨rr, ⟨rr, ⟨rr, ⟨rr, trivial⟩⟩⟩⟩) ⟨sm, ⟨(Zm (E := E_iiii) (α := RA) _ L2 _), ⟨(Zm (E := eI) (α := Int) _ L3 _), ⟨(Zm (E := Zu) (α := R_is) _ L4 _), ⟨(Zm (E := Zs) (α := List Int) _ L5 _), ⟨(show Zj L6 = Zj L6 from rfl), trivial⟩⟩⟩⟩⟩⟩
  ·
   refine Mach.ok_bind (fun z3 c3 => ?_)
   cases z3 with
   | r0 y3_0 =>
    have w4 : OkL (Zfy L0 a1 L2 L3 L4 L5 L6 v6 v8 y3_0) :=
     Zc (Zn (Zbe #[Value.agg #[vi (ai L2 v6).a0, vi (ai L2 v6).a1, vi (ai L2 v6).a2, vi (ai L2 v6).a3]] ((ai L2 v6).a0) ((ai L2 v6).a1) ((ai L2 v6).a2) ((ai L2 v6).a3)  y3_0 N c3  7 rfl dcd dcd)) <| oN <| w2
    refine Mach.ok_ite (fun g4 => ?_) (fun g4 => ?_)
    ·
     exact Mach.ok_thr (M := Z5 L0 a1 L2 L3 L4 L5 L6 N) (cd := 1000000) (cm := 0) (r := (.r0 ((L3.getD v6 0)) : Zy)) (fu := 4000) (orc := (Zz [o1, o0, o1] [] [(0, v6), (1, v6)] [(0, (aic L2 v6)), (2, [.i (L3.getD v6 0)])] [(2, (Z1 ((ai L2 v6).a0) ((ai L2 v6).a1) ((ai L2 v6).a2) ((ai L2 v6).a3)  y3_0  7))])) (u := Value.iface 88 (Value.agg #[vi (L3.getD v6 0)])) (ob := (((y3_0 != (0 : Int)), true) :: Zfy L0 a1 L2 L3 L4 L5 L6 v6 v8 y3_0)) (fun gv => by as_aux_lemma => kernel_rfl) (oD <| w4) rfl (by rfl) (by rfl)
    ·
     refine Mach.ok_ite (fun g5 => ?_) (fun _ => Mach.ok_none)
     exact Mach.ok_next (M := Z5 L0 a1 L2 L3 L4 L5 L6 N) (cd := 1000000) (cm := 0) (y := (.h1m0 ((v6 + 1)) ((L3.getD v6 0)) : asm_reader_aimX)) (fu := 4000) (orc := (Zz [o1, o0, o0] [(0, (((v6 + 1) : Nat) : Int))] [(0, v6), (1, v6)] [(0, (aic L2 v6)), (2, [.i (L3.getD v6 0)])] [(2, (Z1 ((ai L2 v6).a0) ((ai L2 v6).a1) ((ai L2 v6).a2) ((ai L2 v6).a3)  y3_0  7))])) (live := [0, 1, 2, 3, 4, 5]) (tv := fun _ => [some (vp 0 0), some (vs 1 0 L2.length L2.length), some (vi (L2.length : Int)), some (vi (((v6 + 1) : Nat) : Int))]) (bl := [some (.cells [Value.string (Za L0), vi (L3.getD v6 0), vs 1 0 L2.length L2.length, vs 2 0 L3.length L3.length, vs 3 0 L4.length L4.length, vs 4 0 L5.length L5.length, Value.map (some 5)] 57), some (.cells (Zb E_iiii L2) 24 true), some (.cells (Zb eI L3) 3 true), some (.cells (Zb Zu L4) 122 true), some (.cells (Zb Zs L5) 9 true), some (.ro (Zj L6) true)]) (ob := (((IntKind.i64.wrap ((v6 : Int) + (1 : Int))) == (((v6 + 1) : Nat) : Int), true) :: ((y3_0 != (0 : Int)), false) :: Zfy L0 a1 L2 L3 L4 L5 L6 v6 v8 y3_0)) rfl (show 1 ∈ Zaw (Zba 1) from by decide +kernel) (fun gv => by as_aux_lemma => kernel_rfl) (Zc (beq_iff_eq.2 ((wrap_i64 ltA).trans (by first | rfl | omega))) <| oE <| w4) rfl (by decide) (by rfl) (fun _ => ⟨rr, ⟨rr, ⟨rr, ⟨rr, trivial⟩⟩⟩⟩) ⟨sm, ⟨(Zm (E := E_iiii) (α := RA) _ L2 _), ⟨(Zm (E := eI) (α := Int) _ L3 _), ⟨(Zm (E := Zu) (α := R_is) _ L4 _), ⟨(Zm (E := Zs) (α := List Int) _ L5 _), ⟨(show Zj L6 = Zj L6 from rfl), trivial⟩⟩⟩⟩⟩⟩
 ·
  exact Mach.ok_fin (M := Z5 L0 a1 L2 L3 L4 L5 L6 N) (cd := 1000000) (cm := 0) (r := (.r1 (v8) : Zy)) (fu := 4000) (orc := (Zz [o0] [] [] [] [])) (live := [0, 1, 2, 3, 4, 5]) (u := vtt) (bl := [some (.cells [Value.string (Za L0), vi v8, vs 1 0 L2.length L2.length, vs 2 0 L3.length L3.length, vs 3 0 L4.length L4.length, vs 4 0 L5.length L5.length, Value.map (some 5)] 57), some (.cells (Zb E_iiii L2) 24 true), some (.cells (Zb eI L3) 3 true), some (.cells (Zb Zu L4) 122 true), some (.cells (Zb Zs L5) 9 true), some (.ro (Zj L6) true)]) (ob := (((decide ((v6 : Int) < (L2.length : Int))), false) :: [])) (fun gv => by as_aux_lemma => kernel_rfl) (oN <| ZL) rfl (by decide) (by rfl) rr ⟨sm, ⟨(Zm (E := E_iiii) (α := RA) _ L2 _), ⟨(Zm (E := eI) (α := Int) _ L3 _), ⟨(Zm (E := Zu) (α := R_is) _ L4 _), ⟨(Zm (E := Zs) (α := List Int) _ L5 _), ⟨(show Zj L6 = Zj L6 from rfl), trivial⟩⟩⟩⟩⟩⟩

noncomputable def ZhD (L0 : List Int) (a1 : Int) (L2 : List RA) (L3 : List Int) (L4 : List R_is) (L5 : List (List Int)) (L6 : List R_si) (v0 : List RA) (v6 : Nat) (v8 : Int) (v9 v10 : Nat) : List (Bool × Bool) := ((decide ((v6 : Int) < (L2.length : Int))), true) :: []

noncomputable def ZhE (L0 : List Int) (a1 : Int) (L2 : List RA) (L3 : List Int) (L4 : List R_is) (L5 : List (List Int)) (L6 : List R_si) (v0 : List RA) (v6 : Nat) (v8 : Int) (v9 v10 : Nat) : List (Bool × Bool) := (ZaA (Z8 4 (List.drop (0 + (v6 * 4)) (Zb E_iiii v0))) (aic v0 v6), true) :: (Nat.blt v6 v0.length, true) :: ((v6 : Int) == Int.ofNat v6, true) :: ZhD L0 a1 L2 L3 L4 L5 L6 v0 v6 v8 v9 v10

noncomputable def Zfz (L0 : List Int) (a1 : Int) (L2 : List RA) (L3 : List Int) (L4 : List R_is) (L5 : List (List Int)) (L6 : List R_si) (v0 : List RA) (v6 : Nat) (v8 : Int) (v9 v10 : Nat) : List (Bool × Bool) := (ZaA (Z8 1 (List.drop (0 + (v6 * 1)) (Zb eI L3))) [.i (L3.getD v6 0)], true) :: (Nat.blt v6 L3.length, true) :: ((v6 : Int) == Int.ofNat v6, true) :: ZhE L0 a1 L2 L3 L4 L5 L6 v0 v6 v8 v9 v10

noncomputable def ZhF (L0 : List Int) (a1 : Int) (L2 : List RA) (L3 : List Int) (L4 : List R_is) (L5 : List (List Int)) (L6 : List R_si) (v0 : List RA) (v6 : Nat) (v8 : Int) (v9 v10 : Nat) : List (Bool × Bool) := (Nat.blt 0 v10, true) :: ((0 : Int) == Int.ofNat 0, true) :: ((decide ((v10 : Int) > (0 : Int))), true) :: Zfz L0 a1 L2 L3 L4 L5 L6 v0 v6 v8 v9 v10

noncomputable def Zf0 (L0 : List Int) (a1 : Int) (L2 : List RA) (L3 : List Int) (L4 : List R_is) (L5 : List (List Int)) (L6 : List R_si) (v0 : List RA) (v6 : Nat) (v8 : Int) (v9 v10 : Nat) : List (Bool × Bool) := (ZaA (Z8 1 (List.drop (((v9 * 2) + (0 * 2)) + 0) (Zb Zu L4))) [.i (aj L4 v9).a0], true) :: ZhF L0 a1 L2 L3 L4 L5 L6 v0 v6 v8 v9 v10

noncomputable def Zf1 (L0 : List Int) (a1 : Int) (L2 : List RA) (L3 : List Int) (L4 : List R_is) (L5 : List (List Int)) (L6 : List R_si) (v0 : List RA) (v6 : Nat) (v8 : Int) (v9 v10 : Nat) : List (Bool × Bool) := (ZaA (Z8 1 (List.drop (((v9 * 2) + (0 * 2)) + 1) (Zb Zu L4))) [.s (Za (aj L4 v9).a1)], true) :: (Nat.blt 0 v10, true) :: ((0 : Int) == Int.ofNat 0, true) :: (((aj L4 v9).a0 == (v6 : Int)), true) :: Zf0 L0 a1 L2 L3 L4 L5 L6 v0 v6 v8 v9 v10

noncomputable def ZdK (L0 : List Int) (a1 : Int) (L2 : List RA) (L3 : List Int) (L4 : List R_is) (L5 : List (List Int)) (L6 : List R_si) (v0 : List RA) (v6 : Nat) (v8 : Int) (v9 v10 : Nat) : List (Bool × Bool) := (dP ((Zbo Tryd.prog 9 (Value.string (Za (aj L4 v9).a1)) (ZaZ L6)).map (Option.map Prod.snd) = some (some (vi (ZD L6 (aj L4 v9).a1)))), true) :: Zf1 L0 a1 L2 L3 L4 L5 L6 v0 v6 v8 v9 v10

noncomputable def ZhG (L0 : List Int) (a1 : Int) (L2 : List RA) (L3 : List Int) (L4 : List R_is) (L5 : List (List Int)) (L6 : List R_si) (v0 : List RA) (v6 : Nat) (v8 : Int) (v9 v10 : Nat) : List (Bool × Bool) := (dP ((0 + (v6 * 4)) + ([vi (ai v0 v6).a0, vi (ZD L6 (aj L4 v9).a1), vi (ai v0 v6).a2, vi (ai v0 v6).a3] : List Value).length ≤ ((Zb E_iiii v0) : List Value).length ∧ Zea (Zb E_iiii v0) (0 + (v6 * 4)) [vi (ai v0 v6).a0, vi (ZD L6 (aj L4 v9).a1), vi (ai v0 v6).a2, vi (ai v0 v6).a3] = (Zb E_iiii (v0.set v6 (aiA v0 v6 L6 L4 v9)))), true) :: (Nat.blt v6 v0.length, true) :: ((v6 : Int) == Int.ofNat v6, true) :: (dP (1 ≤ v10 ∧ v10 ≤ v10), true) :: (dS v10, true) :: ((1 : Int) == Int.ofNat 1, true) :: (((ai v0 v6).a0 == (8 : Int)), true) :: ZdK L0 a1 L2 L3 L4 L5 L6 v0 v6 v8 v9 v10

noncomputable def Zf2 (L0 : List Int) (a1 : Int) (L2 : List RA) (L3 : List Int) (L4 : List R_is) (L5 : List (List Int)) (L6 : List R_si) (v0 : List RA) (v6 : Nat) (v8 : Int) (v9 v10 : Nat) (y8_0 : Int) : List (Bool × Bool) := (dP (ZaV #[Value.agg #[vi (ai v0 v6).a0, vi (ZD L6 (aj L4 v9).a1), vi (ai v0 v6).a2, vi (ai v0 v6).a3]] ((ai v0 v6).a0) ((ZD L6 (aj L4 v9).a1)) ((ai v0 v6).a2) ((ai v0 v6).a3)  y8_0  9), true) :: ZhG L0 a1 L2 L3 L4 L5 L6 v0 v6 v8 v9 v10

noncomputable def ZhH (L0 : List Int) (a1 : Int) (L2 : List RA) (L3 : List Int) (L4 : List R_is) (L5 : List (List Int)) (L6 : List R_si) (v0 : List RA) (v6 : Nat) (v8 : Int) (v9 v10 : Nat) : List (Bool × Bool) := (dP ((0 + (v6 * 4)) + ([vi (ai v0 v6).a0, vi (ai v0 v6).a1, vi (ZD L6 (aj L4 v9).a1), vi (ai v0 v6).a3] : List Value).length ≤ ((Zb E_iiii v0) : List Value).length ∧ Zea (Zb E_iiii v0) (0 + (v6 * 4)) [vi (ai v0 v6).a0, vi (ai v0 v6).a1, vi (ZD L6 (aj L4 v9).a1), vi (ai v0 v6).a3] = (Zb E_iiii (v0.set v6 (aiB v0 v6 L6 L4 v9)))), true) :: (Nat.blt v6 v0.length, true) :: ((v6 : Int) == Int.ofNat v6, true) :: (dP (1 ≤ v10 ∧ v10 ≤ v10), true) :: (dS v10, true) :: ((1 : Int) == Int.ofNat 1, true) :: (((ai v0 v6).a0 == (9 : Int)), true) :: (((ai v0 v6).a0 == (8 : Int)), false) :: ZdK L0 a1 L2 L3 L4 L5 L6 v0 v6 v8 v9 v10

noncomputable def Zf3 (L0 : List Int) (a1 : Int) (L2 : List RA) (L3 : List Int) (L4 : List R_is) (L5 : List (List Int)) (L6 : List R_si) (v0 : List RA) (v6 : Nat) (v8 : Int) (v9 v10 : Nat) (y9_0 : Int) : List (Bool × Bool) := (dP (ZaV #[Value.agg #[vi (ai v0 v6).a0, vi (ai v0 v6).a1, vi (ZD L6 (aj L4 v9).a1), vi (ai v0 v6).a3]] ((ai v0 v6).a0) ((ai v0 v6).a1) ((ZD L6 (aj L4 v9).a1)) ((ai v0 v6).a3)  y9_0  9), true) :: ZhH L0 a1 L2 L3 L4 L5 L6 v0 v6 v8 v9 v10

noncomputable def ZhI (L0 : List Int) (a1 : Int) (L2 : List RA) (L3 : List Int) (L4 : List R_is) (L5 : List (List Int)) (L6 : List R_si) (v0 : List RA) (v6 : Nat) (v8 : Int) (v9 v10 : Nat) : List (Bool × Bool) := (dP ((0 + (v6 * 4)) + ([vi (ai v0 v6).a0, vi (ai v0 v6).a1, vi (ai v0 v6).a2, vi (ai v0 v6).a3] : List Value).length ≤ ((Zb E_iiii v0) : List Value).length ∧ Zea (Zb E_iiii v0) (0 + (v6 * 4)) [vi (ai v0 v6).a0, vi (ai v0 v6).a1, vi (ai v0 v6).a2, vi (ai v0 v6).a3] = (Zb E_iiii (v0.set v6 (aiC v0 v6)))), true) :: (Nat.blt v6 v0.length, true) :: ((v6 : Int) == Int.ofNat v6, true) :: (dP (1 ≤ v10 ∧ v10 ≤ v10), true) :: (dS v10, true) :: ((1 : Int) == Int.ofNat 1, true) :: (((ai v0 v6).a0 == (9 : Int)), false) :: (((ai v0 v6).a0 == (8 : Int)), false) :: ZdK L0 a1 L2 L3 L4 L5 L6 v0 v6 v8 v9 v10

noncomputable def Zf4 (L0 : List Int) (a1 : Int) (L2 : List RA) (L3 : List Int) (L4 : List R_is) (L5 : List (List Int)) (L6 : List R_si) (v0 : List RA) (v6 : Nat) (v8 : Int) (v9 v10 : Nat) (y9_0 : Int) : List (Bool × Bool) := (dP (ZaV #[Value.agg #[vi (ai v0 v6).a0, vi (ai v0 v6).a1, vi (ai v0 v6).a2, vi (ai v0 v6).a3]] ((ai v0 v6).a0) ((ai v0 v6).a1) ((ai v0 v6).a2) ((ai v0 v6).a3)  y9_0  9), true) :: ZhI L0 a1 L2 L3 L4 L5 L6 v0 v6 v8 v9 v10

noncomputable def Zf5 (L0 : List Int) (a1 : Int) (L2 : List RA) (L3 : List Int) (L4 : List R_is) (L5 : List (List Int)) (L6 : List R_si) (v0 : List RA) (v6 : Nat) (v8 : Int) (v9 v10 : Nat) (y6_0 : Int) : List (Bool × Bool) := (dP (ZaV #[Value.agg #[vi (ai v0 v6).a0, vi (ai v0 v6).a1, vi (ai v0 v6).a2, vi (ai v0 v6).a3]] ((ai v0 v6).a0) ((ai v0 v6).a1) ((ai v0 v6).a2) ((ai v0 v6).a3)  y6_0  7), true) :: (((aj L4 v9).a0 == (v6 : Int)), false) :: Zf0 L0 a1 L2 L3 L4 L5 L6 v0 v6 v8 v9 v10

noncomputable def Zf6 (L0 : List Int) (a1 : Int) (L2 : List RA) (L3 : List Int) (L4 : List R_is) (L5 : List (List Int)) (L6 : List R_si) (v0 : List RA) (v6 : Nat) (v8 : Int) (v9 v10 : Nat) (y4_0 : Int) : List (Bool × Bool) := (dP (ZaV #[Value.agg #[vi (ai v0 v6).a0, vi (ai v0 v6).a1, vi (ai v0 v6).a2, vi (ai v0 v6).a3]] ((ai v0 v6).a0) ((ai v0 v6).a1) ((ai v0 v6).a2) ((ai v0 v6).a3)  y4_0  7), true) :: ((decide ((v10 : Int) > (0 : Int))), false) :: Zfz L0 a1 L2 L3 L4 L5 L6 v0 v6 v8 v9 v10

end Ev
end Go.Proofs.YtlbbiflodemagaaDoor
/- Calls do what the plain functions say. -/
namespace Go.Proofs.YtlbbiflodemagaaDoor
open Go.RowKit
namespace Ev
set_option linter.unusedVariables false
set_option maxRecDepth 100000
set_option maxHeartbeats 4000000 in
theorem ZkC (L0 : List Int) (a1 : Int) (L2 : List RA) (L3 : List Int) (L4 : List R_is) (L5 : List (List Int)) (L6 : List R_si) (v0 : List RA) (v6 : Nat) (v8 : Int) (v9 v10 N : Nat) : (Z5 L0 a1 L2 L3 L4 L5 L6 N).Ok Tryd.prog ZJ (.h1m1 v0 v6 v8 v9 v10 : asm_reader_aimX) (Zbc L0 a1 L2 L3 L4 L5 L6 N (.h1m1 v0 v6 v8 v9 v10 : asm_reader_aimX)) := by
 show (Z5 L0 a1 L2 L3 L4 L5 L6 N).Ok Tryd.prog ZJ (.h1m1 v0 v6 v8 v9 v10 : asm_reader_aimX) (Zbl L0 a1 L2 L3 L4 L5 L6 N v0 v6 v8 v9 v10)
 unfold Zbl
 refine Mach.ok_ite (fun g0 => ?_) (fun g0 => ?_)
 ·
  have w1 : OkL (ZhD L0 a1 L2 L3 L4 L5 L6 v0 v6 v8 v9 v10) :=
   oY <| ZL
  refine Mach.ok_ite (fun g1 => ?_) (fun _ => Mach.ok_none)
  have w2 : OkL (ZhE L0 a1 L2 L3 L4 L5 L6 v0 v6 v8 v9 v10) :=
   Zc (Zc4 (E := E_iiii) (L := v0) (i := v6) (q := 0) (by omega) (show (0 + (v6 * 4)) = v6 * 4 + 0 from by omega) (show 0 + 4 ≤ 4 from by decide) rfl rfl) <| oB <| oI <| w1
  refine Mach.ok_ite (fun g2 => ?_) (fun _ => Mach.ok_none)
  have w3 : OkL (Zfz L0 a1 L2 L3 L4 L5 L6 v0 v6 v8 v9 v10) :=
   Zc (Zc4 (E := eI) (L := L3) (i := v6) (q := 0) (by omega) (show (0 + (v6 * 1)) = v6 * 1 + 0 from by omega) (show 0 + 1 ≤ 1 from by decide) rfl rfl) <| oB <| oI <| w2
  refine Mach.ok_ite (fun g3 => ?_) (fun g3 => ?_)
  ·
   have w4 : OkL (ZhF L0 a1 L2 L3 L4 L5 L6 v0 v6 v8 v9 v10) :=
    oB <| oI <| oY <| w3
   refine Mach.ok_ite (fun g4 => ?_) (fun _ => Mach.ok_none)
   have w5 : OkL (Zf0 L0 a1 L2 L3 L4 L5 L6 v0 v6 v8 v9 v10) :=
    Zc (Zc4 (E := Zu) (L := L4) (i := v9) (q := 0) (by omega) (show (((v9 * 2) + (0 * 2)) + 0) = v9 * 2 + 0 from by omega) (show 0 + 1 ≤ 2 from by decide) rfl rfl) <| w4
   refine Mach.ok_ite (fun g5 => ?_) (fun g5 => ?_)
   ·
    have w6 : OkL (Zf1 L0 a1 L2 L3 L4 L5 L6 v0 v6 v8 v9 v10) :=
     Zc (Zc4 (E := Zu) (L := L4) (i := v9) (q := 1) (by omega) (show (((v9 * 2) + (0 * 2)) + 1) = v9 * 2 + 1 from by omega) (show 1 + 1 ≤ 2 from by decide) rfl rfl) <| oB <| oI <| oT <| w5
    refine Mach.ok_ite (fun g6 => ?_) (fun g6 => ?_)
    ·
     have w7 : OkL (ZdK L0 a1 L2 L3 L4 L5 L6 v0 v6 v8 v9 v10) :=
      Zc (Zn (Zo1 rfl (by assumption))) <| w6
     refine Mach.ok_ite (fun g7 => ?_) (fun g7 => ?_)
     ·
      have w8 : OkL (ZhG L0 a1 L2 L3 L4 L5 L6 v0 v6 v8 v9 v10) :=
       Zc (Zn (Zhj (E := E_iiii) (L := v0) (i := v6) (q := 0) (l := [vi (ai v0 v6).a0, vi (ZD L6 (aj L4 v9).a1), vi (ai v0 v6).a2, vi (ai v0 v6).a3]) (aiA v0 v6 L6 L4 v9) (by omega) (show (0 + (v6 * 4)) = v6 * 4 + 0 from by omega) (show 0 + 4 ≤ 4 from by decide) rfl)) <| oB <| oI <| Zc (Zn ⟨ltA, ltA⟩) <| oR <| oI <| oT <| w7
      refine Mach.ok_bind (fun z8 c8 => ?_)
      cases z8 with
      | r0 y8_0 =>
       have w9 : OkL (Zf2 L0 a1 L2 L3 L4 L5 L6 v0 v6 v8 v9 v10 y8_0) :=
        Zc (Zn (Zbe #[Value.agg #[vi (ai v0 v6).a0, vi (ZD L6 (aj L4 v9).a1), vi (ai v0 v6).a2, vi (ai v0 v6).a3]] ((ai v0 v6).a0) ((ZD L6 (aj L4 v9).a1)) ((ai v0 v6).a2) ((ai v0 v6).a3)  y8_0 N c8  9 rfl dcd dcd)) <| w8
       refine Mach.ok_ite (fun g9 => ?_) (fun g9 => ?_)
       ·
        exact Mach.ok_thr (M := Z5 L0 a1 L2 L3 L4 L5 L6 N) (cd := 1000000) (cm := 0) (r := (.r0 ((L3.getD v6 0)) : Zy)) (fu := 4000) (orc := (Zr [(0, true), (1, true), (2, true), (4, true), (5, true)] [] [(0, v6), (1, v6), (2, 0), (3, 0), (4, v6)] [(0, (aic v0 v6)), (2, [.i (L3.getD v6 0)]), (5, [.i (aj L4 v9).a0]), (8, [.s (Za (aj L4 v9).a1)])] [(2, .lk (some (vi (ZD L6 (aj L4 v9).a1)))), (6, .sl 1 v10), (7, .st (Zb E_iiii (v0.set v6 (aiA v0 v6 L6 L4 v9)))), (9, (Z1 ((ai v0 v6).a0) ((ZD L6 (aj L4 v9).a1)) ((ai v0 v6).a2) ((ai v0 v6).a3)  y8_0  9))])) (u := Value.iface 88 (Value.agg #[vi (L3.getD v6 0)])) (ob := (((y8_0 != (0 : Int)), true) :: Zf2 L0 a1 L2 L3 L4 L5 L6 v0 v6 v8 v9 v10 y8_0)) (fun gv => by as_aux_lemma => kernel_rfl) (oD <| w9) rfl (by rfl) (by rfl)
       ·
        refine Mach.ok_ite (fun g10 => ?_) (fun _ => Mach.ok_none)
        exact Mach.ok_next (M := Z5 L0 a1 L2 L3 L4 L5 L6 N) (cd := 1000000) (cm := 0) (y := (.h1m1 ((v0.set v6 (aiA v0 v6 L6 L4 v9))) ((v6 + 1)) ((L3.getD v6 0)) ((v9 + 1)) ((v10 - 1)) : asm_reader_aimX)) (fu := 4000) (orc := (Zr [(0, true), (1, true), (2, true), (4, true), (5, false)] [(0, (((v6 + 1) : Nat) : Int))] [(0, v6), (1, v6), (2, 0), (3, 0), (4, v6)] [(0, (aic v0 v6)), (2, [.i (L3.getD v6 0)]), (5, [.i (aj L4 v9).a0]), (8, [.s (Za (aj L4 v9).a1)])] [(2, .lk (some (vi (ZD L6 (aj L4 v9).a1)))), (6, .sl 1 v10), (7, .st (Zb E_iiii (v0.set v6 (aiA v0 v6 L6 L4 v9)))), (9, (Z1 ((ai v0 v6).a0) ((ZD L6 (aj L4 v9).a1)) ((ai v0 v6).a2) ((ai v0 v6).a3)  y8_0  9))])) (live := [0, 1, 2, 3, 4, 5]) (tv := fun _ => [some (vp 0 0), some (vs 1 0 v0.length v0.length), some (vi (L2.length : Int)), some (vi (((v6 + 1) : Nat) : Int))]) (bl := [some (.cells [Value.string (Za L0), vi (L3.getD v6 0), vs 1 0 v0.length v0.length, vs 2 0 L3.length L3.length, Value.slice (some ⟨3, ((v9 * 2) + (1 * 2)), none⟩) (v10 - 1) (v10 - 1), vs 4 0 L5.length L5.length, Value.map (some 5)] 57), some (.cells (Zb E_iiii (v0.set v6 (aiA v0 v6 L6 L4 v9))) 24 true), some (.cells (Zb eI L3) 3 true), some (.cells (Zb Zu L4) 122 true), some (.cells (Zb Zs L5) 9 true), some (.ro (Zj L6) true)]) (ob := (((IntKind.i64.wrap ((v6 : Int) + (1 : Int))) == (((v6 + 1) : Nat) : Int), true) :: ((y8_0 != (0 : Int)), false) :: Zf2 L0 a1 L2 L3 L4 L5 L6 v0 v6 v8 v9 v10 y8_0)) rfl (show 1 ∈ Zaw (Zba 1) from by decide +kernel) (fun gv => by as_aux_lemma => kernel_rfl) (Zc (beq_iff_eq.2 ((wrap_i64 ltA).trans (by first | rfl | omega))) <| oE <| w9) rfl (by decide) (by rfl) (fun _ => ⟨rr, ⟨⟨Eq.trans (show (vs 1 0 (v0.set v6 (aiA v0 v6 L6 L4 v9)).length (v0.set v6 (aiA v0 v6 L6 L4 v9)).length : Value) = vs 1 0 v0.length v0.length from (ZS rfl eqA eqA)) (by rfl), by rfl⟩, ⟨rr, ⟨rr, trivial⟩⟩⟩⟩) ⟨⟨rfl, ⟨[], (show ([Value.string (Za L0), vi (L3.getD v6 0), vs 1 0 v0.length v0.length, vs 2 0 L3.length L3.length, Value.slice (some ⟨3, ((v9 * 2) + (1 * 2)), none⟩) (v10 - 1) (v10 - 1), vs 4 0 L5.length L5.length, Value.map (some 5)] : List Value) = _ from (Zd rfl (Zd rfl (Zd (ZS rfl eqA eqA) (Zd rfl (Zd (ZS eqA rfl rfl) (Zd rfl (Zd rfl rfl))))))).symm)⟩, by rfl⟩, ⟨(Zm (E := E_iiii) (α := RA) _ (v0.set v6 (aiA v0 v6 L6 L4 v9)) _), ⟨(Zm (E := eI) (α := Int) _ L3 _), ⟨(Zm (E := Zu) (α := R_is) _ L4 _), ⟨(Zm (E := Zs) (α := List Int) _ L5 _), ⟨(show Zj L6 = Zj L6 from rfl), trivial⟩⟩⟩⟩⟩⟩
     ·
      refine Mach.ok_ite (fun g8 => ?_) (fun g8 => ?_)
      ·
       have w9 : OkL (ZhH L0 a1 L2 L3 L4 L5 L6 v0 v6 v8 v9 v10) :=
        Zc (Zn (Zhj (E := E_iiii) (L := v0) (i := v6) (q := 0) (l := [vi (ai v0 v6).a0, vi (ai v0 v6).a1, vi (ZD L6 (aj L4 v9).a1), vi (ai v0 v6).a3]) (aiB v0 v6 L6 L4 v9) (by omega) (show (0 + (v6 * 4)) = v6 * 4 + 0 from by omega) (show 0 + 4 ≤ 4 from by decide) rfl)) <| oB <| oI <| Zc (Zn ⟨ltA, ltA⟩) <| oR <| oI <| oT <| oF <| w7
       refine Mach.ok_bind (fun z9 c9 => ?_)
       cases z9 with
       | r0 y9_0 =>
        have w10 : OkL (Zf3 L0 a1 L2 L3 L4 L5 L6 v0 v6 v8 v9 v10 y9_0) :=
         Zc (Zn (Zbe #[Value.agg #[vi (ai v0 v6).a0, vi (ai v0 v6).a1, vi (ZD L6 (aj L4 v9).a1), vi (ai v0 v6).a3]] ((ai v0 v6).a0) ((ai v0 v6).a1) ((ZD L6 (aj L4 v9).a1)) ((ai v0 v6).a3)  y9_0 N c9  9 rfl dcd dcd)) <| w9
        refine Mach.ok_ite (fun g10 => ?_) (fun g10 => ?_)
        ·
         exact Mach.ok_thr (M := Z5 L0 a1 L2 L3 L4 L5 L6 N) (cd := 1000000) (cm := 0) (r := (.r0 ((L3.getD v6 0)) : Zy)) (fu := 4000) (orc := (Zr [(0, true), (1, true), (2, true), (4, false), (5, true), (6, true)] [] [(0, v6), (1, v6), (2, 0), (3, 0), (4, v6)] [(0, (aic v0 v6)), (2, [.i (L3.getD v6 0)]), (5, [.i (aj L4 v9).a0]), (8, [.s (Za (aj L4 v9).a1)])] [(2, .lk (some (vi (ZD L6 (aj L4 v9).a1)))), (6, .sl 1 v10), (7, .st (Zb E_iiii (v0.set v6 (aiB v0 v6 L6 L4 v9)))), (9, (Z1 ((ai v0 v6).a0) ((ai v0 v6).a1) ((ZD L6 (aj L4 v9).a1)) ((ai v0 v6).a3)  y9_0  9))])) (u := Value.iface 88 (Value.agg #[vi (L3.getD v6 0)])) (ob := (((y9_0 != (0 : Int)), true) :: Zf3 L0 a1 L2 L3 L4 L5 L6 v0 v6 v8 v9 v10 y9_0)) (fun gv => by as_aux_lemma => kernel_rfl) (oD <| w10) rfl (by rfl) (by rfl)
        ·
         refine Mach.ok_ite (fun g11 => ?_) (fun _ => Mach.ok_none)
         exact Mach.ok_next (M := Z5 L0 a1 L2 L3 L4 L5 L6 N) (cd := 1000000) (cm := 0) (y := (.h1m1 ((v0.set v6 (aiB v0 v6 L6 L4 v9))) ((v6 + 1)) ((L3.getD v6 0)) ((v9 + 1)) ((v10 - 1)) : asm_reader_aimX)) (fu := 4000) (orc := (Zr [(0, true), (1, true), (2, true), (4, false), (5, true), (6, false)] [(0, (((v6 + 1) : Nat) : Int))] [(0, v6), (1, v6), (2, 0), (3, 0), (4, v6)] [(0, (aic v0 v6)), (2, [.i (L3.getD v6 0)]), (5, [.i (aj L4 v9).a0]), (8, [.s (Za (aj L4 v9).a1)])] [(2, .lk (some (vi (ZD L6 (aj L4 v9).a1)))), (6, .sl 1 v10), (7, .st (Zb E_iiii (v0.set v6 (aiB v0 v6 L6 L4 v9)))), (9, (Z1 ((ai v0 v6).a0) ((ai v0 v6).a1) ((ZD L6 (aj L4 v9).a1)) ((ai v0 v6).a3)  y9_0  9))])) (live := [0, 1, 2, 3, 4, 5]) (tv := fun _ => [some (vp 0 0), some (vs 1 0 v0.length v0.length), some (vi (L2.length : Int)), some (vi (((v6 + 1) : Nat) : Int))]) (bl := [some (.cells [Value.string (Za L0), vi (L3.getD v6 0), vs 1 0 v0.length v0.length, vs 2 0 L3.length L3.length, Value.slice (some ⟨3, ((v9 * 2) + (1 * 2)), none⟩) (v10 - 1) (v10 - 1), vs 4 0 L5.length L5.length, Value.map (some 5)] 57), some (.cells (Zb E_iiii (v0.set v6 (aiB v0 v6 L6 L4 v9))) 24 true), some (.cells (Zb eI L3) 3 true), some (.cells (Zb Zu L4) 122 true), some (.cells (Zb Zs L5) 9 true), some (.ro (Zj L6) true)]) (ob := (((IntKind.i64.wrap ((v6 : Int) + (1 : Int))) == (((v6 + 1) : Nat) : Int), true) :: ((y9_0 != (0 : Int)), false) :: Zf3 L0 a1 L2 L3 L4 L5 L6 v0 v6 v8 v9 v10 y9_0)) rfl (show 1 ∈ Zaw (Zba 1) from by decide +kernel) (fun gv => by as_aux_lemma => kernel_rfl) (Zc (beq_iff_eq.2 ((wrap_i64 ltA).trans (by first | rfl | omega))) <| oE <| w10) rfl (by decide) (by rfl) (fun _ => ⟨rr, ⟨⟨Eq.trans (show (vs 1 0 (v0.set v6 (aiB v0 v6 L6 L4 v9)).length (v0.set v6 (aiB v0 v6 L6 L4 v9)).length : Value) = vs 1 0 v0.length v0.length from (ZS rfl eqA eqA)) (by rfl), by rfl⟩, ⟨rr, ⟨rr, trivial⟩⟩⟩⟩) ⟨⟨rfl, ⟨[], (show ([Value.string (Za L0), vi (L3.getD v6 0), vs 1 0 v0.length v0.length, vs 2 0 L3.length L3.length, Value.slice (some ⟨3, ((v9 * 2) + (1 * 2)), none⟩) (v10 - 1) (v10 - 1), vs 4 0 L5.length L5.length, Value.map (some 5)] : List Value) = _ from (Zd rfl (Zd rfl (Zd (ZS rfl eqA eqA) (Zd rfl (Zd (ZS eqA rfl rfl) (Zd rfl (Zd rfl rfl))))))).symm)⟩, by rfl⟩, ⟨(Zm (E := E_iiii) (α := RA) _ (v0.set v6 (aiB v0 v6 L6 L4 v9)) _), ⟨(Zm (E := eI) (α := Int) _ L3 _), ⟨(Zm (E := Zu) (α := R_is) _ L4 _), ⟨(Zm (E := Zs) (α := List Int) _ L5 _), ⟨(show Zj L6 = Zj L6 from rfl), trivial⟩⟩⟩⟩⟩⟩
      ·
       have w9 : OkL (ZhI L0 a1 L2 L3 L4 L5 L6 v0 v6 v8 v9 v10) :=
        Zc (Zn (Zhj (E := E_iiii) (L := v0) (i := v6) (q := 0) (l := [vi (ai v0 v6).a0, vi (ai v0 v6).a1, vi (ai v0 v6).a2, vi (ai v0 v6).a3]) (aiC v0 v6) (by omega) (show (0 + (v6 * 4)) = v6 * 4 + 0 from by omega) (show 0 + 4 ≤ 4 from by decide) rfl)) <| oB <| oI <| Zc (Zn ⟨ltA, ltA⟩) <| oR <| oI <| oF <| oF <| w7
       refine Mach.ok_bind (fun z9 c9 => ?_)
       cases z9 with
       | r0 y9_0 =>
        have w10 : OkL (Zf4 L0 a1 L2 L3 L4 L5 L6 v0 v6 v8 v9 v10 y9_0) :=
         Zc (Zn (Zbe #[Value.agg #[vi (ai v0 v6).a0, vi (ai v0 v6).a1, vi (ai v0 v6).a2, vi (ai v0 v6).a3]] ((ai v0 v6).a0) ((ai v0 v6).a1) ((ai v0 v6).a2) ((ai v0 v6).a3)  y9_0 N c9  9 rfl dcd dcd)) <| w9
        refine Mach.ok_ite (fun g10 => ?_) (fun g10 => ?_)
        ·
         exact Mach.ok_thr (M := Z5 L0 a1 L2 L3 L4 L5 L6 N) (cd := 1000000) (cm := 0) (r := (.r0 ((L3.getD v6 0)) : Zy)) (fu := 4000) (orc := (Zr [(0, true), (1, true), (2, true), (4, false), (5, false), (6, true)] [] [(0, v6), (1, v6), (2, 0), (3, 0), (4, v6)] [(0, (aic v0 v6)), (2, [.i (L3.getD v6 0)]), (5, [.i (aj L4 v9).a0]), (8, [.s (Za (aj L4 v9).a1)])] [(2, .lk (some (vi (ZD L6 (aj L4 v9).a1)))), (5, .sl 1 v10), (6, .st (Zb E_iiii (v0.set v6 (aiC v0 v6)))), (8, (Z1 ((ai v0 v6).a0) ((ai v0 v6).a1) ((ai v0 v6).a2) ((ai v0 v6).a3)  y9_0  9))])) (u := Value.iface 88 (Value.agg #[vi (L3.getD v6 0)])) (ob := (((y9_0 != (0 : Int)), true) :: Zf4 L0 a1 L2 L3 L4 L5 L6 v0 v6 v8 v9 v10 y9_0)) (fun gv => by as_aux_lemma => kernel_rfl) (oD <| w10) rfl (by rfl) (by rfl)
        ·
         refine Mach.ok_ite (fun g11 => ?_) (fun _ => Mach.ok_none)
         exact Mach.ok_next (M := Z5 L0 a1 L2 L3 L4 L5 L6 N) (cd := 1000000) (cm := 0) (y := (.h1m1 ((v0.set v6 (aiC v0 v6))) ((v6 + 1)) ((L3.getD v6 0)) ((v9 + 1)) ((v10 - 1)) : asm_reader_aimX)) (fu := 4000) (orc := (Zr [(0, true), (1, true), (2, true), (4, false), (5, false), (6, false)] [(0, (((v6 + 1) : Nat) : Int))] [(0, v6), (1, v6), (2, 0), (3, 0), (4, v6)] [(0, (aic v0 v6)), (2, [.i (L3.getD v6 0)]), (5, [.i (aj L4 v9).a0]), (8, [.s (Za (aj L4 v9).a1)])] [(2, .lk (some (vi (ZD L6 (aj L4 v9).a1)))), (5, .sl 1 v10), (6, .st (Zb E_iiii (v0.set v6 (aiC v0 v6)))), (8, (Z1 ((ai v0 v6).a0) ((ai v0 v6).a1) ((ai v0 v6).a2) ((ai v0 v6).a3)  y9_0  9))])) (live := [0, 1, 2, 3, 4, 5]) (tv := fun _ => [some (vp 0 0), some (vs 1 0 v0.length v0.length), some (vi (L2.length : Int)), some (vi (((v6 + 1) : Nat) : Int))]) (bl := [some (.cells [Value.string (Za L0), vi (L3.getD v6 0), vs 1 0 v0.length v0.length, vs 2 0 L3.length L3.length, Value.slice (some ⟨3, ((v9 * 2) + (1 * 2)), none⟩) (v10 - 1) (v10 - 1), vs 4 0 L5.length L5.length, Value.map (some 5)] 57), some (.cells (Zb E_iiii (v0.set v6 (aiC v0 v6))) 24 true), some (.cells (Zb eI L3) 3 true), some (.cells (Zb Zu L4) 122 true), some (.cells (Zb Zs L5) 9 true), some (.ro (Zj L6) true)]) (ob := (((IntKind.i64.wrap ((v6 : Int) + (1 : Int))) == (((v6 + 1) : Nat) : Int), true) :: ((y9_0 != (0 : Int)), false) :: Zf4 L0 a1 L2 L3 L4 L5 L6 v0 v6 v8 v9 v10 y9_0)) rfl (show 1 ∈ Zaw (Zba 1) from by decide +kernel) (fun gv => by as_aux_lemma => kernel_rfl) (Zc (beq_iff_eq.2 ((wrap_i64 ltA).trans (by first | rfl | omega))) <| oE <| w10) rfl (by decide) (by rfl) (fun _ => ⟨rr, ⟨⟨Eq.trans (show (vs 1 0 (v0.set v6 (aiC v0 v6)).length (v0.set v6 (aiC v0 v6)).length : Value) = vs 1 0 v0.length v0.length from (ZS rfl eqA eqA)) (by rfl), by rfl⟩, ⟨rr, ⟨rr, trivial⟩⟩⟩⟩) ⟨⟨rfl, ⟨[], (show ([Value.string (Za L0), vi (L3.getD v6 0), vs 1 0 v0.length v0.length, vs 2 0 L3.length L3.length, Value.slice (some ⟨3, ((v9 * 2) + (1 * 2)), none⟩) (v10 - 1) (v10 - 1), vs 4 0 L5.length L5.length, Value.map (some 5)] : List Value) = _ from (Zd rfl (Zd rfl (Zd (ZS rfl eqA eqA) (Zd rfl (Zd (ZS eqA rfl rfl) (Zd rfl (Zd rfl rfl))))))).symm)⟩, by rfl⟩, ⟨(Zm (E := E_iiii) (α := RA) _ (v0.set v6 (aiC v0 v6)) _), ⟨(Zm (E := eI) (α := Int) _ L3 _), ⟨(Zm (E := Zu) (α := R_is) _ L4 _), ⟨(Zm (E := Zs) (α := List Int) _ L5 _), ⟨(show Zj L6 = Zj L6 from rfl), trivial⟩⟩⟩⟩⟩⟩
    ·
     exact Mach.ok_thr (M := Z5 L0 a1 L2 L3 L4 L5 L6 N) (cd := 1000000) (cm := 0) (r := (.r0 ((L3.getD v6 0)) : Zy)) (fu := 4000) (orc := (Zz [o1, o1, o1] [] [(0, v6), (1, v6), (2, 0), (3, 0)] [(0, (aic v0 v6)), (2, [.i (L3.getD v6 0)]), (5, [.i (aj L4 v9).a0]), (8, [.s (Za (aj L4 v9).a1)])] [(2, .lk (none))])) (u := Value.iface 88 (Value.agg #[vi (L3.getD v6 0)])) (ob := ((dP ((Zbo Tryd.prog 9 (Value.string (Za (aj L4 v9).a1)) (ZaZ L6)).map (Option.map Prod.snd) = some (none)), true) :: Zf1 L0 a1 L2 L3 L4 L5 L6 v0 v6 v8 v9 v10)) (fun gv => by as_aux_lemma => kernel_rfl) (Zc (Zn (Zmc rfl (by assumption))) <| w6) rfl (by rfl) (by rfl)
   ·
    refine Mach.ok_bind (fun z6 c6 => ?_)
    cases z6 with
    | r0 y6_0 =>
     have w7 : OkL (Zf5 L0 a1 L2 L3 L4 L5 L6 v0 v6 v8 v9 v10 y6_0) :=
      Zc (Zn (Zbe #[Value.agg #[vi (ai v0 v6).a0, vi (ai v0 v6).a1, vi (ai v0 v6).a2, vi (ai v0 v6).a3]] ((ai v0 v6).a0) ((ai v0 v6).a1) ((ai v0 v6).a2) ((ai v0 v6).a3)  y6_0 N c6  7 rfl dcd dcd)) <| oF <| w5
     refine Mach.ok_ite (fun g7 => ?_) (fun g7 => ?_)
     ·
      exact Mach.ok_thr (M := Z5 L0 a1 L2 L3 L4 L5 L6 N) (cd := 1000000) (cm := 0) (r := (.r0 ((L3.getD v6 0)) : Zy)) (fu := 4000) (orc := (Zz [o1, o1, o0, o1] [] [(0, v6), (1, v6), (2, 0)] [(0, (aic v0 v6)), (2, [.i (L3.getD v6 0)]), (5, [.i (aj L4 v9).a0])] [(2, (Z1 ((ai v0 v6).a0) ((ai v0 v6).a1) ((ai v0 v6).a2) ((ai v0 v6).a3)  y6_0  7))])) (u := Value.iface 88 (Value.agg #[vi (L3.getD v6 0)])) (ob := (((y6_0 != (0 : Int)), true) :: Zf5 L0 a1 L2 L3 L4 L5 L6 v0 v6 v8 v9 v10 y6_0)) (fun gv => by as_aux_lemma => kernel_rfl) (oD <| w7) rfl (by rfl) (by rfl)
     ·
      refine Mach.ok_ite (fun g8 => ?_) (fun _ => Mach.ok_none)
      exact Mach.ok_next (M := Z5 L0 a1 L2 L3 L4 L5 L6 N) (cd := 1000000) (cm := 0) (y := (.h1m1 (v0) ((v6 + 1)) ((L3.getD v6 0)) (v9) (v10) : asm_reader_aimX)) (fu := 4000) (orc := (Zz [o1, o1, o0, o0] [(0, (((v6 + 1) : Nat) : Int))] [(0, v6), (1, v6), (2, 0)] [(0, (aic v0 v6)), (2, [.i (L3.getD v6 0)]), (5, [.i (aj L4 v9).a0])] [(2, (Z1 ((ai v0 v6).a0) ((ai v0 v6).a1) ((ai v0 v6).a2) ((ai v0 v6).a3)  y6_0  7))])) (live := [0, 1, 2, 3, 4, 5]) (tv := fun _ => [some (vp 0 0), some (vs 1 0 v0.length v0.length), some (vi (L2.length : Int)), some (vi (((v6 + 1) : Nat) : Int))]) (bl := [some (.cells [Value.string (Za L0), vi (L3.getD v6 0), vs 1 0 v0.length v0.length, vs 2 0 L3.length L3.length, vs 3 (v9 * 2) v10 v10, vs 4 0 L5.length L5.length, Value.map (some 5)] 57), some (.cells (Zb E_iiii v0) 24 true), some (.cells (Zb eI L3) 3 true), some (.cells (Zb Zu L4) 122 true), some (.cells (Zb Zs L5) 9 true), some (.ro (Zj L6) true)]) (ob := (((IntKind.i64.wrap ((v6 : Int) + (1 : Int))) == (((v6 + 1) : Nat) : Int), true) :: ((y6_0 != (0 : Int)), false) :: Zf5 L0 a1 L2 L3 L4 L5 L6 v0 v6 v8 v9 v10 y6_0)) rfl (show 1 ∈ Zaw (Zba 1) from by decide +kernel) (fun gv => by as_aux_lemma => kernel_rfl) (Zc (beq_iff_eq.2 ((wrap_i64 ltA).trans (by first | rfl | omega))) <| oE <| w7) rfl (by decide) (by rfl) (fun _ => ⟨rr, ⟨rr, ⟨rr, ⟨rr, trivial⟩⟩⟩⟩) ⟨sm, ⟨(Zm (E := E_iiii) (α := RA) _ v0 _), ⟨(Zm (E := eI) (α := Int) _ L3 _), ⟨(Zm (E := Zu) (α := R_is) _ L4 _), ⟨(Zm (E := Zs) (α := List Int) _ L5 _), ⟨(show Zj L6 = Zj L6 from rfl), trivial⟩⟩⟩⟩⟩⟩
  ·
   refine Mach.ok_bind (fun z4 c4 => ?_)
   cases z4 with
   | r0 y4_0 =>
    have w5 : OkL (Zf6 L0 a1 L2 L3 L4 L5 L6 v0 v6 v8 v9 v10 y4_0) :=
     Zc (Zn (Zbe #[Value.agg #[vi (ai v0 v6).a0, vi (ai v0 v6).a1, vi (ai v0 v6).a2, vi (ai v0 v6).a3]] ((ai v0 v6).a0) ((ai v0 v6).a1) ((ai v0 v6).a2) ((ai v0 v6).a3)  y4_0 N c4  7 rfl dcd dcd)) <| oN <| w3
    refine Mach.ok_ite (fun g5 => ?_) (fun g5 => ?_)
    ·
     exact Mach.ok_thr (M := Z5 L0 a1 L2 L3 L4 L5 L6 N) (cd := 1000000) (cm := 0) (r := (.r0 ((L3.getD v6 0)) : Zy)) (fu := 4000) (orc := (Zz [o1, o0, o1] [] [(0, v6), (1, v6)] [(0, (aic v0 v6)), (2, [.i (L3.getD v6 0)])] [(2, (Z1 ((ai v0 v6).a0) ((ai v0 v6).a1) ((ai v0 v6).a2) ((ai v0 v6).a3)  y4_0  7))])) (u := Value.iface 88 (Value.agg #[vi (L3.getD v6 0)])) (ob := (((y4_0 != (0 : Int)), true) :: Zf6 L0 a1 L2 L3 L4 L5 L6 v0 v6 v8 v9 v10 y4_0)) (fun gv => by as_aux_lemma => kernel_rfl) (oD <| w5) rfl (by rfl) (by rfl)
    ·
     refine Mach.ok_ite (fun g6 => ?_) (fun _ => Mach.ok_none)
     exact Mach.ok_next (M := Z5 L0 a1 L2 L3 L4 L5 L6 N) (cd := 1000000) (cm := 0) (y := (.h1m1 (v0) ((v6 + 1)) ((L3.getD v6 0)) (v9) (v10) : asm_reader_aimX)) (fu := 4000) (orc := (Zz [o1, o0, o0] [(0, (((v6 + 1) : Nat) : Int))] [(0, v6), (1, v6)] [(0, (aic v0 v6)), (2, [.i (L3.getD v6 0)])] [(2, (Z1 ((ai v0 v6).a0) ((ai v0 v6).a1) ((ai v0 v6).a2) ((ai v0 v6).a3)  y4_0  7))])) (live := [0, 1, 2, 3, 4, 5]) (tv := fun _ => [some (vp 0 0), some (vs 1 0 v0.length v0.length), some (vi (L2.length : Int)), some (vi (((v6 + 1) : Nat) : Int))]) (bl := [some (.cells [Value.string (Za L0), vi (L3.getD v6 0), vs 1 0 v0.length v0.length, vs 2 0 L3.length L3.length, vs 3 (v9 * 2) v10 v10, vs 4 0 L5.length L5.length, Value.map (some 5)] 57), some (.cells (Zb E_iiii v0) 24 true), some (.cells (Zb eI L3) 3 true), some (.cells (Zb Zu L4) 122 true), some (.cells (Zb Zs L5) 9 true), some (.ro (Zj L6) true)]) (ob := (((IntKind.i64.wrap ((v6 : Int) + (1 : Int))) == (((v6 + 1) : Nat) : Int), true) :: ((y4_0 != (0 : Int)), false) :: Zf6 L0 a1 L2 L3 L4 L5 L6 v0 v6 v8 v9 v10 y4_0)) rfl (show 1 ∈ Zaw (Zba 1) from by decide +kernel) (fun gv => by as_aux_lemma => kernel_rfl) (Zc (beq_iff_eq.2 ((wrap_i64 ltA).trans (by first | rfl | omega))) <| oE <| w5) rfl (by decide) (by rfl) (fun _ => ⟨rr, ⟨rr, ⟨rr, ⟨rr, trivial⟩⟩⟩⟩) ⟨sm, ⟨(Zm (E := E_iiii) (α := RA) _ v0 _), ⟨(Zm (E := eI) (α := Int) _ L3 _), ⟨(Zm (E := Zu) (α := R_is) _ L4 _), ⟨(Zm (E := Zs) (α := List Int) _ L5 _), ⟨(show Zj L6 = Zj L6 from rfl), trivial⟩⟩⟩⟩⟩⟩
 ·
  exact Mach.ok_fin (M := Z5 L0 a1 L2 L3 L4 L5 L6 N) (cd := 1000000) (cm := 0) (r := (.r2 (v0) (v8) (v9) (v10) : Zy)) (fu := 4000) (orc := (Zz [o0] [] [] [] [])) (live := [0, 1, 2, 3, 4, 5]) (u := vtt) (bl := [some (.cells [Value.string (Za L0), vi v8, vs 1 0 v0.length v0.length, vs 2 0 L3.length L3.length, vs 3 (v9 * 2) v10 v10, vs 4 0 L5.length L5.length, Value.map (some 5)] 57), some (.cells (Zb E_iiii v0) 24 true), some (.cells (Zb eI L3) 3 true), some (.cells (Zb Zu L4) 122 true), some (.cells (Zb Zs L5) 9 true), some (.ro (Zj L6) true)]) (ob := (((decide ((v6 : Int) < (L2.length : Int))), false) :: [])) (fun gv => by as_aux_lemma => kernel_rfl) (oN <| ZL) rfl (by decide) (by rfl) rr ⟨sm, ⟨(Zm (E := E_iiii) (α := RA) _ v0 _), ⟨(Zm (E := eI) (α := Int) _ L3 _), ⟨(Zm (E := Zu) (α := R_is) _ L4 _), ⟨(Zm (E := Zs) (α := List Int) _ L5 _), ⟨(show Zj L6 = Zj L6 from rfl), trivial⟩⟩⟩⟩⟩⟩

set_option maxHeartbeats 4000000 in
theorem Zmo (L0 : List Int) (a1 : Int) (L2 : List RA) (L3 : List Int) (L4 : List R_is) (L5 : List (List Int)) (L6 : List R_si) (N : Nat) : (Z5 L0 a1 L2 L3 L4 L5 L6 N).Enter Tryd.prog ZJ #[vp 0 0] (Ze8 L0 a1 L2 L3 L4 L5 L6 N) := by
 unfold Ze8
 exact Mach.en_head (bK := Zcm 1) (M := Z5 L0 a1 L2 L3 L4 L5 L6 N) (cd := 1000000) (cm := 0) (y := (.h1m0 (0) (a1) : asm_reader_aimX)) (fu := 4000) (orc := (Zr [] [] [] [] [])) (live := [0, 1, 2, 3, 4, 5]) (tv := [some (vp 0 0), some (vs 1 0 L2.length L2.length), some (vi (L2.length : Int)), some (vq)]) (bl := [some (.cells [Value.string (Za L0), vi a1, vs 1 0 L2.length L2.length, vs 2 0 L3.length L3.length, vs 3 0 L4.length L4.length, vs 4 0 L5.length L5.length, Value.map (some 5)] 57), some (.cells (Zb E_iiii L2) 24 true), some (.cells (Zb eI L3) 3 true), some (.cells (Zb Zu L4) 122 true), some (.cells (Zb Zs L5) 9 true), some (.ro (Zj L6) true)]) (ob := ([])) rfl rfl (show Zaw (Zcm 1).2 = [] from rfl) (by as_aux_lemma => kernel_rfl) (ZL) rfl (by decide) (by rfl) ⟨rr, ⟨rr, ⟨rr, ⟨⟨Eq.trans (show (vi ((0 : Nat) : Int) : Value) = vq from (congrArg (Value.int .i64) (by first | rfl | omega))) (by rfl), by rfl⟩, trivial⟩⟩⟩⟩ ⟨sm, ⟨(Zm (E := E_iiii) (α := RA) _ L2 _), ⟨(Zm (E := eI) (α := Int) _ L3 _), ⟨(Zm (E := Zu) (α := R_is) _ L4 _), ⟨(Zm (E := Zs) (α := List Int) _ L5 _), ⟨(show Zj L6 = Zj L6 from rfl), trivial⟩⟩⟩⟩⟩⟩

theorem ZeR (L0 : List Int) (a1 : Int) (L2 : List RA) (L3 : List Int) (L4 : List R_is) (L5 : List (List Int)) (L6 : List R_si) (N : Nat) (r : Zy) (h : Zcu L0 a1 L2 L3 L4 L5 L6 N = some r) : LSpec Tryd.prog 52 #[vp 0 0] [.cells [Value.string (Za L0), vi a1, vs 1 0 L2.length L2.length, vs 2 0 L3.length L3.length, vs 3 0 L4.length L4.length, vs 4 0 L5.length L5.length, Value.map (some 5)] 57, .cells (Zb E_iiii L2) 24 true, .cells (Zb eI L3) 3 true, .cells (Zb Zu L4) 122 true, .cells (Zb Zs L5) 9 true, .ro (Zj L6) true] (Zjp L0 a1 L2 L3 L4 L5 L6 r) (ZiN L0 a1 L2 L3 L4 L5 L6 r) :=
 Mach.spec ZdC (Z5 L0 a1 L2 L3 L4 L5 L6 N) Tryd.func52 (by kernel_rfl) (by kernel_rfl) (fun x => by cases x <;> exact Zay _ rfl) (fun r => by cases r <;> exact Zay _ rfl) (fun x => by
  cases x with
  | h1m0 _ _ => exact fun _ => (show ¬ (1 ∈ Zaw (Zcm 1).2) from by decide +kernel)
  | h1m1 _ _ _ _ _ => exact fun _ => (show ¬ (1 ∈ Zaw (Zcm 1).2) from by decide +kernel)
  ) (fun x => (show (Z5 L0 a1 L2 L3 L4 L5 L6 N).Ok Tryd.prog ZJ x (Zbc L0 a1 L2 L3 L4 L5 L6 N x) from by
  cases x with
  | h1m0 v6 v8 => exact ZkB L0 a1 L2 L3 L4 L5 L6 v6 v8 N
  | h1m1 v0 v6 v8 v9 v10 => exact ZkC L0 a1 L2 L3 L4 L5 L6 v0 v6 v8 v9 v10 N
  )) (Zmo L0 a1 L2 L3 L4 L5 L6 N) (n := N) h

noncomputable def Znf (L0 : List Int) (a1 : Int) (L2 : List RA) (L3 : List Int) (L4 : List R_is) (L5 : List (List Int)) (L6 : List R_si) (w0 : Int) (k0 k1 k2 k3 k4 k5 n : Nat) : ZaG := .call [(k0, .cells [Value.string (Za L0), vi a1, vs k1 0 L2.length L2.length, vs k2 0 L3.length L3.length, vs k3 0 L4.length L4.length, vs k4 0 L5.length L5.length, Value.map (some k5)] 57), (k1, .cells (Zb E_iiii L2) 24 true), (k2, .cells (Zb eI L3) 3 true), (k3, .cells (Zb Zu L4) 122 true), (k4, .cells (Zb Zs L5) 9 true), (k5, .ro (Zj L6) true)] (Value.iface 88 (Value.agg #[vi w0])) [(k0, none), (k1, none), (k2, none), (k3, none), (k4, none), (k5, none)] 0
def ZiP (A : Array Value) (L0 : List Int) (a1 : Int) (L2 : List RA) (L3 : List Int) (L4 : List R_is) (L5 : List (List Int)) (L6 : List R_si) (w0 : Int) (k0 k1 k2 k3 k4 k5 n : Nat) : Prop := ZB Tryd.prog 52 A [(k0, .cells [Value.string (Za L0), vi a1, vs k1 0 L2.length L2.length, vs k2 0 L3.length L3.length, vs k3 0 L4.length L4.length, vs k4 0 L5.length L5.length, Value.map (some k5)] 57), (k1, .cells (Zb E_iiii L2) 24 true), (k2, .cells (Zb eI L3) 3 true), (k3, .cells (Zb Zu L4) 122 true), (k4, .cells (Zb Zs L5) 9 true), (k5, .ro (Zj L6) true)] (Value.iface 88 (Value.agg #[vi w0])) [(k0, none), (k1, none), (k2, none), (k3, none), (k4, none), (k5, none)] n 0

theorem Zng (A : Array Value) (L0 : List Int) (a1 : Int) (L2 : List RA) (L3 : List Int) (L4 : List R_is) (L5 : List (List Int)) (L6 : List R_si) (w0 : Int) (N : Nat) (h : Zcu L0 a1 L2 L3 L4 L5 L6 N = some (.r0 w0)) (k0 k1 k2 k3 k4 k5 n : Nat) (hA : A = #[vp k0 0]) (hnd : ([k0, k1, k2, k3, k4, k5] : List Nat).Nodup) (hlt : ∀ k ∈ ([k0, k1, k2, k3, k4, k5] : List Nat), k < n) : ZiP A L0 a1 L2 L3 L4 L5 L6 w0 k0 k1 k2 k3 k4 k5 n :=
 Zaq hA (LSpec.callL (show LSpec Tryd.prog 52 #[vp 0 0] [.cells [Value.string (Za L0), vi a1, vs 1 0 L2.length L2.length, vs 2 0 L3.length L3.length, vs 3 0 L4.length L4.length, vs 4 0 L5.length L5.length, Value.map (some 5)] 57, .cells (Zb E_iiii L2) 24 true, .cells (Zb eI L3) 3 true, .cells (Zb Zu L4) 122 true, .cells (Zb Zs L5) 9 true, .ro (Zj L6) true] (Value.iface 88 (Value.agg #[vi w0])) [none, none, none, none, none, none] from ZeR L0 a1 L2 L3 L4 L5 L6 N _ h) [k0, k1, k2, k3, k4, k5] n [0, 1, 2, 3, 4, 5] rfl hnd hlt (show 6 ≤ 6 from by decide) (show ∀ j ∈ ([0, 1, 2, 3, 4, 5] : List Nat), j < 6 from by decide) (by rfl) ⟨rfl, ⟨(Zp _ _ _), ⟨(Zp _ _ _), ⟨(Zp _ _ _), ⟨(Zp _ _ _), ⟨rfl, trivial⟩⟩⟩⟩⟩⟩ (by rfl) trivial ⟨.inl (by decide), ⟨.inl (by decide), ⟨.inl (by decide), ⟨.inl (by decide), ⟨.inl (by decide), ⟨.inl (by decide), trivial⟩⟩⟩⟩⟩⟩ rfl rfl rfl (Zd (Zk rfl rfl) (Zd (Zk rfl (Z0 _ _ _)) (Zd (Zk rfl (Z0 _ _ _)) (Zd (Zk rfl (Z0 _ _ _)) (Zd (Zk rfl (Z0 _ _ _)) (Zd (Zk rfl rfl) rfl)))))) (Zd (Zk rfl rfl) (Zd (Zk rfl rfl) (Zd (Zk rfl rfl) (Zd (Zk rfl rfl) (Zd (Zk rfl rfl) (Zd (Zk rfl rfl) rfl)))))))

noncomputable def Znh (L0 : List Int) (a1 : Int) (L2 : List RA) (L3 : List Int) (L4 : List R_is) (L5 : List (List Int)) (L6 : List R_si) (w6 : Int) (k0 k1 k2 k3 k4 k5 n : Nat) : ZaG := .call [(k0, .cells [Value.string (Za L0), vi a1, vs k1 0 L2.length L2.length, vs k2 0 L3.length L3.length, vs k3 0 L4.length L4.length, vs k4 0 L5.length L5.length, Value.map (some k5)] 57), (k1, .cells (Zb E_iiii L2) 24 true), (k2, .cells (Zb eI L3) 3 true), (k3, .cells (Zb Zu L4) 122 true), (k4, .cells (Zb Zs L5) 9 true), (k5, .ro (Zj L6) true)] (vtt) [(k0, some (.cells [Value.string (Za L0), vi w6, vs k1 0 L2.length L2.length, vs k2 0 L3.length L3.length, vs k3 0 L4.length L4.length, vs k4 0 L5.length L5.length, Value.map (some k5)] 57))] 0
def ZiQ (A : Array Value) (L0 : List Int) (a1 : Int) (L2 : List RA) (L3 : List Int) (L4 : List R_is) (L5 : List (List Int)) (L6 : List R_si) (w6 : Int) (k0 k1 k2 k3 k4 k5 n : Nat) : Prop := ZB Tryd.prog 52 A [(k0, .cells [Value.string (Za L0), vi a1, vs k1 0 L2.length L2.length, vs k2 0 L3.length L3.length, vs k3 0 L4.length L4.length, vs k4 0 L5.length L5.length, Value.map (some k5)] 57), (k1, .cells (Zb E_iiii L2) 24 true), (k2, .cells (Zb eI L3) 3 true), (k3, .cells (Zb Zu L4) 122 true), (k4, .cells (Zb Zs L5) 9 true), (k5, .ro (Zj L6) true)] (vtt) [(k0, some (.cells [Value.string (Za L0), vi w6, vs k1 0 L2.length L2.length, vs k2 0 L3.length L3.length, vs k3 0 L4.length L4.length, vs k4 0 L5.length L5.length, Value.map (some k5)] 57))] n 0

theorem Zni (A : Array Value) (L0 : List Int) (a1 : Int) (L2 : List RA) (L3 : List Int) (L4 : List R_is) (L5 : List (List Int)) (L6 : List R_si) (w6 : Int) (N : Nat) (h : Zcu L0 a1 L2 L3 L4 L5 L6 N = some (.r1 w6)) (k0 k1 k2 k3 k4 k5 n : Nat) (hA : A = #[vp k0 0]) (hnd : ([k0, k1, k2, k3, k4, k5] : List Nat).Nodup) (hlt : ∀ k ∈ ([k0, k1, k2, k3, k4, k5] : List Nat), k < n) : ZiQ A L0 a1 L2 L3 L4 L5 L6 w6 k0 k1 k2 k3 k4 k5 n :=
 Zaq hA (LSpec.callL (show LSpec Tryd.prog 52 #[vp 0 0] [.cells [Value.string (Za L0), vi a1, vs 1 0 L2.length L2.length, vs 2 0 L3.length L3.length, vs 3 0 L4.length L4.length, vs 4 0 L5.length L5.length, Value.map (some 5)] 57, .cells (Zb E_iiii L2) 24 true, .cells (Zb eI L3) 3 true, .cells (Zb Zu L4) 122 true, .cells (Zb Zs L5) 9 true, .ro (Zj L6) true] (vtt) [some (.cells [Value.string (Za L0), vi w6, vs 1 0 L2.length L2.length, vs 2 0 L3.length L3.length, vs 3 0 L4.length L4.length, vs 4 0 L5.length L5.length, Value.map (some 5)] 57), some (.cells (Zb E_iiii L2) 24 true), some (.cells (Zb eI L3) 3 true), some (.cells (Zb Zu L4) 122 true), some (.cells (Zb Zs L5) 9 true), some (.ro (Zj L6) true)] from ZeR L0 a1 L2 L3 L4 L5 L6 N _ h) [k0, k1, k2, k3, k4, k5] n [0] rfl hnd hlt (show 6 ≤ 6 from by decide) (show ∀ j ∈ ([0] : List Nat), j < 6 from by decide) (by rfl) ⟨rfl, ⟨(Zp _ _ _), ⟨(Zp _ _ _), ⟨(Zp _ _ _), ⟨(Zp _ _ _), ⟨rfl, trivial⟩⟩⟩⟩⟩⟩ (by rfl) ⟨rfl, ⟨(Zp _ _ _), ⟨(Zp _ _ _), ⟨(Zp _ _ _), ⟨(Zp _ _ _), ⟨rfl, trivial⟩⟩⟩⟩⟩⟩ ⟨.inl (by decide), ⟨.inr rfl, ⟨.inr rfl, ⟨.inr rfl, ⟨.inr rfl, ⟨.inr rfl, trivial⟩⟩⟩⟩⟩⟩ rfl rfl rfl (Zd (Zk rfl rfl) (Zd (Zk rfl (Z0 _ _ _)) (Zd (Zk rfl (Z0 _ _ _)) (Zd (Zk rfl (Z0 _ _ _)) (Zd (Zk rfl (Z0 _ _ _)) (Zd (Zk rfl rfl) rfl)))))) (Zd (Zk rfl (ZaE rfl)) rfl))

noncomputable def Znj (L0 : List Int) (a1 : Int) (L2 : List RA) (L3 : List Int) (L4 : List R_is) (L5 : List (List Int)) (L6 : List R_si) (w0 : List RA) (w6 : Int) (w7 w8 k0 k1 k2 k3 k4 k5 n : Nat) : ZaG := .call [(k0, .cells [Value.string (Za L0), vi a1, vs k1 0 L2.length L2.length, vs k2 0 L3.length L3.length, vs k3 0 L4.length L4.length, vs k4 0 L5.length L5.length, Value.map (some k5)] 57), (k1, .cells (Zb E_iiii L2) 24 true), (k2, .cells (Zb eI L3) 3 true), (k3, .cells (Zb Zu L4) 122 true), (k4, .cells (Zb Zs L5) 9 true), (k5, .ro (Zj L6) true)] (vtt) [(k0, some (.cells [Value.string (Za L0), vi w6, vs k1 0 w0.length w0.length, vs k2 0 L3.length L3.length, vs k3 (w7 * 2) w8 w8, vs k4 0 L5.length L5.length, Value.map (some k5)] 57)), (k1, some (.cells (Zb E_iiii w0) 24 true))] 0
def ZiR (A : Array Value) (L0 : List Int) (a1 : Int) (L2 : List RA) (L3 : List Int) (L4 : List R_is) (L5 : List (List Int)) (L6 : List R_si) (w0 : List RA) (w6 : Int) (w7 w8 k0 k1 k2 k3 k4 k5 n : Nat) : Prop := ZB Tryd.prog 52 A [(k0, .cells [Value.string (Za L0), vi a1, vs k1 0 L2.length L2.length, vs k2 0 L3.length L3.length, vs k3 0 L4.length L4.length, vs k4 0 L5.length L5.length, Value.map (some k5)] 57), (k1, .cells (Zb E_iiii L2) 24 true), (k2, .cells (Zb eI L3) 3 true), (k3, .cells (Zb Zu L4) 122 true), (k4, .cells (Zb Zs L5) 9 true), (k5, .ro (Zj L6) true)] (vtt) [(k0, some (.cells [Value.string (Za L0), vi w6, vs k1 0 w0.length w0.length, vs k2 0 L3.length L3.length, vs k3 (w7 * 2) w8 w8, vs k4 0 L5.length L5.length, Value.map (some k5)] 57)), (k1, some (.cells (Zb E_iiii w0) 24 true))] n 0

theorem Znk (A : Array Value) (L0 : List Int) (a1 : Int) (L2 : List RA) (L3 : List Int) (L4 : List R_is) (L5 : List (List Int)) (L6 : List R_si) (w0 : List RA) (w6 : Int) (w7 w8 N : Nat) (h : Zcu L0 a1 L2 L3 L4 L5 L6 N = some (.r2 w0 w6 w7 w8)) (k0 k1 k2 k3 k4 k5 n : Nat) (hA : A = #[vp k0 0]) (hnd : ([k0, k1, k2, k3, k4, k5] : List Nat).Nodup) (hlt : ∀ k ∈ ([k0, k1, k2, k3, k4, k5] : List Nat), k < n) : ZiR A L0 a1 L2 L3 L4 L5 L6 w0 w6 w7 w8 k0 k1 k2 k3 k4 k5 n :=
 Zaq hA (LSpec.callL (show LSpec Tryd.prog 52 #[vp 0 0] [.cells [Value.string (Za L0), vi a1, vs 1 0 L2.length L2.length, vs 2 0 L3.length L3.length, vs 3 0 L4.length L4.length, vs 4 0 L5.length L5.length, Value.map (some 5)] 57, .cells (Zb E_iiii L2) 24 true, .cells (Zb eI L3) 3 true, .cells (Zb Zu L4) 122 true, .cells (Zb Zs L5) 9 true, .ro (Zj L6) true] (vtt) [some (.cells [Value.string (Za L0), vi w6, vs 1 0 w0.length w0.length, vs 2 0 L3.length L3.length, vs 3 (w7 * 2) w8 w8, vs 4 0 L5.length L5.length, Value.map (some 5)] 57), some (.cells (Zb E_iiii w0) 24 true), some (.cells (Zb eI L3) 3 true), some (.cells (Zb Zu L4) 122 true), some (.cells (Zb Zs L5) 9 true), some (.ro (Zj L6) true)] from ZeR L0 a1 L2 L3 L4 L5 L6 N _ h) [k0, k1, k2, k3, k4, k5] n [0, 1] rfl hnd hlt (show 6 ≤ 6 from by decide) (show ∀ j ∈ ([0, 1] : List Nat), j < 6 from by decide) (by rfl) ⟨rfl, ⟨(Zp _ _ _), ⟨(Zp _ _ _), ⟨(Zp _ _ _), ⟨(Zp _ _ _), ⟨rfl, trivial⟩⟩⟩⟩⟩⟩ (by rfl) ⟨rfl, ⟨(Zp _ _ _), ⟨(Zp _ _ _), ⟨(Zp _ _ _), ⟨(Zp _ _ _), ⟨rfl, trivial⟩⟩⟩⟩⟩⟩ ⟨.inl (by decide), ⟨.inl (by decide), ⟨.inr rfl, ⟨.inr rfl, ⟨.inr rfl, ⟨.inr rfl, trivial⟩⟩⟩⟩⟩⟩ rfl rfl rfl (Zd (Zk rfl rfl) (Zd (Zk rfl (Z0 _ _ _)) (Zd (Zk rfl (Z0 _ _ _)) (Zd (Zk rfl (Z0 _ _ _)) (Zd (Zk rfl (Z0 _ _ _)) (Zd (Zk rfl rfl) rfl)))))) (Zd (Zk rfl (ZaE rfl)) (Zd (Zk rfl (ZaE (Z0 _ _ _))) rfl)))

noncomputable def ZiS (L0 : List Int) (a1 : Int) (L2 : List R_si) : ZC → Value
 | .r0 w0 => Value.iface 88 (Value.agg #[vi w0])
 | .r1 w0 w1 w2 w3 w4 w5 w6 => vtt
 | .r2 w0 w1 w2 w3 w4 w5 w6 w7 w8 => vtt
noncomputable def ZhX (L0 : List Int) (a1 : Int) (L2 : List R_si) : ZC → List (Option AObj)
 | .r0 w0 => [none, none]
 | .r1 w0 w1 w2 w3 w4 w5 w6 => [some (.cells [Value.string (Za w1), vi w2, vs 2 0 w3.length w3.length, vs 3 0 w4.length w4.length, vs 4 0 w5.length w5.length, vs 5 0 w6.length w6.length, Value.map (some 1)] 57), some (.ro (Zj w0) true), some (.cells (Zb E_iiii w3) 24 true), some (.cells (Zb eI w4) 3 true), some (.cells (Zb Zu w5) 122 true), some (.cells (Zb Zs w6) 9 true)]
 | .r2 w0 w1 w2 w3 w4 w5 w6 w7 w8 => [some (.cells [Value.string (Za w1), vi w2, vs 2 0 w3.length w3.length, vs 3 0 w4.length w4.length, vs 4 (w6 * 2) w7 w7, vs 5 0 w8.length w8.length, Value.map (some 1)] 57), some (.ro (Zj w0) true), some (.cells (Zb E_iiii w3) 24 true), some (.cells (Zb eI w4) 3 true), some (.cells (Zb Zu w5) 122 true), some (.cells (Zb Zs w8) 9 true)]

def Zmp : Z9 → Nat
 | .h1m0 v0 v1 v2 v3 v4 v5 v6 => 1
noncomputable def Znl (L0 : List Int) (a1 : Int) (L2 : List R_si) : Z9 → List (Nat × Value)
 | .h1m0 v0 v1 v2 v3 v4 v5 v6 => [(0, vp 0 0)]
noncomputable def Znm (L0 : List Int) (a1 : Int) (L2 : List R_si) : Z9 → List (Option AObj)
 | .h1m0 v0 v1 v2 v3 v4 v5 v6 => [some (.cells [Value.string (Za v1), vi v2, vs 2 0 v3.length v3.length, vs 3 0 v4.length v4.length, vs 4 0 v5.length v5.length, vs 5 0 v6.length v6.length, Value.map (some 1)] 57), some (.ro (Zj v0) true), some (.cells (Zb E_iiii v3) 24 true), some (.cells (Zb eI v4) 3 true), some (.cells (Zb Zu v5) 122 true), some (.cells (Zb Zs v6) 9 true)]

noncomputable def Zcz : Nat → Code × List ZbE
 | 1 => ZeE [0, 3] (Zhs Tryd.f38) []
 | _ => (.skip, [])
def ZhY : Nat → Bool
 | 1 => true
 | _ => true
noncomputable def Zd4 (i : Nat) : List ZbE := match ZhY i with | true => .rnd i :: (Zcz i).2 | false => (Zcz i).2

noncomputable def Zaa (L0 : List Int) (a1 : Int) (L2 : List R_si) (N : Nat) : Mach := ⟨Tryd.f38, [.cells [Value.string (Za L0), vi a1, vn, vn, vn, vn, Value.map (some 1)] 57, .ro (Zj L2) true], Z9, ZC, Za3 L0 a1 L2 N, Zmp, Zcz, ZhY, Znl L0 a1 L2, Znm L0 a1 L2, ZiS L0 a1 L2, ZhX L0 a1 L2⟩

noncomputable def ZhJ (L0 : List Int) (a1 : Int) (L2 v0 : List R_si) (v1 : List Int) (v2 : Int) (v3 : List RA) (v4 : List Int) (v5 : List R_is) (v6 : List (List Int)) : List (Bool × Bool) := ((!((Za v1).toList == (⟨#[]⟩ : ByteArray).toList)), true) :: []

noncomputable def ZdL (L0 : List Int) (a1 : Int) (L2 v0 : List R_si) (v1 : List Int) (v2 : Int) (v3 : List RA) (v4 : List Int) (v5 : List R_is) (v6 : List (List Int)) : List (Bool × Bool) := (dP ((Za v1) = Za v1 ∧ ZP v1 = true ∧ v1.length ≤ 1000000), true) :: ZhJ L0 a1 L2 v0 v1 v2 v3 v4 v5 v6

noncomputable def ZhK (L0 : List Int) (a1 : Int) (L2 v0 : List R_si) (v1 : List Int) (v2 : Int) (v3 : List RA) (v4 : List Int) (v5 : List R_is) (v6 : List (List Int)) : List (Bool × Bool) := (((Za (Z4 (10 : Int) v1)).toList == (⟨#[]⟩ : ByteArray).toList), false) :: ((Zbj (10 : Int) v1), true) :: ZdL L0 a1 L2 v0 v1 v2 v3 v4 v5 v6

noncomputable def Zf7 (L0 : List Int) (a1 : Int) (L2 v0 : List R_si) (v1 : List Int) (v2 : Int) (v3 : List RA) (v4 : List Int) (v5 : List R_is) (v6 : List (List Int)) : List (Bool × Bool) := (dP (∃ y, 0 ≤ (0 : Int) ∧ ((Za (Z4 (10 : Int) v1)))[((0 : Int)).toNat]? = some y ∧ (bAt (Z4 (10 : Int) v1) 0) = (y.toNat : Int)), true) :: ZhK L0 a1 L2 v0 v1 v2 v3 v4 v5 v6

noncomputable def Zc6 (L0 : List Int) (a1 : Int) (L2 v0 : List R_si) (v1 : List Int) (v2 : Int) (v3 : List RA) (v4 : List Int) (v5 : List R_is) (v6 : List (List Int)) : List (Bool × Bool) := (dP (∃ y, 0 ≤ (0 : Int) ∧ ((Za (Z4 (10 : Int) v1)))[((0 : Int)).toNat]? = some y ∧ (bAt (Z4 (10 : Int) v1) 0) = (y.toNat : Int)), true) :: (((bAt (Z4 (10 : Int) v1) 0) == (35 : Int)), false) :: Zf7 L0 a1 L2 v0 v1 v2 v3 v4 v5 v6

noncomputable def Zf8 (L0 : List Int) (a1 : Int) (L2 v0 : List R_si) (v1 : List Int) (v2 : Int) (v3 : List RA) (v4 : List Int) (v5 : List R_is) (v6 : List (List Int)) : List (Bool × Bool) := (dP (0 ≤ (1 : Int) ∧ (1 : Int) ≤ ((((Za (Z4 (10 : Int) v1))).size : Nat) : Int) ∧ ((((Za (Z4 (10 : Int) v1))).size : Nat) : Int) ≤ ((((Za (Z4 (10 : Int) v1))).size : Nat) : Int) ∧ ((Za (Z4 (10 : Int) v1))).extract ((1 : Int)).toNat (((((Za (Z4 (10 : Int) v1))).size : Nat) : Int)).toNat = Za ((Z4 (10 : Int) v1).drop 1)), true) :: (((bAt (Z4 (10 : Int) v1) 0) == (58 : Int)), true) :: Zc6 L0 a1 L2 v0 v1 v2 v3 v4 v5 v6

end Ev
end Go.Proofs.YtlbbiflodemagaaDoor
/- Calls do what the plain functions say. -/
namespace Go.Proofs.YtlbbiflodemagaaDoor
open Go.RowKit
namespace Ev
set_option linter.unusedVariables false
set_option maxRecDepth 100000
set_option maxHeartbeats 4000000 in
theorem Zkf (L0 : List Int) (a1 : Int) (L2 v0 : List R_si) (v1 : List Int) (v2 : Int) (v3 : List RA) (v4 : List Int) (v5 : List R_is) (v6 : List (List Int)) (N : Nat) : (Zaa L0 a1 L2 N).Ok Tryd.prog ZJ (.h1m0 v0 v1 v2 v3 v4 v5 v6 : Z9) (Za3 L0 a1 L2 N (.h1m0 v0 v1 v2 v3 v4 v5 v6 : Z9)) := by
 show (Zaa L0 a1 L2 N).Ok Tryd.prog ZJ (.h1m0 v0 v1 v2 v3 v4 v5 v6 : Z9) (ZaC L0 a1 L2 N v0 v1 v2 v3 v4 v5 v6)
 unfold ZaC
 refine Mach.ok_ite (fun g0 => ?_) (fun g0 => ?_)
 ·
  have w1 : OkL (ZhJ L0 a1 L2 v0 v1 v2 v3 v4 v5 v6) :=
   Zc (ZwA (x := v1) (y := ([] : List Int)) (by assumption)) <| ZL
  refine Mach.ok_ite (fun g1 => ?_) (fun _ => Mach.ok_none)
  refine Mach.ok_ite (fun g2 => ?_) (fun _ => Mach.ok_none)
  have w3 : OkL (ZdL L0 a1 L2 v0 v1 v2 v3 v4 v5 v6) :=
   Zc (Zn ⟨rfl, by assumption, ltA⟩) <| w1
  refine Mach.ok_ite (fun g3 => ?_) (fun g3 => ?_)
  ·
   refine Mach.ok_ite (fun g4 => ?_) (fun g4 => ?_)
   ·
    exact Mach.ok_next (M := Zaa L0 a1 L2 N) (cd := 1000000) (cm := 0) (y := (.h1m0 (v0) ((ZQ (10 : Int) v1)) ((IntKind.i64.wrap (v2 + (1 : Int)))) (v3) (v4) (v5) (v6) : Z9)) (fu := 4000) (orc := (Zr [(0, true), (1, true), (3, true)] [] [] [] [(1, .bs v1)])) (live := [0, 1, 2, 3, 4, 5]) (tv := fun _ => [some (vp 0 0)]) (bl := [some (.cells [Value.string (Za (ZQ (10 : Int) v1)), vi (IntKind.i64.wrap (v2 + (1 : Int))), vs 2 0 v3.length v3.length, vs 3 0 v4.length v4.length, vs 4 0 v5.length v5.length, vs 5 0 v6.length v6.length, Value.map (some 1)] 57), some (.ro (Zj v0) true), some (.cells (Zb E_iiii v3) 24 true), some (.cells (Zb eI v4) 3 true), some (.cells (Zb Zu v5) 122 true), some (.cells (Zb Zs v6) 9 true)]) (ob := ((((Za (Z4 (10 : Int) v1)).toList == (⟨#[]⟩ : ByteArray).toList), true) :: ((Zbj (10 : Int) v1), true) :: ZdL L0 a1 L2 v0 v1 v2 v3 v4 v5 v6)) rfl (show 1 ∈ Zaw (Zd4 1) from by decide +kernel) (fun gv => by as_aux_lemma => kernel_rfl) (Zc (Zbq (x := (Z4 (10 : Int) v1)) (y := ([] : List Int)) (by assumption)) <| Zc (by assumption) <| w3) rfl (by decide) (by rfl) (fun _ => ⟨rr, trivial⟩) ⟨sm, ⟨(show Zj v0 = Zj v0 from rfl), ⟨(Zm (E := E_iiii) (α := RA) _ v3 _), ⟨(Zm (E := eI) (α := Int) _ v4 _), ⟨(Zm (E := Zu) (α := R_is) _ v5 _), ⟨(Zm (E := Zs) (α := List Int) _ v6 _), trivial⟩⟩⟩⟩⟩⟩
   ·
    have w5 : OkL (ZhK L0 a1 L2 v0 v1 v2 v3 v4 v5 v6) :=
     Zc (Zbb (x := (Z4 (10 : Int) v1)) (y := ([] : List Int)) (by assumption)) <| Zc (by assumption) <| w3
    refine Mach.ok_ite (fun g5 => ?_) (fun _ => Mach.ok_none)
    have w6 : OkL (Zf7 L0 a1 L2 v0 v1 v2 v3 v4 v5 v6) :=
     Zc (Zn (Zl5 (M := (Z4 (10 : Int) v1)) (i := 0) rfl (by first | rfl | exact ZfX (by omega)) (by (try simp only [ZT] at *); first | omega | (simp only [List.length_set, List.length_append, List.length_cons, List.length_nil, List.length_replicate, List.length_take, List.length_drop] at * <;> omega)))) <| w5
    refine Mach.ok_ite (fun g6 => ?_) (fun g6 => ?_)
    ·
     exact Mach.ok_next (M := Zaa L0 a1 L2 N) (cd := 1000000) (cm := 0) (y := (.h1m0 (v0) ((ZQ (10 : Int) v1)) ((IntKind.i64.wrap (v2 + (1 : Int)))) (v3) (v4) (v5) (v6) : Z9)) (fu := 4000) (orc := (Zr [(0, true), (1, true), (3, false), (4, true)] [] [] [] [(1, .bs v1), (3, .bs [(bAt (Z4 (10 : Int) v1) 0)])])) (live := [0, 1, 2, 3, 4, 5]) (tv := fun _ => [some (vp 0 0)]) (bl := [some (.cells [Value.string (Za (ZQ (10 : Int) v1)), vi (IntKind.i64.wrap (v2 + (1 : Int))), vs 2 0 v3.length v3.length, vs 3 0 v4.length v4.length, vs 4 0 v5.length v5.length, vs 5 0 v6.length v6.length, Value.map (some 1)] 57), some (.ro (Zj v0) true), some (.cells (Zb E_iiii v3) 24 true), some (.cells (Zb eI v4) 3 true), some (.cells (Zb Zu v5) 122 true), some (.cells (Zb Zs v6) 9 true)]) (ob := ((((bAt (Z4 (10 : Int) v1) 0) == (35 : Int)), true) :: Zf7 L0 a1 L2 v0 v1 v2 v3 v4 v5 v6)) rfl (show 1 ∈ Zaw (Zd4 1) from by decide +kernel) (fun gv => by as_aux_lemma => kernel_rfl) (oT <| w6) rfl (by decide) (by rfl) (fun _ => ⟨rr, trivial⟩) ⟨sm, ⟨(show Zj v0 = Zj v0 from rfl), ⟨(Zm (E := E_iiii) (α := RA) _ v3 _), ⟨(Zm (E := eI) (α := Int) _ v4 _), ⟨(Zm (E := Zu) (α := R_is) _ v5 _), ⟨(Zm (E := Zs) (α := List Int) _ v6 _), trivial⟩⟩⟩⟩⟩⟩
    ·
     have w7 : OkL (Zc6 L0 a1 L2 v0 v1 v2 v3 v4 v5 v6) :=
      Zc (Zn (Zl5 (M := (Z4 (10 : Int) v1)) (i := 0) rfl (by first | rfl | exact ZfX (by omega)) (by (try simp only [ZT] at *); first | omega | (simp only [List.length_set, List.length_append, List.length_cons, List.length_nil, List.length_replicate, List.length_take, List.length_drop] at * <;> omega)))) <| oF <| w6
     refine Mach.ok_ite (fun g7 => ?_) (fun g7 => ?_)
     ·
      have w8 : OkL (Zf8 L0 a1 L2 v0 v1 v2 v3 v4 v5 v6) :=
       Zc (Zn (Zvl (M := (Z4 (10 : Int) v1)) (R := ((Z4 (10 : Int) v1).drop 1)) rfl (by (try simp only [ZT] at *); omega) (by (try simp only [ZT] at *); first | omega | (simp only [List.length_set, List.length_append, List.length_cons, List.length_nil, List.length_replicate, List.length_take, List.length_drop] at * <;> omega)) (by first | rfl | simp))) <| oT <| w7
      refine Mach.ok_bind (fun z8 c8 => ?_)
      cases z8 with
      | r0 =>
       exact Mach.ok_thr (M := Zaa L0 a1 L2 N) (cd := 1000000) (cm := 0) (r := (.r0 ((IntKind.i64.wrap (v2 + (1 : Int)))) : ZC)) (fu := 4000) (orc := (Zr [(0, true), (1, true), (3, false), (4, false), (5, true)] [] [] [] [(1, .bs v1), (3, .bs [(bAt (Z4 (10 : Int) v1) 0)]), (4, .bs [(bAt (Z4 (10 : Int) v1) 0)]), (5, .bs ((Z4 (10 : Int) v1).drop 1)), (6, (Zmj (((Z4 (10 : Int) v1).drop 1)) ((ZQ (10 : Int) v1)) ((IntKind.i64.wrap (v2 + (1 : Int)))) (v3) (v4) (v5) (v6) (v0)   0 2 3 4 5 1 6))])) (u := Value.iface 88 (Value.agg #[vi (IntKind.i64.wrap (v2 + (1 : Int)))])) (ob := ((dP (ZhR #[vp 0 0, Value.string (Za ((Z4 (10 : Int) v1).drop 1))] (((Z4 (10 : Int) v1).drop 1)) ((ZQ (10 : Int) v1)) ((IntKind.i64.wrap (v2 + (1 : Int)))) (v3) (v4) (v5) (v6) (v0)   0 2 3 4 5 1 6), true) :: (dS [Value.string (Za (ZQ (10 : Int) v1)), vi (IntKind.i64.wrap (v2 + (1 : Int))), vs 2 0 v3.length v3.length, vs 3 0 v4.length v4.length, vs 4 0 v5.length v5.length, vs 5 0 v6.length v6.length, Value.map (some 1)], true) :: (dS (Zb E_iiii v3), true) :: (dS (Zb eI v4), true) :: (dS (Zb Zu v5), true) :: (dS (Zb Zs v6), true) :: (dS (Zj v0), true) :: Zf8 L0 a1 L2 v0 v1 v2 v3 v4 v5 v6)) (fun gv => by as_aux_lemma => kernel_rfl) (Zc (Zn (Zmk #[vp 0 0, Value.string (Za ((Z4 (10 : Int) v1).drop 1))] (((Z4 (10 : Int) v1).drop 1)) ((ZQ (10 : Int) v1)) ((IntKind.i64.wrap (v2 + (1 : Int)))) (v3) (v4) (v5) (v6) (v0)   N c8 0 2 3 4 5 1 6 rfl dcd dcd)) <| oR <| oR <| oR <| oR <| oR <| oR <| w8) rfl (by rfl) (by rfl)
      | r1 =>
       exact Mach.ok_nextW (M := Zaa L0 a1 L2 N) (cd := 1000000) (cm := 0) (y := (.h1m0 ((Zcp v0 ((Z4 (10 : Int) v1).drop 1) (v3.length : Int))) ((ZQ (10 : Int) v1)) ((IntKind.i64.wrap (v2 + (1 : Int)))) (v3) (v4) (v5) ((v6 ++ ([((Z4 (10 : Int) v1).drop 1)] : List (List Int)))) : Z9)) (fu := 4000) (orc := (Zr [(0, true), (1, true), (3, false), (4, false), (5, true)] [] [] [] [(1, .bs v1), (3, .bs [(bAt (Z4 (10 : Int) v1) 0)]), (4, .bs [(bAt (Z4 (10 : Int) v1) 0)]), (5, .bs ((Z4 (10 : Int) v1).drop 1)), (6, (Zml (((Z4 (10 : Int) v1).drop 1)) ((ZQ (10 : Int) v1)) ((IntKind.i64.wrap (v2 + (1 : Int)))) (v3) (v4) (v5) (v6) (v0)   0 2 3 4 5 1 6))])) (live := [0, 1, 2, 3, 4, 6]) (tv := fun _ => [some (vp 0 0)]) (bl := [some (.cells [Value.string (Za (ZQ (10 : Int) v1)), vi (IntKind.i64.wrap (v2 + (1 : Int))), vs 2 0 v3.length v3.length, vs 3 0 v4.length v4.length, vs 4 0 v5.length v5.length, vs 6 0 (v6.length + 1) (v6.length + 1), Value.map (some 1)] 57), some (.ro (Zj (Zcp v0 ((Z4 (10 : Int) v1).drop 1) (v3.length : Int))) true), some (.cells (Zb E_iiii v3) 24 true), some (.cells (Zb eI v4) 3 true), some (.cells (Zb Zu v5) 122 true), some (.cells (Zb Zs (v6 ++ ([((Z4 (10 : Int) v1).drop 1)] : List (List Int)))) 9)]) (ob := ((dP (ZhS #[vp 0 0, Value.string (Za ((Z4 (10 : Int) v1).drop 1))] (((Z4 (10 : Int) v1).drop 1)) ((ZQ (10 : Int) v1)) ((IntKind.i64.wrap (v2 + (1 : Int)))) (v3) (v4) (v5) (v6) (v0)   0 2 3 4 5 1 6), true) :: (dS [Value.string (Za (ZQ (10 : Int) v1)), vi (IntKind.i64.wrap (v2 + (1 : Int))), vs 2 0 v3.length v3.length, vs 3 0 v4.length v4.length, vs 4 0 v5.length v5.length, vs 5 0 v6.length v6.length, Value.map (some 1)], true) :: (dS (Zb E_iiii v3), true) :: (dS (Zb eI v4), true) :: (dS (Zb Zu v5), true) :: (dS (Zb Zs v6), true) :: (dS (Zj v0), true) :: Zf8 L0 a1 L2 v0 v1 v2 v3 v4 v5 v6)) [some (.cells [Value.string (Za (ZQ (10 : Int) v1)), vi (IntKind.i64.wrap (v2 + (1 : Int))), vs 2 0 v3.length v3.length, vs 3 0 v4.length v4.length, vs 4 0 v5.length v5.length, vs 5 0 (v6 ++ ([((Z4 (10 : Int) v1).drop 1)] : List (List Int))).length (v6 ++ ([((Z4 (10 : Int) v1).drop 1)] : List (List Int))).length, Value.map (some 1)] 57), some (.ro (Zj (Zcp v0 ((Z4 (10 : Int) v1).drop 1) (v3.length : Int))) true), some (.cells (Zb E_iiii v3) 24 true), some (.cells (Zb eI v4) 3 true), some (.cells (Zb Zu v5) 122 true), some (.cells (Zb Zs (v6 ++ ([((Z4 (10 : Int) v1).drop 1)] : List (List Int)))) 9)] [] 0 ⟨(.inl rfl), ⟨(.inl rfl), ⟨(.inl rfl), ⟨(.inl rfl), ⟨(.inl rfl), ⟨(Zoz (E := Zs) (L := (v6 ++ ([((Z4 (10 : Int) v1).drop 1)] : List (List Int)))) ltA (by decide)), trivial⟩⟩⟩⟩⟩⟩ (by rfl) (by rfl) rfl (show 1 ∈ Zaw (Zd4 1) from by decide +kernel) (fun gv => by as_aux_lemma => kernel_rfl) (Zc (Zn (Zmm #[vp 0 0, Value.string (Za ((Z4 (10 : Int) v1).drop 1))] (((Z4 (10 : Int) v1).drop 1)) ((ZQ (10 : Int) v1)) ((IntKind.i64.wrap (v2 + (1 : Int)))) (v3) (v4) (v5) (v6) (v0)   N c8 0 2 3 4 5 1 6 rfl dcd dcd)) <| oR <| oR <| oR <| oR <| oR <| oR <| w8) rfl (by decide) (by rfl) (fun _ => ⟨rr, trivial⟩) ⟨⟨rfl, ⟨[], (show ([Value.string (Za (ZQ (10 : Int) v1)), vi (IntKind.i64.wrap (v2 + (1 : Int))), vs 2 0 v3.length v3.length, vs 3 0 v4.length v4.length, vs 4 0 v5.length v5.length, vs 5 0 (v6.length + 1) (v6.length + 1), Value.map (some 1)] : List Value) = _ from (Zd rfl (Zd rfl (Zd rfl (Zd rfl (Zd rfl (Zd (ZS rfl eqA eqA) (Zd rfl rfl))))))).symm)⟩, by rfl⟩, ⟨(show Zj (Zcp v0 ((Z4 (10 : Int) v1).drop 1) (v3.length : Int)) = Zj (Zcp v0 ((Z4 (10 : Int) v1).drop 1) (v3.length : Int)) from rfl), ⟨(Zm (E := E_iiii) (α := RA) _ v3 _), ⟨(Zm (E := eI) (α := Int) _ v4 _), ⟨(Zm (E := Zu) (α := R_is) _ v5 _), ⟨(ZE (E := Zs) (α := List Int) _ (v6 ++ ([((Z4 (10 : Int) v1).drop 1)] : List (List Int))) _), trivial⟩⟩⟩⟩⟩⟩
     ·
      refine Mach.ok_bind (fun z8 c8 => ?_)
      cases z8 with
      | r0 =>
       exact Mach.ok_thr (M := Zaa L0 a1 L2 N) (cd := 1000000) (cm := 0) (r := (.r0 ((IntKind.i64.wrap (v2 + (1 : Int)))) : ZC)) (fu := 4000) (orc := (Zr [(0, true), (1, true), (3, false), (4, false), (5, false)] [] [] [] [(1, .bs v1), (3, .bs [(bAt (Z4 (10 : Int) v1) 0)]), (4, .bs [(bAt (Z4 (10 : Int) v1) 0)]), (5, (ZiG ((Z4 (10 : Int) v1)) ((ZQ (10 : Int) v1)) ((IntKind.i64.wrap (v2 + (1 : Int)))) (v3) (v4) (v5) (v6) (v0)   0 2 3 4 5 1 6))])) (u := Value.iface 88 (Value.agg #[vi (IntKind.i64.wrap (v2 + (1 : Int)))])) (ob := ((dP (Zft #[vp 0 0, Value.string (Za (Z4 (10 : Int) v1))] ((Z4 (10 : Int) v1)) ((ZQ (10 : Int) v1)) ((IntKind.i64.wrap (v2 + (1 : Int)))) (v3) (v4) (v5) (v6) (v0)   0 2 3 4 5 1 6), true) :: (dS [Value.string (Za (ZQ (10 : Int) v1)), vi (IntKind.i64.wrap (v2 + (1 : Int))), vs 2 0 v3.length v3.length, vs 3 0 v4.length v4.length, vs 4 0 v5.length v5.length, vs 5 0 v6.length v6.length, Value.map (some 1)], true) :: (dS (Zb E_iiii v3), true) :: (dS (Zb eI v4), true) :: (dS (Zb Zu v5), true) :: (dS (Zb Zs v6), true) :: (dS (Zj v0), true) :: (((bAt (Z4 (10 : Int) v1) 0) == (58 : Int)), false) :: Zc6 L0 a1 L2 v0 v1 v2 v3 v4 v5 v6)) (fun gv => by as_aux_lemma => kernel_rfl) (Zc (Zn (ZiH #[vp 0 0, Value.string (Za (Z4 (10 : Int) v1))] ((Z4 (10 : Int) v1)) ((ZQ (10 : Int) v1)) ((IntKind.i64.wrap (v2 + (1 : Int)))) (v3) (v4) (v5) (v6) (v0)   N c8 0 2 3 4 5 1 6 rfl dcd dcd)) <| oR <| oR <| oR <| oR <| oR <| oR <| oF <| w7) rfl (by rfl) (by rfl)
      | r1 y8_0 =>
       refine Mach.ok_ite (fun g9 => ?_) (fun _ => Mach.ok_none)
       exact Mach.ok_nextW (M := Zaa L0 a1 L2 N) (cd := 1000000) (cm := 0) (y := (.h1m0 (v0) ((ZQ (10 : Int) v1)) ((IntKind.i64.wrap (v2 + (1 : Int)))) (y8_0) ((v4 ++ ([(IntKind.i64.wrap (v2 + (1 : Int)))] : List Int))) (v5) (v6) : Z9)) (fu := 4000) (orc := (Zr [(0, true), (1, true), (3, false), (4, false), (5, false)] [] [] [] [(1, .bs v1), (3, .bs [(bAt (Z4 (10 : Int) v1) 0)]), (4, .bs [(bAt (Z4 (10 : Int) v1) 0)]), (5, (ZiI ((Z4 (10 : Int) v1)) ((ZQ (10 : Int) v1)) ((IntKind.i64.wrap (v2 + (1 : Int)))) (v3) (v4) (v5) (v6) (v0)  y8_0 0 2 3 4 5 1 6))])) (live := [0, 1, 6, 7, 4, 5]) (tv := fun _ => [some (vp 0 0)]) (bl := [some (.cells [Value.string (Za (ZQ (10 : Int) v1)), vi (IntKind.i64.wrap (v2 + (1 : Int))), vs 6 0 y8_0.length y8_0.length, vs 7 0 (v4.length + 1) (v4.length + 1), vs 4 0 v5.length v5.length, vs 5 0 v6.length v6.length, Value.map (some 1)] 57), some (.ro (Zj v0) true), some (.cells (Zb E_iiii y8_0) 24), some (.cells (Zb eI (v4 ++ ([(IntKind.i64.wrap (v2 + (1 : Int)))] : List Int))) 3), some (.cells (Zb Zu v5) 122 true), some (.cells (Zb Zs v6) 9 true)]) (ob := ((dP (Zfu #[vp 0 0, Value.string (Za (Z4 (10 : Int) v1))] ((Z4 (10 : Int) v1)) ((ZQ (10 : Int) v1)) ((IntKind.i64.wrap (v2 + (1 : Int)))) (v3) (v4) (v5) (v6) (v0)  y8_0 0 2 3 4 5 1 6), true) :: (dS [Value.string (Za (ZQ (10 : Int) v1)), vi (IntKind.i64.wrap (v2 + (1 : Int))), vs 2 0 v3.length v3.length, vs 3 0 v4.length v4.length, vs 4 0 v5.length v5.length, vs 5 0 v6.length v6.length, Value.map (some 1)], true) :: (dS (Zb E_iiii v3), true) :: (dS (Zb eI v4), true) :: (dS (Zb Zu v5), true) :: (dS (Zb Zs v6), true) :: (dS (Zj v0), true) :: (((bAt (Z4 (10 : Int) v1) 0) == (58 : Int)), false) :: Zc6 L0 a1 L2 v0 v1 v2 v3 v4 v5 v6)) [some (.cells [Value.string (Za (ZQ (10 : Int) v1)), vi (IntKind.i64.wrap (v2 + (1 : Int))), vs 2 0 y8_0.length y8_0.length, vs 3 0 (v4 ++ ([(IntKind.i64.wrap (v2 + (1 : Int)))] : List Int)).length (v4 ++ ([(IntKind.i64.wrap (v2 + (1 : Int)))] : List Int)).length, vs 4 0 v5.length v5.length, vs 5 0 v6.length v6.length, Value.map (some 1)] 57), some (.ro (Zj v0) true), some (.cells (Zb E_iiii y8_0) 24), some (.cells (Zb eI (v4 ++ ([(IntKind.i64.wrap (v2 + (1 : Int)))] : List Int))) 3), some (.cells (Zb Zu v5) 122 true), some (.cells (Zb Zs v6) 9 true)] [] 0 ⟨(.inl rfl), ⟨(.inl rfl), ⟨(Zoz (E := E_iiii) (L := y8_0) ltA (by decide)), ⟨(Zoz (E := eI) (L := (v4 ++ ([(IntKind.i64.wrap (v2 + (1 : Int)))] : List Int))) ltA (by decide)), ⟨(.inl rfl), ⟨(.inl rfl), trivial⟩⟩⟩⟩⟩⟩ (by rfl) (by rfl) rfl (show 1 ∈ Zaw (Zd4 1) from by decide +kernel) (fun gv => by as_aux_lemma => kernel_rfl) (Zc (Zn (ZiJ #[vp 0 0, Value.string (Za (Z4 (10 : Int) v1))] ((Z4 (10 : Int) v1)) ((ZQ (10 : Int) v1)) ((IntKind.i64.wrap (v2 + (1 : Int)))) (v3) (v4) (v5) (v6) (v0)  y8_0 N c8 0 2 3 4 5 1 6 rfl dcd dcd)) <| oR <| oR <| oR <| oR <| oR <| oR <| oF <| w7) rfl (by decide) (by rfl) (fun _ => ⟨rr, trivial⟩) ⟨⟨rfl, ⟨[], (show ([Value.string (Za (ZQ (10 : Int) v1)), vi (IntKind.i64.wrap (v2 + (1 : Int))), vs 2 0 y8_0.length y8_0.length, vs 3 0 (v4.length + 1) (v4.length + 1), vs 4 0 v5.length v5.length, vs 5 0 v6.length v6.length, Value.map (some 1)] : List Value) = _ from (Zd rfl (Zd rfl (Zd rfl (Zd (ZS rfl eqA eqA) (Zd rfl (Zd rfl (Zd rfl rfl))))))).symm)⟩, by rfl⟩, ⟨(show Zj v0 = Zj v0 from rfl), ⟨(ZE (E := E_iiii) (α := RA) _ y8_0 _), ⟨(ZE (E := eI) (α := Int) _ (v4 ++ ([(IntKind.i64.wrap (v2 + (1 : Int)))] : List Int)) _), ⟨(Zm (E := Zu) (α := R_is) _ v5 _), ⟨(Zm (E := Zs) (α := List Int) _ v6 _), trivial⟩⟩⟩⟩⟩⟩
      | r2 y8_0 y8_1 =>
       refine Mach.ok_ite (fun g9 => ?_) (fun _ => Mach.ok_none)
       refine Mach.ok_ite (fun g10 => ?_) (fun _ => Mach.ok_none)
       exact Mach.ok_nextW (M := Zaa L0 a1 L2 N) (cd := 1000000) (cm := 0) (y := (.h1m0 (v0) ((ZQ (10 : Int) v1)) ((IntKind.i64.wrap (v2 + (1 : Int)))) (y8_0) ((v4 ++ ([(IntKind.i64.wrap (v2 + (1 : Int)))] : List Int))) (y8_1) (v6) : Z9)) (fu := 4000) (orc := (Zr [(0, true), (1, true), (3, false), (4, false), (5, false)] [] [] [] [(1, .bs v1), (3, .bs [(bAt (Z4 (10 : Int) v1) 0)]), (4, .bs [(bAt (Z4 (10 : Int) v1) 0)]), (5, (ZiK ((Z4 (10 : Int) v1)) ((ZQ (10 : Int) v1)) ((IntKind.i64.wrap (v2 + (1 : Int)))) (v3) (v4) (v5) (v6) (v0)  y8_0 y8_1 0 2 3 4 5 1 6))])) (live := [0, 1, 6, 7, 8, 5]) (tv := fun _ => [some (vp 0 0)]) (bl := [some (.cells [Value.string (Za (ZQ (10 : Int) v1)), vi (IntKind.i64.wrap (v2 + (1 : Int))), vs 6 0 y8_0.length y8_0.length, vs 7 0 (v4.length + 1) (v4.length + 1), vs 8 0 y8_1.length y8_1.length, vs 5 0 v6.length v6.length, Value.map (some 1)] 57), some (.ro (Zj v0) true), some (.cells (Zb E_iiii y8_0) 24), some (.cells (Zb eI (v4 ++ ([(IntKind.i64.wrap (v2 + (1 : Int)))] : List Int))) 3), some (.cells (Zb Zu y8_1) 122), some (.cells (Zb Zs v6) 9 true)]) (ob := ((dP (Zfv #[vp 0 0, Value.string (Za (Z4 (10 : Int) v1))] ((Z4 (10 : Int) v1)) ((ZQ (10 : Int) v1)) ((IntKind.i64.wrap (v2 + (1 : Int)))) (v3) (v4) (v5) (v6) (v0)  y8_0 y8_1 0 2 3 4 5 1 6), true) :: (dS [Value.string (Za (ZQ (10 : Int) v1)), vi (IntKind.i64.wrap (v2 + (1 : Int))), vs 2 0 v3.length v3.length, vs 3 0 v4.length v4.length, vs 4 0 v5.length v5.length, vs 5 0 v6.length v6.length, Value.map (some 1)], true) :: (dS (Zb E_iiii v3), true) :: (dS (Zb eI v4), true) :: (dS (Zb Zu v5), true) :: (dS (Zb Zs v6), true) :: (dS (Zj v0), true) :: (((bAt (Z4 (10 : Int) v1) 0) == (58 : Int)), false) :: Zc6 L0 a1 L2 v0 v1 v2 v3 v4 v5 v6)) [some (.cells [Value.string (Za (ZQ (10 : Int) v1)), vi (IntKind.i64.wrap (v2 + (1 : Int))), vs 2 0 y8_0.length y8_0.length, vs 3 0 (v4 ++ ([(IntKind.i64.wrap (v2 + (1 : Int)))] : List Int)).length (v4 ++ ([(IntKind.i64.wrap (v2 + (1 : Int)))] : List Int)).length, vs 4 0 y8_1.length y8_1.length, vs 5 0 v6.length v6.length, Value.map (some 1)] 57), some (.ro (Zj v0) true), some (.cells (Zb E_iiii y8_0) 24), some (.cells (Zb eI (v4 ++ ([(IntKind.i64.wrap (v2 + (1 : Int)))] : List Int))) 3), some (.cells (Zb Zu y8_1) 122), some (.cells (Zb Zs v6) 9 true)] [] 0 ⟨(.inl rfl), ⟨(.inl rfl), ⟨(Zoz (E := E_iiii) (L := y8_0) ltA (by decide)), ⟨(Zoz (E := eI) (L := (v4 ++ ([(IntKind.i64.wrap (v2 + (1 : Int)))] : List Int))) ltA (by decide)), ⟨(Zoz (E := Zu) (L := y8_1) ltA (by decide)), ⟨(.inl rfl), trivial⟩⟩⟩⟩⟩⟩ (by rfl) (by rfl) rfl (show 1 ∈ Zaw (Zd4 1) from by decide +kernel) (fun gv => by as_aux_lemma => kernel_rfl) (Zc (Zn (ZiL #[vp 0 0, Value.string (Za (Z4 (10 : Int) v1))] ((Z4 (10 : Int) v1)) ((ZQ (10 : Int) v1)) ((IntKind.i64.wrap (v2 + (1 : Int)))) (v3) (v4) (v5) (v6) (v0)  y8_0 y8_1 N c8 0 2 3 4 5 1 6 rfl dcd dcd)) <| oR <| oR <| oR <| oR <| oR <| oR <| oF <| w7) rfl (by decide) (by rfl) (fun _ => ⟨rr, trivial⟩) ⟨⟨rfl, ⟨[], (show ([Value.string (Za (ZQ (10 : Int) v1)), vi (IntKind.i64.wrap (v2 + (1 : Int))), vs 2 0 y8_0.length y8_0.length, vs 3 0 (v4.length + 1) (v4.length + 1), vs 4 0 y8_1.length y8_1.length, vs 5 0 v6.length v6.length, Value.map (some 1)] : List Value) = _ from (Zd rfl (Zd rfl (Zd rfl (Zd (ZS rfl eqA eqA) (Zd rfl (Zd rfl (Zd rfl rfl))))))).symm)⟩, by rfl⟩, ⟨(show Zj v0 = Zj v0 from rfl), ⟨(ZE (E := E_iiii) (α := RA) _ y8_0 _), ⟨(ZE (E := eI) (α := Int) _ (v4 ++ ([(IntKind.i64.wrap (v2 + (1 : Int)))] : List Int)) _), ⟨(ZE (E := Zu) (α := R_is) _ y8_1 _), ⟨(Zm (E := Zs) (α := List Int) _ v6 _), trivial⟩⟩⟩⟩⟩⟩
  ·
   exact Mach.ok_thr (M := Zaa L0 a1 L2 N) (cd := 1000000) (cm := 0) (r := (.r0 ((IntKind.i64.wrap (v2 + (1 : Int)))) : ZC)) (fu := 4000) (orc := (Zz [o1, o0] [] [] [] [(1, .bs v1)])) (u := Value.iface 88 (Value.agg #[vi (IntKind.i64.wrap (v2 + (1 : Int)))])) (ob := (((Zbj (10 : Int) v1), false) :: ZdL L0 a1 L2 v0 v1 v2 v3 v4 v5 v6)) (fun gv => by as_aux_lemma => kernel_rfl) (Zc (Bool.eq_false_iff.2 (by assumption)) <| w3) rfl (by rfl) (by rfl)
 ·
  refine Mach.ok_bind (fun z1 c1 => ?_)
  cases z1 with
  | r0 y1_0 =>
   exact Mach.ok_thr (M := Zaa L0 a1 L2 N) (cd := 1000000) (cm := 0) (r := (.r0 (y1_0) : ZC)) (fu := 4000) (orc := (Zz [o0] [] [] [] [(0, (Znf (v1) (v2) (v3) (v4) (v5) (v6) (v0)  y1_0 0 2 3 4 5 1 6))])) (u := Value.iface 88 (Value.agg #[vi y1_0])) (ob := ((dP (ZiP #[vp 0 0] (v1) (v2) (v3) (v4) (v5) (v6) (v0)  y1_0 0 2 3 4 5 1 6), true) :: (dS [Value.string (Za v1), vi v2, vs 2 0 v3.length v3.length, vs 3 0 v4.length v4.length, vs 4 0 v5.length v5.length, vs 5 0 v6.length v6.length, Value.map (some 1)], true) :: (dS (Zb E_iiii v3), true) :: (dS (Zb eI v4), true) :: (dS (Zb Zu v5), true) :: (dS (Zb Zs v6), true) :: (dS (Zj v0), true) :: ((!((Za v1).toList == (⟨#[]⟩ : ByteArray).toList)), false) :: [])) (fun gv => by as_aux_lemma => kernel_rfl) (Zc (Zn (Zng #[vp 0 0] (v1) (v2) (v3) (v4) (v5) (v6) (v0)  y1_0 N c1 0 2 3 4 5 1 6 rfl dcd dcd)) <| oR <| oR <| oR <| oR <| oR <| oR <| Zc (ZqT (x := v1) (y := ([] : List Int)) (by first | assumption | exact Decidable.not_not.1 (by assumption))) <| ZL) rfl (by rfl) (by rfl)
  | r1 y1_0 =>
   exact Mach.ok_fin (M := Zaa L0 a1 L2 N) (cd := 1000000) (cm := 0) (r := (.r1 (v0) (v1) (y1_0) (v3) (v4) (v5) (v6) : ZC)) (fu := 4000) (orc := (Zz [o0] [] [] [] [(0, (Znh (v1) (v2) (v3) (v4) (v5) (v6) (v0)  y1_0 0 2 3 4 5 1 6))])) (live := [0, 1, 2, 3, 4, 5]) (u := vtt) (bl := [some (.cells [Value.string (Za v1), vi y1_0, vs 2 0 v3.length v3.length, vs 3 0 v4.length v4.length, vs 4 0 v5.length v5.length, vs 5 0 v6.length v6.length, Value.map (some 1)] 57), some (.ro (Zj v0) true), some (.cells (Zb E_iiii v3) 24 true), some (.cells (Zb eI v4) 3 true), some (.cells (Zb Zu v5) 122 true), some (.cells (Zb Zs v6) 9 true)]) (ob := ((dP (ZiQ #[vp 0 0] (v1) (v2) (v3) (v4) (v5) (v6) (v0)  y1_0 0 2 3 4 5 1 6), true) :: (dS [Value.string (Za v1), vi v2, vs 2 0 v3.length v3.length, vs 3 0 v4.length v4.length, vs 4 0 v5.length v5.length, vs 5 0 v6.length v6.length, Value.map (some 1)], true) :: (dS (Zb E_iiii v3), true) :: (dS (Zb eI v4), true) :: (dS (Zb Zu v5), true) :: (dS (Zb Zs v6), true) :: (dS (Zj v0), true) :: ((!((Za v1).toList == (⟨#[]⟩ : ByteArray).toList)), false) :: [])) (fun gv => by as_aux_lemma => kernel_rfl) (Zc (Zn (Zni #[vp 0 0] (v1) (v2) (v3) (v4) (v5) (v6) (v0)  y1_0 N c1 0 2 3 4 5 1 6 rfl dcd dcd)) <| oR <| oR <| oR <| oR <| oR <| oR <| Zc (ZqT (x := v1) (y := ([] : List Int)) (by first | assumption | exact Decidable.not_not.1 (by assumption))) <| ZL) rfl (by decide) (by rfl) rr ⟨sm, ⟨(show Zj v0 = Zj v0 from rfl), ⟨(Zm (E := E_iiii) (α := RA) _ v3 _), ⟨(Zm (E := eI) (α := Int) _ v4 _), ⟨(Zm (E := Zu) (α := R_is) _ v5 _), ⟨(Zm (E := Zs) (α := List Int) _ v6 _), trivial⟩⟩⟩⟩⟩⟩
  | r2 y1_0 y1_1 y1_2 y1_3 =>
   exact Mach.ok_fin (M := Zaa L0 a1 L2 N) (cd := 1000000) (cm := 0) (r := (.r2 (v0) (v1) (y1_1) (y1_0) (v4) (v5) (y1_2) (y1_3) (v6) : ZC)) (fu := 4000) (orc := (Zz [o0] [] [] [] [(0, (Znj (v1) (v2) (v3) (v4) (v5) (v6) (v0)  y1_0 y1_1 y1_2 y1_3 0 2 3 4 5 1 6))])) (live := [0, 1, 2, 3, 4, 5]) (u := vtt) (bl := [some (.cells [Value.string (Za v1), vi y1_1, vs 2 0 y1_0.length y1_0.length, vs 3 0 v4.length v4.length, vs 4 (y1_2 * 2) y1_3 y1_3, vs 5 0 v6.length v6.length, Value.map (some 1)] 57), some (.ro (Zj v0) true), some (.cells (Zb E_iiii y1_0) 24 true), some (.cells (Zb eI v4) 3 true), some (.cells (Zb Zu v5) 122 true), some (.cells (Zb Zs v6) 9 true)]) (ob := ((dP (ZiR #[vp 0 0] (v1) (v2) (v3) (v4) (v5) (v6) (v0)  y1_0 y1_1 y1_2 y1_3 0 2 3 4 5 1 6), true) :: (dS [Value.string (Za v1), vi v2, vs 2 0 v3.length v3.length, vs 3 0 v4.length v4.length, vs 4 0 v5.length v5.length, vs 5 0 v6.length v6.length, Value.map (some 1)], true) :: (dS (Zb E_iiii v3), true) :: (dS (Zb eI v4), true) :: (dS (Zb Zu v5), true) :: (dS (Zb Zs v6), true) :: (dS (Zj v0), true) :: ((!((Za v1).toList == (⟨#[]⟩ : ByteArray).toList)), false) :: [])) (fun gv => by as_aux_lemma => kernel_rfl) (Zc (Zn (Znk #[vp 0 0] (v1) (v2) (v3) (v4) (v5) (v6) (v0)  y1_0 y1_1 y1_2 y1_3 N c1 0 2 3 4 5 1 6 rfl dcd dcd)) <| oR <| oR <| oR <| oR <| oR <| oR <| Zc (ZqT (x := v1) (y := ([] : List Int)) (by first | assumption | exact Decidable.not_not.1 (by assumption))) <| ZL) rfl (by decide) (by rfl) rr ⟨sm, ⟨(show Zj v0 = Zj v0 from rfl), ⟨(Zm (E := E_iiii) (α := RA) _ y1_0 _), ⟨(Zm (E := eI) (α := Int) _ v4 _), ⟨(Zm (E := Zu) (α := R_is) _ v5 _), ⟨(Zm (E := Zs) (α := List Int) _ v6 _), trivial⟩⟩⟩⟩⟩⟩

set_option maxHeartbeats 4000000 in
theorem ZlA (L0 : List Int) (a1 : Int) (L2 : List R_si) (N : Nat) : (Zaa L0 a1 L2 N).Enter Tryd.prog ZJ #[vp 0 0] (ZdX L0 a1 L2 N) := by
 unfold ZdX
 exact Mach.en_headW (bK := Zcz 1) (M := Zaa L0 a1 L2 N) (cd := 1000000) (cm := 0) (y := (.h1m0 (L2) (L0) (a1) (([] : List RA)) (([] : List Int)) (([] : List R_is)) (([] : List (List Int))) : Z9)) (fu := 4000) (orc := (Zr [] [] [] [] [])) (live := [0, 1, 500000002, 500000003, 500000004, 500000005]) (tv := [some (vp 0 0)]) (bl := [some (.cells [Value.string (Za L0), vi a1, vn, vn, vn, vn, Value.map (some 1)] 57), some (.ro (Zj L2) true), none, none, none, none]) (ob := ([])) [some (.cells [Value.string (Za L0), vi a1, vn, vn, vn, vn, Value.map (some 1)] 57), some (.ro (Zj L2) true), none, none, none, none] [(2, 24), (3, 3), (4, 122), (5, 9)] 0 ⟨(wk_c ⟨.inl rfl, ⟨.inl rfl, ⟨.inr ⟨rfl, _, rfl⟩, ⟨.inr ⟨rfl, _, rfl⟩, ⟨.inr ⟨rfl, _, rfl⟩, ⟨.inr ⟨rfl, _, rfl⟩, ⟨.inl rfl, trivial⟩⟩⟩⟩⟩⟩⟩), ⟨(.inl rfl), ⟨(.inl rfl), ⟨(.inl rfl), ⟨(.inl rfl), ⟨(.inl rfl), trivial⟩⟩⟩⟩⟩⟩ (by rfl) (by rfl) rfl rfl (show Zaw (Zcz 1).2 = [] from rfl) (by as_aux_lemma => kernel_rfl) (ZL) rfl (by decide) (by rfl) ⟨rr, trivial⟩ ⟨sm, ⟨(show Zj L2 = Zj L2 from rfl), trivial⟩⟩

theorem ZeA (L0 : List Int) (a1 : Int) (L2 : List R_si) (N : Nat) (r : ZC) (h : ZcC L0 a1 L2 N = some r) : LSpec Tryd.prog 38 #[vp 0 0] [.cells [Value.string (Za L0), vi a1, vn, vn, vn, vn, Value.map (some 1)] 57, .ro (Zj L2) true] (ZiS L0 a1 L2 r) (ZhX L0 a1 L2 r) :=
 Mach.spec ZdC (Zaa L0 a1 L2 N) Tryd.func38 (by kernel_rfl) (by kernel_rfl) (fun x => by cases x <;> exact Zay _ rfl) (fun r => by cases r <;> exact Zay _ rfl) (fun x => by
  cases x with
  | h1m0 _ _ _ _ _ _ _ => exact fun _ => (show ¬ (1 ∈ Zaw (Zcz 1).2) from by decide +kernel)
  ) (fun x => (show (Zaa L0 a1 L2 N).Ok Tryd.prog ZJ x (Za3 L0 a1 L2 N x) from by
  cases x with
  | h1m0 v0 v1 v2 v3 v4 v5 v6 => exact Zkf L0 a1 L2 v0 v1 v2 v3 v4 v5 v6 N
  )) (ZlA L0 a1 L2 N) (n := N) h

noncomputable def Zmq (L0 : List Int) (a1 : Int) (L2 : List R_si) (w0 : Int) (k0 k1 n : Nat) : ZaG := .call [(k0, .cells [Value.string (Za L0), vi a1, vn, vn, vn, vn, Value.map (some k1)] 57), (k1, .ro (Zj L2) true)] (Value.iface 88 (Value.agg #[vi w0])) [(k0, none), (k1, none)] 0
def ZhZ (A : Array Value) (L0 : List Int) (a1 : Int) (L2 : List R_si) (w0 : Int) (k0 k1 n : Nat) : Prop := ZB Tryd.prog 38 A [(k0, .cells [Value.string (Za L0), vi a1, vn, vn, vn, vn, Value.map (some k1)] 57), (k1, .ro (Zj L2) true)] (Value.iface 88 (Value.agg #[vi w0])) [(k0, none), (k1, none)] n 0

theorem Zmr (A : Array Value) (L0 : List Int) (a1 : Int) (L2 : List R_si) (w0 : Int) (N : Nat) (h : ZcC L0 a1 L2 N = some (.r0 w0)) (k0 k1 n : Nat) (hA : A = #[vp k0 0]) (hnd : ([k0, k1] : List Nat).Nodup) (hlt : ∀ k ∈ ([k0, k1] : List Nat), k < n) : ZhZ A L0 a1 L2 w0 k0 k1 n :=
 Zaq hA (LSpec.callL (show LSpec Tryd.prog 38 #[vp 0 0] [.cells [Value.string (Za L0), vi a1, vn, vn, vn, vn, Value.map (some 1)] 57, .ro (Zj L2) true] (Value.iface 88 (Value.agg #[vi w0])) [none, none] from ZeA L0 a1 L2 N _ h) [k0, k1] n [0, 1] rfl hnd hlt (show 2 ≤ 2 from by decide) (show ∀ j ∈ ([0, 1] : List Nat), j < 2 from by decide) (by rfl) ⟨rfl, ⟨rfl, trivial⟩⟩ (by rfl) trivial ⟨.inl (by decide), ⟨.inl (by decide), trivial⟩⟩ rfl rfl rfl (Zd (Zk rfl rfl) (Zd (Zk rfl rfl) rfl)) (Zd (Zk rfl rfl) (Zd (Zk rfl rfl) rfl)))

noncomputable def Zms (L0 : List Int) (a1 : Int) (L2 w0 : List R_si) (w1 : List Int) (w2 : Int) (w3 : List RA) (w4 : List Int) (w5 : List R_is) (w6 : List (List Int)) (k0 k1 n : Nat) : ZaG := .call [(k0, .cells [Value.string (Za L0), vi a1, vn, vn, vn, vn, Value.map (some k1)] 57), (k1, .ro (Zj L2) true)] (vtt) [(k0, some (.cells [Value.string (Za w1), vi w2, vs n 0 w3.length w3.length, vs (n + 1) 0 w4.length w4.length, vs (n + 2) 0 w5.length w5.length, vs (n + 3) 0 w6.length w6.length, Value.map (some k1)] 57)), (k1, some (.ro (Zj w0) true)), (n, some (.cells (Zb E_iiii w3) 24 true)), ((n + 1), some (.cells (Zb eI w4) 3 true)), ((n + 2), some (.cells (Zb Zu w5) 122 true)), ((n + 3), some (.cells (Zb Zs w6) 9 true))] 4
def Zia (A : Array Value) (L0 : List Int) (a1 : Int) (L2 w0 : List R_si) (w1 : List Int) (w2 : Int) (w3 : List RA) (w4 : List Int) (w5 : List R_is) (w6 : List (List Int)) (k0 k1 n : Nat) : Prop := ZB Tryd.prog 38 A [(k0, .cells [Value.string (Za L0), vi a1, vn, vn, vn, vn, Value.map (some k1)] 57), (k1, .ro (Zj L2) true)] (vtt) [(k0, some (.cells [Value.string (Za w1), vi w2, vs n 0 w3.length w3.length, vs (n + 1) 0 w4.length w4.length, vs (n + 2) 0 w5.length w5.length, vs (n + 3) 0 w6.length w6.length, Value.map (some k1)] 57)), (k1, some (.ro (Zj w0) true)), (n, some (.cells (Zb E_iiii w3) 24 true)), ((n + 1), some (.cells (Zb eI w4) 3 true)), ((n + 2), some (.cells (Zb Zu w5) 122 true)), ((n + 3), some (.cells (Zb Zs w6) 9 true))] n 4

theorem Zmt (A : Array Value) (L0 : List Int) (a1 : Int) (L2 w0 : List R_si) (w1 : List Int) (w2 : Int) (w3 : List RA) (w4 : List Int) (w5 : List R_is) (w6 : List (List Int)) (N : Nat) (h : ZcC L0 a1 L2 N = some (.r1 w0 w1 w2 w3 w4 w5 w6)) (k0 k1 n : Nat) (hA : A = #[vp k0 0]) (hnd : ([k0, k1] : List Nat).Nodup) (hlt : ∀ k ∈ ([k0, k1] : List Nat), k < n) : Zia A L0 a1 L2 w0 w1 w2 w3 w4 w5 w6 k0 k1 n :=
 Zaq hA (LSpec.callL (show LSpec Tryd.prog 38 #[vp 0 0] [.cells [Value.string (Za L0), vi a1, vn, vn, vn, vn, Value.map (some 1)] 57, .ro (Zj L2) true] (vtt) [some (.cells [Value.string (Za w1), vi w2, vs 2 0 w3.length w3.length, vs 3 0 w4.length w4.length, vs 4 0 w5.length w5.length, vs 5 0 w6.length w6.length, Value.map (some 1)] 57), some (.ro (Zj w0) true), some (.cells (Zb E_iiii w3) 24 true), some (.cells (Zb eI w4) 3 true), some (.cells (Zb Zu w5) 122 true), some (.cells (Zb Zs w6) 9 true)] from ZeA L0 a1 L2 N _ h) [k0, k1] n [0, 1, 2, 3, 4, 5] rfl hnd hlt (show 2 ≤ 6 from by decide) (show ∀ j ∈ ([0, 1, 2, 3, 4, 5] : List Nat), j < 6 from by decide) (by rfl) ⟨rfl, ⟨rfl, trivial⟩⟩ (by rfl) ⟨rfl, ⟨rfl, ⟨(Zp _ _ _), ⟨(Zp _ _ _), ⟨(Zp _ _ _), ⟨(Zp _ _ _), trivial⟩⟩⟩⟩⟩⟩ ⟨.inl (by decide), ⟨.inl (by decide), ⟨(by decide), ⟨(by decide), ⟨(by decide), ⟨(by decide), trivial⟩⟩⟩⟩⟩⟩ rfl rfl rfl (Zd (Zk rfl rfl) (Zd (Zk rfl rfl) rfl)) (Zd (Zk rfl (ZaE rfl)) (Zd (Zk rfl (ZaE rfl)) (Zd (Zk rfl (ZaE (Z0 _ _ _))) (Zd (Zk rfl (ZaE (Z0 _ _ _))) (Zd (Zk rfl (ZaE (Z0 _ _ _))) (Zd (Zk rfl (ZaE (Z0 _ _ _))) rfl)))))))

noncomputable def Zmu (L0 : List Int) (a1 : Int) (L2 w0 : List R_si) (w1 : List Int) (w2 : Int) (w3 : List RA) (w4 : List Int) (w5 : List R_is) (w6 w7 : Nat) (w8 : List (List Int)) (k0 k1 n : Nat) : ZaG := .call [(k0, .cells [Value.string (Za L0), vi a1, vn, vn, vn, vn, Value.map (some k1)] 57), (k1, .ro (Zj L2) true)] (vtt) [(k0, some (.cells [Value.string (Za w1), vi w2, vs n 0 w3.length w3.length, vs (n + 1) 0 w4.length w4.length, vs (n + 2) (w6 * 2) w7 w7, vs (n + 3) 0 w8.length w8.length, Value.map (some k1)] 57)), (k1, some (.ro (Zj w0) true)), (n, some (.cells (Zb E_iiii w3) 24 true)), ((n + 1), some (.cells (Zb eI w4) 3 true)), ((n + 2), some (.cells (Zb Zu w5) 122 true)), ((n + 3), some (.cells (Zb Zs w8) 9 true))] 4
def Zib (A : Array Value) (L0 : List Int) (a1 : Int) (L2 w0 : List R_si) (w1 : List Int) (w2 : Int) (w3 : List RA) (w4 : List Int) (w5 : List R_is) (w6 w7 : Nat) (w8 : List (List Int)) (k0 k1 n : Nat) : Prop := ZB Tryd.prog 38 A [(k0, .cells [Value.string (Za L0), vi a1, vn, vn, vn, vn, Value.map (some k1)] 57), (k1, .ro (Zj L2) true)] (vtt) [(k0, some (.cells [Value.string (Za w1), vi w2, vs n 0 w3.length w3.length, vs (n + 1) 0 w4.length w4.length, vs (n + 2) (w6 * 2) w7 w7, vs (n + 3) 0 w8.length w8.length, Value.map (some k1)] 57)), (k1, some (.ro (Zj w0) true)), (n, some (.cells (Zb E_iiii w3) 24 true)), ((n + 1), some (.cells (Zb eI w4) 3 true)), ((n + 2), some (.cells (Zb Zu w5) 122 true)), ((n + 3), some (.cells (Zb Zs w8) 9 true))] n 4

theorem Zmv (A : Array Value) (L0 : List Int) (a1 : Int) (L2 w0 : List R_si) (w1 : List Int) (w2 : Int) (w3 : List RA) (w4 : List Int) (w5 : List R_is) (w6 w7 : Nat) (w8 : List (List Int)) (N : Nat) (h : ZcC L0 a1 L2 N = some (.r2 w0 w1 w2 w3 w4 w5 w6 w7 w8)) (k0 k1 n : Nat) (hA : A = #[vp k0 0]) (hnd : ([k0, k1] : List Nat).Nodup) (hlt : ∀ k ∈ ([k0, k1] : List Nat), k < n) : Zib A L0 a1 L2 w0 w1 w2 w3 w4 w5 w6 w7 w8 k0 k1 n :=
 Zaq hA (LSpec.callL (show LSpec Tryd.prog 38 #[vp 0 0] [.cells [Value.string (Za L0), vi a1, vn, vn, vn, vn, Value.map (some 1)] 57, .ro (Zj L2) true] (vtt) [some (.cells [Value.string (Za w1), vi w2, vs 2 0 w3.length w3.length, vs 3 0 w4.length w4.length, vs 4 (w6 * 2) w7 w7, vs 5 0 w8.length w8.length, Value.map (some 1)] 57), some (.ro (Zj w0) true), some (.cells (Zb E_iiii w3) 24 true), some (.cells (Zb eI w4) 3 true), some (.cells (Zb Zu w5) 122 true), some (.cells (Zb Zs w8) 9 true)] from ZeA L0 a1 L2 N _ h) [k0, k1] n [0, 1, 2, 3, 4, 5] rfl hnd hlt (show 2 ≤ 6 from by decide) (show ∀ j ∈ ([0, 1, 2, 3, 4, 5] : List Nat), j < 6 from by decide) (by rfl) ⟨rfl, ⟨rfl, trivial⟩⟩ (by rfl) ⟨rfl, ⟨rfl, ⟨(Zp _ _ _), ⟨(Zp _ _ _), ⟨(Zp _ _ _), ⟨(Zp _ _ _), trivial⟩⟩⟩⟩⟩⟩ ⟨.inl (by decide), ⟨.inl (by decide), ⟨(by decide), ⟨(by decide), ⟨(by decide), ⟨(by decide), trivial⟩⟩⟩⟩⟩⟩ rfl rfl rfl (Zd (Zk rfl rfl) (Zd (Zk rfl rfl) rfl)) (Zd (Zk rfl (ZaE rfl)) (Zd (Zk rfl (ZaE rfl)) (Zd (Zk rfl (ZaE (Z0 _ _ _))) (Zd (Zk rfl (ZaE (Z0 _ _ _))) (Zd (Zk rfl (ZaE (Z0 _ _ _))) (Zd (Zk rfl (ZaE (Z0 _ _ _))) rfl)))))))

noncomputable def ZmB (L0 : List Int) : asm_ParseR → Value
 | .r0 w0 w1 => Value.tuple #[vn, vi w0, vi w1]
 | .r1 w0 => Value.tuple #[vs 0 0 w0.length w0.length, vq, vq]
noncomputable def ZlB (L0 : List Int) : asm_ParseR → List (Option AObj)
 | .r0 w0 w1 => []
 | .r1 w0 => [some (.cells (Zb E_iiii w0) 24 true)]

noncomputable def Ztr (L0 : List Int) : asm_ParseR → Value
 | .r0 w0 w1 => Value.tuple #[vn, vi w0, vi w1]
 | .r1 w0 => Value.tuple #[ms E_iiii w0, vq, vq]
noncomputable def ZrM (L0 : List Int) : asm_ParseR → List (Option AObj)
 | .r0 w0 w1 => []
 | .r1 w0 => []

theorem ZqZ (L0 : List Int) (N : Nat) : Fx Tryd.prog ZJ Tryd.f9 [] #[Value.string (Za L0)] (ZmB L0) (ZlB L0) (Zdp L0 N) := by
 unfold Zdp
 refine Zat (fun g0 => ?_) (fun g0 => ?_)
 ·
  exact Zal (r := (.r0 ((0 : Int)) ((2 : Int)) : asm_ParseR)) (fu := 4000) (orc := (Zz [o1] [] [] [] [])) (live := []) (u := Value.tuple #[vn, vq, vi (2 : Int)]) (bl := []) (ob := [((decide ((((Za L0).size : Nat) : Int) > (262144 : Int))), true)]) (by kernel_rfl) (oY ZL) rfl (by decide) (by rfl) rr trivial
 ·
  refine ZjR (fun z1 c1 => ?_)
  cases z1 with
  | r0 y1_0 =>
   exact Zal (r := (.r0 (y1_0) ((130 : Int)) : asm_ParseR)) (fu := 4000) (orc := (Zz [o0] [] [] [] [(1, (Zmq (L0) ((0 : Int)) (([] : List R_si))  y1_0 3 2 4))])) (live := []) (u := Value.tuple #[vn, vi y1_0, vi (130 : Int)]) (bl := []) (ob := [(dP (ZhZ #[vp 3 0] (L0) ((0 : Int)) (([] : List R_si))  y1_0 3 2 4), true), (dS [Value.string (Za L0), vq, vn, vn, vn, vn, Value.map (some 2)], true), (dS (Zj ([] : List R_si)), true), ((decide ((((Za L0).size : Nat) : Int) > (262144 : Int))), false)]) (by kernel_rfl) (Zc (Zn (Zmr #[vp 3 0] (L0) ((0 : Int)) (([] : List R_si))  y1_0 N c1 3 2 4 rfl dcd dcd)) <| oR <| oR <| oN ZL) rfl (by decide) (by rfl) rr trivial
  | r1 y1_0 y1_1 y1_2 y1_3 y1_4 y1_5 y1_6 =>
   exact Zal (r := (.r1 (y1_3) : asm_ParseR)) (fu := 4000) (orc := (Zz [o0] [] [] [] [(1, (Zms (L0) ((0 : Int)) (([] : List R_si))  y1_0 y1_1 y1_2 y1_3 y1_4 y1_5 y1_6 3 2 4))])) (live := [4]) (u := Value.tuple #[vs 4 0 y1_3.length y1_3.length, vq, vq]) (bl := [some (.cells (Zb E_iiii y1_3) 24 true)]) (ob := [(dP (Zia #[vp 3 0] (L0) ((0 : Int)) (([] : List R_si))  y1_0 y1_1 y1_2 y1_3 y1_4 y1_5 y1_6 3 2 4), true), (dS [Value.string (Za L0), vq, vn, vn, vn, vn, Value.map (some 2)], true), (dS (Zj ([] : List R_si)), true), ((decide ((((Za L0).size : Nat) : Int) > (262144 : Int))), false)]) (by kernel_rfl) (Zc (Zn (Zmt #[vp 3 0] (L0) ((0 : Int)) (([] : List R_si))  y1_0 y1_1 y1_2 y1_3 y1_4 y1_5 y1_6 N c1 3 2 4 rfl dcd dcd)) <| oR <| oR <| oN ZL) rfl (by decide) (by rfl) rr ⟨(Zm (E := E_iiii) (α := RA) _ y1_3 _), trivial⟩
  | r2 y1_0 y1_1 y1_2 y1_3 y1_4 y1_5 y1_6 y1_7 y1_8 =>
   exact Zal (r := (.r1 (y1_3) : asm_ParseR)) (fu := 4000) (orc := (Zz [o0] [] [] [] [(1, (Zmu (L0) ((0 : Int)) (([] : List R_si))  y1_0 y1_1 y1_2 y1_3 y1_4 y1_5 y1_6 y1_7 y1_8 3 2 4))])) (live := [4]) (u := Value.tuple #[vs 4 0 y1_3.length y1_3.length, vq, vq]) (bl := [some (.cells (Zb E_iiii y1_3) 24 true)]) (ob := [(dP (Zib #[vp 3 0] (L0) ((0 : Int)) (([] : List R_si))  y1_0 y1_1 y1_2 y1_3 y1_4 y1_5 y1_6 y1_7 y1_8 3 2 4), true), (dS [Value.string (Za L0), vq, vn, vn, vn, vn, Value.map (some 2)], true), (dS (Zj ([] : List R_si)), true), ((decide ((((Za L0).size : Nat) : Int) > (262144 : Int))), false)]) (by kernel_rfl) (Zc (Zn (Zmv #[vp 3 0] (L0) ((0 : Int)) (([] : List R_si))  y1_0 y1_1 y1_2 y1_3 y1_4 y1_5 y1_6 y1_7 y1_8 N c1 3 2 4 rfl dcd dcd)) <| oR <| oR <| oN ZL) rfl (by decide) (by rfl) rr ⟨(Zm (E := E_iiii) (α := RA) _ y1_3 _), trivial⟩

theorem Zoc (L0 : List Int) (N : Nat) (r : asm_ParseR) (h : Zdp L0 N = some r) : LSpec Tryd.prog 9 #[Value.string (Za L0)] [] (ZmB L0 r) (ZlB L0 r) :=
 ZlY ZdC Tryd.func9 (by kernel_rfl) (by kernel_rfl) (fun r => by cases r <;> exact Zay _ rfl) (ZqZ L0 N) h

theorem Zkg (L0 : List Int) (N : Nat) (r : asm_ParseR) (h : Zdp L0 N = some r) : LSpec Tryd.prog 9 #[Value.string (Za L0)] [] (Ztr L0 r) (ZrM L0 r) := by
 have h0 := Zoc L0 N r h
 cases r with
 | r0 _ _ => exact h0
 | r1 w0 => exact LSpec.frqt (E := E_iiii) (L := w0) (post := []) h0 (show 0 ≤ 0 from by decide) (show 0 < 1000000000 from by decide) trivial (by decide) rfl rfl rfl

noncomputable def Zci (L0 : List Int) (w0 w1 : Int) (n : Nat) : ZaG := .call [] (Value.tuple #[vn, vi w0, vi w1]) [] 0
def ZmC (A : Array Value) (L0 : List Int) (w0 w1 : Int) (n : Nat) : Prop := ZB Tryd.prog 9 A [] (Value.tuple #[vn, vi w0, vi w1]) [] n 0

theorem ZrN (A : Array Value) (L0 : List Int) (w0 w1 : Int) (N : Nat) (h : Zdp L0 N = some (.r0 w0 w1)) (n : Nat) (hA : A = #[Value.string (Za L0)]) (hnd : ([] : List Nat).Nodup) (hlt : ∀ k ∈ ([] : List Nat), k < n) : ZmC A L0 w0 w1  n :=
 Zaq hA (LSpec.callL (show LSpec Tryd.prog 9 #[Value.string (Za L0)] [] (Value.tuple #[vn, vi w0, vi w1]) [] from Zkg L0 N _ h) [] n [] rfl hnd hlt (show 0 ≤ 0 from by decide) (show ∀ j ∈ ([] : List Nat), j < 0 from by decide) (by rfl) trivial (by rfl) trivial trivial rfl rfl rfl rfl rfl)

noncomputable def Zht (L0 : List Int) (w0 : List RA) (n : Nat) : ZaG := .call [] (Value.tuple #[ms E_iiii w0, vq, vq]) [] 0
def ZmD (A : Array Value) (L0 : List Int) (w0 : List RA) (n : Nat) : Prop := ZB Tryd.prog 9 A [] (Value.tuple #[ms E_iiii w0, vq, vq]) [] n 0

theorem ZrO (A : Array Value) (L0 : List Int) (w0 : List RA) (N : Nat) (h : Zdp L0 N = some (.r1 w0)) (n : Nat) (hA : A = #[Value.string (Za L0)]) (hnd : ([] : List Nat).Nodup) (hlt : ∀ k ∈ ([] : List Nat), k < n) : ZmD A L0 w0  n :=
 Zaq hA (LSpec.callL (show LSpec Tryd.prog 9 #[Value.string (Za L0)] [] (Value.tuple #[ms E_iiii w0, vq, vq]) [] from Zkg L0 N _ h) [] n [] rfl hnd hlt (show 0 ≤ 0 from by decide) (show ∀ j ∈ ([] : List Nat), j < 0 from by decide) (by rfl) trivial (by rfl) trivial trivial rfl rfl rfl rfl rfl)

end Ev
end Go.Proofs.YtlbbiflodemagaaDoor
/- Records, and the program's functions as plain ones. -/
namespace Go.Proofs.YtlbbiflodemagaaDoor
open Go.RowKit
namespace Ev
set_option linter.unusedVariables false
inductive asm_LineR where
 | r0 (w0 : List Int) (w1 : Int)

def ZeB (a0 : Int) (a1 : Int) (a2 : Int) (a3 : Int) (N : Nat) : Option asm_LineR :=
 ((ZG (a0) (a1) (a2) (a3) N).bind fun r => match r with
 | .r0 y0_0 =>
  if ¬ (y0_0 = 0) then
   some (.r0 (([] : List Int)) (y0_0) : asm_LineR)
  else
  if a0 < 0 then
   some (.r0 (([] : List Int)) ((0 : Int)) : asm_LineR)
  else
  if (21 : Int) ≤ a0 then
   some (.r0 (([] : List Int)) ((0 : Int)) : asm_LineR)
  else
  if a0 = 0 then
   some (.r0 (([] : List Int)) ((0 : Int)) : asm_LineR)
  else
  if a0 = 1 then
   if (-9223372036854775808 : Int) ≤ a1 then
    if a1 ≤ 9223372036854775807 then
     if (Ze a1).length ≤ 21 then
      if (-9223372036854775808 : Int) ≤ a2 then
       if a2 ≤ 9223372036854775807 then
        if (Ze a2).length ≤ 21 then
         some (.r0 (((((bl [99, 111, 110, 115, 116, 32]) ++ ((bl [114]) ++ (Ze a1))) ++ (bl [32])) ++ (Ze a2))) ((0 : Int)) : asm_LineR)
        else
        none
       else
       none
      else
      none
     else
     none
    else
    none
   else
   none
  else
  if a0 = 2 then
   if (-9223372036854775808 : Int) ≤ a1 then
    if a1 ≤ 9223372036854775807 then
     if (Ze a1).length ≤ 21 then
      some (.r0 (((bl [110, 105, 108, 32]) ++ ((bl [114]) ++ (Ze a1)))) ((0 : Int)) : asm_LineR)
     else
     none
    else
    none
   else
   none
  else
  if a0 = 3 then
   if (-9223372036854775808 : Int) ≤ a1 then
    if a1 ≤ 9223372036854775807 then
     if (Ze a1).length ≤ 21 then
      if (-9223372036854775808 : Int) ≤ a2 then
       if a2 ≤ 9223372036854775807 then
        if (Ze a2).length ≤ 21 then
         some (.r0 (((((bl [109, 111, 118, 101, 32]) ++ ((bl [114]) ++ (Ze a1))) ++ (bl [32])) ++ ((bl [114]) ++ (Ze a2)))) ((0 : Int)) : asm_LineR)
        else
        none
       else
       none
      else
      none
     else
     none
    else
    none
   else
   none
  else
  if a0 = 4 then
   if (-9223372036854775808 : Int) ≤ a1 then
    if a1 ≤ 9223372036854775807 then
     if (Ze a1).length ≤ 21 then
      if (-9223372036854775808 : Int) ≤ a2 then
       if a2 ≤ 9223372036854775807 then
        if (Ze a2).length ≤ 21 then
         if (-9223372036854775808 : Int) ≤ a3 then
          if a3 ≤ 9223372036854775807 then
           if (Ze a3).length ≤ 21 then
            some (.r0 (((((((bl [97, 100, 100, 32]) ++ ((bl [114]) ++ (Ze a1))) ++ (bl [32])) ++ ((bl [114]) ++ (Ze a2))) ++ (bl [32])) ++ ((bl [114]) ++ (Ze a3)))) ((0 : Int)) : asm_LineR)
           else
           none
          else
          none
         else
         none
        else
        none
       else
       none
      else
      none
     else
     none
    else
    none
   else
   none
  else
  if a0 = 5 then
   if (-9223372036854775808 : Int) ≤ a1 then
    if a1 ≤ 9223372036854775807 then
     if (Ze a1).length ≤ 21 then
      if (-9223372036854775808 : Int) ≤ a2 then
       if a2 ≤ 9223372036854775807 then
        if (Ze a2).length ≤ 21 then
         if (-9223372036854775808 : Int) ≤ a3 then
          if a3 ≤ 9223372036854775807 then
           if (Ze a3).length ≤ 21 then
            some (.r0 (((((((bl [115, 117, 98, 32]) ++ ((bl [114]) ++ (Ze a1))) ++ (bl [32])) ++ ((bl [114]) ++ (Ze a2))) ++ (bl [32])) ++ ((bl [114]) ++ (Ze a3)))) ((0 : Int)) : asm_LineR)
           else
           none
          else
          none
         else
         none
        else
        none
       else
       none
      else
      none
     else
     none
    else
    none
   else
   none
  else
  if a0 = 6 then
   if (-9223372036854775808 : Int) ≤ a1 then
    if a1 ≤ 9223372036854775807 then
     if (Ze a1).length ≤ 21 then
      if (-9223372036854775808 : Int) ≤ a2 then
       if a2 ≤ 9223372036854775807 then
        if (Ze a2).length ≤ 21 then
         if (-9223372036854775808 : Int) ≤ a3 then
          if a3 ≤ 9223372036854775807 then
           if (Ze a3).length ≤ 21 then
            some (.r0 (((((((bl [108, 101, 115, 115, 32]) ++ ((bl [114]) ++ (Ze a1))) ++ (bl [32])) ++ ((bl [114]) ++ (Ze a2))) ++ (bl [32])) ++ ((bl [114]) ++ (Ze a3)))) ((0 : Int)) : asm_LineR)
           else
           none
          else
          none
         else
         none
        else
        none
       else
       none
      else
      none
     else
     none
    else
    none
   else
   none
  else
  if a0 = 7 then
   if (-9223372036854775808 : Int) ≤ a1 then
    if a1 ≤ 9223372036854775807 then
     if (Ze a1).length ≤ 21 then
      if (-9223372036854775808 : Int) ≤ a2 then
       if a2 ≤ 9223372036854775807 then
        if (Ze a2).length ≤ 21 then
         if (-9223372036854775808 : Int) ≤ a3 then
          if a3 ≤ 9223372036854775807 then
           if (Ze a3).length ≤ 21 then
            some (.r0 (((((((bl [101, 113, 32]) ++ ((bl [114]) ++ (Ze a1))) ++ (bl [32])) ++ ((bl [114]) ++ (Ze a2))) ++ (bl [32])) ++ ((bl [114]) ++ (Ze a3)))) ((0 : Int)) : asm_LineR)
           else
           none
          else
          none
         else
         none
        else
        none
       else
       none
      else
      none
     else
     none
    else
    none
   else
   none
  else
  if a0 = 8 then
   if (-9223372036854775808 : Int) ≤ a1 then
    if a1 ≤ 9223372036854775807 then
     if (Ze a1).length ≤ 21 then
      some (.r0 (((bl [106, 117, 109, 112, 32]) ++ ((bl [64]) ++ ((bl [76]) ++ (Ze a1))))) ((0 : Int)) : asm_LineR)
     else
     none
    else
    none
   else
   none
  else
  if a0 = 9 then
   if (-9223372036854775808 : Int) ≤ a1 then
    if a1 ≤ 9223372036854775807 then
     if (Ze a1).length ≤ 21 then
      if (-9223372036854775808 : Int) ≤ a2 then
       if a2 ≤ 9223372036854775807 then
        if (Ze a2).length ≤ 21 then
         some (.r0 (((((bl [106, 117, 109, 112, 122, 32]) ++ ((bl [114]) ++ (Ze a1))) ++ (bl [32])) ++ ((bl [64]) ++ ((bl [76]) ++ (Ze a2))))) ((0 : Int)) : asm_LineR)
        else
        none
       else
       none
      else
      none
     else
     none
    else
    none
   else
   none
  else
  if a0 = 10 then
   if (-9223372036854775808 : Int) ≤ a1 then
    if a1 ≤ 9223372036854775807 then
     if (Ze a1).length ≤ 21 then
      some (.r0 (((bl [114, 111, 111, 116, 32]) ++ ((bl [114]) ++ (Ze a1)))) ((0 : Int)) : asm_LineR)
     else
     none
    else
    none
   else
   none
  else
  if a0 = 11 then
   if (-9223372036854775808 : Int) ≤ a1 then
    if a1 ≤ 9223372036854775807 then
     if (Ze a1).length ≤ 21 then
      if (-9223372036854775808 : Int) ≤ a2 then
       if a2 ≤ 9223372036854775807 then
        if (Ze a2).length ≤ 21 then
         if (-9223372036854775808 : Int) ≤ a3 then
          if a3 ≤ 9223372036854775807 then
           if (Ze a3).length ≤ 21 then
            some (.r0 (((((((bl [110, 101, 119, 32]) ++ ((bl [114]) ++ (Ze a1))) ++ (bl [32])) ++ (Ze a2)) ++ (bl [32])) ++ (Ze a3))) ((0 : Int)) : asm_LineR)
           else
           none
          else
          none
         else
         none
        else
        none
       else
       none
      else
      none
     else
     none
    else
    none
   else
   none
  else
  if a0 = 12 then
   if (-9223372036854775808 : Int) ≤ a1 then
    if a1 ≤ 9223372036854775807 then
     if (Ze a1).length ≤ 21 then
      some (.r0 (((bl [102, 114, 101, 101, 32]) ++ ((bl [114]) ++ (Ze a1)))) ((0 : Int)) : asm_LineR)
     else
     none
    else
    none
   else
   none
  else
  if a0 = 13 then
   if (-9223372036854775808 : Int) ≤ a1 then
    if a1 ≤ 9223372036854775807 then
     if (Ze a1).length ≤ 21 then
      if (-9223372036854775808 : Int) ≤ a2 then
       if a2 ≤ 9223372036854775807 then
        if (Ze a2).length ≤ 21 then
         if (-9223372036854775808 : Int) ≤ a3 then
          if a3 ≤ 9223372036854775807 then
           if (Ze a3).length ≤ 21 then
            some (.r0 (((((((bl [103, 101, 116, 32]) ++ ((bl [114]) ++ (Ze a1))) ++ (bl [32])) ++ ((bl [114]) ++ (Ze a2))) ++ (bl [32])) ++ (Ze a3))) ((0 : Int)) : asm_LineR)
           else
           none
          else
          none
         else
         none
        else
        none
       else
       none
      else
      none
     else
     none
    else
    none
   else
   none
  else
  if a0 = 14 then
   if (-9223372036854775808 : Int) ≤ a1 then
    if a1 ≤ 9223372036854775807 then
     if (Ze a1).length ≤ 21 then
      if (-9223372036854775808 : Int) ≤ a2 then
       if a2 ≤ 9223372036854775807 then
        if (Ze a2).length ≤ 21 then
         if (-9223372036854775808 : Int) ≤ a3 then
          if a3 ≤ 9223372036854775807 then
           if (Ze a3).length ≤ 21 then
            some (.r0 (((((((bl [115, 101, 116, 32]) ++ ((bl [114]) ++ (Ze a1))) ++ (bl [32])) ++ (Ze a2)) ++ (bl [32])) ++ ((bl [114]) ++ (Ze a3)))) ((0 : Int)) : asm_LineR)
           else
           none
          else
          none
         else
         none
        else
        none
       else
       none
      else
      none
     else
     none
    else
    none
   else
   none
  else
  if a0 = 15 then
   some (.r0 ((bl [98, 101, 103, 105, 110])) ((0 : Int)) : asm_LineR)
  else
  if a0 = 16 then
   some (.r0 ((bl [101, 108, 115, 101])) ((0 : Int)) : asm_LineR)
  else
  if a0 = 17 then
   some (.r0 ((bl [101, 110, 100])) ((0 : Int)) : asm_LineR)
  else
  if a0 = 18 then
   some (.r0 ((bl [114, 101, 116, 114, 121])) ((0 : Int)) : asm_LineR)
  else
  if a0 = 19 then
   if (-9223372036854775808 : Int) ≤ a1 then
    if a1 ≤ 9223372036854775807 then
     if (Ze a1).length ≤ 21 then
      some (.r0 (((bl [101, 109, 105, 116, 32]) ++ ((bl [114]) ++ (Ze a1)))) ((0 : Int)) : asm_LineR)
     else
     none
    else
    none
   else
   none
  else
  some (.r0 ((bl [104, 97, 108, 116])) ((0 : Int)) : asm_LineR)
 )

inductive Zbu where
 | r0 (w1 : Bool)

inductive Zbi where
 | h1m0

def ZgR (L0 : List RA) (N : Nat) : Option (Zbi ⊕ Zbu) :=
 some (.inr (.r0 (true) : Zbu))

def ZfI (L0 : List RA) (N : Nat) : Zbi → Option (Zbi ⊕ Zbu)
 | .h1m0 => ZgR L0 N

def ZiT (L0 : List RA) (N : Nat) : Option (Zbi ⊕ Zbu) :=
 if ¬ (0 = (L0.length : Int)) then
  some (.inr (.r0 (false) : Zbu))
 else
 some (.inl (.h1m0 : Zbi))

def ZkD (L0 : List RA) (N : Nat) : Option Zbu := goM (ZfI L0 N) N (ZiT L0 N)

inductive ZaF where
 | r0 (w1 : Bool)

inductive ref11_Same_2X where
 | h1m0 (v2 : Nat)

def Zbz (L0 : List RA) (L1 : List RA) (N : Nat) (v2 : Nat) : Option (ref11_Same_2X ⊕ ZaF) :=
 if (v2 : Int) < (L0.length : Int) then
  if v2 < L1.length then
   if ¬ (((L0.getD v2 RA.z).a0 = (L1.getD v2 RA.z).a0 ∧ (L0.getD v2 RA.z).a1 = (L1.getD v2 RA.z).a1 ∧ (L0.getD v2 RA.z).a2 = (L1.getD v2 RA.z).a2 ∧ (L0.getD v2 RA.z).a3 = (L1.getD v2 RA.z).a3)) then
    some (.inr (.r0 (false) : ZaF))
   else
   if (((v2 + 1) : Nat) : Int) ≤ 9223372036854775807 then
    some (.inl (.h1m0 ((v2 + 1)) : ref11_Same_2X))
   else
   none
  else
  none
 else
 some (.inr (.r0 (true) : ZaF))

def ZeC (L0 : List RA) (L1 : List RA) (N : Nat) : ref11_Same_2X → Option (ref11_Same_2X ⊕ ZaF)
 | .h1m0 v2 => Zbz L0 L1 N v2

def Zeo (L0 : List RA) (L1 : List RA) (N : Nat) : Option (ref11_Same_2X ⊕ ZaF) :=
 if ¬ ((L0.length : Int) = (L1.length : Int)) then
  some (.inr (.r0 (false) : ZaF))
 else
 some (.inl (.h1m0 (0) : ref11_Same_2X))

def Zf9 (L0 : List RA) (L1 : List RA) (N : Nat) : Option ZaF := goM (ZeC L0 L1 N) N (Zeo L0 L1 N)

inductive Z2 where
 | r0 (w0 : Bool)

def Zdy (a0 : Int) (a1 : Int) (a2 : Int) (a3 : Int) (N : Nat) : Option Z2 :=
 ((ZeB (a0) (a1) (a2) (a3) N).bind fun r => match r with
 | .r0 y0_0 y0_1 =>
  if ¬ (y0_1 = 0) then
   if (ZaM y0_0 ([] : List Int)) = true then
    some (.r0 (true) : Z2)
   else
   some (.r0 (false) : Z2)
  else
  if (y0_0.length + 1) ≤ 1000000 then
   ((Zdp ((y0_0 ++ (bl [10]))) N).bind fun r => match r with
   | .r0 y3_0 y3_1 =>
    if a0 = 8 then
     if y3_1 = 130 then
      if y3_0 = 1 then
       some (.r0 (true) : Z2)
      else
      some (.r0 (false) : Z2)
     else
     some (.r0 (false) : Z2)
    else
    if a0 = 9 then
     if y3_1 = 130 then
      if y3_0 = 1 then
       some (.r0 (true) : Z2)
      else
      some (.r0 (false) : Z2)
     else
     some (.r0 (false) : Z2)
    else
    if y3_1 = 0 then
     if y3_0 = 0 then
      ((ZkD (([(⟨a0, a1, a2, a3⟩ : RA)] : List RA)) N).bind fun r => match r with
      | .r0 y8_0 =>
       if y8_0 = true then
        some (.r0 (true) : Z2)
       else
       some (.r0 (false) : Z2)
      )
     else
     some (.r0 (false) : Z2)
    else
    some (.r0 (false) : Z2)
   | .r1 y3_0 =>
    if a0 = 8 then
     some (.r0 (false) : Z2)
    else
    if a0 = 9 then
     some (.r0 (false) : Z2)
    else
    ((Zf9 (y3_0) (([(⟨a0, a1, a2, a3⟩ : RA)] : List RA)) N).bind fun r => match r with
    | .r0 y6_0 =>
     if y6_0 = true then
      some (.r0 (true) : Z2)
     else
     some (.r0 (false) : Z2)
    )
   )
  else
  none
 )
end Ev
end Go.Proofs.YtlbbiflodemagaaDoor
/- How records are written, and which functions are told. -/
namespace Go.Proofs.YtlbbiflodemagaaDoor
open Go.RowKit
namespace Ev
set_option linter.unusedVariables false
def Zra : FuncId → Option (List Value → Option Value) := fun f =>
 bif Nat.beq f 8 then some (fun l => match l with | [] => some (.bool true) | _ => none) else
 none
theorem Zts (w : World) (ht : TabW w) : Calls Tryd.prog 8 #[] w (Ret (.bool true) w) := Zsr w ht
theorem Zwm : ZnJ Zra := fun f g h => by
 unfold Zra at h
 cases hb : Nat.beq f 8 with
 | true =>
  rw [hb] at h
  obtain rfl := Nat.eq_of_beq_eq_true hb
  simp only [cond_true, Option.some.injEq] at h
  subst h
  refine ⟨⟨_, _, Tryd.func8, rfl⟩, fun args v ha hv w ht => ?_⟩
  obtain ⟨l⟩ := args
  cases l with
  | nil =>
   change some (Value.bool true) = some v at hv
   injection hv with hv
   subst hv
   exact Zts w ht
  | cons x l => change (none : Option Value) = some v at hv; cases hv
 | false =>
  rw [hb] at h
  simp only [cond_false] at h
  cases h
def Zuw : FuncId → Bool := fun f => Nat.beq f 52 || Nat.beq f 51 || Nat.beq f 50 || Nat.beq f 62 || Nat.beq f 38 || Nat.beq f 7 || Nat.beq f 9 || Nat.beq f 59 || Nat.beq f 16 || Nat.beq f 3 || Nat.beq f 10 || Nat.beq f 61 || Nat.beq f 14
noncomputable def Zrb : FuncId → Option Ext := Zlz (ZqA Zra) Zuw
theorem Zvp : Fit Tryd.prog Zrb := ZqB (Zti Zwm) (fun f h => by
 simp only [Zuw, Bool.or_eq_true] at h
 simp only [Nat.beq_eq] at h
 rcases h with (((((((((((rfl | rfl) | rfl) | rfl) | rfl) | rfl) | rfl) | rfl) | rfl) | rfl) | rfl) | rfl) | rfl
 ·exact ⟨_, _, Tryd.func52, rfl⟩
 ·exact ⟨_, _, Tryd.func51, rfl⟩
 ·exact ⟨_, _, Tryd.func50, rfl⟩
 ·exact ⟨_, _, Tryd.func62, rfl⟩
 ·exact ⟨_, _, Tryd.func38, rfl⟩
 ·exact ⟨_, _, Tryd.func7, rfl⟩
 ·exact ⟨_, _, Tryd.func9, rfl⟩
 ·exact ⟨_, _, Tryd.func59, rfl⟩
 ·exact ⟨_, _, Tryd.func16, rfl⟩
 ·exact ⟨_, _, Tryd.func3, rfl⟩
 ·exact ⟨_, _, Tryd.func10, rfl⟩
 ·exact ⟨_, _, Tryd.func61, rfl⟩
 ·exact ⟨_, _, Tryd.func14, rfl⟩
 )
noncomputable def Zrc : FuncId → Option Ext := Zlz Zth (fun f => Nat.beq f 38)
theorem Zvq : Fit Tryd.prog Zrc := ZqB Zvd (fun f h => by
 simp only [Nat.beq_eq] at h
 subst h
 exact ⟨_, _, Tryd.func38, rfl⟩)
noncomputable def Zep : FuncId → Option Ext := fun x => bif Nat.beq x 30 then some (.hp (Ziq Tryd.prog Zrc 20000 30)) else Zrb x
theorem Zmd : Fit Tryd.prog Zep := Zsq Zvp (Zkx Zvq Tryd.func30 rfl)
end Ev
end Go.Proofs.YtlbbiflodemagaaDoor
/- Calls do what the plain functions say. -/
namespace Go.Proofs.YtlbbiflodemagaaDoor
open Go.RowKit
namespace Ev
set_option linter.unusedVariables false
set_option maxRecDepth 100000
noncomputable def Zjq (a0 a1 a2 a3 : Int) : asm_LineR → Value
 | .r0 w0 w1 => Value.tuple #[Value.string (Za w0), vi w1]
noncomputable def Zil (a0 a1 a2 a3 : Int) : asm_LineR → List (Option AObj)
 | .r0 w0 w1 => []

noncomputable def Zc7 : FuncId → Option Ext := fun f => bif Nat.beq f 16 then none else Zep f
theorem Zrd : Fit Tryd.prog Zc7 := Zhl Zmd _

abbrev ZfA (a0 a1 a2 a3 : Int) (r : asm_LineR) : Prop := Gx Tryd.prog 7 [] #[Value.agg #[vi a0, vi a1, vi a2, vi a3]] (Zjq a0 a1 a2 a3) (Zil a0 a1 a2 a3) (some r)
theorem Za7 {a0 : Int} {a1 : Int} {a2 : Int} {a3 : Int} {r : asm_LineR} {orc : Orc} {u : Value} {ob : List (Bool × Bool)} (hev : Zax [] (Za0 Tryd.prog Zc7 7 [] #[Value.agg #[vi a0, vi a1, vi a2, vi a3]] 4000 orc) = some (u, [], ob)) (ho : ∀ p ∈ ob, p.1 = p.2) (hv : Zjq a0 a1 a2 a3 r = Za6 (rho [] far) 3 u ∧ Zas 3 u = true) (hp : Zil a0 a1 a2 a3 r = [] := by rfl) : ZfA a0 a1 a2 a3 r :=
 Zcl Zrd (live := []) (bl := []) hev ho (by rw [hp]; rfl) (by decide) (by rfl) hv (by rw [hp]; trivial) (by rw [hp]; exact Zay _ rfl)

noncomputable def Zhu (a0 a1 a2 a3 y0_0 : Int) : List (Bool × Bool) := (dP (ZaV #[Value.agg #[vi a0, vi a1, vi a2, vi a3]] (a0) (a1) (a2) (a3)  y0_0  1), true) :: []

theorem ZkE {a0 : Int} {a1 : Int} {a2 : Int} {a3 : Int} (orc : Orc) (ob : List (Bool × Bool)) (ho : ∀ p ∈ ob, p.1 = p.2) (hev : Zax [] (Za0 Tryd.prog Zc7 7 [] #[Value.agg #[vi a0, vi a1, vi a2, vi a3]] 4000 orc) = some (Value.tuple #[Value.string ⟨#[]⟩, vq], [], ob) := by as_aux_lemma => kernel_rfl) : ZfA a0 a1 a2 a3 (.r0 (([] : List Int)) (0) : asm_LineR) := Za7 hev ho ⟨Eq.trans (show (Value.tuple #[Value.string (Za ([] : List Int)), vq] : Value) = Value.tuple #[Value.string ⟨#[]⟩, vq] from (ZaL (Zd rfl (Zd rfl rfl)))) (by rfl), by rfl⟩

noncomputable def Zan (a0 a1 a2 a3 y0_0 : Int) : List (Bool × Bool) := ((decide (a0 < (0 : Int))), false) :: ((y0_0 != (0 : Int)), false) :: Zhu a0 a1 a2 a3 y0_0

theorem Ztt {a0 : Int} {a1 : Int} {a2 : Int} {a3 : Int} (orc : Orc) (ob : List (Bool × Bool)) (ho : ∀ p ∈ ob, p.1 = p.2) (hev : Zax [] (Za0 Tryd.prog Zc7 7 [] #[Value.agg #[vi a0, vi a1, vi a2, vi a3]] 4000 orc) = some (Value.tuple #[Value.string ⟨#[98, 101, 103, 105, 110]⟩, vq], [], ob) := by as_aux_lemma => kernel_rfl) : ZfA a0 a1 a2 a3 (.r0 ((bl [98, 101, 103, 105, 110])) (0) : asm_LineR) := Za7 hev ho ⟨Eq.trans (show (Value.tuple #[Value.string (Za (bl [98, 101, 103, 105, 110])), vq] : Value) = Value.tuple #[Value.string ⟨#[98, 101, 103, 105, 110]⟩, vq] from (ZaL (Zd rfl (Zd rfl rfl)))) (by rfl), by rfl⟩

theorem Ztu {a0 : Int} {a1 : Int} {a2 : Int} {a3 : Int} (orc : Orc) (ob : List (Bool × Bool)) (ho : ∀ p ∈ ob, p.1 = p.2) (hev : Zax [] (Za0 Tryd.prog Zc7 7 [] #[Value.agg #[vi a0, vi a1, vi a2, vi a3]] 4000 orc) = some (Value.tuple #[Value.string ⟨#[101, 108, 115, 101]⟩, vq], [], ob) := by as_aux_lemma => kernel_rfl) : ZfA a0 a1 a2 a3 (.r0 ((bl [101, 108, 115, 101])) (0) : asm_LineR) := Za7 hev ho ⟨Eq.trans (show (Value.tuple #[Value.string (Za (bl [101, 108, 115, 101])), vq] : Value) = Value.tuple #[Value.string ⟨#[101, 108, 115, 101]⟩, vq] from (ZaL (Zd rfl (Zd rfl rfl)))) (by rfl), by rfl⟩

theorem Ztv {a0 : Int} {a1 : Int} {a2 : Int} {a3 : Int} (orc : Orc) (ob : List (Bool × Bool)) (ho : ∀ p ∈ ob, p.1 = p.2) (hev : Zax [] (Za0 Tryd.prog Zc7 7 [] #[Value.agg #[vi a0, vi a1, vi a2, vi a3]] 4000 orc) = some (Value.tuple #[Value.string ⟨#[101, 110, 100]⟩, vq], [], ob) := by as_aux_lemma => kernel_rfl) : ZfA a0 a1 a2 a3 (.r0 ((bl [101, 110, 100])) (0) : asm_LineR) := Za7 hev ho ⟨Eq.trans (show (Value.tuple #[Value.string (Za (bl [101, 110, 100])), vq] : Value) = Value.tuple #[Value.string ⟨#[101, 110, 100]⟩, vq] from (ZaL (Zd rfl (Zd rfl rfl)))) (by rfl), by rfl⟩

theorem Ztw {a0 : Int} {a1 : Int} {a2 : Int} {a3 : Int} (orc : Orc) (ob : List (Bool × Bool)) (ho : ∀ p ∈ ob, p.1 = p.2) (hev : Zax [] (Za0 Tryd.prog Zc7 7 [] #[Value.agg #[vi a0, vi a1, vi a2, vi a3]] 4000 orc) = some (Value.tuple #[Value.string ⟨#[114, 101, 116, 114, 121]⟩, vq], [], ob) := by as_aux_lemma => kernel_rfl) : ZfA a0 a1 a2 a3 (.r0 ((bl [114, 101, 116, 114, 121])) (0) : asm_LineR) := Za7 hev ho ⟨Eq.trans (show (Value.tuple #[Value.string (Za (bl [114, 101, 116, 114, 121])), vq] : Value) = Value.tuple #[Value.string ⟨#[114, 101, 116, 114, 121]⟩, vq] from (ZaL (Zd rfl (Zd rfl rfl)))) (by rfl), by rfl⟩

theorem Ztx {a0 : Int} {a1 : Int} {a2 : Int} {a3 : Int} (orc : Orc) (ob : List (Bool × Bool)) (ho : ∀ p ∈ ob, p.1 = p.2) (hev : Zax [] (Za0 Tryd.prog Zc7 7 [] #[Value.agg #[vi a0, vi a1, vi a2, vi a3]] 4000 orc) = some (Value.tuple #[Value.string ⟨#[104, 97, 108, 116]⟩, vq], [], ob) := by as_aux_lemma => kernel_rfl) : ZfA a0 a1 a2 a3 (.r0 ((bl [104, 97, 108, 116])) (0) : asm_LineR) := Za7 hev ho ⟨Eq.trans (show (Value.tuple #[Value.string (Za (bl [104, 97, 108, 116])), vq] : Value) = Value.tuple #[Value.string ⟨#[104, 97, 108, 116]⟩, vq] from (ZaL (Zd rfl (Zd rfl rfl)))) (by rfl), by rfl⟩

set_option maxHeartbeats 4000000 in
theorem ZrP (a0 a1 a2 a3 : Int) (N : Nat) : Gx Tryd.prog 7 [] #[Value.agg #[vi a0, vi a1, vi a2, vi a3]] (Zjq a0 a1 a2 a3) (Zil a0 a1 a2 a3) (ZeB a0 a1 a2 a3 N) := by
 unfold ZeB
 refine ZaO (fun z0 c0 => ?_)
 cases z0 with
 | r0 y0_0 =>
  have w1 : OkL (Zhu a0 a1 a2 a3 y0_0) :=
   Zc (Zn (Zbe #[Value.agg #[vi a0, vi a1, vi a2, vi a3]] (a0) (a1) (a2) (a3)  y0_0 N c0  1 rfl dcd dcd)) <| ZL
  refine Zf (fun g1 => ?_) (fun g1 => ?_)
  ·
   exact Za7 (orc := (Zz [o1] [] [] [] [(0, (Z1 (a0) (a1) (a2) (a3)  y0_0  1))])) (u := Value.tuple #[Value.string ⟨#[]⟩, vi y0_0]) (ob := (((y0_0 != (0 : Int)), true) :: Zhu a0 a1 a2 a3 y0_0)) (by as_aux_lemma => kernel_rfl) (oD <| w1) ⟨Eq.trans (show (Value.tuple #[Value.string (Za ([] : List Int)), vi y0_0] : Value) = Value.tuple #[Value.string ⟨#[]⟩, vi y0_0] from (ZaL (Zd rfl (Zd rfl rfl)))) (by rfl), by rfl⟩
  ·
   refine Zf (fun g2 => ?_) (fun g2 => ?_)
   ·
    exact ZkE (Zz [o0, o1, o0, o0, o0, o0, o0, o0, o1] [] [] [] [(0, (Z1 (a0) (a1) (a2) (a3)  y0_0  1))]) (((decide (a0 < (0 : Int))), true) :: ((a0 == (14 : Int)), false) :: ((a0 == (13 : Int)), false) :: ((a0 == (11 : Int)), false) :: ((a0 == (9 : Int)), false) :: ((a0 == (8 : Int)), false) :: ((a0 == (1 : Int)), false) :: ((decide (a0 < (0 : Int))), true) :: ((y0_0 != (0 : Int)), false) :: Zhu a0 a1 a2 a3 y0_0) (oY <| oF <| oF <| oF <| oF <| oF <| oF <| oY <| oE <| w1)
   ·
    have w3 : OkL (Zan a0 a1 a2 a3 y0_0) :=
     oN <| oE <| w1
    refine Zf (fun g3 => ?_) (fun g3 => ?_)
    ·
     exact ZkE (Zz [o0, o0, o1, o0, o0, o0, o0, o0, o0, o0, o1] [] [] [] [(0, (Z1 (a0) (a1) (a2) (a3)  y0_0  1))]) (((decide (a0 ≥ (21 : Int))), true) :: ((decide (a0 < (0 : Int))), false) :: ((a0 == (14 : Int)), false) :: ((a0 == (13 : Int)), false) :: ((a0 == (11 : Int)), false) :: ((a0 == (9 : Int)), false) :: ((a0 == (8 : Int)), false) :: ((a0 == (1 : Int)), false) :: ((decide (a0 ≥ (21 : Int))), true) :: Zan a0 a1 a2 a3 y0_0) (oY <| oN <| oF <| oF <| oF <| oF <| oF <| oF <| oY <| w3)
    ·
     refine Zf (fun g4 => ?_) (fun g4 => ?_)
     ·
      exact ZkE (Zz [o0, o0, o0, o0, o0, o0, o0, o0, o0, o0, o0] [] [(0, 0), (1, 0)] [] [(0, (Z1 (a0) (a1) (a2) (a3)  y0_0  1))]) ((Nat.blt 0 21, true) :: (a0 == Int.ofNat 0, true) :: ((decide (a0 ≥ (21 : Int))), false) :: ((decide (a0 < (0 : Int))), false) :: ((a0 == (14 : Int)), false) :: ((a0 == (13 : Int)), false) :: ((a0 == (11 : Int)), false) :: ((a0 == (9 : Int)), false) :: ((a0 == (8 : Int)), false) :: ((a0 == (1 : Int)), false) :: (Nat.blt 0 21, true) :: (a0 == Int.ofNat 0, true) :: ((decide (a0 ≥ (21 : Int))), false) :: Zan a0 a1 a2 a3 y0_0) (oB <| oK <| oN <| oN <| oF <| oF <| oF <| oF <| oF <| oF <| oB <| oK <| oN <| w3)
     ·
      refine Zf (fun g5 => ?_) (fun g5 => ?_)
      ·
       refine Zf (fun g6 => ?_) (fun _ => Zt)
       refine Zf (fun g7 => ?_) (fun _ => Zt)
       refine Zf (fun g8 => ?_) (fun _ => Zt)
       refine Zf (fun g9 => ?_) (fun _ => Zt)
       refine Zf (fun g10 => ?_) (fun _ => Zt)
       refine Zf (fun g11 => ?_) (fun _ => Zt)
       exact Za7 (orc := (Zr [(0, false), (1, false), (2, false), (3, true), (5, true), (9, true), (10, true)] [] [(0, 1)] [] [(0, (Z1 (a0) (a1) (a2) (a3)  y0_0  1))])) (u := Value.tuple #[Value.string (((Za (bl [99, 111, 110, 115, 116])) ++ (Za (bl [32])) ++ ((Za (bl [114])) ++ (Za (Ze a1)))) ++ (Za (bl [32])) ++ (Za (Ze a2))), vq]) (ob := (((Nat.ble ((((Za (bl [99, 111, 110, 115, 116])) ++ (Za (bl [32])) ++ ((Za (bl [114])) ++ (Za (Ze a1)))) ++ (Za (bl [32])) ++ (Za (Ze a2)))).size 140737488355328), true) :: ((decide ((-9223372036854775808 : Int) ≤ a2) && decide (a2 ≤ (9223372036854775807 : Int))), true) :: (dP (((((Za (bl [114]))).size + ((Za (Ze a1))).size : Nat) : Int) ≤ IntKind.i64.max), true) :: ((decide ((-9223372036854775808 : Int) ≤ a1) && decide (a1 ≤ (9223372036854775807 : Int))), true) :: ((a0 == (1 : Int)), true) :: (Nat.blt 1 21, true) :: (a0 == Int.ofNat 1, true) :: ((decide (a0 ≥ (21 : Int))), false) :: Zan a0 a1 a2 a3 y0_0)) (by as_aux_lemma => kernel_rfl) (Zc (ZbT (M := ((((bl [99, 111, 110, 115, 116, 32]) ++ ((bl [114]) ++ (Ze a1))) ++ (bl [32])) ++ (Ze a2))) sE ltA) <| Zc (Zau (by omega) (by omega)) <| Zc (Zn (Zai (x := (bl [114])) (y := (Ze a1)) rfl rfl ltA)) <| Zc (Zau (by omega) (by omega)) <| oT <| oB <| oK <| oN <| w3) ⟨Eq.trans (show (Value.tuple #[Value.string (Za ((((bl [99, 111, 110, 115, 116, 32]) ++ ((bl [114]) ++ (Ze a1))) ++ (bl [32])) ++ (Ze a2))), vq] : Value) = Value.tuple #[Value.string (((Za (bl [99, 111, 110, 115, 116])) ++ (Za (bl [32])) ++ ((Za (bl [114])) ++ (Za (Ze a1)))) ++ (Za (bl [32])) ++ (Za (Ze a2))), vq] from (ZaL (Zd (congrArg Value.string sE) (Zd rfl rfl)))) (by rfl), by rfl⟩
      ·
       refine Zf (fun g6 => ?_) (fun g6 => ?_)
       ·
        refine Zf (fun g7 => ?_) (fun _ => Zt)
        refine Zf (fun g8 => ?_) (fun _ => Zt)
        refine Zf (fun g9 => ?_) (fun _ => Zt)
        exact Za7 (orc := (Zr [(0, false), (1, false), (2, false), (3, false), (4, false), (5, false), (6, false), (7, false), (8, false), (9, false), (10, false), (16, true), (17, true)] [] [(0, 2), (1, 2)] [] [(0, (Z1 (a0) (a1) (a2) (a3)  y0_0  1))])) (u := Value.tuple #[Value.string ((Za (bl [110, 105, 108])) ++ (Za (bl [32])) ++ ((Za (bl [114])) ++ (Za (Ze a1)))), vq]) (ob := (((Nat.ble (((Za (bl [110, 105, 108])) ++ (Za (bl [32])) ++ ((Za (bl [114])) ++ (Za (Ze a1))))).size 140737488355328), true) :: (dP (((((Za (bl [114]))).size + ((Za (Ze a1))).size : Nat) : Int) ≤ IntKind.i64.max), true) :: ((decide ((-9223372036854775808 : Int) ≤ a1) && decide (a1 ≤ (9223372036854775807 : Int))), true) :: (Nat.blt 2 21, true) :: (a0 == Int.ofNat 2, true) :: ((decide (a0 ≥ (21 : Int))), false) :: ((decide (a0 < (0 : Int))), false) :: ((a0 == (14 : Int)), false) :: ((a0 == (13 : Int)), false) :: ((a0 == (11 : Int)), false) :: ((a0 == (9 : Int)), false) :: ((a0 == (8 : Int)), false) :: ((a0 == (1 : Int)), false) :: (Nat.blt 2 21, true) :: (a0 == Int.ofNat 2, true) :: ((decide (a0 ≥ (21 : Int))), false) :: Zan a0 a1 a2 a3 y0_0)) (by as_aux_lemma => kernel_rfl) (Zc (ZbT (M := ((bl [110, 105, 108, 32]) ++ ((bl [114]) ++ (Ze a1)))) sE ltA) <| Zc (Zn (Zai (x := (bl [114])) (y := (Ze a1)) rfl rfl ltA)) <| Zc (Zau (by omega) (by omega)) <| oB <| oK <| oN <| oN <| oF <| oF <| oF <| oF <| oF <| oF <| oB <| oK <| oN <| w3) ⟨Eq.trans (show (Value.tuple #[Value.string (Za ((bl [110, 105, 108, 32]) ++ ((bl [114]) ++ (Ze a1)))), vq] : Value) = Value.tuple #[Value.string ((Za (bl [110, 105, 108])) ++ (Za (bl [32])) ++ ((Za (bl [114])) ++ (Za (Ze a1)))), vq] from (ZaL (Zd (congrArg Value.string sE) (Zd rfl rfl)))) (by rfl), by rfl⟩
       ·
        refine Zf (fun g7 => ?_) (fun g7 => ?_)
        ·
         refine Zf (fun g8 => ?_) (fun _ => Zt)
         refine Zf (fun g9 => ?_) (fun _ => Zt)
         refine Zf (fun g10 => ?_) (fun _ => Zt)
         refine Zf (fun g11 => ?_) (fun _ => Zt)
         refine Zf (fun g12 => ?_) (fun _ => Zt)
         refine Zf (fun g13 => ?_) (fun _ => Zt)
         exact Za7 (orc := (Zr [(0, false), (1, false), (2, false), (3, false), (4, false), (5, false), (6, false), (7, false), (8, false), (9, false), (10, false), (15, true), (17, true), (18, true)] [] [(0, 3), (1, 3)] [] [(0, (Z1 (a0) (a1) (a2) (a3)  y0_0  1))])) (u := Value.tuple #[Value.string (((Za (bl [109, 111, 118, 101])) ++ (Za (bl [32])) ++ ((Za (bl [114])) ++ (Za (Ze a1)))) ++ (Za (bl [32])) ++ ((Za (bl [114])) ++ (Za (Ze a2)))), vq]) (ob := (((Nat.ble ((((Za (bl [109, 111, 118, 101])) ++ (Za (bl [32])) ++ ((Za (bl [114])) ++ (Za (Ze a1)))) ++ (Za (bl [32])) ++ ((Za (bl [114])) ++ (Za (Ze a2))))).size 140737488355328), true) :: (dP (((((Za (bl [114]))).size + ((Za (Ze a2))).size : Nat) : Int) ≤ IntKind.i64.max), true) :: ((decide ((-9223372036854775808 : Int) ≤ a2) && decide (a2 ≤ (9223372036854775807 : Int))), true) :: (dP (((((Za (bl [114]))).size + ((Za (Ze a1))).size : Nat) : Int) ≤ IntKind.i64.max), true) :: ((decide ((-9223372036854775808 : Int) ≤ a1) && decide (a1 ≤ (9223372036854775807 : Int))), true) :: (Nat.blt 3 21, true) :: (a0 == Int.ofNat 3, true) :: ((decide (a0 ≥ (21 : Int))), false) :: ((decide (a0 < (0 : Int))), false) :: ((a0 == (14 : Int)), false) :: ((a0 == (13 : Int)), false) :: ((a0 == (11 : Int)), false) :: ((a0 == (9 : Int)), false) :: ((a0 == (8 : Int)), false) :: ((a0 == (1 : Int)), false) :: (Nat.blt 3 21, true) :: (a0 == Int.ofNat 3, true) :: ((decide (a0 ≥ (21 : Int))), false) :: Zan a0 a1 a2 a3 y0_0)) (by as_aux_lemma => kernel_rfl) (Zc (ZbT (M := ((((bl [109, 111, 118, 101, 32]) ++ ((bl [114]) ++ (Ze a1))) ++ (bl [32])) ++ ((bl [114]) ++ (Ze a2)))) sE ltA) <| Zc (Zn (Zai (x := (bl [114])) (y := (Ze a2)) rfl rfl ltA)) <| Zc (Zau (by omega) (by omega)) <| Zc (Zn (Zai (x := (bl [114])) (y := (Ze a1)) rfl rfl ltA)) <| Zc (Zau (by omega) (by omega)) <| oB <| oK <| oN <| oN <| oF <| oF <| oF <| oF <| oF <| oF <| oB <| oK <| oN <| w3) ⟨Eq.trans (show (Value.tuple #[Value.string (Za ((((bl [109, 111, 118, 101, 32]) ++ ((bl [114]) ++ (Ze a1))) ++ (bl [32])) ++ ((bl [114]) ++ (Ze a2)))), vq] : Value) = Value.tuple #[Value.string (((Za (bl [109, 111, 118, 101])) ++ (Za (bl [32])) ++ ((Za (bl [114])) ++ (Za (Ze a1)))) ++ (Za (bl [32])) ++ ((Za (bl [114])) ++ (Za (Ze a2)))), vq] from (ZaL (Zd (congrArg Value.string sE) (Zd rfl rfl)))) (by rfl), by rfl⟩
        ·
         refine Zf (fun g8 => ?_) (fun g8 => ?_)
         ·
          refine Zf (fun g9 => ?_) (fun _ => Zt)
          refine Zf (fun g10 => ?_) (fun _ => Zt)
          refine Zf (fun g11 => ?_) (fun _ => Zt)
          refine Zf (fun g12 => ?_) (fun _ => Zt)
          refine Zf (fun g13 => ?_) (fun _ => Zt)
          refine Zf (fun g14 => ?_) (fun _ => Zt)
          refine Zf (fun g15 => ?_) (fun _ => Zt)
          refine Zf (fun g16 => ?_) (fun _ => Zt)
          refine Zf (fun g17 => ?_) (fun _ => Zt)
          exact Za7 (orc := (Zr [(0, false), (1, false), (2, false), (3, false), (4, false), (5, false), (6, false), (7, false), (8, false), (9, false), (10, false), (14, true), (16, true), (18, true), (19, true)] [] [(0, 4), (1, 4)] [] [(0, (Z1 (a0) (a1) (a2) (a3)  y0_0  1))])) (u := Value.tuple #[Value.string ((((Za (bl [97, 100, 100])) ++ (Za (bl [32])) ++ ((Za (bl [114])) ++ (Za (Ze a1)))) ++ (Za (bl [32])) ++ ((Za (bl [114])) ++ (Za (Ze a2)))) ++ (Za (bl [32])) ++ ((Za (bl [114])) ++ (Za (Ze a3)))), vq]) (ob := (((Nat.ble (((((Za (bl [97, 100, 100])) ++ (Za (bl [32])) ++ ((Za (bl [114])) ++ (Za (Ze a1)))) ++ (Za (bl [32])) ++ ((Za (bl [114])) ++ (Za (Ze a2)))) ++ (Za (bl [32])) ++ ((Za (bl [114])) ++ (Za (Ze a3))))).size 140737488355328), true) :: (dP (((((Za (bl [114]))).size + ((Za (Ze a3))).size : Nat) : Int) ≤ IntKind.i64.max), true) :: ((decide ((-9223372036854775808 : Int) ≤ a3) && decide (a3 ≤ (9223372036854775807 : Int))), true) :: (dP (((((Za (bl [114]))).size + ((Za (Ze a2))).size : Nat) : Int) ≤ IntKind.i64.max), true) :: ((decide ((-9223372036854775808 : Int) ≤ a2) && decide (a2 ≤ (9223372036854775807 : Int))), true) :: (dP (((((Za (bl [114]))).size + ((Za (Ze a1))).size : Nat) : Int) ≤ IntKind.i64.max), true) :: ((decide ((-9223372036854775808 : Int) ≤ a1) && decide (a1 ≤ (9223372036854775807 : Int))), true) :: (Nat.blt 4 21, true) :: (a0 == Int.ofNat 4, true) :: ((decide (a0 ≥ (21 : Int))), false) :: ((decide (a0 < (0 : Int))), false) :: ((a0 == (14 : Int)), false) :: ((a0 == (13 : Int)), false) :: ((a0 == (11 : Int)), false) :: ((a0 == (9 : Int)), false) :: ((a0 == (8 : Int)), false) :: ((a0 == (1 : Int)), false) :: (Nat.blt 4 21, true) :: (a0 == Int.ofNat 4, true) :: ((decide (a0 ≥ (21 : Int))), false) :: Zan a0 a1 a2 a3 y0_0)) (by as_aux_lemma => kernel_rfl) (Zc (ZbT (M := ((((((bl [97, 100, 100, 32]) ++ ((bl [114]) ++ (Ze a1))) ++ (bl [32])) ++ ((bl [114]) ++ (Ze a2))) ++ (bl [32])) ++ ((bl [114]) ++ (Ze a3)))) sE ltA) <| Zc (Zn (Zai (x := (bl [114])) (y := (Ze a3)) rfl rfl ltA)) <| Zc (Zau (by omega) (by omega)) <| Zc (Zn (Zai (x := (bl [114])) (y := (Ze a2)) rfl rfl ltA)) <| Zc (Zau (by omega) (by omega)) <| Zc (Zn (Zai (x := (bl [114])) (y := (Ze a1)) rfl rfl ltA)) <| Zc (Zau (by omega) (by omega)) <| oB <| oK <| oN <| oN <| oF <| oF <| oF <| oF <| oF <| oF <| oB <| oK <| oN <| w3) ⟨Eq.trans (show (Value.tuple #[Value.string (Za ((((((bl [97, 100, 100, 32]) ++ ((bl [114]) ++ (Ze a1))) ++ (bl [32])) ++ ((bl [114]) ++ (Ze a2))) ++ (bl [32])) ++ ((bl [114]) ++ (Ze a3)))), vq] : Value) = Value.tuple #[Value.string ((((Za (bl [97, 100, 100])) ++ (Za (bl [32])) ++ ((Za (bl [114])) ++ (Za (Ze a1)))) ++ (Za (bl [32])) ++ ((Za (bl [114])) ++ (Za (Ze a2)))) ++ (Za (bl [32])) ++ ((Za (bl [114])) ++ (Za (Ze a3)))), vq] from (ZaL (Zd (congrArg Value.string sE) (Zd rfl rfl)))) (by rfl), by rfl⟩
         ·
          refine Zf (fun g9 => ?_) (fun g9 => ?_)
          ·
           refine Zf (fun g10 => ?_) (fun _ => Zt)
           refine Zf (fun g11 => ?_) (fun _ => Zt)
           refine Zf (fun g12 => ?_) (fun _ => Zt)
           refine Zf (fun g13 => ?_) (fun _ => Zt)
           refine Zf (fun g14 => ?_) (fun _ => Zt)
           refine Zf (fun g15 => ?_) (fun _ => Zt)
           refine Zf (fun g16 => ?_) (fun _ => Zt)
           refine Zf (fun g17 => ?_) (fun _ => Zt)
           refine Zf (fun g18 => ?_) (fun _ => Zt)
           exact Za7 (orc := (Zr [(0, false), (1, false), (2, false), (3, false), (4, false), (5, false), (6, false), (7, false), (8, false), (9, false), (10, false), (14, true), (16, true), (18, true), (19, true)] [] [(0, 5), (1, 5)] [] [(0, (Z1 (a0) (a1) (a2) (a3)  y0_0  1))])) (u := Value.tuple #[Value.string ((((Za (bl [115, 117, 98])) ++ (Za (bl [32])) ++ ((Za (bl [114])) ++ (Za (Ze a1)))) ++ (Za (bl [32])) ++ ((Za (bl [114])) ++ (Za (Ze a2)))) ++ (Za (bl [32])) ++ ((Za (bl [114])) ++ (Za (Ze a3)))), vq]) (ob := (((Nat.ble (((((Za (bl [115, 117, 98])) ++ (Za (bl [32])) ++ ((Za (bl [114])) ++ (Za (Ze a1)))) ++ (Za (bl [32])) ++ ((Za (bl [114])) ++ (Za (Ze a2)))) ++ (Za (bl [32])) ++ ((Za (bl [114])) ++ (Za (Ze a3))))).size 140737488355328), true) :: (dP (((((Za (bl [114]))).size + ((Za (Ze a3))).size : Nat) : Int) ≤ IntKind.i64.max), true) :: ((decide ((-9223372036854775808 : Int) ≤ a3) && decide (a3 ≤ (9223372036854775807 : Int))), true) :: (dP (((((Za (bl [114]))).size + ((Za (Ze a2))).size : Nat) : Int) ≤ IntKind.i64.max), true) :: ((decide ((-9223372036854775808 : Int) ≤ a2) && decide (a2 ≤ (9223372036854775807 : Int))), true) :: (dP (((((Za (bl [114]))).size + ((Za (Ze a1))).size : Nat) : Int) ≤ IntKind.i64.max), true) :: ((decide ((-9223372036854775808 : Int) ≤ a1) && decide (a1 ≤ (9223372036854775807 : Int))), true) :: (Nat.blt 5 21, true) :: (a0 == Int.ofNat 5, true) :: ((decide (a0 ≥ (21 : Int))), false) :: ((decide (a0 < (0 : Int))), false) :: ((a0 == (14 : Int)), false) :: ((a0 == (13 : Int)), false) :: ((a0 == (11 : Int)), false) :: ((a0 == (9 : Int)), false) :: ((a0 == (8 : Int)), false) :: ((a0 == (1 : Int)), false) :: (Nat.blt 5 21, true) :: (a0 == Int.ofNat 5, true) :: ((decide (a0 ≥ (21 : Int))), false) :: Zan a0 a1 a2 a3 y0_0)) (by as_aux_lemma => kernel_rfl) (Zc (ZbT (M := ((((((bl [115, 117, 98, 32]) ++ ((bl [114]) ++ (Ze a1))) ++ (bl [32])) ++ ((bl [114]) ++ (Ze a2))) ++ (bl [32])) ++ ((bl [114]) ++ (Ze a3)))) sE ltA) <| Zc (Zn (Zai (x := (bl [114])) (y := (Ze a3)) rfl rfl ltA)) <| Zc (Zau (by omega) (by omega)) <| Zc (Zn (Zai (x := (bl [114])) (y := (Ze a2)) rfl rfl ltA)) <| Zc (Zau (by omega) (by omega)) <| Zc (Zn (Zai (x := (bl [114])) (y := (Ze a1)) rfl rfl ltA)) <| Zc (Zau (by omega) (by omega)) <| oB <| oK <| oN <| oN <| oF <| oF <| oF <| oF <| oF <| oF <| oB <| oK <| oN <| w3) ⟨Eq.trans (show (Value.tuple #[Value.string (Za ((((((bl [115, 117, 98, 32]) ++ ((bl [114]) ++ (Ze a1))) ++ (bl [32])) ++ ((bl [114]) ++ (Ze a2))) ++ (bl [32])) ++ ((bl [114]) ++ (Ze a3)))), vq] : Value) = Value.tuple #[Value.string ((((Za (bl [115, 117, 98])) ++ (Za (bl [32])) ++ ((Za (bl [114])) ++ (Za (Ze a1)))) ++ (Za (bl [32])) ++ ((Za (bl [114])) ++ (Za (Ze a2)))) ++ (Za (bl [32])) ++ ((Za (bl [114])) ++ (Za (Ze a3)))), vq] from (ZaL (Zd (congrArg Value.string sE) (Zd rfl rfl)))) (by rfl), by rfl⟩
          ·
           refine Zf (fun g10 => ?_) (fun g10 => ?_)
           ·
            refine Zf (fun g11 => ?_) (fun _ => Zt)
            refine Zf (fun g12 => ?_) (fun _ => Zt)
            refine Zf (fun g13 => ?_) (fun _ => Zt)
            refine Zf (fun g14 => ?_) (fun _ => Zt)
            refine Zf (fun g15 => ?_) (fun _ => Zt)
            refine Zf (fun g16 => ?_) (fun _ => Zt)
            refine Zf (fun g17 => ?_) (fun _ => Zt)
            refine Zf (fun g18 => ?_) (fun _ => Zt)
            refine Zf (fun g19 => ?_) (fun _ => Zt)
            exact Za7 (orc := (Zr [(0, false), (1, false), (2, false), (3, false), (4, false), (5, false), (6, false), (7, false), (8, false), (9, false), (10, false), (14, true), (16, true), (18, true), (19, true)] [] [(0, 6), (1, 6)] [] [(0, (Z1 (a0) (a1) (a2) (a3)  y0_0  1))])) (u := Value.tuple #[Value.string ((((Za (bl [108, 101, 115, 115])) ++ (Za (bl [32])) ++ ((Za (bl [114])) ++ (Za (Ze a1)))) ++ (Za (bl [32])) ++ ((Za (bl [114])) ++ (Za (Ze a2)))) ++ (Za (bl [32])) ++ ((Za (bl [114])) ++ (Za (Ze a3)))), vq]) (ob := (((Nat.ble (((((Za (bl [108, 101, 115, 115])) ++ (Za (bl [32])) ++ ((Za (bl [114])) ++ (Za (Ze a1)))) ++ (Za (bl [32])) ++ ((Za (bl [114])) ++ (Za (Ze a2)))) ++ (Za (bl [32])) ++ ((Za (bl [114])) ++ (Za (Ze a3))))).size 140737488355328), true) :: (dP (((((Za (bl [114]))).size + ((Za (Ze a3))).size : Nat) : Int) ≤ IntKind.i64.max), true) :: ((decide ((-9223372036854775808 : Int) ≤ a3) && decide (a3 ≤ (9223372036854775807 : Int))), true) :: (dP (((((Za (bl [114]))).size + ((Za (Ze a2))).size : Nat) : Int) ≤ IntKind.i64.max), true) :: ((decide ((-9223372036854775808 : Int) ≤ a2) && decide (a2 ≤ (9223372036854775807 : Int))), true) :: (dP (((((Za (bl [114]))).size + ((Za (Ze a1))).size : Nat) : Int) ≤ IntKind.i64.max), true) :: ((decide ((-9223372036854775808 : Int) ≤ a1) && decide (a1 ≤ (9223372036854775807 : Int))), true) :: (Nat.blt 6 21, true) :: (a0 == Int.ofNat 6, true) :: ((decide (a0 ≥ (21 : Int))), false) :: ((decide (a0 < (0 : Int))), false) :: ((a0 == (14 : Int)), false) :: ((a0 == (13 : Int)), false) :: ((a0 == (11 : Int)), false) :: ((a0 == (9 : Int)), false) :: ((a0 == (8 : Int)), false) :: ((a0 == (1 : Int)), false) :: (Nat.blt 6 21, true) :: (a0 == Int.ofNat 6, true) :: ((decide (a0 ≥ (21 : Int))), false) :: Zan a0 a1 a2 a3 y0_0)) (by as_aux_lemma => kernel_rfl) (Zc (ZbT (M := ((((((bl [108, 101, 115, 115, 32]) ++ ((bl [114]) ++ (Ze a1))) ++ (bl [32])) ++ ((bl [114]) ++ (Ze a2))) ++ (bl [32])) ++ ((bl [114]) ++ (Ze a3)))) sE ltA) <| Zc (Zn (Zai (x := (bl [114])) (y := (Ze a3)) rfl rfl ltA)) <| Zc (Zau (by omega) (by omega)) <| Zc (Zn (Zai (x := (bl [114])) (y := (Ze a2)) rfl rfl ltA)) <| Zc (Zau (by omega) (by omega)) <| Zc (Zn (Zai (x := (bl [114])) (y := (Ze a1)) rfl rfl ltA)) <| Zc (Zau (by omega) (by omega)) <| oB <| oK <| oN <| oN <| oF <| oF <| oF <| oF <| oF <| oF <| oB <| oK <| oN <| w3) ⟨Eq.trans (show (Value.tuple #[Value.string (Za ((((((bl [108, 101, 115, 115, 32]) ++ ((bl [114]) ++ (Ze a1))) ++ (bl [32])) ++ ((bl [114]) ++ (Ze a2))) ++ (bl [32])) ++ ((bl [114]) ++ (Ze a3)))), vq] : Value) = Value.tuple #[Value.string ((((Za (bl [108, 101, 115, 115])) ++ (Za (bl [32])) ++ ((Za (bl [114])) ++ (Za (Ze a1)))) ++ (Za (bl [32])) ++ ((Za (bl [114])) ++ (Za (Ze a2)))) ++ (Za (bl [32])) ++ ((Za (bl [114])) ++ (Za (Ze a3)))), vq] from (ZaL (Zd (congrArg Value.string sE) (Zd rfl rfl)))) (by rfl), by rfl⟩
           ·
            refine Zf (fun g11 => ?_) (fun g11 => ?_)
            ·
             refine Zf (fun g12 => ?_) (fun _ => Zt)
             refine Zf (fun g13 => ?_) (fun _ => Zt)
             refine Zf (fun g14 => ?_) (fun _ => Zt)
             refine Zf (fun g15 => ?_) (fun _ => Zt)
             refine Zf (fun g16 => ?_) (fun _ => Zt)
             refine Zf (fun g17 => ?_) (fun _ => Zt)
             refine Zf (fun g18 => ?_) (fun _ => Zt)
             refine Zf (fun g19 => ?_) (fun _ => Zt)
             refine Zf (fun g20 => ?_) (fun _ => Zt)
             exact Za7 (orc := (Zr [(0, false), (1, false), (2, false), (3, false), (4, false), (5, false), (6, false), (7, false), (8, false), (9, false), (10, false), (14, true), (16, true), (18, true), (19, true)] [] [(0, 7), (1, 7)] [] [(0, (Z1 (a0) (a1) (a2) (a3)  y0_0  1))])) (u := Value.tuple #[Value.string ((((Za (bl [101, 113])) ++ (Za (bl [32])) ++ ((Za (bl [114])) ++ (Za (Ze a1)))) ++ (Za (bl [32])) ++ ((Za (bl [114])) ++ (Za (Ze a2)))) ++ (Za (bl [32])) ++ ((Za (bl [114])) ++ (Za (Ze a3)))), vq]) (ob := (((Nat.ble (((((Za (bl [101, 113])) ++ (Za (bl [32])) ++ ((Za (bl [114])) ++ (Za (Ze a1)))) ++ (Za (bl [32])) ++ ((Za (bl [114])) ++ (Za (Ze a2)))) ++ (Za (bl [32])) ++ ((Za (bl [114])) ++ (Za (Ze a3))))).size 140737488355328), true) :: (dP (((((Za (bl [114]))).size + ((Za (Ze a3))).size : Nat) : Int) ≤ IntKind.i64.max), true) :: ((decide ((-9223372036854775808 : Int) ≤ a3) && decide (a3 ≤ (9223372036854775807 : Int))), true) :: (dP (((((Za (bl [114]))).size + ((Za (Ze a2))).size : Nat) : Int) ≤ IntKind.i64.max), true) :: ((decide ((-9223372036854775808 : Int) ≤ a2) && decide (a2 ≤ (9223372036854775807 : Int))), true) :: (dP (((((Za (bl [114]))).size + ((Za (Ze a1))).size : Nat) : Int) ≤ IntKind.i64.max), true) :: ((decide ((-9223372036854775808 : Int) ≤ a1) && decide (a1 ≤ (9223372036854775807 : Int))), true) :: (Nat.blt 7 21, true) :: (a0 == Int.ofNat 7, true) :: ((decide (a0 ≥ (21 : Int))), false) :: ((decide (a0 < (0 : Int))), false) :: ((a0 == (14 : Int)), false) :: ((a0 == (13 : Int)), false) :: ((a0 == (11 : Int)), false) :: ((a0 == (9 : Int)), false) :: ((a0 == (8 : Int)), false) :: ((a0 == (1 : Int)), false) :: (Nat.blt 7 21, true) :: (a0 == Int.ofNat 7, true) :: ((decide (a0 ≥ (21 : Int))), false) :: Zan a0 a1 a2 a3 y0_0)) (by as_aux_lemma => kernel_rfl) (Zc (ZbT (M := ((((((bl [101, 113, 32]) ++ ((bl [114]) ++ (Ze a1))) ++ (bl [32])) ++ ((bl [114]) ++ (Ze a2))) ++ (bl [32])) ++ ((bl [114]) ++ (Ze a3)))) sE ltA) <| Zc (Zn (Zai (x := (bl [114])) (y := (Ze a3)) rfl rfl ltA)) <| Zc (Zau (by omega) (by omega)) <| Zc (Zn (Zai (x := (bl [114])) (y := (Ze a2)) rfl rfl ltA)) <| Zc (Zau (by omega) (by omega)) <| Zc (Zn (Zai (x := (bl [114])) (y := (Ze a1)) rfl rfl ltA)) <| Zc (Zau (by omega) (by omega)) <| oB <| oK <| oN <| oN <| oF <| oF <| oF <| oF <| oF <| oF <| oB <| oK <| oN <| w3) ⟨Eq.trans (show (Value.tuple #[Value.string (Za ((((((bl [101, 113, 32]) ++ ((bl [114]) ++ (Ze a1))) ++ (bl [32])) ++ ((bl [114]) ++ (Ze a2))) ++ (bl [32])) ++ ((bl [114]) ++ (Ze a3)))), vq] : Value) = Value.tuple #[Value.string ((((Za (bl [101, 113])) ++ (Za (bl [32])) ++ ((Za (bl [114])) ++ (Za (Ze a1)))) ++ (Za (bl [32])) ++ ((Za (bl [114])) ++ (Za (Ze a2)))) ++ (Za (bl [32])) ++ ((Za (bl [114])) ++ (Za (Ze a3)))), vq] from (ZaL (Zd (congrArg Value.string sE) (Zd rfl rfl)))) (by rfl), by rfl⟩
            ·
             refine Zf (fun g12 => ?_) (fun g12 => ?_)
             ·
              refine Zf (fun g13 => ?_) (fun _ => Zt)
              refine Zf (fun g14 => ?_) (fun _ => Zt)
              refine Zf (fun g15 => ?_) (fun _ => Zt)
              exact Za7 (orc := (Zr [(0, false), (1, false), (2, false), (3, false), (4, true), (7, true), (8, true)] [] [(0, 8)] [] [(0, (Z1 (a0) (a1) (a2) (a3)  y0_0  1))])) (u := Value.tuple #[Value.string ((Za (bl [106, 117, 109, 112])) ++ (Za (bl [32])) ++ ((Za (bl [64])) ++ ((Za (bl [76])) ++ (Za (Ze a1))))), vq]) (ob := (((Nat.ble (((Za (bl [106, 117, 109, 112])) ++ (Za (bl [32])) ++ ((Za (bl [64])) ++ ((Za (bl [76])) ++ (Za (Ze a1)))))).size 140737488355328), true) :: (dP (((((Za (bl [64]))).size + (((Za (bl [76])) ++ (Za (Ze a1)))).size : Nat) : Int) ≤ IntKind.i64.max), true) :: (dP (((((Za (bl [76]))).size + ((Za (Ze a1))).size : Nat) : Int) ≤ IntKind.i64.max), true) :: ((decide ((-9223372036854775808 : Int) ≤ a1) && decide (a1 ≤ (9223372036854775807 : Int))), true) :: ((a0 == (8 : Int)), true) :: ((a0 == (1 : Int)), false) :: (Nat.blt 8 21, true) :: (a0 == Int.ofNat 8, true) :: ((decide (a0 ≥ (21 : Int))), false) :: Zan a0 a1 a2 a3 y0_0)) (by as_aux_lemma => kernel_rfl) (Zc (ZbT (M := ((bl [106, 117, 109, 112, 32]) ++ ((bl [64]) ++ ((bl [76]) ++ (Ze a1))))) sE ltA) <| Zc (Zn (Zai (x := (bl [64])) (y := ((bl [76]) ++ (Ze a1))) rfl sE ltA)) <| Zc (Zn (Zai (x := (bl [76])) (y := (Ze a1)) rfl rfl ltA)) <| Zc (Zau (by omega) (by omega)) <| oT <| oF <| oB <| oK <| oN <| w3) ⟨Eq.trans (show (Value.tuple #[Value.string (Za ((bl [106, 117, 109, 112, 32]) ++ ((bl [64]) ++ ((bl [76]) ++ (Ze a1))))), vq] : Value) = Value.tuple #[Value.string ((Za (bl [106, 117, 109, 112])) ++ (Za (bl [32])) ++ ((Za (bl [64])) ++ ((Za (bl [76])) ++ (Za (Ze a1))))), vq] from (ZaL (Zd (congrArg Value.string sE) (Zd rfl rfl)))) (by rfl), by rfl⟩
             ·
              refine Zf (fun g13 => ?_) (fun g13 => ?_)
              ·
               refine Zf (fun g14 => ?_) (fun _ => Zt)
               refine Zf (fun g15 => ?_) (fun _ => Zt)
               refine Zf (fun g16 => ?_) (fun _ => Zt)
               refine Zf (fun g17 => ?_) (fun _ => Zt)
               refine Zf (fun g18 => ?_) (fun _ => Zt)
               refine Zf (fun g19 => ?_) (fun _ => Zt)
               exact Za7 (orc := (Zr [(0, false), (1, false), (2, false), (3, false), (4, false), (5, true), (7, true), (10, true), (11, true)] [] [(0, 9)] [] [(0, (Z1 (a0) (a1) (a2) (a3)  y0_0  1))])) (u := Value.tuple #[Value.string (((Za (bl [106, 117, 109, 112, 122])) ++ (Za (bl [32])) ++ ((Za (bl [114])) ++ (Za (Ze a1)))) ++ (Za (bl [32])) ++ ((Za (bl [64])) ++ ((Za (bl [76])) ++ (Za (Ze a2))))), vq]) (ob := (((Nat.ble ((((Za (bl [106, 117, 109, 112, 122])) ++ (Za (bl [32])) ++ ((Za (bl [114])) ++ (Za (Ze a1)))) ++ (Za (bl [32])) ++ ((Za (bl [64])) ++ ((Za (bl [76])) ++ (Za (Ze a2)))))).size 140737488355328), true) :: (dP (((((Za (bl [64]))).size + (((Za (bl [76])) ++ (Za (Ze a2)))).size : Nat) : Int) ≤ IntKind.i64.max), true) :: (dP (((((Za (bl [76]))).size + ((Za (Ze a2))).size : Nat) : Int) ≤ IntKind.i64.max), true) :: ((decide ((-9223372036854775808 : Int) ≤ a2) && decide (a2 ≤ (9223372036854775807 : Int))), true) :: (dP (((((Za (bl [114]))).size + ((Za (Ze a1))).size : Nat) : Int) ≤ IntKind.i64.max), true) :: ((decide ((-9223372036854775808 : Int) ≤ a1) && decide (a1 ≤ (9223372036854775807 : Int))), true) :: ((a0 == (9 : Int)), true) :: ((a0 == (8 : Int)), false) :: ((a0 == (1 : Int)), false) :: (Nat.blt 9 21, true) :: (a0 == Int.ofNat 9, true) :: ((decide (a0 ≥ (21 : Int))), false) :: Zan a0 a1 a2 a3 y0_0)) (by as_aux_lemma => kernel_rfl) (Zc (ZbT (M := ((((bl [106, 117, 109, 112, 122, 32]) ++ ((bl [114]) ++ (Ze a1))) ++ (bl [32])) ++ ((bl [64]) ++ ((bl [76]) ++ (Ze a2))))) sE ltA) <| Zc (Zn (Zai (x := (bl [64])) (y := ((bl [76]) ++ (Ze a2))) rfl sE ltA)) <| Zc (Zn (Zai (x := (bl [76])) (y := (Ze a2)) rfl rfl ltA)) <| Zc (Zau (by omega) (by omega)) <| Zc (Zn (Zai (x := (bl [114])) (y := (Ze a1)) rfl rfl ltA)) <| Zc (Zau (by omega) (by omega)) <| oT <| oF <| oF <| oB <| oK <| oN <| w3) ⟨Eq.trans (show (Value.tuple #[Value.string (Za ((((bl [106, 117, 109, 112, 122, 32]) ++ ((bl [114]) ++ (Ze a1))) ++ (bl [32])) ++ ((bl [64]) ++ ((bl [76]) ++ (Ze a2))))), vq] : Value) = Value.tuple #[Value.string (((Za (bl [106, 117, 109, 112, 122])) ++ (Za (bl [32])) ++ ((Za (bl [114])) ++ (Za (Ze a1)))) ++ (Za (bl [32])) ++ ((Za (bl [64])) ++ ((Za (bl [76])) ++ (Za (Ze a2))))), vq] from (ZaL (Zd (congrArg Value.string sE) (Zd rfl rfl)))) (by rfl), by rfl⟩
              ·
               refine Zf (fun g14 => ?_) (fun g14 => ?_)
               ·
                refine Zf (fun g15 => ?_) (fun _ => Zt)
                refine Zf (fun g16 => ?_) (fun _ => Zt)
                refine Zf (fun g17 => ?_) (fun _ => Zt)
                exact Za7 (orc := (Zr [(0, false), (1, false), (2, false), (3, false), (4, false), (5, false), (6, false), (7, false), (8, false), (9, false), (10, false), (16, true), (17, true)] [] [(0, 10), (1, 10)] [] [(0, (Z1 (a0) (a1) (a2) (a3)  y0_0  1))])) (u := Value.tuple #[Value.string ((Za (bl [114, 111, 111, 116])) ++ (Za (bl [32])) ++ ((Za (bl [114])) ++ (Za (Ze a1)))), vq]) (ob := (((Nat.ble (((Za (bl [114, 111, 111, 116])) ++ (Za (bl [32])) ++ ((Za (bl [114])) ++ (Za (Ze a1))))).size 140737488355328), true) :: (dP (((((Za (bl [114]))).size + ((Za (Ze a1))).size : Nat) : Int) ≤ IntKind.i64.max), true) :: ((decide ((-9223372036854775808 : Int) ≤ a1) && decide (a1 ≤ (9223372036854775807 : Int))), true) :: (Nat.blt 10 21, true) :: (a0 == Int.ofNat 10, true) :: ((decide (a0 ≥ (21 : Int))), false) :: ((decide (a0 < (0 : Int))), false) :: ((a0 == (14 : Int)), false) :: ((a0 == (13 : Int)), false) :: ((a0 == (11 : Int)), false) :: ((a0 == (9 : Int)), false) :: ((a0 == (8 : Int)), false) :: ((a0 == (1 : Int)), false) :: (Nat.blt 10 21, true) :: (a0 == Int.ofNat 10, true) :: ((decide (a0 ≥ (21 : Int))), false) :: Zan a0 a1 a2 a3 y0_0)) (by as_aux_lemma => kernel_rfl) (Zc (ZbT (M := ((bl [114, 111, 111, 116, 32]) ++ ((bl [114]) ++ (Ze a1)))) sE ltA) <| Zc (Zn (Zai (x := (bl [114])) (y := (Ze a1)) rfl rfl ltA)) <| Zc (Zau (by omega) (by omega)) <| oB <| oK <| oN <| oN <| oF <| oF <| oF <| oF <| oF <| oF <| oB <| oK <| oN <| w3) ⟨Eq.trans (show (Value.tuple #[Value.string (Za ((bl [114, 111, 111, 116, 32]) ++ ((bl [114]) ++ (Ze a1)))), vq] : Value) = Value.tuple #[Value.string ((Za (bl [114, 111, 111, 116])) ++ (Za (bl [32])) ++ ((Za (bl [114])) ++ (Za (Ze a1)))), vq] from (ZaL (Zd (congrArg Value.string sE) (Zd rfl rfl)))) (by rfl), by rfl⟩
               ·
                refine Zf (fun g15 => ?_) (fun g15 => ?_)
                ·
                 refine Zf (fun g16 => ?_) (fun _ => Zt)
                 refine Zf (fun g17 => ?_) (fun _ => Zt)
                 refine Zf (fun g18 => ?_) (fun _ => Zt)
                 refine Zf (fun g19 => ?_) (fun _ => Zt)
                 refine Zf (fun g20 => ?_) (fun _ => Zt)
                 refine Zf (fun g21 => ?_) (fun _ => Zt)
                 refine Zf (fun g22 => ?_) (fun _ => Zt)
                 refine Zf (fun g23 => ?_) (fun _ => Zt)
                 refine Zf (fun g24 => ?_) (fun _ => Zt)
                 exact Za7 (orc := (Zr [(0, false), (1, false), (2, false), (3, false), (4, false), (5, false), (6, true), (8, true), (12, true), (16, true), (17, true)] [] [(0, 11)] [] [(0, (Z1 (a0) (a1) (a2) (a3)  y0_0  1))])) (u := Value.tuple #[Value.string ((((Za (bl [110, 101, 119])) ++ (Za (bl [32])) ++ ((Za (bl [114])) ++ (Za (Ze a1)))) ++ (Za (bl [32])) ++ (Za (Ze a2))) ++ (Za (bl [32])) ++ (Za (Ze a3))), vq]) (ob := (((Nat.ble (((((Za (bl [110, 101, 119])) ++ (Za (bl [32])) ++ ((Za (bl [114])) ++ (Za (Ze a1)))) ++ (Za (bl [32])) ++ (Za (Ze a2))) ++ (Za (bl [32])) ++ (Za (Ze a3)))).size 140737488355328), true) :: ((decide ((-9223372036854775808 : Int) ≤ a3) && decide (a3 ≤ (9223372036854775807 : Int))), true) :: ((decide ((-9223372036854775808 : Int) ≤ a2) && decide (a2 ≤ (9223372036854775807 : Int))), true) :: (dP (((((Za (bl [114]))).size + ((Za (Ze a1))).size : Nat) : Int) ≤ IntKind.i64.max), true) :: ((decide ((-9223372036854775808 : Int) ≤ a1) && decide (a1 ≤ (9223372036854775807 : Int))), true) :: ((a0 == (11 : Int)), true) :: ((a0 == (9 : Int)), false) :: ((a0 == (8 : Int)), false) :: ((a0 == (1 : Int)), false) :: (Nat.blt 11 21, true) :: (a0 == Int.ofNat 11, true) :: ((decide (a0 ≥ (21 : Int))), false) :: Zan a0 a1 a2 a3 y0_0)) (by as_aux_lemma => kernel_rfl) (Zc (ZbT (M := ((((((bl [110, 101, 119, 32]) ++ ((bl [114]) ++ (Ze a1))) ++ (bl [32])) ++ (Ze a2)) ++ (bl [32])) ++ (Ze a3))) sE ltA) <| Zc (Zau (by omega) (by omega)) <| Zc (Zau (by omega) (by omega)) <| Zc (Zn (Zai (x := (bl [114])) (y := (Ze a1)) rfl rfl ltA)) <| Zc (Zau (by omega) (by omega)) <| oT <| oF <| oF <| oF <| oB <| oK <| oN <| w3) ⟨Eq.trans (show (Value.tuple #[Value.string (Za ((((((bl [110, 101, 119, 32]) ++ ((bl [114]) ++ (Ze a1))) ++ (bl [32])) ++ (Ze a2)) ++ (bl [32])) ++ (Ze a3))), vq] : Value) = Value.tuple #[Value.string ((((Za (bl [110, 101, 119])) ++ (Za (bl [32])) ++ ((Za (bl [114])) ++ (Za (Ze a1)))) ++ (Za (bl [32])) ++ (Za (Ze a2))) ++ (Za (bl [32])) ++ (Za (Ze a3))), vq] from (ZaL (Zd (congrArg Value.string sE) (Zd rfl rfl)))) (by rfl), by rfl⟩
                ·
                 refine Zf (fun g16 => ?_) (fun g16 => ?_)
                 ·
                  refine Zf (fun g17 => ?_) (fun _ => Zt)
                  refine Zf (fun g18 => ?_) (fun _ => Zt)
                  refine Zf (fun g19 => ?_) (fun _ => Zt)
                  exact Za7 (orc := (Zr [(0, false), (1, false), (2, false), (3, false), (4, false), (5, false), (6, false), (7, false), (8, false), (9, false), (10, false), (16, true), (17, true)] [] [(0, 12), (1, 12)] [] [(0, (Z1 (a0) (a1) (a2) (a3)  y0_0  1))])) (u := Value.tuple #[Value.string ((Za (bl [102, 114, 101, 101])) ++ (Za (bl [32])) ++ ((Za (bl [114])) ++ (Za (Ze a1)))), vq]) (ob := (((Nat.ble (((Za (bl [102, 114, 101, 101])) ++ (Za (bl [32])) ++ ((Za (bl [114])) ++ (Za (Ze a1))))).size 140737488355328), true) :: (dP (((((Za (bl [114]))).size + ((Za (Ze a1))).size : Nat) : Int) ≤ IntKind.i64.max), true) :: ((decide ((-9223372036854775808 : Int) ≤ a1) && decide (a1 ≤ (9223372036854775807 : Int))), true) :: (Nat.blt 12 21, true) :: (a0 == Int.ofNat 12, true) :: ((decide (a0 ≥ (21 : Int))), false) :: ((decide (a0 < (0 : Int))), false) :: ((a0 == (14 : Int)), false) :: ((a0 == (13 : Int)), false) :: ((a0 == (11 : Int)), false) :: ((a0 == (9 : Int)), false) :: ((a0 == (8 : Int)), false) :: ((a0 == (1 : Int)), false) :: (Nat.blt 12 21, true) :: (a0 == Int.ofNat 12, true) :: ((decide (a0 ≥ (21 : Int))), false) :: Zan a0 a1 a2 a3 y0_0)) (by as_aux_lemma => kernel_rfl) (Zc (ZbT (M := ((bl [102, 114, 101, 101, 32]) ++ ((bl [114]) ++ (Ze a1)))) sE ltA) <| Zc (Zn (Zai (x := (bl [114])) (y := (Ze a1)) rfl rfl ltA)) <| Zc (Zau (by omega) (by omega)) <| oB <| oK <| oN <| oN <| oF <| oF <| oF <| oF <| oF <| oF <| oB <| oK <| oN <| w3) ⟨Eq.trans (show (Value.tuple #[Value.string (Za ((bl [102, 114, 101, 101, 32]) ++ ((bl [114]) ++ (Ze a1)))), vq] : Value) = Value.tuple #[Value.string ((Za (bl [102, 114, 101, 101])) ++ (Za (bl [32])) ++ ((Za (bl [114])) ++ (Za (Ze a1)))), vq] from (ZaL (Zd (congrArg Value.string sE) (Zd rfl rfl)))) (by rfl), by rfl⟩
                 ·
                  refine Zf (fun g17 => ?_) (fun g17 => ?_)
                  ·
                   refine Zf (fun g18 => ?_) (fun _ => Zt)
                   refine Zf (fun g19 => ?_) (fun _ => Zt)
                   refine Zf (fun g20 => ?_) (fun _ => Zt)
                   refine Zf (fun g21 => ?_) (fun _ => Zt)
                   refine Zf (fun g22 => ?_) (fun _ => Zt)
                   refine Zf (fun g23 => ?_) (fun _ => Zt)
                   refine Zf (fun g24 => ?_) (fun _ => Zt)
                   refine Zf (fun g25 => ?_) (fun _ => Zt)
                   refine Zf (fun g26 => ?_) (fun _ => Zt)
                   exact Za7 (orc := (Zr [(0, false), (1, false), (2, false), (3, false), (4, false), (5, false), (6, false), (7, true), (9, true), (11, true), (15, true), (16, true)] [] [(0, 13)] [] [(0, (Z1 (a0) (a1) (a2) (a3)  y0_0  1))])) (u := Value.tuple #[Value.string ((((Za (bl [103, 101, 116])) ++ (Za (bl [32])) ++ ((Za (bl [114])) ++ (Za (Ze a1)))) ++ (Za (bl [32])) ++ ((Za (bl [114])) ++ (Za (Ze a2)))) ++ (Za (bl [32])) ++ (Za (Ze a3))), vq]) (ob := (((Nat.ble (((((Za (bl [103, 101, 116])) ++ (Za (bl [32])) ++ ((Za (bl [114])) ++ (Za (Ze a1)))) ++ (Za (bl [32])) ++ ((Za (bl [114])) ++ (Za (Ze a2)))) ++ (Za (bl [32])) ++ (Za (Ze a3)))).size 140737488355328), true) :: ((decide ((-9223372036854775808 : Int) ≤ a3) && decide (a3 ≤ (9223372036854775807 : Int))), true) :: (dP (((((Za (bl [114]))).size + ((Za (Ze a2))).size : Nat) : Int) ≤ IntKind.i64.max), true) :: ((decide ((-9223372036854775808 : Int) ≤ a2) && decide (a2 ≤ (9223372036854775807 : Int))), true) :: (dP (((((Za (bl [114]))).size + ((Za (Ze a1))).size : Nat) : Int) ≤ IntKind.i64.max), true) :: ((decide ((-9223372036854775808 : Int) ≤ a1) && decide (a1 ≤ (9223372036854775807 : Int))), true) :: ((a0 == (13 : Int)), true) :: ((a0 == (11 : Int)), false) :: ((a0 == (9 : Int)), false) :: ((a0 == (8 : Int)), false) :: ((a0 == (1 : Int)), false) :: (Nat.blt 13 21, true) :: (a0 == Int.ofNat 13, true) :: ((decide (a0 ≥ (21 : Int))), false) :: Zan a0 a1 a2 a3 y0_0)) (by as_aux_lemma => kernel_rfl) (Zc (ZbT (M := ((((((bl [103, 101, 116, 32]) ++ ((bl [114]) ++ (Ze a1))) ++ (bl [32])) ++ ((bl [114]) ++ (Ze a2))) ++ (bl [32])) ++ (Ze a3))) sE ltA) <| Zc (Zau (by omega) (by omega)) <| Zc (Zn (Zai (x := (bl [114])) (y := (Ze a2)) rfl rfl ltA)) <| Zc (Zau (by omega) (by omega)) <| Zc (Zn (Zai (x := (bl [114])) (y := (Ze a1)) rfl rfl ltA)) <| Zc (Zau (by omega) (by omega)) <| oT <| oF <| oF <| oF <| oF <| oB <| oK <| oN <| w3) ⟨Eq.trans (show (Value.tuple #[Value.string (Za ((((((bl [103, 101, 116, 32]) ++ ((bl [114]) ++ (Ze a1))) ++ (bl [32])) ++ ((bl [114]) ++ (Ze a2))) ++ (bl [32])) ++ (Ze a3))), vq] : Value) = Value.tuple #[Value.string ((((Za (bl [103, 101, 116])) ++ (Za (bl [32])) ++ ((Za (bl [114])) ++ (Za (Ze a1)))) ++ (Za (bl [32])) ++ ((Za (bl [114])) ++ (Za (Ze a2)))) ++ (Za (bl [32])) ++ (Za (Ze a3))), vq] from (ZaL (Zd (congrArg Value.string sE) (Zd rfl rfl)))) (by rfl), by rfl⟩
                  ·
                   refine Zf (fun g18 => ?_) (fun g18 => ?_)
                   ·
                    refine Zf (fun g19 => ?_) (fun _ => Zt)
                    refine Zf (fun g20 => ?_) (fun _ => Zt)
                    refine Zf (fun g21 => ?_) (fun _ => Zt)
                    refine Zf (fun g22 => ?_) (fun _ => Zt)
                    refine Zf (fun g23 => ?_) (fun _ => Zt)
                    refine Zf (fun g24 => ?_) (fun _ => Zt)
                    refine Zf (fun g25 => ?_) (fun _ => Zt)
                    refine Zf (fun g26 => ?_) (fun _ => Zt)
                    refine Zf (fun g27 => ?_) (fun _ => Zt)
                    exact Za7 (orc := (Zr [(0, false), (1, false), (2, false), (3, false), (4, false), (5, false), (6, false), (7, false), (8, true), (10, true), (14, true), (16, true), (17, true)] [] [(0, 14)] [] [(0, (Z1 (a0) (a1) (a2) (a3)  y0_0  1))])) (u := Value.tuple #[Value.string ((((Za (bl [115, 101, 116])) ++ (Za (bl [32])) ++ ((Za (bl [114])) ++ (Za (Ze a1)))) ++ (Za (bl [32])) ++ (Za (Ze a2))) ++ (Za (bl [32])) ++ ((Za (bl [114])) ++ (Za (Ze a3)))), vq]) (ob := (((Nat.ble (((((Za (bl [115, 101, 116])) ++ (Za (bl [32])) ++ ((Za (bl [114])) ++ (Za (Ze a1)))) ++ (Za (bl [32])) ++ (Za (Ze a2))) ++ (Za (bl [32])) ++ ((Za (bl [114])) ++ (Za (Ze a3))))).size 140737488355328), true) :: (dP (((((Za (bl [114]))).size + ((Za (Ze a3))).size : Nat) : Int) ≤ IntKind.i64.max), true) :: ((decide ((-9223372036854775808 : Int) ≤ a3) && decide (a3 ≤ (9223372036854775807 : Int))), true) :: ((decide ((-9223372036854775808 : Int) ≤ a2) && decide (a2 ≤ (9223372036854775807 : Int))), true) :: (dP (((((Za (bl [114]))).size + ((Za (Ze a1))).size : Nat) : Int) ≤ IntKind.i64.max), true) :: ((decide ((-9223372036854775808 : Int) ≤ a1) && decide (a1 ≤ (9223372036854775807 : Int))), true) :: ((a0 == (14 : Int)), true) :: ((a0 == (13 : Int)), false) :: ((a0 == (11 : Int)), false) :: ((a0 == (9 : Int)), false) :: ((a0 == (8 : Int)), false) :: ((a0 == (1 : Int)), false) :: (Nat.blt 14 21, true) :: (a0 == Int.ofNat 14, true) :: ((decide (a0 ≥ (21 : Int))), false) :: Zan a0 a1 a2 a3 y0_0)) (by as_aux_lemma => kernel_rfl) (Zc (ZbT (M := ((((((bl [115, 101, 116, 32]) ++ ((bl [114]) ++ (Ze a1))) ++ (bl [32])) ++ (Ze a2)) ++ (bl [32])) ++ ((bl [114]) ++ (Ze a3)))) sE ltA) <| Zc (Zn (Zai (x := (bl [114])) (y := (Ze a3)) rfl rfl ltA)) <| Zc (Zau (by omega) (by omega)) <| Zc (Zau (by omega) (by omega)) <| Zc (Zn (Zai (x := (bl [114])) (y := (Ze a1)) rfl rfl ltA)) <| Zc (Zau (by omega) (by omega)) <| oT <| oF <| oF <| oF <| oF <| oF <| oB <| oK <| oN <| w3) ⟨Eq.trans (show (Value.tuple #[Value.string (Za ((((((bl [115, 101, 116, 32]) ++ ((bl [114]) ++ (Ze a1))) ++ (bl [32])) ++ (Ze a2)) ++ (bl [32])) ++ ((bl [114]) ++ (Ze a3)))), vq] : Value) = Value.tuple #[Value.string ((((Za (bl [115, 101, 116])) ++ (Za (bl [32])) ++ ((Za (bl [114])) ++ (Za (Ze a1)))) ++ (Za (bl [32])) ++ (Za (Ze a2))) ++ (Za (bl [32])) ++ ((Za (bl [114])) ++ (Za (Ze a3)))), vq] from (ZaL (Zd (congrArg Value.string sE) (Zd rfl rfl)))) (by rfl), by rfl⟩
                   ·
                    refine Zf (fun g19 => ?_) (fun g19 => ?_)
                    ·
                     exact Ztt (Zz [o0, o0, o0, o0, o0, o0, o0, o0, o0, o0, o0] [] [(0, 15), (1, 15)] [] [(0, (Z1 (a0) (a1) (a2) (a3)  y0_0  1))]) ((Nat.blt 15 21, true) :: (a0 == Int.ofNat 15, true) :: ((decide (a0 ≥ (21 : Int))), false) :: ((decide (a0 < (0 : Int))), false) :: ((a0 == (14 : Int)), false) :: ((a0 == (13 : Int)), false) :: ((a0 == (11 : Int)), false) :: ((a0 == (9 : Int)), false) :: ((a0 == (8 : Int)), false) :: ((a0 == (1 : Int)), false) :: (Nat.blt 15 21, true) :: (a0 == Int.ofNat 15, true) :: ((decide (a0 ≥ (21 : Int))), false) :: Zan a0 a1 a2 a3 y0_0) (oB <| oK <| oN <| oN <| oF <| oF <| oF <| oF <| oF <| oF <| oB <| oK <| oN <| w3)
                    ·
                     refine Zf (fun g20 => ?_) (fun g20 => ?_)
                     ·
                      exact Ztu (Zz [o0, o0, o0, o0, o0, o0, o0, o0, o0, o0, o0] [] [(0, 16), (1, 16)] [] [(0, (Z1 (a0) (a1) (a2) (a3)  y0_0  1))]) ((Nat.blt 16 21, true) :: (a0 == Int.ofNat 16, true) :: ((decide (a0 ≥ (21 : Int))), false) :: ((decide (a0 < (0 : Int))), false) :: ((a0 == (14 : Int)), false) :: ((a0 == (13 : Int)), false) :: ((a0 == (11 : Int)), false) :: ((a0 == (9 : Int)), false) :: ((a0 == (8 : Int)), false) :: ((a0 == (1 : Int)), false) :: (Nat.blt 16 21, true) :: (a0 == Int.ofNat 16, true) :: ((decide (a0 ≥ (21 : Int))), false) :: Zan a0 a1 a2 a3 y0_0) (oB <| oK <| oN <| oN <| oF <| oF <| oF <| oF <| oF <| oF <| oB <| oK <| oN <| w3)
                     ·
                      refine Zf (fun g21 => ?_) (fun g21 => ?_)
                      ·
                       exact Ztv (Zz [o0, o0, o0, o0, o0, o0, o0, o0, o0, o0, o0] [] [(0, 17), (1, 17)] [] [(0, (Z1 (a0) (a1) (a2) (a3)  y0_0  1))]) ((Nat.blt 17 21, true) :: (a0 == Int.ofNat 17, true) :: ((decide (a0 ≥ (21 : Int))), false) :: ((decide (a0 < (0 : Int))), false) :: ((a0 == (14 : Int)), false) :: ((a0 == (13 : Int)), false) :: ((a0 == (11 : Int)), false) :: ((a0 == (9 : Int)), false) :: ((a0 == (8 : Int)), false) :: ((a0 == (1 : Int)), false) :: (Nat.blt 17 21, true) :: (a0 == Int.ofNat 17, true) :: ((decide (a0 ≥ (21 : Int))), false) :: Zan a0 a1 a2 a3 y0_0) (oB <| oK <| oN <| oN <| oF <| oF <| oF <| oF <| oF <| oF <| oB <| oK <| oN <| w3)
                      ·
                       refine Zf (fun g22 => ?_) (fun g22 => ?_)
                       ·
                        exact Ztw (Zz [o0, o0, o0, o0, o0, o0, o0, o0, o0, o0, o0] [] [(0, 18), (1, 18)] [] [(0, (Z1 (a0) (a1) (a2) (a3)  y0_0  1))]) ((Nat.blt 18 21, true) :: (a0 == Int.ofNat 18, true) :: ((decide (a0 ≥ (21 : Int))), false) :: ((decide (a0 < (0 : Int))), false) :: ((a0 == (14 : Int)), false) :: ((a0 == (13 : Int)), false) :: ((a0 == (11 : Int)), false) :: ((a0 == (9 : Int)), false) :: ((a0 == (8 : Int)), false) :: ((a0 == (1 : Int)), false) :: (Nat.blt 18 21, true) :: (a0 == Int.ofNat 18, true) :: ((decide (a0 ≥ (21 : Int))), false) :: Zan a0 a1 a2 a3 y0_0) (oB <| oK <| oN <| oN <| oF <| oF <| oF <| oF <| oF <| oF <| oB <| oK <| oN <| w3)
                       ·
                        refine Zf (fun g23 => ?_) (fun g23 => ?_)
                        ·
                         refine Zf (fun g24 => ?_) (fun _ => Zt)
                         refine Zf (fun g25 => ?_) (fun _ => Zt)
                         refine Zf (fun g26 => ?_) (fun _ => Zt)
                         exact Za7 (orc := (Zr [(0, false), (1, false), (2, false), (3, false), (4, false), (5, false), (6, false), (7, false), (8, false), (9, false), (10, false), (16, true), (17, true)] [] [(0, 19), (1, 19)] [] [(0, (Z1 (a0) (a1) (a2) (a3)  y0_0  1))])) (u := Value.tuple #[Value.string ((Za (bl [101, 109, 105, 116])) ++ (Za (bl [32])) ++ ((Za (bl [114])) ++ (Za (Ze a1)))), vq]) (ob := (((Nat.ble (((Za (bl [101, 109, 105, 116])) ++ (Za (bl [32])) ++ ((Za (bl [114])) ++ (Za (Ze a1))))).size 140737488355328), true) :: (dP (((((Za (bl [114]))).size + ((Za (Ze a1))).size : Nat) : Int) ≤ IntKind.i64.max), true) :: ((decide ((-9223372036854775808 : Int) ≤ a1) && decide (a1 ≤ (9223372036854775807 : Int))), true) :: (Nat.blt 19 21, true) :: (a0 == Int.ofNat 19, true) :: ((decide (a0 ≥ (21 : Int))), false) :: ((decide (a0 < (0 : Int))), false) :: ((a0 == (14 : Int)), false) :: ((a0 == (13 : Int)), false) :: ((a0 == (11 : Int)), false) :: ((a0 == (9 : Int)), false) :: ((a0 == (8 : Int)), false) :: ((a0 == (1 : Int)), false) :: (Nat.blt 19 21, true) :: (a0 == Int.ofNat 19, true) :: ((decide (a0 ≥ (21 : Int))), false) :: Zan a0 a1 a2 a3 y0_0)) (by as_aux_lemma => kernel_rfl) (Zc (ZbT (M := ((bl [101, 109, 105, 116, 32]) ++ ((bl [114]) ++ (Ze a1)))) sE ltA) <| Zc (Zn (Zai (x := (bl [114])) (y := (Ze a1)) rfl rfl ltA)) <| Zc (Zau (by omega) (by omega)) <| oB <| oK <| oN <| oN <| oF <| oF <| oF <| oF <| oF <| oF <| oB <| oK <| oN <| w3) ⟨Eq.trans (show (Value.tuple #[Value.string (Za ((bl [101, 109, 105, 116, 32]) ++ ((bl [114]) ++ (Ze a1)))), vq] : Value) = Value.tuple #[Value.string ((Za (bl [101, 109, 105, 116])) ++ (Za (bl [32])) ++ ((Za (bl [114])) ++ (Za (Ze a1)))), vq] from (ZaL (Zd (congrArg Value.string sE) (Zd rfl rfl)))) (by rfl), by rfl⟩
                        ·
                         exact Ztx (Zz [o0, o0, o0, o0, o0, o0, o0, o0, o0, o0, o0] [] [(0, 20), (1, 20)] [] [(0, (Z1 (a0) (a1) (a2) (a3)  y0_0  1))]) ((Nat.blt 20 21, true) :: (a0 == Int.ofNat 20, true) :: ((decide (a0 ≥ (21 : Int))), false) :: ((decide (a0 < (0 : Int))), false) :: ((a0 == (14 : Int)), false) :: ((a0 == (13 : Int)), false) :: ((a0 == (11 : Int)), false) :: ((a0 == (9 : Int)), false) :: ((a0 == (8 : Int)), false) :: ((a0 == (1 : Int)), false) :: (Nat.blt 20 21, true) :: (a0 == Int.ofNat 20, true) :: ((decide (a0 ≥ (21 : Int))), false) :: Zan a0 a1 a2 a3 y0_0) (oB <| oK <| oN <| oN <| oF <| oF <| oF <| oF <| oF <| oF <| oB <| oK <| oN <| w3)

theorem Zp7 (a0 a1 a2 a3 : Int) (N : Nat) (r : asm_LineR) (h : ZeB a0 a1 a2 a3 N = some r) : LSpec Tryd.prog 7 #[Value.agg #[vi a0, vi a1, vi a2, vi a3]] [] (Zjq a0 a1 a2 a3 r) (Zil a0 a1 a2 a3 r) :=
 ZrP a0 a1 a2 a3 N r h

noncomputable def ZaU (a0 a1 a2 a3 : Int) (w0 : List Int) (w1 : Int) (n : Nat) : ZaG := .call [] (Value.tuple #[Value.string (Za w0), vi w1]) [] 0
def Zod (A : Array Value) (a0 a1 a2 a3 : Int) (w0 : List Int) (w1 : Int) (n : Nat) : Prop := ZB Tryd.prog 7 A [] (Value.tuple #[Value.string (Za w0), vi w1]) [] n 0

theorem Zty (A : Array Value) (a0 a1 a2 a3 : Int) (w0 : List Int) (w1 : Int) (N : Nat) (h : ZeB a0 a1 a2 a3 N = some (.r0 w0 w1)) (n : Nat) (hA : A = #[Value.agg #[vi a0, vi a1, vi a2, vi a3]]) (hnd : ([] : List Nat).Nodup) (hlt : ∀ k ∈ ([] : List Nat), k < n) : Zod A a0 a1 a2 a3 w0 w1  n :=
 Zaq hA (LSpec.callL (show LSpec Tryd.prog 7 #[Value.agg #[vi a0, vi a1, vi a2, vi a3]] [] (Value.tuple #[Value.string (Za w0), vi w1]) [] from Zp7 a0 a1 a2 a3 N _ h) [] n [] rfl hnd hlt (show 0 ≤ 0 from by decide) (show ∀ j ∈ ([] : List Nat), j < 0 from by decide) (by rfl) trivial (by rfl) trivial trivial rfl rfl rfl rfl rfl)

noncomputable def ZmE (L0 : List RA) : Zbu → Value
 | .r0 w1 => Value.bool w1
noncomputable def ZlC (L0 : List RA) : Zbu → List (Option AObj)
 | .r0 w1 => [some (.cells (Zb E_iiii L0) 24)]

def Zre : Zbi → Nat
 | .h1m0 => 1
noncomputable def ZrQ (L0 : List RA) : Zbi → List (Nat × Value)
 | .h1m0 => [(0, vn), (1, vs 0 0 L0.length L0.length), (5, vq)]
noncomputable def ZrR (L0 : List RA) : Zbi → List (Option AObj)
 | .h1m0 => [some (.cells (Zb E_iiii L0) 24)]

noncomputable def Zhv : Nat → Code × List ZbE
 | 1 => ZeE [1, 1, 0, 1, 3] (Zhs Tryd.f10) []
 | _ => (.skip, [])
def Zrf : Nat → Bool
 | 1 => true
 | _ => true
noncomputable def Zdq (L0 : List RA) (N : Nat) : Mach := ⟨Tryd.f10, [.cells (Zb E_iiii L0) 24], Zbi, Zbu, ZfI L0 N, Zre, Zhv, Zrf, ZrQ L0, ZrR L0, ZmE L0, ZlC L0⟩

set_option maxHeartbeats 4000000 in
theorem Znn (L0 : List RA) (N : Nat) : (Zdq L0 N).Ok Tryd.prog Zep (.h1m0 : Zbi) (ZfI L0 N (.h1m0 : Zbi)) := by
 show (Zdq L0 N).Ok Tryd.prog Zep (.h1m0 : Zbi) (ZgR L0 N)
 unfold ZgR
 exact Mach.ok_fin (M := Zdq L0 N) (cd := 1000000) (cm := 0) (r := (.r0 (true) : Zbu)) (fu := 4000) (orc := (Zr [] [] [] [] [])) (live := [0]) (u := vT) (bl := [some (.cells (Zb E_iiii L0) 24)]) (ob := ([])) (fun gv => by as_aux_lemma => kernel_rfl) (ZL) rfl (by decide) (by rfl) rr ⟨(ZE (E := E_iiii) (α := RA) _ L0 _), trivial⟩

end Ev
end Go.Proofs.YtlbbiflodemagaaDoor
/- Calls do what the plain functions say. -/
namespace Go.Proofs.YtlbbiflodemagaaDoor
open Go.RowKit
namespace Ev
set_option linter.unusedVariables false
set_option maxRecDepth 100000
set_option maxHeartbeats 4000000 in
theorem Zp8 (L0 : List RA) (N : Nat) : (Zdq L0 N).Enter Tryd.prog Zep #[vn, vs 0 0 L0.length L0.length] (ZiT L0 N) := by
 unfold ZiT
 refine Mach.en_ite (fun g0 => ?_) (fun g0 => ?_)
 ·
  exact Mach.en_fin (M := Zdq L0 N) (cd := 1000000) (cm := 0) (r := (.r0 (false) : Zbu)) (fu := 4000) (orc := (Zz [o1] [] [] [] [])) (live := [0]) (u := vf) (bl := [some (.cells (Zb E_iiii L0) 24)]) (ob := ((((0 : Int) != (L0.length : Int)), true) :: [])) (by as_aux_lemma => kernel_rfl) (oD <| ZL) rfl (by decide) (by rfl) rr ⟨(ZE (E := E_iiii) (α := RA) _ L0 _), trivial⟩
 ·
  exact Mach.en_head (bK := Zhv 1) (M := Zdq L0 N) (cd := 1000000) (cm := 0) (y := (.h1m0 : Zbi)) (fu := 4000) (orc := (Zz [o0] [] [] [] [])) (live := [0]) (tv := [some (vn), some (vs 0 0 L0.length L0.length), some (vq)]) (bl := [some (.cells (Zb E_iiii L0) 24)]) (ob := ((((0 : Int) != (L0.length : Int)), false) :: [])) rfl rfl (show Zaw (Zhv 1).2 = [] from rfl) (by as_aux_lemma => kernel_rfl) (oE <| ZL) rfl (by decide) (by rfl) ⟨rr, ⟨rr, ⟨rr, trivial⟩⟩⟩ ⟨(ZE (E := E_iiii) (α := RA) _ L0 _), trivial⟩

theorem Zoe (L0 : List RA) (N : Nat) (r : Zbu) (h : ZkD L0 N = some r) : LSpec Tryd.prog 10 #[vn, vs 0 0 L0.length L0.length] [.cells (Zb E_iiii L0) 24] (ZmE L0 r) (ZlC L0 r) :=
 Mach.spec Zmd (Zdq L0 N) Tryd.func10 (by kernel_rfl) (by kernel_rfl) (fun x => by cases x <;> exact Zay _ rfl) (fun r => by cases r <;> exact Zay _ rfl) (fun x => by
  cases x with
  | h1m0 => exact fun _ => (show ¬ (1 ∈ Zaw (Zhv 1).2) from by decide +kernel)
  ) (fun x => (show (Zdq L0 N).Ok Tryd.prog Zep x (ZfI L0 N x) from by
  cases x with
  | h1m0 => exact Znn L0 N
  )) (Zp8 L0 N) (n := N) h

noncomputable def ZlD (L0 : List RA) (w1 : Bool) (k0 n : Nat) : ZaG := .call [(k0, .cells (Zb E_iiii L0) 24)] (Value.bool w1) [] 0
def ZiU (A : Array Value) (L0 : List RA) (w1 : Bool) (k0 n : Nat) : Prop := ZB Tryd.prog 10 A [(k0, .cells (Zb E_iiii L0) 24)] (Value.bool w1) [] n 0

theorem ZlE (A : Array Value) (L0 : List RA) (w1 : Bool) (N : Nat) (h : ZkD L0 N = some (.r0 w1)) (k0 n : Nat) (hA : A = #[vn, vs k0 0 L0.length L0.length]) (hnd : ([k0] : List Nat).Nodup) (hlt : ∀ k ∈ ([k0] : List Nat), k < n) : ZiU A L0 w1 k0 n :=
 Zaq hA (LSpec.callL (show LSpec Tryd.prog 10 #[vn, vs 0 0 L0.length L0.length] [.cells (Zb E_iiii L0) 24] (Value.bool w1) [some (.cells (Zb E_iiii L0) 24)] from Zoe L0 N _ h) [k0] n [] rfl hnd hlt (show 1 ≤ 1 from by decide) (show ∀ j ∈ ([] : List Nat), j < 1 from by decide) (by rfl) ⟨(Zp _ _ _), trivial⟩ (by rfl) ⟨(Zp _ _ _), trivial⟩ ⟨.inr rfl, trivial⟩ rfl rfl rfl (Zd (Zk rfl (Ze5 _ _ _)) rfl) rfl)

noncomputable def ZkQ (L0 L1 : List RA) : ZaF → Value
 | .r0 w1 => Value.bool w1
noncomputable def Zkh (L0 L1 : List RA) : ZaF → List (Option AObj)
 | .r0 w1 => [some (.cells (Zb E_iiii L1) 24)]

def ZoO : ref11_Same_2X → Nat
 | .h1m0 v2 => 1
noncomputable def Zp9 (L0 L1 : List RA) : ref11_Same_2X → List (Nat × Value)
 | .h1m0 v2 => [(0, ms E_iiii L0), (1, vs 0 0 L1.length L1.length), (5, vi (v2 : Int))]
noncomputable def ZpA (L0 L1 : List RA) : ref11_Same_2X → List (Option AObj)
 | .h1m0 v2 => [some (.cells (Zb E_iiii L1) 24)]

noncomputable def ZdD : Nat → Code × List ZbE
 | 1 => ZeE [1, 1, 0, 1, 3] (Zhs Tryd.f10) []
 | _ => (.skip, [])
def Zki : Nat → Bool
 | 1 => true
 | _ => true
noncomputable def ZpB (i : Nat) : List ZbE := match Zki i with | true => .rnd i :: (ZdD i).2 | false => (ZdD i).2

noncomputable def Zbv (L0 L1 : List RA) (N : Nat) : Mach := ⟨Tryd.f10, [.cells (Zb E_iiii L1) 24], ref11_Same_2X, ZaF, ZeC L0 L1 N, ZoO, ZdD, Zki, Zp9 L0 L1, ZpA L0 L1, ZkQ L0 L1, Zkh L0 L1⟩

noncomputable def Zjr (L0 L1 : List RA) (v2 : Nat) : List (Bool × Bool) := (dP (ZbP (code (ZeP E_iiii L0)) (0 + (v2 * 4)) 4 = some [.i (L0.getD v2 RA.z).a0, .i (L0.getD v2 RA.z).a1, .i (L0.getD v2 RA.z).a2, .i (L0.getD v2 RA.z).a3]), true) :: (Nat.blt v2 L0.length, true) :: ((v2 : Int) == Int.ofNat v2, true) :: ((decide ((v2 : Int) < (L0.length : Int))), true) :: []

noncomputable def ZgS (L0 L1 : List RA) (v2 : Nat) : List (Bool × Bool) := (ZaA (Z8 4 (List.drop (0 + (v2 * 4)) (Zb E_iiii L1))) [.i (L1.getD v2 RA.z).a0, .i (L1.getD v2 RA.z).a1, .i (L1.getD v2 RA.z).a2, .i (L1.getD v2 RA.z).a3], true) :: (Nat.blt v2 L1.length, true) :: ((v2 : Int) == Int.ofNat v2, true) :: Zjr L0 L1 v2

set_option maxHeartbeats 4000000 in
theorem ZlF (L0 L1 : List RA) (v2 N : Nat) : (Zbv L0 L1 N).Ok Tryd.prog Zep (.h1m0 v2 : ref11_Same_2X) (ZeC L0 L1 N (.h1m0 v2 : ref11_Same_2X)) := by
 show (Zbv L0 L1 N).Ok Tryd.prog Zep (.h1m0 v2 : ref11_Same_2X) (Zbz L0 L1 N v2)
 unfold Zbz
 refine Mach.ok_ite (fun g0 => ?_) (fun g0 => ?_)
 ·
  have w1 : OkL (Zjr L0 L1 v2) :=
   Zc (Zn (Zvi (E := E_iiii) (L := L0) (i := v2) (q := 0) (by omega) (show (0 + (v2 * 4)) = v2 * 4 + 0 from by omega) (show 0 + 4 ≤ 4 from by decide) rfl)) <| oB <| oI <| oY <| ZL
  refine Mach.ok_ite (fun g1 => ?_) (fun _ => Mach.ok_none)
  have w2 : OkL (ZgS L0 L1 v2) :=
   Zc (Zc4 (E := E_iiii) (L := L1) (i := v2) (q := 0) (by omega) (show (0 + (v2 * 4)) = v2 * 4 + 0 from by omega) (show 0 + 4 ≤ 4 from by decide) rfl rfl) <| oB <| oI <| w1
  refine Mach.ok_ite (fun g2 => ?_) (fun g2 => ?_)
  ·
   exact Mach.ok_fin (M := Zbv L0 L1 N) (cd := 1000000) (cm := 0) (r := (.r0 (false) : ZaF)) (fu := 4000) (orc := (Zz [o1, o1] [] [(0, v2), (1, v2)] [(0, [.i (L0.getD v2 RA.z).a0, .i (L0.getD v2 RA.z).a1, .i (L0.getD v2 RA.z).a2, .i (L0.getD v2 RA.z).a3]), (1, [.i (L1.getD v2 RA.z).a0, .i (L1.getD v2 RA.z).a1, .i (L1.getD v2 RA.z).a2, .i (L1.getD v2 RA.z).a3])] [])) (live := [0]) (u := vf) (bl := [some (.cells (Zb E_iiii L1) 24)]) (ob := (((!(((L0.getD v2 RA.z).a0 == (L1.getD v2 RA.z).a0) && (((L0.getD v2 RA.z).a1 == (L1.getD v2 RA.z).a1) && (((L0.getD v2 RA.z).a2 == (L1.getD v2 RA.z).a2) && (((L0.getD v2 RA.z).a3 == (L1.getD v2 RA.z).a3) && true))))), true) :: ZgS L0 L1 v2)) (fun gv => by as_aux_lemma => kernel_rfl) (Zc (by rw [Bool.not_eq_true']; exact Bool.eq_false_iff.2 (by simp only [ne_eq, Bool.and_true, Bool.and_eq_true, beq_iff_eq]; first | omega | (intro hh; simp_all; done) | (intro hh; grind))) <| w2) rfl (by decide) (by rfl) rr ⟨(ZE (E := E_iiii) (α := RA) _ L1 _), trivial⟩
  ·
   refine Mach.ok_ite (fun g3 => ?_) (fun _ => Mach.ok_none)
   exact Mach.ok_next (M := Zbv L0 L1 N) (cd := 1000000) (cm := 0) (y := (.h1m0 ((v2 + 1)) : ref11_Same_2X)) (fu := 4000) (orc := (Zz [o1, o0] [(0, (((v2 + 1) : Nat) : Int))] [(0, v2), (1, v2)] [(0, [.i (L0.getD v2 RA.z).a0, .i (L0.getD v2 RA.z).a1, .i (L0.getD v2 RA.z).a2, .i (L0.getD v2 RA.z).a3]), (1, [.i (L1.getD v2 RA.z).a0, .i (L1.getD v2 RA.z).a1, .i (L1.getD v2 RA.z).a2, .i (L1.getD v2 RA.z).a3])] [])) (live := [0]) (tv := fun _ => [some (ms E_iiii L0), some (vs 0 0 L1.length L1.length), some (vi (((v2 + 1) : Nat) : Int))]) (bl := [some (.cells (Zb E_iiii L1) 24)]) (ob := (((IntKind.i64.wrap ((v2 : Int) + (1 : Int))) == (((v2 + 1) : Nat) : Int), true) :: ((!(((L0.getD v2 RA.z).a0 == (L1.getD v2 RA.z).a0) && (((L0.getD v2 RA.z).a1 == (L1.getD v2 RA.z).a1) && (((L0.getD v2 RA.z).a2 == (L1.getD v2 RA.z).a2) && (((L0.getD v2 RA.z).a3 == (L1.getD v2 RA.z).a3) && true))))), false) :: ZgS L0 L1 v2)) rfl (show 1 ∈ Zaw (ZpB 1) from by decide +kernel) (fun gv => by as_aux_lemma => kernel_rfl) (Zc (beq_iff_eq.2 ((wrap_i64 ltA).trans (by first | rfl | omega))) <| Zc (by rw [Bool.not_eq_false']; first | (simp only [beq_self_eq_true, Bool.and_self]; done) | (simp only [Bool.and_true, Bool.and_eq_true, beq_iff_eq] <;> first | omega | (simp_all; done) | grind)) <| w2) rfl (by decide) (by rfl) (fun _ => ⟨rr, ⟨rr, ⟨rr, trivial⟩⟩⟩) ⟨(ZE (E := E_iiii) (α := RA) _ L1 _), trivial⟩
 ·
  exact Mach.ok_fin (M := Zbv L0 L1 N) (cd := 1000000) (cm := 0) (r := (.r0 (true) : ZaF)) (fu := 4000) (orc := (Zz [o0] [] [] [] [])) (live := [0]) (u := vT) (bl := [some (.cells (Zb E_iiii L1) 24)]) (ob := (((decide ((v2 : Int) < (L0.length : Int))), false) :: [])) (fun gv => by as_aux_lemma => kernel_rfl) (oN <| ZL) rfl (by decide) (by rfl) rr ⟨(ZE (E := E_iiii) (α := RA) _ L1 _), trivial⟩

set_option maxHeartbeats 4000000 in
theorem Zof (L0 L1 : List RA) (N : Nat) : (Zbv L0 L1 N).Enter Tryd.prog Zep #[ms E_iiii L0, vs 0 0 L1.length L1.length] (Zeo L0 L1 N) := by
 unfold Zeo
 refine Mach.en_ite (fun g0 => ?_) (fun g0 => ?_)
 ·
  exact Mach.en_fin (M := Zbv L0 L1 N) (cd := 1000000) (cm := 0) (r := (.r0 (false) : ZaF)) (fu := 4000) (orc := (Zz [o1] [] [] [] [])) (live := [0]) (u := vf) (bl := [some (.cells (Zb E_iiii L1) 24)]) (ob := ((((L0.length : Int) != (L1.length : Int)), true) :: [])) (by as_aux_lemma => kernel_rfl) (oD <| ZL) rfl (by decide) (by rfl) rr ⟨(ZE (E := E_iiii) (α := RA) _ L1 _), trivial⟩
 ·
  exact Mach.en_head (bK := ZdD 1) (M := Zbv L0 L1 N) (cd := 1000000) (cm := 0) (y := (.h1m0 (0) : ref11_Same_2X)) (fu := 4000) (orc := (Zz [o0] [] [] [] [])) (live := [0]) (tv := [some (ms E_iiii L0), some (vs 0 0 L1.length L1.length), some (vq)]) (bl := [some (.cells (Zb E_iiii L1) 24)]) (ob := ((((L0.length : Int) != (L1.length : Int)), false) :: [])) rfl rfl (show Zaw (ZdD 1).2 = [] from rfl) (by as_aux_lemma => kernel_rfl) (oE <| ZL) rfl (by decide) (by rfl) ⟨rr, ⟨rr, ⟨⟨Eq.trans (show (vi ((0 : Nat) : Int) : Value) = vq from (congrArg (Value.int .i64) (by first | rfl | omega))) (by rfl), by rfl⟩, trivial⟩⟩⟩ ⟨(ZE (E := E_iiii) (α := RA) _ L1 _), trivial⟩

theorem Zmw (L0 L1 : List RA) (N : Nat) (r : ZaF) (h : Zf9 L0 L1 N = some r) : LSpec Tryd.prog 10 #[ms E_iiii L0, vs 0 0 L1.length L1.length] [.cells (Zb E_iiii L1) 24] (ZkQ L0 L1 r) (Zkh L0 L1 r) :=
 Mach.spec Zmd (Zbv L0 L1 N) Tryd.func10 (by kernel_rfl) (by kernel_rfl) (fun x => by cases x <;> exact Zay _ rfl) (fun r => by cases r <;> exact Zay _ rfl) (fun x => by
  cases x with
  | h1m0 _ => exact fun _ => (show ¬ (1 ∈ Zaw (ZdD 1).2) from by decide +kernel)
  ) (fun x => (show (Zbv L0 L1 N).Ok Tryd.prog Zep x (ZeC L0 L1 N x) from by
  cases x with
  | h1m0 v2 => exact ZlF L0 L1 v2 N
  )) (Zof L0 L1 N) (n := N) h

noncomputable def Zkj (L0 L1 : List RA) (w1 : Bool) (k0 n : Nat) : ZaG := .call [(k0, .cells (Zb E_iiii L1) 24)] (Value.bool w1) [] 0
def Zho (A : Array Value) (L0 L1 : List RA) (w1 : Bool) (k0 n : Nat) : Prop := ZB Tryd.prog 10 A [(k0, .cells (Zb E_iiii L1) 24)] (Value.bool w1) [] n 0

theorem Zkk (A : Array Value) (L0 L1 : List RA) (w1 : Bool) (N : Nat) (h : Zf9 L0 L1 N = some (.r0 w1)) (k0 n : Nat) (hA : A = #[ms E_iiii L0, vs k0 0 L1.length L1.length]) (hnd : ([k0] : List Nat).Nodup) (hlt : ∀ k ∈ ([k0] : List Nat), k < n) : Zho A L0 L1 w1 k0 n :=
 Zaq hA (LSpec.callL (show LSpec Tryd.prog 10 #[ms E_iiii L0, vs 0 0 L1.length L1.length] [.cells (Zb E_iiii L1) 24] (Value.bool w1) [some (.cells (Zb E_iiii L1) 24)] from Zmw L0 L1 N _ h) [k0] n [] rfl hnd hlt (show 1 ≤ 1 from by decide) (show ∀ j ∈ ([] : List Nat), j < 1 from by decide) (by rfl) ⟨(Zp _ _ _), trivial⟩ (by rfl) ⟨(Zp _ _ _), trivial⟩ ⟨.inr rfl, trivial⟩ rfl rfl rfl (Zd (Zk rfl (Ze5 _ _ _)) rfl) rfl)

noncomputable def Zjs (a0 a1 a2 a3 : Int) : Z2 → Value
 | .r0 w0 => Value.bool w0
noncomputable def ZiV (a0 a1 a2 a3 : Int) : Z2 → List (Option AObj)
 | .r0 w0 => []

noncomputable def ZdZ (a0 a1 a2 a3 : Int) (y0_0 : List Int) (y0_1 : Int) : List (Bool × Bool) := (dP (Zod #[Value.agg #[vi a0, vi a1, vi a2, vi a3]] (a0) (a1) (a2) (a3)  y0_0 y0_1  1), true) :: []

noncomputable def ZfS (a0 a1 a2 a3 : Int) (y0_0 : List Int) (y0_1 : Int) : List (Bool × Bool) := (dP (((((Za y0_0)).size + ((Za (bl [10]))).size : Nat) : Int) ≤ IntKind.i64.max), true) :: ((y0_1 != (0 : Int)), false) :: ZdZ a0 a1 a2 a3 y0_0 y0_1

noncomputable def Za9 (a0 a1 a2 a3 : Int) (y0_0 : List Int) (y0_1 y3_0 y3_1 : Int) : List (Bool × Bool) := (dP (ZmC #[Value.string ((Za y0_0) ++ (Za (bl [10])))] ((y0_0 ++ (bl [10])))  y3_0 y3_1  1), true) :: ZfS a0 a1 a2 a3 y0_0 y0_1

noncomputable def Zde (a0 a1 a2 a3 : Int) (y0_0 : List Int) (y0_1 : Int) (y3_0 : List RA) : List (Bool × Bool) := (dP (ZmD #[Value.string ((Za y0_0) ++ (Za (bl [10])))] ((y0_0 ++ (bl [10])))  y3_0  1), true) :: ZfS a0 a1 a2 a3 y0_0 y0_1

set_option maxHeartbeats 4000000 in
theorem Zmx (a0 a1 a2 a3 : Int) (N : Nat) : Fx Tryd.prog Zep Tryd.f3 [] #[Value.agg #[vi a0, vi a1, vi a2, vi a3]] (Zjs a0 a1 a2 a3) (ZiV a0 a1 a2 a3) (Zdy a0 a1 a2 a3 N) := by
 unfold Zdy
 refine ZjR (fun z0 c0 => ?_)
 cases z0 with
 | r0 y0_0 y0_1 =>
  have w1 : OkL (ZdZ a0 a1 a2 a3 y0_0 y0_1) :=
   Zc (Zn (Zty #[Value.agg #[vi a0, vi a1, vi a2, vi a3]] (a0) (a1) (a2) (a3)  y0_0 y0_1 N c0  1 rfl dcd dcd)) <| ZL
  refine Zat (fun g1 => ?_) (fun g1 => ?_)
  ·
   refine Zat (fun g2 => ?_) (fun g2 => ?_)
   ·
    exact Zal (r := (.r0 (true) : Z2)) (fu := 4000) (orc := (Zz [o1, o1] [] [] [] [(0, (ZaU (a0) (a1) (a2) (a3)  y0_0 y0_1  1))])) (live := []) (u := vT) (bl := []) (ob := ((((Za y0_0).toList == (⟨#[]⟩ : ByteArray).toList), true) :: ((y0_1 != (0 : Int)), true) :: ZdZ a0 a1 a2 a3 y0_0 y0_1)) (by as_aux_lemma => kernel_rfl) (Zc (Zbq (x := y0_0) (y := ([] : List Int)) (by assumption)) <| oD <| w1) rfl (by decide) (by rfl) rr trivial
   ·
    exact Zal (r := (.r0 (false) : Z2)) (fu := 4000) (orc := (Zz [o1, o0] [] [] [] [(0, (ZaU (a0) (a1) (a2) (a3)  y0_0 y0_1  1))])) (live := []) (u := vf) (bl := []) (ob := ((((Za y0_0).toList == (⟨#[]⟩ : ByteArray).toList), false) :: ((y0_1 != (0 : Int)), true) :: ZdZ a0 a1 a2 a3 y0_0 y0_1)) (by as_aux_lemma => kernel_rfl) (Zc (Zbb (x := y0_0) (y := ([] : List Int)) (by assumption)) <| oD <| w1) rfl (by decide) (by rfl) rr trivial
  ·
   refine Zat (fun g2 => ?_) (fun _ => Zso)
   have w3 : OkL (ZfS a0 a1 a2 a3 y0_0 y0_1) :=
    Zc (Zn (Zai (x := y0_0) (y := (bl [10])) rfl rfl ltA)) <| oE <| w1
   refine ZjR (fun z3 c3 => ?_)
   cases z3 with
   | r0 y3_0 y3_1 =>
    have w4 : OkL (Za9 a0 a1 a2 a3 y0_0 y0_1 y3_0 y3_1) :=
     Zc (Zn (ZrN #[Value.string ((Za y0_0) ++ (Za (bl [10])))] ((y0_0 ++ (bl [10])))  y3_0 y3_1 N c3  1 (Zhi (Zd (congrArg Value.string sE) rfl)) (by decide) (by decide))) <| w3
    refine Zat (fun g4 => ?_) (fun g4 => ?_)
    ·
     refine Zat (fun g5 => ?_) (fun g5 => ?_)
     ·
      refine Zat (fun g6 => ?_) (fun g6 => ?_)
      ·
       exact Zal (r := (.r0 (true) : Z2)) (fu := 4000) (orc := (Zz [o0, o1, o1, o1] [] [] [] [(0, (ZaU (a0) (a1) (a2) (a3)  y0_0 y0_1  1)), (1, (Zci ((y0_0 ++ (bl [10])))  y3_0 y3_1  1))])) (live := []) (u := vT) (bl := []) (ob := (((y3_0 == (1 : Int)), true) :: ((y3_1 == (130 : Int)), true) :: ((a0 == (8 : Int)), true) :: Za9 a0 a1 a2 a3 y0_0 y0_1 y3_0 y3_1)) (by as_aux_lemma => kernel_rfl) (oT <| oT <| oT <| w4) rfl (by decide) (by rfl) rr trivial
      ·
       exact Zal (r := (.r0 (false) : Z2)) (fu := 4000) (orc := (Zz [o0, o1, o1, o0] [] [] [] [(0, (ZaU (a0) (a1) (a2) (a3)  y0_0 y0_1  1)), (1, (Zci ((y0_0 ++ (bl [10])))  y3_0 y3_1  1))])) (live := []) (u := vf) (bl := []) (ob := (((y3_0 == (1 : Int)), false) :: ((y3_1 == (130 : Int)), true) :: ((a0 == (8 : Int)), true) :: Za9 a0 a1 a2 a3 y0_0 y0_1 y3_0 y3_1)) (by as_aux_lemma => kernel_rfl) (oF <| oT <| oT <| w4) rfl (by decide) (by rfl) rr trivial
     ·
      exact Zal (r := (.r0 (false) : Z2)) (fu := 4000) (orc := (Zz [o0, o1, o0] [] [] [] [(0, (ZaU (a0) (a1) (a2) (a3)  y0_0 y0_1  1)), (1, (Zci ((y0_0 ++ (bl [10])))  y3_0 y3_1  1))])) (live := []) (u := vf) (bl := []) (ob := (((y3_1 == (130 : Int)), false) :: ((a0 == (8 : Int)), true) :: Za9 a0 a1 a2 a3 y0_0 y0_1 y3_0 y3_1)) (by as_aux_lemma => kernel_rfl) (oF <| oT <| w4) rfl (by decide) (by rfl) rr trivial
    ·
     refine Zat (fun g5 => ?_) (fun g5 => ?_)
     ·
      refine Zat (fun g6 => ?_) (fun g6 => ?_)
      ·
       refine Zat (fun g7 => ?_) (fun g7 => ?_)
       ·
        exact Zal (r := (.r0 (true) : Z2)) (fu := 4000) (orc := (Zz [o0, o0, o1, o1, o1] [] [] [] [(0, (ZaU (a0) (a1) (a2) (a3)  y0_0 y0_1  1)), (1, (Zci ((y0_0 ++ (bl [10])))  y3_0 y3_1  1))])) (live := []) (u := vT) (bl := []) (ob := (((y3_0 == (1 : Int)), true) :: ((y3_1 == (130 : Int)), true) :: ((a0 == (9 : Int)), true) :: ((a0 == (8 : Int)), false) :: Za9 a0 a1 a2 a3 y0_0 y0_1 y3_0 y3_1)) (by as_aux_lemma => kernel_rfl) (oT <| oT <| oT <| oF <| w4) rfl (by decide) (by rfl) rr trivial
       ·
        exact Zal (r := (.r0 (false) : Z2)) (fu := 4000) (orc := (Zz [o0, o0, o1, o1, o0] [] [] [] [(0, (ZaU (a0) (a1) (a2) (a3)  y0_0 y0_1  1)), (1, (Zci ((y0_0 ++ (bl [10])))  y3_0 y3_1  1))])) (live := []) (u := vf) (bl := []) (ob := (((y3_0 == (1 : Int)), false) :: ((y3_1 == (130 : Int)), true) :: ((a0 == (9 : Int)), true) :: ((a0 == (8 : Int)), false) :: Za9 a0 a1 a2 a3 y0_0 y0_1 y3_0 y3_1)) (by as_aux_lemma => kernel_rfl) (oF <| oT <| oT <| oF <| w4) rfl (by decide) (by rfl) rr trivial
      ·
       exact Zal (r := (.r0 (false) : Z2)) (fu := 4000) (orc := (Zz [o0, o0, o1, o0] [] [] [] [(0, (ZaU (a0) (a1) (a2) (a3)  y0_0 y0_1  1)), (1, (Zci ((y0_0 ++ (bl [10])))  y3_0 y3_1  1))])) (live := []) (u := vf) (bl := []) (ob := (((y3_1 == (130 : Int)), false) :: ((a0 == (9 : Int)), true) :: ((a0 == (8 : Int)), false) :: Za9 a0 a1 a2 a3 y0_0 y0_1 y3_0 y3_1)) (by as_aux_lemma => kernel_rfl) (oF <| oT <| oF <| w4) rfl (by decide) (by rfl) rr trivial
     ·
      refine Zat (fun g6 => ?_) (fun g6 => ?_)
      ·
       refine Zat (fun g7 => ?_) (fun g7 => ?_)
       ·
        refine ZjR (fun z8 c8 => ?_)
        cases z8 with
        | r0 y8_0 =>
         refine Zat (fun g9 => ?_) (fun g9 => ?_)
         ·
          subst g9
          exact Zal (r := (.r0 (true) : Z2)) (fu := 4000) (orc := (Zz [o0, o0, o0, o1, o1] [] [] [] [(0, (ZaU (a0) (a1) (a2) (a3)  y0_0 y0_1  1)), (1, (Zci ((y0_0 ++ (bl [10])))  y3_0 y3_1  1)), (2, (ZlD (([(⟨a0, a1, a2, a3⟩ : RA)] : List RA))  true 1 2))])) (live := []) (u := vT) (bl := []) (ob := ((dP (ZiU #[vn, vs 1 0 1 1] (([(⟨a0, a1, a2, a3⟩ : RA)] : List RA))  true 1 2), true) :: (dP ([vi a0, vi a1, vi a2, vi a3] = (Zb E_iiii ([(⟨a0, a1, a2, a3⟩ : RA)] : List RA))), true) :: ((y3_0 == (0 : Int)), true) :: ((y3_1 == (0 : Int)), true) :: ((a0 == (9 : Int)), false) :: ((a0 == (8 : Int)), false) :: Za9 a0 a1 a2 a3 y0_0 y0_1 y3_0 y3_1)) (by as_aux_lemma => kernel_rfl) (Zc (Zn (ZlE #[vn, vs 1 0 1 1] (([(⟨a0, a1, a2, a3⟩ : RA)] : List RA))  true N c8 1 2 (Zhi (Zd rfl (Zd (ZS rfl eqA eqA) rfl))) (by decide) (by decide))) <| Zc (Zn (show ([vi a0, vi a1, vi a2, vi a3] : List Value) = (Zb E_iiii ([(⟨a0, a1, a2, a3⟩ : RA)] : List RA)) from rfl)) <| oT <| oT <| oF <| oF <| w4) rfl (by decide) (by rfl) rr trivial
         ·
          obtain rfl : y8_0 = false := by simpa using g9
          exact Zal (r := (.r0 (false) : Z2)) (fu := 4000) (orc := (Zz [o0, o0, o0, o1, o1] [] [] [] [(0, (ZaU (a0) (a1) (a2) (a3)  y0_0 y0_1  1)), (1, (Zci ((y0_0 ++ (bl [10])))  y3_0 y3_1  1)), (2, (ZlD (([(⟨a0, a1, a2, a3⟩ : RA)] : List RA))  false 1 2))])) (live := []) (u := vf) (bl := []) (ob := ((dP (ZiU #[vn, vs 1 0 1 1] (([(⟨a0, a1, a2, a3⟩ : RA)] : List RA))  false 1 2), true) :: (dP ([vi a0, vi a1, vi a2, vi a3] = (Zb E_iiii ([(⟨a0, a1, a2, a3⟩ : RA)] : List RA))), true) :: ((y3_0 == (0 : Int)), true) :: ((y3_1 == (0 : Int)), true) :: ((a0 == (9 : Int)), false) :: ((a0 == (8 : Int)), false) :: Za9 a0 a1 a2 a3 y0_0 y0_1 y3_0 y3_1)) (by as_aux_lemma => kernel_rfl) (Zc (Zn (ZlE #[vn, vs 1 0 1 1] (([(⟨a0, a1, a2, a3⟩ : RA)] : List RA))  false N c8 1 2 (Zhi (Zd rfl (Zd (ZS rfl eqA eqA) rfl))) (by decide) (by decide))) <| Zc (Zn (show ([vi a0, vi a1, vi a2, vi a3] : List Value) = (Zb E_iiii ([(⟨a0, a1, a2, a3⟩ : RA)] : List RA)) from rfl)) <| oT <| oT <| oF <| oF <| w4) rfl (by decide) (by rfl) rr trivial
       ·
        exact Zal (r := (.r0 (false) : Z2)) (fu := 4000) (orc := (Zz [o0, o0, o0, o1, o0] [] [] [] [(0, (ZaU (a0) (a1) (a2) (a3)  y0_0 y0_1  1)), (1, (Zci ((y0_0 ++ (bl [10])))  y3_0 y3_1  1))])) (live := []) (u := vf) (bl := []) (ob := (((y3_0 == (0 : Int)), false) :: ((y3_1 == (0 : Int)), true) :: ((a0 == (9 : Int)), false) :: ((a0 == (8 : Int)), false) :: Za9 a0 a1 a2 a3 y0_0 y0_1 y3_0 y3_1)) (by as_aux_lemma => kernel_rfl) (oF <| oT <| oF <| oF <| w4) rfl (by decide) (by rfl) rr trivial
      ·
       exact Zal (r := (.r0 (false) : Z2)) (fu := 4000) (orc := (Zz [o0, o0, o0, o0] [] [] [] [(0, (ZaU (a0) (a1) (a2) (a3)  y0_0 y0_1  1)), (1, (Zci ((y0_0 ++ (bl [10])))  y3_0 y3_1  1))])) (live := []) (u := vf) (bl := []) (ob := (((y3_1 == (0 : Int)), false) :: ((a0 == (9 : Int)), false) :: ((a0 == (8 : Int)), false) :: Za9 a0 a1 a2 a3 y0_0 y0_1 y3_0 y3_1)) (by as_aux_lemma => kernel_rfl) (oF <| oF <| oF <| w4) rfl (by decide) (by rfl) rr trivial
   | r1 y3_0 =>
    have w4 : OkL (Zde a0 a1 a2 a3 y0_0 y0_1 y3_0) :=
     Zc (Zn (ZrO #[Value.string ((Za y0_0) ++ (Za (bl [10])))] ((y0_0 ++ (bl [10])))  y3_0 N c3  1 (Zhi (Zd (congrArg Value.string sE) rfl)) (by decide) (by decide))) <| w3
    refine Zat (fun g4 => ?_) (fun g4 => ?_)
    ·
     exact Zal (r := (.r0 (false) : Z2)) (fu := 4000) (orc := (Zz [o0, o1] [] [] [] [(0, (ZaU (a0) (a1) (a2) (a3)  y0_0 y0_1  1)), (1, (Zht ((y0_0 ++ (bl [10])))  y3_0  1))])) (live := []) (u := vf) (bl := []) (ob := (((a0 == (8 : Int)), true) :: Zde a0 a1 a2 a3 y0_0 y0_1 y3_0)) (by as_aux_lemma => kernel_rfl) (oT <| w4) rfl (by decide) (by rfl) rr trivial
    ·
     refine Zat (fun g5 => ?_) (fun g5 => ?_)
     ·
      exact Zal (r := (.r0 (false) : Z2)) (fu := 4000) (orc := (Zz [o0, o0, o1] [] [] [] [(0, (ZaU (a0) (a1) (a2) (a3)  y0_0 y0_1  1)), (1, (Zht ((y0_0 ++ (bl [10])))  y3_0  1))])) (live := []) (u := vf) (bl := []) (ob := (((a0 == (9 : Int)), true) :: ((a0 == (8 : Int)), false) :: Zde a0 a1 a2 a3 y0_0 y0_1 y3_0)) (by as_aux_lemma => kernel_rfl) (oT <| oF <| w4) rfl (by decide) (by rfl) rr trivial
     ·
      refine ZjR (fun z6 c6 => ?_)
      cases z6 with
      | r0 y6_0 =>
       refine Zat (fun g7 => ?_) (fun g7 => ?_)
       ·
        subst g7
        exact Zal (r := (.r0 (true) : Z2)) (fu := 4000) (orc := (Zz [o0, o0, o0] [] [] [] [(0, (ZaU (a0) (a1) (a2) (a3)  y0_0 y0_1  1)), (1, (Zht ((y0_0 ++ (bl [10])))  y3_0  1)), (2, (Zkj (y3_0) (([(⟨a0, a1, a2, a3⟩ : RA)] : List RA))  true 1 2))])) (live := []) (u := vT) (bl := []) (ob := ((dP (Zho #[ms E_iiii y3_0, vs 1 0 1 1] (y3_0) (([(⟨a0, a1, a2, a3⟩ : RA)] : List RA))  true 1 2), true) :: (dP ([vi a0, vi a1, vi a2, vi a3] = (Zb E_iiii ([(⟨a0, a1, a2, a3⟩ : RA)] : List RA))), true) :: ((a0 == (9 : Int)), false) :: ((a0 == (8 : Int)), false) :: Zde a0 a1 a2 a3 y0_0 y0_1 y3_0)) (by as_aux_lemma => kernel_rfl) (Zc (Zn (Zkk #[ms E_iiii y3_0, vs 1 0 1 1] (y3_0) (([(⟨a0, a1, a2, a3⟩ : RA)] : List RA))  true N c6 1 2 (Zhi (Zd rfl (Zd (ZS rfl eqA eqA) rfl))) (by decide) (by decide))) <| Zc (Zn (show ([vi a0, vi a1, vi a2, vi a3] : List Value) = (Zb E_iiii ([(⟨a0, a1, a2, a3⟩ : RA)] : List RA)) from rfl)) <| oF <| oF <| w4) rfl (by decide) (by rfl) rr trivial
       ·
        obtain rfl : y6_0 = false := by simpa using g7
        exact Zal (r := (.r0 (false) : Z2)) (fu := 4000) (orc := (Zz [o0, o0, o0] [] [] [] [(0, (ZaU (a0) (a1) (a2) (a3)  y0_0 y0_1  1)), (1, (Zht ((y0_0 ++ (bl [10])))  y3_0  1)), (2, (Zkj (y3_0) (([(⟨a0, a1, a2, a3⟩ : RA)] : List RA))  false 1 2))])) (live := []) (u := vf) (bl := []) (ob := ((dP (Zho #[ms E_iiii y3_0, vs 1 0 1 1] (y3_0) (([(⟨a0, a1, a2, a3⟩ : RA)] : List RA))  false 1 2), true) :: (dP ([vi a0, vi a1, vi a2, vi a3] = (Zb E_iiii ([(⟨a0, a1, a2, a3⟩ : RA)] : List RA))), true) :: ((a0 == (9 : Int)), false) :: ((a0 == (8 : Int)), false) :: Zde a0 a1 a2 a3 y0_0 y0_1 y3_0)) (by as_aux_lemma => kernel_rfl) (Zc (Zn (Zkk #[ms E_iiii y3_0, vs 1 0 1 1] (y3_0) (([(⟨a0, a1, a2, a3⟩ : RA)] : List RA))  false N c6 1 2 (Zhi (Zd rfl (Zd (ZS rfl eqA eqA) rfl))) (by decide) (by decide))) <| Zc (Zn (show ([vi a0, vi a1, vi a2, vi a3] : List Value) = (Zb E_iiii ([(⟨a0, a1, a2, a3⟩ : RA)] : List RA)) from rfl)) <| oF <| oF <| w4) rfl (by decide) (by rfl) rr trivial

theorem ZkR (a0 a1 a2 a3 : Int) (N : Nat) (r : Z2) (h : Zdy a0 a1 a2 a3 N = some r) : LSpec Tryd.prog 3 #[Value.agg #[vi a0, vi a1, vi a2, vi a3]] [] (Zjs a0 a1 a2 a3 r) (ZiV a0 a1 a2 a3 r) :=
 ZlY Zmd Tryd.func3 (by kernel_rfl) (by kernel_rfl) (fun r => by cases r <;> exact Zay _ rfl) (Zmx a0 a1 a2 a3 N) h

end Ev
end Go.Proofs.YtlbbiflodemagaaDoor
/- Plain lemmas: machines step by step, lists by their places. -/
namespace Go.Proofs.YtlbbiflodemagaaDoor
open Go.RowKit
namespace Ev
section
variable {X R : Type} {step : X → Option (X ⊕ R)} {n : Nat} {x y : X} {r : R}
theorem ZhL (h : step x = some (.inl y)) : Zd6 step (n + 1) x = Zd6 step n y := by simp [Zd6, h]
theorem Zdr (h : step x = some (.inr r)) : Zd6 step (n + 1) x = some r := by simp [Zd6, h]
theorem Zgy : ∀ {n m : Nat} {x : X} {r : R}, n ≤ m → Zd6 step n x = some r → Zd6 step m x = some r
 | 0, _, _, _, _, h => by cases h
 | n + 1, 0, _, _, h, _ => by omega
 | n + 1, m + 1, x, r, h, e => by
  simp only [Zd6] at e ⊢
  cases hs : step x with
  | none => rw [hs] at e; cases e
  | some y =>
   rw [hs] at e
   cases y with
   | inl y => exact Zgy (by omega) e
   | inr r' => exact e
theorem Zog {o : Option (X ⊕ R)} (h : o = some (.inl x)) : goM step n o = Zd6 step n x := by subst h; rfl
theorem Zsu {o : Option (X ⊕ R)} (h : o = some (.inr r)) : goM step n o = some r := by subst h; rfl
end
section
variable {α : Type}
end
theorem Zc8 {α : Type} {c : Prop} [Decidable c] {a b r : α} (h1 : c → a = r) (h2 : ¬ c → b = r) : (if c then a else b) = r := by
 by_cases h : c
 ·rw [if_pos h]; exact h1 h
 ·rw [if_neg h]; exact h2 h
theorem Zv {α : Type} {c : Prop} [Decidable c] {a b r : α} (h : c) (e : a = r) : (if c then a else b) = r := by rw [if_pos h]; exact e
theorem ZF {α : Type} {c : Prop} [Decidable c] {a b r : α} (h : ¬ c) (e : b = r) : (if c then a else b) = r := by rw [if_neg h]; exact e
theorem Zah {α β : Type} {o : Option α} {a : α} {k : α → Option β} {r : Option β} (h : o = some a) (e : k a = r) : o.bind k = r := by rw [h]; exact e
theorem w64 {x : Int} (h1 : -9223372036854775808 ≤ x) (h2 : x ≤ 9223372036854775807) : IntKind.i64.wrap x = x := wrap_i64 ⟨h1, h2⟩
end Ev
end Go.Proofs.YtlbbiflodemagaaDoor
/- What Parse's parts are, plainly. -/
namespace Go.Proofs.YtlbbiflodemagaaDoor
open Go.RowKit
namespace Ev
set_option linter.unusedVariables false
theorem Zhp {x : List Int} : ZaM x [] = true ↔ x = [] := by
 constructor
 ·intro h
  have h1 : Za x = Za [] := bEq.1 h
  have h2 := congrArg ByteArray.size h1
  rw [ZT, ZT] at h2
  exact List.length_eq_zero_iff.1 h2
 ·intro h
  subst h
  exact bEq.2 rfl
theorem Zrg {c : Prop} [Decidable c] {α β : Type} {f : β → α} {A B : Option α} (h1 : ∃ x, A = some (f x)) (h2 : ∃ x, B = some (f x)) : ∃ x, (if c then A else B) = some (f x) := by
 by_cases h : c
 ·rw [if_pos h]; exact h1
 ·rw [if_neg h]; exact h2
theorem Zpv (a0 a1 a2 a3 : Int) (N : Nat) : ∃ c, ZG a0 a1 a2 a3 N = some (.r0 c) := by
 unfold ZG
 repeat' (first | exact ⟨_, rfl⟩ | refine Zrg ?_ ?_)
theorem Ztz (M : List Int) (N : Nat) : ∃ x : Int × Bool, Zbs M N = some (.r0 x.1 x.2) := by
 unfold Zbs
 repeat' (first | exact ⟨(_, _), rfl⟩ | refine Zrg (f := fun x : Int × Bool => instr_ByNameR.r0 x.1 x.2) ?_ ?_)
theorem Zrh (a : Int) (N : Nat) : ∃ s, ZI a N = some s := by
 unfold ZI
 repeat' (first | exact ⟨_, rfl⟩ | refine Zrg (f := id) ?_ ?_)
/-! ### Labels -/
def ZlG (c : Int) : Bool := decide (97 ≤ c ∧ c ≤ 122 ∨ 65 ≤ c ∧ c ≤ 90 ∨ 48 ≤ c ∧ c ≤ 57 ∨ c = 95)
def Zeq (M : List Int) : Bool := decide (1 ≤ M.length ∧ M.length ≤ 32) && M.all ZlG
theorem Zsv {c : Int} (h : 97 ≤ c ∧ c ≤ 122 ∨ 65 ≤ c ∧ c ≤ 90 ∨ 48 ≤ c ∧ c ≤ 57 ∨ c = 95) : ZlG c = true := decide_eq_true h
theorem ZwE {c : Int} (h : ¬ (97 ≤ c ∧ c ≤ 122 ∨ 65 ≤ c ∧ c ≤ 90 ∨ 48 ≤ c ∧ c ≤ 57 ∨ c = 95)) : ZlG c = false := decide_eq_false h
theorem Zvr (M : List Int) (N v : Nat) (h : v < M.length) (hM : M.length ≤ 32) : ZcB M N (.h1m0 v) = some (if ZlG (M.getD v 0) = true then .inl (.h1m0 (v + 1)) else .inr (.r0 false)) := by
 show ZbU M N v = _
 unfold ZbU
 generalize M.getD v 0 = c
 have hv : (((v + 1) : Nat) : Int) ≤ (9223372036854775807 : Int) := by omega
 refine Zv (by omega) ?_
 have Y : (h : 97 ≤ c ∧ c ≤ 122 ∨ 65 ≤ c ∧ c ≤ 90 ∨ 48 ≤ c ∧ c ≤ 57 ∨ c = 95) → (some (.inl (.h1m0 (v + 1))) : Option (ZZ ⊕ ZU)) = some (if ZlG c = true then .inl (.h1m0 (v + 1)) else .inr (.r0 false)) := fun h => by rw [if_pos (Zsv h)]
 have Z : (h : ¬ (97 ≤ c ∧ c ≤ 122 ∨ 65 ≤ c ∧ c ≤ 90 ∨ 48 ≤ c ∧ c ≤ 57 ∨ c = 95)) → (some (.inr (.r0 false)) : Option (ZZ ⊕ ZU)) = some (if ZlG c = true then .inl (.h1m0 (v + 1)) else .inr (.r0 false)) := fun h => by rw [if_neg (by rw [ZwE h]; decide)]
 refine Zc8 (fun g1 => Zc8 (fun g2 => Zv hv (Y (by omega))) (fun g2 => Z (by omega))) (fun g1 => Zc8 (fun g2 => Zc8 (fun g3 => Zv hv (Y (by omega))) (fun g3 => Zc8 (fun g4 => Zv hv (Y (by omega))) (fun g4 => Z (by omega)))) (fun g2 => Zc8 (fun g3 => Zc8 (fun g4 => Zv hv (Y (by omega))) (fun g4 => Z (by omega))) (fun g3 => Z (by omega))))
theorem Zri (M : List Int) (N : Nat) (hM : M.length ≤ 32) : ∀ (k v : Nat), v + k = M.length → Zd6 (ZcB M N) (k + 1) (.h1m0 v) = some (.r0 ((M.drop v).all ZlG))
 | 0, v, h => by
  refine Zdr ?_
  show ZbU M N v = _
  unfold ZbU
  rw [if_neg (by omega), List.drop_of_length_le (by omega)]
  rfl
 | k + 1, v, h => by
  have hs := Zvr M N v (by omega) hM
  have hd : M.drop v = M.getD v 0 :: M.drop (v + 1) := by
   rw [List.drop_eq_getElem_cons (by omega)]
   simp [List.getD, show v < M.length by omega]
  rw [hd, List.all_cons]
  cases hc : ZlG (M.getD v 0) with
  | true =>
   rw [hc, if_pos rfl] at hs
   rw [ZhL hs, Zri M N hM k (v + 1) (by omega)]
   simp
  | false =>
   rw [hc, if_neg (by decide)] at hs
   rw [Zdr hs]
   simp
theorem Zoh (M : List Int) (N : Nat) (hb : ZP M = true) (hN : 33 ≤ N) : ZeM M N = some (.r0 (Zeq M)) := by
 unfold ZeM Zeq
 by_cases h1 : M.length < 1
 ·rw [Zsu (r := .r0 false) (by unfold ZdB; rw [ZT, if_pos (by omega)])]
  rw [decide_eq_false (by omega)]; rfl
 ·by_cases h2 : 32 < M.length
  ·rw [Zsu (r := .r0 false) (by unfold ZdB; rw [ZT, if_neg (by omega), if_pos (by omega)])]
   rw [decide_eq_false (by omega)]; rfl
  ·rw [Zog (x := .h1m0 0) (by unfold ZdB; rw [ZT, if_neg (by omega), if_neg (by omega), if_pos hb])]
   rw [decide_eq_true (by omega), Bool.true_and]
   exact Zgy (by omega) (Zri M N (by omega) M.length 0 (by omega))
/-! ### Words -/
theorem Zpw (c : Int) : ∀ M, 0 < (ZH c M).length
 | [] => by simp [ZH]
 | x :: l => by
  unfold ZH
  by_cases h : x = c
  ·rw [if_pos h]; simp
  ·rw [if_neg h]; simp
theorem Zpx (c : Int) : ∀ (M w : List Int), w ∈ ZH c M → (∀ x ∈ w, x ∈ M) ∧ w.length ≤ M.length
 | [], w, h => by
  obtain rfl : w = [] := by simpa [ZH] using h
  exact ⟨fun x hx => (by cases hx), by simp⟩
 | x :: l, w, h => by
  have ih := Zpx c l
  unfold ZH at h
  by_cases hx : x = c
  ·rw [if_pos hx] at h
   rcases List.mem_cons.1 h with rfl | h
   ·exact ⟨fun x hx => (by cases hx), by simp⟩
   ·obtain ⟨h1, h2⟩ := ih w h
    exact ⟨fun y hy => List.mem_cons_of_mem _ (h1 y hy), by simp; omega⟩
  ·rw [if_neg hx] at h
   have hp := Zpw c l
   generalize ZH c l = S at *
   cases S with
   | nil => cases hp
   | cons a S =>
    simp only [List.headD_cons, List.tail_cons] at h
    rcases List.mem_cons.1 h with rfl | h
    ·obtain ⟨h1, h2⟩ := ih a (List.mem_cons_self ..)
     refine ⟨fun y hy => ?_, by simp; omega⟩
     rcases List.mem_cons.1 hy with rfl | hy
     ·exact List.mem_cons_self ..
     ·exact List.mem_cons_of_mem _ (h1 y hy)
    ·obtain ⟨h1, h2⟩ := ih w (List.mem_cons_of_mem _ h)
     exact ⟨fun y hy => List.mem_cons_of_mem _ (h1 y hy), by simp; omega⟩
theorem Zno {M : List Int} (h : ∀ x ∈ M, 0 ≤ x ∧ x ≤ 255) : ZP M = true := by
 unfold ZP
 rw [List.all_eq_true]
 intro x hx
 have := h x hx
 simp [this]
theorem Zsw {c : Int} {M : List Int} (hb : ZP M = true) (i : Nat) : ZP ((ZH c M).getD i []) = true ∧ ((ZH c M).getD i []).length ≤ M.length := by
 by_cases hi : i < (ZH c M).length
 ·have hm : (ZH c M).getD i [] ∈ ZH c M := by
   rw [show (ZH c M).getD i [] = (ZH c M)[i] by simp [List.getD, hi]]
   exact List.getElem_mem hi
  obtain ⟨h1, h2⟩ := Zpx c M _ hm
  exact ⟨Zno fun x hx => Zgw hb (h1 x hx), h2⟩
 ·rw [show (ZH c M).getD i [] = [] by simp [List.getD, List.getElem?_eq_none (Nat.le_of_not_lt hi)]]
  exact ⟨rfl, by simp⟩
theorem Zoi {M : List Int} (hb : ZP M = true) (k : Nat) : ZP (M.drop k) = true := Zno fun x hx => Zgw hb (List.mem_of_mem_drop hx)
/-! ### Operands -/
def ZaI (w : List Int) : Bool := decide (w.length = 2 ∧ bAt w 0 = 114 ∧ 48 ≤ bAt w 1 ∧ bAt w 1 < 56)
def Zj1 (w : List Int) : Bool := decide (1 < w.length ∧ bAt w 0 = 64) && Zeq (w.drop 1)
section
variable {L1 : List Int} {a2 : Int} {L3 : List RA} {L4 : List Int} {L5 : List R_is} {L6 : List (List Int)} {L7 : List R_si} {N : Nat}
theorem Zer (w : List Int) : ZA w L1 a2 L3 L4 L5 L6 L7 N = some (if ZaI w = true then .r0 else .r1) := by
 unfold ZA
 rw [ZT]
 have Y : (w.length = 2 ∧ bAt w 0 = 114 ∧ 48 ≤ bAt w 1 ∧ bAt w 1 < 56) → (some .r0 : Option Zar) = some (if ZaI w = true then .r0 else .r1) := fun h => by rw [if_pos (show ZaI w = true from decide_eq_true h)]
 have Z : ¬ (w.length = 2 ∧ bAt w 0 = 114 ∧ 48 ≤ bAt w 1 ∧ bAt w 1 < 56) → (some .r1 : Option Zar) = some (if ZaI w = true then .r0 else .r1) := fun h => by rw [if_neg (show ¬ (ZaI w = true) from by unfold ZaI; rw [decide_eq_false h]; decide)]
 exact Zc8 (fun g1 => Zc8 (fun g2 => Zc8 (fun g3 => Zc8 (fun g4 => Y ⟨by omega, g2, g3, g4⟩) fun g => Z fun h => g h.2.2.2) fun g => Z fun h => g h.2.2.1) fun g => Z fun h => g h.2.1) fun g => Z fun h => g (by omega)
theorem ZlH (w : List Int) (hb : ZP w = true) (hl : w.length ≤ 1000000) : Zao w L1 a2 L3 L4 L5 L6 L7 N = some (if Zbw w = true then .r0 else .r1) := by
 unfold Zao
 refine Zv hb <| Zv hl ?_
 cases Zbw w <;> rfl
theorem Zux (w : List Int) (hb : ZP w = true) (hj : L5.length ≤ 100000) (hN : 33 ≤ N) : ZaB w L1 a2 L3 L4 L5 L6 L7 N = some (if Zj1 w = true then .r0 else .r1) := by
 unfold ZaB Zj1
 rw [ZT]
 refine Zc8 (fun g1 => Zc8 (fun g2 => Zah (Zoh _ N (Zoi hb 1) hN) ?_) fun g2 => ?_) fun g1 => ?_
 ·rw [decide_eq_true ⟨by omega, g2⟩, Bool.true_and]
  show (if Zeq (w.drop 1) = true then _ else _) = _
  cases Zeq (w.drop 1) with
  | true => exact Zv rfl <| Zv hj rfl
  | false => exact ZF (by decide) rfl
 ·rw [decide_eq_false (fun h => g2 h.2)]; rfl
 ·rw [decide_eq_false (fun h => g1 (by omega))]; rfl
/-! ### An instruction's line -/
def ZaS (s : Zw) (op : Int) (W : List (List Int)) : Option (RA × Option (List Int)) :=
 match s with
 | .r0 => if W.length = 3 ∧ (ZaI (W.getD 1 []) && Zbw (W.getD 2 [])) = true then some (⟨op, bAt (W.getD 1 []) 1 - 48, ZK (W.getD 2 []), 0⟩, none) else none
 | .r1 => if W.length = 2 ∧ (Zj1 (W.getD 1 [])) = true then some (⟨op, 0, 0, 0⟩, some ((W.getD 1 []).drop 1)) else none
 | .r2 => if W.length = 3 ∧ (ZaI (W.getD 1 []) && Zj1 (W.getD 2 [])) = true then some (⟨op, bAt (W.getD 1 []) 1 - 48, 0, 0⟩, some ((W.getD 2 []).drop 1)) else none
 | .r3 => if W.length = 4 ∧ (ZaI (W.getD 1 []) && Zbw (W.getD 2 []) && Zbw (W.getD 3 [])) = true then some (⟨op, bAt (W.getD 1 []) 1 - 48, ZK (W.getD 2 []), ZK (W.getD 3 [])⟩, none) else none
 | .r4 => if W.length = 4 ∧ (ZaI (W.getD 1 []) && ZaI (W.getD 2 []) && Zbw (W.getD 3 [])) = true then some (⟨op, bAt (W.getD 1 []) 1 - 48, bAt (W.getD 2 []) 1 - 48, ZK (W.getD 3 [])⟩, none) else none
 | .r5 => if W.length = 4 ∧ (ZaI (W.getD 1 []) && Zbw (W.getD 2 []) && ZaI (W.getD 3 [])) = true then some (⟨op, bAt (W.getD 1 []) 1 - 48, ZK (W.getD 2 []), bAt (W.getD 3 []) 1 - 48⟩, none) else none
 | .r6 => if W.length = 1 ∧ (true) = true then some (⟨op, 0, 0, 0⟩, none) else none
 | .r7 => if W.length = 2 ∧ (ZaI (W.getD 1 [])) = true then some (⟨op, bAt (W.getD 1 []) 1 - 48, 0, 0⟩, none) else none
 | .r8 => if W.length = 3 ∧ (ZaI (W.getD 1 []) && ZaI (W.getD 2 [])) = true then some (⟨op, bAt (W.getD 1 []) 1 - 48, bAt (W.getD 2 []) 1 - 48, 0⟩, none) else none
 | .r9 => if W.length = 4 ∧ (ZaI (W.getD 1 []) && ZaI (W.getD 2 []) && ZaI (W.getD 3 [])) = true then some (⟨op, bAt (W.getD 1 []) 1 - 48, bAt (W.getD 2 []) 1 - 48, bAt (W.getD 3 []) 1 - 48⟩, none) else none
def Zd5 (p : List RA) (j : List R_is) (x : Option (RA × Option (List Int))) : Zh :=
 if 512 ≤ p.length then .r0 else
 match x with
 | none => .r0
 | some (i, none) => .r1 (p ++ [i])
 | some (i, some l) => .r2 (p ++ [i]) (j ++ [⟨(p.length : Int), l⟩])
theorem Zab {p : List RA} {j : List R_is} : Zd5 p j none = .r0 := by
 unfold Zd5
 split <;> rfl
theorem Zds {p : List RA} {j : List R_is} {x : Option (RA × Option (List Int))} (h : 512 ≤ p.length) : Zd5 p j x = .r0 := by
 unfold Zd5
 rw [if_pos h]
def ZkF (M : List Int) (N : Nat) : Option (RA × Option (List Int)) :=
 match Zbs (wd M 0) N with
 | some (.r0 op kn) => match ZI op N with
  | some s => if kn = true then ZaS s op (wds M) else none
  | none => none
 | none => none
theorem Zvs (M : List Int) (hb : ZP M = true) (hl : M.length ≤ 1000000) (hn : L4.length ≤ 100000) (hj : L5.length ≤ 100000) (hN : 33 ≤ N) :
  Zaz M L1 a2 L3 L4 L5 L6 L7 N = some (Zd5 L3 L5 (ZkF M N)) := by
 unfold Zaz ZkF
 have hW : ∀ i, ZP (wd M i) = true := fun i => (Zsw (c := 32) hb i).1
 have hV : ∀ i, (wd M i).length ≤ 1000000 := fun i => Nat.le_trans (Zsw (c := 32) hb i).2 hl
 refine Zv hb <| Zv hl <| Zv (Zpw 32 M) ?_
 obtain ⟨⟨op, kn⟩, h1⟩ := Ztz (wd M 0) N
 obtain ⟨s, h2⟩ := Zrh op N
 refine Zah h1 ?_
 simp only [h1]
 refine Zah h2 ?_
 simp only [h2]
 cases kn with
 | false => cases s <;> exact Zv (by decide) (by rw [if_neg (by decide), Zab])
 | true =>
 rw [if_pos rfl]
 cases s with
 | r0 =>
  refine ZF (fun h => h rfl) ?_
  by_cases hw : (wds M).length = 3
  ·refine ZF (fun h => h (by omega)) ?_
   by_cases hp : 512 ≤ L3.length
   ·exact Zv (by omega) (by rw [Zds hp])
   ·refine ZF (by omega) ?_
    refine Zah (Zer (wd M 1)) ?_
    cases c1 : ZaI (wd M 1) with
    | false =>
     rw [show ZaS .r0 op (wds M) = none from if_neg (fun h => by have hq := h.2; rw [c1] at hq; exact Bool.false_ne_true hq), Zab]; rfl
    | true =>
     refine Zah (ZlH (wd M 2) (hW 2) (hV 2)) ?_
     cases c2 : Zbw (wd M 2) with
     | false =>
      rw [show ZaS .r0 op (wds M) = none from if_neg (fun h => by have hq := h.2; rw [c1, c2] at hq; exact Bool.false_ne_true hq), Zab]; rfl
     | true =>
      refine Zv hn ?_
      rw [show ZaS .r0 op (wds M) = _ from if_pos ⟨hw, by simp only [c1, c2, Bool.and_self]⟩]
      unfold Zd5
      rw [if_neg hp]
  ·refine Zv (fun h => hw (by omega)) ?_
   rw [show ZaS .r0 op (wds M) = none from if_neg (fun h => hw h.1), Zab]
 | r1 =>
  refine ZF (fun h => h rfl) ?_
  by_cases hw : (wds M).length = 2
  ·refine ZF (fun h => h (by omega)) ?_
   by_cases hp : 512 ≤ L3.length
   ·exact Zv (by omega) (by rw [Zds hp])
   ·refine ZF (by omega) ?_
    refine Zah (Zux (wd M 1) (hW 1) hj hN) ?_
    cases c1 : Zj1 (wd M 1) with
    | false =>
     rw [show ZaS .r1 op (wds M) = none from if_neg (fun h => by have hq := h.2; rw [c1] at hq; exact Bool.false_ne_true hq), Zab]; rfl
    | true =>
     refine Zv hn ?_
     rw [show ZaS .r1 op (wds M) = _ from if_pos ⟨hw, by simp only [c1, Bool.and_self]⟩]
     unfold Zd5
     rw [if_neg hp]
  ·refine Zv (fun h => hw (by omega)) ?_
   rw [show ZaS .r1 op (wds M) = none from if_neg (fun h => hw h.1), Zab]
 | r2 =>
  refine ZF (fun h => h rfl) ?_
  by_cases hw : (wds M).length = 3
  ·refine ZF (fun h => h (by omega)) ?_
   by_cases hp : 512 ≤ L3.length
   ·exact Zv (by omega) (by rw [Zds hp])
   ·refine ZF (by omega) ?_
    refine Zah (Zer (wd M 1)) ?_
    cases c1 : ZaI (wd M 1) with
    | false =>
     rw [show ZaS .r2 op (wds M) = none from if_neg (fun h => by have hq := h.2; rw [c1] at hq; exact Bool.false_ne_true hq), Zab]; rfl
    | true =>
     refine Zah (Zux (wd M 2) (hW 2) hj hN) ?_
     cases c2 : Zj1 (wd M 2) with
     | false =>
      rw [show ZaS .r2 op (wds M) = none from if_neg (fun h => by have hq := h.2; rw [c1, c2] at hq; exact Bool.false_ne_true hq), Zab]; rfl
     | true =>
      refine Zv hn ?_
      rw [show ZaS .r2 op (wds M) = _ from if_pos ⟨hw, by simp only [c1, c2, Bool.and_self]⟩]
      unfold Zd5
      rw [if_neg hp]
  ·refine Zv (fun h => hw (by omega)) ?_
   rw [show ZaS .r2 op (wds M) = none from if_neg (fun h => hw h.1), Zab]
 | r3 =>
  refine ZF (fun h => h rfl) ?_
  by_cases hw : (wds M).length = 4
  ·refine ZF (fun h => h (by omega)) ?_
   by_cases hp : 512 ≤ L3.length
   ·exact Zv (by omega) (by rw [Zds hp])
   ·refine ZF (by omega) ?_
    refine Zah (Zer (wd M 1)) ?_
    cases c1 : ZaI (wd M 1) with
    | false =>
     rw [show ZaS .r3 op (wds M) = none from if_neg (fun h => by have hq := h.2; rw [c1] at hq; exact Bool.false_ne_true hq), Zab]; rfl
    | true =>
     refine Zah (ZlH (wd M 2) (hW 2) (hV 2)) ?_
     cases c2 : Zbw (wd M 2) with
     | false =>
      rw [show ZaS .r3 op (wds M) = none from if_neg (fun h => by have hq := h.2; rw [c1, c2] at hq; exact Bool.false_ne_true hq), Zab]; rfl
     | true =>
      refine Zah (ZlH (wd M 3) (hW 3) (hV 3)) ?_
      cases c3 : Zbw (wd M 3) with
      | false =>
       rw [show ZaS .r3 op (wds M) = none from if_neg (fun h => by have hq := h.2; rw [c1, c2, c3] at hq; exact Bool.false_ne_true hq), Zab]; rfl
      | true =>
       refine Zv hn ?_
       rw [show ZaS .r3 op (wds M) = _ from if_pos ⟨hw, by simp only [c1, c2, c3, Bool.and_self]⟩]
       unfold Zd5
       rw [if_neg hp]
  ·refine Zv (fun h => hw (by omega)) ?_
   rw [show ZaS .r3 op (wds M) = none from if_neg (fun h => hw h.1), Zab]
 | r4 =>
  refine ZF (fun h => h rfl) ?_
  by_cases hw : (wds M).length = 4
  ·refine ZF (fun h => h (by omega)) ?_
   by_cases hp : 512 ≤ L3.length
   ·exact Zv (by omega) (by rw [Zds hp])
   ·refine ZF (by omega) ?_
    refine Zah (Zer (wd M 1)) ?_
    cases c1 : ZaI (wd M 1) with
    | false =>
     rw [show ZaS .r4 op (wds M) = none from if_neg (fun h => by have hq := h.2; rw [c1] at hq; exact Bool.false_ne_true hq), Zab]; rfl
    | true =>
     refine Zah (Zer (wd M 2)) ?_
     cases c2 : ZaI (wd M 2) with
     | false =>
      rw [show ZaS .r4 op (wds M) = none from if_neg (fun h => by have hq := h.2; rw [c1, c2] at hq; exact Bool.false_ne_true hq), Zab]; rfl
     | true =>
      refine Zah (ZlH (wd M 3) (hW 3) (hV 3)) ?_
      cases c3 : Zbw (wd M 3) with
      | false =>
       rw [show ZaS .r4 op (wds M) = none from if_neg (fun h => by have hq := h.2; rw [c1, c2, c3] at hq; exact Bool.false_ne_true hq), Zab]; rfl
      | true =>
       refine Zv hn ?_
       rw [show ZaS .r4 op (wds M) = _ from if_pos ⟨hw, by simp only [c1, c2, c3, Bool.and_self]⟩]
       unfold Zd5
       rw [if_neg hp]
  ·refine Zv (fun h => hw (by omega)) ?_
   rw [show ZaS .r4 op (wds M) = none from if_neg (fun h => hw h.1), Zab]
 | r5 =>
  refine ZF (fun h => h rfl) ?_
  by_cases hw : (wds M).length = 4
  ·refine ZF (fun h => h (by omega)) ?_
   by_cases hp : 512 ≤ L3.length
   ·exact Zv (by omega) (by rw [Zds hp])
   ·refine ZF (by omega) ?_
    refine Zah (Zer (wd M 1)) ?_
    cases c1 : ZaI (wd M 1) with
    | false =>
     rw [show ZaS .r5 op (wds M) = none from if_neg (fun h => by have hq := h.2; rw [c1] at hq; exact Bool.false_ne_true hq), Zab]; rfl
    | true =>
     refine Zah (ZlH (wd M 2) (hW 2) (hV 2)) ?_
     cases c2 : Zbw (wd M 2) with
     | false =>
      rw [show ZaS .r5 op (wds M) = none from if_neg (fun h => by have hq := h.2; rw [c1, c2] at hq; exact Bool.false_ne_true hq), Zab]; rfl
     | true =>
      refine Zah (Zer (wd M 3)) ?_
      cases c3 : ZaI (wd M 3) with
      | false =>
       rw [show ZaS .r5 op (wds M) = none from if_neg (fun h => by have hq := h.2; rw [c1, c2, c3] at hq; exact Bool.false_ne_true hq), Zab]; rfl
      | true =>
       refine Zv hn ?_
       rw [show ZaS .r5 op (wds M) = _ from if_pos ⟨hw, by simp only [c1, c2, c3, Bool.and_self]⟩]
       unfold Zd5
       rw [if_neg hp]
  ·refine Zv (fun h => hw (by omega)) ?_
   rw [show ZaS .r5 op (wds M) = none from if_neg (fun h => hw h.1), Zab]
 | r6 =>
  refine ZF (fun h => h rfl) ?_
  by_cases hw : (wds M).length = 1
  ·refine ZF (fun h => h (by omega)) ?_
   by_cases hp : 512 ≤ L3.length
   ·exact Zv (by omega) (by rw [Zds hp])
   ·refine ZF (by omega) ?_
    refine Zv hn ?_
    rw [show ZaS .r6 op (wds M) = _ from if_pos ⟨hw, rfl⟩]
    unfold Zd5
    rw [if_neg hp]
  ·refine Zv (fun h => hw (by omega)) ?_
   rw [show ZaS .r6 op (wds M) = none from if_neg (fun h => hw h.1), Zab]
 | r7 =>
  refine ZF (fun h => h rfl) ?_
  by_cases hw : (wds M).length = 2
  ·refine ZF (fun h => h (by omega)) ?_
   by_cases hp : 512 ≤ L3.length
   ·exact Zv (by omega) (by rw [Zds hp])
   ·refine ZF (by omega) ?_
    refine Zah (Zer (wd M 1)) ?_
    cases c1 : ZaI (wd M 1) with
    | false =>
     rw [show ZaS .r7 op (wds M) = none from if_neg (fun h => by have hq := h.2; rw [c1] at hq; exact Bool.false_ne_true hq), Zab]; rfl
    | true =>
     refine Zv hn ?_
     rw [show ZaS .r7 op (wds M) = _ from if_pos ⟨hw, by simp only [c1, Bool.and_self]⟩]
     unfold Zd5
     rw [if_neg hp]
  ·refine Zv (fun h => hw (by omega)) ?_
   rw [show ZaS .r7 op (wds M) = none from if_neg (fun h => hw h.1), Zab]
 | r8 =>
  refine ZF (fun h => h rfl) ?_
  by_cases hw : (wds M).length = 3
  ·refine ZF (fun h => h (by omega)) ?_
   by_cases hp : 512 ≤ L3.length
   ·exact Zv (by omega) (by rw [Zds hp])
   ·refine ZF (by omega) ?_
    refine Zah (Zer (wd M 1)) ?_
    cases c1 : ZaI (wd M 1) with
    | false =>
     rw [show ZaS .r8 op (wds M) = none from if_neg (fun h => by have hq := h.2; rw [c1] at hq; exact Bool.false_ne_true hq), Zab]; rfl
    | true =>
     refine Zah (Zer (wd M 2)) ?_
     cases c2 : ZaI (wd M 2) with
     | false =>
      rw [show ZaS .r8 op (wds M) = none from if_neg (fun h => by have hq := h.2; rw [c1, c2] at hq; exact Bool.false_ne_true hq), Zab]; rfl
     | true =>
      refine Zv hn ?_
      rw [show ZaS .r8 op (wds M) = _ from if_pos ⟨hw, by simp only [c1, c2, Bool.and_self]⟩]
      unfold Zd5
      rw [if_neg hp]
  ·refine Zv (fun h => hw (by omega)) ?_
   rw [show ZaS .r8 op (wds M) = none from if_neg (fun h => hw h.1), Zab]
 | r9 =>
  refine ZF (fun h => h rfl) ?_
  by_cases hw : (wds M).length = 4
  ·refine ZF (fun h => h (by omega)) ?_
   by_cases hp : 512 ≤ L3.length
   ·exact Zv (by omega) (by rw [Zds hp])
   ·refine ZF (by omega) ?_
    refine Zah (Zer (wd M 1)) ?_
    cases c1 : ZaI (wd M 1) with
    | false =>
     rw [show ZaS .r9 op (wds M) = none from if_neg (fun h => by have hq := h.2; rw [c1] at hq; exact Bool.false_ne_true hq), Zab]; rfl
    | true =>
     refine Zah (Zer (wd M 2)) ?_
     cases c2 : ZaI (wd M 2) with
     | false =>
      rw [show ZaS .r9 op (wds M) = none from if_neg (fun h => by have hq := h.2; rw [c1, c2] at hq; exact Bool.false_ne_true hq), Zab]; rfl
     | true =>
      refine Zah (Zer (wd M 3)) ?_
      cases c3 : ZaI (wd M 3) with
      | false =>
       rw [show ZaS .r9 op (wds M) = none from if_neg (fun h => by have hq := h.2; rw [c1, c2, c3] at hq; exact Bool.false_ne_true hq), Zab]; rfl
      | true =>
       refine Zv hn ?_
       rw [show ZaS .r9 op (wds M) = _ from if_pos ⟨hw, by simp only [c1, c2, c3, Bool.and_self]⟩]
       unfold Zd5
       rw [if_neg hp]
  ·refine Zv (fun h => hw (by omega)) ?_
   rw [show ZaS .r9 op (wds M) = none from if_neg (fun h => hw h.1), Zab]
theorem Zwn (M : List Int) (hb : ZP M = true) (hn : L6.length ≤ 100000) (hN : 33 ≤ N) : Zb1 M L1 a2 L3 L4 L5 L6 L7 N = some (if Ze7 L7 M = true ∨ Zeq M = false then .r0 else .r1) := by
 unfold Zb1
 refine Zc8 (fun g => by rw [if_pos (.inl g)]) fun g => Zah (Zoh M N hb hN) ?_
 show (if ¬ (Zeq M = true) then _ else _) = _
 cases h : Zeq M with
 | true => exact ZF (fun h => h rfl) <| Zv hn (by rw [if_neg (fun h2 => h2.elim g (fun h3 => by cases h3))])
 | false => exact Zv (by decide) (by rw [if_pos (.inr rfl)])
end
end Ev
end Go.Proofs.YtlbbiflodemagaaDoor
/- Parse, plainly: line by line. -/
namespace Go.Proofs.YtlbbiflodemagaaDoor
open Go.RowKit
namespace Ev
set_option linter.unusedVariables false
theorem Zvt {p p' : List RA} {j : List R_is} {x : Option (RA × Option (List Int))} (h : Zd5 p j x = .r1 p') : 0 < p'.length := by
 unfold Zd5 at h
 split at h
 ·cases h
 ·split at h
  ·cases h
  ·injection h with h; subst h; simp
  ·cases h
theorem Zrj {p p' : List RA} {j j' : List R_is} {x : Option (RA × Option (List Int))} (h : Zd5 p j x = .r2 p' j') : 0 < p'.length ∧ 0 < j'.length := by
 unfold Zd5 at h
 split at h
 ·cases h
 ·split at h
  ·cases h
  ·cases h
  ·injection h with h h2; subst h h2; simp
structure PS where
 pl : List R_si
 line : Int
 p : List RA
 ls : List Int
 js : List R_is
 lb : List (List Int)
def PS.x (S : PS) (left : List Int) : Z9 := .h1m0 S.pl left S.line S.p S.ls S.js S.lb
def ZfJ (N : Nat) (l : List Int) (S : PS) : Option PS :=
 if l = [] ∨ bAt l 0 = 35 then some S else
 if bAt l 0 = 58 then (if Ze7 S.pl (l.drop 1) = true ∨ Zeq (l.drop 1) = false then none else some { S with pl := Zcp S.pl (l.drop 1) S.p.length, lb := S.lb ++ [l.drop 1] }) else
 match Zd5 S.p S.js (ZkF l N) with
 | .r0 => none
 | .r1 p => some { S with p := p, ls := S.ls ++ [S.line] }
 | .r2 p j => some { S with p := p, ls := S.ls ++ [S.line], js := j }
structure PS.Ok (S : PS) (k : Nat) : Prop where
 line : S.line = k
 ls : S.ls.length = S.p.length
 p : S.p.length ≤ 512
 js : S.js.length ≤ S.p.length
 lb : S.lb.length ≤ k
theorem Zvu {N : Nat} {l : List Int} {S S' : PS} {k : Nat} (h : ZfJ N l S = some S') (hS : S.Ok (k + 1)) (hlb : S.lb.length ≤ k) : S'.Ok (k + 1) := by
 unfold ZfJ at h
 split at h
 ·injection h with h; subst h; exact hS
 ·split at h
  ·split at h
   ·cases h
   ·injection h with h; subst h
    exact ⟨hS.line, hS.ls, hS.p, hS.js, by simp; omega⟩
  ·split at h
   ·cases h
   ·rename_i p hp
    injection h with h; subst h
    unfold Zd5 at hp
    split at hp
    ·cases hp
    ·split at hp
     ·cases hp
     ·rename_i i _
      injection hp with hp; subst hp
      have := hS.p; have := hS.js; have := hS.ls
      exact ⟨hS.line, by simp; omega, by simp; omega, by simp; omega, hS.lb⟩
     ·cases hp
   ·rename_i p j hp
    injection h with h; subst h
    unfold Zd5 at hp
    split at hp
    ·cases hp
    ·split at hp
     ·cases hp
     ·cases hp
     ·rename_i i l _
      injection hp with hp hq; subst hp hq
      have := hS.p; have := hS.js; have := hS.ls
      exact ⟨hS.line, by simp; omega, by simp; omega, by simp; omega, hS.lb⟩
theorem Zsx (c : Int) : ∀ M, (Z4 c M).length ≤ M.length
 | [] => by simp [Z4]
 | x :: l => by
  unfold Z4
  split
  ·simp
  ·have := Zsx c l; simp; omega
theorem Zkl (c : Int) : ∀ M, M ≠ [] → (ZQ c M).length < M.length
 | [], h => absurd rfl h
 | x :: l, _ => by
  unfold ZQ
  split
  ·simp
  ·by_cases hl : l = []
   ·subst hl; simp [ZQ]
   ·have := Zkl c l hl; simp; omega
section
variable {A : List Int} {a1 : Int} {B : List R_si} {N : Nat}
theorem rd_no {S : PS} {M : List Int} {k : Nat} (hS : S.Ok k) (hk : k ≤ 90000) (hM : M ≠ []) (hb : ZP M = true) (hl : M.length ≤ 1000000) (hh : Zbj 10 M = false) :
  Za3 A a1 B N (S.x M) = some (.inr (.r0 (S.line + 1))) := by
 have hw : IntKind.i64.wrap (S.line + 1) = S.line + 1 := w64 (by have := hS.line; omega) (by have := hS.line; omega)
 show ZaC A a1 B N S.pl M S.line S.p S.ls S.js S.lb = _
 unfold ZaC
 rw [hw]
 exact Zv (fun e => hM (Zhp.1 e)) <| Zv hb <| Zv hl <| ZF (by rw [hh]; decide) rfl
theorem Zwo {S : PS} {M : List Int} {k : Nat} (hS : S.Ok k) (hk : k ≤ 90000) (hM : M ≠ []) (hb : ZP M = true) (hl : M.length ≤ 1000000) (hh : Zbj 10 M = true) (hN : 33 ≤ N) :
  Za3 A a1 B N (S.x M) = some (match ZfJ N (Z4 10 M) { S with line := S.line + 1 } with | none => .inr (.r0 (S.line + 1)) | some S' => .inl (S'.x (ZQ 10 M))) := by
 have hw : IntKind.i64.wrap (S.line + 1) = S.line + 1 := w64 (by have := hS.line; omega) (by have := hS.line; omega)
 have hbb := (Zhr (c := 10) hb).1
 have hbl := Nat.le_trans (Zsx 10 M) hl
 show ZaC A a1 B N S.pl M S.line S.p S.ls S.js S.lb = _
 unfold ZaC ZfJ
 rw [hw]
 refine Zv (fun e => hM (Zhp.1 e)) <| Zv hb <| Zv hl <| Zv hh ?_
 generalize Z4 10 M = l at *
 refine Zc8 (fun g => by rw [if_pos (.inl (Zhp.1 g))]; rfl) fun g => ?_
 have hne : l ≠ [] := fun e => g (Zhp.2 e)
 refine Zv (List.length_pos_iff.2 hne) ?_
 refine Zc8 (fun g2 => by rw [if_pos (.inr g2)]; rfl) fun g2 => ?_
 rw [if_neg (fun h : l = [] ∨ bAt l 0 = 35 => h.elim hne g2)]
 refine Zc8 (fun g3 => ?_) fun g3 => ?_
 ·rw [if_pos g3]
  have hlb := hS.lb
  refine Zah (Zwn (l.drop 1) (Zoi hbb 1) (by omega) hN) ?_
  by_cases hc : Ze7 S.pl (l.drop 1) = true ∨ Zeq (l.drop 1) = false
  ·rw [if_pos hc, if_pos hc]
  ·rw [if_neg hc, if_neg hc]; rfl
 ·rw [if_neg g3]
  have h1 := hS.p; have h2 := hS.ls; have h3 := hS.js
  refine Zah (Zvs l hbb hbl (by omega) (by omega) hN) ?_
  cases hi : Zd5 S.p S.js (ZkF l N) with
  | r0 => rfl
  | r1 p => exact Zv (Zvt hi) rfl
  | r2 p j => exact Zv (Zrj hi).1 <| Zv (Zrj hi).2 rfl
def rdL (N : Nat) : Nat → List Int → PS → Int ⊕ PS
 | 0, _, S => .inr S
 | f + 1, M, S => if M = [] then .inr S else
  if Zbj 10 M = false then .inl (S.line + 1) else
  match ZfJ N (Z4 10 M) { S with line := S.line + 1 } with
  | none => .inl (S.line + 1)
  | some S' => rdL N f (ZQ 10 M) S'
theorem Zuy (hN : 33 ≤ N) : ∀ (f : Nat) (M : List Int) (S : PS) (k : Nat), M.length ≤ f → S.Ok k → k + M.length ≤ 90000 → ZP M = true →
  (∀ n, rdL N f M S = .inl n → Zd6 (Za3 A a1 B N) (f + 1) (S.x M) = some (.r0 n)) ∧
  (∀ S', rdL N f M S = .inr S' → (∃ k', S'.Ok k') ∧ ∀ r, Za3 A a1 B N (S'.x []) = some (.inr r) → Zd6 (Za3 A a1 B N) (f + 1) (S.x M) = some r)
 | 0, M, S, k, hf, hS, hk, hb => by
  obtain rfl : M = [] := List.length_eq_zero_iff.1 (by omega)
  exact ⟨fun n h => by simp [rdL] at h, fun S' h => by
   simp only [rdL] at h; injection h with h; subst h
   exact ⟨⟨k, hS⟩, fun r hr => Zdr hr⟩⟩
 | f + 1, M, S, k, hf, hS, hk, hb => by
  by_cases hM : M = []
  ·subst hM
   exact ⟨fun n h => by simp [rdL] at h, fun S' h => by
    simp only [rdL, if_true] at h; injection h with h; subst h
    exact ⟨⟨k, hS⟩, fun r hr => Zdr hr⟩⟩
  ·have hp : 0 < M.length := List.length_pos_iff.2 hM
   cases hh : Zbj 10 M with
   | false =>
    have e : rdL N (f + 1) M S = .inl (S.line + 1) := by unfold rdL; rw [if_neg hM, if_pos hh]
    rw [e]
    exact ⟨fun n h => by injection h with h; subst h; exact Zdr (rd_no hS (by omega) hM hb (by omega) hh), fun S' h => by cases h⟩
   | true =>
    have hs := Zwo (A := A) (a1 := a1) (B := B) hS (by omega) hM hb (by omega) hh hN
    have e : rdL N (f + 1) M S = (match ZfJ N (Z4 10 M) { S with line := S.line + 1 } with | none => .inl (S.line + 1) | some S' => rdL N f (ZQ 10 M) S') := by
     show (if M = [] then _ else _) = _
     rw [if_neg hM, if_neg (by rw [hh]; decide)]
    rw [e]
    cases hst : ZfJ N (Z4 10 M) { S with line := S.line + 1 } with
    | none =>
     rw [hst] at hs
     exact ⟨fun n h => by injection h with h; subst h; exact Zdr hs, fun S' h => by cases h⟩
    | some S1 =>
     rw [hst] at hs
     have hO : S1.Ok (k + 1) := Zvu hst ⟨by show S.line + 1 = _; rw [hS.line]; rfl, hS.ls, hS.p, hS.js, by have := hS.lb; show S.lb.length ≤ k + 1; omega⟩ hS.lb
     have ha := Zkl 10 M hM
     obtain ⟨q1, q2⟩ := Zuy hN f (ZQ 10 M) S1 (k + 1) (by omega) hO (by omega) (Zhr (c := 10) hb).2
     exact ⟨fun n h => (ZhL hs).trans (q1 n h), fun S' h => ⟨(q2 S' h).1, fun r hr => (ZhL hs).trans ((q2 S' h).2 r hr)⟩⟩
end
end Ev
end Go.Proofs.YtlbbiflodemagaaDoor
