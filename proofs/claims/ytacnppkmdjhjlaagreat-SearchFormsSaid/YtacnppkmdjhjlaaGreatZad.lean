/- The law SearchForms, for every input. -/
import Derived.Test.YtacnppkmdjhjlaaGreatZac
import Derived.StillTail
import Derived.OrdersHeld
import Derived.WideBlind
/- Calls do what the plain functions say. -/
namespace Go.Proofs.YtacnppkmdjhjlaaGreat
open Go.RowKit
namespace Ev
set_option linter.unusedVariables false
set_option maxRecDepth 100000
noncomputable def ZhX (L0 : List R_iiiiiiAi) (a1 : Int) : ZM → Value
 | .r0 => vn
 | .r1 w0 => vs 0 0 w0.length w0.length
noncomputable def Zhg (L0 : List R_iiiiiiAi) (a1 : Int) : ZM → List (Option AObj)
 | .r0 => []
 | .r1 w0 => [some (.cells (Zc E_iiiiiiAi w0) 27)]

def ZkL : Zw → Nat
 | .h1m0 => 1
 | .h1m1 v2 v3 => 1
noncomputable def ZlN (L0 : List R_iiiiiiAi) (a1 : Int) : Zw → List (Nat × Value)
 | .h1m0 => [(0, ms E_iiiiiiAi L0), (1, vi a1), (5, vn), (6, vq)]
 | .h1m1 v2 v3 => [(0, ms E_iiiiiiAi L0), (1, vi a1), (5, vs 0 0 v2.length v2.length), (6, vi (v3 : Int))]
noncomputable def ZlO (L0 : List R_iiiiiiAi) (a1 : Int) : Zw → List (Option AObj)
 | .h1m0 => []
 | .h1m1 v2 v3 => [some (.cells (Zc E_iiiiiiAi v2) 27)]

noncomputable def ZbA : Nat → Code × List ZZ
 | 1 => Zas [1, 1, 0, 1, 3] (Zbb Tryz.f4) []
 | _ => (.skip, [])
def Zhh : Nat → Bool
 | 1 => true
 | _ => true
noncomputable def ZdS (i : Nat) : List ZZ := match Zhh i with | true => .rnd i :: (ZbA i).2 | false => (ZbA i).2

noncomputable def ZO (L0 : List R_iiiiiiAi) (a1 : Int) (N : Nat) : Mach := ⟨Tryz.f4, [], Zw, ZM, ZaV L0 a1 N, ZkL, ZbA, Zhh, ZlN L0 a1, ZlO L0 a1, ZhX L0 a1, Zhg L0 a1⟩

theorem ZhY (L0 : List R_iiiiiiAi) (a1 : Int) (N : Nat) : (ZO L0 a1 N).Ok Tryz.prog Zs (.h1m0 : Zw) (ZaV L0 a1 N (.h1m0 : Zw)) := by
 show (ZO L0 a1 N).Ok Tryz.prog Zs (.h1m0 : Zw) (Zdk L0 a1 N)
 unfold Zdk
 refine Mach.ok_ite (fun g0 => ?_) (fun g0 => ?_)
 ·
  refine Mach.ok_ite (fun g1 => ?_) (fun g1 => ?_)
  ·
   refine Mach.ok_ite (fun g2 => ?_) (fun g2 => ?_)
   ·
    exact Mach.ok_next (M := ZO L0 a1 N) (cd := 1000000) (cm := 0) (y := (.h1m1 (([(⟨(L0.getD 0 R_iiiiiiAi.z).a0, (L0.getD 0 R_iiiiiiAi.z).a1, (L0.getD 0 R_iiiiiiAi.z).a2, (L0.getD 0 R_iiiiiiAi.z).a3, (L0.getD 0 R_iiiiiiAi.z).a4, (L0.getD 0 R_iiiiiiAi.z).a5, ((L0.getD 0 R_iiiiiiAi.z).a6.take 12), (L0.getD 0 R_iiiiiiAi.z).a7⟩ : R_iiiiiiAi)] : List R_iiiiiiAi)) (1) : Zw)) (fu := 4000) (orc := (Zz [(0, true), (1, true), (2, true)] [] [(0, 0)] [(0, [.i (L0.getD 0 R_iiiiiiAi.z).a0, .i (L0.getD 0 R_iiiiiiAi.z).a1, .i (L0.getD 0 R_iiiiiiAi.z).a2, .i (L0.getD 0 R_iiiiiiAi.z).a3, .i (L0.getD 0 R_iiiiiiAi.z).a4, .i (L0.getD 0 R_iiiiiiAi.z).a5, (mc E_ii (L0.getD 0 R_iiiiiiAi.z).a6), .i (L0.getD 0 R_iiiiiiAi.z).a7])] [(0, .ms 0 12 ((L0.getD 0 R_iiiiiiAi.z).a6.take 12).length (ZN E_ii ((L0.getD 0 R_iiiiiiAi.z).a6.take 12)))])) (live := [3]) (tv := fun _ => [some (ms E_iiiiiiAi L0), some (vi a1), some (vs 3 0 1 1), some (vi (1 : Int))]) (bl := [some (.cells [vi (L0.getD 0 R_iiiiiiAi.z).a0, vi (L0.getD 0 R_iiiiiiAi.z).a1, vi (L0.getD 0 R_iiiiiiAi.z).a2, vi (L0.getD 0 R_iiiiiiAi.z).a3, vi (L0.getD 0 R_iiiiiiAi.z).a4, vi (L0.getD 0 R_iiiiiiAi.z).a5, ms E_ii ((L0.getD 0 R_iiiiiiAi.z).a6.take 12), vi (L0.getD 0 R_iiiiiiAi.z).a7] 27)]) (ob := [(dP (0 ≤ 12 ∧ 12 ≤ (L0.getD 0 R_iiiiiiAi.z).a6.length ∧ Za3 (code (ZN E_ii (L0.getD 0 R_iiiiiiAi.z).a6)) (0 + 0 * 2) (ZN E_ii ((L0.getD 0 R_iiiiiiAi.z).a6.take 12)).length = some (ZN E_ii ((L0.getD 0 R_iiiiiiAi.z).a6.take 12)) ∧ (12 - 0) * 2 = (ZN E_ii ((L0.getD 0 R_iiiiiiAi.z).a6.take 12)).length ∧ ((L0.getD 0 R_iiiiiiAi.z).a6.take 12).length = 12 - 0), true), ((12 : Int) == Int.ofNat 12, true), (dS 0, true), ((decide ((((L0.getD 0 R_iiiiiiAi.z).a6.length : Nat) : Int) > (12 : Int))), true), (dP (Za3 (code (ZN E_iiiiiiAi L0)) (0 + (0 * 8)) 8 = some [.i (L0.getD 0 R_iiiiiiAi.z).a0, .i (L0.getD 0 R_iiiiiiAi.z).a1, .i (L0.getD 0 R_iiiiiiAi.z).a2, .i (L0.getD 0 R_iiiiiiAi.z).a3, .i (L0.getD 0 R_iiiiiiAi.z).a4, .i (L0.getD 0 R_iiiiiiAi.z).a5, (mc E_ii (L0.getD 0 R_iiiiiiAi.z).a6), .i (L0.getD 0 R_iiiiiiAi.z).a7]), true), (Nat.blt 0 L0.length, true), ((0 : Int) == Int.ofNat 0, true), ((decide ((0 : Int) < a1)), true), ((decide ((0 : Int) < (L0.length : Int))), true)]) rfl (show 1 ∈ Zt (ZdS 1) from by decide +kernel) (fun gv => by kernel_rfl) (Za (Zp (Znl (E := E_ii) (L := (L0.getD 0 R_iiiiiiAi.z).a6) (R := ((L0.getD 0 R_iiiiiiAi.z).a6.take 12)) (l := 0) (h := 12) (size := 2) ltA ltA (by decide) (by simp))) <| oI <| oR <| oY <| Za (Zp (ZfC (E := E_iiiiiiAi) (L := L0) (i := 0) (q := 0) (by omega) (show (0 + (0 * 8)) = 0 * 8 + 0 from by omega) (show 0 + 8 ≤ 8 from by decide) rfl)) <| oB <| oI <| oY <| oY Zg) rfl (by decide) (by rfl) (fun _ => ⟨rr, ⟨rr, ⟨⟨Eq.trans (show (vs 0 0 ([(⟨(L0.getD 0 R_iiiiiiAi.z).a0, (L0.getD 0 R_iiiiiiAi.z).a1, (L0.getD 0 R_iiiiiiAi.z).a2, (L0.getD 0 R_iiiiiiAi.z).a3, (L0.getD 0 R_iiiiiiAi.z).a4, (L0.getD 0 R_iiiiiiAi.z).a5, ((L0.getD 0 R_iiiiiiAi.z).a6.take 12), (L0.getD 0 R_iiiiiiAi.z).a7⟩ : R_iiiiiiAi)] : List R_iiiiiiAi).length ([(⟨(L0.getD 0 R_iiiiiiAi.z).a0, (L0.getD 0 R_iiiiiiAi.z).a1, (L0.getD 0 R_iiiiiiAi.z).a2, (L0.getD 0 R_iiiiiiAi.z).a3, (L0.getD 0 R_iiiiiiAi.z).a4, (L0.getD 0 R_iiiiiiAi.z).a5, ((L0.getD 0 R_iiiiiiAi.z).a6.take 12), (L0.getD 0 R_iiiiiiAi.z).a7⟩ : R_iiiiiiAi)] : List R_iiiiiiAi).length : Value) = vs 0 0 1 1 from (Zf6 rfl eqA eqA)) (by rfl), by rfl⟩, ⟨⟨Eq.trans (show (vi ((1 : Nat) : Int) : Value) = vi (1 : Int) from (congrArg (Value.int .i64) (by first | rfl | omega))) (by rfl), by rfl⟩, trivial⟩⟩⟩⟩) ⟨(ZhW (E := E_iiiiiiAi) _ (L := ([(⟨(L0.getD 0 R_iiiiiiAi.z).a0, (L0.getD 0 R_iiiiiiAi.z).a1, (L0.getD 0 R_iiiiiiAi.z).a2, (L0.getD 0 R_iiiiiiAi.z).a3, (L0.getD 0 R_iiiiiiAi.z).a4, (L0.getD 0 R_iiiiiiAi.z).a5, ((L0.getD 0 R_iiiiiiAi.z).a6.take 12), (L0.getD 0 R_iiiiiiAi.z).a7⟩ : R_iiiiiiAi)] : List R_iiiiiiAi)) _ (show ([vi (L0.getD 0 R_iiiiiiAi.z).a0, vi (L0.getD 0 R_iiiiiiAi.z).a1, vi (L0.getD 0 R_iiiiiiAi.z).a2, vi (L0.getD 0 R_iiiiiiAi.z).a3, vi (L0.getD 0 R_iiiiiiAi.z).a4, vi (L0.getD 0 R_iiiiiiAi.z).a5, ms E_ii ((L0.getD 0 R_iiiiiiAi.z).a6.take 12), vi (L0.getD 0 R_iiiiiiAi.z).a7] : List Value) = Zc E_iiiiiiAi ([(⟨(L0.getD 0 R_iiiiiiAi.z).a0, (L0.getD 0 R_iiiiiiAi.z).a1, (L0.getD 0 R_iiiiiiAi.z).a2, (L0.getD 0 R_iiiiiiAi.z).a3, (L0.getD 0 R_iiiiiiAi.z).a4, (L0.getD 0 R_iiiiiiAi.z).a5, ((L0.getD 0 R_iiiiiiAi.z).a6.take 12), (L0.getD 0 R_iiiiiiAi.z).a7⟩ : R_iiiiiiAi)] : List R_iiiiiiAi) from rfl)), trivial⟩
   ·
    exact Mach.ok_next (M := ZO L0 a1 N) (cd := 1000000) (cm := 0) (y := (.h1m1 (([(⟨(L0.getD 0 R_iiiiiiAi.z).a0, (L0.getD 0 R_iiiiiiAi.z).a1, (L0.getD 0 R_iiiiiiAi.z).a2, (L0.getD 0 R_iiiiiiAi.z).a3, (L0.getD 0 R_iiiiiiAi.z).a4, (L0.getD 0 R_iiiiiiAi.z).a5, (L0.getD 0 R_iiiiiiAi.z).a6, (L0.getD 0 R_iiiiiiAi.z).a7⟩ : R_iiiiiiAi)] : List R_iiiiiiAi)) (1) : Zw)) (fu := 4000) (orc := (Zz [(0, true), (1, true), (2, false)] [] [(0, 0)] [(0, [.i (L0.getD 0 R_iiiiiiAi.z).a0, .i (L0.getD 0 R_iiiiiiAi.z).a1, .i (L0.getD 0 R_iiiiiiAi.z).a2, .i (L0.getD 0 R_iiiiiiAi.z).a3, .i (L0.getD 0 R_iiiiiiAi.z).a4, .i (L0.getD 0 R_iiiiiiAi.z).a5, (mc E_ii (L0.getD 0 R_iiiiiiAi.z).a6), .i (L0.getD 0 R_iiiiiiAi.z).a7])] [])) (live := [3]) (tv := fun _ => [some (ms E_iiiiiiAi L0), some (vi a1), some (vs 3 0 1 1), some (vi (1 : Int))]) (bl := [some (.cells [vi (L0.getD 0 R_iiiiiiAi.z).a0, vi (L0.getD 0 R_iiiiiiAi.z).a1, vi (L0.getD 0 R_iiiiiiAi.z).a2, vi (L0.getD 0 R_iiiiiiAi.z).a3, vi (L0.getD 0 R_iiiiiiAi.z).a4, vi (L0.getD 0 R_iiiiiiAi.z).a5, ms E_ii (L0.getD 0 R_iiiiiiAi.z).a6, vi (L0.getD 0 R_iiiiiiAi.z).a7] 27)]) (ob := [((decide ((((L0.getD 0 R_iiiiiiAi.z).a6.length : Nat) : Int) > (12 : Int))), false), (dP (Za3 (code (ZN E_iiiiiiAi L0)) (0 + (0 * 8)) 8 = some [.i (L0.getD 0 R_iiiiiiAi.z).a0, .i (L0.getD 0 R_iiiiiiAi.z).a1, .i (L0.getD 0 R_iiiiiiAi.z).a2, .i (L0.getD 0 R_iiiiiiAi.z).a3, .i (L0.getD 0 R_iiiiiiAi.z).a4, .i (L0.getD 0 R_iiiiiiAi.z).a5, (mc E_ii (L0.getD 0 R_iiiiiiAi.z).a6), .i (L0.getD 0 R_iiiiiiAi.z).a7]), true), (Nat.blt 0 L0.length, true), ((0 : Int) == Int.ofNat 0, true), ((decide ((0 : Int) < a1)), true), ((decide ((0 : Int) < (L0.length : Int))), true)]) rfl (show 1 ∈ Zt (ZdS 1) from by decide +kernel) (fun gv => by kernel_rfl) (oN <| Za (Zp (ZfC (E := E_iiiiiiAi) (L := L0) (i := 0) (q := 0) (by omega) (show (0 + (0 * 8)) = 0 * 8 + 0 from by omega) (show 0 + 8 ≤ 8 from by decide) rfl)) <| oB <| oI <| oY <| oY Zg) rfl (by decide) (by rfl) (fun _ => ⟨rr, ⟨rr, ⟨⟨Eq.trans (show (vs 0 0 ([(⟨(L0.getD 0 R_iiiiiiAi.z).a0, (L0.getD 0 R_iiiiiiAi.z).a1, (L0.getD 0 R_iiiiiiAi.z).a2, (L0.getD 0 R_iiiiiiAi.z).a3, (L0.getD 0 R_iiiiiiAi.z).a4, (L0.getD 0 R_iiiiiiAi.z).a5, (L0.getD 0 R_iiiiiiAi.z).a6, (L0.getD 0 R_iiiiiiAi.z).a7⟩ : R_iiiiiiAi)] : List R_iiiiiiAi).length ([(⟨(L0.getD 0 R_iiiiiiAi.z).a0, (L0.getD 0 R_iiiiiiAi.z).a1, (L0.getD 0 R_iiiiiiAi.z).a2, (L0.getD 0 R_iiiiiiAi.z).a3, (L0.getD 0 R_iiiiiiAi.z).a4, (L0.getD 0 R_iiiiiiAi.z).a5, (L0.getD 0 R_iiiiiiAi.z).a6, (L0.getD 0 R_iiiiiiAi.z).a7⟩ : R_iiiiiiAi)] : List R_iiiiiiAi).length : Value) = vs 0 0 1 1 from (Zf6 rfl eqA eqA)) (by rfl), by rfl⟩, ⟨⟨Eq.trans (show (vi ((1 : Nat) : Int) : Value) = vi (1 : Int) from (congrArg (Value.int .i64) (by first | rfl | omega))) (by rfl), by rfl⟩, trivial⟩⟩⟩⟩) ⟨(ZhW (E := E_iiiiiiAi) _ (L := ([(⟨(L0.getD 0 R_iiiiiiAi.z).a0, (L0.getD 0 R_iiiiiiAi.z).a1, (L0.getD 0 R_iiiiiiAi.z).a2, (L0.getD 0 R_iiiiiiAi.z).a3, (L0.getD 0 R_iiiiiiAi.z).a4, (L0.getD 0 R_iiiiiiAi.z).a5, (L0.getD 0 R_iiiiiiAi.z).a6, (L0.getD 0 R_iiiiiiAi.z).a7⟩ : R_iiiiiiAi)] : List R_iiiiiiAi)) _ (show ([vi (L0.getD 0 R_iiiiiiAi.z).a0, vi (L0.getD 0 R_iiiiiiAi.z).a1, vi (L0.getD 0 R_iiiiiiAi.z).a2, vi (L0.getD 0 R_iiiiiiAi.z).a3, vi (L0.getD 0 R_iiiiiiAi.z).a4, vi (L0.getD 0 R_iiiiiiAi.z).a5, ms E_ii (L0.getD 0 R_iiiiiiAi.z).a6, vi (L0.getD 0 R_iiiiiiAi.z).a7] : List Value) = Zc E_iiiiiiAi ([(⟨(L0.getD 0 R_iiiiiiAi.z).a0, (L0.getD 0 R_iiiiiiAi.z).a1, (L0.getD 0 R_iiiiiiAi.z).a2, (L0.getD 0 R_iiiiiiAi.z).a3, (L0.getD 0 R_iiiiiiAi.z).a4, (L0.getD 0 R_iiiiiiAi.z).a5, (L0.getD 0 R_iiiiiiAi.z).a6, (L0.getD 0 R_iiiiiiAi.z).a7⟩ : R_iiiiiiAi)] : List R_iiiiiiAi) from rfl)), trivial⟩
  ·
   exact Mach.ok_fin (M := ZO L0 a1 N) (cd := 1000000) (cm := 0) (r := (.r0 : ZM)) (fu := 4000) (orc := (Zz [(0, true), (1, false)] [] [] [] [])) (live := []) (u := vn) (bl := []) (ob := [((decide ((0 : Int) < a1)), false), ((decide ((0 : Int) < (L0.length : Int))), true)]) (fun gv => by kernel_rfl) (oN <| oY Zg) rfl (by decide) (by rfl) rr trivial
 ·
  exact Mach.ok_fin (M := ZO L0 a1 N) (cd := 1000000) (cm := 0) (r := (.r0 : ZM)) (fu := 4000) (orc := (Zz [(0, false)] [] [] [] [])) (live := []) (u := vn) (bl := []) (ob := [((decide ((0 : Int) < (L0.length : Int))), false)]) (fun gv => by kernel_rfl) (oN Zg) rfl (by decide) (by rfl) rr trivial

theorem ZhZ (L0 : List R_iiiiiiAi) (a1 : Int) (v2 : List R_iiiiiiAi) (v3 N : Nat) : (ZO L0 a1 N).Ok Tryz.prog Zs (.h1m1 v2 v3 : Zw) (ZaV L0 a1 N (.h1m1 v2 v3 : Zw)) := by
 show (ZO L0 a1 N).Ok Tryz.prog Zs (.h1m1 v2 v3 : Zw) (Zdl L0 a1 N v2 v3)
 unfold Zdl
 refine Mach.ok_ite (fun g0 => ?_) (fun g0 => ?_)
 ·
  refine Mach.ok_ite (fun g1 => ?_) (fun g1 => ?_)
  ·
   refine Mach.ok_ite (fun g2 => ?_) (fun g2 => ?_)
   ·
    refine Mach.ok_ite (fun g3 => ?_) (fun g3 => ?_)
    ·
     refine Mach.ok_ite (fun g4 => ?_) (fun g4 => ?_)
     ·
      exact Mach.ok_next (M := ZO L0 a1 N) (cd := 1000000) (cm := 0) (y := (.h1m1 ((v2 ++ ([(⟨(L0.getD v3 R_iiiiiiAi.z).a0, (L0.getD v3 R_iiiiiiAi.z).a1, (L0.getD v3 R_iiiiiiAi.z).a2, (L0.getD v3 R_iiiiiiAi.z).a3, (L0.getD v3 R_iiiiiiAi.z).a4, (L0.getD v3 R_iiiiiiAi.z).a5, ((L0.getD v3 R_iiiiiiAi.z).a6.take 12), (L0.getD v3 R_iiiiiiAi.z).a7⟩ : R_iiiiiiAi)] : List R_iiiiiiAi))) ((v3 + 1)) : Zw)) (fu := 4000) (orc := (Zz [(0, true), (1, true), (2, true)] [(0, (((v3 + 1) : Nat) : Int))] [(0, v3)] [(0, [.i (L0.getD v3 R_iiiiiiAi.z).a0, .i (L0.getD v3 R_iiiiiiAi.z).a1, .i (L0.getD v3 R_iiiiiiAi.z).a2, .i (L0.getD v3 R_iiiiiiAi.z).a3, .i (L0.getD v3 R_iiiiiiAi.z).a4, .i (L0.getD v3 R_iiiiiiAi.z).a5, (mc E_ii (L0.getD v3 R_iiiiiiAi.z).a6), .i (L0.getD v3 R_iiiiiiAi.z).a7])] [(0, .ms 0 12 ((L0.getD v3 R_iiiiiiAi.z).a6.take 12).length (ZN E_ii ((L0.getD v3 R_iiiiiiAi.z).a6.take 12))), (3, .ap 1 [vi (L0.getD v3 R_iiiiiiAi.z).a0, vi (L0.getD v3 R_iiiiiiAi.z).a1, vi (L0.getD v3 R_iiiiiiAi.z).a2, vi (L0.getD v3 R_iiiiiiAi.z).a3, vi (L0.getD v3 R_iiiiiiAi.z).a4, vi (L0.getD v3 R_iiiiiiAi.z).a5, ms E_ii ((L0.getD v3 R_iiiiiiAi.z).a6.take 12), vi (L0.getD v3 R_iiiiiiAi.z).a7] (Zc E_iiiiiiAi (v2 ++ ([(⟨(L0.getD v3 R_iiiiiiAi.z).a0, (L0.getD v3 R_iiiiiiAi.z).a1, (L0.getD v3 R_iiiiiiAi.z).a2, (L0.getD v3 R_iiiiiiAi.z).a3, (L0.getD v3 R_iiiiiiAi.z).a4, (L0.getD v3 R_iiiiiiAi.z).a5, ((L0.getD v3 R_iiiiiiAi.z).a6.take 12), (L0.getD v3 R_iiiiiiAi.z).a7⟩ : R_iiiiiiAi)] : List R_iiiiiiAi))))])) (live := [4]) (tv := fun _ => [some (ms E_iiiiiiAi L0), some (vi a1), some (vs 4 0 (v2.length + 1) (v2.length + 1)), some (vi (((v3 + 1) : Nat) : Int))]) (bl := [some (.cells (Zc E_iiiiiiAi (v2 ++ ([(⟨(L0.getD v3 R_iiiiiiAi.z).a0, (L0.getD v3 R_iiiiiiAi.z).a1, (L0.getD v3 R_iiiiiiAi.z).a2, (L0.getD v3 R_iiiiiiAi.z).a3, (L0.getD v3 R_iiiiiiAi.z).a4, (L0.getD v3 R_iiiiiiAi.z).a5, ((L0.getD v3 R_iiiiiiAi.z).a6.take 12), (L0.getD v3 R_iiiiiiAi.z).a7⟩ : R_iiiiiiAi)] : List R_iiiiiiAi))) 27)]) (ob := [((IntKind.i64.wrap ((v3 : Int) + (1 : Int))) == (((v3 + 1) : Nat) : Int), true), (dP ((1 = 1 ∧ Zk (1 * 8) (List.drop 0 [vi (L0.getD v3 R_iiiiiiAi.z).a0, vi (L0.getD v3 R_iiiiiiAi.z).a1, vi (L0.getD v3 R_iiiiiiAi.z).a2, vi (L0.getD v3 R_iiiiiiAi.z).a3, vi (L0.getD v3 R_iiiiiiAi.z).a4, vi (L0.getD v3 R_iiiiiiAi.z).a5, ms E_ii ((L0.getD v3 R_iiiiiiAi.z).a6.take 12), vi (L0.getD v3 R_iiiiiiAi.z).a7]) = some [vi (L0.getD v3 R_iiiiiiAi.z).a0, vi (L0.getD v3 R_iiiiiiAi.z).a1, vi (L0.getD v3 R_iiiiiiAi.z).a2, vi (L0.getD v3 R_iiiiiiAi.z).a3, vi (L0.getD v3 R_iiiiiiAi.z).a4, vi (L0.getD v3 R_iiiiiiAi.z).a5, ms E_ii ((L0.getD v3 R_iiiiiiAi.z).a6.take 12), vi (L0.getD v3 R_iiiiiiAi.z).a7] ∧ Zj ZaA [vi (L0.getD v3 R_iiiiiiAi.z).a0, vi (L0.getD v3 R_iiiiiiAi.z).a1, vi (L0.getD v3 R_iiiiiiAi.z).a2, vi (L0.getD v3 R_iiiiiiAi.z).a3, vi (L0.getD v3 R_iiiiiiAi.z).a4, vi (L0.getD v3 R_iiiiiiAi.z).a5, ms E_ii ((L0.getD v3 R_iiiiiiAi.z).a6.take 12), vi (L0.getD v3 R_iiiiiiAi.z).a7] = true) ∧ 0 < 1 ∧ 1 ≤ 100000 ∧ v2.length < v2.length + 1 ∧ v2.length ≤ 100000 ∧ v2.length * 8 ≤ (List.length (Zc E_iiiiiiAi v2)) ∧ List.take (v2.length * 8) (Zc E_iiiiiiAi v2) ++ [vi (L0.getD v3 R_iiiiiiAi.z).a0, vi (L0.getD v3 R_iiiiiiAi.z).a1, vi (L0.getD v3 R_iiiiiiAi.z).a2, vi (L0.getD v3 R_iiiiiiAi.z).a3, vi (L0.getD v3 R_iiiiiiAi.z).a4, vi (L0.getD v3 R_iiiiiiAi.z).a5, ms E_ii ((L0.getD v3 R_iiiiiiAi.z).a6.take 12), vi (L0.getD v3 R_iiiiiiAi.z).a7] = (Zc E_iiiiiiAi (v2 ++ ([(⟨(L0.getD v3 R_iiiiiiAi.z).a0, (L0.getD v3 R_iiiiiiAi.z).a1, (L0.getD v3 R_iiiiiiAi.z).a2, (L0.getD v3 R_iiiiiiAi.z).a3, (L0.getD v3 R_iiiiiiAi.z).a4, (L0.getD v3 R_iiiiiiAi.z).a5, ((L0.getD v3 R_iiiiiiAi.z).a6.take 12), (L0.getD v3 R_iiiiiiAi.z).a7⟩ : R_iiiiiiAi)] : List R_iiiiiiAi)))), true), (dP (0 ≤ 12 ∧ 12 ≤ (L0.getD v3 R_iiiiiiAi.z).a6.length ∧ Za3 (code (ZN E_ii (L0.getD v3 R_iiiiiiAi.z).a6)) (0 + 0 * 2) (ZN E_ii ((L0.getD v3 R_iiiiiiAi.z).a6.take 12)).length = some (ZN E_ii ((L0.getD v3 R_iiiiiiAi.z).a6.take 12)) ∧ (12 - 0) * 2 = (ZN E_ii ((L0.getD v3 R_iiiiiiAi.z).a6.take 12)).length ∧ ((L0.getD v3 R_iiiiiiAi.z).a6.take 12).length = 12 - 0), true), ((12 : Int) == Int.ofNat 12, true), (dS 0, true), ((decide ((((L0.getD v3 R_iiiiiiAi.z).a6.length : Nat) : Int) > (12 : Int))), true), (dP (Za3 (code (ZN E_iiiiiiAi L0)) (0 + (v3 * 8)) 8 = some [.i (L0.getD v3 R_iiiiiiAi.z).a0, .i (L0.getD v3 R_iiiiiiAi.z).a1, .i (L0.getD v3 R_iiiiiiAi.z).a2, .i (L0.getD v3 R_iiiiiiAi.z).a3, .i (L0.getD v3 R_iiiiiiAi.z).a4, .i (L0.getD v3 R_iiiiiiAi.z).a5, (mc E_ii (L0.getD v3 R_iiiiiiAi.z).a6), .i (L0.getD v3 R_iiiiiiAi.z).a7]), true), (Nat.blt v3 L0.length, true), ((v3 : Int) == Int.ofNat v3, true), ((decide ((v3 : Int) < a1)), true), ((decide ((v3 : Int) < (L0.length : Int))), true)]) rfl (show 1 ∈ Zt (ZdS 1) from by decide +kernel) (fun gv => by kernel_rfl) (Za (beq_iff_eq.2 ((wrap_i64 ltA).trans (by first | rfl | omega))) <| Za (Zp ⟨⟨rfl, ⟨rfl, rfl⟩⟩, by omega, by omega, ltA, by omega, (Zki (E := E_iiiiiiAi) (L := v2) (M := ([(⟨(L0.getD v3 R_iiiiiiAi.z).a0, (L0.getD v3 R_iiiiiiAi.z).a1, (L0.getD v3 R_iiiiiiAi.z).a2, (L0.getD v3 R_iiiiiiAi.z).a3, (L0.getD v3 R_iiiiiiAi.z).a4, (L0.getD v3 R_iiiiiiAi.z).a5, ((L0.getD v3 R_iiiiiiAi.z).a6.take 12), (L0.getD v3 R_iiiiiiAi.z).a7⟩ : R_iiiiiiAi)] : List R_iiiiiiAi)) (n := v2.length) (show _ = _ * 8 from rfl) (by omega) (R := (v2 ++ ([(⟨(L0.getD v3 R_iiiiiiAi.z).a0, (L0.getD v3 R_iiiiiiAi.z).a1, (L0.getD v3 R_iiiiiiAi.z).a2, (L0.getD v3 R_iiiiiiAi.z).a3, (L0.getD v3 R_iiiiiiAi.z).a4, (L0.getD v3 R_iiiiiiAi.z).a5, ((L0.getD v3 R_iiiiiiAi.z).a6.take 12), (L0.getD v3 R_iiiiiiAi.z).a7⟩ : R_iiiiiiAi)] : List R_iiiiiiAi))) (by rw [List.take_of_length_le (by omega)]))⟩) <| Za (Zp (Znl (E := E_ii) (L := (L0.getD v3 R_iiiiiiAi.z).a6) (R := ((L0.getD v3 R_iiiiiiAi.z).a6.take 12)) (l := 0) (h := 12) (size := 2) ltA ltA (by decide) (by simp))) <| oI <| oR <| oY <| Za (Zp (ZfC (E := E_iiiiiiAi) (L := L0) (i := v3) (q := 0) (by omega) (show (0 + (v3 * 8)) = v3 * 8 + 0 from by omega) (show 0 + 8 ≤ 8 from by decide) rfl)) <| oB <| oI <| oY <| oY Zg) rfl (by decide) (by rfl) (fun _ => ⟨rr, ⟨rr, ⟨⟨Eq.trans (show (vs 0 0 (v2 ++ ([(⟨(L0.getD v3 R_iiiiiiAi.z).a0, (L0.getD v3 R_iiiiiiAi.z).a1, (L0.getD v3 R_iiiiiiAi.z).a2, (L0.getD v3 R_iiiiiiAi.z).a3, (L0.getD v3 R_iiiiiiAi.z).a4, (L0.getD v3 R_iiiiiiAi.z).a5, ((L0.getD v3 R_iiiiiiAi.z).a6.take 12), (L0.getD v3 R_iiiiiiAi.z).a7⟩ : R_iiiiiiAi)] : List R_iiiiiiAi)).length (v2 ++ ([(⟨(L0.getD v3 R_iiiiiiAi.z).a0, (L0.getD v3 R_iiiiiiAi.z).a1, (L0.getD v3 R_iiiiiiAi.z).a2, (L0.getD v3 R_iiiiiiAi.z).a3, (L0.getD v3 R_iiiiiiAi.z).a4, (L0.getD v3 R_iiiiiiAi.z).a5, ((L0.getD v3 R_iiiiiiAi.z).a6.take 12), (L0.getD v3 R_iiiiiiAi.z).a7⟩ : R_iiiiiiAi)] : List R_iiiiiiAi)).length : Value) = vs 0 0 (v2.length + 1) (v2.length + 1) from (Zf6 rfl eqA eqA)) (by rfl), by rfl⟩, ⟨rr, trivial⟩⟩⟩⟩) ⟨(Zo (E := E_iiiiiiAi) (α := R_iiiiiiAi) _ (v2 ++ ([(⟨(L0.getD v3 R_iiiiiiAi.z).a0, (L0.getD v3 R_iiiiiiAi.z).a1, (L0.getD v3 R_iiiiiiAi.z).a2, (L0.getD v3 R_iiiiiiAi.z).a3, (L0.getD v3 R_iiiiiiAi.z).a4, (L0.getD v3 R_iiiiiiAi.z).a5, ((L0.getD v3 R_iiiiiiAi.z).a6.take 12), (L0.getD v3 R_iiiiiiAi.z).a7⟩ : R_iiiiiiAi)] : List R_iiiiiiAi)) _), trivial⟩
     ·
      exact Mach.ok_none
    ·
     exact Mach.ok_none
   ·
    refine Mach.ok_ite (fun g3 => ?_) (fun g3 => ?_)
    ·
     refine Mach.ok_ite (fun g4 => ?_) (fun g4 => ?_)
     ·
      exact Mach.ok_next (M := ZO L0 a1 N) (cd := 1000000) (cm := 0) (y := (.h1m1 ((v2 ++ ([(⟨(L0.getD v3 R_iiiiiiAi.z).a0, (L0.getD v3 R_iiiiiiAi.z).a1, (L0.getD v3 R_iiiiiiAi.z).a2, (L0.getD v3 R_iiiiiiAi.z).a3, (L0.getD v3 R_iiiiiiAi.z).a4, (L0.getD v3 R_iiiiiiAi.z).a5, (L0.getD v3 R_iiiiiiAi.z).a6, (L0.getD v3 R_iiiiiiAi.z).a7⟩ : R_iiiiiiAi)] : List R_iiiiiiAi))) ((v3 + 1)) : Zw)) (fu := 4000) (orc := (Zz [(0, true), (1, true), (2, false)] [(0, (((v3 + 1) : Nat) : Int))] [(0, v3)] [(0, [.i (L0.getD v3 R_iiiiiiAi.z).a0, .i (L0.getD v3 R_iiiiiiAi.z).a1, .i (L0.getD v3 R_iiiiiiAi.z).a2, .i (L0.getD v3 R_iiiiiiAi.z).a3, .i (L0.getD v3 R_iiiiiiAi.z).a4, .i (L0.getD v3 R_iiiiiiAi.z).a5, (mc E_ii (L0.getD v3 R_iiiiiiAi.z).a6), .i (L0.getD v3 R_iiiiiiAi.z).a7])] [(1, .ap 1 [vi (L0.getD v3 R_iiiiiiAi.z).a0, vi (L0.getD v3 R_iiiiiiAi.z).a1, vi (L0.getD v3 R_iiiiiiAi.z).a2, vi (L0.getD v3 R_iiiiiiAi.z).a3, vi (L0.getD v3 R_iiiiiiAi.z).a4, vi (L0.getD v3 R_iiiiiiAi.z).a5, ms E_ii (L0.getD v3 R_iiiiiiAi.z).a6, vi (L0.getD v3 R_iiiiiiAi.z).a7] (Zc E_iiiiiiAi (v2 ++ ([(⟨(L0.getD v3 R_iiiiiiAi.z).a0, (L0.getD v3 R_iiiiiiAi.z).a1, (L0.getD v3 R_iiiiiiAi.z).a2, (L0.getD v3 R_iiiiiiAi.z).a3, (L0.getD v3 R_iiiiiiAi.z).a4, (L0.getD v3 R_iiiiiiAi.z).a5, (L0.getD v3 R_iiiiiiAi.z).a6, (L0.getD v3 R_iiiiiiAi.z).a7⟩ : R_iiiiiiAi)] : List R_iiiiiiAi))))])) (live := [4]) (tv := fun _ => [some (ms E_iiiiiiAi L0), some (vi a1), some (vs 4 0 (v2.length + 1) (v2.length + 1)), some (vi (((v3 + 1) : Nat) : Int))]) (bl := [some (.cells (Zc E_iiiiiiAi (v2 ++ ([(⟨(L0.getD v3 R_iiiiiiAi.z).a0, (L0.getD v3 R_iiiiiiAi.z).a1, (L0.getD v3 R_iiiiiiAi.z).a2, (L0.getD v3 R_iiiiiiAi.z).a3, (L0.getD v3 R_iiiiiiAi.z).a4, (L0.getD v3 R_iiiiiiAi.z).a5, (L0.getD v3 R_iiiiiiAi.z).a6, (L0.getD v3 R_iiiiiiAi.z).a7⟩ : R_iiiiiiAi)] : List R_iiiiiiAi))) 27)]) (ob := [((IntKind.i64.wrap ((v3 : Int) + (1 : Int))) == (((v3 + 1) : Nat) : Int), true), (dP ((1 = 1 ∧ Zk (1 * 8) (List.drop 0 [vi (L0.getD v3 R_iiiiiiAi.z).a0, vi (L0.getD v3 R_iiiiiiAi.z).a1, vi (L0.getD v3 R_iiiiiiAi.z).a2, vi (L0.getD v3 R_iiiiiiAi.z).a3, vi (L0.getD v3 R_iiiiiiAi.z).a4, vi (L0.getD v3 R_iiiiiiAi.z).a5, ms E_ii (L0.getD v3 R_iiiiiiAi.z).a6, vi (L0.getD v3 R_iiiiiiAi.z).a7]) = some [vi (L0.getD v3 R_iiiiiiAi.z).a0, vi (L0.getD v3 R_iiiiiiAi.z).a1, vi (L0.getD v3 R_iiiiiiAi.z).a2, vi (L0.getD v3 R_iiiiiiAi.z).a3, vi (L0.getD v3 R_iiiiiiAi.z).a4, vi (L0.getD v3 R_iiiiiiAi.z).a5, ms E_ii (L0.getD v3 R_iiiiiiAi.z).a6, vi (L0.getD v3 R_iiiiiiAi.z).a7] ∧ Zj ZaA [vi (L0.getD v3 R_iiiiiiAi.z).a0, vi (L0.getD v3 R_iiiiiiAi.z).a1, vi (L0.getD v3 R_iiiiiiAi.z).a2, vi (L0.getD v3 R_iiiiiiAi.z).a3, vi (L0.getD v3 R_iiiiiiAi.z).a4, vi (L0.getD v3 R_iiiiiiAi.z).a5, ms E_ii (L0.getD v3 R_iiiiiiAi.z).a6, vi (L0.getD v3 R_iiiiiiAi.z).a7] = true) ∧ 0 < 1 ∧ 1 ≤ 100000 ∧ v2.length < v2.length + 1 ∧ v2.length ≤ 100000 ∧ v2.length * 8 ≤ (List.length (Zc E_iiiiiiAi v2)) ∧ List.take (v2.length * 8) (Zc E_iiiiiiAi v2) ++ [vi (L0.getD v3 R_iiiiiiAi.z).a0, vi (L0.getD v3 R_iiiiiiAi.z).a1, vi (L0.getD v3 R_iiiiiiAi.z).a2, vi (L0.getD v3 R_iiiiiiAi.z).a3, vi (L0.getD v3 R_iiiiiiAi.z).a4, vi (L0.getD v3 R_iiiiiiAi.z).a5, ms E_ii (L0.getD v3 R_iiiiiiAi.z).a6, vi (L0.getD v3 R_iiiiiiAi.z).a7] = (Zc E_iiiiiiAi (v2 ++ ([(⟨(L0.getD v3 R_iiiiiiAi.z).a0, (L0.getD v3 R_iiiiiiAi.z).a1, (L0.getD v3 R_iiiiiiAi.z).a2, (L0.getD v3 R_iiiiiiAi.z).a3, (L0.getD v3 R_iiiiiiAi.z).a4, (L0.getD v3 R_iiiiiiAi.z).a5, (L0.getD v3 R_iiiiiiAi.z).a6, (L0.getD v3 R_iiiiiiAi.z).a7⟩ : R_iiiiiiAi)] : List R_iiiiiiAi)))), true), ((decide ((((L0.getD v3 R_iiiiiiAi.z).a6.length : Nat) : Int) > (12 : Int))), false), (dP (Za3 (code (ZN E_iiiiiiAi L0)) (0 + (v3 * 8)) 8 = some [.i (L0.getD v3 R_iiiiiiAi.z).a0, .i (L0.getD v3 R_iiiiiiAi.z).a1, .i (L0.getD v3 R_iiiiiiAi.z).a2, .i (L0.getD v3 R_iiiiiiAi.z).a3, .i (L0.getD v3 R_iiiiiiAi.z).a4, .i (L0.getD v3 R_iiiiiiAi.z).a5, (mc E_ii (L0.getD v3 R_iiiiiiAi.z).a6), .i (L0.getD v3 R_iiiiiiAi.z).a7]), true), (Nat.blt v3 L0.length, true), ((v3 : Int) == Int.ofNat v3, true), ((decide ((v3 : Int) < a1)), true), ((decide ((v3 : Int) < (L0.length : Int))), true)]) rfl (show 1 ∈ Zt (ZdS 1) from by decide +kernel) (fun gv => by kernel_rfl) (Za (beq_iff_eq.2 ((wrap_i64 ltA).trans (by first | rfl | omega))) <| Za (Zp ⟨⟨rfl, ⟨rfl, rfl⟩⟩, by omega, by omega, ltA, by omega, (Zki (E := E_iiiiiiAi) (L := v2) (M := ([(⟨(L0.getD v3 R_iiiiiiAi.z).a0, (L0.getD v3 R_iiiiiiAi.z).a1, (L0.getD v3 R_iiiiiiAi.z).a2, (L0.getD v3 R_iiiiiiAi.z).a3, (L0.getD v3 R_iiiiiiAi.z).a4, (L0.getD v3 R_iiiiiiAi.z).a5, (L0.getD v3 R_iiiiiiAi.z).a6, (L0.getD v3 R_iiiiiiAi.z).a7⟩ : R_iiiiiiAi)] : List R_iiiiiiAi)) (n := v2.length) (show _ = _ * 8 from rfl) (by omega) (R := (v2 ++ ([(⟨(L0.getD v3 R_iiiiiiAi.z).a0, (L0.getD v3 R_iiiiiiAi.z).a1, (L0.getD v3 R_iiiiiiAi.z).a2, (L0.getD v3 R_iiiiiiAi.z).a3, (L0.getD v3 R_iiiiiiAi.z).a4, (L0.getD v3 R_iiiiiiAi.z).a5, (L0.getD v3 R_iiiiiiAi.z).a6, (L0.getD v3 R_iiiiiiAi.z).a7⟩ : R_iiiiiiAi)] : List R_iiiiiiAi))) (by rw [List.take_of_length_le (by omega)]))⟩) <| oN <| Za (Zp (ZfC (E := E_iiiiiiAi) (L := L0) (i := v3) (q := 0) (by omega) (show (0 + (v3 * 8)) = v3 * 8 + 0 from by omega) (show 0 + 8 ≤ 8 from by decide) rfl)) <| oB <| oI <| oY <| oY Zg) rfl (by decide) (by rfl) (fun _ => ⟨rr, ⟨rr, ⟨⟨Eq.trans (show (vs 0 0 (v2 ++ ([(⟨(L0.getD v3 R_iiiiiiAi.z).a0, (L0.getD v3 R_iiiiiiAi.z).a1, (L0.getD v3 R_iiiiiiAi.z).a2, (L0.getD v3 R_iiiiiiAi.z).a3, (L0.getD v3 R_iiiiiiAi.z).a4, (L0.getD v3 R_iiiiiiAi.z).a5, (L0.getD v3 R_iiiiiiAi.z).a6, (L0.getD v3 R_iiiiiiAi.z).a7⟩ : R_iiiiiiAi)] : List R_iiiiiiAi)).length (v2 ++ ([(⟨(L0.getD v3 R_iiiiiiAi.z).a0, (L0.getD v3 R_iiiiiiAi.z).a1, (L0.getD v3 R_iiiiiiAi.z).a2, (L0.getD v3 R_iiiiiiAi.z).a3, (L0.getD v3 R_iiiiiiAi.z).a4, (L0.getD v3 R_iiiiiiAi.z).a5, (L0.getD v3 R_iiiiiiAi.z).a6, (L0.getD v3 R_iiiiiiAi.z).a7⟩ : R_iiiiiiAi)] : List R_iiiiiiAi)).length : Value) = vs 0 0 (v2.length + 1) (v2.length + 1) from (Zf6 rfl eqA eqA)) (by rfl), by rfl⟩, ⟨rr, trivial⟩⟩⟩⟩) ⟨(Zo (E := E_iiiiiiAi) (α := R_iiiiiiAi) _ (v2 ++ ([(⟨(L0.getD v3 R_iiiiiiAi.z).a0, (L0.getD v3 R_iiiiiiAi.z).a1, (L0.getD v3 R_iiiiiiAi.z).a2, (L0.getD v3 R_iiiiiiAi.z).a3, (L0.getD v3 R_iiiiiiAi.z).a4, (L0.getD v3 R_iiiiiiAi.z).a5, (L0.getD v3 R_iiiiiiAi.z).a6, (L0.getD v3 R_iiiiiiAi.z).a7⟩ : R_iiiiiiAi)] : List R_iiiiiiAi)) _), trivial⟩
     ·
      exact Mach.ok_none
    ·
     exact Mach.ok_none
  ·
   exact Mach.ok_fin (M := ZO L0 a1 N) (cd := 1000000) (cm := 0) (r := (.r1 (v2) : ZM)) (fu := 4000) (orc := (Zz [(0, true), (1, false)] [] [] [] [])) (live := [0]) (u := vs 0 0 v2.length v2.length) (bl := [some (.cells (Zc E_iiiiiiAi v2) 27)]) (ob := [((decide ((v3 : Int) < a1)), false), ((decide ((v3 : Int) < (L0.length : Int))), true)]) (fun gv => by kernel_rfl) (oN <| oY Zg) rfl (by decide) (by rfl) rr ⟨(Zo (E := E_iiiiiiAi) (α := R_iiiiiiAi) _ v2 _), trivial⟩
 ·
  exact Mach.ok_fin (M := ZO L0 a1 N) (cd := 1000000) (cm := 0) (r := (.r1 (v2) : ZM)) (fu := 4000) (orc := (Zz [(0, false)] [] [] [] [])) (live := [0]) (u := vs 0 0 v2.length v2.length) (bl := [some (.cells (Zc E_iiiiiiAi v2) 27)]) (ob := [((decide ((v3 : Int) < (L0.length : Int))), false)]) (fun gv => by kernel_rfl) (oN Zg) rfl (by decide) (by rfl) rr ⟨(Zo (E := E_iiiiiiAi) (α := R_iiiiiiAi) _ v2 _), trivial⟩

theorem Zkp (L0 : List R_iiiiiiAi) (a1 : Int) (N : Nat) : (ZO L0 a1 N).Enter Tryz.prog Zs #[ms E_iiiiiiAi L0, vi a1] (ZeL L0 a1 N) := by
 unfold ZeL
 exact Mach.en_head (bK := ZbA 1) (M := ZO L0 a1 N) (cd := 1000000) (cm := 0) (y := (.h1m0 : Zw)) (fu := 4000) (orc := (Zz [] [] [] [] [])) (live := []) (tv := [some (ms E_iiiiiiAi L0), some (vi a1), some (vn), some (vq)]) (bl := []) (ob := []) rfl rfl (show Zt (ZbA 1).2 = [] from rfl) (by kernel_rfl) Zg rfl (by decide) (by rfl) ⟨rr, ⟨rr, ⟨rr, ⟨rr, trivial⟩⟩⟩⟩ trivial

theorem Zfj (L0 : List R_iiiiiiAi) (a1 : Int) (N : Nat) (r : ZM) (h : ZcI L0 a1 N = some r) : LSpec Tryz.prog 4 #[ms E_iiiiiiAi L0, vi a1] [] (ZhX L0 a1 r) (Zhg L0 a1 r) :=
 Mach.spec Zcu (ZO L0 a1 N) Tryz.func4 (by kernel_rfl) (by kernel_rfl) (fun x => by cases x <;> exact Zap _ rfl) (fun r => by cases r <;> exact Zap _ rfl) (fun x => by
  cases x with
  | h1m0 => exact fun _ => (show ¬ (1 ∈ Zt (ZbA 1).2) from by decide +kernel)
  | h1m1 _ _ => exact fun _ => (show ¬ (1 ∈ Zt (ZbA 1).2) from by decide +kernel)
  ) (fun x => (show (ZO L0 a1 N).Ok Tryz.prog Zs x (ZaV L0 a1 N x) from by
  cases x with
  | h1m0 => exact ZhY L0 a1 N
  | h1m1 v2 v3 => exact ZhZ L0 a1 v2 v3 N
  )) (Zkp L0 a1 N) (n := N) h

noncomputable def Zhi (L0 : List R_iiiiiiAi) (a1 : Int) (n : Nat) : Zcm := .call [] (vn) [] 0
def ZeN (A : Array Value) (L0 : List R_iiiiiiAi) (a1 : Int) (n : Nat) : Prop := ZW Tryz.prog 4 A [] (vn) [] n 0

theorem Zhj (A : Array Value) (L0 : List R_iiiiiiAi) (a1 : Int) (N : Nat) (h : ZcI L0 a1 N = some (.r0)) (n : Nat) (hA : A = #[ms E_iiiiiiAi L0, vi a1]) (hnd : ([] : List Nat).Nodup) (hlt : ∀ k ∈ ([] : List Nat), k < n) : ZeN A L0 a1  n :=
 ZbH hA (LSpec.callL (show LSpec Tryz.prog 4 #[ms E_iiiiiiAi L0, vi a1] [] (vn) [] from Zfj L0 a1 N _ h) [] n [] rfl hnd hlt (show 0 ≤ 0 from by decide) (show ∀ j ∈ ([] : List Nat), j < 0 from by decide) (by rfl) trivial (by rfl) trivial trivial rfl rfl rfl rfl rfl)

noncomputable def Zcv (L0 : List R_iiiiiiAi) (a1 : Int) (w0 : List R_iiiiiiAi) (n : Nat) : Zcm := .call [] (vs n 0 w0.length w0.length) [(n, some (.cells (Zc E_iiiiiiAi w0) 27))] 1
def ZbJ (A : Array Value) (L0 : List R_iiiiiiAi) (a1 : Int) (w0 : List R_iiiiiiAi) (n : Nat) : Prop := ZW Tryz.prog 4 A [] (vs n 0 w0.length w0.length) [(n, some (.cells (Zc E_iiiiiiAi w0) 27))] n 1

theorem Zcw (A : Array Value) (L0 : List R_iiiiiiAi) (a1 : Int) (w0 : List R_iiiiiiAi) (N : Nat) (h : ZcI L0 a1 N = some (.r1 w0)) (n : Nat) (hA : A = #[ms E_iiiiiiAi L0, vi a1]) (hnd : ([] : List Nat).Nodup) (hlt : ∀ k ∈ ([] : List Nat), k < n) : ZbJ A L0 a1 w0  n :=
 ZbH hA (LSpec.callL (show LSpec Tryz.prog 4 #[ms E_iiiiiiAi L0, vi a1] [] (vs 0 0 w0.length w0.length) [some (.cells (Zc E_iiiiiiAi w0) 27)] from Zfj L0 a1 N _ h) [] n [0] rfl hnd hlt (show 0 ≤ 1 from by decide) (show ∀ j ∈ ([0] : List Nat), j < 1 from by decide) (by rfl) trivial (by rfl) ⟨(Zbd _ _ _), trivial⟩ ⟨(by decide), trivial⟩ rfl rfl rfl rfl (Zfh (Zfi rfl (Zn2 (Zep _ _ _))) rfl))

noncomputable def ZfO  : Zad → Value
 | .r0 => vq
noncomputable def Zfk  : Zad → List (Option AObj)
 | .r0 => []

def Zi0 : ZK → Nat
 | .h1m0 => 1
noncomputable def Zje  : ZK → List (Nat × Value)
 | .h1m0 => [(3, Value.map (some 0)), (14, vn), (15, vq), (16, vq)]
noncomputable def Zjf  : ZK → List (Option AObj)
 | .h1m0 => [some (.ro (ZcU ([] : List R_ii)) true)]

noncomputable def Zcz : Nat → Code × List ZZ
 | 1 => Zas [1, 1, 1, 0, 1, 3] (Zbb Tryz.f5) []
 | _ => (.skip, [])
def Zi1 : Nat → Bool
 | 1 => true
 | _ => true
noncomputable def ZaF  (N : Nat) : Mach := ⟨Tryz.f5, [], ZK, Zad, Zb8  N, Zi0, Zcz, Zi1, Zje , Zjf , ZfO , Zfk ⟩

theorem Zg5  (N : Nat) : (ZaF  N).Ok Tryz.prog Zs (.h1m0 : ZK) (Zb8  N (.h1m0 : ZK)) := by
 show (ZaF  N).Ok Tryz.prog Zs (.h1m0 : ZK) (Zcn  N)
 unfold Zcn
 exact Mach.ok_fin (M := ZaF  N) (cd := 1000000) (cm := 0) (r := (.r0 : Zad)) (fu := 4000) (orc := (Zz [] [] [] [] [])) (live := []) (u := vq) (bl := []) (ob := []) (fun gv => by kernel_rfl) Zg rfl (by decide) (by rfl) rr trivial

theorem Zia  (N : Nat) : (ZaF  N).Enter Tryz.prog Zs #[vn] (Zdm  N) := by
 unfold Zdm
 exact Mach.en_head (bK := Zcz 1) (M := ZaF  N) (cd := 1000000) (cm := 0) (y := (.h1m0 : ZK)) (fu := 4000) (orc := (Zz [] [] [] [] [])) (live := [0]) (tv := [some (Value.map (some 0)), some (vn), some (vq), some (vq)]) (bl := [some (.ro (ZcU ([] : List R_ii)) true)]) (ob := []) rfl rfl (show Zt (Zcz 1).2 = [] from rfl) (by kernel_rfl) Zg rfl (by decide) (by rfl) ⟨rr, ⟨rr, ⟨rr, ⟨rr, trivial⟩⟩⟩⟩ ⟨(show ZcU ([] : List R_ii) = ZcU ([] : List R_ii) from rfl), trivial⟩

theorem ZgR  (N : Nat) (r : Zad) (h : ZcV  N = some r) : LSpec Tryz.prog 5 #[vn] [] (ZfO  r) (Zfk  r) :=
 Mach.spec Zcu (ZaF  N) Tryz.func5 (by kernel_rfl) (by kernel_rfl) (fun x => by cases x <;> exact Zap _ rfl) (fun r => by cases r <;> exact Zap _ rfl) (fun x => by
  cases x with
  | h1m0 => exact fun _ => (show ¬ (1 ∈ Zt (Zcz 1).2) from by decide +kernel)
  ) (fun x => (show (ZaF  N).Ok Tryz.prog Zs x (Zb8  N x) from by
  cases x with
  | h1m0 => exact Zg5  N
  )) (Zia  N) (n := N) h

noncomputable def Zdo  (n : Nat) : Zcm := .call [] (vq) [] 0
def Zck (A : Array Value)  (n : Nat) : Prop := ZW Tryz.prog 5 A [] (vq) [] n 0

theorem Zdp (A : Array Value)  (N : Nat) (h : ZcV  N = some (.r0)) (n : Nat) (hA : A = #[vn]) (hnd : ([] : List Nat).Nodup) (hlt : ∀ k ∈ ([] : List Nat), k < n) : Zck A   n :=
 ZbH hA (LSpec.callL (show LSpec Tryz.prog 5 #[vn] [] (vq) [] from ZgR  N _ h) [] n [] rfl hnd hlt (show 0 ≤ 0 from by decide) (show ∀ j ∈ ([] : List Nat), j < 0 from by decide) (by rfl) trivial (by rfl) trivial trivial rfl rfl rfl rfl rfl)

noncomputable def Zg6  : Zak → Value
 | .r0 => vq
noncomputable def ZfP  : Zak → List (Option AObj)
 | .r0 => []

def Zjg : ZP → Nat
 | .h1m0 => 1
noncomputable def Zkq  : ZP → List (Nat × Value)
 | .h1m0 => [(0, vn), (3, vq)]
noncomputable def Zkr  : ZP → List (Option AObj)
 | .h1m0 => []

noncomputable def ZcY : Nat → Code × List ZZ
 | 1 => Zas [1, 1, 0, 1, 3] (Zbb Tryz.f6) []
 | _ => (.skip, [])
def Zjh : Nat → Bool
 | 1 => true
 | _ => true
noncomputable def ZaR  (N : Nat) : Mach := ⟨Tryz.f6, [], ZP, Zak, ZbQ  N, Zjg, ZcY, Zjh, Zkq , Zkr , Zg6 , ZfP ⟩

theorem ZgS  (N : Nat) : (ZaR  N).Ok Tryz.prog Zs (.h1m0 : ZP) (ZbQ  N (.h1m0 : ZP)) := by
 show (ZaR  N).Ok Tryz.prog Zs (.h1m0 : ZP) (Zc8  N)
 unfold Zc8
 exact Mach.ok_fin (M := ZaR  N) (cd := 1000000) (cm := 0) (r := (.r0 : Zak)) (fu := 4000) (orc := (Zz [] [] [] [] [])) (live := []) (u := vq) (bl := []) (ob := []) (fun gv => by kernel_rfl) Zg rfl (by decide) (by rfl) rr trivial

theorem Zi2  (N : Nat) : (ZaR  N).Enter Tryz.prog Zs #[vn] (ZdG  N) := by
 unfold ZdG
 exact Mach.en_head (bK := ZcY 1) (M := ZaR  N) (cd := 1000000) (cm := 0) (y := (.h1m0 : ZP)) (fu := 4000) (orc := (Zz [] [] [] [] [])) (live := []) (tv := [some (vn), some (vq)]) (bl := []) (ob := []) rfl rfl (show Zt (ZcY 1).2 = [] from rfl) (by kernel_rfl) Zg rfl (by decide) (by rfl) ⟨rr, ⟨rr, trivial⟩⟩ trivial

theorem Zh1  (N : Nat) (r : Zak) (h : Zdv  N = some r) : LSpec Tryz.prog 6 #[vn] [] (Zg6  r) (ZfP  r) :=
 Mach.spec Zcu (ZaR  N) Tryz.func6 (by kernel_rfl) (by kernel_rfl) (fun x => by cases x <;> exact Zap _ rfl) (fun r => by cases r <;> exact Zap _ rfl) (fun x => by
  cases x with
  | h1m0 => exact fun _ => (show ¬ (1 ∈ Zt (ZcY 1).2) from by decide +kernel)
  ) (fun x => (show (ZaR  N).Ok Tryz.prog Zs x (ZbQ  N x) from by
  cases x with
  | h1m0 => exact ZgS  N
  )) (Zi2  N) (n := N) h

noncomputable def ZdI  (n : Nat) : Zcm := .call [] (vq) [] 0
def Zc0 (A : Array Value)  (n : Nat) : Prop := ZW Tryz.prog 6 A [] (vq) [] n 0

theorem ZdJ (A : Array Value)  (N : Nat) (h : Zdv  N = some (.r0)) (n : Nat) (hA : A = #[vn]) (hnd : ([] : List Nat).Nodup) (hlt : ∀ k ∈ ([] : List Nat), k < n) : Zc0 A   n :=
 ZbH hA (LSpec.callL (show LSpec Tryz.prog 6 #[vn] [] (vq) [] from Zh1  N _ h) [] n [] rfl hnd hlt (show 0 ≤ 0 from by decide) (show ∀ j ∈ ([] : List Nat), j < 0 from by decide) (by rfl) trivial (by rfl) trivial trivial rfl rfl rfl rfl rfl)

noncomputable def ZfQ  : Zae → Value
 | .r0 => vq
noncomputable def Zfl  : Zae → List (Option AObj)
 | .r0 => []

def Zi3 : ZL → Nat
 | .h1m0 => 1
noncomputable def Zji  : ZL → List (Nat × Value)
 | .h1m0 => [(0, vn), (3, vq), (12, vn), (13, vq), (14, vq)]
noncomputable def Zjj  : ZL → List (Option AObj)
 | .h1m0 => []

noncomputable def Zc1 : Nat → Code × List ZZ
 | 1 => Zas [1, 1, 1, 0, 1, 3] (Zbb Tryz.f9) []
 | _ => (.skip, [])
def Zi4 : Nat → Bool
 | 1 => true
 | _ => true
noncomputable def ZaG  (N : Nat) : Mach := ⟨Tryz.f9, [], ZL, Zae, Zb9  N, Zi3, Zc1, Zi4, Zji , Zjj , ZfQ , Zfl ⟩

theorem Zg7  (N : Nat) : (ZaG  N).Ok Tryz.prog Zs (.h1m0 : ZL) (Zb9  N (.h1m0 : ZL)) := by
 show (ZaG  N).Ok Tryz.prog Zs (.h1m0 : ZL) (Zco  N)
 unfold Zco
 exact Mach.ok_fin (M := ZaG  N) (cd := 1000000) (cm := 0) (r := (.r0 : Zae)) (fu := 4000) (orc := (Zz [] [] [] [] [])) (live := []) (u := vq) (bl := []) (ob := []) (fun gv => by kernel_rfl) Zg rfl (by decide) (by rfl) rr trivial

theorem Zib  (N : Nat) : (ZaG  N).Enter Tryz.prog Zs #[vn] (Zdn  N) := by
 unfold Zdn
 refine Mach.en_bind (fun z0 c0 => ?_)
 cases z0 with
 | r0 =>
  exact Mach.en_head (bK := Zc1 1) (M := ZaG  N) (cd := 1000000) (cm := 0) (y := (.h1m0 : ZL)) (fu := 4000) (orc := (Zz [] [] [] [] [(0, (Zdo     0))])) (live := []) (tv := [some (vn), some (vq), some (vn), some (vq), some (vq)]) (bl := []) (ob := [(dP (Zck #[vn]     0), true)]) rfl rfl (show Zt (Zc1 1).2 = [] from rfl) (by kernel_rfl) (Za (Zp (Zdp #[vn]    N c0  0 rfl (by decide) (by decide))) Zg) rfl (by decide) (by rfl) ⟨rr, ⟨rr, ⟨rr, ⟨rr, ⟨rr, trivial⟩⟩⟩⟩⟩ trivial

theorem ZgT  (N : Nat) (r : Zae) (h : Zeq  N = some r) : LSpec Tryz.prog 9 #[vn] [] (ZfQ  r) (Zfl  r) :=
 Mach.spec Zcu (ZaG  N) Tryz.func9 (by kernel_rfl) (by kernel_rfl) (fun x => by cases x <;> exact Zap _ rfl) (fun r => by cases r <;> exact Zap _ rfl) (fun x => by
  cases x with
  | h1m0 => exact fun _ => (show ¬ (1 ∈ Zt (Zc1 1).2) from by decide +kernel)
  ) (fun x => (show (ZaG  N).Ok Tryz.prog Zs x (Zb9  N x) from by
  cases x with
  | h1m0 => exact Zg7  N
  )) (Zib  N) (n := N) h

noncomputable def Zfm  (n : Nat) : Zcm := .call [] (vq) [] 0
def Zdq (A : Array Value)  (n : Nat) : Prop := ZW Tryz.prog 9 A [] (vq) [] n 0

theorem Zfn (A : Array Value)  (N : Nat) (h : Zeq  N = some (.r0)) (n : Nat) (hA : A = #[vn]) (hnd : ([] : List Nat).Nodup) (hlt : ∀ k ∈ ([] : List Nat), k < n) : Zdq A   n :=
 ZbH hA (LSpec.callL (show LSpec Tryz.prog 9 #[vn] [] (vq) [] from ZgT  N _ h) [] n [] rfl hnd hlt (show 0 ≤ 0 from by decide) (show ∀ j ∈ ([] : List Nat), j < 0 from by decide) (by rfl) trivial (by rfl) trivial trivial rfl rfl rfl rfl rfl)

noncomputable def Zg8  : Zal → Value
 | .r0 => vq
noncomputable def ZfR  : Zal → List (Option AObj)
 | .r0 => []

def Zjk : ZQ → Nat
 | .h1m0 => 1
noncomputable def Zks  : ZQ → List (Nat × Value)
 | .h1m0 => [(0, vn), (3, vq), (4, vq)]
noncomputable def Zkt  : ZQ → List (Option AObj)
 | .h1m0 => []

noncomputable def ZcZ : Nat → Code × List ZZ
 | 1 => Zas [1, 1, 1, 0, 1, 3] (Zbb Tryz.f10) []
 | _ => (.skip, [])
def Zjl : Nat → Bool
 | 1 => true
 | _ => true
noncomputable def ZaS  (N : Nat) : Mach := ⟨Tryz.f10, [], ZQ, Zal, ZbR  N, Zjk, ZcZ, Zjl, Zks , Zkt , Zg8 , ZfR ⟩

theorem ZgU  (N : Nat) : (ZaS  N).Ok Tryz.prog Zs (.h1m0 : ZQ) (ZbR  N (.h1m0 : ZQ)) := by
 show (ZaS  N).Ok Tryz.prog Zs (.h1m0 : ZQ) (Zc9  N)
 unfold Zc9
 exact Mach.ok_fin (M := ZaS  N) (cd := 1000000) (cm := 0) (r := (.r0 : Zal)) (fu := 4000) (orc := (Zz [] [] [] [] [])) (live := []) (u := vq) (bl := []) (ob := []) (fun gv => by kernel_rfl) Zg rfl (by decide) (by rfl) rr trivial

theorem Zi5  (N : Nat) : (ZaS  N).Enter Tryz.prog Zs #[vn] (ZdH  N) := by
 unfold ZdH
 refine Mach.en_bind (fun z0 c0 => ?_)
 cases z0 with
 | r0 =>
  exact Mach.en_head (bK := ZcZ 1) (M := ZaS  N) (cd := 1000000) (cm := 0) (y := (.h1m0 : ZQ)) (fu := 4000) (orc := (Zz [] [] [] [] [(0, (ZdI     0))])) (live := []) (tv := [some (vn), some (vq), some (vq)]) (bl := []) (ob := [(dP (Zc0 #[vn]     0), true)]) rfl rfl (show Zt (ZcZ 1).2 = [] from rfl) (by kernel_rfl) (Za (Zp (ZdJ #[vn]    N c0  0 rfl (by decide) (by decide))) Zg) rfl (by decide) (by rfl) ⟨rr, ⟨rr, ⟨rr, trivial⟩⟩⟩ trivial

theorem Zh2  (N : Nat) (r : Zal) (h : ZeM  N = some r) : LSpec Tryz.prog 10 #[vn] [] (Zg8  r) (ZfR  r) :=
 Mach.spec Zcu (ZaS  N) Tryz.func10 (by kernel_rfl) (by kernel_rfl) (fun x => by cases x <;> exact Zap _ rfl) (fun r => by cases r <;> exact Zap _ rfl) (fun x => by
  cases x with
  | h1m0 => exact fun _ => (show ¬ (1 ∈ Zt (ZcZ 1).2) from by decide +kernel)
  ) (fun x => (show (ZaS  N).Ok Tryz.prog Zs x (ZbR  N x) from by
  cases x with
  | h1m0 => exact ZgU  N
  )) (Zi5  N) (n := N) h

noncomputable def ZfS  (n : Nat) : Zcm := .call [] (vq) [] 0
def ZdK (A : Array Value)  (n : Nat) : Prop := ZW Tryz.prog 10 A [] (vq) [] n 0

theorem ZfT (A : Array Value)  (N : Nat) (h : ZeM  N = some (.r0)) (n : Nat) (hA : A = #[vn]) (hnd : ([] : List Nat).Nodup) (hlt : ∀ k ∈ ([] : List Nat), k < n) : ZdK A   n :=
 ZbH hA (LSpec.callL (show LSpec Tryz.prog 10 #[vn] [] (vq) [] from Zh2  N _ h) [] n [] rfl hnd hlt (show 0 ≤ 0 from by decide) (show ∀ j ∈ ([] : List Nat), j < 0 from by decide) (by rfl) trivial (by rfl) trivial trivial rfl rfl rfl rfl rfl)

noncomputable def Ze5 (L0 : List R_iiiiiiAi) : Zn → Value
 | .r0 w1 => vi w1
noncomputable def Zer (L0 : List R_iiiiiiAi) : Zn → List (Option AObj)
 | .r0 w1 => [some (.cells (Zc E_iiiiiiAi L0) 27)]

def Zh3 : Zv → Nat
 | .h1m0 v1 v3 => 1
noncomputable def Zic (L0 : List R_iiiiiiAi) : Zv → List (Nat × Value)
 | .h1m0 v1 v3 => [(3, Value.map (some 1)), (14, vs 0 0 L0.length L0.length), (15, vi (L0.length : Int)), (16, vi (v3 : Int))]
noncomputable def Zid (L0 : List R_iiiiiiAi) : Zv → List (Option AObj)
 | .h1m0 v1 v3 => [some (.cells (Zc E_iiiiiiAi L0) 27), some (.ro (ZcU v1) true)]

noncomputable def ZaC : Nat → Code × List ZZ
 | 1 => Zas [1, 1, 1, 0, 1, 3] (Zbb Tryz.f5) []
 | _ => (.skip, [])
def Zes : Nat → Bool
 | 1 => true
 | _ => true
noncomputable def Ze6 (i : Nat) : List ZZ := match Zes i with | true => .rnd i :: (ZaC i).2 | false => (ZaC i).2

noncomputable def Z3 (L0 : List R_iiiiiiAi) (N : Nat) : Mach := ⟨Tryz.f5, [.cells (Zc E_iiiiiiAi L0) 27], Zv, Zn, Za9 L0 N, Zh3, ZaC, Zes, Zic L0, Zid L0, Ze5 L0, Zer L0⟩

theorem ZfE (L0 : List R_iiiiiiAi) (v1 : List R_ii) (v3 N : Nat) : (Z3 L0 N).Ok Tryz.prog Zs (.h1m0 v1 v3 : Zv) (Za9 L0 N (.h1m0 v1 v3 : Zv)) := by
 show (Z3 L0 N).Ok Tryz.prog Zs (.h1m0 v1 v3 : Zv) (ZbK L0 N v1 v3)
 unfold ZbK
 refine Mach.ok_ite (fun g0 => ?_) (fun g0 => ?_)
 ·
  refine Mach.ok_ite (fun g1 => ?_) (fun g1 => ?_)
  ·
   refine Mach.ok_ite (fun g2 => ?_) (fun g2 => ?_)
   ·
    exact Mach.ok_fin (M := Z3 L0 N) (cd := 1000000) (cm := 0) (r := (.r0 ((300 : Int)) : Zn)) (fu := 4000) (orc := (Zz [(0, true), (1, true)] [] [(0, v3)] [(0, [.i (L0.getD v3 R_iiiiiiAi.z).a0, .i (L0.getD v3 R_iiiiiiAi.z).a1, .i (L0.getD v3 R_iiiiiiAi.z).a2, .i (L0.getD v3 R_iiiiiiAi.z).a3, .i (L0.getD v3 R_iiiiiiAi.z).a4, .i (L0.getD v3 R_iiiiiiAi.z).a5, (mc E_ii (L0.getD v3 R_iiiiiiAi.z).a6), .i (L0.getD v3 R_iiiiiiAi.z).a7])] [(1, .lk (some (vi (Zbk v1 (L0.getD v3 R_iiiiiiAi.z).a1))))])) (live := [0]) (u := vi (300 : Int)) (bl := [some (.cells (Zc E_iiiiiiAi L0) 27)]) (ob := [((decide ((L0.getD v3 R_iiiiiiAi.z).a3 < (1 : Int))), true), (dP (Zbz .i64 (vi (L0.getD v3 R_iiiiiiAi.z).a1) (Za6 v1) = some (some (vi (Zbk v1 (L0.getD v3 R_iiiiiiAi.z).a1)))), true), (Z5 (Zk 8 (List.drop (0 + (v3 * 8)) (Zc E_iiiiiiAi L0))) [.i (L0.getD v3 R_iiiiiiAi.z).a0, .i (L0.getD v3 R_iiiiiiAi.z).a1, .i (L0.getD v3 R_iiiiiiAi.z).a2, .i (L0.getD v3 R_iiiiiiAi.z).a3, .i (L0.getD v3 R_iiiiiiAi.z).a4, .i (L0.getD v3 R_iiiiiiAi.z).a5, (mc E_ii (L0.getD v3 R_iiiiiiAi.z).a6), .i (L0.getD v3 R_iiiiiiAi.z).a7], true), (Nat.blt v3 L0.length, true), ((v3 : Int) == Int.ofNat v3, true), ((decide ((v3 : Int) < (L0.length : Int))), true)]) (fun gv => by kernel_rfl) (oY <| Za (Zp (ZgO (by assumption))) <| Za (Zm (E := E_iiiiiiAi) (L := L0) (i := v3) (q := 0) (by omega) (show (0 + (v3 * 8)) = v3 * 8 + 0 from by omega) (show 0 + 8 ≤ 8 from by decide) rfl rfl) <| oB <| oI <| oY Zg) rfl (by decide) (by rfl) rr ⟨(Zo (E := E_iiiiiiAi) (α := R_iiiiiiAi) _ L0 _), trivial⟩
   ·
    refine Mach.ok_ite (fun g3 => ?_) (fun g3 => ?_)
    ·
     exact Mach.ok_fin (M := Z3 L0 N) (cd := 1000000) (cm := 0) (r := (.r0 ((300 : Int)) : Zn)) (fu := 4000) (orc := (Zz [(0, true), (1, false), (2, true)] [] [(0, v3)] [(0, [.i (L0.getD v3 R_iiiiiiAi.z).a0, .i (L0.getD v3 R_iiiiiiAi.z).a1, .i (L0.getD v3 R_iiiiiiAi.z).a2, .i (L0.getD v3 R_iiiiiiAi.z).a3, .i (L0.getD v3 R_iiiiiiAi.z).a4, .i (L0.getD v3 R_iiiiiiAi.z).a5, (mc E_ii (L0.getD v3 R_iiiiiiAi.z).a6), .i (L0.getD v3 R_iiiiiiAi.z).a7])] [(1, .lk (some (vi (Zbk v1 (L0.getD v3 R_iiiiiiAi.z).a1))))])) (live := [0]) (u := vi (300 : Int)) (bl := [some (.cells (Zc E_iiiiiiAi L0) 27)]) (ob := [((decide ((L0.getD v3 R_iiiiiiAi.z).a5 < (L0.getD v3 R_iiiiiiAi.z).a3)), true), ((decide ((L0.getD v3 R_iiiiiiAi.z).a3 < (1 : Int))), false), (dP (Zbz .i64 (vi (L0.getD v3 R_iiiiiiAi.z).a1) (Za6 v1) = some (some (vi (Zbk v1 (L0.getD v3 R_iiiiiiAi.z).a1)))), true), (Z5 (Zk 8 (List.drop (0 + (v3 * 8)) (Zc E_iiiiiiAi L0))) [.i (L0.getD v3 R_iiiiiiAi.z).a0, .i (L0.getD v3 R_iiiiiiAi.z).a1, .i (L0.getD v3 R_iiiiiiAi.z).a2, .i (L0.getD v3 R_iiiiiiAi.z).a3, .i (L0.getD v3 R_iiiiiiAi.z).a4, .i (L0.getD v3 R_iiiiiiAi.z).a5, (mc E_ii (L0.getD v3 R_iiiiiiAi.z).a6), .i (L0.getD v3 R_iiiiiiAi.z).a7], true), (Nat.blt v3 L0.length, true), ((v3 : Int) == Int.ofNat v3, true), ((decide ((v3 : Int) < (L0.length : Int))), true)]) (fun gv => by kernel_rfl) (oY <| oN <| Za (Zp (ZgO (by assumption))) <| Za (Zm (E := E_iiiiiiAi) (L := L0) (i := v3) (q := 0) (by omega) (show (0 + (v3 * 8)) = v3 * 8 + 0 from by omega) (show 0 + 8 ≤ 8 from by decide) rfl rfl) <| oB <| oI <| oY Zg) rfl (by decide) (by rfl) rr ⟨(Zo (E := E_iiiiiiAi) (α := R_iiiiiiAi) _ L0 _), trivial⟩
    ·
     refine Mach.ok_ite (fun g4 => ?_) (fun g4 => ?_)
     ·
      exact Mach.ok_fin (M := Z3 L0 N) (cd := 1000000) (cm := 0) (r := (.r0 ((300 : Int)) : Zn)) (fu := 4000) (orc := (Zz [(0, true), (1, false), (2, false), (3, true)] [] [(0, v3)] [(0, [.i (L0.getD v3 R_iiiiiiAi.z).a0, .i (L0.getD v3 R_iiiiiiAi.z).a1, .i (L0.getD v3 R_iiiiiiAi.z).a2, .i (L0.getD v3 R_iiiiiiAi.z).a3, .i (L0.getD v3 R_iiiiiiAi.z).a4, .i (L0.getD v3 R_iiiiiiAi.z).a5, (mc E_ii (L0.getD v3 R_iiiiiiAi.z).a6), .i (L0.getD v3 R_iiiiiiAi.z).a7])] [(1, .lk (some (vi (Zbk v1 (L0.getD v3 R_iiiiiiAi.z).a1))))])) (live := [0]) (u := vi (300 : Int)) (bl := [some (.cells (Zc E_iiiiiiAi L0) 27)]) (ob := [((decide ((L0.getD v3 R_iiiiiiAi.z).a3 ≤ (Zbk v1 (L0.getD v3 R_iiiiiiAi.z).a1))), true), ((decide ((L0.getD v3 R_iiiiiiAi.z).a5 < (L0.getD v3 R_iiiiiiAi.z).a3)), false), ((decide ((L0.getD v3 R_iiiiiiAi.z).a3 < (1 : Int))), false), (dP (Zbz .i64 (vi (L0.getD v3 R_iiiiiiAi.z).a1) (Za6 v1) = some (some (vi (Zbk v1 (L0.getD v3 R_iiiiiiAi.z).a1)))), true), (Z5 (Zk 8 (List.drop (0 + (v3 * 8)) (Zc E_iiiiiiAi L0))) [.i (L0.getD v3 R_iiiiiiAi.z).a0, .i (L0.getD v3 R_iiiiiiAi.z).a1, .i (L0.getD v3 R_iiiiiiAi.z).a2, .i (L0.getD v3 R_iiiiiiAi.z).a3, .i (L0.getD v3 R_iiiiiiAi.z).a4, .i (L0.getD v3 R_iiiiiiAi.z).a5, (mc E_ii (L0.getD v3 R_iiiiiiAi.z).a6), .i (L0.getD v3 R_iiiiiiAi.z).a7], true), (Nat.blt v3 L0.length, true), ((v3 : Int) == Int.ofNat v3, true), ((decide ((v3 : Int) < (L0.length : Int))), true)]) (fun gv => by kernel_rfl) (oY <| oN <| oN <| Za (Zp (ZgO (by assumption))) <| Za (Zm (E := E_iiiiiiAi) (L := L0) (i := v3) (q := 0) (by omega) (show (0 + (v3 * 8)) = v3 * 8 + 0 from by omega) (show 0 + 8 ≤ 8 from by decide) rfl rfl) <| oB <| oI <| oY Zg) rfl (by decide) (by rfl) rr ⟨(Zo (E := E_iiiiiiAi) (α := R_iiiiiiAi) _ L0 _), trivial⟩
     ·
      refine Mach.ok_ite (fun g5 => ?_) (fun g5 => ?_)
      ·
       exact Mach.ok_next (M := Z3 L0 N) (cd := 1000000) (cm := 0) (y := (.h1m0 ((ZaQ v1 (L0.getD v3 R_iiiiiiAi.z).a1 (L0.getD v3 R_iiiiiiAi.z).a5)) ((v3 + 1)) : Zv)) (fu := 4000) (orc := (Zz [(0, true), (1, false), (2, false), (3, false)] [(0, (((v3 + 1) : Nat) : Int))] [(0, v3)] [(0, [.i (L0.getD v3 R_iiiiiiAi.z).a0, .i (L0.getD v3 R_iiiiiiAi.z).a1, .i (L0.getD v3 R_iiiiiiAi.z).a2, .i (L0.getD v3 R_iiiiiiAi.z).a3, .i (L0.getD v3 R_iiiiiiAi.z).a4, .i (L0.getD v3 R_iiiiiiAi.z).a5, (mc E_ii (L0.getD v3 R_iiiiiiAi.z).a6), .i (L0.getD v3 R_iiiiiiAi.z).a7])] [(1, .lk (some (vi (Zbk v1 (L0.getD v3 R_iiiiiiAi.z).a1)))), (2, .mp (Za6 (ZaQ v1 (L0.getD v3 R_iiiiiiAi.z).a1 (L0.getD v3 R_iiiiiiAi.z).a5)))])) (live := [0, 1]) (tv := fun _ => [some (Value.map (some 1)), some (vs 0 0 L0.length L0.length), some (vi (L0.length : Int)), some (vi (((v3 + 1) : Nat) : Int))]) (bl := [some (.cells (Zc E_iiiiiiAi L0) 27), some (.ro (ZcU (ZaQ v1 (L0.getD v3 R_iiiiiiAi.z).a1 (L0.getD v3 R_iiiiiiAi.z).a5)) true)]) (ob := [((IntKind.i64.wrap ((v3 : Int) + (1 : Int))) == (((v3 + 1) : Nat) : Int), true), (dP (Zgf .i64 (vi (L0.getD v3 R_iiiiiiAi.z).a1) (vi (L0.getD v3 R_iiiiiiAi.z).a5) (Za6 v1) = some (Za6 (ZaQ v1 (L0.getD v3 R_iiiiiiAi.z).a1 (L0.getD v3 R_iiiiiiAi.z).a5))), true), ((decide ((L0.getD v3 R_iiiiiiAi.z).a3 ≤ (Zbk v1 (L0.getD v3 R_iiiiiiAi.z).a1))), false), ((decide ((L0.getD v3 R_iiiiiiAi.z).a5 < (L0.getD v3 R_iiiiiiAi.z).a3)), false), ((decide ((L0.getD v3 R_iiiiiiAi.z).a3 < (1 : Int))), false), (dP (Zbz .i64 (vi (L0.getD v3 R_iiiiiiAi.z).a1) (Za6 v1) = some (some (vi (Zbk v1 (L0.getD v3 R_iiiiiiAi.z).a1)))), true), (Z5 (Zk 8 (List.drop (0 + (v3 * 8)) (Zc E_iiiiiiAi L0))) [.i (L0.getD v3 R_iiiiiiAi.z).a0, .i (L0.getD v3 R_iiiiiiAi.z).a1, .i (L0.getD v3 R_iiiiiiAi.z).a2, .i (L0.getD v3 R_iiiiiiAi.z).a3, .i (L0.getD v3 R_iiiiiiAi.z).a4, .i (L0.getD v3 R_iiiiiiAi.z).a5, (mc E_ii (L0.getD v3 R_iiiiiiAi.z).a6), .i (L0.getD v3 R_iiiiiiAi.z).a7], true), (Nat.blt v3 L0.length, true), ((v3 : Int) == Int.ofNat v3, true), ((decide ((v3 : Int) < (L0.length : Int))), true)]) rfl (show 1 ∈ Zt (Ze6 1) from by decide +kernel) (fun gv => by kernel_rfl) (Za (beq_iff_eq.2 ((wrap_i64 ltA).trans (by first | rfl | omega))) <| Za (Zp (Zmz _ _ _)) <| oN <| oN <| oN <| Za (Zp (ZgO (by assumption))) <| Za (Zm (E := E_iiiiiiAi) (L := L0) (i := v3) (q := 0) (by omega) (show (0 + (v3 * 8)) = v3 * 8 + 0 from by omega) (show 0 + 8 ≤ 8 from by decide) rfl rfl) <| oB <| oI <| oY Zg) rfl (by decide) (by rfl) (fun _ => ⟨rr, ⟨rr, ⟨rr, ⟨rr, trivial⟩⟩⟩⟩) ⟨(Zo (E := E_iiiiiiAi) (α := R_iiiiiiAi) _ L0 _), ⟨(show ZcU (ZaQ v1 (L0.getD v3 R_iiiiiiAi.z).a1 (L0.getD v3 R_iiiiiiAi.z).a5) = ZcU (ZaQ v1 (L0.getD v3 R_iiiiiiAi.z).a1 (L0.getD v3 R_iiiiiiAi.z).a5) from rfl), trivial⟩⟩
      ·
       exact Mach.ok_none
  ·
   refine Mach.ok_ite (fun g2 => ?_) (fun g2 => ?_)
   ·
    exact Mach.ok_fin (M := Z3 L0 N) (cd := 1000000) (cm := 0) (r := (.r0 ((300 : Int)) : Zn)) (fu := 4000) (orc := (Zz [(0, true), (1, true)] [] [(0, v3)] [(0, [.i (L0.getD v3 R_iiiiiiAi.z).a0, .i (L0.getD v3 R_iiiiiiAi.z).a1, .i (L0.getD v3 R_iiiiiiAi.z).a2, .i (L0.getD v3 R_iiiiiiAi.z).a3, .i (L0.getD v3 R_iiiiiiAi.z).a4, .i (L0.getD v3 R_iiiiiiAi.z).a5, (mc E_ii (L0.getD v3 R_iiiiiiAi.z).a6), .i (L0.getD v3 R_iiiiiiAi.z).a7])] [(1, .lk (none))])) (live := [0]) (u := vi (300 : Int)) (bl := [some (.cells (Zc E_iiiiiiAi L0) 27)]) (ob := [((decide ((L0.getD v3 R_iiiiiiAi.z).a3 < (1 : Int))), true), (dP (Zbz .i64 (vi (L0.getD v3 R_iiiiiiAi.z).a1) (Za6 v1) = some (none)), true), (Z5 (Zk 8 (List.drop (0 + (v3 * 8)) (Zc E_iiiiiiAi L0))) [.i (L0.getD v3 R_iiiiiiAi.z).a0, .i (L0.getD v3 R_iiiiiiAi.z).a1, .i (L0.getD v3 R_iiiiiiAi.z).a2, .i (L0.getD v3 R_iiiiiiAi.z).a3, .i (L0.getD v3 R_iiiiiiAi.z).a4, .i (L0.getD v3 R_iiiiiiAi.z).a5, (mc E_ii (L0.getD v3 R_iiiiiiAi.z).a6), .i (L0.getD v3 R_iiiiiiAi.z).a7], true), (Nat.blt v3 L0.length, true), ((v3 : Int) == Int.ofNat v3, true), ((decide ((v3 : Int) < (L0.length : Int))), true)]) (fun gv => by kernel_rfl) (oY <| Za (Zp (Zix (by assumption))) <| Za (Zm (E := E_iiiiiiAi) (L := L0) (i := v3) (q := 0) (by omega) (show (0 + (v3 * 8)) = v3 * 8 + 0 from by omega) (show 0 + 8 ≤ 8 from by decide) rfl rfl) <| oB <| oI <| oY Zg) rfl (by decide) (by rfl) rr ⟨(Zo (E := E_iiiiiiAi) (α := R_iiiiiiAi) _ L0 _), trivial⟩
   ·
    refine Mach.ok_ite (fun g3 => ?_) (fun g3 => ?_)
    ·
     exact Mach.ok_fin (M := Z3 L0 N) (cd := 1000000) (cm := 0) (r := (.r0 ((300 : Int)) : Zn)) (fu := 4000) (orc := (Zz [(0, true), (1, false), (2, true)] [] [(0, v3)] [(0, [.i (L0.getD v3 R_iiiiiiAi.z).a0, .i (L0.getD v3 R_iiiiiiAi.z).a1, .i (L0.getD v3 R_iiiiiiAi.z).a2, .i (L0.getD v3 R_iiiiiiAi.z).a3, .i (L0.getD v3 R_iiiiiiAi.z).a4, .i (L0.getD v3 R_iiiiiiAi.z).a5, (mc E_ii (L0.getD v3 R_iiiiiiAi.z).a6), .i (L0.getD v3 R_iiiiiiAi.z).a7])] [(1, .lk (none))])) (live := [0]) (u := vi (300 : Int)) (bl := [some (.cells (Zc E_iiiiiiAi L0) 27)]) (ob := [((decide ((L0.getD v3 R_iiiiiiAi.z).a5 < (L0.getD v3 R_iiiiiiAi.z).a3)), true), ((decide ((L0.getD v3 R_iiiiiiAi.z).a3 < (1 : Int))), false), (dP (Zbz .i64 (vi (L0.getD v3 R_iiiiiiAi.z).a1) (Za6 v1) = some (none)), true), (Z5 (Zk 8 (List.drop (0 + (v3 * 8)) (Zc E_iiiiiiAi L0))) [.i (L0.getD v3 R_iiiiiiAi.z).a0, .i (L0.getD v3 R_iiiiiiAi.z).a1, .i (L0.getD v3 R_iiiiiiAi.z).a2, .i (L0.getD v3 R_iiiiiiAi.z).a3, .i (L0.getD v3 R_iiiiiiAi.z).a4, .i (L0.getD v3 R_iiiiiiAi.z).a5, (mc E_ii (L0.getD v3 R_iiiiiiAi.z).a6), .i (L0.getD v3 R_iiiiiiAi.z).a7], true), (Nat.blt v3 L0.length, true), ((v3 : Int) == Int.ofNat v3, true), ((decide ((v3 : Int) < (L0.length : Int))), true)]) (fun gv => by kernel_rfl) (oY <| oN <| Za (Zp (Zix (by assumption))) <| Za (Zm (E := E_iiiiiiAi) (L := L0) (i := v3) (q := 0) (by omega) (show (0 + (v3 * 8)) = v3 * 8 + 0 from by omega) (show 0 + 8 ≤ 8 from by decide) rfl rfl) <| oB <| oI <| oY Zg) rfl (by decide) (by rfl) rr ⟨(Zo (E := E_iiiiiiAi) (α := R_iiiiiiAi) _ L0 _), trivial⟩
    ·
     refine Mach.ok_ite (fun g4 => ?_) (fun g4 => ?_)
     ·
      exact Mach.ok_next (M := Z3 L0 N) (cd := 1000000) (cm := 0) (y := (.h1m0 ((ZaQ v1 (L0.getD v3 R_iiiiiiAi.z).a1 (L0.getD v3 R_iiiiiiAi.z).a5)) ((v3 + 1)) : Zv)) (fu := 4000) (orc := (Zz [(0, true), (1, false), (2, false)] [(0, (((v3 + 1) : Nat) : Int))] [(0, v3)] [(0, [.i (L0.getD v3 R_iiiiiiAi.z).a0, .i (L0.getD v3 R_iiiiiiAi.z).a1, .i (L0.getD v3 R_iiiiiiAi.z).a2, .i (L0.getD v3 R_iiiiiiAi.z).a3, .i (L0.getD v3 R_iiiiiiAi.z).a4, .i (L0.getD v3 R_iiiiiiAi.z).a5, (mc E_ii (L0.getD v3 R_iiiiiiAi.z).a6), .i (L0.getD v3 R_iiiiiiAi.z).a7])] [(1, .lk (none)), (2, .mp (Za6 (ZaQ v1 (L0.getD v3 R_iiiiiiAi.z).a1 (L0.getD v3 R_iiiiiiAi.z).a5)))])) (live := [0, 1]) (tv := fun _ => [some (Value.map (some 1)), some (vs 0 0 L0.length L0.length), some (vi (L0.length : Int)), some (vi (((v3 + 1) : Nat) : Int))]) (bl := [some (.cells (Zc E_iiiiiiAi L0) 27), some (.ro (ZcU (ZaQ v1 (L0.getD v3 R_iiiiiiAi.z).a1 (L0.getD v3 R_iiiiiiAi.z).a5)) true)]) (ob := [((IntKind.i64.wrap ((v3 : Int) + (1 : Int))) == (((v3 + 1) : Nat) : Int), true), (dP (Zgf .i64 (vi (L0.getD v3 R_iiiiiiAi.z).a1) (vi (L0.getD v3 R_iiiiiiAi.z).a5) (Za6 v1) = some (Za6 (ZaQ v1 (L0.getD v3 R_iiiiiiAi.z).a1 (L0.getD v3 R_iiiiiiAi.z).a5))), true), ((decide ((L0.getD v3 R_iiiiiiAi.z).a5 < (L0.getD v3 R_iiiiiiAi.z).a3)), false), ((decide ((L0.getD v3 R_iiiiiiAi.z).a3 < (1 : Int))), false), (dP (Zbz .i64 (vi (L0.getD v3 R_iiiiiiAi.z).a1) (Za6 v1) = some (none)), true), (Z5 (Zk 8 (List.drop (0 + (v3 * 8)) (Zc E_iiiiiiAi L0))) [.i (L0.getD v3 R_iiiiiiAi.z).a0, .i (L0.getD v3 R_iiiiiiAi.z).a1, .i (L0.getD v3 R_iiiiiiAi.z).a2, .i (L0.getD v3 R_iiiiiiAi.z).a3, .i (L0.getD v3 R_iiiiiiAi.z).a4, .i (L0.getD v3 R_iiiiiiAi.z).a5, (mc E_ii (L0.getD v3 R_iiiiiiAi.z).a6), .i (L0.getD v3 R_iiiiiiAi.z).a7], true), (Nat.blt v3 L0.length, true), ((v3 : Int) == Int.ofNat v3, true), ((decide ((v3 : Int) < (L0.length : Int))), true)]) rfl (show 1 ∈ Zt (Ze6 1) from by decide +kernel) (fun gv => by kernel_rfl) (Za (beq_iff_eq.2 ((wrap_i64 ltA).trans (by first | rfl | omega))) <| Za (Zp (Zmz _ _ _)) <| oN <| oN <| Za (Zp (Zix (by assumption))) <| Za (Zm (E := E_iiiiiiAi) (L := L0) (i := v3) (q := 0) (by omega) (show (0 + (v3 * 8)) = v3 * 8 + 0 from by omega) (show 0 + 8 ≤ 8 from by decide) rfl rfl) <| oB <| oI <| oY Zg) rfl (by decide) (by rfl) (fun _ => ⟨rr, ⟨rr, ⟨rr, ⟨rr, trivial⟩⟩⟩⟩) ⟨(Zo (E := E_iiiiiiAi) (α := R_iiiiiiAi) _ L0 _), ⟨(show ZcU (ZaQ v1 (L0.getD v3 R_iiiiiiAi.z).a1 (L0.getD v3 R_iiiiiiAi.z).a5) = ZcU (ZaQ v1 (L0.getD v3 R_iiiiiiAi.z).a1 (L0.getD v3 R_iiiiiiAi.z).a5) from rfl), trivial⟩⟩
     ·
      exact Mach.ok_none
 ·
  exact Mach.ok_fin (M := Z3 L0 N) (cd := 1000000) (cm := 0) (r := (.r0 ((0 : Int)) : Zn)) (fu := 4000) (orc := (Zz [(0, false)] [] [] [] [])) (live := [0]) (u := vq) (bl := [some (.cells (Zc E_iiiiiiAi L0) 27)]) (ob := [((decide ((v3 : Int) < (L0.length : Int))), false)]) (fun gv => by kernel_rfl) (oN Zg) rfl (by decide) (by rfl) rr ⟨(Zo (E := E_iiiiiiAi) (α := R_iiiiiiAi) _ L0 _), trivial⟩

theorem ZgV (L0 : List R_iiiiiiAi) (N : Nat) : (Z3 L0 N).Enter Tryz.prog Zs #[vs 0 0 L0.length L0.length] (ZcA L0 N) := by
 unfold ZcA
 refine Mach.en_ite (fun g0 => ?_) (fun g0 => ?_)
 ·
  exact Mach.en_fin (M := Z3 L0 N) (cd := 1000000) (cm := 0) (r := (.r0 ((3 : Int)) : Zn)) (fu := 4000) (orc := (Zz [(0, true)] [] [] [] [])) (live := [0]) (u := vi (3 : Int)) (bl := [some (.cells (Zc E_iiiiiiAi L0) 27)]) (ob := [((decide ((L0.length : Int) > (64 : Int))), true)]) (by kernel_rfl) (oY Zg) rfl (by decide) (by rfl) rr ⟨(Zo (E := E_iiiiiiAi) (α := R_iiiiiiAi) _ L0 _), trivial⟩
 ·
  exact Mach.en_head (bK := ZaC 1) (M := Z3 L0 N) (cd := 1000000) (cm := 0) (y := (.h1m0 (([] : List R_ii)) (0) : Zv)) (fu := 4000) (orc := (Zz [(0, false)] [] [] [] [])) (live := [0, 1]) (tv := [some (Value.map (some 1)), some (vs 0 0 L0.length L0.length), some (vi (L0.length : Int)), some (vq)]) (bl := [some (.cells (Zc E_iiiiiiAi L0) 27), some (.ro (ZcU ([] : List R_ii)) true)]) (ob := [((decide ((L0.length : Int) > (64 : Int))), false)]) rfl rfl (show Zt (ZaC 1).2 = [] from rfl) (by kernel_rfl) (oN Zg) rfl (by decide) (by rfl) ⟨rr, ⟨rr, ⟨rr, ⟨⟨Eq.trans (show (vi ((0 : Nat) : Int) : Value) = vq from (congrArg (Value.int .i64) (by first | rfl | omega))) (by rfl), by rfl⟩, trivial⟩⟩⟩⟩ ⟨(Zo (E := E_iiiiiiAi) (α := R_iiiiiiAi) _ L0 _), ⟨(show ZcU ([] : List R_ii) = ZcU ([] : List R_ii) from rfl), trivial⟩⟩

theorem ZfU (L0 : List R_iiiiiiAi) (N : Nat) (r : Zn) (h : Zbw L0 N = some r) : LSpec Tryz.prog 5 #[vs 0 0 L0.length L0.length] [.cells (Zc E_iiiiiiAi L0) 27] (Ze5 L0 r) (Zer L0 r) :=
 Mach.spec Zcu (Z3 L0 N) Tryz.func5 (by kernel_rfl) (by kernel_rfl) (fun x => by cases x <;> exact Zap _ rfl) (fun r => by cases r <;> exact Zap _ rfl) (fun x => by
  cases x with
  | h1m0 _ _ => exact fun _ => (show ¬ (1 ∈ Zt (ZaC 1).2) from by decide +kernel)
  ) (fun x => (show (Z3 L0 N).Ok Tryz.prog Zs x (Za9 L0 N x) from by
  cases x with
  | h1m0 v1 v3 => exact ZfE L0 v1 v3 N
  )) (ZgV L0 N) (n := N) h

noncomputable def Zam (L0 : List R_iiiiiiAi) (w1 : Int) (k0 n : Nat) : Zcm := .call [(k0, .cells (Zc E_iiiiiiAi L0) 27)] (vi w1) [] 0
def Zac (A : Array Value) (L0 : List R_iiiiiiAi) (w1 : Int) (k0 n : Nat) : Prop := ZW Tryz.prog 5 A [(k0, .cells (Zc E_iiiiiiAi L0) 27)] (vi w1) [] n 0

theorem Zan (A : Array Value) (L0 : List R_iiiiiiAi) (w1 : Int) (N : Nat) (h : Zbw L0 N = some (.r0 w1)) (k0 n : Nat) (hA : A = #[vs k0 0 L0.length L0.length]) (hnd : ([k0] : List Nat).Nodup) (hlt : ∀ k ∈ ([k0] : List Nat), k < n) : Zac A L0 w1 k0 n :=
 ZbH hA (LSpec.callL (show LSpec Tryz.prog 5 #[vs 0 0 L0.length L0.length] [.cells (Zc E_iiiiiiAi L0) 27] (vi w1) [some (.cells (Zc E_iiiiiiAi L0) 27)] from ZfU L0 N _ h) [k0] n [] rfl hnd hlt (show 1 ≤ 1 from by decide) (show ∀ j ∈ ([] : List Nat), j < 1 from by decide) (by rfl) ⟨(Zbd _ _ _), trivial⟩ (by rfl) ⟨(Zbd _ _ _), trivial⟩ ⟨.inr rfl, trivial⟩ rfl rfl rfl (Zfh (Zfi rfl (Zep _ _ _)) rfl) rfl)

noncomputable def Zfo (L0 : List R_iiiiiiAi) : Zu → Value
 | .r0 w1 => vi w1
noncomputable def Ze7 (L0 : List R_iiiiiiAi) : Zu → List (Option AObj)
 | .r0 w1 => [some (.cells (Zc E_iiiiiiAi L0) 27)]

def Zie : Zl → Nat
 | .h1m0 v1 => 1
 | .h2m0 v1 v2 => 2
noncomputable def Zi6 (L0 : List R_iiiiiiAi) : Zl → List (Nat × Value)
 | .h1m0 v1 => [(0, vs 0 0 L0.length L0.length), (3, vi (v1 : Int))]
 | .h2m0 v1 v2 => [(0, vs 0 0 L0.length L0.length), (3, vi (v1 : Int)), (4, vi v2)]
noncomputable def Zi7 (L0 : List R_iiiiiiAi) : Zl → List (Option AObj)
 | .h1m0 v1 => [some (.cells (Zc E_iiiiiiAi L0) 27)]
 | .h2m0 v1 v2 => [some (.cells (Zc E_iiiiiiAi L0) 27)]

noncomputable def Zaf : Nat → Code × List ZZ
 | 1 => Zas [1, 1, 0, 1, 3] (Zbb Tryz.f6) []
 | 2 => Zas [1, 1, 0, 1, 3, 7, 1, 0, 3, 1, 1, 0, 3] (Zbb Tryz.f6) []
 | _ => (.skip, [])
def Ze8 : Nat → Bool
 | 1 => true
 | 2 => true
 | _ => true
noncomputable def Zcl (i : Nat) : List ZZ := match Ze8 i with | true => .rnd i :: (Zaf i).2 | false => (Zaf i).2

noncomputable def Zy (L0 : List R_iiiiiiAi) (N : Nat) : Mach := ⟨Tryz.f6, [.cells (Zc E_iiiiiiAi L0) 27], Zl, Zu, Zx L0 N, Zie, Zaf, Ze8, Zi6 L0, Zi7 L0, Zfo L0, Ze7 L0⟩

theorem ZfV (L0 : List R_iiiiiiAi) (v1 N : Nat) : (Zy L0 N).Ok Tryz.prog Zs (.h1m0 v1 : Zl) (Zx L0 N (.h1m0 v1 : Zl)) := by
 show (Zy L0 N).Ok Tryz.prog Zs (.h1m0 v1 : Zl) (Zca L0 N v1)
 unfold Zca
 refine Mach.ok_ite (fun g0 => ?_) (fun g0 => ?_)
 ·
  refine Mach.ok_ite (fun g1 => ?_) (fun g1 => ?_)
  ·
   exact Mach.ok_fin (M := Zy L0 N) (cd := 1000000) (cm := 0) (r := (.r0 ((300 : Int)) : Zu)) (fu := 4000) (orc := (Zz [(0, true), (1, true)] [] [(0, v1)] [(0, [.i (L0.getD v1 R_iiiiiiAi.z).a3])] [])) (live := [0]) (u := vi (300 : Int)) (bl := [some (.cells (Zc E_iiiiiiAi L0) 27)]) (ob := [((decide ((L0.getD v1 R_iiiiiiAi.z).a3 < (1 : Int))), true), (Z5 (Zk 1 (List.drop ((0 + (v1 * 8)) + 3) (Zc E_iiiiiiAi L0))) [.i (L0.getD v1 R_iiiiiiAi.z).a3], true), (Nat.blt v1 L0.length, true), ((v1 : Int) == Int.ofNat v1, true), ((decide ((v1 : Int) < (L0.length : Int))), true)]) (fun gv => by kernel_rfl) (oY <| Za (Zm (E := E_iiiiiiAi) (L := L0) (i := v1) (q := 3) (by omega) (show ((0 + (v1 * 8)) + 3) = v1 * 8 + 3 from by omega) (show 3 + 1 ≤ 8 from by decide) rfl rfl) <| oB <| oI <| oY Zg) rfl (by decide) (by rfl) rr ⟨(Zo (E := E_iiiiiiAi) (α := R_iiiiiiAi) _ L0 _), trivial⟩
  ·
   refine Mach.ok_ite (fun g2 => ?_) (fun g2 => ?_)
   ·
    exact Mach.ok_fin (M := Zy L0 N) (cd := 1000000) (cm := 0) (r := (.r0 ((300 : Int)) : Zu)) (fu := 4000) (orc := (Zz [(0, true), (1, false), (2, true)] [] [(0, v1), (1, v1), (2, v1)] [(0, [.i (L0.getD v1 R_iiiiiiAi.z).a3]), (1, [.i (L0.getD v1 R_iiiiiiAi.z).a5]), (2, [.i (L0.getD v1 R_iiiiiiAi.z).a3])] [])) (live := [0]) (u := vi (300 : Int)) (bl := [some (.cells (Zc E_iiiiiiAi L0) 27)]) (ob := [((decide ((L0.getD v1 R_iiiiiiAi.z).a5 < (L0.getD v1 R_iiiiiiAi.z).a3)), true), (Z5 (Zk 1 (List.drop ((0 + (v1 * 8)) + 3) (Zc E_iiiiiiAi L0))) [.i (L0.getD v1 R_iiiiiiAi.z).a3], true), (Nat.blt v1 L0.length, true), ((v1 : Int) == Int.ofNat v1, true), (Z5 (Zk 1 (List.drop ((0 + (v1 * 8)) + 5) (Zc E_iiiiiiAi L0))) [.i (L0.getD v1 R_iiiiiiAi.z).a5], true), (Nat.blt v1 L0.length, true), ((v1 : Int) == Int.ofNat v1, true), ((decide ((L0.getD v1 R_iiiiiiAi.z).a3 < (1 : Int))), false), (Z5 (Zk 1 (List.drop ((0 + (v1 * 8)) + 3) (Zc E_iiiiiiAi L0))) [.i (L0.getD v1 R_iiiiiiAi.z).a3], true), (Nat.blt v1 L0.length, true), ((v1 : Int) == Int.ofNat v1, true), ((decide ((v1 : Int) < (L0.length : Int))), true)]) (fun gv => by kernel_rfl) (oY <| Za (Zm (E := E_iiiiiiAi) (L := L0) (i := v1) (q := 3) (by omega) (show ((0 + (v1 * 8)) + 3) = v1 * 8 + 3 from by omega) (show 3 + 1 ≤ 8 from by decide) rfl rfl) <| oB <| oI <| Za (Zm (E := E_iiiiiiAi) (L := L0) (i := v1) (q := 5) (by omega) (show ((0 + (v1 * 8)) + 5) = v1 * 8 + 5 from by omega) (show 5 + 1 ≤ 8 from by decide) rfl rfl) <| oB <| oI <| oN <| Za (Zm (E := E_iiiiiiAi) (L := L0) (i := v1) (q := 3) (by omega) (show ((0 + (v1 * 8)) + 3) = v1 * 8 + 3 from by omega) (show 3 + 1 ≤ 8 from by decide) rfl rfl) <| oB <| oI <| oY Zg) rfl (by decide) (by rfl) rr ⟨(Zo (E := E_iiiiiiAi) (α := R_iiiiiiAi) _ L0 _), trivial⟩
   ·
    refine Mach.ok_ite (fun g3 => ?_) (fun g3 => ?_)
    ·
     exact Mach.ok_head (bK := Zaf 2) (M := Zy L0 N) (cd := 1000000) (cm := 0) (y := (.h2m0 (v1) (((v1 : Int) - (1 : Int))) : Zl)) (fu := 4000) (orc := (Zz [(0, true), (1, false), (2, false)] [(0, ((v1 : Int) - (1 : Int)))] [(0, v1), (1, v1), (2, v1)] [(0, [.i (L0.getD v1 R_iiiiiiAi.z).a3]), (1, [.i (L0.getD v1 R_iiiiiiAi.z).a5]), (2, [.i (L0.getD v1 R_iiiiiiAi.z).a3])] [])) (live := [0]) (tv := fun _ => [some (vs 0 0 L0.length L0.length), some (vi (v1 : Int)), some (vi ((v1 : Int) - (1 : Int)))]) (bl := [some (.cells (Zc E_iiiiiiAi L0) 27)]) (ob := [((IntKind.i64.wrap ((v1 : Int) - (1 : Int))) == ((v1 : Int) - (1 : Int)), true), ((decide ((L0.getD v1 R_iiiiiiAi.z).a5 < (L0.getD v1 R_iiiiiiAi.z).a3)), false), (Z5 (Zk 1 (List.drop ((0 + (v1 * 8)) + 3) (Zc E_iiiiiiAi L0))) [.i (L0.getD v1 R_iiiiiiAi.z).a3], true), (Nat.blt v1 L0.length, true), ((v1 : Int) == Int.ofNat v1, true), (Z5 (Zk 1 (List.drop ((0 + (v1 * 8)) + 5) (Zc E_iiiiiiAi L0))) [.i (L0.getD v1 R_iiiiiiAi.z).a5], true), (Nat.blt v1 L0.length, true), ((v1 : Int) == Int.ofNat v1, true), ((decide ((L0.getD v1 R_iiiiiiAi.z).a3 < (1 : Int))), false), (Z5 (Zk 1 (List.drop ((0 + (v1 * 8)) + 3) (Zc E_iiiiiiAi L0))) [.i (L0.getD v1 R_iiiiiiAi.z).a3], true), (Nat.blt v1 L0.length, true), ((v1 : Int) == Int.ofNat v1, true), ((decide ((v1 : Int) < (L0.length : Int))), true)]) rfl rfl (show ∀ j ∈ Zt (Zaf 2).2, j ∈ Zt (Zcl 1) from by decide +kernel) (fun gv => by kernel_rfl) (Za (beq_iff_eq.2 ((wrap_i64 ltA).trans (by first | rfl | omega))) <| oN <| Za (Zm (E := E_iiiiiiAi) (L := L0) (i := v1) (q := 3) (by omega) (show ((0 + (v1 * 8)) + 3) = v1 * 8 + 3 from by omega) (show 3 + 1 ≤ 8 from by decide) rfl rfl) <| oB <| oI <| Za (Zm (E := E_iiiiiiAi) (L := L0) (i := v1) (q := 5) (by omega) (show ((0 + (v1 * 8)) + 5) = v1 * 8 + 5 from by omega) (show 5 + 1 ≤ 8 from by decide) rfl rfl) <| oB <| oI <| oN <| Za (Zm (E := E_iiiiiiAi) (L := L0) (i := v1) (q := 3) (by omega) (show ((0 + (v1 * 8)) + 3) = v1 * 8 + 3 from by omega) (show 3 + 1 ≤ 8 from by decide) rfl rfl) <| oB <| oI <| oY Zg) rfl (by decide) (by rfl) (fun _ => ⟨rr, ⟨rr, ⟨rr, trivial⟩⟩⟩) ⟨(Zo (E := E_iiiiiiAi) (α := R_iiiiiiAi) _ L0 _), trivial⟩
    ·
     exact Mach.ok_none
 ·
  exact Mach.ok_fin (M := Zy L0 N) (cd := 1000000) (cm := 0) (r := (.r0 ((0 : Int)) : Zu)) (fu := 4000) (orc := (Zz [(0, false)] [] [] [] [])) (live := [0]) (u := vq) (bl := [some (.cells (Zc E_iiiiiiAi L0) 27)]) (ob := [((decide ((v1 : Int) < (L0.length : Int))), false)]) (fun gv => by kernel_rfl) (oN Zg) rfl (by decide) (by rfl) rr ⟨(Zo (E := E_iiiiiiAi) (α := R_iiiiiiAi) _ L0 _), trivial⟩

theorem ZfW (L0 : List R_iiiiiiAi) (v1 : Nat) (v2 : Int) (N : Nat) : (Zy L0 N).Ok Tryz.prog Zs (.h2m0 v1 v2 : Zl) (Zx L0 N (.h2m0 v1 v2 : Zl)) := by
 show (Zy L0 N).Ok Tryz.prog Zs (.h2m0 v1 v2 : Zl) (Zab L0 N v1 v2)
 unfold Zab
 refine Mach.ok_ite (fun g0 => ?_) (fun g0 => ?_)
 ·
  refine Mach.ok_ite (fun g1 => ?_) (fun g1 => ?_)
  ·
   refine Mach.ok_ite (fun g2 => ?_) (fun g2 => ?_)
   ·
    refine Mach.ok_ite (fun g3 => ?_) (fun g3 => ?_)
    ·
     exact Mach.ok_next (M := Zy L0 N) (cd := 1000000) (cm := 0) (y := (.h2m0 (v1) ((IntKind.i64.wrap (v2 - (1 : Int)))) : Zl)) (fu := 4000) (orc := (Zz [(0, true), (1, true)] [] [(0, (v2).toNat), (1, v1)] [(0, [.i (L0.getD (v2).toNat R_iiiiiiAi.z).a1]), (1, [.i (L0.getD v1 R_iiiiiiAi.z).a1])] [])) (live := [0]) (tv := fun _ => [some (vs 0 0 L0.length L0.length), some (vi (v1 : Int)), some (vi (IntKind.i64.wrap (v2 - (1 : Int))))]) (bl := [some (.cells (Zc E_iiiiiiAi L0) 27)]) (ob := [(((L0.getD (v2).toNat R_iiiiiiAi.z).a1 != (L0.getD v1 R_iiiiiiAi.z).a1), true), (Z5 (Zk 1 (List.drop ((0 + (v1 * 8)) + 1) (Zc E_iiiiiiAi L0))) [.i (L0.getD v1 R_iiiiiiAi.z).a1], true), (Nat.blt v1 L0.length, true), ((v1 : Int) == Int.ofNat v1, true), (Z5 (Zk 1 (List.drop ((0 + ((v2).toNat * 8)) + 1) (Zc E_iiiiiiAi L0))) [.i (L0.getD (v2).toNat R_iiiiiiAi.z).a1], true), (Nat.blt (v2).toNat L0.length, true), (v2 == Int.ofNat (v2).toNat, true), ((decide (v2 ≥ (0 : Int))), true)]) rfl (show 2 ∈ Zt (Zcl 2) from by decide +kernel) (fun gv => by kernel_rfl) (oD <| Za (Zm (E := E_iiiiiiAi) (L := L0) (i := v1) (q := 1) (by omega) (show ((0 + (v1 * 8)) + 1) = v1 * 8 + 1 from by omega) (show 1 + 1 ≤ 8 from by decide) rfl rfl) <| oB <| oI <| Za (Zm (E := E_iiiiiiAi) (L := L0) (i := (v2).toNat) (q := 1) (by omega) (show ((0 + ((v2).toNat * 8)) + 1) = (v2).toNat * 8 + 1 from by omega) (show 1 + 1 ≤ 8 from by decide) rfl rfl) <| oB <| oI <| oY Zg) rfl (by decide) (by rfl) (fun _ => ⟨rr, ⟨rr, ⟨rr, trivial⟩⟩⟩) ⟨(Zo (E := E_iiiiiiAi) (α := R_iiiiiiAi) _ L0 _), trivial⟩
    ·
     refine Mach.ok_ite (fun g4 => ?_) (fun g4 => ?_)
     ·
      exact Mach.ok_fin (M := Zy L0 N) (cd := 1000000) (cm := 0) (r := (.r0 ((300 : Int)) : Zu)) (fu := 4000) (orc := (Zz [(0, true), (1, false), (2, true), (3, true)] [] [(0, (v2).toNat), (1, v1), (2, (v2).toNat), (3, v1)] [(0, [.i (L0.getD (v2).toNat R_iiiiiiAi.z).a1]), (1, [.i (L0.getD v1 R_iiiiiiAi.z).a1]), (2, [.i (L0.getD (v2).toNat R_iiiiiiAi.z).a5]), (3, [.i (L0.getD v1 R_iiiiiiAi.z).a3])] [])) (live := [0]) (u := vi (300 : Int)) (bl := [some (.cells (Zc E_iiiiiiAi L0) 27)]) (ob := [((decide ((L0.getD (v2).toNat R_iiiiiiAi.z).a5 ≥ (L0.getD v1 R_iiiiiiAi.z).a3)), true), (Z5 (Zk 1 (List.drop ((0 + (v1 * 8)) + 3) (Zc E_iiiiiiAi L0))) [.i (L0.getD v1 R_iiiiiiAi.z).a3], true), (Nat.blt v1 L0.length, true), ((v1 : Int) == Int.ofNat v1, true), (Z5 (Zk 1 (List.drop ((0 + ((v2).toNat * 8)) + 5) (Zc E_iiiiiiAi L0))) [.i (L0.getD (v2).toNat R_iiiiiiAi.z).a5], true), (Nat.blt (v2).toNat L0.length, true), (v2 == Int.ofNat (v2).toNat, true), ((decide (v2 ≥ (0 : Int))), true), (((L0.getD (v2).toNat R_iiiiiiAi.z).a1 != (L0.getD v1 R_iiiiiiAi.z).a1), false), (Z5 (Zk 1 (List.drop ((0 + (v1 * 8)) + 1) (Zc E_iiiiiiAi L0))) [.i (L0.getD v1 R_iiiiiiAi.z).a1], true), (Nat.blt v1 L0.length, true), ((v1 : Int) == Int.ofNat v1, true), (Z5 (Zk 1 (List.drop ((0 + ((v2).toNat * 8)) + 1) (Zc E_iiiiiiAi L0))) [.i (L0.getD (v2).toNat R_iiiiiiAi.z).a1], true), (Nat.blt (v2).toNat L0.length, true), (v2 == Int.ofNat (v2).toNat, true), ((decide (v2 ≥ (0 : Int))), true)]) (fun gv => by kernel_rfl) (oY <| Za (Zm (E := E_iiiiiiAi) (L := L0) (i := v1) (q := 3) (by omega) (show ((0 + (v1 * 8)) + 3) = v1 * 8 + 3 from by omega) (show 3 + 1 ≤ 8 from by decide) rfl rfl) <| oB <| oI <| Za (Zm (E := E_iiiiiiAi) (L := L0) (i := (v2).toNat) (q := 5) (by omega) (show ((0 + ((v2).toNat * 8)) + 5) = (v2).toNat * 8 + 5 from by omega) (show 5 + 1 ≤ 8 from by decide) rfl rfl) <| oB <| oI <| oY <| oE <| Za (Zm (E := E_iiiiiiAi) (L := L0) (i := v1) (q := 1) (by omega) (show ((0 + (v1 * 8)) + 1) = v1 * 8 + 1 from by omega) (show 1 + 1 ≤ 8 from by decide) rfl rfl) <| oB <| oI <| Za (Zm (E := E_iiiiiiAi) (L := L0) (i := (v2).toNat) (q := 1) (by omega) (show ((0 + ((v2).toNat * 8)) + 1) = (v2).toNat * 8 + 1 from by omega) (show 1 + 1 ≤ 8 from by decide) rfl rfl) <| oB <| oI <| oY Zg) rfl (by decide) (by rfl) rr ⟨(Zo (E := E_iiiiiiAi) (α := R_iiiiiiAi) _ L0 _), trivial⟩
     ·
      refine Mach.ok_ite (fun g5 => ?_) (fun g5 => ?_)
      ·
       exact Mach.ok_next (M := Zy L0 N) (cd := 1000000) (cm := 0) (y := (.h1m0 ((v1 + 1)) : Zl)) (fu := 4000) (orc := (Zz [(0, true), (1, false), (2, true), (3, false)] [(0, (((v1 + 1) : Nat) : Int))] [(0, (v2).toNat), (1, v1), (2, (v2).toNat), (3, v1)] [(0, [.i (L0.getD (v2).toNat R_iiiiiiAi.z).a1]), (1, [.i (L0.getD v1 R_iiiiiiAi.z).a1]), (2, [.i (L0.getD (v2).toNat R_iiiiiiAi.z).a5]), (3, [.i (L0.getD v1 R_iiiiiiAi.z).a3])] [])) (live := [0]) (tv := fun _ => [some (vs 0 0 L0.length L0.length), some (vi (((v1 + 1) : Nat) : Int))]) (bl := [some (.cells (Zc E_iiiiiiAi L0) 27)]) (ob := [((IntKind.i64.wrap ((v1 : Int) + (1 : Int))) == (((v1 + 1) : Nat) : Int), true), ((decide ((L0.getD (v2).toNat R_iiiiiiAi.z).a5 ≥ (L0.getD v1 R_iiiiiiAi.z).a3)), false), (Z5 (Zk 1 (List.drop ((0 + (v1 * 8)) + 3) (Zc E_iiiiiiAi L0))) [.i (L0.getD v1 R_iiiiiiAi.z).a3], true), (Nat.blt v1 L0.length, true), ((v1 : Int) == Int.ofNat v1, true), (Z5 (Zk 1 (List.drop ((0 + ((v2).toNat * 8)) + 5) (Zc E_iiiiiiAi L0))) [.i (L0.getD (v2).toNat R_iiiiiiAi.z).a5], true), (Nat.blt (v2).toNat L0.length, true), (v2 == Int.ofNat (v2).toNat, true), ((decide (v2 ≥ (0 : Int))), true), (((L0.getD (v2).toNat R_iiiiiiAi.z).a1 != (L0.getD v1 R_iiiiiiAi.z).a1), false), (Z5 (Zk 1 (List.drop ((0 + (v1 * 8)) + 1) (Zc E_iiiiiiAi L0))) [.i (L0.getD v1 R_iiiiiiAi.z).a1], true), (Nat.blt v1 L0.length, true), ((v1 : Int) == Int.ofNat v1, true), (Z5 (Zk 1 (List.drop ((0 + ((v2).toNat * 8)) + 1) (Zc E_iiiiiiAi L0))) [.i (L0.getD (v2).toNat R_iiiiiiAi.z).a1], true), (Nat.blt (v2).toNat L0.length, true), (v2 == Int.ofNat (v2).toNat, true), ((decide (v2 ≥ (0 : Int))), true)]) rfl (show 1 ∈ Zt (Zcl 2) from by decide +kernel) (fun gv => by kernel_rfl) (Za (beq_iff_eq.2 ((wrap_i64 ltA).trans (by first | rfl | omega))) <| oN <| Za (Zm (E := E_iiiiiiAi) (L := L0) (i := v1) (q := 3) (by omega) (show ((0 + (v1 * 8)) + 3) = v1 * 8 + 3 from by omega) (show 3 + 1 ≤ 8 from by decide) rfl rfl) <| oB <| oI <| Za (Zm (E := E_iiiiiiAi) (L := L0) (i := (v2).toNat) (q := 5) (by omega) (show ((0 + ((v2).toNat * 8)) + 5) = (v2).toNat * 8 + 5 from by omega) (show 5 + 1 ≤ 8 from by decide) rfl rfl) <| oB <| oI <| oY <| oE <| Za (Zm (E := E_iiiiiiAi) (L := L0) (i := v1) (q := 1) (by omega) (show ((0 + (v1 * 8)) + 1) = v1 * 8 + 1 from by omega) (show 1 + 1 ≤ 8 from by decide) rfl rfl) <| oB <| oI <| Za (Zm (E := E_iiiiiiAi) (L := L0) (i := (v2).toNat) (q := 1) (by omega) (show ((0 + ((v2).toNat * 8)) + 1) = (v2).toNat * 8 + 1 from by omega) (show 1 + 1 ≤ 8 from by decide) rfl rfl) <| oB <| oI <| oY Zg) rfl (by decide) (by rfl) (fun _ => ⟨rr, ⟨rr, trivial⟩⟩) ⟨(Zo (E := E_iiiiiiAi) (α := R_iiiiiiAi) _ L0 _), trivial⟩
      ·
       exact Mach.ok_none
   ·
    exact Mach.ok_none
  ·
   exact Mach.ok_none
 ·
  refine Mach.ok_ite (fun g1 => ?_) (fun g1 => ?_)
  ·
   exact Mach.ok_next (M := Zy L0 N) (cd := 1000000) (cm := 0) (y := (.h1m0 ((v1 + 1)) : Zl)) (fu := 4000) (orc := (Zz [(0, false), (1, false)] [(0, (((v1 + 1) : Nat) : Int))] [] [] [])) (live := [0]) (tv := fun _ => [some (vs 0 0 L0.length L0.length), some (vi (((v1 + 1) : Nat) : Int))]) (bl := [some (.cells (Zc E_iiiiiiAi L0) 27)]) (ob := [((IntKind.i64.wrap ((v1 : Int) + (1 : Int))) == (((v1 + 1) : Nat) : Int), true), ((decide (v2 ≥ (0 : Int))), false), ((decide (v2 ≥ (0 : Int))), false)]) rfl (show 1 ∈ Zt (Zcl 2) from by decide +kernel) (fun gv => by kernel_rfl) (Za (beq_iff_eq.2 ((wrap_i64 ltA).trans (by first | rfl | omega))) <| oN <| oN Zg) rfl (by decide) (by rfl) (fun _ => ⟨rr, ⟨rr, trivial⟩⟩) ⟨(Zo (E := E_iiiiiiAi) (α := R_iiiiiiAi) _ L0 _), trivial⟩
  ·
   exact Mach.ok_none

theorem Zh4 (L0 : List R_iiiiiiAi) (N : Nat) : (Zy L0 N).Enter Tryz.prog Zs #[vs 0 0 L0.length L0.length] (ZcW L0 N) := by
 unfold ZcW
 refine Mach.en_ite (fun g0 => ?_) (fun g0 => ?_)
 ·
  exact Mach.en_fin (M := Zy L0 N) (cd := 1000000) (cm := 0) (r := (.r0 ((3 : Int)) : Zu)) (fu := 4000) (orc := (Zz [(0, true)] [] [] [] [])) (live := [0]) (u := vi (3 : Int)) (bl := [some (.cells (Zc E_iiiiiiAi L0) 27)]) (ob := [((decide ((L0.length : Int) > (64 : Int))), true)]) (by kernel_rfl) (oY Zg) rfl (by decide) (by rfl) rr ⟨(Zo (E := E_iiiiiiAi) (α := R_iiiiiiAi) _ L0 _), trivial⟩
 ·
  exact Mach.en_head (bK := Zaf 1) (M := Zy L0 N) (cd := 1000000) (cm := 0) (y := (.h1m0 (0) : Zl)) (fu := 4000) (orc := (Zz [(0, false)] [] [] [] [])) (live := [0]) (tv := [some (vs 0 0 L0.length L0.length), some (vq)]) (bl := [some (.cells (Zc E_iiiiiiAi L0) 27)]) (ob := [((decide ((L0.length : Int) > (64 : Int))), false)]) rfl rfl (show Zt (Zaf 1).2 = [] from rfl) (by kernel_rfl) (oN Zg) rfl (by decide) (by rfl) ⟨rr, ⟨⟨Eq.trans (show (vi ((0 : Nat) : Int) : Value) = vq from (congrArg (Value.int .i64) (by first | rfl | omega))) (by rfl), by rfl⟩, trivial⟩⟩ ⟨(Zo (E := E_iiiiiiAi) (α := R_iiiiiiAi) _ L0 _), trivial⟩

theorem Zg9 (L0 : List R_iiiiiiAi) (N : Nat) (r : Zu) (h : ZbD L0 N = some r) : LSpec Tryz.prog 6 #[vs 0 0 L0.length L0.length] [.cells (Zc E_iiiiiiAi L0) 27] (Zfo L0 r) (Ze7 L0 r) :=
 Mach.spec Zcu (Zy L0 N) Tryz.func6 (by kernel_rfl) (by kernel_rfl) (fun x => by cases x <;> exact Zap _ rfl) (fun r => by cases r <;> exact Zap _ rfl) (fun x => by
  cases x with
  | h1m0 _ => exact fun _ => (show ¬ (1 ∈ Zt (Zaf 1).2) from by decide +kernel)
  | h2m0 _ _ => exact fun _ => (show ¬ (2 ∈ Zt (Zaf 2).2) from by decide +kernel)
  ) (fun x => (show (Zy L0 N).Ok Tryz.prog Zs x (Zx L0 N x) from by
  cases x with
  | h1m0 v1 => exact ZfV L0 v1 N
  | h2m0 v1 v2 => exact ZfW L0 v1 v2 N
  )) (Zh4 L0 N) (n := N) h

noncomputable def Zau (L0 : List R_iiiiiiAi) (w1 : Int) (k0 n : Nat) : Zcm := .call [(k0, .cells (Zc E_iiiiiiAi L0) 27)] (vi w1) [] 0
def Zaj (A : Array Value) (L0 : List R_iiiiiiAi) (w1 : Int) (k0 n : Nat) : Prop := ZW Tryz.prog 6 A [(k0, .cells (Zc E_iiiiiiAi L0) 27)] (vi w1) [] n 0

theorem Zav (A : Array Value) (L0 : List R_iiiiiiAi) (w1 : Int) (N : Nat) (h : ZbD L0 N = some (.r0 w1)) (k0 n : Nat) (hA : A = #[vs k0 0 L0.length L0.length]) (hnd : ([k0] : List Nat).Nodup) (hlt : ∀ k ∈ ([k0] : List Nat), k < n) : Zaj A L0 w1 k0 n :=
 ZbH hA (LSpec.callL (show LSpec Tryz.prog 6 #[vs 0 0 L0.length L0.length] [.cells (Zc E_iiiiiiAi L0) 27] (vi w1) [some (.cells (Zc E_iiiiiiAi L0) 27)] from Zg9 L0 N _ h) [k0] n [] rfl hnd hlt (show 1 ≤ 1 from by decide) (show ∀ j ∈ ([] : List Nat), j < 1 from by decide) (by rfl) ⟨(Zbd _ _ _), trivial⟩ (by rfl) ⟨(Zbd _ _ _), trivial⟩ ⟨.inr rfl, trivial⟩ rfl rfl rfl (Zfh (Zfi rfl (Zep _ _ _)) rfl) rfl)

noncomputable def Ze9 (L0 : List R_iiiiiiAi) : ZD → Value
 | .r0 w1 => vi w1
noncomputable def Zet (L0 : List R_iiiiiiAi) : ZD → List (Option AObj)
 | .r0 w1 => [some (.cells (Zc E_iiiiiiAi L0) 27)]

def Zh5 : Zh → Nat
 | .h1m0 v1 v3 => 1
 | .h2m0 v1 v2 v4 v6 v7 v8 v9 v10 v11 v12 v13 v14 => 2
noncomputable def Zif (L0 : List R_iiiiiiAi) : Zh → List (Nat × Value)
 | .h1m0 v1 v3 => [(0, vs 0 0 L0.length L0.length), (3, vi v1), (12, vs 0 0 L0.length L0.length), (13, vi (L0.length : Int)), (14, vi (v3 : Int))]
 | .h2m0 v1 v2 v4 v6 v7 v8 v9 v10 v11 v12 v13 v14 => [(0, vs 0 0 L0.length L0.length), (3, vi v1), (5, vp 1 0), (6, vi (v2 : Int)), (12, vs 0 0 L0.length L0.length), (13, vi (L0.length : Int)), (14, vi (v4 : Int)), (18, vs 0 0 L0.length L0.length), (19, vi (L0.length : Int)), (20, vi (v6 : Int))]
noncomputable def Zig (L0 : List R_iiiiiiAi) : Zh → List (Option AObj)
 | .h1m0 v1 v3 => [some (.cells (Zc E_iiiiiiAi L0) 27)]
 | .h2m0 v1 v2 v4 v6 v7 v8 v9 v10 v11 v12 v13 v14 => [some (.cells (Zc E_iiiiiiAi L0) 27), some (.cells [vi v7, vi v8, vi v9, vi v10, vi v11, vi v12, ms E_ii v13, vi v14] 27)]

noncomputable def ZY : Nat → Code × List ZZ
 | 1 => Zas [1, 1, 1, 0, 1, 3] (Zbb Tryz.f9) []
 | 2 => Zas [1, 1, 1, 0, 1, 3, 7, 1, 1, 0, 3, 1, 1, 0, 1, 3] (Zbb Tryz.f9) []
 | _ => (.skip, [])
def Zeu : Nat → Bool
 | 1 => true
 | 2 => true
 | _ => true
noncomputable def Zbe (i : Nat) : List ZZ := match Zeu i with | true => .rnd i :: (ZY i).2 | false => (ZY i).2

noncomputable def Z4 (L0 : List R_iiiiiiAi) (N : Nat) : Mach := ⟨Tryz.f9, [.cells (Zc E_iiiiiiAi L0) 27], Zh, ZD, ZR L0 N, Zh5, ZY, Zeu, Zif L0, Zig L0, Ze9 L0, Zet L0⟩

theorem ZfF (L0 : List R_iiiiiiAi) (v1 : Int) (v3 N : Nat) : (Z4 L0 N).Ok Tryz.prog Zs (.h1m0 v1 v3 : Zh) (ZR L0 N (.h1m0 v1 v3 : Zh)) := by
 show (Z4 L0 N).Ok Tryz.prog Zs (.h1m0 v1 v3 : Zh) (ZbL L0 N v1 v3)
 unfold ZbL
 refine Mach.ok_ite (fun g0 => ?_) (fun g0 => ?_)
 ·
  exact Mach.ok_head (bK := ZY 2) (M := Z4 L0 N) (cd := 1000000) (cm := 0) (y := (.h2m0 (v1) (0) (v3) (0) ((L0.getD v3 R_iiiiiiAi.z).a0) ((L0.getD v3 R_iiiiiiAi.z).a1) ((L0.getD v3 R_iiiiiiAi.z).a2) ((L0.getD v3 R_iiiiiiAi.z).a3) ((L0.getD v3 R_iiiiiiAi.z).a4) ((L0.getD v3 R_iiiiiiAi.z).a5) ((L0.getD v3 R_iiiiiiAi.z).a6) ((L0.getD v3 R_iiiiiiAi.z).a7) : Zh)) (fu := 4000) (orc := (Zz [(0, true)] [] [(0, v3)] [(0, [.i (L0.getD v3 R_iiiiiiAi.z).a0, .i (L0.getD v3 R_iiiiiiAi.z).a1, .i (L0.getD v3 R_iiiiiiAi.z).a2, .i (L0.getD v3 R_iiiiiiAi.z).a3, .i (L0.getD v3 R_iiiiiiAi.z).a4, .i (L0.getD v3 R_iiiiiiAi.z).a5, (mc E_ii (L0.getD v3 R_iiiiiiAi.z).a6), .i (L0.getD v3 R_iiiiiiAi.z).a7])] [])) (live := [0, 1]) (tv := fun _ => [some (vs 0 0 L0.length L0.length), some (vi v1), some (vp 1 0), some (vq), some (vs 0 0 L0.length L0.length), some (vi (L0.length : Int)), some (vi (v3 : Int)), some (vs 0 0 L0.length L0.length), some (vi (L0.length : Int)), some (vq)]) (bl := [some (.cells (Zc E_iiiiiiAi L0) 27), some (.cells [vi (L0.getD v3 R_iiiiiiAi.z).a0, vi (L0.getD v3 R_iiiiiiAi.z).a1, vi (L0.getD v3 R_iiiiiiAi.z).a2, vi (L0.getD v3 R_iiiiiiAi.z).a3, vi (L0.getD v3 R_iiiiiiAi.z).a4, vi (L0.getD v3 R_iiiiiiAi.z).a5, ms E_ii (L0.getD v3 R_iiiiiiAi.z).a6, vi (L0.getD v3 R_iiiiiiAi.z).a7] 27)]) (ob := [(Z5 (Zk 8 (List.drop (0 + (v3 * 8)) (Zc E_iiiiiiAi L0))) [.i (L0.getD v3 R_iiiiiiAi.z).a0, .i (L0.getD v3 R_iiiiiiAi.z).a1, .i (L0.getD v3 R_iiiiiiAi.z).a2, .i (L0.getD v3 R_iiiiiiAi.z).a3, .i (L0.getD v3 R_iiiiiiAi.z).a4, .i (L0.getD v3 R_iiiiiiAi.z).a5, (mc E_ii (L0.getD v3 R_iiiiiiAi.z).a6), .i (L0.getD v3 R_iiiiiiAi.z).a7], true), (Nat.blt v3 L0.length, true), ((v3 : Int) == Int.ofNat v3, true), ((decide ((v3 : Int) < (L0.length : Int))), true)]) rfl rfl (show ∀ j ∈ Zt (ZY 2).2, j ∈ Zt (Zbe 1) from by decide +kernel) (fun gv => by kernel_rfl) (Za (Zm (E := E_iiiiiiAi) (L := L0) (i := v3) (q := 0) (by omega) (show (0 + (v3 * 8)) = v3 * 8 + 0 from by omega) (show 0 + 8 ≤ 8 from by decide) rfl rfl) <| oB <| oI <| oY Zg) rfl (by decide) (by rfl) (fun _ => ⟨rr, ⟨rr, ⟨rr, ⟨⟨Eq.trans (show (vi ((0 : Nat) : Int) : Value) = vq from (congrArg (Value.int .i64) (by first | rfl | omega))) (by rfl), by rfl⟩, ⟨rr, ⟨rr, ⟨rr, ⟨rr, ⟨rr, ⟨⟨Eq.trans (show (vi ((0 : Nat) : Int) : Value) = vq from (congrArg (Value.int .i64) (by first | rfl | omega))) (by rfl), by rfl⟩, trivial⟩⟩⟩⟩⟩⟩⟩⟩⟩⟩) ⟨(Zo (E := E_iiiiiiAi) (α := R_iiiiiiAi) _ L0 _), ⟨⟨rfl, ⟨[], by rfl⟩, by rfl⟩, trivial⟩⟩
 ·
  exact Mach.ok_fin (M := Z4 L0 N) (cd := 1000000) (cm := 0) (r := (.r0 (v1) : ZD)) (fu := 4000) (orc := (Zz [(0, false)] [] [] [] [])) (live := [0]) (u := vi v1) (bl := [some (.cells (Zc E_iiiiiiAi L0) 27)]) (ob := [((decide ((v3 : Int) < (L0.length : Int))), false)]) (fun gv => by kernel_rfl) (oN Zg) rfl (by decide) (by rfl) rr ⟨(Zo (E := E_iiiiiiAi) (α := R_iiiiiiAi) _ L0 _), trivial⟩

theorem ZfG (L0 : List R_iiiiiiAi) (v1 : Int) (v2 v4 v6 : Nat) (v7 v8 v9 v10 v11 v12 : Int) (v13 : List R_ii) (v14 : Int) (N : Nat) : (Z4 L0 N).Ok Tryz.prog Zs (.h2m0 v1 v2 v4 v6 v7 v8 v9 v10 v11 v12 v13 v14 : Zh) (ZR L0 N (.h2m0 v1 v2 v4 v6 v7 v8 v9 v10 v11 v12 v13 v14 : Zh)) := by
 show (Z4 L0 N).Ok Tryz.prog Zs (.h2m0 v1 v2 v4 v6 v7 v8 v9 v10 v11 v12 v13 v14 : Zh) (ZbM L0 N v1 v2 v4 v6 v7 v8 v9 v10 v11 v12 v13 v14)
 unfold ZbM
 refine Mach.ok_ite (fun g0 => ?_) (fun g0 => ?_)
 ·
  refine Mach.ok_ite (fun g1 => ?_) (fun g1 => ?_)
  ·
   refine Mach.ok_ite (fun g2 => ?_) (fun g2 => ?_)
   ·
    refine Mach.ok_ite (fun g3 => ?_) (fun g3 => ?_)
    ·
     refine Mach.ok_ite (fun g4 => ?_) (fun g4 => ?_)
     ·
      exact Mach.ok_next (M := Z4 L0 N) (cd := 1000000) (cm := 0) (y := (.h2m0 (v1) ((v2 + 1)) (v4) ((v6 + 1)) (v7) (v8) (v9) (v10) (v11) (v12) (v13) (v14) : Zh)) (fu := 4000) (orc := (Zz [(0, true), (1, true), (2, true)] [(0, (((v2 + 1) : Nat) : Int)), (1, (((v6 + 1) : Nat) : Int))] [(0, v6)] [(0, [.i (L0.getD v6 R_iiiiiiAi.z).a0, .i (L0.getD v6 R_iiiiiiAi.z).a1, .i (L0.getD v6 R_iiiiiiAi.z).a2, .i (L0.getD v6 R_iiiiiiAi.z).a3, .i (L0.getD v6 R_iiiiiiAi.z).a4, .i (L0.getD v6 R_iiiiiiAi.z).a5, (mc E_ii (L0.getD v6 R_iiiiiiAi.z).a6), .i (L0.getD v6 R_iiiiiiAi.z).a7])] [])) (live := [0, 1]) (tv := fun _ => [some (vs 0 0 L0.length L0.length), some (vi v1), some (vp 1 0), some (vi (((v2 + 1) : Nat) : Int)), some (vs 0 0 L0.length L0.length), some (vi (L0.length : Int)), some (vi (v4 : Int)), some (vs 0 0 L0.length L0.length), some (vi (L0.length : Int)), some (vi (((v6 + 1) : Nat) : Int))]) (bl := [some (.cells (Zc E_iiiiiiAi L0) 27), some (.cells [vi v7, vi v8, vi v9, vi v10, vi v11, vi v12, ms E_ii v13, vi v14] 27)]) (ob := [((IntKind.i64.wrap ((v6 : Int) + (1 : Int))) == (((v6 + 1) : Nat) : Int), true), ((IntKind.i64.wrap ((v2 : Int) + (1 : Int))) == (((v2 + 1) : Nat) : Int), true), ((decide (v10 ≤ (L0.getD v6 R_iiiiiiAi.z).a5)), true), ((decide ((L0.getD v6 R_iiiiiiAi.z).a3 ≤ v10)), true), (Z5 (Zk 8 (List.drop (0 + (v6 * 8)) (Zc E_iiiiiiAi L0))) [.i (L0.getD v6 R_iiiiiiAi.z).a0, .i (L0.getD v6 R_iiiiiiAi.z).a1, .i (L0.getD v6 R_iiiiiiAi.z).a2, .i (L0.getD v6 R_iiiiiiAi.z).a3, .i (L0.getD v6 R_iiiiiiAi.z).a4, .i (L0.getD v6 R_iiiiiiAi.z).a5, (mc E_ii (L0.getD v6 R_iiiiiiAi.z).a6), .i (L0.getD v6 R_iiiiiiAi.z).a7], true), (Nat.blt v6 L0.length, true), ((v6 : Int) == Int.ofNat v6, true), ((decide ((v6 : Int) < (L0.length : Int))), true)]) rfl (show 2 ∈ Zt (Zbe 2) from by decide +kernel) (fun gv => by kernel_rfl) (Za (beq_iff_eq.2 ((wrap_i64 ltA).trans (by first | rfl | omega))) <| Za (beq_iff_eq.2 ((wrap_i64 ltA).trans (by first | rfl | omega))) <| oY <| oY <| Za (Zm (E := E_iiiiiiAi) (L := L0) (i := v6) (q := 0) (by omega) (show (0 + (v6 * 8)) = v6 * 8 + 0 from by omega) (show 0 + 8 ≤ 8 from by decide) rfl rfl) <| oB <| oI <| oY Zg) rfl (by decide) (by rfl) (fun _ => ⟨rr, ⟨rr, ⟨rr, ⟨rr, ⟨rr, ⟨rr, ⟨rr, ⟨rr, ⟨rr, ⟨rr, trivial⟩⟩⟩⟩⟩⟩⟩⟩⟩⟩) ⟨(Zo (E := E_iiiiiiAi) (α := R_iiiiiiAi) _ L0 _), ⟨⟨rfl, ⟨[], by rfl⟩, by rfl⟩, trivial⟩⟩
     ·
      exact Mach.ok_none
    ·
     exact Mach.ok_none
   ·
    refine Mach.ok_ite (fun g3 => ?_) (fun g3 => ?_)
    ·
     exact Mach.ok_next (M := Z4 L0 N) (cd := 1000000) (cm := 0) (y := (.h2m0 (v1) (v2) (v4) ((v6 + 1)) (v7) (v8) (v9) (v10) (v11) (v12) (v13) (v14) : Zh)) (fu := 4000) (orc := (Zz [(0, true), (1, true), (2, false)] [(0, (((v6 + 1) : Nat) : Int))] [(0, v6)] [(0, [.i (L0.getD v6 R_iiiiiiAi.z).a0, .i (L0.getD v6 R_iiiiiiAi.z).a1, .i (L0.getD v6 R_iiiiiiAi.z).a2, .i (L0.getD v6 R_iiiiiiAi.z).a3, .i (L0.getD v6 R_iiiiiiAi.z).a4, .i (L0.getD v6 R_iiiiiiAi.z).a5, (mc E_ii (L0.getD v6 R_iiiiiiAi.z).a6), .i (L0.getD v6 R_iiiiiiAi.z).a7])] [])) (live := [0, 1]) (tv := fun _ => [some (vs 0 0 L0.length L0.length), some (vi v1), some (vp 1 0), some (vi (v2 : Int)), some (vs 0 0 L0.length L0.length), some (vi (L0.length : Int)), some (vi (v4 : Int)), some (vs 0 0 L0.length L0.length), some (vi (L0.length : Int)), some (vi (((v6 + 1) : Nat) : Int))]) (bl := [some (.cells (Zc E_iiiiiiAi L0) 27), some (.cells [vi v7, vi v8, vi v9, vi v10, vi v11, vi v12, ms E_ii v13, vi v14] 27)]) (ob := [((IntKind.i64.wrap ((v6 : Int) + (1 : Int))) == (((v6 + 1) : Nat) : Int), true), ((decide (v10 ≤ (L0.getD v6 R_iiiiiiAi.z).a5)), false), ((decide ((L0.getD v6 R_iiiiiiAi.z).a3 ≤ v10)), true), (Z5 (Zk 8 (List.drop (0 + (v6 * 8)) (Zc E_iiiiiiAi L0))) [.i (L0.getD v6 R_iiiiiiAi.z).a0, .i (L0.getD v6 R_iiiiiiAi.z).a1, .i (L0.getD v6 R_iiiiiiAi.z).a2, .i (L0.getD v6 R_iiiiiiAi.z).a3, .i (L0.getD v6 R_iiiiiiAi.z).a4, .i (L0.getD v6 R_iiiiiiAi.z).a5, (mc E_ii (L0.getD v6 R_iiiiiiAi.z).a6), .i (L0.getD v6 R_iiiiiiAi.z).a7], true), (Nat.blt v6 L0.length, true), ((v6 : Int) == Int.ofNat v6, true), ((decide ((v6 : Int) < (L0.length : Int))), true)]) rfl (show 2 ∈ Zt (Zbe 2) from by decide +kernel) (fun gv => by kernel_rfl) (Za (beq_iff_eq.2 ((wrap_i64 ltA).trans (by first | rfl | omega))) <| oN <| oY <| Za (Zm (E := E_iiiiiiAi) (L := L0) (i := v6) (q := 0) (by omega) (show (0 + (v6 * 8)) = v6 * 8 + 0 from by omega) (show 0 + 8 ≤ 8 from by decide) rfl rfl) <| oB <| oI <| oY Zg) rfl (by decide) (by rfl) (fun _ => ⟨rr, ⟨rr, ⟨rr, ⟨rr, ⟨rr, ⟨rr, ⟨rr, ⟨rr, ⟨rr, ⟨rr, trivial⟩⟩⟩⟩⟩⟩⟩⟩⟩⟩) ⟨(Zo (E := E_iiiiiiAi) (α := R_iiiiiiAi) _ L0 _), ⟨⟨rfl, ⟨[], by rfl⟩, by rfl⟩, trivial⟩⟩
    ·
     exact Mach.ok_none
  ·
   refine Mach.ok_ite (fun g2 => ?_) (fun g2 => ?_)
   ·
    exact Mach.ok_next (M := Z4 L0 N) (cd := 1000000) (cm := 0) (y := (.h2m0 (v1) (v2) (v4) ((v6 + 1)) (v7) (v8) (v9) (v10) (v11) (v12) (v13) (v14) : Zh)) (fu := 4000) (orc := (Zz [(0, true), (1, false)] [(0, (((v6 + 1) : Nat) : Int))] [(0, v6)] [(0, [.i (L0.getD v6 R_iiiiiiAi.z).a0, .i (L0.getD v6 R_iiiiiiAi.z).a1, .i (L0.getD v6 R_iiiiiiAi.z).a2, .i (L0.getD v6 R_iiiiiiAi.z).a3, .i (L0.getD v6 R_iiiiiiAi.z).a4, .i (L0.getD v6 R_iiiiiiAi.z).a5, (mc E_ii (L0.getD v6 R_iiiiiiAi.z).a6), .i (L0.getD v6 R_iiiiiiAi.z).a7])] [])) (live := [0, 1]) (tv := fun _ => [some (vs 0 0 L0.length L0.length), some (vi v1), some (vp 1 0), some (vi (v2 : Int)), some (vs 0 0 L0.length L0.length), some (vi (L0.length : Int)), some (vi (v4 : Int)), some (vs 0 0 L0.length L0.length), some (vi (L0.length : Int)), some (vi (((v6 + 1) : Nat) : Int))]) (bl := [some (.cells (Zc E_iiiiiiAi L0) 27), some (.cells [vi v7, vi v8, vi v9, vi v10, vi v11, vi v12, ms E_ii v13, vi v14] 27)]) (ob := [((IntKind.i64.wrap ((v6 : Int) + (1 : Int))) == (((v6 + 1) : Nat) : Int), true), ((decide ((L0.getD v6 R_iiiiiiAi.z).a3 ≤ v10)), false), (Z5 (Zk 8 (List.drop (0 + (v6 * 8)) (Zc E_iiiiiiAi L0))) [.i (L0.getD v6 R_iiiiiiAi.z).a0, .i (L0.getD v6 R_iiiiiiAi.z).a1, .i (L0.getD v6 R_iiiiiiAi.z).a2, .i (L0.getD v6 R_iiiiiiAi.z).a3, .i (L0.getD v6 R_iiiiiiAi.z).a4, .i (L0.getD v6 R_iiiiiiAi.z).a5, (mc E_ii (L0.getD v6 R_iiiiiiAi.z).a6), .i (L0.getD v6 R_iiiiiiAi.z).a7], true), (Nat.blt v6 L0.length, true), ((v6 : Int) == Int.ofNat v6, true), ((decide ((v6 : Int) < (L0.length : Int))), true)]) rfl (show 2 ∈ Zt (Zbe 2) from by decide +kernel) (fun gv => by kernel_rfl) (Za (beq_iff_eq.2 ((wrap_i64 ltA).trans (by first | rfl | omega))) <| oN <| Za (Zm (E := E_iiiiiiAi) (L := L0) (i := v6) (q := 0) (by omega) (show (0 + (v6 * 8)) = v6 * 8 + 0 from by omega) (show 0 + 8 ≤ 8 from by decide) rfl rfl) <| oB <| oI <| oY Zg) rfl (by decide) (by rfl) (fun _ => ⟨rr, ⟨rr, ⟨rr, ⟨rr, ⟨rr, ⟨rr, ⟨rr, ⟨rr, ⟨rr, ⟨rr, trivial⟩⟩⟩⟩⟩⟩⟩⟩⟩⟩) ⟨(Zo (E := E_iiiiiiAi) (α := R_iiiiiiAi) _ L0 _), ⟨⟨rfl, ⟨[], by rfl⟩, by rfl⟩, trivial⟩⟩
   ·
    exact Mach.ok_none
 ·
  refine Mach.ok_ite (fun g1 => ?_) (fun g1 => ?_)
  ·
   exact Mach.ok_next (M := Z4 L0 N) (cd := 1000000) (cm := 0) (y := (.h1m0 ((if (v2 : Int) > v1 then (v2 : Int) else v1)) ((v4 + 1)) : Zh)) (fu := 4000) (orc := (Zz [(0, false)] [(0, (((v4 + 1) : Nat) : Int))] [] [] [])) (live := [0]) (tv := fun _ => [some (vs 0 0 L0.length L0.length), some (vi (if (v2 : Int) > v1 then (v2 : Int) else v1)), some (vs 0 0 L0.length L0.length), some (vi (L0.length : Int)), some (vi (((v4 + 1) : Nat) : Int))]) (bl := [some (.cells (Zc E_iiiiiiAi L0) 27)]) (ob := [((IntKind.i64.wrap ((v4 : Int) + (1 : Int))) == (((v4 + 1) : Nat) : Int), true), ((decide ((v6 : Int) < (L0.length : Int))), false)]) rfl (show 1 ∈ Zt (Zbe 2) from by decide +kernel) (fun gv => by kernel_rfl) (Za (beq_iff_eq.2 ((wrap_i64 ltA).trans (by first | rfl | omega))) <| oN Zg) rfl (by decide) (by rfl) (fun _ => ⟨rr, ⟨rr, ⟨rr, ⟨rr, ⟨rr, trivial⟩⟩⟩⟩⟩) ⟨(Zo (E := E_iiiiiiAi) (α := R_iiiiiiAi) _ L0 _), trivial⟩
  ·
   exact Mach.ok_none

theorem ZgW (L0 : List R_iiiiiiAi) (N : Nat) : (Z4 L0 N).Enter Tryz.prog Zs #[vs 0 0 L0.length L0.length] (ZcB L0 N) := by
 unfold ZcB
 refine Mach.en_bind (fun z0 c0 => ?_)
 cases z0 with
 | r0 y0_0 =>
  refine Mach.en_ite (fun g1 => ?_) (fun g1 => ?_)
  ·
   exact Mach.en_fin (M := Z4 L0 N) (cd := 1000000) (cm := 0) (r := (.r0 ((0 : Int)) : ZD)) (fu := 4000) (orc := (Zz [(0, true)] [] [] [] [(0, (Zam (L0)  y0_0 0 1))])) (live := [0]) (u := vq) (bl := [some (.cells (Zc E_iiiiiiAi L0) 27)]) (ob := [((y0_0 != (0 : Int)), true), (dP (Zac #[vs 0 0 L0.length L0.length] (L0)  y0_0 0 1), true), (dS (Zc E_iiiiiiAi L0), true)]) (by kernel_rfl) (oD <| Za (Zp (Zan #[vs 0 0 L0.length L0.length] (L0)  y0_0 N c0 0 1 rfl (by decide) (by decide))) <| oR Zg) rfl (by decide) (by rfl) rr ⟨(Zo (E := E_iiiiiiAi) (α := R_iiiiiiAi) _ L0 _), trivial⟩
  ·
   exact Mach.en_head (bK := ZY 1) (M := Z4 L0 N) (cd := 1000000) (cm := 0) (y := (.h1m0 ((0 : Int)) (0) : Zh)) (fu := 4000) (orc := (Zz [(0, false)] [] [] [] [(0, (Zam (L0)  y0_0 0 1))])) (live := [0]) (tv := [some (vs 0 0 L0.length L0.length), some (vq), some (vs 0 0 L0.length L0.length), some (vi (L0.length : Int)), some (vq)]) (bl := [some (.cells (Zc E_iiiiiiAi L0) 27)]) (ob := [((y0_0 != (0 : Int)), false), (dP (Zac #[vs 0 0 L0.length L0.length] (L0)  y0_0 0 1), true), (dS (Zc E_iiiiiiAi L0), true)]) rfl rfl (show Zt (ZY 1).2 = [] from rfl) (by kernel_rfl) (oE <| Za (Zp (Zan #[vs 0 0 L0.length L0.length] (L0)  y0_0 N c0 0 1 rfl (by decide) (by decide))) <| oR Zg) rfl (by decide) (by rfl) ⟨rr, ⟨rr, ⟨rr, ⟨rr, ⟨⟨Eq.trans (show (vi ((0 : Nat) : Int) : Value) = vq from (congrArg (Value.int .i64) (by first | rfl | omega))) (by rfl), by rfl⟩, trivial⟩⟩⟩⟩⟩ ⟨(Zo (E := E_iiiiiiAi) (α := R_iiiiiiAi) _ L0 _), trivial⟩

theorem ZfX (L0 : List R_iiiiiiAi) (N : Nat) (r : ZD) (h : Zcj L0 N = some r) : LSpec Tryz.prog 9 #[vs 0 0 L0.length L0.length] [.cells (Zc E_iiiiiiAi L0) 27] (Ze9 L0 r) (Zet L0 r) :=
 Mach.spec Zcu (Z4 L0 N) Tryz.func9 (by kernel_rfl) (by kernel_rfl) (fun x => by cases x <;> exact Zap _ rfl) (fun r => by cases r <;> exact Zap _ rfl) (fun x => by
  cases x with
  | h1m0 _ _ => exact fun _ => (show ¬ (1 ∈ Zt (ZY 1).2) from by decide +kernel)
  | h2m0 _ _ _ _ _ _ _ _ _ _ _ _ => exact fun _ => (show ¬ (2 ∈ Zt (ZY 2).2) from by decide +kernel)
  ) (fun x => (show (Z4 L0 N).Ok Tryz.prog Zs x (ZR L0 N x) from by
  cases x with
  | h1m0 v1 v3 => exact ZfF L0 v1 v3 N
  | h2m0 v1 v2 v4 v6 v7 v8 v9 v10 v11 v12 v13 v14 => exact ZfG L0 v1 v2 v4 v6 v7 v8 v9 v10 v11 v12 v13 v14 N
  )) (ZgW L0 N) (n := N) h

noncomputable def ZbB (L0 : List R_iiiiiiAi) (w1 : Int) (k0 n : Nat) : Zcm := .call [(k0, .cells (Zc E_iiiiiiAi L0) 27)] (vi w1) [] 0
def ZaT (A : Array Value) (L0 : List R_iiiiiiAi) (w1 : Int) (k0 n : Nat) : Prop := ZW Tryz.prog 9 A [(k0, .cells (Zc E_iiiiiiAi L0) 27)] (vi w1) [] n 0

theorem ZbC (A : Array Value) (L0 : List R_iiiiiiAi) (w1 : Int) (N : Nat) (h : Zcj L0 N = some (.r0 w1)) (k0 n : Nat) (hA : A = #[vs k0 0 L0.length L0.length]) (hnd : ([k0] : List Nat).Nodup) (hlt : ∀ k ∈ ([k0] : List Nat), k < n) : ZaT A L0 w1 k0 n :=
 ZbH hA (LSpec.callL (show LSpec Tryz.prog 9 #[vs 0 0 L0.length L0.length] [.cells (Zc E_iiiiiiAi L0) 27] (vi w1) [some (.cells (Zc E_iiiiiiAi L0) 27)] from ZfX L0 N _ h) [k0] n [] rfl hnd hlt (show 1 ≤ 1 from by decide) (show ∀ j ∈ ([] : List Nat), j < 1 from by decide) (by rfl) ⟨(Zbd _ _ _), trivial⟩ (by rfl) ⟨(Zbd _ _ _), trivial⟩ ⟨.inr rfl, trivial⟩ rfl rfl rfl (Zfh (Zfi rfl (Zep _ _ _)) rfl) rfl)

noncomputable def Zfp (L0 : List R_iiiiiiAi) : ZF → Value
 | .r0 w1 => vi w1
noncomputable def ZeA (L0 : List R_iiiiiiAi) : ZF → List (Option AObj)
 | .r0 w1 => [some (.cells (Zc E_iiiiiiAi L0) 27)]

def Zih : Zi → Nat
 | .h1m0 v1 v2 => 1
 | .h2m0 v1 v2 v3 v4 => 2
noncomputable def Zi8 (L0 : List R_iiiiiiAi) : Zi → List (Nat × Value)
 | .h1m0 v1 v2 => [(0, vs 0 0 L0.length L0.length), (3, vi v1), (4, vi (v2 : Int))]
 | .h2m0 v1 v2 v3 v4 => [(0, vs 0 0 L0.length L0.length), (3, vi v1), (4, vi (v2 : Int)), (5, vi (v3 : Int)), (6, vi (v4 : Int))]
noncomputable def Zi9 (L0 : List R_iiiiiiAi) : Zi → List (Option AObj)
 | .h1m0 v1 v2 => [some (.cells (Zc E_iiiiiiAi L0) 27)]
 | .h2m0 v1 v2 v3 v4 => [some (.cells (Zc E_iiiiiiAi L0) 27)]

noncomputable def Zag : Nat → Code × List ZZ
 | 1 => Zas [1, 1, 1, 0, 1, 3] (Zbb Tryz.f10) []
 | 2 => Zas [1, 1, 1, 0, 1, 3, 7, 1, 0, 3, 1, 0, 1, 3] (Zbb Tryz.f10) []
 | _ => (.skip, [])
def ZeB : Nat → Bool
 | 1 => true
 | 2 => true
 | _ => true
noncomputable def Zbx (i : Nat) : List ZZ := match ZeB i with | true => .rnd i :: (Zag i).2 | false => (Zag i).2

noncomputable def Z7 (L0 : List R_iiiiiiAi) (N : Nat) : Mach := ⟨Tryz.f10, [.cells (Zc E_iiiiiiAi L0) 27], Zi, ZF, ZU L0 N, Zih, Zag, ZeB, Zi8 L0, Zi9 L0, Zfp L0, ZeA L0⟩

theorem ZfY (L0 : List R_iiiiiiAi) (v1 : Int) (v2 N : Nat) : (Z7 L0 N).Ok Tryz.prog Zs (.h1m0 v1 v2 : Zi) (ZU L0 N (.h1m0 v1 v2 : Zi)) := by
 show (Z7 L0 N).Ok Tryz.prog Zs (.h1m0 v1 v2 : Zi) (Zcb L0 N v1 v2)
 unfold Zcb
 refine Mach.ok_ite (fun g0 => ?_) (fun g0 => ?_)
 ·
  exact Mach.ok_head (bK := Zag 2) (M := Z7 L0 N) (cd := 1000000) (cm := 0) (y := (.h2m0 (v1) (v2) (0) (0) : Zi)) (fu := 4000) (orc := (Zz [(0, true)] [] [] [] [])) (live := [0]) (tv := fun _ => [some (vs 0 0 L0.length L0.length), some (vi v1), some (vi (v2 : Int)), some (vq), some (vq)]) (bl := [some (.cells (Zc E_iiiiiiAi L0) 27)]) (ob := [((decide ((v2 : Int) < (L0.length : Int))), true)]) rfl rfl (show ∀ j ∈ Zt (Zag 2).2, j ∈ Zt (Zbx 1) from by decide +kernel) (fun gv => by kernel_rfl) (oY Zg) rfl (by decide) (by rfl) (fun _ => ⟨rr, ⟨rr, ⟨rr, ⟨⟨Eq.trans (show (vi ((0 : Nat) : Int) : Value) = vq from (congrArg (Value.int .i64) (by first | rfl | omega))) (by rfl), by rfl⟩, ⟨⟨Eq.trans (show (vi ((0 : Nat) : Int) : Value) = vq from (congrArg (Value.int .i64) (by first | rfl | omega))) (by rfl), by rfl⟩, trivial⟩⟩⟩⟩⟩) ⟨(Zo (E := E_iiiiiiAi) (α := R_iiiiiiAi) _ L0 _), trivial⟩
 ·
  exact Mach.ok_fin (M := Z7 L0 N) (cd := 1000000) (cm := 0) (r := (.r0 (v1) : ZF)) (fu := 4000) (orc := (Zz [(0, false)] [] [] [] [])) (live := [0]) (u := vi v1) (bl := [some (.cells (Zc E_iiiiiiAi L0) 27)]) (ob := [((decide ((v2 : Int) < (L0.length : Int))), false)]) (fun gv => by kernel_rfl) (oN Zg) rfl (by decide) (by rfl) rr ⟨(Zo (E := E_iiiiiiAi) (α := R_iiiiiiAi) _ L0 _), trivial⟩

theorem ZfZ (L0 : List R_iiiiiiAi) (v1 : Int) (v2 v3 v4 N : Nat) : (Z7 L0 N).Ok Tryz.prog Zs (.h2m0 v1 v2 v3 v4 : Zi) (ZU L0 N (.h2m0 v1 v2 v3 v4 : Zi)) := by
 show (Z7 L0 N).Ok Tryz.prog Zs (.h2m0 v1 v2 v3 v4 : Zi) (Zcc L0 N v1 v2 v3 v4)
 unfold Zcc
 refine Mach.ok_ite (fun g0 => ?_) (fun g0 => ?_)
 ·
  refine Mach.ok_ite (fun g1 => ?_) (fun g1 => ?_)
  ·
   refine Mach.ok_ite (fun g2 => ?_) (fun g2 => ?_)
   ·
    refine Mach.ok_ite (fun g3 => ?_) (fun g3 => ?_)
    ·
     refine Mach.ok_ite (fun g4 => ?_) (fun g4 => ?_)
     ·
      refine Mach.ok_ite (fun g5 => ?_) (fun g5 => ?_)
      ·
       exact Mach.ok_next (M := Z7 L0 N) (cd := 1000000) (cm := 0) (y := (.h2m0 (v1) (v2) ((v3 + 1)) ((v4 + 1)) : Zi)) (fu := 4000) (orc := (Zz [(0, true), (1, true), (2, true)] [(0, (((v3 + 1) : Nat) : Int)), (1, (((v4 + 1) : Nat) : Int))] [(0, v4), (1, v2), (2, v2), (3, v4)] [(0, [.i (L0.getD v4 R_iiiiiiAi.z).a3]), (1, [.i (L0.getD v2 R_iiiiiiAi.z).a3]), (2, [.i (L0.getD v2 R_iiiiiiAi.z).a3]), (3, [.i (L0.getD v4 R_iiiiiiAi.z).a5])] [])) (live := [0]) (tv := fun _ => [some (vs 0 0 L0.length L0.length), some (vi v1), some (vi (v2 : Int)), some (vi (((v3 + 1) : Nat) : Int)), some (vi (((v4 + 1) : Nat) : Int))]) (bl := [some (.cells (Zc E_iiiiiiAi L0) 27)]) (ob := [((IntKind.i64.wrap ((v4 : Int) + (1 : Int))) == (((v4 + 1) : Nat) : Int), true), ((IntKind.i64.wrap ((v3 : Int) + (1 : Int))) == (((v3 + 1) : Nat) : Int), true), ((decide ((L0.getD v2 R_iiiiiiAi.z).a3 ≤ (L0.getD v4 R_iiiiiiAi.z).a5)), true), (Z5 (Zk 1 (List.drop ((0 + (v4 * 8)) + 5) (Zc E_iiiiiiAi L0))) [.i (L0.getD v4 R_iiiiiiAi.z).a5], true), (Nat.blt v4 L0.length, true), ((v4 : Int) == Int.ofNat v4, true), (Z5 (Zk 1 (List.drop ((0 + (v2 * 8)) + 3) (Zc E_iiiiiiAi L0))) [.i (L0.getD v2 R_iiiiiiAi.z).a3], true), (Nat.blt v2 L0.length, true), ((v2 : Int) == Int.ofNat v2, true), ((decide ((L0.getD v4 R_iiiiiiAi.z).a3 ≤ (L0.getD v2 R_iiiiiiAi.z).a3)), true), (Z5 (Zk 1 (List.drop ((0 + (v2 * 8)) + 3) (Zc E_iiiiiiAi L0))) [.i (L0.getD v2 R_iiiiiiAi.z).a3], true), (Nat.blt v2 L0.length, true), ((v2 : Int) == Int.ofNat v2, true), (Z5 (Zk 1 (List.drop ((0 + (v4 * 8)) + 3) (Zc E_iiiiiiAi L0))) [.i (L0.getD v4 R_iiiiiiAi.z).a3], true), (Nat.blt v4 L0.length, true), ((v4 : Int) == Int.ofNat v4, true), ((decide ((v4 : Int) < (L0.length : Int))), true)]) rfl (show 2 ∈ Zt (Zbx 2) from by decide +kernel) (fun gv => by kernel_rfl) (Za (beq_iff_eq.2 ((wrap_i64 ltA).trans (by first | rfl | omega))) <| Za (beq_iff_eq.2 ((wrap_i64 ltA).trans (by first | rfl | omega))) <| oY <| Za (Zm (E := E_iiiiiiAi) (L := L0) (i := v4) (q := 5) (by omega) (show ((0 + (v4 * 8)) + 5) = v4 * 8 + 5 from by omega) (show 5 + 1 ≤ 8 from by decide) rfl rfl) <| oB <| oI <| Za (Zm (E := E_iiiiiiAi) (L := L0) (i := v2) (q := 3) (by omega) (show ((0 + (v2 * 8)) + 3) = v2 * 8 + 3 from by omega) (show 3 + 1 ≤ 8 from by decide) rfl rfl) <| oB <| oI <| oY <| Za (Zm (E := E_iiiiiiAi) (L := L0) (i := v2) (q := 3) (by omega) (show ((0 + (v2 * 8)) + 3) = v2 * 8 + 3 from by omega) (show 3 + 1 ≤ 8 from by decide) rfl rfl) <| oB <| oI <| Za (Zm (E := E_iiiiiiAi) (L := L0) (i := v4) (q := 3) (by omega) (show ((0 + (v4 * 8)) + 3) = v4 * 8 + 3 from by omega) (show 3 + 1 ≤ 8 from by decide) rfl rfl) <| oB <| oI <| oY Zg) rfl (by decide) (by rfl) (fun _ => ⟨rr, ⟨rr, ⟨rr, ⟨rr, ⟨rr, trivial⟩⟩⟩⟩⟩) ⟨(Zo (E := E_iiiiiiAi) (α := R_iiiiiiAi) _ L0 _), trivial⟩
      ·
       exact Mach.ok_none
     ·
      exact Mach.ok_none
    ·
     refine Mach.ok_ite (fun g4 => ?_) (fun g4 => ?_)
     ·
      exact Mach.ok_next (M := Z7 L0 N) (cd := 1000000) (cm := 0) (y := (.h2m0 (v1) (v2) (v3) ((v4 + 1)) : Zi)) (fu := 4000) (orc := (Zz [(0, true), (1, true), (2, false)] [(0, (((v4 + 1) : Nat) : Int))] [(0, v4), (1, v2), (2, v2), (3, v4)] [(0, [.i (L0.getD v4 R_iiiiiiAi.z).a3]), (1, [.i (L0.getD v2 R_iiiiiiAi.z).a3]), (2, [.i (L0.getD v2 R_iiiiiiAi.z).a3]), (3, [.i (L0.getD v4 R_iiiiiiAi.z).a5])] [])) (live := [0]) (tv := fun _ => [some (vs 0 0 L0.length L0.length), some (vi v1), some (vi (v2 : Int)), some (vi (v3 : Int)), some (vi (((v4 + 1) : Nat) : Int))]) (bl := [some (.cells (Zc E_iiiiiiAi L0) 27)]) (ob := [((IntKind.i64.wrap ((v4 : Int) + (1 : Int))) == (((v4 + 1) : Nat) : Int), true), ((decide ((L0.getD v2 R_iiiiiiAi.z).a3 ≤ (L0.getD v4 R_iiiiiiAi.z).a5)), false), (Z5 (Zk 1 (List.drop ((0 + (v4 * 8)) + 5) (Zc E_iiiiiiAi L0))) [.i (L0.getD v4 R_iiiiiiAi.z).a5], true), (Nat.blt v4 L0.length, true), ((v4 : Int) == Int.ofNat v4, true), (Z5 (Zk 1 (List.drop ((0 + (v2 * 8)) + 3) (Zc E_iiiiiiAi L0))) [.i (L0.getD v2 R_iiiiiiAi.z).a3], true), (Nat.blt v2 L0.length, true), ((v2 : Int) == Int.ofNat v2, true), ((decide ((L0.getD v4 R_iiiiiiAi.z).a3 ≤ (L0.getD v2 R_iiiiiiAi.z).a3)), true), (Z5 (Zk 1 (List.drop ((0 + (v2 * 8)) + 3) (Zc E_iiiiiiAi L0))) [.i (L0.getD v2 R_iiiiiiAi.z).a3], true), (Nat.blt v2 L0.length, true), ((v2 : Int) == Int.ofNat v2, true), (Z5 (Zk 1 (List.drop ((0 + (v4 * 8)) + 3) (Zc E_iiiiiiAi L0))) [.i (L0.getD v4 R_iiiiiiAi.z).a3], true), (Nat.blt v4 L0.length, true), ((v4 : Int) == Int.ofNat v4, true), ((decide ((v4 : Int) < (L0.length : Int))), true)]) rfl (show 2 ∈ Zt (Zbx 2) from by decide +kernel) (fun gv => by kernel_rfl) (Za (beq_iff_eq.2 ((wrap_i64 ltA).trans (by first | rfl | omega))) <| oN <| Za (Zm (E := E_iiiiiiAi) (L := L0) (i := v4) (q := 5) (by omega) (show ((0 + (v4 * 8)) + 5) = v4 * 8 + 5 from by omega) (show 5 + 1 ≤ 8 from by decide) rfl rfl) <| oB <| oI <| Za (Zm (E := E_iiiiiiAi) (L := L0) (i := v2) (q := 3) (by omega) (show ((0 + (v2 * 8)) + 3) = v2 * 8 + 3 from by omega) (show 3 + 1 ≤ 8 from by decide) rfl rfl) <| oB <| oI <| oY <| Za (Zm (E := E_iiiiiiAi) (L := L0) (i := v2) (q := 3) (by omega) (show ((0 + (v2 * 8)) + 3) = v2 * 8 + 3 from by omega) (show 3 + 1 ≤ 8 from by decide) rfl rfl) <| oB <| oI <| Za (Zm (E := E_iiiiiiAi) (L := L0) (i := v4) (q := 3) (by omega) (show ((0 + (v4 * 8)) + 3) = v4 * 8 + 3 from by omega) (show 3 + 1 ≤ 8 from by decide) rfl rfl) <| oB <| oI <| oY Zg) rfl (by decide) (by rfl) (fun _ => ⟨rr, ⟨rr, ⟨rr, ⟨rr, ⟨rr, trivial⟩⟩⟩⟩⟩) ⟨(Zo (E := E_iiiiiiAi) (α := R_iiiiiiAi) _ L0 _), trivial⟩
     ·
      exact Mach.ok_none
   ·
    refine Mach.ok_ite (fun g3 => ?_) (fun g3 => ?_)
    ·
     exact Mach.ok_next (M := Z7 L0 N) (cd := 1000000) (cm := 0) (y := (.h2m0 (v1) (v2) (v3) ((v4 + 1)) : Zi)) (fu := 4000) (orc := (Zz [(0, true), (1, false)] [(0, (((v4 + 1) : Nat) : Int))] [(0, v4), (1, v2)] [(0, [.i (L0.getD v4 R_iiiiiiAi.z).a3]), (1, [.i (L0.getD v2 R_iiiiiiAi.z).a3])] [])) (live := [0]) (tv := fun _ => [some (vs 0 0 L0.length L0.length), some (vi v1), some (vi (v2 : Int)), some (vi (v3 : Int)), some (vi (((v4 + 1) : Nat) : Int))]) (bl := [some (.cells (Zc E_iiiiiiAi L0) 27)]) (ob := [((IntKind.i64.wrap ((v4 : Int) + (1 : Int))) == (((v4 + 1) : Nat) : Int), true), ((decide ((L0.getD v4 R_iiiiiiAi.z).a3 ≤ (L0.getD v2 R_iiiiiiAi.z).a3)), false), (Z5 (Zk 1 (List.drop ((0 + (v2 * 8)) + 3) (Zc E_iiiiiiAi L0))) [.i (L0.getD v2 R_iiiiiiAi.z).a3], true), (Nat.blt v2 L0.length, true), ((v2 : Int) == Int.ofNat v2, true), (Z5 (Zk 1 (List.drop ((0 + (v4 * 8)) + 3) (Zc E_iiiiiiAi L0))) [.i (L0.getD v4 R_iiiiiiAi.z).a3], true), (Nat.blt v4 L0.length, true), ((v4 : Int) == Int.ofNat v4, true), ((decide ((v4 : Int) < (L0.length : Int))), true)]) rfl (show 2 ∈ Zt (Zbx 2) from by decide +kernel) (fun gv => by kernel_rfl) (Za (beq_iff_eq.2 ((wrap_i64 ltA).trans (by first | rfl | omega))) <| oN <| Za (Zm (E := E_iiiiiiAi) (L := L0) (i := v2) (q := 3) (by omega) (show ((0 + (v2 * 8)) + 3) = v2 * 8 + 3 from by omega) (show 3 + 1 ≤ 8 from by decide) rfl rfl) <| oB <| oI <| Za (Zm (E := E_iiiiiiAi) (L := L0) (i := v4) (q := 3) (by omega) (show ((0 + (v4 * 8)) + 3) = v4 * 8 + 3 from by omega) (show 3 + 1 ≤ 8 from by decide) rfl rfl) <| oB <| oI <| oY Zg) rfl (by decide) (by rfl) (fun _ => ⟨rr, ⟨rr, ⟨rr, ⟨rr, ⟨rr, trivial⟩⟩⟩⟩⟩) ⟨(Zo (E := E_iiiiiiAi) (α := R_iiiiiiAi) _ L0 _), trivial⟩
    ·
     exact Mach.ok_none
  ·
   exact Mach.ok_none
 ·
  refine Mach.ok_ite (fun g1 => ?_) (fun g1 => ?_)
  ·
   exact Mach.ok_next (M := Z7 L0 N) (cd := 1000000) (cm := 0) (y := (.h1m0 ((if (v3 : Int) > v1 then (v3 : Int) else v1)) ((v2 + 1)) : Zi)) (fu := 4000) (orc := (Zz [(0, false)] [(0, (((v2 + 1) : Nat) : Int))] [] [] [])) (live := [0]) (tv := fun _ => [some (vs 0 0 L0.length L0.length), some (vi (if (v3 : Int) > v1 then (v3 : Int) else v1)), some (vi (((v2 + 1) : Nat) : Int))]) (bl := [some (.cells (Zc E_iiiiiiAi L0) 27)]) (ob := [((IntKind.i64.wrap ((v2 : Int) + (1 : Int))) == (((v2 + 1) : Nat) : Int), true), ((decide ((v4 : Int) < (L0.length : Int))), false)]) rfl (show 1 ∈ Zt (Zbx 2) from by decide +kernel) (fun gv => by kernel_rfl) (Za (beq_iff_eq.2 ((wrap_i64 ltA).trans (by first | rfl | omega))) <| oN Zg) rfl (by decide) (by rfl) (fun _ => ⟨rr, ⟨rr, ⟨rr, trivial⟩⟩⟩) ⟨(Zo (E := E_iiiiiiAi) (α := R_iiiiiiAi) _ L0 _), trivial⟩
  ·
   exact Mach.ok_none

theorem Zh6 (L0 : List R_iiiiiiAi) (N : Nat) : (Z7 L0 N).Enter Tryz.prog Zs #[vs 0 0 L0.length L0.length] (ZcX L0 N) := by
 unfold ZcX
 refine Mach.en_bind (fun z0 c0 => ?_)
 cases z0 with
 | r0 y0_0 =>
  refine Mach.en_ite (fun g1 => ?_) (fun g1 => ?_)
  ·
   exact Mach.en_fin (M := Z7 L0 N) (cd := 1000000) (cm := 0) (r := (.r0 ((0 : Int)) : ZF)) (fu := 4000) (orc := (Zz [(0, true)] [] [] [] [(0, (Zau (L0)  y0_0 0 1))])) (live := [0]) (u := vq) (bl := [some (.cells (Zc E_iiiiiiAi L0) 27)]) (ob := [((y0_0 != (0 : Int)), true), (dP (Zaj #[vs 0 0 L0.length L0.length] (L0)  y0_0 0 1), true), (dS (Zc E_iiiiiiAi L0), true)]) (by kernel_rfl) (oD <| Za (Zp (Zav #[vs 0 0 L0.length L0.length] (L0)  y0_0 N c0 0 1 rfl (by decide) (by decide))) <| oR Zg) rfl (by decide) (by rfl) rr ⟨(Zo (E := E_iiiiiiAi) (α := R_iiiiiiAi) _ L0 _), trivial⟩
  ·
   exact Mach.en_head (bK := Zag 1) (M := Z7 L0 N) (cd := 1000000) (cm := 0) (y := (.h1m0 ((0 : Int)) (0) : Zi)) (fu := 4000) (orc := (Zz [(0, false)] [] [] [] [(0, (Zau (L0)  y0_0 0 1))])) (live := [0]) (tv := [some (vs 0 0 L0.length L0.length), some (vq), some (vq)]) (bl := [some (.cells (Zc E_iiiiiiAi L0) 27)]) (ob := [((y0_0 != (0 : Int)), false), (dP (Zaj #[vs 0 0 L0.length L0.length] (L0)  y0_0 0 1), true), (dS (Zc E_iiiiiiAi L0), true)]) rfl rfl (show Zt (Zag 1).2 = [] from rfl) (by kernel_rfl) (oE <| Za (Zp (Zav #[vs 0 0 L0.length L0.length] (L0)  y0_0 N c0 0 1 rfl (by decide) (by decide))) <| oR Zg) rfl (by decide) (by rfl) ⟨rr, ⟨rr, ⟨⟨Eq.trans (show (vi ((0 : Nat) : Int) : Value) = vq from (congrArg (Value.int .i64) (by first | rfl | omega))) (by rfl), by rfl⟩, trivial⟩⟩⟩ ⟨(Zo (E := E_iiiiiiAi) (α := R_iiiiiiAi) _ L0 _), trivial⟩

theorem ZgA (L0 : List R_iiiiiiAi) (N : Nat) (r : ZF) (h : Zcy L0 N = some r) : LSpec Tryz.prog 10 #[vs 0 0 L0.length L0.length] [.cells (Zc E_iiiiiiAi L0) 27] (Zfp L0 r) (ZeA L0 r) :=
 Mach.spec Zcu (Z7 L0 N) Tryz.func10 (by kernel_rfl) (by kernel_rfl) (fun x => by cases x <;> exact Zap _ rfl) (fun r => by cases r <;> exact Zap _ rfl) (fun x => by
  cases x with
  | h1m0 _ _ => exact fun _ => (show ¬ (1 ∈ Zt (Zag 1).2) from by decide +kernel)
  | h2m0 _ _ _ _ => exact fun _ => (show ¬ (2 ∈ Zt (Zag 2).2) from by decide +kernel)
  ) (fun x => (show (Z7 L0 N).Ok Tryz.prog Zs x (ZU L0 N x) from by
  cases x with
  | h1m0 v1 v2 => exact ZfY L0 v1 v2 N
  | h2m0 v1 v2 v3 v4 => exact ZfZ L0 v1 v2 v3 v4 N
  )) (Zh6 L0 N) (n := N) h

noncomputable def ZbS (L0 : List R_iiiiiiAi) (w1 : Int) (k0 n : Nat) : Zcm := .call [(k0, .cells (Zc E_iiiiiiAi L0) 27)] (vi w1) [] 0
def Zbf (A : Array Value) (L0 : List R_iiiiiiAi) (w1 : Int) (k0 n : Nat) : Prop := ZW Tryz.prog 10 A [(k0, .cells (Zc E_iiiiiiAi L0) 27)] (vi w1) [] n 0

theorem ZbT (A : Array Value) (L0 : List R_iiiiiiAi) (w1 : Int) (N : Nat) (h : Zcy L0 N = some (.r0 w1)) (k0 n : Nat) (hA : A = #[vs k0 0 L0.length L0.length]) (hnd : ([k0] : List Nat).Nodup) (hlt : ∀ k ∈ ([k0] : List Nat), k < n) : Zbf A L0 w1 k0 n :=
 ZbH hA (LSpec.callL (show LSpec Tryz.prog 10 #[vs 0 0 L0.length L0.length] [.cells (Zc E_iiiiiiAi L0) 27] (vi w1) [some (.cells (Zc E_iiiiiiAi L0) 27)] from ZgA L0 N _ h) [k0] n [] rfl hnd hlt (show 1 ≤ 1 from by decide) (show ∀ j ∈ ([] : List Nat), j < 1 from by decide) (by rfl) ⟨(Zbd _ _ _), trivial⟩ (by rfl) ⟨(Zbd _ _ _), trivial⟩ ⟨.inr rfl, trivial⟩ rfl rfl rfl (Zfh (Zfi rfl (Zep _ _ _)) rfl) rfl)

noncomputable def ZdA (L0 : List R_iiiiiiAi) (a1 a2 a3 a4 a5 a6 : Int) (L7 : List R_ii) (a8 a9 a10 a11 a12 a13 a14 : Int) (L15 : List R_ii) (a16 : Int) : Zq → Value
 | .r0 w0 => Value.bool w0
noncomputable def Zda (L0 : List R_iiiiiiAi) (a1 a2 a3 a4 a5 a6 : Int) (L7 : List R_ii) (a8 a9 a10 a11 a12 a13 a14 : Int) (L15 : List R_ii) (a16 : Int) : Zq → List (Option AObj)
 | .r0 w0 => []

theorem ZfH (L0 : List R_iiiiiiAi) (a1 a2 a3 a4 a5 a6 : Int) (L7 : List R_ii) (a8 a9 a10 a11 a12 a13 a14 : Int) (L15 : List R_ii) (a16 : Int) (N : Nat) : Fx Tryz.prog Zs Tryz.f3 [] #[ms E_iiiiiiAi L0, Value.agg #[vi a1, vi a2, vi a3, vi a4, vi a5, vi a6, ms E_ii L7, vi a8], Value.agg #[vi a9, vi a10, vi a11, vi a12, vi a13, vi a14, ms E_ii L15, vi a16]] (ZdA L0 a1 a2 a3 a4 a5 a6 L7 a8 a9 a10 a11 a12 a13 a14 L15 a16) (Zda L0 a1 a2 a3 a4 a5 a6 L7 a8 a9 a10 a11 a12 a13 a14 L15 a16) (Zbo L0 a1 a2 a3 a4 a5 a6 L7 a8 a9 a10 a11 a12 a13 a14 L15 a16 N) := by
 unfold Zbo
 refine ZaN (fun z0 c0 => ?_)
 cases z0 with
 | r0 =>
  refine ZaN (fun z1 c1 => ?_)
  cases z1 with
  | r0 =>
   refine ZaN (fun z2 c2 => ?_)
   cases z2 with
   | r0 =>
    by_cases g3 : a6 < a12
    ·
     refine ZaN (fun z4 c4 => ?_)
     cases z4 with
     | r0 =>
      refine ZaN (fun z5 c5 => ?_)
      cases z5 with
      | r0 =>
       exact Zen (r := (.r0 (true) : Zq)) (fu := 4000) (orc := (Zz [(1, true), (2, true)] [] [] [] [(0, (Zhi (L0) ((70 : Int))    2)), (1, (Zdo     2)), (2, (ZdI     2)), (3, (Zfm     6)), (4, (ZfS     6))])) (live := []) (u := vT) (bl := []) (ob := [(dP (ZdK #[vn]     6), true), (dP (Zdq #[vn]     6), true), ((decide (a6 < a12)), true), ((decide (a6 < a12)), true), (dP (Zc0 #[vn]     2), true), (dP (Zck #[vn]     2), true), (dP (ZeN #[ms E_iiiiiiAi L0, vi (70 : Int)] (L0) ((70 : Int))    2), true)]) (by kernel_rfl) (Za (Zp (ZfT #[vn]    N c5  6 rfl (by decide) (by decide))) <| Za (Zp (Zfn #[vn]    N c4  6 rfl (by decide) (by decide))) <| oY <| oY <| Za (Zp (ZdJ #[vn]    N c2  2 rfl (by decide) (by decide))) <| Za (Zp (Zdp #[vn]    N c1  2 rfl (by decide) (by decide))) <| Za (Zp (Zhj #[ms E_iiiiiiAi L0, vi (70 : Int)] (L0) ((70 : Int))   N c0  2 rfl (by decide) (by decide))) Zg) rfl (by decide) (by rfl) rr trivial
    ·
     refine ZaN (fun z4 c4 => ?_)
     cases z4 with
     | r0 =>
      refine ZaN (fun z5 c5 => ?_)
      cases z5 with
      | r0 =>
       exact Zen (r := (.r0 (true) : Zq)) (fu := 4000) (orc := (Zz [(1, false), (2, false)] [] [] [] [(0, (Zhi (L0) ((70 : Int))    2)), (1, (Zdo     2)), (2, (ZdI     2)), (3, (Zfm     6)), (4, (ZfS     6))])) (live := []) (u := vT) (bl := []) (ob := [(dP (ZdK #[vn]     6), true), (dP (Zdq #[vn]     6), true), ((decide (a6 < a12)), false), ((decide (a6 < a12)), false), (dP (Zc0 #[vn]     2), true), (dP (Zck #[vn]     2), true), (dP (ZeN #[ms E_iiiiiiAi L0, vi (70 : Int)] (L0) ((70 : Int))    2), true)]) (by kernel_rfl) (Za (Zp (ZfT #[vn]    N c5  6 rfl (by decide) (by decide))) <| Za (Zp (Zfn #[vn]    N c4  6 rfl (by decide) (by decide))) <| oN <| oN <| Za (Zp (ZdJ #[vn]    N c2  2 rfl (by decide) (by decide))) <| Za (Zp (Zdp #[vn]    N c1  2 rfl (by decide) (by decide))) <| Za (Zp (Zhj #[ms E_iiiiiiAi L0, vi (70 : Int)] (L0) ((70 : Int))   N c0  2 rfl (by decide) (by decide))) Zg) rfl (by decide) (by rfl) rr trivial
 | r1 y0_0 =>
  refine ZaN (fun z1 c1 => ?_)
  cases z1 with
  | r0 y1_0 =>
   refine ZaN (fun z2 c2 => ?_)
   cases z2 with
   | r0 y2_0 =>
    refine Zkg (fun g3 => ?_) (fun g3 => ?_)
    ·
     by_cases g4 : a6 < a12
     ·
      refine ZaN (fun z5 c5 => ?_)
      cases z5 with
      | r0 y5_0 =>
       refine ZaN (fun z6 c6 => ?_)
       cases z6 with
       | r0 y6_0 =>
        refine Zkg (fun g7 => ?_) (fun g7 => ?_)
        ·
         exact Zen (r := (.r0 (true) : Zq)) (fu := 4000) (orc := (Zz [(0, true), (1, true), (2, true), (4, true)] [] [] [] [(0, (Zcv (L0) ((70 : Int))  y0_0  2)), (1, (Zam (y0_0)  y1_0 2 3)), (2, (Zau (y0_0)  y2_0 2 3)), (3, (ZbB (y0_0)  y5_0 2 7)), (4, (ZbS (y0_0)  y6_0 2 7))])) (live := []) (u := vT) (bl := []) (ob := [((y5_0 == y6_0), true), (dP (Zbf #[vs 2 0 y0_0.length y0_0.length] (y0_0)  y6_0 2 7), true), (dS (Zc E_iiiiiiAi y0_0), true), (dP (ZaT #[vs 2 0 y0_0.length y0_0.length] (y0_0)  y5_0 2 7), true), (dS (Zc E_iiiiiiAi y0_0), true), ((decide (a6 < a12)), true), ((decide (a6 < a12)), true), ((y1_0 == y2_0), true), (dP (Zaj #[vs 2 0 y0_0.length y0_0.length] (y0_0)  y2_0 2 3), true), (dS (Zc E_iiiiiiAi y0_0), true), (dP (Zac #[vs 2 0 y0_0.length y0_0.length] (y0_0)  y1_0 2 3), true), (dS (Zc E_iiiiiiAi y0_0), true), (dP (ZbJ #[ms E_iiiiiiAi L0, vi (70 : Int)] (L0) ((70 : Int))  y0_0  2), true)]) (by kernel_rfl) (oT <| Za (Zp (ZbT #[vs 2 0 y0_0.length y0_0.length] (y0_0)  y6_0 N c6 2 7 rfl (by decide) (by decide))) <| oR <| Za (Zp (ZbC #[vs 2 0 y0_0.length y0_0.length] (y0_0)  y5_0 N c5 2 7 rfl (by decide) (by decide))) <| oR <| oY <| oY <| oT <| Za (Zp (Zav #[vs 2 0 y0_0.length y0_0.length] (y0_0)  y2_0 N c2 2 3 rfl (by decide) (by decide))) <| oR <| Za (Zp (Zan #[vs 2 0 y0_0.length y0_0.length] (y0_0)  y1_0 N c1 2 3 rfl (by decide) (by decide))) <| oR <| Za (Zp (Zcw #[ms E_iiiiiiAi L0, vi (70 : Int)] (L0) ((70 : Int))  y0_0 N c0  2 rfl (by decide) (by decide))) Zg) rfl (by decide) (by rfl) rr trivial
        ·
         exact Zen (r := (.r0 (false) : Zq)) (fu := 4000) (orc := (Zz [(0, true), (1, true), (2, true), (4, false)] [] [] [] [(0, (Zcv (L0) ((70 : Int))  y0_0  2)), (1, (Zam (y0_0)  y1_0 2 3)), (2, (Zau (y0_0)  y2_0 2 3)), (3, (ZbB (y0_0)  y5_0 2 7)), (4, (ZbS (y0_0)  y6_0 2 7))])) (live := []) (u := vf) (bl := []) (ob := [((y5_0 == y6_0), false), (dP (Zbf #[vs 2 0 y0_0.length y0_0.length] (y0_0)  y6_0 2 7), true), (dS (Zc E_iiiiiiAi y0_0), true), (dP (ZaT #[vs 2 0 y0_0.length y0_0.length] (y0_0)  y5_0 2 7), true), (dS (Zc E_iiiiiiAi y0_0), true), ((decide (a6 < a12)), true), ((decide (a6 < a12)), true), ((y1_0 == y2_0), true), (dP (Zaj #[vs 2 0 y0_0.length y0_0.length] (y0_0)  y2_0 2 3), true), (dS (Zc E_iiiiiiAi y0_0), true), (dP (Zac #[vs 2 0 y0_0.length y0_0.length] (y0_0)  y1_0 2 3), true), (dS (Zc E_iiiiiiAi y0_0), true), (dP (ZbJ #[ms E_iiiiiiAi L0, vi (70 : Int)] (L0) ((70 : Int))  y0_0  2), true)]) (by kernel_rfl) (oF <| Za (Zp (ZbT #[vs 2 0 y0_0.length y0_0.length] (y0_0)  y6_0 N c6 2 7 rfl (by decide) (by decide))) <| oR <| Za (Zp (ZbC #[vs 2 0 y0_0.length y0_0.length] (y0_0)  y5_0 N c5 2 7 rfl (by decide) (by decide))) <| oR <| oY <| oY <| oT <| Za (Zp (Zav #[vs 2 0 y0_0.length y0_0.length] (y0_0)  y2_0 N c2 2 3 rfl (by decide) (by decide))) <| oR <| Za (Zp (Zan #[vs 2 0 y0_0.length y0_0.length] (y0_0)  y1_0 N c1 2 3 rfl (by decide) (by decide))) <| oR <| Za (Zp (Zcw #[ms E_iiiiiiAi L0, vi (70 : Int)] (L0) ((70 : Int))  y0_0 N c0  2 rfl (by decide) (by decide))) Zg) rfl (by decide) (by rfl) rr trivial
     ·
      refine ZaN (fun z5 c5 => ?_)
      cases z5 with
      | r0 y5_0 =>
       refine ZaN (fun z6 c6 => ?_)
       cases z6 with
       | r0 y6_0 =>
        refine Zkg (fun g7 => ?_) (fun g7 => ?_)
        ·
         exact Zen (r := (.r0 (true) : Zq)) (fu := 4000) (orc := (Zz [(0, true), (1, false), (2, false), (4, true)] [] [] [] [(0, (Zcv (L0) ((70 : Int))  y0_0  2)), (1, (Zam (y0_0)  y1_0 2 3)), (2, (Zau (y0_0)  y2_0 2 3)), (3, (ZbB (y0_0)  y5_0 2 7)), (4, (ZbS (y0_0)  y6_0 2 7))])) (live := []) (u := vT) (bl := []) (ob := [((y5_0 == y6_0), true), (dP (Zbf #[vs 2 0 y0_0.length y0_0.length] (y0_0)  y6_0 2 7), true), (dS (Zc E_iiiiiiAi y0_0), true), (dP (ZaT #[vs 2 0 y0_0.length y0_0.length] (y0_0)  y5_0 2 7), true), (dS (Zc E_iiiiiiAi y0_0), true), ((decide (a6 < a12)), false), ((decide (a6 < a12)), false), ((y1_0 == y2_0), true), (dP (Zaj #[vs 2 0 y0_0.length y0_0.length] (y0_0)  y2_0 2 3), true), (dS (Zc E_iiiiiiAi y0_0), true), (dP (Zac #[vs 2 0 y0_0.length y0_0.length] (y0_0)  y1_0 2 3), true), (dS (Zc E_iiiiiiAi y0_0), true), (dP (ZbJ #[ms E_iiiiiiAi L0, vi (70 : Int)] (L0) ((70 : Int))  y0_0  2), true)]) (by kernel_rfl) (oT <| Za (Zp (ZbT #[vs 2 0 y0_0.length y0_0.length] (y0_0)  y6_0 N c6 2 7 rfl (by decide) (by decide))) <| oR <| Za (Zp (ZbC #[vs 2 0 y0_0.length y0_0.length] (y0_0)  y5_0 N c5 2 7 rfl (by decide) (by decide))) <| oR <| oN <| oN <| oT <| Za (Zp (Zav #[vs 2 0 y0_0.length y0_0.length] (y0_0)  y2_0 N c2 2 3 rfl (by decide) (by decide))) <| oR <| Za (Zp (Zan #[vs 2 0 y0_0.length y0_0.length] (y0_0)  y1_0 N c1 2 3 rfl (by decide) (by decide))) <| oR <| Za (Zp (Zcw #[ms E_iiiiiiAi L0, vi (70 : Int)] (L0) ((70 : Int))  y0_0 N c0  2 rfl (by decide) (by decide))) Zg) rfl (by decide) (by rfl) rr trivial
        ·
         exact Zen (r := (.r0 (false) : Zq)) (fu := 4000) (orc := (Zz [(0, true), (1, false), (2, false), (4, false)] [] [] [] [(0, (Zcv (L0) ((70 : Int))  y0_0  2)), (1, (Zam (y0_0)  y1_0 2 3)), (2, (Zau (y0_0)  y2_0 2 3)), (3, (ZbB (y0_0)  y5_0 2 7)), (4, (ZbS (y0_0)  y6_0 2 7))])) (live := []) (u := vf) (bl := []) (ob := [((y5_0 == y6_0), false), (dP (Zbf #[vs 2 0 y0_0.length y0_0.length] (y0_0)  y6_0 2 7), true), (dS (Zc E_iiiiiiAi y0_0), true), (dP (ZaT #[vs 2 0 y0_0.length y0_0.length] (y0_0)  y5_0 2 7), true), (dS (Zc E_iiiiiiAi y0_0), true), ((decide (a6 < a12)), false), ((decide (a6 < a12)), false), ((y1_0 == y2_0), true), (dP (Zaj #[vs 2 0 y0_0.length y0_0.length] (y0_0)  y2_0 2 3), true), (dS (Zc E_iiiiiiAi y0_0), true), (dP (Zac #[vs 2 0 y0_0.length y0_0.length] (y0_0)  y1_0 2 3), true), (dS (Zc E_iiiiiiAi y0_0), true), (dP (ZbJ #[ms E_iiiiiiAi L0, vi (70 : Int)] (L0) ((70 : Int))  y0_0  2), true)]) (by kernel_rfl) (oF <| Za (Zp (ZbT #[vs 2 0 y0_0.length y0_0.length] (y0_0)  y6_0 N c6 2 7 rfl (by decide) (by decide))) <| oR <| Za (Zp (ZbC #[vs 2 0 y0_0.length y0_0.length] (y0_0)  y5_0 N c5 2 7 rfl (by decide) (by decide))) <| oR <| oN <| oN <| oT <| Za (Zp (Zav #[vs 2 0 y0_0.length y0_0.length] (y0_0)  y2_0 N c2 2 3 rfl (by decide) (by decide))) <| oR <| Za (Zp (Zan #[vs 2 0 y0_0.length y0_0.length] (y0_0)  y1_0 N c1 2 3 rfl (by decide) (by decide))) <| oR <| Za (Zp (Zcw #[ms E_iiiiiiAi L0, vi (70 : Int)] (L0) ((70 : Int))  y0_0 N c0  2 rfl (by decide) (by decide))) Zg) rfl (by decide) (by rfl) rr trivial
    ·
     exact Zen (r := (.r0 (false) : Zq)) (fu := 4000) (orc := (Zz [(0, false)] [] [] [] [(0, (Zcv (L0) ((70 : Int))  y0_0  2)), (1, (Zam (y0_0)  y1_0 2 3)), (2, (Zau (y0_0)  y2_0 2 3))])) (live := []) (u := vf) (bl := []) (ob := [((y1_0 == y2_0), false), (dP (Zaj #[vs 2 0 y0_0.length y0_0.length] (y0_0)  y2_0 2 3), true), (dS (Zc E_iiiiiiAi y0_0), true), (dP (Zac #[vs 2 0 y0_0.length y0_0.length] (y0_0)  y1_0 2 3), true), (dS (Zc E_iiiiiiAi y0_0), true), (dP (ZbJ #[ms E_iiiiiiAi L0, vi (70 : Int)] (L0) ((70 : Int))  y0_0  2), true)]) (by kernel_rfl) (oF <| Za (Zp (Zav #[vs 2 0 y0_0.length y0_0.length] (y0_0)  y2_0 N c2 2 3 rfl (by decide) (by decide))) <| oR <| Za (Zp (Zan #[vs 2 0 y0_0.length y0_0.length] (y0_0)  y1_0 N c1 2 3 rfl (by decide) (by decide))) <| oR <| Za (Zp (Zcw #[ms E_iiiiiiAi L0, vi (70 : Int)] (L0) ((70 : Int))  y0_0 N c0  2 rfl (by decide) (by decide))) Zg) rfl (by decide) (by rfl) rr trivial

theorem ZeO (L0 : List R_iiiiiiAi) (a1 a2 a3 a4 a5 a6 : Int) (L7 : List R_ii) (a8 a9 a10 a11 a12 a13 a14 : Int) (L15 : List R_ii) (a16 : Int) (N : Nat) (r : Zq) (h : Zbo L0 a1 a2 a3 a4 a5 a6 L7 a8 a9 a10 a11 a12 a13 a14 L15 a16 N = some r) : LSpec Tryz.prog 3 #[ms E_iiiiiiAi L0, Value.agg #[vi a1, vi a2, vi a3, vi a4, vi a5, vi a6, ms E_ii L7, vi a8], Value.agg #[vi a9, vi a10, vi a11, vi a12, vi a13, vi a14, ms E_ii L15, vi a16]] [] (ZdA L0 a1 a2 a3 a4 a5 a6 L7 a8 a9 a10 a11 a12 a13 a14 L15 a16 r) (Zda L0 a1 a2 a3 a4 a5 a6 L7 a8 a9 a10 a11 a12 a13 a14 L15 a16 r) :=
 Zn5 Zcu Tryz.func3 (by kernel_rfl) (by kernel_rfl) (fun r => by cases r <;> exact Zap _ rfl) (ZfH L0 a1 a2 a3 a4 a5 a6 L7 a8 a9 a10 a11 a12 a13 a14 L15 a16 N) h

end Ev
end Go.Proofs.YtacnppkmdjhjlaaGreat
/- Plain lemmas: machines step by step, lists by their places. -/
namespace Go.Proofs.YtacnppkmdjhjlaaGreat
open Go.RowKit
namespace Ev
section
variable {X R : Type} {step : X → Option (X ⊕ R)} {n : Nat} {x y : X} {r : R}
theorem Zm1 (h : step x = some (.inl y)) : Zah step (n + 1) x = Zah step n y := by simp [Zah, h]
theorem ZI (h : step x = some (.inr r)) : Zah step (n + 1) x = some r := by simp [Zah, h]
theorem Zdr : ∀ {n m : Nat} {x : X} {r : R}, n ≤ m → Zah step n x = some r → Zah step m x = some r
 | 0, _, _, _, _, h => by cases h
 | n + 1, 0, _, _, h, _ => by omega
 | n + 1, m + 1, x, r, h, e => by
  simp only [Zah] at e ⊢
  cases hs : step x with
  | none => rw [hs] at e; cases e
  | some y =>
   rw [hs] at e
   cases y with
   | inl y => exact Zdr (by omega) e
   | inr r' => exact e
theorem ZnU {o : Option (X ⊕ R)} (h : o = some (.inl x)) : goM step n o = Zah step n x := by subst h; rfl
theorem ZgP {o : Option (X ⊕ R)} (h : o = some (.inr r)) : goM step n o = some r := by subst h; rfl
end
section
variable {α : Type}
end
theorem Zku {α : Type} {c : Prop} [Decidable c] {a b r : α} (h1 : c → a = r) (h2 : ¬ c → b = r) : (if c then a else b) = r := by
 by_cases h : c
 ·rw [if_pos h]; exact h1 h
 ·rw [if_neg h]; exact h2 h
theorem Ze {α : Type} {c : Prop} [Decidable c] {a b r : α} (h : c) (e : a = r) : (if c then a else b) = r := by rw [if_pos h]; exact e
theorem Z9 {α : Type} {c : Prop} [Decidable c] {a b r : α} (h : ¬ c) (e : b = r) : (if c then a else b) = r := by rw [if_neg h]; exact e
theorem Zay {α β : Type} {o : Option α} {a : α} {k : α → Option β} {r : Option β} (h : o = some a) (e : k a = r) : o.bind k = r := by rw [h]; exact e
theorem w64 {x : Int} (h1 : -9223372036854775808 ≤ x) (h2 : x ≤ 9223372036854775807) : IntKind.i64.wrap x = x := wrap_i64 ⟨h1, h2⟩
end Ev
end Go.Proofs.YtacnppkmdjhjlaaGreat
/- SearchForms: the plain law is true. -/
namespace Go.Proofs.YtacnppkmdjhjlaaGreat
open Go.RowKit
namespace Ev
set_option linter.unusedVariables false
set_option maxRecDepth 100000
namespace Sf
theorem nx {X R : Type} {step : X → Option (X ⊕ R)} {n : Nat} {x : X} {r : Option R} (y : X) (h : step x = some (.inl y)) (e : Zah step n y = r) : Zah step (n + 1) x = r := (Zm1 h).trans e
theorem gi {X R : Type} {step : X → Option (X ⊕ R)} {n m : Nat} {o : Option (X ⊕ R)} {r : R} (x : X) (h : o = some (.inl x)) (hm : m ≤ n) (e : Zah step m x = some r) : goM step n o = some r := (ZnU h).trans (Zdr hm e)
/-! ### What a map tells -/
def mf (E : List R_ii) (k : Int) : Option Int := if ZfD E k = true then some (Zbk E k) else none
theorem Zfq (x : R_ii) (E : List R_ii) (k : Int) : mf (x :: E) k = if x.a0 = k then some x.a1 else mf E k := by
 by_cases h : x.a0 = k
 ·simp [mf, ZfD, Zbk, h]
 ·simp [mf, ZfD, Zbk, h]
theorem Zm2 (k v t : Int) : ∀ E : List R_ii, mf (ZaQ E k v) t = if k = t then some v else mf E t
 | [] => Zfq _ _ _
 | x :: E => by
  unfold ZaQ
  by_cases h : x.a0 = k
  ·rw [if_pos h, Zfq, Zfq]
   by_cases e : k = t
   ·rw [if_pos e, if_pos e]
   ·rw [if_neg e, if_neg e, if_neg (by rw [h]; exact e)]
  ·rw [if_neg h, Zfq, Zfq, Zm2 k v t E]
   by_cases e : k = t
   ·rw [if_pos e, if_pos e, if_neg (by rw [← e]; exact h)]
   ·rw [if_neg e, if_neg e]
def Zev (L : List R_iiiiiiAi) (t : Int) : Nat → Option Int
 | 0 => none
 | i + 1 => if (L.getD i R_iiiiiiAi.z).a1 = t then some (L.getD i R_iiiiiiAi.z).a5 else Zev L t i
section
variable {L : List R_iiiiiiAi} {N : Nat}
/-! ### Check -/
theorem l_no {i : Nat} {v : Int} (h : ¬ 0 ≤ v) (hi : ((i + 1 : Nat) : Int) ≤ 9223372036854775807) : Zx L N (.h2m0 i v) = some (.inl (.h1m0 (i + 1))) :=
 show Zab L N i v = _ from Z9 h <| Ze hi rfl
theorem ZnV {i : Nat} {v : Int} (h : 0 ≤ v) (hv : v.toNat < L.length) (hi : i < L.length) (ht : ¬ (L.getD v.toNat R_iiiiiiAi.z).a1 = (L.getD i R_iiiiiiAi.z).a1) : Zx L N (.h2m0 i v) = some (.inl (.h2m0 i (IntKind.i64.wrap (v - 1)))) :=
 show Zab L N i v = _ from Ze h <| Ze hv <| Ze hi <| Ze ht rfl
theorem l_bad {i : Nat} {v : Int} (h : 0 ≤ v) (hv : v.toNat < L.length) (hi : i < L.length) (ht : (L.getD v.toNat R_iiiiiiAi.z).a1 = (L.getD i R_iiiiiiAi.z).a1) (hb : (L.getD i R_iiiiiiAi.z).a3 ≤ (L.getD v.toNat R_iiiiiiAi.z).a5) : Zx L N (.h2m0 i v) = some (.inr (.r0 300)) :=
 show Zab L N i v = _ from Ze h <| Ze hv <| Ze hi <| Z9 (fun e => e ht) <| Ze hb rfl
theorem l_ok {i : Nat} {v : Int} (h : 0 ≤ v) (hv : v.toNat < L.length) (hi : i < L.length) (ht : (L.getD v.toNat R_iiiiiiAi.z).a1 = (L.getD i R_iiiiiiAi.z).a1) (hb : ¬ (L.getD i R_iiiiiiAi.z).a3 ≤ (L.getD v.toNat R_iiiiiiAi.z).a5) (hi2 : ((i + 1 : Nat) : Int) ≤ 9223372036854775807) : Zx L N (.h2m0 i v) = some (.inl (.h1m0 (i + 1))) :=
 show Zab L N i v = _ from Ze h <| Ze hv <| Ze hi <| Z9 (fun e => e ht) <| Z9 hb <| Ze hi2 rfl
theorem ZE {i : Nat} (hi : i < L.length) (hL : L.length ≤ 64) : ∀ (k : Nat) (v : Int), v = (k : Int) - 1 → k ≤ i →
  ((∃ e, Zev L (L.getD i R_iiiiiiAi.z).a1 k = some e ∧ (L.getD i R_iiiiiiAi.z).a3 ≤ e ∧ Zah (Zx L N) (k + 1) (.h2m0 i v) = some (.r0 300)) ∨
   ((∀ e, Zev L (L.getD i R_iiiiiiAi.z).a1 k = some e → ¬ (L.getD i R_iiiiiiAi.z).a3 ≤ e) ∧ ∀ n r, Zah (Zx L N) n (.h1m0 (i + 1)) = some r → Zah (Zx L N) (n + (k + 1)) (.h2m0 i v) = some r))
 | 0, v, hv, hk => .inr ⟨fun e he => (by cases he), fun n r h => nx _ (l_no (by omega) (by omega)) h⟩
 | k + 1, v, hv, hk => by
  have h0 : 0 ≤ v := by omega
  have hn : v.toNat = k := by omega
  have hw : IntKind.i64.wrap (v - 1) = v - 1 := w64 (by omega) (by omega)
  have hl : v.toNat < L.length := by omega
  by_cases ht : (L.getD k R_iiiiiiAi.z).a1 = (L.getD i R_iiiiiiAi.z).a1
  ·have el : Zev L (L.getD i R_iiiiiiAi.z).a1 (k + 1) = some (L.getD k R_iiiiiiAi.z).a5 := by rw [Zev, if_pos ht]
   by_cases hb : (L.getD i R_iiiiiiAi.z).a3 ≤ (L.getD k R_iiiiiiAi.z).a5
   ·exact .inl ⟨_, el, hb, ZI (l_bad h0 hl hi (by rw [hn]; exact ht) (by rw [hn]; exact hb))⟩
   ·refine .inr ⟨fun e he => by rw [el] at he; cases he; exact hb, fun n r h => ?_⟩
    exact Zdr (show n + 1 ≤ n + (k + 1 + 1) by omega) (nx _ (l_ok h0 hl hi (by rw [hn]; exact ht) (by rw [hn]; exact hb) (by omega)) h)
  ·have el : Zev L (L.getD i R_iiiiiiAi.z).a1 (k + 1) = Zev L (L.getD i R_iiiiiiAi.z).a1 k := by rw [Zev, if_neg ht]
   have st := ZnV (N := N) h0 hl hi (by rw [hn]; exact ht)
   rw [el]
   rcases ZE hi hL k (IntKind.i64.wrap (v - 1)) (by rw [hw]; omega) (by omega) with ⟨e, q1, q2, q3⟩ | ⟨q1, q2⟩
   ·exact .inl ⟨e, q1, q2, nx _ st q3⟩
   ·exact .inr ⟨q1, fun n r h => nx _ st (q2 n r h)⟩
theorem chk (hL : L.length ≤ 64) : ∀ (d i : Nat) (E : List R_ii), L.length - i = d → i ≤ L.length → (∀ t, mf E t = Zev L t i) →
  ∃ w, Zah (Za9 L N) (d + 1) (.h1m0 E i) = some (.r0 w) ∧ Zah (Zx L N) (d * 70 + 1) (.h1m0 i) = some (.r0 w)
 | 0, i, E, hd, hi, hE => ⟨0, ZI (Z9 (by omega) rfl), ZI (Z9 (by omega) rfl)⟩
 | d + 1, i, E, hd, hi, hE => by
  have hi' : i < L.length := by omega
  by_cases h1 : (L.getD i R_iiiiiiAi.z).a3 < 1
  ·refine ⟨300, ZI (Ze (by omega) <| Zku (fun _ => Ze h1 rfl) (fun _ => Ze h1 rfl)), ZI (Ze (by omega) <| Ze h1 rfl)⟩
  by_cases h2 : (L.getD i R_iiiiiiAi.z).a5 < (L.getD i R_iiiiiiAi.z).a3
  ·refine ⟨300, ZI (Ze (by omega) <| Zku (fun _ => Z9 h1 <| Ze h2 rfl) (fun _ => Z9 h1 <| Ze h2 rfl)), ZI (Ze (by omega) <| Z9 h1 <| Ze h2 rfl)⟩
  obtain ⟨w, g1, g2⟩ := chk hL d (i + 1) (ZaQ E (L.getD i R_iiiiiiAi.z).a1 (L.getD i R_iiiiiiAi.z).a5) (by omega) (by omega) (fun t => by rw [Zm2, hE t]; rfl)
  have st : Zx L N (.h1m0 i) = some (.inl (.h2m0 i ((i : Int) - 1))) := Ze (by omega) <| Z9 h1 <| Z9 h2 <| Ze (by omega) rfl
  have he := hE (L.getD i R_iiiiiiAi.z).a1
  rcases ZE (N := N) hi' hL i ((i : Int) - 1) rfl (Nat.le_refl _) with ⟨e, q1, q2, q3⟩ | ⟨q1, q2⟩
  ·rw [q1] at he
   unfold mf at he
   by_cases hh : ZfD E (L.getD i R_iiiiiiAi.z).a1 = true
   ·rw [if_pos hh] at he
    injection he with he
    refine ⟨300, ZI (Ze (by omega) <| Ze hh <| Z9 h1 <| Z9 h2 <| Ze (by rw [he]; exact q2) rfl), Zdr (show i + 1 + 1 ≤ (d + 1) * 70 + 1 by omega) (nx _ st q3)⟩
   ·rw [if_neg hh] at he; cases he
  ·refine ⟨w, nx (.h1m0 (ZaQ E (L.getD i R_iiiiiiAi.z).a1 (L.getD i R_iiiiiiAi.z).a5) (i + 1)) ?_ g1, Zdr (show d * 70 + 1 + (i + 1) + 1 ≤ (d + 1) * 70 + 1 by omega) (nx _ st (q2 _ _ g2))⟩
   refine Ze (by omega) <| Zku (fun hh => ?_) (fun hh => Z9 h1 <| Z9 h2 <| Ze (by omega) rfl)
   have : ¬ (L.getD i R_iiiiiiAi.z).a3 ≤ Zbk E (L.getD i R_iiiiiiAi.z).a1 := q1 _ (by rw [← he, mf, if_pos hh])
   exact Z9 h1 <| Z9 h2 <| Z9 this <| Ze (by omega) rfl
theorem Zno (hN : 10000 ≤ N) : ∃ w, Zbw L N = some (.r0 w) ∧ ZbD L N = some (.r0 w) ∧ (w = 0 → L.length ≤ 64) := by
 by_cases h : (64 : Int) < (L.length : Int)
 ·exact ⟨3, ZgP (Ze h rfl), ZgP (Ze h rfl), fun e => absurd e (by decide)⟩
 ·obtain ⟨w, q1, q2⟩ := chk (N := N) (L := L) (by omega) _ 0 [] rfl (Nat.zero_le _) (fun t => rfl)
  exact ⟨w, gi (.h1m0 [] 0) (Z9 h rfl) (by omega) q1, gi (.h1m0 0) (Z9 h rfl) (by omega) q2, fun _ => by omega⟩
/-! ### Width -/
theorem row {v : Int} {i : Nat} {x : R_iiiiiiAi} (hx : L.getD i R_iiiiiiAi.z = x) (hi : i < L.length) (hL : L.length ≤ 64) : ∀ (d j n : Nat), L.length - j = d → j ≤ L.length → n ≤ j →
  ∃ v' : Int, (∀ m r, Zah (ZR L N) m (.h1m0 v' (i + 1)) = some r → Zah (ZR L N) (m + (d + 1)) (.h2m0 v n i j x.a0 x.a1 x.a2 x.a3 x.a4 x.a5 x.a6 x.a7) = some r) ∧
   (∀ m r, Zah (ZU L N) m (.h1m0 v' (i + 1)) = some r → Zah (ZU L N) (m + (d + 1)) (.h2m0 v i n j) = some r)
 | 0, j, n, hd, hj, hn => ⟨if (n : Int) > v then (n : Int) else v, fun m r h => nx _ (Z9 (by omega) <| Ze (by omega) rfl) h, fun m r h => nx _ (Z9 (by omega) <| Ze (by omega) rfl) h⟩
 | d + 1, j, n, hd, hj, hn => by
  by_cases h1 : (L.getD j R_iiiiiiAi.z).a3 ≤ x.a3
  ·by_cases h2 : x.a3 ≤ (L.getD j R_iiiiiiAi.z).a5
   ·obtain ⟨v', q1, q2⟩ := row (v := v) hx hi hL d (j + 1) (n + 1) (by omega) (by omega) (by omega)
    exact ⟨v', fun m r h => nx _ (Ze (by omega) <| Ze h1 <| Ze h2 <| Ze (by omega) <| Ze (by omega) rfl) (q1 m r h),
     fun m r h => nx _ (Ze (by omega) <| Ze hi <| Ze (by rw [hx]; exact h1) <| Ze (by rw [hx]; exact h2) <| Ze (by omega) <| Ze (by omega) rfl) (q2 m r h)⟩
   ·obtain ⟨v', q1, q2⟩ := row (v := v) hx hi hL d (j + 1) n (by omega) (by omega) (by omega)
    exact ⟨v', fun m r h => nx _ (Ze (by omega) <| Ze h1 <| Z9 h2 <| Ze (by omega) rfl) (q1 m r h),
     fun m r h => nx _ (Ze (by omega) <| Ze hi <| Ze (by rw [hx]; exact h1) <| Z9 (by rw [hx]; exact h2) <| Ze (by omega) rfl) (q2 m r h)⟩
  ·obtain ⟨v', q1, q2⟩ := row (v := v) hx hi hL d (j + 1) n (by omega) (by omega) (by omega)
   exact ⟨v', fun m r h => nx _ (Ze (by omega) <| Z9 h1 <| Ze (by omega) rfl) (q1 m r h),
    fun m r h => nx _ (Ze (by omega) <| Ze hi <| Z9 (by rw [hx]; exact h1) <| Ze (by omega) rfl) (q2 m r h)⟩
theorem ZgB (hL : L.length ≤ 64) : ∀ (d i : Nat) (v : Int), L.length - i = d → i ≤ L.length →
  ∃ w, Zah (ZR L N) (d * 70 + 1) (.h1m0 v i) = some (.r0 w) ∧ Zah (ZU L N) (d * 70 + 1) (.h1m0 v i) = some (.r0 w)
 | 0, i, v, hd, hi => ⟨v, ZI (Z9 (by omega) rfl), ZI (Z9 (by omega) rfl)⟩
 | d + 1, i, v, hd, hi => by
  obtain ⟨v', q1, q2⟩ := row (N := N) (v := v) (rfl : L.getD i R_iiiiiiAi.z = _) (by omega) hL _ 0 0 rfl (Nat.zero_le _) (Nat.zero_le _)
  obtain ⟨w, g1, g2⟩ := ZgB hL d (i + 1) v' (by omega) (by omega)
  exact ⟨w, Zdr (show d * 70 + 1 + (L.length - 0 + 1) + 1 ≤ (d + 1) * 70 + 1 by omega) (nx _ (Ze (by omega) rfl) (q1 _ _ g1)),
   Zdr (show d * 70 + 1 + (L.length - 0 + 1) + 1 ≤ (d + 1) * 70 + 1 by omega) (nx _ (Ze (by omega) rfl) (q2 _ _ g2))⟩
theorem width (hN : 10000 ≤ N) : ∃ w, Zcj L N = some (.r0 w) ∧ Zcy L N = some (.r0 w) := by
 obtain ⟨w, q1, q2, q3⟩ := Zno (L := L) hN
 by_cases h : w = 0
 ·obtain ⟨u, g1, g2⟩ := ZgB (N := N) (q3 h) _ 0 0 rfl (Nat.zero_le _)
  have := q3 h
  exact ⟨u, gi (.h1m0 0 0) (Zay q1 <| Z9 (fun e => e h) rfl) (by omega) g1, gi (.h1m0 0 0) (Zay q2 <| Z9 (fun e => e h) rfl) (by omega) g2⟩
 ·exact ⟨0, ZgP (Zay q1 <| Ze h rfl), ZgP (Zay q2 <| Ze h rfl)⟩
/-! ### The events that are looked at -/
theorem ZlP : ∀ (d v : Nat) (w : List R_iiiiiiAi), 70 - v = d → v ≤ 70 → w.length = v → ∃ w', Zah (ZaV L 70 N) (d + 1) (.h1m1 w v) = some (.r1 w')
 | 0, v, w, hd, hv, hw => by
  by_cases h : (v : Int) < (L.length : Int)
  ·exact ⟨w, ZI (Ze h <| Z9 (by omega) rfl)⟩
  ·exact ⟨w, ZI (Z9 h rfl)⟩
 | d + 1, v, w, hd, hv, hw => by
  by_cases h : (v : Int) < (L.length : Int)
  ·by_cases h2 : (12 : Int) < (((L.getD v R_iiiiiiAi.z).a6.length : Nat) : Int)
   ·obtain ⟨w', q⟩ := ZlP d (v + 1) _ (by omega) (by omega) (show (w ++ [_]).length = v + 1 by simp [hw])
    exact ⟨w', nx _ (Ze h <| Ze (by omega) <| Ze h2 <| Ze (by omega) <| Ze (by omega) rfl) q⟩
   ·obtain ⟨w', q⟩ := ZlP d (v + 1) _ (by omega) (by omega) (show (w ++ [_]).length = v + 1 by simp [hw])
    exact ⟨w', nx _ (Ze h <| Ze (by omega) <| Z9 h2 <| Ze (by omega) <| Ze (by omega) rfl) q⟩
  ·exact ⟨w, ZI (Z9 h rfl)⟩
theorem few (hN : 10000 ≤ N) : ZcI L 70 N = some .r0 ∨ ∃ w, ZcI L 70 N = some (.r1 w) := by
 by_cases h : (0 : Int) < (L.length : Int)
 ·refine .inr ?_
  by_cases h2 : (12 : Int) < (((L.getD 0 R_iiiiiiAi.z).a6.length : Nat) : Int)
  ·obtain ⟨w', q⟩ := ZlP (L := L) (N := N) 69 1 [_] rfl (by decide) rfl
   exact ⟨w', gi .h1m0 rfl (show 71 ≤ N by omega) (nx _ (Ze h <| Ze (by decide) <| Ze h2 rfl) q)⟩
  ·obtain ⟨w', q⟩ := ZlP (L := L) (N := N) 69 1 [_] rfl (by decide) rfl
   exact ⟨w', gi .h1m0 rfl (show 71 ≤ N by omega) (nx _ (Ze h <| Ze (by decide) <| Z9 h2 rfl) q)⟩
 ·exact .inl (gi .h1m0 rfl (show 1 ≤ N by omega) (ZI (Z9 h rfl)))
end
theorem runs (L : List R_iiiiiiAi) (a1 a2 a3 a4 a5 a6 : Int) (L7 : List R_ii) (a8 a9 a10 a11 a12 a13 a14 : Int) (L15 : List R_ii) (a16 : Int) (N : Nat) (hN : 10000 ≤ N) :
  Zbo L a1 a2 a3 a4 a5 a6 L7 a8 a9 a10 a11 a12 a13 a14 L15 a16 N = some (.r0 true) := by
 rcases few (L := L) hN with h | ⟨w, h⟩
 ·exact Zay h <| Zay (gi .h1m0 rfl (show 1 ≤ N by omega) (ZI rfl)) <| Zay (gi .h1m0 rfl (show 1 ≤ N by omega) (ZI rfl)) <|
   Zay (gi .h1m0 (Zay (gi .h1m0 rfl (show 1 ≤ N by omega) (ZI rfl)) rfl) (show 1 ≤ N by omega) (ZI rfl)) <|
   Zay (gi .h1m0 (Zay (gi .h1m0 rfl (show 1 ≤ N by omega) (ZI rfl)) rfl) (show 1 ≤ N by omega) (ZI rfl)) rfl
 ·obtain ⟨c, q1, q2, _⟩ := Zno (L := w) hN
  obtain ⟨b, g1, g2⟩ := width (L := w) hN
  exact Zay h <| Zay q1 <| Zay q2 <| Ze rfl <| Zay g1 <| Zay g2 <| Ze rfl rfl
end Sf
end Ev
end Go.Proofs.YtacnppkmdjhjlaaGreat
/- A region that draws its order, whose first operations only read (and make memory in calls), and whose Zev ones, in a forced order among themselves, make and write new memory: but these may come up early. -/
namespace Go.Proofs.YtacnppkmdjhjlaaGreat
open Go.RowKit

section
variable {P : Program}

def Calm (P : Program) (W : World) (o : Oper) (a : Act) (v : Value) : Prop :=
 ∀ w, Below W.heap.size W w → o.quietAt P a (fun w' => Below w.heap.size w w') w v

def YieldsC (P : Program) (ops : Array Oper) (W : World) (o : Oper) (v : Value) (a : Act) : Prop :=
 (Region.wanted o (yielded ops a.tmps) = true ∧ Calm P W o a v) ∨ (Region.wanted o (yielded ops a.tmps) = false ∧ v = undef)
theorem ZiX {a b c : World} (h : Below a.heap.size a b) (k : Below b.heap.size b c) : Below a.heap.size a c := h.trans (k.mono h.size)

def Closed (md : Region.Mode) (ops : Array Oper) (listed : Array Bool) : Prop :=
 ∀ j oj, ops[j]? = some oj → listed.getD j false = true → ∀ e ∈ oj.after, Region.binds md e = true → listed.getD e.on false = true
def Zkv (md : Region.Mode) (ops : Array Oper) : Nat → Nat → Nat → Bool
 | 0, _, _ => false
 | f + 1, t, i => Region.waitsFor md ops t i || (List.range ops.size).any fun k => Region.waitsFor md ops t k && Zkv md ops f k i
theorem Closed.waits {md : Region.Mode} {ops : Array Oper} {listed : Array Bool} (h : Closed md ops listed) : ∀ (f t i : Nat), listed.getD t false = true → Zkv md ops f t i = true → listed.getD i false = true
 | 0, _, _, _, hw => by cases hw
 | f + 1, t, i, ht, hw => by
  simp only [Zkv, Bool.or_eq_true, List.any_eq_true, Bool.and_eq_true] at hw
  rcases hw with hw | ⟨k, _, hw, hr⟩
  ·obtain ⟨o, ho, e, he, hb, rfl⟩ := Region.waitsFor_spec hw
   exact h t o ho ht e he hb
  ·obtain ⟨o, ho, e, he, hb, rfl⟩ := Region.waitsFor_spec hw
   exact h.waits f e.on i (h t o ho ht e he hb) hr

theorem YieldsC.wpOp {ops : Array Oper} {W : World} {i : Nat} {o : Oper} {v : Value} {a : Act} {w : World} (hi : ops[i]? = some o) (hy : YieldsC P ops W o v a) (hb : Below W.heap.size W w)
  {K : Act → World → Prop} {Q : Exit → Act → World → Prop} (h : ∀ w', Below w.heap.size w w' → K (a.put o.dst v) w') : wpOp P ops Q i K a w := by
 unfold Go.wpOp
 simp only [hi]
 rcases hy with ⟨hw, hv⟩ | ⟨hw, rfl⟩
 ·simp only [hw, if_true]
  exact .inl (Oper.wp_of_quiet (C := fun w' => Below w.heap.size w w') (K := fun a' => a' = a.put o.dst v) (Below.refl _ _) (fun a' w' hw' ha => by subst ha; exact h w' hw')
   ⟨v, fun w1 hw1 => by
    have h1 := hv w1 (ZiX hb hw1)
    unfold Oper.quietAt at h1 ⊢
    generalize (execOp a.eval o).run P w1 = r at *
    cases r with
    | ok n w' =>
     cases n <;> simp only [Oper.quietUpon] at h1 ⊢
     case value u => exact h1
     case skip => exact h1
     case enter f args => exact ⟨h1.1, h1.2.mono fun e w2 ⟨he, hb2⟩ => ⟨he, ZiX hw1 hb2⟩⟩
    | halt x w' => simp only [Oper.quietUpon] at h1, rfl⟩)
 ·simp only [hw, Bool.false_eq_true, if_false]
  exact h w (Below.refl _ _)

end
end Go.Proofs.YtacnppkmdjhjlaaGreat
/- The law SearchForms, for every input. -/
namespace Go.Proofs.YtacnppkmdjhjlaaGreat
open Go.ChangeShapes Go.WideShapes Go.ChangeAt Go.RowKit
namespace Ev
namespace SearchForms
set_option linter.unusedVariables false
def Znf (x : R_ii) : Prop := (IntKind.i64.min ≤ x.a0 ∧ x.a0 ≤ IntKind.i64.max) ∧ (IntKind.i64.min ≤ x.a1 ∧ x.a1 ≤ IntKind.i64.max)
theorem el1 {H : Type} {enc : TypeId × Value → H} {w : World} {cs : List Value} (hl : cs.length = 2) (h : Trd enc Tryz.prog w 53 cs) : ∃ x : R_ii, DecL w cs (E_ii.cel x) ∧ Znf x := by
 have h0 := Zmx (by kernel_rfl : Tryz.prog.cellsOf 53 = 2) hl h
 have h1 := Zbj 0 1 2 Tryz.underlying53 h0 0 (te := 51) (o' := 0) (by kernel_rfl) rfl (by kernel_rfl) (by kernel_rfl) (by decide)
 obtain ⟨x0, e0, b0⟩ := ZcT Tryz.underlying51 (by kernel_rfl) h1
 have h2 := Zbj 1 1 2 Tryz.underlying53 h0 1 (te := 3) (o' := 1) (by kernel_rfl) rfl (by kernel_rfl) (by kernel_rfl) (by decide)
 obtain ⟨x1, e1, b1⟩ := ZcT Tryz.underlying3 (by kernel_rfl) h2
 refine ⟨(⟨x0, x1⟩ : R_ii), Zlf (by rw [hl, Enc.clen]; rfl) (fun j y hy => ?_), ⟨b0, b1⟩⟩
 have := (ZbI (w := w) (k := 0) e0 .i (ZbI (w := w) (k := 1) e1 .i (Zmw (w := w)))) j y hy
 simpa using this
def el0R (x : R_iiiiiiAi) : Prop := (IntKind.i64.min ≤ x.a0 ∧ x.a0 ≤ IntKind.i64.max) ∧ (IntKind.i64.min ≤ x.a1 ∧ x.a1 ≤ IntKind.i64.max) ∧ (IntKind.i64.min ≤ x.a2 ∧ x.a2 ≤ IntKind.i64.max) ∧ (IntKind.i64.min ≤ x.a3 ∧ x.a3 ≤ IntKind.i64.max) ∧ (IntKind.i64.min ≤ x.a4 ∧ x.a4 ≤ IntKind.i64.max) ∧ (IntKind.i64.min ≤ x.a5 ∧ x.a5 ≤ IntKind.i64.max) ∧ (x.a6.length ≤ 9223372036854775807 ∧ ∀ y ∈ x.a6, Znf y) ∧ (IntKind.i64.min ≤ x.a7 ∧ x.a7 ≤ IntKind.i64.max)
theorem el0 {H : Type} {enc : TypeId × Value → H} {w : World} {cs : List Value} (hl : cs.length = 8) (h : Trd enc Tryz.prog w 27 cs) : ∃ x : R_iiiiiiAi, DecL w cs (E_iiiiiiAi.cel x) ∧ el0R x := by
 have h0 := Zmx (by kernel_rfl : Tryz.prog.cellsOf 27 = 8) hl h
 have h1 := Zbj 0 1 8 Tryz.underlying27 h0 0 (te := 23) (o' := 0) (by kernel_rfl) rfl (by kernel_rfl) (by kernel_rfl) (by decide)
 obtain ⟨x0, e0, b0⟩ := ZcT Tryz.underlying23 (by kernel_rfl) h1
 have h2 := Zbj 1 1 8 Tryz.underlying27 h0 1 (te := 3) (o' := 1) (by kernel_rfl) rfl (by kernel_rfl) (by kernel_rfl) (by decide)
 obtain ⟨x1, e1, b1⟩ := ZcT Tryz.underlying3 (by kernel_rfl) h2
 have h3 := Zbj 2 1 8 Tryz.underlying27 h0 2 (te := 3) (o' := 2) (by kernel_rfl) rfl (by kernel_rfl) (by kernel_rfl) (by decide)
 obtain ⟨x2, e2, b2⟩ := ZcT Tryz.underlying3 (by kernel_rfl) h3
 have h4 := Zbj 3 1 8 Tryz.underlying27 h0 3 (te := 3) (o' := 3) (by kernel_rfl) rfl (by kernel_rfl) (by kernel_rfl) (by decide)
 obtain ⟨x3, e3, b3⟩ := ZcT Tryz.underlying3 (by kernel_rfl) h4
 have h5 := Zbj 4 1 8 Tryz.underlying27 h0 4 (te := 3) (o' := 4) (by kernel_rfl) rfl (by kernel_rfl) (by kernel_rfl) (by decide)
 obtain ⟨x4, e4, b4⟩ := ZcT Tryz.underlying3 (by kernel_rfl) h5
 have h6 := Zbj 5 1 8 Tryz.underlying27 h0 5 (te := 3) (o' := 5) (by kernel_rfl) rfl (by kernel_rfl) (by kernel_rfl) (by decide)
 obtain ⟨x5, e5, b5⟩ := ZcT Tryz.underlying3 (by kernel_rfl) h6
 have h7 := Zbj 6 1 8 Tryz.underlying27 h0 6 (te := 24) (o' := 6) (by kernel_rfl) rfl (by kernel_rfl) (by kernel_rfl) (by decide)
 obtain ⟨x6, v6, e6, d6, b6⟩ := Znc (E := E_ii) (Q := Znf) Tryz.underlying24 (by kernel_rfl) (by kernel_rfl) (by decide) (fun _ => el1) h7
 have h8 := Zbj 7 1 8 Tryz.underlying27 h0 7 (te := 25) (o' := 7) (by kernel_rfl) rfl (by kernel_rfl) (by kernel_rfl) (by decide)
 obtain ⟨x7, e7, b7⟩ := ZcT Tryz.underlying25 (by kernel_rfl) h8
 refine ⟨(⟨x0, x1, x2, x3, x4, x5, x6, x7⟩ : R_iiiiiiAi), Zlf (by rw [hl, Enc.clen]; rfl) (fun j y hy => ?_), ⟨b0, b1, b2, b3, b4, b5, b6, b7⟩⟩
 have := (ZbI (w := w) (k := 0) e0 .i (ZbI (w := w) (k := 1) e1 .i (ZbI (w := w) (k := 2) e2 .i (ZbI (w := w) (k := 3) e3 .i (ZbI (w := w) (k := 4) e4 .i (ZbI (w := w) (k := 5) e5 .i (ZbI (w := w) (k := 6) e6 d6 (ZbI (w := w) (k := 7) e7 .i (Zmw (w := w)))))))))) j y hy
 simpa using this
noncomputable def Zn8 : List TypeId := (Tryz.prog.cellTypes Tryz.prog.depth 27).getD []
noncomputable def Zn9 : List TypeId := (Tryz.prog.cellTypes Tryz.prog.depth 27).getD []
theorem own : ownKnob Tryz.prog.godebug = none := by kernel_rfl
set_option maxRecDepth 100000 in
theorem lifted (os : Os) (started : os.Started) (H : Type) (enc : TypeId × Value → H) :
  ReturnsInHanded {} Tryz.checked os 3 .any (Rows.searchFormsSpec.pre6 enc Tryz.prog Tryz.f3 Rows.searchFormsRow.domain false) (Rows.searchFormsSpec.post enc Tryz.prog Tryz.f3 false true false false) := by
 refine Zmm (C := Tryz.checked) own started (by kernel_rfl) Tryz.func3 rfl rfl Tryz.underlying4 ?_ (by kernel_rfl) (by kernel_rfl)
  (ChangeSpec.witness6 (enc := enc) (C := Tryz.checked) false ⟨#[], #[.slice none 0 0, .agg #[.int .i64 0, .int .i64 0, .int .i64 0, .int .i64 0, .int .i64 0, .int .i64 0, .slice none 0 0, .int .i64 0], .agg #[.int .i64 0, .int .i64 0, .int .i64 0, .int .i64 0, .int .i64 0, .int .i64 0, .slice none 0 0, .int .i64 0]], []⟩ 8 (by kernel_rfl) (by kernel_rfl) (by kernel_rfl) (by kernel_rfl)) ?_
 ·intro ds hlen
  have hlen : ds.length = 3 := hlen.trans (by kernel_rfl)
  match ds, hlen with
  | [_, _, _], _ => rfl
 intro W base args ds p hval hA hlt hsz
 rw [Tryz.params3] at hA hval
 obtain ⟨v0, vs0, d0, ds0, p0, q0, hargs, rfl, rfl, h0, r0⟩ := trodAll_cons hA
 obtain ⟨v1, vs1, d1, ds1, p1, q1, rfl, rfl, rfl, h1, r1⟩ := trodAll_cons r0
 obtain ⟨v2, vs2, d2, ds2, p2, q2, rfl, rfl, rfl, h2, r2⟩ := trodAll_cons r1
 obtain ⟨rfl, rfl, rfl⟩ := trodAll_nil r2
 obtain rfl : args = #[v0, v1, v2] := by cases args; simp_all
 obtain ⟨a0, l0, c0, rfl⟩ := Go.WideShapes.okWide_slice Tryz.underlying22 (hval 0 22 v0 rfl rfl)
 obtain ⟨L0, u0, e0, D0, n0, m0⟩ := ZiV (E := E_iiiiiiAi) (Q := el0R) Tryz.underlying22 (by kernel_rfl) (by decide) (fun _ => el0) (Ziw h0)
 obtain rfl : u0 = .slice a0 l0 c0 := by have := e0; simp [Value.cells] at this; exact this.symm
 obtain ⟨cs1, rfl, hl1, hc1⟩ := Zgz (ts := Zn8) (by kernel_rfl) (by kernel_rfl) (by kernel_rfl) (hval 1 27 v1 rfl rfl)
 obtain ⟨x1, D1, m1⟩ := el0 (show cs1.length = 8 from hl1.trans (by kernel_rfl)) (by have q := Ziw h1; simp [Value.cells] at q; exact q)
 obtain ⟨cs2, rfl, hl2, hc2⟩ := Zgz (ts := Zn9) (by kernel_rfl) (by kernel_rfl) (by kernel_rfl) (hval 2 27 v2 rfl rfl)
 obtain ⟨x2, D2, m2⟩ := el0 (show cs2.length = 8 from hl2.trans (by kernel_rfl)) (by have q := Ziw h2; simp [Value.cells] at q; exact q)
 exact Zmp (ZeO L0 x1.a0 x1.a1 x1.a2 x1.a3 x1.a4 x1.a5 x1.a6 x1.a7 x2.a0 x2.a1 x2.a2 x2.a3 x2.a4 x2.a5 x2.a6 x2.a7 100000 _ (Sf.runs L0 x1.a0 x1.a1 x1.a2 x1.a3 x1.a4 x1.a5 x1.a6 x1.a7 x2.a0 x2.a1 x2.a2 x2.a3 x2.a4 x2.a5 x2.a6 x2.a7 100000 (by decide))) (Zhs (show VR (ιMk W) (ms E_iiiiiiAi L0) _ from D0.vr) (Zhs (show VR (ιMk W) (.agg #[Value.int .i64 x1.a0, Value.int .i64 x1.a1, Value.int .i64 x1.a2, Value.int .i64 x1.a3, Value.int .i64 x1.a4, Value.int .i64 x1.a5, ms E_ii x1.a6, Value.int .i64 x1.a7]) _ from .aggl D1.vr) (Zhs (show VR (ιMk W) (.agg #[Value.int .i64 x2.a0, Value.int .i64 x2.a1, Value.int .i64 x2.a2, Value.int .i64 x2.a3, Value.int .i64 x2.a4, Value.int .i64 x2.a5, ms E_ii x2.a6, Value.int .i64 x2.a7]) _ from .aggl D2.vr) ZkV))) rfl
theorem over : Rows.searchFormsRow.holds Tryz.pinned (OpenSpec.ofChange Rows.searchFormsSpec) :=
 OpenClaim.holds_of_wide 3 Tryz.f3 rfl rfl rfl rfl rfl rfl rfl ⟨rfl, rfl, rfl, rfl, rfl⟩ rfl rfl rfl rfl rfl (by kernel_rfl) Tryz.func3 (by kernel_rfl)
  (of_decide_eq_true (by kernel_rfl)) (by unfold Func.isWrapper; first | (rw [if_pos (by decide +kernel)]; kernel_rfl) | (rw [if_neg (by decide +kernel)]; exact ⟨rfl, rfl⟩))
  (fun os started H enc _ => lifted os started H enc)
theorem proved : Rows.SearchFormsSaid := over
#print axioms proved
end SearchForms
end Ev
end Go.Proofs.YtacnppkmdjhjlaaGreat
