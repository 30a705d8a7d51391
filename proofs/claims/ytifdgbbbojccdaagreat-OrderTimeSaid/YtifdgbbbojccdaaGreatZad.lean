/- The law OrderTime, for every input. -/
import Derived.Test.YtifdgbbbojccdaaGreatZac
import Derived.Test.YtifdgbbbojccdaaGreatZab
import Derived.StillTail
import Derived.OrdersHeld
import Derived.WideBlind
/- Calls do what the plain functions say. -/
namespace Go.Proofs.YtifdgbbbojccdaaGreat
open Go.RowKit
namespace Ev
set_option linter.unusedVariables false
set_option maxRecDepth 100000
noncomputable def ZhZ (L0 : List R_iiiiiiAi) : Zac → Value
 | .r0 => vn
 | .r1 w0 => vs 0 0 w0.length w0.length
noncomputable def Zhe (L0 : List R_iiiiiiAi) : Zac → List (Option AObj)
 | .r0 => []
 | .r1 w0 => [some (.cells (Za E_iiiiiiAi w0) 27)]

def ZkI : Zy → Nat
 | .h1m0 => 1
 | .h1m1 v1 v2 => 1
noncomputable def ZlS (L0 : List R_iiiiiiAi) : Zy → List (Nat × Value)
 | .h1m0 => [(0, ms E_iiiiiiAi L0), (3, vn), (4, vq)]
 | .h1m1 v1 v2 => [(0, ms E_iiiiiiAi L0), (3, vs 0 0 v1.length v1.length), (4, vi (v2 : Int))]
noncomputable def ZlT (L0 : List R_iiiiiiAi) : Zy → List (Option AObj)
 | .h1m0 => []
 | .h1m1 v1 v2 => [some (.cells (Za E_iiiiiiAi v1) 27)]

noncomputable def ZbO : Nat → Code × List Zat
 | 1 => Zbp [1, 1, 0, 1, 3] (Zd1 Tryz.f5) []
 | _ => (.skip, [])
def Zhf : Nat → Bool
 | 1 => true
 | _ => true
noncomputable def Zec (i : Nat) : List Zat := match Zhf i with | true => .rnd i :: (ZbO i).2 | false => (ZbO i).2

noncomputable def Zaf (L0 : List R_iiiiiiAi) (N : Nat) : Mach := ⟨Tryz.f5, [], Zy, Zac, Zau L0 N, ZkI, ZbO, Zhf, ZlS L0, ZlT L0, ZhZ L0, Zhe L0⟩

theorem Zia (L0 : List R_iiiiiiAi) (N : Nat) : (Zaf L0 N).Ok Tryz.prog ZE (.h1m0 : Zy) (Zau L0 N (.h1m0 : Zy)) := by
 show (Zaf L0 N).Ok Tryz.prog ZE (.h1m0 : Zy) (Zaq L0 N)
 unfold Zaq
 refine Mach.ok_ite (fun g0 => ?_) (fun g0 => ?_)
 ·
  refine Mach.ok_ite (fun g1 => ?_) (fun g1 => ?_)
  ·
   exact Mach.ok_next (M := Zaf L0 N) (cd := 1000000) (cm := 0) (y := (.h1m1 (([(⟨(L0.getD 0 R_iiiiiiAi.z).a0, (L0.getD 0 R_iiiiiiAi.z).a1, (L0.getD 0 R_iiiiiiAi.z).a2, (L0.getD 0 R_iiiiiiAi.z).a3, (L0.getD 0 R_iiiiiiAi.z).a4, (L0.getD 0 R_iiiiiiAi.z).a5, ((L0.getD 0 R_iiiiiiAi.z).a6.take 12), (L0.getD 0 R_iiiiiiAi.z).a7⟩ : R_iiiiiiAi)] : List R_iiiiiiAi)) (1) : Zy)) (fu := 4000) (orc := (ZM [(0, true), (2, true)] [] [(0, 0)] [(0, [.i (L0.getD 0 R_iiiiiiAi.z).a0, .i (L0.getD 0 R_iiiiiiAi.z).a1, .i (L0.getD 0 R_iiiiiiAi.z).a2, .i (L0.getD 0 R_iiiiiiAi.z).a3, .i (L0.getD 0 R_iiiiiiAi.z).a4, .i (L0.getD 0 R_iiiiiiAi.z).a5, (mc E_ii (L0.getD 0 R_iiiiiiAi.z).a6), .i (L0.getD 0 R_iiiiiiAi.z).a7])] [(0, .ms 0 12 ((L0.getD 0 R_iiiiiiAi.z).a6.take 12).length (ZJ E_ii ((L0.getD 0 R_iiiiiiAi.z).a6.take 12)))])) (live := [3]) (tv := fun _ => [some (ms E_iiiiiiAi L0), some (vs 3 0 1 1), some (vi (1 : Int))]) (bl := [some (.cells [vi (L0.getD 0 R_iiiiiiAi.z).a0, vi (L0.getD 0 R_iiiiiiAi.z).a1, vi (L0.getD 0 R_iiiiiiAi.z).a2, vi (L0.getD 0 R_iiiiiiAi.z).a3, vi (L0.getD 0 R_iiiiiiAi.z).a4, vi (L0.getD 0 R_iiiiiiAi.z).a5, ms E_ii ((L0.getD 0 R_iiiiiiAi.z).a6.take 12), vi (L0.getD 0 R_iiiiiiAi.z).a7] 27)]) (ob := [(dP (0 ≤ 12 ∧ 12 ≤ (L0.getD 0 R_iiiiiiAi.z).a6.length ∧ Zab (code (ZJ E_ii (L0.getD 0 R_iiiiiiAi.z).a6)) (0 + 0 * 2) (ZJ E_ii ((L0.getD 0 R_iiiiiiAi.z).a6.take 12)).length = some (ZJ E_ii ((L0.getD 0 R_iiiiiiAi.z).a6.take 12)) ∧ (12 - 0) * 2 = (ZJ E_ii ((L0.getD 0 R_iiiiiiAi.z).a6.take 12)).length ∧ ((L0.getD 0 R_iiiiiiAi.z).a6.take 12).length = 12 - 0), true), ((12 : Int) == Int.ofNat 12, true), (dS 0, true), ((decide ((((L0.getD 0 R_iiiiiiAi.z).a6.length : Nat) : Int) > (12 : Int))), true), (dP (Zab (code (ZJ E_iiiiiiAi L0)) (0 + (0 * 8)) 8 = some [.i (L0.getD 0 R_iiiiiiAi.z).a0, .i (L0.getD 0 R_iiiiiiAi.z).a1, .i (L0.getD 0 R_iiiiiiAi.z).a2, .i (L0.getD 0 R_iiiiiiAi.z).a3, .i (L0.getD 0 R_iiiiiiAi.z).a4, .i (L0.getD 0 R_iiiiiiAi.z).a5, (mc E_ii (L0.getD 0 R_iiiiiiAi.z).a6), .i (L0.getD 0 R_iiiiiiAi.z).a7]), true), (Nat.blt 0 L0.length, true), ((0 : Int) == Int.ofNat 0, true), ((decide ((0 : Int) < (L0.length : Int))), true)]) rfl (show 1 ∈ ZA (Zec 1) from by decide +kernel) (fun gv => by kernel_rfl) (Zc (Z2 (Znw (E := E_ii) (L := (L0.getD 0 R_iiiiiiAi.z).a6) (R := ((L0.getD 0 R_iiiiiiAi.z).a6.take 12)) (l := 0) (h := 12) (size := 2) ltA ltA (by decide) (by simp))) <| oI <| oR <| oY <| Zc (Z2 (ZfN (E := E_iiiiiiAi) (L := L0) (i := 0) (q := 0) (by omega) (show (0 + (0 * 8)) = 0 * 8 + 0 from by omega) (show 0 + 8 ≤ 8 from by decide) rfl)) <| oB <| oI <| oY Zp) rfl (by decide) (by rfl) (fun _ => ⟨rr, ⟨⟨Eq.trans (show (vs 0 0 ([(⟨(L0.getD 0 R_iiiiiiAi.z).a0, (L0.getD 0 R_iiiiiiAi.z).a1, (L0.getD 0 R_iiiiiiAi.z).a2, (L0.getD 0 R_iiiiiiAi.z).a3, (L0.getD 0 R_iiiiiiAi.z).a4, (L0.getD 0 R_iiiiiiAi.z).a5, ((L0.getD 0 R_iiiiiiAi.z).a6.take 12), (L0.getD 0 R_iiiiiiAi.z).a7⟩ : R_iiiiiiAi)] : List R_iiiiiiAi).length ([(⟨(L0.getD 0 R_iiiiiiAi.z).a0, (L0.getD 0 R_iiiiiiAi.z).a1, (L0.getD 0 R_iiiiiiAi.z).a2, (L0.getD 0 R_iiiiiiAi.z).a3, (L0.getD 0 R_iiiiiiAi.z).a4, (L0.getD 0 R_iiiiiiAi.z).a5, ((L0.getD 0 R_iiiiiiAi.z).a6.take 12), (L0.getD 0 R_iiiiiiAi.z).a7⟩ : R_iiiiiiAi)] : List R_iiiiiiAi).length : Value) = vs 0 0 1 1 from (ZfI rfl eqA eqA)) (by rfl), by rfl⟩, ⟨⟨Eq.trans (show (vi ((1 : Nat) : Int) : Value) = vi (1 : Int) from (congrArg (Value.int .i64) (by first | rfl | omega))) (by rfl), by rfl⟩, trivial⟩⟩⟩) ⟨(ZhT (E := E_iiiiiiAi) _ (L := ([(⟨(L0.getD 0 R_iiiiiiAi.z).a0, (L0.getD 0 R_iiiiiiAi.z).a1, (L0.getD 0 R_iiiiiiAi.z).a2, (L0.getD 0 R_iiiiiiAi.z).a3, (L0.getD 0 R_iiiiiiAi.z).a4, (L0.getD 0 R_iiiiiiAi.z).a5, ((L0.getD 0 R_iiiiiiAi.z).a6.take 12), (L0.getD 0 R_iiiiiiAi.z).a7⟩ : R_iiiiiiAi)] : List R_iiiiiiAi)) _ (show ([vi (L0.getD 0 R_iiiiiiAi.z).a0, vi (L0.getD 0 R_iiiiiiAi.z).a1, vi (L0.getD 0 R_iiiiiiAi.z).a2, vi (L0.getD 0 R_iiiiiiAi.z).a3, vi (L0.getD 0 R_iiiiiiAi.z).a4, vi (L0.getD 0 R_iiiiiiAi.z).a5, ms E_ii ((L0.getD 0 R_iiiiiiAi.z).a6.take 12), vi (L0.getD 0 R_iiiiiiAi.z).a7] : List Value) = Za E_iiiiiiAi ([(⟨(L0.getD 0 R_iiiiiiAi.z).a0, (L0.getD 0 R_iiiiiiAi.z).a1, (L0.getD 0 R_iiiiiiAi.z).a2, (L0.getD 0 R_iiiiiiAi.z).a3, (L0.getD 0 R_iiiiiiAi.z).a4, (L0.getD 0 R_iiiiiiAi.z).a5, ((L0.getD 0 R_iiiiiiAi.z).a6.take 12), (L0.getD 0 R_iiiiiiAi.z).a7⟩ : R_iiiiiiAi)] : List R_iiiiiiAi) from rfl)), trivial⟩
  ·
   exact Mach.ok_next (M := Zaf L0 N) (cd := 1000000) (cm := 0) (y := (.h1m1 (([(⟨(L0.getD 0 R_iiiiiiAi.z).a0, (L0.getD 0 R_iiiiiiAi.z).a1, (L0.getD 0 R_iiiiiiAi.z).a2, (L0.getD 0 R_iiiiiiAi.z).a3, (L0.getD 0 R_iiiiiiAi.z).a4, (L0.getD 0 R_iiiiiiAi.z).a5, (L0.getD 0 R_iiiiiiAi.z).a6, (L0.getD 0 R_iiiiiiAi.z).a7⟩ : R_iiiiiiAi)] : List R_iiiiiiAi)) (1) : Zy)) (fu := 4000) (orc := (ZM [(0, true), (2, false)] [] [(0, 0)] [(0, [.i (L0.getD 0 R_iiiiiiAi.z).a0, .i (L0.getD 0 R_iiiiiiAi.z).a1, .i (L0.getD 0 R_iiiiiiAi.z).a2, .i (L0.getD 0 R_iiiiiiAi.z).a3, .i (L0.getD 0 R_iiiiiiAi.z).a4, .i (L0.getD 0 R_iiiiiiAi.z).a5, (mc E_ii (L0.getD 0 R_iiiiiiAi.z).a6), .i (L0.getD 0 R_iiiiiiAi.z).a7])] [])) (live := [3]) (tv := fun _ => [some (ms E_iiiiiiAi L0), some (vs 3 0 1 1), some (vi (1 : Int))]) (bl := [some (.cells [vi (L0.getD 0 R_iiiiiiAi.z).a0, vi (L0.getD 0 R_iiiiiiAi.z).a1, vi (L0.getD 0 R_iiiiiiAi.z).a2, vi (L0.getD 0 R_iiiiiiAi.z).a3, vi (L0.getD 0 R_iiiiiiAi.z).a4, vi (L0.getD 0 R_iiiiiiAi.z).a5, ms E_ii (L0.getD 0 R_iiiiiiAi.z).a6, vi (L0.getD 0 R_iiiiiiAi.z).a7] 27)]) (ob := [((decide ((((L0.getD 0 R_iiiiiiAi.z).a6.length : Nat) : Int) > (12 : Int))), false), (dP (Zab (code (ZJ E_iiiiiiAi L0)) (0 + (0 * 8)) 8 = some [.i (L0.getD 0 R_iiiiiiAi.z).a0, .i (L0.getD 0 R_iiiiiiAi.z).a1, .i (L0.getD 0 R_iiiiiiAi.z).a2, .i (L0.getD 0 R_iiiiiiAi.z).a3, .i (L0.getD 0 R_iiiiiiAi.z).a4, .i (L0.getD 0 R_iiiiiiAi.z).a5, (mc E_ii (L0.getD 0 R_iiiiiiAi.z).a6), .i (L0.getD 0 R_iiiiiiAi.z).a7]), true), (Nat.blt 0 L0.length, true), ((0 : Int) == Int.ofNat 0, true), ((decide ((0 : Int) < (L0.length : Int))), true)]) rfl (show 1 ∈ ZA (Zec 1) from by decide +kernel) (fun gv => by kernel_rfl) (oN <| Zc (Z2 (ZfN (E := E_iiiiiiAi) (L := L0) (i := 0) (q := 0) (by omega) (show (0 + (0 * 8)) = 0 * 8 + 0 from by omega) (show 0 + 8 ≤ 8 from by decide) rfl)) <| oB <| oI <| oY Zp) rfl (by decide) (by rfl) (fun _ => ⟨rr, ⟨⟨Eq.trans (show (vs 0 0 ([(⟨(L0.getD 0 R_iiiiiiAi.z).a0, (L0.getD 0 R_iiiiiiAi.z).a1, (L0.getD 0 R_iiiiiiAi.z).a2, (L0.getD 0 R_iiiiiiAi.z).a3, (L0.getD 0 R_iiiiiiAi.z).a4, (L0.getD 0 R_iiiiiiAi.z).a5, (L0.getD 0 R_iiiiiiAi.z).a6, (L0.getD 0 R_iiiiiiAi.z).a7⟩ : R_iiiiiiAi)] : List R_iiiiiiAi).length ([(⟨(L0.getD 0 R_iiiiiiAi.z).a0, (L0.getD 0 R_iiiiiiAi.z).a1, (L0.getD 0 R_iiiiiiAi.z).a2, (L0.getD 0 R_iiiiiiAi.z).a3, (L0.getD 0 R_iiiiiiAi.z).a4, (L0.getD 0 R_iiiiiiAi.z).a5, (L0.getD 0 R_iiiiiiAi.z).a6, (L0.getD 0 R_iiiiiiAi.z).a7⟩ : R_iiiiiiAi)] : List R_iiiiiiAi).length : Value) = vs 0 0 1 1 from (ZfI rfl eqA eqA)) (by rfl), by rfl⟩, ⟨⟨Eq.trans (show (vi ((1 : Nat) : Int) : Value) = vi (1 : Int) from (congrArg (Value.int .i64) (by first | rfl | omega))) (by rfl), by rfl⟩, trivial⟩⟩⟩) ⟨(ZhT (E := E_iiiiiiAi) _ (L := ([(⟨(L0.getD 0 R_iiiiiiAi.z).a0, (L0.getD 0 R_iiiiiiAi.z).a1, (L0.getD 0 R_iiiiiiAi.z).a2, (L0.getD 0 R_iiiiiiAi.z).a3, (L0.getD 0 R_iiiiiiAi.z).a4, (L0.getD 0 R_iiiiiiAi.z).a5, (L0.getD 0 R_iiiiiiAi.z).a6, (L0.getD 0 R_iiiiiiAi.z).a7⟩ : R_iiiiiiAi)] : List R_iiiiiiAi)) _ (show ([vi (L0.getD 0 R_iiiiiiAi.z).a0, vi (L0.getD 0 R_iiiiiiAi.z).a1, vi (L0.getD 0 R_iiiiiiAi.z).a2, vi (L0.getD 0 R_iiiiiiAi.z).a3, vi (L0.getD 0 R_iiiiiiAi.z).a4, vi (L0.getD 0 R_iiiiiiAi.z).a5, ms E_ii (L0.getD 0 R_iiiiiiAi.z).a6, vi (L0.getD 0 R_iiiiiiAi.z).a7] : List Value) = Za E_iiiiiiAi ([(⟨(L0.getD 0 R_iiiiiiAi.z).a0, (L0.getD 0 R_iiiiiiAi.z).a1, (L0.getD 0 R_iiiiiiAi.z).a2, (L0.getD 0 R_iiiiiiAi.z).a3, (L0.getD 0 R_iiiiiiAi.z).a4, (L0.getD 0 R_iiiiiiAi.z).a5, (L0.getD 0 R_iiiiiiAi.z).a6, (L0.getD 0 R_iiiiiiAi.z).a7⟩ : R_iiiiiiAi)] : List R_iiiiiiAi) from rfl)), trivial⟩
 ·
  exact Mach.ok_fin (M := Zaf L0 N) (cd := 1000000) (cm := 0) (r := (.r0 : Zac)) (fu := 4000) (orc := (ZM [(0, false)] [] [] [] [])) (live := []) (u := vn) (bl := []) (ob := [((decide ((0 : Int) < (L0.length : Int))), false)]) (fun gv => by kernel_rfl) (oN Zp) rfl (by decide) (by rfl) rr trivial

theorem Zib (L0 v1 : List R_iiiiiiAi) (v2 N : Nat) : (Zaf L0 N).Ok Tryz.prog ZE (.h1m1 v1 v2 : Zy) (Zau L0 N (.h1m1 v1 v2 : Zy)) := by
 show (Zaf L0 N).Ok Tryz.prog ZE (.h1m1 v1 v2 : Zy) (ZY L0 N v1 v2)
 unfold ZY
 refine Mach.ok_ite (fun g0 => ?_) (fun g0 => ?_)
 ·
  refine Mach.ok_ite (fun g1 => ?_) (fun g1 => ?_)
  ·
   refine Mach.ok_ite (fun g2 => ?_) (fun g2 => ?_)
   ·
    refine Mach.ok_ite (fun g3 => ?_) (fun g3 => ?_)
    ·
     exact Mach.ok_next (M := Zaf L0 N) (cd := 1000000) (cm := 0) (y := (.h1m1 ((v1 ++ ([(⟨(L0.getD v2 R_iiiiiiAi.z).a0, (L0.getD v2 R_iiiiiiAi.z).a1, (L0.getD v2 R_iiiiiiAi.z).a2, (L0.getD v2 R_iiiiiiAi.z).a3, (L0.getD v2 R_iiiiiiAi.z).a4, (L0.getD v2 R_iiiiiiAi.z).a5, ((L0.getD v2 R_iiiiiiAi.z).a6.take 12), (L0.getD v2 R_iiiiiiAi.z).a7⟩ : R_iiiiiiAi)] : List R_iiiiiiAi))) ((v2 + 1)) : Zy)) (fu := 4000) (orc := (ZM [(0, true), (1, true), (2, true)] [(0, (((v2 + 1) : Nat) : Int))] [(0, v2)] [(0, [.i (L0.getD v2 R_iiiiiiAi.z).a0, .i (L0.getD v2 R_iiiiiiAi.z).a1, .i (L0.getD v2 R_iiiiiiAi.z).a2, .i (L0.getD v2 R_iiiiiiAi.z).a3, .i (L0.getD v2 R_iiiiiiAi.z).a4, .i (L0.getD v2 R_iiiiiiAi.z).a5, (mc E_ii (L0.getD v2 R_iiiiiiAi.z).a6), .i (L0.getD v2 R_iiiiiiAi.z).a7])] [(0, .ms 0 12 ((L0.getD v2 R_iiiiiiAi.z).a6.take 12).length (ZJ E_ii ((L0.getD v2 R_iiiiiiAi.z).a6.take 12))), (3, .ap 1 [vi (L0.getD v2 R_iiiiiiAi.z).a0, vi (L0.getD v2 R_iiiiiiAi.z).a1, vi (L0.getD v2 R_iiiiiiAi.z).a2, vi (L0.getD v2 R_iiiiiiAi.z).a3, vi (L0.getD v2 R_iiiiiiAi.z).a4, vi (L0.getD v2 R_iiiiiiAi.z).a5, ms E_ii ((L0.getD v2 R_iiiiiiAi.z).a6.take 12), vi (L0.getD v2 R_iiiiiiAi.z).a7] (Za E_iiiiiiAi (v1 ++ ([(⟨(L0.getD v2 R_iiiiiiAi.z).a0, (L0.getD v2 R_iiiiiiAi.z).a1, (L0.getD v2 R_iiiiiiAi.z).a2, (L0.getD v2 R_iiiiiiAi.z).a3, (L0.getD v2 R_iiiiiiAi.z).a4, (L0.getD v2 R_iiiiiiAi.z).a5, ((L0.getD v2 R_iiiiiiAi.z).a6.take 12), (L0.getD v2 R_iiiiiiAi.z).a7⟩ : R_iiiiiiAi)] : List R_iiiiiiAi))))])) (live := [4]) (tv := fun _ => [some (ms E_iiiiiiAi L0), some (vs 4 0 (v1.length + 1) (v1.length + 1)), some (vi (((v2 + 1) : Nat) : Int))]) (bl := [some (.cells (Za E_iiiiiiAi (v1 ++ ([(⟨(L0.getD v2 R_iiiiiiAi.z).a0, (L0.getD v2 R_iiiiiiAi.z).a1, (L0.getD v2 R_iiiiiiAi.z).a2, (L0.getD v2 R_iiiiiiAi.z).a3, (L0.getD v2 R_iiiiiiAi.z).a4, (L0.getD v2 R_iiiiiiAi.z).a5, ((L0.getD v2 R_iiiiiiAi.z).a6.take 12), (L0.getD v2 R_iiiiiiAi.z).a7⟩ : R_iiiiiiAi)] : List R_iiiiiiAi))) 27)]) (ob := [((IntKind.i64.wrap ((v2 : Int) + (1 : Int))) == (((v2 + 1) : Nat) : Int), true), (dP ((1 = 1 ∧ Zl (1 * 8) (List.drop 0 [vi (L0.getD v2 R_iiiiiiAi.z).a0, vi (L0.getD v2 R_iiiiiiAi.z).a1, vi (L0.getD v2 R_iiiiiiAi.z).a2, vi (L0.getD v2 R_iiiiiiAi.z).a3, vi (L0.getD v2 R_iiiiiiAi.z).a4, vi (L0.getD v2 R_iiiiiiAi.z).a5, ms E_ii ((L0.getD v2 R_iiiiiiAi.z).a6.take 12), vi (L0.getD v2 R_iiiiiiAi.z).a7]) = some [vi (L0.getD v2 R_iiiiiiAi.z).a0, vi (L0.getD v2 R_iiiiiiAi.z).a1, vi (L0.getD v2 R_iiiiiiAi.z).a2, vi (L0.getD v2 R_iiiiiiAi.z).a3, vi (L0.getD v2 R_iiiiiiAi.z).a4, vi (L0.getD v2 R_iiiiiiAi.z).a5, ms E_ii ((L0.getD v2 R_iiiiiiAi.z).a6.take 12), vi (L0.getD v2 R_iiiiiiAi.z).a7] ∧ Zj ZaL [vi (L0.getD v2 R_iiiiiiAi.z).a0, vi (L0.getD v2 R_iiiiiiAi.z).a1, vi (L0.getD v2 R_iiiiiiAi.z).a2, vi (L0.getD v2 R_iiiiiiAi.z).a3, vi (L0.getD v2 R_iiiiiiAi.z).a4, vi (L0.getD v2 R_iiiiiiAi.z).a5, ms E_ii ((L0.getD v2 R_iiiiiiAi.z).a6.take 12), vi (L0.getD v2 R_iiiiiiAi.z).a7] = true) ∧ 0 < 1 ∧ 1 ≤ 100000 ∧ v1.length < v1.length + 1 ∧ v1.length ≤ 100000 ∧ v1.length * 8 ≤ (List.length (Za E_iiiiiiAi v1)) ∧ List.take (v1.length * 8) (Za E_iiiiiiAi v1) ++ [vi (L0.getD v2 R_iiiiiiAi.z).a0, vi (L0.getD v2 R_iiiiiiAi.z).a1, vi (L0.getD v2 R_iiiiiiAi.z).a2, vi (L0.getD v2 R_iiiiiiAi.z).a3, vi (L0.getD v2 R_iiiiiiAi.z).a4, vi (L0.getD v2 R_iiiiiiAi.z).a5, ms E_ii ((L0.getD v2 R_iiiiiiAi.z).a6.take 12), vi (L0.getD v2 R_iiiiiiAi.z).a7] = (Za E_iiiiiiAi (v1 ++ ([(⟨(L0.getD v2 R_iiiiiiAi.z).a0, (L0.getD v2 R_iiiiiiAi.z).a1, (L0.getD v2 R_iiiiiiAi.z).a2, (L0.getD v2 R_iiiiiiAi.z).a3, (L0.getD v2 R_iiiiiiAi.z).a4, (L0.getD v2 R_iiiiiiAi.z).a5, ((L0.getD v2 R_iiiiiiAi.z).a6.take 12), (L0.getD v2 R_iiiiiiAi.z).a7⟩ : R_iiiiiiAi)] : List R_iiiiiiAi)))), true), (dP (0 ≤ 12 ∧ 12 ≤ (L0.getD v2 R_iiiiiiAi.z).a6.length ∧ Zab (code (ZJ E_ii (L0.getD v2 R_iiiiiiAi.z).a6)) (0 + 0 * 2) (ZJ E_ii ((L0.getD v2 R_iiiiiiAi.z).a6.take 12)).length = some (ZJ E_ii ((L0.getD v2 R_iiiiiiAi.z).a6.take 12)) ∧ (12 - 0) * 2 = (ZJ E_ii ((L0.getD v2 R_iiiiiiAi.z).a6.take 12)).length ∧ ((L0.getD v2 R_iiiiiiAi.z).a6.take 12).length = 12 - 0), true), ((12 : Int) == Int.ofNat 12, true), (dS 0, true), ((decide ((((L0.getD v2 R_iiiiiiAi.z).a6.length : Nat) : Int) > (12 : Int))), true), (dP (Zab (code (ZJ E_iiiiiiAi L0)) (0 + (v2 * 8)) 8 = some [.i (L0.getD v2 R_iiiiiiAi.z).a0, .i (L0.getD v2 R_iiiiiiAi.z).a1, .i (L0.getD v2 R_iiiiiiAi.z).a2, .i (L0.getD v2 R_iiiiiiAi.z).a3, .i (L0.getD v2 R_iiiiiiAi.z).a4, .i (L0.getD v2 R_iiiiiiAi.z).a5, (mc E_ii (L0.getD v2 R_iiiiiiAi.z).a6), .i (L0.getD v2 R_iiiiiiAi.z).a7]), true), (Nat.blt v2 L0.length, true), ((v2 : Int) == Int.ofNat v2, true), ((decide ((v2 : Int) < (30 : Int))), true), ((decide ((v2 : Int) < (L0.length : Int))), true)]) rfl (show 1 ∈ ZA (Zec 1) from by decide +kernel) (fun gv => by kernel_rfl) (Zc (beq_iff_eq.2 ((wrap_i64 ltA).trans (by first | rfl | omega))) <| Zc (Z2 ⟨⟨rfl, ⟨rfl, rfl⟩⟩, by omega, by omega, ltA, by omega, (Zkd (E := E_iiiiiiAi) (L := v1) (M := ([(⟨(L0.getD v2 R_iiiiiiAi.z).a0, (L0.getD v2 R_iiiiiiAi.z).a1, (L0.getD v2 R_iiiiiiAi.z).a2, (L0.getD v2 R_iiiiiiAi.z).a3, (L0.getD v2 R_iiiiiiAi.z).a4, (L0.getD v2 R_iiiiiiAi.z).a5, ((L0.getD v2 R_iiiiiiAi.z).a6.take 12), (L0.getD v2 R_iiiiiiAi.z).a7⟩ : R_iiiiiiAi)] : List R_iiiiiiAi)) (n := v1.length) (show _ = _ * 8 from rfl) (by omega) (R := (v1 ++ ([(⟨(L0.getD v2 R_iiiiiiAi.z).a0, (L0.getD v2 R_iiiiiiAi.z).a1, (L0.getD v2 R_iiiiiiAi.z).a2, (L0.getD v2 R_iiiiiiAi.z).a3, (L0.getD v2 R_iiiiiiAi.z).a4, (L0.getD v2 R_iiiiiiAi.z).a5, ((L0.getD v2 R_iiiiiiAi.z).a6.take 12), (L0.getD v2 R_iiiiiiAi.z).a7⟩ : R_iiiiiiAi)] : List R_iiiiiiAi))) (by rw [List.take_of_length_le (by omega)]))⟩) <| Zc (Z2 (Znw (E := E_ii) (L := (L0.getD v2 R_iiiiiiAi.z).a6) (R := ((L0.getD v2 R_iiiiiiAi.z).a6.take 12)) (l := 0) (h := 12) (size := 2) ltA ltA (by decide) (by simp))) <| oI <| oR <| oY <| Zc (Z2 (ZfN (E := E_iiiiiiAi) (L := L0) (i := v2) (q := 0) (by omega) (show (0 + (v2 * 8)) = v2 * 8 + 0 from by omega) (show 0 + 8 ≤ 8 from by decide) rfl)) <| oB <| oI <| oY <| oY Zp) rfl (by decide) (by rfl) (fun _ => ⟨rr, ⟨⟨Eq.trans (show (vs 0 0 (v1 ++ ([(⟨(L0.getD v2 R_iiiiiiAi.z).a0, (L0.getD v2 R_iiiiiiAi.z).a1, (L0.getD v2 R_iiiiiiAi.z).a2, (L0.getD v2 R_iiiiiiAi.z).a3, (L0.getD v2 R_iiiiiiAi.z).a4, (L0.getD v2 R_iiiiiiAi.z).a5, ((L0.getD v2 R_iiiiiiAi.z).a6.take 12), (L0.getD v2 R_iiiiiiAi.z).a7⟩ : R_iiiiiiAi)] : List R_iiiiiiAi)).length (v1 ++ ([(⟨(L0.getD v2 R_iiiiiiAi.z).a0, (L0.getD v2 R_iiiiiiAi.z).a1, (L0.getD v2 R_iiiiiiAi.z).a2, (L0.getD v2 R_iiiiiiAi.z).a3, (L0.getD v2 R_iiiiiiAi.z).a4, (L0.getD v2 R_iiiiiiAi.z).a5, ((L0.getD v2 R_iiiiiiAi.z).a6.take 12), (L0.getD v2 R_iiiiiiAi.z).a7⟩ : R_iiiiiiAi)] : List R_iiiiiiAi)).length : Value) = vs 0 0 (v1.length + 1) (v1.length + 1) from (ZfI rfl eqA eqA)) (by rfl), by rfl⟩, ⟨rr, trivial⟩⟩⟩) ⟨(Zq (E := E_iiiiiiAi) (α := R_iiiiiiAi) _ (v1 ++ ([(⟨(L0.getD v2 R_iiiiiiAi.z).a0, (L0.getD v2 R_iiiiiiAi.z).a1, (L0.getD v2 R_iiiiiiAi.z).a2, (L0.getD v2 R_iiiiiiAi.z).a3, (L0.getD v2 R_iiiiiiAi.z).a4, (L0.getD v2 R_iiiiiiAi.z).a5, ((L0.getD v2 R_iiiiiiAi.z).a6.take 12), (L0.getD v2 R_iiiiiiAi.z).a7⟩ : R_iiiiiiAi)] : List R_iiiiiiAi)) _), trivial⟩
    ·
     exact Mach.ok_none
   ·
    refine Mach.ok_ite (fun g3 => ?_) (fun g3 => ?_)
    ·
     exact Mach.ok_next (M := Zaf L0 N) (cd := 1000000) (cm := 0) (y := (.h1m1 ((v1 ++ ([(⟨(L0.getD v2 R_iiiiiiAi.z).a0, (L0.getD v2 R_iiiiiiAi.z).a1, (L0.getD v2 R_iiiiiiAi.z).a2, (L0.getD v2 R_iiiiiiAi.z).a3, (L0.getD v2 R_iiiiiiAi.z).a4, (L0.getD v2 R_iiiiiiAi.z).a5, (L0.getD v2 R_iiiiiiAi.z).a6, (L0.getD v2 R_iiiiiiAi.z).a7⟩ : R_iiiiiiAi)] : List R_iiiiiiAi))) ((v2 + 1)) : Zy)) (fu := 4000) (orc := (ZM [(0, true), (1, true), (2, false)] [(0, (((v2 + 1) : Nat) : Int))] [(0, v2)] [(0, [.i (L0.getD v2 R_iiiiiiAi.z).a0, .i (L0.getD v2 R_iiiiiiAi.z).a1, .i (L0.getD v2 R_iiiiiiAi.z).a2, .i (L0.getD v2 R_iiiiiiAi.z).a3, .i (L0.getD v2 R_iiiiiiAi.z).a4, .i (L0.getD v2 R_iiiiiiAi.z).a5, (mc E_ii (L0.getD v2 R_iiiiiiAi.z).a6), .i (L0.getD v2 R_iiiiiiAi.z).a7])] [(1, .ap 1 [vi (L0.getD v2 R_iiiiiiAi.z).a0, vi (L0.getD v2 R_iiiiiiAi.z).a1, vi (L0.getD v2 R_iiiiiiAi.z).a2, vi (L0.getD v2 R_iiiiiiAi.z).a3, vi (L0.getD v2 R_iiiiiiAi.z).a4, vi (L0.getD v2 R_iiiiiiAi.z).a5, ms E_ii (L0.getD v2 R_iiiiiiAi.z).a6, vi (L0.getD v2 R_iiiiiiAi.z).a7] (Za E_iiiiiiAi (v1 ++ ([(⟨(L0.getD v2 R_iiiiiiAi.z).a0, (L0.getD v2 R_iiiiiiAi.z).a1, (L0.getD v2 R_iiiiiiAi.z).a2, (L0.getD v2 R_iiiiiiAi.z).a3, (L0.getD v2 R_iiiiiiAi.z).a4, (L0.getD v2 R_iiiiiiAi.z).a5, (L0.getD v2 R_iiiiiiAi.z).a6, (L0.getD v2 R_iiiiiiAi.z).a7⟩ : R_iiiiiiAi)] : List R_iiiiiiAi))))])) (live := [4]) (tv := fun _ => [some (ms E_iiiiiiAi L0), some (vs 4 0 (v1.length + 1) (v1.length + 1)), some (vi (((v2 + 1) : Nat) : Int))]) (bl := [some (.cells (Za E_iiiiiiAi (v1 ++ ([(⟨(L0.getD v2 R_iiiiiiAi.z).a0, (L0.getD v2 R_iiiiiiAi.z).a1, (L0.getD v2 R_iiiiiiAi.z).a2, (L0.getD v2 R_iiiiiiAi.z).a3, (L0.getD v2 R_iiiiiiAi.z).a4, (L0.getD v2 R_iiiiiiAi.z).a5, (L0.getD v2 R_iiiiiiAi.z).a6, (L0.getD v2 R_iiiiiiAi.z).a7⟩ : R_iiiiiiAi)] : List R_iiiiiiAi))) 27)]) (ob := [((IntKind.i64.wrap ((v2 : Int) + (1 : Int))) == (((v2 + 1) : Nat) : Int), true), (dP ((1 = 1 ∧ Zl (1 * 8) (List.drop 0 [vi (L0.getD v2 R_iiiiiiAi.z).a0, vi (L0.getD v2 R_iiiiiiAi.z).a1, vi (L0.getD v2 R_iiiiiiAi.z).a2, vi (L0.getD v2 R_iiiiiiAi.z).a3, vi (L0.getD v2 R_iiiiiiAi.z).a4, vi (L0.getD v2 R_iiiiiiAi.z).a5, ms E_ii (L0.getD v2 R_iiiiiiAi.z).a6, vi (L0.getD v2 R_iiiiiiAi.z).a7]) = some [vi (L0.getD v2 R_iiiiiiAi.z).a0, vi (L0.getD v2 R_iiiiiiAi.z).a1, vi (L0.getD v2 R_iiiiiiAi.z).a2, vi (L0.getD v2 R_iiiiiiAi.z).a3, vi (L0.getD v2 R_iiiiiiAi.z).a4, vi (L0.getD v2 R_iiiiiiAi.z).a5, ms E_ii (L0.getD v2 R_iiiiiiAi.z).a6, vi (L0.getD v2 R_iiiiiiAi.z).a7] ∧ Zj ZaL [vi (L0.getD v2 R_iiiiiiAi.z).a0, vi (L0.getD v2 R_iiiiiiAi.z).a1, vi (L0.getD v2 R_iiiiiiAi.z).a2, vi (L0.getD v2 R_iiiiiiAi.z).a3, vi (L0.getD v2 R_iiiiiiAi.z).a4, vi (L0.getD v2 R_iiiiiiAi.z).a5, ms E_ii (L0.getD v2 R_iiiiiiAi.z).a6, vi (L0.getD v2 R_iiiiiiAi.z).a7] = true) ∧ 0 < 1 ∧ 1 ≤ 100000 ∧ v1.length < v1.length + 1 ∧ v1.length ≤ 100000 ∧ v1.length * 8 ≤ (List.length (Za E_iiiiiiAi v1)) ∧ List.take (v1.length * 8) (Za E_iiiiiiAi v1) ++ [vi (L0.getD v2 R_iiiiiiAi.z).a0, vi (L0.getD v2 R_iiiiiiAi.z).a1, vi (L0.getD v2 R_iiiiiiAi.z).a2, vi (L0.getD v2 R_iiiiiiAi.z).a3, vi (L0.getD v2 R_iiiiiiAi.z).a4, vi (L0.getD v2 R_iiiiiiAi.z).a5, ms E_ii (L0.getD v2 R_iiiiiiAi.z).a6, vi (L0.getD v2 R_iiiiiiAi.z).a7] = (Za E_iiiiiiAi (v1 ++ ([(⟨(L0.getD v2 R_iiiiiiAi.z).a0, (L0.getD v2 R_iiiiiiAi.z).a1, (L0.getD v2 R_iiiiiiAi.z).a2, (L0.getD v2 R_iiiiiiAi.z).a3, (L0.getD v2 R_iiiiiiAi.z).a4, (L0.getD v2 R_iiiiiiAi.z).a5, (L0.getD v2 R_iiiiiiAi.z).a6, (L0.getD v2 R_iiiiiiAi.z).a7⟩ : R_iiiiiiAi)] : List R_iiiiiiAi)))), true), ((decide ((((L0.getD v2 R_iiiiiiAi.z).a6.length : Nat) : Int) > (12 : Int))), false), (dP (Zab (code (ZJ E_iiiiiiAi L0)) (0 + (v2 * 8)) 8 = some [.i (L0.getD v2 R_iiiiiiAi.z).a0, .i (L0.getD v2 R_iiiiiiAi.z).a1, .i (L0.getD v2 R_iiiiiiAi.z).a2, .i (L0.getD v2 R_iiiiiiAi.z).a3, .i (L0.getD v2 R_iiiiiiAi.z).a4, .i (L0.getD v2 R_iiiiiiAi.z).a5, (mc E_ii (L0.getD v2 R_iiiiiiAi.z).a6), .i (L0.getD v2 R_iiiiiiAi.z).a7]), true), (Nat.blt v2 L0.length, true), ((v2 : Int) == Int.ofNat v2, true), ((decide ((v2 : Int) < (30 : Int))), true), ((decide ((v2 : Int) < (L0.length : Int))), true)]) rfl (show 1 ∈ ZA (Zec 1) from by decide +kernel) (fun gv => by kernel_rfl) (Zc (beq_iff_eq.2 ((wrap_i64 ltA).trans (by first | rfl | omega))) <| Zc (Z2 ⟨⟨rfl, ⟨rfl, rfl⟩⟩, by omega, by omega, ltA, by omega, (Zkd (E := E_iiiiiiAi) (L := v1) (M := ([(⟨(L0.getD v2 R_iiiiiiAi.z).a0, (L0.getD v2 R_iiiiiiAi.z).a1, (L0.getD v2 R_iiiiiiAi.z).a2, (L0.getD v2 R_iiiiiiAi.z).a3, (L0.getD v2 R_iiiiiiAi.z).a4, (L0.getD v2 R_iiiiiiAi.z).a5, (L0.getD v2 R_iiiiiiAi.z).a6, (L0.getD v2 R_iiiiiiAi.z).a7⟩ : R_iiiiiiAi)] : List R_iiiiiiAi)) (n := v1.length) (show _ = _ * 8 from rfl) (by omega) (R := (v1 ++ ([(⟨(L0.getD v2 R_iiiiiiAi.z).a0, (L0.getD v2 R_iiiiiiAi.z).a1, (L0.getD v2 R_iiiiiiAi.z).a2, (L0.getD v2 R_iiiiiiAi.z).a3, (L0.getD v2 R_iiiiiiAi.z).a4, (L0.getD v2 R_iiiiiiAi.z).a5, (L0.getD v2 R_iiiiiiAi.z).a6, (L0.getD v2 R_iiiiiiAi.z).a7⟩ : R_iiiiiiAi)] : List R_iiiiiiAi))) (by rw [List.take_of_length_le (by omega)]))⟩) <| oN <| Zc (Z2 (ZfN (E := E_iiiiiiAi) (L := L0) (i := v2) (q := 0) (by omega) (show (0 + (v2 * 8)) = v2 * 8 + 0 from by omega) (show 0 + 8 ≤ 8 from by decide) rfl)) <| oB <| oI <| oY <| oY Zp) rfl (by decide) (by rfl) (fun _ => ⟨rr, ⟨⟨Eq.trans (show (vs 0 0 (v1 ++ ([(⟨(L0.getD v2 R_iiiiiiAi.z).a0, (L0.getD v2 R_iiiiiiAi.z).a1, (L0.getD v2 R_iiiiiiAi.z).a2, (L0.getD v2 R_iiiiiiAi.z).a3, (L0.getD v2 R_iiiiiiAi.z).a4, (L0.getD v2 R_iiiiiiAi.z).a5, (L0.getD v2 R_iiiiiiAi.z).a6, (L0.getD v2 R_iiiiiiAi.z).a7⟩ : R_iiiiiiAi)] : List R_iiiiiiAi)).length (v1 ++ ([(⟨(L0.getD v2 R_iiiiiiAi.z).a0, (L0.getD v2 R_iiiiiiAi.z).a1, (L0.getD v2 R_iiiiiiAi.z).a2, (L0.getD v2 R_iiiiiiAi.z).a3, (L0.getD v2 R_iiiiiiAi.z).a4, (L0.getD v2 R_iiiiiiAi.z).a5, (L0.getD v2 R_iiiiiiAi.z).a6, (L0.getD v2 R_iiiiiiAi.z).a7⟩ : R_iiiiiiAi)] : List R_iiiiiiAi)).length : Value) = vs 0 0 (v1.length + 1) (v1.length + 1) from (ZfI rfl eqA eqA)) (by rfl), by rfl⟩, ⟨rr, trivial⟩⟩⟩) ⟨(Zq (E := E_iiiiiiAi) (α := R_iiiiiiAi) _ (v1 ++ ([(⟨(L0.getD v2 R_iiiiiiAi.z).a0, (L0.getD v2 R_iiiiiiAi.z).a1, (L0.getD v2 R_iiiiiiAi.z).a2, (L0.getD v2 R_iiiiiiAi.z).a3, (L0.getD v2 R_iiiiiiAi.z).a4, (L0.getD v2 R_iiiiiiAi.z).a5, (L0.getD v2 R_iiiiiiAi.z).a6, (L0.getD v2 R_iiiiiiAi.z).a7⟩ : R_iiiiiiAi)] : List R_iiiiiiAi)) _), trivial⟩
    ·
     exact Mach.ok_none
  ·
   exact Mach.ok_fin (M := Zaf L0 N) (cd := 1000000) (cm := 0) (r := (.r1 (v1) : Zac)) (fu := 4000) (orc := (ZM [(0, true), (1, false)] [] [] [] [])) (live := [0]) (u := vs 0 0 v1.length v1.length) (bl := [some (.cells (Za E_iiiiiiAi v1) 27)]) (ob := [((decide ((v2 : Int) < (30 : Int))), false), ((decide ((v2 : Int) < (L0.length : Int))), true)]) (fun gv => by kernel_rfl) (oN <| oY Zp) rfl (by decide) (by rfl) rr ⟨(Zq (E := E_iiiiiiAi) (α := R_iiiiiiAi) _ v1 _), trivial⟩
 ·
  exact Mach.ok_fin (M := Zaf L0 N) (cd := 1000000) (cm := 0) (r := (.r1 (v1) : Zac)) (fu := 4000) (orc := (ZM [(0, false)] [] [] [] [])) (live := [0]) (u := vs 0 0 v1.length v1.length) (bl := [some (.cells (Za E_iiiiiiAi v1) 27)]) (ob := [((decide ((v2 : Int) < (L0.length : Int))), false)]) (fun gv => by kernel_rfl) (oN Zp) rfl (by decide) (by rfl) rr ⟨(Zq (E := E_iiiiiiAi) (α := R_iiiiiiAi) _ v1 _), trivial⟩

theorem Zkn (L0 : List R_iiiiiiAi) (N : Nat) : (Zaf L0 N).Enter Tryz.prog ZE #[ms E_iiiiiiAi L0] (ZeT L0 N) := by
 unfold ZeT
 exact Mach.en_head (bK := ZbO 1) (M := Zaf L0 N) (cd := 1000000) (cm := 0) (y := (.h1m0 : Zy)) (fu := 4000) (orc := (ZM [] [] [] [] [])) (live := []) (tv := [some (ms E_iiiiiiAi L0), some (vn), some (vq)]) (bl := []) (ob := []) rfl rfl (show ZA (ZbO 1).2 = [] from rfl) (by kernel_rfl) Zp rfl (by decide) (by rfl) ⟨rr, ⟨rr, ⟨rr, trivial⟩⟩⟩ trivial

theorem Zfq (L0 : List R_iiiiiiAi) (N : Nat) (r : Zac) (h : ZcX L0 N = some r) : LSpec Tryz.prog 5 #[ms E_iiiiiiAi L0] [] (ZhZ L0 r) (Zhe L0 r) :=
 Mach.spec Zfp (Zaf L0 N) Tryz.func5 (by kernel_rfl) (by kernel_rfl) (fun x => by cases x <;> exact ZbU _ rfl) (fun r => by cases r <;> exact ZbU _ rfl) (fun x => by
  cases x with
  | h1m0 => exact fun _ => (show ¬ (1 ∈ ZA (ZbO 1).2) from by decide +kernel)
  | h1m1 _ _ => exact fun _ => (show ¬ (1 ∈ ZA (ZbO 1).2) from by decide +kernel)
  ) (fun x => (show (Zaf L0 N).Ok Tryz.prog ZE x (Zau L0 N x) from by
  cases x with
  | h1m0 => exact Zia L0 N
  | h1m1 v1 v2 => exact Zib L0 v1 v2 N
  )) (Zkn L0 N) (n := N) h

noncomputable def ZkJ (L0 : List R_iiiiiiAi) (n : Nat) : Zb0 := .call [] (vn) [] 0
def Zhg (A : Array Value) (L0 : List R_iiiiiiAi) (n : Nat) : Prop := ZO Tryz.prog 5 A [] (vn) [] n 0

theorem ZkK (A : Array Value) (L0 : List R_iiiiiiAi) (N : Nat) (h : ZcX L0 N = some (.r0)) (n : Nat) (hA : A = #[ms E_iiiiiiAi L0]) (hnd : ([] : List Nat).Nodup) (hlt : ∀ k ∈ ([] : List Nat), k < n) : Zhg A L0  n :=
 ZaN hA (LSpec.callL (show LSpec Tryz.prog 5 #[ms E_iiiiiiAi L0] [] (vn) [] from Zfq L0 N _ h) [] n [] rfl hnd hlt (show 0 ≤ 0 from by decide) (show ∀ j ∈ ([] : List Nat), j < 0 from by decide) (by rfl) trivial (by rfl) trivial trivial rfl rfl rfl rfl rfl)

noncomputable def ZeU (L0 w0 : List R_iiiiiiAi) (n : Nat) : Zb0 := .call [] (vs n 0 w0.length w0.length) [(n, some (.cells (Za E_iiiiiiAi w0) 27))] 1
def Zd3 (A : Array Value) (L0 w0 : List R_iiiiiiAi) (n : Nat) : Prop := ZO Tryz.prog 5 A [] (vs n 0 w0.length w0.length) [(n, some (.cells (Za E_iiiiiiAi w0) 27))] n 1

theorem ZeV (A : Array Value) (L0 w0 : List R_iiiiiiAi) (N : Nat) (h : ZcX L0 N = some (.r1 w0)) (n : Nat) (hA : A = #[ms E_iiiiiiAi L0]) (hnd : ([] : List Nat).Nodup) (hlt : ∀ k ∈ ([] : List Nat), k < n) : Zd3 A L0 w0  n :=
 ZaN hA (LSpec.callL (show LSpec Tryz.prog 5 #[ms E_iiiiiiAi L0] [] (vs 0 0 w0.length w0.length) [some (.cells (Za E_iiiiiiAi w0) 27)] from Zfq L0 N _ h) [] n [0] rfl hnd hlt (show 0 ≤ 1 from by decide) (show ∀ j ∈ ([0] : List Nat), j < 1 from by decide) (by rfl) trivial (by rfl) ⟨(ZW _ _ _), trivial⟩ ⟨(by decide), trivial⟩ rfl rfl rfl rfl (Zb7 (Zb8 rfl (ZgN (Zbf _ _ _))) rfl))

noncomputable def ZfW  : Zao → Value
 | .r0 => vT
noncomputable def Zfr  : Zao → List (Option AObj)
 | .r0 => []

def Ziy : ZP → Nat
 | .h1m0 => 1
noncomputable def Zje  : ZP → List (Nat × Value)
 | .h1m0 => [(3, Value.map (some 0)), (4, Value.map (some 1)), (15, vn), (16, vq), (17, vq)]
noncomputable def Zjf  : ZP → List (Option AObj)
 | .h1m0 => [some (.ro (ZaB ([] : List R_ii)) true), some (.ro (ZaB ([] : List R_ii)) true)]

noncomputable def ZcM : Nat → Code × List Zat
 | 1 => Zbp [1, 1, 1, 0, 1, 3] (Zd1 Tryz.f13) []
 | _ => (.skip, [])
def Ziz : Nat → Bool
 | 1 => true
 | _ => true
noncomputable def ZaS  (N : Nat) : Mach := ⟨Tryz.f13, [], ZP, Zao, ZaH  N, Ziy, ZcM, Ziz, Zje , Zjf , ZfW , Zfr ⟩

theorem Zg7  (N : Nat) : (ZaS  N).Ok Tryz.prog ZE (.h1m0 : ZP) (ZaH  N (.h1m0 : ZP)) := by
 show (ZaS  N).Ok Tryz.prog ZE (.h1m0 : ZP) (Zc9  N)
 unfold Zc9
 exact Mach.ok_fin (M := ZaS  N) (cd := 1000000) (cm := 0) (r := (.r0 : Zao)) (fu := 4000) (orc := (ZM [] [] [] [] [])) (live := []) (u := vT) (bl := []) (ob := []) (fun gv => by kernel_rfl) Zp rfl (by decide) (by rfl) rr trivial

theorem Zic  (N : Nat) : (ZaS  N).Enter Tryz.prog ZE #[vn] (Zdy  N) := by
 unfold Zdy
 exact Mach.en_head (bK := ZcM 1) (M := ZaS  N) (cd := 1000000) (cm := 0) (y := (.h1m0 : ZP)) (fu := 4000) (orc := (ZM [] [] [] [] [])) (live := [0, 1]) (tv := [some (Value.map (some 0)), some (Value.map (some 1)), some (vn), some (vq), some (vq)]) (bl := [some (.ro (ZaB ([] : List R_ii)) true), some (.ro (ZaB ([] : List R_ii)) true)]) (ob := []) rfl rfl (show ZA (ZcM 1).2 = [] from rfl) (by kernel_rfl) Zp rfl (by decide) (by rfl) ⟨rr, ⟨rr, ⟨rr, ⟨rr, ⟨rr, trivial⟩⟩⟩⟩⟩ ⟨(show ZaB ([] : List R_ii) = ZaB ([] : List R_ii) from rfl), ⟨(show ZaB ([] : List R_ii) = ZaB ([] : List R_ii) from rfl), trivial⟩⟩

theorem ZgS  (N : Nat) (r : Zao) (h : Zdn  N = some r) : LSpec Tryz.prog 13 #[vn] [] (ZfW  r) (Zfr  r) :=
 Mach.spec Zfp (ZaS  N) Tryz.func13 (by kernel_rfl) (by kernel_rfl) (fun x => by cases x <;> exact ZbU _ rfl) (fun r => by cases r <;> exact ZbU _ rfl) (fun x => by
  cases x with
  | h1m0 => exact fun _ => (show ¬ (1 ∈ ZA (ZcM 1).2) from by decide +kernel)
  ) (fun x => (show (ZaS  N).Ok Tryz.prog ZE x (ZaH  N x) from by
  cases x with
  | h1m0 => exact Zg7  N
  )) (Zic  N) (n := N) h

noncomputable def Zi0  (n : Nat) : Zb0 := .call [] (vT) [] 0
def Zfs (A : Array Value)  (n : Nat) : Prop := ZO Tryz.prog 13 A [] (vT) [] n 0

theorem Zi1 (A : Array Value)  (N : Nat) (h : Zdn  N = some (.r0)) (n : Nat) (hA : A = #[vn]) (hnd : ([] : List Nat).Nodup) (hlt : ∀ k ∈ ([] : List Nat), k < n) : Zfs A   n :=
 ZaN hA (LSpec.callL (show LSpec Tryz.prog 13 #[vn] [] (vT) [] from ZgS  N _ h) [] n [] rfl hnd hlt (show 0 ≤ 0 from by decide) (show ∀ j ∈ ([] : List Nat), j < 0 from by decide) (by rfl) trivial (by rfl) trivial trivial rfl rfl rfl rfl rfl)

noncomputable def ZcB  : ZG → Value
 | .r0 => ms E_iiiiiiAi ([] : List R_iiiiiiAi)
noncomputable def Zc6  : ZG → List (Option AObj)
 | .r0 => []

theorem Zcb  (N : Nat) (r : ZG) (h : Zaa  N = some r) : LSpec Tryz.prog 14 #[vn] [] (ZcB  r) (Zc6  r) := by
 cases r
 exact Zm4 (E := E_iiiiiiAi) Zh2

noncomputable def Zc7  (n : Nat) : Zb0 := .call [] (ms E_iiiiiiAi ([] : List R_iiiiiiAi)) [] 0
def ZaO (A : Array Value)  (n : Nat) : Prop := ZO Tryz.prog 14 A [] (ms E_iiiiiiAi ([] : List R_iiiiiiAi)) [] n 0

theorem Zc8 (A : Array Value)  (N : Nat) (h : Zaa  N = some (.r0)) (n : Nat) (hA : A = #[vn]) (hnd : ([] : List Nat).Nodup) (hlt : ∀ k ∈ ([] : List Nat), k < n) : ZaO A   n :=
 ZaN hA (LSpec.callL (show LSpec Tryz.prog 14 #[vn] [] (ms E_iiiiiiAi ([] : List R_iiiiiiAi)) [] from Zcb  N _ h) [] n [] rfl hnd hlt (show 0 ≤ 0 from by decide) (show ∀ j ∈ ([] : List Nat), j < 0 from by decide) (by rfl) trivial (by rfl) trivial trivial rfl rfl rfl rfl rfl)

noncomputable def Zcf (L0 : List R_iiiiiiAi) : ZD → Value
 | .r0 => vtt
noncomputable def Zcc (L0 : List R_iiiiiiAi) : ZD → List (Option AObj)
 | .r0 => []

theorem ZbB (L0 : List R_iiiiiiAi) (N : Nat) (r : ZD) (h : Z0 L0 N = some r) : LSpec Tryz.prog 15 #[ms E_iiiiiiAi L0, Value.func (.func 16) #[] #[]] [] (Zcf L0 r) (Zcc L0 r) := by
 unfold Z0 at h
 by_cases h1 : L0.length = 0
 · rw [if_pos h1] at h
   obtain rfl := (Option.some.inj h).symm
   exact Zm5 (E := E_iiiiiiAi) Zli (List.length_eq_zero_iff.1 h1) rfl
 · rw [if_neg h1] at h; cases h

noncomputable def ZaC (L0 : List R_iiiiiiAi) (n : Nat) : Zb0 := .call [] (vtt) [] 0
def Zaj (A : Array Value) (L0 : List R_iiiiiiAi) (n : Nat) : Prop := ZO Tryz.prog 15 A [] (vtt) [] n 0

theorem ZaD (A : Array Value) (L0 : List R_iiiiiiAi) (N : Nat) (h : Z0 L0 N = some (.r0)) (n : Nat) (hA : A = #[ms E_iiiiiiAi L0, Value.func (.func 16) #[] #[]]) (hnd : ([] : List Nat).Nodup) (hlt : ∀ k ∈ ([] : List Nat), k < n) : Zaj A L0  n :=
 ZaN hA (LSpec.callL (show LSpec Tryz.prog 15 #[ms E_iiiiiiAi L0, Value.func (.func 16) #[] #[]] [] (vtt) [] from ZbB L0 N _ h) [] n [] rfl hnd hlt (show 0 ≤ 0 from by decide) (show ∀ j ∈ ([] : List Nat), j < 0 from by decide) (by rfl) trivial (by rfl) trivial trivial rfl rfl rfl rfl rfl)

noncomputable def Zhh  : Za0 → Value
 | .r0 => Value.tuple #[ms E_iiiiiiAi ([] : List R_iiiiiiAi), vq]
noncomputable def Zg8  : Za0 → List (Option AObj)
 | .r0 => []

def Zko : Zai → Nat
 | .h1m0 => 1
noncomputable def ZkL  : Zai → List (Nat × Value)
 | .h1m0 => [(4, ms E_iiiiiiAi ([] : List R_iiiiiiAi)), (14, vq), (15, vq)]
noncomputable def ZkM  : Zai → List (Option AObj)
 | .h1m0 => []

noncomputable def Zd4 : Nat → Code × List Zat
 | 1 => Zbp [1, 1, 1, 1, 0, 1, 3] (Zd1 Tryz.f6) []
 | _ => (.skip, [])
def Zkp : Nat → Bool
 | 1 => true
 | _ => true
noncomputable def Zbx  (N : Nat) : Mach := ⟨Tryz.f6, [], Zai, Za0, Zb9  N, Zko, Zd4, Zkp, ZkL , ZkM , Zhh , Zg8 ⟩

theorem Zh3  (N : Nat) : (Zbx  N).Ok Tryz.prog ZE (.h1m0 : Zai) (Zb9  N (.h1m0 : Zai)) := by
 show (Zbx  N).Ok Tryz.prog ZE (.h1m0 : Zai) (Zdo  N)
 unfold Zdo
 exact Mach.ok_fin (M := Zbx  N) (cd := 1000000) (cm := 0) (r := (.r0 : Za0)) (fu := 4000) (orc := (ZM [] [] [] [] [])) (live := []) (u := Value.tuple #[ms E_iiiiiiAi ([] : List R_iiiiiiAi), vq]) (bl := []) (ob := []) (fun gv => by kernel_rfl) Zp rfl (by decide) (by rfl) rr trivial

theorem Zjg  (N : Nat) : (Zbx  N).Enter Tryz.prog ZE #[vn] (Zct  N) := by
 unfold Zct
 refine Mach.en_bind (fun z0 c0 => ?_)
 cases z0 with
 | r0 =>
  refine Mach.en_bind (fun z1 c1 => ?_)
  cases z1 with
  | r0 =>
   refine Mach.en_bind (fun z2 c2 => ?_)
   cases z2 with
   | r0 =>
    exact Mach.en_head (bK := Zd4 1) (M := Zbx  N) (cd := 1000000) (cm := 0) (y := (.h1m0 : Zai)) (fu := 4000) (orc := (ZM [] [] [] [] [(0, (Zi0     0)), (1, (Zc7     0)), (2, (ZaC (([] : List R_iiiiiiAi))    0))])) (live := []) (tv := [some (ms E_iiiiiiAi ([] : List R_iiiiiiAi)), some (vq), some (vq)]) (bl := []) (ob := [(dP (Zaj #[ms E_iiiiiiAi ([] : List R_iiiiiiAi), Value.func (.func 16) #[] #[]] (([] : List R_iiiiiiAi))    0), true), (dP (ZaO #[vn]     0), true), (dP (Zfs #[vn]     0), true)]) rfl rfl (show ZA (Zd4 1).2 = [] from rfl) (by kernel_rfl) (Zc (Z2 (ZaD #[ms E_iiiiiiAi ([] : List R_iiiiiiAi), Value.func (.func 16) #[] #[]] (([] : List R_iiiiiiAi))   N c2  0 rfl (by decide) (by decide))) <| Zc (Z2 (Zc8 #[vn]    N c1  0 rfl (by decide) (by decide))) <| Zc (Z2 (Zi1 #[vn]    N c0  0 rfl (by decide) (by decide))) Zp) rfl (by decide) (by rfl) ⟨rr, ⟨rr, ⟨rr, trivial⟩⟩⟩ trivial

theorem Zid  (N : Nat) (r : Za0) (h : Zeb  N = some r) : LSpec Tryz.prog 6 #[vn] [] (Zhh  r) (Zg8  r) :=
 Mach.spec Zfp (Zbx  N) Tryz.func6 (by kernel_rfl) (by kernel_rfl) (fun x => by cases x <;> exact ZbU _ rfl) (fun r => by cases r <;> exact ZbU _ rfl) (fun x => by
  cases x with
  | h1m0 => exact fun _ => (show ¬ (1 ∈ ZA (Zd4 1).2) from by decide +kernel)
  ) (fun x => (show (Zbx  N).Ok Tryz.prog ZE x (Zb9  N x) from by
  cases x with
  | h1m0 => exact Zh3  N
  )) (Zjg  N) (n := N) h

noncomputable def Zkq  (n : Nat) : Zb0 := .call [] (Value.tuple #[ms E_iiiiiiAi ([] : List R_iiiiiiAi), vq]) [] 0
def Zg9 (A : Array Value)  (n : Nat) : Prop := ZO Tryz.prog 6 A [] (Value.tuple #[ms E_iiiiiiAi ([] : List R_iiiiiiAi), vq]) [] n 0

theorem Zkr (A : Array Value)  (N : Nat) (h : Zeb  N = some (.r0)) (n : Nat) (hA : A = #[vn]) (hnd : ([] : List Nat).Nodup) (hlt : ∀ k ∈ ([] : List Nat), k < n) : Zg9 A   n :=
 ZaN hA (LSpec.callL (show LSpec Tryz.prog 6 #[vn] [] (Value.tuple #[ms E_iiiiiiAi ([] : List R_iiiiiiAi), vq]) [] from Zid  N _ h) [] n [] rfl hnd hlt (show 0 ≤ 0 from by decide) (show ∀ j ∈ ([] : List Nat), j < 0 from by decide) (by rfl) trivial (by rfl) trivial trivial rfl rfl rfl rfl rfl)

noncomputable def ZeI (L0 : List R_iiiiiiAi) : Zi → Value
 | .r0 w1 => Value.bool w1
noncomputable def Ze1 (L0 : List R_iiiiiiAi) : Zi → List (Option AObj)
 | .r0 w1 => [some (.cells (Za E_iiiiiiAi L0) 27)]

def Zh4 : Zv → Nat
 | .h1m0 v1 v2 v4 => 1
noncomputable def Zie (L0 : List R_iiiiiiAi) : Zv → List (Nat × Value)
 | .h1m0 v1 v2 v4 => [(3, Value.map (some 1)), (4, Value.map (some 2)), (15, vs 0 0 L0.length L0.length), (16, vi (L0.length : Int)), (17, vi (v4 : Int))]
noncomputable def Zif (L0 : List R_iiiiiiAi) : Zv → List (Option AObj)
 | .h1m0 v1 v2 v4 => [some (.cells (Za E_iiiiiiAi L0) 27), some (.ro (ZaB v1) true), some (.ro (ZaB v2) true)]

noncomputable def ZaP : Nat → Code × List Zat
 | 1 => Zbp [1, 1, 1, 0, 1, 3] (Zd1 Tryz.f13) []
 | _ => (.skip, [])
def Ze2 : Nat → Bool
 | 1 => true
 | _ => true
noncomputable def ZeJ (i : Nat) : List Zat := match Ze2 i with | true => .rnd i :: (ZaP i).2 | false => (ZaP i).2

noncomputable def Zs (L0 : List R_iiiiiiAi) (N : Nat) : Mach := ⟨Tryz.f13, [.cells (Za E_iiiiiiAi L0) 27], Zv, Zi, ZH L0 N, Zh4, ZaP, Ze2, Zie L0, Zif L0, ZeI L0, Ze1 L0⟩

theorem ZfO (L0 : List R_iiiiiiAi) (v1 v2 : List R_ii) (v4 N : Nat) : (Zs L0 N).Ok Tryz.prog ZE (.h1m0 v1 v2 v4 : Zv) (ZH L0 N (.h1m0 v1 v2 v4 : Zv)) := by
 show (Zs L0 N).Ok Tryz.prog ZE (.h1m0 v1 v2 v4 : Zv) (Zo L0 N v1 v2 v4)
 unfold Zo
 refine Mach.ok_ite (fun g0 => ?_) (fun g0 => ?_)
 ·
  refine Mach.ok_ite (fun g1 => ?_) (fun g1 => ?_)
  ·
   refine Mach.ok_ite (fun g2 => ?_) (fun g2 => ?_)
   ·
    exact Mach.ok_fin (M := Zs L0 N) (cd := 1000000) (cm := 0) (r := (.r0 (false) : Zi)) (fu := 4000) (orc := (ZM [(0, true), (1, true)] [] [(0, v4)] [(0, [.i (L0.getD v4 R_iiiiiiAi.z).a0, .i (L0.getD v4 R_iiiiiiAi.z).a1, .i (L0.getD v4 R_iiiiiiAi.z).a2, .i (L0.getD v4 R_iiiiiiAi.z).a3, .i (L0.getD v4 R_iiiiiiAi.z).a4, .i (L0.getD v4 R_iiiiiiAi.z).a5, (mc E_ii (L0.getD v4 R_iiiiiiAi.z).a6), .i (L0.getD v4 R_iiiiiiAi.z).a7])] [(1, .lk (some (vi (Zag v2 (L0.getD v4 R_iiiiiiAi.z).a1))))])) (live := [0]) (u := vf) (bl := [some (.cells (Za E_iiiiiiAi L0) 27)]) (ob := [((decide ((L0.getD v4 R_iiiiiiAi.z).a3 < (1 : Int))), true), (dP (Za1 .i64 (vi (L0.getD v4 R_iiiiiiAi.z).a1) (ZZ v2) = some (some (vi (Zag v2 (L0.getD v4 R_iiiiiiAi.z).a1)))), true), (Z4 (Zl 8 (List.drop (0 + (v4 * 8)) (Za E_iiiiiiAi L0))) [.i (L0.getD v4 R_iiiiiiAi.z).a0, .i (L0.getD v4 R_iiiiiiAi.z).a1, .i (L0.getD v4 R_iiiiiiAi.z).a2, .i (L0.getD v4 R_iiiiiiAi.z).a3, .i (L0.getD v4 R_iiiiiiAi.z).a4, .i (L0.getD v4 R_iiiiiiAi.z).a5, (mc E_ii (L0.getD v4 R_iiiiiiAi.z).a6), .i (L0.getD v4 R_iiiiiiAi.z).a7], true), (Nat.blt v4 L0.length, true), ((v4 : Int) == Int.ofNat v4, true), ((decide ((v4 : Int) < (L0.length : Int))), true)]) (fun gv => by kernel_rfl) (oY <| Zc (Z2 (ZcY (by assumption))) <| Zc (Zn (E := E_iiiiiiAi) (L := L0) (i := v4) (q := 0) (by omega) (show (0 + (v4 * 8)) = v4 * 8 + 0 from by omega) (show 0 + 8 ≤ 8 from by decide) rfl rfl) <| oB <| oI <| oY Zp) rfl (by decide) (by rfl) rr ⟨(Zq (E := E_iiiiiiAi) (α := R_iiiiiiAi) _ L0 _), trivial⟩
   ·
    refine Mach.ok_ite (fun g3 => ?_) (fun g3 => ?_)
    ·
     exact Mach.ok_fin (M := Zs L0 N) (cd := 1000000) (cm := 0) (r := (.r0 (false) : Zi)) (fu := 4000) (orc := (ZM [(0, true), (1, false), (2, true)] [] [(0, v4)] [(0, [.i (L0.getD v4 R_iiiiiiAi.z).a0, .i (L0.getD v4 R_iiiiiiAi.z).a1, .i (L0.getD v4 R_iiiiiiAi.z).a2, .i (L0.getD v4 R_iiiiiiAi.z).a3, .i (L0.getD v4 R_iiiiiiAi.z).a4, .i (L0.getD v4 R_iiiiiiAi.z).a5, (mc E_ii (L0.getD v4 R_iiiiiiAi.z).a6), .i (L0.getD v4 R_iiiiiiAi.z).a7])] [(1, .lk (some (vi (Zag v2 (L0.getD v4 R_iiiiiiAi.z).a1))))])) (live := [0]) (u := vf) (bl := [some (.cells (Za E_iiiiiiAi L0) 27)]) (ob := [((decide ((L0.getD v4 R_iiiiiiAi.z).a4 < (L0.getD v4 R_iiiiiiAi.z).a3)), true), ((decide ((L0.getD v4 R_iiiiiiAi.z).a3 < (1 : Int))), false), (dP (Za1 .i64 (vi (L0.getD v4 R_iiiiiiAi.z).a1) (ZZ v2) = some (some (vi (Zag v2 (L0.getD v4 R_iiiiiiAi.z).a1)))), true), (Z4 (Zl 8 (List.drop (0 + (v4 * 8)) (Za E_iiiiiiAi L0))) [.i (L0.getD v4 R_iiiiiiAi.z).a0, .i (L0.getD v4 R_iiiiiiAi.z).a1, .i (L0.getD v4 R_iiiiiiAi.z).a2, .i (L0.getD v4 R_iiiiiiAi.z).a3, .i (L0.getD v4 R_iiiiiiAi.z).a4, .i (L0.getD v4 R_iiiiiiAi.z).a5, (mc E_ii (L0.getD v4 R_iiiiiiAi.z).a6), .i (L0.getD v4 R_iiiiiiAi.z).a7], true), (Nat.blt v4 L0.length, true), ((v4 : Int) == Int.ofNat v4, true), ((decide ((v4 : Int) < (L0.length : Int))), true)]) (fun gv => by kernel_rfl) (oY <| oN <| Zc (Z2 (ZcY (by assumption))) <| Zc (Zn (E := E_iiiiiiAi) (L := L0) (i := v4) (q := 0) (by omega) (show (0 + (v4 * 8)) = v4 * 8 + 0 from by omega) (show 0 + 8 ≤ 8 from by decide) rfl rfl) <| oB <| oI <| oY Zp) rfl (by decide) (by rfl) rr ⟨(Zq (E := E_iiiiiiAi) (α := R_iiiiiiAi) _ L0 _), trivial⟩
    ·
     refine Mach.ok_ite (fun g4 => ?_) (fun g4 => ?_)
     ·
      exact Mach.ok_fin (M := Zs L0 N) (cd := 1000000) (cm := 0) (r := (.r0 (false) : Zi)) (fu := 4000) (orc := (ZM [(0, true), (1, false), (2, false), (3, true)] [] [(0, v4)] [(0, [.i (L0.getD v4 R_iiiiiiAi.z).a0, .i (L0.getD v4 R_iiiiiiAi.z).a1, .i (L0.getD v4 R_iiiiiiAi.z).a2, .i (L0.getD v4 R_iiiiiiAi.z).a3, .i (L0.getD v4 R_iiiiiiAi.z).a4, .i (L0.getD v4 R_iiiiiiAi.z).a5, (mc E_ii (L0.getD v4 R_iiiiiiAi.z).a6), .i (L0.getD v4 R_iiiiiiAi.z).a7])] [(1, .lk (some (vi (Zag v2 (L0.getD v4 R_iiiiiiAi.z).a1))))])) (live := [0]) (u := vf) (bl := [some (.cells (Za E_iiiiiiAi L0) 27)]) (ob := [((decide ((L0.getD v4 R_iiiiiiAi.z).a4 > (L0.getD v4 R_iiiiiiAi.z).a5)), true), ((decide ((L0.getD v4 R_iiiiiiAi.z).a4 < (L0.getD v4 R_iiiiiiAi.z).a3)), false), ((decide ((L0.getD v4 R_iiiiiiAi.z).a3 < (1 : Int))), false), (dP (Za1 .i64 (vi (L0.getD v4 R_iiiiiiAi.z).a1) (ZZ v2) = some (some (vi (Zag v2 (L0.getD v4 R_iiiiiiAi.z).a1)))), true), (Z4 (Zl 8 (List.drop (0 + (v4 * 8)) (Za E_iiiiiiAi L0))) [.i (L0.getD v4 R_iiiiiiAi.z).a0, .i (L0.getD v4 R_iiiiiiAi.z).a1, .i (L0.getD v4 R_iiiiiiAi.z).a2, .i (L0.getD v4 R_iiiiiiAi.z).a3, .i (L0.getD v4 R_iiiiiiAi.z).a4, .i (L0.getD v4 R_iiiiiiAi.z).a5, (mc E_ii (L0.getD v4 R_iiiiiiAi.z).a6), .i (L0.getD v4 R_iiiiiiAi.z).a7], true), (Nat.blt v4 L0.length, true), ((v4 : Int) == Int.ofNat v4, true), ((decide ((v4 : Int) < (L0.length : Int))), true)]) (fun gv => by kernel_rfl) (oY <| oN <| oN <| Zc (Z2 (ZcY (by assumption))) <| Zc (Zn (E := E_iiiiiiAi) (L := L0) (i := v4) (q := 0) (by omega) (show (0 + (v4 * 8)) = v4 * 8 + 0 from by omega) (show 0 + 8 ≤ 8 from by decide) rfl rfl) <| oB <| oI <| oY Zp) rfl (by decide) (by rfl) rr ⟨(Zq (E := E_iiiiiiAi) (α := R_iiiiiiAi) _ L0 _), trivial⟩
     ·
      refine Mach.ok_ite (fun g5 => ?_) (fun g5 => ?_)
      ·
       exact Mach.ok_fin (M := Zs L0 N) (cd := 1000000) (cm := 0) (r := (.r0 (false) : Zi)) (fu := 4000) (orc := (ZM [(0, true), (1, false), (2, false), (3, false), (4, true)] [] [(0, v4)] [(0, [.i (L0.getD v4 R_iiiiiiAi.z).a0, .i (L0.getD v4 R_iiiiiiAi.z).a1, .i (L0.getD v4 R_iiiiiiAi.z).a2, .i (L0.getD v4 R_iiiiiiAi.z).a3, .i (L0.getD v4 R_iiiiiiAi.z).a4, .i (L0.getD v4 R_iiiiiiAi.z).a5, (mc E_ii (L0.getD v4 R_iiiiiiAi.z).a6), .i (L0.getD v4 R_iiiiiiAi.z).a7])] [(1, .lk (some (vi (Zag v2 (L0.getD v4 R_iiiiiiAi.z).a1))))])) (live := [0]) (u := vf) (bl := [some (.cells (Za E_iiiiiiAi L0) 27)]) (ob := [((decide ((L0.getD v4 R_iiiiiiAi.z).a3 ≤ (Zag v2 (L0.getD v4 R_iiiiiiAi.z).a1))), true), ((decide ((L0.getD v4 R_iiiiiiAi.z).a4 > (L0.getD v4 R_iiiiiiAi.z).a5)), false), ((decide ((L0.getD v4 R_iiiiiiAi.z).a4 < (L0.getD v4 R_iiiiiiAi.z).a3)), false), ((decide ((L0.getD v4 R_iiiiiiAi.z).a3 < (1 : Int))), false), (dP (Za1 .i64 (vi (L0.getD v4 R_iiiiiiAi.z).a1) (ZZ v2) = some (some (vi (Zag v2 (L0.getD v4 R_iiiiiiAi.z).a1)))), true), (Z4 (Zl 8 (List.drop (0 + (v4 * 8)) (Za E_iiiiiiAi L0))) [.i (L0.getD v4 R_iiiiiiAi.z).a0, .i (L0.getD v4 R_iiiiiiAi.z).a1, .i (L0.getD v4 R_iiiiiiAi.z).a2, .i (L0.getD v4 R_iiiiiiAi.z).a3, .i (L0.getD v4 R_iiiiiiAi.z).a4, .i (L0.getD v4 R_iiiiiiAi.z).a5, (mc E_ii (L0.getD v4 R_iiiiiiAi.z).a6), .i (L0.getD v4 R_iiiiiiAi.z).a7], true), (Nat.blt v4 L0.length, true), ((v4 : Int) == Int.ofNat v4, true), ((decide ((v4 : Int) < (L0.length : Int))), true)]) (fun gv => by kernel_rfl) (oY <| oN <| oN <| oN <| Zc (Z2 (ZcY (by assumption))) <| Zc (Zn (E := E_iiiiiiAi) (L := L0) (i := v4) (q := 0) (by omega) (show (0 + (v4 * 8)) = v4 * 8 + 0 from by omega) (show 0 + 8 ≤ 8 from by decide) rfl rfl) <| oB <| oI <| oY Zp) rfl (by decide) (by rfl) rr ⟨(Zq (E := E_iiiiiiAi) (α := R_iiiiiiAi) _ L0 _), trivial⟩
      ·
       refine Mach.ok_ite (fun g6 => ?_) (fun g6 => ?_)
       ·
        exact Mach.ok_fin (M := Zs L0 N) (cd := 1000000) (cm := 0) (r := (.r0 (false) : Zi)) (fu := 4000) (orc := (ZM [(0, true), (1, false), (2, false), (3, false), (4, false)] [] [(0, v4)] [(0, [.i (L0.getD v4 R_iiiiiiAi.z).a0, .i (L0.getD v4 R_iiiiiiAi.z).a1, .i (L0.getD v4 R_iiiiiiAi.z).a2, .i (L0.getD v4 R_iiiiiiAi.z).a3, .i (L0.getD v4 R_iiiiiiAi.z).a4, .i (L0.getD v4 R_iiiiiiAi.z).a5, (mc E_ii (L0.getD v4 R_iiiiiiAi.z).a6), .i (L0.getD v4 R_iiiiiiAi.z).a7])] [(1, .lk (some (vi (Zag v2 (L0.getD v4 R_iiiiiiAi.z).a1)))), (2, .lk (some (vi (Zag v1 (L0.getD v4 R_iiiiiiAi.z).a4))))])) (live := [0]) (u := vf) (bl := [some (.cells (Za E_iiiiiiAi L0) 27)]) (ob := [(dP (Za1 .i64 (vi (L0.getD v4 R_iiiiiiAi.z).a4) (ZZ v1) = some (some (vi (Zag v1 (L0.getD v4 R_iiiiiiAi.z).a4)))), true), ((decide ((L0.getD v4 R_iiiiiiAi.z).a3 ≤ (Zag v2 (L0.getD v4 R_iiiiiiAi.z).a1))), false), ((decide ((L0.getD v4 R_iiiiiiAi.z).a4 > (L0.getD v4 R_iiiiiiAi.z).a5)), false), ((decide ((L0.getD v4 R_iiiiiiAi.z).a4 < (L0.getD v4 R_iiiiiiAi.z).a3)), false), ((decide ((L0.getD v4 R_iiiiiiAi.z).a3 < (1 : Int))), false), (dP (Za1 .i64 (vi (L0.getD v4 R_iiiiiiAi.z).a1) (ZZ v2) = some (some (vi (Zag v2 (L0.getD v4 R_iiiiiiAi.z).a1)))), true), (Z4 (Zl 8 (List.drop (0 + (v4 * 8)) (Za E_iiiiiiAi L0))) [.i (L0.getD v4 R_iiiiiiAi.z).a0, .i (L0.getD v4 R_iiiiiiAi.z).a1, .i (L0.getD v4 R_iiiiiiAi.z).a2, .i (L0.getD v4 R_iiiiiiAi.z).a3, .i (L0.getD v4 R_iiiiiiAi.z).a4, .i (L0.getD v4 R_iiiiiiAi.z).a5, (mc E_ii (L0.getD v4 R_iiiiiiAi.z).a6), .i (L0.getD v4 R_iiiiiiAi.z).a7], true), (Nat.blt v4 L0.length, true), ((v4 : Int) == Int.ofNat v4, true), ((decide ((v4 : Int) < (L0.length : Int))), true)]) (fun gv => by kernel_rfl) (Zc (Z2 (ZcY (by assumption))) <| oN <| oN <| oN <| oN <| Zc (Z2 (ZcY (by assumption))) <| Zc (Zn (E := E_iiiiiiAi) (L := L0) (i := v4) (q := 0) (by omega) (show (0 + (v4 * 8)) = v4 * 8 + 0 from by omega) (show 0 + 8 ≤ 8 from by decide) rfl rfl) <| oB <| oI <| oY Zp) rfl (by decide) (by rfl) rr ⟨(Zq (E := E_iiiiiiAi) (α := R_iiiiiiAi) _ L0 _), trivial⟩
       ·
        refine Mach.ok_ite (fun g7 => ?_) (fun g7 => ?_)
        ·
         exact Mach.ok_next (M := Zs L0 N) (cd := 1000000) (cm := 0) (y := (.h1m0 ((ZS v1 (L0.getD v4 R_iiiiiiAi.z).a4 (v4 : Int))) ((ZS v2 (L0.getD v4 R_iiiiiiAi.z).a1 (L0.getD v4 R_iiiiiiAi.z).a5)) ((v4 + 1)) : Zv)) (fu := 4000) (orc := (ZM [(0, true), (1, false), (2, false), (3, false), (4, false)] [(0, (((v4 + 1) : Nat) : Int))] [(0, v4)] [(0, [.i (L0.getD v4 R_iiiiiiAi.z).a0, .i (L0.getD v4 R_iiiiiiAi.z).a1, .i (L0.getD v4 R_iiiiiiAi.z).a2, .i (L0.getD v4 R_iiiiiiAi.z).a3, .i (L0.getD v4 R_iiiiiiAi.z).a4, .i (L0.getD v4 R_iiiiiiAi.z).a5, (mc E_ii (L0.getD v4 R_iiiiiiAi.z).a6), .i (L0.getD v4 R_iiiiiiAi.z).a7])] [(1, .lk (some (vi (Zag v2 (L0.getD v4 R_iiiiiiAi.z).a1)))), (2, .lk (none)), (3, .mp (ZZ (ZS v1 (L0.getD v4 R_iiiiiiAi.z).a4 (v4 : Int)))), (4, .mp (ZZ (ZS v2 (L0.getD v4 R_iiiiiiAi.z).a1 (L0.getD v4 R_iiiiiiAi.z).a5)))])) (live := [0, 1, 2]) (tv := fun _ => [some (Value.map (some 1)), some (Value.map (some 2)), some (vs 0 0 L0.length L0.length), some (vi (L0.length : Int)), some (vi (((v4 + 1) : Nat) : Int))]) (bl := [some (.cells (Za E_iiiiiiAi L0) 27), some (.ro (ZaB (ZS v1 (L0.getD v4 R_iiiiiiAi.z).a4 (v4 : Int))) true), some (.ro (ZaB (ZS v2 (L0.getD v4 R_iiiiiiAi.z).a1 (L0.getD v4 R_iiiiiiAi.z).a5)) true)]) (ob := [((IntKind.i64.wrap ((v4 : Int) + (1 : Int))) == (((v4 + 1) : Nat) : Int), true), (dP (ZeK .i64 (vi (L0.getD v4 R_iiiiiiAi.z).a1) (vi (L0.getD v4 R_iiiiiiAi.z).a5) (ZZ v2) = some (ZZ (ZS v2 (L0.getD v4 R_iiiiiiAi.z).a1 (L0.getD v4 R_iiiiiiAi.z).a5))), true), (dP (ZeK .i64 (vi (L0.getD v4 R_iiiiiiAi.z).a4) (vi (v4 : Int)) (ZZ v1) = some (ZZ (ZS v1 (L0.getD v4 R_iiiiiiAi.z).a4 (v4 : Int)))), true), (dP (Za1 .i64 (vi (L0.getD v4 R_iiiiiiAi.z).a4) (ZZ v1) = some (none)), true), ((decide ((L0.getD v4 R_iiiiiiAi.z).a3 ≤ (Zag v2 (L0.getD v4 R_iiiiiiAi.z).a1))), false), ((decide ((L0.getD v4 R_iiiiiiAi.z).a4 > (L0.getD v4 R_iiiiiiAi.z).a5)), false), ((decide ((L0.getD v4 R_iiiiiiAi.z).a4 < (L0.getD v4 R_iiiiiiAi.z).a3)), false), ((decide ((L0.getD v4 R_iiiiiiAi.z).a3 < (1 : Int))), false), (dP (Za1 .i64 (vi (L0.getD v4 R_iiiiiiAi.z).a1) (ZZ v2) = some (some (vi (Zag v2 (L0.getD v4 R_iiiiiiAi.z).a1)))), true), (Z4 (Zl 8 (List.drop (0 + (v4 * 8)) (Za E_iiiiiiAi L0))) [.i (L0.getD v4 R_iiiiiiAi.z).a0, .i (L0.getD v4 R_iiiiiiAi.z).a1, .i (L0.getD v4 R_iiiiiiAi.z).a2, .i (L0.getD v4 R_iiiiiiAi.z).a3, .i (L0.getD v4 R_iiiiiiAi.z).a4, .i (L0.getD v4 R_iiiiiiAi.z).a5, (mc E_ii (L0.getD v4 R_iiiiiiAi.z).a6), .i (L0.getD v4 R_iiiiiiAi.z).a7], true), (Nat.blt v4 L0.length, true), ((v4 : Int) == Int.ofNat v4, true), ((decide ((v4 : Int) < (L0.length : Int))), true)]) rfl (show 1 ∈ ZA (ZeJ 1) from by decide +kernel) (fun gv => by kernel_rfl) (Zc (beq_iff_eq.2 ((wrap_i64 ltA).trans (by first | rfl | omega))) <| Zc (Z2 (ZhU _ _ _)) <| Zc (Z2 (ZhU _ _ _)) <| Zc (Z2 (Zdz (by assumption))) <| oN <| oN <| oN <| oN <| Zc (Z2 (ZcY (by assumption))) <| Zc (Zn (E := E_iiiiiiAi) (L := L0) (i := v4) (q := 0) (by omega) (show (0 + (v4 * 8)) = v4 * 8 + 0 from by omega) (show 0 + 8 ≤ 8 from by decide) rfl rfl) <| oB <| oI <| oY Zp) rfl (by decide) (by rfl) (fun _ => ⟨rr, ⟨rr, ⟨rr, ⟨rr, ⟨rr, trivial⟩⟩⟩⟩⟩) ⟨(Zq (E := E_iiiiiiAi) (α := R_iiiiiiAi) _ L0 _), ⟨(show ZaB (ZS v1 (L0.getD v4 R_iiiiiiAi.z).a4 (v4 : Int)) = ZaB (ZS v1 (L0.getD v4 R_iiiiiiAi.z).a4 (v4 : Int)) from rfl), ⟨(show ZaB (ZS v2 (L0.getD v4 R_iiiiiiAi.z).a1 (L0.getD v4 R_iiiiiiAi.z).a5) = ZaB (ZS v2 (L0.getD v4 R_iiiiiiAi.z).a1 (L0.getD v4 R_iiiiiiAi.z).a5) from rfl), trivial⟩⟩⟩
        ·
         exact Mach.ok_none
  ·
   refine Mach.ok_ite (fun g2 => ?_) (fun g2 => ?_)
   ·
    exact Mach.ok_fin (M := Zs L0 N) (cd := 1000000) (cm := 0) (r := (.r0 (false) : Zi)) (fu := 4000) (orc := (ZM [(0, true), (1, true)] [] [(0, v4)] [(0, [.i (L0.getD v4 R_iiiiiiAi.z).a0, .i (L0.getD v4 R_iiiiiiAi.z).a1, .i (L0.getD v4 R_iiiiiiAi.z).a2, .i (L0.getD v4 R_iiiiiiAi.z).a3, .i (L0.getD v4 R_iiiiiiAi.z).a4, .i (L0.getD v4 R_iiiiiiAi.z).a5, (mc E_ii (L0.getD v4 R_iiiiiiAi.z).a6), .i (L0.getD v4 R_iiiiiiAi.z).a7])] [(1, .lk (none))])) (live := [0]) (u := vf) (bl := [some (.cells (Za E_iiiiiiAi L0) 27)]) (ob := [((decide ((L0.getD v4 R_iiiiiiAi.z).a3 < (1 : Int))), true), (dP (Za1 .i64 (vi (L0.getD v4 R_iiiiiiAi.z).a1) (ZZ v2) = some (none)), true), (Z4 (Zl 8 (List.drop (0 + (v4 * 8)) (Za E_iiiiiiAi L0))) [.i (L0.getD v4 R_iiiiiiAi.z).a0, .i (L0.getD v4 R_iiiiiiAi.z).a1, .i (L0.getD v4 R_iiiiiiAi.z).a2, .i (L0.getD v4 R_iiiiiiAi.z).a3, .i (L0.getD v4 R_iiiiiiAi.z).a4, .i (L0.getD v4 R_iiiiiiAi.z).a5, (mc E_ii (L0.getD v4 R_iiiiiiAi.z).a6), .i (L0.getD v4 R_iiiiiiAi.z).a7], true), (Nat.blt v4 L0.length, true), ((v4 : Int) == Int.ofNat v4, true), ((decide ((v4 : Int) < (L0.length : Int))), true)]) (fun gv => by kernel_rfl) (oY <| Zc (Z2 (Zdz (by assumption))) <| Zc (Zn (E := E_iiiiiiAi) (L := L0) (i := v4) (q := 0) (by omega) (show (0 + (v4 * 8)) = v4 * 8 + 0 from by omega) (show 0 + 8 ≤ 8 from by decide) rfl rfl) <| oB <| oI <| oY Zp) rfl (by decide) (by rfl) rr ⟨(Zq (E := E_iiiiiiAi) (α := R_iiiiiiAi) _ L0 _), trivial⟩
   ·
    refine Mach.ok_ite (fun g3 => ?_) (fun g3 => ?_)
    ·
     exact Mach.ok_fin (M := Zs L0 N) (cd := 1000000) (cm := 0) (r := (.r0 (false) : Zi)) (fu := 4000) (orc := (ZM [(0, true), (1, false), (2, true)] [] [(0, v4)] [(0, [.i (L0.getD v4 R_iiiiiiAi.z).a0, .i (L0.getD v4 R_iiiiiiAi.z).a1, .i (L0.getD v4 R_iiiiiiAi.z).a2, .i (L0.getD v4 R_iiiiiiAi.z).a3, .i (L0.getD v4 R_iiiiiiAi.z).a4, .i (L0.getD v4 R_iiiiiiAi.z).a5, (mc E_ii (L0.getD v4 R_iiiiiiAi.z).a6), .i (L0.getD v4 R_iiiiiiAi.z).a7])] [(1, .lk (none))])) (live := [0]) (u := vf) (bl := [some (.cells (Za E_iiiiiiAi L0) 27)]) (ob := [((decide ((L0.getD v4 R_iiiiiiAi.z).a4 < (L0.getD v4 R_iiiiiiAi.z).a3)), true), ((decide ((L0.getD v4 R_iiiiiiAi.z).a3 < (1 : Int))), false), (dP (Za1 .i64 (vi (L0.getD v4 R_iiiiiiAi.z).a1) (ZZ v2) = some (none)), true), (Z4 (Zl 8 (List.drop (0 + (v4 * 8)) (Za E_iiiiiiAi L0))) [.i (L0.getD v4 R_iiiiiiAi.z).a0, .i (L0.getD v4 R_iiiiiiAi.z).a1, .i (L0.getD v4 R_iiiiiiAi.z).a2, .i (L0.getD v4 R_iiiiiiAi.z).a3, .i (L0.getD v4 R_iiiiiiAi.z).a4, .i (L0.getD v4 R_iiiiiiAi.z).a5, (mc E_ii (L0.getD v4 R_iiiiiiAi.z).a6), .i (L0.getD v4 R_iiiiiiAi.z).a7], true), (Nat.blt v4 L0.length, true), ((v4 : Int) == Int.ofNat v4, true), ((decide ((v4 : Int) < (L0.length : Int))), true)]) (fun gv => by kernel_rfl) (oY <| oN <| Zc (Z2 (Zdz (by assumption))) <| Zc (Zn (E := E_iiiiiiAi) (L := L0) (i := v4) (q := 0) (by omega) (show (0 + (v4 * 8)) = v4 * 8 + 0 from by omega) (show 0 + 8 ≤ 8 from by decide) rfl rfl) <| oB <| oI <| oY Zp) rfl (by decide) (by rfl) rr ⟨(Zq (E := E_iiiiiiAi) (α := R_iiiiiiAi) _ L0 _), trivial⟩
    ·
     refine Mach.ok_ite (fun g4 => ?_) (fun g4 => ?_)
     ·
      exact Mach.ok_fin (M := Zs L0 N) (cd := 1000000) (cm := 0) (r := (.r0 (false) : Zi)) (fu := 4000) (orc := (ZM [(0, true), (1, false), (2, false), (3, true)] [] [(0, v4)] [(0, [.i (L0.getD v4 R_iiiiiiAi.z).a0, .i (L0.getD v4 R_iiiiiiAi.z).a1, .i (L0.getD v4 R_iiiiiiAi.z).a2, .i (L0.getD v4 R_iiiiiiAi.z).a3, .i (L0.getD v4 R_iiiiiiAi.z).a4, .i (L0.getD v4 R_iiiiiiAi.z).a5, (mc E_ii (L0.getD v4 R_iiiiiiAi.z).a6), .i (L0.getD v4 R_iiiiiiAi.z).a7])] [(1, .lk (none))])) (live := [0]) (u := vf) (bl := [some (.cells (Za E_iiiiiiAi L0) 27)]) (ob := [((decide ((L0.getD v4 R_iiiiiiAi.z).a4 > (L0.getD v4 R_iiiiiiAi.z).a5)), true), ((decide ((L0.getD v4 R_iiiiiiAi.z).a4 < (L0.getD v4 R_iiiiiiAi.z).a3)), false), ((decide ((L0.getD v4 R_iiiiiiAi.z).a3 < (1 : Int))), false), (dP (Za1 .i64 (vi (L0.getD v4 R_iiiiiiAi.z).a1) (ZZ v2) = some (none)), true), (Z4 (Zl 8 (List.drop (0 + (v4 * 8)) (Za E_iiiiiiAi L0))) [.i (L0.getD v4 R_iiiiiiAi.z).a0, .i (L0.getD v4 R_iiiiiiAi.z).a1, .i (L0.getD v4 R_iiiiiiAi.z).a2, .i (L0.getD v4 R_iiiiiiAi.z).a3, .i (L0.getD v4 R_iiiiiiAi.z).a4, .i (L0.getD v4 R_iiiiiiAi.z).a5, (mc E_ii (L0.getD v4 R_iiiiiiAi.z).a6), .i (L0.getD v4 R_iiiiiiAi.z).a7], true), (Nat.blt v4 L0.length, true), ((v4 : Int) == Int.ofNat v4, true), ((decide ((v4 : Int) < (L0.length : Int))), true)]) (fun gv => by kernel_rfl) (oY <| oN <| oN <| Zc (Z2 (Zdz (by assumption))) <| Zc (Zn (E := E_iiiiiiAi) (L := L0) (i := v4) (q := 0) (by omega) (show (0 + (v4 * 8)) = v4 * 8 + 0 from by omega) (show 0 + 8 ≤ 8 from by decide) rfl rfl) <| oB <| oI <| oY Zp) rfl (by decide) (by rfl) rr ⟨(Zq (E := E_iiiiiiAi) (α := R_iiiiiiAi) _ L0 _), trivial⟩
     ·
      refine Mach.ok_ite (fun g5 => ?_) (fun g5 => ?_)
      ·
       exact Mach.ok_fin (M := Zs L0 N) (cd := 1000000) (cm := 0) (r := (.r0 (false) : Zi)) (fu := 4000) (orc := (ZM [(0, true), (1, false), (2, false), (3, false)] [] [(0, v4)] [(0, [.i (L0.getD v4 R_iiiiiiAi.z).a0, .i (L0.getD v4 R_iiiiiiAi.z).a1, .i (L0.getD v4 R_iiiiiiAi.z).a2, .i (L0.getD v4 R_iiiiiiAi.z).a3, .i (L0.getD v4 R_iiiiiiAi.z).a4, .i (L0.getD v4 R_iiiiiiAi.z).a5, (mc E_ii (L0.getD v4 R_iiiiiiAi.z).a6), .i (L0.getD v4 R_iiiiiiAi.z).a7])] [(1, .lk (none)), (2, .lk (some (vi (Zag v1 (L0.getD v4 R_iiiiiiAi.z).a4))))])) (live := [0]) (u := vf) (bl := [some (.cells (Za E_iiiiiiAi L0) 27)]) (ob := [(dP (Za1 .i64 (vi (L0.getD v4 R_iiiiiiAi.z).a4) (ZZ v1) = some (some (vi (Zag v1 (L0.getD v4 R_iiiiiiAi.z).a4)))), true), ((decide ((L0.getD v4 R_iiiiiiAi.z).a4 > (L0.getD v4 R_iiiiiiAi.z).a5)), false), ((decide ((L0.getD v4 R_iiiiiiAi.z).a4 < (L0.getD v4 R_iiiiiiAi.z).a3)), false), ((decide ((L0.getD v4 R_iiiiiiAi.z).a3 < (1 : Int))), false), (dP (Za1 .i64 (vi (L0.getD v4 R_iiiiiiAi.z).a1) (ZZ v2) = some (none)), true), (Z4 (Zl 8 (List.drop (0 + (v4 * 8)) (Za E_iiiiiiAi L0))) [.i (L0.getD v4 R_iiiiiiAi.z).a0, .i (L0.getD v4 R_iiiiiiAi.z).a1, .i (L0.getD v4 R_iiiiiiAi.z).a2, .i (L0.getD v4 R_iiiiiiAi.z).a3, .i (L0.getD v4 R_iiiiiiAi.z).a4, .i (L0.getD v4 R_iiiiiiAi.z).a5, (mc E_ii (L0.getD v4 R_iiiiiiAi.z).a6), .i (L0.getD v4 R_iiiiiiAi.z).a7], true), (Nat.blt v4 L0.length, true), ((v4 : Int) == Int.ofNat v4, true), ((decide ((v4 : Int) < (L0.length : Int))), true)]) (fun gv => by kernel_rfl) (Zc (Z2 (ZcY (by assumption))) <| oN <| oN <| oN <| Zc (Z2 (Zdz (by assumption))) <| Zc (Zn (E := E_iiiiiiAi) (L := L0) (i := v4) (q := 0) (by omega) (show (0 + (v4 * 8)) = v4 * 8 + 0 from by omega) (show 0 + 8 ≤ 8 from by decide) rfl rfl) <| oB <| oI <| oY Zp) rfl (by decide) (by rfl) rr ⟨(Zq (E := E_iiiiiiAi) (α := R_iiiiiiAi) _ L0 _), trivial⟩
      ·
       refine Mach.ok_ite (fun g6 => ?_) (fun g6 => ?_)
       ·
        exact Mach.ok_next (M := Zs L0 N) (cd := 1000000) (cm := 0) (y := (.h1m0 ((ZS v1 (L0.getD v4 R_iiiiiiAi.z).a4 (v4 : Int))) ((ZS v2 (L0.getD v4 R_iiiiiiAi.z).a1 (L0.getD v4 R_iiiiiiAi.z).a5)) ((v4 + 1)) : Zv)) (fu := 4000) (orc := (ZM [(0, true), (1, false), (2, false), (3, false)] [(0, (((v4 + 1) : Nat) : Int))] [(0, v4)] [(0, [.i (L0.getD v4 R_iiiiiiAi.z).a0, .i (L0.getD v4 R_iiiiiiAi.z).a1, .i (L0.getD v4 R_iiiiiiAi.z).a2, .i (L0.getD v4 R_iiiiiiAi.z).a3, .i (L0.getD v4 R_iiiiiiAi.z).a4, .i (L0.getD v4 R_iiiiiiAi.z).a5, (mc E_ii (L0.getD v4 R_iiiiiiAi.z).a6), .i (L0.getD v4 R_iiiiiiAi.z).a7])] [(1, .lk (none)), (2, .lk (none)), (3, .mp (ZZ (ZS v1 (L0.getD v4 R_iiiiiiAi.z).a4 (v4 : Int)))), (4, .mp (ZZ (ZS v2 (L0.getD v4 R_iiiiiiAi.z).a1 (L0.getD v4 R_iiiiiiAi.z).a5)))])) (live := [0, 1, 2]) (tv := fun _ => [some (Value.map (some 1)), some (Value.map (some 2)), some (vs 0 0 L0.length L0.length), some (vi (L0.length : Int)), some (vi (((v4 + 1) : Nat) : Int))]) (bl := [some (.cells (Za E_iiiiiiAi L0) 27), some (.ro (ZaB (ZS v1 (L0.getD v4 R_iiiiiiAi.z).a4 (v4 : Int))) true), some (.ro (ZaB (ZS v2 (L0.getD v4 R_iiiiiiAi.z).a1 (L0.getD v4 R_iiiiiiAi.z).a5)) true)]) (ob := [((IntKind.i64.wrap ((v4 : Int) + (1 : Int))) == (((v4 + 1) : Nat) : Int), true), (dP (ZeK .i64 (vi (L0.getD v4 R_iiiiiiAi.z).a1) (vi (L0.getD v4 R_iiiiiiAi.z).a5) (ZZ v2) = some (ZZ (ZS v2 (L0.getD v4 R_iiiiiiAi.z).a1 (L0.getD v4 R_iiiiiiAi.z).a5))), true), (dP (ZeK .i64 (vi (L0.getD v4 R_iiiiiiAi.z).a4) (vi (v4 : Int)) (ZZ v1) = some (ZZ (ZS v1 (L0.getD v4 R_iiiiiiAi.z).a4 (v4 : Int)))), true), (dP (Za1 .i64 (vi (L0.getD v4 R_iiiiiiAi.z).a4) (ZZ v1) = some (none)), true), ((decide ((L0.getD v4 R_iiiiiiAi.z).a4 > (L0.getD v4 R_iiiiiiAi.z).a5)), false), ((decide ((L0.getD v4 R_iiiiiiAi.z).a4 < (L0.getD v4 R_iiiiiiAi.z).a3)), false), ((decide ((L0.getD v4 R_iiiiiiAi.z).a3 < (1 : Int))), false), (dP (Za1 .i64 (vi (L0.getD v4 R_iiiiiiAi.z).a1) (ZZ v2) = some (none)), true), (Z4 (Zl 8 (List.drop (0 + (v4 * 8)) (Za E_iiiiiiAi L0))) [.i (L0.getD v4 R_iiiiiiAi.z).a0, .i (L0.getD v4 R_iiiiiiAi.z).a1, .i (L0.getD v4 R_iiiiiiAi.z).a2, .i (L0.getD v4 R_iiiiiiAi.z).a3, .i (L0.getD v4 R_iiiiiiAi.z).a4, .i (L0.getD v4 R_iiiiiiAi.z).a5, (mc E_ii (L0.getD v4 R_iiiiiiAi.z).a6), .i (L0.getD v4 R_iiiiiiAi.z).a7], true), (Nat.blt v4 L0.length, true), ((v4 : Int) == Int.ofNat v4, true), ((decide ((v4 : Int) < (L0.length : Int))), true)]) rfl (show 1 ∈ ZA (ZeJ 1) from by decide +kernel) (fun gv => by kernel_rfl) (Zc (beq_iff_eq.2 ((wrap_i64 ltA).trans (by first | rfl | omega))) <| Zc (Z2 (ZhU _ _ _)) <| Zc (Z2 (ZhU _ _ _)) <| Zc (Z2 (Zdz (by assumption))) <| oN <| oN <| oN <| Zc (Z2 (Zdz (by assumption))) <| Zc (Zn (E := E_iiiiiiAi) (L := L0) (i := v4) (q := 0) (by omega) (show (0 + (v4 * 8)) = v4 * 8 + 0 from by omega) (show 0 + 8 ≤ 8 from by decide) rfl rfl) <| oB <| oI <| oY Zp) rfl (by decide) (by rfl) (fun _ => ⟨rr, ⟨rr, ⟨rr, ⟨rr, ⟨rr, trivial⟩⟩⟩⟩⟩) ⟨(Zq (E := E_iiiiiiAi) (α := R_iiiiiiAi) _ L0 _), ⟨(show ZaB (ZS v1 (L0.getD v4 R_iiiiiiAi.z).a4 (v4 : Int)) = ZaB (ZS v1 (L0.getD v4 R_iiiiiiAi.z).a4 (v4 : Int)) from rfl), ⟨(show ZaB (ZS v2 (L0.getD v4 R_iiiiiiAi.z).a1 (L0.getD v4 R_iiiiiiAi.z).a5) = ZaB (ZS v2 (L0.getD v4 R_iiiiiiAi.z).a1 (L0.getD v4 R_iiiiiiAi.z).a5) from rfl), trivial⟩⟩⟩
       ·
        exact Mach.ok_none
 ·
  exact Mach.ok_fin (M := Zs L0 N) (cd := 1000000) (cm := 0) (r := (.r0 (true) : Zi)) (fu := 4000) (orc := (ZM [(0, false)] [] [] [] [])) (live := [0]) (u := vT) (bl := [some (.cells (Za E_iiiiiiAi L0) 27)]) (ob := [((decide ((v4 : Int) < (L0.length : Int))), false)]) (fun gv => by kernel_rfl) (oN Zp) rfl (by decide) (by rfl) rr ⟨(Zq (E := E_iiiiiiAi) (α := R_iiiiiiAi) _ L0 _), trivial⟩

theorem ZgT (L0 : List R_iiiiiiAi) (N : Nat) : (Zs L0 N).Enter Tryz.prog ZE #[vs 0 0 L0.length L0.length] (ZcP L0 N) := by
 unfold ZcP
 exact Mach.en_head (bK := ZaP 1) (M := Zs L0 N) (cd := 1000000) (cm := 0) (y := (.h1m0 (([] : List R_ii)) (([] : List R_ii)) (0) : Zv)) (fu := 4000) (orc := (ZM [] [] [] [] [])) (live := [0, 1, 2]) (tv := [some (Value.map (some 1)), some (Value.map (some 2)), some (vs 0 0 L0.length L0.length), some (vi (L0.length : Int)), some (vq)]) (bl := [some (.cells (Za E_iiiiiiAi L0) 27), some (.ro (ZaB ([] : List R_ii)) true), some (.ro (ZaB ([] : List R_ii)) true)]) (ob := []) rfl rfl (show ZA (ZaP 1).2 = [] from rfl) (by kernel_rfl) Zp rfl (by decide) (by rfl) ⟨rr, ⟨rr, ⟨rr, ⟨rr, ⟨⟨Eq.trans (show (vi ((0 : Nat) : Int) : Value) = vq from (congrArg (Value.int .i64) (by first | rfl | omega))) (by rfl), by rfl⟩, trivial⟩⟩⟩⟩⟩ ⟨(Zq (E := E_iiiiiiAi) (α := R_iiiiiiAi) _ L0 _), ⟨(show ZaB ([] : List R_ii) = ZaB ([] : List R_ii) from rfl), ⟨(show ZaB ([] : List R_ii) = ZaB ([] : List R_ii) from rfl), trivial⟩⟩⟩

theorem ZfY (L0 : List R_iiiiiiAi) (N : Nat) (r : Zi) (h : Zc5 L0 N = some r) : LSpec Tryz.prog 13 #[vs 0 0 L0.length L0.length] [.cells (Za E_iiiiiiAi L0) 27] (ZeI L0 r) (Ze1 L0 r) :=
 Mach.spec Zfp (Zs L0 N) Tryz.func13 (by kernel_rfl) (by kernel_rfl) (fun x => by cases x <;> exact ZbU _ rfl) (fun r => by cases r <;> exact ZbU _ rfl) (fun x => by
  cases x with
  | h1m0 _ _ _ => exact fun _ => (show ¬ (1 ∈ ZA (ZaP 1).2) from by decide +kernel)
  ) (fun x => (show (Zs L0 N).Ok Tryz.prog ZE x (ZH L0 N x) from by
  cases x with
  | h1m0 v1 v2 v4 => exact ZfO L0 v1 v2 v4 N
  )) (ZgT L0 N) (n := N) h

noncomputable def ZcQ (L0 : List R_iiiiiiAi) (w1 : Bool) (k0 n : Nat) : Zb0 := .call [(k0, .cells (Za E_iiiiiiAi L0) 27)] (Value.bool w1) [] 0
def ZbP (A : Array Value) (L0 : List R_iiiiiiAi) (w1 : Bool) (k0 n : Nat) : Prop := ZO Tryz.prog 13 A [(k0, .cells (Za E_iiiiiiAi L0) 27)] (Value.bool w1) [] n 0

theorem ZcR (A : Array Value) (L0 : List R_iiiiiiAi) (w1 : Bool) (N : Nat) (h : Zc5 L0 N = some (.r0 w1)) (k0 n : Nat) (hA : A = #[vs k0 0 L0.length L0.length]) (hnd : ([k0] : List Nat).Nodup) (hlt : ∀ k ∈ ([k0] : List Nat), k < n) : ZbP A L0 w1 k0 n :=
 ZaN hA (LSpec.callL (show LSpec Tryz.prog 13 #[vs 0 0 L0.length L0.length] [.cells (Za E_iiiiiiAi L0) 27] (Value.bool w1) [some (.cells (Za E_iiiiiiAi L0) 27)] from ZfY L0 N _ h) [k0] n [] rfl hnd hlt (show 1 ≤ 1 from by decide) (show ∀ j ∈ ([] : List Nat), j < 1 from by decide) (by rfl) ⟨(ZW _ _ _), trivial⟩ (by rfl) ⟨(ZW _ _ _), trivial⟩ ⟨.inr rfl, trivial⟩ rfl rfl rfl (Zb7 (Zb8 rfl (Zbf _ _ _)) rfl) rfl)

noncomputable def Zcu (L0 : List R_iiiiiiAi) : Z1 → Value
 | .r0 => ms E_iiiiiiAi ([] : List R_iiiiiiAi)
 | .r1 => vs 1 0 L0.length L0.length
noncomputable def Zcg (L0 : List R_iiiiiiAi) : Z1 → List (Option AObj)
 | .r0 => [some (.cells (Za E_iiiiiiAi L0) 27)]
 | .r1 => [some (.cells (Za E_iiiiiiAi L0) 27), some (.cells (Za E_iiiiiiAi L0) 27)]

theorem Za4 (L0 : List R_iiiiiiAi) (N : Nat) (r : Z1) (h : Zt L0 N = some r) : LSpec Tryz.prog 14 #[vs 0 0 L0.length L0.length] [.cells (Za E_iiiiiiAi L0) 27] (Zcu L0 r) (Zcg L0 r) := by
 unfold Zt at h
 by_cases h0 : (L0.length : Int) = (0 : Int)
 · rw [if_pos h0] at h
   obtain rfl := (Option.some.inj h).symm
   exact ZlP (E := E_iiiiiiAi) (L := L0) Zh2 (List.length_eq_zero_iff.1 (by omega))
 · rw [if_neg h0] at h
   by_cases h1 : L0.length ≤ 100000
   · rw [if_pos h1] at h
     obtain rfl := (Option.some.inj h).symm
     exact ZlQ (E := E_iiiiiiAi) (L := L0) Zh2 (fun e => h0 (by rw [e]; rfl)) (Nat.le_trans h1 (by decide)) (by show L0.length * 80 ≤ _; omega)
   · rw [if_neg h1] at h; cases h

noncomputable def Zch (L0 : List R_iiiiiiAi) (k0 n : Nat) : Zb0 := .call [(k0, .cells (Za E_iiiiiiAi L0) 27)] (ms E_iiiiiiAi ([] : List R_iiiiiiAi)) [] 0
def ZaI (A : Array Value) (L0 : List R_iiiiiiAi) (k0 n : Nat) : Prop := ZO Tryz.prog 14 A [(k0, .cells (Za E_iiiiiiAi L0) 27)] (ms E_iiiiiiAi ([] : List R_iiiiiiAi)) [] n 0

theorem Zci (A : Array Value) (L0 : List R_iiiiiiAi) (N : Nat) (h : Zt L0 N = some (.r0)) (k0 n : Nat) (hA : A = #[vs k0 0 L0.length L0.length]) (hnd : ([k0] : List Nat).Nodup) (hlt : ∀ k ∈ ([k0] : List Nat), k < n) : ZaI A L0 k0 n :=
 ZaN hA (LSpec.callL (show LSpec Tryz.prog 14 #[vs 0 0 L0.length L0.length] [.cells (Za E_iiiiiiAi L0) 27] (ms E_iiiiiiAi ([] : List R_iiiiiiAi)) [some (.cells (Za E_iiiiiiAi L0) 27)] from Za4 L0 N _ h) [k0] n [] rfl hnd hlt (show 1 ≤ 1 from by decide) (show ∀ j ∈ ([] : List Nat), j < 1 from by decide) (by rfl) ⟨(ZW _ _ _), trivial⟩ (by rfl) ⟨(ZW _ _ _), trivial⟩ ⟨.inr rfl, trivial⟩ rfl rfl rfl (Zb7 (Zb8 rfl (Zbf _ _ _)) rfl) rfl)

noncomputable def Zcj (L0 : List R_iiiiiiAi) (k0 n : Nat) : Zb0 := .call [(k0, .cells (Za E_iiiiiiAi L0) 27)] (vs n 0 L0.length L0.length) [(n, some (.cells (Za E_iiiiiiAi L0) 27))] 1
def ZaJ (A : Array Value) (L0 : List R_iiiiiiAi) (k0 n : Nat) : Prop := ZO Tryz.prog 14 A [(k0, .cells (Za E_iiiiiiAi L0) 27)] (vs n 0 L0.length L0.length) [(n, some (.cells (Za E_iiiiiiAi L0) 27))] n 1

theorem Zck (A : Array Value) (L0 : List R_iiiiiiAi) (N : Nat) (h : Zt L0 N = some (.r1)) (k0 n : Nat) (hA : A = #[vs k0 0 L0.length L0.length]) (hnd : ([k0] : List Nat).Nodup) (hlt : ∀ k ∈ ([k0] : List Nat), k < n) : ZaJ A L0 k0 n :=
 ZaN hA (LSpec.callL (show LSpec Tryz.prog 14 #[vs 0 0 L0.length L0.length] [.cells (Za E_iiiiiiAi L0) 27] (vs 1 0 L0.length L0.length) [some (.cells (Za E_iiiiiiAi L0) 27), some (.cells (Za E_iiiiiiAi L0) 27)] from Za4 L0 N _ h) [k0] n [1] rfl hnd hlt (show 1 ≤ 2 from by decide) (show ∀ j ∈ ([1] : List Nat), j < 2 from by decide) (by rfl) ⟨(ZW _ _ _), trivial⟩ (by rfl) ⟨(ZW _ _ _), ⟨(ZW _ _ _), trivial⟩⟩ ⟨.inr rfl, ⟨(by decide), trivial⟩⟩ rfl rfl rfl (Zb7 (Zb8 rfl (Zbf _ _ _)) rfl) (Zb7 (Zb8 rfl (ZgN (Zbf _ _ _))) rfl))

noncomputable def ZbV (L0 : List R_iiiiiiAi) : Z9 → Value
 | .r0 w0 => vtt
noncomputable def ZbQ (L0 : List R_iiiiiiAi) : Z9 → List (Option AObj)
 | .r0 w0 => [some (.cells (Za E_iiiiiiAi w0) 27)]

theorem Zby (L0 : List R_iiiiiiAi) (N : Nat) (r : Z9) (h : Zw L0 N = some r) : LSpec Tryz.prog 15 #[vs 0 0 L0.length L0.length, Value.func (.func 16) #[] #[]] [.cells (Za E_iiiiiiAi L0) 27] (ZbV L0 r) (ZbQ L0 r) := by
 unfold Zw at h
 by_cases h1 : (Zay Zap L0).Pairwise (fun a b => Zap a < Zap b) ∧ L0.length ≤ 100000
 · rw [if_pos h1] at h
   obtain rfl := (Option.some.inj h).symm
   exact Znh (E := E_iiiiiiAi) (L := L0) Zli rfl (key := Zap) (fun _ => rfl) (ZbN Zap L0) h1.1 h1.2
 · rw [if_neg h1] at h; cases h

noncomputable def ZbR (L0 w0 : List R_iiiiiiAi) (k0 n : Nat) : Zb0 := .call [(k0, .cells (Za E_iiiiiiAi L0) 27)] (vtt) [(k0, some (.cells (Za E_iiiiiiAi w0) 27))] 0
def Za5 (A : Array Value) (L0 w0 : List R_iiiiiiAi) (k0 n : Nat) : Prop := ZO Tryz.prog 15 A [(k0, .cells (Za E_iiiiiiAi L0) 27)] (vtt) [(k0, some (.cells (Za E_iiiiiiAi w0) 27))] n 0

theorem ZbS (A : Array Value) (L0 w0 : List R_iiiiiiAi) (N : Nat) (h : Zw L0 N = some (.r0 w0)) (k0 n : Nat) (hA : A = #[vs k0 0 L0.length L0.length, Value.func (.func 16) #[] #[]]) (hnd : ([k0] : List Nat).Nodup) (hlt : ∀ k ∈ ([k0] : List Nat), k < n) : Za5 A L0 w0 k0 n :=
 ZaN hA (LSpec.callL (show LSpec Tryz.prog 15 #[vs 0 0 L0.length L0.length, Value.func (.func 16) #[] #[]] [.cells (Za E_iiiiiiAi L0) 27] (vtt) [some (.cells (Za E_iiiiiiAi w0) 27)] from Zby L0 N _ h) [k0] n [0] rfl hnd hlt (show 1 ≤ 1 from by decide) (show ∀ j ∈ ([0] : List Nat), j < 1 from by decide) (by rfl) ⟨(ZW _ _ _), trivial⟩ (by rfl) ⟨(ZW _ _ _), trivial⟩ ⟨.inl (by decide), trivial⟩ rfl rfl rfl (Zb7 (Zb8 rfl (Zbf _ _ _)) rfl) (Zb7 (Zb8 rfl (ZgN (Zbf _ _ _))) rfl))

noncomputable def Zdp (L0 : List R_ii) : ZT → Value
 | .r0 => ms E_ii L0
noncomputable def Zda (L0 : List R_ii) : ZT → List (Option AObj)
 | .r0 => []

theorem ZcC (L0 : List R_ii) (N : Nat) (r : ZT) (h : ZV L0 N = some r) : LSpec Tryz.prog 18 #[ms E_ii L0] [] (Zdp L0 r) (Zda L0 r) := by
 unfold ZV at h
 by_cases h1 : L0.length ≤ 100000
 · rw [if_pos h1] at h
   obtain rfl := (Option.some.inj h).symm
   exact ZnN (E := E_ii) (L := L0) Znj (Nat.le_trans h1 (by decide)) (by show L0.length * 16 ≤ _; omega)
 · rw [if_neg h1] at h; cases h

noncomputable def Zdb (L0 : List R_ii) (n : Nat) : Zb0 := .call [] (ms E_ii L0) [] 0
def Zbh (A : Array Value) (L0 : List R_ii) (n : Nat) : Prop := ZO Tryz.prog 18 A [] (ms E_ii L0) [] n 0

theorem Zdc (A : Array Value) (L0 : List R_ii) (N : Nat) (h : ZV L0 N = some (.r0)) (n : Nat) (hA : A = #[ms E_ii L0]) (hnd : ([] : List Nat).Nodup) (hlt : ∀ k ∈ ([] : List Nat), k < n) : Zbh A L0  n :=
 ZaN hA (LSpec.callL (show LSpec Tryz.prog 18 #[ms E_ii L0] [] (ms E_ii L0) [] from ZcC L0 N _ h) [] n [] rfl hnd hlt (show 0 ≤ 0 from by decide) (show ∀ j ∈ ([] : List Nat), j < 0 from by decide) (by rfl) trivial (by rfl) trivial trivial rfl rfl rfl rfl rfl)

noncomputable def ZfX (L0 : List R_iiiiiiAi) : ZF → Value
 | .r0 => Value.tuple #[vn, vi (220 : Int)]
 | .r1 => Value.tuple #[ms E_iiiiiiAi ([] : List R_iiiiiiAi), vq]
 | .r2 w1 => Value.tuple #[vs 1 0 L0.length L0.length, vq]
noncomputable def Zft (L0 : List R_iiiiiiAi) : ZF → List (Option AObj)
 | .r0 => [some (.cells (Za E_iiiiiiAi L0) 27)]
 | .r1 => [some (.cells (Za E_iiiiiiAi L0) 27)]
 | .r2 w1 => [some (.cells (Za E_iiiiiiAi L0) 27), some (.cells (Za E_iiiiiiAi w1) 27)]

def Zi2 : Zr → Nat
 | .h1m0 => 1
 | .h1m1 v1 v4 => 1
noncomputable def Zjh (L0 : List R_iiiiiiAi) : Zr → List (Nat × Value)
 | .h1m0 => [(4, ms E_iiiiiiAi ([] : List R_iiiiiiAi)), (14, vq), (15, vq)]
 | .h1m1 v1 v4 => [(4, vs 1 0 L0.length L0.length), (14, vi (L0.length : Int)), (15, vi (v4 : Int))]
noncomputable def Zji (L0 : List R_iiiiiiAi) : Zr → List (Option AObj)
 | .h1m0 => [some (.cells (Za E_iiiiiiAi L0) 27)]
 | .h1m1 v1 v4 => [some (.cells (Za E_iiiiiiAi L0) 27), some (.cells (Za E_iiiiiiAi v1) 27)]

noncomputable def Zav : Nat → Code × List Zat
 | 1 => Zbp [1, 1, 1, 1, 0, 1, 3] (Zd1 Tryz.f6) []
 | _ => (.skip, [])
def Zfu : Nat → Bool
 | 1 => true
 | _ => true
noncomputable def Zjj (i : Nat) : List Zat := match Zfu i with | true => .rnd i :: (Zav i).2 | false => (Zav i).2

noncomputable def ZQ (L0 : List R_iiiiiiAi) (N : Nat) : Mach := ⟨Tryz.f6, [.cells (Za E_iiiiiiAi L0) 27], Zr, ZF, Zaw L0 N, Zi2, Zav, Zfu, Zjh L0, Zji L0, ZfX L0, Zft L0⟩

theorem ZgA (L0 : List R_iiiiiiAi) (N : Nat) : (ZQ L0 N).Ok Tryz.prog ZE (.h1m0 : Zr) (Zaw L0 N (.h1m0 : Zr)) := by
 show (ZQ L0 N).Ok Tryz.prog ZE (.h1m0 : Zr) (ZcA L0 N)
 unfold ZcA
 exact Mach.ok_fin (M := ZQ L0 N) (cd := 1000000) (cm := 0) (r := (.r1 : ZF)) (fu := 4000) (orc := (ZM [] [] [] [] [])) (live := [0]) (u := Value.tuple #[ms E_iiiiiiAi ([] : List R_iiiiiiAi), vq]) (bl := [some (.cells (Za E_iiiiiiAi L0) 27)]) (ob := []) (fun gv => by kernel_rfl) Zp rfl (by decide) (by rfl) rr ⟨(Zq (E := E_iiiiiiAi) (α := R_iiiiiiAi) _ L0 _), trivial⟩

theorem ZgB (L0 v1 : List R_iiiiiiAi) (v4 N : Nat) : (ZQ L0 N).Ok Tryz.prog ZE (.h1m1 v1 v4 : Zr) (Zaw L0 N (.h1m1 v1 v4 : Zr)) := by
 show (ZQ L0 N).Ok Tryz.prog ZE (.h1m1 v1 v4 : Zr) (Zar L0 N v1 v4)
 unfold Zar
 refine Mach.ok_ite (fun g0 => ?_) (fun g0 => ?_)
 ·
  refine Mach.ok_ite (fun g1 => ?_) (fun g1 => ?_)
  ·
   refine Mach.ok_bind (fun z2 c2 => ?_)
   cases z2 with
   | r0 =>
    refine Mach.ok_ite (fun g3 => ?_) (fun g3 => ?_)
    ·
     exact Mach.ok_next (M := ZQ L0 N) (cd := 1000000) (cm := 0) (y := (.h1m1 ((v1.set v4 (⟨(v1.getD v4 R_iiiiiiAi.z).a0, (v1.getD v4 R_iiiiiiAi.z).a1, (v1.getD v4 R_iiiiiiAi.z).a2, (v1.getD v4 R_iiiiiiAi.z).a3, (v1.getD v4 R_iiiiiiAi.z).a4, (v1.getD v4 R_iiiiiiAi.z).a5, (v1.getD v4 R_iiiiiiAi.z).a6, (v1.getD v4 R_iiiiiiAi.z).a7⟩ : R_iiiiiiAi))) ((v4 + 1)) : Zr)) (fu := 4000) (orc := (ZM [(0, true)] [(0, (((v4 + 1) : Nat) : Int))] [(0, v4), (1, v4)] [(0, [(mc E_ii (v1.getD v4 R_iiiiiiAi.z).a6)])] [(0, (Zdb ((v1.getD v4 R_iiiiiiAi.z).a6)    2)), (1, .st (Za E_iiiiiiAi (v1.set v4 (⟨(v1.getD v4 R_iiiiiiAi.z).a0, (v1.getD v4 R_iiiiiiAi.z).a1, (v1.getD v4 R_iiiiiiAi.z).a2, (v1.getD v4 R_iiiiiiAi.z).a3, (v1.getD v4 R_iiiiiiAi.z).a4, (v1.getD v4 R_iiiiiiAi.z).a5, (v1.getD v4 R_iiiiiiAi.z).a6, (v1.getD v4 R_iiiiiiAi.z).a7⟩ : R_iiiiiiAi))))])) (live := [0, 1]) (tv := fun _ => [some (vs 1 0 L0.length L0.length), some (vi (L0.length : Int)), some (vi (((v4 + 1) : Nat) : Int))]) (bl := [some (.cells (Za E_iiiiiiAi L0) 27), some (.cells (Za E_iiiiiiAi (v1.set v4 (⟨(v1.getD v4 R_iiiiiiAi.z).a0, (v1.getD v4 R_iiiiiiAi.z).a1, (v1.getD v4 R_iiiiiiAi.z).a2, (v1.getD v4 R_iiiiiiAi.z).a3, (v1.getD v4 R_iiiiiiAi.z).a4, (v1.getD v4 R_iiiiiiAi.z).a5, (v1.getD v4 R_iiiiiiAi.z).a6, (v1.getD v4 R_iiiiiiAi.z).a7⟩ : R_iiiiiiAi))) 27)]) (ob := [((IntKind.i64.wrap ((v4 : Int) + (1 : Int))) == (((v4 + 1) : Nat) : Int), true), (dP (((0 + (v4 * 8)) + 6) + ([ms E_ii (v1.getD v4 R_iiiiiiAi.z).a6] : List Value).length ≤ ((Za E_iiiiiiAi v1) : List Value).length ∧ Zdd (Za E_iiiiiiAi v1) ((0 + (v4 * 8)) + 6) [ms E_ii (v1.getD v4 R_iiiiiiAi.z).a6] = (Za E_iiiiiiAi (v1.set v4 (⟨(v1.getD v4 R_iiiiiiAi.z).a0, (v1.getD v4 R_iiiiiiAi.z).a1, (v1.getD v4 R_iiiiiiAi.z).a2, (v1.getD v4 R_iiiiiiAi.z).a3, (v1.getD v4 R_iiiiiiAi.z).a4, (v1.getD v4 R_iiiiiiAi.z).a5, (v1.getD v4 R_iiiiiiAi.z).a6, (v1.getD v4 R_iiiiiiAi.z).a7⟩ : R_iiiiiiAi)))), true), (Nat.blt v4 L0.length, true), ((v4 : Int) == Int.ofNat v4, true), (dP (Zbh #[ms E_ii (v1.getD v4 R_iiiiiiAi.z).a6] ((v1.getD v4 R_iiiiiiAi.z).a6)    2), true), (Z4 (Zl 1 (List.drop ((0 + (v4 * 8)) + 6) (Za E_iiiiiiAi v1))) [(mc E_ii (v1.getD v4 R_iiiiiiAi.z).a6)], true), (Nat.blt v4 L0.length, true), ((v4 : Int) == Int.ofNat v4, true), ((decide ((v4 : Int) < (L0.length : Int))), true)]) rfl (show 1 ∈ ZA (Zjj 1) from by decide +kernel) (fun gv => by kernel_rfl) (Zc (beq_iff_eq.2 ((wrap_i64 ltA).trans (by first | rfl | omega))) <| Zc (Z2 (ZmZ (E := E_iiiiiiAi) (L := v1) (i := v4) (q := 6) (l := [ms E_ii (v1.getD v4 R_iiiiiiAi.z).a6]) (⟨(v1.getD v4 R_iiiiiiAi.z).a0, (v1.getD v4 R_iiiiiiAi.z).a1, (v1.getD v4 R_iiiiiiAi.z).a2, (v1.getD v4 R_iiiiiiAi.z).a3, (v1.getD v4 R_iiiiiiAi.z).a4, (v1.getD v4 R_iiiiiiAi.z).a5, (v1.getD v4 R_iiiiiiAi.z).a6, (v1.getD v4 R_iiiiiiAi.z).a7⟩ : R_iiiiiiAi) (by omega) (show ((0 + (v4 * 8)) + 6) = v4 * 8 + 6 from by omega) (show 6 + 1 ≤ 8 from by decide) rfl)) <| oB <| oI <| Zc (Z2 (Zdc #[ms E_ii (v1.getD v4 R_iiiiiiAi.z).a6] ((v1.getD v4 R_iiiiiiAi.z).a6)   N c2  2 rfl (by decide) (by decide))) <| Zc (Zn (E := E_iiiiiiAi) (L := v1) (i := v4) (q := 6) (by omega) (show ((0 + (v4 * 8)) + 6) = v4 * 8 + 6 from by omega) (show 6 + 1 ≤ 8 from by decide) rfl rfl) <| oB <| oI <| oY Zp) rfl (by decide) (by rfl) (fun _ => ⟨rr, ⟨rr, ⟨rr, trivial⟩⟩⟩) ⟨(Zq (E := E_iiiiiiAi) (α := R_iiiiiiAi) _ L0 _), ⟨(Zq (E := E_iiiiiiAi) (α := R_iiiiiiAi) _ (v1.set v4 (⟨(v1.getD v4 R_iiiiiiAi.z).a0, (v1.getD v4 R_iiiiiiAi.z).a1, (v1.getD v4 R_iiiiiiAi.z).a2, (v1.getD v4 R_iiiiiiAi.z).a3, (v1.getD v4 R_iiiiiiAi.z).a4, (v1.getD v4 R_iiiiiiAi.z).a5, (v1.getD v4 R_iiiiiiAi.z).a6, (v1.getD v4 R_iiiiiiAi.z).a7⟩ : R_iiiiiiAi)) _), trivial⟩⟩
    ·
     exact Mach.ok_none
  ·
   exact Mach.ok_none
 ·
  exact Mach.ok_fin (M := ZQ L0 N) (cd := 1000000) (cm := 0) (r := (.r2 (v1) : ZF)) (fu := 4000) (orc := (ZM [(0, false)] [] [] [] [])) (live := [0, 1]) (u := Value.tuple #[vs 1 0 L0.length L0.length, vq]) (bl := [some (.cells (Za E_iiiiiiAi L0) 27), some (.cells (Za E_iiiiiiAi v1) 27)]) (ob := [((decide ((v4 : Int) < (L0.length : Int))), false)]) (fun gv => by kernel_rfl) (oN Zp) rfl (by decide) (by rfl) rr ⟨(Zq (E := E_iiiiiiAi) (α := R_iiiiiiAi) _ L0 _), ⟨(Zq (E := E_iiiiiiAi) (α := R_iiiiiiAi) _ v1 _), trivial⟩⟩

theorem Zig (L0 : List R_iiiiiiAi) (N : Nat) : (ZQ L0 N).Enter Tryz.prog ZE #[vs 0 0 L0.length L0.length] (Zbc L0 N) := by
 unfold Zbc
 refine Mach.en_bind (fun z0 c0 => ?_)
 cases z0 with
 | r0 y0_0 =>
  refine Mach.en_ite (fun g1 => ?_) (fun g1 => ?_)
  ·
   exact Mach.en_fin (M := ZQ L0 N) (cd := 1000000) (cm := 0) (r := (.r0 : ZF)) (fu := 4000) (orc := (ZM [(0, true)] [] [] [] [(0, (ZcQ (L0)  y0_0 0 1))])) (live := [0]) (u := Value.tuple #[vn, vi (220 : Int)]) (bl := [some (.cells (Za E_iiiiiiAi L0) 27)]) (ob := [((!y0_0), true), (dP (ZbP #[vs 0 0 L0.length L0.length] (L0)  y0_0 0 1), true), (dS (Za E_iiiiiiAi L0), true)]) (by kernel_rfl) (Zc (Zoi (by first | assumption | simp_all)) <| Zc (Z2 (ZcR #[vs 0 0 L0.length L0.length] (L0)  y0_0 N c0 0 1 rfl (by decide) (by decide))) <| oR Zp) rfl (by decide) (by rfl) rr ⟨(Zq (E := E_iiiiiiAi) (α := R_iiiiiiAi) _ L0 _), trivial⟩
  ·
   refine Mach.en_bind (fun z2 c2 => ?_)
   cases z2 with
   | r0 =>
    refine Mach.en_bind (fun z3 c3 => ?_)
    cases z3 with
    | r0 =>
     exact Mach.en_head (bK := Zav 1) (M := ZQ L0 N) (cd := 1000000) (cm := 0) (y := (.h1m0 : Zr)) (fu := 4000) (orc := (ZM [(0, false)] [] [] [] [(0, (ZcQ (L0)  y0_0 0 1)), (1, (Zch (L0)   0 1)), (2, (ZaC (([] : List R_iiiiiiAi))    1))])) (live := [0]) (tv := [some (ms E_iiiiiiAi ([] : List R_iiiiiiAi)), some (vq), some (vq)]) (bl := [some (.cells (Za E_iiiiiiAi L0) 27)]) (ob := [(dP (Zaj #[ms E_iiiiiiAi ([] : List R_iiiiiiAi), Value.func (.func 16) #[] #[]] (([] : List R_iiiiiiAi))    1), true), (dP (ZaI #[vs 0 0 L0.length L0.length] (L0)   0 1), true), (dS (Za E_iiiiiiAi L0), true), ((!y0_0), false), (dP (ZbP #[vs 0 0 L0.length L0.length] (L0)  y0_0 0 1), true), (dS (Za E_iiiiiiAi L0), true)]) rfl rfl (show ZA (Zav 1).2 = [] from rfl) (by kernel_rfl) (Zc (Z2 (ZaD #[ms E_iiiiiiAi ([] : List R_iiiiiiAi), Value.func (.func 16) #[] #[]] (([] : List R_iiiiiiAi))   N c3  1 rfl (by decide) (by decide))) <| Zc (Z2 (Zci #[vs 0 0 L0.length L0.length] (L0)   N c2 0 1 rfl (by decide) (by decide))) <| oR <| Zc (Zmw (by first | assumption | exact Decidable.not_not.1 (by assumption) | simp_all)) <| Zc (Z2 (ZcR #[vs 0 0 L0.length L0.length] (L0)  y0_0 N c0 0 1 rfl (by decide) (by decide))) <| oR Zp) rfl (by decide) (by rfl) ⟨rr, ⟨rr, ⟨rr, trivial⟩⟩⟩ ⟨(Zq (E := E_iiiiiiAi) (α := R_iiiiiiAi) _ L0 _), trivial⟩
   | r1 =>
    refine Mach.en_bind (fun z3 c3 => ?_)
    cases z3 with
    | r0 y3_0 =>
     exact Mach.en_head (bK := Zav 1) (M := ZQ L0 N) (cd := 1000000) (cm := 0) (y := (.h1m1 (y3_0) (0) : Zr)) (fu := 4000) (orc := (ZM [(0, false)] [] [] [] [(0, (ZcQ (L0)  y0_0 0 1)), (1, (Zcj (L0)   0 1)), (2, (ZbR (L0)  y3_0 1 2))])) (live := [0, 1]) (tv := [some (vs 1 0 L0.length L0.length), some (vi (L0.length : Int)), some (vq)]) (bl := [some (.cells (Za E_iiiiiiAi L0) 27), some (.cells (Za E_iiiiiiAi y3_0) 27)]) (ob := [(dP (Za5 #[vs 1 0 L0.length L0.length, Value.func (.func 16) #[] #[]] (L0)  y3_0 1 2), true), (dS (Za E_iiiiiiAi L0), true), (dP (ZaJ #[vs 0 0 L0.length L0.length] (L0)   0 1), true), (dS (Za E_iiiiiiAi L0), true), ((!y0_0), false), (dP (ZbP #[vs 0 0 L0.length L0.length] (L0)  y0_0 0 1), true), (dS (Za E_iiiiiiAi L0), true)]) rfl rfl (show ZA (Zav 1).2 = [] from rfl) (by kernel_rfl) (Zc (Z2 (ZbS #[vs 1 0 L0.length L0.length, Value.func (.func 16) #[] #[]] (L0)  y3_0 N c3 1 2 rfl (by decide) (by decide))) <| oR <| Zc (Z2 (Zck #[vs 0 0 L0.length L0.length] (L0)   N c2 0 1 rfl (by decide) (by decide))) <| oR <| Zc (Zmw (by first | assumption | exact Decidable.not_not.1 (by assumption) | simp_all)) <| Zc (Z2 (ZcR #[vs 0 0 L0.length L0.length] (L0)  y0_0 N c0 0 1 rfl (by decide) (by decide))) <| oR Zp) rfl (by decide) (by rfl) ⟨rr, ⟨rr, ⟨⟨Eq.trans (show (vi ((0 : Nat) : Int) : Value) = vq from (congrArg (Value.int .i64) (by first | rfl | omega))) (by rfl), by rfl⟩, trivial⟩⟩⟩ ⟨(Zq (E := E_iiiiiiAi) (α := R_iiiiiiAi) _ L0 _), ⟨(Zq (E := E_iiiiiiAi) (α := R_iiiiiiAi) _ y3_0 _), trivial⟩⟩

theorem ZcD (L0 : List R_iiiiiiAi) (N : Nat) (r : ZF) (h : Zbg L0 N = some r) : LSpec Tryz.prog 6 #[vs 0 0 L0.length L0.length] [.cells (Za E_iiiiiiAi L0) 27] (ZfX L0 r) (Zft L0 r) :=
 Mach.spec Zfp (ZQ L0 N) Tryz.func6 (by kernel_rfl) (by kernel_rfl) (fun x => by cases x <;> exact ZbU _ rfl) (fun r => by cases r <;> exact ZbU _ rfl) (fun x => by
  cases x with
  | h1m0 => exact fun _ => (show ¬ (1 ∈ ZA (Zav 1).2) from by decide +kernel)
  | h1m1 _ _ => exact fun _ => (show ¬ (1 ∈ ZA (Zav 1).2) from by decide +kernel)
  ) (fun x => (show (ZQ L0 N).Ok Tryz.prog ZE x (Zaw L0 N x) from by
  cases x with
  | h1m0 => exact ZgA L0 N
  | h1m1 v1 v4 => exact ZgB L0 v1 v4 N
  )) (Zig L0 N) (n := N) h

noncomputable def Zi3 (L0 : List R_iiiiiiAi) (k0 n : Nat) : Zb0 := .call [(k0, .cells (Za E_iiiiiiAi L0) 27)] (Value.tuple #[vn, vi (220 : Int)]) [] 0
def Zfv (A : Array Value) (L0 : List R_iiiiiiAi) (k0 n : Nat) : Prop := ZO Tryz.prog 6 A [(k0, .cells (Za E_iiiiiiAi L0) 27)] (Value.tuple #[vn, vi (220 : Int)]) [] n 0

theorem Zi4 (A : Array Value) (L0 : List R_iiiiiiAi) (N : Nat) (h : Zbg L0 N = some (.r0)) (k0 n : Nat) (hA : A = #[vs k0 0 L0.length L0.length]) (hnd : ([k0] : List Nat).Nodup) (hlt : ∀ k ∈ ([k0] : List Nat), k < n) : Zfv A L0 k0 n :=
 ZaN hA (LSpec.callL (show LSpec Tryz.prog 6 #[vs 0 0 L0.length L0.length] [.cells (Za E_iiiiiiAi L0) 27] (Value.tuple #[vn, vi (220 : Int)]) [some (.cells (Za E_iiiiiiAi L0) 27)] from ZcD L0 N _ h) [k0] n [] rfl hnd hlt (show 1 ≤ 1 from by decide) (show ∀ j ∈ ([] : List Nat), j < 1 from by decide) (by rfl) ⟨(ZW _ _ _), trivial⟩ (by rfl) ⟨(ZW _ _ _), trivial⟩ ⟨.inr rfl, trivial⟩ rfl rfl rfl (Zb7 (Zb8 rfl (Zbf _ _ _)) rfl) rfl)

noncomputable def Zi5 (L0 : List R_iiiiiiAi) (k0 n : Nat) : Zb0 := .call [(k0, .cells (Za E_iiiiiiAi L0) 27)] (Value.tuple #[ms E_iiiiiiAi ([] : List R_iiiiiiAi), vq]) [] 0
def Zfw (A : Array Value) (L0 : List R_iiiiiiAi) (k0 n : Nat) : Prop := ZO Tryz.prog 6 A [(k0, .cells (Za E_iiiiiiAi L0) 27)] (Value.tuple #[ms E_iiiiiiAi ([] : List R_iiiiiiAi), vq]) [] n 0

theorem Zi6 (A : Array Value) (L0 : List R_iiiiiiAi) (N : Nat) (h : Zbg L0 N = some (.r1)) (k0 n : Nat) (hA : A = #[vs k0 0 L0.length L0.length]) (hnd : ([k0] : List Nat).Nodup) (hlt : ∀ k ∈ ([k0] : List Nat), k < n) : Zfw A L0 k0 n :=
 ZaN hA (LSpec.callL (show LSpec Tryz.prog 6 #[vs 0 0 L0.length L0.length] [.cells (Za E_iiiiiiAi L0) 27] (Value.tuple #[ms E_iiiiiiAi ([] : List R_iiiiiiAi), vq]) [some (.cells (Za E_iiiiiiAi L0) 27)] from ZcD L0 N _ h) [k0] n [] rfl hnd hlt (show 1 ≤ 1 from by decide) (show ∀ j ∈ ([] : List Nat), j < 1 from by decide) (by rfl) ⟨(ZW _ _ _), trivial⟩ (by rfl) ⟨(ZW _ _ _), trivial⟩ ⟨.inr rfl, trivial⟩ rfl rfl rfl (Zb7 (Zb8 rfl (Zbf _ _ _)) rfl) rfl)

noncomputable def Zi7 (L0 w1 : List R_iiiiiiAi) (k0 n : Nat) : Zb0 := .call [(k0, .cells (Za E_iiiiiiAi L0) 27)] (Value.tuple #[vs n 0 L0.length L0.length, vq]) [(n, some (.cells (Za E_iiiiiiAi w1) 27))] 1
def Zfx (A : Array Value) (L0 w1 : List R_iiiiiiAi) (k0 n : Nat) : Prop := ZO Tryz.prog 6 A [(k0, .cells (Za E_iiiiiiAi L0) 27)] (Value.tuple #[vs n 0 L0.length L0.length, vq]) [(n, some (.cells (Za E_iiiiiiAi w1) 27))] n 1

theorem Zi8 (A : Array Value) (L0 w1 : List R_iiiiiiAi) (N : Nat) (h : Zbg L0 N = some (.r2 w1)) (k0 n : Nat) (hA : A = #[vs k0 0 L0.length L0.length]) (hnd : ([k0] : List Nat).Nodup) (hlt : ∀ k ∈ ([k0] : List Nat), k < n) : Zfx A L0 w1 k0 n :=
 ZaN hA (LSpec.callL (show LSpec Tryz.prog 6 #[vs 0 0 L0.length L0.length] [.cells (Za E_iiiiiiAi L0) 27] (Value.tuple #[vs 1 0 L0.length L0.length, vq]) [some (.cells (Za E_iiiiiiAi L0) 27), some (.cells (Za E_iiiiiiAi w1) 27)] from ZcD L0 N _ h) [k0] n [1] rfl hnd hlt (show 1 ≤ 2 from by decide) (show ∀ j ∈ ([1] : List Nat), j < 2 from by decide) (by rfl) ⟨(ZW _ _ _), trivial⟩ (by rfl) ⟨(ZW _ _ _), ⟨(ZW _ _ _), trivial⟩⟩ ⟨.inr rfl, ⟨(by decide), trivial⟩⟩ rfl rfl rfl (Zb7 (Zb8 rfl (Zbf _ _ _)) rfl) (Zb7 (Zb8 rfl (ZgN (Zbf _ _ _))) rfl))

noncomputable def Ze3 (L0 : List R_iiiiiiAi) : Zg → Value
 | .r0 w0 => Value.bool w0
noncomputable def ZdQ (L0 : List R_iiiiiiAi) : Zg → List (Option AObj)
 | .r0 w0 => []

def ZgU : Ze → Nat
 | .h1m0 => 1
 | .h1m1 v0 => 1
 | .h1m2 v0 v1 v2 v3 => 1
 | .h2m0 v0 v1 v2 v3 v4 => 2
noncomputable def Zh5 (L0 : List R_iiiiiiAi) : Ze → List (Nat × Value)
 | .h1m0 => [(0, vn), (3, ms E_iiiiiiAi ([] : List R_iiiiiiAi)), (5, vq)]
 | .h1m1 v0 => [(0, vs 0 0 v0.length v0.length), (3, ms E_iiiiiiAi ([] : List R_iiiiiiAi)), (5, vq)]
 | .h1m2 v0 v1 v2 v3 => [(0, vs 0 0 v0.length v0.length), (3, vs 1 0 v2 v2), (5, vi (v3 : Int))]
 | .h2m0 v0 v1 v2 v3 v4 => [(0, vs 0 0 v0.length v0.length), (3, vs 1 0 v2 v2), (5, vi (v3 : Int)), (6, vi (v4 : Int))]
noncomputable def Zh6 (L0 : List R_iiiiiiAi) : Ze → List (Option AObj)
 | .h1m0 => []
 | .h1m1 v0 => [some (.cells (Za E_iiiiiiAi v0) 27)]
 | .h1m2 v0 v1 v2 v3 => [some (.cells (Za E_iiiiiiAi v0) 27), some (.cells (Za E_iiiiiiAi v1) 27)]
 | .h2m0 v0 v1 v2 v3 v4 => [some (.cells (Za E_iiiiiiAi v0) 27), some (.cells (Za E_iiiiiiAi v1) 27)]

noncomputable def Zz : Nat → Code × List Zat
 | 1 => Zbp [1, 1, 1, 1, 0, 1, 3] (Zd1 Tryz.f4) []
 | 2 => Zbp [1, 1, 1, 1, 0, 1, 3, 7, 1, 0, 3, 1, 3] (Zd1 Tryz.f4) []
 | _ => (.skip, [])
def ZdR : Nat → Bool
 | 1 => true
 | 2 => true
 | _ => true
noncomputable def ZbT (i : Nat) : List Zat := match ZdR i with | true => .rnd i :: (Zz i).2 | false => (Zz i).2

noncomputable def Zh (L0 : List R_iiiiiiAi) (N : Nat) : Mach := ⟨Tryz.f4, [], Ze, Zg, Z3 L0 N, ZgU, Zz, ZdR, Zh5 L0, Zh6 L0, Ze3 L0, ZdQ L0⟩

theorem Zfy (L0 : List R_iiiiiiAi) (N : Nat) : (Zh L0 N).Ok Tryz.prog ZE (.h1m0 : Ze) (Z3 L0 N (.h1m0 : Ze)) := by
 show (Zh L0 N).Ok Tryz.prog ZE (.h1m0 : Ze) (ZbL L0 N)
 unfold ZbL
 exact Mach.ok_fin (M := Zh L0 N) (cd := 1000000) (cm := 0) (r := (.r0 (true) : Zg)) (fu := 4000) (orc := (ZM [] [] [] [] [])) (live := []) (u := vT) (bl := []) (ob := []) (fun gv => by kernel_rfl) Zp rfl (by decide) (by rfl) rr trivial

theorem Zfz (L0 v0 : List R_iiiiiiAi) (N : Nat) : (Zh L0 N).Ok Tryz.prog ZE (.h1m1 v0 : Ze) (Z3 L0 N (.h1m1 v0 : Ze)) := by
 show (Zh L0 N).Ok Tryz.prog ZE (.h1m1 v0 : Ze) (ZbM L0 N v0)
 unfold ZbM
 refine Mach.ok_ite (fun g0 => ?_) (fun g0 => ?_)
 ·
  exact Mach.ok_fin (M := Zh L0 N) (cd := 1000000) (cm := 0) (r := (.r0 (true) : Zg)) (fu := 4000) (orc := (ZM [(1, true)] [] [] [] [])) (live := []) (u := vT) (bl := []) (ob := [(((0 : Int) == (v0.length : Int)), true)]) (fun gv => by kernel_rfl) (oT Zp) rfl (by decide) (by rfl) rr trivial
 ·
  exact Mach.ok_fin (M := Zh L0 N) (cd := 1000000) (cm := 0) (r := (.r0 (false) : Zg)) (fu := 4000) (orc := (ZM [(1, false)] [] [] [] [])) (live := []) (u := vf) (bl := []) (ob := [(((0 : Int) == (v0.length : Int)), false)]) (fun gv => by kernel_rfl) (oF Zp) rfl (by decide) (by rfl) rr trivial

theorem Zf0 (L0 v0 v1 : List R_iiiiiiAi) (v2 v3 N : Nat) : (Zh L0 N).Ok Tryz.prog ZE (.h1m2 v0 v1 v2 v3 : Ze) (Z3 L0 N (.h1m2 v0 v1 v2 v3 : Ze)) := by
 show (Zh L0 N).Ok Tryz.prog ZE (.h1m2 v0 v1 v2 v3 : Ze) (Zad L0 N v0 v1 v2 v3)
 unfold Zad
 refine Mach.ok_ite (fun g0 => ?_) (fun g0 => ?_)
 ·
  exact Mach.ok_head (bK := Zz 2) (M := Zh L0 N) (cd := 1000000) (cm := 0) (y := (.h2m0 (v0) (v1) (v2) (v3) (0) : Ze)) (fu := 4000) (orc := (ZM [(0, true)] [] [] [] [])) (live := [0, 1]) (tv := fun _ => [some (vs 0 0 v0.length v0.length), some (vs 1 0 v2 v2), some (vi (v3 : Int)), some (vq)]) (bl := [some (.cells (Za E_iiiiiiAi v0) 27), some (.cells (Za E_iiiiiiAi v1) 27)]) (ob := [((decide ((v3 : Int) < (v2 : Int))), true)]) rfl rfl (show ∀ j ∈ ZA (Zz 2).2, j ∈ ZA (ZbT 1) from by decide +kernel) (fun gv => by kernel_rfl) (oY Zp) rfl (by decide) (by rfl) (fun _ => ⟨rr, ⟨rr, ⟨rr, ⟨⟨Eq.trans (show (vi ((0 : Nat) : Int) : Value) = vq from (congrArg (Value.int .i64) (by first | rfl | omega))) (by rfl), by rfl⟩, trivial⟩⟩⟩⟩) ⟨(Zq (E := E_iiiiiiAi) (α := R_iiiiiiAi) _ v0 _), ⟨(Zq (E := E_iiiiiiAi) (α := R_iiiiiiAi) _ v1 _), trivial⟩⟩
 ·
  refine Mach.ok_ite (fun g1 => ?_) (fun g1 => ?_)
  ·
   exact Mach.ok_fin (M := Zh L0 N) (cd := 1000000) (cm := 0) (r := (.r0 (true) : Zg)) (fu := 4000) (orc := (ZM [(0, false), (1, true)] [] [] [] [])) (live := []) (u := vT) (bl := []) (ob := [(((v2 : Int) == (v0.length : Int)), true), ((decide ((v3 : Int) < (v2 : Int))), false)]) (fun gv => by kernel_rfl) (oT <| oN Zp) rfl (by decide) (by rfl) rr trivial
  ·
   exact Mach.ok_fin (M := Zh L0 N) (cd := 1000000) (cm := 0) (r := (.r0 (false) : Zg)) (fu := 4000) (orc := (ZM [(0, false), (1, false)] [] [] [] [])) (live := []) (u := vf) (bl := []) (ob := [(((v2 : Int) == (v0.length : Int)), false), ((decide ((v3 : Int) < (v2 : Int))), false)]) (fun gv => by kernel_rfl) (oF <| oN Zp) rfl (by decide) (by rfl) rr trivial

theorem Zf1 (L0 v0 v1 : List R_iiiiiiAi) (v2 v3 v4 N : Nat) : (Zh L0 N).Ok Tryz.prog ZE (.h2m0 v0 v1 v2 v3 v4 : Ze) (Z3 L0 N (.h2m0 v0 v1 v2 v3 v4 : Ze)) := by
 show (Zh L0 N).Ok Tryz.prog ZE (.h2m0 v0 v1 v2 v3 v4 : Ze) (Zae L0 N v0 v1 v2 v3 v4)
 unfold Zae
 refine Mach.ok_ite (fun g0 => ?_) (fun g0 => ?_)
 ·
  refine Mach.ok_ite (fun g1 => ?_) (fun g1 => ?_)
  ·
   refine Mach.ok_ite (fun g2 => ?_) (fun g2 => ?_)
   ·
    refine Mach.ok_ite (fun g3 => ?_) (fun g3 => ?_)
    ·
     exact Mach.ok_fin (M := Zh L0 N) (cd := 1000000) (cm := 0) (r := (.r0 (false) : Zg)) (fu := 4000) (orc := (ZM [(0, true), (1, true)] [] [(0, v3), (1, v4)] [(0, [.i (v1.getD v3 R_iiiiiiAi.z).a0, .i (v1.getD v3 R_iiiiiiAi.z).a1, .i (v1.getD v3 R_iiiiiiAi.z).a2, .i (v1.getD v3 R_iiiiiiAi.z).a3, .i (v1.getD v3 R_iiiiiiAi.z).a4, .i (v1.getD v3 R_iiiiiiAi.z).a5, (mc E_ii (v1.getD v3 R_iiiiiiAi.z).a6), .i (v1.getD v3 R_iiiiiiAi.z).a7]), (1, [.i (v1.getD v4 R_iiiiiiAi.z).a0, .i (v1.getD v4 R_iiiiiiAi.z).a1, .i (v1.getD v4 R_iiiiiiAi.z).a2, .i (v1.getD v4 R_iiiiiiAi.z).a3, .i (v1.getD v4 R_iiiiiiAi.z).a4, .i (v1.getD v4 R_iiiiiiAi.z).a5, (mc E_ii (v1.getD v4 R_iiiiiiAi.z).a6), .i (v1.getD v4 R_iiiiiiAi.z).a7])] [])) (live := []) (u := vf) (bl := []) (ob := [((decide ((v1.getD v3 R_iiiiiiAi.z).a5 < (v1.getD v4 R_iiiiiiAi.z).a3)), true), (Z4 (Zl 8 (List.drop (0 + (v4 * 8)) (Za E_iiiiiiAi v1))) [.i (v1.getD v4 R_iiiiiiAi.z).a0, .i (v1.getD v4 R_iiiiiiAi.z).a1, .i (v1.getD v4 R_iiiiiiAi.z).a2, .i (v1.getD v4 R_iiiiiiAi.z).a3, .i (v1.getD v4 R_iiiiiiAi.z).a4, .i (v1.getD v4 R_iiiiiiAi.z).a5, (mc E_ii (v1.getD v4 R_iiiiiiAi.z).a6), .i (v1.getD v4 R_iiiiiiAi.z).a7], true), (Nat.blt v4 v2, true), ((v4 : Int) == Int.ofNat v4, true), (Z4 (Zl 8 (List.drop (0 + (v3 * 8)) (Za E_iiiiiiAi v1))) [.i (v1.getD v3 R_iiiiiiAi.z).a0, .i (v1.getD v3 R_iiiiiiAi.z).a1, .i (v1.getD v3 R_iiiiiiAi.z).a2, .i (v1.getD v3 R_iiiiiiAi.z).a3, .i (v1.getD v3 R_iiiiiiAi.z).a4, .i (v1.getD v3 R_iiiiiiAi.z).a5, (mc E_ii (v1.getD v3 R_iiiiiiAi.z).a6), .i (v1.getD v3 R_iiiiiiAi.z).a7], true), (Nat.blt v3 v2, true), ((v3 : Int) == Int.ofNat v3, true), ((decide ((v4 : Int) < (v3 : Int))), true)]) (fun gv => by kernel_rfl) (oY <| Zc (Zn (E := E_iiiiiiAi) (L := v1) (i := v4) (q := 0) (by omega) (show (0 + (v4 * 8)) = v4 * 8 + 0 from by omega) (show 0 + 8 ≤ 8 from by decide) rfl rfl) <| oB <| oI <| Zc (Zn (E := E_iiiiiiAi) (L := v1) (i := v3) (q := 0) (by omega) (show (0 + (v3 * 8)) = v3 * 8 + 0 from by omega) (show 0 + 8 ≤ 8 from by decide) rfl rfl) <| oB <| oI <| oY Zp) rfl (by decide) (by rfl) rr trivial
    ·
     refine Mach.ok_ite (fun g4 => ?_) (fun g4 => ?_)
     ·
      exact Mach.ok_fin (M := Zh L0 N) (cd := 1000000) (cm := 0) (r := (.r0 (false) : Zg)) (fu := 4000) (orc := (ZM [(0, true), (1, false), (2, true)] [] [(0, v3), (1, v4), (2, v4), (3, v3)] [(0, [.i (v1.getD v3 R_iiiiiiAi.z).a0, .i (v1.getD v3 R_iiiiiiAi.z).a1, .i (v1.getD v3 R_iiiiiiAi.z).a2, .i (v1.getD v3 R_iiiiiiAi.z).a3, .i (v1.getD v3 R_iiiiiiAi.z).a4, .i (v1.getD v3 R_iiiiiiAi.z).a5, (mc E_ii (v1.getD v3 R_iiiiiiAi.z).a6), .i (v1.getD v3 R_iiiiiiAi.z).a7]), (1, [.i (v1.getD v4 R_iiiiiiAi.z).a0, .i (v1.getD v4 R_iiiiiiAi.z).a1, .i (v1.getD v4 R_iiiiiiAi.z).a2, .i (v1.getD v4 R_iiiiiiAi.z).a3, .i (v1.getD v4 R_iiiiiiAi.z).a4, .i (v1.getD v4 R_iiiiiiAi.z).a5, (mc E_ii (v1.getD v4 R_iiiiiiAi.z).a6), .i (v1.getD v4 R_iiiiiiAi.z).a7]), (4, [.i (v1.getD v4 R_iiiiiiAi.z).a4]), (5, [.i (v1.getD v3 R_iiiiiiAi.z).a4])] [])) (live := []) (u := vf) (bl := []) (ob := [((decide ((v1.getD v4 R_iiiiiiAi.z).a4 ≥ (v1.getD v3 R_iiiiiiAi.z).a4)), true), (Z4 (Zl 1 (List.drop ((0 + (v3 * 8)) + 4) (Za E_iiiiiiAi v1))) [.i (v1.getD v3 R_iiiiiiAi.z).a4], true), (Nat.blt v3 v2, true), ((v3 : Int) == Int.ofNat v3, true), (Z4 (Zl 1 (List.drop ((0 + (v4 * 8)) + 4) (Za E_iiiiiiAi v1))) [.i (v1.getD v4 R_iiiiiiAi.z).a4], true), (Nat.blt v4 v2, true), ((v4 : Int) == Int.ofNat v4, true), ((decide ((v1.getD v3 R_iiiiiiAi.z).a5 < (v1.getD v4 R_iiiiiiAi.z).a3)), false), (Z4 (Zl 8 (List.drop (0 + (v4 * 8)) (Za E_iiiiiiAi v1))) [.i (v1.getD v4 R_iiiiiiAi.z).a0, .i (v1.getD v4 R_iiiiiiAi.z).a1, .i (v1.getD v4 R_iiiiiiAi.z).a2, .i (v1.getD v4 R_iiiiiiAi.z).a3, .i (v1.getD v4 R_iiiiiiAi.z).a4, .i (v1.getD v4 R_iiiiiiAi.z).a5, (mc E_ii (v1.getD v4 R_iiiiiiAi.z).a6), .i (v1.getD v4 R_iiiiiiAi.z).a7], true), (Nat.blt v4 v2, true), ((v4 : Int) == Int.ofNat v4, true), (Z4 (Zl 8 (List.drop (0 + (v3 * 8)) (Za E_iiiiiiAi v1))) [.i (v1.getD v3 R_iiiiiiAi.z).a0, .i (v1.getD v3 R_iiiiiiAi.z).a1, .i (v1.getD v3 R_iiiiiiAi.z).a2, .i (v1.getD v3 R_iiiiiiAi.z).a3, .i (v1.getD v3 R_iiiiiiAi.z).a4, .i (v1.getD v3 R_iiiiiiAi.z).a5, (mc E_ii (v1.getD v3 R_iiiiiiAi.z).a6), .i (v1.getD v3 R_iiiiiiAi.z).a7], true), (Nat.blt v3 v2, true), ((v3 : Int) == Int.ofNat v3, true), ((decide ((v4 : Int) < (v3 : Int))), true)]) (fun gv => by kernel_rfl) (oY <| Zc (Zn (E := E_iiiiiiAi) (L := v1) (i := v3) (q := 4) (by omega) (show ((0 + (v3 * 8)) + 4) = v3 * 8 + 4 from by omega) (show 4 + 1 ≤ 8 from by decide) rfl rfl) <| oB <| oI <| Zc (Zn (E := E_iiiiiiAi) (L := v1) (i := v4) (q := 4) (by omega) (show ((0 + (v4 * 8)) + 4) = v4 * 8 + 4 from by omega) (show 4 + 1 ≤ 8 from by decide) rfl rfl) <| oB <| oI <| oN <| Zc (Zn (E := E_iiiiiiAi) (L := v1) (i := v4) (q := 0) (by omega) (show (0 + (v4 * 8)) = v4 * 8 + 0 from by omega) (show 0 + 8 ≤ 8 from by decide) rfl rfl) <| oB <| oI <| Zc (Zn (E := E_iiiiiiAi) (L := v1) (i := v3) (q := 0) (by omega) (show (0 + (v3 * 8)) = v3 * 8 + 0 from by omega) (show 0 + 8 ≤ 8 from by decide) rfl rfl) <| oB <| oI <| oY Zp) rfl (by decide) (by rfl) rr trivial
     ·
      refine Mach.ok_ite (fun g5 => ?_) (fun g5 => ?_)
      ·
       refine Mach.ok_ite (fun g6 => ?_) (fun g6 => ?_)
       ·
        refine Mach.ok_ite (fun g7 => ?_) (fun g7 => ?_)
        ·
         exact Mach.ok_next (M := Zh L0 N) (cd := 1000000) (cm := 0) (y := (.h2m0 (v0) (v1) (v2) (v3) ((v4 + 1)) : Ze)) (fu := 4000) (orc := (ZM [(0, true), (1, false), (2, false), (3, true), (4, true)] [(0, (((v4 + 1) : Nat) : Int))] [(0, v3), (1, v4), (2, v4), (3, v3), (4, v3), (5, v4), (6, v4), (7, v3)] [(0, [.i (v1.getD v3 R_iiiiiiAi.z).a0, .i (v1.getD v3 R_iiiiiiAi.z).a1, .i (v1.getD v3 R_iiiiiiAi.z).a2, .i (v1.getD v3 R_iiiiiiAi.z).a3, .i (v1.getD v3 R_iiiiiiAi.z).a4, .i (v1.getD v3 R_iiiiiiAi.z).a5, (mc E_ii (v1.getD v3 R_iiiiiiAi.z).a6), .i (v1.getD v3 R_iiiiiiAi.z).a7]), (1, [.i (v1.getD v4 R_iiiiiiAi.z).a0, .i (v1.getD v4 R_iiiiiiAi.z).a1, .i (v1.getD v4 R_iiiiiiAi.z).a2, .i (v1.getD v4 R_iiiiiiAi.z).a3, .i (v1.getD v4 R_iiiiiiAi.z).a4, .i (v1.getD v4 R_iiiiiiAi.z).a5, (mc E_ii (v1.getD v4 R_iiiiiiAi.z).a6), .i (v1.getD v4 R_iiiiiiAi.z).a7]), (4, [.i (v1.getD v4 R_iiiiiiAi.z).a4]), (5, [.i (v1.getD v3 R_iiiiiiAi.z).a4]), (6, [.i (v1.getD v3 R_iiiiiiAi.z).a1]), (7, [.i (v1.getD v4 R_iiiiiiAi.z).a1]), (8, [.i (v1.getD v4 R_iiiiiiAi.z).a0, .i (v1.getD v4 R_iiiiiiAi.z).a1, .i (v1.getD v4 R_iiiiiiAi.z).a2, .i (v1.getD v4 R_iiiiiiAi.z).a3, .i (v1.getD v4 R_iiiiiiAi.z).a4, .i (v1.getD v4 R_iiiiiiAi.z).a5, (mc E_ii (v1.getD v4 R_iiiiiiAi.z).a6), .i (v1.getD v4 R_iiiiiiAi.z).a7]), (9, [.i (v1.getD v3 R_iiiiiiAi.z).a0, .i (v1.getD v3 R_iiiiiiAi.z).a1, .i (v1.getD v3 R_iiiiiiAi.z).a2, .i (v1.getD v3 R_iiiiiiAi.z).a3, .i (v1.getD v3 R_iiiiiiAi.z).a4, .i (v1.getD v3 R_iiiiiiAi.z).a5, (mc E_ii (v1.getD v3 R_iiiiiiAi.z).a6), .i (v1.getD v3 R_iiiiiiAi.z).a7])] [])) (live := [0, 1]) (tv := fun _ => [some (vs 0 0 v0.length v0.length), some (vs 1 0 v2 v2), some (vi (v3 : Int)), some (vi (((v4 + 1) : Nat) : Int))]) (bl := [some (.cells (Za E_iiiiiiAi v0) 27), some (.cells (Za E_iiiiiiAi v1) 27)]) (ob := [((IntKind.i64.wrap ((v4 : Int) + (1 : Int))) == (((v4 + 1) : Nat) : Int), true), ((decide ((v1.getD v4 R_iiiiiiAi.z).a5 < (v1.getD v3 R_iiiiiiAi.z).a3)), true), (Z4 (Zl 8 (List.drop (0 + (v3 * 8)) (Za E_iiiiiiAi v1))) [.i (v1.getD v3 R_iiiiiiAi.z).a0, .i (v1.getD v3 R_iiiiiiAi.z).a1, .i (v1.getD v3 R_iiiiiiAi.z).a2, .i (v1.getD v3 R_iiiiiiAi.z).a3, .i (v1.getD v3 R_iiiiiiAi.z).a4, .i (v1.getD v3 R_iiiiiiAi.z).a5, (mc E_ii (v1.getD v3 R_iiiiiiAi.z).a6), .i (v1.getD v3 R_iiiiiiAi.z).a7], true), (Nat.blt v3 v2, true), ((v3 : Int) == Int.ofNat v3, true), (Z4 (Zl 8 (List.drop (0 + (v4 * 8)) (Za E_iiiiiiAi v1))) [.i (v1.getD v4 R_iiiiiiAi.z).a0, .i (v1.getD v4 R_iiiiiiAi.z).a1, .i (v1.getD v4 R_iiiiiiAi.z).a2, .i (v1.getD v4 R_iiiiiiAi.z).a3, .i (v1.getD v4 R_iiiiiiAi.z).a4, .i (v1.getD v4 R_iiiiiiAi.z).a5, (mc E_ii (v1.getD v4 R_iiiiiiAi.z).a6), .i (v1.getD v4 R_iiiiiiAi.z).a7], true), (Nat.blt v4 v2, true), ((v4 : Int) == Int.ofNat v4, true), (((v1.getD v3 R_iiiiiiAi.z).a1 == (v1.getD v4 R_iiiiiiAi.z).a1), true), (Z4 (Zl 1 (List.drop ((0 + (v4 * 8)) + 1) (Za E_iiiiiiAi v1))) [.i (v1.getD v4 R_iiiiiiAi.z).a1], true), (Nat.blt v4 v2, true), ((v4 : Int) == Int.ofNat v4, true), (Z4 (Zl 1 (List.drop ((0 + (v3 * 8)) + 1) (Za E_iiiiiiAi v1))) [.i (v1.getD v3 R_iiiiiiAi.z).a1], true), (Nat.blt v3 v2, true), ((v3 : Int) == Int.ofNat v3, true), ((decide ((v1.getD v4 R_iiiiiiAi.z).a4 ≥ (v1.getD v3 R_iiiiiiAi.z).a4)), false), (Z4 (Zl 1 (List.drop ((0 + (v3 * 8)) + 4) (Za E_iiiiiiAi v1))) [.i (v1.getD v3 R_iiiiiiAi.z).a4], true), (Nat.blt v3 v2, true), ((v3 : Int) == Int.ofNat v3, true), (Z4 (Zl 1 (List.drop ((0 + (v4 * 8)) + 4) (Za E_iiiiiiAi v1))) [.i (v1.getD v4 R_iiiiiiAi.z).a4], true), (Nat.blt v4 v2, true), ((v4 : Int) == Int.ofNat v4, true), ((decide ((v1.getD v3 R_iiiiiiAi.z).a5 < (v1.getD v4 R_iiiiiiAi.z).a3)), false), (Z4 (Zl 8 (List.drop (0 + (v4 * 8)) (Za E_iiiiiiAi v1))) [.i (v1.getD v4 R_iiiiiiAi.z).a0, .i (v1.getD v4 R_iiiiiiAi.z).a1, .i (v1.getD v4 R_iiiiiiAi.z).a2, .i (v1.getD v4 R_iiiiiiAi.z).a3, .i (v1.getD v4 R_iiiiiiAi.z).a4, .i (v1.getD v4 R_iiiiiiAi.z).a5, (mc E_ii (v1.getD v4 R_iiiiiiAi.z).a6), .i (v1.getD v4 R_iiiiiiAi.z).a7], true), (Nat.blt v4 v2, true), ((v4 : Int) == Int.ofNat v4, true), (Z4 (Zl 8 (List.drop (0 + (v3 * 8)) (Za E_iiiiiiAi v1))) [.i (v1.getD v3 R_iiiiiiAi.z).a0, .i (v1.getD v3 R_iiiiiiAi.z).a1, .i (v1.getD v3 R_iiiiiiAi.z).a2, .i (v1.getD v3 R_iiiiiiAi.z).a3, .i (v1.getD v3 R_iiiiiiAi.z).a4, .i (v1.getD v3 R_iiiiiiAi.z).a5, (mc E_ii (v1.getD v3 R_iiiiiiAi.z).a6), .i (v1.getD v3 R_iiiiiiAi.z).a7], true), (Nat.blt v3 v2, true), ((v3 : Int) == Int.ofNat v3, true), ((decide ((v4 : Int) < (v3 : Int))), true)]) rfl (show 2 ∈ ZA (ZbT 2) from by decide +kernel) (fun gv => by kernel_rfl) (Zc (beq_iff_eq.2 ((wrap_i64 ltA).trans (by first | rfl | omega))) <| oY <| Zc (Zn (E := E_iiiiiiAi) (L := v1) (i := v3) (q := 0) (by omega) (show (0 + (v3 * 8)) = v3 * 8 + 0 from by omega) (show 0 + 8 ≤ 8 from by decide) rfl rfl) <| oB <| oI <| Zc (Zn (E := E_iiiiiiAi) (L := v1) (i := v4) (q := 0) (by omega) (show (0 + (v4 * 8)) = v4 * 8 + 0 from by omega) (show 0 + 8 ≤ 8 from by decide) rfl rfl) <| oB <| oI <| oT <| Zc (Zn (E := E_iiiiiiAi) (L := v1) (i := v4) (q := 1) (by omega) (show ((0 + (v4 * 8)) + 1) = v4 * 8 + 1 from by omega) (show 1 + 1 ≤ 8 from by decide) rfl rfl) <| oB <| oI <| Zc (Zn (E := E_iiiiiiAi) (L := v1) (i := v3) (q := 1) (by omega) (show ((0 + (v3 * 8)) + 1) = v3 * 8 + 1 from by omega) (show 1 + 1 ≤ 8 from by decide) rfl rfl) <| oB <| oI <| oN <| Zc (Zn (E := E_iiiiiiAi) (L := v1) (i := v3) (q := 4) (by omega) (show ((0 + (v3 * 8)) + 4) = v3 * 8 + 4 from by omega) (show 4 + 1 ≤ 8 from by decide) rfl rfl) <| oB <| oI <| Zc (Zn (E := E_iiiiiiAi) (L := v1) (i := v4) (q := 4) (by omega) (show ((0 + (v4 * 8)) + 4) = v4 * 8 + 4 from by omega) (show 4 + 1 ≤ 8 from by decide) rfl rfl) <| oB <| oI <| oN <| Zc (Zn (E := E_iiiiiiAi) (L := v1) (i := v4) (q := 0) (by omega) (show (0 + (v4 * 8)) = v4 * 8 + 0 from by omega) (show 0 + 8 ≤ 8 from by decide) rfl rfl) <| oB <| oI <| Zc (Zn (E := E_iiiiiiAi) (L := v1) (i := v3) (q := 0) (by omega) (show (0 + (v3 * 8)) = v3 * 8 + 0 from by omega) (show 0 + 8 ≤ 8 from by decide) rfl rfl) <| oB <| oI <| oY Zp) rfl (by decide) (by rfl) (fun _ => ⟨rr, ⟨rr, ⟨rr, ⟨rr, trivial⟩⟩⟩⟩) ⟨(Zq (E := E_iiiiiiAi) (α := R_iiiiiiAi) _ v0 _), ⟨(Zq (E := E_iiiiiiAi) (α := R_iiiiiiAi) _ v1 _), trivial⟩⟩
        ·
         exact Mach.ok_none
       ·
        exact Mach.ok_fin (M := Zh L0 N) (cd := 1000000) (cm := 0) (r := (.r0 (false) : Zg)) (fu := 4000) (orc := (ZM [(0, true), (1, false), (2, false), (3, true), (4, false)] [] [(0, v3), (1, v4), (2, v4), (3, v3), (4, v3), (5, v4), (6, v4), (7, v3)] [(0, [.i (v1.getD v3 R_iiiiiiAi.z).a0, .i (v1.getD v3 R_iiiiiiAi.z).a1, .i (v1.getD v3 R_iiiiiiAi.z).a2, .i (v1.getD v3 R_iiiiiiAi.z).a3, .i (v1.getD v3 R_iiiiiiAi.z).a4, .i (v1.getD v3 R_iiiiiiAi.z).a5, (mc E_ii (v1.getD v3 R_iiiiiiAi.z).a6), .i (v1.getD v3 R_iiiiiiAi.z).a7]), (1, [.i (v1.getD v4 R_iiiiiiAi.z).a0, .i (v1.getD v4 R_iiiiiiAi.z).a1, .i (v1.getD v4 R_iiiiiiAi.z).a2, .i (v1.getD v4 R_iiiiiiAi.z).a3, .i (v1.getD v4 R_iiiiiiAi.z).a4, .i (v1.getD v4 R_iiiiiiAi.z).a5, (mc E_ii (v1.getD v4 R_iiiiiiAi.z).a6), .i (v1.getD v4 R_iiiiiiAi.z).a7]), (4, [.i (v1.getD v4 R_iiiiiiAi.z).a4]), (5, [.i (v1.getD v3 R_iiiiiiAi.z).a4]), (6, [.i (v1.getD v3 R_iiiiiiAi.z).a1]), (7, [.i (v1.getD v4 R_iiiiiiAi.z).a1]), (8, [.i (v1.getD v4 R_iiiiiiAi.z).a0, .i (v1.getD v4 R_iiiiiiAi.z).a1, .i (v1.getD v4 R_iiiiiiAi.z).a2, .i (v1.getD v4 R_iiiiiiAi.z).a3, .i (v1.getD v4 R_iiiiiiAi.z).a4, .i (v1.getD v4 R_iiiiiiAi.z).a5, (mc E_ii (v1.getD v4 R_iiiiiiAi.z).a6), .i (v1.getD v4 R_iiiiiiAi.z).a7]), (9, [.i (v1.getD v3 R_iiiiiiAi.z).a0, .i (v1.getD v3 R_iiiiiiAi.z).a1, .i (v1.getD v3 R_iiiiiiAi.z).a2, .i (v1.getD v3 R_iiiiiiAi.z).a3, .i (v1.getD v3 R_iiiiiiAi.z).a4, .i (v1.getD v3 R_iiiiiiAi.z).a5, (mc E_ii (v1.getD v3 R_iiiiiiAi.z).a6), .i (v1.getD v3 R_iiiiiiAi.z).a7])] [])) (live := []) (u := vf) (bl := []) (ob := [((decide ((v1.getD v4 R_iiiiiiAi.z).a5 < (v1.getD v3 R_iiiiiiAi.z).a3)), false), (Z4 (Zl 8 (List.drop (0 + (v3 * 8)) (Za E_iiiiiiAi v1))) [.i (v1.getD v3 R_iiiiiiAi.z).a0, .i (v1.getD v3 R_iiiiiiAi.z).a1, .i (v1.getD v3 R_iiiiiiAi.z).a2, .i (v1.getD v3 R_iiiiiiAi.z).a3, .i (v1.getD v3 R_iiiiiiAi.z).a4, .i (v1.getD v3 R_iiiiiiAi.z).a5, (mc E_ii (v1.getD v3 R_iiiiiiAi.z).a6), .i (v1.getD v3 R_iiiiiiAi.z).a7], true), (Nat.blt v3 v2, true), ((v3 : Int) == Int.ofNat v3, true), (Z4 (Zl 8 (List.drop (0 + (v4 * 8)) (Za E_iiiiiiAi v1))) [.i (v1.getD v4 R_iiiiiiAi.z).a0, .i (v1.getD v4 R_iiiiiiAi.z).a1, .i (v1.getD v4 R_iiiiiiAi.z).a2, .i (v1.getD v4 R_iiiiiiAi.z).a3, .i (v1.getD v4 R_iiiiiiAi.z).a4, .i (v1.getD v4 R_iiiiiiAi.z).a5, (mc E_ii (v1.getD v4 R_iiiiiiAi.z).a6), .i (v1.getD v4 R_iiiiiiAi.z).a7], true), (Nat.blt v4 v2, true), ((v4 : Int) == Int.ofNat v4, true), (((v1.getD v3 R_iiiiiiAi.z).a1 == (v1.getD v4 R_iiiiiiAi.z).a1), true), (Z4 (Zl 1 (List.drop ((0 + (v4 * 8)) + 1) (Za E_iiiiiiAi v1))) [.i (v1.getD v4 R_iiiiiiAi.z).a1], true), (Nat.blt v4 v2, true), ((v4 : Int) == Int.ofNat v4, true), (Z4 (Zl 1 (List.drop ((0 + (v3 * 8)) + 1) (Za E_iiiiiiAi v1))) [.i (v1.getD v3 R_iiiiiiAi.z).a1], true), (Nat.blt v3 v2, true), ((v3 : Int) == Int.ofNat v3, true), ((decide ((v1.getD v4 R_iiiiiiAi.z).a4 ≥ (v1.getD v3 R_iiiiiiAi.z).a4)), false), (Z4 (Zl 1 (List.drop ((0 + (v3 * 8)) + 4) (Za E_iiiiiiAi v1))) [.i (v1.getD v3 R_iiiiiiAi.z).a4], true), (Nat.blt v3 v2, true), ((v3 : Int) == Int.ofNat v3, true), (Z4 (Zl 1 (List.drop ((0 + (v4 * 8)) + 4) (Za E_iiiiiiAi v1))) [.i (v1.getD v4 R_iiiiiiAi.z).a4], true), (Nat.blt v4 v2, true), ((v4 : Int) == Int.ofNat v4, true), ((decide ((v1.getD v3 R_iiiiiiAi.z).a5 < (v1.getD v4 R_iiiiiiAi.z).a3)), false), (Z4 (Zl 8 (List.drop (0 + (v4 * 8)) (Za E_iiiiiiAi v1))) [.i (v1.getD v4 R_iiiiiiAi.z).a0, .i (v1.getD v4 R_iiiiiiAi.z).a1, .i (v1.getD v4 R_iiiiiiAi.z).a2, .i (v1.getD v4 R_iiiiiiAi.z).a3, .i (v1.getD v4 R_iiiiiiAi.z).a4, .i (v1.getD v4 R_iiiiiiAi.z).a5, (mc E_ii (v1.getD v4 R_iiiiiiAi.z).a6), .i (v1.getD v4 R_iiiiiiAi.z).a7], true), (Nat.blt v4 v2, true), ((v4 : Int) == Int.ofNat v4, true), (Z4 (Zl 8 (List.drop (0 + (v3 * 8)) (Za E_iiiiiiAi v1))) [.i (v1.getD v3 R_iiiiiiAi.z).a0, .i (v1.getD v3 R_iiiiiiAi.z).a1, .i (v1.getD v3 R_iiiiiiAi.z).a2, .i (v1.getD v3 R_iiiiiiAi.z).a3, .i (v1.getD v3 R_iiiiiiAi.z).a4, .i (v1.getD v3 R_iiiiiiAi.z).a5, (mc E_ii (v1.getD v3 R_iiiiiiAi.z).a6), .i (v1.getD v3 R_iiiiiiAi.z).a7], true), (Nat.blt v3 v2, true), ((v3 : Int) == Int.ofNat v3, true), ((decide ((v4 : Int) < (v3 : Int))), true)]) (fun gv => by kernel_rfl) (oN <| Zc (Zn (E := E_iiiiiiAi) (L := v1) (i := v3) (q := 0) (by omega) (show (0 + (v3 * 8)) = v3 * 8 + 0 from by omega) (show 0 + 8 ≤ 8 from by decide) rfl rfl) <| oB <| oI <| Zc (Zn (E := E_iiiiiiAi) (L := v1) (i := v4) (q := 0) (by omega) (show (0 + (v4 * 8)) = v4 * 8 + 0 from by omega) (show 0 + 8 ≤ 8 from by decide) rfl rfl) <| oB <| oI <| oT <| Zc (Zn (E := E_iiiiiiAi) (L := v1) (i := v4) (q := 1) (by omega) (show ((0 + (v4 * 8)) + 1) = v4 * 8 + 1 from by omega) (show 1 + 1 ≤ 8 from by decide) rfl rfl) <| oB <| oI <| Zc (Zn (E := E_iiiiiiAi) (L := v1) (i := v3) (q := 1) (by omega) (show ((0 + (v3 * 8)) + 1) = v3 * 8 + 1 from by omega) (show 1 + 1 ≤ 8 from by decide) rfl rfl) <| oB <| oI <| oN <| Zc (Zn (E := E_iiiiiiAi) (L := v1) (i := v3) (q := 4) (by omega) (show ((0 + (v3 * 8)) + 4) = v3 * 8 + 4 from by omega) (show 4 + 1 ≤ 8 from by decide) rfl rfl) <| oB <| oI <| Zc (Zn (E := E_iiiiiiAi) (L := v1) (i := v4) (q := 4) (by omega) (show ((0 + (v4 * 8)) + 4) = v4 * 8 + 4 from by omega) (show 4 + 1 ≤ 8 from by decide) rfl rfl) <| oB <| oI <| oN <| Zc (Zn (E := E_iiiiiiAi) (L := v1) (i := v4) (q := 0) (by omega) (show (0 + (v4 * 8)) = v4 * 8 + 0 from by omega) (show 0 + 8 ≤ 8 from by decide) rfl rfl) <| oB <| oI <| Zc (Zn (E := E_iiiiiiAi) (L := v1) (i := v3) (q := 0) (by omega) (show (0 + (v3 * 8)) = v3 * 8 + 0 from by omega) (show 0 + 8 ≤ 8 from by decide) rfl rfl) <| oB <| oI <| oY Zp) rfl (by decide) (by rfl) rr trivial
      ·
       refine Mach.ok_ite (fun g6 => ?_) (fun g6 => ?_)
       ·
        exact Mach.ok_next (M := Zh L0 N) (cd := 1000000) (cm := 0) (y := (.h2m0 (v0) (v1) (v2) (v3) ((v4 + 1)) : Ze)) (fu := 4000) (orc := (ZM [(0, true), (1, false), (2, false), (3, false)] [(0, (((v4 + 1) : Nat) : Int))] [(0, v3), (1, v4), (2, v4), (3, v3), (4, v3), (5, v4)] [(0, [.i (v1.getD v3 R_iiiiiiAi.z).a0, .i (v1.getD v3 R_iiiiiiAi.z).a1, .i (v1.getD v3 R_iiiiiiAi.z).a2, .i (v1.getD v3 R_iiiiiiAi.z).a3, .i (v1.getD v3 R_iiiiiiAi.z).a4, .i (v1.getD v3 R_iiiiiiAi.z).a5, (mc E_ii (v1.getD v3 R_iiiiiiAi.z).a6), .i (v1.getD v3 R_iiiiiiAi.z).a7]), (1, [.i (v1.getD v4 R_iiiiiiAi.z).a0, .i (v1.getD v4 R_iiiiiiAi.z).a1, .i (v1.getD v4 R_iiiiiiAi.z).a2, .i (v1.getD v4 R_iiiiiiAi.z).a3, .i (v1.getD v4 R_iiiiiiAi.z).a4, .i (v1.getD v4 R_iiiiiiAi.z).a5, (mc E_ii (v1.getD v4 R_iiiiiiAi.z).a6), .i (v1.getD v4 R_iiiiiiAi.z).a7]), (4, [.i (v1.getD v4 R_iiiiiiAi.z).a4]), (5, [.i (v1.getD v3 R_iiiiiiAi.z).a4]), (6, [.i (v1.getD v3 R_iiiiiiAi.z).a1]), (7, [.i (v1.getD v4 R_iiiiiiAi.z).a1])] [])) (live := [0, 1]) (tv := fun _ => [some (vs 0 0 v0.length v0.length), some (vs 1 0 v2 v2), some (vi (v3 : Int)), some (vi (((v4 + 1) : Nat) : Int))]) (bl := [some (.cells (Za E_iiiiiiAi v0) 27), some (.cells (Za E_iiiiiiAi v1) 27)]) (ob := [((IntKind.i64.wrap ((v4 : Int) + (1 : Int))) == (((v4 + 1) : Nat) : Int), true), (((v1.getD v3 R_iiiiiiAi.z).a1 == (v1.getD v4 R_iiiiiiAi.z).a1), false), (Z4 (Zl 1 (List.drop ((0 + (v4 * 8)) + 1) (Za E_iiiiiiAi v1))) [.i (v1.getD v4 R_iiiiiiAi.z).a1], true), (Nat.blt v4 v2, true), ((v4 : Int) == Int.ofNat v4, true), (Z4 (Zl 1 (List.drop ((0 + (v3 * 8)) + 1) (Za E_iiiiiiAi v1))) [.i (v1.getD v3 R_iiiiiiAi.z).a1], true), (Nat.blt v3 v2, true), ((v3 : Int) == Int.ofNat v3, true), ((decide ((v1.getD v4 R_iiiiiiAi.z).a4 ≥ (v1.getD v3 R_iiiiiiAi.z).a4)), false), (Z4 (Zl 1 (List.drop ((0 + (v3 * 8)) + 4) (Za E_iiiiiiAi v1))) [.i (v1.getD v3 R_iiiiiiAi.z).a4], true), (Nat.blt v3 v2, true), ((v3 : Int) == Int.ofNat v3, true), (Z4 (Zl 1 (List.drop ((0 + (v4 * 8)) + 4) (Za E_iiiiiiAi v1))) [.i (v1.getD v4 R_iiiiiiAi.z).a4], true), (Nat.blt v4 v2, true), ((v4 : Int) == Int.ofNat v4, true), ((decide ((v1.getD v3 R_iiiiiiAi.z).a5 < (v1.getD v4 R_iiiiiiAi.z).a3)), false), (Z4 (Zl 8 (List.drop (0 + (v4 * 8)) (Za E_iiiiiiAi v1))) [.i (v1.getD v4 R_iiiiiiAi.z).a0, .i (v1.getD v4 R_iiiiiiAi.z).a1, .i (v1.getD v4 R_iiiiiiAi.z).a2, .i (v1.getD v4 R_iiiiiiAi.z).a3, .i (v1.getD v4 R_iiiiiiAi.z).a4, .i (v1.getD v4 R_iiiiiiAi.z).a5, (mc E_ii (v1.getD v4 R_iiiiiiAi.z).a6), .i (v1.getD v4 R_iiiiiiAi.z).a7], true), (Nat.blt v4 v2, true), ((v4 : Int) == Int.ofNat v4, true), (Z4 (Zl 8 (List.drop (0 + (v3 * 8)) (Za E_iiiiiiAi v1))) [.i (v1.getD v3 R_iiiiiiAi.z).a0, .i (v1.getD v3 R_iiiiiiAi.z).a1, .i (v1.getD v3 R_iiiiiiAi.z).a2, .i (v1.getD v3 R_iiiiiiAi.z).a3, .i (v1.getD v3 R_iiiiiiAi.z).a4, .i (v1.getD v3 R_iiiiiiAi.z).a5, (mc E_ii (v1.getD v3 R_iiiiiiAi.z).a6), .i (v1.getD v3 R_iiiiiiAi.z).a7], true), (Nat.blt v3 v2, true), ((v3 : Int) == Int.ofNat v3, true), ((decide ((v4 : Int) < (v3 : Int))), true)]) rfl (show 2 ∈ ZA (ZbT 2) from by decide +kernel) (fun gv => by kernel_rfl) (Zc (beq_iff_eq.2 ((wrap_i64 ltA).trans (by first | rfl | omega))) <| oF <| Zc (Zn (E := E_iiiiiiAi) (L := v1) (i := v4) (q := 1) (by omega) (show ((0 + (v4 * 8)) + 1) = v4 * 8 + 1 from by omega) (show 1 + 1 ≤ 8 from by decide) rfl rfl) <| oB <| oI <| Zc (Zn (E := E_iiiiiiAi) (L := v1) (i := v3) (q := 1) (by omega) (show ((0 + (v3 * 8)) + 1) = v3 * 8 + 1 from by omega) (show 1 + 1 ≤ 8 from by decide) rfl rfl) <| oB <| oI <| oN <| Zc (Zn (E := E_iiiiiiAi) (L := v1) (i := v3) (q := 4) (by omega) (show ((0 + (v3 * 8)) + 4) = v3 * 8 + 4 from by omega) (show 4 + 1 ≤ 8 from by decide) rfl rfl) <| oB <| oI <| Zc (Zn (E := E_iiiiiiAi) (L := v1) (i := v4) (q := 4) (by omega) (show ((0 + (v4 * 8)) + 4) = v4 * 8 + 4 from by omega) (show 4 + 1 ≤ 8 from by decide) rfl rfl) <| oB <| oI <| oN <| Zc (Zn (E := E_iiiiiiAi) (L := v1) (i := v4) (q := 0) (by omega) (show (0 + (v4 * 8)) = v4 * 8 + 0 from by omega) (show 0 + 8 ≤ 8 from by decide) rfl rfl) <| oB <| oI <| Zc (Zn (E := E_iiiiiiAi) (L := v1) (i := v3) (q := 0) (by omega) (show (0 + (v3 * 8)) = v3 * 8 + 0 from by omega) (show 0 + 8 ≤ 8 from by decide) rfl rfl) <| oB <| oI <| oY Zp) rfl (by decide) (by rfl) (fun _ => ⟨rr, ⟨rr, ⟨rr, ⟨rr, trivial⟩⟩⟩⟩) ⟨(Zq (E := E_iiiiiiAi) (α := R_iiiiiiAi) _ v0 _), ⟨(Zq (E := E_iiiiiiAi) (α := R_iiiiiiAi) _ v1 _), trivial⟩⟩
       ·
        exact Mach.ok_none
   ·
    exact Mach.ok_none
  ·
   exact Mach.ok_none
 ·
  refine Mach.ok_ite (fun g1 => ?_) (fun g1 => ?_)
  ·
   exact Mach.ok_next (M := Zh L0 N) (cd := 1000000) (cm := 0) (y := (.h1m2 (v0) (v1) (v2) ((v3 + 1)) : Ze)) (fu := 4000) (orc := (ZM [(0, false)] [(0, (((v3 + 1) : Nat) : Int))] [] [] [])) (live := [0, 1]) (tv := fun _ => [some (vs 0 0 v0.length v0.length), some (vs 1 0 v2 v2), some (vi (((v3 + 1) : Nat) : Int))]) (bl := [some (.cells (Za E_iiiiiiAi v0) 27), some (.cells (Za E_iiiiiiAi v1) 27)]) (ob := [((IntKind.i64.wrap ((v3 : Int) + (1 : Int))) == (((v3 + 1) : Nat) : Int), true), ((decide ((v4 : Int) < (v3 : Int))), false)]) rfl (show 1 ∈ ZA (ZbT 2) from by decide +kernel) (fun gv => by kernel_rfl) (Zc (beq_iff_eq.2 ((wrap_i64 ltA).trans (by first | rfl | omega))) <| oN Zp) rfl (by decide) (by rfl) (fun _ => ⟨rr, ⟨rr, ⟨rr, trivial⟩⟩⟩) ⟨(Zq (E := E_iiiiiiAi) (α := R_iiiiiiAi) _ v0 _), ⟨(Zq (E := E_iiiiiiAi) (α := R_iiiiiiAi) _ v1 _), trivial⟩⟩
  ·
   exact Mach.ok_none

theorem ZgC (L0 : List R_iiiiiiAi) (N : Nat) : (Zh L0 N).Enter Tryz.prog ZE #[ms E_iiiiiiAi L0] (Zas L0 N) := by
 unfold Zas
 refine Mach.en_bind (fun z0 c0 => ?_)
 cases z0 with
 | r0 =>
  refine Mach.en_bind (fun z1 c1 => ?_)
  cases z1 with
  | r0 =>
   exact Mach.en_head (bK := Zz 1) (M := Zh L0 N) (cd := 1000000) (cm := 0) (y := (.h1m0 : Ze)) (fu := 4000) (orc := (ZM [] [] [] [] [(0, (ZkJ (L0)    0)), (1, (Zkq     0))])) (live := []) (tv := [some (vn), some (ms E_iiiiiiAi ([] : List R_iiiiiiAi)), some (vq)]) (bl := []) (ob := [(dP (Zg9 #[vn]     0), true), (dP (Zhg #[ms E_iiiiiiAi L0] (L0)    0), true)]) rfl rfl (show ZA (Zz 1).2 = [] from rfl) (by kernel_rfl) (Zc (Z2 (Zkr #[vn]    N c1  0 rfl (by decide) (by decide))) <| Zc (Z2 (ZkK #[ms E_iiiiiiAi L0] (L0)   N c0  0 rfl (by decide) (by decide))) Zp) rfl (by decide) (by rfl) ⟨rr, ⟨rr, ⟨rr, trivial⟩⟩⟩ trivial
 | r1 y0_0 =>
  refine Mach.en_bind (fun z1 c1 => ?_)
  cases z1 with
  | r0 =>
   exact Mach.en_fin (M := Zh L0 N) (cd := 1000000) (cm := 0) (r := (.r0 (true) : Zg)) (fu := 4000) (orc := (ZM [] [] [] [] [(0, (ZeU (L0)  y0_0  0)), (1, (Zi3 (y0_0)   0 1))])) (live := []) (u := vT) (bl := []) (ob := [(dP (Zfv #[vs 0 0 y0_0.length y0_0.length] (y0_0)   0 1), true), (dS (Za E_iiiiiiAi y0_0), true), (dP (Zd3 #[ms E_iiiiiiAi L0] (L0)  y0_0  0), true)]) (by kernel_rfl) (Zc (Z2 (Zi4 #[vs 0 0 y0_0.length y0_0.length] (y0_0)   N c1 0 1 rfl (by decide) (by decide))) <| oR <| Zc (Z2 (ZeV #[ms E_iiiiiiAi L0] (L0)  y0_0 N c0  0 rfl (by decide) (by decide))) Zp) rfl (by decide) (by rfl) rr trivial
  | r1 =>
   exact Mach.en_head (bK := Zz 1) (M := Zh L0 N) (cd := 1000000) (cm := 0) (y := (.h1m1 (y0_0) : Ze)) (fu := 4000) (orc := (ZM [] [] [] [] [(0, (ZeU (L0)  y0_0  0)), (1, (Zi5 (y0_0)   0 1))])) (live := [0]) (tv := [some (vs 0 0 y0_0.length y0_0.length), some (ms E_iiiiiiAi ([] : List R_iiiiiiAi)), some (vq)]) (bl := [some (.cells (Za E_iiiiiiAi y0_0) 27)]) (ob := [(dP (Zfw #[vs 0 0 y0_0.length y0_0.length] (y0_0)   0 1), true), (dS (Za E_iiiiiiAi y0_0), true), (dP (Zd3 #[ms E_iiiiiiAi L0] (L0)  y0_0  0), true)]) rfl rfl (show ZA (Zz 1).2 = [] from rfl) (by kernel_rfl) (Zc (Z2 (Zi6 #[vs 0 0 y0_0.length y0_0.length] (y0_0)   N c1 0 1 rfl (by decide) (by decide))) <| oR <| Zc (Z2 (ZeV #[ms E_iiiiiiAi L0] (L0)  y0_0 N c0  0 rfl (by decide) (by decide))) Zp) rfl (by decide) (by rfl) ⟨rr, ⟨rr, ⟨rr, trivial⟩⟩⟩ ⟨(Zq (E := E_iiiiiiAi) (α := R_iiiiiiAi) _ y0_0 _), trivial⟩
  | r2 y1_0 =>
   exact Mach.en_head (bK := Zz 1) (M := Zh L0 N) (cd := 1000000) (cm := 0) (y := (.h1m2 (y0_0) (y1_0) (y0_0.length) (0) : Ze)) (fu := 4000) (orc := (ZM [] [] [] [] [(0, (ZeU (L0)  y0_0  0)), (1, (Zi7 (y0_0)  y1_0 0 1))])) (live := [0, 1]) (tv := [some (vs 0 0 y0_0.length y0_0.length), some (vs 1 0 y0_0.length y0_0.length), some (vq)]) (bl := [some (.cells (Za E_iiiiiiAi y0_0) 27), some (.cells (Za E_iiiiiiAi y1_0) 27)]) (ob := [(dP (Zfx #[vs 0 0 y0_0.length y0_0.length] (y0_0)  y1_0 0 1), true), (dS (Za E_iiiiiiAi y0_0), true), (dP (Zd3 #[ms E_iiiiiiAi L0] (L0)  y0_0  0), true)]) rfl rfl (show ZA (Zz 1).2 = [] from rfl) (by kernel_rfl) (Zc (Z2 (Zi8 #[vs 0 0 y0_0.length y0_0.length] (y0_0)  y1_0 N c1 0 1 rfl (by decide) (by decide))) <| oR <| Zc (Z2 (ZeV #[ms E_iiiiiiAi L0] (L0)  y0_0 N c0  0 rfl (by decide) (by decide))) Zp) rfl (by decide) (by rfl) ⟨rr, ⟨rr, ⟨⟨Eq.trans (show (vi ((0 : Nat) : Int) : Value) = vq from (congrArg (Value.int .i64) (by first | rfl | omega))) (by rfl), by rfl⟩, trivial⟩⟩⟩ ⟨(Zq (E := E_iiiiiiAi) (α := R_iiiiiiAi) _ y0_0 _), ⟨(Zq (E := E_iiiiiiAi) (α := R_iiiiiiAi) _ y1_0 _), trivial⟩⟩

theorem ZfP (L0 : List R_iiiiiiAi) (N : Nat) (r : Zg) (h : ZeE L0 N = some r) : LSpec Tryz.prog 4 #[ms E_iiiiiiAi L0] [] (Ze3 L0 r) (ZdQ L0 r) :=
 Mach.spec Zfp (Zh L0 N) Tryz.func4 (by kernel_rfl) (by kernel_rfl) (fun x => by cases x <;> exact ZbU _ rfl) (fun r => by cases r <;> exact ZbU _ rfl) (fun x => by
  cases x with
  | h1m0 => exact fun _ => (show ¬ (1 ∈ ZA (Zz 1).2) from by decide +kernel)
  | h1m1 _ => exact fun _ => (show ¬ (1 ∈ ZA (Zz 1).2) from by decide +kernel)
  | h1m2 _ _ _ _ => exact fun _ => (show ¬ (1 ∈ ZA (Zz 1).2) from by decide +kernel)
  | h2m0 _ _ _ _ _ => exact fun _ => (show ¬ (2 ∈ ZA (Zz 2).2) from by decide +kernel)
  ) (fun x => (show (Zh L0 N).Ok Tryz.prog ZE x (Z3 L0 N x) from by
  cases x with
  | h1m0 => exact Zfy L0 N
  | h1m1 v0 => exact Zfz L0 v0 N
  | h1m2 v0 v1 v2 v3 => exact Zf0 L0 v0 v1 v2 v3 N
  | h2m0 v0 v1 v2 v3 v4 => exact Zf1 L0 v0 v1 v2 v3 v4 N
  )) (ZgC L0 N) (n := N) h

end Ev
end Go.Proofs.YtifdgbbbojccdaaGreat
/- Plain lemmas: machines step by step, lists by their places. -/
namespace Go.Proofs.YtifdgbbbojccdaaGreat
open Go.RowKit
namespace Ev
section
variable {X R : Type} {step : X → Option (X ⊕ R)} {n : Nat} {x y : X} {r : R}
theorem Zcv (h : step x = some (.inl y)) : ZaV step (n + 1) x = ZaV step n y := by simp [ZaV, h]
theorem Zba (h : step x = some (.inr r)) : ZaV step (n + 1) x = some r := by simp [ZaV, h]
theorem Zih {o : Option (X ⊕ R)} (h : o = some (.inl x)) : goM step n o = ZaV step n x := by subst h; rfl
theorem Zlj {o : Option (X ⊕ R)} (h : o = some (.inr r)) : goM step n o = some r := by subst h; rfl
end
section
variable {α : Type}
end
theorem Zm {α : Type} {c : Prop} [Decidable c] {a b r : α} (h : c) (e : a = r) : (if c then a else b) = r := by rw [if_pos h]; exact e
theorem Zu {α : Type} {c : Prop} [Decidable c] {a b r : α} (h : ¬ c) (e : b = r) : (if c then a else b) = r := by rw [if_neg h]; exact e
theorem ZaQ {α β : Type} {o : Option α} {a : α} {k : α → Option β} {r : Option β} (h : o = some a) (e : k a = r) : o.bind k = r := by rw [h]; exact e
end Ev
end Go.Proofs.YtifdgbbbojccdaaGreat
/- Events that may be a run: plain. -/
namespace Go.Proofs.YtifdgbbbojccdaaGreat
open Go.RowKit
namespace Ev
namespace Ot
set_option linter.unusedVariables false
set_option linter.unusedSimpArgs false
abbrev Rc := R_iiiiiiAi
abbrev ev (K : List Rc) (i : Nat) : Rc := K.getD i R_iiiiiiAi.z
theorem Znk {L : List Rc} {N : Nat} : ∀ d v1 v2 f, v1.length = v2 → v2 + d = 30 → 1 ≤ v2 → d < f → (∀ x ∈ v1, x.a6.length ≤ 12) → ∃ K : List Rc, ZaV (Zau L N) f (.h1m1 v1 v2) = some (.r1 K) ∧ K ≠ [] ∧ K.length ≤ 30 ∧ ∀ x ∈ K, x.a6.length ≤ 12 := by
 intro d
 induction d with
 | zero =>
  intro v1 v2 f h1 h2 h3 hf hA
  obtain ⟨f, rfl⟩ : ∃ g, f = g + 1 := ⟨f - 1, by omega⟩
  refine ⟨v1, Zba ?_, fun e => by subst e; simp at h1; omega, by omega, hA⟩
  show ZY L N v1 v2 = _
  unfold ZY
  by_cases c : (v2 : Int) < (L.length : Int)
  ·exact Zm c <| Zu (by omega) rfl
  ·exact Zu c rfl
 | succ d ih =>
  intro v1 v2 f h1 h2 h3 hf hA
  obtain ⟨f, rfl⟩ : ∃ g, f = g + 1 := ⟨f - 1, by omega⟩
  by_cases c : (v2 : Int) < (L.length : Int)
  ·obtain ⟨x, hs, hx⟩ : ∃ x : Rc, Zau L N (.h1m1 v1 v2) = some (.inl (.h1m1 (v1 ++ [x]) (v2 + 1))) ∧ x.a6.length ≤ 12 := by
    by_cases c2 : (12 : Int) < (((L.getD v2 R_iiiiiiAi.z).a6.length : Nat) : Int)
    ·refine ⟨(⟨(L.getD v2 R_iiiiiiAi.z).a0, (L.getD v2 R_iiiiiiAi.z).a1, (L.getD v2 R_iiiiiiAi.z).a2, (L.getD v2 R_iiiiiiAi.z).a3, (L.getD v2 R_iiiiiiAi.z).a4, (L.getD v2 R_iiiiiiAi.z).a5, ((L.getD v2 R_iiiiiiAi.z).a6.take 12), (L.getD v2 R_iiiiiiAi.z).a7⟩ : Rc), ?_, by show (List.take 12 _).length ≤ 12; rw [List.length_take]; omega⟩
     show ZY L N v1 v2 = _
     unfold ZY
     exact Zm c <| Zm (by omega) <| Zm c2 <| Zm (by omega) rfl
    ·refine ⟨(⟨(L.getD v2 R_iiiiiiAi.z).a0, (L.getD v2 R_iiiiiiAi.z).a1, (L.getD v2 R_iiiiiiAi.z).a2, (L.getD v2 R_iiiiiiAi.z).a3, (L.getD v2 R_iiiiiiAi.z).a4, (L.getD v2 R_iiiiiiAi.z).a5, (L.getD v2 R_iiiiiiAi.z).a6, (L.getD v2 R_iiiiiiAi.z).a7⟩ : Rc), ?_, by show (L.getD v2 R_iiiiiiAi.z).a6.length ≤ 12; omega⟩
     show ZY L N v1 v2 = _
     unfold ZY
     exact Zm c <| Zm (by omega) <| Zu c2 <| Zm (by omega) rfl
   rw [Zcv hs]
   exact ih (v1 ++ [x]) (v2 + 1) f (by simp; omega) (by omega) (by omega) (by omega) fun y hy => by
    rcases List.mem_append.1 hy with h | h
    ·exact hA y h
    ·rw [List.mem_singleton.1 h]; exact hx
  ·refine ⟨v1, Zba ?_, fun e => by subst e; simp at h1; omega, by omega, hA⟩
   show ZY L N v1 v2 = _
   unfold ZY
   exact Zu c rfl
theorem Zok {L : List Rc} {N : Nat} (hN : 1000 ≤ N) : ZcX L N = some .r0 ∨ ∃ K : List Rc, ZcX L N = some (.r1 K) ∧ K ≠ [] ∧ K.length ≤ 30 ∧ ∀ x ∈ K, x.a6.length ≤ 12 := by
 obtain ⟨N', rfl⟩ : ∃ g, N = g + 1 := ⟨N - 1, by omega⟩
 by_cases c : (0 : Int) < (L.length : Int)
 ·refine .inr ?_
  obtain ⟨x, hs, hx⟩ : ∃ x : Rc, Zau L (N' + 1) .h1m0 = some (.inl (.h1m1 [x] 1)) ∧ x.a6.length ≤ 12 := by
   by_cases c2 : (12 : Int) < (((L.getD 0 R_iiiiiiAi.z).a6.length : Nat) : Int)
   ·refine ⟨(⟨(L.getD 0 R_iiiiiiAi.z).a0, (L.getD 0 R_iiiiiiAi.z).a1, (L.getD 0 R_iiiiiiAi.z).a2, (L.getD 0 R_iiiiiiAi.z).a3, (L.getD 0 R_iiiiiiAi.z).a4, (L.getD 0 R_iiiiiiAi.z).a5, ((L.getD 0 R_iiiiiiAi.z).a6.take 12), (L.getD 0 R_iiiiiiAi.z).a7⟩ : Rc), ?_, by show (List.take 12 _).length ≤ 12; rw [List.length_take]; omega⟩
    show Zaq L (N' + 1) = _
    unfold Zaq
    exact Zm c <| Zm c2 rfl
   ·refine ⟨(⟨(L.getD 0 R_iiiiiiAi.z).a0, (L.getD 0 R_iiiiiiAi.z).a1, (L.getD 0 R_iiiiiiAi.z).a2, (L.getD 0 R_iiiiiiAi.z).a3, (L.getD 0 R_iiiiiiAi.z).a4, (L.getD 0 R_iiiiiiAi.z).a5, (L.getD 0 R_iiiiiiAi.z).a6, (L.getD 0 R_iiiiiiAi.z).a7⟩ : Rc), ?_, by show (L.getD 0 R_iiiiiiAi.z).a6.length ≤ 12; omega⟩
    show Zaq L (N' + 1) = _
    unfold Zaq
    exact Zm c <| Zu c2 rfl
  obtain ⟨K, h1, h2⟩ := Znk (L := L) (N := N' + 1) 29 [x] 1 N' rfl (by omega) (by omega) (by omega) (fun y hy => by rw [List.mem_singleton.1 hy]; exact hx)
  exact ⟨K, (Zcv hs).trans h1, h2⟩
 ·refine .inl (Zba (?_ : Zau L (N' + 1) .h1m0 = _))
  show Zaq L (N' + 1) = _
  unfold Zaq
  exact Zu c rfl
theorem Zi9 (a v k : Int) : ∀ M : List R_ii, Zca (ZS M a v) k = (decide (a = k) || Zca M k)
 | [] => by simp [ZS, Zca]; rfl
 | x :: M => by
  unfold ZS
  by_cases h : x.a0 = a
  ·rw [if_pos h]
   unfold Zca
   rw [List.any_cons, List.any_cons, h]
   show ((a == k) || _) = _
   by_cases hk : a = k
   ·simp [hk]
   ·simp [hk]
  ·rw [if_neg h]
   have ih := Zi9 a v k M
   unfold Zca at ih ⊢
   rw [List.any_cons, List.any_cons, ih]
   cases (x.a0 == k) <;> cases (decide (a = k)) <;> rfl
theorem Zlk (a v k : Int) : ∀ M : List R_ii, Zag (ZS M a v) k = if a = k then v else Zag M k
 | [] => by
  by_cases h : a = k
  ·rw [if_pos h]; simp [ZS, Zag, h]
  ·rw [if_neg h]; simp [ZS, Zag, h]
 | x :: M => by
  unfold ZS
  by_cases h : x.a0 = a
  ·rw [if_pos h]
   by_cases hk : a = k
   ·rw [if_pos hk]; simp [Zag, hk]
   ·rw [if_neg hk]
    have h2 : ¬ x.a0 = k := fun e => hk (h.symm.trans e)
    simp [Zag, hk, h2]
  ·rw [if_neg h]
   have ih := Zlk a v k M
   by_cases hk : x.a0 = k
   ·have h2 : ¬ a = k := fun e => h (hk.trans e.symm)
    rw [if_neg h2]; simp [Zag, hk]
   ·have e1 : ∀ M', Zag (x :: M') k = Zag M' k := fun M' => by simp [Zag, hk]
    rw [e1, e1]; exact ih
def ZbA (K : List Rc) (t : Int) : Nat → Option Int
 | 0 => none
 | n + 1 => if (ev K n).a1 = t then some (ev K n).a5 else ZbA K t n
theorem ZeW {K : List Rc} {t : Int} {n : Nat} (e : (ev K n).a1 = t) : ZbA K t (n + 1) = some (ev K n).a5 := if_pos e
theorem ZfQ {K : List Rc} {t : Int} {n : Nat} (e : ¬ (ev K n).a1 = t) : ZbA K t (n + 1) = ZbA K t n := if_neg e
structure Good (K : List Rc) (i : Nat) : Prop where
 b : ¬ (ev K i).a3 < 1
 m : ¬ (ev K i).a4 < (ev K i).a3
 e : ¬ (ev K i).a5 < (ev K i).a4
 d : ∀ k, k < i → (ev K k).a4 ≠ (ev K i).a4
 l : ∀ x, ZbA K (ev K i).a1 i = some x → x < (ev K i).a3
structure Inv (K : List Rc) (v1 v2 : List R_ii) (n : Nat) : Prop where
 m : ∀ k, Zca v1 k = true ↔ ∃ j, j < n ∧ (ev K j).a4 = k
 h : ∀ t, Zca v2 t = (ZbA K t n).isSome
 g : ∀ t x, ZbA K t n = some x → Zag v2 t = x
theorem Inv.next {K : List Rc} {v1 v2 : List R_ii} {n : Nat} (h : Inv K v1 v2 n) (q : Int) : Inv K (ZS v1 (ev K n).a4 q) (ZS v2 (ev K n).a1 (ev K n).a5) (n + 1) := by
 refine ⟨fun k => ?_, fun t => ?_, fun t x hx => ?_⟩
 ·rw [Zi9]
  simp only [Bool.or_eq_true, decide_eq_true_eq, h.m]
  constructor
  ·rintro (e | ⟨j, h1, h2⟩)
   ·exact ⟨n, by omega, e⟩
   ·exact ⟨j, by omega, h2⟩
  ·rintro ⟨j, h1, h2⟩
   by_cases e : j = n
   ·subst e; exact .inl h2
   ·exact .inr ⟨j, by omega, h2⟩
 ·rw [Zi9, h.h]
  by_cases e : (ev K n).a1 = t
  ·rw [ZeW e, decide_eq_true e]; rfl
  ·rw [ZfQ e, decide_eq_false e]; rfl
 ·rw [Zlk]
  by_cases e : (ev K n).a1 = t
  ·rw [if_pos e]
   rw [ZeW e] at hx
   exact Option.some.inj hx
  ·rw [if_neg e]
   rw [ZfQ e] at hx
   exact h.g t x hx
theorem Znl {K : List Rc} {N : Nat} (hK : K.length ≤ 100000) : ∀ d n v1 v2 f, n + d = K.length → d < f → Inv K v1 v2 n → (∀ i, i < n → Good K i) → ∃ b, ZaV (ZH K N) f (.h1m0 v1 v2 n) = some (.r0 b) ∧ (b = true ↔ ∀ i, i < K.length → Good K i) := by
 intro d
 induction d with
 | zero =>
  intro n v1 v2 f hd hf hI hG
  obtain ⟨f, rfl⟩ : ∃ g, f = g + 1 := ⟨f - 1, by omega⟩
  refine ⟨true, Zba ?_, fun _ i hi => hG i (by omega), fun _ => rfl⟩
  show Zo K N v1 v2 n = _
  unfold Zo
  exact Zu (by omega) rfl
 | succ d ih =>
  intro n v1 v2 f hd hf hI hG
  obtain ⟨f, rfl⟩ : ∃ g, f = g + 1 := ⟨f - 1, by omega⟩
  have bad : ZH K N (.h1m0 v1 v2 n) = some (.inr (.r0 false)) → ¬ Good K n → ∃ b, ZaV (ZH K N) (f + 1) (.h1m0 v1 v2 n) = some (.r0 b) ∧ (b = true ↔ ∀ i, i < K.length → Good K i) := fun hs hg => ⟨false, Zba hs, fun q => (by cases q), fun q => absurd (q n (by omega)) hg⟩
  have good : ZH K N (.h1m0 v1 v2 n) = some (.inl (.h1m0 (ZS v1 (ev K n).a4 (n : Int)) (ZS v2 (ev K n).a1 (ev K n).a5) (n + 1))) → Good K n → ∃ b, ZaV (ZH K N) (f + 1) (.h1m0 v1 v2 n) = some (.r0 b) ∧ (b = true ↔ ∀ i, i < K.length → Good K i) := fun hs hg => by
   rw [Zcv hs]
   exact ih (n + 1) _ _ f (by omega) (by omega) (hI.next _) fun i hi => by
    by_cases e : i = n
    ·subst e; exact hg
    ·exact hG i (by omega)
  have hs : ∀ r, Zo K N v1 v2 n = r → ZH K N (.h1m0 v1 v2 n) = r := fun r h => h
  have h0 : (n : Int) < (K.length : Int) := by omega
  have hh := hI.h (ev K n).a1
  by_cases c0 : Zca v2 (ev K n).a1 = true
  ·obtain ⟨x, hx⟩ : ∃ x, ZbA K (ev K n).a1 n = some x := Option.isSome_iff_exists.1 (by rw [← hh]; exact c0)
   have hg := hI.g _ _ hx
   by_cases c1 : (ev K n).a3 < 1
   ·exact bad (hs _ (by unfold Zo; exact Zm h0 <| Zm c0 <| Zm c1 rfl)) fun q => q.b c1
   by_cases c2 : (ev K n).a4 < (ev K n).a3
   ·exact bad (hs _ (by unfold Zo; exact Zm h0 <| Zm c0 <| Zu c1 <| Zm c2 rfl)) fun q => q.m c2
   by_cases c3 : (ev K n).a5 < (ev K n).a4
   ·exact bad (hs _ (by unfold Zo; exact Zm h0 <| Zm c0 <| Zu c1 <| Zu c2 <| Zm c3 rfl)) fun q => q.e c3
   by_cases c4 : (ev K n).a3 ≤ Zag v2 (ev K n).a1
   ·exact bad (hs _ (by unfold Zo; exact Zm h0 <| Zm c0 <| Zu c1 <| Zu c2 <| Zu c3 <| Zm c4 rfl)) fun q => by have := q.l x hx; omega
   by_cases c5 : Zca v1 (ev K n).a4 = true
   ·exact bad (hs _ (by unfold Zo; exact Zm h0 <| Zm c0 <| Zu c1 <| Zu c2 <| Zu c3 <| Zu c4 <| Zm c5 rfl)) fun q => by
     obtain ⟨j, h1, h2⟩ := (hI.m _).1 c5
     exact q.d j h1 h2
   exact good (hs _ (by unfold Zo; exact Zm h0 <| Zm c0 <| Zu c1 <| Zu c2 <| Zu c3 <| Zu c4 <| Zu c5 <| Zm (by omega) rfl)) ⟨c1, c2, c3, fun k hk e => c5 ((hI.m _).2 ⟨k, hk, e⟩), fun y hy => by rw [hx] at hy; injection hy with hy; omega⟩
  ·have hx : ZbA K (ev K n).a1 n = none := by
    cases e : ZbA K (ev K n).a1 n with
    | none => rfl
    | some y => rw [e] at hh; exact absurd hh c0
   by_cases c1 : (ev K n).a3 < 1
   ·exact bad (hs _ (by unfold Zo; exact Zm h0 <| Zu c0 <| Zm c1 rfl)) fun q => q.b c1
   by_cases c2 : (ev K n).a4 < (ev K n).a3
   ·exact bad (hs _ (by unfold Zo; exact Zm h0 <| Zu c0 <| Zu c1 <| Zm c2 rfl)) fun q => q.m c2
   by_cases c3 : (ev K n).a5 < (ev K n).a4
   ·exact bad (hs _ (by unfold Zo; exact Zm h0 <| Zu c0 <| Zu c1 <| Zu c2 <| Zm c3 rfl)) fun q => q.e c3
   by_cases c5 : Zca v1 (ev K n).a4 = true
   ·exact bad (hs _ (by unfold Zo; exact Zm h0 <| Zu c0 <| Zu c1 <| Zu c2 <| Zu c3 <| Zm c5 rfl)) fun q => by
     obtain ⟨j, h1, h2⟩ := (hI.m _).1 c5
     exact q.d j h1 h2
   exact good (hs _ (by unfold Zo; exact Zm h0 <| Zu c0 <| Zu c1 <| Zu c2 <| Zu c3 <| Zu c5 <| Zm (by omega) rfl)) ⟨c1, c2, c3, fun k hk e => c5 ((hI.m _).2 ⟨k, hk, e⟩), fun y hy => by rw [hx] at hy; cases hy⟩
theorem Zm7 {K : List Rc} {N : Nat} (hK : K.length ≤ 100) (hN : 1000 ≤ N) : ∃ b, Zc5 K N = some (.r0 b) ∧ (b = true ↔ ∀ i, i < K.length → Good K i) :=
 Znl (by omega) K.length 0 [] [] N (by omega) (by omega) ⟨fun k => ⟨fun h => by simp [Zca] at h, fun ⟨j, h, _⟩ => by omega⟩, fun t => rfl, fun t x h => by cases h⟩ fun i hi => by omega
theorem Znm {K : List Rc} (h : ∀ i, i < K.length → Good K i) : K.Pairwise fun a b => Zap a ≠ Zap b := by
 rw [List.pairwise_iff_getElem]
 intro i j hi hj hij e
 have g := (h j hj).d i hij
 have e1 : ev K i = K[i] := by simp [ev, List.getD_eq_getElem?_getD, hi]
 have e2 : ev K j = K[j] := by simp [ev, List.getD_eq_getElem?_getD, hj]
 rw [e1, e2] at g
 exact g e
theorem Zm8 {K : List Rc} (h : ∀ i, i < K.length → Good K i) : (Zay Zap K).Pairwise fun a b => Zap a < Zap b := Zkl Zap (Znm h)
theorem Znn {K : List Rc} {N : Nat} (hK : K.length ≤ 100) {M : List Rc} (hM : M.length = K.length) (hA : ∀ x ∈ M, x.a6.length ≤ 100000) : ∀ d n f, n + d = K.length → d < f → ZaV (Zaw K N) f (.h1m1 M n) = some (.r2 M) := by
 intro d
 induction d with
 | zero =>
  intro n f hd hf
  obtain ⟨f, rfl⟩ : ∃ g, f = g + 1 := ⟨f - 1, by omega⟩
  refine Zba ?_
  show Zar K N M n = _
  unfold Zar
  exact Zu (by omega) rfl
 | succ d ih =>
  intro n f hd hf
  obtain ⟨f, rfl⟩ : ∃ g, f = g + 1 := ⟨f - 1, by omega⟩
  have hn : n < M.length := by omega
  have e : M.set n (ev M n) = M := by
   have e1 : ev M n = M[n] := by simp [ev, List.getD_eq_getElem?_getD, hn]
   rw [e1]; exact List.set_getElem_self hn
  have hs : Zaw K N (.h1m1 M n) = some (.inl (.h1m1 (M.set n (ev M n)) (n + 1))) := by
   show Zar K N M n = _
   unfold Zar
   refine Zm (by omega) <| Zm hn <| ZaQ (a := .r0) ?_ <| Zm (by omega) rfl
   unfold ZV
   refine if_pos (hA _ ?_)
   have e1 : M.getD n R_iiiiiiAi.z = M[n] := by simp [List.getD_eq_getElem?_getD, hn]
   rw [e1]; exact List.getElem_mem hn
  rw [Zcv hs, e]
  exact ih (n + 1) f (by omega) (by omega)
theorem Zm9 {K : List Rc} {N : Nat} (hK : K.length ≤ 100) (hne : K ≠ []) (hN : 1000 ≤ N) (hA : ∀ x ∈ K, x.a6.length ≤ 100000) (h : ∀ i, i < K.length → Good K i) : Zbg K N = some (.r2 (Zay Zap K)) := by
 obtain ⟨b, h1, h2⟩ := Zm7 (N := N) hK hN
 obtain rfl : b = true := h2.2 h
 have h3 : K.length ≠ 0 := fun e => hne (List.length_eq_zero_iff.1 e)
 refine (Zih (x := .h1m1 (Zay Zap K) 0) ?_).trans (Znn hK (ZbN Zap K).length_eq (fun x hx => hA x ((ZbN Zap K).subset hx)) K.length 0 N (by omega) (by omega))
 unfold Zbc
 have hc : Zt K N = some .r1 := by
  unfold Zt
  exact Zu (by omega) <| Zm (by omega) rfl
 have hf : Zw K N = some (.r0 (Zay Zap K)) := by
  unfold Zw
  exact if_pos ⟨Zm8 h, by omega⟩
 exact ZaQ h1 <| Zu (by decide) <| ZaQ hc <| ZaQ hf rfl
theorem Zno {K : List Rc} {N : Nat} (hK : K.length ≤ 100) (hN : 1000 ≤ N) (h : ¬ ∀ i, i < K.length → Good K i) : Zbg K N = some .r0 := by
 obtain ⟨b, h1, h2⟩ := Zm7 (N := N) hK hN
 have hb : b = false := by
  cases b with
  | false => rfl
  | true => exact absurd (h2.1 rfl) h
 subst hb
 refine Zlj (?_ : Zbc K N = _)
 unfold Zbc
 exact ZaQ h1 <| Zm (by decide) rfl
theorem Znp {N : Nat} (hN : 1000 ≤ N) : Zeb N = some .r0 := by
 obtain ⟨N', rfl⟩ : ∃ g, N = g + 1 := ⟨N - 1, by omega⟩
 have h1 : Zdn (N' + 1) = some .r0 := by
  show ZaV (ZaH (N' + 1)) (N' + 1) .h1m0 = _
  exact Zba (show ZaH (N' + 1) .h1m0 = some (.inr .r0) from rfl)
 have h2 : Zct (N' + 1) = some (.inl .h1m0) := by
  unfold Zct
  exact ZaQ h1 <| ZaQ (show Zaa (N' + 1) = some .r0 from rfl) <| ZaQ (show Z0 ([] : List Rc) (N' + 1) = some .r0 from rfl) rfl
 exact (Zih h2).trans (Zba (show Zb9 (N' + 1) .h1m0 = some (.inr .r0) from rfl))
end Ot
end Ev
end Go.Proofs.YtifdgbbbojccdaaGreat
/- In order each stands behind what was over ahead of it. -/
namespace Go.Proofs.YtifdgbbbojccdaaGreat
open Go.RowKit
namespace Ev
namespace Ot
set_option linter.unusedVariables false
set_option linter.unusedSimpArgs false
theorem ZgD {K : List Rc} (h : ∀ i, i < K.length → Good K i) : ∀ q p, q ≤ K.length → p < q → ∀ t, (ev K p).a1 = t → ∃ x, ZbA K t q = some x ∧ (ev K p).a5 ≤ x
 | 0, p, _, hp, t, ht => by omega
 | q + 1, p, hq, hp, t, ht => by
  by_cases e : (ev K q).a1 = t
  ·refine ⟨(ev K q).a5, ZeW e, ?_⟩
   by_cases e2 : p = q
   ·subst e2; exact Int.le_refl _
   ·obtain ⟨x, h1, h2⟩ := ZgD h q p (by omega) (by omega) t ht
    have g := h q (by omega)
    have := g.l x (by rw [e]; exact h1)
    have := g.m; have := g.e
    omega
  ·obtain ⟨x, h1, h2⟩ := ZgD h q p (by omega) (by
    by_cases e2 : p = q
    ·subst e2; exact absurd ht e
    ·omega) t ht
   exact ⟨x, (ZfQ e).trans h1, h2⟩
theorem behind {K : List Rc} (h : ∀ i, i < K.length → Good K i) {p q : Nat} (hq : q < K.length) (hp : p < q) (ht : (ev K p).a1 = (ev K q).a1) : (ev K p).a5 < (ev K q).a3 := by
 obtain ⟨x, h1, h2⟩ := ZgD h q p (by omega) hp _ ht
 have := (h q hq).l x h1
 omega
structure Two (x y : Rc) : Prop where
 lt : x.a4 < y.a4
 b : ¬ y.a5 < x.a3
 t : y.a1 = x.a1 → x.a5 < y.a3
theorem Zol {K : List Rc} (h : ∀ i, i < K.length → Good K i) {j i : Nat} (hi : i < (Zay Zap K).length) (hj : j < i) : Two (ev (Zay Zap K) j) (ev (Zay Zap K) i) := by
 have hlt := List.pairwise_iff_getElem.1 (Zm8 h) j i (by omega) hi hj
 have e1 : ∀ m (hm : m < (Zay Zap K).length), ev (Zay Zap K) m = (Zay Zap K)[m] := fun m hm => by simp [ev, List.getD_eq_getElem?_getD, hm]
 have hmem : ∀ m, m < (Zay Zap K).length → ∃ p, p < K.length ∧ ev (Zay Zap K) m = ev K p := fun m hm => by
  have : (Zay Zap K)[m] ∈ K := (ZbN Zap K).subset (List.getElem_mem hm)
  obtain ⟨p, hp, hpe⟩ := List.mem_iff_getElem.1 this
  exact ⟨p, hp, by rw [e1 m hm, ← hpe]; simp [ev, List.getD_eq_getElem?_getD, hp]⟩
 have hlt2 : (ev (Zay Zap K) j).a4 < (ev (Zay Zap K) i).a4 := by rw [e1 j (by omega), e1 i hi]; exact hlt
 obtain ⟨p, hp, ep⟩ := hmem j (by omega)
 obtain ⟨q, hq, eq⟩ := hmem i hi
 rw [ep, eq] at hlt2 ⊢
 have gp := h p hp; have gq := h q hq
 have := gp.m; have := gp.e; have := gq.m; have := gq.e
 refine ⟨hlt2, by omega, fun ht => ?_⟩
 rcases Nat.lt_trichotomy p q with c | c | c
 ·exact behind h hq c ht.symm
 ·subst c; omega
 ·have := behind h hp c ht; omega
theorem inner {L K S : List Rc} {N i : Nat} (hS : S.length = K.length) (hi : i < K.length) (hK : K.length ≤ 100) (hT : ∀ j, j < i → Two (ev S j) (ev S i)) : ∀ d j f, j + d = i → ZaV (Z3 L N) (f + d + 1) (.h2m0 K S K.length i j) = ZaV (Z3 L N) f (.h1m2 K S K.length (i + 1)) := by
 intro d
 induction d with
 | zero =>
  intro j f hd
  refine Zcv ?_
  show Zae L N K S K.length i j = _
  unfold Zae
  exact Zu (by omega) <| Zm (by omega) rfl
 | succ d ih =>
  intro j f hd
  have hs : Z3 L N (.h2m0 K S K.length i j) = some (.inl (.h2m0 K S K.length i (j + 1))) := by
   have T := hT j (by omega)
   have t1 := T.lt; have t2 := T.b; have t3 := T.t
   show Zae L N K S K.length i j = _
   unfold Zae
   refine Zm (by omega) <| Zm hi <| Zm (by omega) <| Zu t2 <| Zu (fun q => by have q2 : (ev S i).a4 ≤ (ev S j).a4 := q; omega) ?_
   by_cases c : (ev S i).a1 = (ev S j).a1
   ·exact Zm c <| Zm (t3 c) <| Zm (by omega) rfl
   ·exact Zu c <| Zm (by omega) rfl
  rw [show f + (d + 1) + 1 = (f + d + 1) + 1 by omega, Zcv hs]
  exact ih (j + 1) f (by omega)
theorem Znz {L K S : List Rc} {N : Nat} (hS : S.length = K.length) (hK : K.length ≤ 100) (hT : ∀ i, i < K.length → ∀ j, j < i → Two (ev S j) (ev S i)) : ∀ d i f, i + d = K.length → 200 * d < f → ZaV (Z3 L N) f (.h1m2 K S K.length i) = some (.r0 true) := by
 intro d
 induction d with
 | zero =>
  intro i f hd hf
  obtain ⟨f, rfl⟩ : ∃ g, f = g + 1 := ⟨f - 1, by omega⟩
  refine Zba ?_
  show Zad L N K S K.length i = _
  unfold Zad
  exact Zu (by omega) <| Zm rfl rfl
 | succ d ih =>
  intro i f hd hf
  obtain ⟨f, rfl⟩ : ∃ g, f = (g + i + 1) + 1 := ⟨f - i - 2, by omega⟩
  have hs : Z3 L N (.h1m2 K S K.length i) = some (.inl (.h2m0 K S K.length i 0)) := by
   show Zad L N K S K.length i = _
   unfold Zad
   exact Zm (by omega) rfl
  rw [Zcv hs, inner hS (by omega) hK (hT i (by omega)) i 0 f (by omega)]
  exact ih (i + 1) f (by omega) (by omega)
theorem runs (L : List Rc) : ZeE L 100000 = some (.r0 true) := by
 rcases Zok (L := L) (N := 100000) (by omega) with h | ⟨K, h, h1, h2, hA⟩
 ·refine (Zih (x := .h1m0) ?_).trans (Zba (n := 99999) rfl)
  unfold Zas
  exact ZaQ h <| ZaQ (Znp (by omega)) rfl
 ·by_cases hg : ∀ i, i < K.length → Good K i
  ·have hl := (ZbN Zap K).length_eq
   refine (Zih (x := .h1m2 K (Zay Zap K) K.length 0) ?_).trans (Znz hl (by omega) (fun i hi j hj => Zol hg (by omega) hj) K.length 0 100000 (by omega) (by omega))
   unfold Zas
   exact ZaQ h <| ZaQ (Zm9 (by omega) h1 (by omega) (fun x hx => by have := hA x hx; omega) hg) rfl
  ·refine Zlj (?_ : Zas L 100000 = _)
   unfold Zas
   exact ZaQ h <| ZaQ (Zno (by omega) (by omega) hg) rfl
end Ot
end Ev
end Go.Proofs.YtifdgbbbojccdaaGreat
/- A region that draws its order, whose first operations only read (and make memory in calls), and whose last ones, in a forced order among themselves, make and write new memory: but these may come up early. -/
namespace Go.Proofs.YtifdgbbbojccdaaGreat
open Go.RowKit

section
variable {P : Program}

def Calm (P : Program) (W : World) (o : Oper) (a : Act) (v : Value) : Prop :=
 ∀ w, Below W.heap.size W w → o.quietAt P a (fun w' => Below w.heap.size w w') w v

def YieldsC (P : Program) (ops : Array Oper) (W : World) (o : Oper) (v : Value) (a : Act) : Prop :=
 (Region.wanted o (yielded ops a.tmps) = true ∧ Calm P W o a v) ∨ (Region.wanted o (yielded ops a.tmps) = false ∧ v = undef)
theorem ZiX {a b c : World} (h : Below a.heap.size a b) (k : Below b.heap.size b c) : Below a.heap.size a c := h.trans (k.mono h.size)

def Closed (md : Region.Mode) (ops : Array Oper) (listed : Array Bool) : Prop :=
 ∀ j oj, ops[j]? = some oj → listed.getD j false = true → ∀ e ∈ oj.after, Region.binds md e = true → listed.getD e.on false = true
def Zks (md : Region.Mode) (ops : Array Oper) : Nat → Nat → Nat → Bool
 | 0, _, _ => false
 | f + 1, t, i => Region.waitsFor md ops t i || (List.range ops.size).any fun k => Region.waitsFor md ops t k && Zks md ops f k i
theorem Closed.waits {md : Region.Mode} {ops : Array Oper} {listed : Array Bool} (h : Closed md ops listed) : ∀ (f t i : Nat), listed.getD t false = true → Zks md ops f t i = true → listed.getD i false = true
 | 0, _, _, _, hw => by cases hw
 | f + 1, t, i, ht, hw => by
  simp only [Zks, Bool.or_eq_true, List.any_eq_true, Bool.and_eq_true] at hw
  rcases hw with hw | ⟨k, _, hw, hr⟩
  ·obtain ⟨o, ho, e, he, hb, rfl⟩ := Region.waitsFor_spec hw
   exact h t o ho ht e he hb
  ·obtain ⟨o, ho, e, he, hb, rfl⟩ := Region.waitsFor_spec hw
   exact h.waits f e.on i (h t o ho ht e he hb) hr

theorem YieldsC.wpOp {ops : Array Oper} {W : World} {i : Nat} {o : Oper} {v : Value} {a : Act} {w : World} (hi : ops[i]? = some o) (hy : YieldsC P ops W o v a) (hb : Below W.heap.size W w)
  {K : Act → World → Prop} {Q : Exit → Act → World → Prop} (h : ∀ w', Below w.heap.size w w' → K (a.put o.dst v) w') : wpOp P ops Q i K a w := by
 unfold Go.wpOp
 simp only [hi]
 rcases hy with ⟨hw, hv⟩ | ⟨hw, rfl⟩
 ·simp only [hw, if_true]
  exact .inl (Oper.wp_of_quiet (C := fun w' => Below w.heap.size w w') (K := fun a' => a' = a.put o.dst v) (Below.refl _ _) (fun a' w' hw' ha => by subst ha; exact h w' hw')
   ⟨v, fun w1 hw1 => by
    have h1 := hv w1 (ZiX hb hw1)
    unfold Oper.quietAt at h1 ⊢
    generalize (execOp a.eval o).run P w1 = r at *
    cases r with
    | ok n w' =>
     cases n <;> simp only [Oper.quietUpon] at h1 ⊢
     case value u => exact h1
     case skip => exact h1
     case enter f args => exact ⟨h1.1, h1.2.mono fun e w2 ⟨he, hb2⟩ => ⟨he, ZiX hw1 hb2⟩⟩
    | halt x w' => simp only [Oper.quietUpon] at h1, rfl⟩)
 ·simp only [hw, Bool.false_eq_true, if_false]
  exact h w (Below.refl _ _)

end
theorem Has.grown {W W' : World} {b : Nat} {cs : List Value} {g : Nat} (h : Has W b cs) (hg : W.grownBy W' (some g)) (hne : b ≠ g) : Has W' b cs := by
 have e : W'.heap[b]? = W.heap[b]? := hg.block b h.1 (fun e => hne (by injection e))
 exact ⟨Nat.lt_of_lt_of_le h.1 hg.size, fun i v hi => ⟨(World.cell?_of_block (a := ⟨b, i, none⟩) e).trans (h.2 i v hi).1, (World.frozen?_of_block (a := ⟨b, i, none⟩) e).trans (h.2 i v hi).2⟩⟩
end Go.Proofs.YtifdgbbbojccdaaGreat
/- The law OrderTime, for every input. -/
namespace Go.Proofs.YtifdgbbbojccdaaGreat
open Go.ChangeShapes Go.WideShapes Go.ChangeAt Go.RowKit
namespace Ev
namespace OrderTime
set_option linter.unusedVariables false
def Znq (x : R_ii) : Prop := (IntKind.i64.min ≤ x.a0 ∧ x.a0 ≤ IntKind.i64.max) ∧ (IntKind.i64.min ≤ x.a1 ∧ x.a1 ≤ IntKind.i64.max)
theorem el1 {H : Type} {enc : TypeId × Value → H} {w : World} {cs : List Value} (hl : cs.length = 2) (h : Trd enc Tryz.prog w 43 cs) : ∃ x : R_ii, DecL w cs (E_ii.cel x) ∧ Znq x := by
 have h0 := Zm0 (by kernel_rfl : Tryz.prog.cellsOf 43 = 2) hl h
 have h1 := Zbw 0 1 2 Tryz.underlying43 h0 0 (te := 41) (o' := 0) (by kernel_rfl) rfl (by kernel_rfl) (by kernel_rfl) (by decide)
 obtain ⟨x0, e0, b0⟩ := Zdm Tryz.underlying41 (by kernel_rfl) h1
 have h2 := Zbw 1 1 2 Tryz.underlying43 h0 1 (te := 3) (o' := 1) (by kernel_rfl) rfl (by kernel_rfl) (by kernel_rfl) (by decide)
 obtain ⟨x1, e1, b1⟩ := Zdm Tryz.underlying3 (by kernel_rfl) h2
 refine ⟨(⟨x0, x1⟩ : R_ii), Zlc (by rw [hl, Enc.clen]; rfl) (fun j y hy => ?_), ⟨b0, b1⟩⟩
 have := (ZbZ (w := w) (k := 0) e0 .i (ZbZ (w := w) (k := 1) e1 .i (Zmz (w := w)))) j y hy
 simpa using this
def el0R (x : R_iiiiiiAi) : Prop := (IntKind.i64.min ≤ x.a0 ∧ x.a0 ≤ IntKind.i64.max) ∧ (IntKind.i64.min ≤ x.a1 ∧ x.a1 ≤ IntKind.i64.max) ∧ (IntKind.i64.min ≤ x.a2 ∧ x.a2 ≤ IntKind.i64.max) ∧ (IntKind.i64.min ≤ x.a3 ∧ x.a3 ≤ IntKind.i64.max) ∧ (IntKind.i64.min ≤ x.a4 ∧ x.a4 ≤ IntKind.i64.max) ∧ (IntKind.i64.min ≤ x.a5 ∧ x.a5 ≤ IntKind.i64.max) ∧ (x.a6.length ≤ 9223372036854775807 ∧ ∀ y ∈ x.a6, Znq y) ∧ (IntKind.i64.min ≤ x.a7 ∧ x.a7 ≤ IntKind.i64.max)
theorem el0 {H : Type} {enc : TypeId × Value → H} {w : World} {cs : List Value} (hl : cs.length = 8) (h : Trd enc Tryz.prog w 27 cs) : ∃ x : R_iiiiiiAi, DecL w cs (E_iiiiiiAi.cel x) ∧ el0R x := by
 have h0 := Zm0 (by kernel_rfl : Tryz.prog.cellsOf 27 = 8) hl h
 have h1 := Zbw 0 1 8 Tryz.underlying27 h0 0 (te := 23) (o' := 0) (by kernel_rfl) rfl (by kernel_rfl) (by kernel_rfl) (by decide)
 obtain ⟨x0, e0, b0⟩ := Zdm Tryz.underlying23 (by kernel_rfl) h1
 have h2 := Zbw 1 1 8 Tryz.underlying27 h0 1 (te := 3) (o' := 1) (by kernel_rfl) rfl (by kernel_rfl) (by kernel_rfl) (by decide)
 obtain ⟨x1, e1, b1⟩ := Zdm Tryz.underlying3 (by kernel_rfl) h2
 have h3 := Zbw 2 1 8 Tryz.underlying27 h0 2 (te := 3) (o' := 2) (by kernel_rfl) rfl (by kernel_rfl) (by kernel_rfl) (by decide)
 obtain ⟨x2, e2, b2⟩ := Zdm Tryz.underlying3 (by kernel_rfl) h3
 have h4 := Zbw 3 1 8 Tryz.underlying27 h0 3 (te := 3) (o' := 3) (by kernel_rfl) rfl (by kernel_rfl) (by kernel_rfl) (by decide)
 obtain ⟨x3, e3, b3⟩ := Zdm Tryz.underlying3 (by kernel_rfl) h4
 have h5 := Zbw 4 1 8 Tryz.underlying27 h0 4 (te := 3) (o' := 4) (by kernel_rfl) rfl (by kernel_rfl) (by kernel_rfl) (by decide)
 obtain ⟨x4, e4, b4⟩ := Zdm Tryz.underlying3 (by kernel_rfl) h5
 have h6 := Zbw 5 1 8 Tryz.underlying27 h0 5 (te := 3) (o' := 5) (by kernel_rfl) rfl (by kernel_rfl) (by kernel_rfl) (by decide)
 obtain ⟨x5, e5, b5⟩ := Zdm Tryz.underlying3 (by kernel_rfl) h6
 have h7 := Zbw 6 1 8 Tryz.underlying27 h0 6 (te := 24) (o' := 6) (by kernel_rfl) rfl (by kernel_rfl) (by kernel_rfl) (by decide)
 obtain ⟨x6, v6, e6, d6, b6⟩ := Zne (E := E_ii) (Q := Znq) Tryz.underlying24 (by kernel_rfl) (by kernel_rfl) (by decide) (fun _ => el1) h7
 have h8 := Zbw 7 1 8 Tryz.underlying27 h0 7 (te := 25) (o' := 7) (by kernel_rfl) rfl (by kernel_rfl) (by kernel_rfl) (by decide)
 obtain ⟨x7, e7, b7⟩ := Zdm Tryz.underlying25 (by kernel_rfl) h8
 refine ⟨(⟨x0, x1, x2, x3, x4, x5, x6, x7⟩ : R_iiiiiiAi), Zlc (by rw [hl, Enc.clen]; rfl) (fun j y hy => ?_), ⟨b0, b1, b2, b3, b4, b5, b6, b7⟩⟩
 have := (ZbZ (w := w) (k := 0) e0 .i (ZbZ (w := w) (k := 1) e1 .i (ZbZ (w := w) (k := 2) e2 .i (ZbZ (w := w) (k := 3) e3 .i (ZbZ (w := w) (k := 4) e4 .i (ZbZ (w := w) (k := 5) e5 .i (ZbZ (w := w) (k := 6) e6 d6 (ZbZ (w := w) (k := 7) e7 .i (Zmz (w := w)))))))))) j y hy
 simpa using this
theorem own : ownKnob Tryz.prog.godebug = none := by kernel_rfl
set_option maxRecDepth 100000 in
theorem lifted (os : Os) (started : os.Started) (H : Type) (enc : TypeId × Value → H) :
  ReturnsInHanded {} Tryz.checked os 4 .any (Rows.orderTimeSpec.pre6 enc Tryz.prog Tryz.f4 Rows.orderTimeRow.domain false) (Rows.orderTimeSpec.post enc Tryz.prog Tryz.f4 false true false false) := by
 refine Zmq (C := Tryz.checked) own started (by kernel_rfl) Tryz.func4 rfl rfl Tryz.underlying4 ?_ (by kernel_rfl) (by kernel_rfl)
  (ChangeSpec.witness6 (enc := enc) (C := Tryz.checked) false ⟨#[], #[.slice none 0 0], []⟩ 8 (by kernel_rfl) (by kernel_rfl) (by kernel_rfl) (by kernel_rfl)) ?_
 ·intro ds hlen
  have hlen : ds.length = 1 := hlen.trans (by kernel_rfl)
  match ds, hlen with
  | [_], _ => rfl
 intro W base args ds p hval hA hlt hsz
 rw [Tryz.params4] at hA hval
 obtain ⟨v0, vs0, d0, ds0, p0, q0, hargs, rfl, rfl, h0, r0⟩ := trodAll_cons hA
 obtain ⟨rfl, rfl, rfl⟩ := trodAll_nil r0
 obtain rfl : args = #[v0] := by cases args; simp_all
 obtain ⟨a0, l0, c0, rfl⟩ := Go.WideShapes.okWide_slice Tryz.underlying22 (hval 0 22 v0 rfl rfl)
 obtain ⟨L0, u0, e0, D0, n0, m0⟩ := ZiV (E := E_iiiiiiAi) (Q := el0R) Tryz.underlying22 (by kernel_rfl) (by decide) (fun _ => el0) (ZnG h0)
 obtain rfl : u0 = .slice a0 l0 c0 := by have := e0; simp [Value.cells] at this; exact this.symm
 exact Zog (ZfP L0 100000 _ (Ot.runs L0)) (ZmQ (show VR (ιMk W) (ms E_iiiiiiAi L0) _ from D0.vr) Zn9) rfl
theorem over : Rows.orderTimeRow.holds Tryz.pinned (OpenSpec.ofChange Rows.orderTimeSpec) :=
 OpenClaim.holds_of_wide 4 Tryz.f4 rfl rfl rfl rfl rfl rfl rfl ⟨rfl, rfl, rfl, rfl, rfl⟩ rfl rfl rfl rfl rfl (by kernel_rfl) Tryz.func4 (by kernel_rfl)
  (of_decide_eq_true (by kernel_rfl)) (by unfold Func.isWrapper; first | (rw [if_pos (by decide +kernel)]; kernel_rfl) | (rw [if_neg (by decide +kernel)]; exact ⟨rfl, rfl⟩))
  (fun os started H enc _ => lifted os started H enc)
theorem proved : Rows.OrderTimeSaid := over
#print axioms proved
end OrderTime
end Ev
end Go.Proofs.YtifdgbbbojccdaaGreat
