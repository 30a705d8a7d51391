/- Part 4. -/
import Derived.Test.YtelfeeoobdpmkaaGreatZac
/- Calls do what the plain functions say. -/
namespace Go.Proofs.YtelfeeoobdpmkaaGreat
open Go.RowKit
namespace Ev
set_option linter.unusedVariables false
set_option maxRecDepth 100000
noncomputable def ZnM (L0 : List (List RA)) : Zbm → Value
 | .r0 => vn
 | .r1 w0 => vs 0 0 w0.length w0.length
noncomputable def ZmD (L0 : List (List RA)) : Zbm → List (Option AObj)
 | .r0 => []
 | .r1 w0 => [some (.cells (Zb (ZE E_iiii) w0) 25)]

def Zsa : Za9 → Nat
 | .h1m0 => 1
 | .h1m1 v1 v2 => 1
noncomputable def Ztv (L0 : List (List RA)) : Za9 → List (Nat × Value)
 | .h1m0 => [(0, ms (ZE E_iiii) L0), (3, vn), (4, vq)]
 | .h1m1 v1 v2 => [(0, ms (ZE E_iiii) L0), (3, vs 0 0 v1.length v1.length), (4, vi (v2 : Int))]
noncomputable def Ztw (L0 : List (List RA)) : Za9 → List (Option AObj)
 | .h1m0 => []
 | .h1m1 v1 v2 => [some (.cells (Zb (ZE E_iiii) v1) 25)]

noncomputable def ZdI : Nat → Code × List ZaI
 | 1 => Zb3 [1, 1, 0, 1, 3] (Zc8 Tryz.f5) []
 | _ => (.skip, [])
def ZmE : Nat → Bool
 | 1 => true
 | _ => true
noncomputable def ZnN (i : Nat) : List ZaI := match ZmE i with | true => .rnd i :: (ZdI i).2 | false => (ZdI i).2

noncomputable def ZbC (L0 : List (List RA)) (N : Nat) : Mach := ⟨Tryz.f5, [], Za9, Zbm, ZcR L0 N, Zsa, ZdI, ZmE, Ztv L0, Ztw L0, ZnM L0, ZmD L0⟩

theorem ZnO (L0 : List (List RA)) (N : Nat) : (ZbC L0 N).Ok Tryz.prog ZG (.h1m0 : Za9) (ZcR L0 N (.h1m0 : Za9)) := by
 show (ZbC L0 N).Ok Tryz.prog ZG (.h1m0 : Za9) (Zgr L0 N)
 unfold Zgr
 refine Mach.ok_ite (fun g0 => ?_) (fun g0 => ?_)
 ·
  exact Mach.ok_next (M := ZbC L0 N) (cd := 1000000) (cm := 0) (y := (.h1m1 (([((L0.getD 0 []).take ((if (60 : Int) < (((L0.getD 0 []).length : Nat) : Int) then (60 : Int) else (((L0.getD 0 []).length : Nat) : Int))).toNat)] : List (List RA))) (1) : Za9)) (fu := 4000) (orc := (Zi [(0, true)] [] [(0, 0)] [(0, [(mc E_iiii (L0.getD 0 []))])] [(0, .ms 0 ((if (60 : Int) < (((L0.getD 0 []).length : Nat) : Int) then (60 : Int) else (((L0.getD 0 []).length : Nat) : Int))).toNat ((L0.getD 0 []).take ((if (60 : Int) < (((L0.getD 0 []).length : Nat) : Int) then (60 : Int) else (((L0.getD 0 []).length : Nat) : Int))).toNat).length (Z9 E_iiii ((L0.getD 0 []).take ((if (60 : Int) < (((L0.getD 0 []).length : Nat) : Int) then (60 : Int) else (((L0.getD 0 []).length : Nat) : Int))).toNat)))])) (live := [1]) (tv := fun _ => [some (ms (ZE E_iiii) L0), some (vs 1 0 1 1), some (vi (1 : Int))]) (bl := [some (.cells [ms E_iiii ((L0.getD 0 []).take ((if (60 : Int) < (((L0.getD 0 []).length : Nat) : Int) then (60 : Int) else (((L0.getD 0 []).length : Nat) : Int))).toNat)] 25)]) (ob := [(dP (0 ≤ ((if (60 : Int) < (((L0.getD 0 []).length : Nat) : Int) then (60 : Int) else (((L0.getD 0 []).length : Nat) : Int))).toNat ∧ ((if (60 : Int) < (((L0.getD 0 []).length : Nat) : Int) then (60 : Int) else (((L0.getD 0 []).length : Nat) : Int))).toNat ≤ (L0.getD 0 []).length ∧ ZH (code (Z9 E_iiii (L0.getD 0 []))) (0 + 0 * 4) (Z9 E_iiii ((L0.getD 0 []).take ((if (60 : Int) < (((L0.getD 0 []).length : Nat) : Int) then (60 : Int) else (((L0.getD 0 []).length : Nat) : Int))).toNat)).length = some (Z9 E_iiii ((L0.getD 0 []).take ((if (60 : Int) < (((L0.getD 0 []).length : Nat) : Int) then (60 : Int) else (((L0.getD 0 []).length : Nat) : Int))).toNat)) ∧ (((if (60 : Int) < (((L0.getD 0 []).length : Nat) : Int) then (60 : Int) else (((L0.getD 0 []).length : Nat) : Int))).toNat - 0) * 4 = (Z9 E_iiii ((L0.getD 0 []).take ((if (60 : Int) < (((L0.getD 0 []).length : Nat) : Int) then (60 : Int) else (((L0.getD 0 []).length : Nat) : Int))).toNat)).length ∧ ((L0.getD 0 []).take ((if (60 : Int) < (((L0.getD 0 []).length : Nat) : Int) then (60 : Int) else (((L0.getD 0 []).length : Nat) : Int))).toNat).length = ((if (60 : Int) < (((L0.getD 0 []).length : Nat) : Int) then (60 : Int) else (((L0.getD 0 []).length : Nat) : Int))).toNat - 0), true), ((if (60 : Int) < (((L0.getD 0 []).length : Nat) : Int) then (60 : Int) else (((L0.getD 0 []).length : Nat) : Int)) == Int.ofNat ((if (60 : Int) < (((L0.getD 0 []).length : Nat) : Int) then (60 : Int) else (((L0.getD 0 []).length : Nat) : Int))).toNat, true), (dS 0, true), (dP (ZH (code (Z9 (ZE E_iiii) L0)) (0 + (0 * 1)) 1 = some [(mc E_iiii (L0.getD 0 []))]), true), (Nat.blt 0 L0.length, true), ((0 : Int) == Int.ofNat 0, true), ((decide ((0 : Int) < (L0.length : Int))), true)]) rfl (show 1 ∈ Z1 (ZnN 1) from by decide +kernel) (fun gv => by kernel_rfl) (Za (Zg (ZuR (E := E_iiii) (L := (L0.getD 0 [])) (R := ((L0.getD 0 []).take ((if (60 : Int) < (((L0.getD 0 []).length : Nat) : Int) then (60 : Int) else (((L0.getD 0 []).length : Nat) : Int))).toNat)) (l := 0) (h := ((if (60 : Int) < (((L0.getD 0 []).length : Nat) : Int) then (60 : Int) else (((L0.getD 0 []).length : Nat) : Int))).toNat) (size := 4) ltA ltA (by decide) (by simp))) <| oI <| oR <| Za (Zg (Zt (E := (ZE E_iiii)) (L := L0) (i := 0) (q := 0) (by omega) (show (0 + (0 * 1)) = 0 * 1 + 0 from by omega) (show 0 + 1 ≤ 1 from by decide) rfl)) <| oB <| oI <| oY Ze) rfl (by decide) (by rfl) (fun _ => ⟨rr, ⟨⟨Eq.trans (show (vs 0 0 ([((L0.getD 0 []).take ((if (60 : Int) < (((L0.getD 0 []).length : Nat) : Int) then (60 : Int) else (((L0.getD 0 []).length : Nat) : Int))).toNat)] : List (List RA)).length ([((L0.getD 0 []).take ((if (60 : Int) < (((L0.getD 0 []).length : Nat) : Int) then (60 : Int) else (((L0.getD 0 []).length : Nat) : Int))).toNat)] : List (List RA)).length : Value) = vs 0 0 1 1 from (Zaf rfl eqA eqA)) (by rfl), by rfl⟩, ⟨⟨Eq.trans (show (vi ((1 : Nat) : Int) : Value) = vi (1 : Int) from (congrArg (Value.int .i64) (by first | rfl | omega))) (by rfl), by rfl⟩, trivial⟩⟩⟩) ⟨(ZbA (E := (ZE E_iiii)) _ (L := ([((L0.getD 0 []).take ((if (60 : Int) < (((L0.getD 0 []).length : Nat) : Int) then (60 : Int) else (((L0.getD 0 []).length : Nat) : Int))).toNat)] : List (List RA))) _ (show ([ms E_iiii ((L0.getD 0 []).take ((if (60 : Int) < (((L0.getD 0 []).length : Nat) : Int) then (60 : Int) else (((L0.getD 0 []).length : Nat) : Int))).toNat)] : List Value) = Zb (ZE E_iiii) ([((L0.getD 0 []).take ((if (60 : Int) < (((L0.getD 0 []).length : Nat) : Int) then (60 : Int) else (((L0.getD 0 []).length : Nat) : Int))).toNat)] : List (List RA)) from rfl)), trivial⟩
 ·
  exact Mach.ok_fin (M := ZbC L0 N) (cd := 1000000) (cm := 0) (r := (.r0 : Zbm)) (fu := 4000) (orc := (Zi [(0, false)] [] [] [] [])) (live := []) (u := vn) (bl := []) (ob := [((decide ((0 : Int) < (L0.length : Int))), false)]) (fun gv => by kernel_rfl) (oN Ze) rfl (by decide) (by rfl) rr trivial

theorem ZnP (L0 : List (List RA)) (v1 : List (List RA)) (v2 N : Nat) : (ZbC L0 N).Ok Tryz.prog ZG (.h1m1 v1 v2 : Za9) (ZcR L0 N (.h1m1 v1 v2 : Za9)) := by
 show (ZbC L0 N).Ok Tryz.prog ZG (.h1m1 v1 v2 : Za9) (Zgs L0 N v1 v2)
 unfold Zgs
 refine Mach.ok_ite (fun g0 => ?_) (fun g0 => ?_)
 ·
  refine Mach.ok_ite (fun g1 => ?_) (fun g1 => ?_)
  ·
   refine Mach.ok_ite (fun g2 => ?_) (fun g2 => ?_)
   ·
    exact Mach.ok_next (M := ZbC L0 N) (cd := 1000000) (cm := 0) (y := (.h1m1 ((v1 ++ ([((L0.getD v2 []).take ((if (60 : Int) < (((L0.getD v2 []).length : Nat) : Int) then (60 : Int) else (((L0.getD v2 []).length : Nat) : Int))).toNat)] : List (List RA)))) ((v2 + 1)) : Za9)) (fu := 4000) (orc := (Zi [(0, true), (1, true)] [(0, (((v2 + 1) : Nat) : Int))] [(0, v2)] [(0, [(mc E_iiii (L0.getD v2 []))])] [(0, .ms 0 ((if (60 : Int) < (((L0.getD v2 []).length : Nat) : Int) then (60 : Int) else (((L0.getD v2 []).length : Nat) : Int))).toNat ((L0.getD v2 []).take ((if (60 : Int) < (((L0.getD v2 []).length : Nat) : Int) then (60 : Int) else (((L0.getD v2 []).length : Nat) : Int))).toNat).length (Z9 E_iiii ((L0.getD v2 []).take ((if (60 : Int) < (((L0.getD v2 []).length : Nat) : Int) then (60 : Int) else (((L0.getD v2 []).length : Nat) : Int))).toNat))), (1, .ap 1 [ms E_iiii ((L0.getD v2 []).take ((if (60 : Int) < (((L0.getD v2 []).length : Nat) : Int) then (60 : Int) else (((L0.getD v2 []).length : Nat) : Int))).toNat)] (Zb (ZE E_iiii) (v1 ++ ([((L0.getD v2 []).take ((if (60 : Int) < (((L0.getD v2 []).length : Nat) : Int) then (60 : Int) else (((L0.getD v2 []).length : Nat) : Int))).toNat)] : List (List RA)))))])) (live := [2]) (tv := fun _ => [some (ms (ZE E_iiii) L0), some (vs 2 0 (v1.length + 1) (v1.length + 1)), some (vi (((v2 + 1) : Nat) : Int))]) (bl := [some (.cells (Zb (ZE E_iiii) (v1 ++ ([((L0.getD v2 []).take ((if (60 : Int) < (((L0.getD v2 []).length : Nat) : Int) then (60 : Int) else (((L0.getD v2 []).length : Nat) : Int))).toNat)] : List (List RA)))) 25)]) (ob := [((IntKind.i64.wrap ((v2 : Int) + (1 : Int))) == (((v2 + 1) : Nat) : Int), true), (dP ((1 = 1 ∧ Z7 (1 * 1) (List.drop 0 [ms E_iiii ((L0.getD v2 []).take ((if (60 : Int) < (((L0.getD v2 []).length : Nat) : Int) then (60 : Int) else (((L0.getD v2 []).length : Nat) : Int))).toNat)]) = some [ms E_iiii ((L0.getD v2 []).take ((if (60 : Int) < (((L0.getD v2 []).length : Nat) : Int) then (60 : Int) else (((L0.getD v2 []).length : Nat) : Int))).toNat)] ∧ ZF Zaw [ms E_iiii ((L0.getD v2 []).take ((if (60 : Int) < (((L0.getD v2 []).length : Nat) : Int) then (60 : Int) else (((L0.getD v2 []).length : Nat) : Int))).toNat)] = true) ∧ 0 < 1 ∧ 1 ≤ 100000 ∧ v1.length < v1.length + 1 ∧ v1.length ≤ 100000 ∧ v1.length * 1 ≤ (List.length (Zb (ZE E_iiii) v1)) ∧ List.take (v1.length * 1) (Zb (ZE E_iiii) v1) ++ [ms E_iiii ((L0.getD v2 []).take ((if (60 : Int) < (((L0.getD v2 []).length : Nat) : Int) then (60 : Int) else (((L0.getD v2 []).length : Nat) : Int))).toNat)] = (Zb (ZE E_iiii) (v1 ++ ([((L0.getD v2 []).take ((if (60 : Int) < (((L0.getD v2 []).length : Nat) : Int) then (60 : Int) else (((L0.getD v2 []).length : Nat) : Int))).toNat)] : List (List RA))))), true), (dP (0 ≤ ((if (60 : Int) < (((L0.getD v2 []).length : Nat) : Int) then (60 : Int) else (((L0.getD v2 []).length : Nat) : Int))).toNat ∧ ((if (60 : Int) < (((L0.getD v2 []).length : Nat) : Int) then (60 : Int) else (((L0.getD v2 []).length : Nat) : Int))).toNat ≤ (L0.getD v2 []).length ∧ ZH (code (Z9 E_iiii (L0.getD v2 []))) (0 + 0 * 4) (Z9 E_iiii ((L0.getD v2 []).take ((if (60 : Int) < (((L0.getD v2 []).length : Nat) : Int) then (60 : Int) else (((L0.getD v2 []).length : Nat) : Int))).toNat)).length = some (Z9 E_iiii ((L0.getD v2 []).take ((if (60 : Int) < (((L0.getD v2 []).length : Nat) : Int) then (60 : Int) else (((L0.getD v2 []).length : Nat) : Int))).toNat)) ∧ (((if (60 : Int) < (((L0.getD v2 []).length : Nat) : Int) then (60 : Int) else (((L0.getD v2 []).length : Nat) : Int))).toNat - 0) * 4 = (Z9 E_iiii ((L0.getD v2 []).take ((if (60 : Int) < (((L0.getD v2 []).length : Nat) : Int) then (60 : Int) else (((L0.getD v2 []).length : Nat) : Int))).toNat)).length ∧ ((L0.getD v2 []).take ((if (60 : Int) < (((L0.getD v2 []).length : Nat) : Int) then (60 : Int) else (((L0.getD v2 []).length : Nat) : Int))).toNat).length = ((if (60 : Int) < (((L0.getD v2 []).length : Nat) : Int) then (60 : Int) else (((L0.getD v2 []).length : Nat) : Int))).toNat - 0), true), ((if (60 : Int) < (((L0.getD v2 []).length : Nat) : Int) then (60 : Int) else (((L0.getD v2 []).length : Nat) : Int)) == Int.ofNat ((if (60 : Int) < (((L0.getD v2 []).length : Nat) : Int) then (60 : Int) else (((L0.getD v2 []).length : Nat) : Int))).toNat, true), (dS 0, true), (dP (ZH (code (Z9 (ZE E_iiii) L0)) (0 + (v2 * 1)) 1 = some [(mc E_iiii (L0.getD v2 []))]), true), (Nat.blt v2 L0.length, true), ((v2 : Int) == Int.ofNat v2, true), ((decide ((v2 : Int) < (4 : Int))), true), ((decide ((v2 : Int) < (L0.length : Int))), true)]) rfl (show 1 ∈ Z1 (ZnN 1) from by decide +kernel) (fun gv => by kernel_rfl) (Za (beq_iff_eq.2 ((wrap_i64 ltA).trans (by first | rfl | omega))) <| Za (Zg ⟨⟨rfl, ⟨rfl, rfl⟩⟩, by omega, by omega, ltA, by omega, (ZaB (E := (ZE E_iiii)) (L := v1) (M := ([((L0.getD v2 []).take ((if (60 : Int) < (((L0.getD v2 []).length : Nat) : Int) then (60 : Int) else (((L0.getD v2 []).length : Nat) : Int))).toNat)] : List (List RA))) (n := v1.length) (show _ = _ * 1 from rfl) (by omega) (R := (v1 ++ ([((L0.getD v2 []).take ((if (60 : Int) < (((L0.getD v2 []).length : Nat) : Int) then (60 : Int) else (((L0.getD v2 []).length : Nat) : Int))).toNat)] : List (List RA)))) (by rw [List.take_of_length_le (by omega)]))⟩) <| Za (Zg (ZuR (E := E_iiii) (L := (L0.getD v2 [])) (R := ((L0.getD v2 []).take ((if (60 : Int) < (((L0.getD v2 []).length : Nat) : Int) then (60 : Int) else (((L0.getD v2 []).length : Nat) : Int))).toNat)) (l := 0) (h := ((if (60 : Int) < (((L0.getD v2 []).length : Nat) : Int) then (60 : Int) else (((L0.getD v2 []).length : Nat) : Int))).toNat) (size := 4) ltA ltA (by decide) (by simp))) <| oI <| oR <| Za (Zg (Zt (E := (ZE E_iiii)) (L := L0) (i := v2) (q := 0) (by omega) (show (0 + (v2 * 1)) = v2 * 1 + 0 from by omega) (show 0 + 1 ≤ 1 from by decide) rfl)) <| oB <| oI <| oY <| oY Ze) rfl (by decide) (by rfl) (fun _ => ⟨rr, ⟨⟨Eq.trans (show (vs 0 0 (v1 ++ ([((L0.getD v2 []).take ((if (60 : Int) < (((L0.getD v2 []).length : Nat) : Int) then (60 : Int) else (((L0.getD v2 []).length : Nat) : Int))).toNat)] : List (List RA))).length (v1 ++ ([((L0.getD v2 []).take ((if (60 : Int) < (((L0.getD v2 []).length : Nat) : Int) then (60 : Int) else (((L0.getD v2 []).length : Nat) : Int))).toNat)] : List (List RA))).length : Value) = vs 0 0 (v1.length + 1) (v1.length + 1) from (Zaf rfl eqA eqA)) (by rfl), by rfl⟩, ⟨rr, trivial⟩⟩⟩) ⟨(Zf (E := (ZE E_iiii)) (α := List RA) _ (v1 ++ ([((L0.getD v2 []).take ((if (60 : Int) < (((L0.getD v2 []).length : Nat) : Int) then (60 : Int) else (((L0.getD v2 []).length : Nat) : Int))).toNat)] : List (List RA))) _), trivial⟩
   ·
    exact Mach.ok_none
  ·
   exact Mach.ok_fin (M := ZbC L0 N) (cd := 1000000) (cm := 0) (r := (.r1 (v1) : Zbm)) (fu := 4000) (orc := (Zi [(0, true), (1, false)] [] [] [] [])) (live := [0]) (u := vs 0 0 v1.length v1.length) (bl := [some (.cells (Zb (ZE E_iiii) v1) 25)]) (ob := [((decide ((v2 : Int) < (4 : Int))), false), ((decide ((v2 : Int) < (L0.length : Int))), true)]) (fun gv => by kernel_rfl) (oN <| oY Ze) rfl (by decide) (by rfl) rr ⟨(Zf (E := (ZE E_iiii)) (α := List RA) _ v1 _), trivial⟩
 ·
  exact Mach.ok_fin (M := ZbC L0 N) (cd := 1000000) (cm := 0) (r := (.r1 (v1) : Zbm)) (fu := 4000) (orc := (Zi [(0, false)] [] [] [] [])) (live := [0]) (u := vs 0 0 v1.length v1.length) (bl := [some (.cells (Zb (ZE E_iiii) v1) 25)]) (ob := [((decide ((v2 : Int) < (L0.length : Int))), false)]) (fun gv => by kernel_rfl) (oN Ze) rfl (by decide) (by rfl) rr ⟨(Zf (E := (ZE E_iiii)) (α := List RA) _ v1 _), trivial⟩

theorem ZqW (L0 : List (List RA)) (N : Nat) : (ZbC L0 N).Enter Tryz.prog ZG #[ms (ZE E_iiii) L0] (ZiF L0 N) := by
 unfold ZiF
 exact Mach.en_head (bK := ZdI 1) (M := ZbC L0 N) (cd := 1000000) (cm := 0) (y := (.h1m0 : Za9)) (fu := 4000) (orc := (Zi [] [] [] [] [])) (live := []) (tv := [some (ms (ZE E_iiii) L0), some (vn), some (vq)]) (bl := []) (ob := []) rfl rfl (show Z1 (ZdI 1).2 = [] from rfl) (by kernel_rfl) Ze rfl (by decide) (by rfl) ⟨rr, ⟨rr, ⟨rr, trivial⟩⟩⟩ trivial

theorem Zjj (L0 : List (List RA)) (N : Nat) (r : Zbm) (h : Zfo L0 N = some r) : LSpec Tryz.prog 5 #[ms (ZE E_iiii) L0] [] (ZnM L0 r) (ZmD L0 r) :=
 Mach.spec Zl (ZbC L0 N) Tryz.func5 (by kernel_rfl) (by kernel_rfl) (fun x => by cases x <;> exact Zj _ rfl) (fun r => by cases r <;> exact Zj _ rfl) (fun x => by
  cases x with
  | h1m0 => exact fun _ => (show ¬ (1 ∈ Z1 (ZdI 1).2) from by decide +kernel)
  | h1m1 _ _ => exact fun _ => (show ¬ (1 ∈ Z1 (ZdI 1).2) from by decide +kernel)
  ) (fun x => (show (ZbC L0 N).Ok Tryz.prog ZG x (ZcR L0 N x) from by
  cases x with
  | h1m0 => exact ZnO L0 N
  | h1m1 v1 v2 => exact ZnP L0 v1 v2 N
  )) (ZqW L0 N) (n := N) h

noncomputable def Zsb (L0 : List (List RA)) (n : Nat) : Zaj := .call [] (vn) [] 0
def ZmF (A : Array Value) (L0 : List (List RA)) (n : Nat) : Prop := Zz Tryz.prog 5 A [] (vn) [] n 0

theorem Zsc (A : Array Value) (L0 : List (List RA)) (N : Nat) (h : Zfo L0 N = some (.r0)) (n : Nat) (hA : A = #[ms (ZE E_iiii) L0]) (hnd : ([] : List Nat).Nodup) (hlt : ∀ k ∈ ([] : List Nat), k < n) : ZmF A L0  n :=
 ZC hA (LSpec.callL (show LSpec Tryz.prog 5 #[ms (ZE E_iiii) L0] [] (vn) [] from Zjj L0 N _ h) [] n [] rfl hnd hlt (show 0 ≤ 0 from by decide) (show ∀ j ∈ ([] : List Nat), j < 0 from by decide) (by rfl) trivial (by rfl) trivial trivial rfl rfl rfl rfl rfl)

noncomputable def Zsd (L0 : List (List RA)) (w0 : List (List RA)) (n : Nat) : Zaj := .call [] (vs n 0 w0.length w0.length) [(n, some (.cells (Zb (ZE E_iiii) w0) 25))] 1
def ZmG (A : Array Value) (L0 : List (List RA)) (w0 : List (List RA)) (n : Nat) : Prop := Zz Tryz.prog 5 A [] (vs n 0 w0.length w0.length) [(n, some (.cells (Zb (ZE E_iiii) w0) 25))] n 1

theorem Zse (A : Array Value) (L0 : List (List RA)) (w0 : List (List RA)) (N : Nat) (h : Zfo L0 N = some (.r1 w0)) (n : Nat) (hA : A = #[ms (ZE E_iiii) L0]) (hnd : ([] : List Nat).Nodup) (hlt : ∀ k ∈ ([] : List Nat), k < n) : ZmG A L0 w0  n :=
 ZC hA (LSpec.callL (show LSpec Tryz.prog 5 #[ms (ZE E_iiii) L0] [] (vs 0 0 w0.length w0.length) [some (.cells (Zb (ZE E_iiii) w0) 25)] from Zjj L0 N _ h) [] n [0] rfl hnd hlt (show 0 ≤ 1 from by decide) (show ∀ j ∈ ([0] : List Nat), j < 1 from by decide) (by rfl) trivial (by rfl) ⟨(Zo _ _ _), trivial⟩ ⟨(by decide), trivial⟩ rfl rfl rfl rfl (Zc (Zp rfl (Zad (Z0 _ _ _))) rfl))

noncomputable def ZmH  : ZdY → Value
 | .r0 => Value.tuple #[vq, vi (270 : Int)]
noncomputable def Zls  : ZdY → List (Option AObj)
 | .r0 => []

theorem Zpn  (N : Nat) : Gx Tryz.prog 10 [] #[vn] (ZmH ) (Zls ) (Zf5  N) := by
 unfold Zf5
 exact Zm Zl (r := (.r0 : ZdY)) (fu := 4000) (orc := (Zi [] [] [] [] [])) (live := []) (u := Value.tuple #[vq, vi (270 : Int)]) (bl := []) (ob := []) (by kernel_rfl) Ze rfl (by decide) (by rfl) rr trivial (Zj _ rfl)

theorem ZnQ  (N : Nat) (r : ZdY) (h : Zf5  N = some r) : LSpec Tryz.prog 10 #[vn] [] (ZmH  r) (Zls  r) :=
 (Zpn  N) r h

noncomputable def ZqX  (n : Nat) : Zaj := .call [] (Value.tuple #[vq, vi (270 : Int)]) [] 0
def Zlt (A : Array Value)  (n : Nat) : Prop := Zz Tryz.prog 10 A [] (Value.tuple #[vq, vi (270 : Int)]) [] n 0

theorem ZqY (A : Array Value)  (N : Nat) (h : Zf5  N = some (.r0)) (n : Nat) (hA : A = #[vn]) (hnd : ([] : List Nat).Nodup) (hlt : ∀ k ∈ ([] : List Nat), k < n) : Zlt A   n :=
 ZC hA (LSpec.callL (show LSpec Tryz.prog 10 #[vn] [] (Value.tuple #[vq, vi (270 : Int)]) [] from ZnQ  N _ h) [] n [] rfl hnd hlt (show 0 ≤ 0 from by decide) (show ∀ j ∈ ([] : List Nat), j < 0 from by decide) (by rfl) trivial (by rfl) trivial trivial rfl rfl rfl rfl rfl)

noncomputable def Zlu  : Zdv → Value
 | .r0 => Value.tuple #[vq, vi (270 : Int)]
noncomputable def ZjY  : Zdv → List (Option AObj)
 | .r0 => []

theorem Zoy  (N : Nat) : Gx Tryz.prog 11 [] #[vn] (Zlu ) (ZjY ) (ZeN  N) := by
 unfold ZeN
 exact Zm Zl (r := (.r0 : Zdv)) (fu := 4000) (orc := (Zi [] [] [] [] [])) (live := []) (u := Value.tuple #[vq, vi (270 : Int)]) (bl := []) (ob := []) (by kernel_rfl) Ze rfl (by decide) (by rfl) rr trivial (Zj _ rfl)

theorem Zni  (N : Nat) (r : Zdv) (h : ZeN  N = some r) : LSpec Tryz.prog 11 #[vn] [] (Zlu  r) (ZjY  r) :=
 (Zoy  N) r h

noncomputable def Zpo  (n : Nat) : Zaj := .call [] (Value.tuple #[vq, vi (270 : Int)]) [] 0
def ZjZ (A : Array Value)  (n : Nat) : Prop := Zz Tryz.prog 11 A [] (Value.tuple #[vq, vi (270 : Int)]) [] n 0

theorem Zpp (A : Array Value)  (N : Nat) (h : ZeN  N = some (.r0)) (n : Nat) (hA : A = #[vn]) (hnd : ([] : List Nat).Nodup) (hlt : ∀ k ∈ ([] : List Nat), k < n) : ZjZ A   n :=
 ZC hA (LSpec.callL (show LSpec Tryz.prog 11 #[vn] [] (Value.tuple #[vq, vi (270 : Int)]) [] from Zni  N _ h) [] n [] rfl hnd hlt (show 0 ≤ 0 from by decide) (show ∀ j ∈ ([] : List Nat), j < 0 from by decide) (by rfl) trivial (by rfl) trivial trivial rfl rfl rfl rfl rfl)

noncomputable def ZmI (a0 : Int) : Z6 → Value
 | .r0 => Value.agg #[Value.string ⟨#[]⟩, vq, vq, vq]
 | .r1 => Value.agg #[Value.string ⟨#[99, 111, 110, 115, 116]⟩, vi (1 : Int), vi (6 : Int), vq]
 | .r2 => Value.agg #[Value.string ⟨#[110, 105, 108]⟩, vi (1 : Int), vq, vq]
 | .r3 => Value.agg #[Value.string ⟨#[109, 111, 118, 101]⟩, vi (1 : Int), vi (1 : Int), vq]
 | .r4 => Value.agg #[Value.string ⟨#[97, 100, 100]⟩, vi (1 : Int), vi (1 : Int), vi (1 : Int)]
 | .r5 => Value.agg #[Value.string ⟨#[115, 117, 98]⟩, vi (1 : Int), vi (1 : Int), vi (1 : Int)]
 | .r6 => Value.agg #[Value.string ⟨#[108, 101, 115, 115]⟩, vi (1 : Int), vi (1 : Int), vi (1 : Int)]
 | .r7 => Value.agg #[Value.string ⟨#[101, 113]⟩, vi (1 : Int), vi (1 : Int), vi (1 : Int)]
 | .r8 => Value.agg #[Value.string ⟨#[106, 117, 109, 112]⟩, vi (4 : Int), vq, vq]
 | .r9 => Value.agg #[Value.string ⟨#[106, 117, 109, 112, 122]⟩, vi (1 : Int), vi (4 : Int), vq]
 | .r10 => Value.agg #[Value.string ⟨#[114, 111, 111, 116]⟩, vi (1 : Int), vq, vq]
 | .r11 => Value.agg #[Value.string ⟨#[110, 101, 119]⟩, vi (1 : Int), vi (3 : Int), vi (5 : Int)]
 | .r12 => Value.agg #[Value.string ⟨#[102, 114, 101, 101]⟩, vi (1 : Int), vq, vq]
 | .r13 => Value.agg #[Value.string ⟨#[103, 101, 116]⟩, vi (1 : Int), vi (1 : Int), vi (2 : Int)]
 | .r14 => Value.agg #[Value.string ⟨#[115, 101, 116]⟩, vi (1 : Int), vi (2 : Int), vi (1 : Int)]
 | .r15 => Value.agg #[Value.string ⟨#[98, 101, 103, 105, 110]⟩, vq, vq, vq]
 | .r16 => Value.agg #[Value.string ⟨#[101, 108, 115, 101]⟩, vq, vq, vq]
 | .r17 => Value.agg #[Value.string ⟨#[101, 110, 100]⟩, vq, vq, vq]
 | .r18 => Value.agg #[Value.string ⟨#[114, 101, 116, 114, 121]⟩, vq, vq, vq]
 | .r19 => Value.agg #[Value.string ⟨#[101, 109, 105, 116]⟩, vi (1 : Int), vq, vq]
 | .r20 => Value.agg #[Value.string ⟨#[104, 97, 108, 116]⟩, vq, vq, vq]
noncomputable def Zlv (a0 : Int) : Z6 → List (Option AObj)
 | .r0 => []
 | .r1 => []
 | .r2 => []
 | .r3 => []
 | .r4 => []
 | .r5 => []
 | .r6 => []
 | .r7 => []
 | .r8 => []
 | .r9 => []
 | .r10 => []
 | .r11 => []
 | .r12 => []
 | .r13 => []
 | .r14 => []
 | .r15 => []
 | .r16 => []
 | .r17 => []
 | .r18 => []
 | .r19 => []
 | .r20 => []

theorem Zpq (a0 : Int) (N : Nat) : Gx Tryz.prog 59 [] #[vi a0] (ZmI a0) (Zlv a0) (Zap a0 N) := by
 unfold Zap
 refine Zn (fun g0 => ?_) (fun g0 => ?_)
 ·
  exact Zm Zl (r := (.r0 : Z6)) (fu := 4000) (orc := (Zi [(0, true)] [] [] [] [])) (live := []) (u := Value.agg #[Value.string ⟨#[]⟩, vq, vq, vq]) (bl := []) (ob := [((decide (a0 < (0 : Int))), true)]) (by kernel_rfl) (oY Ze) rfl (by decide) (by rfl) rr trivial (Zj _ rfl)
 ·
  refine Zn (fun g1 => ?_) (fun g1 => ?_)
  ·
   exact Zm Zl (r := (.r0 : Z6)) (fu := 4000) (orc := (Zi [(0, false), (1, true)] [] [] [] [])) (live := []) (u := Value.agg #[Value.string ⟨#[]⟩, vq, vq, vq]) (bl := []) (ob := [((decide (a0 ≥ (21 : Int))), true), ((decide (a0 < (0 : Int))), false)]) (by kernel_rfl) (oY <| oN Ze) rfl (by decide) (by rfl) rr trivial (Zj _ rfl)
  ·
   refine Zn (fun g2 => ?_) (fun g2 => ?_)
   ·
    exact Zm Zl (r := (.r0 : Z6)) (fu := 4000) (orc := (Zi [(0, false), (1, false)] [] [(0, 0)] [] [])) (live := []) (u := Value.agg #[Value.string ⟨#[]⟩, vq, vq, vq]) (bl := []) (ob := [(Nat.blt 0 21, true), (a0 == Int.ofNat 0, true), ((decide (a0 ≥ (21 : Int))), false), ((decide (a0 < (0 : Int))), false)]) (by kernel_rfl) (oB <| Za (beq_iff_eq.2 (show _ = ((0 : Nat) : Int) from by omega)) <| oN <| oN Ze) rfl (by decide) (by rfl) rr trivial (Zj _ rfl)
   ·
    refine Zn (fun g3 => ?_) (fun g3 => ?_)
    ·
     exact Zm Zl (r := (.r1 : Z6)) (fu := 4000) (orc := (Zi [(0, false), (1, false)] [] [(0, 1)] [] [])) (live := []) (u := Value.agg #[Value.string ⟨#[99, 111, 110, 115, 116]⟩, vi (1 : Int), vi (6 : Int), vq]) (bl := []) (ob := [(Nat.blt 1 21, true), (a0 == Int.ofNat 1, true), ((decide (a0 ≥ (21 : Int))), false), ((decide (a0 < (0 : Int))), false)]) (by kernel_rfl) (oB <| Za (beq_iff_eq.2 (show _ = ((1 : Nat) : Int) from by omega)) <| oN <| oN Ze) rfl (by decide) (by rfl) rr trivial (Zj _ rfl)
    ·
     refine Zn (fun g4 => ?_) (fun g4 => ?_)
     ·
      exact Zm Zl (r := (.r2 : Z6)) (fu := 4000) (orc := (Zi [(0, false), (1, false)] [] [(0, 2)] [] [])) (live := []) (u := Value.agg #[Value.string ⟨#[110, 105, 108]⟩, vi (1 : Int), vq, vq]) (bl := []) (ob := [(Nat.blt 2 21, true), (a0 == Int.ofNat 2, true), ((decide (a0 ≥ (21 : Int))), false), ((decide (a0 < (0 : Int))), false)]) (by kernel_rfl) (oB <| Za (beq_iff_eq.2 (show _ = ((2 : Nat) : Int) from by omega)) <| oN <| oN Ze) rfl (by decide) (by rfl) rr trivial (Zj _ rfl)
     ·
      refine Zn (fun g5 => ?_) (fun g5 => ?_)
      ·
       exact Zm Zl (r := (.r3 : Z6)) (fu := 4000) (orc := (Zi [(0, false), (1, false)] [] [(0, 3)] [] [])) (live := []) (u := Value.agg #[Value.string ⟨#[109, 111, 118, 101]⟩, vi (1 : Int), vi (1 : Int), vq]) (bl := []) (ob := [(Nat.blt 3 21, true), (a0 == Int.ofNat 3, true), ((decide (a0 ≥ (21 : Int))), false), ((decide (a0 < (0 : Int))), false)]) (by kernel_rfl) (oB <| Za (beq_iff_eq.2 (show _ = ((3 : Nat) : Int) from by omega)) <| oN <| oN Ze) rfl (by decide) (by rfl) rr trivial (Zj _ rfl)
      ·
       refine Zn (fun g6 => ?_) (fun g6 => ?_)
       ·
        exact Zm Zl (r := (.r4 : Z6)) (fu := 4000) (orc := (Zi [(0, false), (1, false)] [] [(0, 4)] [] [])) (live := []) (u := Value.agg #[Value.string ⟨#[97, 100, 100]⟩, vi (1 : Int), vi (1 : Int), vi (1 : Int)]) (bl := []) (ob := [(Nat.blt 4 21, true), (a0 == Int.ofNat 4, true), ((decide (a0 ≥ (21 : Int))), false), ((decide (a0 < (0 : Int))), false)]) (by kernel_rfl) (oB <| Za (beq_iff_eq.2 (show _ = ((4 : Nat) : Int) from by omega)) <| oN <| oN Ze) rfl (by decide) (by rfl) rr trivial (Zj _ rfl)
       ·
        refine Zn (fun g7 => ?_) (fun g7 => ?_)
        ·
         exact Zm Zl (r := (.r5 : Z6)) (fu := 4000) (orc := (Zi [(0, false), (1, false)] [] [(0, 5)] [] [])) (live := []) (u := Value.agg #[Value.string ⟨#[115, 117, 98]⟩, vi (1 : Int), vi (1 : Int), vi (1 : Int)]) (bl := []) (ob := [(Nat.blt 5 21, true), (a0 == Int.ofNat 5, true), ((decide (a0 ≥ (21 : Int))), false), ((decide (a0 < (0 : Int))), false)]) (by kernel_rfl) (oB <| Za (beq_iff_eq.2 (show _ = ((5 : Nat) : Int) from by omega)) <| oN <| oN Ze) rfl (by decide) (by rfl) rr trivial (Zj _ rfl)
        ·
         refine Zn (fun g8 => ?_) (fun g8 => ?_)
         ·
          exact Zm Zl (r := (.r6 : Z6)) (fu := 4000) (orc := (Zi [(0, false), (1, false)] [] [(0, 6)] [] [])) (live := []) (u := Value.agg #[Value.string ⟨#[108, 101, 115, 115]⟩, vi (1 : Int), vi (1 : Int), vi (1 : Int)]) (bl := []) (ob := [(Nat.blt 6 21, true), (a0 == Int.ofNat 6, true), ((decide (a0 ≥ (21 : Int))), false), ((decide (a0 < (0 : Int))), false)]) (by kernel_rfl) (oB <| Za (beq_iff_eq.2 (show _ = ((6 : Nat) : Int) from by omega)) <| oN <| oN Ze) rfl (by decide) (by rfl) rr trivial (Zj _ rfl)
         ·
          refine Zn (fun g9 => ?_) (fun g9 => ?_)
          ·
           exact Zm Zl (r := (.r7 : Z6)) (fu := 4000) (orc := (Zi [(0, false), (1, false)] [] [(0, 7)] [] [])) (live := []) (u := Value.agg #[Value.string ⟨#[101, 113]⟩, vi (1 : Int), vi (1 : Int), vi (1 : Int)]) (bl := []) (ob := [(Nat.blt 7 21, true), (a0 == Int.ofNat 7, true), ((decide (a0 ≥ (21 : Int))), false), ((decide (a0 < (0 : Int))), false)]) (by kernel_rfl) (oB <| Za (beq_iff_eq.2 (show _ = ((7 : Nat) : Int) from by omega)) <| oN <| oN Ze) rfl (by decide) (by rfl) rr trivial (Zj _ rfl)
          ·
           refine Zn (fun g10 => ?_) (fun g10 => ?_)
           ·
            exact Zm Zl (r := (.r8 : Z6)) (fu := 4000) (orc := (Zi [(0, false), (1, false)] [] [(0, 8)] [] [])) (live := []) (u := Value.agg #[Value.string ⟨#[106, 117, 109, 112]⟩, vi (4 : Int), vq, vq]) (bl := []) (ob := [(Nat.blt 8 21, true), (a0 == Int.ofNat 8, true), ((decide (a0 ≥ (21 : Int))), false), ((decide (a0 < (0 : Int))), false)]) (by kernel_rfl) (oB <| Za (beq_iff_eq.2 (show _ = ((8 : Nat) : Int) from by omega)) <| oN <| oN Ze) rfl (by decide) (by rfl) rr trivial (Zj _ rfl)
           ·
            refine Zn (fun g11 => ?_) (fun g11 => ?_)
            ·
             exact Zm Zl (r := (.r9 : Z6)) (fu := 4000) (orc := (Zi [(0, false), (1, false)] [] [(0, 9)] [] [])) (live := []) (u := Value.agg #[Value.string ⟨#[106, 117, 109, 112, 122]⟩, vi (1 : Int), vi (4 : Int), vq]) (bl := []) (ob := [(Nat.blt 9 21, true), (a0 == Int.ofNat 9, true), ((decide (a0 ≥ (21 : Int))), false), ((decide (a0 < (0 : Int))), false)]) (by kernel_rfl) (oB <| Za (beq_iff_eq.2 (show _ = ((9 : Nat) : Int) from by omega)) <| oN <| oN Ze) rfl (by decide) (by rfl) rr trivial (Zj _ rfl)
            ·
             refine Zn (fun g12 => ?_) (fun g12 => ?_)
             ·
              exact Zm Zl (r := (.r10 : Z6)) (fu := 4000) (orc := (Zi [(0, false), (1, false)] [] [(0, 10)] [] [])) (live := []) (u := Value.agg #[Value.string ⟨#[114, 111, 111, 116]⟩, vi (1 : Int), vq, vq]) (bl := []) (ob := [(Nat.blt 10 21, true), (a0 == Int.ofNat 10, true), ((decide (a0 ≥ (21 : Int))), false), ((decide (a0 < (0 : Int))), false)]) (by kernel_rfl) (oB <| Za (beq_iff_eq.2 (show _ = ((10 : Nat) : Int) from by omega)) <| oN <| oN Ze) rfl (by decide) (by rfl) rr trivial (Zj _ rfl)
             ·
              refine Zn (fun g13 => ?_) (fun g13 => ?_)
              ·
               exact Zm Zl (r := (.r11 : Z6)) (fu := 4000) (orc := (Zi [(0, false), (1, false)] [] [(0, 11)] [] [])) (live := []) (u := Value.agg #[Value.string ⟨#[110, 101, 119]⟩, vi (1 : Int), vi (3 : Int), vi (5 : Int)]) (bl := []) (ob := [(Nat.blt 11 21, true), (a0 == Int.ofNat 11, true), ((decide (a0 ≥ (21 : Int))), false), ((decide (a0 < (0 : Int))), false)]) (by kernel_rfl) (oB <| Za (beq_iff_eq.2 (show _ = ((11 : Nat) : Int) from by omega)) <| oN <| oN Ze) rfl (by decide) (by rfl) rr trivial (Zj _ rfl)
              ·
               refine Zn (fun g14 => ?_) (fun g14 => ?_)
               ·
                exact Zm Zl (r := (.r12 : Z6)) (fu := 4000) (orc := (Zi [(0, false), (1, false)] [] [(0, 12)] [] [])) (live := []) (u := Value.agg #[Value.string ⟨#[102, 114, 101, 101]⟩, vi (1 : Int), vq, vq]) (bl := []) (ob := [(Nat.blt 12 21, true), (a0 == Int.ofNat 12, true), ((decide (a0 ≥ (21 : Int))), false), ((decide (a0 < (0 : Int))), false)]) (by kernel_rfl) (oB <| Za (beq_iff_eq.2 (show _ = ((12 : Nat) : Int) from by omega)) <| oN <| oN Ze) rfl (by decide) (by rfl) rr trivial (Zj _ rfl)
               ·
                refine Zn (fun g15 => ?_) (fun g15 => ?_)
                ·
                 exact Zm Zl (r := (.r13 : Z6)) (fu := 4000) (orc := (Zi [(0, false), (1, false)] [] [(0, 13)] [] [])) (live := []) (u := Value.agg #[Value.string ⟨#[103, 101, 116]⟩, vi (1 : Int), vi (1 : Int), vi (2 : Int)]) (bl := []) (ob := [(Nat.blt 13 21, true), (a0 == Int.ofNat 13, true), ((decide (a0 ≥ (21 : Int))), false), ((decide (a0 < (0 : Int))), false)]) (by kernel_rfl) (oB <| Za (beq_iff_eq.2 (show _ = ((13 : Nat) : Int) from by omega)) <| oN <| oN Ze) rfl (by decide) (by rfl) rr trivial (Zj _ rfl)
                ·
                 refine Zn (fun g16 => ?_) (fun g16 => ?_)
                 ·
                  exact Zm Zl (r := (.r14 : Z6)) (fu := 4000) (orc := (Zi [(0, false), (1, false)] [] [(0, 14)] [] [])) (live := []) (u := Value.agg #[Value.string ⟨#[115, 101, 116]⟩, vi (1 : Int), vi (2 : Int), vi (1 : Int)]) (bl := []) (ob := [(Nat.blt 14 21, true), (a0 == Int.ofNat 14, true), ((decide (a0 ≥ (21 : Int))), false), ((decide (a0 < (0 : Int))), false)]) (by kernel_rfl) (oB <| Za (beq_iff_eq.2 (show _ = ((14 : Nat) : Int) from by omega)) <| oN <| oN Ze) rfl (by decide) (by rfl) rr trivial (Zj _ rfl)
                 ·
                  refine Zn (fun g17 => ?_) (fun g17 => ?_)
                  ·
                   exact Zm Zl (r := (.r15 : Z6)) (fu := 4000) (orc := (Zi [(0, false), (1, false)] [] [(0, 15)] [] [])) (live := []) (u := Value.agg #[Value.string ⟨#[98, 101, 103, 105, 110]⟩, vq, vq, vq]) (bl := []) (ob := [(Nat.blt 15 21, true), (a0 == Int.ofNat 15, true), ((decide (a0 ≥ (21 : Int))), false), ((decide (a0 < (0 : Int))), false)]) (by kernel_rfl) (oB <| Za (beq_iff_eq.2 (show _ = ((15 : Nat) : Int) from by omega)) <| oN <| oN Ze) rfl (by decide) (by rfl) rr trivial (Zj _ rfl)
                  ·
                   refine Zn (fun g18 => ?_) (fun g18 => ?_)
                   ·
                    exact Zm Zl (r := (.r16 : Z6)) (fu := 4000) (orc := (Zi [(0, false), (1, false)] [] [(0, 16)] [] [])) (live := []) (u := Value.agg #[Value.string ⟨#[101, 108, 115, 101]⟩, vq, vq, vq]) (bl := []) (ob := [(Nat.blt 16 21, true), (a0 == Int.ofNat 16, true), ((decide (a0 ≥ (21 : Int))), false), ((decide (a0 < (0 : Int))), false)]) (by kernel_rfl) (oB <| Za (beq_iff_eq.2 (show _ = ((16 : Nat) : Int) from by omega)) <| oN <| oN Ze) rfl (by decide) (by rfl) rr trivial (Zj _ rfl)
                   ·
                    refine Zn (fun g19 => ?_) (fun g19 => ?_)
                    ·
                     exact Zm Zl (r := (.r17 : Z6)) (fu := 4000) (orc := (Zi [(0, false), (1, false)] [] [(0, 17)] [] [])) (live := []) (u := Value.agg #[Value.string ⟨#[101, 110, 100]⟩, vq, vq, vq]) (bl := []) (ob := [(Nat.blt 17 21, true), (a0 == Int.ofNat 17, true), ((decide (a0 ≥ (21 : Int))), false), ((decide (a0 < (0 : Int))), false)]) (by kernel_rfl) (oB <| Za (beq_iff_eq.2 (show _ = ((17 : Nat) : Int) from by omega)) <| oN <| oN Ze) rfl (by decide) (by rfl) rr trivial (Zj _ rfl)
                    ·
                     refine Zn (fun g20 => ?_) (fun g20 => ?_)
                     ·
                      exact Zm Zl (r := (.r18 : Z6)) (fu := 4000) (orc := (Zi [(0, false), (1, false)] [] [(0, 18)] [] [])) (live := []) (u := Value.agg #[Value.string ⟨#[114, 101, 116, 114, 121]⟩, vq, vq, vq]) (bl := []) (ob := [(Nat.blt 18 21, true), (a0 == Int.ofNat 18, true), ((decide (a0 ≥ (21 : Int))), false), ((decide (a0 < (0 : Int))), false)]) (by kernel_rfl) (oB <| Za (beq_iff_eq.2 (show _ = ((18 : Nat) : Int) from by omega)) <| oN <| oN Ze) rfl (by decide) (by rfl) rr trivial (Zj _ rfl)
                     ·
                      refine Zn (fun g21 => ?_) (fun g21 => ?_)
                      ·
                       exact Zm Zl (r := (.r19 : Z6)) (fu := 4000) (orc := (Zi [(0, false), (1, false)] [] [(0, 19)] [] [])) (live := []) (u := Value.agg #[Value.string ⟨#[101, 109, 105, 116]⟩, vi (1 : Int), vq, vq]) (bl := []) (ob := [(Nat.blt 19 21, true), (a0 == Int.ofNat 19, true), ((decide (a0 ≥ (21 : Int))), false), ((decide (a0 < (0 : Int))), false)]) (by kernel_rfl) (oB <| Za (beq_iff_eq.2 (show _ = ((19 : Nat) : Int) from by omega)) <| oN <| oN Ze) rfl (by decide) (by rfl) rr trivial (Zj _ rfl)
                      ·
                       exact Zm Zl (r := (.r20 : Z6)) (fu := 4000) (orc := (Zi [(0, false), (1, false)] [] [(0, 20)] [] [])) (live := []) (u := Value.agg #[Value.string ⟨#[104, 97, 108, 116]⟩, vq, vq, vq]) (bl := []) (ob := [(Nat.blt 20 21, true), (a0 == Int.ofNat 20, true), ((decide (a0 ≥ (21 : Int))), false), ((decide (a0 < (0 : Int))), false)]) (by kernel_rfl) (oB <| Za (beq_iff_eq.2 (show _ = ((20 : Nat) : Int) from by omega)) <| oN <| oN Ze) rfl (by decide) (by rfl) rr trivial (Zj _ rfl)

theorem Zai (a0 : Int) (N : Nat) (r : Z6) (h : Zap a0 N = some r) : LSpec Tryz.prog 59 #[vi a0] [] (ZmI a0 r) (Zlv a0 r) :=
 (Zpq a0 N) r h

noncomputable def ZqZ (a0 : Int) (n : Nat) : Zaj := .call [] (Value.agg #[Value.string ⟨#[]⟩, vq, vq, vq]) [] 0
def Zlw (A : Array Value) (a0 : Int) (n : Nat) : Prop := Zz Tryz.prog 59 A [] (Value.agg #[Value.string ⟨#[]⟩, vq, vq, vq]) [] n 0

theorem Zra (A : Array Value) (a0 : Int) (N : Nat) (h : Zap a0 N = some (.r0)) (n : Nat) (hA : A = #[vi a0]) (hnd : ([] : List Nat).Nodup) (hlt : ∀ k ∈ ([] : List Nat), k < n) : Zlw A a0  n :=
 ZC hA (LSpec.callL (show LSpec Tryz.prog 59 #[vi a0] [] (Value.agg #[Value.string ⟨#[]⟩, vq, vq, vq]) [] from Zai a0 N _ h) [] n [] rfl hnd hlt (show 0 ≤ 0 from by decide) (show ∀ j ∈ ([] : List Nat), j < 0 from by decide) (by rfl) trivial (by rfl) trivial trivial rfl rfl rfl rfl rfl)

noncomputable def Zrb (a0 : Int) (n : Nat) : Zaj := .call [] (Value.agg #[Value.string ⟨#[99, 111, 110, 115, 116]⟩, vi (1 : Int), vi (6 : Int), vq]) [] 0
def Zlx (A : Array Value) (a0 : Int) (n : Nat) : Prop := Zz Tryz.prog 59 A [] (Value.agg #[Value.string ⟨#[99, 111, 110, 115, 116]⟩, vi (1 : Int), vi (6 : Int), vq]) [] n 0

theorem Zrc (A : Array Value) (a0 : Int) (N : Nat) (h : Zap a0 N = some (.r1)) (n : Nat) (hA : A = #[vi a0]) (hnd : ([] : List Nat).Nodup) (hlt : ∀ k ∈ ([] : List Nat), k < n) : Zlx A a0  n :=
 ZC hA (LSpec.callL (show LSpec Tryz.prog 59 #[vi a0] [] (Value.agg #[Value.string ⟨#[99, 111, 110, 115, 116]⟩, vi (1 : Int), vi (6 : Int), vq]) [] from Zai a0 N _ h) [] n [] rfl hnd hlt (show 0 ≤ 0 from by decide) (show ∀ j ∈ ([] : List Nat), j < 0 from by decide) (by rfl) trivial (by rfl) trivial trivial rfl rfl rfl rfl rfl)

noncomputable def Zrd (a0 : Int) (n : Nat) : Zaj := .call [] (Value.agg #[Value.string ⟨#[110, 105, 108]⟩, vi (1 : Int), vq, vq]) [] 0
def Zly (A : Array Value) (a0 : Int) (n : Nat) : Prop := Zz Tryz.prog 59 A [] (Value.agg #[Value.string ⟨#[110, 105, 108]⟩, vi (1 : Int), vq, vq]) [] n 0

theorem Zre (A : Array Value) (a0 : Int) (N : Nat) (h : Zap a0 N = some (.r2)) (n : Nat) (hA : A = #[vi a0]) (hnd : ([] : List Nat).Nodup) (hlt : ∀ k ∈ ([] : List Nat), k < n) : Zly A a0  n :=
 ZC hA (LSpec.callL (show LSpec Tryz.prog 59 #[vi a0] [] (Value.agg #[Value.string ⟨#[110, 105, 108]⟩, vi (1 : Int), vq, vq]) [] from Zai a0 N _ h) [] n [] rfl hnd hlt (show 0 ≤ 0 from by decide) (show ∀ j ∈ ([] : List Nat), j < 0 from by decide) (by rfl) trivial (by rfl) trivial trivial rfl rfl rfl rfl rfl)

noncomputable def Zrf (a0 : Int) (n : Nat) : Zaj := .call [] (Value.agg #[Value.string ⟨#[109, 111, 118, 101]⟩, vi (1 : Int), vi (1 : Int), vq]) [] 0
def Zlz (A : Array Value) (a0 : Int) (n : Nat) : Prop := Zz Tryz.prog 59 A [] (Value.agg #[Value.string ⟨#[109, 111, 118, 101]⟩, vi (1 : Int), vi (1 : Int), vq]) [] n 0

theorem Zrg (A : Array Value) (a0 : Int) (N : Nat) (h : Zap a0 N = some (.r3)) (n : Nat) (hA : A = #[vi a0]) (hnd : ([] : List Nat).Nodup) (hlt : ∀ k ∈ ([] : List Nat), k < n) : Zlz A a0  n :=
 ZC hA (LSpec.callL (show LSpec Tryz.prog 59 #[vi a0] [] (Value.agg #[Value.string ⟨#[109, 111, 118, 101]⟩, vi (1 : Int), vi (1 : Int), vq]) [] from Zai a0 N _ h) [] n [] rfl hnd hlt (show 0 ≤ 0 from by decide) (show ∀ j ∈ ([] : List Nat), j < 0 from by decide) (by rfl) trivial (by rfl) trivial trivial rfl rfl rfl rfl rfl)

noncomputable def Zrh (a0 : Int) (n : Nat) : Zaj := .call [] (Value.agg #[Value.string ⟨#[97, 100, 100]⟩, vi (1 : Int), vi (1 : Int), vi (1 : Int)]) [] 0
def Zl0 (A : Array Value) (a0 : Int) (n : Nat) : Prop := Zz Tryz.prog 59 A [] (Value.agg #[Value.string ⟨#[97, 100, 100]⟩, vi (1 : Int), vi (1 : Int), vi (1 : Int)]) [] n 0

theorem Zri (A : Array Value) (a0 : Int) (N : Nat) (h : Zap a0 N = some (.r4)) (n : Nat) (hA : A = #[vi a0]) (hnd : ([] : List Nat).Nodup) (hlt : ∀ k ∈ ([] : List Nat), k < n) : Zl0 A a0  n :=
 ZC hA (LSpec.callL (show LSpec Tryz.prog 59 #[vi a0] [] (Value.agg #[Value.string ⟨#[97, 100, 100]⟩, vi (1 : Int), vi (1 : Int), vi (1 : Int)]) [] from Zai a0 N _ h) [] n [] rfl hnd hlt (show 0 ≤ 0 from by decide) (show ∀ j ∈ ([] : List Nat), j < 0 from by decide) (by rfl) trivial (by rfl) trivial trivial rfl rfl rfl rfl rfl)

noncomputable def Zrj (a0 : Int) (n : Nat) : Zaj := .call [] (Value.agg #[Value.string ⟨#[115, 117, 98]⟩, vi (1 : Int), vi (1 : Int), vi (1 : Int)]) [] 0
def Zl1 (A : Array Value) (a0 : Int) (n : Nat) : Prop := Zz Tryz.prog 59 A [] (Value.agg #[Value.string ⟨#[115, 117, 98]⟩, vi (1 : Int), vi (1 : Int), vi (1 : Int)]) [] n 0

theorem Zrk (A : Array Value) (a0 : Int) (N : Nat) (h : Zap a0 N = some (.r5)) (n : Nat) (hA : A = #[vi a0]) (hnd : ([] : List Nat).Nodup) (hlt : ∀ k ∈ ([] : List Nat), k < n) : Zl1 A a0  n :=
 ZC hA (LSpec.callL (show LSpec Tryz.prog 59 #[vi a0] [] (Value.agg #[Value.string ⟨#[115, 117, 98]⟩, vi (1 : Int), vi (1 : Int), vi (1 : Int)]) [] from Zai a0 N _ h) [] n [] rfl hnd hlt (show 0 ≤ 0 from by decide) (show ∀ j ∈ ([] : List Nat), j < 0 from by decide) (by rfl) trivial (by rfl) trivial trivial rfl rfl rfl rfl rfl)

noncomputable def Zrl (a0 : Int) (n : Nat) : Zaj := .call [] (Value.agg #[Value.string ⟨#[108, 101, 115, 115]⟩, vi (1 : Int), vi (1 : Int), vi (1 : Int)]) [] 0
def Zl2 (A : Array Value) (a0 : Int) (n : Nat) : Prop := Zz Tryz.prog 59 A [] (Value.agg #[Value.string ⟨#[108, 101, 115, 115]⟩, vi (1 : Int), vi (1 : Int), vi (1 : Int)]) [] n 0

theorem Zrm (A : Array Value) (a0 : Int) (N : Nat) (h : Zap a0 N = some (.r6)) (n : Nat) (hA : A = #[vi a0]) (hnd : ([] : List Nat).Nodup) (hlt : ∀ k ∈ ([] : List Nat), k < n) : Zl2 A a0  n :=
 ZC hA (LSpec.callL (show LSpec Tryz.prog 59 #[vi a0] [] (Value.agg #[Value.string ⟨#[108, 101, 115, 115]⟩, vi (1 : Int), vi (1 : Int), vi (1 : Int)]) [] from Zai a0 N _ h) [] n [] rfl hnd hlt (show 0 ≤ 0 from by decide) (show ∀ j ∈ ([] : List Nat), j < 0 from by decide) (by rfl) trivial (by rfl) trivial trivial rfl rfl rfl rfl rfl)

noncomputable def Zrn (a0 : Int) (n : Nat) : Zaj := .call [] (Value.agg #[Value.string ⟨#[101, 113]⟩, vi (1 : Int), vi (1 : Int), vi (1 : Int)]) [] 0
def Zl3 (A : Array Value) (a0 : Int) (n : Nat) : Prop := Zz Tryz.prog 59 A [] (Value.agg #[Value.string ⟨#[101, 113]⟩, vi (1 : Int), vi (1 : Int), vi (1 : Int)]) [] n 0

theorem Zro (A : Array Value) (a0 : Int) (N : Nat) (h : Zap a0 N = some (.r7)) (n : Nat) (hA : A = #[vi a0]) (hnd : ([] : List Nat).Nodup) (hlt : ∀ k ∈ ([] : List Nat), k < n) : Zl3 A a0  n :=
 ZC hA (LSpec.callL (show LSpec Tryz.prog 59 #[vi a0] [] (Value.agg #[Value.string ⟨#[101, 113]⟩, vi (1 : Int), vi (1 : Int), vi (1 : Int)]) [] from Zai a0 N _ h) [] n [] rfl hnd hlt (show 0 ≤ 0 from by decide) (show ∀ j ∈ ([] : List Nat), j < 0 from by decide) (by rfl) trivial (by rfl) trivial trivial rfl rfl rfl rfl rfl)

noncomputable def Zrp (a0 : Int) (n : Nat) : Zaj := .call [] (Value.agg #[Value.string ⟨#[106, 117, 109, 112]⟩, vi (4 : Int), vq, vq]) [] 0
def Zl4 (A : Array Value) (a0 : Int) (n : Nat) : Prop := Zz Tryz.prog 59 A [] (Value.agg #[Value.string ⟨#[106, 117, 109, 112]⟩, vi (4 : Int), vq, vq]) [] n 0

theorem Zrq (A : Array Value) (a0 : Int) (N : Nat) (h : Zap a0 N = some (.r8)) (n : Nat) (hA : A = #[vi a0]) (hnd : ([] : List Nat).Nodup) (hlt : ∀ k ∈ ([] : List Nat), k < n) : Zl4 A a0  n :=
 ZC hA (LSpec.callL (show LSpec Tryz.prog 59 #[vi a0] [] (Value.agg #[Value.string ⟨#[106, 117, 109, 112]⟩, vi (4 : Int), vq, vq]) [] from Zai a0 N _ h) [] n [] rfl hnd hlt (show 0 ≤ 0 from by decide) (show ∀ j ∈ ([] : List Nat), j < 0 from by decide) (by rfl) trivial (by rfl) trivial trivial rfl rfl rfl rfl rfl)

noncomputable def Zrr (a0 : Int) (n : Nat) : Zaj := .call [] (Value.agg #[Value.string ⟨#[106, 117, 109, 112, 122]⟩, vi (1 : Int), vi (4 : Int), vq]) [] 0
def Zl5 (A : Array Value) (a0 : Int) (n : Nat) : Prop := Zz Tryz.prog 59 A [] (Value.agg #[Value.string ⟨#[106, 117, 109, 112, 122]⟩, vi (1 : Int), vi (4 : Int), vq]) [] n 0

theorem Zrs (A : Array Value) (a0 : Int) (N : Nat) (h : Zap a0 N = some (.r9)) (n : Nat) (hA : A = #[vi a0]) (hnd : ([] : List Nat).Nodup) (hlt : ∀ k ∈ ([] : List Nat), k < n) : Zl5 A a0  n :=
 ZC hA (LSpec.callL (show LSpec Tryz.prog 59 #[vi a0] [] (Value.agg #[Value.string ⟨#[106, 117, 109, 112, 122]⟩, vi (1 : Int), vi (4 : Int), vq]) [] from Zai a0 N _ h) [] n [] rfl hnd hlt (show 0 ≤ 0 from by decide) (show ∀ j ∈ ([] : List Nat), j < 0 from by decide) (by rfl) trivial (by rfl) trivial trivial rfl rfl rfl rfl rfl)

noncomputable def Zpr (a0 : Int) (n : Nat) : Zaj := .call [] (Value.agg #[Value.string ⟨#[114, 111, 111, 116]⟩, vi (1 : Int), vq, vq]) [] 0
def Zka (A : Array Value) (a0 : Int) (n : Nat) : Prop := Zz Tryz.prog 59 A [] (Value.agg #[Value.string ⟨#[114, 111, 111, 116]⟩, vi (1 : Int), vq, vq]) [] n 0

theorem Zps (A : Array Value) (a0 : Int) (N : Nat) (h : Zap a0 N = some (.r10)) (n : Nat) (hA : A = #[vi a0]) (hnd : ([] : List Nat).Nodup) (hlt : ∀ k ∈ ([] : List Nat), k < n) : Zka A a0  n :=
 ZC hA (LSpec.callL (show LSpec Tryz.prog 59 #[vi a0] [] (Value.agg #[Value.string ⟨#[114, 111, 111, 116]⟩, vi (1 : Int), vq, vq]) [] from Zai a0 N _ h) [] n [] rfl hnd hlt (show 0 ≤ 0 from by decide) (show ∀ j ∈ ([] : List Nat), j < 0 from by decide) (by rfl) trivial (by rfl) trivial trivial rfl rfl rfl rfl rfl)

noncomputable def Zpt (a0 : Int) (n : Nat) : Zaj := .call [] (Value.agg #[Value.string ⟨#[110, 101, 119]⟩, vi (1 : Int), vi (3 : Int), vi (5 : Int)]) [] 0
def Zkb (A : Array Value) (a0 : Int) (n : Nat) : Prop := Zz Tryz.prog 59 A [] (Value.agg #[Value.string ⟨#[110, 101, 119]⟩, vi (1 : Int), vi (3 : Int), vi (5 : Int)]) [] n 0

theorem Zpu (A : Array Value) (a0 : Int) (N : Nat) (h : Zap a0 N = some (.r11)) (n : Nat) (hA : A = #[vi a0]) (hnd : ([] : List Nat).Nodup) (hlt : ∀ k ∈ ([] : List Nat), k < n) : Zkb A a0  n :=
 ZC hA (LSpec.callL (show LSpec Tryz.prog 59 #[vi a0] [] (Value.agg #[Value.string ⟨#[110, 101, 119]⟩, vi (1 : Int), vi (3 : Int), vi (5 : Int)]) [] from Zai a0 N _ h) [] n [] rfl hnd hlt (show 0 ≤ 0 from by decide) (show ∀ j ∈ ([] : List Nat), j < 0 from by decide) (by rfl) trivial (by rfl) trivial trivial rfl rfl rfl rfl rfl)

noncomputable def Zpv (a0 : Int) (n : Nat) : Zaj := .call [] (Value.agg #[Value.string ⟨#[102, 114, 101, 101]⟩, vi (1 : Int), vq, vq]) [] 0
def Zkc (A : Array Value) (a0 : Int) (n : Nat) : Prop := Zz Tryz.prog 59 A [] (Value.agg #[Value.string ⟨#[102, 114, 101, 101]⟩, vi (1 : Int), vq, vq]) [] n 0

theorem Zpw (A : Array Value) (a0 : Int) (N : Nat) (h : Zap a0 N = some (.r12)) (n : Nat) (hA : A = #[vi a0]) (hnd : ([] : List Nat).Nodup) (hlt : ∀ k ∈ ([] : List Nat), k < n) : Zkc A a0  n :=
 ZC hA (LSpec.callL (show LSpec Tryz.prog 59 #[vi a0] [] (Value.agg #[Value.string ⟨#[102, 114, 101, 101]⟩, vi (1 : Int), vq, vq]) [] from Zai a0 N _ h) [] n [] rfl hnd hlt (show 0 ≤ 0 from by decide) (show ∀ j ∈ ([] : List Nat), j < 0 from by decide) (by rfl) trivial (by rfl) trivial trivial rfl rfl rfl rfl rfl)

noncomputable def Zpx (a0 : Int) (n : Nat) : Zaj := .call [] (Value.agg #[Value.string ⟨#[103, 101, 116]⟩, vi (1 : Int), vi (1 : Int), vi (2 : Int)]) [] 0
def Zkd (A : Array Value) (a0 : Int) (n : Nat) : Prop := Zz Tryz.prog 59 A [] (Value.agg #[Value.string ⟨#[103, 101, 116]⟩, vi (1 : Int), vi (1 : Int), vi (2 : Int)]) [] n 0

theorem Zpy (A : Array Value) (a0 : Int) (N : Nat) (h : Zap a0 N = some (.r13)) (n : Nat) (hA : A = #[vi a0]) (hnd : ([] : List Nat).Nodup) (hlt : ∀ k ∈ ([] : List Nat), k < n) : Zkd A a0  n :=
 ZC hA (LSpec.callL (show LSpec Tryz.prog 59 #[vi a0] [] (Value.agg #[Value.string ⟨#[103, 101, 116]⟩, vi (1 : Int), vi (1 : Int), vi (2 : Int)]) [] from Zai a0 N _ h) [] n [] rfl hnd hlt (show 0 ≤ 0 from by decide) (show ∀ j ∈ ([] : List Nat), j < 0 from by decide) (by rfl) trivial (by rfl) trivial trivial rfl rfl rfl rfl rfl)

noncomputable def Zpz (a0 : Int) (n : Nat) : Zaj := .call [] (Value.agg #[Value.string ⟨#[115, 101, 116]⟩, vi (1 : Int), vi (2 : Int), vi (1 : Int)]) [] 0
def Zke (A : Array Value) (a0 : Int) (n : Nat) : Prop := Zz Tryz.prog 59 A [] (Value.agg #[Value.string ⟨#[115, 101, 116]⟩, vi (1 : Int), vi (2 : Int), vi (1 : Int)]) [] n 0

theorem Zp0 (A : Array Value) (a0 : Int) (N : Nat) (h : Zap a0 N = some (.r14)) (n : Nat) (hA : A = #[vi a0]) (hnd : ([] : List Nat).Nodup) (hlt : ∀ k ∈ ([] : List Nat), k < n) : Zke A a0  n :=
 ZC hA (LSpec.callL (show LSpec Tryz.prog 59 #[vi a0] [] (Value.agg #[Value.string ⟨#[115, 101, 116]⟩, vi (1 : Int), vi (2 : Int), vi (1 : Int)]) [] from Zai a0 N _ h) [] n [] rfl hnd hlt (show 0 ≤ 0 from by decide) (show ∀ j ∈ ([] : List Nat), j < 0 from by decide) (by rfl) trivial (by rfl) trivial trivial rfl rfl rfl rfl rfl)

noncomputable def Zp1 (a0 : Int) (n : Nat) : Zaj := .call [] (Value.agg #[Value.string ⟨#[98, 101, 103, 105, 110]⟩, vq, vq, vq]) [] 0
def Zkf (A : Array Value) (a0 : Int) (n : Nat) : Prop := Zz Tryz.prog 59 A [] (Value.agg #[Value.string ⟨#[98, 101, 103, 105, 110]⟩, vq, vq, vq]) [] n 0

theorem Zp2 (A : Array Value) (a0 : Int) (N : Nat) (h : Zap a0 N = some (.r15)) (n : Nat) (hA : A = #[vi a0]) (hnd : ([] : List Nat).Nodup) (hlt : ∀ k ∈ ([] : List Nat), k < n) : Zkf A a0  n :=
 ZC hA (LSpec.callL (show LSpec Tryz.prog 59 #[vi a0] [] (Value.agg #[Value.string ⟨#[98, 101, 103, 105, 110]⟩, vq, vq, vq]) [] from Zai a0 N _ h) [] n [] rfl hnd hlt (show 0 ≤ 0 from by decide) (show ∀ j ∈ ([] : List Nat), j < 0 from by decide) (by rfl) trivial (by rfl) trivial trivial rfl rfl rfl rfl rfl)

noncomputable def Zp3 (a0 : Int) (n : Nat) : Zaj := .call [] (Value.agg #[Value.string ⟨#[101, 108, 115, 101]⟩, vq, vq, vq]) [] 0
def Zkg (A : Array Value) (a0 : Int) (n : Nat) : Prop := Zz Tryz.prog 59 A [] (Value.agg #[Value.string ⟨#[101, 108, 115, 101]⟩, vq, vq, vq]) [] n 0

theorem Zp4 (A : Array Value) (a0 : Int) (N : Nat) (h : Zap a0 N = some (.r16)) (n : Nat) (hA : A = #[vi a0]) (hnd : ([] : List Nat).Nodup) (hlt : ∀ k ∈ ([] : List Nat), k < n) : Zkg A a0  n :=
 ZC hA (LSpec.callL (show LSpec Tryz.prog 59 #[vi a0] [] (Value.agg #[Value.string ⟨#[101, 108, 115, 101]⟩, vq, vq, vq]) [] from Zai a0 N _ h) [] n [] rfl hnd hlt (show 0 ≤ 0 from by decide) (show ∀ j ∈ ([] : List Nat), j < 0 from by decide) (by rfl) trivial (by rfl) trivial trivial rfl rfl rfl rfl rfl)

noncomputable def Zp5 (a0 : Int) (n : Nat) : Zaj := .call [] (Value.agg #[Value.string ⟨#[101, 110, 100]⟩, vq, vq, vq]) [] 0
def Zkh (A : Array Value) (a0 : Int) (n : Nat) : Prop := Zz Tryz.prog 59 A [] (Value.agg #[Value.string ⟨#[101, 110, 100]⟩, vq, vq, vq]) [] n 0

theorem Zp6 (A : Array Value) (a0 : Int) (N : Nat) (h : Zap a0 N = some (.r17)) (n : Nat) (hA : A = #[vi a0]) (hnd : ([] : List Nat).Nodup) (hlt : ∀ k ∈ ([] : List Nat), k < n) : Zkh A a0  n :=
 ZC hA (LSpec.callL (show LSpec Tryz.prog 59 #[vi a0] [] (Value.agg #[Value.string ⟨#[101, 110, 100]⟩, vq, vq, vq]) [] from Zai a0 N _ h) [] n [] rfl hnd hlt (show 0 ≤ 0 from by decide) (show ∀ j ∈ ([] : List Nat), j < 0 from by decide) (by rfl) trivial (by rfl) trivial trivial rfl rfl rfl rfl rfl)

noncomputable def Zp7 (a0 : Int) (n : Nat) : Zaj := .call [] (Value.agg #[Value.string ⟨#[114, 101, 116, 114, 121]⟩, vq, vq, vq]) [] 0
def Zki (A : Array Value) (a0 : Int) (n : Nat) : Prop := Zz Tryz.prog 59 A [] (Value.agg #[Value.string ⟨#[114, 101, 116, 114, 121]⟩, vq, vq, vq]) [] n 0

theorem Zp8 (A : Array Value) (a0 : Int) (N : Nat) (h : Zap a0 N = some (.r18)) (n : Nat) (hA : A = #[vi a0]) (hnd : ([] : List Nat).Nodup) (hlt : ∀ k ∈ ([] : List Nat), k < n) : Zki A a0  n :=
 ZC hA (LSpec.callL (show LSpec Tryz.prog 59 #[vi a0] [] (Value.agg #[Value.string ⟨#[114, 101, 116, 114, 121]⟩, vq, vq, vq]) [] from Zai a0 N _ h) [] n [] rfl hnd hlt (show 0 ≤ 0 from by decide) (show ∀ j ∈ ([] : List Nat), j < 0 from by decide) (by rfl) trivial (by rfl) trivial trivial rfl rfl rfl rfl rfl)

noncomputable def Zp9 (a0 : Int) (n : Nat) : Zaj := .call [] (Value.agg #[Value.string ⟨#[101, 109, 105, 116]⟩, vi (1 : Int), vq, vq]) [] 0
def Zkj (A : Array Value) (a0 : Int) (n : Nat) : Prop := Zz Tryz.prog 59 A [] (Value.agg #[Value.string ⟨#[101, 109, 105, 116]⟩, vi (1 : Int), vq, vq]) [] n 0

theorem ZpA (A : Array Value) (a0 : Int) (N : Nat) (h : Zap a0 N = some (.r19)) (n : Nat) (hA : A = #[vi a0]) (hnd : ([] : List Nat).Nodup) (hlt : ∀ k ∈ ([] : List Nat), k < n) : Zkj A a0  n :=
 ZC hA (LSpec.callL (show LSpec Tryz.prog 59 #[vi a0] [] (Value.agg #[Value.string ⟨#[101, 109, 105, 116]⟩, vi (1 : Int), vq, vq]) [] from Zai a0 N _ h) [] n [] rfl hnd hlt (show 0 ≤ 0 from by decide) (show ∀ j ∈ ([] : List Nat), j < 0 from by decide) (by rfl) trivial (by rfl) trivial trivial rfl rfl rfl rfl rfl)

noncomputable def ZpB (a0 : Int) (n : Nat) : Zaj := .call [] (Value.agg #[Value.string ⟨#[104, 97, 108, 116]⟩, vq, vq, vq]) [] 0
def Zkk (A : Array Value) (a0 : Int) (n : Nat) : Prop := Zz Tryz.prog 59 A [] (Value.agg #[Value.string ⟨#[104, 97, 108, 116]⟩, vq, vq, vq]) [] n 0

theorem ZpC (A : Array Value) (a0 : Int) (N : Nat) (h : Zap a0 N = some (.r20)) (n : Nat) (hA : A = #[vi a0]) (hnd : ([] : List Nat).Nodup) (hlt : ∀ k ∈ ([] : List Nat), k < n) : Zkk A a0  n :=
 ZC hA (LSpec.callL (show LSpec Tryz.prog 59 #[vi a0] [] (Value.agg #[Value.string ⟨#[104, 97, 108, 116]⟩, vq, vq, vq]) [] from Zai a0 N _ h) [] n [] rfl hnd hlt (show 0 ≤ 0 from by decide) (show ∀ j ∈ ([] : List Nat), j < 0 from by decide) (by rfl) trivial (by rfl) trivial trivial rfl rfl rfl rfl rfl)

noncomputable def Zhi (a0 a1 a2 : Int) : Zs → Value
 | .r0 w0 => Value.bool w0
noncomputable def ZgN (a0 a1 a2 : Int) : Zs → List (Option AObj)
 | .r0 w0 => []

theorem Zk4 (a0 a1 a2 : Int) (N : Nat) : Gx Tryz.prog 60 [] #[vi a0, vi a1, vi a2] (Zhi a0 a1 a2) (ZgN a0 a1 a2) (ZQ a0 a1 a2 N) := by
 unfold ZQ
 refine Zn (fun g0 => ?_) (fun g0 => ?_)
 ·
  refine Zn (fun g1 => ?_) (fun g1 => ?_)
  ·
   refine Zn (fun g2 => ?_) (fun g2 => ?_)
   ·
    exact Zm Zl (r := (.r0 (true) : Zs)) (fu := 4000) (orc := (Zi [(0, true), (1, true), (2, true)] [] [] [] [])) (live := []) (u := vT) (bl := []) (ob := [((decide (a1 ≤ (7 : Int))), true), ((decide ((0 : Int) ≤ a1)), true), nT a0 1]) (by kernel_rfl) (oY <| oY <| oT Ze) rfl (by decide) (by rfl) rr trivial (Zj _ rfl)
   ·
    exact Zm Zl (r := (.r0 (false) : Zs)) (fu := 4000) (orc := (Zi [(0, true), (1, true), (2, false)] [] [] [] [])) (live := []) (u := vf) (bl := []) (ob := [((decide (a1 ≤ (7 : Int))), false), ((decide ((0 : Int) ≤ a1)), true), nT a0 1]) (by kernel_rfl) (oN <| oY <| oT Ze) rfl (by decide) (by rfl) rr trivial (Zj _ rfl)
  ·
   exact Zm Zl (r := (.r0 (false) : Zs)) (fu := 4000) (orc := (Zi [(0, true), (1, false)] [] [] [] [])) (live := []) (u := vf) (bl := []) (ob := [((decide ((0 : Int) ≤ a1)), false), nT a0 1]) (by kernel_rfl) (oN <| oT Ze) rfl (by decide) (by rfl) rr trivial (Zj _ rfl)
 ·
  refine Zn (fun g1 => ?_) (fun g1 => ?_)
  ·
   refine Zn (fun g2 => ?_) (fun g2 => ?_)
   ·
    refine Zn (fun g3 => ?_) (fun g3 => ?_)
    ·
     exact Zm Zl (r := (.r0 (true) : Zs)) (fu := 4000) (orc := (Zi [(0, false), (1, true), (2, true), (3, true)] [] [] [] [])) (live := []) (u := vT) (bl := []) (ob := [((decide (a1 ≤ (15 : Int))), true), ((decide ((0 : Int) ≤ a1)), true), nT a0 2, nF a0 1]) (by kernel_rfl) (oY <| oY <| oT <| oF Ze) rfl (by decide) (by rfl) rr trivial (Zj _ rfl)
    ·
     exact Zm Zl (r := (.r0 (false) : Zs)) (fu := 4000) (orc := (Zi [(0, false), (1, true), (2, true), (3, false)] [] [] [] [])) (live := []) (u := vf) (bl := []) (ob := [((decide (a1 ≤ (15 : Int))), false), ((decide ((0 : Int) ≤ a1)), true), nT a0 2, nF a0 1]) (by kernel_rfl) (oN <| oY <| oT <| oF Ze) rfl (by decide) (by rfl) rr trivial (Zj _ rfl)
   ·
    exact Zm Zl (r := (.r0 (false) : Zs)) (fu := 4000) (orc := (Zi [(0, false), (1, true), (2, false)] [] [] [] [])) (live := []) (u := vf) (bl := []) (ob := [((decide ((0 : Int) ≤ a1)), false), nT a0 2, nF a0 1]) (by kernel_rfl) (oN <| oT <| oF Ze) rfl (by decide) (by rfl) rr trivial (Zj _ rfl)
  ·
   refine Zn (fun g2 => ?_) (fun g2 => ?_)
   ·
    refine Zn (fun g3 => ?_) (fun g3 => ?_)
    ·
     refine Zn (fun g4 => ?_) (fun g4 => ?_)
     ·
      exact Zm Zl (r := (.r0 (true) : Zs)) (fu := 4000) (orc := (Zi [(0, false), (1, false), (2, true), (3, true), (4, true)] [] [] [] [])) (live := []) (u := vT) (bl := []) (ob := [((decide (a1 ≤ (16 : Int))), true), ((decide ((1 : Int) ≤ a1)), true), nT a0 3, nF a0 2, nF a0 1]) (by kernel_rfl) (oY <| oY <| oT <| oF <| oF Ze) rfl (by decide) (by rfl) rr trivial (Zj _ rfl)
     ·
      exact Zm Zl (r := (.r0 (false) : Zs)) (fu := 4000) (orc := (Zi [(0, false), (1, false), (2, true), (3, true), (4, false)] [] [] [] [])) (live := []) (u := vf) (bl := []) (ob := [((decide (a1 ≤ (16 : Int))), false), ((decide ((1 : Int) ≤ a1)), true), nT a0 3, nF a0 2, nF a0 1]) (by kernel_rfl) (oN <| oY <| oT <| oF <| oF Ze) rfl (by decide) (by rfl) rr trivial (Zj _ rfl)
    ·
     exact Zm Zl (r := (.r0 (false) : Zs)) (fu := 4000) (orc := (Zi [(0, false), (1, false), (2, true), (3, false)] [] [] [] [])) (live := []) (u := vf) (bl := []) (ob := [((decide ((1 : Int) ≤ a1)), false), nT a0 3, nF a0 2, nF a0 1]) (by kernel_rfl) (oN <| oT <| oF <| oF Ze) rfl (by decide) (by rfl) rr trivial (Zj _ rfl)
   ·
    refine Zn (fun g3 => ?_) (fun g3 => ?_)
    ·
     refine Zn (fun g4 => ?_) (fun g4 => ?_)
     ·
      refine Zn (fun g5 => ?_) (fun g5 => ?_)
      ·
       exact Zm Zl (r := (.r0 (true) : Zs)) (fu := 4000) (orc := (Zi [(0, false), (1, false), (2, false), (3, true), (4, true), (5, true)] [] [] [] [])) (live := []) (u := vT) (bl := []) (ob := [((decide (a1 ≤ (512 : Int))), true), ((decide ((0 : Int) ≤ a1)), true), nT a0 4, nF a0 3, nF a0 2, nF a0 1]) (by kernel_rfl) (oY <| oY <| oT <| oF <| oF <| oF Ze) rfl (by decide) (by rfl) rr trivial (Zj _ rfl)
      ·
       exact Zm Zl (r := (.r0 (false) : Zs)) (fu := 4000) (orc := (Zi [(0, false), (1, false), (2, false), (3, true), (4, true), (5, false)] [] [] [] [])) (live := []) (u := vf) (bl := []) (ob := [((decide (a1 ≤ (512 : Int))), false), ((decide ((0 : Int) ≤ a1)), true), nT a0 4, nF a0 3, nF a0 2, nF a0 1]) (by kernel_rfl) (oN <| oY <| oT <| oF <| oF <| oF Ze) rfl (by decide) (by rfl) rr trivial (Zj _ rfl)
     ·
      exact Zm Zl (r := (.r0 (false) : Zs)) (fu := 4000) (orc := (Zi [(0, false), (1, false), (2, false), (3, true), (4, false)] [] [] [] [])) (live := []) (u := vf) (bl := []) (ob := [((decide ((0 : Int) ≤ a1)), false), nT a0 4, nF a0 3, nF a0 2, nF a0 1]) (by kernel_rfl) (oN <| oT <| oF <| oF <| oF Ze) rfl (by decide) (by rfl) rr trivial (Zj _ rfl)
    ·
     refine Zn (fun g4 => ?_) (fun g4 => ?_)
     ·
      refine Zn (fun g5 => ?_) (fun g5 => ?_)
      ·
       refine Zn (fun g6 => ?_) (fun g6 => ?_)
       ·
        refine Zn (fun g7 => ?_) (fun g7 => ?_)
        ·
         refine Zn (fun g8 => ?_) (fun g8 => ?_)
         ·
          exact Zm Zl (r := (.r0 (true) : Zs)) (fu := 4000) (orc := (Zi [(0, false), (1, false), (2, false), (3, false), (4, true), (5, true), (6, true)] [] [] [] [(0, .sh (a2).toNat)])) (live := []) (u := vT) (bl := []) (ob := [((decide (a1 ≤ (IntKind.i64.wrap ((IntKind.i64.wrap ((1 : Int) * (2 ^ (a2).toNat : Int))) - (1 : Int))))), true), ((decide ((0 : Int) ≤ a1)), true), (dP (a2 = Int.ofNat (a2).toNat ∧ (a2).toNat ≤ IntKind.i64.bits), true), nT a0 5, nF a0 4, nF a0 3, nF a0 2, nF a0 1]) (by kernel_rfl) (oY <| oY <| Za (Zg ⟨by first | rfl | exact Zjh (by omega), show _ ≤ 64 from by omega⟩) <| oT <| oF <| oF <| oF <| oF Ze) rfl (by decide) (by rfl) rr trivial (Zj _ rfl)
         ·
          exact Zm Zl (r := (.r0 (false) : Zs)) (fu := 4000) (orc := (Zi [(0, false), (1, false), (2, false), (3, false), (4, true), (5, true), (6, false)] [] [] [] [(0, .sh (a2).toNat)])) (live := []) (u := vf) (bl := []) (ob := [((decide (a1 ≤ (IntKind.i64.wrap ((IntKind.i64.wrap ((1 : Int) * (2 ^ (a2).toNat : Int))) - (1 : Int))))), false), ((decide ((0 : Int) ≤ a1)), true), (dP (a2 = Int.ofNat (a2).toNat ∧ (a2).toNat ≤ IntKind.i64.bits), true), nT a0 5, nF a0 4, nF a0 3, nF a0 2, nF a0 1]) (by kernel_rfl) (oN <| oY <| Za (Zg ⟨by first | rfl | exact Zjh (by omega), show _ ≤ 64 from by omega⟩) <| oT <| oF <| oF <| oF <| oF Ze) rfl (by decide) (by rfl) rr trivial (Zj _ rfl)
        ·
         exact Zm Zl (r := (.r0 (false) : Zs)) (fu := 4000) (orc := (Zi [(0, false), (1, false), (2, false), (3, false), (4, true), (5, false)] [] [] [] [(0, .sh (a2).toNat)])) (live := []) (u := vf) (bl := []) (ob := [((decide ((0 : Int) ≤ a1)), false), (dP (a2 = Int.ofNat (a2).toNat ∧ (a2).toNat ≤ IntKind.i64.bits), true), nT a0 5, nF a0 4, nF a0 3, nF a0 2, nF a0 1]) (by kernel_rfl) (oN <| Za (Zg ⟨by first | rfl | exact Zjh (by omega), show _ ≤ 64 from by omega⟩) <| oT <| oF <| oF <| oF <| oF Ze) rfl (by decide) (by rfl) rr trivial (Zj _ rfl)
       ·
        exact Zay
      ·
       exact Zay
     ·
      refine Zn (fun g5 => ?_) (fun g5 => ?_)
      ·
       refine Zn (fun g6 => ?_) (fun g6 => ?_)
       ·
        refine Zn (fun g7 => ?_) (fun g7 => ?_)
        ·
         exact Zm Zl (r := (.r0 (true) : Zs)) (fu := 4000) (orc := (Zi [(0, false), (1, false), (2, false), (3, false), (4, false), (5, true), (6, true), (7, true)] [] [] [] [])) (live := []) (u := vT) (bl := []) (ob := [((decide (a1 ≤ (1099511627776 : Int))), true), ((decide ((-1099511627776 : Int) ≤ a1)), true), nT a0 6, nF a0 5, nF a0 4, nF a0 3, nF a0 2, nF a0 1]) (by kernel_rfl) (oY <| oY <| oT <| oF <| oF <| oF <| oF <| oF Ze) rfl (by decide) (by rfl) rr trivial (Zj _ rfl)
        ·
         exact Zm Zl (r := (.r0 (false) : Zs)) (fu := 4000) (orc := (Zi [(0, false), (1, false), (2, false), (3, false), (4, false), (5, true), (6, true), (7, false)] [] [] [] [])) (live := []) (u := vf) (bl := []) (ob := [((decide (a1 ≤ (1099511627776 : Int))), false), ((decide ((-1099511627776 : Int) ≤ a1)), true), nT a0 6, nF a0 5, nF a0 4, nF a0 3, nF a0 2, nF a0 1]) (by kernel_rfl) (oN <| oY <| oT <| oF <| oF <| oF <| oF <| oF Ze) rfl (by decide) (by rfl) rr trivial (Zj _ rfl)
       ·
        exact Zm Zl (r := (.r0 (false) : Zs)) (fu := 4000) (orc := (Zi [(0, false), (1, false), (2, false), (3, false), (4, false), (5, true), (6, false)] [] [] [] [])) (live := []) (u := vf) (bl := []) (ob := [((decide ((-1099511627776 : Int) ≤ a1)), false), nT a0 6, nF a0 5, nF a0 4, nF a0 3, nF a0 2, nF a0 1]) (by kernel_rfl) (oN <| oT <| oF <| oF <| oF <| oF <| oF Ze) rfl (by decide) (by rfl) rr trivial (Zj _ rfl)
      ·
       refine Zn (fun g6 => ?_) (fun g6 => ?_)
       ·
        refine Zn (fun g7 => ?_) (fun g7 => ?_)
        ·
         exact Zm Zl (r := (.r0 (true) : Zs)) (fu := 4000) (orc := (Zi [(0, false), (1, false), (2, false), (3, false), (4, false), (5, false), (6, true), (7, true)] [] [] [] [])) (live := []) (u := vT) (bl := []) (ob := [((decide (a1 ≤ (0 : Int))), true), ((decide ((0 : Int) ≤ a1)), true), nF a0 6, nF a0 5, nF a0 4, nF a0 3, nF a0 2, nF a0 1]) (by kernel_rfl) (oY <| oY <| oF <| oF <| oF <| oF <| oF <| oF Ze) rfl (by decide) (by rfl) rr trivial (Zj _ rfl)
        ·
         exact Zm Zl (r := (.r0 (false) : Zs)) (fu := 4000) (orc := (Zi [(0, false), (1, false), (2, false), (3, false), (4, false), (5, false), (6, true), (7, false)] [] [] [] [])) (live := []) (u := vf) (bl := []) (ob := [((decide (a1 ≤ (0 : Int))), false), ((decide ((0 : Int) ≤ a1)), true), nF a0 6, nF a0 5, nF a0 4, nF a0 3, nF a0 2, nF a0 1]) (by kernel_rfl) (oN <| oY <| oF <| oF <| oF <| oF <| oF <| oF Ze) rfl (by decide) (by rfl) rr trivial (Zj _ rfl)
       ·
        exact Zm Zl (r := (.r0 (false) : Zs)) (fu := 4000) (orc := (Zi [(0, false), (1, false), (2, false), (3, false), (4, false), (5, false), (6, false)] [] [] [] [])) (live := []) (u := vf) (bl := []) (ob := [((decide ((0 : Int) ≤ a1)), false), nF a0 6, nF a0 5, nF a0 4, nF a0 3, nF a0 2, nF a0 1]) (by kernel_rfl) (oN <| oF <| oF <| oF <| oF <| oF <| oF Ze) rfl (by decide) (by rfl) rr trivial (Zj _ rfl)

theorem Zjk (a0 a1 a2 : Int) (N : Nat) (r : Zs) (h : ZQ a0 a1 a2 N = some r) : LSpec Tryz.prog 60 #[vi a0, vi a1, vi a2] [] (Zhi a0 a1 a2 r) (ZgN a0 a1 a2 r) :=
 (Zk4 a0 a1 a2 N) r h

noncomputable def ZbX (a0 a1 a2 : Int) (w0 : Bool) (n : Nat) : Zaj := .call [] (Value.bool w0) [] 0
def Zb6 (A : Array Value) (a0 a1 a2 : Int) (w0 : Bool) (n : Nat) : Prop := Zz Tryz.prog 60 A [] (Value.bool w0) [] n 0

theorem ZbY (A : Array Value) (a0 a1 a2 : Int) (w0 : Bool) (N : Nat) (h : ZQ a0 a1 a2 N = some (.r0 w0)) (n : Nat) (hA : A = #[vi a0, vi a1, vi a2]) (hnd : ([] : List Nat).Nodup) (hlt : ∀ k ∈ ([] : List Nat), k < n) : Zb6 A a0 a1 a2 w0  n :=
 ZC hA (LSpec.callL (show LSpec Tryz.prog 60 #[vi a0, vi a1, vi a2] [] (Value.bool w0) [] from Zjk a0 a1 a2 N _ h) [] n [] rfl hnd hlt (show 0 ≤ 0 from by decide) (show ∀ j ∈ ([] : List Nat), j < 0 from by decide) (by rfl) trivial (by rfl) trivial trivial rfl rfl rfl rfl rfl)

noncomputable def Zl6 (a0 a1 a2 a3 : Int) : Zar → Value
 | .r0 w0 => vi w0
noncomputable def Zkl (a0 a1 a2 a3 : Int) : Zar → List (Option AObj)
 | .r0 w0 => []

def ZpD : Zq → Nat
 | .h1m0 v1 v2 v3 => 1
 | .h1m1 v1 v2 v3 => 1
 | .h1m2 v1 v2 v3 => 1
 | .h1m3 v1 v2 v3 => 1
noncomputable def Zrt (a0 a1 a2 a3 : Int) : Zq → List (Nat × Value)
 | .h1m0 v1 v2 v3 => [(4, vp 0 0), (5, vq), (22, Value.agg #[vi (v1 : Int), vi (v2 : Int), vi (v3 : Int)]), (23, vq)]
 | .h1m1 v1 v2 v3 => [(4, vp 0 0), (5, vi a1), (22, Value.agg #[vi (v1 : Int), vi (v2 : Int), vi (v3 : Int)]), (23, vi (1 : Int))]
 | .h1m2 v1 v2 v3 => [(4, vp 0 0), (5, vi a2), (22, Value.agg #[vi (v1 : Int), vi (v2 : Int), vi (v3 : Int)]), (23, vi (2 : Int))]
 | .h1m3 v1 v2 v3 => [(4, vp 0 0), (5, vi a3), (22, Value.agg #[vi (v1 : Int), vi (v2 : Int), vi (v3 : Int)]), (23, vi (3 : Int))]
noncomputable def Zru (a0 a1 a2 a3 : Int) : Zq → List (Option AObj)
 | .h1m0 v1 v2 v3 => [some (.cells [vi a1, vi a2, vi a3] 107)]
 | .h1m1 v1 v2 v3 => [some (.cells [vi a1, vi a2, vi a3] 107)]
 | .h1m2 v1 v2 v3 => [some (.cells [vi a1, vi a2, vi a3] 107)]
 | .h1m3 v1 v2 v3 => [some (.cells [vi a1, vi a2, vi a3] 107)]

noncomputable def Z4 : Nat → Code × List ZaI
 | 1 => Zb3 [1, 1, 1, 1, 1, 0, 1, 3] (Zc8 Tryz.f49) []
 | _ => (.skip, [])
def Zkm : Nat → Bool
 | 1 => true
 | _ => true
noncomputable def ZhU (i : Nat) : List ZaI := match Zkm i with | true => .rnd i :: (Z4 i).2 | false => (Z4 i).2

noncomputable def ZI (a0 a1 a2 a3 : Int) (N : Nat) : Mach := ⟨Tryz.f49, [], Zq, Zar, ZbJ a0 a1 a2 a3 N, ZpD, Z4, Zkm, Zrt a0 a1 a2 a3, Zru a0 a1 a2 a3, Zl6 a0 a1 a2 a3, Zkl a0 a1 a2 a3⟩

theorem Zmh (a0 a1 a2 a3 : Int) (v1 v2 v3 N : Nat) : (ZI a0 a1 a2 a3 N).Ok Tryz.prog ZG (.h1m0 v1 v2 v3 : Zq) (ZbJ a0 a1 a2 a3 N (.h1m0 v1 v2 v3 : Zq)) := by
 show (ZI a0 a1 a2 a3 N).Ok Tryz.prog ZG (.h1m0 v1 v2 v3 : Zq) (ZbS a0 a1 a2 a3 N v1 v2 v3)
 unfold ZbS
 refine Mach.ok_bind (fun z0 c0 => ?_)
 cases z0 with
 | r0 y0_0 =>
  refine Mach.ok_ite (fun g1 => ?_) (fun g1 => ?_)
  ·
   exact Mach.ok_fin (M := ZI a0 a1 a2 a3 N) (cd := 1000000) (cm := 0) (r := (.r0 ((100 : Int)) : Zar)) (fu := 4000) (orc := (Zi [(1, true)] [] [] [] [(0, (ZbX ((v1 : Int)) (a1) ((0 : Int))  y0_0  1))])) (live := []) (u := vi (100 : Int)) (bl := []) (ob := [((!y0_0), true), (dP (Zb6 #[vi (v1 : Int), vi a1, vq] ((v1 : Int)) (a1) ((0 : Int))  y0_0  1), true)]) (fun gv => by kernel_rfl) (Za (ZdL (by first | assumption | simp_all)) <| Za (Zg (ZbY #[vi (v1 : Int), vi a1, vq] ((v1 : Int)) (a1) ((0 : Int))  y0_0 N c0  1 rfl (by decide) (by decide))) Ze) rfl (by decide) (by rfl) rr trivial
  ·
   exact Mach.ok_next (M := ZI a0 a1 a2 a3 N) (cd := 1000000) (cm := 0) (y := (.h1m1 (v1) (v2) (v3) : Zq)) (fu := 4000) (orc := (Zi [(1, false)] [] [] [] [(0, (ZbX ((v1 : Int)) (a1) ((0 : Int))  y0_0  1))])) (live := [0]) (tv := fun _ => [some (vp 0 0), some (vi a1), some (Value.agg #[vi (v1 : Int), vi (v2 : Int), vi (v3 : Int)]), some (vi (1 : Int))]) (bl := [some (.cells [vi a1, vi a2, vi a3] 107)]) (ob := [((!y0_0), false), (dP (Zb6 #[vi (v1 : Int), vi a1, vq] ((v1 : Int)) (a1) ((0 : Int))  y0_0  1), true)]) rfl (show 1 ∈ Z1 (ZhU 1) from by decide +kernel) (fun gv => by kernel_rfl) (Za (Zdc (by first | assumption | exact Decidable.not_not.1 (by assumption) | simp_all)) <| Za (Zg (ZbY #[vi (v1 : Int), vi a1, vq] ((v1 : Int)) (a1) ((0 : Int))  y0_0 N c0  1 rfl (by decide) (by decide))) Ze) rfl (by decide) (by rfl) (fun _ => ⟨rr, ⟨rr, ⟨rr, ⟨rr, trivial⟩⟩⟩⟩) ⟨⟨rfl, ⟨[], by rfl⟩, by rfl⟩, trivial⟩

theorem Zmi (a0 a1 a2 a3 : Int) (v1 v2 v3 N : Nat) : (ZI a0 a1 a2 a3 N).Ok Tryz.prog ZG (.h1m1 v1 v2 v3 : Zq) (ZbJ a0 a1 a2 a3 N (.h1m1 v1 v2 v3 : Zq)) := by
 show (ZI a0 a1 a2 a3 N).Ok Tryz.prog ZG (.h1m1 v1 v2 v3 : Zq) (ZbT a0 a1 a2 a3 N v1 v2 v3)
 unfold ZbT
 refine Mach.ok_bind (fun z0 c0 => ?_)
 cases z0 with
 | r0 y0_0 =>
  refine Mach.ok_ite (fun g1 => ?_) (fun g1 => ?_)
  ·
   exact Mach.ok_fin (M := ZI a0 a1 a2 a3 N) (cd := 1000000) (cm := 0) (r := (.r0 ((100 : Int)) : Zar)) (fu := 4000) (orc := (Zi [(1, true)] [] [] [] [(0, (ZbX ((v2 : Int)) (a2) (a1)  y0_0  1))])) (live := []) (u := vi (100 : Int)) (bl := []) (ob := [((!y0_0), true), (dP (Zb6 #[vi (v2 : Int), vi a2, vi a1] ((v2 : Int)) (a2) (a1)  y0_0  1), true)]) (fun gv => by kernel_rfl) (Za (ZdL (by first | assumption | simp_all)) <| Za (Zg (ZbY #[vi (v2 : Int), vi a2, vi a1] ((v2 : Int)) (a2) (a1)  y0_0 N c0  1 rfl (by decide) (by decide))) Ze) rfl (by decide) (by rfl) rr trivial
  ·
   exact Mach.ok_next (M := ZI a0 a1 a2 a3 N) (cd := 1000000) (cm := 0) (y := (.h1m2 (v1) (v2) (v3) : Zq)) (fu := 4000) (orc := (Zi [(1, false)] [] [] [] [(0, (ZbX ((v2 : Int)) (a2) (a1)  y0_0  1))])) (live := [0]) (tv := fun _ => [some (vp 0 0), some (vi a2), some (Value.agg #[vi (v1 : Int), vi (v2 : Int), vi (v3 : Int)]), some (vi (2 : Int))]) (bl := [some (.cells [vi a1, vi a2, vi a3] 107)]) (ob := [((!y0_0), false), (dP (Zb6 #[vi (v2 : Int), vi a2, vi a1] ((v2 : Int)) (a2) (a1)  y0_0  1), true)]) rfl (show 1 ∈ Z1 (ZhU 1) from by decide +kernel) (fun gv => by kernel_rfl) (Za (Zdc (by first | assumption | exact Decidable.not_not.1 (by assumption) | simp_all)) <| Za (Zg (ZbY #[vi (v2 : Int), vi a2, vi a1] ((v2 : Int)) (a2) (a1)  y0_0 N c0  1 rfl (by decide) (by decide))) Ze) rfl (by decide) (by rfl) (fun _ => ⟨rr, ⟨rr, ⟨rr, ⟨rr, trivial⟩⟩⟩⟩) ⟨⟨rfl, ⟨[], by rfl⟩, by rfl⟩, trivial⟩

theorem Zmj (a0 a1 a2 a3 : Int) (v1 v2 v3 N : Nat) : (ZI a0 a1 a2 a3 N).Ok Tryz.prog ZG (.h1m2 v1 v2 v3 : Zq) (ZbJ a0 a1 a2 a3 N (.h1m2 v1 v2 v3 : Zq)) := by
 show (ZI a0 a1 a2 a3 N).Ok Tryz.prog ZG (.h1m2 v1 v2 v3 : Zq) (ZbU a0 a1 a2 a3 N v1 v2 v3)
 unfold ZbU
 refine Mach.ok_bind (fun z0 c0 => ?_)
 cases z0 with
 | r0 y0_0 =>
  refine Mach.ok_ite (fun g1 => ?_) (fun g1 => ?_)
  ·
   exact Mach.ok_fin (M := ZI a0 a1 a2 a3 N) (cd := 1000000) (cm := 0) (r := (.r0 ((100 : Int)) : Zar)) (fu := 4000) (orc := (Zi [(1, true)] [] [] [] [(0, (ZbX ((v3 : Int)) (a3) (a2)  y0_0  1))])) (live := []) (u := vi (100 : Int)) (bl := []) (ob := [((!y0_0), true), (dP (Zb6 #[vi (v3 : Int), vi a3, vi a2] ((v3 : Int)) (a3) (a2)  y0_0  1), true)]) (fun gv => by kernel_rfl) (Za (ZdL (by first | assumption | simp_all)) <| Za (Zg (ZbY #[vi (v3 : Int), vi a3, vi a2] ((v3 : Int)) (a3) (a2)  y0_0 N c0  1 rfl (by decide) (by decide))) Ze) rfl (by decide) (by rfl) rr trivial
  ·
   exact Mach.ok_next (M := ZI a0 a1 a2 a3 N) (cd := 1000000) (cm := 0) (y := (.h1m3 (v1) (v2) (v3) : Zq)) (fu := 4000) (orc := (Zi [(1, false)] [] [] [] [(0, (ZbX ((v3 : Int)) (a3) (a2)  y0_0  1))])) (live := [0]) (tv := fun _ => [some (vp 0 0), some (vi a3), some (Value.agg #[vi (v1 : Int), vi (v2 : Int), vi (v3 : Int)]), some (vi (3 : Int))]) (bl := [some (.cells [vi a1, vi a2, vi a3] 107)]) (ob := [((!y0_0), false), (dP (Zb6 #[vi (v3 : Int), vi a3, vi a2] ((v3 : Int)) (a3) (a2)  y0_0  1), true)]) rfl (show 1 ∈ Z1 (ZhU 1) from by decide +kernel) (fun gv => by kernel_rfl) (Za (Zdc (by first | assumption | exact Decidable.not_not.1 (by assumption) | simp_all)) <| Za (Zg (ZbY #[vi (v3 : Int), vi a3, vi a2] ((v3 : Int)) (a3) (a2)  y0_0 N c0  1 rfl (by decide) (by decide))) Ze) rfl (by decide) (by rfl) (fun _ => ⟨rr, ⟨rr, ⟨rr, ⟨rr, trivial⟩⟩⟩⟩) ⟨⟨rfl, ⟨[], by rfl⟩, by rfl⟩, trivial⟩

theorem Zmk (a0 a1 a2 a3 : Int) (v1 v2 v3 N : Nat) : (ZI a0 a1 a2 a3 N).Ok Tryz.prog ZG (.h1m3 v1 v2 v3 : Zq) (ZbJ a0 a1 a2 a3 N (.h1m3 v1 v2 v3 : Zq)) := by
 show (ZI a0 a1 a2 a3 N).Ok Tryz.prog ZG (.h1m3 v1 v2 v3 : Zq) (ZdH a0 a1 a2 a3 N v1 v2 v3)
 unfold ZdH
 exact Mach.ok_fin (M := ZI a0 a1 a2 a3 N) (cd := 1000000) (cm := 0) (r := (.r0 ((0 : Int)) : Zar)) (fu := 4000) (orc := (Zi [] [] [] [] [])) (live := []) (u := vq) (bl := []) (ob := []) (fun gv => by kernel_rfl) Ze rfl (by decide) (by rfl) rr trivial

theorem Zoz (a0 a1 a2 a3 : Int) (N : Nat) : (ZI a0 a1 a2 a3 N).Enter Tryz.prog ZG #[Value.agg #[vi a0, vi a1, vi a2, vi a3]] (ZdM a0 a1 a2 a3 N) := by
 unfold ZdM
 refine Mach.en_bind (fun z0 c0 => ?_)
 cases z0 with
 | r0 =>
  exact Mach.en_fin (M := ZI a0 a1 a2 a3 N) (cd := 1000000) (cm := 0) (r := (.r0 ((100 : Int)) : Zar)) (fu := 4000) (orc := (Zi [] [] [] [] [(0, (ZqZ (a0)    1))])) (live := []) (u := vi (100 : Int)) (bl := []) (ob := [(dP (Zlw #[vi a0] (a0)    1), true)]) (by kernel_rfl) (Za (Zg (Zra #[vi a0] (a0)   N c0  1 rfl (by decide) (by decide))) Ze) rfl (by decide) (by rfl) rr trivial
 | r1 =>
  exact Mach.en_head (bK := Z4 1) (M := ZI a0 a1 a2 a3 N) (cd := 1000000) (cm := 0) (y := (.h1m0 (1) (6) (0) : Zq)) (fu := 4000) (orc := (Zi [] [] [] [] [(0, (Zrb (a0)    1))])) (live := [2]) (tv := [some (vp 2 0), some (vq), some (Value.agg #[vi (1 : Int), vi (6 : Int), vq]), some (vq)]) (bl := [some (.cells [vi a1, vi a2, vi a3] 107)]) (ob := [(dP (Zlx #[vi a0] (a0)    1), true)]) rfl rfl (show Z1 (Z4 1).2 = [] from rfl) (by kernel_rfl) (Za (Zg (Zrc #[vi a0] (a0)   N c0  1 rfl (by decide) (by decide))) Ze) rfl (by decide) (by rfl) ⟨rr, ⟨rr, ⟨⟨Eq.trans (show (Value.agg #[vi ((1 : Nat) : Int), vi ((6 : Nat) : Int), vi ((0 : Nat) : Int)] : Value) = Value.agg #[vi (1 : Int), vi (6 : Int), vq] from (ZbW (Zc (congrArg (Value.int .i64) (by first | rfl | omega)) (Zc (congrArg (Value.int .i64) (by first | rfl | omega)) (Zc (congrArg (Value.int .i64) (by first | rfl | omega)) rfl))))) (by rfl), by rfl⟩, ⟨rr, trivial⟩⟩⟩⟩ ⟨⟨rfl, ⟨[], by rfl⟩, by rfl⟩, trivial⟩
 | r2 =>
  exact Mach.en_head (bK := Z4 1) (M := ZI a0 a1 a2 a3 N) (cd := 1000000) (cm := 0) (y := (.h1m0 (1) (0) (0) : Zq)) (fu := 4000) (orc := (Zi [] [] [] [] [(0, (Zrd (a0)    1))])) (live := [2]) (tv := [some (vp 2 0), some (vq), some (Value.agg #[vi (1 : Int), vq, vq]), some (vq)]) (bl := [some (.cells [vi a1, vi a2, vi a3] 107)]) (ob := [(dP (Zly #[vi a0] (a0)    1), true)]) rfl rfl (show Z1 (Z4 1).2 = [] from rfl) (by kernel_rfl) (Za (Zg (Zre #[vi a0] (a0)   N c0  1 rfl (by decide) (by decide))) Ze) rfl (by decide) (by rfl) ⟨rr, ⟨rr, ⟨⟨Eq.trans (show (Value.agg #[vi ((1 : Nat) : Int), vi ((0 : Nat) : Int), vi ((0 : Nat) : Int)] : Value) = Value.agg #[vi (1 : Int), vq, vq] from (ZbW (Zc (congrArg (Value.int .i64) (by first | rfl | omega)) (Zc (congrArg (Value.int .i64) (by first | rfl | omega)) (Zc (congrArg (Value.int .i64) (by first | rfl | omega)) rfl))))) (by rfl), by rfl⟩, ⟨rr, trivial⟩⟩⟩⟩ ⟨⟨rfl, ⟨[], by rfl⟩, by rfl⟩, trivial⟩
 | r3 =>
  exact Mach.en_head (bK := Z4 1) (M := ZI a0 a1 a2 a3 N) (cd := 1000000) (cm := 0) (y := (.h1m0 (1) (1) (0) : Zq)) (fu := 4000) (orc := (Zi [] [] [] [] [(0, (Zrf (a0)    1))])) (live := [2]) (tv := [some (vp 2 0), some (vq), some (Value.agg #[vi (1 : Int), vi (1 : Int), vq]), some (vq)]) (bl := [some (.cells [vi a1, vi a2, vi a3] 107)]) (ob := [(dP (Zlz #[vi a0] (a0)    1), true)]) rfl rfl (show Z1 (Z4 1).2 = [] from rfl) (by kernel_rfl) (Za (Zg (Zrg #[vi a0] (a0)   N c0  1 rfl (by decide) (by decide))) Ze) rfl (by decide) (by rfl) ⟨rr, ⟨rr, ⟨⟨Eq.trans (show (Value.agg #[vi ((1 : Nat) : Int), vi ((1 : Nat) : Int), vi ((0 : Nat) : Int)] : Value) = Value.agg #[vi (1 : Int), vi (1 : Int), vq] from (ZbW (Zc (congrArg (Value.int .i64) (by first | rfl | omega)) (Zc (congrArg (Value.int .i64) (by first | rfl | omega)) (Zc (congrArg (Value.int .i64) (by first | rfl | omega)) rfl))))) (by rfl), by rfl⟩, ⟨rr, trivial⟩⟩⟩⟩ ⟨⟨rfl, ⟨[], by rfl⟩, by rfl⟩, trivial⟩
 | r4 =>
  exact Mach.en_head (bK := Z4 1) (M := ZI a0 a1 a2 a3 N) (cd := 1000000) (cm := 0) (y := (.h1m0 (1) (1) (1) : Zq)) (fu := 4000) (orc := (Zi [] [] [] [] [(0, (Zrh (a0)    1))])) (live := [2]) (tv := [some (vp 2 0), some (vq), some (Value.agg #[vi (1 : Int), vi (1 : Int), vi (1 : Int)]), some (vq)]) (bl := [some (.cells [vi a1, vi a2, vi a3] 107)]) (ob := [(dP (Zl0 #[vi a0] (a0)    1), true)]) rfl rfl (show Z1 (Z4 1).2 = [] from rfl) (by kernel_rfl) (Za (Zg (Zri #[vi a0] (a0)   N c0  1 rfl (by decide) (by decide))) Ze) rfl (by decide) (by rfl) ⟨rr, ⟨rr, ⟨⟨Eq.trans (show (Value.agg #[vi ((1 : Nat) : Int), vi ((1 : Nat) : Int), vi ((1 : Nat) : Int)] : Value) = Value.agg #[vi (1 : Int), vi (1 : Int), vi (1 : Int)] from (ZbW (Zc (congrArg (Value.int .i64) (by first | rfl | omega)) (Zc (congrArg (Value.int .i64) (by first | rfl | omega)) (Zc (congrArg (Value.int .i64) (by first | rfl | omega)) rfl))))) (by rfl), by rfl⟩, ⟨rr, trivial⟩⟩⟩⟩ ⟨⟨rfl, ⟨[], by rfl⟩, by rfl⟩, trivial⟩
 | r5 =>
  exact Mach.en_head (bK := Z4 1) (M := ZI a0 a1 a2 a3 N) (cd := 1000000) (cm := 0) (y := (.h1m0 (1) (1) (1) : Zq)) (fu := 4000) (orc := (Zi [] [] [] [] [(0, (Zrj (a0)    1))])) (live := [2]) (tv := [some (vp 2 0), some (vq), some (Value.agg #[vi (1 : Int), vi (1 : Int), vi (1 : Int)]), some (vq)]) (bl := [some (.cells [vi a1, vi a2, vi a3] 107)]) (ob := [(dP (Zl1 #[vi a0] (a0)    1), true)]) rfl rfl (show Z1 (Z4 1).2 = [] from rfl) (by kernel_rfl) (Za (Zg (Zrk #[vi a0] (a0)   N c0  1 rfl (by decide) (by decide))) Ze) rfl (by decide) (by rfl) ⟨rr, ⟨rr, ⟨⟨Eq.trans (show (Value.agg #[vi ((1 : Nat) : Int), vi ((1 : Nat) : Int), vi ((1 : Nat) : Int)] : Value) = Value.agg #[vi (1 : Int), vi (1 : Int), vi (1 : Int)] from (ZbW (Zc (congrArg (Value.int .i64) (by first | rfl | omega)) (Zc (congrArg (Value.int .i64) (by first | rfl | omega)) (Zc (congrArg (Value.int .i64) (by first | rfl | omega)) rfl))))) (by rfl), by rfl⟩, ⟨rr, trivial⟩⟩⟩⟩ ⟨⟨rfl, ⟨[], by rfl⟩, by rfl⟩, trivial⟩
 | r6 =>
  exact Mach.en_head (bK := Z4 1) (M := ZI a0 a1 a2 a3 N) (cd := 1000000) (cm := 0) (y := (.h1m0 (1) (1) (1) : Zq)) (fu := 4000) (orc := (Zi [] [] [] [] [(0, (Zrl (a0)    1))])) (live := [2]) (tv := [some (vp 2 0), some (vq), some (Value.agg #[vi (1 : Int), vi (1 : Int), vi (1 : Int)]), some (vq)]) (bl := [some (.cells [vi a1, vi a2, vi a3] 107)]) (ob := [(dP (Zl2 #[vi a0] (a0)    1), true)]) rfl rfl (show Z1 (Z4 1).2 = [] from rfl) (by kernel_rfl) (Za (Zg (Zrm #[vi a0] (a0)   N c0  1 rfl (by decide) (by decide))) Ze) rfl (by decide) (by rfl) ⟨rr, ⟨rr, ⟨⟨Eq.trans (show (Value.agg #[vi ((1 : Nat) : Int), vi ((1 : Nat) : Int), vi ((1 : Nat) : Int)] : Value) = Value.agg #[vi (1 : Int), vi (1 : Int), vi (1 : Int)] from (ZbW (Zc (congrArg (Value.int .i64) (by first | rfl | omega)) (Zc (congrArg (Value.int .i64) (by first | rfl | omega)) (Zc (congrArg (Value.int .i64) (by first | rfl | omega)) rfl))))) (by rfl), by rfl⟩, ⟨rr, trivial⟩⟩⟩⟩ ⟨⟨rfl, ⟨[], by rfl⟩, by rfl⟩, trivial⟩
 | r7 =>
  exact Mach.en_head (bK := Z4 1) (M := ZI a0 a1 a2 a3 N) (cd := 1000000) (cm := 0) (y := (.h1m0 (1) (1) (1) : Zq)) (fu := 4000) (orc := (Zi [] [] [] [] [(0, (Zrn (a0)    1))])) (live := [2]) (tv := [some (vp 2 0), some (vq), some (Value.agg #[vi (1 : Int), vi (1 : Int), vi (1 : Int)]), some (vq)]) (bl := [some (.cells [vi a1, vi a2, vi a3] 107)]) (ob := [(dP (Zl3 #[vi a0] (a0)    1), true)]) rfl rfl (show Z1 (Z4 1).2 = [] from rfl) (by kernel_rfl) (Za (Zg (Zro #[vi a0] (a0)   N c0  1 rfl (by decide) (by decide))) Ze) rfl (by decide) (by rfl) ⟨rr, ⟨rr, ⟨⟨Eq.trans (show (Value.agg #[vi ((1 : Nat) : Int), vi ((1 : Nat) : Int), vi ((1 : Nat) : Int)] : Value) = Value.agg #[vi (1 : Int), vi (1 : Int), vi (1 : Int)] from (ZbW (Zc (congrArg (Value.int .i64) (by first | rfl | omega)) (Zc (congrArg (Value.int .i64) (by first | rfl | omega)) (Zc (congrArg (Value.int .i64) (by first | rfl | omega)) rfl))))) (by rfl), by rfl⟩, ⟨rr, trivial⟩⟩⟩⟩ ⟨⟨rfl, ⟨[], by rfl⟩, by rfl⟩, trivial⟩
 | r8 =>
  exact Mach.en_head (bK := Z4 1) (M := ZI a0 a1 a2 a3 N) (cd := 1000000) (cm := 0) (y := (.h1m0 (4) (0) (0) : Zq)) (fu := 4000) (orc := (Zi [] [] [] [] [(0, (Zrp (a0)    1))])) (live := [2]) (tv := [some (vp 2 0), some (vq), some (Value.agg #[vi (4 : Int), vq, vq]), some (vq)]) (bl := [some (.cells [vi a1, vi a2, vi a3] 107)]) (ob := [(dP (Zl4 #[vi a0] (a0)    1), true)]) rfl rfl (show Z1 (Z4 1).2 = [] from rfl) (by kernel_rfl) (Za (Zg (Zrq #[vi a0] (a0)   N c0  1 rfl (by decide) (by decide))) Ze) rfl (by decide) (by rfl) ⟨rr, ⟨rr, ⟨⟨Eq.trans (show (Value.agg #[vi ((4 : Nat) : Int), vi ((0 : Nat) : Int), vi ((0 : Nat) : Int)] : Value) = Value.agg #[vi (4 : Int), vq, vq] from (ZbW (Zc (congrArg (Value.int .i64) (by first | rfl | omega)) (Zc (congrArg (Value.int .i64) (by first | rfl | omega)) (Zc (congrArg (Value.int .i64) (by first | rfl | omega)) rfl))))) (by rfl), by rfl⟩, ⟨rr, trivial⟩⟩⟩⟩ ⟨⟨rfl, ⟨[], by rfl⟩, by rfl⟩, trivial⟩
 | r9 =>
  exact Mach.en_head (bK := Z4 1) (M := ZI a0 a1 a2 a3 N) (cd := 1000000) (cm := 0) (y := (.h1m0 (1) (4) (0) : Zq)) (fu := 4000) (orc := (Zi [] [] [] [] [(0, (Zrr (a0)    1))])) (live := [2]) (tv := [some (vp 2 0), some (vq), some (Value.agg #[vi (1 : Int), vi (4 : Int), vq]), some (vq)]) (bl := [some (.cells [vi a1, vi a2, vi a3] 107)]) (ob := [(dP (Zl5 #[vi a0] (a0)    1), true)]) rfl rfl (show Z1 (Z4 1).2 = [] from rfl) (by kernel_rfl) (Za (Zg (Zrs #[vi a0] (a0)   N c0  1 rfl (by decide) (by decide))) Ze) rfl (by decide) (by rfl) ⟨rr, ⟨rr, ⟨⟨Eq.trans (show (Value.agg #[vi ((1 : Nat) : Int), vi ((4 : Nat) : Int), vi ((0 : Nat) : Int)] : Value) = Value.agg #[vi (1 : Int), vi (4 : Int), vq] from (ZbW (Zc (congrArg (Value.int .i64) (by first | rfl | omega)) (Zc (congrArg (Value.int .i64) (by first | rfl | omega)) (Zc (congrArg (Value.int .i64) (by first | rfl | omega)) rfl))))) (by rfl), by rfl⟩, ⟨rr, trivial⟩⟩⟩⟩ ⟨⟨rfl, ⟨[], by rfl⟩, by rfl⟩, trivial⟩
 | r10 =>
  exact Mach.en_head (bK := Z4 1) (M := ZI a0 a1 a2 a3 N) (cd := 1000000) (cm := 0) (y := (.h1m0 (1) (0) (0) : Zq)) (fu := 4000) (orc := (Zi [] [] [] [] [(0, (Zpr (a0)    1))])) (live := [2]) (tv := [some (vp 2 0), some (vq), some (Value.agg #[vi (1 : Int), vq, vq]), some (vq)]) (bl := [some (.cells [vi a1, vi a2, vi a3] 107)]) (ob := [(dP (Zka #[vi a0] (a0)    1), true)]) rfl rfl (show Z1 (Z4 1).2 = [] from rfl) (by kernel_rfl) (Za (Zg (Zps #[vi a0] (a0)   N c0  1 rfl (by decide) (by decide))) Ze) rfl (by decide) (by rfl) ⟨rr, ⟨rr, ⟨⟨Eq.trans (show (Value.agg #[vi ((1 : Nat) : Int), vi ((0 : Nat) : Int), vi ((0 : Nat) : Int)] : Value) = Value.agg #[vi (1 : Int), vq, vq] from (ZbW (Zc (congrArg (Value.int .i64) (by first | rfl | omega)) (Zc (congrArg (Value.int .i64) (by first | rfl | omega)) (Zc (congrArg (Value.int .i64) (by first | rfl | omega)) rfl))))) (by rfl), by rfl⟩, ⟨rr, trivial⟩⟩⟩⟩ ⟨⟨rfl, ⟨[], by rfl⟩, by rfl⟩, trivial⟩
 | r11 =>
  exact Mach.en_head (bK := Z4 1) (M := ZI a0 a1 a2 a3 N) (cd := 1000000) (cm := 0) (y := (.h1m0 (1) (3) (5) : Zq)) (fu := 4000) (orc := (Zi [] [] [] [] [(0, (Zpt (a0)    1))])) (live := [2]) (tv := [some (vp 2 0), some (vq), some (Value.agg #[vi (1 : Int), vi (3 : Int), vi (5 : Int)]), some (vq)]) (bl := [some (.cells [vi a1, vi a2, vi a3] 107)]) (ob := [(dP (Zkb #[vi a0] (a0)    1), true)]) rfl rfl (show Z1 (Z4 1).2 = [] from rfl) (by kernel_rfl) (Za (Zg (Zpu #[vi a0] (a0)   N c0  1 rfl (by decide) (by decide))) Ze) rfl (by decide) (by rfl) ⟨rr, ⟨rr, ⟨⟨Eq.trans (show (Value.agg #[vi ((1 : Nat) : Int), vi ((3 : Nat) : Int), vi ((5 : Nat) : Int)] : Value) = Value.agg #[vi (1 : Int), vi (3 : Int), vi (5 : Int)] from (ZbW (Zc (congrArg (Value.int .i64) (by first | rfl | omega)) (Zc (congrArg (Value.int .i64) (by first | rfl | omega)) (Zc (congrArg (Value.int .i64) (by first | rfl | omega)) rfl))))) (by rfl), by rfl⟩, ⟨rr, trivial⟩⟩⟩⟩ ⟨⟨rfl, ⟨[], by rfl⟩, by rfl⟩, trivial⟩
 | r12 =>
  exact Mach.en_head (bK := Z4 1) (M := ZI a0 a1 a2 a3 N) (cd := 1000000) (cm := 0) (y := (.h1m0 (1) (0) (0) : Zq)) (fu := 4000) (orc := (Zi [] [] [] [] [(0, (Zpv (a0)    1))])) (live := [2]) (tv := [some (vp 2 0), some (vq), some (Value.agg #[vi (1 : Int), vq, vq]), some (vq)]) (bl := [some (.cells [vi a1, vi a2, vi a3] 107)]) (ob := [(dP (Zkc #[vi a0] (a0)    1), true)]) rfl rfl (show Z1 (Z4 1).2 = [] from rfl) (by kernel_rfl) (Za (Zg (Zpw #[vi a0] (a0)   N c0  1 rfl (by decide) (by decide))) Ze) rfl (by decide) (by rfl) ⟨rr, ⟨rr, ⟨⟨Eq.trans (show (Value.agg #[vi ((1 : Nat) : Int), vi ((0 : Nat) : Int), vi ((0 : Nat) : Int)] : Value) = Value.agg #[vi (1 : Int), vq, vq] from (ZbW (Zc (congrArg (Value.int .i64) (by first | rfl | omega)) (Zc (congrArg (Value.int .i64) (by first | rfl | omega)) (Zc (congrArg (Value.int .i64) (by first | rfl | omega)) rfl))))) (by rfl), by rfl⟩, ⟨rr, trivial⟩⟩⟩⟩ ⟨⟨rfl, ⟨[], by rfl⟩, by rfl⟩, trivial⟩
 | r13 =>
  exact Mach.en_head (bK := Z4 1) (M := ZI a0 a1 a2 a3 N) (cd := 1000000) (cm := 0) (y := (.h1m0 (1) (1) (2) : Zq)) (fu := 4000) (orc := (Zi [] [] [] [] [(0, (Zpx (a0)    1))])) (live := [2]) (tv := [some (vp 2 0), some (vq), some (Value.agg #[vi (1 : Int), vi (1 : Int), vi (2 : Int)]), some (vq)]) (bl := [some (.cells [vi a1, vi a2, vi a3] 107)]) (ob := [(dP (Zkd #[vi a0] (a0)    1), true)]) rfl rfl (show Z1 (Z4 1).2 = [] from rfl) (by kernel_rfl) (Za (Zg (Zpy #[vi a0] (a0)   N c0  1 rfl (by decide) (by decide))) Ze) rfl (by decide) (by rfl) ⟨rr, ⟨rr, ⟨⟨Eq.trans (show (Value.agg #[vi ((1 : Nat) : Int), vi ((1 : Nat) : Int), vi ((2 : Nat) : Int)] : Value) = Value.agg #[vi (1 : Int), vi (1 : Int), vi (2 : Int)] from (ZbW (Zc (congrArg (Value.int .i64) (by first | rfl | omega)) (Zc (congrArg (Value.int .i64) (by first | rfl | omega)) (Zc (congrArg (Value.int .i64) (by first | rfl | omega)) rfl))))) (by rfl), by rfl⟩, ⟨rr, trivial⟩⟩⟩⟩ ⟨⟨rfl, ⟨[], by rfl⟩, by rfl⟩, trivial⟩
 | r14 =>
  exact Mach.en_head (bK := Z4 1) (M := ZI a0 a1 a2 a3 N) (cd := 1000000) (cm := 0) (y := (.h1m0 (1) (2) (1) : Zq)) (fu := 4000) (orc := (Zi [] [] [] [] [(0, (Zpz (a0)    1))])) (live := [2]) (tv := [some (vp 2 0), some (vq), some (Value.agg #[vi (1 : Int), vi (2 : Int), vi (1 : Int)]), some (vq)]) (bl := [some (.cells [vi a1, vi a2, vi a3] 107)]) (ob := [(dP (Zke #[vi a0] (a0)    1), true)]) rfl rfl (show Z1 (Z4 1).2 = [] from rfl) (by kernel_rfl) (Za (Zg (Zp0 #[vi a0] (a0)   N c0  1 rfl (by decide) (by decide))) Ze) rfl (by decide) (by rfl) ⟨rr, ⟨rr, ⟨⟨Eq.trans (show (Value.agg #[vi ((1 : Nat) : Int), vi ((2 : Nat) : Int), vi ((1 : Nat) : Int)] : Value) = Value.agg #[vi (1 : Int), vi (2 : Int), vi (1 : Int)] from (ZbW (Zc (congrArg (Value.int .i64) (by first | rfl | omega)) (Zc (congrArg (Value.int .i64) (by first | rfl | omega)) (Zc (congrArg (Value.int .i64) (by first | rfl | omega)) rfl))))) (by rfl), by rfl⟩, ⟨rr, trivial⟩⟩⟩⟩ ⟨⟨rfl, ⟨[], by rfl⟩, by rfl⟩, trivial⟩
 | r15 =>
  exact Mach.en_head (bK := Z4 1) (M := ZI a0 a1 a2 a3 N) (cd := 1000000) (cm := 0) (y := (.h1m0 (0) (0) (0) : Zq)) (fu := 4000) (orc := (Zi [] [] [] [] [(0, (Zp1 (a0)    1))])) (live := [2]) (tv := [some (vp 2 0), some (vq), some (Value.agg #[vq, vq, vq]), some (vq)]) (bl := [some (.cells [vi a1, vi a2, vi a3] 107)]) (ob := [(dP (Zkf #[vi a0] (a0)    1), true)]) rfl rfl (show Z1 (Z4 1).2 = [] from rfl) (by kernel_rfl) (Za (Zg (Zp2 #[vi a0] (a0)   N c0  1 rfl (by decide) (by decide))) Ze) rfl (by decide) (by rfl) ⟨rr, ⟨rr, ⟨⟨Eq.trans (show (Value.agg #[vi ((0 : Nat) : Int), vi ((0 : Nat) : Int), vi ((0 : Nat) : Int)] : Value) = Value.agg #[vq, vq, vq] from (ZbW (Zc (congrArg (Value.int .i64) (by first | rfl | omega)) (Zc (congrArg (Value.int .i64) (by first | rfl | omega)) (Zc (congrArg (Value.int .i64) (by first | rfl | omega)) rfl))))) (by rfl), by rfl⟩, ⟨rr, trivial⟩⟩⟩⟩ ⟨⟨rfl, ⟨[], by rfl⟩, by rfl⟩, trivial⟩
 | r16 =>
  exact Mach.en_head (bK := Z4 1) (M := ZI a0 a1 a2 a3 N) (cd := 1000000) (cm := 0) (y := (.h1m0 (0) (0) (0) : Zq)) (fu := 4000) (orc := (Zi [] [] [] [] [(0, (Zp3 (a0)    1))])) (live := [2]) (tv := [some (vp 2 0), some (vq), some (Value.agg #[vq, vq, vq]), some (vq)]) (bl := [some (.cells [vi a1, vi a2, vi a3] 107)]) (ob := [(dP (Zkg #[vi a0] (a0)    1), true)]) rfl rfl (show Z1 (Z4 1).2 = [] from rfl) (by kernel_rfl) (Za (Zg (Zp4 #[vi a0] (a0)   N c0  1 rfl (by decide) (by decide))) Ze) rfl (by decide) (by rfl) ⟨rr, ⟨rr, ⟨⟨Eq.trans (show (Value.agg #[vi ((0 : Nat) : Int), vi ((0 : Nat) : Int), vi ((0 : Nat) : Int)] : Value) = Value.agg #[vq, vq, vq] from (ZbW (Zc (congrArg (Value.int .i64) (by first | rfl | omega)) (Zc (congrArg (Value.int .i64) (by first | rfl | omega)) (Zc (congrArg (Value.int .i64) (by first | rfl | omega)) rfl))))) (by rfl), by rfl⟩, ⟨rr, trivial⟩⟩⟩⟩ ⟨⟨rfl, ⟨[], by rfl⟩, by rfl⟩, trivial⟩
 | r17 =>
  exact Mach.en_head (bK := Z4 1) (M := ZI a0 a1 a2 a3 N) (cd := 1000000) (cm := 0) (y := (.h1m0 (0) (0) (0) : Zq)) (fu := 4000) (orc := (Zi [] [] [] [] [(0, (Zp5 (a0)    1))])) (live := [2]) (tv := [some (vp 2 0), some (vq), some (Value.agg #[vq, vq, vq]), some (vq)]) (bl := [some (.cells [vi a1, vi a2, vi a3] 107)]) (ob := [(dP (Zkh #[vi a0] (a0)    1), true)]) rfl rfl (show Z1 (Z4 1).2 = [] from rfl) (by kernel_rfl) (Za (Zg (Zp6 #[vi a0] (a0)   N c0  1 rfl (by decide) (by decide))) Ze) rfl (by decide) (by rfl) ⟨rr, ⟨rr, ⟨⟨Eq.trans (show (Value.agg #[vi ((0 : Nat) : Int), vi ((0 : Nat) : Int), vi ((0 : Nat) : Int)] : Value) = Value.agg #[vq, vq, vq] from (ZbW (Zc (congrArg (Value.int .i64) (by first | rfl | omega)) (Zc (congrArg (Value.int .i64) (by first | rfl | omega)) (Zc (congrArg (Value.int .i64) (by first | rfl | omega)) rfl))))) (by rfl), by rfl⟩, ⟨rr, trivial⟩⟩⟩⟩ ⟨⟨rfl, ⟨[], by rfl⟩, by rfl⟩, trivial⟩
 | r18 =>
  exact Mach.en_head (bK := Z4 1) (M := ZI a0 a1 a2 a3 N) (cd := 1000000) (cm := 0) (y := (.h1m0 (0) (0) (0) : Zq)) (fu := 4000) (orc := (Zi [] [] [] [] [(0, (Zp7 (a0)    1))])) (live := [2]) (tv := [some (vp 2 0), some (vq), some (Value.agg #[vq, vq, vq]), some (vq)]) (bl := [some (.cells [vi a1, vi a2, vi a3] 107)]) (ob := [(dP (Zki #[vi a0] (a0)    1), true)]) rfl rfl (show Z1 (Z4 1).2 = [] from rfl) (by kernel_rfl) (Za (Zg (Zp8 #[vi a0] (a0)   N c0  1 rfl (by decide) (by decide))) Ze) rfl (by decide) (by rfl) ⟨rr, ⟨rr, ⟨⟨Eq.trans (show (Value.agg #[vi ((0 : Nat) : Int), vi ((0 : Nat) : Int), vi ((0 : Nat) : Int)] : Value) = Value.agg #[vq, vq, vq] from (ZbW (Zc (congrArg (Value.int .i64) (by first | rfl | omega)) (Zc (congrArg (Value.int .i64) (by first | rfl | omega)) (Zc (congrArg (Value.int .i64) (by first | rfl | omega)) rfl))))) (by rfl), by rfl⟩, ⟨rr, trivial⟩⟩⟩⟩ ⟨⟨rfl, ⟨[], by rfl⟩, by rfl⟩, trivial⟩
 | r19 =>
  exact Mach.en_head (bK := Z4 1) (M := ZI a0 a1 a2 a3 N) (cd := 1000000) (cm := 0) (y := (.h1m0 (1) (0) (0) : Zq)) (fu := 4000) (orc := (Zi [] [] [] [] [(0, (Zp9 (a0)    1))])) (live := [2]) (tv := [some (vp 2 0), some (vq), some (Value.agg #[vi (1 : Int), vq, vq]), some (vq)]) (bl := [some (.cells [vi a1, vi a2, vi a3] 107)]) (ob := [(dP (Zkj #[vi a0] (a0)    1), true)]) rfl rfl (show Z1 (Z4 1).2 = [] from rfl) (by kernel_rfl) (Za (Zg (ZpA #[vi a0] (a0)   N c0  1 rfl (by decide) (by decide))) Ze) rfl (by decide) (by rfl) ⟨rr, ⟨rr, ⟨⟨Eq.trans (show (Value.agg #[vi ((1 : Nat) : Int), vi ((0 : Nat) : Int), vi ((0 : Nat) : Int)] : Value) = Value.agg #[vi (1 : Int), vq, vq] from (ZbW (Zc (congrArg (Value.int .i64) (by first | rfl | omega)) (Zc (congrArg (Value.int .i64) (by first | rfl | omega)) (Zc (congrArg (Value.int .i64) (by first | rfl | omega)) rfl))))) (by rfl), by rfl⟩, ⟨rr, trivial⟩⟩⟩⟩ ⟨⟨rfl, ⟨[], by rfl⟩, by rfl⟩, trivial⟩
 | r20 =>
  exact Mach.en_head (bK := Z4 1) (M := ZI a0 a1 a2 a3 N) (cd := 1000000) (cm := 0) (y := (.h1m0 (0) (0) (0) : Zq)) (fu := 4000) (orc := (Zi [] [] [] [] [(0, (ZpB (a0)    1))])) (live := [2]) (tv := [some (vp 2 0), some (vq), some (Value.agg #[vq, vq, vq]), some (vq)]) (bl := [some (.cells [vi a1, vi a2, vi a3] 107)]) (ob := [(dP (Zkk #[vi a0] (a0)    1), true)]) rfl rfl (show Z1 (Z4 1).2 = [] from rfl) (by kernel_rfl) (Za (Zg (ZpC #[vi a0] (a0)   N c0  1 rfl (by decide) (by decide))) Ze) rfl (by decide) (by rfl) ⟨rr, ⟨rr, ⟨⟨Eq.trans (show (Value.agg #[vi ((0 : Nat) : Int), vi ((0 : Nat) : Int), vi ((0 : Nat) : Int)] : Value) = Value.agg #[vq, vq, vq] from (ZbW (Zc (congrArg (Value.int .i64) (by first | rfl | omega)) (Zc (congrArg (Value.int .i64) (by first | rfl | omega)) (Zc (congrArg (Value.int .i64) (by first | rfl | omega)) rfl))))) (by rfl), by rfl⟩, ⟨rr, trivial⟩⟩⟩⟩ ⟨⟨rfl, ⟨[], by rfl⟩, by rfl⟩, trivial⟩

theorem Znj (a0 a1 a2 a3 : Int) (N : Nat) (r : Zar) (h : Z2 a0 a1 a2 a3 N = some r) : LSpec Tryz.prog 49 #[Value.agg #[vi a0, vi a1, vi a2, vi a3]] [] (Zl6 a0 a1 a2 a3 r) (Zkl a0 a1 a2 a3 r) :=
 Mach.spec Zl (ZI a0 a1 a2 a3 N) Tryz.func49 (by kernel_rfl) (by kernel_rfl) (fun x => by cases x <;> exact Zj _ rfl) (fun r => by cases r <;> exact Zj _ rfl) (fun x => by
  cases x with
  | h1m0 _ _ _ => exact fun _ => (show ¬ (1 ∈ Z1 (Z4 1).2) from by decide +kernel)
  | h1m1 _ _ _ => exact fun _ => (show ¬ (1 ∈ Z1 (Z4 1).2) from by decide +kernel)
  | h1m2 _ _ _ => exact fun _ => (show ¬ (1 ∈ Z1 (Z4 1).2) from by decide +kernel)
  | h1m3 _ _ _ => exact fun _ => (show ¬ (1 ∈ Z1 (Z4 1).2) from by decide +kernel)
  ) (fun x => (show (ZI a0 a1 a2 a3 N).Ok Tryz.prog ZG x (ZbJ a0 a1 a2 a3 N x) from by
  cases x with
  | h1m0 v1 v2 v3 => exact Zmh a0 a1 a2 a3 v1 v2 v3 N
  | h1m1 v1 v2 v3 => exact Zmi a0 a1 a2 a3 v1 v2 v3 N
  | h1m2 v1 v2 v3 => exact Zmj a0 a1 a2 a3 v1 v2 v3 N
  | h1m3 v1 v2 v3 => exact Zmk a0 a1 a2 a3 v1 v2 v3 N
  )) (Zoz a0 a1 a2 a3 N) (n := N) h

noncomputable def ZY (a0 a1 a2 a3 w0 : Int) (n : Nat) : Zaj := .call [] (vi w0) [] 0
def ZT (A : Array Value) (a0 a1 a2 a3 w0 : Int) (n : Nat) : Prop := Zz Tryz.prog 49 A [] (vi w0) [] n 0

theorem ZZ (A : Array Value) (a0 a1 a2 a3 w0 : Int) (N : Nat) (h : Z2 a0 a1 a2 a3 N = some (.r0 w0)) (n : Nat) (hA : A = #[Value.agg #[vi a0, vi a1, vi a2, vi a3]]) (hnd : ([] : List Nat).Nodup) (hlt : ∀ k ∈ ([] : List Nat), k < n) : ZT A a0 a1 a2 a3 w0  n :=
 ZC hA (LSpec.callL (show LSpec Tryz.prog 49 #[Value.agg #[vi a0, vi a1, vi a2, vi a3]] [] (vi w0) [] from Znj a0 a1 a2 a3 N _ h) [] n [] rfl hnd hlt (show 0 ≤ 0 from by decide) (show ∀ j ∈ ([] : List Nat), j < 0 from by decide) (by rfl) trivial (by rfl) trivial trivial rfl rfl rfl rfl rfl)

noncomputable def ZgO (a0 a1 a2 a3 : Int) (L4 : List RA) (a5 a6 a7 : Int) : ZB → Value
 | .r0 w0 => vi w0
noncomputable def ZfS (a0 a1 a2 a3 : Int) (L4 : List RA) (a5 a6 a7 : Int) : ZB → List (Option AObj)
 | .r0 w0 => [some (.cells [vn, ms E_iiii L4, vn, vn, vn, vi a5, vi a6, vi a7] 58)]

theorem ZjK (a0 a1 a2 a3 : Int) (L4 : List RA) (a5 a6 a7 : Int) (N : Nat) : Gx Tryz.prog 34 [.cells [vn, ms E_iiii L4, vn, vn, vn, vi a5, vi a6, vi a7] 58] #[vp 0 0, Value.agg #[vi a0, vi a1, vi a2, vi a3]] (ZgO a0 a1 a2 a3 L4 a5 a6 a7) (ZfS a0 a1 a2 a3 L4 a5 a6 a7) (Zbf a0 a1 a2 a3 L4 a5 a6 a7 N) := by
 unfold Zbf
 refine Zn (fun g0 => ?_) (fun g0 => ?_)
 ·
  refine ZaO (fun z1 c1 => ?_)
  cases z1 with
  | r0 y1_0 =>
   refine Zn (fun g2 => ?_) (fun g2 => ?_)
   ·
    exact Zm Zl (r := (.r0 ((120 : Int)) : ZB)) (fu := 4000) (orc := (Zi [(0, true), (2, true)] [] [] [] [(0, (ZY (a0) (a1) (a2) (a3)  y1_0  2))])) (live := [0]) (u := vi (120 : Int)) (bl := [some (.cells [vn, ms E_iiii L4, vn, vn, vn, vi a5, vi a6, vi a7] 58)]) (ob := [((y1_0 != (0 : Int)), true), (dP (ZT #[Value.agg #[vi a0, vi a1, vi a2, vi a3]] (a0) (a1) (a2) (a3)  y1_0  2), true), nT a0 15]) (by kernel_rfl) (oD <| Za (Zg (ZZ #[Value.agg #[vi a0, vi a1, vi a2, vi a3]] (a0) (a1) (a2) (a3)  y1_0 N c1  2 rfl (by decide) (by decide))) <| oT Ze) rfl (by decide) (by rfl) rr ⟨⟨rfl, ⟨[], by rfl⟩, by rfl⟩, trivial⟩ (Zj _ rfl)
   ·
    exact Zm Zl (r := (.r0 ((0 : Int)) : ZB)) (fu := 4000) (orc := (Zi [(0, true), (2, false)] [] [] [] [(0, (ZY (a0) (a1) (a2) (a3)  y1_0  2))])) (live := [0]) (u := vq) (bl := [some (.cells [vn, ms E_iiii L4, vn, vn, vn, vi a5, vi a6, vi a7] 58)]) (ob := [((y1_0 != (0 : Int)), false), (dP (ZT #[Value.agg #[vi a0, vi a1, vi a2, vi a3]] (a0) (a1) (a2) (a3)  y1_0  2), true), nT a0 15]) (by kernel_rfl) (oE <| Za (Zg (ZZ #[Value.agg #[vi a0, vi a1, vi a2, vi a3]] (a0) (a1) (a2) (a3)  y1_0 N c1  2 rfl (by decide) (by decide))) <| oT Ze) rfl (by decide) (by rfl) rr ⟨⟨rfl, ⟨[], by rfl⟩, by rfl⟩, trivial⟩ (Zj _ rfl)
 ·
  refine Zn (fun g1 => ?_) (fun g1 => ?_)
  ·
   exact Zm Zl (r := (.r0 ((120 : Int)) : ZB)) (fu := 4000) (orc := (Zi [(0, false), (1, true)] [] [] [] [])) (live := [0]) (u := vi (120 : Int)) (bl := [some (.cells [vn, ms E_iiii L4, vn, vn, vn, vi a5, vi a6, vi a7] 58)]) (ob := [nT a0 16, nF a0 15]) (by kernel_rfl) (oT <| oF Ze) rfl (by decide) (by rfl) rr ⟨⟨rfl, ⟨[], by rfl⟩, by rfl⟩, trivial⟩ (Zj _ rfl)
  ·
   refine Zn (fun g2 => ?_) (fun g2 => ?_)
   ·
    exact Zm Zl (r := (.r0 ((120 : Int)) : ZB)) (fu := 4000) (orc := (Zi [(0, false), (1, false), (2, true)] [] [] [] [])) (live := [0]) (u := vi (120 : Int)) (bl := [some (.cells [vn, ms E_iiii L4, vn, vn, vn, vi a5, vi a6, vi a7] 58)]) (ob := [nT a0 17, nF a0 16, nF a0 15]) (by kernel_rfl) (oT <| oF <| oF Ze) rfl (by decide) (by rfl) rr ⟨⟨rfl, ⟨[], by rfl⟩, by rfl⟩, trivial⟩ (Zj _ rfl)
   ·
    refine Zn (fun g3 => ?_) (fun g3 => ?_)
    ·
     exact Zm Zl (r := (.r0 ((120 : Int)) : ZB)) (fu := 4000) (orc := (Zi [(0, false), (1, false), (2, false), (3, true)] [] [] [] [])) (live := [0]) (u := vi (120 : Int)) (bl := [some (.cells [vn, ms E_iiii L4, vn, vn, vn, vi a5, vi a6, vi a7] 58)]) (ob := [nT a0 18, nF a0 17, nF a0 16, nF a0 15]) (by kernel_rfl) (oT <| oF <| oF <| oF Ze) rfl (by decide) (by rfl) rr ⟨⟨rfl, ⟨[], by rfl⟩, by rfl⟩, trivial⟩ (Zj _ rfl)
    ·
     by_cases g4 : a0 = (20 : Int)
     ·
      refine ZaO (fun z5 c5 => ?_)
      cases z5 with
      | r0 y5_0 =>
       refine Zn (fun g6 => ?_) (fun g6 => ?_)
       ·
        exact Zm Zl (r := (.r0 ((120 : Int)) : ZB)) (fu := 4000) (orc := (Zi [(0, false), (1, false), (2, false), (3, false), (4, true), (6, true)] [] [] [] [(0, (ZY (a0) (a1) (a2) (a3)  y5_0  2))])) (live := [0]) (u := vi (120 : Int)) (bl := [some (.cells [vn, ms E_iiii L4, vn, vn, vn, vi a5, vi a6, vi a7] 58)]) (ob := [((y5_0 != (0 : Int)), true), (dP (ZT #[Value.agg #[vi a0, vi a1, vi a2, vi a3]] (a0) (a1) (a2) (a3)  y5_0  2), true), nT a0 20, nF a0 18, nF a0 17, nF a0 16, nF a0 15]) (by kernel_rfl) (oD <| Za (Zg (ZZ #[Value.agg #[vi a0, vi a1, vi a2, vi a3]] (a0) (a1) (a2) (a3)  y5_0 N c5  2 rfl (by decide) (by decide))) <| oT <| oF <| oF <| oF <| oF Ze) rfl (by decide) (by rfl) rr ⟨⟨rfl, ⟨[], by rfl⟩, by rfl⟩, trivial⟩ (Zj _ rfl)
       ·
        exact Zm Zl (r := (.r0 ((0 : Int)) : ZB)) (fu := 4000) (orc := (Zi [(0, false), (1, false), (2, false), (3, false), (4, true), (6, false)] [] [] [] [(0, (ZY (a0) (a1) (a2) (a3)  y5_0  2))])) (live := [0]) (u := vq) (bl := [some (.cells [vn, ms E_iiii L4, vn, vn, vn, vi a5, vi a6, vi a7] 58)]) (ob := [((y5_0 != (0 : Int)), false), (dP (ZT #[Value.agg #[vi a0, vi a1, vi a2, vi a3]] (a0) (a1) (a2) (a3)  y5_0  2), true), nT a0 20, nF a0 18, nF a0 17, nF a0 16, nF a0 15]) (by kernel_rfl) (oE <| Za (Zg (ZZ #[Value.agg #[vi a0, vi a1, vi a2, vi a3]] (a0) (a1) (a2) (a3)  y5_0 N c5  2 rfl (by decide) (by decide))) <| oT <| oF <| oF <| oF <| oF Ze) rfl (by decide) (by rfl) rr ⟨⟨rfl, ⟨[], by rfl⟩, by rfl⟩, trivial⟩ (Zj _ rfl)
     ·
      refine ZaO (fun z5 c5 => ?_)
      cases z5 with
      | r0 y5_0 =>
       refine Zn (fun g6 => ?_) (fun g6 => ?_)
       ·
        exact Zm Zl (r := (.r0 ((120 : Int)) : ZB)) (fu := 4000) (orc := (Zi [(0, false), (1, false), (2, false), (3, false), (4, false), (5, true)] [] [] [] [(0, (ZY (a0) (a1) (a2) (a3)  y5_0  2))])) (live := [0]) (u := vi (120 : Int)) (bl := [some (.cells [vn, ms E_iiii L4, vn, vn, vn, vi a5, vi a6, vi a7] 58)]) (ob := [((y5_0 != (0 : Int)), true), (dP (ZT #[Value.agg #[vi a0, vi a1, vi a2, vi a3]] (a0) (a1) (a2) (a3)  y5_0  2), true), nF a0 20, nF a0 18, nF a0 17, nF a0 16, nF a0 15]) (by kernel_rfl) (oD <| Za (Zg (ZZ #[Value.agg #[vi a0, vi a1, vi a2, vi a3]] (a0) (a1) (a2) (a3)  y5_0 N c5  2 rfl (by decide) (by decide))) <| oF <| oF <| oF <| oF <| oF Ze) rfl (by decide) (by rfl) rr ⟨⟨rfl, ⟨[], by rfl⟩, by rfl⟩, trivial⟩ (Zj _ rfl)
       ·
        exact Zm Zl (r := (.r0 ((0 : Int)) : ZB)) (fu := 4000) (orc := (Zi [(0, false), (1, false), (2, false), (3, false), (4, false), (5, false)] [] [] [] [(0, (ZY (a0) (a1) (a2) (a3)  y5_0  2))])) (live := [0]) (u := vq) (bl := [some (.cells [vn, ms E_iiii L4, vn, vn, vn, vi a5, vi a6, vi a7] 58)]) (ob := [((y5_0 != (0 : Int)), false), (dP (ZT #[Value.agg #[vi a0, vi a1, vi a2, vi a3]] (a0) (a1) (a2) (a3)  y5_0  2), true), nF a0 20, nF a0 18, nF a0 17, nF a0 16, nF a0 15]) (by kernel_rfl) (oE <| Za (Zg (ZZ #[Value.agg #[vi a0, vi a1, vi a2, vi a3]] (a0) (a1) (a2) (a3)  y5_0 N c5  2 rfl (by decide) (by decide))) <| oF <| oF <| oF <| oF <| oF Ze) rfl (by decide) (by rfl) rr ⟨⟨rfl, ⟨[], by rfl⟩, by rfl⟩, trivial⟩ (Zj _ rfl)

theorem ZiH (a0 a1 a2 a3 : Int) (L4 : List RA) (a5 a6 a7 : Int) (N : Nat) (r : ZB) (h : Zbf a0 a1 a2 a3 L4 a5 a6 a7 N = some r) : LSpec Tryz.prog 34 #[vp 0 0, Value.agg #[vi a0, vi a1, vi a2, vi a3]] [.cells [vn, ms E_iiii L4, vn, vn, vn, vi a5, vi a6, vi a7] 58] (ZgO a0 a1 a2 a3 L4 a5 a6 a7 r) (ZfS a0 a1 a2 a3 L4 a5 a6 a7 r) :=
 (ZjK a0 a1 a2 a3 L4 a5 a6 a7 N) r h

noncomputable def Zee (a0 a1 a2 a3 : Int) (L4 : List RA) (a5 a6 a7 w0 : Int) (k0 n : Nat) : Zaj := .call [(k0, .cells [vn, ms E_iiii L4, vn, vn, vn, vi a5, vi a6, vi a7] 58)] (vi w0) [] 0
def ZcN (A : Array Value) (a0 a1 a2 a3 : Int) (L4 : List RA) (a5 a6 a7 w0 : Int) (k0 n : Nat) : Prop := Zz Tryz.prog 34 A [(k0, .cells [vn, ms E_iiii L4, vn, vn, vn, vi a5, vi a6, vi a7] 58)] (vi w0) [] n 0

theorem Zef (A : Array Value) (a0 a1 a2 a3 : Int) (L4 : List RA) (a5 a6 a7 w0 : Int) (N : Nat) (h : Zbf a0 a1 a2 a3 L4 a5 a6 a7 N = some (.r0 w0)) (k0 n : Nat) (hA : A = #[vp k0 0, Value.agg #[vi a0, vi a1, vi a2, vi a3]]) (hnd : ([k0] : List Nat).Nodup) (hlt : ∀ k ∈ ([k0] : List Nat), k < n) : ZcN A a0 a1 a2 a3 L4 a5 a6 a7 w0 k0 n :=
 ZC hA (LSpec.callL (show LSpec Tryz.prog 34 #[vp 0 0, Value.agg #[vi a0, vi a1, vi a2, vi a3]] [.cells [vn, ms E_iiii L4, vn, vn, vn, vi a5, vi a6, vi a7] 58] (vi w0) [some (.cells [vn, ms E_iiii L4, vn, vn, vn, vi a5, vi a6, vi a7] 58)] from ZiH a0 a1 a2 a3 L4 a5 a6 a7 N _ h) [k0] n [] rfl hnd hlt (show 1 ≤ 1 from by decide) (show ∀ j ∈ ([] : List Nat), j < 1 from by decide) (by rfl) ⟨rfl, trivial⟩ (by rfl) ⟨rfl, trivial⟩ ⟨.inr rfl, trivial⟩ rfl rfl rfl (Zc (Zp rfl rfl) rfl) rfl)

noncomputable def ZfT (L0 : List RA) (a1 a2 a3 : Int) : Zbe → Value
 | .r0 => Value.agg #[vi (-1 : Int), vq]
noncomputable def ZfC (L0 : List RA) (a1 a2 a3 : Int) : Zbe → List (Option AObj)
 | .r0 => [some (.cells [vn, ms E_iiii L0, vn, vn, vn, vi a1, vi a2, vi a3] 58)]

theorem Zjl (L0 : List RA) (a1 a2 a3 : Int) (N : Nat) : Gx Tryz.prog 51 [.cells [vn, ms E_iiii L0, vn, vn, vn, vi a1, vi a2, vi a3] 58] #[vp 0 0] (ZfT L0 a1 a2 a3) (ZfC L0 a1 a2 a3) (Zb4 L0 a1 a2 a3 N) := by
 unfold Zb4
 exact Zm Zl (r := (.r0 : Zbe)) (fu := 4000) (orc := (Zi [] [] [] [] [])) (live := [0]) (u := Value.agg #[vi (-1 : Int), vq]) (bl := [some (.cells [vn, ms E_iiii L0, vn, vn, vn, vi a1, vi a2, vi a3] 58)]) (ob := []) (by kernel_rfl) Ze rfl (by decide) (by rfl) rr ⟨⟨rfl, ⟨[], by rfl⟩, by rfl⟩, trivial⟩ (Zj _ rfl)

theorem Zio (L0 : List RA) (a1 a2 a3 : Int) (N : Nat) (r : Zbe) (h : Zb4 L0 a1 a2 a3 N = some r) : LSpec Tryz.prog 51 #[vp 0 0] [.cells [vn, ms E_iiii L0, vn, vn, vn, vi a1, vi a2, vi a3] 58] (ZfT L0 a1 a2 a3 r) (ZfC L0 a1 a2 a3 r) :=
 (Zjl L0 a1 a2 a3 N) r h

noncomputable def ZfD (L0 : List RA) (a1 a2 a3 : Int) (k0 n : Nat) : Zaj := .call [(k0, .cells [vn, ms E_iiii L0, vn, vn, vn, vi a1, vi a2, vi a3] 58)] (Value.agg #[vi (-1 : Int), vq]) [] 0
def ZdJ (A : Array Value) (L0 : List RA) (a1 a2 a3 : Int) (k0 n : Nat) : Prop := Zz Tryz.prog 51 A [(k0, .cells [vn, ms E_iiii L0, vn, vn, vn, vi a1, vi a2, vi a3] 58)] (Value.agg #[vi (-1 : Int), vq]) [] n 0

theorem ZfE (A : Array Value) (L0 : List RA) (a1 a2 a3 : Int) (N : Nat) (h : Zb4 L0 a1 a2 a3 N = some (.r0)) (k0 n : Nat) (hA : A = #[vp k0 0]) (hnd : ([k0] : List Nat).Nodup) (hlt : ∀ k ∈ ([k0] : List Nat), k < n) : ZdJ A L0 a1 a2 a3 k0 n :=
 ZC hA (LSpec.callL (show LSpec Tryz.prog 51 #[vp 0 0] [.cells [vn, ms E_iiii L0, vn, vn, vn, vi a1, vi a2, vi a3] 58] (Value.agg #[vi (-1 : Int), vq]) [some (.cells [vn, ms E_iiii L0, vn, vn, vn, vi a1, vi a2, vi a3] 58)] from Zio L0 a1 a2 a3 N _ h) [k0] n [] rfl hnd hlt (show 1 ≤ 1 from by decide) (show ∀ j ∈ ([] : List Nat), j < 1 from by decide) (by rfl) ⟨rfl, trivial⟩ (by rfl) ⟨rfl, trivial⟩ ⟨.inr rfl, trivial⟩ rfl rfl rfl (Zc (Zp rfl rfl) rfl) rfl)

noncomputable def ZhV (a0 a1 : Int) (L2 : List RA) (a3 a4 a5 : Int) : ZaQ → Value
 | .r0 => vtt
 | .r1 => vtt
noncomputable def Zhj (a0 a1 : Int) (L2 : List RA) (a3 a4 a5 : Int) : ZaQ → List (Option AObj)
 | .r0 => [some (.cells [vs 1 0 1 1, ms E_iiii L2, vs 2 0 1 1, vs 3 0 1 1, vs 4 0 1 1, vi (if (1 : Int) > a3 then (1 : Int) else a3), vi a4, vi a5] 58), some (.cells (Zb Zd ([(⟨a0, (-1 : Int)⟩ : R_ii)] : List R_ii)) 102), some (.cells (Zb Zd ([(⟨(-1 : Int), (0 : Int)⟩ : R_ii)] : List R_ii)) 75), some (.cells (Zb eI [(-1 : Int)]) 3), some (.cells (Zb eI ([a0] : List Int)) 3)]
 | .r1 => [some (.cells [vn, ms E_iiii L2, vs 1 0 1 1, vs 2 0 1 1, vn, vi a3, vi a4, vi a5] 58), some (.cells (Zb Zd ([(⟨(-1 : Int), (0 : Int)⟩ : R_ii)] : List R_ii)) 75), some (.cells (Zb eI [(-1 : Int)]) 3)]

theorem Zl7 (a0 a1 : Int) (L2 : List RA) (a3 a4 a5 : Int) (N : Nat) : Gx Tryz.prog 35 [.cells [vn, ms E_iiii L2, vn, vn, vn, vi a3, vi a4, vi a5] 58] #[vp 0 0, vi a0, vi a1] (ZhV a0 a1 L2 a3 a4 a5) (Zhj a0 a1 L2 a3 a4 a5) (ZbK a0 a1 L2 a3 a4 a5 N) := by
 unfold ZbK
 refine ZaO (fun z0 c0 => ?_)
 cases z0 with
 | r0 =>
  refine Zn (fun g1 => ?_) (fun g1 => ?_)
  ·
   exact Zm Zl (r := (.r0 : ZaQ)) (fu := 4000) (orc := (Zi [(0, true)] [] [] [] [(0, (ZfD (L2) (a3) (a4) (a5)   0 1))])) (live := [0, 9, 2, 4, 6]) (u := vtt) (bl := [some (.cells [vs 9 0 1 1, ms E_iiii L2, vs 2 0 1 1, vs 4 0 1 1, vs 6 0 1 1, vi (if (1 : Int) > a3 then (1 : Int) else a3), vi a4, vi a5] 58), some (.cells [vi a0, vi (-1 : Int)] 102), some (.cells [vi (-1 : Int), vq] 75), some (.cells [vi (-1 : Int)] 3), some (.cells [vi a0] 3)]) (ob := [nT a1 15, (dP (ZdJ #[vp 0 0] (L2) (a3) (a4) (a5)   0 1), true), (dS [vn, ms E_iiii L2, vn, vn, vn, vi a3, vi a4, vi a5], true)]) (by kernel_rfl) (oT <| Za (Zg (ZfE #[vp 0 0] (L2) (a3) (a4) (a5)   N c0 0 1 rfl (by decide) (by decide))) <| Za (Zg (Zc rfl (Zc rfl (Zc rfl (Zc rfl (Zc rfl (Zc rfl (Zc rfl (Zc rfl rfl))))))))) Ze) rfl (by decide) (by rfl) rr ⟨⟨rfl, ⟨[], by rfl⟩, by rfl⟩, ⟨(ZbA (E := Zd) _ (L := ([(⟨a0, (-1 : Int)⟩ : R_ii)] : List R_ii)) _ (show ([vi a0, vi (-1 : Int)] : List Value) = Zb Zd ([(⟨a0, (-1 : Int)⟩ : R_ii)] : List R_ii) from rfl)), ⟨(ZbA (E := Zd) _ (L := ([(⟨(-1 : Int), (0 : Int)⟩ : R_ii)] : List R_ii)) _ (show ([vi (-1 : Int), vq] : List Value) = Zb Zd ([(⟨(-1 : Int), (0 : Int)⟩ : R_ii)] : List R_ii) from rfl)), ⟨(ZbA (E := eI) _ (L := [(-1 : Int)]) _ (show ([vi (-1 : Int)] : List Value) = Zb eI [(-1 : Int)] from rfl)), ⟨(ZbA (E := eI) _ (L := ([a0] : List Int)) _ (show ([vi a0] : List Value) = Zb eI ([a0] : List Int) from rfl)), trivial⟩⟩⟩⟩⟩ (Zj _ rfl)
  ·
   refine Zn (fun g2 => ?_) (fun g2 => ?_)
   ·
    exact Zay
   ·
    refine Zn (fun g3 => ?_) (fun g3 => ?_)
    ·
     exact Zay
    ·
     exact Zm Zl (r := (.r1 : ZaQ)) (fu := 4000) (orc := (Zi [(0, false), (1, false), (2, false)] [] [] [] [(0, (ZfD (L2) (a3) (a4) (a5)   0 1))])) (live := [0, 2, 4]) (u := vtt) (bl := [some (.cells [vn, ms E_iiii L2, vs 2 0 1 1, vs 4 0 1 1, vn, vi a3, vi a4, vi a5] 58), some (.cells [vi (-1 : Int), vq] 75), some (.cells [vi (-1 : Int)] 3)]) (ob := [nF a1 17, nF a1 16, nF a1 15, (dP (ZdJ #[vp 0 0] (L2) (a3) (a4) (a5)   0 1), true), (dS [vn, ms E_iiii L2, vn, vn, vn, vi a3, vi a4, vi a5], true)]) (by kernel_rfl) (oF <| oF <| oF <| Za (Zg (ZfE #[vp 0 0] (L2) (a3) (a4) (a5)   N c0 0 1 rfl (by decide) (by decide))) <| Za (Zg (Zc rfl (Zc rfl (Zc rfl (Zc rfl (Zc rfl (Zc rfl (Zc rfl (Zc rfl rfl))))))))) Ze) rfl (by decide) (by rfl) rr ⟨⟨rfl, ⟨[], by rfl⟩, by rfl⟩, ⟨(ZbA (E := Zd) _ (L := ([(⟨(-1 : Int), (0 : Int)⟩ : R_ii)] : List R_ii)) _ (show ([vi (-1 : Int), vq] : List Value) = Zb Zd ([(⟨(-1 : Int), (0 : Int)⟩ : R_ii)] : List R_ii) from rfl)), ⟨(ZbA (E := eI) _ (L := [(-1 : Int)]) _ (show ([vi (-1 : Int)] : List Value) = Zb eI [(-1 : Int)] from rfl)), trivial⟩⟩⟩ (Zj _ rfl)

theorem ZfF (a0 a1 : Int) (L2 : List RA) (a3 a4 a5 : Int) (N : Nat) (r : ZaQ) (h : ZbK a0 a1 L2 a3 a4 a5 N = some r) : LSpec Tryz.prog 35 #[vp 0 0, vi a0, vi a1] [.cells [vn, ms E_iiii L2, vn, vn, vn, vi a3, vi a4, vi a5] 58] (ZhV a0 a1 L2 a3 a4 a5 r) (Zhj a0 a1 L2 a3 a4 a5 r) :=
 (Zl7 a0 a1 L2 a3 a4 a5 N) r h

noncomputable def Zml (a0 a1 : Int) (L2 : List RA) (a3 a4 a5 : Int) (k0 n : Nat) : Zaj := .call [(k0, .cells [vn, ms E_iiii L2, vn, vn, vn, vi a3, vi a4, vi a5] 58)] (vtt) [(k0, some (.cells [vs n 0 1 1, ms E_iiii L2, vs (n + 1) 0 1 1, vs (n + 2) 0 1 1, vs (n + 3) 0 1 1, vi (if (1 : Int) > a3 then (1 : Int) else a3), vi a4, vi a5] 58)), (n, some (.cells (Zb Zd ([(⟨a0, (-1 : Int)⟩ : R_ii)] : List R_ii)) 102)), ((n + 1), some (.cells (Zb Zd ([(⟨(-1 : Int), (0 : Int)⟩ : R_ii)] : List R_ii)) 75)), ((n + 2), some (.cells (Zb eI [(-1 : Int)]) 3)), ((n + 3), some (.cells (Zb eI ([a0] : List Int)) 3))] 4
def Zhk (A : Array Value) (a0 a1 : Int) (L2 : List RA) (a3 a4 a5 : Int) (k0 n : Nat) : Prop := Zz Tryz.prog 35 A [(k0, .cells [vn, ms E_iiii L2, vn, vn, vn, vi a3, vi a4, vi a5] 58)] (vtt) [(k0, some (.cells [vs n 0 1 1, ms E_iiii L2, vs (n + 1) 0 1 1, vs (n + 2) 0 1 1, vs (n + 3) 0 1 1, vi (if (1 : Int) > a3 then (1 : Int) else a3), vi a4, vi a5] 58)), (n, some (.cells (Zb Zd ([(⟨a0, (-1 : Int)⟩ : R_ii)] : List R_ii)) 102)), ((n + 1), some (.cells (Zb Zd ([(⟨(-1 : Int), (0 : Int)⟩ : R_ii)] : List R_ii)) 75)), ((n + 2), some (.cells (Zb eI [(-1 : Int)]) 3)), ((n + 3), some (.cells (Zb eI ([a0] : List Int)) 3))] n 4

theorem Zmm (A : Array Value) (a0 a1 : Int) (L2 : List RA) (a3 a4 a5 : Int) (N : Nat) (h : ZbK a0 a1 L2 a3 a4 a5 N = some (.r0)) (k0 n : Nat) (hA : A = #[vp k0 0, vi a0, vi a1]) (hnd : ([k0] : List Nat).Nodup) (hlt : ∀ k ∈ ([k0] : List Nat), k < n) : Zhk A a0 a1 L2 a3 a4 a5 k0 n :=
 ZC hA (LSpec.callL (show LSpec Tryz.prog 35 #[vp 0 0, vi a0, vi a1] [.cells [vn, ms E_iiii L2, vn, vn, vn, vi a3, vi a4, vi a5] 58] (vtt) [some (.cells [vs 1 0 1 1, ms E_iiii L2, vs 2 0 1 1, vs 3 0 1 1, vs 4 0 1 1, vi (if (1 : Int) > a3 then (1 : Int) else a3), vi a4, vi a5] 58), some (.cells (Zb Zd ([(⟨a0, (-1 : Int)⟩ : R_ii)] : List R_ii)) 102), some (.cells (Zb Zd ([(⟨(-1 : Int), (0 : Int)⟩ : R_ii)] : List R_ii)) 75), some (.cells (Zb eI [(-1 : Int)]) 3), some (.cells (Zb eI ([a0] : List Int)) 3)] from ZfF a0 a1 L2 a3 a4 a5 N _ h) [k0] n [0, 1, 2, 3, 4] rfl hnd hlt (show 1 ≤ 5 from by decide) (show ∀ j ∈ ([0, 1, 2, 3, 4] : List Nat), j < 5 from by decide) (by rfl) ⟨rfl, trivial⟩ (by rfl) ⟨rfl, ⟨(Zo _ _ _), ⟨(Zo _ _ _), ⟨(Zo _ _ _), ⟨(Zo _ _ _), trivial⟩⟩⟩⟩⟩ ⟨.inl (by decide), ⟨(by decide), ⟨(by decide), ⟨(by decide), ⟨(by decide), trivial⟩⟩⟩⟩⟩ rfl rfl rfl (Zc (Zp rfl rfl) rfl) (Zc (Zp rfl (Zad rfl)) (Zc (Zp rfl (Zad (Z0 _ _ _))) (Zc (Zp rfl (Zad (Z0 _ _ _))) (Zc (Zp rfl (Zad (Z0 _ _ _))) (Zc (Zp rfl (Zad (Z0 _ _ _))) rfl))))))

noncomputable def Zmn (a0 a1 : Int) (L2 : List RA) (a3 a4 a5 : Int) (k0 n : Nat) : Zaj := .call [(k0, .cells [vn, ms E_iiii L2, vn, vn, vn, vi a3, vi a4, vi a5] 58)] (vtt) [(k0, some (.cells [vn, ms E_iiii L2, vs n 0 1 1, vs (n + 1) 0 1 1, vn, vi a3, vi a4, vi a5] 58)), (n, some (.cells (Zb Zd ([(⟨(-1 : Int), (0 : Int)⟩ : R_ii)] : List R_ii)) 75)), ((n + 1), some (.cells (Zb eI [(-1 : Int)]) 3))] 2
def Zhl (A : Array Value) (a0 a1 : Int) (L2 : List RA) (a3 a4 a5 : Int) (k0 n : Nat) : Prop := Zz Tryz.prog 35 A [(k0, .cells [vn, ms E_iiii L2, vn, vn, vn, vi a3, vi a4, vi a5] 58)] (vtt) [(k0, some (.cells [vn, ms E_iiii L2, vs n 0 1 1, vs (n + 1) 0 1 1, vn, vi a3, vi a4, vi a5] 58)), (n, some (.cells (Zb Zd ([(⟨(-1 : Int), (0 : Int)⟩ : R_ii)] : List R_ii)) 75)), ((n + 1), some (.cells (Zb eI [(-1 : Int)]) 3))] n 2

theorem Zmo (A : Array Value) (a0 a1 : Int) (L2 : List RA) (a3 a4 a5 : Int) (N : Nat) (h : ZbK a0 a1 L2 a3 a4 a5 N = some (.r1)) (k0 n : Nat) (hA : A = #[vp k0 0, vi a0, vi a1]) (hnd : ([k0] : List Nat).Nodup) (hlt : ∀ k ∈ ([k0] : List Nat), k < n) : Zhl A a0 a1 L2 a3 a4 a5 k0 n :=
 ZC hA (LSpec.callL (show LSpec Tryz.prog 35 #[vp 0 0, vi a0, vi a1] [.cells [vn, ms E_iiii L2, vn, vn, vn, vi a3, vi a4, vi a5] 58] (vtt) [some (.cells [vn, ms E_iiii L2, vs 1 0 1 1, vs 2 0 1 1, vn, vi a3, vi a4, vi a5] 58), some (.cells (Zb Zd ([(⟨(-1 : Int), (0 : Int)⟩ : R_ii)] : List R_ii)) 75), some (.cells (Zb eI [(-1 : Int)]) 3)] from ZfF a0 a1 L2 a3 a4 a5 N _ h) [k0] n [0, 1, 2] rfl hnd hlt (show 1 ≤ 3 from by decide) (show ∀ j ∈ ([0, 1, 2] : List Nat), j < 3 from by decide) (by rfl) ⟨rfl, trivial⟩ (by rfl) ⟨rfl, ⟨(Zo _ _ _), ⟨(Zo _ _ _), trivial⟩⟩⟩ ⟨.inl (by decide), ⟨(by decide), ⟨(by decide), trivial⟩⟩⟩ rfl rfl rfl (Zc (Zp rfl rfl) rfl) (Zc (Zp rfl (Zad rfl)) (Zc (Zp rfl (Zad (Z0 _ _ _))) (Zc (Zp rfl (Zad (Z0 _ _ _))) rfl))))

noncomputable def Zkn (a0 a1 a2 a3 : Int) : Zb7 → Value
 | .r0 w0 w1 => Value.tuple #[vi w0, Value.bool w1]
noncomputable def Zjm (a0 a1 a2 a3 : Int) : Zb7 → List (Option AObj)
 | .r0 w0 w1 => []

theorem ZnR (a0 a1 a2 a3 : Int) (N : Nat) : Gx Tryz.prog 20 [] #[Value.agg #[vi a0, vi a1, vi a2, vi a3]] (Zkn a0 a1 a2 a3) (Zjm a0 a1 a2 a3) (Zbi a0 a1 a2 a3 N) := by
 unfold Zbi
 refine Zn (fun g0 => ?_) (fun g0 => ?_)
 ·
  exact Zm Zl (r := (.r0 (a1) (true) : Zb7)) (fu := 4000) (orc := (Zi [(0, true)] [] [] [] [])) (live := []) (u := Value.tuple #[vi a1, vT]) (bl := []) (ob := [nT a0 8]) (by kernel_rfl) (oT Ze) rfl (by decide) (by rfl) rr trivial (Zj _ rfl)
 ·
  refine Zn (fun g1 => ?_) (fun g1 => ?_)
  ·
   exact Zm Zl (r := (.r0 (a2) (true) : Zb7)) (fu := 4000) (orc := (Zi [(0, false), (1, true)] [] [] [] [])) (live := []) (u := Value.tuple #[vi a2, vT]) (bl := []) (ob := [nT a0 9, nF a0 8]) (by kernel_rfl) (oT <| oF Ze) rfl (by decide) (by rfl) rr trivial (Zj _ rfl)
  ·
   exact Zm Zl (r := (.r0 ((0 : Int)) (false) : Zb7)) (fu := 4000) (orc := (Zi [(0, false), (1, false)] [] [] [] [])) (live := []) (u := Value.tuple #[vq, vf]) (bl := []) (ob := [nF a0 9, nF a0 8]) (by kernel_rfl) (oF <| oF Ze) rfl (by decide) (by rfl) rr trivial (Zj _ rfl)

theorem Zmp (a0 a1 a2 a3 : Int) (N : Nat) (r : Zb7) (h : Zbi a0 a1 a2 a3 N = some r) : LSpec Tryz.prog 20 #[Value.agg #[vi a0, vi a1, vi a2, vi a3]] [] (Zkn a0 a1 a2 a3 r) (Zjm a0 a1 a2 a3 r) :=
 (ZnR a0 a1 a2 a3 N) r h

noncomputable def Zat (a0 a1 a2 a3 w0 : Int) (w1 : Bool) (n : Nat) : Zaj := .call [] (Value.tuple #[vi w0, Value.bool w1]) [] 0
def Zaq (A : Array Value) (a0 a1 a2 a3 w0 : Int) (w1 : Bool) (n : Nat) : Prop := Zz Tryz.prog 20 A [] (Value.tuple #[vi w0, Value.bool w1]) [] n 0

theorem Zau (A : Array Value) (a0 a1 a2 a3 w0 : Int) (w1 : Bool) (N : Nat) (h : Zbi a0 a1 a2 a3 N = some (.r0 w0 w1)) (n : Nat) (hA : A = #[Value.agg #[vi a0, vi a1, vi a2, vi a3]]) (hnd : ([] : List Nat).Nodup) (hlt : ∀ k ∈ ([] : List Nat), k < n) : Zaq A a0 a1 a2 a3 w0 w1  n :=
 ZC hA (LSpec.callL (show LSpec Tryz.prog 20 #[Value.agg #[vi a0, vi a1, vi a2, vi a3]] [] (Value.tuple #[vi w0, Value.bool w1]) [] from Zmp a0 a1 a2 a3 N _ h) [] n [] rfl hnd hlt (show 0 ≤ 0 from by decide) (show ∀ j ∈ ([] : List Nat), j < 0 from by decide) (by rfl) trivial (by rfl) trivial trivial rfl rfl rfl rfl rfl)

noncomputable def ZhW (L0 : List RA) (L1 : List R_ii) (a2 a3 a4 : Int) : Zae → Value
 | .r0 w3 w4 => vtt
noncomputable def Zhm (L0 : List RA) (L1 : List R_ii) (a2 a3 a4 : Int) : Zae → List (Option AObj)
 | .r0 w3 w4 => [some (.cells [vn, ms E_iiii L0, vs 1 0 L1.length L1.length, vn, vn, vi a2, vi w3, vi w4] 58), some (.cells (Zb Zd L1) 75)]

def Zmq : ZU → Nat
 | .h1m0 v3 => 1
noncomputable def Znk (L0 : List RA) (L1 : List R_ii) (a2 a3 a4 : Int) : ZU → List (Nat × Value)
 | .h1m0 v3 => [(0, vp 0 0), (9, ms E_iiii L0), (10, vi (L0.length : Int)), (11, vi (v3 : Int))]
noncomputable def Znl (L0 : List RA) (L1 : List R_ii) (a2 a3 a4 : Int) : ZU → List (Option AObj)
 | .h1m0 v3 => [some (.cells [vn, ms E_iiii L0, vs 1 0 L1.length L1.length, vn, vn, vi a2, vi a3, vi a4] 58), some (.cells (Zb Zd L1) 75)]

noncomputable def Zcv : Nat → Code × List ZaI
 | 1 => Zb3 [1, 3] (Zc8 Tryz.f38) []
 | _ => (.skip, [])
def Zhn : Nat → Bool
 | 1 => true
 | _ => true
noncomputable def ZhX (i : Nat) : List ZaI := match Zhn i with | true => .rnd i :: (Zcv i).2 | false => (Zcv i).2

noncomputable def ZaR (L0 : List RA) (L1 : List R_ii) (a2 a3 a4 : Int) (N : Nat) : Mach := ⟨Tryz.f38, [.cells [vn, ms E_iiii L0, vs 1 0 L1.length L1.length, vn, vn, vi a2, vi a3, vi a4] 58, .cells (Zb Zd L1) 75], ZU, Zae, check_scan_aimsStep L0 L1 a2 a3 a4 N, Zmq, Zcv, Zhn, Znk L0 L1 a2 a3 a4, Znl L0 L1 a2 a3 a4, ZhW L0 L1 a2 a3 a4, Zhm L0 L1 a2 a3 a4⟩

theorem Zjn (L0 : List RA) (L1 : List R_ii) (a2 a3 a4 : Int) (v3 N : Nat) : (ZaR L0 L1 a2 a3 a4 N).Ok Tryz.prog ZG (.h1m0 v3 : ZU) (check_scan_aimsStep L0 L1 a2 a3 a4 N (.h1m0 v3 : ZU)) := by
 show (ZaR L0 L1 a2 a3 a4 N).Ok Tryz.prog ZG (.h1m0 v3 : ZU) (check_scan_aims_h1m0 L0 L1 a2 a3 a4 N v3)
 unfold check_scan_aims_h1m0
 refine Mach.ok_ite (fun g0 => ?_) (fun g0 => ?_)
 ·
  refine Mach.ok_bind (fun z1 c1 => ?_)
  cases z1 with
  | r0 y1_0 y1_1 =>
   refine Mach.ok_ite (fun g2 => ?_) (fun g2 => ?_)
   ·
    subst g2
    refine Mach.ok_ite (fun g3 => ?_) (fun g3 => ?_)
    ·
     exact Mach.ok_fin (M := ZaR L0 L1 a2 a3 a4 N) (cd := 1000000) (cm := 0) (r := (.r0 ((v3 : Int)) ((120 : Int)) : Zae)) (fu := 4000) (orc := (Zi [(0, true), (1, true)] [] [(0, v3)] [(0, [.i (L0.getD v3 RA.z).a0, .i (L0.getD v3 RA.z).a1, .i (L0.getD v3 RA.z).a2, .i (L0.getD v3 RA.z).a3])] [(1, (Zat ((L0.getD v3 RA.z).a0) ((L0.getD v3 RA.z).a1) ((L0.getD v3 RA.z).a2) ((L0.getD v3 RA.z).a3)  y1_0 true  3))])) (live := [0, 1]) (u := vtt) (bl := [some (.cells [vn, ms E_iiii L0, vs 1 0 L1.length L1.length, vn, vn, vi a2, vi (v3 : Int), vi (120 : Int)] 58), some (.cells (Zb Zd L1) 75)]) (ob := [((decide (y1_0 > (L0.length : Int))), true), (dP (Zaq #[Value.agg #[vi (L0.getD v3 RA.z).a0, vi (L0.getD v3 RA.z).a1, vi (L0.getD v3 RA.z).a2, vi (L0.getD v3 RA.z).a3]] ((L0.getD v3 RA.z).a0) ((L0.getD v3 RA.z).a1) ((L0.getD v3 RA.z).a2) ((L0.getD v3 RA.z).a3)  y1_0 true  3), true), (dP (ZH (code (Z9 E_iiii L0)) (0 + (v3 * 4)) 4 = some [.i (L0.getD v3 RA.z).a0, .i (L0.getD v3 RA.z).a1, .i (L0.getD v3 RA.z).a2, .i (L0.getD v3 RA.z).a3]), true), (Nat.blt v3 L0.length, true), ((v3 : Int) == Int.ofNat v3, true), ((decide ((v3 : Int) < (L0.length : Int))), true)]) (fun gv => by kernel_rfl) (oY <| Za (Zg (Zau #[Value.agg #[vi (L0.getD v3 RA.z).a0, vi (L0.getD v3 RA.z).a1, vi (L0.getD v3 RA.z).a2, vi (L0.getD v3 RA.z).a3]] ((L0.getD v3 RA.z).a0) ((L0.getD v3 RA.z).a1) ((L0.getD v3 RA.z).a2) ((L0.getD v3 RA.z).a3)  y1_0 true N c1  3 rfl (by decide) (by decide))) <| Za (Zg (Zt (E := E_iiii) (L := L0) (i := v3) (q := 0) (by omega) (show (0 + (v3 * 4)) = v3 * 4 + 0 from by omega) (show 0 + 4 ≤ 4 from by decide) rfl)) <| oB <| oI <| oY Ze) rfl (by decide) (by rfl) rr ⟨⟨rfl, ⟨[], by rfl⟩, by rfl⟩, ⟨(Zf (E := Zd) (α := R_ii) _ L1 _), trivial⟩⟩
    ·
     refine Mach.ok_ite (fun g4 => ?_) (fun g4 => ?_)
     ·
      refine Mach.ok_ite (fun g5 => ?_) (fun g5 => ?_)
      ·
       refine Mach.ok_ite (fun g6 => ?_) (fun g6 => ?_)
       ·
        refine Mach.ok_ite (fun g7 => ?_) (fun g7 => ?_)
        ·
         exact Mach.ok_fin (M := ZaR L0 L1 a2 a3 a4 N) (cd := 1000000) (cm := 0) (r := (.r0 ((v3 : Int)) ((120 : Int)) : Zae)) (fu := 4000) (orc := (Zi [(0, true), (1, false), (2, true)] [] [(0, v3), (1, (y1_0).toNat), (2, v3)] [(0, [.i (L0.getD v3 RA.z).a0, .i (L0.getD v3 RA.z).a1, .i (L0.getD v3 RA.z).a2, .i (L0.getD v3 RA.z).a3]), (4, [.i (L1.getD (y1_0).toNat R_ii.z).a0, .i (L1.getD (y1_0).toNat R_ii.z).a1]), (6, [.i (L1.getD v3 R_ii.z).a0, .i (L1.getD v3 R_ii.z).a1])] [(1, (Zat ((L0.getD v3 RA.z).a0) ((L0.getD v3 RA.z).a1) ((L0.getD v3 RA.z).a2) ((L0.getD v3 RA.z).a3)  y1_0 true  3))])) (live := [0, 1]) (u := vtt) (bl := [some (.cells [vn, ms E_iiii L0, vs 1 0 L1.length L1.length, vn, vn, vi a2, vi (v3 : Int), vi (120 : Int)] 58), some (.cells (Zb Zd L1) 75)]) (ob := [((!(((L1.getD (y1_0).toNat R_ii.z).a0 == (L1.getD v3 R_ii.z).a0) && (((L1.getD (y1_0).toNat R_ii.z).a1 == (L1.getD v3 R_ii.z).a1) && true))), true), (Zas (Z7 2 (List.drop (0 + (v3 * 2)) (Zb Zd L1))) [.i (L1.getD v3 R_ii.z).a0, .i (L1.getD v3 R_ii.z).a1], true), (Nat.blt v3 L1.length, true), ((v3 : Int) == Int.ofNat v3, true), (Zas (Z7 2 (List.drop (0 + ((y1_0).toNat * 2)) (Zb Zd L1))) [.i (L1.getD (y1_0).toNat R_ii.z).a0, .i (L1.getD (y1_0).toNat R_ii.z).a1], true), (Nat.blt (y1_0).toNat L1.length, true), (y1_0 == Int.ofNat (y1_0).toNat, true), ((decide (y1_0 > (L0.length : Int))), false), (dP (Zaq #[Value.agg #[vi (L0.getD v3 RA.z).a0, vi (L0.getD v3 RA.z).a1, vi (L0.getD v3 RA.z).a2, vi (L0.getD v3 RA.z).a3]] ((L0.getD v3 RA.z).a0) ((L0.getD v3 RA.z).a1) ((L0.getD v3 RA.z).a2) ((L0.getD v3 RA.z).a3)  y1_0 true  3), true), (dP (ZH (code (Z9 E_iiii L0)) (0 + (v3 * 4)) 4 = some [.i (L0.getD v3 RA.z).a0, .i (L0.getD v3 RA.z).a1, .i (L0.getD v3 RA.z).a2, .i (L0.getD v3 RA.z).a3]), true), (Nat.blt v3 L0.length, true), ((v3 : Int) == Int.ofNat v3, true), ((decide ((v3 : Int) < (L0.length : Int))), true)]) (fun gv => by kernel_rfl) (Za (by rw [Bool.not_eq_true']; exact Bool.eq_false_iff.2 (by simp only [ne_eq, Bool.and_true, Bool.and_eq_true, beq_iff_eq]; first | omega | (intro hh; simp_all; done) | (intro hh; grind))) <| Za (ZS (E := Zd) (L := L1) (i := v3) (q := 0) (by omega) (show (0 + (v3 * 2)) = v3 * 2 + 0 from by omega) (show 0 + 2 ≤ 2 from by decide) rfl rfl) <| oB <| oI <| Za (ZS (E := Zd) (L := L1) (i := (y1_0).toNat) (q := 0) (by omega) (show (0 + ((y1_0).toNat * 2)) = (y1_0).toNat * 2 + 0 from by omega) (show 0 + 2 ≤ 2 from by decide) rfl rfl) <| oB <| oI <| oN <| Za (Zg (Zau #[Value.agg #[vi (L0.getD v3 RA.z).a0, vi (L0.getD v3 RA.z).a1, vi (L0.getD v3 RA.z).a2, vi (L0.getD v3 RA.z).a3]] ((L0.getD v3 RA.z).a0) ((L0.getD v3 RA.z).a1) ((L0.getD v3 RA.z).a2) ((L0.getD v3 RA.z).a3)  y1_0 true N c1  3 rfl (by decide) (by decide))) <| Za (Zg (Zt (E := E_iiii) (L := L0) (i := v3) (q := 0) (by omega) (show (0 + (v3 * 4)) = v3 * 4 + 0 from by omega) (show 0 + 4 ≤ 4 from by decide) rfl)) <| oB <| oI <| oY Ze) rfl (by decide) (by rfl) rr ⟨⟨rfl, ⟨[], by rfl⟩, by rfl⟩, ⟨(Zf (E := Zd) (α := R_ii) _ L1 _), trivial⟩⟩
        ·
         refine Mach.ok_ite (fun g8 => ?_) (fun g8 => ?_)
         ·
          exact Mach.ok_next (M := ZaR L0 L1 a2 a3 a4 N) (cd := 1000000) (cm := 0) (y := (.h1m0 ((v3 + 1)) : ZU)) (fu := 4000) (orc := (Zi [(0, true), (1, false), (2, false)] [(0, (((v3 + 1) : Nat) : Int))] [(0, v3), (1, (y1_0).toNat), (2, v3)] [(0, [.i (L0.getD v3 RA.z).a0, .i (L0.getD v3 RA.z).a1, .i (L0.getD v3 RA.z).a2, .i (L0.getD v3 RA.z).a3]), (4, [.i (L1.getD (y1_0).toNat R_ii.z).a0, .i (L1.getD (y1_0).toNat R_ii.z).a1]), (6, [.i (L1.getD v3 R_ii.z).a0, .i (L1.getD v3 R_ii.z).a1])] [(1, (Zat ((L0.getD v3 RA.z).a0) ((L0.getD v3 RA.z).a1) ((L0.getD v3 RA.z).a2) ((L0.getD v3 RA.z).a3)  y1_0 true  3))])) (live := [0, 1]) (tv := fun _ => [some (vp 0 0), some (ms E_iiii L0), some (vi (L0.length : Int)), some (vi (((v3 + 1) : Nat) : Int))]) (bl := [some (.cells [vn, ms E_iiii L0, vs 1 0 L1.length L1.length, vn, vn, vi a2, vi a3, vi a4] 58), some (.cells (Zb Zd L1) 75)]) (ob := [((IntKind.i64.wrap ((v3 : Int) + (1 : Int))) == (((v3 + 1) : Nat) : Int), true), ((!(((L1.getD (y1_0).toNat R_ii.z).a0 == (L1.getD v3 R_ii.z).a0) && (((L1.getD (y1_0).toNat R_ii.z).a1 == (L1.getD v3 R_ii.z).a1) && true))), false), (Zas (Z7 2 (List.drop (0 + (v3 * 2)) (Zb Zd L1))) [.i (L1.getD v3 R_ii.z).a0, .i (L1.getD v3 R_ii.z).a1], true), (Nat.blt v3 L1.length, true), ((v3 : Int) == Int.ofNat v3, true), (Zas (Z7 2 (List.drop (0 + ((y1_0).toNat * 2)) (Zb Zd L1))) [.i (L1.getD (y1_0).toNat R_ii.z).a0, .i (L1.getD (y1_0).toNat R_ii.z).a1], true), (Nat.blt (y1_0).toNat L1.length, true), (y1_0 == Int.ofNat (y1_0).toNat, true), ((decide (y1_0 > (L0.length : Int))), false), (dP (Zaq #[Value.agg #[vi (L0.getD v3 RA.z).a0, vi (L0.getD v3 RA.z).a1, vi (L0.getD v3 RA.z).a2, vi (L0.getD v3 RA.z).a3]] ((L0.getD v3 RA.z).a0) ((L0.getD v3 RA.z).a1) ((L0.getD v3 RA.z).a2) ((L0.getD v3 RA.z).a3)  y1_0 true  3), true), (dP (ZH (code (Z9 E_iiii L0)) (0 + (v3 * 4)) 4 = some [.i (L0.getD v3 RA.z).a0, .i (L0.getD v3 RA.z).a1, .i (L0.getD v3 RA.z).a2, .i (L0.getD v3 RA.z).a3]), true), (Nat.blt v3 L0.length, true), ((v3 : Int) == Int.ofNat v3, true), ((decide ((v3 : Int) < (L0.length : Int))), true)]) rfl (show 1 ∈ Z1 (ZhX 1) from by decide +kernel) (fun gv => by kernel_rfl) (Za (beq_iff_eq.2 ((wrap_i64 ltA).trans (by first | rfl | omega))) <| Za (by rw [Bool.not_eq_false']; first | (simp only [beq_self_eq_true, Bool.and_self]; done) | (simp only [Bool.and_true, Bool.and_eq_true, beq_iff_eq] <;> first | omega | (simp_all; done) | grind)) <| Za (ZS (E := Zd) (L := L1) (i := v3) (q := 0) (by omega) (show (0 + (v3 * 2)) = v3 * 2 + 0 from by omega) (show 0 + 2 ≤ 2 from by decide) rfl rfl) <| oB <| oI <| Za (ZS (E := Zd) (L := L1) (i := (y1_0).toNat) (q := 0) (by omega) (show (0 + ((y1_0).toNat * 2)) = (y1_0).toNat * 2 + 0 from by omega) (show 0 + 2 ≤ 2 from by decide) rfl rfl) <| oB <| oI <| oN <| Za (Zg (Zau #[Value.agg #[vi (L0.getD v3 RA.z).a0, vi (L0.getD v3 RA.z).a1, vi (L0.getD v3 RA.z).a2, vi (L0.getD v3 RA.z).a3]] ((L0.getD v3 RA.z).a0) ((L0.getD v3 RA.z).a1) ((L0.getD v3 RA.z).a2) ((L0.getD v3 RA.z).a3)  y1_0 true N c1  3 rfl (by decide) (by decide))) <| Za (Zg (Zt (E := E_iiii) (L := L0) (i := v3) (q := 0) (by omega) (show (0 + (v3 * 4)) = v3 * 4 + 0 from by omega) (show 0 + 4 ≤ 4 from by decide) rfl)) <| oB <| oI <| oY Ze) rfl (by decide) (by rfl) (fun _ => ⟨rr, ⟨rr, ⟨rr, ⟨rr, trivial⟩⟩⟩⟩) ⟨⟨rfl, ⟨[], by rfl⟩, by rfl⟩, ⟨(Zf (E := Zd) (α := R_ii) _ L1 _), trivial⟩⟩
         ·
          exact Mach.ok_none
       ·
        exact Mach.ok_none
      ·
       exact Mach.ok_none
     ·
      exact Mach.ok_none
   ·
    obtain rfl : y1_1 = false := by simpa using g2
    refine Mach.ok_ite (fun g3 => ?_) (fun g3 => ?_)
    ·
     exact Mach.ok_next (M := ZaR L0 L1 a2 a3 a4 N) (cd := 1000000) (cm := 0) (y := (.h1m0 ((v3 + 1)) : ZU)) (fu := 4000) (orc := (Zi [(0, true)] [(0, (((v3 + 1) : Nat) : Int))] [(0, v3)] [(0, [.i (L0.getD v3 RA.z).a0, .i (L0.getD v3 RA.z).a1, .i (L0.getD v3 RA.z).a2, .i (L0.getD v3 RA.z).a3])] [(1, (Zat ((L0.getD v3 RA.z).a0) ((L0.getD v3 RA.z).a1) ((L0.getD v3 RA.z).a2) ((L0.getD v3 RA.z).a3)  y1_0 false  3))])) (live := [0, 1]) (tv := fun _ => [some (vp 0 0), some (ms E_iiii L0), some (vi (L0.length : Int)), some (vi (((v3 + 1) : Nat) : Int))]) (bl := [some (.cells [vn, ms E_iiii L0, vs 1 0 L1.length L1.length, vn, vn, vi a2, vi a3, vi a4] 58), some (.cells (Zb Zd L1) 75)]) (ob := [((IntKind.i64.wrap ((v3 : Int) + (1 : Int))) == (((v3 + 1) : Nat) : Int), true), (dP (Zaq #[Value.agg #[vi (L0.getD v3 RA.z).a0, vi (L0.getD v3 RA.z).a1, vi (L0.getD v3 RA.z).a2, vi (L0.getD v3 RA.z).a3]] ((L0.getD v3 RA.z).a0) ((L0.getD v3 RA.z).a1) ((L0.getD v3 RA.z).a2) ((L0.getD v3 RA.z).a3)  y1_0 false  3), true), (dP (ZH (code (Z9 E_iiii L0)) (0 + (v3 * 4)) 4 = some [.i (L0.getD v3 RA.z).a0, .i (L0.getD v3 RA.z).a1, .i (L0.getD v3 RA.z).a2, .i (L0.getD v3 RA.z).a3]), true), (Nat.blt v3 L0.length, true), ((v3 : Int) == Int.ofNat v3, true), ((decide ((v3 : Int) < (L0.length : Int))), true)]) rfl (show 1 ∈ Z1 (ZhX 1) from by decide +kernel) (fun gv => by kernel_rfl) (Za (beq_iff_eq.2 ((wrap_i64 ltA).trans (by first | rfl | omega))) <| Za (Zg (Zau #[Value.agg #[vi (L0.getD v3 RA.z).a0, vi (L0.getD v3 RA.z).a1, vi (L0.getD v3 RA.z).a2, vi (L0.getD v3 RA.z).a3]] ((L0.getD v3 RA.z).a0) ((L0.getD v3 RA.z).a1) ((L0.getD v3 RA.z).a2) ((L0.getD v3 RA.z).a3)  y1_0 false N c1  3 rfl (by decide) (by decide))) <| Za (Zg (Zt (E := E_iiii) (L := L0) (i := v3) (q := 0) (by omega) (show (0 + (v3 * 4)) = v3 * 4 + 0 from by omega) (show 0 + 4 ≤ 4 from by decide) rfl)) <| oB <| oI <| oY Ze) rfl (by decide) (by rfl) (fun _ => ⟨rr, ⟨rr, ⟨rr, ⟨rr, trivial⟩⟩⟩⟩) ⟨⟨rfl, ⟨[], by rfl⟩, by rfl⟩, ⟨(Zf (E := Zd) (α := R_ii) _ L1 _), trivial⟩⟩
    ·
     exact Mach.ok_none
 ·
  exact Mach.ok_fin (M := ZaR L0 L1 a2 a3 a4 N) (cd := 1000000) (cm := 0) (r := (.r0 (a3) (a4) : Zae)) (fu := 4000) (orc := (Zi [(0, false)] [] [] [] [])) (live := [0, 1]) (u := vtt) (bl := [some (.cells [vn, ms E_iiii L0, vs 1 0 L1.length L1.length, vn, vn, vi a2, vi a3, vi a4] 58), some (.cells (Zb Zd L1) 75)]) (ob := [((decide ((v3 : Int) < (L0.length : Int))), false)]) (fun gv => by kernel_rfl) (oN Ze) rfl (by decide) (by rfl) rr ⟨⟨rfl, ⟨[], by rfl⟩, by rfl⟩, ⟨(Zf (E := Zd) (α := R_ii) _ L1 _), trivial⟩⟩

theorem Zl8 (L0 : List RA) (L1 : List R_ii) (a2 a3 a4 : Int) (N : Nat) : (ZaR L0 L1 a2 a3 a4 N).Enter Tryz.prog ZG #[vp 0 0] (Zc5 L0 L1 a2 a3 a4 N) := by
 unfold Zc5
 exact Mach.en_head (bK := Zcv 1) (M := ZaR L0 L1 a2 a3 a4 N) (cd := 1000000) (cm := 0) (y := (.h1m0 (0) : ZU)) (fu := 4000) (orc := (Zi [] [] [] [] [])) (live := [0, 1]) (tv := [some (vp 0 0), some (ms E_iiii L0), some (vi (L0.length : Int)), some (vq)]) (bl := [some (.cells [vn, ms E_iiii L0, vs 1 0 L1.length L1.length, vn, vn, vi a2, vi a3, vi a4] 58), some (.cells (Zb Zd L1) 75)]) (ob := []) rfl rfl (show Z1 (Zcv 1).2 = [] from rfl) (by kernel_rfl) Ze rfl (by decide) (by rfl) ⟨rr, ⟨rr, ⟨rr, ⟨⟨Eq.trans (show (vi ((0 : Nat) : Int) : Value) = vq from (congrArg (Value.int .i64) (by first | rfl | omega))) (by rfl), by rfl⟩, trivial⟩⟩⟩⟩ ⟨⟨rfl, ⟨[], by rfl⟩, by rfl⟩, ⟨(Zf (E := Zd) (α := R_ii) _ L1 _), trivial⟩⟩

theorem ZjL (L0 : List RA) (L1 : List R_ii) (a2 a3 a4 : Int) (N : Nat) (r : Zae) (h : check_scan_aims L0 L1 a2 a3 a4 N = some r) : LSpec Tryz.prog 38 #[vp 0 0] [.cells [vn, ms E_iiii L0, vs 1 0 L1.length L1.length, vn, vn, vi a2, vi a3, vi a4] 58, .cells (Zb Zd L1) 75] (ZhW L0 L1 a2 a3 a4 r) (Zhm L0 L1 a2 a3 a4 r) :=
 Mach.spec Zl (ZaR L0 L1 a2 a3 a4 N) Tryz.func38 (by kernel_rfl) (by kernel_rfl) (fun x => by cases x <;> exact Zj _ rfl) (fun r => by cases r <;> exact Zj _ rfl) (fun x => by
  cases x with
  | h1m0 _ => exact fun _ => (show ¬ (1 ∈ Z1 (Zcv 1).2) from by decide +kernel)
  ) (fun x => (show (ZaR L0 L1 a2 a3 a4 N).Ok Tryz.prog ZG x (check_scan_aimsStep L0 L1 a2 a3 a4 N x) from by
  cases x with
  | h1m0 v3 => exact Zjn L0 L1 a2 a3 a4 v3 N
  )) (Zl8 L0 L1 a2 a3 a4 N) (n := N) h

noncomputable def Zmr (L0 : List RA) (L1 : List R_ii) (a2 a3 a4 w3 w4 : Int) (k0 k1 n : Nat) : Zaj := .call [(k0, .cells [vn, ms E_iiii L0, vs k1 0 L1.length L1.length, vn, vn, vi a2, vi a3, vi a4] 58), (k1, .cells (Zb Zd L1) 75)] (vtt) [(k0, some (.cells [vn, ms E_iiii L0, vs k1 0 L1.length L1.length, vn, vn, vi a2, vi w3, vi w4] 58))] 0
def Zho (A : Array Value) (L0 : List RA) (L1 : List R_ii) (a2 a3 a4 w3 w4 : Int) (k0 k1 n : Nat) : Prop := Zz Tryz.prog 38 A [(k0, .cells [vn, ms E_iiii L0, vs k1 0 L1.length L1.length, vn, vn, vi a2, vi a3, vi a4] 58), (k1, .cells (Zb Zd L1) 75)] (vtt) [(k0, some (.cells [vn, ms E_iiii L0, vs k1 0 L1.length L1.length, vn, vn, vi a2, vi w3, vi w4] 58))] n 0

theorem Zms (A : Array Value) (L0 : List RA) (L1 : List R_ii) (a2 a3 a4 w3 w4 : Int) (N : Nat) (h : check_scan_aims L0 L1 a2 a3 a4 N = some (.r0 w3 w4)) (k0 k1 n : Nat) (hA : A = #[vp k0 0]) (hnd : ([k0, k1] : List Nat).Nodup) (hlt : ∀ k ∈ ([k0, k1] : List Nat), k < n) : Zho A L0 L1 a2 a3 a4 w3 w4 k0 k1 n :=
 ZC hA (LSpec.callL (show LSpec Tryz.prog 38 #[vp 0 0] [.cells [vn, ms E_iiii L0, vs 1 0 L1.length L1.length, vn, vn, vi a2, vi a3, vi a4] 58, .cells (Zb Zd L1) 75] (vtt) [some (.cells [vn, ms E_iiii L0, vs 1 0 L1.length L1.length, vn, vn, vi a2, vi w3, vi w4] 58), some (.cells (Zb Zd L1) 75)] from ZjL L0 L1 a2 a3 a4 N _ h) [k0, k1] n [0] rfl hnd hlt (show 2 ≤ 2 from by decide) (show ∀ j ∈ ([0] : List Nat), j < 2 from by decide) (by rfl) ⟨rfl, ⟨(Zo _ _ _), trivial⟩⟩ (by rfl) ⟨rfl, ⟨(Zo _ _ _), trivial⟩⟩ ⟨.inl (by decide), ⟨.inr rfl, trivial⟩⟩ rfl rfl rfl (Zc (Zp rfl rfl) (Zc (Zp rfl (Z0 _ _ _)) rfl)) (Zc (Zp rfl (Zad rfl)) rfl))

noncomputable def ZfG (a0 a1 a2 a3 : Int) (L4 : List R_ii) (L5 : List RA) (L6 : List R_ii) (L7 L8 : List Int) (a9 a10 a11 : Int) : Zk → Value
 | .r0 w4 => vi w4
noncomputable def Zfp (a0 a1 a2 a3 : Int) (L4 : List R_ii) (L5 : List RA) (L6 : List R_ii) (L7 L8 : List Int) (a9 a10 a11 : Int) : Zk → List (Option AObj)
 | .r0 w4 => [some (.cells [vs 1 0 L4.length L4.length, ms E_iiii L5, vs 2 0 L6.length L6.length, vs 3 0 L7.length L7.length, vs 4 0 L8.length L8.length, vi a9, vi a10, vi a11] 58), some (.cells (Zb Zd L4) 102), some (.cells (Zb Zd L6) 75), some (.cells (Zb eI L7) 3), some (.cells (Zb eI L8) 3)]

theorem ZiI (a0 a1 a2 a3 : Int) (L4 : List R_ii) (L5 : List RA) (L6 : List R_ii) (L7 L8 : List Int) (a9 a10 a11 : Int) (N : Nat) : Gx Tryz.prog 34 [.cells [vs 1 0 L4.length L4.length, ms E_iiii L5, vs 2 0 L6.length L6.length, vs 3 0 L7.length L7.length, vs 4 0 L8.length L8.length, vi a9, vi a10, vi a11] 58, .cells (Zb Zd L4) 102, .cells (Zb Zd L6) 75, .cells (Zb eI L7) 3, .cells (Zb eI L8) 3] #[vp 0 0, Value.agg #[vi a0, vi a1, vi a2, vi a3]] (ZfG a0 a1 a2 a3 L4 L5 L6 L7 L8 a9 a10 a11) (Zfp a0 a1 a2 a3 L4 L5 L6 L7 L8 a9 a10 a11) (ZaT a0 a1 a2 a3 L4 L5 L6 L7 L8 a9 a10 a11 N) := by
 unfold ZaT
 refine Zn (fun g0 => ?_) (fun g0 => ?_)
 ·
  refine Zn (fun g1 => ?_) (fun g1 => ?_)
  ·
   refine ZaO (fun z2 c2 => ?_)
   cases z2 with
   | r0 y2_0 =>
    refine Zn (fun g3 => ?_) (fun g3 => ?_)
    ·
     exact Zm Zl (r := (.r0 ((140 : Int)) : Zk)) (fu := 4000) (orc := (Zi [(0, true), (1, true), (2, true)] [] [] [] [(0, (ZY (a0) (a1) (a2) (a3)  y2_0  6))])) (live := [0, 1, 2, 3, 4]) (u := vi (140 : Int)) (bl := [some (.cells [vs 1 0 L4.length L4.length, ms E_iiii L5, vs 2 0 L6.length L6.length, vs 3 0 L7.length L7.length, vs 4 0 L8.length L8.length, vi a9, vi a10, vi a11] 58), some (.cells (Zb Zd L4) 102), some (.cells (Zb Zd L6) 75), some (.cells (Zb eI L7) 3), some (.cells (Zb eI L8) 3)]) (ob := [nT y2_0 0, (dP (ZT #[Value.agg #[vi a0, vi a1, vi a2, vi a3]] (a0) (a1) (a2) (a3)  y2_0  6), true), ((decide ((L4.length : Int) ≥ (8 : Int))), true), nT a0 15]) (by kernel_rfl) (oT <| Za (Zg (ZZ #[Value.agg #[vi a0, vi a1, vi a2, vi a3]] (a0) (a1) (a2) (a3)  y2_0 N c2  6 rfl (by decide) (by decide))) <| oY <| oT Ze) rfl (by decide) (by rfl) rr ⟨⟨rfl, ⟨[], by rfl⟩, by rfl⟩, ⟨(Zf (E := Zd) (α := R_ii) _ L4 _), ⟨(Zf (E := Zd) (α := R_ii) _ L6 _), ⟨(Zf (E := eI) (α := Int) _ L7 _), ⟨(Zf (E := eI) (α := Int) _ L8 _), trivial⟩⟩⟩⟩⟩ (Zj _ rfl)
    ·
     refine ZaO (fun z4 c4 => ?_)
     cases z4 with
     | r0 y4_0 =>
      refine Zn (fun g5 => ?_) (fun g5 => ?_)
      ·
       exact Zm Zl (r := (.r0 ((120 : Int)) : Zk)) (fu := 4000) (orc := (Zi [(0, true), (1, true), (2, false), (3, true)] [] [] [] [(0, (ZY (a0) (a1) (a2) (a3)  y2_0  6)), (1, (ZY (a0) (a1) (a2) (a3)  y4_0  6))])) (live := [0, 1, 2, 3, 4]) (u := vi (120 : Int)) (bl := [some (.cells [vs 1 0 L4.length L4.length, ms E_iiii L5, vs 2 0 L6.length L6.length, vs 3 0 L7.length L7.length, vs 4 0 L8.length L8.length, vi a9, vi a10, vi a11] 58), some (.cells (Zb Zd L4) 102), some (.cells (Zb Zd L6) 75), some (.cells (Zb eI L7) 3), some (.cells (Zb eI L8) 3)]) (ob := [((y4_0 != (0 : Int)), true), (dP (ZT #[Value.agg #[vi a0, vi a1, vi a2, vi a3]] (a0) (a1) (a2) (a3)  y4_0  6), true), nF y2_0 0, (dP (ZT #[Value.agg #[vi a0, vi a1, vi a2, vi a3]] (a0) (a1) (a2) (a3)  y2_0  6), true), ((decide ((L4.length : Int) ≥ (8 : Int))), true), nT a0 15]) (by kernel_rfl) (oD <| Za (Zg (ZZ #[Value.agg #[vi a0, vi a1, vi a2, vi a3]] (a0) (a1) (a2) (a3)  y4_0 N c4  6 rfl (by decide) (by decide))) <| oF <| Za (Zg (ZZ #[Value.agg #[vi a0, vi a1, vi a2, vi a3]] (a0) (a1) (a2) (a3)  y2_0 N c2  6 rfl (by decide) (by decide))) <| oY <| oT Ze) rfl (by decide) (by rfl) rr ⟨⟨rfl, ⟨[], by rfl⟩, by rfl⟩, ⟨(Zf (E := Zd) (α := R_ii) _ L4 _), ⟨(Zf (E := Zd) (α := R_ii) _ L6 _), ⟨(Zf (E := eI) (α := Int) _ L7 _), ⟨(Zf (E := eI) (α := Int) _ L8 _), trivial⟩⟩⟩⟩⟩ (Zj _ rfl)
      ·
       exact Zm Zl (r := (.r0 ((0 : Int)) : Zk)) (fu := 4000) (orc := (Zi [(0, true), (1, true), (2, false), (3, false)] [] [] [] [(0, (ZY (a0) (a1) (a2) (a3)  y2_0  6)), (1, (ZY (a0) (a1) (a2) (a3)  y4_0  6))])) (live := [0, 1, 2, 3, 4]) (u := vq) (bl := [some (.cells [vs 1 0 L4.length L4.length, ms E_iiii L5, vs 2 0 L6.length L6.length, vs 3 0 L7.length L7.length, vs 4 0 L8.length L8.length, vi a9, vi a10, vi a11] 58), some (.cells (Zb Zd L4) 102), some (.cells (Zb Zd L6) 75), some (.cells (Zb eI L7) 3), some (.cells (Zb eI L8) 3)]) (ob := [((y4_0 != (0 : Int)), false), (dP (ZT #[Value.agg #[vi a0, vi a1, vi a2, vi a3]] (a0) (a1) (a2) (a3)  y4_0  6), true), nF y2_0 0, (dP (ZT #[Value.agg #[vi a0, vi a1, vi a2, vi a3]] (a0) (a1) (a2) (a3)  y2_0  6), true), ((decide ((L4.length : Int) ≥ (8 : Int))), true), nT a0 15]) (by kernel_rfl) (oE <| Za (Zg (ZZ #[Value.agg #[vi a0, vi a1, vi a2, vi a3]] (a0) (a1) (a2) (a3)  y4_0 N c4  6 rfl (by decide) (by decide))) <| oF <| Za (Zg (ZZ #[Value.agg #[vi a0, vi a1, vi a2, vi a3]] (a0) (a1) (a2) (a3)  y2_0 N c2  6 rfl (by decide) (by decide))) <| oY <| oT Ze) rfl (by decide) (by rfl) rr ⟨⟨rfl, ⟨[], by rfl⟩, by rfl⟩, ⟨(Zf (E := Zd) (α := R_ii) _ L4 _), ⟨(Zf (E := Zd) (α := R_ii) _ L6 _), ⟨(Zf (E := eI) (α := Int) _ L7 _), ⟨(Zf (E := eI) (α := Int) _ L8 _), trivial⟩⟩⟩⟩⟩ (Zj _ rfl)
  ·
   refine ZaO (fun z2 c2 => ?_)
   cases z2 with
   | r0 y2_0 =>
    refine Zn (fun g3 => ?_) (fun g3 => ?_)
    ·
     exact Zm Zl (r := (.r0 ((120 : Int)) : Zk)) (fu := 4000) (orc := (Zi [(0, true), (1, false), (2, true)] [] [] [] [(0, (ZY (a0) (a1) (a2) (a3)  y2_0  6))])) (live := [0, 1, 2, 3, 4]) (u := vi (120 : Int)) (bl := [some (.cells [vs 1 0 L4.length L4.length, ms E_iiii L5, vs 2 0 L6.length L6.length, vs 3 0 L7.length L7.length, vs 4 0 L8.length L8.length, vi a9, vi a10, vi a11] 58), some (.cells (Zb Zd L4) 102), some (.cells (Zb Zd L6) 75), some (.cells (Zb eI L7) 3), some (.cells (Zb eI L8) 3)]) (ob := [((y2_0 != (0 : Int)), true), (dP (ZT #[Value.agg #[vi a0, vi a1, vi a2, vi a3]] (a0) (a1) (a2) (a3)  y2_0  6), true), ((decide ((L4.length : Int) ≥ (8 : Int))), false), nT a0 15]) (by kernel_rfl) (oD <| Za (Zg (ZZ #[Value.agg #[vi a0, vi a1, vi a2, vi a3]] (a0) (a1) (a2) (a3)  y2_0 N c2  6 rfl (by decide) (by decide))) <| oN <| oT Ze) rfl (by decide) (by rfl) rr ⟨⟨rfl, ⟨[], by rfl⟩, by rfl⟩, ⟨(Zf (E := Zd) (α := R_ii) _ L4 _), ⟨(Zf (E := Zd) (α := R_ii) _ L6 _), ⟨(Zf (E := eI) (α := Int) _ L7 _), ⟨(Zf (E := eI) (α := Int) _ L8 _), trivial⟩⟩⟩⟩⟩ (Zj _ rfl)
    ·
     exact Zm Zl (r := (.r0 ((0 : Int)) : Zk)) (fu := 4000) (orc := (Zi [(0, true), (1, false), (2, false)] [] [] [] [(0, (ZY (a0) (a1) (a2) (a3)  y2_0  6))])) (live := [0, 1, 2, 3, 4]) (u := vq) (bl := [some (.cells [vs 1 0 L4.length L4.length, ms E_iiii L5, vs 2 0 L6.length L6.length, vs 3 0 L7.length L7.length, vs 4 0 L8.length L8.length, vi a9, vi a10, vi a11] 58), some (.cells (Zb Zd L4) 102), some (.cells (Zb Zd L6) 75), some (.cells (Zb eI L7) 3), some (.cells (Zb eI L8) 3)]) (ob := [((y2_0 != (0 : Int)), false), (dP (ZT #[Value.agg #[vi a0, vi a1, vi a2, vi a3]] (a0) (a1) (a2) (a3)  y2_0  6), true), ((decide ((L4.length : Int) ≥ (8 : Int))), false), nT a0 15]) (by kernel_rfl) (oE <| Za (Zg (ZZ #[Value.agg #[vi a0, vi a1, vi a2, vi a3]] (a0) (a1) (a2) (a3)  y2_0 N c2  6 rfl (by decide) (by decide))) <| oN <| oT Ze) rfl (by decide) (by rfl) rr ⟨⟨rfl, ⟨[], by rfl⟩, by rfl⟩, ⟨(Zf (E := Zd) (α := R_ii) _ L4 _), ⟨(Zf (E := Zd) (α := R_ii) _ L6 _), ⟨(Zf (E := eI) (α := Int) _ L7 _), ⟨(Zf (E := eI) (α := Int) _ L8 _), trivial⟩⟩⟩⟩⟩ (Zj _ rfl)
 ·
  refine Zn (fun g1 => ?_) (fun g1 => ?_)
  ·
   refine Zn (fun g2 => ?_) (fun g2 => ?_)
   ·
    exact Zm Zl (r := (.r0 ((120 : Int)) : Zk)) (fu := 4000) (orc := (Zi [(0, false), (1, true), (2, true)] [] [] [] [])) (live := [0, 1, 2, 3, 4]) (u := vi (120 : Int)) (bl := [some (.cells [vs 1 0 L4.length L4.length, ms E_iiii L5, vs 2 0 L6.length L6.length, vs 3 0 L7.length L7.length, vs 4 0 L8.length L8.length, vi a9, vi a10, vi a11] 58), some (.cells (Zb Zd L4) 102), some (.cells (Zb Zd L6) 75), some (.cells (Zb eI L7) 3), some (.cells (Zb eI L8) 3)]) (ob := [(((L4.length : Int) == (0 : Int)), true), nT a0 16, nF a0 15]) (by kernel_rfl) (oT <| oT <| oF Ze) rfl (by decide) (by rfl) rr ⟨⟨rfl, ⟨[], by rfl⟩, by rfl⟩, ⟨(Zf (E := Zd) (α := R_ii) _ L4 _), ⟨(Zf (E := Zd) (α := R_ii) _ L6 _), ⟨(Zf (E := eI) (α := Int) _ L7 _), ⟨(Zf (E := eI) (α := Int) _ L8 _), trivial⟩⟩⟩⟩⟩ (Zj _ rfl)
   ·
    refine Zn (fun g3 => ?_) (fun g3 => ?_)
    ·
     refine Zn (fun g4 => ?_) (fun g4 => ?_)
     ·
      exact Zm Zl (r := (.r0 ((120 : Int)) : Zk)) (fu := 4000) (orc := (Zi [(0, false), (1, true), (2, false), (3, true)] [(0, (((L4.length - 1) : Nat) : Int))] [(0, (L4.length - 1))] [(4, [.i (L4.getD (L4.length - 1) R_ii.z).a1])] [])) (live := [0, 1, 2, 3, 4]) (u := vi (120 : Int)) (bl := [some (.cells [vs 1 0 L4.length L4.length, ms E_iiii L5, vs 2 0 L6.length L6.length, vs 3 0 L7.length L7.length, vs 4 0 L8.length L8.length, vi a9, vi a10, vi a11] 58), some (.cells (Zb Zd L4) 102), some (.cells (Zb Zd L6) 75), some (.cells (Zb eI L7) 3), some (.cells (Zb eI L8) 3)]) (ob := [((decide ((L4.getD (L4.length - 1) R_ii.z).a1 ≥ (0 : Int))), true), (Zas (Z7 1 (List.drop ((0 + ((L4.length - 1) * 2)) + 1) (Zb Zd L4))) [.i (L4.getD (L4.length - 1) R_ii.z).a1], true), (Nat.blt (L4.length - 1) L4.length, true), ((((L4.length - 1) : Nat) : Int) == Int.ofNat (L4.length - 1), true), ((IntKind.i64.wrap ((L4.length : Int) - (1 : Int))) == (((L4.length - 1) : Nat) : Int), true), (((L4.length : Int) == (0 : Int)), false), nT a0 16, nF a0 15]) (by kernel_rfl) (oY <| Za (ZS (E := Zd) (L := L4) (i := (L4.length - 1)) (q := 1) (by omega) (show ((0 + ((L4.length - 1) * 2)) + 1) = (L4.length - 1) * 2 + 1 from by omega) (show 1 + 1 ≤ 2 from by decide) rfl rfl) <| oB <| oI <| Za (beq_iff_eq.2 ((wrap_i64 ltA).trans (by first | rfl | omega))) <| oF <| oT <| oF Ze) rfl (by decide) (by rfl) rr ⟨⟨rfl, ⟨[], by rfl⟩, by rfl⟩, ⟨(Zf (E := Zd) (α := R_ii) _ L4 _), ⟨(Zf (E := Zd) (α := R_ii) _ L6 _), ⟨(Zf (E := eI) (α := Int) _ L7 _), ⟨(Zf (E := eI) (α := Int) _ L8 _), trivial⟩⟩⟩⟩⟩ (Zj _ rfl)
     ·
      refine ZaO (fun z5 c5 => ?_)
      cases z5 with
      | r0 y5_0 =>
       refine Zn (fun g6 => ?_) (fun g6 => ?_)
       ·
        exact Zm Zl (r := (.r0 ((120 : Int)) : Zk)) (fu := 4000) (orc := (Zi [(0, false), (1, true), (2, false), (3, false), (4, true)] [(0, (((L4.length - 1) : Nat) : Int))] [(0, (L4.length - 1))] [(4, [.i (L4.getD (L4.length - 1) R_ii.z).a1])] [(0, (ZY (a0) (a1) (a2) (a3)  y5_0  6))])) (live := [0, 1, 2, 3, 4]) (u := vi (120 : Int)) (bl := [some (.cells [vs 1 0 L4.length L4.length, ms E_iiii L5, vs 2 0 L6.length L6.length, vs 3 0 L7.length L7.length, vs 4 0 L8.length L8.length, vi a9, vi a10, vi a11] 58), some (.cells (Zb Zd L4) 102), some (.cells (Zb Zd L6) 75), some (.cells (Zb eI L7) 3), some (.cells (Zb eI L8) 3)]) (ob := [((y5_0 != (0 : Int)), true), (dP (ZT #[Value.agg #[vi a0, vi a1, vi a2, vi a3]] (a0) (a1) (a2) (a3)  y5_0  6), true), ((decide ((L4.getD (L4.length - 1) R_ii.z).a1 ≥ (0 : Int))), false), (Zas (Z7 1 (List.drop ((0 + ((L4.length - 1) * 2)) + 1) (Zb Zd L4))) [.i (L4.getD (L4.length - 1) R_ii.z).a1], true), (Nat.blt (L4.length - 1) L4.length, true), ((((L4.length - 1) : Nat) : Int) == Int.ofNat (L4.length - 1), true), ((IntKind.i64.wrap ((L4.length : Int) - (1 : Int))) == (((L4.length - 1) : Nat) : Int), true), (((L4.length : Int) == (0 : Int)), false), nT a0 16, nF a0 15]) (by kernel_rfl) (oD <| Za (Zg (ZZ #[Value.agg #[vi a0, vi a1, vi a2, vi a3]] (a0) (a1) (a2) (a3)  y5_0 N c5  6 rfl (by decide) (by decide))) <| oN <| Za (ZS (E := Zd) (L := L4) (i := (L4.length - 1)) (q := 1) (by omega) (show ((0 + ((L4.length - 1) * 2)) + 1) = (L4.length - 1) * 2 + 1 from by omega) (show 1 + 1 ≤ 2 from by decide) rfl rfl) <| oB <| oI <| Za (beq_iff_eq.2 ((wrap_i64 ltA).trans (by first | rfl | omega))) <| oF <| oT <| oF Ze) rfl (by decide) (by rfl) rr ⟨⟨rfl, ⟨[], by rfl⟩, by rfl⟩, ⟨(Zf (E := Zd) (α := R_ii) _ L4 _), ⟨(Zf (E := Zd) (α := R_ii) _ L6 _), ⟨(Zf (E := eI) (α := Int) _ L7 _), ⟨(Zf (E := eI) (α := Int) _ L8 _), trivial⟩⟩⟩⟩⟩ (Zj _ rfl)
       ·
        exact Zm Zl (r := (.r0 ((0 : Int)) : Zk)) (fu := 4000) (orc := (Zi [(0, false), (1, true), (2, false), (3, false), (4, false)] [(0, (((L4.length - 1) : Nat) : Int))] [(0, (L4.length - 1))] [(4, [.i (L4.getD (L4.length - 1) R_ii.z).a1])] [(0, (ZY (a0) (a1) (a2) (a3)  y5_0  6))])) (live := [0, 1, 2, 3, 4]) (u := vq) (bl := [some (.cells [vs 1 0 L4.length L4.length, ms E_iiii L5, vs 2 0 L6.length L6.length, vs 3 0 L7.length L7.length, vs 4 0 L8.length L8.length, vi a9, vi a10, vi a11] 58), some (.cells (Zb Zd L4) 102), some (.cells (Zb Zd L6) 75), some (.cells (Zb eI L7) 3), some (.cells (Zb eI L8) 3)]) (ob := [((y5_0 != (0 : Int)), false), (dP (ZT #[Value.agg #[vi a0, vi a1, vi a2, vi a3]] (a0) (a1) (a2) (a3)  y5_0  6), true), ((decide ((L4.getD (L4.length - 1) R_ii.z).a1 ≥ (0 : Int))), false), (Zas (Z7 1 (List.drop ((0 + ((L4.length - 1) * 2)) + 1) (Zb Zd L4))) [.i (L4.getD (L4.length - 1) R_ii.z).a1], true), (Nat.blt (L4.length - 1) L4.length, true), ((((L4.length - 1) : Nat) : Int) == Int.ofNat (L4.length - 1), true), ((IntKind.i64.wrap ((L4.length : Int) - (1 : Int))) == (((L4.length - 1) : Nat) : Int), true), (((L4.length : Int) == (0 : Int)), false), nT a0 16, nF a0 15]) (by kernel_rfl) (oE <| Za (Zg (ZZ #[Value.agg #[vi a0, vi a1, vi a2, vi a3]] (a0) (a1) (a2) (a3)  y5_0 N c5  6 rfl (by decide) (by decide))) <| oN <| Za (ZS (E := Zd) (L := L4) (i := (L4.length - 1)) (q := 1) (by omega) (show ((0 + ((L4.length - 1) * 2)) + 1) = (L4.length - 1) * 2 + 1 from by omega) (show 1 + 1 ≤ 2 from by decide) rfl rfl) <| oB <| oI <| Za (beq_iff_eq.2 ((wrap_i64 ltA).trans (by first | rfl | omega))) <| oF <| oT <| oF Ze) rfl (by decide) (by rfl) rr ⟨⟨rfl, ⟨[], by rfl⟩, by rfl⟩, ⟨(Zf (E := Zd) (α := R_ii) _ L4 _), ⟨(Zf (E := Zd) (α := R_ii) _ L6 _), ⟨(Zf (E := eI) (α := Int) _ L7 _), ⟨(Zf (E := eI) (α := Int) _ L8 _), trivial⟩⟩⟩⟩⟩ (Zj _ rfl)
    ·
     exact Zay
  ·
   refine Zn (fun g2 => ?_) (fun g2 => ?_)
   ·
    refine Zn (fun g3 => ?_) (fun g3 => ?_)
    ·
     exact Zm Zl (r := (.r0 ((120 : Int)) : Zk)) (fu := 4000) (orc := (Zi [(0, false), (1, false), (2, true), (3, true)] [] [] [] [])) (live := [0, 1, 2, 3, 4]) (u := vi (120 : Int)) (bl := [some (.cells [vs 1 0 L4.length L4.length, ms E_iiii L5, vs 2 0 L6.length L6.length, vs 3 0 L7.length L7.length, vs 4 0 L8.length L8.length, vi a9, vi a10, vi a11] 58), some (.cells (Zb Zd L4) 102), some (.cells (Zb Zd L6) 75), some (.cells (Zb eI L7) 3), some (.cells (Zb eI L8) 3)]) (ob := [(((L4.length : Int) == (0 : Int)), true), nT a0 17, nF a0 16, nF a0 15]) (by kernel_rfl) (oT <| oT <| oF <| oF Ze) rfl (by decide) (by rfl) rr ⟨⟨rfl, ⟨[], by rfl⟩, by rfl⟩, ⟨(Zf (E := Zd) (α := R_ii) _ L4 _), ⟨(Zf (E := Zd) (α := R_ii) _ L6 _), ⟨(Zf (E := eI) (α := Int) _ L7 _), ⟨(Zf (E := eI) (α := Int) _ L8 _), trivial⟩⟩⟩⟩⟩ (Zj _ rfl)
    ·
     refine ZaO (fun z4 c4 => ?_)
     cases z4 with
     | r0 y4_0 =>
      refine Zn (fun g5 => ?_) (fun g5 => ?_)
      ·
       exact Zm Zl (r := (.r0 ((120 : Int)) : Zk)) (fu := 4000) (orc := (Zi [(0, false), (1, false), (2, true), (3, false), (4, true)] [] [] [] [(0, (ZY (a0) (a1) (a2) (a3)  y4_0  6))])) (live := [0, 1, 2, 3, 4]) (u := vi (120 : Int)) (bl := [some (.cells [vs 1 0 L4.length L4.length, ms E_iiii L5, vs 2 0 L6.length L6.length, vs 3 0 L7.length L7.length, vs 4 0 L8.length L8.length, vi a9, vi a10, vi a11] 58), some (.cells (Zb Zd L4) 102), some (.cells (Zb Zd L6) 75), some (.cells (Zb eI L7) 3), some (.cells (Zb eI L8) 3)]) (ob := [((y4_0 != (0 : Int)), true), (dP (ZT #[Value.agg #[vi a0, vi a1, vi a2, vi a3]] (a0) (a1) (a2) (a3)  y4_0  6), true), (((L4.length : Int) == (0 : Int)), false), nT a0 17, nF a0 16, nF a0 15]) (by kernel_rfl) (oD <| Za (Zg (ZZ #[Value.agg #[vi a0, vi a1, vi a2, vi a3]] (a0) (a1) (a2) (a3)  y4_0 N c4  6 rfl (by decide) (by decide))) <| oF <| oT <| oF <| oF Ze) rfl (by decide) (by rfl) rr ⟨⟨rfl, ⟨[], by rfl⟩, by rfl⟩, ⟨(Zf (E := Zd) (α := R_ii) _ L4 _), ⟨(Zf (E := Zd) (α := R_ii) _ L6 _), ⟨(Zf (E := eI) (α := Int) _ L7 _), ⟨(Zf (E := eI) (α := Int) _ L8 _), trivial⟩⟩⟩⟩⟩ (Zj _ rfl)
      ·
       exact Zm Zl (r := (.r0 ((0 : Int)) : Zk)) (fu := 4000) (orc := (Zi [(0, false), (1, false), (2, true), (3, false), (4, false)] [] [] [] [(0, (ZY (a0) (a1) (a2) (a3)  y4_0  6))])) (live := [0, 1, 2, 3, 4]) (u := vq) (bl := [some (.cells [vs 1 0 L4.length L4.length, ms E_iiii L5, vs 2 0 L6.length L6.length, vs 3 0 L7.length L7.length, vs 4 0 L8.length L8.length, vi a9, vi a10, vi a11] 58), some (.cells (Zb Zd L4) 102), some (.cells (Zb Zd L6) 75), some (.cells (Zb eI L7) 3), some (.cells (Zb eI L8) 3)]) (ob := [((y4_0 != (0 : Int)), false), (dP (ZT #[Value.agg #[vi a0, vi a1, vi a2, vi a3]] (a0) (a1) (a2) (a3)  y4_0  6), true), (((L4.length : Int) == (0 : Int)), false), nT a0 17, nF a0 16, nF a0 15]) (by kernel_rfl) (oE <| Za (Zg (ZZ #[Value.agg #[vi a0, vi a1, vi a2, vi a3]] (a0) (a1) (a2) (a3)  y4_0 N c4  6 rfl (by decide) (by decide))) <| oF <| oT <| oF <| oF Ze) rfl (by decide) (by rfl) rr ⟨⟨rfl, ⟨[], by rfl⟩, by rfl⟩, ⟨(Zf (E := Zd) (α := R_ii) _ L4 _), ⟨(Zf (E := Zd) (α := R_ii) _ L6 _), ⟨(Zf (E := eI) (α := Int) _ L7 _), ⟨(Zf (E := eI) (α := Int) _ L8 _), trivial⟩⟩⟩⟩⟩ (Zj _ rfl)
   ·
    refine Zn (fun g3 => ?_) (fun g3 => ?_)
    ·
     refine Zn (fun g4 => ?_) (fun g4 => ?_)
     ·
      exact Zm Zl (r := (.r0 ((120 : Int)) : Zk)) (fu := 4000) (orc := (Zi [(0, false), (1, false), (2, false), (3, true), (4, true)] [] [] [] [])) (live := [0, 1, 2, 3, 4]) (u := vi (120 : Int)) (bl := [some (.cells [vs 1 0 L4.length L4.length, ms E_iiii L5, vs 2 0 L6.length L6.length, vs 3 0 L7.length L7.length, vs 4 0 L8.length L8.length, vi a9, vi a10, vi a11] 58), some (.cells (Zb Zd L4) 102), some (.cells (Zb Zd L6) 75), some (.cells (Zb eI L7) 3), some (.cells (Zb eI L8) 3)]) (ob := [(((L4.length : Int) == (0 : Int)), true), nT a0 18, nF a0 17, nF a0 16, nF a0 15]) (by kernel_rfl) (oT <| oT <| oF <| oF <| oF Ze) rfl (by decide) (by rfl) rr ⟨⟨rfl, ⟨[], by rfl⟩, by rfl⟩, ⟨(Zf (E := Zd) (α := R_ii) _ L4 _), ⟨(Zf (E := Zd) (α := R_ii) _ L6 _), ⟨(Zf (E := eI) (α := Int) _ L7 _), ⟨(Zf (E := eI) (α := Int) _ L8 _), trivial⟩⟩⟩⟩⟩ (Zj _ rfl)
     ·
      refine ZaO (fun z5 c5 => ?_)
      cases z5 with
      | r0 y5_0 =>
       refine Zn (fun g6 => ?_) (fun g6 => ?_)
       ·
        exact Zm Zl (r := (.r0 ((120 : Int)) : Zk)) (fu := 4000) (orc := (Zi [(0, false), (1, false), (2, false), (3, true), (4, false), (5, true)] [] [] [] [(0, (ZY (a0) (a1) (a2) (a3)  y5_0  6))])) (live := [0, 1, 2, 3, 4]) (u := vi (120 : Int)) (bl := [some (.cells [vs 1 0 L4.length L4.length, ms E_iiii L5, vs 2 0 L6.length L6.length, vs 3 0 L7.length L7.length, vs 4 0 L8.length L8.length, vi a9, vi a10, vi a11] 58), some (.cells (Zb Zd L4) 102), some (.cells (Zb Zd L6) 75), some (.cells (Zb eI L7) 3), some (.cells (Zb eI L8) 3)]) (ob := [((y5_0 != (0 : Int)), true), (dP (ZT #[Value.agg #[vi a0, vi a1, vi a2, vi a3]] (a0) (a1) (a2) (a3)  y5_0  6), true), (((L4.length : Int) == (0 : Int)), false), nT a0 18, nF a0 17, nF a0 16, nF a0 15]) (by kernel_rfl) (oD <| Za (Zg (ZZ #[Value.agg #[vi a0, vi a1, vi a2, vi a3]] (a0) (a1) (a2) (a3)  y5_0 N c5  6 rfl (by decide) (by decide))) <| oF <| oT <| oF <| oF <| oF Ze) rfl (by decide) (by rfl) rr ⟨⟨rfl, ⟨[], by rfl⟩, by rfl⟩, ⟨(Zf (E := Zd) (α := R_ii) _ L4 _), ⟨(Zf (E := Zd) (α := R_ii) _ L6 _), ⟨(Zf (E := eI) (α := Int) _ L7 _), ⟨(Zf (E := eI) (α := Int) _ L8 _), trivial⟩⟩⟩⟩⟩ (Zj _ rfl)
       ·
        exact Zm Zl (r := (.r0 ((0 : Int)) : Zk)) (fu := 4000) (orc := (Zi [(0, false), (1, false), (2, false), (3, true), (4, false), (5, false)] [] [] [] [(0, (ZY (a0) (a1) (a2) (a3)  y5_0  6))])) (live := [0, 1, 2, 3, 4]) (u := vq) (bl := [some (.cells [vs 1 0 L4.length L4.length, ms E_iiii L5, vs 2 0 L6.length L6.length, vs 3 0 L7.length L7.length, vs 4 0 L8.length L8.length, vi a9, vi a10, vi a11] 58), some (.cells (Zb Zd L4) 102), some (.cells (Zb Zd L6) 75), some (.cells (Zb eI L7) 3), some (.cells (Zb eI L8) 3)]) (ob := [((y5_0 != (0 : Int)), false), (dP (ZT #[Value.agg #[vi a0, vi a1, vi a2, vi a3]] (a0) (a1) (a2) (a3)  y5_0  6), true), (((L4.length : Int) == (0 : Int)), false), nT a0 18, nF a0 17, nF a0 16, nF a0 15]) (by kernel_rfl) (oE <| Za (Zg (ZZ #[Value.agg #[vi a0, vi a1, vi a2, vi a3]] (a0) (a1) (a2) (a3)  y5_0 N c5  6 rfl (by decide) (by decide))) <| oF <| oT <| oF <| oF <| oF Ze) rfl (by decide) (by rfl) rr ⟨⟨rfl, ⟨[], by rfl⟩, by rfl⟩, ⟨(Zf (E := Zd) (α := R_ii) _ L4 _), ⟨(Zf (E := Zd) (α := R_ii) _ L6 _), ⟨(Zf (E := eI) (α := Int) _ L7 _), ⟨(Zf (E := eI) (α := Int) _ L8 _), trivial⟩⟩⟩⟩⟩ (Zj _ rfl)
    ·
     refine Zn (fun g4 => ?_) (fun g4 => ?_)
     ·
      refine Zn (fun g5 => ?_) (fun g5 => ?_)
      ·
       exact Zm Zl (r := (.r0 ((120 : Int)) : Zk)) (fu := 4000) (orc := (Zi [(0, false), (1, false), (2, false), (3, false), (4, true), (5, true)] [] [] [] [])) (live := [0, 1, 2, 3, 4]) (u := vi (120 : Int)) (bl := [some (.cells [vs 1 0 L4.length L4.length, ms E_iiii L5, vs 2 0 L6.length L6.length, vs 3 0 L7.length L7.length, vs 4 0 L8.length L8.length, vi a9, vi a10, vi a11] 58), some (.cells (Zb Zd L4) 102), some (.cells (Zb Zd L6) 75), some (.cells (Zb eI L7) 3), some (.cells (Zb eI L8) 3)]) (ob := [((decide ((L4.length : Int) > (0 : Int))), true), nT a0 20, nF a0 18, nF a0 17, nF a0 16, nF a0 15]) (by kernel_rfl) (oY <| oT <| oF <| oF <| oF <| oF Ze) rfl (by decide) (by rfl) rr ⟨⟨rfl, ⟨[], by rfl⟩, by rfl⟩, ⟨(Zf (E := Zd) (α := R_ii) _ L4 _), ⟨(Zf (E := Zd) (α := R_ii) _ L6 _), ⟨(Zf (E := eI) (α := Int) _ L7 _), ⟨(Zf (E := eI) (α := Int) _ L8 _), trivial⟩⟩⟩⟩⟩ (Zj _ rfl)
      ·
       refine ZaO (fun z6 c6 => ?_)
       cases z6 with
       | r0 y6_0 =>
        refine Zn (fun g7 => ?_) (fun g7 => ?_)
        ·
         exact Zm Zl (r := (.r0 ((120 : Int)) : Zk)) (fu := 4000) (orc := (Zi [(0, false), (1, false), (2, false), (3, false), (4, true), (5, false), (6, true)] [] [] [] [(0, (ZY (a0) (a1) (a2) (a3)  y6_0  6))])) (live := [0, 1, 2, 3, 4]) (u := vi (120 : Int)) (bl := [some (.cells [vs 1 0 L4.length L4.length, ms E_iiii L5, vs 2 0 L6.length L6.length, vs 3 0 L7.length L7.length, vs 4 0 L8.length L8.length, vi a9, vi a10, vi a11] 58), some (.cells (Zb Zd L4) 102), some (.cells (Zb Zd L6) 75), some (.cells (Zb eI L7) 3), some (.cells (Zb eI L8) 3)]) (ob := [((y6_0 != (0 : Int)), true), (dP (ZT #[Value.agg #[vi a0, vi a1, vi a2, vi a3]] (a0) (a1) (a2) (a3)  y6_0  6), true), ((decide ((L4.length : Int) > (0 : Int))), false), nT a0 20, nF a0 18, nF a0 17, nF a0 16, nF a0 15]) (by kernel_rfl) (oD <| Za (Zg (ZZ #[Value.agg #[vi a0, vi a1, vi a2, vi a3]] (a0) (a1) (a2) (a3)  y6_0 N c6  6 rfl (by decide) (by decide))) <| oN <| oT <| oF <| oF <| oF <| oF Ze) rfl (by decide) (by rfl) rr ⟨⟨rfl, ⟨[], by rfl⟩, by rfl⟩, ⟨(Zf (E := Zd) (α := R_ii) _ L4 _), ⟨(Zf (E := Zd) (α := R_ii) _ L6 _), ⟨(Zf (E := eI) (α := Int) _ L7 _), ⟨(Zf (E := eI) (α := Int) _ L8 _), trivial⟩⟩⟩⟩⟩ (Zj _ rfl)
        ·
         exact Zm Zl (r := (.r0 ((0 : Int)) : Zk)) (fu := 4000) (orc := (Zi [(0, false), (1, false), (2, false), (3, false), (4, true), (5, false), (6, false)] [] [] [] [(0, (ZY (a0) (a1) (a2) (a3)  y6_0  6))])) (live := [0, 1, 2, 3, 4]) (u := vq) (bl := [some (.cells [vs 1 0 L4.length L4.length, ms E_iiii L5, vs 2 0 L6.length L6.length, vs 3 0 L7.length L7.length, vs 4 0 L8.length L8.length, vi a9, vi a10, vi a11] 58), some (.cells (Zb Zd L4) 102), some (.cells (Zb Zd L6) 75), some (.cells (Zb eI L7) 3), some (.cells (Zb eI L8) 3)]) (ob := [((y6_0 != (0 : Int)), false), (dP (ZT #[Value.agg #[vi a0, vi a1, vi a2, vi a3]] (a0) (a1) (a2) (a3)  y6_0  6), true), ((decide ((L4.length : Int) > (0 : Int))), false), nT a0 20, nF a0 18, nF a0 17, nF a0 16, nF a0 15]) (by kernel_rfl) (oE <| Za (Zg (ZZ #[Value.agg #[vi a0, vi a1, vi a2, vi a3]] (a0) (a1) (a2) (a3)  y6_0 N c6  6 rfl (by decide) (by decide))) <| oN <| oT <| oF <| oF <| oF <| oF Ze) rfl (by decide) (by rfl) rr ⟨⟨rfl, ⟨[], by rfl⟩, by rfl⟩, ⟨(Zf (E := Zd) (α := R_ii) _ L4 _), ⟨(Zf (E := Zd) (α := R_ii) _ L6 _), ⟨(Zf (E := eI) (α := Int) _ L7 _), ⟨(Zf (E := eI) (α := Int) _ L8 _), trivial⟩⟩⟩⟩⟩ (Zj _ rfl)
     ·
      refine ZaO (fun z5 c5 => ?_)
      cases z5 with
      | r0 y5_0 =>
       refine Zn (fun g6 => ?_) (fun g6 => ?_)
       ·
        exact Zm Zl (r := (.r0 ((120 : Int)) : Zk)) (fu := 4000) (orc := (Zi [(0, false), (1, false), (2, false), (3, false), (4, false), (5, true)] [] [] [] [(0, (ZY (a0) (a1) (a2) (a3)  y5_0  6))])) (live := [0, 1, 2, 3, 4]) (u := vi (120 : Int)) (bl := [some (.cells [vs 1 0 L4.length L4.length, ms E_iiii L5, vs 2 0 L6.length L6.length, vs 3 0 L7.length L7.length, vs 4 0 L8.length L8.length, vi a9, vi a10, vi a11] 58), some (.cells (Zb Zd L4) 102), some (.cells (Zb Zd L6) 75), some (.cells (Zb eI L7) 3), some (.cells (Zb eI L8) 3)]) (ob := [((y5_0 != (0 : Int)), true), (dP (ZT #[Value.agg #[vi a0, vi a1, vi a2, vi a3]] (a0) (a1) (a2) (a3)  y5_0  6), true), nF a0 20, nF a0 18, nF a0 17, nF a0 16, nF a0 15]) (by kernel_rfl) (oD <| Za (Zg (ZZ #[Value.agg #[vi a0, vi a1, vi a2, vi a3]] (a0) (a1) (a2) (a3)  y5_0 N c5  6 rfl (by decide) (by decide))) <| oF <| oF <| oF <| oF <| oF Ze) rfl (by decide) (by rfl) rr ⟨⟨rfl, ⟨[], by rfl⟩, by rfl⟩, ⟨(Zf (E := Zd) (α := R_ii) _ L4 _), ⟨(Zf (E := Zd) (α := R_ii) _ L6 _), ⟨(Zf (E := eI) (α := Int) _ L7 _), ⟨(Zf (E := eI) (α := Int) _ L8 _), trivial⟩⟩⟩⟩⟩ (Zj _ rfl)
       ·
        exact Zm Zl (r := (.r0 ((0 : Int)) : Zk)) (fu := 4000) (orc := (Zi [(0, false), (1, false), (2, false), (3, false), (4, false), (5, false)] [] [] [] [(0, (ZY (a0) (a1) (a2) (a3)  y5_0  6))])) (live := [0, 1, 2, 3, 4]) (u := vq) (bl := [some (.cells [vs 1 0 L4.length L4.length, ms E_iiii L5, vs 2 0 L6.length L6.length, vs 3 0 L7.length L7.length, vs 4 0 L8.length L8.length, vi a9, vi a10, vi a11] 58), some (.cells (Zb Zd L4) 102), some (.cells (Zb Zd L6) 75), some (.cells (Zb eI L7) 3), some (.cells (Zb eI L8) 3)]) (ob := [((y5_0 != (0 : Int)), false), (dP (ZT #[Value.agg #[vi a0, vi a1, vi a2, vi a3]] (a0) (a1) (a2) (a3)  y5_0  6), true), nF a0 20, nF a0 18, nF a0 17, nF a0 16, nF a0 15]) (by kernel_rfl) (oE <| Za (Zg (ZZ #[Value.agg #[vi a0, vi a1, vi a2, vi a3]] (a0) (a1) (a2) (a3)  y5_0 N c5  6 rfl (by decide) (by decide))) <| oF <| oF <| oF <| oF <| oF Ze) rfl (by decide) (by rfl) rr ⟨⟨rfl, ⟨[], by rfl⟩, by rfl⟩, ⟨(Zf (E := Zd) (α := R_ii) _ L4 _), ⟨(Zf (E := Zd) (α := R_ii) _ L6 _), ⟨(Zf (E := eI) (α := Int) _ L7 _), ⟨(Zf (E := eI) (α := Int) _ L8 _), trivial⟩⟩⟩⟩⟩ (Zj _ rfl)

theorem ZhY (a0 a1 a2 a3 : Int) (L4 : List R_ii) (L5 : List RA) (L6 : List R_ii) (L7 L8 : List Int) (a9 a10 a11 : Int) (N : Nat) (r : Zk) (h : ZaT a0 a1 a2 a3 L4 L5 L6 L7 L8 a9 a10 a11 N = some r) : LSpec Tryz.prog 34 #[vp 0 0, Value.agg #[vi a0, vi a1, vi a2, vi a3]] [.cells [vs 1 0 L4.length L4.length, ms E_iiii L5, vs 2 0 L6.length L6.length, vs 3 0 L7.length L7.length, vs 4 0 L8.length L8.length, vi a9, vi a10, vi a11] 58, .cells (Zb Zd L4) 102, .cells (Zb Zd L6) 75, .cells (Zb eI L7) 3, .cells (Zb eI L8) 3] (ZfG a0 a1 a2 a3 L4 L5 L6 L7 L8 a9 a10 a11 r) (Zfp a0 a1 a2 a3 L4 L5 L6 L7 L8 a9 a10 a11 r) :=
 (ZiI a0 a1 a2 a3 L4 L5 L6 L7 L8 a9 a10 a11 N) r h

noncomputable def Zcy (a0 a1 a2 a3 : Int) (L4 : List R_ii) (L5 : List RA) (L6 : List R_ii) (L7 L8 : List Int) (a9 a10 a11 w4 : Int) (k0 k1 k2 k3 k4 n : Nat) : Zaj := .call [(k0, .cells [vs k1 0 L4.length L4.length, ms E_iiii L5, vs k2 0 L6.length L6.length, vs k3 0 L7.length L7.length, vs k4 0 L8.length L8.length, vi a9, vi a10, vi a11] 58), (k1, .cells (Zb Zd L4) 102), (k2, .cells (Zb Zd L6) 75), (k3, .cells (Zb eI L7) 3), (k4, .cells (Zb eI L8) 3)] (vi w4) [] 0
def ZbZ (A : Array Value) (a0 a1 a2 a3 : Int) (L4 : List R_ii) (L5 : List RA) (L6 : List R_ii) (L7 L8 : List Int) (a9 a10 a11 w4 : Int) (k0 k1 k2 k3 k4 n : Nat) : Prop := Zz Tryz.prog 34 A [(k0, .cells [vs k1 0 L4.length L4.length, ms E_iiii L5, vs k2 0 L6.length L6.length, vs k3 0 L7.length L7.length, vs k4 0 L8.length L8.length, vi a9, vi a10, vi a11] 58), (k1, .cells (Zb Zd L4) 102), (k2, .cells (Zb Zd L6) 75), (k3, .cells (Zb eI L7) 3), (k4, .cells (Zb eI L8) 3)] (vi w4) [] n 0

theorem Zcz (A : Array Value) (a0 a1 a2 a3 : Int) (L4 : List R_ii) (L5 : List RA) (L6 : List R_ii) (L7 L8 : List Int) (a9 a10 a11 w4 : Int) (N : Nat) (h : ZaT a0 a1 a2 a3 L4 L5 L6 L7 L8 a9 a10 a11 N = some (.r0 w4)) (k0 k1 k2 k3 k4 n : Nat) (hA : A = #[vp k0 0, Value.agg #[vi a0, vi a1, vi a2, vi a3]]) (hnd : ([k0, k1, k2, k3, k4] : List Nat).Nodup) (hlt : ∀ k ∈ ([k0, k1, k2, k3, k4] : List Nat), k < n) : ZbZ A a0 a1 a2 a3 L4 L5 L6 L7 L8 a9 a10 a11 w4 k0 k1 k2 k3 k4 n :=
 ZC hA (LSpec.callL (show LSpec Tryz.prog 34 #[vp 0 0, Value.agg #[vi a0, vi a1, vi a2, vi a3]] [.cells [vs 1 0 L4.length L4.length, ms E_iiii L5, vs 2 0 L6.length L6.length, vs 3 0 L7.length L7.length, vs 4 0 L8.length L8.length, vi a9, vi a10, vi a11] 58, .cells (Zb Zd L4) 102, .cells (Zb Zd L6) 75, .cells (Zb eI L7) 3, .cells (Zb eI L8) 3] (vi w4) [some (.cells [vs 1 0 L4.length L4.length, ms E_iiii L5, vs 2 0 L6.length L6.length, vs 3 0 L7.length L7.length, vs 4 0 L8.length L8.length, vi a9, vi a10, vi a11] 58), some (.cells (Zb Zd L4) 102), some (.cells (Zb Zd L6) 75), some (.cells (Zb eI L7) 3), some (.cells (Zb eI L8) 3)] from ZhY a0 a1 a2 a3 L4 L5 L6 L7 L8 a9 a10 a11 N _ h) [k0, k1, k2, k3, k4] n [] rfl hnd hlt (show 5 ≤ 5 from by decide) (show ∀ j ∈ ([] : List Nat), j < 5 from by decide) (by rfl) ⟨rfl, ⟨(Zo _ _ _), ⟨(Zo _ _ _), ⟨(Zo _ _ _), ⟨(Zo _ _ _), trivial⟩⟩⟩⟩⟩ (by rfl) ⟨rfl, ⟨(Zo _ _ _), ⟨(Zo _ _ _), ⟨(Zo _ _ _), ⟨(Zo _ _ _), trivial⟩⟩⟩⟩⟩ ⟨.inr rfl, ⟨.inr rfl, ⟨.inr rfl, ⟨.inr rfl, ⟨.inr rfl, trivial⟩⟩⟩⟩⟩ rfl rfl rfl (Zc (Zp rfl rfl) (Zc (Zp rfl (Z0 _ _ _)) (Zc (Zp rfl (Z0 _ _ _)) (Zc (Zp rfl (Z0 _ _ _)) (Zc (Zp rfl (Z0 _ _ _)) rfl))))) rfl)

noncomputable def Zfq (L0 : List R_ii) (L1 : List RA) (L2 : List R_ii) (L3 L4 : List Int) (a5 a6 a7 : Int) : Zak → Value
 | .r0 w4 w5 => Value.agg #[vi w4, vi w5]
noncomputable def ZeP (L0 : List R_ii) (L1 : List RA) (L2 : List R_ii) (L3 L4 : List Int) (a5 a6 a7 : Int) : Zak → List (Option AObj)
 | .r0 w4 w5 => [some (.cells [vs 1 0 L0.length L0.length, ms E_iiii L1, vs 2 0 L2.length L2.length, vs 3 0 L3.length L3.length, vs 4 0 L4.length L4.length, vi a5, vi a6, vi a7] 58), some (.cells (Zb Zd L0) 102), some (.cells (Zb Zd L2) 75), some (.cells (Zb eI L3) 3), some (.cells (Zb eI L4) 3)]

theorem Zip (L0 : List R_ii) (L1 : List RA) (L2 : List R_ii) (L3 L4 : List Int) (a5 a6 a7 : Int) (N : Nat) : Gx Tryz.prog 51 [.cells [vs 1 0 L0.length L0.length, ms E_iiii L1, vs 2 0 L2.length L2.length, vs 3 0 L3.length L3.length, vs 4 0 L4.length L4.length, vi a5, vi a6, vi a7] 58, .cells (Zb Zd L0) 102, .cells (Zb Zd L2) 75, .cells (Zb eI L3) 3, .cells (Zb eI L4) 3] #[vp 0 0] (Zfq L0 L1 L2 L3 L4 a5 a6 a7) (ZeP L0 L1 L2 L3 L4 a5 a6 a7) (Za1 L0 L1 L2 L3 L4 a5 a6 a7 N) := by
 unfold Za1
 refine Zn (fun g0 => ?_) (fun g0 => ?_)
 ·
  exact Zm Zl (r := (.r0 ((-1 : Int)) ((0 : Int)) : Zak)) (fu := 4000) (orc := (Zi [(0, true)] [] [] [] [])) (live := [0, 1, 2, 3, 4]) (u := Value.agg #[vi (-1 : Int), vq]) (bl := [some (.cells [vs 1 0 L0.length L0.length, ms E_iiii L1, vs 2 0 L2.length L2.length, vs 3 0 L3.length L3.length, vs 4 0 L4.length L4.length, vi a5, vi a6, vi a7] 58), some (.cells (Zb Zd L0) 102), some (.cells (Zb Zd L2) 75), some (.cells (Zb eI L3) 3), some (.cells (Zb eI L4) 3)]) (ob := [(((L0.length : Int) == (0 : Int)), true)]) (by kernel_rfl) (oT Ze) rfl (by decide) (by rfl) rr ⟨⟨rfl, ⟨[], by rfl⟩, by rfl⟩, ⟨(Zf (E := Zd) (α := R_ii) _ L0 _), ⟨(Zf (E := Zd) (α := R_ii) _ L2 _), ⟨(Zf (E := eI) (α := Int) _ L3 _), ⟨(Zf (E := eI) (α := Int) _ L4 _), trivial⟩⟩⟩⟩⟩ (Zj _ rfl)
 ·
  refine Zn (fun g1 => ?_) (fun g1 => ?_)
  ·
   refine Zn (fun g2 => ?_) (fun g2 => ?_)
   ·
    exact Zm Zl (r := (.r0 ((L0.getD (L0.length - 1) R_ii.z).a0) ((1 : Int)) : Zak)) (fu := 4000) (orc := (Zi [(0, false), (1, true)] [(0, (((L0.length - 1) : Nat) : Int))] [(0, (L0.length - 1))] [(3, [.i (L0.getD (L0.length - 1) R_ii.z).a1]), (4, [.i (L0.getD (L0.length - 1) R_ii.z).a0])] [])) (live := [0, 1, 2, 3, 4]) (u := Value.agg #[vi (L0.getD (L0.length - 1) R_ii.z).a0, vi (1 : Int)]) (bl := [some (.cells [vs 1 0 L0.length L0.length, ms E_iiii L1, vs 2 0 L2.length L2.length, vs 3 0 L3.length L3.length, vs 4 0 L4.length L4.length, vi a5, vi a6, vi a7] 58), some (.cells (Zb Zd L0) 102), some (.cells (Zb Zd L2) 75), some (.cells (Zb eI L3) 3), some (.cells (Zb eI L4) 3)]) (ob := [(Zas (Z7 1 (List.drop ((0 + ((L0.length - 1) * 2)) + 0) (Zb Zd L0))) [.i (L0.getD (L0.length - 1) R_ii.z).a0], true), ((decide ((L0.getD (L0.length - 1) R_ii.z).a1 ≥ (0 : Int))), true), (Zas (Z7 1 (List.drop ((0 + ((L0.length - 1) * 2)) + 1) (Zb Zd L0))) [.i (L0.getD (L0.length - 1) R_ii.z).a1], true), (Nat.blt (L0.length - 1) L0.length, true), ((((L0.length - 1) : Nat) : Int) == Int.ofNat (L0.length - 1), true), ((IntKind.i64.wrap ((L0.length : Int) - (1 : Int))) == (((L0.length - 1) : Nat) : Int), true), (((L0.length : Int) == (0 : Int)), false)]) (by kernel_rfl) (Za (ZS (E := Zd) (L := L0) (i := (L0.length - 1)) (q := 0) (by omega) (show ((0 + ((L0.length - 1) * 2)) + 0) = (L0.length - 1) * 2 + 0 from by omega) (show 0 + 1 ≤ 2 from by decide) rfl rfl) <| oY <| Za (ZS (E := Zd) (L := L0) (i := (L0.length - 1)) (q := 1) (by omega) (show ((0 + ((L0.length - 1) * 2)) + 1) = (L0.length - 1) * 2 + 1 from by omega) (show 1 + 1 ≤ 2 from by decide) rfl rfl) <| oB <| oI <| Za (beq_iff_eq.2 ((wrap_i64 ltA).trans (by first | rfl | omega))) <| oF Ze) rfl (by decide) (by rfl) rr ⟨⟨rfl, ⟨[], by rfl⟩, by rfl⟩, ⟨(Zf (E := Zd) (α := R_ii) _ L0 _), ⟨(Zf (E := Zd) (α := R_ii) _ L2 _), ⟨(Zf (E := eI) (α := Int) _ L3 _), ⟨(Zf (E := eI) (α := Int) _ L4 _), trivial⟩⟩⟩⟩⟩ (Zj _ rfl)
   ·
    exact Zm Zl (r := (.r0 ((L0.getD (L0.length - 1) R_ii.z).a0) ((0 : Int)) : Zak)) (fu := 4000) (orc := (Zi [(0, false), (1, false)] [(0, (((L0.length - 1) : Nat) : Int))] [(0, (L0.length - 1))] [(3, [.i (L0.getD (L0.length - 1) R_ii.z).a1]), (4, [.i (L0.getD (L0.length - 1) R_ii.z).a0])] [])) (live := [0, 1, 2, 3, 4]) (u := Value.agg #[vi (L0.getD (L0.length - 1) R_ii.z).a0, vq]) (bl := [some (.cells [vs 1 0 L0.length L0.length, ms E_iiii L1, vs 2 0 L2.length L2.length, vs 3 0 L3.length L3.length, vs 4 0 L4.length L4.length, vi a5, vi a6, vi a7] 58), some (.cells (Zb Zd L0) 102), some (.cells (Zb Zd L2) 75), some (.cells (Zb eI L3) 3), some (.cells (Zb eI L4) 3)]) (ob := [(Zas (Z7 1 (List.drop ((0 + ((L0.length - 1) * 2)) + 0) (Zb Zd L0))) [.i (L0.getD (L0.length - 1) R_ii.z).a0], true), ((decide ((L0.getD (L0.length - 1) R_ii.z).a1 ≥ (0 : Int))), false), (Zas (Z7 1 (List.drop ((0 + ((L0.length - 1) * 2)) + 1) (Zb Zd L0))) [.i (L0.getD (L0.length - 1) R_ii.z).a1], true), (Nat.blt (L0.length - 1) L0.length, true), ((((L0.length - 1) : Nat) : Int) == Int.ofNat (L0.length - 1), true), ((IntKind.i64.wrap ((L0.length : Int) - (1 : Int))) == (((L0.length - 1) : Nat) : Int), true), (((L0.length : Int) == (0 : Int)), false)]) (by kernel_rfl) (Za (ZS (E := Zd) (L := L0) (i := (L0.length - 1)) (q := 0) (by omega) (show ((0 + ((L0.length - 1) * 2)) + 0) = (L0.length - 1) * 2 + 0 from by omega) (show 0 + 1 ≤ 2 from by decide) rfl rfl) <| oN <| Za (ZS (E := Zd) (L := L0) (i := (L0.length - 1)) (q := 1) (by omega) (show ((0 + ((L0.length - 1) * 2)) + 1) = (L0.length - 1) * 2 + 1 from by omega) (show 1 + 1 ≤ 2 from by decide) rfl rfl) <| oB <| oI <| Za (beq_iff_eq.2 ((wrap_i64 ltA).trans (by first | rfl | omega))) <| oF Ze) rfl (by decide) (by rfl) rr ⟨⟨rfl, ⟨[], by rfl⟩, by rfl⟩, ⟨(Zf (E := Zd) (α := R_ii) _ L0 _), ⟨(Zf (E := Zd) (α := R_ii) _ L2 _), ⟨(Zf (E := eI) (α := Int) _ L3 _), ⟨(Zf (E := eI) (α := Int) _ L4 _), trivial⟩⟩⟩⟩⟩ (Zj _ rfl)
  ·
   exact Zay

theorem Zh2 (L0 : List R_ii) (L1 : List RA) (L2 : List R_ii) (L3 L4 : List Int) (a5 a6 a7 : Int) (N : Nat) (r : Zak) (h : Za1 L0 L1 L2 L3 L4 a5 a6 a7 N = some r) : LSpec Tryz.prog 51 #[vp 0 0] [.cells [vs 1 0 L0.length L0.length, ms E_iiii L1, vs 2 0 L2.length L2.length, vs 3 0 L3.length L3.length, vs 4 0 L4.length L4.length, vi a5, vi a6, vi a7] 58, .cells (Zb Zd L0) 102, .cells (Zb Zd L2) 75, .cells (Zb eI L3) 3, .cells (Zb eI L4) 3] (Zfq L0 L1 L2 L3 L4 a5 a6 a7 r) (ZeP L0 L1 L2 L3 L4 a5 a6 a7 r) :=
 (Zip L0 L1 L2 L3 L4 a5 a6 a7 N) r h

noncomputable def Zbu (L0 : List R_ii) (L1 : List RA) (L2 : List R_ii) (L3 L4 : List Int) (a5 a6 a7 w4 w5 : Int) (k0 k1 k2 k3 k4 n : Nat) : Zaj := .call [(k0, .cells [vs k1 0 L0.length L0.length, ms E_iiii L1, vs k2 0 L2.length L2.length, vs k3 0 L3.length L3.length, vs k4 0 L4.length L4.length, vi a5, vi a6, vi a7] 58), (k1, .cells (Zb Zd L0) 102), (k2, .cells (Zb Zd L2) 75), (k3, .cells (Zb eI L3) 3), (k4, .cells (Zb eI L4) 3)] (Value.agg #[vi w4, vi w5]) [] 0
def Zbd (A : Array Value) (L0 : List R_ii) (L1 : List RA) (L2 : List R_ii) (L3 L4 : List Int) (a5 a6 a7 w4 w5 : Int) (k0 k1 k2 k3 k4 n : Nat) : Prop := Zz Tryz.prog 51 A [(k0, .cells [vs k1 0 L0.length L0.length, ms E_iiii L1, vs k2 0 L2.length L2.length, vs k3 0 L3.length L3.length, vs k4 0 L4.length L4.length, vi a5, vi a6, vi a7] 58), (k1, .cells (Zb Zd L0) 102), (k2, .cells (Zb Zd L2) 75), (k3, .cells (Zb eI L3) 3), (k4, .cells (Zb eI L4) 3)] (Value.agg #[vi w4, vi w5]) [] n 0

theorem Zbv (A : Array Value) (L0 : List R_ii) (L1 : List RA) (L2 : List R_ii) (L3 L4 : List Int) (a5 a6 a7 w4 w5 : Int) (N : Nat) (h : Za1 L0 L1 L2 L3 L4 a5 a6 a7 N = some (.r0 w4 w5)) (k0 k1 k2 k3 k4 n : Nat) (hA : A = #[vp k0 0]) (hnd : ([k0, k1, k2, k3, k4] : List Nat).Nodup) (hlt : ∀ k ∈ ([k0, k1, k2, k3, k4] : List Nat), k < n) : Zbd A L0 L1 L2 L3 L4 a5 a6 a7 w4 w5 k0 k1 k2 k3 k4 n :=
 ZC hA (LSpec.callL (show LSpec Tryz.prog 51 #[vp 0 0] [.cells [vs 1 0 L0.length L0.length, ms E_iiii L1, vs 2 0 L2.length L2.length, vs 3 0 L3.length L3.length, vs 4 0 L4.length L4.length, vi a5, vi a6, vi a7] 58, .cells (Zb Zd L0) 102, .cells (Zb Zd L2) 75, .cells (Zb eI L3) 3, .cells (Zb eI L4) 3] (Value.agg #[vi w4, vi w5]) [some (.cells [vs 1 0 L0.length L0.length, ms E_iiii L1, vs 2 0 L2.length L2.length, vs 3 0 L3.length L3.length, vs 4 0 L4.length L4.length, vi a5, vi a6, vi a7] 58), some (.cells (Zb Zd L0) 102), some (.cells (Zb Zd L2) 75), some (.cells (Zb eI L3) 3), some (.cells (Zb eI L4) 3)] from Zh2 L0 L1 L2 L3 L4 a5 a6 a7 N _ h) [k0, k1, k2, k3, k4] n [] rfl hnd hlt (show 5 ≤ 5 from by decide) (show ∀ j ∈ ([] : List Nat), j < 5 from by decide) (by rfl) ⟨rfl, ⟨(Zo _ _ _), ⟨(Zo _ _ _), ⟨(Zo _ _ _), ⟨(Zo _ _ _), trivial⟩⟩⟩⟩⟩ (by rfl) ⟨rfl, ⟨(Zo _ _ _), ⟨(Zo _ _ _), ⟨(Zo _ _ _), ⟨(Zo _ _ _), trivial⟩⟩⟩⟩⟩ ⟨.inr rfl, ⟨.inr rfl, ⟨.inr rfl, ⟨.inr rfl, ⟨.inr rfl, trivial⟩⟩⟩⟩⟩ rfl rfl rfl (Zc (Zp rfl rfl) (Zc (Zp rfl (Z0 _ _ _)) (Zc (Zp rfl (Z0 _ _ _)) (Zc (Zp rfl (Z0 _ _ _)) (Zc (Zp rfl (Z0 _ _ _)) rfl))))) rfl)

noncomputable def ZhZ (L0 : List R_ii) (L1 : List RA) (L2 : List R_ii) (L3 L4 : List Int) (a5 a6 a7 : Int) : Zb5 → Value
 | .r0 => vtt
noncomputable def Zhp (L0 : List R_ii) (L1 : List RA) (L2 : List R_ii) (L3 L4 : List Int) (a5 a6 a7 : Int) : Zb5 → List (Option AObj)
 | .r0 => [some (.cells [vs 5 0 (L0.take (((L0.length : Int) - (1 : Int))).toNat).length (L0.take (((L0.length : Int) - (1 : Int))).toNat).length, ms E_iiii L1, vs 2 0 L2.length L2.length, vs 3 0 L3.length L3.length, vs 4 0 L4.length L4.length, vi a5, vi a6, vi a7] 58), none, some (.cells (Zb Zd L2) 75), some (.cells (Zb eI L3) 3), some (.cells (Zb eI L4) 3), some (.cells (Zb Zd (L0.take (((L0.length : Int) - (1 : Int))).toNat)) 102)]

theorem Zl9 (L0 : List R_ii) (L1 : List RA) (L2 : List R_ii) (L3 L4 : List Int) (a5 a6 a7 : Int) (N : Nat) : Gx Tryz.prog 53 [.cells [vs 1 0 L0.length L0.length, ms E_iiii L1, vs 2 0 L2.length L2.length, vs 3 0 L3.length L3.length, vs 4 0 L4.length L4.length, vi a5, vi a6, vi a7] 58, .cells (Zb Zd L0) 102, .cells (Zb Zd L2) 75, .cells (Zb eI L3) 3, .cells (Zb eI L4) 3] #[vp 0 0] (ZhZ L0 L1 L2 L3 L4 a5 a6 a7) (Zhp L0 L1 L2 L3 L4 a5 a6 a7) (Zba L0 L1 L2 L3 L4 a5 a6 a7 N) := by
 unfold Zba
 refine Zn (fun g0 => ?_) (fun g0 => ?_)
 ·
  refine Zn (fun g1 => ?_) (fun g1 => ?_)
  ·
   exact Zm Zl (r := (.r0 : Zb5)) (fu := 4000) (orc := (Zi [] [(0, ((L0.length : Int) - (1 : Int)))] [] [] [(0, .cut (((L0.length : Int) - (1 : Int))).toNat (Zb Zd (L0.take (((L0.length : Int) - (1 : Int))).toNat)))])) (live := [0, 1, 2, 3, 4, 5]) (u := vtt) (bl := [some (.cells [vs 5 0 (((L0.length : Int) - (1 : Int))).toNat (((L0.length : Int) - (1 : Int))).toNat, ms E_iiii L1, vs 2 0 L2.length L2.length, vs 3 0 L3.length L3.length, vs 4 0 L4.length L4.length, vi a5, vi a6, vi a7] 58), none, some (.cells (Zb Zd L2) 75), some (.cells (Zb eI L3) 3), some (.cells (Zb eI L4) 3), some (.cells (Zb Zd (L0.take (((L0.length : Int) - (1 : Int))).toNat)) 102)]) (ob := [(dP ((((L0.length : Int) - (1 : Int))).toNat ≤ L0.length ∧ 0 < 2 ∧ L0.length * 2 ≤ ((Zb Zd L0) : List Value).length ∧ List.take ((((L0.length : Int) - (1 : Int))).toNat * 2) (Zb Zd L0) = (Zb Zd (L0.take (((L0.length : Int) - (1 : Int))).toNat))), true), (((L0.length : Int) - (1 : Int)) == Int.ofNat (((L0.length : Int) - (1 : Int))).toNat, true), (dS 0, true), ((IntKind.i64.wrap ((L0.length : Int) - (1 : Int))) == ((L0.length : Int) - (1 : Int)), true)]) (by kernel_rfl) (Za (Zg ⟨ltA, by decide, Zpa (E := Zd) (L := L0) (by omega) (show _ = _ * 2 from rfl), ZqS (E := Zd) (L := L0) (R := (L0.take (((L0.length : Int) - (1 : Int))).toNat)) (show _ = _ * 2 from rfl) rfl⟩) <| oI <| oR <| Za (beq_iff_eq.2 ((wrap_i64 ltA).trans (by first | rfl | omega))) Ze) rfl (by decide) (by rfl) rr ⟨⟨rfl, ⟨[], (show ([vs 5 0 (((L0.length : Int) - (1 : Int))).toNat (((L0.length : Int) - (1 : Int))).toNat, ms E_iiii L1, vs 2 0 L2.length L2.length, vs 3 0 L3.length L3.length, vs 4 0 L4.length L4.length, vi a5, vi a6, vi a7] : List Value) = _ from (Zc (Zaf rfl eqA eqA) (Zc rfl (Zc rfl (Zc rfl (Zc rfl (Zc rfl (Zc rfl (Zc rfl rfl)))))))).symm)⟩, by rfl⟩, ⟨(Zf (E := Zd) (α := R_ii) _ L2 _), ⟨(Zf (E := eI) (α := Int) _ L3 _), ⟨(Zf (E := eI) (α := Int) _ L4 _), ⟨(Zf (E := Zd) (α := R_ii) _ (L0.take (((L0.length : Int) - (1 : Int))).toNat) _), trivial⟩⟩⟩⟩⟩ (Zj _ rfl)
  ·
   exact Zay
 ·
  exact Zay

theorem ZjM (L0 : List R_ii) (L1 : List RA) (L2 : List R_ii) (L3 L4 : List Int) (a5 a6 a7 : Int) (N : Nat) (r : Zb5) (h : Zba L0 L1 L2 L3 L4 a5 a6 a7 N = some r) : LSpec Tryz.prog 53 #[vp 0 0] [.cells [vs 1 0 L0.length L0.length, ms E_iiii L1, vs 2 0 L2.length L2.length, vs 3 0 L3.length L3.length, vs 4 0 L4.length L4.length, vi a5, vi a6, vi a7] 58, .cells (Zb Zd L0) 102, .cells (Zb Zd L2) 75, .cells (Zb eI L3) 3, .cells (Zb eI L4) 3] (ZhZ L0 L1 L2 L3 L4 a5 a6 a7 r) (Zhp L0 L1 L2 L3 L4 a5 a6 a7 r) :=
 (Zl9 L0 L1 L2 L3 L4 a5 a6 a7 N) r h

noncomputable def Zhq (L0 : List R_ii) (L1 : List RA) (L2 : List R_ii) (L3 L4 : List Int) (a5 a6 a7 : Int) (k0 k1 k2 k3 k4 n : Nat) : Zaj := .call [(k0, .cells [vs k1 0 L0.length L0.length, ms E_iiii L1, vs k2 0 L2.length L2.length, vs k3 0 L3.length L3.length, vs k4 0 L4.length L4.length, vi a5, vi a6, vi a7] 58), (k1, .cells (Zb Zd L0) 102), (k2, .cells (Zb Zd L2) 75), (k3, .cells (Zb eI L3) 3), (k4, .cells (Zb eI L4) 3)] (vtt) [(k0, some (.cells [vs n 0 (L0.take (((L0.length : Int) - (1 : Int))).toNat).length (L0.take (((L0.length : Int) - (1 : Int))).toNat).length, ms E_iiii L1, vs k2 0 L2.length L2.length, vs k3 0 L3.length L3.length, vs k4 0 L4.length L4.length, vi a5, vi a6, vi a7] 58)), (k1, none), (n, some (.cells (Zb Zd (L0.take (((L0.length : Int) - (1 : Int))).toNat)) 102))] 1
def ZeG (A : Array Value) (L0 : List R_ii) (L1 : List RA) (L2 : List R_ii) (L3 L4 : List Int) (a5 a6 a7 : Int) (k0 k1 k2 k3 k4 n : Nat) : Prop := Zz Tryz.prog 53 A [(k0, .cells [vs k1 0 L0.length L0.length, ms E_iiii L1, vs k2 0 L2.length L2.length, vs k3 0 L3.length L3.length, vs k4 0 L4.length L4.length, vi a5, vi a6, vi a7] 58), (k1, .cells (Zb Zd L0) 102), (k2, .cells (Zb Zd L2) 75), (k3, .cells (Zb eI L3) 3), (k4, .cells (Zb eI L4) 3)] (vtt) [(k0, some (.cells [vs n 0 (L0.take (((L0.length : Int) - (1 : Int))).toNat).length (L0.take (((L0.length : Int) - (1 : Int))).toNat).length, ms E_iiii L1, vs k2 0 L2.length L2.length, vs k3 0 L3.length L3.length, vs k4 0 L4.length L4.length, vi a5, vi a6, vi a7] 58)), (k1, none), (n, some (.cells (Zb Zd (L0.take (((L0.length : Int) - (1 : Int))).toNat)) 102))] n 1

theorem Zhr (A : Array Value) (L0 : List R_ii) (L1 : List RA) (L2 : List R_ii) (L3 L4 : List Int) (a5 a6 a7 : Int) (N : Nat) (h : Zba L0 L1 L2 L3 L4 a5 a6 a7 N = some (.r0)) (k0 k1 k2 k3 k4 n : Nat) (hA : A = #[vp k0 0]) (hnd : ([k0, k1, k2, k3, k4] : List Nat).Nodup) (hlt : ∀ k ∈ ([k0, k1, k2, k3, k4] : List Nat), k < n) : ZeG A L0 L1 L2 L3 L4 a5 a6 a7 k0 k1 k2 k3 k4 n :=
 ZC hA (LSpec.callL (show LSpec Tryz.prog 53 #[vp 0 0] [.cells [vs 1 0 L0.length L0.length, ms E_iiii L1, vs 2 0 L2.length L2.length, vs 3 0 L3.length L3.length, vs 4 0 L4.length L4.length, vi a5, vi a6, vi a7] 58, .cells (Zb Zd L0) 102, .cells (Zb Zd L2) 75, .cells (Zb eI L3) 3, .cells (Zb eI L4) 3] (vtt) [some (.cells [vs 5 0 (L0.take (((L0.length : Int) - (1 : Int))).toNat).length (L0.take (((L0.length : Int) - (1 : Int))).toNat).length, ms E_iiii L1, vs 2 0 L2.length L2.length, vs 3 0 L3.length L3.length, vs 4 0 L4.length L4.length, vi a5, vi a6, vi a7] 58), none, some (.cells (Zb Zd L2) 75), some (.cells (Zb eI L3) 3), some (.cells (Zb eI L4) 3), some (.cells (Zb Zd (L0.take (((L0.length : Int) - (1 : Int))).toNat)) 102)] from ZjM L0 L1 L2 L3 L4 a5 a6 a7 N _ h) [k0, k1, k2, k3, k4] n [0, 1, 5] rfl hnd hlt (show 5 ≤ 6 from by decide) (show ∀ j ∈ ([0, 1, 5] : List Nat), j < 6 from by decide) (by rfl) ⟨rfl, ⟨(Zo _ _ _), ⟨(Zo _ _ _), ⟨(Zo _ _ _), ⟨(Zo _ _ _), trivial⟩⟩⟩⟩⟩ (by rfl) ⟨rfl, ⟨(Zo _ _ _), ⟨(Zo _ _ _), ⟨(Zo _ _ _), ⟨(Zo _ _ _), trivial⟩⟩⟩⟩⟩ ⟨.inl (by decide), ⟨.inl (by decide), ⟨.inr rfl, ⟨.inr rfl, ⟨.inr rfl, ⟨(by decide), trivial⟩⟩⟩⟩⟩⟩ rfl rfl rfl (Zc (Zp rfl rfl) (Zc (Zp rfl (Z0 _ _ _)) (Zc (Zp rfl (Z0 _ _ _)) (Zc (Zp rfl (Z0 _ _ _)) (Zc (Zp rfl (Z0 _ _ _)) rfl))))) (Zc (Zp rfl (Zad rfl)) (Zc (Zp rfl rfl) (Zc (Zp rfl (Zad (Z0 _ _ _))) rfl))))

noncomputable def ZgP (a0 a1 : Int) (L2 : List R_ii) (L3 : List RA) (L4 : List R_ii) (L5 L6 : List Int) (a7 a8 a9 : Int) : ZN → Value
 | .r0 w2 => vtt
 | .r1 w1 w3 w4 w5 => vtt
 | .r2 w0 w3 w4 => vtt
noncomputable def ZfU (a0 a1 : Int) (L2 : List R_ii) (L3 : List RA) (L4 : List R_ii) (L5 L6 : List Int) (a7 a8 a9 : Int) : ZN → List (Option AObj)
 | .r0 w2 => [some (.cells [vs 5 0 (L2.length + 1) (L2.length + 1), ms E_iiii L3, vs 6 0 w2.length w2.length, vs 7 0 (L5.length + 1) (L5.length + 1), vs 8 0 (L6.length + 1) (L6.length + 1), vi (if (((L2.length + 1) : Nat) : Int) > a7 then (((L2.length + 1) : Nat) : Int) else a7), vi a8, vi a9] 58), none, none, none, none, some (.cells (Zb Zd (L2 ++ ([(⟨a0, (-1 : Int)⟩ : R_ii)] : List R_ii))) 102), some (.cells (Zb Zd w2) 75), some (.cells (Zb eI (L5 ++ [(-1 : Int)])) 3), some (.cells (Zb eI (L6 ++ ([a0] : List Int))) 3)]
 | .r1 w1 w3 w4 w5 => [some (.cells [vs 5 0 w1.length w1.length, ms E_iiii L3, vs 6 0 w3.length w3.length, vs 7 0 w4.length w4.length, vs 4 0 L6.length L6.length, vi w5, vi a8, vi a9] 58), none, none, none, some (.cells (Zb eI L6) 3), some (.cells (Zb Zd w1) 102), some (.cells (Zb Zd w3) 75), some (.cells (Zb eI w4) 3)]
 | .r2 w0 w3 w4 => [some (.cells [vs 1 0 w0.length w0.length, ms E_iiii L3, vs 5 0 w3.length w3.length, vs 6 0 w4.length w4.length, vs 4 0 L6.length L6.length, vi a7, vi a8, vi a9] 58), some (.cells (Zb Zd w0) 102), none, none, some (.cells (Zb eI L6) 3), some (.cells (Zb Zd w3) 75), some (.cells (Zb eI w4) 3)]

end Ev
end Go.Proofs.YtelfeeoobdpmkaaGreat
