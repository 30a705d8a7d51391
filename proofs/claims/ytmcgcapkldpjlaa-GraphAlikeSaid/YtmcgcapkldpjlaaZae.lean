/- Part 5. -/
import Derived.Test.YtmcgcapkldpjlaaZad
/- Calls do what the plain functions say. -/
namespace Go.Proofs.Ytmcgcapkldpjlaa
open Go.RowKit
namespace Ev
set_option linter.unusedVariables false
set_option maxRecDepth 100000
noncomputable def ZmO (L0 : List R_iiiiiiiA) : Zbs → Value
 | .r0 => vn
 | .r1 w0 => vs 0 0 w0.length w0.length
noncomputable def ZlJ (L0 : List R_iiiiiiiA) : Zbs → List (Option AObj)
 | .r0 => []
 | .r1 w0 => [some (.cells (Zb E_iiiiiiiA w0) 34)]

def ZpZ : ZZ → Nat
 | .h1m0 => 1
 | .h1m1 v1 v2 => 1
noncomputable def Zrw (L0 : List R_iiiiiiiA) : ZZ → List (Nat × Value)
 | .h1m0 => [(0, ms E_iiiiiiiA L0), (3, vn), (4, vq)]
 | .h1m1 v1 v2 => [(0, ms E_iiiiiiiA L0), (3, vs 0 0 v1.length v1.length), (4, vi (v2 : Int))]
noncomputable def Zrx (L0 : List R_iiiiiiiA) : ZZ → List (Option AObj)
 | .h1m0 => []
 | .h1m1 v1 v2 => [some (.cells (Zb E_iiiiiiiA v1) 34)]

noncomputable def Zef : Nat → Code × List ZaF
 | 1 => Zbj [1, 1, 0, 1, 3] (Zcb Try.f5) []
 | _ => (.skip, [])
def ZlK : Nat → Bool
 | 1 => true
 | _ => true
noncomputable def Zhz (i : Nat) : List ZaF := match ZlK i with | true => .rnd i :: (Zef i).2 | false => (Zef i).2

noncomputable def Zbv (L0 : List R_iiiiiiiA) (N : Nat) : Mach := ⟨Try.f5, [], ZZ, Zbs, Zby L0 N, ZpZ, Zef, ZlK, Zrw L0, Zrx L0, ZmO L0, ZlJ L0⟩

theorem ZmP (L0 : List R_iiiiiiiA) (N : Nat) : (Zbv L0 N).Ok Try.prog Zq (.h1m0 : ZZ) (Zby L0 N (.h1m0 : ZZ)) := by
 show (Zbv L0 N).Ok Try.prog Zq (.h1m0 : ZZ) (ZbS L0 N)
 unfold ZbS
 refine Mach.ok_ite (fun g0 => ?_) (fun g0 => ?_)
 ·
  refine Mach.ok_ite (fun g1 => ?_) (fun g1 => ?_)
  ·
   exact Mach.ok_next (M := Zbv L0 N) (cd := 1000000) (cm := 0) (y := (.h1m1 (([(⟨(L0.getD 0 R_iiiiiiiA.z).a0, (L0.getD 0 R_iiiiiiiA.z).a1, (L0.getD 0 R_iiiiiiiA.z).a2, (L0.getD 0 R_iiiiiiiA.z).a3, (L0.getD 0 R_iiiiiiiA.z).a4, (L0.getD 0 R_iiiiiiiA.z).a5, (L0.getD 0 R_iiiiiiiA.z).a6, ((L0.getD 0 R_iiiiiiiA.z).a7.take 6)⟩ : R_iiiiiiiA)] : List R_iiiiiiiA)) (1) : ZZ)) (fu := 4000) (orc := (Zp [(0, true), (2, true)] [] [(0, 0)] [(0, [.i (L0.getD 0 R_iiiiiiiA.z).a0, .i (L0.getD 0 R_iiiiiiiA.z).a1, .i (L0.getD 0 R_iiiiiiiA.z).a2, .i (L0.getD 0 R_iiiiiiiA.z).a3, .i (L0.getD 0 R_iiiiiiiA.z).a4, .i (L0.getD 0 R_iiiiiiiA.z).a5, .i (L0.getD 0 R_iiiiiiiA.z).a6, (mc E_ii (L0.getD 0 R_iiiiiiiA.z).a7)])] [(1, .ms 0 6 ((L0.getD 0 R_iiiiiiiA.z).a7.take 6).length (ZI E_ii ((L0.getD 0 R_iiiiiiiA.z).a7.take 6)))])) (live := [2]) (tv := fun _ => [some (ms E_iiiiiiiA L0), some (vs 2 0 1 1), some (vi (1 : Int))]) (bl := [some (.cells [vi (L0.getD 0 R_iiiiiiiA.z).a0, vi (L0.getD 0 R_iiiiiiiA.z).a1, vi (L0.getD 0 R_iiiiiiiA.z).a2, vi (L0.getD 0 R_iiiiiiiA.z).a3, vi (L0.getD 0 R_iiiiiiiA.z).a4, vi (L0.getD 0 R_iiiiiiiA.z).a5, vi (L0.getD 0 R_iiiiiiiA.z).a6, ms E_ii ((L0.getD 0 R_iiiiiiiA.z).a7.take 6)] 34)]) (ob := [(dP (0 ≤ 6 ∧ 6 ≤ (L0.getD 0 R_iiiiiiiA.z).a7.length ∧ Zaj (code (ZI E_ii (L0.getD 0 R_iiiiiiiA.z).a7)) (0 + 0 * 2) (ZI E_ii ((L0.getD 0 R_iiiiiiiA.z).a7.take 6)).length = some (ZI E_ii ((L0.getD 0 R_iiiiiiiA.z).a7.take 6)) ∧ (6 - 0) * 2 = (ZI E_ii ((L0.getD 0 R_iiiiiiiA.z).a7.take 6)).length ∧ ((L0.getD 0 R_iiiiiiiA.z).a7.take 6).length = 6 - 0), true), ((6 : Int) == Int.ofNat 6, true), (dS 0, true), ((decide ((((L0.getD 0 R_iiiiiiiA.z).a7.length : Nat) : Int) > (6 : Int))), true), (dP (Zaj (code (ZI E_iiiiiiiA L0)) (0 + (0 * 8)) 8 = some [.i (L0.getD 0 R_iiiiiiiA.z).a0, .i (L0.getD 0 R_iiiiiiiA.z).a1, .i (L0.getD 0 R_iiiiiiiA.z).a2, .i (L0.getD 0 R_iiiiiiiA.z).a3, .i (L0.getD 0 R_iiiiiiiA.z).a4, .i (L0.getD 0 R_iiiiiiiA.z).a5, .i (L0.getD 0 R_iiiiiiiA.z).a6, (mc E_ii (L0.getD 0 R_iiiiiiiA.z).a7)]), true), (Nat.blt 0 L0.length, true), ((0 : Int) == Int.ofNat 0, true), ((decide ((0 : Int) < (L0.length : Int))), true)]) rfl (show 1 ∈ Zw (Zhz 1) from by decide +kernel) (fun gv => by kernel_rfl) (Za (Zd (Zru (E := E_ii) (L := (L0.getD 0 R_iiiiiiiA.z).a7) (R := ((L0.getD 0 R_iiiiiiiA.z).a7.take 6)) (l := 0) (h := 6) (size := 2) ltA ltA (by decide) (by simp))) <| oI <| oR <| oY <| Za (Zd (ZaB (E := E_iiiiiiiA) (L := L0) (i := 0) (q := 0) (by omega) (show (0 + (0 * 8)) = 0 * 8 + 0 from by omega) (show 0 + 8 ≤ 8 from by decide) rfl)) <| oB <| oI <| oY Zg) rfl (by decide) (by rfl) (fun _ => ⟨rr, ⟨⟨Eq.trans (show (vs 0 0 ([(⟨(L0.getD 0 R_iiiiiiiA.z).a0, (L0.getD 0 R_iiiiiiiA.z).a1, (L0.getD 0 R_iiiiiiiA.z).a2, (L0.getD 0 R_iiiiiiiA.z).a3, (L0.getD 0 R_iiiiiiiA.z).a4, (L0.getD 0 R_iiiiiiiA.z).a5, (L0.getD 0 R_iiiiiiiA.z).a6, ((L0.getD 0 R_iiiiiiiA.z).a7.take 6)⟩ : R_iiiiiiiA)] : List R_iiiiiiiA).length ([(⟨(L0.getD 0 R_iiiiiiiA.z).a0, (L0.getD 0 R_iiiiiiiA.z).a1, (L0.getD 0 R_iiiiiiiA.z).a2, (L0.getD 0 R_iiiiiiiA.z).a3, (L0.getD 0 R_iiiiiiiA.z).a4, (L0.getD 0 R_iiiiiiiA.z).a5, (L0.getD 0 R_iiiiiiiA.z).a6, ((L0.getD 0 R_iiiiiiiA.z).a7.take 6)⟩ : R_iiiiiiiA)] : List R_iiiiiiiA).length : Value) = vs 0 0 1 1 from (Zay rfl eqA eqA)) (by rfl), by rfl⟩, ⟨⟨Eq.trans (show (vi ((1 : Nat) : Int) : Value) = vi (1 : Int) from (congrArg (Value.int .i64) (by first | rfl | omega))) (by rfl), by rfl⟩, trivial⟩⟩⟩) ⟨(Zdz (E := E_iiiiiiiA) _ (L := ([(⟨(L0.getD 0 R_iiiiiiiA.z).a0, (L0.getD 0 R_iiiiiiiA.z).a1, (L0.getD 0 R_iiiiiiiA.z).a2, (L0.getD 0 R_iiiiiiiA.z).a3, (L0.getD 0 R_iiiiiiiA.z).a4, (L0.getD 0 R_iiiiiiiA.z).a5, (L0.getD 0 R_iiiiiiiA.z).a6, ((L0.getD 0 R_iiiiiiiA.z).a7.take 6)⟩ : R_iiiiiiiA)] : List R_iiiiiiiA)) _ (show ([vi (L0.getD 0 R_iiiiiiiA.z).a0, vi (L0.getD 0 R_iiiiiiiA.z).a1, vi (L0.getD 0 R_iiiiiiiA.z).a2, vi (L0.getD 0 R_iiiiiiiA.z).a3, vi (L0.getD 0 R_iiiiiiiA.z).a4, vi (L0.getD 0 R_iiiiiiiA.z).a5, vi (L0.getD 0 R_iiiiiiiA.z).a6, ms E_ii ((L0.getD 0 R_iiiiiiiA.z).a7.take 6)] : List Value) = Zb E_iiiiiiiA ([(⟨(L0.getD 0 R_iiiiiiiA.z).a0, (L0.getD 0 R_iiiiiiiA.z).a1, (L0.getD 0 R_iiiiiiiA.z).a2, (L0.getD 0 R_iiiiiiiA.z).a3, (L0.getD 0 R_iiiiiiiA.z).a4, (L0.getD 0 R_iiiiiiiA.z).a5, (L0.getD 0 R_iiiiiiiA.z).a6, ((L0.getD 0 R_iiiiiiiA.z).a7.take 6)⟩ : R_iiiiiiiA)] : List R_iiiiiiiA) from rfl)), trivial⟩
  ·
   exact Mach.ok_next (M := Zbv L0 N) (cd := 1000000) (cm := 0) (y := (.h1m1 (([(⟨(L0.getD 0 R_iiiiiiiA.z).a0, (L0.getD 0 R_iiiiiiiA.z).a1, (L0.getD 0 R_iiiiiiiA.z).a2, (L0.getD 0 R_iiiiiiiA.z).a3, (L0.getD 0 R_iiiiiiiA.z).a4, (L0.getD 0 R_iiiiiiiA.z).a5, (L0.getD 0 R_iiiiiiiA.z).a6, (L0.getD 0 R_iiiiiiiA.z).a7⟩ : R_iiiiiiiA)] : List R_iiiiiiiA)) (1) : ZZ)) (fu := 4000) (orc := (Zp [(0, true), (2, false)] [] [(0, 0)] [(0, [.i (L0.getD 0 R_iiiiiiiA.z).a0, .i (L0.getD 0 R_iiiiiiiA.z).a1, .i (L0.getD 0 R_iiiiiiiA.z).a2, .i (L0.getD 0 R_iiiiiiiA.z).a3, .i (L0.getD 0 R_iiiiiiiA.z).a4, .i (L0.getD 0 R_iiiiiiiA.z).a5, .i (L0.getD 0 R_iiiiiiiA.z).a6, (mc E_ii (L0.getD 0 R_iiiiiiiA.z).a7)])] [])) (live := [2]) (tv := fun _ => [some (ms E_iiiiiiiA L0), some (vs 2 0 1 1), some (vi (1 : Int))]) (bl := [some (.cells [vi (L0.getD 0 R_iiiiiiiA.z).a0, vi (L0.getD 0 R_iiiiiiiA.z).a1, vi (L0.getD 0 R_iiiiiiiA.z).a2, vi (L0.getD 0 R_iiiiiiiA.z).a3, vi (L0.getD 0 R_iiiiiiiA.z).a4, vi (L0.getD 0 R_iiiiiiiA.z).a5, vi (L0.getD 0 R_iiiiiiiA.z).a6, ms E_ii (L0.getD 0 R_iiiiiiiA.z).a7] 34)]) (ob := [((decide ((((L0.getD 0 R_iiiiiiiA.z).a7.length : Nat) : Int) > (6 : Int))), false), (dP (Zaj (code (ZI E_iiiiiiiA L0)) (0 + (0 * 8)) 8 = some [.i (L0.getD 0 R_iiiiiiiA.z).a0, .i (L0.getD 0 R_iiiiiiiA.z).a1, .i (L0.getD 0 R_iiiiiiiA.z).a2, .i (L0.getD 0 R_iiiiiiiA.z).a3, .i (L0.getD 0 R_iiiiiiiA.z).a4, .i (L0.getD 0 R_iiiiiiiA.z).a5, .i (L0.getD 0 R_iiiiiiiA.z).a6, (mc E_ii (L0.getD 0 R_iiiiiiiA.z).a7)]), true), (Nat.blt 0 L0.length, true), ((0 : Int) == Int.ofNat 0, true), ((decide ((0 : Int) < (L0.length : Int))), true)]) rfl (show 1 ∈ Zw (Zhz 1) from by decide +kernel) (fun gv => by kernel_rfl) (oN <| Za (Zd (ZaB (E := E_iiiiiiiA) (L := L0) (i := 0) (q := 0) (by omega) (show (0 + (0 * 8)) = 0 * 8 + 0 from by omega) (show 0 + 8 ≤ 8 from by decide) rfl)) <| oB <| oI <| oY Zg) rfl (by decide) (by rfl) (fun _ => ⟨rr, ⟨⟨Eq.trans (show (vs 0 0 ([(⟨(L0.getD 0 R_iiiiiiiA.z).a0, (L0.getD 0 R_iiiiiiiA.z).a1, (L0.getD 0 R_iiiiiiiA.z).a2, (L0.getD 0 R_iiiiiiiA.z).a3, (L0.getD 0 R_iiiiiiiA.z).a4, (L0.getD 0 R_iiiiiiiA.z).a5, (L0.getD 0 R_iiiiiiiA.z).a6, (L0.getD 0 R_iiiiiiiA.z).a7⟩ : R_iiiiiiiA)] : List R_iiiiiiiA).length ([(⟨(L0.getD 0 R_iiiiiiiA.z).a0, (L0.getD 0 R_iiiiiiiA.z).a1, (L0.getD 0 R_iiiiiiiA.z).a2, (L0.getD 0 R_iiiiiiiA.z).a3, (L0.getD 0 R_iiiiiiiA.z).a4, (L0.getD 0 R_iiiiiiiA.z).a5, (L0.getD 0 R_iiiiiiiA.z).a6, (L0.getD 0 R_iiiiiiiA.z).a7⟩ : R_iiiiiiiA)] : List R_iiiiiiiA).length : Value) = vs 0 0 1 1 from (Zay rfl eqA eqA)) (by rfl), by rfl⟩, ⟨⟨Eq.trans (show (vi ((1 : Nat) : Int) : Value) = vi (1 : Int) from (congrArg (Value.int .i64) (by first | rfl | omega))) (by rfl), by rfl⟩, trivial⟩⟩⟩) ⟨(Zdz (E := E_iiiiiiiA) _ (L := ([(⟨(L0.getD 0 R_iiiiiiiA.z).a0, (L0.getD 0 R_iiiiiiiA.z).a1, (L0.getD 0 R_iiiiiiiA.z).a2, (L0.getD 0 R_iiiiiiiA.z).a3, (L0.getD 0 R_iiiiiiiA.z).a4, (L0.getD 0 R_iiiiiiiA.z).a5, (L0.getD 0 R_iiiiiiiA.z).a6, (L0.getD 0 R_iiiiiiiA.z).a7⟩ : R_iiiiiiiA)] : List R_iiiiiiiA)) _ (show ([vi (L0.getD 0 R_iiiiiiiA.z).a0, vi (L0.getD 0 R_iiiiiiiA.z).a1, vi (L0.getD 0 R_iiiiiiiA.z).a2, vi (L0.getD 0 R_iiiiiiiA.z).a3, vi (L0.getD 0 R_iiiiiiiA.z).a4, vi (L0.getD 0 R_iiiiiiiA.z).a5, vi (L0.getD 0 R_iiiiiiiA.z).a6, ms E_ii (L0.getD 0 R_iiiiiiiA.z).a7] : List Value) = Zb E_iiiiiiiA ([(⟨(L0.getD 0 R_iiiiiiiA.z).a0, (L0.getD 0 R_iiiiiiiA.z).a1, (L0.getD 0 R_iiiiiiiA.z).a2, (L0.getD 0 R_iiiiiiiA.z).a3, (L0.getD 0 R_iiiiiiiA.z).a4, (L0.getD 0 R_iiiiiiiA.z).a5, (L0.getD 0 R_iiiiiiiA.z).a6, (L0.getD 0 R_iiiiiiiA.z).a7⟩ : R_iiiiiiiA)] : List R_iiiiiiiA) from rfl)), trivial⟩
 ·
  exact Mach.ok_fin (M := Zbv L0 N) (cd := 1000000) (cm := 0) (r := (.r0 : Zbs)) (fu := 4000) (orc := (Zp [(0, false)] [] [] [] [])) (live := []) (u := vn) (bl := []) (ob := [((decide ((0 : Int) < (L0.length : Int))), false)]) (fun gv => by kernel_rfl) (oN Zg) rfl (by decide) (by rfl) rr trivial

theorem ZmQ (L0 v1 : List R_iiiiiiiA) (v2 N : Nat) : (Zbv L0 N).Ok Try.prog Zq (.h1m1 v1 v2 : ZZ) (Zby L0 N (.h1m1 v1 v2 : ZZ)) := by
 show (Zbv L0 N).Ok Try.prog Zq (.h1m1 v1 v2 : ZZ) (Zbk L0 N v1 v2)
 unfold Zbk
 refine Mach.ok_ite (fun g0 => ?_) (fun g0 => ?_)
 ·
  refine Mach.ok_ite (fun g1 => ?_) (fun g1 => ?_)
  ·
   refine Mach.ok_ite (fun g2 => ?_) (fun g2 => ?_)
   ·
    refine Mach.ok_ite (fun g3 => ?_) (fun g3 => ?_)
    ·
     exact Mach.ok_next (M := Zbv L0 N) (cd := 1000000) (cm := 0) (y := (.h1m1 ((v1 ++ ([(⟨(L0.getD v2 R_iiiiiiiA.z).a0, (L0.getD v2 R_iiiiiiiA.z).a1, (L0.getD v2 R_iiiiiiiA.z).a2, (L0.getD v2 R_iiiiiiiA.z).a3, (L0.getD v2 R_iiiiiiiA.z).a4, (L0.getD v2 R_iiiiiiiA.z).a5, (L0.getD v2 R_iiiiiiiA.z).a6, ((L0.getD v2 R_iiiiiiiA.z).a7.take 6)⟩ : R_iiiiiiiA)] : List R_iiiiiiiA))) ((v2 + 1)) : ZZ)) (fu := 4000) (orc := (Zp [(0, true), (1, true), (2, true)] [(0, (((v2 + 1) : Nat) : Int))] [(0, v2)] [(0, [.i (L0.getD v2 R_iiiiiiiA.z).a0, .i (L0.getD v2 R_iiiiiiiA.z).a1, .i (L0.getD v2 R_iiiiiiiA.z).a2, .i (L0.getD v2 R_iiiiiiiA.z).a3, .i (L0.getD v2 R_iiiiiiiA.z).a4, .i (L0.getD v2 R_iiiiiiiA.z).a5, .i (L0.getD v2 R_iiiiiiiA.z).a6, (mc E_ii (L0.getD v2 R_iiiiiiiA.z).a7)])] [(1, .ms 0 6 ((L0.getD v2 R_iiiiiiiA.z).a7.take 6).length (ZI E_ii ((L0.getD v2 R_iiiiiiiA.z).a7.take 6))), (3, .ap 1 [vi (L0.getD v2 R_iiiiiiiA.z).a0, vi (L0.getD v2 R_iiiiiiiA.z).a1, vi (L0.getD v2 R_iiiiiiiA.z).a2, vi (L0.getD v2 R_iiiiiiiA.z).a3, vi (L0.getD v2 R_iiiiiiiA.z).a4, vi (L0.getD v2 R_iiiiiiiA.z).a5, vi (L0.getD v2 R_iiiiiiiA.z).a6, ms E_ii ((L0.getD v2 R_iiiiiiiA.z).a7.take 6)] (Zb E_iiiiiiiA (v1 ++ ([(⟨(L0.getD v2 R_iiiiiiiA.z).a0, (L0.getD v2 R_iiiiiiiA.z).a1, (L0.getD v2 R_iiiiiiiA.z).a2, (L0.getD v2 R_iiiiiiiA.z).a3, (L0.getD v2 R_iiiiiiiA.z).a4, (L0.getD v2 R_iiiiiiiA.z).a5, (L0.getD v2 R_iiiiiiiA.z).a6, ((L0.getD v2 R_iiiiiiiA.z).a7.take 6)⟩ : R_iiiiiiiA)] : List R_iiiiiiiA))))])) (live := [3]) (tv := fun _ => [some (ms E_iiiiiiiA L0), some (vs 3 0 (v1.length + 1) (v1.length + 1)), some (vi (((v2 + 1) : Nat) : Int))]) (bl := [some (.cells (Zb E_iiiiiiiA (v1 ++ ([(⟨(L0.getD v2 R_iiiiiiiA.z).a0, (L0.getD v2 R_iiiiiiiA.z).a1, (L0.getD v2 R_iiiiiiiA.z).a2, (L0.getD v2 R_iiiiiiiA.z).a3, (L0.getD v2 R_iiiiiiiA.z).a4, (L0.getD v2 R_iiiiiiiA.z).a5, (L0.getD v2 R_iiiiiiiA.z).a6, ((L0.getD v2 R_iiiiiiiA.z).a7.take 6)⟩ : R_iiiiiiiA)] : List R_iiiiiiiA))) 34)]) (ob := [((IntKind.i64.wrap ((v2 : Int) + (1 : Int))) == (((v2 + 1) : Nat) : Int), true), (dP ((1 = 1 ∧ Zl (1 * 8) (List.drop 0 [vi (L0.getD v2 R_iiiiiiiA.z).a0, vi (L0.getD v2 R_iiiiiiiA.z).a1, vi (L0.getD v2 R_iiiiiiiA.z).a2, vi (L0.getD v2 R_iiiiiiiA.z).a3, vi (L0.getD v2 R_iiiiiiiA.z).a4, vi (L0.getD v2 R_iiiiiiiA.z).a5, vi (L0.getD v2 R_iiiiiiiA.z).a6, ms E_ii ((L0.getD v2 R_iiiiiiiA.z).a7.take 6)]) = some [vi (L0.getD v2 R_iiiiiiiA.z).a0, vi (L0.getD v2 R_iiiiiiiA.z).a1, vi (L0.getD v2 R_iiiiiiiA.z).a2, vi (L0.getD v2 R_iiiiiiiA.z).a3, vi (L0.getD v2 R_iiiiiiiA.z).a4, vi (L0.getD v2 R_iiiiiiiA.z).a5, vi (L0.getD v2 R_iiiiiiiA.z).a6, ms E_ii ((L0.getD v2 R_iiiiiiiA.z).a7.take 6)] ∧ Z4 Zbr [vi (L0.getD v2 R_iiiiiiiA.z).a0, vi (L0.getD v2 R_iiiiiiiA.z).a1, vi (L0.getD v2 R_iiiiiiiA.z).a2, vi (L0.getD v2 R_iiiiiiiA.z).a3, vi (L0.getD v2 R_iiiiiiiA.z).a4, vi (L0.getD v2 R_iiiiiiiA.z).a5, vi (L0.getD v2 R_iiiiiiiA.z).a6, ms E_ii ((L0.getD v2 R_iiiiiiiA.z).a7.take 6)] = true) ∧ 0 < 1 ∧ 1 ≤ 100000 ∧ v1.length < v1.length + 1 ∧ v1.length ≤ 100000 ∧ v1.length * 8 ≤ (List.length (Zb E_iiiiiiiA v1)) ∧ List.take (v1.length * 8) (Zb E_iiiiiiiA v1) ++ [vi (L0.getD v2 R_iiiiiiiA.z).a0, vi (L0.getD v2 R_iiiiiiiA.z).a1, vi (L0.getD v2 R_iiiiiiiA.z).a2, vi (L0.getD v2 R_iiiiiiiA.z).a3, vi (L0.getD v2 R_iiiiiiiA.z).a4, vi (L0.getD v2 R_iiiiiiiA.z).a5, vi (L0.getD v2 R_iiiiiiiA.z).a6, ms E_ii ((L0.getD v2 R_iiiiiiiA.z).a7.take 6)] = (Zb E_iiiiiiiA (v1 ++ ([(⟨(L0.getD v2 R_iiiiiiiA.z).a0, (L0.getD v2 R_iiiiiiiA.z).a1, (L0.getD v2 R_iiiiiiiA.z).a2, (L0.getD v2 R_iiiiiiiA.z).a3, (L0.getD v2 R_iiiiiiiA.z).a4, (L0.getD v2 R_iiiiiiiA.z).a5, (L0.getD v2 R_iiiiiiiA.z).a6, ((L0.getD v2 R_iiiiiiiA.z).a7.take 6)⟩ : R_iiiiiiiA)] : List R_iiiiiiiA)))), true), (dP (0 ≤ 6 ∧ 6 ≤ (L0.getD v2 R_iiiiiiiA.z).a7.length ∧ Zaj (code (ZI E_ii (L0.getD v2 R_iiiiiiiA.z).a7)) (0 + 0 * 2) (ZI E_ii ((L0.getD v2 R_iiiiiiiA.z).a7.take 6)).length = some (ZI E_ii ((L0.getD v2 R_iiiiiiiA.z).a7.take 6)) ∧ (6 - 0) * 2 = (ZI E_ii ((L0.getD v2 R_iiiiiiiA.z).a7.take 6)).length ∧ ((L0.getD v2 R_iiiiiiiA.z).a7.take 6).length = 6 - 0), true), ((6 : Int) == Int.ofNat 6, true), (dS 0, true), ((decide ((((L0.getD v2 R_iiiiiiiA.z).a7.length : Nat) : Int) > (6 : Int))), true), (dP (Zaj (code (ZI E_iiiiiiiA L0)) (0 + (v2 * 8)) 8 = some [.i (L0.getD v2 R_iiiiiiiA.z).a0, .i (L0.getD v2 R_iiiiiiiA.z).a1, .i (L0.getD v2 R_iiiiiiiA.z).a2, .i (L0.getD v2 R_iiiiiiiA.z).a3, .i (L0.getD v2 R_iiiiiiiA.z).a4, .i (L0.getD v2 R_iiiiiiiA.z).a5, .i (L0.getD v2 R_iiiiiiiA.z).a6, (mc E_ii (L0.getD v2 R_iiiiiiiA.z).a7)]), true), (Nat.blt v2 L0.length, true), ((v2 : Int) == Int.ofNat v2, true), ((decide ((v2 : Int) < (12 : Int))), true), ((decide ((v2 : Int) < (L0.length : Int))), true)]) rfl (show 1 ∈ Zw (Zhz 1) from by decide +kernel) (fun gv => by kernel_rfl) (Za (beq_iff_eq.2 ((wrap_i64 ltA).trans (by first | rfl | omega))) <| Za (Zd ⟨⟨rfl, ⟨rfl, rfl⟩⟩, by omega, by omega, ltA, by omega, (Zdc (E := E_iiiiiiiA) (L := v1) (M := ([(⟨(L0.getD v2 R_iiiiiiiA.z).a0, (L0.getD v2 R_iiiiiiiA.z).a1, (L0.getD v2 R_iiiiiiiA.z).a2, (L0.getD v2 R_iiiiiiiA.z).a3, (L0.getD v2 R_iiiiiiiA.z).a4, (L0.getD v2 R_iiiiiiiA.z).a5, (L0.getD v2 R_iiiiiiiA.z).a6, ((L0.getD v2 R_iiiiiiiA.z).a7.take 6)⟩ : R_iiiiiiiA)] : List R_iiiiiiiA)) (n := v1.length) (show _ = _ * 8 from rfl) (by omega) (R := (v1 ++ ([(⟨(L0.getD v2 R_iiiiiiiA.z).a0, (L0.getD v2 R_iiiiiiiA.z).a1, (L0.getD v2 R_iiiiiiiA.z).a2, (L0.getD v2 R_iiiiiiiA.z).a3, (L0.getD v2 R_iiiiiiiA.z).a4, (L0.getD v2 R_iiiiiiiA.z).a5, (L0.getD v2 R_iiiiiiiA.z).a6, ((L0.getD v2 R_iiiiiiiA.z).a7.take 6)⟩ : R_iiiiiiiA)] : List R_iiiiiiiA))) (by rw [List.take_of_length_le (by omega)]))⟩) <| Za (Zd (Zru (E := E_ii) (L := (L0.getD v2 R_iiiiiiiA.z).a7) (R := ((L0.getD v2 R_iiiiiiiA.z).a7.take 6)) (l := 0) (h := 6) (size := 2) ltA ltA (by decide) (by simp))) <| oI <| oR <| oY <| Za (Zd (ZaB (E := E_iiiiiiiA) (L := L0) (i := v2) (q := 0) (by omega) (show (0 + (v2 * 8)) = v2 * 8 + 0 from by omega) (show 0 + 8 ≤ 8 from by decide) rfl)) <| oB <| oI <| oY <| oY Zg) rfl (by decide) (by rfl) (fun _ => ⟨rr, ⟨⟨Eq.trans (show (vs 0 0 (v1 ++ ([(⟨(L0.getD v2 R_iiiiiiiA.z).a0, (L0.getD v2 R_iiiiiiiA.z).a1, (L0.getD v2 R_iiiiiiiA.z).a2, (L0.getD v2 R_iiiiiiiA.z).a3, (L0.getD v2 R_iiiiiiiA.z).a4, (L0.getD v2 R_iiiiiiiA.z).a5, (L0.getD v2 R_iiiiiiiA.z).a6, ((L0.getD v2 R_iiiiiiiA.z).a7.take 6)⟩ : R_iiiiiiiA)] : List R_iiiiiiiA)).length (v1 ++ ([(⟨(L0.getD v2 R_iiiiiiiA.z).a0, (L0.getD v2 R_iiiiiiiA.z).a1, (L0.getD v2 R_iiiiiiiA.z).a2, (L0.getD v2 R_iiiiiiiA.z).a3, (L0.getD v2 R_iiiiiiiA.z).a4, (L0.getD v2 R_iiiiiiiA.z).a5, (L0.getD v2 R_iiiiiiiA.z).a6, ((L0.getD v2 R_iiiiiiiA.z).a7.take 6)⟩ : R_iiiiiiiA)] : List R_iiiiiiiA)).length : Value) = vs 0 0 (v1.length + 1) (v1.length + 1) from (Zay rfl eqA eqA)) (by rfl), by rfl⟩, ⟨rr, trivial⟩⟩⟩) ⟨(Ze (E := E_iiiiiiiA) (α := R_iiiiiiiA) _ (v1 ++ ([(⟨(L0.getD v2 R_iiiiiiiA.z).a0, (L0.getD v2 R_iiiiiiiA.z).a1, (L0.getD v2 R_iiiiiiiA.z).a2, (L0.getD v2 R_iiiiiiiA.z).a3, (L0.getD v2 R_iiiiiiiA.z).a4, (L0.getD v2 R_iiiiiiiA.z).a5, (L0.getD v2 R_iiiiiiiA.z).a6, ((L0.getD v2 R_iiiiiiiA.z).a7.take 6)⟩ : R_iiiiiiiA)] : List R_iiiiiiiA)) _), trivial⟩
    ·
     exact Mach.ok_none
   ·
    refine Mach.ok_ite (fun g3 => ?_) (fun g3 => ?_)
    ·
     exact Mach.ok_next (M := Zbv L0 N) (cd := 1000000) (cm := 0) (y := (.h1m1 ((v1 ++ ([(⟨(L0.getD v2 R_iiiiiiiA.z).a0, (L0.getD v2 R_iiiiiiiA.z).a1, (L0.getD v2 R_iiiiiiiA.z).a2, (L0.getD v2 R_iiiiiiiA.z).a3, (L0.getD v2 R_iiiiiiiA.z).a4, (L0.getD v2 R_iiiiiiiA.z).a5, (L0.getD v2 R_iiiiiiiA.z).a6, (L0.getD v2 R_iiiiiiiA.z).a7⟩ : R_iiiiiiiA)] : List R_iiiiiiiA))) ((v2 + 1)) : ZZ)) (fu := 4000) (orc := (Zp [(0, true), (1, true), (2, false)] [(0, (((v2 + 1) : Nat) : Int))] [(0, v2)] [(0, [.i (L0.getD v2 R_iiiiiiiA.z).a0, .i (L0.getD v2 R_iiiiiiiA.z).a1, .i (L0.getD v2 R_iiiiiiiA.z).a2, .i (L0.getD v2 R_iiiiiiiA.z).a3, .i (L0.getD v2 R_iiiiiiiA.z).a4, .i (L0.getD v2 R_iiiiiiiA.z).a5, .i (L0.getD v2 R_iiiiiiiA.z).a6, (mc E_ii (L0.getD v2 R_iiiiiiiA.z).a7)])] [(1, .ap 1 [vi (L0.getD v2 R_iiiiiiiA.z).a0, vi (L0.getD v2 R_iiiiiiiA.z).a1, vi (L0.getD v2 R_iiiiiiiA.z).a2, vi (L0.getD v2 R_iiiiiiiA.z).a3, vi (L0.getD v2 R_iiiiiiiA.z).a4, vi (L0.getD v2 R_iiiiiiiA.z).a5, vi (L0.getD v2 R_iiiiiiiA.z).a6, ms E_ii (L0.getD v2 R_iiiiiiiA.z).a7] (Zb E_iiiiiiiA (v1 ++ ([(⟨(L0.getD v2 R_iiiiiiiA.z).a0, (L0.getD v2 R_iiiiiiiA.z).a1, (L0.getD v2 R_iiiiiiiA.z).a2, (L0.getD v2 R_iiiiiiiA.z).a3, (L0.getD v2 R_iiiiiiiA.z).a4, (L0.getD v2 R_iiiiiiiA.z).a5, (L0.getD v2 R_iiiiiiiA.z).a6, (L0.getD v2 R_iiiiiiiA.z).a7⟩ : R_iiiiiiiA)] : List R_iiiiiiiA))))])) (live := [3]) (tv := fun _ => [some (ms E_iiiiiiiA L0), some (vs 3 0 (v1.length + 1) (v1.length + 1)), some (vi (((v2 + 1) : Nat) : Int))]) (bl := [some (.cells (Zb E_iiiiiiiA (v1 ++ ([(⟨(L0.getD v2 R_iiiiiiiA.z).a0, (L0.getD v2 R_iiiiiiiA.z).a1, (L0.getD v2 R_iiiiiiiA.z).a2, (L0.getD v2 R_iiiiiiiA.z).a3, (L0.getD v2 R_iiiiiiiA.z).a4, (L0.getD v2 R_iiiiiiiA.z).a5, (L0.getD v2 R_iiiiiiiA.z).a6, (L0.getD v2 R_iiiiiiiA.z).a7⟩ : R_iiiiiiiA)] : List R_iiiiiiiA))) 34)]) (ob := [((IntKind.i64.wrap ((v2 : Int) + (1 : Int))) == (((v2 + 1) : Nat) : Int), true), (dP ((1 = 1 ∧ Zl (1 * 8) (List.drop 0 [vi (L0.getD v2 R_iiiiiiiA.z).a0, vi (L0.getD v2 R_iiiiiiiA.z).a1, vi (L0.getD v2 R_iiiiiiiA.z).a2, vi (L0.getD v2 R_iiiiiiiA.z).a3, vi (L0.getD v2 R_iiiiiiiA.z).a4, vi (L0.getD v2 R_iiiiiiiA.z).a5, vi (L0.getD v2 R_iiiiiiiA.z).a6, ms E_ii (L0.getD v2 R_iiiiiiiA.z).a7]) = some [vi (L0.getD v2 R_iiiiiiiA.z).a0, vi (L0.getD v2 R_iiiiiiiA.z).a1, vi (L0.getD v2 R_iiiiiiiA.z).a2, vi (L0.getD v2 R_iiiiiiiA.z).a3, vi (L0.getD v2 R_iiiiiiiA.z).a4, vi (L0.getD v2 R_iiiiiiiA.z).a5, vi (L0.getD v2 R_iiiiiiiA.z).a6, ms E_ii (L0.getD v2 R_iiiiiiiA.z).a7] ∧ Z4 Zbr [vi (L0.getD v2 R_iiiiiiiA.z).a0, vi (L0.getD v2 R_iiiiiiiA.z).a1, vi (L0.getD v2 R_iiiiiiiA.z).a2, vi (L0.getD v2 R_iiiiiiiA.z).a3, vi (L0.getD v2 R_iiiiiiiA.z).a4, vi (L0.getD v2 R_iiiiiiiA.z).a5, vi (L0.getD v2 R_iiiiiiiA.z).a6, ms E_ii (L0.getD v2 R_iiiiiiiA.z).a7] = true) ∧ 0 < 1 ∧ 1 ≤ 100000 ∧ v1.length < v1.length + 1 ∧ v1.length ≤ 100000 ∧ v1.length * 8 ≤ (List.length (Zb E_iiiiiiiA v1)) ∧ List.take (v1.length * 8) (Zb E_iiiiiiiA v1) ++ [vi (L0.getD v2 R_iiiiiiiA.z).a0, vi (L0.getD v2 R_iiiiiiiA.z).a1, vi (L0.getD v2 R_iiiiiiiA.z).a2, vi (L0.getD v2 R_iiiiiiiA.z).a3, vi (L0.getD v2 R_iiiiiiiA.z).a4, vi (L0.getD v2 R_iiiiiiiA.z).a5, vi (L0.getD v2 R_iiiiiiiA.z).a6, ms E_ii (L0.getD v2 R_iiiiiiiA.z).a7] = (Zb E_iiiiiiiA (v1 ++ ([(⟨(L0.getD v2 R_iiiiiiiA.z).a0, (L0.getD v2 R_iiiiiiiA.z).a1, (L0.getD v2 R_iiiiiiiA.z).a2, (L0.getD v2 R_iiiiiiiA.z).a3, (L0.getD v2 R_iiiiiiiA.z).a4, (L0.getD v2 R_iiiiiiiA.z).a5, (L0.getD v2 R_iiiiiiiA.z).a6, (L0.getD v2 R_iiiiiiiA.z).a7⟩ : R_iiiiiiiA)] : List R_iiiiiiiA)))), true), ((decide ((((L0.getD v2 R_iiiiiiiA.z).a7.length : Nat) : Int) > (6 : Int))), false), (dP (Zaj (code (ZI E_iiiiiiiA L0)) (0 + (v2 * 8)) 8 = some [.i (L0.getD v2 R_iiiiiiiA.z).a0, .i (L0.getD v2 R_iiiiiiiA.z).a1, .i (L0.getD v2 R_iiiiiiiA.z).a2, .i (L0.getD v2 R_iiiiiiiA.z).a3, .i (L0.getD v2 R_iiiiiiiA.z).a4, .i (L0.getD v2 R_iiiiiiiA.z).a5, .i (L0.getD v2 R_iiiiiiiA.z).a6, (mc E_ii (L0.getD v2 R_iiiiiiiA.z).a7)]), true), (Nat.blt v2 L0.length, true), ((v2 : Int) == Int.ofNat v2, true), ((decide ((v2 : Int) < (12 : Int))), true), ((decide ((v2 : Int) < (L0.length : Int))), true)]) rfl (show 1 ∈ Zw (Zhz 1) from by decide +kernel) (fun gv => by kernel_rfl) (Za (beq_iff_eq.2 ((wrap_i64 ltA).trans (by first | rfl | omega))) <| Za (Zd ⟨⟨rfl, ⟨rfl, rfl⟩⟩, by omega, by omega, ltA, by omega, (Zdc (E := E_iiiiiiiA) (L := v1) (M := ([(⟨(L0.getD v2 R_iiiiiiiA.z).a0, (L0.getD v2 R_iiiiiiiA.z).a1, (L0.getD v2 R_iiiiiiiA.z).a2, (L0.getD v2 R_iiiiiiiA.z).a3, (L0.getD v2 R_iiiiiiiA.z).a4, (L0.getD v2 R_iiiiiiiA.z).a5, (L0.getD v2 R_iiiiiiiA.z).a6, (L0.getD v2 R_iiiiiiiA.z).a7⟩ : R_iiiiiiiA)] : List R_iiiiiiiA)) (n := v1.length) (show _ = _ * 8 from rfl) (by omega) (R := (v1 ++ ([(⟨(L0.getD v2 R_iiiiiiiA.z).a0, (L0.getD v2 R_iiiiiiiA.z).a1, (L0.getD v2 R_iiiiiiiA.z).a2, (L0.getD v2 R_iiiiiiiA.z).a3, (L0.getD v2 R_iiiiiiiA.z).a4, (L0.getD v2 R_iiiiiiiA.z).a5, (L0.getD v2 R_iiiiiiiA.z).a6, (L0.getD v2 R_iiiiiiiA.z).a7⟩ : R_iiiiiiiA)] : List R_iiiiiiiA))) (by rw [List.take_of_length_le (by omega)]))⟩) <| oN <| Za (Zd (ZaB (E := E_iiiiiiiA) (L := L0) (i := v2) (q := 0) (by omega) (show (0 + (v2 * 8)) = v2 * 8 + 0 from by omega) (show 0 + 8 ≤ 8 from by decide) rfl)) <| oB <| oI <| oY <| oY Zg) rfl (by decide) (by rfl) (fun _ => ⟨rr, ⟨⟨Eq.trans (show (vs 0 0 (v1 ++ ([(⟨(L0.getD v2 R_iiiiiiiA.z).a0, (L0.getD v2 R_iiiiiiiA.z).a1, (L0.getD v2 R_iiiiiiiA.z).a2, (L0.getD v2 R_iiiiiiiA.z).a3, (L0.getD v2 R_iiiiiiiA.z).a4, (L0.getD v2 R_iiiiiiiA.z).a5, (L0.getD v2 R_iiiiiiiA.z).a6, (L0.getD v2 R_iiiiiiiA.z).a7⟩ : R_iiiiiiiA)] : List R_iiiiiiiA)).length (v1 ++ ([(⟨(L0.getD v2 R_iiiiiiiA.z).a0, (L0.getD v2 R_iiiiiiiA.z).a1, (L0.getD v2 R_iiiiiiiA.z).a2, (L0.getD v2 R_iiiiiiiA.z).a3, (L0.getD v2 R_iiiiiiiA.z).a4, (L0.getD v2 R_iiiiiiiA.z).a5, (L0.getD v2 R_iiiiiiiA.z).a6, (L0.getD v2 R_iiiiiiiA.z).a7⟩ : R_iiiiiiiA)] : List R_iiiiiiiA)).length : Value) = vs 0 0 (v1.length + 1) (v1.length + 1) from (Zay rfl eqA eqA)) (by rfl), by rfl⟩, ⟨rr, trivial⟩⟩⟩) ⟨(Ze (E := E_iiiiiiiA) (α := R_iiiiiiiA) _ (v1 ++ ([(⟨(L0.getD v2 R_iiiiiiiA.z).a0, (L0.getD v2 R_iiiiiiiA.z).a1, (L0.getD v2 R_iiiiiiiA.z).a2, (L0.getD v2 R_iiiiiiiA.z).a3, (L0.getD v2 R_iiiiiiiA.z).a4, (L0.getD v2 R_iiiiiiiA.z).a5, (L0.getD v2 R_iiiiiiiA.z).a6, (L0.getD v2 R_iiiiiiiA.z).a7⟩ : R_iiiiiiiA)] : List R_iiiiiiiA)) _), trivial⟩
    ·
     exact Mach.ok_none
  ·
   exact Mach.ok_fin (M := Zbv L0 N) (cd := 1000000) (cm := 0) (r := (.r1 (v1) : Zbs)) (fu := 4000) (orc := (Zp [(0, true), (1, false)] [] [] [] [])) (live := [0]) (u := vs 0 0 v1.length v1.length) (bl := [some (.cells (Zb E_iiiiiiiA v1) 34)]) (ob := [((decide ((v2 : Int) < (12 : Int))), false), ((decide ((v2 : Int) < (L0.length : Int))), true)]) (fun gv => by kernel_rfl) (oN <| oY Zg) rfl (by decide) (by rfl) rr ⟨(Ze (E := E_iiiiiiiA) (α := R_iiiiiiiA) _ v1 _), trivial⟩
 ·
  exact Mach.ok_fin (M := Zbv L0 N) (cd := 1000000) (cm := 0) (r := (.r1 (v1) : Zbs)) (fu := 4000) (orc := (Zp [(0, false)] [] [] [] [])) (live := [0]) (u := vs 0 0 v1.length v1.length) (bl := [some (.cells (Zb E_iiiiiiiA v1) 34)]) (ob := [((decide ((v2 : Int) < (L0.length : Int))), false)]) (fun gv => by kernel_rfl) (oN Zg) rfl (by decide) (by rfl) rr ⟨(Ze (E := E_iiiiiiiA) (α := R_iiiiiiiA) _ v1 _), trivial⟩

theorem Zpu (L0 : List R_iiiiiiiA) (N : Nat) : (Zbv L0 N).Enter Try.prog Zq #[ms E_iiiiiiiA L0] (ZiG L0 N) := by
 unfold ZiG
 exact Mach.en_head (bK := Zef 1) (M := Zbv L0 N) (cd := 1000000) (cm := 0) (y := (.h1m0 : ZZ)) (fu := 4000) (orc := (Zp [] [] [] [] [])) (live := []) (tv := [some (ms E_iiiiiiiA L0), some (vn), some (vq)]) (bl := []) (ob := []) rfl rfl (show Zw (Zef 1).2 = [] from rfl) (by kernel_rfl) Zg rfl (by decide) (by rfl) ⟨rr, ⟨rr, ⟨rr, trivial⟩⟩⟩ trivial

theorem Zjm (L0 : List R_iiiiiiiA) (N : Nat) (r : Zbs) (h : ZeC L0 N = some r) : LSpec Try.prog 5 #[ms E_iiiiiiiA L0] [] (ZmO L0 r) (ZlJ L0 r) :=
 Mach.spec Zb0 (Zbv L0 N) Try.func5 (by kernel_rfl) (by kernel_rfl) (fun x => by cases x <;> exact Zae _ rfl) (fun r => by cases r <;> exact Zae _ rfl) (fun x => by
  cases x with
  | h1m0 => exact fun _ => (show ¬ (1 ∈ Zw (Zef 1).2) from by decide +kernel)
  | h1m1 _ _ => exact fun _ => (show ¬ (1 ∈ Zw (Zef 1).2) from by decide +kernel)
  ) (fun x => (show (Zbv L0 N).Ok Try.prog Zq x (Zby L0 N x) from by
  cases x with
  | h1m0 => exact ZmP L0 N
  | h1m1 v1 v2 => exact ZmQ L0 v1 v2 N
  )) (Zpu L0 N) (n := N) h

noncomputable def ZiI (L0 : List R_iiiiiiiA) (n : Nat) : Zbp := .call [] (vn) [] 0
def Zg9 (A : Array Value) (L0 : List R_iiiiiiiA) (n : Nat) : Prop := ZC Try.prog 5 A [] (vn) [] n 0

theorem ZiJ (A : Array Value) (L0 : List R_iiiiiiiA) (N : Nat) (h : ZeC L0 N = some (.r0)) (n : Nat) (hA : A = #[ms E_iiiiiiiA L0]) (hnd : ([] : List Nat).Nodup) (hlt : ∀ k ∈ ([] : List Nat), k < n) : Zg9 A L0  n :=
 Zan hA (LSpec.callL (show LSpec Try.prog 5 #[ms E_iiiiiiiA L0] [] (vn) [] from Zjm L0 N _ h) [] n [] rfl hnd hlt (show 0 ≤ 0 from by decide) (show ∀ j ∈ ([] : List Nat), j < 0 from by decide) (by rfl) trivial (by rfl) trivial trivial rfl rfl rfl rfl rfl)

noncomputable def ZbZ (L0 w0 : List R_iiiiiiiA) (n : Nat) : Zbp := .call [] (vs n 0 w0.length w0.length) [(n, some (.cells (Zb E_iiiiiiiA w0) 34))] 1
def ZbR (A : Array Value) (L0 w0 : List R_iiiiiiiA) (n : Nat) : Prop := ZC Try.prog 5 A [] (vs n 0 w0.length w0.length) [(n, some (.cells (Zb E_iiiiiiiA w0) 34))] n 1

theorem Zca (A : Array Value) (L0 w0 : List R_iiiiiiiA) (N : Nat) (h : ZeC L0 N = some (.r1 w0)) (n : Nat) (hA : A = #[ms E_iiiiiiiA L0]) (hnd : ([] : List Nat).Nodup) (hlt : ∀ k ∈ ([] : List Nat), k < n) : ZbR A L0 w0  n :=
 Zan hA (LSpec.callL (show LSpec Try.prog 5 #[ms E_iiiiiiiA L0] [] (vs 0 0 w0.length w0.length) [some (.cells (Zb E_iiiiiiiA w0) 34)] from Zjm L0 N _ h) [] n [0] rfl hnd hlt (show 0 ≤ 1 from by decide) (show ∀ j ∈ ([0] : List Nat), j < 1 from by decide) (by rfl) trivial (by rfl) ⟨(Zt _ _ _), trivial⟩ ⟨(by decide), trivial⟩ rfl rfl rfl rfl (Zf (Zk rfl (ZaQ (ZD _ _ _))) rfl))

noncomputable def ZlL (L0 : List R_ii) : ZcV → Value
 | .r0 w0 => ms E_ii w0
noncomputable def Zlb (L0 : List R_ii) : ZcV → List (Option AObj)
 | .r0 w0 => []

theorem Zog (L0 : List R_ii) (N : Nat) : Fx Try.prog Zq Try.f9 [] #[ms E_ii L0] (ZlL L0) (Zlb L0) (Zec L0 N) := by
 unfold Zec
 refine Zam (fun g0 => ?_) (fun g0 => ?_)
 ·
  exact Zau (r := (.r0 ((L0.take 10)) : ZcV)) (fu := 4000) (orc := (Zp [(0, true)] [] [] [] [(0, .ms 0 10 (L0.take 10).length (ZI E_ii (L0.take 10)))])) (live := []) (u := ms E_ii (L0.take 10)) (bl := []) (ob := [(dP (0 ≤ 10 ∧ 10 ≤ L0.length ∧ Zaj (code (ZI E_ii L0)) (0 + 0 * 2) (ZI E_ii (L0.take 10)).length = some (ZI E_ii (L0.take 10)) ∧ (10 - 0) * 2 = (ZI E_ii (L0.take 10)).length ∧ (L0.take 10).length = 10 - 0), true), ((10 : Int) == Int.ofNat 10, true), (dS 0, true), ((decide ((L0.length : Int) > (10 : Int))), true)]) (by kernel_rfl) (Za (Zd (Zru (E := E_ii) (L := L0) (R := (L0.take 10)) (l := 0) (h := 10) (size := 2) ltA ltA (by decide) (by simp))) <| oI <| oR <| oY Zg) rfl (by decide) (by rfl) rr trivial
 ·
  exact Zau (r := (.r0 (L0) : ZcV)) (fu := 4000) (orc := (Zp [(0, false)] [] [] [] [])) (live := []) (u := ms E_ii L0) (bl := []) (ob := [((decide ((L0.length : Int) > (10 : Int))), false)]) (by kernel_rfl) (oN Zg) rfl (by decide) (by rfl) rr trivial

theorem ZmR (L0 : List R_ii) (N : Nat) (r : ZcV) (h : Zec L0 N = some r) : LSpec Try.prog 9 #[ms E_ii L0] [] (ZlL L0 r) (Zlb L0 r) :=
 Zfe Zb0 Try.func9 (by kernel_rfl) (by kernel_rfl) (fun r => by cases r <;> exact Zae _ rfl) (Zog L0 N) h

noncomputable def ZaZ (L0 w0 : List R_ii) (n : Nat) : Zbp := .call [] (ms E_ii w0) [] 0
def ZaM (A : Array Value) (L0 w0 : List R_ii) (n : Nat) : Prop := ZC Try.prog 9 A [] (ms E_ii w0) [] n 0

theorem Zba (A : Array Value) (L0 w0 : List R_ii) (N : Nat) (h : Zec L0 N = some (.r0 w0)) (n : Nat) (hA : A = #[ms E_ii L0]) (hnd : ([] : List Nat).Nodup) (hlt : ∀ k ∈ ([] : List Nat), k < n) : ZaM A L0 w0  n :=
 Zan hA (LSpec.callL (show LSpec Try.prog 9 #[ms E_ii L0] [] (ms E_ii w0) [] from ZmR L0 N _ h) [] n [] rfl hnd hlt (show 0 ≤ 0 from by decide) (show ∀ j ∈ ([] : List Nat), j < 0 from by decide) (by rfl) trivial (by rfl) trivial trivial rfl rfl rfl rfl rfl)

noncomputable def Zlc  : ZbX → Value
 | .r0 => Value.agg #[vn, Value.map (some 0)]
noncomputable def Zki  : ZbX → List (Option AObj)
 | .r0 => [some (.ro (Zc ([] : List RA)) true)]

def Zoh : graph_indexX → Nat
 | .h1m0 => 1
noncomputable def Zpv  : graph_indexX → List (Nat × Value)
 | .h1m0 => [(0, vn), (2, vp 0 0), (3, vp 1 0), (4, vi (-1 : Int))]
noncomputable def Zpw  : graph_indexX → List (Option AObj)
 | .h1m0 => [some (.cells [vn, Value.map none] 46), some (.cells [vn, Value.map (some 2)] 46), some (.ro (Zc ([] : List RA)) true)]

noncomputable def Zgg : Nat → Code × List ZaF
 | 1 => Zbj [1, 1, 0, 1, 3] (Zcb Try.f14) []
 | _ => (.skip, [])
def Zoi : Nat → Bool
 | 1 => true
 | _ => true
noncomputable def Zdh  (N : Nat) : Mach := ⟨Try.f14, [], graph_indexX, ZbX, Zet  N, Zoh, Zgg, Zoi, Zpv , Zpw , Zlc , Zki ⟩

theorem Zl2  (N : Nat) : (Zdh  N).Ok Try.prog Zq (.h1m0 : graph_indexX) (Zet  N (.h1m0 : graph_indexX)) := by
 show (Zdh  N).Ok Try.prog Zq (.h1m0 : graph_indexX) (ZfB  N)
 unfold ZfB
 exact Mach.ok_fin (M := Zdh  N) (cd := 1000000) (cm := 0) (r := (.r0 : ZbX)) (fu := 4000) (orc := (Zp [] [] [] [] [])) (live := [2]) (u := Value.agg #[vn, Value.map (some 2)]) (bl := [some (.ro (Zc ([] : List RA)) true)]) (ob := []) (fun gv => by kernel_rfl) Zg rfl (by decide) (by rfl) rr ⟨(show Zc ([] : List RA) = Zc ([] : List RA) from rfl), trivial⟩

theorem Znw  (N : Nat) : (Zdh  N).Enter Try.prog Zq #[vn] (Zhb  N) := by
 unfold Zhb
 exact Mach.en_head (bK := Zgg 1) (M := Zdh  N) (cd := 1000000) (cm := 0) (y := (.h1m0 : graph_indexX)) (fu := 4000) (orc := (Zp [] [] [] [] [])) (live := [0, 2, 1]) (tv := [some (vn), some (vp 0 0), some (vp 2 0), some (vi (-1 : Int))]) (bl := [some (.cells [vn, Value.map none] 46), some (.cells [vn, Value.map (some 1)] 46), some (.ro (Zc ([] : List RA)) true)]) (ob := []) rfl rfl (show Zw (Zgg 1).2 = [] from rfl) (by kernel_rfl) Zg rfl (by decide) (by rfl) ⟨rr, ⟨rr, ⟨rr, ⟨rr, trivial⟩⟩⟩⟩ ⟨⟨rfl, ⟨[], by rfl⟩, by rfl⟩, ⟨⟨rfl, ⟨[], by rfl⟩, by rfl⟩, ⟨(show Zc ([] : List RA) = Zc ([] : List RA) from rfl), trivial⟩⟩⟩

theorem Zmi  (N : Nat) (r : ZbX) (h : Zg8  N = some r) : LSpec Try.prog 14 #[vn] [] (Zlc  r) (Zki  r) :=
 Mach.spec Zb0 (Zdh  N) Try.func14 (by kernel_rfl) (by kernel_rfl) (fun x => by cases x <;> exact Zae _ rfl) (fun r => by cases r <;> exact Zae _ rfl) (fun x => by
  cases x with
  | h1m0 => exact fun _ => (show ¬ (1 ∈ Zw (Zgg 1).2) from by decide +kernel)
  ) (fun x => (show (Zdh  N).Ok Try.prog Zq x (Zet  N x) from by
  cases x with
  | h1m0 => exact Zl2  N
  )) (Znw  N) (n := N) h

noncomputable def Zoj  (n : Nat) : Zbp := .call [] (Value.agg #[vn, Value.map (some n)]) [(n, some (.ro (Zc ([] : List RA)) true))] 1
def Zkj (A : Array Value)  (n : Nat) : Prop := ZC Try.prog 14 A [] (Value.agg #[vn, Value.map (some n)]) [(n, some (.ro (Zc ([] : List RA)) true))] n 1

theorem Zok (A : Array Value)  (N : Nat) (h : Zg8  N = some (.r0)) (n : Nat) (hA : A = #[vn]) (hnd : ([] : List Nat).Nodup) (hlt : ∀ k ∈ ([] : List Nat), k < n) : Zkj A   n :=
 Zan hA (LSpec.callL (show LSpec Try.prog 14 #[vn] [] (Value.agg #[vn, Value.map (some 0)]) [some (.ro (Zc ([] : List RA)) true)] from Zmi  N _ h) [] n [0] rfl hnd hlt (show 0 ≤ 1 from by decide) (show ∀ j ∈ ([0] : List Nat), j < 1 from by decide) (by rfl) trivial (by rfl) ⟨rfl, trivial⟩ ⟨(by decide), trivial⟩ rfl rfl rfl rfl (Zf (Zk rfl (ZaQ rfl)) rfl))

noncomputable def Zgr (L0 : List RA) (a1 a2 : Int) : Zak → Value
 | .r0 w1 w2 => Value.tuple #[vi w1, Value.bool w2]
noncomputable def Zgh (L0 : List RA) (a1 a2 : Int) : Zak → List (Option AObj)
 | .r0 w1 w2 => [some (.ro (Zc L0) true)]

theorem Zjn (L0 : List RA) (a1 a2 : Int) (N : Nat) : Fx Try.prog Zq Try.f30 [.ro (Zc L0) true] #[Value.agg #[vn, Value.map (some 0)], Value.agg #[vi a1, vi a2]] (Zgr L0 a1 a2) (Zgh L0 a1 a2) (ZbJ L0 a1 a2 N) := by
 unfold ZbJ
 refine Zam (fun g0 => ?_) (fun g0 => ?_)
 ·
  exact Zau (r := (.r0 ((0 : Int)) (false) : Zak)) (fu := 4000) (orc := (Zp [(0, true)] [] [] [] [])) (live := [0]) (u := Value.tuple #[vq, vf]) (bl := [some (.ro (Zc L0) true)]) (ob := [((a1 != (2 : Int)), true)]) (by kernel_rfl) (oD Zg) rfl (by decide) (by rfl) rr ⟨(show Zc L0 = Zc L0 from rfl), trivial⟩
 ·
  refine Zam (fun g1 => ?_) (fun g1 => ?_)
  ·
   exact Zau (r := (.r0 ((0 : Int)) (false) : Zak)) (fu := 4000) (orc := (Zp [(0, false), (1, true)] [] [] [] [])) (live := [0]) (u := Value.tuple #[vq, vf]) (bl := [some (.ro (Zc L0) true)]) (ob := [(((a1 == (2 : Int)) && ((a2 == (0 : Int)) && true)), true), ((a1 != (2 : Int)), false)]) (by kernel_rfl) (Za (by first | (simp only [beq_self_eq_true, Bool.and_self]; done) | (simp only [Bool.and_true, Bool.and_eq_true, beq_iff_eq] <;> first | omega | (simp_all; done) | grind)) <| oE Zg) rfl (by decide) (by rfl) rr ⟨(show Zc L0 = Zc L0 from rfl), trivial⟩
  ·
   refine Zam (fun g2 => ?_) (fun g2 => ?_)
   ·
    exact Zau (r := (.r0 ((ZaX L0 a1 a2)) (true) : Zak)) (fu := 4000) (orc := (Zp [(0, false), (1, false)] [] [] [] [(1, .lk (some (vi (ZaX L0 a1 a2))))])) (live := [0]) (u := Value.tuple #[vi (ZaX L0 a1 a2), vT]) (bl := [some (.ro (Zc L0) true)]) (ob := [(dP ((Zar Try.prog 25 (Value.agg #[vi a1, vi a2]) (Zao L0)).map (Option.map Prod.snd) = some (some (vi (ZaX L0 a1 a2)))), true), (((a1 == (2 : Int)) && ((a2 == (0 : Int)) && true)), false), ((a1 != (2 : Int)), false)]) (by kernel_rfl) (Za (Zd (Zjj (by assumption))) <| Za (Bool.eq_false_iff.2 (by simp only [ne_eq, Bool.and_true, Bool.and_eq_true, beq_iff_eq]; first | omega | (intro hh; simp_all; done) | (intro hh; grind))) <| oE Zg) rfl (by decide) (by rfl) rr ⟨(show Zc L0 = Zc L0 from rfl), trivial⟩
   ·
    exact Zau (r := (.r0 ((0 : Int)) (false) : Zak)) (fu := 4000) (orc := (Zp [(0, false), (1, false)] [] [] [] [(1, .lk (none))])) (live := [0]) (u := Value.tuple #[vq, vf]) (bl := [some (.ro (Zc L0) true)]) (ob := [(dP ((Zar Try.prog 25 (Value.agg #[vi a1, vi a2]) (Zao L0)).map (Option.map Prod.snd) = some (none)), true), (((a1 == (2 : Int)) && ((a2 == (0 : Int)) && true)), false), ((a1 != (2 : Int)), false)]) (by kernel_rfl) (Za (Zd (Zjk (by assumption))) <| Za (Bool.eq_false_iff.2 (by simp only [ne_eq, Bool.and_true, Bool.and_eq_true, beq_iff_eq]; first | omega | (intro hh; simp_all; done) | (intro hh; grind))) <| oE Zg) rfl (by decide) (by rfl) rr ⟨(show Zc L0 = Zc L0 from rfl), trivial⟩

theorem Zii (L0 : List RA) (a1 a2 : Int) (N : Nat) (r : Zak) (h : ZbJ L0 a1 a2 N = some r) : LSpec Try.prog 30 #[Value.agg #[vn, Value.map (some 0)], Value.agg #[vi a1, vi a2]] [.ro (Zc L0) true] (Zgr L0 a1 a2 r) (Zgh L0 a1 a2 r) :=
 Zfe Zb0 Try.func30 (by kernel_rfl) (by kernel_rfl) (fun r => by cases r <;> exact Zae _ rfl) (Zjn L0 a1 a2 N) h

noncomputable def Zgi (L0 : List RA) (a1 a2 w1 : Int) (w2 : Bool) (k0 n : Nat) : Zbp := .call [(k0, .ro (Zc L0) true)] (Value.tuple #[vi w1, Value.bool w2]) [] 0
def Zeg (A : Array Value) (L0 : List RA) (a1 a2 w1 : Int) (w2 : Bool) (k0 n : Nat) : Prop := ZC Try.prog 30 A [(k0, .ro (Zc L0) true)] (Value.tuple #[vi w1, Value.bool w2]) [] n 0

theorem Zgj (A : Array Value) (L0 : List RA) (a1 a2 w1 : Int) (w2 : Bool) (N : Nat) (h : ZbJ L0 a1 a2 N = some (.r0 w1 w2)) (k0 n : Nat) (hA : A = #[Value.agg #[vn, Value.map (some k0)], Value.agg #[vi a1, vi a2]]) (hnd : ([k0] : List Nat).Nodup) (hlt : ∀ k ∈ ([k0] : List Nat), k < n) : Zeg A L0 a1 a2 w1 w2 k0 n :=
 Zan hA (LSpec.callL (show LSpec Try.prog 30 #[Value.agg #[vn, Value.map (some 0)], Value.agg #[vi a1, vi a2]] [.ro (Zc L0) true] (Value.tuple #[vi w1, Value.bool w2]) [some (.ro (Zc L0) true)] from Zii L0 a1 a2 N _ h) [k0] n [] rfl hnd hlt (show 1 ≤ 1 from by decide) (show ∀ j ∈ ([] : List Nat), j < 1 from by decide) (by rfl) ⟨rfl, trivial⟩ (by rfl) ⟨rfl, trivial⟩ ⟨.inr rfl, trivial⟩ rfl rfl rfl (Zf (Zk rfl rfl) rfl) rfl)

noncomputable def ZfJ (a0 a1 : Int) (L2 L3 : List RA) : ZaR → Value
 | .r0 => vtt
noncomputable def Zfu (a0 a1 : Int) (L2 L3 : List RA) : ZaR → List (Option AObj)
 | .r0 => [some (.cells [vn, Value.map (some 5)] 46), some (.cells [Value.map (some 6)] 44), some (.cells [Value.func (.func 18) #[] #[]] 51), some (.cells [vn] 49), some (.cells [vn] 62), some (.ro (Zc L2) true), some (.ro (Zc L3) true)]

theorem Zij (a0 a1 : Int) (L2 L3 : List RA) (N : Nat) : Fx Try.prog Zq Try.f29 [.cells [vn, Value.map (some 5)] 46, .cells [Value.map (some 6)] 44, .cells [Value.func (.func 18) #[] #[]] 51, .cells [vn] 49, .cells [vn] 62, .ro (Zc L2) true, .ro (Zc L3) true] #[Value.agg #[vi a0, vi a1], vp 0 0, vp 1 0, vp 2 0, vp 3 0, vp 4 0] (ZfJ a0 a1 L2 L3) (Zfu a0 a1 L2 L3) (Zbt a0 a1 L2 L3 N) := by
 unfold Zbt
 refine ZaV (fun z0 c0 => ?_)
 cases z0 with
 | r0 y0_0 y0_1 =>
  refine Zam (fun g1 => ?_) (fun g1 => ?_)
  ·
   exact Zau (r := (.r0 : ZaR)) (fu := 4000) (orc := (Zp [(0, true)] [] [] [] [(0, (Zgi (L2) (a0) (a1)  y0_0 y0_1 5 8))])) (live := [0, 1, 2, 3, 4, 5, 6]) (u := vtt) (bl := [some (.cells [vn, Value.map (some 5)] 46), some (.cells [Value.map (some 6)] 44), some (.cells [Value.func (.func 18) #[] #[]] 51), some (.cells [vn] 49), some (.cells [vn] 62), some (.ro (Zc L2) true), some (.ro (Zc L3) true)]) (ob := [((!y0_1), true), (dP (Zeg #[Value.agg #[vn, Value.map (some 5)], Value.agg #[vi a0, vi a1]] (L2) (a0) (a1)  y0_0 y0_1 5 8), true), (dS (Zc L2), true)]) (by kernel_rfl) (Za (ZcK (by first | assumption | simp_all)) <| Za (Zd (Zgj #[Value.agg #[vn, Value.map (some 5)], Value.agg #[vi a0, vi a1]] (L2) (a0) (a1)  y0_0 y0_1 N c0 5 8 rfl (by decide) (by decide))) <| Za (Zd (congrArg Zc (by first | rfl | simp))) Zg) rfl (by decide) (by rfl) rr ⟨⟨rfl, ⟨[], by rfl⟩, by rfl⟩, ⟨⟨rfl, ⟨[], by rfl⟩, by rfl⟩, ⟨⟨rfl, ⟨[], by rfl⟩, by rfl⟩, ⟨⟨rfl, ⟨[], by rfl⟩, by rfl⟩, ⟨⟨rfl, ⟨[], by rfl⟩, by rfl⟩, ⟨(show Zc L2 = Zc L2 from rfl), ⟨(show Zc L3 = Zc L3 from rfl), trivial⟩⟩⟩⟩⟩⟩⟩
  ·
   refine Zam (fun g2 => ?_) (fun g2 => ?_)
   ·
    exact Zau (r := (.r0 : ZaR)) (fu := 4000) (orc := (Zp [(0, false)] [] [] [] [(0, (Zgi (L2) (a0) (a1)  y0_0 y0_1 5 8)), (1, .lk (some (vi (ZaX L3 a0 a1))))])) (live := [0, 1, 2, 3, 4, 5, 6]) (u := vtt) (bl := [some (.cells [vn, Value.map (some 5)] 46), some (.cells [Value.map (some 6)] 44), some (.cells [Value.func (.func 18) #[] #[]] 51), some (.cells [vn] 49), some (.cells [vn] 62), some (.ro (Zc L2) true), some (.ro (Zc L3) true)]) (ob := [(dP ((Zar Try.prog 25 (Value.agg #[vi a0, vi a1]) (Zao L3)).map (Option.map Prod.snd) = some (some (vi (ZaX L3 a0 a1)))), true), ((!y0_1), false), (dP (Zeg #[Value.agg #[vn, Value.map (some 5)], Value.agg #[vi a0, vi a1]] (L2) (a0) (a1)  y0_0 y0_1 5 8), true), (dS (Zc L2), true)]) (by kernel_rfl) (Za (Zd (Zjj (by assumption))) <| Za (Zcf (by first | assumption | exact Decidable.not_not.1 (by assumption) | simp_all)) <| Za (Zd (Zgj #[Value.agg #[vn, Value.map (some 5)], Value.agg #[vi a0, vi a1]] (L2) (a0) (a1)  y0_0 y0_1 N c0 5 8 rfl (by decide) (by decide))) <| Za (Zd (congrArg Zc (by first | rfl | simp))) Zg) rfl (by decide) (by rfl) rr ⟨⟨rfl, ⟨[], by rfl⟩, by rfl⟩, ⟨⟨rfl, ⟨[], by rfl⟩, by rfl⟩, ⟨⟨rfl, ⟨[], by rfl⟩, by rfl⟩, ⟨⟨rfl, ⟨[], by rfl⟩, by rfl⟩, ⟨⟨rfl, ⟨[], by rfl⟩, by rfl⟩, ⟨(show Zc L2 = Zc L2 from rfl), ⟨(show Zc L3 = Zc L3 from rfl), trivial⟩⟩⟩⟩⟩⟩⟩
   ·
    exact ZcE

theorem Zh0 (a0 a1 : Int) (L2 L3 : List RA) (N : Nat) (r : ZaR) (h : Zbt a0 a1 L2 L3 N = some r) : LSpec Try.prog 29 #[Value.agg #[vi a0, vi a1], vp 0 0, vp 1 0, vp 2 0, vp 3 0, vp 4 0] [.cells [vn, Value.map (some 5)] 46, .cells [Value.map (some 6)] 44, .cells [Value.func (.func 18) #[] #[]] 51, .cells [vn] 49, .cells [vn] 62, .ro (Zc L2) true, .ro (Zc L3) true] (ZfJ a0 a1 L2 L3 r) (Zfu a0 a1 L2 L3 r) :=
 Zfe Zb0 Try.func29 (by kernel_rfl) (by kernel_rfl) (fun r => by cases r <;> exact Zae _ rfl) (Zij a0 a1 L2 L3 N) h

noncomputable def ZiK (a0 a1 : Int) (L2 L3 : List RA) (k0 k1 k2 k3 k4 k5 k6 n : Nat) : Zbp := .call [(k0, .cells [vn, Value.map (some k5)] 46), (k1, .cells [Value.map (some k6)] 44), (k2, .cells [Value.func (.func 18) #[] #[]] 51), (k3, .cells [vn] 49), (k4, .cells [vn] 62), (k5, .ro (Zc L2) true), (k6, .ro (Zc L3) true)] (vtt) [] 0
def Zfv (A : Array Value) (a0 a1 : Int) (L2 L3 : List RA) (k0 k1 k2 k3 k4 k5 k6 n : Nat) : Prop := ZC Try.prog 29 A [(k0, .cells [vn, Value.map (some k5)] 46), (k1, .cells [Value.map (some k6)] 44), (k2, .cells [Value.func (.func 18) #[] #[]] 51), (k3, .cells [vn] 49), (k4, .cells [vn] 62), (k5, .ro (Zc L2) true), (k6, .ro (Zc L3) true)] (vtt) [] n 0

theorem ZiL (A : Array Value) (a0 a1 : Int) (L2 L3 : List RA) (N : Nat) (h : Zbt a0 a1 L2 L3 N = some (.r0)) (k0 k1 k2 k3 k4 k5 k6 n : Nat) (hA : A = #[Value.agg #[vi a0, vi a1], vp k0 0, vp k1 0, vp k2 0, vp k3 0, vp k4 0]) (hnd : ([k0, k1, k2, k3, k4, k5, k6] : List Nat).Nodup) (hlt : ∀ k ∈ ([k0, k1, k2, k3, k4, k5, k6] : List Nat), k < n) : Zfv A a0 a1 L2 L3 k0 k1 k2 k3 k4 k5 k6 n :=
 Zan hA (LSpec.callL (show LSpec Try.prog 29 #[Value.agg #[vi a0, vi a1], vp 0 0, vp 1 0, vp 2 0, vp 3 0, vp 4 0] [.cells [vn, Value.map (some 5)] 46, .cells [Value.map (some 6)] 44, .cells [Value.func (.func 18) #[] #[]] 51, .cells [vn] 49, .cells [vn] 62, .ro (Zc L2) true, .ro (Zc L3) true] (vtt) [some (.cells [vn, Value.map (some 5)] 46), some (.cells [Value.map (some 6)] 44), some (.cells [Value.func (.func 18) #[] #[]] 51), some (.cells [vn] 49), some (.cells [vn] 62), some (.ro (Zc L2) true), some (.ro (Zc L3) true)] from Zh0 a0 a1 L2 L3 N _ h) [k0, k1, k2, k3, k4, k5, k6] n [] rfl hnd hlt (show 7 ≤ 7 from by decide) (show ∀ j ∈ ([] : List Nat), j < 7 from by decide) (by rfl) ⟨rfl, ⟨rfl, ⟨rfl, ⟨rfl, ⟨rfl, ⟨rfl, ⟨rfl, trivial⟩⟩⟩⟩⟩⟩⟩ (by rfl) ⟨rfl, ⟨rfl, ⟨rfl, ⟨rfl, ⟨rfl, ⟨rfl, ⟨rfl, trivial⟩⟩⟩⟩⟩⟩⟩ ⟨.inr rfl, ⟨.inr rfl, ⟨.inr rfl, ⟨.inr rfl, ⟨.inr rfl, ⟨.inr rfl, ⟨.inr rfl, trivial⟩⟩⟩⟩⟩⟩⟩ rfl rfl rfl (Zf (Zk rfl rfl) (Zf (Zk rfl rfl) (Zf (Zk rfl rfl) (Zf (Zk rfl rfl) (Zf (Zk rfl rfl) (Zf (Zk rfl rfl) (Zf (Zk rfl rfl) rfl))))))) rfl)

noncomputable def Zgs (L0 : List RA) (L1 : List R_ii) : Za0 → Value
 | .r0 => vn
noncomputable def Zgk (L0 : List RA) (L1 : List R_ii) : Za0 → List (Option AObj)
 | .r0 => [some (.ro (Zc L0) true)]

def ZjO : graph_objects_walkX → Nat
 | .h1m0 v3 => 1
 | .h2m0 v3 => 2
noncomputable def Zko (L0 : List RA) (L1 : List R_ii) : graph_objects_walkX → List (Nat × Value)
 | .h1m0 v3 => [(3, vp 1 0), (7, vp 2 0), (9, vp 3 0), (10, Value.func (.func 29) #[] #[vp 1 0, vp 4 0, vp 5 0, vp 2 0, vp 3 0]), (19, ms E_ii L1), (20, vi (L1.length : Int)), (21, vi (v3 : Int))]
 | .h2m0 v3 => [(3, vp 1 0), (7, vp 2 0), (9, vp 3 0), (10, Value.func (.func 29) #[] #[vp 1 0, vp 4 0, vp 5 0, vp 2 0, vp 3 0]), (19, ms E_ii L1), (20, vi (L1.length : Int)), (21, vi (v3 : Int))]
noncomputable def Zkp (L0 : List RA) (L1 : List R_ii) : graph_objects_walkX → List (Option AObj)
 | .h1m0 v3 => [some (.ro (Zc L0) true), some (.cells [vn, Value.map (some 0)] 46), some (.cells [vn] 49), some (.cells [vn] 62), some (.cells [Value.map (some 6)] 44), some (.cells [Value.func (.func 18) #[] #[]] 51), some (.ro (Zc ([] : List RA)) true)]
 | .h2m0 v3 => [some (.ro (Zc L0) true), some (.cells [vn, Value.map (some 0)] 46), some (.cells [vn] 49), some (.cells [vn] 62), some (.cells [Value.map (some 6)] 44), some (.cells [Value.func (.func 18) #[] #[]] 51), some (.ro (Zc ([] : List RA)) true)]

noncomputable def ZaO : Nat → Code × List ZaF
 | 1 => Zbj [1, 1, 1, 1, 1, 0, 1, 3] (Zcb Try.f16) []
 | 2 => Zbj [1, 1, 1, 1, 1, 0, 1, 3, 7, 1, 1, 0, 3, 1, 1, 3] (Zcb Try.f16) []
 | _ => (.skip, [])
def Zgl : Nat → Bool
 | 1 => true
 | 2 => true
 | _ => true
noncomputable def Zgt (i : Nat) : List ZaF := match Zgl i with | true => .rnd i :: (ZaO i).2 | false => (ZaO i).2

noncomputable def Za1 (L0 : List RA) (L1 : List R_ii) (N : Nat) : Mach := ⟨Try.f16, [.ro (Zc L0) true], graph_objects_walkX, Za0, Zb3 L0 L1 N, ZjO, ZaO, Zgl, Zko L0 L1, Zkp L0 L1, Zgs L0 L1, Zgk L0 L1⟩

theorem ZhU (L0 : List RA) (L1 : List R_ii) (v3 N : Nat) : (Za1 L0 L1 N).Ok Try.prog Zq (.h1m0 v3 : graph_objects_walkX) (Zb3 L0 L1 N (.h1m0 v3 : graph_objects_walkX)) := by
 show (Za1 L0 L1 N).Ok Try.prog Zq (.h1m0 v3 : graph_objects_walkX) (ZaU L0 L1 N v3)
 unfold ZaU
 refine Mach.ok_ite (fun g0 => ?_) (fun g0 => ?_)
 ·
  refine Mach.ok_bind (fun z1 c1 => ?_)
  cases z1 with
  | r0 =>
   exact Mach.ok_head (bK := ZaO 2) (M := Za1 L0 L1 N) (cd := 1000000) (cm := 0) (y := (.h2m0 (v3) : graph_objects_walkX)) (fu := 4000) (orc := (Zp [(0, true)] [] [(0, v3)] [(0, [.i (L1.getD v3 R_ii.z).a0, .i (L1.getD v3 R_ii.z).a1])] [(1, (ZiK ((L1.getD v3 R_ii.z).a0) ((L1.getD v3 R_ii.z).a1) (L0) (([] : List RA))   1 4 5 2 3 0 6 8))])) (live := [0, 1, 2, 3, 4, 5, 6]) (tv := fun _ => [some (vp 1 0), some (vp 2 0), some (vp 3 0), some (Value.func (.func 29) #[] #[vp 1 0, vp 4 0, vp 5 0, vp 2 0, vp 3 0]), some (ms E_ii L1), some (vi (L1.length : Int)), some (vi (v3 : Int))]) (bl := [some (.ro (Zc L0) true), some (.cells [vn, Value.map (some 0)] 46), some (.cells [vn] 49), some (.cells [vn] 62), some (.cells [Value.map (some 6)] 44), some (.cells [Value.func (.func 18) #[] #[]] 51), some (.ro (Zc ([] : List RA)) true)]) (ob := [(dP (Zfv #[Value.agg #[vi (L1.getD v3 R_ii.z).a0, vi (L1.getD v3 R_ii.z).a1], vp 1 0, vp 4 0, vp 5 0, vp 2 0, vp 3 0] ((L1.getD v3 R_ii.z).a0) ((L1.getD v3 R_ii.z).a1) (L0) (([] : List RA))   1 4 5 2 3 0 6 8), true), (dS [vn, Value.map (some 0)], true), (dS [Value.map (some 6)], true), (dS [Value.func (.func 18) #[] #[]], true), (dS [vn], true), (dS [vn], true), (dS (Zc L0), true), (dS (Zc ([] : List RA)), true), (dP (Zaj (code (ZI E_ii L1)) (0 + (v3 * 2)) 2 = some [.i (L1.getD v3 R_ii.z).a0, .i (L1.getD v3 R_ii.z).a1]), true), (Nat.blt v3 L1.length, true), ((v3 : Int) == Int.ofNat v3, true), ((decide ((v3 : Int) < (L1.length : Int))), true)]) rfl rfl (show ∀ j ∈ Zw (ZaO 2).2, j ∈ Zw (Zgt 1) from by decide +kernel) (fun gv => by kernel_rfl) (Za (Zd (ZiL #[Value.agg #[vi (L1.getD v3 R_ii.z).a0, vi (L1.getD v3 R_ii.z).a1], vp 1 0, vp 4 0, vp 5 0, vp 2 0, vp 3 0] ((L1.getD v3 R_ii.z).a0) ((L1.getD v3 R_ii.z).a1) (L0) (([] : List RA))   N c1 1 4 5 2 3 0 6 8 rfl (by decide) (by decide))) <| Za (Zd (Zf rfl (Zf rfl rfl))) <| Za (Zd (Zf rfl rfl)) <| Za (Zd (Zf rfl rfl)) <| Za (Zd (Zf rfl rfl)) <| Za (Zd (Zf rfl rfl)) <| Za (Zd (congrArg Zc (by first | rfl | simp))) <| Za (Zd (congrArg Zc (by first | rfl | simp))) <| Za (Zd (ZaB (E := E_ii) (L := L1) (i := v3) (q := 0) (by omega) (show (0 + (v3 * 2)) = v3 * 2 + 0 from by omega) (show 0 + 2 ≤ 2 from by decide) rfl)) <| oB <| oI <| oY Zg) rfl (by decide) (by rfl) (fun _ => ⟨rr, ⟨rr, ⟨rr, ⟨rr, ⟨rr, ⟨rr, ⟨rr, trivial⟩⟩⟩⟩⟩⟩⟩) ⟨(show Zc L0 = Zc L0 from rfl), ⟨⟨rfl, ⟨[], by rfl⟩, by rfl⟩, ⟨⟨rfl, ⟨[], by rfl⟩, by rfl⟩, ⟨⟨rfl, ⟨[], by rfl⟩, by rfl⟩, ⟨⟨rfl, ⟨[], by rfl⟩, by rfl⟩, ⟨⟨rfl, ⟨[], by rfl⟩, by rfl⟩, ⟨(show Zc ([] : List RA) = Zc ([] : List RA) from rfl), trivial⟩⟩⟩⟩⟩⟩⟩
 ·
  exact Mach.ok_fin (M := Za1 L0 L1 N) (cd := 1000000) (cm := 0) (r := (.r0 : Za0)) (fu := 4000) (orc := (Zp [(0, false)] [] [] [] [])) (live := [0]) (u := vn) (bl := [some (.ro (Zc L0) true)]) (ob := [((decide ((v3 : Int) < (L1.length : Int))), false)]) (fun gv => by kernel_rfl) (oN Zg) rfl (by decide) (by rfl) rr ⟨(show Zc L0 = Zc L0 from rfl), trivial⟩

theorem ZhV (L0 : List RA) (L1 : List R_ii) (v3 N : Nat) : (Za1 L0 L1 N).Ok Try.prog Zq (.h2m0 v3 : graph_objects_walkX) (Zb3 L0 L1 N (.h2m0 v3 : graph_objects_walkX)) := by
 show (Za1 L0 L1 N).Ok Try.prog Zq (.h2m0 v3 : graph_objects_walkX) (ZbU L0 L1 N v3)
 unfold ZbU
 refine Mach.ok_ite (fun g0 => ?_) (fun g0 => ?_)
 ·
  exact Mach.ok_next (M := Za1 L0 L1 N) (cd := 1000000) (cm := 0) (y := (.h1m0 ((v3 + 1)) : graph_objects_walkX)) (fu := 4000) (orc := (Zp [] [(0, (((v3 + 1) : Nat) : Int))] [] [] [])) (live := [0, 1, 2, 3, 4, 5, 6]) (tv := fun _ => [some (vp 1 0), some (vp 2 0), some (vp 3 0), some (Value.func (.func 29) #[] #[vp 1 0, vp 4 0, vp 5 0, vp 2 0, vp 3 0]), some (ms E_ii L1), some (vi (L1.length : Int)), some (vi (((v3 + 1) : Nat) : Int))]) (bl := [some (.ro (Zc L0) true), some (.cells [vn, Value.map (some 0)] 46), some (.cells [vn] 49), some (.cells [vn] 62), some (.cells [Value.map (some 6)] 44), some (.cells [Value.func (.func 18) #[] #[]] 51), some (.ro (Zc ([] : List RA)) true)]) (ob := [((IntKind.i64.wrap ((v3 : Int) + (1 : Int))) == (((v3 + 1) : Nat) : Int), true)]) rfl (show 1 ∈ Zw (Zgt 2) from by decide +kernel) (fun gv => by kernel_rfl) (Za (beq_iff_eq.2 ((wrap_i64 ltA).trans (by first | rfl | omega))) Zg) rfl (by decide) (by rfl) (fun _ => ⟨rr, ⟨rr, ⟨rr, ⟨rr, ⟨rr, ⟨rr, ⟨rr, trivial⟩⟩⟩⟩⟩⟩⟩) ⟨(show Zc L0 = Zc L0 from rfl), ⟨⟨rfl, ⟨[], by rfl⟩, by rfl⟩, ⟨⟨rfl, ⟨[], by rfl⟩, by rfl⟩, ⟨⟨rfl, ⟨[], by rfl⟩, by rfl⟩, ⟨⟨rfl, ⟨[], by rfl⟩, by rfl⟩, ⟨⟨rfl, ⟨[], by rfl⟩, by rfl⟩, ⟨(show Zc ([] : List RA) = Zc ([] : List RA) from rfl), trivial⟩⟩⟩⟩⟩⟩⟩
 ·
  exact Mach.ok_none

theorem Zjo (L0 : List RA) (L1 : List R_ii) (N : Nat) : (Za1 L0 L1 N).Enter Try.prog Zq #[Value.agg #[vn, Value.map (some 0)], ms E_ii L1, Value.func (.func 18) #[] #[]] (Zed L0 L1 N) := by
 unfold Zed
 exact Mach.en_head (bK := ZaO 1) (M := Za1 L0 L1 N) (cd := 1000000) (cm := 0) (y := (.h1m0 (0) : graph_objects_walkX)) (fu := 4000) (orc := (Zp [] [] [] [] [])) (live := [0, 1, 3, 6, 5, 2, 4]) (tv := [some (vp 1 0), some (vp 3 0), some (vp 6 0), some (Value.func (.func 29) #[] #[vp 1 0, vp 5 0, vp 2 0, vp 3 0, vp 6 0]), some (ms E_ii L1), some (vi (L1.length : Int)), some (vq)]) (bl := [some (.ro (Zc L0) true), some (.cells [vn, Value.map (some 0)] 46), some (.cells [vn] 49), some (.cells [vn] 62), some (.cells [Value.map (some 4)] 44), some (.cells [Value.func (.func 18) #[] #[]] 51), some (.ro (Zc ([] : List RA)) true)]) (ob := []) rfl rfl (show Zw (ZaO 1).2 = [] from rfl) (by kernel_rfl) Zg rfl (by decide) (by rfl) ⟨rr, ⟨rr, ⟨rr, ⟨rr, ⟨rr, ⟨rr, ⟨⟨Eq.trans (show (vi ((0 : Nat) : Int) : Value) = vq from (congrArg (Value.int .i64) (by first | rfl | omega))) (by rfl), by rfl⟩, trivial⟩⟩⟩⟩⟩⟩⟩ ⟨(show Zc L0 = Zc L0 from rfl), ⟨⟨rfl, ⟨[], by rfl⟩, by rfl⟩, ⟨⟨rfl, ⟨[], by rfl⟩, by rfl⟩, ⟨⟨rfl, ⟨[], by rfl⟩, by rfl⟩, ⟨⟨rfl, ⟨[], by rfl⟩, by rfl⟩, ⟨⟨rfl, ⟨[], by rfl⟩, by rfl⟩, ⟨(show Zc ([] : List RA) = Zc ([] : List RA) from rfl), trivial⟩⟩⟩⟩⟩⟩⟩

theorem Zik (L0 : List RA) (L1 : List R_ii) (N : Nat) (r : Za0) (h : Zd0 L0 L1 N = some r) : LSpec Try.prog 16 #[Value.agg #[vn, Value.map (some 0)], ms E_ii L1, Value.func (.func 18) #[] #[]] [.ro (Zc L0) true] (Zgs L0 L1 r) (Zgk L0 L1 r) :=
 Mach.spec Zb0 (Za1 L0 L1 N) Try.func16 (by kernel_rfl) (by kernel_rfl) (fun x => by cases x <;> exact Zae _ rfl) (fun r => by cases r <;> exact Zae _ rfl) (fun x => by
  cases x with
  | h1m0 _ => exact fun _ => (show ¬ (1 ∈ Zw (ZaO 1).2) from by decide +kernel)
  | h2m0 _ => exact fun _ => (show ¬ (2 ∈ Zw (ZaO 2).2) from by decide +kernel)
  ) (fun x => (show (Za1 L0 L1 N).Ok Try.prog Zq x (Zb3 L0 L1 N x) from by
  cases x with
  | h1m0 v3 => exact ZhU L0 L1 v3 N
  | h2m0 v3 => exact ZhV L0 L1 v3 N
  )) (Zjo L0 L1 N) (n := N) h

noncomputable def ZjP (L0 : List RA) (L1 : List R_ii) (k0 n : Nat) : Zbp := .call [(k0, .ro (Zc L0) true)] (vn) [] 0
def Zgm (A : Array Value) (L0 : List RA) (L1 : List R_ii) (k0 n : Nat) : Prop := ZC Try.prog 16 A [(k0, .ro (Zc L0) true)] (vn) [] n 0

theorem ZjQ (A : Array Value) (L0 : List RA) (L1 : List R_ii) (N : Nat) (h : Zd0 L0 L1 N = some (.r0)) (k0 n : Nat) (hA : A = #[Value.agg #[vn, Value.map (some k0)], ms E_ii L1, Value.func (.func 18) #[] #[]]) (hnd : ([k0] : List Nat).Nodup) (hlt : ∀ k ∈ ([k0] : List Nat), k < n) : Zgm A L0 L1 k0 n :=
 Zan hA (LSpec.callL (show LSpec Try.prog 16 #[Value.agg #[vn, Value.map (some 0)], ms E_ii L1, Value.func (.func 18) #[] #[]] [.ro (Zc L0) true] (vn) [some (.ro (Zc L0) true)] from Zik L0 L1 N _ h) [k0] n [] rfl hnd hlt (show 1 ≤ 1 from by decide) (show ∀ j ∈ ([] : List Nat), j < 1 from by decide) (by rfl) ⟨rfl, trivial⟩ (by rfl) ⟨rfl, trivial⟩ ⟨.inr rfl, trivial⟩ rfl rfl rfl (Zf (Zk rfl rfl) rfl) rfl)

noncomputable def Zgn (L0 : List R_ii) : Za9 → Value
 | .r0 => ms E_ii ([] : List R_ii)
 | .r1 => vs 0 0 L0.length L0.length
noncomputable def ZfM (L0 : List R_ii) : Za9 → List (Option AObj)
 | .r0 => []
 | .r1 => [some (.cells (Zb E_ii L0) 25)]

theorem ZcN (L0 : List R_ii) (N : Nat) (r : Za9) (h : Zaz L0 N = some r) : LSpec Try.prog 24 #[ms E_ii L0] [] (Zgn L0 r) (ZfM L0 r) := by
 unfold Zaz at h
 by_cases h0 : (L0.length : Int) = (0 : Int)
 · rw [if_pos h0] at h
   obtain rfl := (Option.some.inj h).symm
   have hL : L0 = [] := List.length_eq_zero_iff.1 (by omega)
   subst hL
   exact Zt7 (E := E_ii) (L := []) Zpt (Nat.zero_le _) (by decide)
 · rw [if_neg h0] at h
   by_cases h1 : L0.length ≤ 100000
   · rw [if_pos h1] at h
     obtain rfl := (Option.some.inj h).symm
     exact ZsN (E := E_ii) (L := L0) Zpt (fun e => h0 (by rw [e]; rfl)) (Nat.le_trans h1 (by decide)) (by show L0.length * 16 ≤ _; omega)
   · rw [if_neg h1] at h; cases h

noncomputable def ZfN (L0 : List R_ii) (n : Nat) : Zbp := .call [] (ms E_ii ([] : List R_ii)) [] 0
def Zdo (A : Array Value) (L0 : List R_ii) (n : Nat) : Prop := ZC Try.prog 24 A [] (ms E_ii ([] : List R_ii)) [] n 0

theorem ZfO (A : Array Value) (L0 : List R_ii) (N : Nat) (h : Zaz L0 N = some (.r0)) (n : Nat) (hA : A = #[ms E_ii L0]) (hnd : ([] : List Nat).Nodup) (hlt : ∀ k ∈ ([] : List Nat), k < n) : Zdo A L0  n :=
 Zan hA (LSpec.callL (show LSpec Try.prog 24 #[ms E_ii L0] [] (ms E_ii ([] : List R_ii)) [] from ZcN L0 N _ h) [] n [] rfl hnd hlt (show 0 ≤ 0 from by decide) (show ∀ j ∈ ([] : List Nat), j < 0 from by decide) (by rfl) trivial (by rfl) trivial trivial rfl rfl rfl rfl rfl)

noncomputable def ZfP (L0 : List R_ii) (n : Nat) : Zbp := .call [] (vs n 0 L0.length L0.length) [(n, some (.cells (Zb E_ii L0) 25))] 1
def Zdp (A : Array Value) (L0 : List R_ii) (n : Nat) : Prop := ZC Try.prog 24 A [] (vs n 0 L0.length L0.length) [(n, some (.cells (Zb E_ii L0) 25))] n 1

theorem ZfQ (A : Array Value) (L0 : List R_ii) (N : Nat) (h : Zaz L0 N = some (.r1)) (n : Nat) (hA : A = #[ms E_ii L0]) (hnd : ([] : List Nat).Nodup) (hlt : ∀ k ∈ ([] : List Nat), k < n) : Zdp A L0  n :=
 Zan hA (LSpec.callL (show LSpec Try.prog 24 #[ms E_ii L0] [] (vs 0 0 L0.length L0.length) [some (.cells (Zb E_ii L0) 25)] from ZcN L0 N _ h) [] n [0] rfl hnd hlt (show 0 ≤ 1 from by decide) (show ∀ j ∈ ([0] : List Nat), j < 1 from by decide) (by rfl) trivial (by rfl) ⟨(Zt _ _ _), trivial⟩ ⟨(by decide), trivial⟩ rfl rfl rfl rfl (Zf (Zk rfl (ZaQ (ZD _ _ _))) rfl))

noncomputable def ZhW (L0 : List R_ii) (L1 : List RB) : ZM → Value
 | .r0 => ms E_ii ([] : List R_ii)
 | .r1 w1 => vs 2 0 w1.length w1.length
noncomputable def Zhl (L0 : List R_ii) (L1 : List RB) : ZM → List (Option AObj)
 | .r0 => [some (.cells [Value.map (some 1)] 57), some (.ro (Zr L1) true)]
 | .r1 w1 => [some (.cells [Value.map (some 1)] 57), some (.ro (Zr L1) true), some (.cells (Zb E_ii w1) 25)]

noncomputable def ZmS (L0 : List R_ii) (L1 : List RB) : ZM → Value
 | .r0 => ms E_ii ([] : List R_ii)
 | .r1 w1 => ms E_ii w1
noncomputable def Zmj (L0 : List R_ii) (L1 : List RB) : ZM → List (Option AObj)
 | .r0 => [some (.cells [Value.map (some 1)] 57), some (.ro (Zr L1) true)]
 | .r1 w1 => [some (.cells [Value.map (some 1)] 57), some (.ro (Zr L1) true)]

def Zmk : graph_Rename_1X → Nat
 | .h1m0 => 1
 | .h1m1 v1 v3 => 1
noncomputable def ZmT (L0 : List R_ii) (L1 : List RB) : graph_Rename_1X → List (Nat × Value)
 | .h1m0 => [(1, vp 0 0), (4, ms E_ii ([] : List R_ii)), (11, ms E_ii ([] : List R_ii)), (12, vq), (13, vq)]
 | .h1m1 v1 v3 => [(1, vp 0 0), (4, vs 2 0 v1.length v1.length), (11, vs 2 0 v1.length v1.length), (12, vi (L0.length : Int)), (13, vi (v3 : Int))]
noncomputable def ZmU (L0 : List R_ii) (L1 : List RB) : graph_Rename_1X → List (Option AObj)
 | .h1m0 => [some (.cells [Value.map (some 1)] 57), some (.ro (Zr L1) true)]
 | .h1m1 v1 v3 => [some (.cells [Value.map (some 1)] 57), some (.ro (Zr L1) true), some (.cells (Zb E_ii v1) 25)]

noncomputable def ZbH : Nat → Code × List ZaF
 | 1 => Zbj [1, 1, 0, 1, 3] (Zcb Try.f23) []
 | _ => (.skip, [])
def ZhX : Nat → Bool
 | 1 => true
 | _ => true
noncomputable def Zez (i : Nat) : List ZaF := match ZhX i with | true => .rnd i :: (ZbH i).2 | false => (ZbH i).2

noncomputable def Zaw (L0 : List R_ii) (L1 : List RB) (N : Nat) : Mach := ⟨Try.f23, [.cells [Value.map (some 1)] 57, .ro (Zr L1) true], graph_Rename_1X, ZM, Zcg L0 L1 N, Zmk, ZbH, ZhX, ZmT L0 L1, ZmU L0 L1, ZhW L0 L1, Zhl L0 L1⟩

theorem ZjR (L0 : List R_ii) (L1 : List RB) (N : Nat) : (Zaw L0 L1 N).Ok Try.prog Zq (.h1m0 : graph_Rename_1X) (Zcg L0 L1 N (.h1m0 : graph_Rename_1X)) := by
 show (Zaw L0 L1 N).Ok Try.prog Zq (.h1m0 : graph_Rename_1X) (Zep L0 L1 N)
 unfold Zep
 exact Mach.ok_fin (M := Zaw L0 L1 N) (cd := 1000000) (cm := 0) (r := (.r0 : ZM)) (fu := 4000) (orc := (Zp [] [] [] [] [])) (live := [0, 1]) (u := ms E_ii ([] : List R_ii)) (bl := [some (.cells [Value.map (some 1)] 57), some (.ro (Zr L1) true)]) (ob := []) (fun gv => by kernel_rfl) Zg rfl (by decide) (by rfl) rr ⟨⟨rfl, ⟨[], by rfl⟩, by rfl⟩, ⟨(show Zr L1 = Zr L1 from rfl), trivial⟩⟩

theorem ZjS (L0 : List R_ii) (L1 : List RB) (v1 : List R_ii) (v3 N : Nat) : (Zaw L0 L1 N).Ok Try.prog Zq (.h1m1 v1 v3 : graph_Rename_1X) (Zcg L0 L1 N (.h1m1 v1 v3 : graph_Rename_1X)) := by
 show (Zaw L0 L1 N).Ok Try.prog Zq (.h1m1 v1 v3 : graph_Rename_1X) (Zb8 L0 L1 N v1 v3)
 unfold Zb8
 refine Mach.ok_ite (fun g0 => ?_) (fun g0 => ?_)
 ·
  refine Mach.ok_ite (fun g1 => ?_) (fun g1 => ?_)
  ·
   refine Mach.ok_ite (fun g2 => ?_) (fun g2 => ?_)
   ·
    refine Mach.ok_ite (fun g3 => ?_) (fun g3 => ?_)
    ·
     exact Mach.ok_next (M := Zaw L0 L1 N) (cd := 1000000) (cm := 0) (y := (.h1m1 (v1) ((v3 + 1)) : graph_Rename_1X)) (fu := 4000) (orc := (Zp [(0, true), (1, true)] [(0, (((v3 + 1) : Nat) : Int))] [(0, v3)] [(0, [.i (v1.getD v3 R_ii.z).a0, .i (v1.getD v3 R_ii.z).a1])] [])) (live := [0, 1, 2]) (tv := fun _ => [some (vp 0 0), some (vs 2 0 v1.length v1.length), some (vs 2 0 v1.length v1.length), some (vi (L0.length : Int)), some (vi (((v3 + 1) : Nat) : Int))]) (bl := [some (.cells [Value.map (some 1)] 57), some (.ro (Zr L1) true), some (.cells (Zb E_ii v1) 25)]) (ob := [((IntKind.i64.wrap ((v3 : Int) + (1 : Int))) == (((v3 + 1) : Nat) : Int), true), (((v1.getD v3 R_ii.z).a0 != (2 : Int)), true), (Zs (Zl 2 (List.drop (0 + (v3 * 2)) (Zb E_ii v1))) [.i (v1.getD v3 R_ii.z).a0, .i (v1.getD v3 R_ii.z).a1], true), (Nat.blt v3 v1.length, true), ((v3 : Int) == Int.ofNat v3, true), ((decide ((v3 : Int) < (L0.length : Int))), true)]) rfl (show 1 ∈ Zw (Zez 1) from by decide +kernel) (fun gv => by kernel_rfl) (Za (beq_iff_eq.2 ((wrap_i64 ltA).trans (by first | rfl | omega))) <| oD <| Za (Zh (E := E_ii) (L := v1) (i := v3) (q := 0) (by omega) (show (0 + (v3 * 2)) = v3 * 2 + 0 from by omega) (show 0 + 2 ≤ 2 from by decide) rfl rfl) <| oB <| oI <| oY Zg) rfl (by decide) (by rfl) (fun _ => ⟨rr, ⟨rr, ⟨rr, ⟨rr, ⟨rr, trivial⟩⟩⟩⟩⟩) ⟨⟨rfl, ⟨[], by rfl⟩, by rfl⟩, ⟨(show Zr L1 = Zr L1 from rfl), ⟨(Ze (E := E_ii) (α := R_ii) _ v1 _), trivial⟩⟩⟩
    ·
     exact Mach.ok_none
   ·
    refine Mach.ok_ite (fun g3 => ?_) (fun g3 => ?_)
    ·
     refine Mach.ok_ite (fun g4 => ?_) (fun g4 => ?_)
     ·
      exact Mach.ok_next (M := Zaw L0 L1 N) (cd := 1000000) (cm := 0) (y := (.h1m1 (v1) ((v3 + 1)) : graph_Rename_1X)) (fu := 4000) (orc := (Zp [(0, true), (1, false), (2, true)] [(0, (((v3 + 1) : Nat) : Int))] [(0, v3)] [(0, [.i (v1.getD v3 R_ii.z).a0, .i (v1.getD v3 R_ii.z).a1])] [])) (live := [0, 1, 2]) (tv := fun _ => [some (vp 0 0), some (vs 2 0 v1.length v1.length), some (vs 2 0 v1.length v1.length), some (vi (L0.length : Int)), some (vi (((v3 + 1) : Nat) : Int))]) (bl := [some (.cells [Value.map (some 1)] 57), some (.ro (Zr L1) true), some (.cells (Zb E_ii v1) 25)]) (ob := [((IntKind.i64.wrap ((v3 : Int) + (1 : Int))) == (((v3 + 1) : Nat) : Int), true), ((((v1.getD v3 R_ii.z).a0 == (2 : Int)) && (((v1.getD v3 R_ii.z).a1 == (0 : Int)) && true)), true), (((v1.getD v3 R_ii.z).a0 != (2 : Int)), false), (Zs (Zl 2 (List.drop (0 + (v3 * 2)) (Zb E_ii v1))) [.i (v1.getD v3 R_ii.z).a0, .i (v1.getD v3 R_ii.z).a1], true), (Nat.blt v3 v1.length, true), ((v3 : Int) == Int.ofNat v3, true), ((decide ((v3 : Int) < (L0.length : Int))), true)]) rfl (show 1 ∈ Zw (Zez 1) from by decide +kernel) (fun gv => by kernel_rfl) (Za (beq_iff_eq.2 ((wrap_i64 ltA).trans (by first | rfl | omega))) <| Za (by first | (simp only [beq_self_eq_true, Bool.and_self]; done) | (simp only [Bool.and_true, Bool.and_eq_true, beq_iff_eq] <;> first | omega | (simp_all; done) | grind)) <| oE <| Za (Zh (E := E_ii) (L := v1) (i := v3) (q := 0) (by omega) (show (0 + (v3 * 2)) = v3 * 2 + 0 from by omega) (show 0 + 2 ≤ 2 from by decide) rfl rfl) <| oB <| oI <| oY Zg) rfl (by decide) (by rfl) (fun _ => ⟨rr, ⟨rr, ⟨rr, ⟨rr, ⟨rr, trivial⟩⟩⟩⟩⟩) ⟨⟨rfl, ⟨[], by rfl⟩, by rfl⟩, ⟨(show Zr L1 = Zr L1 from rfl), ⟨(Ze (E := E_ii) (α := R_ii) _ v1 _), trivial⟩⟩⟩
     ·
      exact Mach.ok_none
    ·
     refine Mach.ok_ite (fun g4 => ?_) (fun g4 => ?_)
     ·
      refine Mach.ok_ite (fun g5 => ?_) (fun g5 => ?_)
      ·
       exact Mach.ok_next (M := Zaw L0 L1 N) (cd := 1000000) (cm := 0) (y := (.h1m1 ((v1.set v3 (⟨(Z1 L1 (v1.getD v3 R_ii.z).a0 (v1.getD v3 R_ii.z).a1), (Z2 L1 (v1.getD v3 R_ii.z).a0 (v1.getD v3 R_ii.z).a1)⟩ : R_ii))) ((v3 + 1)) : graph_Rename_1X)) (fu := 4000) (orc := (Zp [(0, true), (1, false), (2, false)] [(0, (((v3 + 1) : Nat) : Int))] [(0, v3), (1, v3)] [(0, [.i (v1.getD v3 R_ii.z).a0, .i (v1.getD v3 R_ii.z).a1])] [(2, .lk (some (Value.agg #[vi (Z1 L1 (v1.getD v3 R_ii.z).a0 (v1.getD v3 R_ii.z).a1), vi (Z2 L1 (v1.getD v3 R_ii.z).a0 (v1.getD v3 R_ii.z).a1)]))), (4, .st (Zb E_ii (v1.set v3 (⟨(Z1 L1 (v1.getD v3 R_ii.z).a0 (v1.getD v3 R_ii.z).a1), (Z2 L1 (v1.getD v3 R_ii.z).a0 (v1.getD v3 R_ii.z).a1)⟩ : R_ii))))])) (live := [0, 1, 2]) (tv := fun _ => [some (vp 0 0), some (vs 2 0 v1.length v1.length), some (vs 2 0 v1.length v1.length), some (vi (L0.length : Int)), some (vi (((v3 + 1) : Nat) : Int))]) (bl := [some (.cells [Value.map (some 1)] 57), some (.ro (Zr L1) true), some (.cells (Zb E_ii (v1.set v3 (⟨(Z1 L1 (v1.getD v3 R_ii.z).a0 (v1.getD v3 R_ii.z).a1), (Z2 L1 (v1.getD v3 R_ii.z).a0 (v1.getD v3 R_ii.z).a1)⟩ : R_ii))) 25)]) (ob := [((IntKind.i64.wrap ((v3 : Int) + (1 : Int))) == (((v3 + 1) : Nat) : Int), true), (dP ((0 + (v3 * 2)) + ([vi (Z1 L1 (v1.getD v3 R_ii.z).a0 (v1.getD v3 R_ii.z).a1), vi (Z2 L1 (v1.getD v3 R_ii.z).a0 (v1.getD v3 R_ii.z).a1)] : List Value).length ≤ ((Zb E_ii v1) : List Value).length ∧ Zd3 (Zb E_ii v1) (0 + (v3 * 2)) [vi (Z1 L1 (v1.getD v3 R_ii.z).a0 (v1.getD v3 R_ii.z).a1), vi (Z2 L1 (v1.getD v3 R_ii.z).a0 (v1.getD v3 R_ii.z).a1)] = (Zb E_ii (v1.set v3 (⟨(Z1 L1 (v1.getD v3 R_ii.z).a0 (v1.getD v3 R_ii.z).a1), (Z2 L1 (v1.getD v3 R_ii.z).a0 (v1.getD v3 R_ii.z).a1)⟩ : R_ii)))), true), (Nat.blt v3 v1.length, true), ((v3 : Int) == Int.ofNat v3, true), (dP ((Zar Try.prog 25 (Value.agg #[vi (v1.getD v3 R_ii.z).a0, vi (v1.getD v3 R_ii.z).a1]) (Zbg L1)).map (Option.map Prod.snd) = some (some (Value.agg #[vi (Z1 L1 (v1.getD v3 R_ii.z).a0 (v1.getD v3 R_ii.z).a1), vi (Z2 L1 (v1.getD v3 R_ii.z).a0 (v1.getD v3 R_ii.z).a1)]))), true), ((((v1.getD v3 R_ii.z).a0 == (2 : Int)) && (((v1.getD v3 R_ii.z).a1 == (0 : Int)) && true)), false), (((v1.getD v3 R_ii.z).a0 != (2 : Int)), false), (Zs (Zl 2 (List.drop (0 + (v3 * 2)) (Zb E_ii v1))) [.i (v1.getD v3 R_ii.z).a0, .i (v1.getD v3 R_ii.z).a1], true), (Nat.blt v3 v1.length, true), ((v3 : Int) == Int.ofNat v3, true), ((decide ((v3 : Int) < (L0.length : Int))), true)]) rfl (show 1 ∈ Zw (Zez 1) from by decide +kernel) (fun gv => by kernel_rfl) (Za (beq_iff_eq.2 ((wrap_i64 ltA).trans (by first | rfl | omega))) <| Za (Zd (ZeB (E := E_ii) (L := v1) (i := v3) (q := 0) (l := [vi (Z1 L1 (v1.getD v3 R_ii.z).a0 (v1.getD v3 R_ii.z).a1), vi (Z2 L1 (v1.getD v3 R_ii.z).a0 (v1.getD v3 R_ii.z).a1)]) (⟨(Z1 L1 (v1.getD v3 R_ii.z).a0 (v1.getD v3 R_ii.z).a1), (Z2 L1 (v1.getD v3 R_ii.z).a0 (v1.getD v3 R_ii.z).a1)⟩ : R_ii) (by omega) (show (0 + (v3 * 2)) = v3 * 2 + 0 from by omega) (show 0 + 2 ≤ 2 from by decide) rfl)) <| oB <| oI <| Za (Zd (ZkX (by assumption))) <| Za (Bool.eq_false_iff.2 (by simp only [ne_eq, Bool.and_true, Bool.and_eq_true, beq_iff_eq]; first | omega | (intro hh; simp_all; done) | (intro hh; grind))) <| oE <| Za (Zh (E := E_ii) (L := v1) (i := v3) (q := 0) (by omega) (show (0 + (v3 * 2)) = v3 * 2 + 0 from by omega) (show 0 + 2 ≤ 2 from by decide) rfl rfl) <| oB <| oI <| oY Zg) rfl (by decide) (by rfl) (fun _ => ⟨rr, ⟨⟨Eq.trans (show (vs 2 0 (v1.set v3 (⟨(Z1 L1 (v1.getD v3 R_ii.z).a0 (v1.getD v3 R_ii.z).a1), (Z2 L1 (v1.getD v3 R_ii.z).a0 (v1.getD v3 R_ii.z).a1)⟩ : R_ii)).length (v1.set v3 (⟨(Z1 L1 (v1.getD v3 R_ii.z).a0 (v1.getD v3 R_ii.z).a1), (Z2 L1 (v1.getD v3 R_ii.z).a0 (v1.getD v3 R_ii.z).a1)⟩ : R_ii)).length : Value) = vs 2 0 v1.length v1.length from (Zay rfl eqA eqA)) (by rfl), by rfl⟩, ⟨⟨Eq.trans (show (vs 2 0 (v1.set v3 (⟨(Z1 L1 (v1.getD v3 R_ii.z).a0 (v1.getD v3 R_ii.z).a1), (Z2 L1 (v1.getD v3 R_ii.z).a0 (v1.getD v3 R_ii.z).a1)⟩ : R_ii)).length (v1.set v3 (⟨(Z1 L1 (v1.getD v3 R_ii.z).a0 (v1.getD v3 R_ii.z).a1), (Z2 L1 (v1.getD v3 R_ii.z).a0 (v1.getD v3 R_ii.z).a1)⟩ : R_ii)).length : Value) = vs 2 0 v1.length v1.length from (Zay rfl eqA eqA)) (by rfl), by rfl⟩, ⟨rr, ⟨rr, trivial⟩⟩⟩⟩⟩) ⟨⟨rfl, ⟨[], by rfl⟩, by rfl⟩, ⟨(show Zr L1 = Zr L1 from rfl), ⟨(Ze (E := E_ii) (α := R_ii) _ (v1.set v3 (⟨(Z1 L1 (v1.getD v3 R_ii.z).a0 (v1.getD v3 R_ii.z).a1), (Z2 L1 (v1.getD v3 R_ii.z).a0 (v1.getD v3 R_ii.z).a1)⟩ : R_ii)) _), trivial⟩⟩⟩
      ·
       exact Mach.ok_none
     ·
      refine Mach.ok_ite (fun g5 => ?_) (fun g5 => ?_)
      ·
       exact Mach.ok_next (M := Zaw L0 L1 N) (cd := 1000000) (cm := 0) (y := (.h1m1 ((v1.set v3 (⟨(2 : Int), (1125899906842625 : Int)⟩ : R_ii))) ((v3 + 1)) : graph_Rename_1X)) (fu := 4000) (orc := (Zp [(0, true), (1, false), (2, false)] [(0, (((v3 + 1) : Nat) : Int))] [(0, v3), (1, v3)] [(0, [.i (v1.getD v3 R_ii.z).a0, .i (v1.getD v3 R_ii.z).a1])] [(2, .lk (none)), (5, .st (Zb E_ii (v1.set v3 (⟨(2 : Int), (1125899906842625 : Int)⟩ : R_ii))))])) (live := [0, 1, 2]) (tv := fun _ => [some (vp 0 0), some (vs 2 0 v1.length v1.length), some (vs 2 0 v1.length v1.length), some (vi (L0.length : Int)), some (vi (((v3 + 1) : Nat) : Int))]) (bl := [some (.cells [Value.map (some 1)] 57), some (.ro (Zr L1) true), some (.cells (Zb E_ii (v1.set v3 (⟨(2 : Int), (1125899906842625 : Int)⟩ : R_ii))) 25)]) (ob := [((IntKind.i64.wrap ((v3 : Int) + (1 : Int))) == (((v3 + 1) : Nat) : Int), true), (dP ((0 + (v3 * 2)) + ([vi (2 : Int), vi (1125899906842625 : Int)] : List Value).length ≤ ((Zb E_ii v1) : List Value).length ∧ Zd3 (Zb E_ii v1) (0 + (v3 * 2)) [vi (2 : Int), vi (1125899906842625 : Int)] = (Zb E_ii (v1.set v3 (⟨(2 : Int), (1125899906842625 : Int)⟩ : R_ii)))), true), (Nat.blt v3 v1.length, true), ((v3 : Int) == Int.ofNat v3, true), (dP ((Zar Try.prog 25 (Value.agg #[vi (v1.getD v3 R_ii.z).a0, vi (v1.getD v3 R_ii.z).a1]) (Zbg L1)).map (Option.map Prod.snd) = some (none)), true), ((((v1.getD v3 R_ii.z).a0 == (2 : Int)) && (((v1.getD v3 R_ii.z).a1 == (0 : Int)) && true)), false), (((v1.getD v3 R_ii.z).a0 != (2 : Int)), false), (Zs (Zl 2 (List.drop (0 + (v3 * 2)) (Zb E_ii v1))) [.i (v1.getD v3 R_ii.z).a0, .i (v1.getD v3 R_ii.z).a1], true), (Nat.blt v3 v1.length, true), ((v3 : Int) == Int.ofNat v3, true), ((decide ((v3 : Int) < (L0.length : Int))), true)]) rfl (show 1 ∈ Zw (Zez 1) from by decide +kernel) (fun gv => by kernel_rfl) (Za (beq_iff_eq.2 ((wrap_i64 ltA).trans (by first | rfl | omega))) <| Za (Zd (ZeB (E := E_ii) (L := v1) (i := v3) (q := 0) (l := [vi (2 : Int), vi (1125899906842625 : Int)]) (⟨(2 : Int), (1125899906842625 : Int)⟩ : R_ii) (by omega) (show (0 + (v3 * 2)) = v3 * 2 + 0 from by omega) (show 0 + 2 ≤ 2 from by decide) rfl)) <| oB <| oI <| Za (Zd (ZkY (by assumption))) <| Za (Bool.eq_false_iff.2 (by simp only [ne_eq, Bool.and_true, Bool.and_eq_true, beq_iff_eq]; first | omega | (intro hh; simp_all; done) | (intro hh; grind))) <| oE <| Za (Zh (E := E_ii) (L := v1) (i := v3) (q := 0) (by omega) (show (0 + (v3 * 2)) = v3 * 2 + 0 from by omega) (show 0 + 2 ≤ 2 from by decide) rfl rfl) <| oB <| oI <| oY Zg) rfl (by decide) (by rfl) (fun _ => ⟨rr, ⟨⟨Eq.trans (show (vs 2 0 (v1.set v3 (⟨(2 : Int), (1125899906842625 : Int)⟩ : R_ii)).length (v1.set v3 (⟨(2 : Int), (1125899906842625 : Int)⟩ : R_ii)).length : Value) = vs 2 0 v1.length v1.length from (Zay rfl eqA eqA)) (by rfl), by rfl⟩, ⟨⟨Eq.trans (show (vs 2 0 (v1.set v3 (⟨(2 : Int), (1125899906842625 : Int)⟩ : R_ii)).length (v1.set v3 (⟨(2 : Int), (1125899906842625 : Int)⟩ : R_ii)).length : Value) = vs 2 0 v1.length v1.length from (Zay rfl eqA eqA)) (by rfl), by rfl⟩, ⟨rr, ⟨rr, trivial⟩⟩⟩⟩⟩) ⟨⟨rfl, ⟨[], by rfl⟩, by rfl⟩, ⟨(show Zr L1 = Zr L1 from rfl), ⟨(Ze (E := E_ii) (α := R_ii) _ (v1.set v3 (⟨(2 : Int), (1125899906842625 : Int)⟩ : R_ii)) _), trivial⟩⟩⟩
      ·
       exact Mach.ok_none
  ·
   exact Mach.ok_none
 ·
  exact Mach.ok_fin (M := Zaw L0 L1 N) (cd := 1000000) (cm := 0) (r := (.r1 (v1) : ZM)) (fu := 4000) (orc := (Zp [(0, false)] [] [] [] [])) (live := [0, 1, 2]) (u := vs 2 0 v1.length v1.length) (bl := [some (.cells [Value.map (some 1)] 57), some (.ro (Zr L1) true), some (.cells (Zb E_ii v1) 25)]) (ob := [((decide ((v3 : Int) < (L0.length : Int))), false)]) (fun gv => by kernel_rfl) (oN Zg) rfl (by decide) (by rfl) rr ⟨⟨rfl, ⟨[], by rfl⟩, by rfl⟩, ⟨(show Zr L1 = Zr L1 from rfl), ⟨(Ze (E := E_ii) (α := R_ii) _ v1 _), trivial⟩⟩⟩

theorem Zl3 (L0 : List R_ii) (L1 : List RB) (N : Nat) : (Zaw L0 L1 N).Enter Try.prog Zq #[ms E_ii L0, vp 0 0] (Zdd L0 L1 N) := by
 unfold Zdd
 refine Mach.en_bind (fun z0 c0 => ?_)
 cases z0 with
 | r0 =>
  exact Mach.en_head (bK := ZbH 1) (M := Zaw L0 L1 N) (cd := 1000000) (cm := 0) (y := (.h1m0 : graph_Rename_1X)) (fu := 4000) (orc := (Zp [] [] [] [] [(0, (ZfN (L0)    2))])) (live := [0, 1]) (tv := [some (vp 0 0), some (ms E_ii ([] : List R_ii)), some (ms E_ii ([] : List R_ii)), some (vq), some (vq)]) (bl := [some (.cells [Value.map (some 1)] 57), some (.ro (Zr L1) true)]) (ob := [(dP (Zdo #[ms E_ii L0] (L0)    2), true)]) rfl rfl (show Zw (ZbH 1).2 = [] from rfl) (by kernel_rfl) (Za (Zd (ZfO #[ms E_ii L0] (L0)   N c0  2 rfl (by decide) (by decide))) Zg) rfl (by decide) (by rfl) ⟨rr, ⟨rr, ⟨rr, ⟨rr, ⟨rr, trivial⟩⟩⟩⟩⟩ ⟨⟨rfl, ⟨[], by rfl⟩, by rfl⟩, ⟨(show Zr L1 = Zr L1 from rfl), trivial⟩⟩
 | r1 =>
  exact Mach.en_head (bK := ZbH 1) (M := Zaw L0 L1 N) (cd := 1000000) (cm := 0) (y := (.h1m1 (L0) (0) : graph_Rename_1X)) (fu := 4000) (orc := (Zp [] [] [] [] [(0, (ZfP (L0)    2))])) (live := [0, 1, 2]) (tv := [some (vp 0 0), some (vs 2 0 L0.length L0.length), some (vs 2 0 L0.length L0.length), some (vi (L0.length : Int)), some (vq)]) (bl := [some (.cells [Value.map (some 1)] 57), some (.ro (Zr L1) true), some (.cells (Zb E_ii L0) 25)]) (ob := [(dP (Zdp #[ms E_ii L0] (L0)    2), true)]) rfl rfl (show Zw (ZbH 1).2 = [] from rfl) (by kernel_rfl) (Za (Zd (ZfQ #[ms E_ii L0] (L0)   N c0  2 rfl (by decide) (by decide))) Zg) rfl (by decide) (by rfl) ⟨rr, ⟨rr, ⟨rr, ⟨rr, ⟨⟨Eq.trans (show (vi ((0 : Nat) : Int) : Value) = vq from (congrArg (Value.int .i64) (by first | rfl | omega))) (by rfl), by rfl⟩, trivial⟩⟩⟩⟩⟩ ⟨⟨rfl, ⟨[], by rfl⟩, by rfl⟩, ⟨(show Zr L1 = Zr L1 from rfl), ⟨(Ze (E := E_ii) (α := R_ii) _ L0 _), trivial⟩⟩⟩

theorem ZjT (L0 : List R_ii) (L1 : List RB) (N : Nat) (r : ZM) (h : ZaH L0 L1 N = some r) : LSpec Try.prog 23 #[ms E_ii L0, vp 0 0] [.cells [Value.map (some 1)] 57, .ro (Zr L1) true] (ZhW L0 L1 r) (Zhl L0 L1 r) :=
 Mach.spec Zb0 (Zaw L0 L1 N) Try.func23 (by kernel_rfl) (by kernel_rfl) (fun x => by cases x <;> exact Zae _ rfl) (fun r => by cases r <;> exact Zae _ rfl) (fun x => by
  cases x with
  | h1m0 => exact fun _ => (show ¬ (1 ∈ Zw (ZbH 1).2) from by decide +kernel)
  | h1m1 _ _ => exact fun _ => (show ¬ (1 ∈ Zw (ZbH 1).2) from by decide +kernel)
  ) (fun x => (show (Zaw L0 L1 N).Ok Try.prog Zq x (Zcg L0 L1 N x) from by
  cases x with
  | h1m0 => exact ZjR L0 L1 N
  | h1m1 v1 v3 => exact ZjS L0 L1 v1 v3 N
  )) (Zl3 L0 L1 N) (n := N) h

theorem Zgu (L0 : List R_ii) (L1 : List RB) (N : Nat) (r : ZM) (h : ZaH L0 L1 N = some r) : LSpec Try.prog 23 #[ms E_ii L0, vp 0 0] [.cells [Value.map (some 1)] 57, .ro (Zr L1) true] (ZmS L0 L1 r) (Zmj L0 L1 r) := by
 have h0 := ZjT L0 L1 N r h
 cases r with
 | r0 => exact h0
 | r1 w1 => exact LSpec.frz1 (E := E_ii) (L := w1) (post := [some (.cells [Value.map (some 1)] 57), some (.ro (Zr L1) true)]) h0 (show 2 ≤ 2 from by decide) (show 2 < 1000000000 from by decide) ⟨rfl, ⟨rfl, trivial⟩⟩ rfl rfl

noncomputable def ZbM (L0 : List R_ii) (L1 : List RB) (k0 k1 n : Nat) : Zbp := .call [(k0, .cells [Value.map (some k1)] 57), (k1, .ro (Zr L1) true)] (ms E_ii ([] : List R_ii)) [] 0
def Zbw (A : Array Value) (L0 : List R_ii) (L1 : List RB) (k0 k1 n : Nat) : Prop := ZC Try.prog 23 A [(k0, .cells [Value.map (some k1)] 57), (k1, .ro (Zr L1) true)] (ms E_ii ([] : List R_ii)) [] n 0

theorem ZbN (A : Array Value) (L0 : List R_ii) (L1 : List RB) (N : Nat) (h : ZaH L0 L1 N = some (.r0)) (k0 k1 n : Nat) (hA : A = #[ms E_ii L0, vp k0 0]) (hnd : ([k0, k1] : List Nat).Nodup) (hlt : ∀ k ∈ ([k0, k1] : List Nat), k < n) : Zbw A L0 L1 k0 k1 n :=
 Zan hA (LSpec.callL (show LSpec Try.prog 23 #[ms E_ii L0, vp 0 0] [.cells [Value.map (some 1)] 57, .ro (Zr L1) true] (ms E_ii ([] : List R_ii)) [some (.cells [Value.map (some 1)] 57), some (.ro (Zr L1) true)] from Zgu L0 L1 N _ h) [k0, k1] n [] rfl hnd hlt (show 2 ≤ 2 from by decide) (show ∀ j ∈ ([] : List Nat), j < 2 from by decide) (by rfl) ⟨rfl, ⟨rfl, trivial⟩⟩ (by rfl) ⟨rfl, ⟨rfl, trivial⟩⟩ ⟨.inr rfl, ⟨.inr rfl, trivial⟩⟩ rfl rfl rfl (Zf (Zk rfl rfl) (Zf (Zk rfl rfl) rfl)) rfl)

noncomputable def ZbO (L0 : List R_ii) (L1 : List RB) (w1 : List R_ii) (k0 k1 n : Nat) : Zbp := .call [(k0, .cells [Value.map (some k1)] 57), (k1, .ro (Zr L1) true)] (ms E_ii w1) [] 0
def Zbx (A : Array Value) (L0 : List R_ii) (L1 : List RB) (w1 : List R_ii) (k0 k1 n : Nat) : Prop := ZC Try.prog 23 A [(k0, .cells [Value.map (some k1)] 57), (k1, .ro (Zr L1) true)] (ms E_ii w1) [] n 0

theorem ZbP (A : Array Value) (L0 : List R_ii) (L1 : List RB) (w1 : List R_ii) (N : Nat) (h : ZaH L0 L1 N = some (.r1 w1)) (k0 k1 n : Nat) (hA : A = #[ms E_ii L0, vp k0 0]) (hnd : ([k0, k1] : List Nat).Nodup) (hlt : ∀ k ∈ ([k0, k1] : List Nat), k < n) : Zbx A L0 L1 w1 k0 k1 n :=
 Zan hA (LSpec.callL (show LSpec Try.prog 23 #[ms E_ii L0, vp 0 0] [.cells [Value.map (some 1)] 57, .ro (Zr L1) true] (ms E_ii w1) [some (.cells [Value.map (some 1)] 57), some (.ro (Zr L1) true)] from Zgu L0 L1 N _ h) [k0, k1] n [] rfl hnd hlt (show 2 ≤ 2 from by decide) (show ∀ j ∈ ([] : List Nat), j < 2 from by decide) (by rfl) ⟨rfl, ⟨rfl, trivial⟩⟩ (by rfl) ⟨rfl, ⟨rfl, trivial⟩⟩ ⟨.inr rfl, ⟨.inr rfl, trivial⟩⟩ rfl rfl rfl (Zf (Zk rfl rfl) (Zf (Zk rfl rfl) rfl)) rfl)

noncomputable def Zkk (L0 : List R_ii) : ZaJ → Value
 | .r0 w0 => Value.tuple #[vn, ms E_ii w0]
noncomputable def Zjp (L0 : List R_ii) : ZaJ → List (Option AObj)
 | .r0 w0 => []

def Znx : graph_RenameX → Nat
 | .h1m0 => 1
 | .h2m0 => 2
noncomputable def Zol (L0 : List R_ii) : graph_RenameX → List (Nat × Value)
 | .h1m0 => [(0, vn), (1, ms E_ii L0), (7, vn), (8, vp 0 0), (24, vn), (25, vq), (26, vq)]
 | .h2m0 => [(0, vn), (1, ms E_ii L0), (8, vp 0 0), (11, Value.func (.func 23) #[] #[vp 0 0]), (12, vn), (43, vn), (44, vq), (45, vq)]
noncomputable def Zom (L0 : List R_ii) : graph_RenameX → List (Option AObj)
 | .h1m0 => [some (.cells [Value.map (some 1)] 57), some (.ro (Zr ([] : List RB)) true)]
 | .h2m0 => [some (.cells [Value.map (some 1)] 57), some (.ro (Zr ([] : List RB)) true)]

noncomputable def Zcc : Nat → Code × List ZaF
 | 1 => Zbj [1, 1, 1, 1, 0, 1, 3] (Zcb Try.f10) []
 | 2 => Zbj [1, 1, 1, 1, 1, 1, 1, 0, 1, 3] (Zcb Try.f10) []
 | _ => (.skip, [])
def Zjq : Nat → Bool
 | 1 => true
 | 2 => true
 | _ => true
noncomputable def Zon (i : Nat) : List ZaF := match Zjq i with | true => .rnd i :: (Zcc i).2 | false => (Zcc i).2

noncomputable def Zb1 (L0 : List R_ii) (N : Nat) : Mach := ⟨Try.f10, [], graph_RenameX, ZaJ, Zde L0 N, Znx, Zcc, Zjq, Zol L0, Zom L0, Zkk L0, Zjp L0⟩

theorem Zld (L0 : List R_ii) (N : Nat) : (Zb1 L0 N).Ok Try.prog Zq (.h1m0 : graph_RenameX) (Zde L0 N (.h1m0 : graph_RenameX)) := by
 show (Zb1 L0 N).Ok Try.prog Zq (.h1m0 : graph_RenameX) (Zfm L0 N)
 unfold Zfm
 exact Mach.ok_head (bK := Zcc 2) (M := Zb1 L0 N) (cd := 1000000) (cm := 0) (y := (.h2m0 : graph_RenameX)) (fu := 4000) (orc := (Zp [] [] [] [] [])) (live := [0, 1]) (tv := fun _ => [some (vn), some (ms E_ii L0), some (vp 0 0), some (Value.func (.func 23) #[] #[vp 0 0]), some (vn), some (vn), some (vq), some (vq)]) (bl := [some (.cells [Value.map (some 1)] 57), some (.ro (Zr ([] : List RB)) true)]) (ob := []) rfl rfl (show ∀ j ∈ Zw (Zcc 2).2, j ∈ Zw (Zon 1) from by decide +kernel) (fun gv => by kernel_rfl) Zg rfl (by decide) (by rfl) (fun _ => ⟨rr, ⟨rr, ⟨rr, ⟨rr, ⟨rr, ⟨rr, ⟨rr, ⟨rr, trivial⟩⟩⟩⟩⟩⟩⟩⟩) ⟨⟨rfl, ⟨[], by rfl⟩, by rfl⟩, ⟨(show Zr ([] : List RB) = Zr ([] : List RB) from rfl), trivial⟩⟩

theorem Zle (L0 : List R_ii) (N : Nat) : (Zb1 L0 N).Ok Try.prog Zq (.h2m0 : graph_RenameX) (Zde L0 N (.h2m0 : graph_RenameX)) := by
 show (Zb1 L0 N).Ok Try.prog Zq (.h2m0 : graph_RenameX) (ZcL L0 N)
 unfold ZcL
 refine Mach.ok_bind (fun z0 c0 => ?_)
 cases z0 with
 | r0 =>
  exact Mach.ok_fin (M := Zb1 L0 N) (cd := 1000000) (cm := 0) (r := (.r0 (([] : List R_ii)) : ZaJ)) (fu := 4000) (orc := (Zp [] [] [] [] [(0, (ZbM (L0) (([] : List RB))   0 1 2))])) (live := []) (u := Value.tuple #[vn, ms E_ii ([] : List R_ii)]) (bl := []) (ob := [(dP (Zbw #[ms E_ii L0, vp 0 0] (L0) (([] : List RB))   0 1 2), true), (dS [Value.map (some 1)], true), (dS (Zr ([] : List RB)), true)]) (fun gv => by kernel_rfl) (Za (Zd (ZbN #[ms E_ii L0, vp 0 0] (L0) (([] : List RB))   N c0 0 1 2 rfl (by decide) (by decide))) <| Za (Zd (Zf rfl rfl)) <| Za (Zd (congrArg Zr (by first | rfl | simp))) Zg) rfl (by decide) (by rfl) rr trivial
 | r1 y0_0 =>
  exact Mach.ok_fin (M := Zb1 L0 N) (cd := 1000000) (cm := 0) (r := (.r0 (y0_0) : ZaJ)) (fu := 4000) (orc := (Zp [] [] [] [] [(0, (ZbO (L0) (([] : List RB))  y0_0 0 1 2))])) (live := []) (u := Value.tuple #[vn, ms E_ii y0_0]) (bl := []) (ob := [(dP (Zbx #[ms E_ii L0, vp 0 0] (L0) (([] : List RB))  y0_0 0 1 2), true), (dS [Value.map (some 1)], true), (dS (Zr ([] : List RB)), true)]) (fun gv => by kernel_rfl) (Za (Zd (ZbP #[ms E_ii L0, vp 0 0] (L0) (([] : List RB))  y0_0 N c0 0 1 2 rfl (by decide) (by decide))) <| Za (Zd (Zf rfl rfl)) <| Za (Zd (congrArg Zr (by first | rfl | simp))) Zg) rfl (by decide) (by rfl) rr trivial

theorem ZmV (L0 : List R_ii) (N : Nat) : (Zb1 L0 N).Enter Try.prog Zq #[vn, ms E_ii L0] (Zfg L0 N) := by
 unfold Zfg
 refine Mach.en_bind (fun z0 c0 => ?_)
 cases z0 with
 | r0 =>
  refine Mach.en_bind (fun z1 c1 => ?_)
  cases z1 with
  | r0 =>
   exact Mach.en_head (bK := Zcc 1) (M := Zb1 L0 N) (cd := 1000000) (cm := 0) (y := (.h1m0 : graph_RenameX)) (fu := 4000) (orc := (Zp [] [] [] [] [(0, (Zoj     0)), (2, (ZjP (([] : List RA)) (L0)   0 2))])) (live := [3, 2]) (tv := [some (vn), some (ms E_ii L0), some (vn), some (vp 3 0), some (vn), some (vq), some (vq)]) (bl := [some (.cells [Value.map (some 2)] 57), some (.ro (Zr ([] : List RB)) true)]) (ob := [(dP (Zgm #[Value.agg #[vn, Value.map (some 0)], ms E_ii L0, Value.func (.func 18) #[] #[]] (([] : List RA)) (L0)   0 2), true), (dS (Zc ([] : List RA)), true), (dP (Zkj #[vn]     0), true)]) rfl rfl (show Zw (Zcc 1).2 = [] from rfl) (by kernel_rfl) (Za (Zd (ZjQ #[Value.agg #[vn, Value.map (some 0)], ms E_ii L0, Value.func (.func 18) #[] #[]] (([] : List RA)) (L0)   N c1 0 2 rfl (by decide) (by decide))) <| Za (Zd (congrArg Zc (by first | rfl | simp))) <| Za (Zd (Zok #[vn]    N c0  0 rfl (by decide) (by decide))) Zg) rfl (by decide) (by rfl) ⟨rr, ⟨rr, ⟨rr, ⟨rr, ⟨rr, ⟨rr, ⟨rr, trivial⟩⟩⟩⟩⟩⟩⟩ ⟨⟨rfl, ⟨[], by rfl⟩, by rfl⟩, ⟨(show Zr ([] : List RB) = Zr ([] : List RB) from rfl), trivial⟩⟩

theorem Zl4 (L0 : List R_ii) (N : Nat) (r : ZaJ) (h : ZbY L0 N = some r) : LSpec Try.prog 10 #[vn, ms E_ii L0] [] (Zkk L0 r) (Zjp L0 r) :=
 Mach.spec Zb0 (Zb1 L0 N) Try.func10 (by kernel_rfl) (by kernel_rfl) (fun x => by cases x <;> exact Zae _ rfl) (fun r => by cases r <;> exact Zae _ rfl) (fun x => by
  cases x with
  | h1m0 => exact fun _ => (show ¬ (1 ∈ Zw (Zcc 1).2) from by decide +kernel)
  | h2m0 => exact fun _ => (show ¬ (2 ∈ Zw (Zcc 2).2) from by decide +kernel)
  ) (fun x => (show (Zb1 L0 N).Ok Try.prog Zq x (Zde L0 N x) from by
  cases x with
  | h1m0 => exact Zld L0 N
  | h2m0 => exact Zle L0 N
  )) (ZmV L0 N) (n := N) h

noncomputable def ZT (L0 w0 : List R_ii) (n : Nat) : Zbp := .call [] (Value.tuple #[vn, ms E_ii w0]) [] 0
def ZO (A : Array Value) (L0 w0 : List R_ii) (n : Nat) : Prop := ZC Try.prog 10 A [] (Value.tuple #[vn, ms E_ii w0]) [] n 0

theorem ZU (A : Array Value) (L0 w0 : List R_ii) (N : Nat) (h : ZbY L0 N = some (.r0 w0)) (n : Nat) (hA : A = #[vn, ms E_ii L0]) (hnd : ([] : List Nat).Nodup) (hlt : ∀ k ∈ ([] : List Nat), k < n) : ZO A L0 w0  n :=
 Zan hA (LSpec.callL (show LSpec Try.prog 10 #[vn, ms E_ii L0] [] (Value.tuple #[vn, ms E_ii w0]) [] from Zl4 L0 N _ h) [] n [] rfl hnd hlt (show 0 ≤ 0 from by decide) (show ∀ j ∈ ([] : List Nat), j < 0 from by decide) (by rfl) trivial (by rfl) trivial trivial rfl rfl rfl rfl rfl)

noncomputable def Zjr  : Zb4 → Value
 | .r0 => vT
noncomputable def Ziy  : Zb4 → List (Option AObj)
 | .r0 => []

def ZmW : ref02_SameAllX → Nat
 | .h1m0 => 1
noncomputable def Zny  : ref02_SameAllX → List (Nat × Value)
 | .h1m0 => [(0, vn), (1, vn), (5, vq)]
noncomputable def Znz  : ref02_SameAllX → List (Option AObj)
 | .h1m0 => []

noncomputable def Zfh : Nat → Code × List ZaF
 | 1 => Zbj [1, 1, 0, 1, 3] (Zcb Try.f11) []
 | _ => (.skip, [])
def ZmX : Nat → Bool
 | 1 => true
 | _ => true
noncomputable def Zc4  (N : Nat) : Mach := ⟨Try.f11, [], ref02_SameAllX, Zb4, ZdA  N, ZmW, Zfh, ZmX, Zny , Znz , Zjr , Ziy ⟩

theorem Zkq  (N : Nat) : (Zc4  N).Ok Try.prog Zq (.h1m0 : ref02_SameAllX) (ZdA  N (.h1m0 : ref02_SameAllX)) := by
 show (Zc4  N).Ok Try.prog Zq (.h1m0 : ref02_SameAllX) (ZeD  N)
 unfold ZeD
 exact Mach.ok_fin (M := Zc4  N) (cd := 1000000) (cm := 0) (r := (.r0 : Zb4)) (fu := 4000) (orc := (Zp [] [] [] [] [])) (live := []) (u := vT) (bl := []) (ob := []) (fun gv => by kernel_rfl) Zg rfl (by decide) (by rfl) rr trivial

theorem Zml  (N : Nat) : (Zc4  N).Enter Try.prog Zq #[vn, vn] (Zgc  N) := by
 unfold Zgc
 exact Mach.en_head (bK := Zfh 1) (M := Zc4  N) (cd := 1000000) (cm := 0) (y := (.h1m0 : ref02_SameAllX)) (fu := 4000) (orc := (Zp [] [] [] [] [])) (live := []) (tv := [some (vn), some (vn), some (vq)]) (bl := []) (ob := []) rfl rfl (show Zw (Zfh 1).2 = [] from rfl) (by kernel_rfl) Zg rfl (by decide) (by rfl) ⟨rr, ⟨rr, ⟨rr, trivial⟩⟩⟩ trivial

theorem Zlf  (N : Nat) (r : Zb4) (h : Zei  N = some r) : LSpec Try.prog 11 #[vn, vn] [] (Zjr  r) (Ziy  r) :=
 Mach.spec Zb0 (Zc4  N) Try.func11 (by kernel_rfl) (by kernel_rfl) (fun x => by cases x <;> exact Zae _ rfl) (fun r => by cases r <;> exact Zae _ rfl) (fun x => by
  cases x with
  | h1m0 => exact fun _ => (show ¬ (1 ∈ Zw (Zfh 1).2) from by decide +kernel)
  ) (fun x => (show (Zc4  N).Ok Try.prog Zq x (ZdA  N x) from by
  cases x with
  | h1m0 => exact Zkq  N
  )) (Zml  N) (n := N) h

noncomputable def ZcF  (n : Nat) : Zbp := .call [] (vT) [] 0
def Zcq (A : Array Value)  (n : Nat) : Prop := ZC Try.prog 11 A [] (vT) [] n 0

theorem ZcG (A : Array Value)  (N : Nat) (h : Zei  N = some (.r0)) (n : Nat) (hA : A = #[vn, vn]) (hnd : ([] : List Nat).Nodup) (hlt : ∀ k ∈ ([] : List Nat), k < n) : Zcq A   n :=
 Zan hA (LSpec.callL (show LSpec Try.prog 11 #[vn, vn] [] (vT) [] from Zlf  N _ h) [] n [] rfl hnd hlt (show 0 ≤ 0 from by decide) (show ∀ j ∈ ([] : List Nat), j < 0 from by decide) (by rfl) trivial (by rfl) trivial trivial rfl rfl rfl rfl rfl)

noncomputable def ZlM (L0 L1 : List R_ii) : Zbn → Value
 | .r0 w0 => Value.bool w0
noncomputable def Zlg (L0 L1 : List R_ii) : Zbn → List (Option AObj)
 | .r0 w0 => []

def Zpx : Zbd → Nat
 | .h1m0 v2 => 1
noncomputable def Zqa (L0 L1 : List R_ii) : Zbd → List (Nat × Value)
 | .h1m0 v2 => [(0, ms E_ii L0), (1, ms E_ii L1), (5, vi (v2 : Int))]
noncomputable def Zqb (L0 L1 : List R_ii) : Zbd → List (Option AObj)
 | .h1m0 v2 => []

noncomputable def Zen : Nat → Code × List ZaF
 | 1 => Zbj [1, 1, 0, 1, 3] (Zcb Try.f12) []
 | _ => (.skip, [])
def Zlh : Nat → Bool
 | 1 => true
 | _ => true
noncomputable def Zqc (i : Nat) : List ZaF := match Zlh i with | true => .rnd i :: (Zen i).2 | false => (Zen i).2

noncomputable def Zck (L0 L1 : List R_ii) (N : Nat) : Mach := ⟨Try.f12, [], Zbd, Zbn, ZdM L0 L1 N, Zpx, Zen, Zlh, Zqa L0 L1, Zqb L0 L1, ZlM L0 L1, Zlg L0 L1⟩

theorem Zmm (L0 L1 : List R_ii) (v2 N : Nat) : (Zck L0 L1 N).Ok Try.prog Zq (.h1m0 v2 : Zbd) (ZdM L0 L1 N (.h1m0 v2 : Zbd)) := by
 show (Zck L0 L1 N).Ok Try.prog Zq (.h1m0 v2 : Zbd) (Zcn L0 L1 N v2)
 unfold Zcn
 refine Mach.ok_ite (fun g0 => ?_) (fun g0 => ?_)
 ·
  refine Mach.ok_ite (fun g1 => ?_) (fun g1 => ?_)
  ·
   refine Mach.ok_ite (fun g2 => ?_) (fun g2 => ?_)
   ·
    exact Mach.ok_fin (M := Zck L0 L1 N) (cd := 1000000) (cm := 0) (r := (.r0 (false) : Zbn)) (fu := 4000) (orc := (Zp [(0, true), (1, true)] [] [(0, v2), (1, v2)] [(0, [.i (L0.getD v2 R_ii.z).a0, .i (L0.getD v2 R_ii.z).a1]), (1, [.i (L1.getD v2 R_ii.z).a0, .i (L1.getD v2 R_ii.z).a1])] [])) (live := []) (u := vf) (bl := []) (ob := [((!(((L0.getD v2 R_ii.z).a0 == (L1.getD v2 R_ii.z).a0) && (((L0.getD v2 R_ii.z).a1 == (L1.getD v2 R_ii.z).a1) && true))), true), (dP (Zaj (code (ZI E_ii L1)) (0 + (v2 * 2)) 2 = some [.i (L1.getD v2 R_ii.z).a0, .i (L1.getD v2 R_ii.z).a1]), true), (Nat.blt v2 L1.length, true), ((v2 : Int) == Int.ofNat v2, true), (dP (Zaj (code (ZI E_ii L0)) (0 + (v2 * 2)) 2 = some [.i (L0.getD v2 R_ii.z).a0, .i (L0.getD v2 R_ii.z).a1]), true), (Nat.blt v2 L0.length, true), ((v2 : Int) == Int.ofNat v2, true), ((decide ((v2 : Int) < (L0.length : Int))), true)]) (fun gv => by kernel_rfl) (Za (by rw [Bool.not_eq_true']; exact Bool.eq_false_iff.2 (by simp only [ne_eq, Bool.and_true, Bool.and_eq_true, beq_iff_eq]; first | omega | (intro hh; simp_all; done) | (intro hh; grind))) <| Za (Zd (ZaB (E := E_ii) (L := L1) (i := v2) (q := 0) (by omega) (show (0 + (v2 * 2)) = v2 * 2 + 0 from by omega) (show 0 + 2 ≤ 2 from by decide) rfl)) <| oB <| oI <| Za (Zd (ZaB (E := E_ii) (L := L0) (i := v2) (q := 0) (by omega) (show (0 + (v2 * 2)) = v2 * 2 + 0 from by omega) (show 0 + 2 ≤ 2 from by decide) rfl)) <| oB <| oI <| oY Zg) rfl (by decide) (by rfl) rr trivial
   ·
    refine Mach.ok_ite (fun g3 => ?_) (fun g3 => ?_)
    ·
     exact Mach.ok_next (M := Zck L0 L1 N) (cd := 1000000) (cm := 0) (y := (.h1m0 ((v2 + 1)) : Zbd)) (fu := 4000) (orc := (Zp [(0, true), (1, false)] [(0, (((v2 + 1) : Nat) : Int))] [(0, v2), (1, v2)] [(0, [.i (L0.getD v2 R_ii.z).a0, .i (L0.getD v2 R_ii.z).a1]), (1, [.i (L1.getD v2 R_ii.z).a0, .i (L1.getD v2 R_ii.z).a1])] [])) (live := []) (tv := fun _ => [some (ms E_ii L0), some (ms E_ii L1), some (vi (((v2 + 1) : Nat) : Int))]) (bl := []) (ob := [((IntKind.i64.wrap ((v2 : Int) + (1 : Int))) == (((v2 + 1) : Nat) : Int), true), ((!(((L0.getD v2 R_ii.z).a0 == (L1.getD v2 R_ii.z).a0) && (((L0.getD v2 R_ii.z).a1 == (L1.getD v2 R_ii.z).a1) && true))), false), (dP (Zaj (code (ZI E_ii L1)) (0 + (v2 * 2)) 2 = some [.i (L1.getD v2 R_ii.z).a0, .i (L1.getD v2 R_ii.z).a1]), true), (Nat.blt v2 L1.length, true), ((v2 : Int) == Int.ofNat v2, true), (dP (Zaj (code (ZI E_ii L0)) (0 + (v2 * 2)) 2 = some [.i (L0.getD v2 R_ii.z).a0, .i (L0.getD v2 R_ii.z).a1]), true), (Nat.blt v2 L0.length, true), ((v2 : Int) == Int.ofNat v2, true), ((decide ((v2 : Int) < (L0.length : Int))), true)]) rfl (show 1 ∈ Zw (Zqc 1) from by decide +kernel) (fun gv => by kernel_rfl) (Za (beq_iff_eq.2 ((wrap_i64 ltA).trans (by first | rfl | omega))) <| Za (by rw [Bool.not_eq_false']; first | (simp only [beq_self_eq_true, Bool.and_self]; done) | (simp only [Bool.and_true, Bool.and_eq_true, beq_iff_eq] <;> first | omega | (simp_all; done) | grind)) <| Za (Zd (ZaB (E := E_ii) (L := L1) (i := v2) (q := 0) (by omega) (show (0 + (v2 * 2)) = v2 * 2 + 0 from by omega) (show 0 + 2 ≤ 2 from by decide) rfl)) <| oB <| oI <| Za (Zd (ZaB (E := E_ii) (L := L0) (i := v2) (q := 0) (by omega) (show (0 + (v2 * 2)) = v2 * 2 + 0 from by omega) (show 0 + 2 ≤ 2 from by decide) rfl)) <| oB <| oI <| oY Zg) rfl (by decide) (by rfl) (fun _ => ⟨rr, ⟨rr, ⟨rr, trivial⟩⟩⟩) trivial
    ·
     exact Mach.ok_none
  ·
   exact Mach.ok_none
 ·
  exact Mach.ok_fin (M := Zck L0 L1 N) (cd := 1000000) (cm := 0) (r := (.r0 (true) : Zbn)) (fu := 4000) (orc := (Zp [(0, false)] [] [] [] [])) (live := []) (u := vT) (bl := []) (ob := [((decide ((v2 : Int) < (L0.length : Int))), false)]) (fun gv => by kernel_rfl) (oN Zg) rfl (by decide) (by rfl) rr trivial

theorem Zoo (L0 L1 : List R_ii) (N : Nat) : (Zck L0 L1 N).Enter Try.prog Zq #[ms E_ii L0, ms E_ii L1] (Zgd L0 L1 N) := by
 unfold Zgd
 refine Mach.en_ite (fun g0 => ?_) (fun g0 => ?_)
 ·
  exact Mach.en_fin (M := Zck L0 L1 N) (cd := 1000000) (cm := 0) (r := (.r0 (false) : Zbn)) (fu := 4000) (orc := (Zp [(0, true)] [] [] [] [])) (live := []) (u := vf) (bl := []) (ob := [(((L0.length : Int) != (L1.length : Int)), true)]) (by kernel_rfl) (oD Zg) rfl (by decide) (by rfl) rr trivial
 ·
  exact Mach.en_head (bK := Zen 1) (M := Zck L0 L1 N) (cd := 1000000) (cm := 0) (y := (.h1m0 (0) : Zbd)) (fu := 4000) (orc := (Zp [(0, false)] [] [] [] [])) (live := []) (tv := [some (ms E_ii L0), some (ms E_ii L1), some (vq)]) (bl := []) (ob := [(((L0.length : Int) != (L1.length : Int)), false)]) rfl rfl (show Zw (Zen 1).2 = [] from rfl) (by kernel_rfl) (oE Zg) rfl (by decide) (by rfl) ⟨rr, ⟨rr, ⟨⟨Eq.trans (show (vi ((0 : Nat) : Int) : Value) = vq from (congrArg (Value.int .i64) (by first | rfl | omega))) (by rfl), by rfl⟩, trivial⟩⟩⟩ trivial

theorem ZmY (L0 L1 : List R_ii) (N : Nat) (r : Zbn) (h : Zd1 L0 L1 N = some r) : LSpec Try.prog 12 #[ms E_ii L0, ms E_ii L1] [] (ZlM L0 L1 r) (Zlg L0 L1 r) :=
 Mach.spec Zb0 (Zck L0 L1 N) Try.func12 (by kernel_rfl) (by kernel_rfl) (fun x => by cases x <;> exact Zae _ rfl) (fun r => by cases r <;> exact Zae _ rfl) (fun x => by
  cases x with
  | h1m0 _ => exact fun _ => (show ¬ (1 ∈ Zw (Zen 1).2) from by decide +kernel)
  ) (fun x => (show (Zck L0 L1 N).Ok Try.prog Zq x (ZdM L0 L1 N x) from by
  cases x with
  | h1m0 v2 => exact Zmm L0 L1 v2 N
  )) (Zoo L0 L1 N) (n := N) h

noncomputable def Zbl (L0 L1 : List R_ii) (w0 : Bool) (n : Nat) : Zbp := .call [] (Value.bool w0) [] 0
def Zbb (A : Array Value) (L0 L1 : List R_ii) (w0 : Bool) (n : Nat) : Prop := ZC Try.prog 12 A [] (Value.bool w0) [] n 0

theorem Zbm (A : Array Value) (L0 L1 : List R_ii) (w0 : Bool) (N : Nat) (h : Zd1 L0 L1 N = some (.r0 w0)) (n : Nat) (hA : A = #[ms E_ii L0, ms E_ii L1]) (hnd : ([] : List Nat).Nodup) (hlt : ∀ k ∈ ([] : List Nat), k < n) : Zbb A L0 L1 w0  n :=
 Zan hA (LSpec.callL (show LSpec Try.prog 12 #[ms E_ii L0, ms E_ii L1] [] (Value.bool w0) [] from ZmY L0 L1 N _ h) [] n [] rfl hnd hlt (show 0 ≤ 0 from by decide) (show ∀ j ∈ ([] : List Nat), j < 0 from by decide) (by rfl) trivial (by rfl) trivial trivial rfl rfl rfl rfl rfl)

noncomputable def ZlN (L0 L1 : List R_ii) : Zbo → Value
 | .r0 w0 => Value.bool w0
noncomputable def Zli (L0 L1 : List R_ii) : Zbo → List (Option AObj)
 | .r0 w0 => []

def Zpy : Zbe → Nat
 | .h1m0 v3 => 1
noncomputable def Zqd (L0 L1 : List R_ii) : Zbe → List (Nat × Value)
 | .h1m0 v3 => [(1, ms E_ii L1), (12, ms E_ii L0), (13, vi (L0.length : Int)), (14, vi (v3 : Int))]
noncomputable def Zqe (L0 L1 : List R_ii) : Zbe → List (Option AObj)
 | .h1m0 v3 => []

noncomputable def Zeo : Nat → Code × List ZaF
 | 1 => Zbj [1, 1, 0, 1, 3] (Zcb Try.f27) []
 | _ => (.skip, [])
def Zlj : Nat → Bool
 | 1 => true
 | _ => true
noncomputable def Zqf (i : Nat) : List ZaF := match Zlj i with | true => .rnd i :: (Zeo i).2 | false => (Zeo i).2

noncomputable def Zcl (L0 L1 : List R_ii) (N : Nat) : Mach := ⟨Try.f27, [], Zbe, Zbo, ZdN L0 L1 N, Zpy, Zeo, Zlj, Zqd L0 L1, Zqe L0 L1, ZlN L0 L1, Zli L0 L1⟩

theorem Zmn (L0 L1 : List R_ii) (v3 N : Nat) : (Zcl L0 L1 N).Ok Try.prog Zq (.h1m0 v3 : Zbe) (ZdN L0 L1 N (.h1m0 v3 : Zbe)) := by
 show (Zcl L0 L1 N).Ok Try.prog Zq (.h1m0 v3 : Zbe) (Zco L0 L1 N v3)
 unfold Zco
 refine Mach.ok_ite (fun g0 => ?_) (fun g0 => ?_)
 ·
  refine Mach.ok_ite (fun g1 => ?_) (fun g1 => ?_)
  ·
   refine Mach.ok_ite (fun g2 => ?_) (fun g2 => ?_)
   ·
    exact Mach.ok_fin (M := Zcl L0 L1 N) (cd := 1000000) (cm := 0) (r := (.r0 (false) : Zbo)) (fu := 4000) (orc := (Zp [(0, true), (1, true)] [] [(0, v3), (1, v3)] [(0, [.i (L0.getD v3 R_ii.z).a0, .i (L0.getD v3 R_ii.z).a1]), (2, [.i (L1.getD v3 R_ii.z).a0, .i (L1.getD v3 R_ii.z).a1])] [])) (live := []) (u := vf) (bl := []) (ob := [((!(((L0.getD v3 R_ii.z).a0 == (L1.getD v3 R_ii.z).a0) && (((L0.getD v3 R_ii.z).a1 == (L1.getD v3 R_ii.z).a1) && true))), true), (dP (Zaj (code (ZI E_ii L1)) (0 + (v3 * 2)) 2 = some [.i (L1.getD v3 R_ii.z).a0, .i (L1.getD v3 R_ii.z).a1]), true), (Nat.blt v3 L1.length, true), ((v3 : Int) == Int.ofNat v3, true), (dP (Zaj (code (ZI E_ii L0)) (0 + (v3 * 2)) 2 = some [.i (L0.getD v3 R_ii.z).a0, .i (L0.getD v3 R_ii.z).a1]), true), (Nat.blt v3 L0.length, true), ((v3 : Int) == Int.ofNat v3, true), ((decide ((v3 : Int) < (L0.length : Int))), true)]) (fun gv => by kernel_rfl) (Za (by rw [Bool.not_eq_true']; exact Bool.eq_false_iff.2 (by simp only [ne_eq, Bool.and_true, Bool.and_eq_true, beq_iff_eq]; first | omega | (intro hh; simp_all; done) | (intro hh; grind))) <| Za (Zd (ZaB (E := E_ii) (L := L1) (i := v3) (q := 0) (by omega) (show (0 + (v3 * 2)) = v3 * 2 + 0 from by omega) (show 0 + 2 ≤ 2 from by decide) rfl)) <| oB <| oI <| Za (Zd (ZaB (E := E_ii) (L := L0) (i := v3) (q := 0) (by omega) (show (0 + (v3 * 2)) = v3 * 2 + 0 from by omega) (show 0 + 2 ≤ 2 from by decide) rfl)) <| oB <| oI <| oY Zg) rfl (by decide) (by rfl) rr trivial
   ·
    refine Mach.ok_ite (fun g3 => ?_) (fun g3 => ?_)
    ·
     exact Mach.ok_next (M := Zcl L0 L1 N) (cd := 1000000) (cm := 0) (y := (.h1m0 ((v3 + 1)) : Zbe)) (fu := 4000) (orc := (Zp [(0, true), (1, false)] [(0, (((v3 + 1) : Nat) : Int))] [(0, v3), (1, v3)] [(0, [.i (L0.getD v3 R_ii.z).a0, .i (L0.getD v3 R_ii.z).a1]), (2, [.i (L1.getD v3 R_ii.z).a0, .i (L1.getD v3 R_ii.z).a1])] [])) (live := []) (tv := fun _ => [some (ms E_ii L1), some (ms E_ii L0), some (vi (L0.length : Int)), some (vi (((v3 + 1) : Nat) : Int))]) (bl := []) (ob := [((IntKind.i64.wrap ((v3 : Int) + (1 : Int))) == (((v3 + 1) : Nat) : Int), true), ((!(((L0.getD v3 R_ii.z).a0 == (L1.getD v3 R_ii.z).a0) && (((L0.getD v3 R_ii.z).a1 == (L1.getD v3 R_ii.z).a1) && true))), false), (dP (Zaj (code (ZI E_ii L1)) (0 + (v3 * 2)) 2 = some [.i (L1.getD v3 R_ii.z).a0, .i (L1.getD v3 R_ii.z).a1]), true), (Nat.blt v3 L1.length, true), ((v3 : Int) == Int.ofNat v3, true), (dP (Zaj (code (ZI E_ii L0)) (0 + (v3 * 2)) 2 = some [.i (L0.getD v3 R_ii.z).a0, .i (L0.getD v3 R_ii.z).a1]), true), (Nat.blt v3 L0.length, true), ((v3 : Int) == Int.ofNat v3, true), ((decide ((v3 : Int) < (L0.length : Int))), true)]) rfl (show 1 ∈ Zw (Zqf 1) from by decide +kernel) (fun gv => by kernel_rfl) (Za (beq_iff_eq.2 ((wrap_i64 ltA).trans (by first | rfl | omega))) <| Za (by rw [Bool.not_eq_false']; first | (simp only [beq_self_eq_true, Bool.and_self]; done) | (simp only [Bool.and_true, Bool.and_eq_true, beq_iff_eq] <;> first | omega | (simp_all; done) | grind)) <| Za (Zd (ZaB (E := E_ii) (L := L1) (i := v3) (q := 0) (by omega) (show (0 + (v3 * 2)) = v3 * 2 + 0 from by omega) (show 0 + 2 ≤ 2 from by decide) rfl)) <| oB <| oI <| Za (Zd (ZaB (E := E_ii) (L := L0) (i := v3) (q := 0) (by omega) (show (0 + (v3 * 2)) = v3 * 2 + 0 from by omega) (show 0 + 2 ≤ 2 from by decide) rfl)) <| oB <| oI <| oY Zg) rfl (by decide) (by rfl) (fun _ => ⟨rr, ⟨rr, ⟨rr, ⟨rr, trivial⟩⟩⟩⟩) trivial
    ·
     exact Mach.ok_none
  ·
   exact Mach.ok_none
 ·
  exact Mach.ok_fin (M := Zcl L0 L1 N) (cd := 1000000) (cm := 0) (r := (.r0 (true) : Zbo)) (fu := 4000) (orc := (Zp [(0, false)] [] [] [] [])) (live := []) (u := vT) (bl := []) (ob := [((decide ((v3 : Int) < (L0.length : Int))), false)]) (fun gv => by kernel_rfl) (oN Zg) rfl (by decide) (by rfl) rr trivial

theorem Zop (L0 L1 : List R_ii) (N : Nat) : (Zcl L0 L1 N).Enter Try.prog Zq #[ms E_ii L0, ms E_ii L1] (Zge L0 L1 N) := by
 unfold Zge
 refine Mach.en_ite (fun g0 => ?_) (fun g0 => ?_)
 ·
  exact Mach.en_fin (M := Zcl L0 L1 N) (cd := 1000000) (cm := 0) (r := (.r0 (false) : Zbo)) (fu := 4000) (orc := (Zp [(0, true)] [] [] [] [])) (live := []) (u := vf) (bl := []) (ob := [(((L0.length : Int) != (L1.length : Int)), true)]) (by kernel_rfl) (oD Zg) rfl (by decide) (by rfl) rr trivial
 ·
  exact Mach.en_head (bK := Zeo 1) (M := Zcl L0 L1 N) (cd := 1000000) (cm := 0) (y := (.h1m0 (0) : Zbe)) (fu := 4000) (orc := (Zp [(0, false)] [] [] [] [])) (live := []) (tv := [some (ms E_ii L1), some (ms E_ii L0), some (vi (L0.length : Int)), some (vq)]) (bl := []) (ob := [(((L0.length : Int) != (L1.length : Int)), false)]) rfl rfl (show Zw (Zeo 1).2 = [] from rfl) (by kernel_rfl) (oE Zg) rfl (by decide) (by rfl) ⟨rr, ⟨rr, ⟨rr, ⟨⟨Eq.trans (show (vi ((0 : Nat) : Int) : Value) = vq from (congrArg (Value.int .i64) (by first | rfl | omega))) (by rfl), by rfl⟩, trivial⟩⟩⟩⟩ trivial

theorem ZmZ (L0 L1 : List R_ii) (N : Nat) (r : Zbo) (h : ZbF L0 L1 N = some r) : LSpec Try.prog 27 #[ms E_ii L0, ms E_ii L1] [] (ZlN L0 L1 r) (Zli L0 L1 r) :=
 Mach.spec Zb0 (Zcl L0 L1 N) Try.func27 (by kernel_rfl) (by kernel_rfl) (fun x => by cases x <;> exact Zae _ rfl) (fun r => by cases r <;> exact Zae _ rfl) (fun x => by
  cases x with
  | h1m0 _ => exact fun _ => (show ¬ (1 ∈ Zw (Zeo 1).2) from by decide +kernel)
  ) (fun x => (show (Zcl L0 L1 N).Ok Try.prog Zq x (ZdN L0 L1 N x) from by
  cases x with
  | h1m0 v3 => exact Zmn L0 L1 v3 N
  )) (Zop L0 L1 N) (n := N) h

noncomputable def ZP (L0 L1 : List R_ii) (w0 : Bool) (n : Nat) : Zbp := .call [] (Value.bool w0) [] 0
def ZL (A : Array Value) (L0 L1 : List R_ii) (w0 : Bool) (n : Nat) : Prop := ZC Try.prog 27 A [] (Value.bool w0) [] n 0

theorem ZQ (A : Array Value) (L0 L1 : List R_ii) (w0 : Bool) (N : Nat) (h : ZbF L0 L1 N = some (.r0 w0)) (n : Nat) (hA : A = #[ms E_ii L0, ms E_ii L1]) (hnd : ([] : List Nat).Nodup) (hlt : ∀ k ∈ ([] : List Nat), k < n) : ZL A L0 L1 w0  n :=
 Zan hA (LSpec.callL (show LSpec Try.prog 27 #[ms E_ii L0, ms E_ii L1] [] (Value.bool w0) [] from ZmZ L0 L1 N _ h) [] n [] rfl hnd hlt (show 0 ≤ 0 from by decide) (show ∀ j ∈ ([] : List Nat), j < 0 from by decide) (by rfl) trivial (by rfl) trivial trivial rfl rfl rfl rfl rfl)

noncomputable def Zlk (L0 L1 : List R_ii) : Zbz → Value
 | .r0 w0 => Value.bool w0
noncomputable def Zkl (L0 L1 : List R_ii) : Zbz → List (Option AObj)
 | .r0 w0 => []

def Zoq : graph_AlikeX → Nat
 | .h1m0 => 1
noncomputable def Zpz (L0 L1 : List R_ii) : graph_AlikeX → List (Nat × Value)
 | .h1m0 => [(0, vn), (2, vn), (34, vq), (35, vq)]
noncomputable def Zp0 (L0 L1 : List R_ii) : graph_AlikeX → List (Option AObj)
 | .h1m0 => []

noncomputable def Zgo : Nat → Code × List ZaF
 | 1 => Zbj [1, 1, 1, 1, 0, 1, 3] (Zcb Try.f13) []
 | _ => (.skip, [])
def Zor : Nat → Bool
 | 1 => true
 | _ => true
noncomputable def ZcA (L0 L1 : List R_ii) (N : Nat) : Mach := ⟨Try.f13, [], graph_AlikeX, Zbz, Zeu L0 L1 N, Zoq, Zgo, Zor, Zpz L0 L1, Zp0 L0 L1, Zlk L0 L1, Zkl L0 L1⟩

theorem Zl5 (L0 L1 : List R_ii) (N : Nat) : (ZcA L0 L1 N).Ok Try.prog Zq (.h1m0 : graph_AlikeX) (Zeu L0 L1 N (.h1m0 : graph_AlikeX)) := by
 show (ZcA L0 L1 N).Ok Try.prog Zq (.h1m0 : graph_AlikeX) (ZfC L0 L1 N)
 unfold ZfC
 exact Mach.ok_fin (M := ZcA L0 L1 N) (cd := 1000000) (cm := 0) (r := (.r0 (true) : Zbz)) (fu := 4000) (orc := (Zp [] [] [] [] [])) (live := []) (u := vT) (bl := []) (ob := []) (fun gv => by kernel_rfl) Zg rfl (by decide) (by rfl) rr trivial

theorem Zn0 (L0 L1 : List R_ii) (N : Nat) : (ZcA L0 L1 N).Enter Try.prog Zq #[vn, ms E_ii L0, vn, ms E_ii L1] (Zf4 L0 L1 N) := by
 unfold Zf4
 refine Mach.en_bind (fun z0 c0 => ?_)
 cases z0 with
 | r0 y0_0 =>
  refine Mach.en_bind (fun z1 c1 => ?_)
  cases z1 with
  | r0 y1_0 =>
   refine Mach.en_bind (fun z2 c2 => ?_)
   cases z2 with
   | r0 y2_0 =>
    refine Mach.en_ite (fun g3 => ?_) (fun g3 => ?_)
    ·
     exact Mach.en_fin (M := ZcA L0 L1 N) (cd := 1000000) (cm := 0) (r := (.r0 (false) : Zbz)) (fu := 4000) (orc := (Zp [(1, true)] [] [] [] [(0, (ZT (L0)  y0_0  0)), (1, (ZT (L1)  y1_0  0)), (2, (ZP (y0_0) (y1_0)  y2_0  0))])) (live := []) (u := vf) (bl := []) (ob := [((!y2_0), true), (dP (ZL #[ms E_ii y0_0, ms E_ii y1_0] (y0_0) (y1_0)  y2_0  0), true), (dP (ZO #[vn, ms E_ii L1] (L1)  y1_0  0), true), (dP (ZO #[vn, ms E_ii L0] (L0)  y0_0  0), true)]) (by kernel_rfl) (Za (ZcK (by first | assumption | simp_all)) <| Za (Zd (ZQ #[ms E_ii y0_0, ms E_ii y1_0] (y0_0) (y1_0)  y2_0 N c2  0 rfl (by decide) (by decide))) <| Za (Zd (ZU #[vn, ms E_ii L1] (L1)  y1_0 N c1  0 rfl (by decide) (by decide))) <| Za (Zd (ZU #[vn, ms E_ii L0] (L0)  y0_0 N c0  0 rfl (by decide) (by decide))) Zg) rfl (by decide) (by rfl) rr trivial
    ·
     exact Mach.en_head (bK := Zgo 1) (M := ZcA L0 L1 N) (cd := 1000000) (cm := 0) (y := (.h1m0 : graph_AlikeX)) (fu := 4000) (orc := (Zp [(1, false)] [] [] [] [(0, (ZT (L0)  y0_0  0)), (1, (ZT (L1)  y1_0  0)), (2, (ZP (y0_0) (y1_0)  y2_0  0))])) (live := []) (tv := [some (vn), some (vn), some (vq), some (vq)]) (bl := []) (ob := [((!y2_0), false), (dP (ZL #[ms E_ii y0_0, ms E_ii y1_0] (y0_0) (y1_0)  y2_0  0), true), (dP (ZO #[vn, ms E_ii L1] (L1)  y1_0  0), true), (dP (ZO #[vn, ms E_ii L0] (L0)  y0_0  0), true)]) rfl rfl (show Zw (Zgo 1).2 = [] from rfl) (by kernel_rfl) (Za (Zcf (by first | assumption | exact Decidable.not_not.1 (by assumption) | simp_all)) <| Za (Zd (ZQ #[ms E_ii y0_0, ms E_ii y1_0] (y0_0) (y1_0)  y2_0 N c2  0 rfl (by decide) (by decide))) <| Za (Zd (ZU #[vn, ms E_ii L1] (L1)  y1_0 N c1  0 rfl (by decide) (by decide))) <| Za (Zd (ZU #[vn, ms E_ii L0] (L0)  y0_0 N c0  0 rfl (by decide) (by decide))) Zg) rfl (by decide) (by rfl) ⟨rr, ⟨rr, ⟨rr, ⟨rr, trivial⟩⟩⟩⟩ trivial

theorem Zmo (L0 L1 : List R_ii) (N : Nat) (r : Zbz) (h : ZiH L0 L1 N = some r) : LSpec Try.prog 13 #[vn, ms E_ii L0, vn, ms E_ii L1] [] (Zlk L0 L1 r) (Zkl L0 L1 r) :=
 Mach.spec Zb0 (ZcA L0 L1 N) Try.func13 (by kernel_rfl) (by kernel_rfl) (fun x => by cases x <;> exact Zae _ rfl) (fun r => by cases r <;> exact Zae _ rfl) (fun x => by
  cases x with
  | h1m0 => exact fun _ => (show ¬ (1 ∈ Zw (Zgo 1).2) from by decide +kernel)
  ) (fun x => (show (ZcA L0 L1 N).Ok Try.prog Zq x (Zeu L0 L1 N x) from by
  cases x with
  | h1m0 => exact Zl5 L0 L1 N
  )) (Zn0 L0 L1 N) (n := N) h

noncomputable def Zkm (L0 L1 : List R_ii) (w0 : Bool) (n : Nat) : Zbp := .call [] (Value.bool w0) [] 0
def Zhd (A : Array Value) (L0 L1 : List R_ii) (w0 : Bool) (n : Nat) : Prop := ZC Try.prog 13 A [] (Value.bool w0) [] n 0

theorem Zkn (A : Array Value) (L0 L1 : List R_ii) (w0 : Bool) (N : Nat) (h : ZiH L0 L1 N = some (.r0 w0)) (n : Nat) (hA : A = #[vn, ms E_ii L0, vn, ms E_ii L1]) (hnd : ([] : List Nat).Nodup) (hlt : ∀ k ∈ ([] : List Nat), k < n) : Zhd A L0 L1 w0  n :=
 Zan hA (LSpec.callL (show LSpec Try.prog 13 #[vn, ms E_ii L0, vn, ms E_ii L1] [] (Value.bool w0) [] from Zmo L0 L1 N _ h) [] n [] rfl hnd hlt (show 0 ≤ 0 from by decide) (show ∀ j ∈ ([] : List Nat), j < 0 from by decide) (by rfl) trivial (by rfl) trivial trivial rfl rfl rfl rfl rfl)

noncomputable def Zjs (L0 : List R_iiiiiiiA) : Zb5 → Value
 | .r0 w1 => Value.agg #[vs 0 0 L0.length L0.length, Value.map (some 1)]
noncomputable def Ziz (L0 : List R_iiiiiiiA) : Zb5 → List (Option AObj)
 | .r0 w1 => [some (.cells (Zb E_iiiiiiiA L0) 34), some (.ro (Zc w1) true)]

def Zna : Za4 → Nat
 | .h1m0 v1 v2 => 1
noncomputable def Zn1 (L0 : List R_iiiiiiiA) : Za4 → List (Nat × Value)
 | .h1m0 v1 v2 => [(0, vs 0 0 L0.length L0.length), (2, vp 1 0), (3, vp 2 0), (4, vi v1)]
noncomputable def Zn2 (L0 : List R_iiiiiiiA) : Za4 → List (Option AObj)
 | .h1m0 v1 v2 => [some (.cells (Zb E_iiiiiiiA L0) 34), some (.cells [vn, Value.map none] 46), some (.cells [vs 0 0 L0.length L0.length, Value.map (some 3)] 46), some (.ro (Zc v2) true)]

noncomputable def ZcX : Nat → Code × List ZaF
 | 1 => Zbj [1, 1, 0, 1, 3] (Zcb Try.f14) []
 | _ => (.skip, [])
def Zi0 : Nat → Bool
 | 1 => true
 | _ => true
noncomputable def Zn3 (i : Nat) : List ZaF := match Zi0 i with | true => .rnd i :: (ZcX i).2 | false => (ZcX i).2

noncomputable def Zch (L0 : List R_iiiiiiiA) (N : Nat) : Mach := ⟨Try.f14, [.cells (Zb E_iiiiiiiA L0) 34], Za4, Zb5, Zct L0 N, Zna, ZcX, Zi0, Zn1 L0, Zn2 L0, Zjs L0, Ziz L0⟩

theorem Zkr (L0 : List R_iiiiiiiA) (v1 : Int) (v2 : List RA) (N : Nat) : (Zch L0 N).Ok Try.prog Zq (.h1m0 v1 v2 : Za4) (Zct L0 N (.h1m0 v1 v2 : Za4)) := by
 show (Zch L0 N).Ok Try.prog Zq (.h1m0 v1 v2 : Za4) (ZbK L0 N v1 v2)
 unfold ZbK
 refine Mach.ok_ite (fun g0 => ?_) (fun g0 => ?_)
 ·
  refine Mach.ok_ite (fun g1 => ?_) (fun g1 => ?_)
  ·
   exact Mach.ok_next (M := Zch L0 N) (cd := 1000000) (cm := 0) (y := (.h1m0 ((IntKind.i64.wrap (v1 - (1 : Int)))) ((ZR v2 (L0.getD (v1).toNat R_iiiiiiiA.z).a0 (L0.getD (v1).toNat R_iiiiiiiA.z).a1 v1)) : Za4)) (fu := 4000) (orc := (Zp [(0, true)] [] [(0, (v1).toNat)] [(1, [.i (L0.getD (v1).toNat R_iiiiiiiA.z).a0, .i (L0.getD (v1).toNat R_iiiiiiiA.z).a1])] [(0, .mp (Zao (ZR v2 (L0.getD (v1).toNat R_iiiiiiiA.z).a0 (L0.getD (v1).toNat R_iiiiiiiA.z).a1 v1)))])) (live := [0, 1, 2, 3]) (tv := fun _ => [some (vs 0 0 L0.length L0.length), some (vp 1 0), some (vp 2 0), some (vi (IntKind.i64.wrap (v1 - (1 : Int))))]) (bl := [some (.cells (Zb E_iiiiiiiA L0) 34), some (.cells [vn, Value.map none] 46), some (.cells [vs 0 0 L0.length L0.length, Value.map (some 3)] 46), some (.ro (Zc (ZR v2 (L0.getD (v1).toNat R_iiiiiiiA.z).a0 (L0.getD (v1).toNat R_iiiiiiiA.z).a1 v1)) true)]) (ob := [(dP (putM Try.prog 25 (Value.agg #[vi (L0.getD (v1).toNat R_iiiiiiiA.z).a0, vi (L0.getD (v1).toNat R_iiiiiiiA.z).a1]) (vi v1) (Zao v2) = some (Zao (ZR v2 (L0.getD (v1).toNat R_iiiiiiiA.z).a0 (L0.getD (v1).toNat R_iiiiiiiA.z).a1 v1))), true), (Zs (Zl 2 (List.drop ((0 + ((v1).toNat * 8)) + 0) (Zb E_iiiiiiiA L0))) [.i (L0.getD (v1).toNat R_iiiiiiiA.z).a0, .i (L0.getD (v1).toNat R_iiiiiiiA.z).a1], true), (Nat.blt (v1).toNat L0.length, true), (v1 == Int.ofNat (v1).toNat, true), ((decide (v1 ≥ (0 : Int))), true)]) rfl (show 1 ∈ Zw (Zn3 1) from by decide +kernel) (fun gv => by kernel_rfl) (Za (Zd (ZkW _ _ _ _)) <| Za (Zh (E := E_iiiiiiiA) (L := L0) (i := (v1).toNat) (q := 0) (by omega) (show ((0 + ((v1).toNat * 8)) + 0) = (v1).toNat * 8 + 0 from by omega) (show 0 + 2 ≤ 8 from by decide) rfl rfl) <| oB <| oI <| oY Zg) rfl (by decide) (by rfl) (fun _ => ⟨rr, ⟨rr, ⟨rr, ⟨rr, trivial⟩⟩⟩⟩) ⟨(Ze (E := E_iiiiiiiA) (α := R_iiiiiiiA) _ L0 _), ⟨⟨rfl, ⟨[], by rfl⟩, by rfl⟩, ⟨⟨rfl, ⟨[], by rfl⟩, by rfl⟩, ⟨(show Zc (ZR v2 (L0.getD (v1).toNat R_iiiiiiiA.z).a0 (L0.getD (v1).toNat R_iiiiiiiA.z).a1 v1) = Zc (ZR v2 (L0.getD (v1).toNat R_iiiiiiiA.z).a0 (L0.getD (v1).toNat R_iiiiiiiA.z).a1 v1) from rfl), trivial⟩⟩⟩⟩
  ·
   exact Mach.ok_none
 ·
  exact Mach.ok_fin (M := Zch L0 N) (cd := 1000000) (cm := 0) (r := (.r0 (v2) : Zb5)) (fu := 4000) (orc := (Zp [(0, false)] [] [] [] [])) (live := [0, 3]) (u := Value.agg #[vs 0 0 L0.length L0.length, Value.map (some 3)]) (bl := [some (.cells (Zb E_iiiiiiiA L0) 34), some (.ro (Zc v2) true)]) (ob := [((decide (v1 ≥ (0 : Int))), false)]) (fun gv => by kernel_rfl) (oN Zg) rfl (by decide) (by rfl) rr ⟨(Ze (E := E_iiiiiiiA) (α := R_iiiiiiiA) _ L0 _), ⟨(show Zc v2 = Zc v2 from rfl), trivial⟩⟩

theorem Zmp (L0 : List R_iiiiiiiA) (N : Nat) : (Zch L0 N).Enter Try.prog Zq #[vs 0 0 L0.length L0.length] (Zev L0 N) := by
 unfold Zev
 refine Mach.en_ite (fun g0 => ?_) (fun g0 => ?_)
 ·
  exact Mach.en_head (bK := ZcX 1) (M := Zch L0 N) (cd := 1000000) (cm := 0) (y := (.h1m0 (((L0.length : Int) - (1 : Int))) (([] : List RA)) : Za4)) (fu := 4000) (orc := (Zp [] [(0, ((L0.length : Int) - (1 : Int)))] [] [] [])) (live := [0, 1, 3, 2]) (tv := [some (vs 0 0 L0.length L0.length), some (vp 1 0), some (vp 3 0), some (vi ((L0.length : Int) - (1 : Int)))]) (bl := [some (.cells (Zb E_iiiiiiiA L0) 34), some (.cells [vn, Value.map none] 46), some (.cells [vs 0 0 L0.length L0.length, Value.map (some 2)] 46), some (.ro (Zc ([] : List RA)) true)]) (ob := [((IntKind.i64.wrap ((L0.length : Int) - (1 : Int))) == ((L0.length : Int) - (1 : Int)), true)]) rfl rfl (show Zw (ZcX 1).2 = [] from rfl) (by kernel_rfl) (Za (beq_iff_eq.2 ((wrap_i64 ltA).trans (by first | rfl | omega))) Zg) rfl (by decide) (by rfl) ⟨rr, ⟨rr, ⟨rr, ⟨rr, trivial⟩⟩⟩⟩ ⟨(Ze (E := E_iiiiiiiA) (α := R_iiiiiiiA) _ L0 _), ⟨⟨rfl, ⟨[], by rfl⟩, by rfl⟩, ⟨⟨rfl, ⟨[], by rfl⟩, by rfl⟩, ⟨(show Zc ([] : List RA) = Zc ([] : List RA) from rfl), trivial⟩⟩⟩⟩
 ·
  exact Mach.en_none

theorem Zll (L0 : List R_iiiiiiiA) (N : Nat) (r : Zb5) (h : Zf5 L0 N = some r) : LSpec Try.prog 14 #[vs 0 0 L0.length L0.length] [.cells (Zb E_iiiiiiiA L0) 34] (Zjs L0 r) (Ziz L0 r) :=
 Mach.spec Zb0 (Zch L0 N) Try.func14 (by kernel_rfl) (by kernel_rfl) (fun x => by cases x <;> exact Zae _ rfl) (fun r => by cases r <;> exact Zae _ rfl) (fun x => by
  cases x with
  | h1m0 _ _ => exact fun _ => (show ¬ (1 ∈ Zw (ZcX 1).2) from by decide +kernel)
  ) (fun x => (show (Zch L0 N).Ok Try.prog Zq x (Zct L0 N x) from by
  cases x with
  | h1m0 v1 v2 => exact Zkr L0 v1 v2 N
  )) (Zmp L0 N) (n := N) h

noncomputable def Zi1 (L0 : List R_iiiiiiiA) (w1 : List RA) (k0 n : Nat) : Zbp := .call [(k0, .cells (Zb E_iiiiiiiA L0) 34)] (Value.agg #[vs k0 0 L0.length L0.length, Value.map (some n)]) [(n, some (.ro (Zc w1) true))] 1
def Zgp (A : Array Value) (L0 : List R_iiiiiiiA) (w1 : List RA) (k0 n : Nat) : Prop := ZC Try.prog 14 A [(k0, .cells (Zb E_iiiiiiiA L0) 34)] (Value.agg #[vs k0 0 L0.length L0.length, Value.map (some n)]) [(n, some (.ro (Zc w1) true))] n 1

theorem Zi2 (A : Array Value) (L0 : List R_iiiiiiiA) (w1 : List RA) (N : Nat) (h : Zf5 L0 N = some (.r0 w1)) (k0 n : Nat) (hA : A = #[vs k0 0 L0.length L0.length]) (hnd : ([k0] : List Nat).Nodup) (hlt : ∀ k ∈ ([k0] : List Nat), k < n) : Zgp A L0 w1 k0 n :=
 Zan hA (LSpec.callL (show LSpec Try.prog 14 #[vs 0 0 L0.length L0.length] [.cells (Zb E_iiiiiiiA L0) 34] (Value.agg #[vs 0 0 L0.length L0.length, Value.map (some 1)]) [some (.cells (Zb E_iiiiiiiA L0) 34), some (.ro (Zc w1) true)] from Zll L0 N _ h) [k0] n [1] rfl hnd hlt (show 1 ≤ 2 from by decide) (show ∀ j ∈ ([1] : List Nat), j < 2 from by decide) (by rfl) ⟨(Zt _ _ _), trivial⟩ (by rfl) ⟨(Zt _ _ _), ⟨rfl, trivial⟩⟩ ⟨.inr rfl, ⟨(by decide), trivial⟩⟩ rfl rfl rfl (Zf (Zk rfl (ZD _ _ _)) rfl) (Zf (Zk rfl (ZaQ rfl)) rfl))

noncomputable def ZfK (L0 : List R_iiiiiiiA) (L1 : List RA) (a2 a3 : Int) : ZS → Value
 | .r0 w2 w3 => Value.tuple #[vi w2, Value.bool w3]
noncomputable def Zfw (L0 : List R_iiiiiiiA) (L1 : List RA) (a2 a3 : Int) : ZS → List (Option AObj)
 | .r0 w2 w3 => [some (.cells (Zb E_iiiiiiiA L0) 34), some (.ro (Zc L1) true)]

theorem Zil (L0 : List R_iiiiiiiA) (L1 : List RA) (a2 a3 : Int) (N : Nat) : Fx Try.prog Zq Try.f30 [.cells (Zb E_iiiiiiiA L0) 34, .ro (Zc L1) true] #[Value.agg #[vs 0 0 L0.length L0.length, Value.map (some 1)], Value.agg #[vi a2, vi a3]] (ZfK L0 L1 a2 a3) (Zfw L0 L1 a2 a3) (Za7 L0 L1 a2 a3 N) := by
 unfold Za7
 refine Zam (fun g0 => ?_) (fun g0 => ?_)
 ·
  exact Zau (r := (.r0 ((0 : Int)) (false) : ZS)) (fu := 4000) (orc := (Zp [(0, true)] [] [] [] [])) (live := [0, 1]) (u := Value.tuple #[vq, vf]) (bl := [some (.cells (Zb E_iiiiiiiA L0) 34), some (.ro (Zc L1) true)]) (ob := [((a2 != (2 : Int)), true)]) (by kernel_rfl) (oD Zg) rfl (by decide) (by rfl) rr ⟨(Ze (E := E_iiiiiiiA) (α := R_iiiiiiiA) _ L0 _), ⟨(show Zc L1 = Zc L1 from rfl), trivial⟩⟩
 ·
  refine Zam (fun g1 => ?_) (fun g1 => ?_)
  ·
   exact Zau (r := (.r0 ((0 : Int)) (false) : ZS)) (fu := 4000) (orc := (Zp [(0, false), (1, true)] [] [] [] [])) (live := [0, 1]) (u := Value.tuple #[vq, vf]) (bl := [some (.cells (Zb E_iiiiiiiA L0) 34), some (.ro (Zc L1) true)]) (ob := [(((a2 == (2 : Int)) && ((a3 == (0 : Int)) && true)), true), ((a2 != (2 : Int)), false)]) (by kernel_rfl) (Za (by first | (simp only [beq_self_eq_true, Bool.and_self]; done) | (simp only [Bool.and_true, Bool.and_eq_true, beq_iff_eq] <;> first | omega | (simp_all; done) | grind)) <| oE Zg) rfl (by decide) (by rfl) rr ⟨(Ze (E := E_iiiiiiiA) (α := R_iiiiiiiA) _ L0 _), ⟨(show Zc L1 = Zc L1 from rfl), trivial⟩⟩
  ·
   refine Zam (fun g2 => ?_) (fun g2 => ?_)
   ·
    exact Zau (r := (.r0 ((ZaX L1 a2 a3)) (true) : ZS)) (fu := 4000) (orc := (Zp [(0, false), (1, false)] [] [] [] [(1, .lk (some (vi (ZaX L1 a2 a3))))])) (live := [0, 1]) (u := Value.tuple #[vi (ZaX L1 a2 a3), vT]) (bl := [some (.cells (Zb E_iiiiiiiA L0) 34), some (.ro (Zc L1) true)]) (ob := [(dP ((Zar Try.prog 25 (Value.agg #[vi a2, vi a3]) (Zao L1)).map (Option.map Prod.snd) = some (some (vi (ZaX L1 a2 a3)))), true), (((a2 == (2 : Int)) && ((a3 == (0 : Int)) && true)), false), ((a2 != (2 : Int)), false)]) (by kernel_rfl) (Za (Zd (Zjj (by assumption))) <| Za (Bool.eq_false_iff.2 (by simp only [ne_eq, Bool.and_true, Bool.and_eq_true, beq_iff_eq]; first | omega | (intro hh; simp_all; done) | (intro hh; grind))) <| oE Zg) rfl (by decide) (by rfl) rr ⟨(Ze (E := E_iiiiiiiA) (α := R_iiiiiiiA) _ L0 _), ⟨(show Zc L1 = Zc L1 from rfl), trivial⟩⟩
   ·
    exact Zau (r := (.r0 ((0 : Int)) (false) : ZS)) (fu := 4000) (orc := (Zp [(0, false), (1, false)] [] [] [] [(1, .lk (none))])) (live := [0, 1]) (u := Value.tuple #[vq, vf]) (bl := [some (.cells (Zb E_iiiiiiiA L0) 34), some (.ro (Zc L1) true)]) (ob := [(dP ((Zar Try.prog 25 (Value.agg #[vi a2, vi a3]) (Zao L1)).map (Option.map Prod.snd) = some (none)), true), (((a2 == (2 : Int)) && ((a3 == (0 : Int)) && true)), false), ((a2 != (2 : Int)), false)]) (by kernel_rfl) (Za (Zd (Zjk (by assumption))) <| Za (Bool.eq_false_iff.2 (by simp only [ne_eq, Bool.and_true, Bool.and_eq_true, beq_iff_eq]; first | omega | (intro hh; simp_all; done) | (intro hh; grind))) <| oE Zg) rfl (by decide) (by rfl) rr ⟨(Ze (E := E_iiiiiiiA) (α := R_iiiiiiiA) _ L0 _), ⟨(show Zc L1 = Zc L1 from rfl), trivial⟩⟩

theorem Zh1 (L0 : List R_iiiiiiiA) (L1 : List RA) (a2 a3 : Int) (N : Nat) (r : ZS) (h : Za7 L0 L1 a2 a3 N = some r) : LSpec Try.prog 30 #[Value.agg #[vs 0 0 L0.length L0.length, Value.map (some 1)], Value.agg #[vi a2, vi a3]] [.cells (Zb E_iiiiiiiA L0) 34, .ro (Zc L1) true] (ZfK L0 L1 a2 a3 r) (Zfw L0 L1 a2 a3 r) :=
 Zfe Zb0 Try.func30 (by kernel_rfl) (by kernel_rfl) (fun r => by cases r <;> exact Zae _ rfl) (Zil L0 L1 a2 a3 N) h

noncomputable def Zap (L0 : List R_iiiiiiiA) (L1 : List RA) (a2 a3 w2 : Int) (w3 : Bool) (k0 k1 n : Nat) : Zbp := .call [(k0, .cells (Zb E_iiiiiiiA L0) 34), (k1, .ro (Zc L1) true)] (Value.tuple #[vi w2, Value.bool w3]) [] 0
def ZX (A : Array Value) (L0 : List R_iiiiiiiA) (L1 : List RA) (a2 a3 w2 : Int) (w3 : Bool) (k0 k1 n : Nat) : Prop := ZC Try.prog 30 A [(k0, .cells (Zb E_iiiiiiiA L0) 34), (k1, .ro (Zc L1) true)] (Value.tuple #[vi w2, Value.bool w3]) [] n 0

theorem Zaq (A : Array Value) (L0 : List R_iiiiiiiA) (L1 : List RA) (a2 a3 w2 : Int) (w3 : Bool) (N : Nat) (h : Za7 L0 L1 a2 a3 N = some (.r0 w2 w3)) (k0 k1 n : Nat) (hA : A = #[Value.agg #[vs k0 0 L0.length L0.length, Value.map (some k1)], Value.agg #[vi a2, vi a3]]) (hnd : ([k0, k1] : List Nat).Nodup) (hlt : ∀ k ∈ ([k0, k1] : List Nat), k < n) : ZX A L0 L1 a2 a3 w2 w3 k0 k1 n :=
 Zan hA (LSpec.callL (show LSpec Try.prog 30 #[Value.agg #[vs 0 0 L0.length L0.length, Value.map (some 1)], Value.agg #[vi a2, vi a3]] [.cells (Zb E_iiiiiiiA L0) 34, .ro (Zc L1) true] (Value.tuple #[vi w2, Value.bool w3]) [some (.cells (Zb E_iiiiiiiA L0) 34), some (.ro (Zc L1) true)] from Zh1 L0 L1 a2 a3 N _ h) [k0, k1] n [] rfl hnd hlt (show 2 ≤ 2 from by decide) (show ∀ j ∈ ([] : List Nat), j < 2 from by decide) (by rfl) ⟨(Zt _ _ _), ⟨rfl, trivial⟩⟩ (by rfl) ⟨(Zt _ _ _), ⟨rfl, trivial⟩⟩ ⟨.inr rfl, ⟨.inr rfl, trivial⟩⟩ rfl rfl rfl (Zf (Zk rfl (ZD _ _ _)) (Zf (Zk rfl rfl) rfl)) rfl)

noncomputable def Zfj (a0 a1 : Int) (L2 : List R_iiiiiiiA) (L3 L4 : List RA) : Zac → Value
 | .r0 => vtt
 | .r1 w2 w3 w4 => vtt
noncomputable def ZeJ (a0 a1 : Int) (L2 : List R_iiiiiiiA) (L3 L4 : List RA) : Zac → List (Option AObj)
 | .r0 => [some (.cells [vs 5 0 L2.length L2.length, Value.map (some 6)] 46), some (.cells [Value.map (some 7)] 44), some (.cells [Value.func (.func 18) #[] #[]] 51), some (.cells [vn] 49), some (.cells [vn] 62), some (.cells (Zb E_iiiiiiiA L2) 34), some (.ro (Zc L3) true), some (.ro (Zc L4) true)]
 | .r1 w2 w3 w4 => [some (.cells [vs 5 0 L2.length L2.length, Value.map (some 6)] 46), some (.cells [Value.map (some 7)] 44), some (.cells [Value.func (.func 18) #[] #[]] 51), some (.cells [vs 8 0 w3.length w3.length] 49), some (.cells [vs 9 0 w4.length w4.length] 62), some (.cells (Zb E_iiiiiiiA L2) 34), some (.ro (Zc L3) true), some (.ro (Zc w2) true), some (.cells (Zb eI w3) 3), some (.cells (Zb E_ii w4) 66)]

theorem Zh2 (a0 a1 : Int) (L2 : List R_iiiiiiiA) (L3 L4 : List RA) (N : Nat) : Fx Try.prog Zq Try.f29 [.cells [vs 5 0 L2.length L2.length, Value.map (some 6)] 46, .cells [Value.map (some 7)] 44, .cells [Value.func (.func 18) #[] #[]] 51, .cells [vn] 49, .cells [vn] 62, .cells (Zb E_iiiiiiiA L2) 34, .ro (Zc L3) true, .ro (Zc L4) true] #[Value.agg #[vi a0, vi a1], vp 0 0, vp 1 0, vp 2 0, vp 3 0, vp 4 0] (Zfj a0 a1 L2 L3 L4) (ZeJ a0 a1 L2 L3 L4) (Za8 a0 a1 L2 L3 L4 N) := by
 unfold Za8
 refine ZaV (fun z0 c0 => ?_)
 cases z0 with
 | r0 y0_0 y0_1 =>
  refine Zam (fun g1 => ?_) (fun g1 => ?_)
  ·
   exact Zau (r := (.r0 : Zac)) (fu := 4000) (orc := (Zp [(0, true)] [] [] [] [(0, (Zap (L2) (L3) (a0) (a1)  y0_0 y0_1 5 6 9))])) (live := [0, 1, 2, 3, 4, 5, 6, 7]) (u := vtt) (bl := [some (.cells [vs 5 0 L2.length L2.length, Value.map (some 6)] 46), some (.cells [Value.map (some 7)] 44), some (.cells [Value.func (.func 18) #[] #[]] 51), some (.cells [vn] 49), some (.cells [vn] 62), some (.cells (Zb E_iiiiiiiA L2) 34), some (.ro (Zc L3) true), some (.ro (Zc L4) true)]) (ob := [((!y0_1), true), (dP (ZX #[Value.agg #[vs 5 0 L2.length L2.length, Value.map (some 6)], Value.agg #[vi a0, vi a1]] (L2) (L3) (a0) (a1)  y0_0 y0_1 5 6 9), true), (dS (Zb E_iiiiiiiA L2), true), (dS (Zc L3), true)]) (by kernel_rfl) (Za (ZcK (by first | assumption | simp_all)) <| Za (Zd (Zaq #[Value.agg #[vs 5 0 L2.length L2.length, Value.map (some 6)], Value.agg #[vi a0, vi a1]] (L2) (L3) (a0) (a1)  y0_0 y0_1 N c0 5 6 9 rfl (by decide) (by decide))) <| oR <| Za (Zd (congrArg Zc (by first | rfl | simp))) Zg) rfl (by decide) (by rfl) rr ⟨⟨rfl, ⟨[], by rfl⟩, by rfl⟩, ⟨⟨rfl, ⟨[], by rfl⟩, by rfl⟩, ⟨⟨rfl, ⟨[], by rfl⟩, by rfl⟩, ⟨⟨rfl, ⟨[], by rfl⟩, by rfl⟩, ⟨⟨rfl, ⟨[], by rfl⟩, by rfl⟩, ⟨(Ze (E := E_iiiiiiiA) (α := R_iiiiiiiA) _ L2 _), ⟨(show Zc L3 = Zc L3 from rfl), ⟨(show Zc L4 = Zc L4 from rfl), trivial⟩⟩⟩⟩⟩⟩⟩⟩
  ·
   refine Zam (fun g2 => ?_) (fun g2 => ?_)
   ·
    exact Zau (r := (.r0 : Zac)) (fu := 4000) (orc := (Zp [(0, false)] [] [] [] [(0, (Zap (L2) (L3) (a0) (a1)  y0_0 y0_1 5 6 9)), (1, .lk (some (vi (ZaX L4 a0 a1))))])) (live := [0, 1, 2, 3, 4, 5, 6, 7]) (u := vtt) (bl := [some (.cells [vs 5 0 L2.length L2.length, Value.map (some 6)] 46), some (.cells [Value.map (some 7)] 44), some (.cells [Value.func (.func 18) #[] #[]] 51), some (.cells [vn] 49), some (.cells [vn] 62), some (.cells (Zb E_iiiiiiiA L2) 34), some (.ro (Zc L3) true), some (.ro (Zc L4) true)]) (ob := [(dP ((Zar Try.prog 25 (Value.agg #[vi a0, vi a1]) (Zao L4)).map (Option.map Prod.snd) = some (some (vi (ZaX L4 a0 a1)))), true), ((!y0_1), false), (dP (ZX #[Value.agg #[vs 5 0 L2.length L2.length, Value.map (some 6)], Value.agg #[vi a0, vi a1]] (L2) (L3) (a0) (a1)  y0_0 y0_1 5 6 9), true), (dS (Zb E_iiiiiiiA L2), true), (dS (Zc L3), true)]) (by kernel_rfl) (Za (Zd (Zjj (by assumption))) <| Za (Zcf (by first | assumption | exact Decidable.not_not.1 (by assumption) | simp_all)) <| Za (Zd (Zaq #[Value.agg #[vs 5 0 L2.length L2.length, Value.map (some 6)], Value.agg #[vi a0, vi a1]] (L2) (L3) (a0) (a1)  y0_0 y0_1 N c0 5 6 9 rfl (by decide) (by decide))) <| oR <| Za (Zd (congrArg Zc (by first | rfl | simp))) Zg) rfl (by decide) (by rfl) rr ⟨⟨rfl, ⟨[], by rfl⟩, by rfl⟩, ⟨⟨rfl, ⟨[], by rfl⟩, by rfl⟩, ⟨⟨rfl, ⟨[], by rfl⟩, by rfl⟩, ⟨⟨rfl, ⟨[], by rfl⟩, by rfl⟩, ⟨⟨rfl, ⟨[], by rfl⟩, by rfl⟩, ⟨(Ze (E := E_iiiiiiiA) (α := R_iiiiiiiA) _ L2 _), ⟨(show Zc L3 = Zc L3 from rfl), ⟨(show Zc L4 = Zc L4 from rfl), trivial⟩⟩⟩⟩⟩⟩⟩⟩
   ·
    refine Zam (fun g3 => ?_) (fun g3 => ?_)
    ·
     refine Zam (fun g4 => ?_) (fun g4 => ?_)
     ·
      exact Zau (r := (.r1 ((ZR L4 a0 a1 y0_0)) (([y0_0] : List Int)) (([(⟨y0_0, (0 : Int)⟩ : R_ii)] : List R_ii)) : Zac)) (fu := 4000) (orc := (Zp [(0, false)] [] [(0, (y0_0).toNat)] [(6, [.i (L2.getD (y0_0).toNat R_iiiiiiiA.z).a0, .i (L2.getD (y0_0).toNat R_iiiiiiiA.z).a1, .i (L2.getD (y0_0).toNat R_iiiiiiiA.z).a2, .i (L2.getD (y0_0).toNat R_iiiiiiiA.z).a3, .i (L2.getD (y0_0).toNat R_iiiiiiiA.z).a4, .i (L2.getD (y0_0).toNat R_iiiiiiiA.z).a5, .i (L2.getD (y0_0).toNat R_iiiiiiiA.z).a6, (mc E_ii (L2.getD (y0_0).toNat R_iiiiiiiA.z).a7)])] [(0, (Zap (L2) (L3) (a0) (a1)  y0_0 y0_1 5 6 9)), (1, .lk (none)), (2, .mp (Zao (ZR L4 a0 a1 y0_0)))])) (live := [0, 1, 2, 3, 4, 5, 6, 7, 11, 13]) (u := vtt) (bl := [some (.cells [vs 5 0 L2.length L2.length, Value.map (some 6)] 46), some (.cells [Value.map (some 7)] 44), some (.cells [Value.func (.func 18) #[] #[]] 51), some (.cells [vs 11 0 1 1] 49), some (.cells [vs 13 0 1 1] 62), some (.cells (Zb E_iiiiiiiA L2) 34), some (.ro (Zc L3) true), some (.ro (Zc (ZR L4 a0 a1 y0_0)) true), some (.cells [vi y0_0] 3), some (.cells [vi y0_0, vq] 66)]) (ob := [(dP (putM Try.prog 25 (Value.agg #[vi a0, vi a1]) (vi y0_0) (Zao L4) = some (Zao (ZR L4 a0 a1 y0_0))), true), (Zs (Zl 8 (List.drop (0 + ((y0_0).toNat * 8)) (Zb E_iiiiiiiA L2))) [.i (L2.getD (y0_0).toNat R_iiiiiiiA.z).a0, .i (L2.getD (y0_0).toNat R_iiiiiiiA.z).a1, .i (L2.getD (y0_0).toNat R_iiiiiiiA.z).a2, .i (L2.getD (y0_0).toNat R_iiiiiiiA.z).a3, .i (L2.getD (y0_0).toNat R_iiiiiiiA.z).a4, .i (L2.getD (y0_0).toNat R_iiiiiiiA.z).a5, .i (L2.getD (y0_0).toNat R_iiiiiiiA.z).a6, (mc E_ii (L2.getD (y0_0).toNat R_iiiiiiiA.z).a7)], true), (Nat.blt (y0_0).toNat L2.length, true), (y0_0 == Int.ofNat (y0_0).toNat, true), (dP ((Zar Try.prog 25 (Value.agg #[vi a0, vi a1]) (Zao L4)).map (Option.map Prod.snd) = some (none)), true), ((!y0_1), false), (dP (ZX #[Value.agg #[vs 5 0 L2.length L2.length, Value.map (some 6)], Value.agg #[vi a0, vi a1]] (L2) (L3) (a0) (a1)  y0_0 y0_1 5 6 9), true), (dS (Zb E_iiiiiiiA L2), true), (dS (Zc L3), true)]) (by kernel_rfl) (Za (Zd (ZkW _ _ _ _)) <| Za (Zh (E := E_iiiiiiiA) (L := L2) (i := (y0_0).toNat) (q := 0) (by omega) (show (0 + ((y0_0).toNat * 8)) = (y0_0).toNat * 8 + 0 from by omega) (show 0 + 8 ≤ 8 from by decide) rfl rfl) <| oB <| oI <| Za (Zd (Zjk (by assumption))) <| Za (Zcf (by first | assumption | exact Decidable.not_not.1 (by assumption) | simp_all)) <| Za (Zd (Zaq #[Value.agg #[vs 5 0 L2.length L2.length, Value.map (some 6)], Value.agg #[vi a0, vi a1]] (L2) (L3) (a0) (a1)  y0_0 y0_1 N c0 5 6 9 rfl (by decide) (by decide))) <| oR <| Za (Zd (congrArg Zc (by first | rfl | simp))) Zg) rfl (by decide) (by rfl) rr ⟨⟨rfl, ⟨[], by rfl⟩, by rfl⟩, ⟨⟨rfl, ⟨[], by rfl⟩, by rfl⟩, ⟨⟨rfl, ⟨[], by rfl⟩, by rfl⟩, ⟨⟨rfl, ⟨[], (show ([vs 8 0 1 1] : List Value) = _ from (Zf (Zay rfl eqA eqA) rfl).symm)⟩, by rfl⟩, ⟨⟨rfl, ⟨[], (show ([vs 9 0 1 1] : List Value) = _ from (Zf (Zay rfl eqA eqA) rfl).symm)⟩, by rfl⟩, ⟨(Ze (E := E_iiiiiiiA) (α := R_iiiiiiiA) _ L2 _), ⟨(show Zc L3 = Zc L3 from rfl), ⟨(show Zc (ZR L4 a0 a1 y0_0) = Zc (ZR L4 a0 a1 y0_0) from rfl), ⟨(Zdz (E := eI) _ (L := ([y0_0] : List Int)) _ (show ([vi y0_0] : List Value) = Zb eI ([y0_0] : List Int) from rfl)), ⟨(Zdz (E := E_ii) _ (L := ([(⟨y0_0, (0 : Int)⟩ : R_ii)] : List R_ii)) _ (show ([vi y0_0, vq] : List Value) = Zb E_ii ([(⟨y0_0, (0 : Int)⟩ : R_ii)] : List R_ii) from rfl)), trivial⟩⟩⟩⟩⟩⟩⟩⟩⟩⟩
     ·
      exact ZcE
    ·
     exact ZcE

theorem ZdR (a0 a1 : Int) (L2 : List R_iiiiiiiA) (L3 L4 : List RA) (N : Nat) (r : Zac) (h : Za8 a0 a1 L2 L3 L4 N = some r) : LSpec Try.prog 29 #[Value.agg #[vi a0, vi a1], vp 0 0, vp 1 0, vp 2 0, vp 3 0, vp 4 0] [.cells [vs 5 0 L2.length L2.length, Value.map (some 6)] 46, .cells [Value.map (some 7)] 44, .cells [Value.func (.func 18) #[] #[]] 51, .cells [vn] 49, .cells [vn] 62, .cells (Zb E_iiiiiiiA L2) 34, .ro (Zc L3) true, .ro (Zc L4) true] (Zfj a0 a1 L2 L3 L4 r) (ZeJ a0 a1 L2 L3 L4 r) :=
 Zfe Zb0 Try.func29 (by kernel_rfl) (by kernel_rfl) (fun r => by cases r <;> exact Zae _ rfl) (Zh2 a0 a1 L2 L3 L4 N) h

noncomputable def ZhY (a0 a1 : Int) (L2 : List R_iiiiiiiA) (L3 L4 : List RA) (k0 k1 k2 k3 k4 k5 k6 k7 n : Nat) : Zbp := .call [(k0, .cells [vs k5 0 L2.length L2.length, Value.map (some k6)] 46), (k1, .cells [Value.map (some k7)] 44), (k2, .cells [Value.func (.func 18) #[] #[]] 51), (k3, .cells [vn] 49), (k4, .cells [vn] 62), (k5, .cells (Zb E_iiiiiiiA L2) 34), (k6, .ro (Zc L3) true), (k7, .ro (Zc L4) true)] (vtt) [] 0
def ZeK (A : Array Value) (a0 a1 : Int) (L2 : List R_iiiiiiiA) (L3 L4 : List RA) (k0 k1 k2 k3 k4 k5 k6 k7 n : Nat) : Prop := ZC Try.prog 29 A [(k0, .cells [vs k5 0 L2.length L2.length, Value.map (some k6)] 46), (k1, .cells [Value.map (some k7)] 44), (k2, .cells [Value.func (.func 18) #[] #[]] 51), (k3, .cells [vn] 49), (k4, .cells [vn] 62), (k5, .cells (Zb E_iiiiiiiA L2) 34), (k6, .ro (Zc L3) true), (k7, .ro (Zc L4) true)] (vtt) [] n 0

theorem ZhZ (A : Array Value) (a0 a1 : Int) (L2 : List R_iiiiiiiA) (L3 L4 : List RA) (N : Nat) (h : Za8 a0 a1 L2 L3 L4 N = some (.r0)) (k0 k1 k2 k3 k4 k5 k6 k7 n : Nat) (hA : A = #[Value.agg #[vi a0, vi a1], vp k0 0, vp k1 0, vp k2 0, vp k3 0, vp k4 0]) (hnd : ([k0, k1, k2, k3, k4, k5, k6, k7] : List Nat).Nodup) (hlt : ∀ k ∈ ([k0, k1, k2, k3, k4, k5, k6, k7] : List Nat), k < n) : ZeK A a0 a1 L2 L3 L4 k0 k1 k2 k3 k4 k5 k6 k7 n :=
 Zan hA (LSpec.callL (show LSpec Try.prog 29 #[Value.agg #[vi a0, vi a1], vp 0 0, vp 1 0, vp 2 0, vp 3 0, vp 4 0] [.cells [vs 5 0 L2.length L2.length, Value.map (some 6)] 46, .cells [Value.map (some 7)] 44, .cells [Value.func (.func 18) #[] #[]] 51, .cells [vn] 49, .cells [vn] 62, .cells (Zb E_iiiiiiiA L2) 34, .ro (Zc L3) true, .ro (Zc L4) true] (vtt) [some (.cells [vs 5 0 L2.length L2.length, Value.map (some 6)] 46), some (.cells [Value.map (some 7)] 44), some (.cells [Value.func (.func 18) #[] #[]] 51), some (.cells [vn] 49), some (.cells [vn] 62), some (.cells (Zb E_iiiiiiiA L2) 34), some (.ro (Zc L3) true), some (.ro (Zc L4) true)] from ZdR a0 a1 L2 L3 L4 N _ h) [k0, k1, k2, k3, k4, k5, k6, k7] n [] rfl hnd hlt (show 8 ≤ 8 from by decide) (show ∀ j ∈ ([] : List Nat), j < 8 from by decide) (by rfl) ⟨rfl, ⟨rfl, ⟨rfl, ⟨rfl, ⟨rfl, ⟨(Zt _ _ _), ⟨rfl, ⟨rfl, trivial⟩⟩⟩⟩⟩⟩⟩⟩ (by rfl) ⟨rfl, ⟨rfl, ⟨rfl, ⟨rfl, ⟨rfl, ⟨(Zt _ _ _), ⟨rfl, ⟨rfl, trivial⟩⟩⟩⟩⟩⟩⟩⟩ ⟨.inr rfl, ⟨.inr rfl, ⟨.inr rfl, ⟨.inr rfl, ⟨.inr rfl, ⟨.inr rfl, ⟨.inr rfl, ⟨.inr rfl, trivial⟩⟩⟩⟩⟩⟩⟩⟩ rfl rfl rfl (Zf (Zk rfl rfl) (Zf (Zk rfl rfl) (Zf (Zk rfl rfl) (Zf (Zk rfl rfl) (Zf (Zk rfl rfl) (Zf (Zk rfl (ZD _ _ _)) (Zf (Zk rfl rfl) (Zf (Zk rfl rfl) rfl)))))))) rfl)

noncomputable def Zia (a0 a1 : Int) (L2 : List R_iiiiiiiA) (L3 L4 w2 : List RA) (w3 : List Int) (w4 : List R_ii) (k0 k1 k2 k3 k4 k5 k6 k7 n : Nat) : Zbp := .call [(k0, .cells [vs k5 0 L2.length L2.length, Value.map (some k6)] 46), (k1, .cells [Value.map (some k7)] 44), (k2, .cells [Value.func (.func 18) #[] #[]] 51), (k3, .cells [vn] 49), (k4, .cells [vn] 62), (k5, .cells (Zb E_iiiiiiiA L2) 34), (k6, .ro (Zc L3) true), (k7, .ro (Zc L4) true)] (vtt) [(k3, some (.cells [vs n 0 w3.length w3.length] 49)), (k4, some (.cells [vs (n + 1) 0 w4.length w4.length] 62)), (k7, some (.ro (Zc w2) true)), (n, some (.cells (Zb eI w3) 3)), ((n + 1), some (.cells (Zb E_ii w4) 66))] 2
def ZeL (A : Array Value) (a0 a1 : Int) (L2 : List R_iiiiiiiA) (L3 L4 w2 : List RA) (w3 : List Int) (w4 : List R_ii) (k0 k1 k2 k3 k4 k5 k6 k7 n : Nat) : Prop := ZC Try.prog 29 A [(k0, .cells [vs k5 0 L2.length L2.length, Value.map (some k6)] 46), (k1, .cells [Value.map (some k7)] 44), (k2, .cells [Value.func (.func 18) #[] #[]] 51), (k3, .cells [vn] 49), (k4, .cells [vn] 62), (k5, .cells (Zb E_iiiiiiiA L2) 34), (k6, .ro (Zc L3) true), (k7, .ro (Zc L4) true)] (vtt) [(k3, some (.cells [vs n 0 w3.length w3.length] 49)), (k4, some (.cells [vs (n + 1) 0 w4.length w4.length] 62)), (k7, some (.ro (Zc w2) true)), (n, some (.cells (Zb eI w3) 3)), ((n + 1), some (.cells (Zb E_ii w4) 66))] n 2

theorem Zib (A : Array Value) (a0 a1 : Int) (L2 : List R_iiiiiiiA) (L3 L4 w2 : List RA) (w3 : List Int) (w4 : List R_ii) (N : Nat) (h : Za8 a0 a1 L2 L3 L4 N = some (.r1 w2 w3 w4)) (k0 k1 k2 k3 k4 k5 k6 k7 n : Nat) (hA : A = #[Value.agg #[vi a0, vi a1], vp k0 0, vp k1 0, vp k2 0, vp k3 0, vp k4 0]) (hnd : ([k0, k1, k2, k3, k4, k5, k6, k7] : List Nat).Nodup) (hlt : ∀ k ∈ ([k0, k1, k2, k3, k4, k5, k6, k7] : List Nat), k < n) : ZeL A a0 a1 L2 L3 L4 w2 w3 w4 k0 k1 k2 k3 k4 k5 k6 k7 n :=
 Zan hA (LSpec.callL (show LSpec Try.prog 29 #[Value.agg #[vi a0, vi a1], vp 0 0, vp 1 0, vp 2 0, vp 3 0, vp 4 0] [.cells [vs 5 0 L2.length L2.length, Value.map (some 6)] 46, .cells [Value.map (some 7)] 44, .cells [Value.func (.func 18) #[] #[]] 51, .cells [vn] 49, .cells [vn] 62, .cells (Zb E_iiiiiiiA L2) 34, .ro (Zc L3) true, .ro (Zc L4) true] (vtt) [some (.cells [vs 5 0 L2.length L2.length, Value.map (some 6)] 46), some (.cells [Value.map (some 7)] 44), some (.cells [Value.func (.func 18) #[] #[]] 51), some (.cells [vs 8 0 w3.length w3.length] 49), some (.cells [vs 9 0 w4.length w4.length] 62), some (.cells (Zb E_iiiiiiiA L2) 34), some (.ro (Zc L3) true), some (.ro (Zc w2) true), some (.cells (Zb eI w3) 3), some (.cells (Zb E_ii w4) 66)] from ZdR a0 a1 L2 L3 L4 N _ h) [k0, k1, k2, k3, k4, k5, k6, k7] n [3, 4, 7, 8, 9] rfl hnd hlt (show 8 ≤ 10 from by decide) (show ∀ j ∈ ([3, 4, 7, 8, 9] : List Nat), j < 10 from by decide) (by rfl) ⟨rfl, ⟨rfl, ⟨rfl, ⟨rfl, ⟨rfl, ⟨(Zt _ _ _), ⟨rfl, ⟨rfl, trivial⟩⟩⟩⟩⟩⟩⟩⟩ (by rfl) ⟨rfl, ⟨rfl, ⟨rfl, ⟨rfl, ⟨rfl, ⟨(Zt _ _ _), ⟨rfl, ⟨rfl, ⟨(Zt _ _ _), ⟨(Zt _ _ _), trivial⟩⟩⟩⟩⟩⟩⟩⟩⟩⟩ ⟨.inr rfl, ⟨.inr rfl, ⟨.inr rfl, ⟨.inl (by decide), ⟨.inl (by decide), ⟨.inr rfl, ⟨.inr rfl, ⟨.inl (by decide), ⟨(by decide), ⟨(by decide), trivial⟩⟩⟩⟩⟩⟩⟩⟩⟩⟩ rfl rfl rfl (Zf (Zk rfl rfl) (Zf (Zk rfl rfl) (Zf (Zk rfl rfl) (Zf (Zk rfl rfl) (Zf (Zk rfl rfl) (Zf (Zk rfl (ZD _ _ _)) (Zf (Zk rfl rfl) (Zf (Zk rfl rfl) rfl)))))))) (Zf (Zk rfl (ZaQ rfl)) (Zf (Zk rfl (ZaQ rfl)) (Zf (Zk rfl (ZaQ rfl)) (Zf (Zk rfl (ZaQ (ZD _ _ _))) (Zf (Zk rfl (ZaQ (ZD _ _ _))) rfl))))))

noncomputable def Zfk (a0 a1 : Int) (L2 : List R_iiiiiiiA) (L3 L4 : List RA) (L5 : List Int) (L6 : List R_ii) : Zad → Value
 | .r0 => vtt
 | .r1 w2 w3 w4 => vtt
noncomputable def ZeM (a0 a1 : Int) (L2 : List R_iiiiiiiA) (L3 L4 : List RA) (L5 : List Int) (L6 : List R_ii) : Zad → List (Option AObj)
 | .r0 => [some (.cells [vs 5 0 L2.length L2.length, Value.map (some 6)] 46), some (.cells [Value.map (some 7)] 44), some (.cells [Value.func (.func 18) #[] #[]] 51), some (.cells [vs 8 0 L5.length L5.length] 49), some (.cells [vs 9 0 L6.length L6.length] 62), some (.cells (Zb E_iiiiiiiA L2) 34), some (.ro (Zc L3) true), some (.ro (Zc L4) true), some (.cells (Zb eI L5) 3), some (.cells (Zb E_ii L6) 66)]
 | .r1 w2 w3 w4 => [some (.cells [vs 5 0 L2.length L2.length, Value.map (some 6)] 46), some (.cells [Value.map (some 7)] 44), some (.cells [Value.func (.func 18) #[] #[]] 51), some (.cells [vs 10 0 w3.length w3.length] 49), some (.cells [vs 11 0 w4.length w4.length] 62), some (.cells (Zb E_iiiiiiiA L2) 34), some (.ro (Zc L3) true), some (.ro (Zc w2) true), none, none, some (.cells (Zb eI w3) 3), some (.cells (Zb E_ii w4) 66)]

theorem Zh3 (a0 a1 : Int) (L2 : List R_iiiiiiiA) (L3 L4 : List RA) (L5 : List Int) (L6 : List R_ii) (N : Nat) : Fx Try.prog Zq Try.f29 [.cells [vs 5 0 L2.length L2.length, Value.map (some 6)] 46, .cells [Value.map (some 7)] 44, .cells [Value.func (.func 18) #[] #[]] 51, .cells [vs 8 0 L5.length L5.length] 49, .cells [vs 9 0 L6.length L6.length] 62, .cells (Zb E_iiiiiiiA L2) 34, .ro (Zc L3) true, .ro (Zc L4) true, .cells (Zb eI L5) 3, .cells (Zb E_ii L6) 66] #[Value.agg #[vi a0, vi a1], vp 0 0, vp 1 0, vp 2 0, vp 3 0, vp 4 0] (Zfk a0 a1 L2 L3 L4 L5 L6) (ZeM a0 a1 L2 L3 L4 L5 L6) (ZV a0 a1 L2 L3 L4 L5 L6 N) := by
 unfold ZV
 refine ZaV (fun z0 c0 => ?_)
 cases z0 with
 | r0 y0_0 y0_1 =>
  refine Zam (fun g1 => ?_) (fun g1 => ?_)
  ·
   exact Zau (r := (.r0 : Zad)) (fu := 4000) (orc := (Zp [(0, true)] [] [] [] [(0, (Zap (L2) (L3) (a0) (a1)  y0_0 y0_1 5 6 11))])) (live := [0, 1, 2, 3, 4, 5, 6, 7, 8, 9]) (u := vtt) (bl := [some (.cells [vs 5 0 L2.length L2.length, Value.map (some 6)] 46), some (.cells [Value.map (some 7)] 44), some (.cells [Value.func (.func 18) #[] #[]] 51), some (.cells [vs 8 0 L5.length L5.length] 49), some (.cells [vs 9 0 L6.length L6.length] 62), some (.cells (Zb E_iiiiiiiA L2) 34), some (.ro (Zc L3) true), some (.ro (Zc L4) true), some (.cells (Zb eI L5) 3), some (.cells (Zb E_ii L6) 66)]) (ob := [((!y0_1), true), (dP (ZX #[Value.agg #[vs 5 0 L2.length L2.length, Value.map (some 6)], Value.agg #[vi a0, vi a1]] (L2) (L3) (a0) (a1)  y0_0 y0_1 5 6 11), true), (dS (Zb E_iiiiiiiA L2), true), (dS (Zc L3), true)]) (by kernel_rfl) (Za (ZcK (by first | assumption | simp_all)) <| Za (Zd (Zaq #[Value.agg #[vs 5 0 L2.length L2.length, Value.map (some 6)], Value.agg #[vi a0, vi a1]] (L2) (L3) (a0) (a1)  y0_0 y0_1 N c0 5 6 11 rfl (by decide) (by decide))) <| oR <| Za (Zd (congrArg Zc (by first | rfl | simp))) Zg) rfl (by decide) (by rfl) rr ⟨⟨rfl, ⟨[], by rfl⟩, by rfl⟩, ⟨⟨rfl, ⟨[], by rfl⟩, by rfl⟩, ⟨⟨rfl, ⟨[], by rfl⟩, by rfl⟩, ⟨⟨rfl, ⟨[], by rfl⟩, by rfl⟩, ⟨⟨rfl, ⟨[], by rfl⟩, by rfl⟩, ⟨(Ze (E := E_iiiiiiiA) (α := R_iiiiiiiA) _ L2 _), ⟨(show Zc L3 = Zc L3 from rfl), ⟨(show Zc L4 = Zc L4 from rfl), ⟨(Ze (E := eI) (α := Int) _ L5 _), ⟨(Ze (E := E_ii) (α := R_ii) _ L6 _), trivial⟩⟩⟩⟩⟩⟩⟩⟩⟩⟩
  ·
   refine Zam (fun g2 => ?_) (fun g2 => ?_)
   ·
    exact Zau (r := (.r0 : Zad)) (fu := 4000) (orc := (Zp [(0, false)] [] [] [] [(0, (Zap (L2) (L3) (a0) (a1)  y0_0 y0_1 5 6 11)), (1, .lk (some (vi (ZaX L4 a0 a1))))])) (live := [0, 1, 2, 3, 4, 5, 6, 7, 8, 9]) (u := vtt) (bl := [some (.cells [vs 5 0 L2.length L2.length, Value.map (some 6)] 46), some (.cells [Value.map (some 7)] 44), some (.cells [Value.func (.func 18) #[] #[]] 51), some (.cells [vs 8 0 L5.length L5.length] 49), some (.cells [vs 9 0 L6.length L6.length] 62), some (.cells (Zb E_iiiiiiiA L2) 34), some (.ro (Zc L3) true), some (.ro (Zc L4) true), some (.cells (Zb eI L5) 3), some (.cells (Zb E_ii L6) 66)]) (ob := [(dP ((Zar Try.prog 25 (Value.agg #[vi a0, vi a1]) (Zao L4)).map (Option.map Prod.snd) = some (some (vi (ZaX L4 a0 a1)))), true), ((!y0_1), false), (dP (ZX #[Value.agg #[vs 5 0 L2.length L2.length, Value.map (some 6)], Value.agg #[vi a0, vi a1]] (L2) (L3) (a0) (a1)  y0_0 y0_1 5 6 11), true), (dS (Zb E_iiiiiiiA L2), true), (dS (Zc L3), true)]) (by kernel_rfl) (Za (Zd (Zjj (by assumption))) <| Za (Zcf (by first | assumption | exact Decidable.not_not.1 (by assumption) | simp_all)) <| Za (Zd (Zaq #[Value.agg #[vs 5 0 L2.length L2.length, Value.map (some 6)], Value.agg #[vi a0, vi a1]] (L2) (L3) (a0) (a1)  y0_0 y0_1 N c0 5 6 11 rfl (by decide) (by decide))) <| oR <| Za (Zd (congrArg Zc (by first | rfl | simp))) Zg) rfl (by decide) (by rfl) rr ⟨⟨rfl, ⟨[], by rfl⟩, by rfl⟩, ⟨⟨rfl, ⟨[], by rfl⟩, by rfl⟩, ⟨⟨rfl, ⟨[], by rfl⟩, by rfl⟩, ⟨⟨rfl, ⟨[], by rfl⟩, by rfl⟩, ⟨⟨rfl, ⟨[], by rfl⟩, by rfl⟩, ⟨(Ze (E := E_iiiiiiiA) (α := R_iiiiiiiA) _ L2 _), ⟨(show Zc L3 = Zc L3 from rfl), ⟨(show Zc L4 = Zc L4 from rfl), ⟨(Ze (E := eI) (α := Int) _ L5 _), ⟨(Ze (E := E_ii) (α := R_ii) _ L6 _), trivial⟩⟩⟩⟩⟩⟩⟩⟩⟩⟩
   ·
    refine Zam (fun g3 => ?_) (fun g3 => ?_)
    ·
     refine Zam (fun g4 => ?_) (fun g4 => ?_)
     ·
      refine Zam (fun g5 => ?_) (fun g5 => ?_)
      ·
       refine Zam (fun g6 => ?_) (fun g6 => ?_)
       ·
        exact Zau (r := (.r1 ((ZR L4 a0 a1 y0_0)) ((L5 ++ ([y0_0] : List Int))) ((L6 ++ ([(⟨y0_0, (0 : Int)⟩ : R_ii)] : List R_ii))) : Zad)) (fu := 4000) (orc := (Zp [(0, false)] [] [(0, (y0_0).toNat)] [(6, [.i (L2.getD (y0_0).toNat R_iiiiiiiA.z).a0, .i (L2.getD (y0_0).toNat R_iiiiiiiA.z).a1, .i (L2.getD (y0_0).toNat R_iiiiiiiA.z).a2, .i (L2.getD (y0_0).toNat R_iiiiiiiA.z).a3, .i (L2.getD (y0_0).toNat R_iiiiiiiA.z).a4, .i (L2.getD (y0_0).toNat R_iiiiiiiA.z).a5, .i (L2.getD (y0_0).toNat R_iiiiiiiA.z).a6, (mc E_ii (L2.getD (y0_0).toNat R_iiiiiiiA.z).a7)])] [(0, (Zap (L2) (L3) (a0) (a1)  y0_0 y0_1 5 6 11)), (1, .lk (none)), (2, .mp (Zao (ZR L4 a0 a1 y0_0))), (3, .ap 1 [vi y0_0] (Zb eI (L5 ++ ([y0_0] : List Int)))), (5, .ap 1 [vi y0_0, vq] (Zb E_ii (L6 ++ ([(⟨y0_0, (0 : Int)⟩ : R_ii)] : List R_ii))))])) (live := [0, 1, 2, 3, 4, 5, 6, 7, 8, 9, 13, 15]) (u := vtt) (bl := [some (.cells [vs 5 0 L2.length L2.length, Value.map (some 6)] 46), some (.cells [Value.map (some 7)] 44), some (.cells [Value.func (.func 18) #[] #[]] 51), some (.cells [vs 13 0 (L5.length + 1) (L5.length + 1)] 49), some (.cells [vs 15 0 (L6.length + 1) (L6.length + 1)] 62), some (.cells (Zb E_iiiiiiiA L2) 34), some (.ro (Zc L3) true), some (.ro (Zc (ZR L4 a0 a1 y0_0)) true), none, none, some (.cells (Zb eI (L5 ++ ([y0_0] : List Int))) 3), some (.cells (Zb E_ii (L6 ++ ([(⟨y0_0, (0 : Int)⟩ : R_ii)] : List R_ii))) 66)]) (ob := [(dP ((1 = 1 ∧ Zl (1 * 2) (List.drop 0 [vi y0_0, vq]) = some [vi y0_0, vq] ∧ Z4 Zbr [vi y0_0, vq] = true) ∧ 0 < 1 ∧ 1 ≤ 100000 ∧ L6.length < L6.length + 1 ∧ L6.length ≤ 100000 ∧ L6.length * 2 ≤ (List.length (Zb E_ii L6)) ∧ List.take (L6.length * 2) (Zb E_ii L6) ++ [vi y0_0, vq] = (Zb E_ii (L6 ++ ([(⟨y0_0, (0 : Int)⟩ : R_ii)] : List R_ii)))), true), (dP ((1 = 1 ∧ Zl (1 * 1) (List.drop 0 [vi y0_0]) = some [vi y0_0] ∧ Z4 Zbr [vi y0_0] = true) ∧ 0 < 1 ∧ 1 ≤ 100000 ∧ L5.length < L5.length + 1 ∧ L5.length ≤ 100000 ∧ L5.length * 1 ≤ (List.length (Zb eI L5)) ∧ List.take (L5.length * 1) (Zb eI L5) ++ [vi y0_0] = (Zb eI (L5 ++ ([y0_0] : List Int)))), true), (dP (putM Try.prog 25 (Value.agg #[vi a0, vi a1]) (vi y0_0) (Zao L4) = some (Zao (ZR L4 a0 a1 y0_0))), true), (Zs (Zl 8 (List.drop (0 + ((y0_0).toNat * 8)) (Zb E_iiiiiiiA L2))) [.i (L2.getD (y0_0).toNat R_iiiiiiiA.z).a0, .i (L2.getD (y0_0).toNat R_iiiiiiiA.z).a1, .i (L2.getD (y0_0).toNat R_iiiiiiiA.z).a2, .i (L2.getD (y0_0).toNat R_iiiiiiiA.z).a3, .i (L2.getD (y0_0).toNat R_iiiiiiiA.z).a4, .i (L2.getD (y0_0).toNat R_iiiiiiiA.z).a5, .i (L2.getD (y0_0).toNat R_iiiiiiiA.z).a6, (mc E_ii (L2.getD (y0_0).toNat R_iiiiiiiA.z).a7)], true), (Nat.blt (y0_0).toNat L2.length, true), (y0_0 == Int.ofNat (y0_0).toNat, true), (dP ((Zar Try.prog 25 (Value.agg #[vi a0, vi a1]) (Zao L4)).map (Option.map Prod.snd) = some (none)), true), ((!y0_1), false), (dP (ZX #[Value.agg #[vs 5 0 L2.length L2.length, Value.map (some 6)], Value.agg #[vi a0, vi a1]] (L2) (L3) (a0) (a1)  y0_0 y0_1 5 6 11), true), (dS (Zb E_iiiiiiiA L2), true), (dS (Zc L3), true)]) (by kernel_rfl) (Za (Zd ⟨⟨rfl, ⟨rfl, rfl⟩⟩, by omega, by omega, ltA, by omega, (Zdc (E := E_ii) (L := L6) (M := ([(⟨y0_0, (0 : Int)⟩ : R_ii)] : List R_ii)) (n := L6.length) (show _ = _ * 2 from rfl) (by omega) (R := (L6 ++ ([(⟨y0_0, (0 : Int)⟩ : R_ii)] : List R_ii))) (by rw [List.take_of_length_le (by omega)]))⟩) <| Za (Zd ⟨⟨rfl, ⟨rfl, rfl⟩⟩, by omega, by omega, ltA, by omega, (Zdc (E := eI) (L := L5) (M := ([y0_0] : List Int)) (n := L5.length) (show _ = _ * 1 from rfl) (by omega) (R := (L5 ++ ([y0_0] : List Int))) (by rw [List.take_of_length_le (by omega)]))⟩) <| Za (Zd (ZkW _ _ _ _)) <| Za (Zh (E := E_iiiiiiiA) (L := L2) (i := (y0_0).toNat) (q := 0) (by omega) (show (0 + ((y0_0).toNat * 8)) = (y0_0).toNat * 8 + 0 from by omega) (show 0 + 8 ≤ 8 from by decide) rfl rfl) <| oB <| oI <| Za (Zd (Zjk (by assumption))) <| Za (Zcf (by first | assumption | exact Decidable.not_not.1 (by assumption) | simp_all)) <| Za (Zd (Zaq #[Value.agg #[vs 5 0 L2.length L2.length, Value.map (some 6)], Value.agg #[vi a0, vi a1]] (L2) (L3) (a0) (a1)  y0_0 y0_1 N c0 5 6 11 rfl (by decide) (by decide))) <| oR <| Za (Zd (congrArg Zc (by first | rfl | simp))) Zg) rfl (by decide) (by rfl) rr ⟨⟨rfl, ⟨[], by rfl⟩, by rfl⟩, ⟨⟨rfl, ⟨[], by rfl⟩, by rfl⟩, ⟨⟨rfl, ⟨[], by rfl⟩, by rfl⟩, ⟨⟨rfl, ⟨[], (show ([vs 10 0 (L5.length + 1) (L5.length + 1)] : List Value) = _ from (Zf (Zay rfl eqA eqA) rfl).symm)⟩, by rfl⟩, ⟨⟨rfl, ⟨[], (show ([vs 11 0 (L6.length + 1) (L6.length + 1)] : List Value) = _ from (Zf (Zay rfl eqA eqA) rfl).symm)⟩, by rfl⟩, ⟨(Ze (E := E_iiiiiiiA) (α := R_iiiiiiiA) _ L2 _), ⟨(show Zc L3 = Zc L3 from rfl), ⟨(show Zc (ZR L4 a0 a1 y0_0) = Zc (ZR L4 a0 a1 y0_0) from rfl), ⟨(Ze (E := eI) (α := Int) _ (L5 ++ ([y0_0] : List Int)) _), ⟨(Ze (E := E_ii) (α := R_ii) _ (L6 ++ ([(⟨y0_0, (0 : Int)⟩ : R_ii)] : List R_ii)) _), trivial⟩⟩⟩⟩⟩⟩⟩⟩⟩⟩
       ·
        exact ZcE
      ·
       exact ZcE
     ·
      exact ZcE
    ·
     exact ZcE

theorem ZdS (a0 a1 : Int) (L2 : List R_iiiiiiiA) (L3 L4 : List RA) (L5 : List Int) (L6 : List R_ii) (N : Nat) (r : Zad) (h : ZV a0 a1 L2 L3 L4 L5 L6 N = some r) : LSpec Try.prog 29 #[Value.agg #[vi a0, vi a1], vp 0 0, vp 1 0, vp 2 0, vp 3 0, vp 4 0] [.cells [vs 5 0 L2.length L2.length, Value.map (some 6)] 46, .cells [Value.map (some 7)] 44, .cells [Value.func (.func 18) #[] #[]] 51, .cells [vs 8 0 L5.length L5.length] 49, .cells [vs 9 0 L6.length L6.length] 62, .cells (Zb E_iiiiiiiA L2) 34, .ro (Zc L3) true, .ro (Zc L4) true, .cells (Zb eI L5) 3, .cells (Zb E_ii L6) 66] (Zfk a0 a1 L2 L3 L4 L5 L6 r) (ZeM a0 a1 L2 L3 L4 L5 L6 r) :=
 Zfe Zb0 Try.func29 (by kernel_rfl) (by kernel_rfl) (fun r => by cases r <;> exact Zae _ rfl) (Zh3 a0 a1 L2 L3 L4 L5 L6 N) h

noncomputable def ZeN (a0 a1 : Int) (L2 : List R_iiiiiiiA) (L3 L4 : List RA) (L5 : List Int) (L6 : List R_ii) (k0 k1 k2 k3 k4 k5 k6 k7 k8 k9 n : Nat) : Zbp := .call [(k0, .cells [vs k5 0 L2.length L2.length, Value.map (some k6)] 46), (k1, .cells [Value.map (some k7)] 44), (k2, .cells [Value.func (.func 18) #[] #[]] 51), (k3, .cells [vs k8 0 L5.length L5.length] 49), (k4, .cells [vs k9 0 L6.length L6.length] 62), (k5, .cells (Zb E_iiiiiiiA L2) 34), (k6, .ro (Zc L3) true), (k7, .ro (Zc L4) true), (k8, .cells (Zb eI L5) 3), (k9, .cells (Zb E_ii L6) 66)] (vtt) [] 0
def Zdi (A : Array Value) (a0 a1 : Int) (L2 : List R_iiiiiiiA) (L3 L4 : List RA) (L5 : List Int) (L6 : List R_ii) (k0 k1 k2 k3 k4 k5 k6 k7 k8 k9 n : Nat) : Prop := ZC Try.prog 29 A [(k0, .cells [vs k5 0 L2.length L2.length, Value.map (some k6)] 46), (k1, .cells [Value.map (some k7)] 44), (k2, .cells [Value.func (.func 18) #[] #[]] 51), (k3, .cells [vs k8 0 L5.length L5.length] 49), (k4, .cells [vs k9 0 L6.length L6.length] 62), (k5, .cells (Zb E_iiiiiiiA L2) 34), (k6, .ro (Zc L3) true), (k7, .ro (Zc L4) true), (k8, .cells (Zb eI L5) 3), (k9, .cells (Zb E_ii L6) 66)] (vtt) [] n 0

theorem ZeO (A : Array Value) (a0 a1 : Int) (L2 : List R_iiiiiiiA) (L3 L4 : List RA) (L5 : List Int) (L6 : List R_ii) (N : Nat) (h : ZV a0 a1 L2 L3 L4 L5 L6 N = some (.r0)) (k0 k1 k2 k3 k4 k5 k6 k7 k8 k9 n : Nat) (hA : A = #[Value.agg #[vi a0, vi a1], vp k0 0, vp k1 0, vp k2 0, vp k3 0, vp k4 0]) (hnd : ([k0, k1, k2, k3, k4, k5, k6, k7, k8, k9] : List Nat).Nodup) (hlt : ∀ k ∈ ([k0, k1, k2, k3, k4, k5, k6, k7, k8, k9] : List Nat), k < n) : Zdi A a0 a1 L2 L3 L4 L5 L6 k0 k1 k2 k3 k4 k5 k6 k7 k8 k9 n :=
 Zan hA (LSpec.callL (show LSpec Try.prog 29 #[Value.agg #[vi a0, vi a1], vp 0 0, vp 1 0, vp 2 0, vp 3 0, vp 4 0] [.cells [vs 5 0 L2.length L2.length, Value.map (some 6)] 46, .cells [Value.map (some 7)] 44, .cells [Value.func (.func 18) #[] #[]] 51, .cells [vs 8 0 L5.length L5.length] 49, .cells [vs 9 0 L6.length L6.length] 62, .cells (Zb E_iiiiiiiA L2) 34, .ro (Zc L3) true, .ro (Zc L4) true, .cells (Zb eI L5) 3, .cells (Zb E_ii L6) 66] (vtt) [some (.cells [vs 5 0 L2.length L2.length, Value.map (some 6)] 46), some (.cells [Value.map (some 7)] 44), some (.cells [Value.func (.func 18) #[] #[]] 51), some (.cells [vs 8 0 L5.length L5.length] 49), some (.cells [vs 9 0 L6.length L6.length] 62), some (.cells (Zb E_iiiiiiiA L2) 34), some (.ro (Zc L3) true), some (.ro (Zc L4) true), some (.cells (Zb eI L5) 3), some (.cells (Zb E_ii L6) 66)] from ZdS a0 a1 L2 L3 L4 L5 L6 N _ h) [k0, k1, k2, k3, k4, k5, k6, k7, k8, k9] n [] rfl hnd hlt (show 10 ≤ 10 from by decide) (show ∀ j ∈ ([] : List Nat), j < 10 from by decide) (by rfl) ⟨rfl, ⟨rfl, ⟨rfl, ⟨rfl, ⟨rfl, ⟨(Zt _ _ _), ⟨rfl, ⟨rfl, ⟨(Zt _ _ _), ⟨(Zt _ _ _), trivial⟩⟩⟩⟩⟩⟩⟩⟩⟩⟩ (by rfl) ⟨rfl, ⟨rfl, ⟨rfl, ⟨rfl, ⟨rfl, ⟨(Zt _ _ _), ⟨rfl, ⟨rfl, ⟨(Zt _ _ _), ⟨(Zt _ _ _), trivial⟩⟩⟩⟩⟩⟩⟩⟩⟩⟩ ⟨.inr rfl, ⟨.inr rfl, ⟨.inr rfl, ⟨.inr rfl, ⟨.inr rfl, ⟨.inr rfl, ⟨.inr rfl, ⟨.inr rfl, ⟨.inr rfl, ⟨.inr rfl, trivial⟩⟩⟩⟩⟩⟩⟩⟩⟩⟩ rfl rfl rfl (Zf (Zk rfl rfl) (Zf (Zk rfl rfl) (Zf (Zk rfl rfl) (Zf (Zk rfl rfl) (Zf (Zk rfl rfl) (Zf (Zk rfl (ZD _ _ _)) (Zf (Zk rfl rfl) (Zf (Zk rfl rfl) (Zf (Zk rfl (ZD _ _ _)) (Zf (Zk rfl (ZD _ _ _)) rfl)))))))))) rfl)

noncomputable def ZeP (a0 a1 : Int) (L2 : List R_iiiiiiiA) (L3 L4 : List RA) (L5 : List Int) (L6 : List R_ii) (w2 : List RA) (w3 : List Int) (w4 : List R_ii) (k0 k1 k2 k3 k4 k5 k6 k7 k8 k9 n : Nat) : Zbp := .call [(k0, .cells [vs k5 0 L2.length L2.length, Value.map (some k6)] 46), (k1, .cells [Value.map (some k7)] 44), (k2, .cells [Value.func (.func 18) #[] #[]] 51), (k3, .cells [vs k8 0 L5.length L5.length] 49), (k4, .cells [vs k9 0 L6.length L6.length] 62), (k5, .cells (Zb E_iiiiiiiA L2) 34), (k6, .ro (Zc L3) true), (k7, .ro (Zc L4) true), (k8, .cells (Zb eI L5) 3), (k9, .cells (Zb E_ii L6) 66)] (vtt) [(k3, some (.cells [vs n 0 w3.length w3.length] 49)), (k4, some (.cells [vs (n + 1) 0 w4.length w4.length] 62)), (k7, some (.ro (Zc w2) true)), (k8, none), (k9, none), (n, some (.cells (Zb eI w3) 3)), ((n + 1), some (.cells (Zb E_ii w4) 66))] 2
def Zdj (A : Array Value) (a0 a1 : Int) (L2 : List R_iiiiiiiA) (L3 L4 : List RA) (L5 : List Int) (L6 : List R_ii) (w2 : List RA) (w3 : List Int) (w4 : List R_ii) (k0 k1 k2 k3 k4 k5 k6 k7 k8 k9 n : Nat) : Prop := ZC Try.prog 29 A [(k0, .cells [vs k5 0 L2.length L2.length, Value.map (some k6)] 46), (k1, .cells [Value.map (some k7)] 44), (k2, .cells [Value.func (.func 18) #[] #[]] 51), (k3, .cells [vs k8 0 L5.length L5.length] 49), (k4, .cells [vs k9 0 L6.length L6.length] 62), (k5, .cells (Zb E_iiiiiiiA L2) 34), (k6, .ro (Zc L3) true), (k7, .ro (Zc L4) true), (k8, .cells (Zb eI L5) 3), (k9, .cells (Zb E_ii L6) 66)] (vtt) [(k3, some (.cells [vs n 0 w3.length w3.length] 49)), (k4, some (.cells [vs (n + 1) 0 w4.length w4.length] 62)), (k7, some (.ro (Zc w2) true)), (k8, none), (k9, none), (n, some (.cells (Zb eI w3) 3)), ((n + 1), some (.cells (Zb E_ii w4) 66))] n 2

theorem ZeQ (A : Array Value) (a0 a1 : Int) (L2 : List R_iiiiiiiA) (L3 L4 : List RA) (L5 : List Int) (L6 : List R_ii) (w2 : List RA) (w3 : List Int) (w4 : List R_ii) (N : Nat) (h : ZV a0 a1 L2 L3 L4 L5 L6 N = some (.r1 w2 w3 w4)) (k0 k1 k2 k3 k4 k5 k6 k7 k8 k9 n : Nat) (hA : A = #[Value.agg #[vi a0, vi a1], vp k0 0, vp k1 0, vp k2 0, vp k3 0, vp k4 0]) (hnd : ([k0, k1, k2, k3, k4, k5, k6, k7, k8, k9] : List Nat).Nodup) (hlt : ∀ k ∈ ([k0, k1, k2, k3, k4, k5, k6, k7, k8, k9] : List Nat), k < n) : Zdj A a0 a1 L2 L3 L4 L5 L6 w2 w3 w4 k0 k1 k2 k3 k4 k5 k6 k7 k8 k9 n :=
 Zan hA (LSpec.callL (show LSpec Try.prog 29 #[Value.agg #[vi a0, vi a1], vp 0 0, vp 1 0, vp 2 0, vp 3 0, vp 4 0] [.cells [vs 5 0 L2.length L2.length, Value.map (some 6)] 46, .cells [Value.map (some 7)] 44, .cells [Value.func (.func 18) #[] #[]] 51, .cells [vs 8 0 L5.length L5.length] 49, .cells [vs 9 0 L6.length L6.length] 62, .cells (Zb E_iiiiiiiA L2) 34, .ro (Zc L3) true, .ro (Zc L4) true, .cells (Zb eI L5) 3, .cells (Zb E_ii L6) 66] (vtt) [some (.cells [vs 5 0 L2.length L2.length, Value.map (some 6)] 46), some (.cells [Value.map (some 7)] 44), some (.cells [Value.func (.func 18) #[] #[]] 51), some (.cells [vs 10 0 w3.length w3.length] 49), some (.cells [vs 11 0 w4.length w4.length] 62), some (.cells (Zb E_iiiiiiiA L2) 34), some (.ro (Zc L3) true), some (.ro (Zc w2) true), none, none, some (.cells (Zb eI w3) 3), some (.cells (Zb E_ii w4) 66)] from ZdS a0 a1 L2 L3 L4 L5 L6 N _ h) [k0, k1, k2, k3, k4, k5, k6, k7, k8, k9] n [3, 4, 7, 8, 9, 10, 11] rfl hnd hlt (show 10 ≤ 12 from by decide) (show ∀ j ∈ ([3, 4, 7, 8, 9, 10, 11] : List Nat), j < 12 from by decide) (by rfl) ⟨rfl, ⟨rfl, ⟨rfl, ⟨rfl, ⟨rfl, ⟨(Zt _ _ _), ⟨rfl, ⟨rfl, ⟨(Zt _ _ _), ⟨(Zt _ _ _), trivial⟩⟩⟩⟩⟩⟩⟩⟩⟩⟩ (by rfl) ⟨rfl, ⟨rfl, ⟨rfl, ⟨rfl, ⟨rfl, ⟨(Zt _ _ _), ⟨rfl, ⟨rfl, ⟨(Zt _ _ _), ⟨(Zt _ _ _), trivial⟩⟩⟩⟩⟩⟩⟩⟩⟩⟩ ⟨.inr rfl, ⟨.inr rfl, ⟨.inr rfl, ⟨.inl (by decide), ⟨.inl (by decide), ⟨.inr rfl, ⟨.inr rfl, ⟨.inl (by decide), ⟨.inl (by decide), ⟨.inl (by decide), ⟨(by decide), ⟨(by decide), trivial⟩⟩⟩⟩⟩⟩⟩⟩⟩⟩⟩⟩ rfl rfl rfl (Zf (Zk rfl rfl) (Zf (Zk rfl rfl) (Zf (Zk rfl rfl) (Zf (Zk rfl rfl) (Zf (Zk rfl rfl) (Zf (Zk rfl (ZD _ _ _)) (Zf (Zk rfl rfl) (Zf (Zk rfl rfl) (Zf (Zk rfl (ZD _ _ _)) (Zf (Zk rfl (ZD _ _ _)) rfl)))))))))) (Zf (Zk rfl (ZaQ rfl)) (Zf (Zk rfl (ZaQ rfl)) (Zf (Zk rfl (ZaQ rfl)) (Zf (Zk rfl rfl) (Zf (Zk rfl rfl) (Zf (Zk rfl (ZaQ (ZD _ _ _))) (Zf (Zk rfl (ZaQ (ZD _ _ _))) rfl))))))))

noncomputable def Zfl (a0 a1 : Int) (L2 : List R_iiiiiiiA) (L3 L4 : List RA) (L5 : List Int) (L6 : List R_ii) (n7 n8 : Nat) : ZK → Value
 | .r0 => vtt
 | .r1 w2 w3 w4 => vtt
 | .r2 w2 w3 w4 => vtt
noncomputable def ZeR (a0 a1 : Int) (L2 : List R_iiiiiiiA) (L3 L4 : List RA) (L5 : List Int) (L6 : List R_ii) (n7 n8 : Nat) : ZK → List (Option AObj)
 | .r0 => [some (.cells [vs 5 0 L2.length L2.length, Value.map (some 6)] 46), some (.cells [Value.map (some 7)] 44), some (.cells [Value.func (.func 18) #[] #[]] 51), some (.cells [vs 8 0 L5.length L5.length] 49), some (.cells [vs 9 0 n7 n8] 62), some (.cells (Zb E_iiiiiiiA L2) 34), some (.ro (Zc L3) true), some (.ro (Zc L4) true), some (.cells (Zb eI L5) 3), some (.cells (Zb E_ii L6) 66)]
 | .r1 w2 w3 w4 => [some (.cells [vs 5 0 L2.length L2.length, Value.map (some 6)] 46), some (.cells [Value.map (some 7)] 44), some (.cells [Value.func (.func 18) #[] #[]] 51), some (.cells [vs 10 0 w4.length w4.length] 49), some (.cells [vs 9 0 (n7 + 1) n8] 62), some (.cells (Zb E_iiiiiiiA L2) 34), some (.ro (Zc L3) true), some (.ro (Zc w2) true), none, some (.cells (Zb E_ii w3) 66), some (.cells (Zb eI w4) 3)]
 | .r2 w2 w3 w4 => [some (.cells [vs 5 0 L2.length L2.length, Value.map (some 6)] 46), some (.cells [Value.map (some 7)] 44), some (.cells [Value.func (.func 18) #[] #[]] 51), some (.cells [vs 10 0 w3.length w3.length] 49), some (.cells [vs 11 0 w4.length w4.length] 62), some (.cells (Zb E_iiiiiiiA L2) 34), some (.ro (Zc L3) true), some (.ro (Zc w2) true), none, none, some (.cells (Zb eI w3) 3), some (.cells (Zb E_ii w4) 66)]

theorem Zh4 (a0 a1 : Int) (L2 : List R_iiiiiiiA) (L3 L4 : List RA) (L5 : List Int) (L6 : List R_ii) (n7 n8 N : Nat) : Fx Try.prog Zq Try.f29 [.cells [vs 5 0 L2.length L2.length, Value.map (some 6)] 46, .cells [Value.map (some 7)] 44, .cells [Value.func (.func 18) #[] #[]] 51, .cells [vs 8 0 L5.length L5.length] 49, .cells [vs 9 0 n7 n8] 62, .cells (Zb E_iiiiiiiA L2) 34, .ro (Zc L3) true, .ro (Zc L4) true, .cells (Zb eI L5) 3, .cells (Zb E_ii L6) 66] #[Value.agg #[vi a0, vi a1], vp 0 0, vp 1 0, vp 2 0, vp 3 0, vp 4 0] (Zfl a0 a1 L2 L3 L4 L5 L6 n7 n8) (ZeR a0 a1 L2 L3 L4 L5 L6 n7 n8) (ZH a0 a1 L2 L3 L4 L5 L6 n7 n8 N) := by
 unfold ZH
 refine ZaV (fun z0 c0 => ?_)
 cases z0 with
 | r0 y0_0 y0_1 =>
  refine Zam (fun g1 => ?_) (fun g1 => ?_)
  ·
   exact Zau (r := (.r0 : ZK)) (fu := 4000) (orc := (Zp [(0, true)] [] [] [] [(0, (Zap (L2) (L3) (a0) (a1)  y0_0 y0_1 5 6 11))])) (live := [0, 1, 2, 3, 4, 5, 6, 7, 8, 9]) (u := vtt) (bl := [some (.cells [vs 5 0 L2.length L2.length, Value.map (some 6)] 46), some (.cells [Value.map (some 7)] 44), some (.cells [Value.func (.func 18) #[] #[]] 51), some (.cells [vs 8 0 L5.length L5.length] 49), some (.cells [vs 9 0 n7 n8] 62), some (.cells (Zb E_iiiiiiiA L2) 34), some (.ro (Zc L3) true), some (.ro (Zc L4) true), some (.cells (Zb eI L5) 3), some (.cells (Zb E_ii L6) 66)]) (ob := [((!y0_1), true), (dP (ZX #[Value.agg #[vs 5 0 L2.length L2.length, Value.map (some 6)], Value.agg #[vi a0, vi a1]] (L2) (L3) (a0) (a1)  y0_0 y0_1 5 6 11), true), (dS (Zb E_iiiiiiiA L2), true), (dS (Zc L3), true)]) (by kernel_rfl) (Za (ZcK (by first | assumption | simp_all)) <| Za (Zd (Zaq #[Value.agg #[vs 5 0 L2.length L2.length, Value.map (some 6)], Value.agg #[vi a0, vi a1]] (L2) (L3) (a0) (a1)  y0_0 y0_1 N c0 5 6 11 rfl (by decide) (by decide))) <| oR <| Za (Zd (congrArg Zc (by first | rfl | simp))) Zg) rfl (by decide) (by rfl) rr ⟨⟨rfl, ⟨[], by rfl⟩, by rfl⟩, ⟨⟨rfl, ⟨[], by rfl⟩, by rfl⟩, ⟨⟨rfl, ⟨[], by rfl⟩, by rfl⟩, ⟨⟨rfl, ⟨[], by rfl⟩, by rfl⟩, ⟨⟨rfl, ⟨[], by rfl⟩, by rfl⟩, ⟨(Ze (E := E_iiiiiiiA) (α := R_iiiiiiiA) _ L2 _), ⟨(show Zc L3 = Zc L3 from rfl), ⟨(show Zc L4 = Zc L4 from rfl), ⟨(Ze (E := eI) (α := Int) _ L5 _), ⟨(Ze (E := E_ii) (α := R_ii) _ L6 _), trivial⟩⟩⟩⟩⟩⟩⟩⟩⟩⟩
  ·
   refine Zam (fun g2 => ?_) (fun g2 => ?_)
   ·
    exact Zau (r := (.r0 : ZK)) (fu := 4000) (orc := (Zp [(0, false)] [] [] [] [(0, (Zap (L2) (L3) (a0) (a1)  y0_0 y0_1 5 6 11)), (1, .lk (some (vi (ZaX L4 a0 a1))))])) (live := [0, 1, 2, 3, 4, 5, 6, 7, 8, 9]) (u := vtt) (bl := [some (.cells [vs 5 0 L2.length L2.length, Value.map (some 6)] 46), some (.cells [Value.map (some 7)] 44), some (.cells [Value.func (.func 18) #[] #[]] 51), some (.cells [vs 8 0 L5.length L5.length] 49), some (.cells [vs 9 0 n7 n8] 62), some (.cells (Zb E_iiiiiiiA L2) 34), some (.ro (Zc L3) true), some (.ro (Zc L4) true), some (.cells (Zb eI L5) 3), some (.cells (Zb E_ii L6) 66)]) (ob := [(dP ((Zar Try.prog 25 (Value.agg #[vi a0, vi a1]) (Zao L4)).map (Option.map Prod.snd) = some (some (vi (ZaX L4 a0 a1)))), true), ((!y0_1), false), (dP (ZX #[Value.agg #[vs 5 0 L2.length L2.length, Value.map (some 6)], Value.agg #[vi a0, vi a1]] (L2) (L3) (a0) (a1)  y0_0 y0_1 5 6 11), true), (dS (Zb E_iiiiiiiA L2), true), (dS (Zc L3), true)]) (by kernel_rfl) (Za (Zd (Zjj (by assumption))) <| Za (Zcf (by first | assumption | exact Decidable.not_not.1 (by assumption) | simp_all)) <| Za (Zd (Zaq #[Value.agg #[vs 5 0 L2.length L2.length, Value.map (some 6)], Value.agg #[vi a0, vi a1]] (L2) (L3) (a0) (a1)  y0_0 y0_1 N c0 5 6 11 rfl (by decide) (by decide))) <| oR <| Za (Zd (congrArg Zc (by first | rfl | simp))) Zg) rfl (by decide) (by rfl) rr ⟨⟨rfl, ⟨[], by rfl⟩, by rfl⟩, ⟨⟨rfl, ⟨[], by rfl⟩, by rfl⟩, ⟨⟨rfl, ⟨[], by rfl⟩, by rfl⟩, ⟨⟨rfl, ⟨[], by rfl⟩, by rfl⟩, ⟨⟨rfl, ⟨[], by rfl⟩, by rfl⟩, ⟨(Ze (E := E_iiiiiiiA) (α := R_iiiiiiiA) _ L2 _), ⟨(show Zc L3 = Zc L3 from rfl), ⟨(show Zc L4 = Zc L4 from rfl), ⟨(Ze (E := eI) (α := Int) _ L5 _), ⟨(Ze (E := E_ii) (α := R_ii) _ L6 _), trivial⟩⟩⟩⟩⟩⟩⟩⟩⟩⟩
   ·
    refine Zam (fun g3 => ?_) (fun g3 => ?_)
    ·
     refine Zam (fun g4 => ?_) (fun g4 => ?_)
     ·
      refine Zam (fun g5 => ?_) (fun g5 => ?_)
      ·
       refine Zam (fun g6 => ?_) (fun g6 => ?_)
       ·
        refine Zam (fun g7 => ?_) (fun g7 => ?_)
        ·
         exact Zau (r := (.r1 ((ZR L4 a0 a1 y0_0)) ((L6.set n7 (⟨y0_0, (0 : Int)⟩ : R_ii))) ((L5 ++ ([y0_0] : List Int))) : ZK)) (fu := 4000) (orc := (Zp [(0, false)] [] [(0, (y0_0).toNat)] [(6, [.i (L2.getD (y0_0).toNat R_iiiiiiiA.z).a0, .i (L2.getD (y0_0).toNat R_iiiiiiiA.z).a1, .i (L2.getD (y0_0).toNat R_iiiiiiiA.z).a2, .i (L2.getD (y0_0).toNat R_iiiiiiiA.z).a3, .i (L2.getD (y0_0).toNat R_iiiiiiiA.z).a4, .i (L2.getD (y0_0).toNat R_iiiiiiiA.z).a5, .i (L2.getD (y0_0).toNat R_iiiiiiiA.z).a6, (mc E_ii (L2.getD (y0_0).toNat R_iiiiiiiA.z).a7)])] [(0, (Zap (L2) (L3) (a0) (a1)  y0_0 y0_1 5 6 11)), (1, .lk (none)), (2, .mp (Zao (ZR L4 a0 a1 y0_0))), (3, .ap 1 [vi y0_0] (Zb eI (L5 ++ ([y0_0] : List Int)))), (5, .api 1 [vi y0_0, vq] (Zb E_ii (L6.set n7 (⟨y0_0, (0 : Int)⟩ : R_ii))))])) (live := [0, 1, 2, 3, 4, 5, 6, 7, 8, 9, 13]) (u := vtt) (bl := [some (.cells [vs 5 0 L2.length L2.length, Value.map (some 6)] 46), some (.cells [Value.map (some 7)] 44), some (.cells [Value.func (.func 18) #[] #[]] 51), some (.cells [vs 13 0 (L5.length + 1) (L5.length + 1)] 49), some (.cells [vs 9 0 (n7 + 1) n8] 62), some (.cells (Zb E_iiiiiiiA L2) 34), some (.ro (Zc L3) true), some (.ro (Zc (ZR L4 a0 a1 y0_0)) true), none, some (.cells (Zb E_ii (L6.set n7 (⟨y0_0, (0 : Int)⟩ : R_ii))) 66), some (.cells (Zb eI (L5 ++ ([y0_0] : List Int))) 3)]) (ob := [(dP (((1 = 1 ∧ Zl (1 * 2) (List.drop 0 [vi y0_0, vq]) = some [vi y0_0, vq] ∧ Z4 Zbr [vi y0_0, vq] = true) ∧ Z4 Zbr [vi y0_0, vq] = true) ∧ 0 < 1 ∧ 1 ≤ 100000 ∧ n7 + 1 ≤ n8 ∧ (0 + n7 * 2 + ([vi y0_0, vq] : List Value).length ≤ ((Zb E_ii L6) : List Value).length ∧ Zd3 (Zb E_ii L6) (0 + n7 * 2) [vi y0_0, vq] = (Zb E_ii (L6.set n7 (⟨y0_0, (0 : Int)⟩ : R_ii))))), true), (dP ((1 = 1 ∧ Zl (1 * 1) (List.drop 0 [vi y0_0]) = some [vi y0_0] ∧ Z4 Zbr [vi y0_0] = true) ∧ 0 < 1 ∧ 1 ≤ 100000 ∧ L5.length < L5.length + 1 ∧ L5.length ≤ 100000 ∧ L5.length * 1 ≤ (List.length (Zb eI L5)) ∧ List.take (L5.length * 1) (Zb eI L5) ++ [vi y0_0] = (Zb eI (L5 ++ ([y0_0] : List Int)))), true), (dP (putM Try.prog 25 (Value.agg #[vi a0, vi a1]) (vi y0_0) (Zao L4) = some (Zao (ZR L4 a0 a1 y0_0))), true), (Zs (Zl 8 (List.drop (0 + ((y0_0).toNat * 8)) (Zb E_iiiiiiiA L2))) [.i (L2.getD (y0_0).toNat R_iiiiiiiA.z).a0, .i (L2.getD (y0_0).toNat R_iiiiiiiA.z).a1, .i (L2.getD (y0_0).toNat R_iiiiiiiA.z).a2, .i (L2.getD (y0_0).toNat R_iiiiiiiA.z).a3, .i (L2.getD (y0_0).toNat R_iiiiiiiA.z).a4, .i (L2.getD (y0_0).toNat R_iiiiiiiA.z).a5, .i (L2.getD (y0_0).toNat R_iiiiiiiA.z).a6, (mc E_ii (L2.getD (y0_0).toNat R_iiiiiiiA.z).a7)], true), (Nat.blt (y0_0).toNat L2.length, true), (y0_0 == Int.ofNat (y0_0).toNat, true), (dP ((Zar Try.prog 25 (Value.agg #[vi a0, vi a1]) (Zao L4)).map (Option.map Prod.snd) = some (none)), true), ((!y0_1), false), (dP (ZX #[Value.agg #[vs 5 0 L2.length L2.length, Value.map (some 6)], Value.agg #[vi a0, vi a1]] (L2) (L3) (a0) (a1)  y0_0 y0_1 5 6 11), true), (dS (Zb E_iiiiiiiA L2), true), (dS (Zc L3), true)]) (by kernel_rfl) (Za (Zd ⟨⟨⟨rfl, ⟨rfl, rfl⟩⟩, rfl⟩, by omega, by omega, by omega, (ZeB (E := E_ii) (L := L6) (i := n7) (q := 0) (l := [vi y0_0, vq]) (⟨y0_0, (0 : Int)⟩ : R_ii) (by omega) (show 0 + n7 * 2 = n7 * 2 + 0 from by omega) (show 0 + 2 ≤ 2 from by decide) rfl)⟩) <| Za (Zd ⟨⟨rfl, ⟨rfl, rfl⟩⟩, by omega, by omega, ltA, by omega, (Zdc (E := eI) (L := L5) (M := ([y0_0] : List Int)) (n := L5.length) (show _ = _ * 1 from rfl) (by omega) (R := (L5 ++ ([y0_0] : List Int))) (by rw [List.take_of_length_le (by omega)]))⟩) <| Za (Zd (ZkW _ _ _ _)) <| Za (Zh (E := E_iiiiiiiA) (L := L2) (i := (y0_0).toNat) (q := 0) (by omega) (show (0 + ((y0_0).toNat * 8)) = (y0_0).toNat * 8 + 0 from by omega) (show 0 + 8 ≤ 8 from by decide) rfl rfl) <| oB <| oI <| Za (Zd (Zjk (by assumption))) <| Za (Zcf (by first | assumption | exact Decidable.not_not.1 (by assumption) | simp_all)) <| Za (Zd (Zaq #[Value.agg #[vs 5 0 L2.length L2.length, Value.map (some 6)], Value.agg #[vi a0, vi a1]] (L2) (L3) (a0) (a1)  y0_0 y0_1 N c0 5 6 11 rfl (by decide) (by decide))) <| oR <| Za (Zd (congrArg Zc (by first | rfl | simp))) Zg) rfl (by decide) (by rfl) rr ⟨⟨rfl, ⟨[], by rfl⟩, by rfl⟩, ⟨⟨rfl, ⟨[], by rfl⟩, by rfl⟩, ⟨⟨rfl, ⟨[], by rfl⟩, by rfl⟩, ⟨⟨rfl, ⟨[], (show ([vs 10 0 (L5.length + 1) (L5.length + 1)] : List Value) = _ from (Zf (Zay rfl eqA eqA) rfl).symm)⟩, by rfl⟩, ⟨⟨rfl, ⟨[], by rfl⟩, by rfl⟩, ⟨(Ze (E := E_iiiiiiiA) (α := R_iiiiiiiA) _ L2 _), ⟨(show Zc L3 = Zc L3 from rfl), ⟨(show Zc (ZR L4 a0 a1 y0_0) = Zc (ZR L4 a0 a1 y0_0) from rfl), ⟨(Ze (E := E_ii) (α := R_ii) _ (L6.set n7 (⟨y0_0, (0 : Int)⟩ : R_ii)) _), ⟨(Ze (E := eI) (α := Int) _ (L5 ++ ([y0_0] : List Int)) _), trivial⟩⟩⟩⟩⟩⟩⟩⟩⟩⟩
        ·
         exact ZcE
       ·
        refine Zam (fun g7 => ?_) (fun g7 => ?_)
        ·
         refine Zam (fun g8 => ?_) (fun g8 => ?_)
         ·
          exact Zau (r := (.r2 ((ZR L4 a0 a1 y0_0)) ((L5 ++ ([y0_0] : List Int))) (((L6.take n7) ++ ([(⟨y0_0, (0 : Int)⟩ : R_ii)] : List R_ii))) : ZK)) (fu := 4000) (orc := (Zp [(0, false)] [] [(0, (y0_0).toNat)] [(6, [.i (L2.getD (y0_0).toNat R_iiiiiiiA.z).a0, .i (L2.getD (y0_0).toNat R_iiiiiiiA.z).a1, .i (L2.getD (y0_0).toNat R_iiiiiiiA.z).a2, .i (L2.getD (y0_0).toNat R_iiiiiiiA.z).a3, .i (L2.getD (y0_0).toNat R_iiiiiiiA.z).a4, .i (L2.getD (y0_0).toNat R_iiiiiiiA.z).a5, .i (L2.getD (y0_0).toNat R_iiiiiiiA.z).a6, (mc E_ii (L2.getD (y0_0).toNat R_iiiiiiiA.z).a7)])] [(0, (Zap (L2) (L3) (a0) (a1)  y0_0 y0_1 5 6 11)), (1, .lk (none)), (2, .mp (Zao (ZR L4 a0 a1 y0_0))), (3, .ap 1 [vi y0_0] (Zb eI (L5 ++ ([y0_0] : List Int)))), (5, .ap 1 [vi y0_0, vq] (Zb E_ii ((L6.take n7) ++ ([(⟨y0_0, (0 : Int)⟩ : R_ii)] : List R_ii))))])) (live := [0, 1, 2, 3, 4, 5, 6, 7, 8, 9, 13, 15]) (u := vtt) (bl := [some (.cells [vs 5 0 L2.length L2.length, Value.map (some 6)] 46), some (.cells [Value.map (some 7)] 44), some (.cells [Value.func (.func 18) #[] #[]] 51), some (.cells [vs 13 0 (L5.length + 1) (L5.length + 1)] 49), some (.cells [vs 15 0 (n7 + 1) (n7 + 1)] 62), some (.cells (Zb E_iiiiiiiA L2) 34), some (.ro (Zc L3) true), some (.ro (Zc (ZR L4 a0 a1 y0_0)) true), none, none, some (.cells (Zb eI (L5 ++ ([y0_0] : List Int))) 3), some (.cells (Zb E_ii ((L6.take n7) ++ ([(⟨y0_0, (0 : Int)⟩ : R_ii)] : List R_ii))) 66)]) (ob := [(dP ((1 = 1 ∧ Zl (1 * 2) (List.drop 0 [vi y0_0, vq]) = some [vi y0_0, vq] ∧ Z4 Zbr [vi y0_0, vq] = true) ∧ 0 < 1 ∧ 1 ≤ 100000 ∧ n8 < n7 + 1 ∧ n7 ≤ 100000 ∧ n7 * 2 ≤ (List.length (Zb E_ii L6)) ∧ List.take (n7 * 2) (Zb E_ii L6) ++ [vi y0_0, vq] = (Zb E_ii ((L6.take n7) ++ ([(⟨y0_0, (0 : Int)⟩ : R_ii)] : List R_ii)))), true), (dP ((1 = 1 ∧ Zl (1 * 1) (List.drop 0 [vi y0_0]) = some [vi y0_0] ∧ Z4 Zbr [vi y0_0] = true) ∧ 0 < 1 ∧ 1 ≤ 100000 ∧ L5.length < L5.length + 1 ∧ L5.length ≤ 100000 ∧ L5.length * 1 ≤ (List.length (Zb eI L5)) ∧ List.take (L5.length * 1) (Zb eI L5) ++ [vi y0_0] = (Zb eI (L5 ++ ([y0_0] : List Int)))), true), (dP (putM Try.prog 25 (Value.agg #[vi a0, vi a1]) (vi y0_0) (Zao L4) = some (Zao (ZR L4 a0 a1 y0_0))), true), (Zs (Zl 8 (List.drop (0 + ((y0_0).toNat * 8)) (Zb E_iiiiiiiA L2))) [.i (L2.getD (y0_0).toNat R_iiiiiiiA.z).a0, .i (L2.getD (y0_0).toNat R_iiiiiiiA.z).a1, .i (L2.getD (y0_0).toNat R_iiiiiiiA.z).a2, .i (L2.getD (y0_0).toNat R_iiiiiiiA.z).a3, .i (L2.getD (y0_0).toNat R_iiiiiiiA.z).a4, .i (L2.getD (y0_0).toNat R_iiiiiiiA.z).a5, .i (L2.getD (y0_0).toNat R_iiiiiiiA.z).a6, (mc E_ii (L2.getD (y0_0).toNat R_iiiiiiiA.z).a7)], true), (Nat.blt (y0_0).toNat L2.length, true), (y0_0 == Int.ofNat (y0_0).toNat, true), (dP ((Zar Try.prog 25 (Value.agg #[vi a0, vi a1]) (Zao L4)).map (Option.map Prod.snd) = some (none)), true), ((!y0_1), false), (dP (ZX #[Value.agg #[vs 5 0 L2.length L2.length, Value.map (some 6)], Value.agg #[vi a0, vi a1]] (L2) (L3) (a0) (a1)  y0_0 y0_1 5 6 11), true), (dS (Zb E_iiiiiiiA L2), true), (dS (Zc L3), true)]) (by kernel_rfl) (Za (Zd ⟨⟨rfl, ⟨rfl, rfl⟩⟩, by omega, by omega, ltA, by omega, (Zdc (E := E_ii) (L := L6) (M := ([(⟨y0_0, (0 : Int)⟩ : R_ii)] : List R_ii)) (n := n7) (show _ = _ * 2 from rfl) (by omega) (R := ((L6.take n7) ++ ([(⟨y0_0, (0 : Int)⟩ : R_ii)] : List R_ii))) rfl)⟩) <| Za (Zd ⟨⟨rfl, ⟨rfl, rfl⟩⟩, by omega, by omega, ltA, by omega, (Zdc (E := eI) (L := L5) (M := ([y0_0] : List Int)) (n := L5.length) (show _ = _ * 1 from rfl) (by omega) (R := (L5 ++ ([y0_0] : List Int))) (by rw [List.take_of_length_le (by omega)]))⟩) <| Za (Zd (ZkW _ _ _ _)) <| Za (Zh (E := E_iiiiiiiA) (L := L2) (i := (y0_0).toNat) (q := 0) (by omega) (show (0 + ((y0_0).toNat * 8)) = (y0_0).toNat * 8 + 0 from by omega) (show 0 + 8 ≤ 8 from by decide) rfl rfl) <| oB <| oI <| Za (Zd (Zjk (by assumption))) <| Za (Zcf (by first | assumption | exact Decidable.not_not.1 (by assumption) | simp_all)) <| Za (Zd (Zaq #[Value.agg #[vs 5 0 L2.length L2.length, Value.map (some 6)], Value.agg #[vi a0, vi a1]] (L2) (L3) (a0) (a1)  y0_0 y0_1 N c0 5 6 11 rfl (by decide) (by decide))) <| oR <| Za (Zd (congrArg Zc (by first | rfl | simp))) Zg) rfl (by decide) (by rfl) rr ⟨⟨rfl, ⟨[], by rfl⟩, by rfl⟩, ⟨⟨rfl, ⟨[], by rfl⟩, by rfl⟩, ⟨⟨rfl, ⟨[], by rfl⟩, by rfl⟩, ⟨⟨rfl, ⟨[], (show ([vs 10 0 (L5.length + 1) (L5.length + 1)] : List Value) = _ from (Zf (Zay rfl eqA eqA) rfl).symm)⟩, by rfl⟩, ⟨⟨rfl, ⟨[], (show ([vs 11 0 (n7 + 1) (n7 + 1)] : List Value) = _ from (Zf (Zay rfl eqA eqA) rfl).symm)⟩, by rfl⟩, ⟨(Ze (E := E_iiiiiiiA) (α := R_iiiiiiiA) _ L2 _), ⟨(show Zc L3 = Zc L3 from rfl), ⟨(show Zc (ZR L4 a0 a1 y0_0) = Zc (ZR L4 a0 a1 y0_0) from rfl), ⟨(Ze (E := eI) (α := Int) _ (L5 ++ ([y0_0] : List Int)) _), ⟨(Ze (E := E_ii) (α := R_ii) _ ((L6.take n7) ++ ([(⟨y0_0, (0 : Int)⟩ : R_ii)] : List R_ii)) _), trivial⟩⟩⟩⟩⟩⟩⟩⟩⟩⟩
         ·
          exact ZcE
        ·
         exact ZcE
      ·
       exact ZcE
     ·
      exact ZcE
    ·
     exact ZcE

theorem ZcB (a0 a1 : Int) (L2 : List R_iiiiiiiA) (L3 L4 : List RA) (L5 : List Int) (L6 : List R_ii) (n7 n8 N : Nat) (r : ZK) (h : ZH a0 a1 L2 L3 L4 L5 L6 n7 n8 N = some r) : LSpec Try.prog 29 #[Value.agg #[vi a0, vi a1], vp 0 0, vp 1 0, vp 2 0, vp 3 0, vp 4 0] [.cells [vs 5 0 L2.length L2.length, Value.map (some 6)] 46, .cells [Value.map (some 7)] 44, .cells [Value.func (.func 18) #[] #[]] 51, .cells [vs 8 0 L5.length L5.length] 49, .cells [vs 9 0 n7 n8] 62, .cells (Zb E_iiiiiiiA L2) 34, .ro (Zc L3) true, .ro (Zc L4) true, .cells (Zb eI L5) 3, .cells (Zb E_ii L6) 66] (Zfl a0 a1 L2 L3 L4 L5 L6 n7 n8 r) (ZeR a0 a1 L2 L3 L4 L5 L6 n7 n8 r) :=
 Zfe Zb0 Try.func29 (by kernel_rfl) (by kernel_rfl) (fun r => by cases r <;> exact Zae _ rfl) (Zh4 a0 a1 L2 L3 L4 L5 L6 n7 n8 N) h

noncomputable def ZeS (a0 a1 : Int) (L2 : List R_iiiiiiiA) (L3 L4 : List RA) (L5 : List Int) (L6 : List R_ii) (n7 n8 k0 k1 k2 k3 k4 k5 k6 k7 k8 k9 n : Nat) : Zbp := .call [(k0, .cells [vs k5 0 L2.length L2.length, Value.map (some k6)] 46), (k1, .cells [Value.map (some k7)] 44), (k2, .cells [Value.func (.func 18) #[] #[]] 51), (k3, .cells [vs k8 0 L5.length L5.length] 49), (k4, .cells [vs k9 0 n7 n8] 62), (k5, .cells (Zb E_iiiiiiiA L2) 34), (k6, .ro (Zc L3) true), (k7, .ro (Zc L4) true), (k8, .cells (Zb eI L5) 3), (k9, .cells (Zb E_ii L6) 66)] (vtt) [] 0
def Zdk (A : Array Value) (a0 a1 : Int) (L2 : List R_iiiiiiiA) (L3 L4 : List RA) (L5 : List Int) (L6 : List R_ii) (n7 n8 k0 k1 k2 k3 k4 k5 k6 k7 k8 k9 n : Nat) : Prop := ZC Try.prog 29 A [(k0, .cells [vs k5 0 L2.length L2.length, Value.map (some k6)] 46), (k1, .cells [Value.map (some k7)] 44), (k2, .cells [Value.func (.func 18) #[] #[]] 51), (k3, .cells [vs k8 0 L5.length L5.length] 49), (k4, .cells [vs k9 0 n7 n8] 62), (k5, .cells (Zb E_iiiiiiiA L2) 34), (k6, .ro (Zc L3) true), (k7, .ro (Zc L4) true), (k8, .cells (Zb eI L5) 3), (k9, .cells (Zb E_ii L6) 66)] (vtt) [] n 0

theorem ZeT (A : Array Value) (a0 a1 : Int) (L2 : List R_iiiiiiiA) (L3 L4 : List RA) (L5 : List Int) (L6 : List R_ii) (n7 n8 N : Nat) (h : ZH a0 a1 L2 L3 L4 L5 L6 n7 n8 N = some (.r0)) (k0 k1 k2 k3 k4 k5 k6 k7 k8 k9 n : Nat) (hA : A = #[Value.agg #[vi a0, vi a1], vp k0 0, vp k1 0, vp k2 0, vp k3 0, vp k4 0]) (hnd : ([k0, k1, k2, k3, k4, k5, k6, k7, k8, k9] : List Nat).Nodup) (hlt : ∀ k ∈ ([k0, k1, k2, k3, k4, k5, k6, k7, k8, k9] : List Nat), k < n) : Zdk A a0 a1 L2 L3 L4 L5 L6 n7 n8 k0 k1 k2 k3 k4 k5 k6 k7 k8 k9 n :=
 Zan hA (LSpec.callL (show LSpec Try.prog 29 #[Value.agg #[vi a0, vi a1], vp 0 0, vp 1 0, vp 2 0, vp 3 0, vp 4 0] [.cells [vs 5 0 L2.length L2.length, Value.map (some 6)] 46, .cells [Value.map (some 7)] 44, .cells [Value.func (.func 18) #[] #[]] 51, .cells [vs 8 0 L5.length L5.length] 49, .cells [vs 9 0 n7 n8] 62, .cells (Zb E_iiiiiiiA L2) 34, .ro (Zc L3) true, .ro (Zc L4) true, .cells (Zb eI L5) 3, .cells (Zb E_ii L6) 66] (vtt) [some (.cells [vs 5 0 L2.length L2.length, Value.map (some 6)] 46), some (.cells [Value.map (some 7)] 44), some (.cells [Value.func (.func 18) #[] #[]] 51), some (.cells [vs 8 0 L5.length L5.length] 49), some (.cells [vs 9 0 n7 n8] 62), some (.cells (Zb E_iiiiiiiA L2) 34), some (.ro (Zc L3) true), some (.ro (Zc L4) true), some (.cells (Zb eI L5) 3), some (.cells (Zb E_ii L6) 66)] from ZcB a0 a1 L2 L3 L4 L5 L6 n7 n8 N _ h) [k0, k1, k2, k3, k4, k5, k6, k7, k8, k9] n [] rfl hnd hlt (show 10 ≤ 10 from by decide) (show ∀ j ∈ ([] : List Nat), j < 10 from by decide) (by rfl) ⟨rfl, ⟨rfl, ⟨rfl, ⟨rfl, ⟨rfl, ⟨(Zt _ _ _), ⟨rfl, ⟨rfl, ⟨(Zt _ _ _), ⟨(Zt _ _ _), trivial⟩⟩⟩⟩⟩⟩⟩⟩⟩⟩ (by rfl) ⟨rfl, ⟨rfl, ⟨rfl, ⟨rfl, ⟨rfl, ⟨(Zt _ _ _), ⟨rfl, ⟨rfl, ⟨(Zt _ _ _), ⟨(Zt _ _ _), trivial⟩⟩⟩⟩⟩⟩⟩⟩⟩⟩ ⟨.inr rfl, ⟨.inr rfl, ⟨.inr rfl, ⟨.inr rfl, ⟨.inr rfl, ⟨.inr rfl, ⟨.inr rfl, ⟨.inr rfl, ⟨.inr rfl, ⟨.inr rfl, trivial⟩⟩⟩⟩⟩⟩⟩⟩⟩⟩ rfl rfl rfl (Zf (Zk rfl rfl) (Zf (Zk rfl rfl) (Zf (Zk rfl rfl) (Zf (Zk rfl rfl) (Zf (Zk rfl rfl) (Zf (Zk rfl (ZD _ _ _)) (Zf (Zk rfl rfl) (Zf (Zk rfl rfl) (Zf (Zk rfl (ZD _ _ _)) (Zf (Zk rfl (ZD _ _ _)) rfl)))))))))) rfl)

noncomputable def ZeU (a0 a1 : Int) (L2 : List R_iiiiiiiA) (L3 L4 : List RA) (L5 : List Int) (L6 : List R_ii) (n7 n8 : Nat) (w2 : List RA) (w3 : List R_ii) (w4 : List Int) (k0 k1 k2 k3 k4 k5 k6 k7 k8 k9 n : Nat) : Zbp := .call [(k0, .cells [vs k5 0 L2.length L2.length, Value.map (some k6)] 46), (k1, .cells [Value.map (some k7)] 44), (k2, .cells [Value.func (.func 18) #[] #[]] 51), (k3, .cells [vs k8 0 L5.length L5.length] 49), (k4, .cells [vs k9 0 n7 n8] 62), (k5, .cells (Zb E_iiiiiiiA L2) 34), (k6, .ro (Zc L3) true), (k7, .ro (Zc L4) true), (k8, .cells (Zb eI L5) 3), (k9, .cells (Zb E_ii L6) 66)] (vtt) [(k3, some (.cells [vs n 0 w4.length w4.length] 49)), (k4, some (.cells [vs k9 0 (n7 + 1) n8] 62)), (k7, some (.ro (Zc w2) true)), (k8, none), (k9, some (.cells (Zb E_ii w3) 66)), (n, some (.cells (Zb eI w4) 3))] 1
def Zdl (A : Array Value) (a0 a1 : Int) (L2 : List R_iiiiiiiA) (L3 L4 : List RA) (L5 : List Int) (L6 : List R_ii) (n7 n8 : Nat) (w2 : List RA) (w3 : List R_ii) (w4 : List Int) (k0 k1 k2 k3 k4 k5 k6 k7 k8 k9 n : Nat) : Prop := ZC Try.prog 29 A [(k0, .cells [vs k5 0 L2.length L2.length, Value.map (some k6)] 46), (k1, .cells [Value.map (some k7)] 44), (k2, .cells [Value.func (.func 18) #[] #[]] 51), (k3, .cells [vs k8 0 L5.length L5.length] 49), (k4, .cells [vs k9 0 n7 n8] 62), (k5, .cells (Zb E_iiiiiiiA L2) 34), (k6, .ro (Zc L3) true), (k7, .ro (Zc L4) true), (k8, .cells (Zb eI L5) 3), (k9, .cells (Zb E_ii L6) 66)] (vtt) [(k3, some (.cells [vs n 0 w4.length w4.length] 49)), (k4, some (.cells [vs k9 0 (n7 + 1) n8] 62)), (k7, some (.ro (Zc w2) true)), (k8, none), (k9, some (.cells (Zb E_ii w3) 66)), (n, some (.cells (Zb eI w4) 3))] n 1

theorem ZeV (A : Array Value) (a0 a1 : Int) (L2 : List R_iiiiiiiA) (L3 L4 : List RA) (L5 : List Int) (L6 : List R_ii) (n7 n8 : Nat) (w2 : List RA) (w3 : List R_ii) (w4 : List Int) (N : Nat) (h : ZH a0 a1 L2 L3 L4 L5 L6 n7 n8 N = some (.r1 w2 w3 w4)) (k0 k1 k2 k3 k4 k5 k6 k7 k8 k9 n : Nat) (hA : A = #[Value.agg #[vi a0, vi a1], vp k0 0, vp k1 0, vp k2 0, vp k3 0, vp k4 0]) (hnd : ([k0, k1, k2, k3, k4, k5, k6, k7, k8, k9] : List Nat).Nodup) (hlt : ∀ k ∈ ([k0, k1, k2, k3, k4, k5, k6, k7, k8, k9] : List Nat), k < n) : Zdl A a0 a1 L2 L3 L4 L5 L6 n7 n8 w2 w3 w4 k0 k1 k2 k3 k4 k5 k6 k7 k8 k9 n :=
 Zan hA (LSpec.callL (show LSpec Try.prog 29 #[Value.agg #[vi a0, vi a1], vp 0 0, vp 1 0, vp 2 0, vp 3 0, vp 4 0] [.cells [vs 5 0 L2.length L2.length, Value.map (some 6)] 46, .cells [Value.map (some 7)] 44, .cells [Value.func (.func 18) #[] #[]] 51, .cells [vs 8 0 L5.length L5.length] 49, .cells [vs 9 0 n7 n8] 62, .cells (Zb E_iiiiiiiA L2) 34, .ro (Zc L3) true, .ro (Zc L4) true, .cells (Zb eI L5) 3, .cells (Zb E_ii L6) 66] (vtt) [some (.cells [vs 5 0 L2.length L2.length, Value.map (some 6)] 46), some (.cells [Value.map (some 7)] 44), some (.cells [Value.func (.func 18) #[] #[]] 51), some (.cells [vs 10 0 w4.length w4.length] 49), some (.cells [vs 9 0 (n7 + 1) n8] 62), some (.cells (Zb E_iiiiiiiA L2) 34), some (.ro (Zc L3) true), some (.ro (Zc w2) true), none, some (.cells (Zb E_ii w3) 66), some (.cells (Zb eI w4) 3)] from ZcB a0 a1 L2 L3 L4 L5 L6 n7 n8 N _ h) [k0, k1, k2, k3, k4, k5, k6, k7, k8, k9] n [3, 4, 7, 8, 9, 10] rfl hnd hlt (show 10 ≤ 11 from by decide) (show ∀ j ∈ ([3, 4, 7, 8, 9, 10] : List Nat), j < 11 from by decide) (by rfl) ⟨rfl, ⟨rfl, ⟨rfl, ⟨rfl, ⟨rfl, ⟨(Zt _ _ _), ⟨rfl, ⟨rfl, ⟨(Zt _ _ _), ⟨(Zt _ _ _), trivial⟩⟩⟩⟩⟩⟩⟩⟩⟩⟩ (by rfl) ⟨rfl, ⟨rfl, ⟨rfl, ⟨rfl, ⟨rfl, ⟨(Zt _ _ _), ⟨rfl, ⟨rfl, ⟨(Zt _ _ _), ⟨(Zt _ _ _), trivial⟩⟩⟩⟩⟩⟩⟩⟩⟩⟩ ⟨.inr rfl, ⟨.inr rfl, ⟨.inr rfl, ⟨.inl (by decide), ⟨.inl (by decide), ⟨.inr rfl, ⟨.inr rfl, ⟨.inl (by decide), ⟨.inl (by decide), ⟨.inl (by decide), ⟨(by decide), trivial⟩⟩⟩⟩⟩⟩⟩⟩⟩⟩⟩ rfl rfl rfl (Zf (Zk rfl rfl) (Zf (Zk rfl rfl) (Zf (Zk rfl rfl) (Zf (Zk rfl rfl) (Zf (Zk rfl rfl) (Zf (Zk rfl (ZD _ _ _)) (Zf (Zk rfl rfl) (Zf (Zk rfl rfl) (Zf (Zk rfl (ZD _ _ _)) (Zf (Zk rfl (ZD _ _ _)) rfl)))))))))) (Zf (Zk rfl (ZaQ rfl)) (Zf (Zk rfl (ZaQ rfl)) (Zf (Zk rfl (ZaQ rfl)) (Zf (Zk rfl rfl) (Zf (Zk rfl (ZaQ (ZD _ _ _))) (Zf (Zk rfl (ZaQ (ZD _ _ _))) rfl)))))))

noncomputable def ZeW (a0 a1 : Int) (L2 : List R_iiiiiiiA) (L3 L4 : List RA) (L5 : List Int) (L6 : List R_ii) (n7 n8 : Nat) (w2 : List RA) (w3 : List Int) (w4 : List R_ii) (k0 k1 k2 k3 k4 k5 k6 k7 k8 k9 n : Nat) : Zbp := .call [(k0, .cells [vs k5 0 L2.length L2.length, Value.map (some k6)] 46), (k1, .cells [Value.map (some k7)] 44), (k2, .cells [Value.func (.func 18) #[] #[]] 51), (k3, .cells [vs k8 0 L5.length L5.length] 49), (k4, .cells [vs k9 0 n7 n8] 62), (k5, .cells (Zb E_iiiiiiiA L2) 34), (k6, .ro (Zc L3) true), (k7, .ro (Zc L4) true), (k8, .cells (Zb eI L5) 3), (k9, .cells (Zb E_ii L6) 66)] (vtt) [(k3, some (.cells [vs n 0 w3.length w3.length] 49)), (k4, some (.cells [vs (n + 1) 0 w4.length w4.length] 62)), (k7, some (.ro (Zc w2) true)), (k8, none), (k9, none), (n, some (.cells (Zb eI w3) 3)), ((n + 1), some (.cells (Zb E_ii w4) 66))] 2
def Zdm (A : Array Value) (a0 a1 : Int) (L2 : List R_iiiiiiiA) (L3 L4 : List RA) (L5 : List Int) (L6 : List R_ii) (n7 n8 : Nat) (w2 : List RA) (w3 : List Int) (w4 : List R_ii) (k0 k1 k2 k3 k4 k5 k6 k7 k8 k9 n : Nat) : Prop := ZC Try.prog 29 A [(k0, .cells [vs k5 0 L2.length L2.length, Value.map (some k6)] 46), (k1, .cells [Value.map (some k7)] 44), (k2, .cells [Value.func (.func 18) #[] #[]] 51), (k3, .cells [vs k8 0 L5.length L5.length] 49), (k4, .cells [vs k9 0 n7 n8] 62), (k5, .cells (Zb E_iiiiiiiA L2) 34), (k6, .ro (Zc L3) true), (k7, .ro (Zc L4) true), (k8, .cells (Zb eI L5) 3), (k9, .cells (Zb E_ii L6) 66)] (vtt) [(k3, some (.cells [vs n 0 w3.length w3.length] 49)), (k4, some (.cells [vs (n + 1) 0 w4.length w4.length] 62)), (k7, some (.ro (Zc w2) true)), (k8, none), (k9, none), (n, some (.cells (Zb eI w3) 3)), ((n + 1), some (.cells (Zb E_ii w4) 66))] n 2

theorem ZeX (A : Array Value) (a0 a1 : Int) (L2 : List R_iiiiiiiA) (L3 L4 : List RA) (L5 : List Int) (L6 : List R_ii) (n7 n8 : Nat) (w2 : List RA) (w3 : List Int) (w4 : List R_ii) (N : Nat) (h : ZH a0 a1 L2 L3 L4 L5 L6 n7 n8 N = some (.r2 w2 w3 w4)) (k0 k1 k2 k3 k4 k5 k6 k7 k8 k9 n : Nat) (hA : A = #[Value.agg #[vi a0, vi a1], vp k0 0, vp k1 0, vp k2 0, vp k3 0, vp k4 0]) (hnd : ([k0, k1, k2, k3, k4, k5, k6, k7, k8, k9] : List Nat).Nodup) (hlt : ∀ k ∈ ([k0, k1, k2, k3, k4, k5, k6, k7, k8, k9] : List Nat), k < n) : Zdm A a0 a1 L2 L3 L4 L5 L6 n7 n8 w2 w3 w4 k0 k1 k2 k3 k4 k5 k6 k7 k8 k9 n :=
 Zan hA (LSpec.callL (show LSpec Try.prog 29 #[Value.agg #[vi a0, vi a1], vp 0 0, vp 1 0, vp 2 0, vp 3 0, vp 4 0] [.cells [vs 5 0 L2.length L2.length, Value.map (some 6)] 46, .cells [Value.map (some 7)] 44, .cells [Value.func (.func 18) #[] #[]] 51, .cells [vs 8 0 L5.length L5.length] 49, .cells [vs 9 0 n7 n8] 62, .cells (Zb E_iiiiiiiA L2) 34, .ro (Zc L3) true, .ro (Zc L4) true, .cells (Zb eI L5) 3, .cells (Zb E_ii L6) 66] (vtt) [some (.cells [vs 5 0 L2.length L2.length, Value.map (some 6)] 46), some (.cells [Value.map (some 7)] 44), some (.cells [Value.func (.func 18) #[] #[]] 51), some (.cells [vs 10 0 w3.length w3.length] 49), some (.cells [vs 11 0 w4.length w4.length] 62), some (.cells (Zb E_iiiiiiiA L2) 34), some (.ro (Zc L3) true), some (.ro (Zc w2) true), none, none, some (.cells (Zb eI w3) 3), some (.cells (Zb E_ii w4) 66)] from ZcB a0 a1 L2 L3 L4 L5 L6 n7 n8 N _ h) [k0, k1, k2, k3, k4, k5, k6, k7, k8, k9] n [3, 4, 7, 8, 9, 10, 11] rfl hnd hlt (show 10 ≤ 12 from by decide) (show ∀ j ∈ ([3, 4, 7, 8, 9, 10, 11] : List Nat), j < 12 from by decide) (by rfl) ⟨rfl, ⟨rfl, ⟨rfl, ⟨rfl, ⟨rfl, ⟨(Zt _ _ _), ⟨rfl, ⟨rfl, ⟨(Zt _ _ _), ⟨(Zt _ _ _), trivial⟩⟩⟩⟩⟩⟩⟩⟩⟩⟩ (by rfl) ⟨rfl, ⟨rfl, ⟨rfl, ⟨rfl, ⟨rfl, ⟨(Zt _ _ _), ⟨rfl, ⟨rfl, ⟨(Zt _ _ _), ⟨(Zt _ _ _), trivial⟩⟩⟩⟩⟩⟩⟩⟩⟩⟩ ⟨.inr rfl, ⟨.inr rfl, ⟨.inr rfl, ⟨.inl (by decide), ⟨.inl (by decide), ⟨.inr rfl, ⟨.inr rfl, ⟨.inl (by decide), ⟨.inl (by decide), ⟨.inl (by decide), ⟨(by decide), ⟨(by decide), trivial⟩⟩⟩⟩⟩⟩⟩⟩⟩⟩⟩⟩ rfl rfl rfl (Zf (Zk rfl rfl) (Zf (Zk rfl rfl) (Zf (Zk rfl rfl) (Zf (Zk rfl rfl) (Zf (Zk rfl rfl) (Zf (Zk rfl (ZD _ _ _)) (Zf (Zk rfl rfl) (Zf (Zk rfl rfl) (Zf (Zk rfl (ZD _ _ _)) (Zf (Zk rfl (ZD _ _ _)) rfl)))))))))) (Zf (Zk rfl (ZaQ rfl)) (Zf (Zk rfl (ZaQ rfl)) (Zf (Zk rfl (ZaQ rfl)) (Zf (Zk rfl rfl) (Zf (Zk rfl rfl) (Zf (Zk rfl (ZaQ (ZD _ _ _))) (Zf (Zk rfl (ZaQ (ZD _ _ _))) rfl))))))))

noncomputable def ZfL (L0 : List R_iiiiiiiA) (L1 : List RA) (L2 : List R_ii) : Z7 → Value
 | .r0 => vn
 | .r1 w2 => vs 2 0 w2.length w2.length
noncomputable def Zfx (L0 : List R_iiiiiiiA) (L1 : List RA) (L2 : List R_ii) : Z7 → List (Option AObj)
 | .r0 => [some (.cells (Zb E_iiiiiiiA L0) 34), some (.ro (Zc L1) true)]
 | .r1 w2 => [some (.cells (Zb E_iiiiiiiA L0) 34), some (.ro (Zc L1) true), some (.cells (Zb eI w2) 3)]

def ZiM : graph_objects_walk_2X → Nat
 | .h1m0 v4 => 1
 | .h1m1 v4 v5 v6 v7 => 1
 | .h1m2 v4 v5 v6 v7 v8 v9 => 1
 | .h2m0 v4 => 2
 | .h2m1 v4 v5 v6 v7 => 2
 | .h2m2 v4 v5 v6 v7 v8 v9 => 2
noncomputable def Zjt (L0 : List R_iiiiiiiA) (L1 : List RA) (L2 : List R_ii) : graph_objects_walk_2X → List (Nat × Value)
 | .h1m0 v4 => [(3, vp 2 0), (7, vp 3 0), (9, vp 4 0), (10, Value.func (.func 29) #[] #[vp 2 0, vp 5 0, vp 6 0, vp 3 0, vp 4 0]), (19, ms E_ii L2), (20, vi (L2.length : Int)), (21, vi (v4 : Int))]
 | .h1m1 v4 v5 v6 v7 => [(3, vp 2 0), (7, vp 3 0), (9, vp 4 0), (10, Value.func (.func 29) #[] #[vp 2 0, vp 5 0, vp 6 0, vp 3 0, vp 4 0]), (19, ms E_ii L2), (20, vi (L2.length : Int)), (21, vi (v4 : Int))]
 | .h1m2 v4 v5 v6 v7 v8 v9 => [(3, vp 2 0), (7, vp 3 0), (9, vp 4 0), (10, Value.func (.func 29) #[] #[vp 2 0, vp 5 0, vp 6 0, vp 3 0, vp 4 0]), (19, ms E_ii L2), (20, vi (L2.length : Int)), (21, vi (v4 : Int))]
 | .h2m0 v4 => [(3, vp 2 0), (7, vp 3 0), (9, vp 4 0), (10, Value.func (.func 29) #[] #[vp 2 0, vp 5 0, vp 6 0, vp 3 0, vp 4 0]), (19, ms E_ii L2), (20, vi (L2.length : Int)), (21, vi (v4 : Int))]
 | .h2m1 v4 v5 v6 v7 => [(3, vp 2 0), (7, vp 3 0), (9, vp 4 0), (10, Value.func (.func 29) #[] #[vp 2 0, vp 5 0, vp 6 0, vp 3 0, vp 4 0]), (19, ms E_ii L2), (20, vi (L2.length : Int)), (21, vi (v4 : Int))]
 | .h2m2 v4 v5 v6 v7 v8 v9 => [(3, vp 2 0), (7, vp 3 0), (9, vp 4 0), (10, Value.func (.func 29) #[] #[vp 2 0, vp 5 0, vp 6 0, vp 3 0, vp 4 0]), (19, ms E_ii L2), (20, vi (L2.length : Int)), (21, vi (v4 : Int))]
noncomputable def Zju (L0 : List R_iiiiiiiA) (L1 : List RA) (L2 : List R_ii) : graph_objects_walk_2X → List (Option AObj)
 | .h1m0 v4 => [some (.cells (Zb E_iiiiiiiA L0) 34), some (.ro (Zc L1) true), some (.cells [vs 0 0 L0.length L0.length, Value.map (some 1)] 46), some (.cells [vn] 49), some (.cells [vn] 62), some (.cells [Value.map (some 7)] 44), some (.cells [Value.func (.func 18) #[] #[]] 51), some (.ro (Zc ([] : List RA)) true)]
 | .h1m1 v4 v5 v6 v7 => [some (.cells (Zb E_iiiiiiiA L0) 34), some (.ro (Zc L1) true), some (.cells [vs 0 0 L0.length L0.length, Value.map (some 1)] 46), some (.cells [vs 7 0 v5.length v5.length] 49), some (.cells [vs 8 0 v6.length v6.length] 62), some (.cells [Value.map (some 9)] 44), some (.cells [Value.func (.func 18) #[] #[]] 51), some (.cells (Zb eI v5) 3), some (.cells (Zb E_ii v6) 66), some (.ro (Zc v7) true)]
 | .h1m2 v4 v5 v6 v7 v8 v9 => [some (.cells (Zb E_iiiiiiiA L0) 34), some (.ro (Zc L1) true), some (.cells [vs 0 0 L0.length L0.length, Value.map (some 1)] 46), some (.cells [vs 7 0 v5.length v5.length] 49), some (.cells [vs 8 0 v7 v8] 62), some (.cells [Value.map (some 9)] 44), some (.cells [Value.func (.func 18) #[] #[]] 51), some (.cells (Zb eI v5) 3), some (.cells (Zb E_ii v6) 66), some (.ro (Zc v9) true)]
 | .h2m0 v4 => [some (.cells (Zb E_iiiiiiiA L0) 34), some (.ro (Zc L1) true), some (.cells [vs 0 0 L0.length L0.length, Value.map (some 1)] 46), some (.cells [vn] 49), some (.cells [vn] 62), some (.cells [Value.map (some 7)] 44), some (.cells [Value.func (.func 18) #[] #[]] 51), some (.ro (Zc ([] : List RA)) true)]
 | .h2m1 v4 v5 v6 v7 => [some (.cells (Zb E_iiiiiiiA L0) 34), some (.ro (Zc L1) true), some (.cells [vs 0 0 L0.length L0.length, Value.map (some 1)] 46), some (.cells [vs 7 0 v5.length v5.length] 49), some (.cells [vs 8 0 v6.length v6.length] 62), some (.cells [Value.map (some 9)] 44), some (.cells [Value.func (.func 18) #[] #[]] 51), some (.cells (Zb eI v5) 3), some (.cells (Zb E_ii v6) 66), some (.ro (Zc v7) true)]
 | .h2m2 v4 v5 v6 v7 v8 v9 => [some (.cells (Zb E_iiiiiiiA L0) 34), some (.ro (Zc L1) true), some (.cells [vs 0 0 L0.length L0.length, Value.map (some 1)] 46), some (.cells [vs 7 0 v5.length v5.length] 49), some (.cells [vs 8 0 v7 v8] 62), some (.cells [Value.map (some 9)] 44), some (.cells [Value.func (.func 18) #[] #[]] 51), some (.cells (Zb eI v5) 3), some (.cells (Zb E_ii v6) 66), some (.ro (Zc v9) true)]

noncomputable def Zx : Nat → Code × List ZaF
 | 1 => Zbj [1, 1, 1, 1, 1, 0, 1, 3] (Zcb Try.f16) []
 | 2 => Zbj [1, 1, 1, 1, 1, 0, 1, 3, 7, 1, 1, 0, 3, 1, 1, 3] (Zcb Try.f16) []
 | _ => (.skip, [])
def Zfy : Nat → Bool
 | 1 => true
 | 2 => true
 | _ => true
noncomputable def ZA (i : Nat) : List ZaF := match Zfy i with | true => .rnd i :: (Zx i).2 | false => (Zx i).2

noncomputable def Zm (L0 : List R_iiiiiiiA) (L1 : List RA) (L2 : List R_ii) (N : Nat) : Mach := ⟨Try.f16, [.cells (Zb E_iiiiiiiA L0) 34, .ro (Zc L1) true], graph_objects_walk_2X, Z7, ZW L0 L1 L2 N, ZiM, Zx, Zfy, Zjt L0 L1 L2, Zju L0 L1 L2, ZfL L0 L1 L2, Zfx L0 L1 L2⟩

theorem Zhe (L0 : List R_iiiiiiiA) (L1 : List RA) (L2 : List R_ii) (v4 N : Nat) : (Zm L0 L1 L2 N).Ok Try.prog Zq (.h1m0 v4 : graph_objects_walk_2X) (ZW L0 L1 L2 N (.h1m0 v4 : graph_objects_walk_2X)) := by
 show (Zm L0 L1 L2 N).Ok Try.prog Zq (.h1m0 v4 : graph_objects_walk_2X) (Zaf L0 L1 L2 N v4)
 unfold Zaf
 refine Mach.ok_ite (fun g0 => ?_) (fun g0 => ?_)
 ·
  refine Mach.ok_bind (fun z1 c1 => ?_)
  cases z1 with
  | r0 =>
   exact Mach.ok_head (bK := Zx 2) (M := Zm L0 L1 L2 N) (cd := 1000000) (cm := 0) (y := (.h2m0 (v4) : graph_objects_walk_2X)) (fu := 4000) (orc := (Zp [(0, true)] [] [(0, v4)] [(0, [.i (L2.getD v4 R_ii.z).a0, .i (L2.getD v4 R_ii.z).a1])] [(1, (ZhY ((L2.getD v4 R_ii.z).a0) ((L2.getD v4 R_ii.z).a1) (L0) (L1) (([] : List RA))   2 5 6 3 4 0 1 7 9))])) (live := [0, 1, 2, 3, 4, 5, 6, 7]) (tv := fun _ => [some (vp 2 0), some (vp 3 0), some (vp 4 0), some (Value.func (.func 29) #[] #[vp 2 0, vp 5 0, vp 6 0, vp 3 0, vp 4 0]), some (ms E_ii L2), some (vi (L2.length : Int)), some (vi (v4 : Int))]) (bl := [some (.cells (Zb E_iiiiiiiA L0) 34), some (.ro (Zc L1) true), some (.cells [vs 0 0 L0.length L0.length, Value.map (some 1)] 46), some (.cells [vn] 49), some (.cells [vn] 62), some (.cells [Value.map (some 7)] 44), some (.cells [Value.func (.func 18) #[] #[]] 51), some (.ro (Zc ([] : List RA)) true)]) (ob := [(dP (ZeK #[Value.agg #[vi (L2.getD v4 R_ii.z).a0, vi (L2.getD v4 R_ii.z).a1], vp 2 0, vp 5 0, vp 6 0, vp 3 0, vp 4 0] ((L2.getD v4 R_ii.z).a0) ((L2.getD v4 R_ii.z).a1) (L0) (L1) (([] : List RA))   2 5 6 3 4 0 1 7 9), true), (dS [vs 0 0 L0.length L0.length, Value.map (some 1)], true), (dS [Value.map (some 7)], true), (dS [Value.func (.func 18) #[] #[]], true), (dS [vn], true), (dS [vn], true), (dS (Zb E_iiiiiiiA L0), true), (dS (Zc L1), true), (dS (Zc ([] : List RA)), true), (dP (Zaj (code (ZI E_ii L2)) (0 + (v4 * 2)) 2 = some [.i (L2.getD v4 R_ii.z).a0, .i (L2.getD v4 R_ii.z).a1]), true), (Nat.blt v4 L2.length, true), ((v4 : Int) == Int.ofNat v4, true), ((decide ((v4 : Int) < (L2.length : Int))), true)]) rfl rfl (show ∀ j ∈ Zw (Zx 2).2, j ∈ Zw (ZA 1) from by decide +kernel) (fun gv => by kernel_rfl) (Za (Zd (ZhZ #[Value.agg #[vi (L2.getD v4 R_ii.z).a0, vi (L2.getD v4 R_ii.z).a1], vp 2 0, vp 5 0, vp 6 0, vp 3 0, vp 4 0] ((L2.getD v4 R_ii.z).a0) ((L2.getD v4 R_ii.z).a1) (L0) (L1) (([] : List RA))   N c1 2 5 6 3 4 0 1 7 9 rfl (by decide) (by decide))) <| Za (Zd (Zf rfl (Zf rfl rfl))) <| Za (Zd (Zf rfl rfl)) <| Za (Zd (Zf rfl rfl)) <| Za (Zd (Zf rfl rfl)) <| Za (Zd (Zf rfl rfl)) <| oR <| Za (Zd (congrArg Zc (by first | rfl | simp))) <| Za (Zd (congrArg Zc (by first | rfl | simp))) <| Za (Zd (ZaB (E := E_ii) (L := L2) (i := v4) (q := 0) (by omega) (show (0 + (v4 * 2)) = v4 * 2 + 0 from by omega) (show 0 + 2 ≤ 2 from by decide) rfl)) <| oB <| oI <| oY Zg) rfl (by decide) (by rfl) (fun _ => ⟨rr, ⟨rr, ⟨rr, ⟨rr, ⟨rr, ⟨rr, ⟨rr, trivial⟩⟩⟩⟩⟩⟩⟩) ⟨(Ze (E := E_iiiiiiiA) (α := R_iiiiiiiA) _ L0 _), ⟨(show Zc L1 = Zc L1 from rfl), ⟨⟨rfl, ⟨[], by rfl⟩, by rfl⟩, ⟨⟨rfl, ⟨[], by rfl⟩, by rfl⟩, ⟨⟨rfl, ⟨[], by rfl⟩, by rfl⟩, ⟨⟨rfl, ⟨[], by rfl⟩, by rfl⟩, ⟨⟨rfl, ⟨[], by rfl⟩, by rfl⟩, ⟨(show Zc ([] : List RA) = Zc ([] : List RA) from rfl), trivial⟩⟩⟩⟩⟩⟩⟩⟩
  | r1 y1_0 y1_1 y1_2 =>
   exact Mach.ok_head (bK := Zx 2) (M := Zm L0 L1 L2 N) (cd := 1000000) (cm := 0) (y := (.h2m1 (v4) (y1_1) (y1_2) (y1_0) : graph_objects_walk_2X)) (fu := 4000) (orc := (Zp [(0, true)] [] [(0, v4)] [(0, [.i (L2.getD v4 R_ii.z).a0, .i (L2.getD v4 R_ii.z).a1])] [(1, (Zia ((L2.getD v4 R_ii.z).a0) ((L2.getD v4 R_ii.z).a1) (L0) (L1) (([] : List RA))  y1_0 y1_1 y1_2 2 5 6 3 4 0 1 7 9))])) (live := [0, 1, 2, 3, 4, 5, 6, 9, 10, 7]) (tv := fun _ => [some (vp 2 0), some (vp 3 0), some (vp 4 0), some (Value.func (.func 29) #[] #[vp 2 0, vp 5 0, vp 6 0, vp 3 0, vp 4 0]), some (ms E_ii L2), some (vi (L2.length : Int)), some (vi (v4 : Int))]) (bl := [some (.cells (Zb E_iiiiiiiA L0) 34), some (.ro (Zc L1) true), some (.cells [vs 0 0 L0.length L0.length, Value.map (some 1)] 46), some (.cells [vs 9 0 y1_1.length y1_1.length] 49), some (.cells [vs 10 0 y1_2.length y1_2.length] 62), some (.cells [Value.map (some 7)] 44), some (.cells [Value.func (.func 18) #[] #[]] 51), some (.cells (Zb eI y1_1) 3), some (.cells (Zb E_ii y1_2) 66), some (.ro (Zc y1_0) true)]) (ob := [(dP (ZeL #[Value.agg #[vi (L2.getD v4 R_ii.z).a0, vi (L2.getD v4 R_ii.z).a1], vp 2 0, vp 5 0, vp 6 0, vp 3 0, vp 4 0] ((L2.getD v4 R_ii.z).a0) ((L2.getD v4 R_ii.z).a1) (L0) (L1) (([] : List RA))  y1_0 y1_1 y1_2 2 5 6 3 4 0 1 7 9), true), (dS [vs 0 0 L0.length L0.length, Value.map (some 1)], true), (dS [Value.map (some 7)], true), (dS [Value.func (.func 18) #[] #[]], true), (dS [vn], true), (dS [vn], true), (dS (Zb E_iiiiiiiA L0), true), (dS (Zc L1), true), (dS (Zc ([] : List RA)), true), (dP (Zaj (code (ZI E_ii L2)) (0 + (v4 * 2)) 2 = some [.i (L2.getD v4 R_ii.z).a0, .i (L2.getD v4 R_ii.z).a1]), true), (Nat.blt v4 L2.length, true), ((v4 : Int) == Int.ofNat v4, true), ((decide ((v4 : Int) < (L2.length : Int))), true)]) rfl rfl (show ∀ j ∈ Zw (Zx 2).2, j ∈ Zw (ZA 1) from by decide +kernel) (fun gv => by kernel_rfl) (Za (Zd (Zib #[Value.agg #[vi (L2.getD v4 R_ii.z).a0, vi (L2.getD v4 R_ii.z).a1], vp 2 0, vp 5 0, vp 6 0, vp 3 0, vp 4 0] ((L2.getD v4 R_ii.z).a0) ((L2.getD v4 R_ii.z).a1) (L0) (L1) (([] : List RA))  y1_0 y1_1 y1_2 N c1 2 5 6 3 4 0 1 7 9 rfl (by decide) (by decide))) <| Za (Zd (Zf rfl (Zf rfl rfl))) <| Za (Zd (Zf rfl rfl)) <| Za (Zd (Zf rfl rfl)) <| Za (Zd (Zf rfl rfl)) <| Za (Zd (Zf rfl rfl)) <| oR <| Za (Zd (congrArg Zc (by first | rfl | simp))) <| Za (Zd (congrArg Zc (by first | rfl | simp))) <| Za (Zd (ZaB (E := E_ii) (L := L2) (i := v4) (q := 0) (by omega) (show (0 + (v4 * 2)) = v4 * 2 + 0 from by omega) (show 0 + 2 ≤ 2 from by decide) rfl)) <| oB <| oI <| oY Zg) rfl (by decide) (by rfl) (fun _ => ⟨rr, ⟨rr, ⟨rr, ⟨rr, ⟨rr, ⟨rr, ⟨rr, trivial⟩⟩⟩⟩⟩⟩⟩) ⟨(Ze (E := E_iiiiiiiA) (α := R_iiiiiiiA) _ L0 _), ⟨(show Zc L1 = Zc L1 from rfl), ⟨⟨rfl, ⟨[], by rfl⟩, by rfl⟩, ⟨⟨rfl, ⟨[], by rfl⟩, by rfl⟩, ⟨⟨rfl, ⟨[], by rfl⟩, by rfl⟩, ⟨⟨rfl, ⟨[], by rfl⟩, by rfl⟩, ⟨⟨rfl, ⟨[], by rfl⟩, by rfl⟩, ⟨(Ze (E := eI) (α := Int) _ y1_1 _), ⟨(Ze (E := E_ii) (α := R_ii) _ y1_2 _), ⟨(show Zc y1_0 = Zc y1_0 from rfl), trivial⟩⟩⟩⟩⟩⟩⟩⟩⟩⟩
 ·
  exact Mach.ok_fin (M := Zm L0 L1 L2 N) (cd := 1000000) (cm := 0) (r := (.r0 : Z7)) (fu := 4000) (orc := (Zp [(0, false)] [] [] [] [])) (live := [0, 1]) (u := vn) (bl := [some (.cells (Zb E_iiiiiiiA L0) 34), some (.ro (Zc L1) true)]) (ob := [((decide ((v4 : Int) < (L2.length : Int))), false)]) (fun gv => by kernel_rfl) (oN Zg) rfl (by decide) (by rfl) rr ⟨(Ze (E := E_iiiiiiiA) (α := R_iiiiiiiA) _ L0 _), ⟨(show Zc L1 = Zc L1 from rfl), trivial⟩⟩

end Ev
end Go.Proofs.Ytmcgcapkldpjlaa
