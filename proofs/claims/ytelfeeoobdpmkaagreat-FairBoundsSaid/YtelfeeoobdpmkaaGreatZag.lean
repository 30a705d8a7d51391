/- The law FairBounds, for every input. -/
import Derived.Test.YtelfeeoobdpmkaaGreatZaf
import Derived.Test.YtelfeeoobdpmkaaGreatZac
import Derived.Test.YtelfeeoobdpmkaaGreatZab
import Derived.StillTail
import Derived.OrdersHeld
import Derived.WideBlind
/- Calls do what the plain functions say. -/
namespace Go.Proofs.YtelfeeoobdpmkaaGreat
open Go.RowKit
namespace Ev
set_option linter.unusedVariables false
set_option maxRecDepth 100000
theorem Znt (L0 : List RA) (v0 : Nat) (v1 : Int) (v4 N : Nat) : (Za4 L0 N).Ok Tryz.prog ZG (.h1m0 v0 v1 v4 : ZR) (Zdx L0 N (.h1m0 v0 v1 v4 : ZR)) := by
 show (Za4 L0 N).Ok Tryz.prog ZG (.h1m0 v0 v1 v4 : ZR) (Zf8 L0 N v0 v1 v4)
 unfold Zf8
 refine Mach.ok_ite (fun g0 => ?_) (fun g0 => ?_)
 ·
  refine Mach.ok_ite (fun g1 => ?_) (fun g1 => ?_)
  ·
   refine Mach.ok_ite (fun g2 => ?_) (fun g2 => ?_)
   ·
    exact Mach.ok_next (M := Za4 L0 N) (cd := 1000000) (cm := 0) (y := (.h1m0 (v0) ((IntKind.i64.wrap (v1 + (1 : Int)))) ((v4 + 1)) : ZR)) (fu := 4000) (orc := (Zi [(0, true), (1, true)] [(1, (((v4 + 1) : Nat) : Int))] [(0, v4)] [(0, [.i (L0.getD v4 RA.z).a0, .i (L0.getD v4 RA.z).a1, .i (L0.getD v4 RA.z).a2, .i (L0.getD v4 RA.z).a3])] [])) (live := []) (tv := fun _ => [some (vi (v0 : Int)), some (vi (IntKind.i64.wrap (v1 + (1 : Int)))), some (ms E_iiii L0), some (vi (L0.length : Int)), some (vi (((v4 + 1) : Nat) : Int))]) (bl := []) (ob := [((IntKind.i64.wrap ((v4 : Int) + (1 : Int))) == (((v4 + 1) : Nat) : Int), true), nT (L0.getD v4 RA.z).a0 15, (dP (ZH (code (Z9 E_iiii L0)) (0 + (v4 * 4)) 4 = some [.i (L0.getD v4 RA.z).a0, .i (L0.getD v4 RA.z).a1, .i (L0.getD v4 RA.z).a2, .i (L0.getD v4 RA.z).a3]), true), (Nat.blt v4 L0.length, true), ((v4 : Int) == Int.ofNat v4, true), ((decide ((v4 : Int) < (L0.length : Int))), true)]) rfl (show 1 ∈ Z1 (ZbN 1) from by decide +kernel) (fun gv => by kernel_rfl) (Za (beq_iff_eq.2 ((wrap_i64 ltA).trans (by first | rfl | omega))) <| oT <| Za (Zg (Zt (E := E_iiii) (L := L0) (i := v4) (q := 0) (by omega) (show (0 + (v4 * 4)) = v4 * 4 + 0 from by omega) (show 0 + 4 ≤ 4 from by decide) rfl)) <| oB <| oI <| oY Ze) rfl (by decide) (by rfl) (fun _ => ⟨rr, ⟨rr, ⟨rr, ⟨rr, ⟨rr, trivial⟩⟩⟩⟩⟩) trivial
   ·
    exact Mach.ok_none
  ·
   refine Mach.ok_ite (fun g2 => ?_) (fun g2 => ?_)
   ·
    refine Mach.ok_ite (fun g3 => ?_) (fun g3 => ?_)
    ·
     exact Mach.ok_next (M := Za4 L0 N) (cd := 1000000) (cm := 0) (y := (.h1m0 (v0) ((IntKind.i64.wrap (v1 - (1 : Int)))) ((v4 + 1)) : ZR)) (fu := 4000) (orc := (Zi [(0, true), (1, false), (2, true)] [(1, (((v4 + 1) : Nat) : Int))] [(0, v4)] [(0, [.i (L0.getD v4 RA.z).a0, .i (L0.getD v4 RA.z).a1, .i (L0.getD v4 RA.z).a2, .i (L0.getD v4 RA.z).a3])] [])) (live := []) (tv := fun _ => [some (vi (v0 : Int)), some (vi (IntKind.i64.wrap (v1 - (1 : Int)))), some (ms E_iiii L0), some (vi (L0.length : Int)), some (vi (((v4 + 1) : Nat) : Int))]) (bl := []) (ob := [((IntKind.i64.wrap ((v4 : Int) + (1 : Int))) == (((v4 + 1) : Nat) : Int), true), nT (L0.getD v4 RA.z).a0 17, nF (L0.getD v4 RA.z).a0 15, (dP (ZH (code (Z9 E_iiii L0)) (0 + (v4 * 4)) 4 = some [.i (L0.getD v4 RA.z).a0, .i (L0.getD v4 RA.z).a1, .i (L0.getD v4 RA.z).a2, .i (L0.getD v4 RA.z).a3]), true), (Nat.blt v4 L0.length, true), ((v4 : Int) == Int.ofNat v4, true), ((decide ((v4 : Int) < (L0.length : Int))), true)]) rfl (show 1 ∈ Z1 (ZbN 1) from by decide +kernel) (fun gv => by kernel_rfl) (Za (beq_iff_eq.2 ((wrap_i64 ltA).trans (by first | rfl | omega))) <| oT <| oF <| Za (Zg (Zt (E := E_iiii) (L := L0) (i := v4) (q := 0) (by omega) (show (0 + (v4 * 4)) = v4 * 4 + 0 from by omega) (show 0 + 4 ≤ 4 from by decide) rfl)) <| oB <| oI <| oY Ze) rfl (by decide) (by rfl) (fun _ => ⟨rr, ⟨rr, ⟨rr, ⟨rr, ⟨rr, trivial⟩⟩⟩⟩⟩) trivial
    ·
     exact Mach.ok_none
   ·
    refine Mach.ok_ite (fun g3 => ?_) (fun g3 => ?_)
    ·
     refine Mach.ok_ite (fun g4 => ?_) (fun g4 => ?_)
     ·
      refine Mach.ok_ite (fun g5 => ?_) (fun g5 => ?_)
      ·
       refine Mach.ok_ite (fun g6 => ?_) (fun g6 => ?_)
       ·
        exact Mach.ok_next (M := Za4 L0 N) (cd := 1000000) (cm := 0) (y := (.h1m0 ((v0 + 1)) (v1) ((v4 + 1)) : ZR)) (fu := 4000) (orc := (Zi [(0, true), (1, false), (2, false), (3, true), (4, true)] [(0, (((v0 + 1) : Nat) : Int)), (1, (((v4 + 1) : Nat) : Int))] [(0, v4)] [(0, [.i (L0.getD v4 RA.z).a0, .i (L0.getD v4 RA.z).a1, .i (L0.getD v4 RA.z).a2, .i (L0.getD v4 RA.z).a3])] [])) (live := []) (tv := fun _ => [some (vi (((v0 + 1) : Nat) : Int)), some (vi v1), some (ms E_iiii L0), some (vi (L0.length : Int)), some (vi (((v4 + 1) : Nat) : Int))]) (bl := []) (ob := [((IntKind.i64.wrap ((v4 : Int) + (1 : Int))) == (((v4 + 1) : Nat) : Int), true), ((IntKind.i64.wrap ((v0 : Int) + (1 : Int))) == (((v0 + 1) : Nat) : Int), true), nT v1 0, nT (L0.getD v4 RA.z).a0 11, nF (L0.getD v4 RA.z).a0 17, nF (L0.getD v4 RA.z).a0 15, (dP (ZH (code (Z9 E_iiii L0)) (0 + (v4 * 4)) 4 = some [.i (L0.getD v4 RA.z).a0, .i (L0.getD v4 RA.z).a1, .i (L0.getD v4 RA.z).a2, .i (L0.getD v4 RA.z).a3]), true), (Nat.blt v4 L0.length, true), ((v4 : Int) == Int.ofNat v4, true), ((decide ((v4 : Int) < (L0.length : Int))), true)]) rfl (show 1 ∈ Z1 (ZbN 1) from by decide +kernel) (fun gv => by kernel_rfl) (Za (beq_iff_eq.2 ((wrap_i64 ltA).trans (by first | rfl | omega))) <| Za (beq_iff_eq.2 ((wrap_i64 ltA).trans (by first | rfl | omega))) <| oT <| oT <| oF <| oF <| Za (Zg (Zt (E := E_iiii) (L := L0) (i := v4) (q := 0) (by omega) (show (0 + (v4 * 4)) = v4 * 4 + 0 from by omega) (show 0 + 4 ≤ 4 from by decide) rfl)) <| oB <| oI <| oY Ze) rfl (by decide) (by rfl) (fun _ => ⟨rr, ⟨rr, ⟨rr, ⟨rr, ⟨rr, trivial⟩⟩⟩⟩⟩) trivial
       ·
        exact Mach.ok_none
      ·
       exact Mach.ok_none
     ·
      refine Mach.ok_ite (fun g5 => ?_) (fun g5 => ?_)
      ·
       exact Mach.ok_next (M := Za4 L0 N) (cd := 1000000) (cm := 0) (y := (.h1m0 (v0) (v1) ((v4 + 1)) : ZR)) (fu := 4000) (orc := (Zi [(0, true), (1, false), (2, false), (3, true), (4, false)] [(0, (((v4 + 1) : Nat) : Int))] [(0, v4)] [(0, [.i (L0.getD v4 RA.z).a0, .i (L0.getD v4 RA.z).a1, .i (L0.getD v4 RA.z).a2, .i (L0.getD v4 RA.z).a3])] [])) (live := []) (tv := fun _ => [some (vi (v0 : Int)), some (vi v1), some (ms E_iiii L0), some (vi (L0.length : Int)), some (vi (((v4 + 1) : Nat) : Int))]) (bl := []) (ob := [((IntKind.i64.wrap ((v4 : Int) + (1 : Int))) == (((v4 + 1) : Nat) : Int), true), nF v1 0, nT (L0.getD v4 RA.z).a0 11, nF (L0.getD v4 RA.z).a0 17, nF (L0.getD v4 RA.z).a0 15, (dP (ZH (code (Z9 E_iiii L0)) (0 + (v4 * 4)) 4 = some [.i (L0.getD v4 RA.z).a0, .i (L0.getD v4 RA.z).a1, .i (L0.getD v4 RA.z).a2, .i (L0.getD v4 RA.z).a3]), true), (Nat.blt v4 L0.length, true), ((v4 : Int) == Int.ofNat v4, true), ((decide ((v4 : Int) < (L0.length : Int))), true)]) rfl (show 1 ∈ Z1 (ZbN 1) from by decide +kernel) (fun gv => by kernel_rfl) (Za (beq_iff_eq.2 ((wrap_i64 ltA).trans (by first | rfl | omega))) <| oF <| oT <| oF <| oF <| Za (Zg (Zt (E := E_iiii) (L := L0) (i := v4) (q := 0) (by omega) (show (0 + (v4 * 4)) = v4 * 4 + 0 from by omega) (show 0 + 4 ≤ 4 from by decide) rfl)) <| oB <| oI <| oY Ze) rfl (by decide) (by rfl) (fun _ => ⟨rr, ⟨rr, ⟨rr, ⟨rr, ⟨rr, trivial⟩⟩⟩⟩⟩) trivial
      ·
       exact Mach.ok_none
    ·
     refine Mach.ok_ite (fun g4 => ?_) (fun g4 => ?_)
     ·
      refine Mach.ok_ite (fun g5 => ?_) (fun g5 => ?_)
      ·
       refine Mach.ok_ite (fun g6 => ?_) (fun g6 => ?_)
       ·
        refine Mach.ok_ite (fun g7 => ?_) (fun g7 => ?_)
        ·
         exact Mach.ok_next (M := Za4 L0 N) (cd := 1000000) (cm := 0) (y := (.h1m0 ((v0 + 1)) (v1) ((v4 + 1)) : ZR)) (fu := 4000) (orc := (Zi [(0, true), (1, false), (2, false), (3, false), (4, true), (5, true)] [(0, (((v0 + 1) : Nat) : Int)), (1, (((v4 + 1) : Nat) : Int))] [(0, v4)] [(0, [.i (L0.getD v4 RA.z).a0, .i (L0.getD v4 RA.z).a1, .i (L0.getD v4 RA.z).a2, .i (L0.getD v4 RA.z).a3])] [])) (live := []) (tv := fun _ => [some (vi (((v0 + 1) : Nat) : Int)), some (vi v1), some (ms E_iiii L0), some (vi (L0.length : Int)), some (vi (((v4 + 1) : Nat) : Int))]) (bl := []) (ob := [((IntKind.i64.wrap ((v4 : Int) + (1 : Int))) == (((v4 + 1) : Nat) : Int), true), ((IntKind.i64.wrap ((v0 : Int) + (1 : Int))) == (((v0 + 1) : Nat) : Int), true), nT v1 0, nT (L0.getD v4 RA.z).a0 12, nF (L0.getD v4 RA.z).a0 11, nF (L0.getD v4 RA.z).a0 17, nF (L0.getD v4 RA.z).a0 15, (dP (ZH (code (Z9 E_iiii L0)) (0 + (v4 * 4)) 4 = some [.i (L0.getD v4 RA.z).a0, .i (L0.getD v4 RA.z).a1, .i (L0.getD v4 RA.z).a2, .i (L0.getD v4 RA.z).a3]), true), (Nat.blt v4 L0.length, true), ((v4 : Int) == Int.ofNat v4, true), ((decide ((v4 : Int) < (L0.length : Int))), true)]) rfl (show 1 ∈ Z1 (ZbN 1) from by decide +kernel) (fun gv => by kernel_rfl) (Za (beq_iff_eq.2 ((wrap_i64 ltA).trans (by first | rfl | omega))) <| Za (beq_iff_eq.2 ((wrap_i64 ltA).trans (by first | rfl | omega))) <| oT <| oT <| oF <| oF <| oF <| Za (Zg (Zt (E := E_iiii) (L := L0) (i := v4) (q := 0) (by omega) (show (0 + (v4 * 4)) = v4 * 4 + 0 from by omega) (show 0 + 4 ≤ 4 from by decide) rfl)) <| oB <| oI <| oY Ze) rfl (by decide) (by rfl) (fun _ => ⟨rr, ⟨rr, ⟨rr, ⟨rr, ⟨rr, trivial⟩⟩⟩⟩⟩) trivial
        ·
         exact Mach.ok_none
       ·
        exact Mach.ok_none
      ·
       refine Mach.ok_ite (fun g6 => ?_) (fun g6 => ?_)
       ·
        exact Mach.ok_next (M := Za4 L0 N) (cd := 1000000) (cm := 0) (y := (.h1m0 (v0) (v1) ((v4 + 1)) : ZR)) (fu := 4000) (orc := (Zi [(0, true), (1, false), (2, false), (3, false), (4, true), (5, false)] [(0, (((v4 + 1) : Nat) : Int))] [(0, v4)] [(0, [.i (L0.getD v4 RA.z).a0, .i (L0.getD v4 RA.z).a1, .i (L0.getD v4 RA.z).a2, .i (L0.getD v4 RA.z).a3])] [])) (live := []) (tv := fun _ => [some (vi (v0 : Int)), some (vi v1), some (ms E_iiii L0), some (vi (L0.length : Int)), some (vi (((v4 + 1) : Nat) : Int))]) (bl := []) (ob := [((IntKind.i64.wrap ((v4 : Int) + (1 : Int))) == (((v4 + 1) : Nat) : Int), true), nF v1 0, nT (L0.getD v4 RA.z).a0 12, nF (L0.getD v4 RA.z).a0 11, nF (L0.getD v4 RA.z).a0 17, nF (L0.getD v4 RA.z).a0 15, (dP (ZH (code (Z9 E_iiii L0)) (0 + (v4 * 4)) 4 = some [.i (L0.getD v4 RA.z).a0, .i (L0.getD v4 RA.z).a1, .i (L0.getD v4 RA.z).a2, .i (L0.getD v4 RA.z).a3]), true), (Nat.blt v4 L0.length, true), ((v4 : Int) == Int.ofNat v4, true), ((decide ((v4 : Int) < (L0.length : Int))), true)]) rfl (show 1 ∈ Z1 (ZbN 1) from by decide +kernel) (fun gv => by kernel_rfl) (Za (beq_iff_eq.2 ((wrap_i64 ltA).trans (by first | rfl | omega))) <| oF <| oT <| oF <| oF <| oF <| Za (Zg (Zt (E := E_iiii) (L := L0) (i := v4) (q := 0) (by omega) (show (0 + (v4 * 4)) = v4 * 4 + 0 from by omega) (show 0 + 4 ≤ 4 from by decide) rfl)) <| oB <| oI <| oY Ze) rfl (by decide) (by rfl) (fun _ => ⟨rr, ⟨rr, ⟨rr, ⟨rr, ⟨rr, trivial⟩⟩⟩⟩⟩) trivial
       ·
        exact Mach.ok_none
     ·
      refine Mach.ok_ite (fun g5 => ?_) (fun g5 => ?_)
      ·
       refine Mach.ok_ite (fun g6 => ?_) (fun g6 => ?_)
       ·
        refine Mach.ok_ite (fun g7 => ?_) (fun g7 => ?_)
        ·
         refine Mach.ok_ite (fun g8 => ?_) (fun g8 => ?_)
         ·
          exact Mach.ok_next (M := Za4 L0 N) (cd := 1000000) (cm := 0) (y := (.h1m0 ((v0 + 1)) (v1) ((v4 + 1)) : ZR)) (fu := 4000) (orc := (Zi [(0, true), (1, false), (2, false), (3, false), (4, false), (5, true), (6, true)] [(0, (((v0 + 1) : Nat) : Int)), (1, (((v4 + 1) : Nat) : Int))] [(0, v4)] [(0, [.i (L0.getD v4 RA.z).a0, .i (L0.getD v4 RA.z).a1, .i (L0.getD v4 RA.z).a2, .i (L0.getD v4 RA.z).a3])] [])) (live := []) (tv := fun _ => [some (vi (((v0 + 1) : Nat) : Int)), some (vi v1), some (ms E_iiii L0), some (vi (L0.length : Int)), some (vi (((v4 + 1) : Nat) : Int))]) (bl := []) (ob := [((IntKind.i64.wrap ((v4 : Int) + (1 : Int))) == (((v4 + 1) : Nat) : Int), true), ((IntKind.i64.wrap ((v0 : Int) + (1 : Int))) == (((v0 + 1) : Nat) : Int), true), nT v1 0, nT (L0.getD v4 RA.z).a0 13, nF (L0.getD v4 RA.z).a0 12, nF (L0.getD v4 RA.z).a0 11, nF (L0.getD v4 RA.z).a0 17, nF (L0.getD v4 RA.z).a0 15, (dP (ZH (code (Z9 E_iiii L0)) (0 + (v4 * 4)) 4 = some [.i (L0.getD v4 RA.z).a0, .i (L0.getD v4 RA.z).a1, .i (L0.getD v4 RA.z).a2, .i (L0.getD v4 RA.z).a3]), true), (Nat.blt v4 L0.length, true), ((v4 : Int) == Int.ofNat v4, true), ((decide ((v4 : Int) < (L0.length : Int))), true)]) rfl (show 1 ∈ Z1 (ZbN 1) from by decide +kernel) (fun gv => by kernel_rfl) (Za (beq_iff_eq.2 ((wrap_i64 ltA).trans (by first | rfl | omega))) <| Za (beq_iff_eq.2 ((wrap_i64 ltA).trans (by first | rfl | omega))) <| oT <| oT <| oF <| oF <| oF <| oF <| Za (Zg (Zt (E := E_iiii) (L := L0) (i := v4) (q := 0) (by omega) (show (0 + (v4 * 4)) = v4 * 4 + 0 from by omega) (show 0 + 4 ≤ 4 from by decide) rfl)) <| oB <| oI <| oY Ze) rfl (by decide) (by rfl) (fun _ => ⟨rr, ⟨rr, ⟨rr, ⟨rr, ⟨rr, trivial⟩⟩⟩⟩⟩) trivial
         ·
          exact Mach.ok_none
        ·
         exact Mach.ok_none
       ·
        refine Mach.ok_ite (fun g7 => ?_) (fun g7 => ?_)
        ·
         exact Mach.ok_next (M := Za4 L0 N) (cd := 1000000) (cm := 0) (y := (.h1m0 (v0) (v1) ((v4 + 1)) : ZR)) (fu := 4000) (orc := (Zi [(0, true), (1, false), (2, false), (3, false), (4, false), (5, true), (6, false)] [(0, (((v4 + 1) : Nat) : Int))] [(0, v4)] [(0, [.i (L0.getD v4 RA.z).a0, .i (L0.getD v4 RA.z).a1, .i (L0.getD v4 RA.z).a2, .i (L0.getD v4 RA.z).a3])] [])) (live := []) (tv := fun _ => [some (vi (v0 : Int)), some (vi v1), some (ms E_iiii L0), some (vi (L0.length : Int)), some (vi (((v4 + 1) : Nat) : Int))]) (bl := []) (ob := [((IntKind.i64.wrap ((v4 : Int) + (1 : Int))) == (((v4 + 1) : Nat) : Int), true), nF v1 0, nT (L0.getD v4 RA.z).a0 13, nF (L0.getD v4 RA.z).a0 12, nF (L0.getD v4 RA.z).a0 11, nF (L0.getD v4 RA.z).a0 17, nF (L0.getD v4 RA.z).a0 15, (dP (ZH (code (Z9 E_iiii L0)) (0 + (v4 * 4)) 4 = some [.i (L0.getD v4 RA.z).a0, .i (L0.getD v4 RA.z).a1, .i (L0.getD v4 RA.z).a2, .i (L0.getD v4 RA.z).a3]), true), (Nat.blt v4 L0.length, true), ((v4 : Int) == Int.ofNat v4, true), ((decide ((v4 : Int) < (L0.length : Int))), true)]) rfl (show 1 ∈ Z1 (ZbN 1) from by decide +kernel) (fun gv => by kernel_rfl) (Za (beq_iff_eq.2 ((wrap_i64 ltA).trans (by first | rfl | omega))) <| oF <| oT <| oF <| oF <| oF <| oF <| Za (Zg (Zt (E := E_iiii) (L := L0) (i := v4) (q := 0) (by omega) (show (0 + (v4 * 4)) = v4 * 4 + 0 from by omega) (show 0 + 4 ≤ 4 from by decide) rfl)) <| oB <| oI <| oY Ze) rfl (by decide) (by rfl) (fun _ => ⟨rr, ⟨rr, ⟨rr, ⟨rr, ⟨rr, trivial⟩⟩⟩⟩⟩) trivial
        ·
         exact Mach.ok_none
      ·
       refine Mach.ok_ite (fun g6 => ?_) (fun g6 => ?_)
       ·
        refine Mach.ok_ite (fun g7 => ?_) (fun g7 => ?_)
        ·
         refine Mach.ok_ite (fun g8 => ?_) (fun g8 => ?_)
         ·
          refine Mach.ok_ite (fun g9 => ?_) (fun g9 => ?_)
          ·
           exact Mach.ok_next (M := Za4 L0 N) (cd := 1000000) (cm := 0) (y := (.h1m0 ((v0 + 1)) (v1) ((v4 + 1)) : ZR)) (fu := 4000) (orc := (Zi [(0, true), (1, false), (2, false), (3, false), (4, false), (5, false), (6, true), (7, true)] [(0, (((v0 + 1) : Nat) : Int)), (1, (((v4 + 1) : Nat) : Int))] [(0, v4)] [(0, [.i (L0.getD v4 RA.z).a0, .i (L0.getD v4 RA.z).a1, .i (L0.getD v4 RA.z).a2, .i (L0.getD v4 RA.z).a3])] [])) (live := []) (tv := fun _ => [some (vi (((v0 + 1) : Nat) : Int)), some (vi v1), some (ms E_iiii L0), some (vi (L0.length : Int)), some (vi (((v4 + 1) : Nat) : Int))]) (bl := []) (ob := [((IntKind.i64.wrap ((v4 : Int) + (1 : Int))) == (((v4 + 1) : Nat) : Int), true), ((IntKind.i64.wrap ((v0 : Int) + (1 : Int))) == (((v0 + 1) : Nat) : Int), true), nT v1 0, nT (L0.getD v4 RA.z).a0 14, nF (L0.getD v4 RA.z).a0 13, nF (L0.getD v4 RA.z).a0 12, nF (L0.getD v4 RA.z).a0 11, nF (L0.getD v4 RA.z).a0 17, nF (L0.getD v4 RA.z).a0 15, (dP (ZH (code (Z9 E_iiii L0)) (0 + (v4 * 4)) 4 = some [.i (L0.getD v4 RA.z).a0, .i (L0.getD v4 RA.z).a1, .i (L0.getD v4 RA.z).a2, .i (L0.getD v4 RA.z).a3]), true), (Nat.blt v4 L0.length, true), ((v4 : Int) == Int.ofNat v4, true), ((decide ((v4 : Int) < (L0.length : Int))), true)]) rfl (show 1 ∈ Z1 (ZbN 1) from by decide +kernel) (fun gv => by kernel_rfl) (Za (beq_iff_eq.2 ((wrap_i64 ltA).trans (by first | rfl | omega))) <| Za (beq_iff_eq.2 ((wrap_i64 ltA).trans (by first | rfl | omega))) <| oT <| oT <| oF <| oF <| oF <| oF <| oF <| Za (Zg (Zt (E := E_iiii) (L := L0) (i := v4) (q := 0) (by omega) (show (0 + (v4 * 4)) = v4 * 4 + 0 from by omega) (show 0 + 4 ≤ 4 from by decide) rfl)) <| oB <| oI <| oY Ze) rfl (by decide) (by rfl) (fun _ => ⟨rr, ⟨rr, ⟨rr, ⟨rr, ⟨rr, trivial⟩⟩⟩⟩⟩) trivial
          ·
           exact Mach.ok_none
         ·
          exact Mach.ok_none
        ·
         refine Mach.ok_ite (fun g8 => ?_) (fun g8 => ?_)
         ·
          exact Mach.ok_next (M := Za4 L0 N) (cd := 1000000) (cm := 0) (y := (.h1m0 (v0) (v1) ((v4 + 1)) : ZR)) (fu := 4000) (orc := (Zi [(0, true), (1, false), (2, false), (3, false), (4, false), (5, false), (6, true), (7, false)] [(0, (((v4 + 1) : Nat) : Int))] [(0, v4)] [(0, [.i (L0.getD v4 RA.z).a0, .i (L0.getD v4 RA.z).a1, .i (L0.getD v4 RA.z).a2, .i (L0.getD v4 RA.z).a3])] [])) (live := []) (tv := fun _ => [some (vi (v0 : Int)), some (vi v1), some (ms E_iiii L0), some (vi (L0.length : Int)), some (vi (((v4 + 1) : Nat) : Int))]) (bl := []) (ob := [((IntKind.i64.wrap ((v4 : Int) + (1 : Int))) == (((v4 + 1) : Nat) : Int), true), nF v1 0, nT (L0.getD v4 RA.z).a0 14, nF (L0.getD v4 RA.z).a0 13, nF (L0.getD v4 RA.z).a0 12, nF (L0.getD v4 RA.z).a0 11, nF (L0.getD v4 RA.z).a0 17, nF (L0.getD v4 RA.z).a0 15, (dP (ZH (code (Z9 E_iiii L0)) (0 + (v4 * 4)) 4 = some [.i (L0.getD v4 RA.z).a0, .i (L0.getD v4 RA.z).a1, .i (L0.getD v4 RA.z).a2, .i (L0.getD v4 RA.z).a3]), true), (Nat.blt v4 L0.length, true), ((v4 : Int) == Int.ofNat v4, true), ((decide ((v4 : Int) < (L0.length : Int))), true)]) rfl (show 1 ∈ Z1 (ZbN 1) from by decide +kernel) (fun gv => by kernel_rfl) (Za (beq_iff_eq.2 ((wrap_i64 ltA).trans (by first | rfl | omega))) <| oF <| oT <| oF <| oF <| oF <| oF <| oF <| Za (Zg (Zt (E := E_iiii) (L := L0) (i := v4) (q := 0) (by omega) (show (0 + (v4 * 4)) = v4 * 4 + 0 from by omega) (show 0 + 4 ≤ 4 from by decide) rfl)) <| oB <| oI <| oY Ze) rfl (by decide) (by rfl) (fun _ => ⟨rr, ⟨rr, ⟨rr, ⟨rr, ⟨rr, trivial⟩⟩⟩⟩⟩) trivial
         ·
          exact Mach.ok_none
       ·
        refine Mach.ok_ite (fun g7 => ?_) (fun g7 => ?_)
        ·
         exact Mach.ok_next (M := Za4 L0 N) (cd := 1000000) (cm := 0) (y := (.h1m0 (v0) (v1) ((v4 + 1)) : ZR)) (fu := 4000) (orc := (Zi [(0, true), (1, false), (2, false), (3, false), (4, false), (5, false), (6, false)] [(0, (((v4 + 1) : Nat) : Int))] [(0, v4)] [(0, [.i (L0.getD v4 RA.z).a0, .i (L0.getD v4 RA.z).a1, .i (L0.getD v4 RA.z).a2, .i (L0.getD v4 RA.z).a3])] [])) (live := []) (tv := fun _ => [some (vi (v0 : Int)), some (vi v1), some (ms E_iiii L0), some (vi (L0.length : Int)), some (vi (((v4 + 1) : Nat) : Int))]) (bl := []) (ob := [((IntKind.i64.wrap ((v4 : Int) + (1 : Int))) == (((v4 + 1) : Nat) : Int), true), nF (L0.getD v4 RA.z).a0 14, nF (L0.getD v4 RA.z).a0 13, nF (L0.getD v4 RA.z).a0 12, nF (L0.getD v4 RA.z).a0 11, nF (L0.getD v4 RA.z).a0 17, nF (L0.getD v4 RA.z).a0 15, (dP (ZH (code (Z9 E_iiii L0)) (0 + (v4 * 4)) 4 = some [.i (L0.getD v4 RA.z).a0, .i (L0.getD v4 RA.z).a1, .i (L0.getD v4 RA.z).a2, .i (L0.getD v4 RA.z).a3]), true), (Nat.blt v4 L0.length, true), ((v4 : Int) == Int.ofNat v4, true), ((decide ((v4 : Int) < (L0.length : Int))), true)]) rfl (show 1 ∈ Z1 (ZbN 1) from by decide +kernel) (fun gv => by kernel_rfl) (Za (beq_iff_eq.2 ((wrap_i64 ltA).trans (by first | rfl | omega))) <| oF <| oF <| oF <| oF <| oF <| oF <| Za (Zg (Zt (E := E_iiii) (L := L0) (i := v4) (q := 0) (by omega) (show (0 + (v4 * 4)) = v4 * 4 + 0 from by omega) (show 0 + 4 ≤ 4 from by decide) rfl)) <| oB <| oI <| oY Ze) rfl (by decide) (by rfl) (fun _ => ⟨rr, ⟨rr, ⟨rr, ⟨rr, ⟨rr, trivial⟩⟩⟩⟩⟩) trivial
        ·
         exact Mach.ok_none
 ·
  exact Mach.ok_fin (M := Za4 L0 N) (cd := 1000000) (cm := 0) (r := (.r0 ((v0 : Int)) : Zb9)) (fu := 4000) (orc := (Zi [(0, false)] [] [] [] [])) (live := []) (u := vi (v0 : Int)) (bl := []) (ob := [((decide ((v4 : Int) < (L0.length : Int))), false)]) (fun gv => by kernel_rfl) (oN Ze) rfl (by decide) (by rfl) rr trivial

theorem ZpN (L0 : List RA) (N : Nat) : (Za4 L0 N).Enter Tryz.prog ZG #[ms E_iiii L0] (ZhS L0 N) := by
 unfold ZhS
 refine Mach.en_bind (fun z0 c0 => ?_)
 cases z0 with
 | r0 y0_0 =>
  refine Mach.en_ite (fun g1 => ?_) (fun g1 => ?_)
  ·
   exact Mach.en_fin (M := Za4 L0 N) (cd := 1000000) (cm := 0) (r := (.r0 ((0 : Int)) : Zb9)) (fu := 4000) (orc := (Zi [(0, true)] [] [] [] [(0, (ZdP (L0)  y0_0  0))])) (live := []) (u := vq) (bl := []) (ob := [((y0_0 != (0 : Int)), true), (dP (ZcS #[ms E_iiii L0] (L0)  y0_0  0), true)]) (by kernel_rfl) (oD <| Za (Zg (ZdQ #[ms E_iiii L0] (L0)  y0_0 N c0  0 rfl (by decide) (by decide))) Ze) rfl (by decide) (by rfl) rr trivial
  ·
   refine Mach.en_bind (fun z2 c2 => ?_)
   cases z2 with
   | r0 =>
    exact Mach.en_head (bK := ZcD 1) (M := Za4 L0 N) (cd := 1000000) (cm := 0) (y := (.h1m0 (0) ((0 : Int)) (0) : ZR)) (fu := 4000) (orc := (Zi [(0, false)] [] [] [] [(0, (ZdP (L0)  y0_0  0)), (1, (Zo6 (L0)    0))])) (live := []) (tv := [some (vq), some (vq), some (ms E_iiii L0), some (vi (L0.length : Int)), some (vq)]) (bl := []) (ob := [(dP (Zjs #[ms E_iiii L0] (L0)    0), true), ((y0_0 != (0 : Int)), false), (dP (ZcS #[ms E_iiii L0] (L0)  y0_0  0), true)]) rfl rfl (show Z1 (ZcD 1).2 = [] from rfl) (by kernel_rfl) (Za (Zg (Zo7 #[ms E_iiii L0] (L0)   N c2  0 rfl (by decide) (by decide))) <| oE <| Za (Zg (ZdQ #[ms E_iiii L0] (L0)  y0_0 N c0  0 rfl (by decide) (by decide))) Ze) rfl (by decide) (by rfl) ⟨⟨Eq.trans (show (vi ((0 : Nat) : Int) : Value) = vq from (congrArg (Value.int .i64) (by first | rfl | omega))) (by rfl), by rfl⟩, ⟨rr, ⟨rr, ⟨rr, ⟨⟨Eq.trans (show (vi ((0 : Nat) : Int) : Value) = vq from (congrArg (Value.int .i64) (by first | rfl | omega))) (by rfl), by rfl⟩, trivial⟩⟩⟩⟩⟩ trivial
   | r1 y2_0 =>
    exact Mach.en_head (bK := ZcD 1) (M := Za4 L0 N) (cd := 1000000) (cm := 0) (y := (.h1m0 (y2_0.length) ((0 : Int)) (0) : ZR)) (fu := 4000) (orc := (Zi [(0, false)] [] [] [] [(0, (ZdP (L0)  y0_0  0)), (1, (Zo8 (L0)  y2_0  0))])) (live := []) (tv := [some (vi (y2_0.length : Int)), some (vq), some (ms E_iiii L0), some (vi (L0.length : Int)), some (vq)]) (bl := []) (ob := [(dP (Zjt #[ms E_iiii L0] (L0)  y2_0  0), true), ((y0_0 != (0 : Int)), false), (dP (ZcS #[ms E_iiii L0] (L0)  y0_0  0), true)]) rfl rfl (show Z1 (ZcD 1).2 = [] from rfl) (by kernel_rfl) (Za (Zg (Zo9 #[ms E_iiii L0] (L0)  y2_0 N c2  0 rfl (by decide) (by decide))) <| oE <| Za (Zg (ZdQ #[ms E_iiii L0] (L0)  y0_0 N c0  0 rfl (by decide) (by decide))) Ze) rfl (by decide) (by rfl) ⟨rr, ⟨rr, ⟨rr, ⟨rr, ⟨⟨Eq.trans (show (vi ((0 : Nat) : Int) : Value) = vq from (congrArg (Value.int .i64) (by first | rfl | omega))) (by rfl), by rfl⟩, trivial⟩⟩⟩⟩⟩ trivial

theorem Zod (L0 : List RA) (N : Nat) (r : Zb9) (h : Zf9 L0 N = some r) : LSpec Tryz.prog 8 #[ms E_iiii L0] [] (ZmR L0 r) (ZlO L0 r) :=
 Mach.spec Zl (Za4 L0 N) Tryz.func8 (by kernel_rfl) (by kernel_rfl) (fun x => by cases x <;> exact Zj _ rfl) (fun r => by cases r <;> exact Zj _ rfl) (fun x => by
  cases x with
  | h1m0 _ _ _ => exact fun _ => (show ¬ (1 ∈ Z1 (ZcD 1).2) from by decide +kernel)
  ) (fun x => (show (Za4 L0 N).Ok Tryz.prog ZG x (Zdx L0 N x) from by
  cases x with
  | h1m0 v0 v1 v4 => exact Znt L0 v0 v1 v4 N
  )) (ZpN L0 N) (n := N) h

noncomputable def Zim (L0 : List RA) (w0 : Int) (n : Nat) : Zaj := .call [] (vi w0) [] 0
def ZfP (A : Array Value) (L0 : List RA) (w0 : Int) (n : Nat) : Prop := Zz Tryz.prog 8 A [] (vi w0) [] n 0

theorem Zin (A : Array Value) (L0 : List RA) (w0 : Int) (N : Nat) (h : Zf9 L0 N = some (.r0 w0)) (n : Nat) (hA : A = #[ms E_iiii L0]) (hnd : ([] : List Nat).Nodup) (hlt : ∀ k ∈ ([] : List Nat), k < n) : ZfP A L0 w0  n :=
 ZC hA (LSpec.callL (show LSpec Tryz.prog 8 #[ms E_iiii L0] [] (vi w0) [] from Zod L0 N _ h) [] n [] rfl hnd hlt (show 0 ≤ 0 from by decide) (show ∀ j ∈ ([] : List Nat), j < 0 from by decide) (by rfl) trivial (by rfl) trivial trivial rfl rfl rfl rfl rfl)

noncomputable def ZlQ (L0 : List RA) : Zbp → Value
 | .r0 w0 => vi w0
noncomputable def Zk1 (L0 : List RA) : Zbp → List (Option AObj)
 | .r0 w0 => []

def ZpO : ZL → Nat
 | .h1m0 v1 v2 v3 => 1
noncomputable def Zr4 (L0 : List RA) : ZL → List (Nat × Value)
 | .h1m0 v1 v2 v3 => [(0, ms E_iiii L0), (3, vi (v1 : Int)), (4, vi v2), (5, vi (v3 : Int))]
noncomputable def Zr5 (L0 : List RA) : ZL → List (Option AObj)
 | .h1m0 v1 v2 v3 => []

noncomputable def Zd5 : Nat → Code × List ZaI
 | 1 => Zb3 [1, 1, 1, 0, 1, 3] (Zc8 Tryz.f9) []
 | _ => (.skip, [])
def Zk2 : Nat → Bool
 | 1 => true
 | _ => true
noncomputable def Zbr (i : Nat) : List ZaI := match Zk2 i with | true => .rnd i :: (Zd5 i).2 | false => (Zd5 i).2

noncomputable def Zav (L0 : List RA) (N : Nat) : Mach := ⟨Tryz.f9, [], ZL, Zbp, Zde L0 N, ZpO, Zd5, Zk2, Zr4 L0, Zr5 L0, ZlQ L0, Zk1 L0⟩

theorem Zm0 (L0 : List RA) (v1 : Nat) (v2 : Int) (v3 N : Nat) : (Zav L0 N).Ok Tryz.prog ZG (.h1m0 v1 v2 v3 : ZL) (Zde L0 N (.h1m0 v1 v2 v3 : ZL)) := by
 show (Zav L0 N).Ok Tryz.prog ZG (.h1m0 v1 v2 v3 : ZL) (Zfh L0 N v1 v2 v3)
 unfold Zfh
 refine Mach.ok_ite (fun g0 => ?_) (fun g0 => ?_)
 ·
  refine Mach.ok_ite (fun g1 => ?_) (fun g1 => ?_)
  ·
   refine Mach.ok_ite (fun g2 => ?_) (fun g2 => ?_)
   ·
    refine Mach.ok_ite (fun g3 => ?_) (fun g3 => ?_)
    ·
     refine Mach.ok_ite (fun g4 => ?_) (fun g4 => ?_)
     ·
      exact Mach.ok_next (M := Zav L0 N) (cd := 1000000) (cm := 0) (y := (.h1m0 ((v1 + 1)) ((v2 + (1 : Int))) ((v3 + 1)) : ZL)) (fu := 4000) (orc := (Zi [(0, true), (1, true), (2, true)] [(0, (((v1 + 1) : Nat) : Int)), (1, (v2 + (1 : Int))), (2, (((v3 + 1) : Nat) : Int))] [(0, v3)] [(0, [.i (L0.getD v3 RA.z).a0])] [])) (live := []) (tv := fun _ => [some (ms E_iiii L0), some (vi (((v1 + 1) : Nat) : Int)), some (vi (v2 + (1 : Int))), some (vi (((v3 + 1) : Nat) : Int))]) (bl := []) (ob := [((IntKind.i64.wrap ((v3 : Int) + (1 : Int))) == (((v3 + 1) : Nat) : Int), true), ((IntKind.i64.wrap (v2 + (1 : Int))) == (v2 + (1 : Int)), true), ((IntKind.i64.wrap ((v1 : Int) + (1 : Int))) == (((v1 + 1) : Nat) : Int), true), nT v2 0, nT (L0.getD v3 RA.z).a0 15, (dP (ZH (code (Z9 E_iiii L0)) ((0 + (v3 * 4)) + 0) 1 = some [.i (L0.getD v3 RA.z).a0]), true), (Nat.blt v3 L0.length, true), ((v3 : Int) == Int.ofNat v3, true), ((decide ((v3 : Int) < (L0.length : Int))), true)]) rfl (show 1 ∈ Z1 (Zbr 1) from by decide +kernel) (fun gv => by kernel_rfl) (Za (beq_iff_eq.2 ((wrap_i64 ltA).trans (by first | rfl | omega))) <| Za (beq_iff_eq.2 ((wrap_i64 ltA).trans (by first | rfl | omega))) <| Za (beq_iff_eq.2 ((wrap_i64 ltA).trans (by first | rfl | omega))) <| oT <| oT <| Za (Zg (Zt (E := E_iiii) (L := L0) (i := v3) (q := 0) (by omega) (show ((0 + (v3 * 4)) + 0) = v3 * 4 + 0 from by omega) (show 0 + 1 ≤ 4 from by decide) rfl)) <| oB <| oI <| oY Ze) rfl (by decide) (by rfl) (fun _ => ⟨rr, ⟨rr, ⟨rr, ⟨rr, trivial⟩⟩⟩⟩) trivial
     ·
      exact Mach.ok_none
    ·
     exact Mach.ok_none
   ·
    refine Mach.ok_ite (fun g3 => ?_) (fun g3 => ?_)
    ·
     exact Mach.ok_next (M := Zav L0 N) (cd := 1000000) (cm := 0) (y := (.h1m0 (v1) ((IntKind.i64.wrap (v2 + (1 : Int)))) ((v3 + 1)) : ZL)) (fu := 4000) (orc := (Zi [(0, true), (1, true), (2, false)] [(1, (((v3 + 1) : Nat) : Int))] [(0, v3)] [(0, [.i (L0.getD v3 RA.z).a0])] [])) (live := []) (tv := fun _ => [some (ms E_iiii L0), some (vi (v1 : Int)), some (vi (IntKind.i64.wrap (v2 + (1 : Int)))), some (vi (((v3 + 1) : Nat) : Int))]) (bl := []) (ob := [((IntKind.i64.wrap ((v3 : Int) + (1 : Int))) == (((v3 + 1) : Nat) : Int), true), nF v2 0, nT (L0.getD v3 RA.z).a0 15, (dP (ZH (code (Z9 E_iiii L0)) ((0 + (v3 * 4)) + 0) 1 = some [.i (L0.getD v3 RA.z).a0]), true), (Nat.blt v3 L0.length, true), ((v3 : Int) == Int.ofNat v3, true), ((decide ((v3 : Int) < (L0.length : Int))), true)]) rfl (show 1 ∈ Z1 (Zbr 1) from by decide +kernel) (fun gv => by kernel_rfl) (Za (beq_iff_eq.2 ((wrap_i64 ltA).trans (by first | rfl | omega))) <| oF <| oT <| Za (Zg (Zt (E := E_iiii) (L := L0) (i := v3) (q := 0) (by omega) (show ((0 + (v3 * 4)) + 0) = v3 * 4 + 0 from by omega) (show 0 + 1 ≤ 4 from by decide) rfl)) <| oB <| oI <| oY Ze) rfl (by decide) (by rfl) (fun _ => ⟨rr, ⟨rr, ⟨rr, ⟨rr, trivial⟩⟩⟩⟩) trivial
    ·
     exact Mach.ok_none
  ·
   refine Mach.ok_ite (fun g2 => ?_) (fun g2 => ?_)
   ·
    refine Mach.ok_ite (fun g3 => ?_) (fun g3 => ?_)
    ·
     exact Mach.ok_next (M := Zav L0 N) (cd := 1000000) (cm := 0) (y := (.h1m0 (v1) ((IntKind.i64.wrap (v2 - (1 : Int)))) ((v3 + 1)) : ZL)) (fu := 4000) (orc := (Zi [(0, true), (1, false), (2, true)] [(1, (((v3 + 1) : Nat) : Int))] [(0, v3)] [(0, [.i (L0.getD v3 RA.z).a0])] [])) (live := []) (tv := fun _ => [some (ms E_iiii L0), some (vi (v1 : Int)), some (vi (IntKind.i64.wrap (v2 - (1 : Int)))), some (vi (((v3 + 1) : Nat) : Int))]) (bl := []) (ob := [((IntKind.i64.wrap ((v3 : Int) + (1 : Int))) == (((v3 + 1) : Nat) : Int), true), nT (L0.getD v3 RA.z).a0 17, nF (L0.getD v3 RA.z).a0 15, (dP (ZH (code (Z9 E_iiii L0)) ((0 + (v3 * 4)) + 0) 1 = some [.i (L0.getD v3 RA.z).a0]), true), (Nat.blt v3 L0.length, true), ((v3 : Int) == Int.ofNat v3, true), ((decide ((v3 : Int) < (L0.length : Int))), true)]) rfl (show 1 ∈ Z1 (Zbr 1) from by decide +kernel) (fun gv => by kernel_rfl) (Za (beq_iff_eq.2 ((wrap_i64 ltA).trans (by first | rfl | omega))) <| oT <| oF <| Za (Zg (Zt (E := E_iiii) (L := L0) (i := v3) (q := 0) (by omega) (show ((0 + (v3 * 4)) + 0) = v3 * 4 + 0 from by omega) (show 0 + 1 ≤ 4 from by decide) rfl)) <| oB <| oI <| oY Ze) rfl (by decide) (by rfl) (fun _ => ⟨rr, ⟨rr, ⟨rr, ⟨rr, trivial⟩⟩⟩⟩) trivial
    ·
     exact Mach.ok_none
   ·
    refine Mach.ok_ite (fun g3 => ?_) (fun g3 => ?_)
    ·
     refine Mach.ok_ite (fun g4 => ?_) (fun g4 => ?_)
     ·
      refine Mach.ok_ite (fun g5 => ?_) (fun g5 => ?_)
      ·
       refine Mach.ok_ite (fun g6 => ?_) (fun g6 => ?_)
       ·
        exact Mach.ok_next (M := Zav L0 N) (cd := 1000000) (cm := 0) (y := (.h1m0 ((v1 + 1)) (v2) ((v3 + 1)) : ZL)) (fu := 4000) (orc := (Zi [(0, true), (1, false), (2, false), (3, true), (4, true)] [(0, (((v1 + 1) : Nat) : Int)), (1, (((v3 + 1) : Nat) : Int))] [(0, v3)] [(0, [.i (L0.getD v3 RA.z).a0])] [])) (live := []) (tv := fun _ => [some (ms E_iiii L0), some (vi (((v1 + 1) : Nat) : Int)), some (vi v2), some (vi (((v3 + 1) : Nat) : Int))]) (bl := []) (ob := [((IntKind.i64.wrap ((v3 : Int) + (1 : Int))) == (((v3 + 1) : Nat) : Int), true), ((IntKind.i64.wrap ((v1 : Int) + (1 : Int))) == (((v1 + 1) : Nat) : Int), true), nT v2 0, nT (L0.getD v3 RA.z).a0 11, nF (L0.getD v3 RA.z).a0 17, nF (L0.getD v3 RA.z).a0 15, (dP (ZH (code (Z9 E_iiii L0)) ((0 + (v3 * 4)) + 0) 1 = some [.i (L0.getD v3 RA.z).a0]), true), (Nat.blt v3 L0.length, true), ((v3 : Int) == Int.ofNat v3, true), ((decide ((v3 : Int) < (L0.length : Int))), true)]) rfl (show 1 ∈ Z1 (Zbr 1) from by decide +kernel) (fun gv => by kernel_rfl) (Za (beq_iff_eq.2 ((wrap_i64 ltA).trans (by first | rfl | omega))) <| Za (beq_iff_eq.2 ((wrap_i64 ltA).trans (by first | rfl | omega))) <| oT <| oT <| oF <| oF <| Za (Zg (Zt (E := E_iiii) (L := L0) (i := v3) (q := 0) (by omega) (show ((0 + (v3 * 4)) + 0) = v3 * 4 + 0 from by omega) (show 0 + 1 ≤ 4 from by decide) rfl)) <| oB <| oI <| oY Ze) rfl (by decide) (by rfl) (fun _ => ⟨rr, ⟨rr, ⟨rr, ⟨rr, trivial⟩⟩⟩⟩) trivial
       ·
        exact Mach.ok_none
      ·
       exact Mach.ok_none
     ·
      refine Mach.ok_ite (fun g5 => ?_) (fun g5 => ?_)
      ·
       exact Mach.ok_next (M := Zav L0 N) (cd := 1000000) (cm := 0) (y := (.h1m0 (v1) (v2) ((v3 + 1)) : ZL)) (fu := 4000) (orc := (Zi [(0, true), (1, false), (2, false), (3, true), (4, false)] [(0, (((v3 + 1) : Nat) : Int))] [(0, v3)] [(0, [.i (L0.getD v3 RA.z).a0])] [])) (live := []) (tv := fun _ => [some (ms E_iiii L0), some (vi (v1 : Int)), some (vi v2), some (vi (((v3 + 1) : Nat) : Int))]) (bl := []) (ob := [((IntKind.i64.wrap ((v3 : Int) + (1 : Int))) == (((v3 + 1) : Nat) : Int), true), nF v2 0, nT (L0.getD v3 RA.z).a0 11, nF (L0.getD v3 RA.z).a0 17, nF (L0.getD v3 RA.z).a0 15, (dP (ZH (code (Z9 E_iiii L0)) ((0 + (v3 * 4)) + 0) 1 = some [.i (L0.getD v3 RA.z).a0]), true), (Nat.blt v3 L0.length, true), ((v3 : Int) == Int.ofNat v3, true), ((decide ((v3 : Int) < (L0.length : Int))), true)]) rfl (show 1 ∈ Z1 (Zbr 1) from by decide +kernel) (fun gv => by kernel_rfl) (Za (beq_iff_eq.2 ((wrap_i64 ltA).trans (by first | rfl | omega))) <| oF <| oT <| oF <| oF <| Za (Zg (Zt (E := E_iiii) (L := L0) (i := v3) (q := 0) (by omega) (show ((0 + (v3 * 4)) + 0) = v3 * 4 + 0 from by omega) (show 0 + 1 ≤ 4 from by decide) rfl)) <| oB <| oI <| oY Ze) rfl (by decide) (by rfl) (fun _ => ⟨rr, ⟨rr, ⟨rr, ⟨rr, trivial⟩⟩⟩⟩) trivial
      ·
       exact Mach.ok_none
    ·
     refine Mach.ok_ite (fun g4 => ?_) (fun g4 => ?_)
     ·
      refine Mach.ok_ite (fun g5 => ?_) (fun g5 => ?_)
      ·
       refine Mach.ok_ite (fun g6 => ?_) (fun g6 => ?_)
       ·
        refine Mach.ok_ite (fun g7 => ?_) (fun g7 => ?_)
        ·
         exact Mach.ok_next (M := Zav L0 N) (cd := 1000000) (cm := 0) (y := (.h1m0 ((v1 + 1)) (v2) ((v3 + 1)) : ZL)) (fu := 4000) (orc := (Zi [(0, true), (1, false), (2, false), (3, false), (4, true), (5, true)] [(0, (((v1 + 1) : Nat) : Int)), (1, (((v3 + 1) : Nat) : Int))] [(0, v3)] [(0, [.i (L0.getD v3 RA.z).a0])] [])) (live := []) (tv := fun _ => [some (ms E_iiii L0), some (vi (((v1 + 1) : Nat) : Int)), some (vi v2), some (vi (((v3 + 1) : Nat) : Int))]) (bl := []) (ob := [((IntKind.i64.wrap ((v3 : Int) + (1 : Int))) == (((v3 + 1) : Nat) : Int), true), ((IntKind.i64.wrap ((v1 : Int) + (1 : Int))) == (((v1 + 1) : Nat) : Int), true), nT v2 0, nT (L0.getD v3 RA.z).a0 12, nF (L0.getD v3 RA.z).a0 11, nF (L0.getD v3 RA.z).a0 17, nF (L0.getD v3 RA.z).a0 15, (dP (ZH (code (Z9 E_iiii L0)) ((0 + (v3 * 4)) + 0) 1 = some [.i (L0.getD v3 RA.z).a0]), true), (Nat.blt v3 L0.length, true), ((v3 : Int) == Int.ofNat v3, true), ((decide ((v3 : Int) < (L0.length : Int))), true)]) rfl (show 1 ∈ Z1 (Zbr 1) from by decide +kernel) (fun gv => by kernel_rfl) (Za (beq_iff_eq.2 ((wrap_i64 ltA).trans (by first | rfl | omega))) <| Za (beq_iff_eq.2 ((wrap_i64 ltA).trans (by first | rfl | omega))) <| oT <| oT <| oF <| oF <| oF <| Za (Zg (Zt (E := E_iiii) (L := L0) (i := v3) (q := 0) (by omega) (show ((0 + (v3 * 4)) + 0) = v3 * 4 + 0 from by omega) (show 0 + 1 ≤ 4 from by decide) rfl)) <| oB <| oI <| oY Ze) rfl (by decide) (by rfl) (fun _ => ⟨rr, ⟨rr, ⟨rr, ⟨rr, trivial⟩⟩⟩⟩) trivial
        ·
         exact Mach.ok_none
       ·
        exact Mach.ok_none
      ·
       refine Mach.ok_ite (fun g6 => ?_) (fun g6 => ?_)
       ·
        exact Mach.ok_next (M := Zav L0 N) (cd := 1000000) (cm := 0) (y := (.h1m0 (v1) (v2) ((v3 + 1)) : ZL)) (fu := 4000) (orc := (Zi [(0, true), (1, false), (2, false), (3, false), (4, true), (5, false)] [(0, (((v3 + 1) : Nat) : Int))] [(0, v3)] [(0, [.i (L0.getD v3 RA.z).a0])] [])) (live := []) (tv := fun _ => [some (ms E_iiii L0), some (vi (v1 : Int)), some (vi v2), some (vi (((v3 + 1) : Nat) : Int))]) (bl := []) (ob := [((IntKind.i64.wrap ((v3 : Int) + (1 : Int))) == (((v3 + 1) : Nat) : Int), true), nF v2 0, nT (L0.getD v3 RA.z).a0 12, nF (L0.getD v3 RA.z).a0 11, nF (L0.getD v3 RA.z).a0 17, nF (L0.getD v3 RA.z).a0 15, (dP (ZH (code (Z9 E_iiii L0)) ((0 + (v3 * 4)) + 0) 1 = some [.i (L0.getD v3 RA.z).a0]), true), (Nat.blt v3 L0.length, true), ((v3 : Int) == Int.ofNat v3, true), ((decide ((v3 : Int) < (L0.length : Int))), true)]) rfl (show 1 ∈ Z1 (Zbr 1) from by decide +kernel) (fun gv => by kernel_rfl) (Za (beq_iff_eq.2 ((wrap_i64 ltA).trans (by first | rfl | omega))) <| oF <| oT <| oF <| oF <| oF <| Za (Zg (Zt (E := E_iiii) (L := L0) (i := v3) (q := 0) (by omega) (show ((0 + (v3 * 4)) + 0) = v3 * 4 + 0 from by omega) (show 0 + 1 ≤ 4 from by decide) rfl)) <| oB <| oI <| oY Ze) rfl (by decide) (by rfl) (fun _ => ⟨rr, ⟨rr, ⟨rr, ⟨rr, trivial⟩⟩⟩⟩) trivial
       ·
        exact Mach.ok_none
     ·
      refine Mach.ok_ite (fun g5 => ?_) (fun g5 => ?_)
      ·
       refine Mach.ok_ite (fun g6 => ?_) (fun g6 => ?_)
       ·
        refine Mach.ok_ite (fun g7 => ?_) (fun g7 => ?_)
        ·
         refine Mach.ok_ite (fun g8 => ?_) (fun g8 => ?_)
         ·
          exact Mach.ok_next (M := Zav L0 N) (cd := 1000000) (cm := 0) (y := (.h1m0 ((v1 + 1)) (v2) ((v3 + 1)) : ZL)) (fu := 4000) (orc := (Zi [(0, true), (1, false), (2, false), (3, false), (4, false), (5, true), (6, true)] [(0, (((v1 + 1) : Nat) : Int)), (1, (((v3 + 1) : Nat) : Int))] [(0, v3)] [(0, [.i (L0.getD v3 RA.z).a0])] [])) (live := []) (tv := fun _ => [some (ms E_iiii L0), some (vi (((v1 + 1) : Nat) : Int)), some (vi v2), some (vi (((v3 + 1) : Nat) : Int))]) (bl := []) (ob := [((IntKind.i64.wrap ((v3 : Int) + (1 : Int))) == (((v3 + 1) : Nat) : Int), true), ((IntKind.i64.wrap ((v1 : Int) + (1 : Int))) == (((v1 + 1) : Nat) : Int), true), nT v2 0, nT (L0.getD v3 RA.z).a0 13, nF (L0.getD v3 RA.z).a0 12, nF (L0.getD v3 RA.z).a0 11, nF (L0.getD v3 RA.z).a0 17, nF (L0.getD v3 RA.z).a0 15, (dP (ZH (code (Z9 E_iiii L0)) ((0 + (v3 * 4)) + 0) 1 = some [.i (L0.getD v3 RA.z).a0]), true), (Nat.blt v3 L0.length, true), ((v3 : Int) == Int.ofNat v3, true), ((decide ((v3 : Int) < (L0.length : Int))), true)]) rfl (show 1 ∈ Z1 (Zbr 1) from by decide +kernel) (fun gv => by kernel_rfl) (Za (beq_iff_eq.2 ((wrap_i64 ltA).trans (by first | rfl | omega))) <| Za (beq_iff_eq.2 ((wrap_i64 ltA).trans (by first | rfl | omega))) <| oT <| oT <| oF <| oF <| oF <| oF <| Za (Zg (Zt (E := E_iiii) (L := L0) (i := v3) (q := 0) (by omega) (show ((0 + (v3 * 4)) + 0) = v3 * 4 + 0 from by omega) (show 0 + 1 ≤ 4 from by decide) rfl)) <| oB <| oI <| oY Ze) rfl (by decide) (by rfl) (fun _ => ⟨rr, ⟨rr, ⟨rr, ⟨rr, trivial⟩⟩⟩⟩) trivial
         ·
          exact Mach.ok_none
        ·
         exact Mach.ok_none
       ·
        refine Mach.ok_ite (fun g7 => ?_) (fun g7 => ?_)
        ·
         exact Mach.ok_next (M := Zav L0 N) (cd := 1000000) (cm := 0) (y := (.h1m0 (v1) (v2) ((v3 + 1)) : ZL)) (fu := 4000) (orc := (Zi [(0, true), (1, false), (2, false), (3, false), (4, false), (5, true), (6, false)] [(0, (((v3 + 1) : Nat) : Int))] [(0, v3)] [(0, [.i (L0.getD v3 RA.z).a0])] [])) (live := []) (tv := fun _ => [some (ms E_iiii L0), some (vi (v1 : Int)), some (vi v2), some (vi (((v3 + 1) : Nat) : Int))]) (bl := []) (ob := [((IntKind.i64.wrap ((v3 : Int) + (1 : Int))) == (((v3 + 1) : Nat) : Int), true), nF v2 0, nT (L0.getD v3 RA.z).a0 13, nF (L0.getD v3 RA.z).a0 12, nF (L0.getD v3 RA.z).a0 11, nF (L0.getD v3 RA.z).a0 17, nF (L0.getD v3 RA.z).a0 15, (dP (ZH (code (Z9 E_iiii L0)) ((0 + (v3 * 4)) + 0) 1 = some [.i (L0.getD v3 RA.z).a0]), true), (Nat.blt v3 L0.length, true), ((v3 : Int) == Int.ofNat v3, true), ((decide ((v3 : Int) < (L0.length : Int))), true)]) rfl (show 1 ∈ Z1 (Zbr 1) from by decide +kernel) (fun gv => by kernel_rfl) (Za (beq_iff_eq.2 ((wrap_i64 ltA).trans (by first | rfl | omega))) <| oF <| oT <| oF <| oF <| oF <| oF <| Za (Zg (Zt (E := E_iiii) (L := L0) (i := v3) (q := 0) (by omega) (show ((0 + (v3 * 4)) + 0) = v3 * 4 + 0 from by omega) (show 0 + 1 ≤ 4 from by decide) rfl)) <| oB <| oI <| oY Ze) rfl (by decide) (by rfl) (fun _ => ⟨rr, ⟨rr, ⟨rr, ⟨rr, trivial⟩⟩⟩⟩) trivial
        ·
         exact Mach.ok_none
      ·
       refine Mach.ok_ite (fun g6 => ?_) (fun g6 => ?_)
       ·
        refine Mach.ok_ite (fun g7 => ?_) (fun g7 => ?_)
        ·
         refine Mach.ok_ite (fun g8 => ?_) (fun g8 => ?_)
         ·
          refine Mach.ok_ite (fun g9 => ?_) (fun g9 => ?_)
          ·
           exact Mach.ok_next (M := Zav L0 N) (cd := 1000000) (cm := 0) (y := (.h1m0 ((v1 + 1)) (v2) ((v3 + 1)) : ZL)) (fu := 4000) (orc := (Zi [(0, true), (1, false), (2, false), (3, false), (4, false), (5, false), (6, true), (7, true)] [(0, (((v1 + 1) : Nat) : Int)), (1, (((v3 + 1) : Nat) : Int))] [(0, v3)] [(0, [.i (L0.getD v3 RA.z).a0])] [])) (live := []) (tv := fun _ => [some (ms E_iiii L0), some (vi (((v1 + 1) : Nat) : Int)), some (vi v2), some (vi (((v3 + 1) : Nat) : Int))]) (bl := []) (ob := [((IntKind.i64.wrap ((v3 : Int) + (1 : Int))) == (((v3 + 1) : Nat) : Int), true), ((IntKind.i64.wrap ((v1 : Int) + (1 : Int))) == (((v1 + 1) : Nat) : Int), true), nT v2 0, nT (L0.getD v3 RA.z).a0 14, nF (L0.getD v3 RA.z).a0 13, nF (L0.getD v3 RA.z).a0 12, nF (L0.getD v3 RA.z).a0 11, nF (L0.getD v3 RA.z).a0 17, nF (L0.getD v3 RA.z).a0 15, (dP (ZH (code (Z9 E_iiii L0)) ((0 + (v3 * 4)) + 0) 1 = some [.i (L0.getD v3 RA.z).a0]), true), (Nat.blt v3 L0.length, true), ((v3 : Int) == Int.ofNat v3, true), ((decide ((v3 : Int) < (L0.length : Int))), true)]) rfl (show 1 ∈ Z1 (Zbr 1) from by decide +kernel) (fun gv => by kernel_rfl) (Za (beq_iff_eq.2 ((wrap_i64 ltA).trans (by first | rfl | omega))) <| Za (beq_iff_eq.2 ((wrap_i64 ltA).trans (by first | rfl | omega))) <| oT <| oT <| oF <| oF <| oF <| oF <| oF <| Za (Zg (Zt (E := E_iiii) (L := L0) (i := v3) (q := 0) (by omega) (show ((0 + (v3 * 4)) + 0) = v3 * 4 + 0 from by omega) (show 0 + 1 ≤ 4 from by decide) rfl)) <| oB <| oI <| oY Ze) rfl (by decide) (by rfl) (fun _ => ⟨rr, ⟨rr, ⟨rr, ⟨rr, trivial⟩⟩⟩⟩) trivial
          ·
           exact Mach.ok_none
         ·
          exact Mach.ok_none
        ·
         refine Mach.ok_ite (fun g8 => ?_) (fun g8 => ?_)
         ·
          exact Mach.ok_next (M := Zav L0 N) (cd := 1000000) (cm := 0) (y := (.h1m0 (v1) (v2) ((v3 + 1)) : ZL)) (fu := 4000) (orc := (Zi [(0, true), (1, false), (2, false), (3, false), (4, false), (5, false), (6, true), (7, false)] [(0, (((v3 + 1) : Nat) : Int))] [(0, v3)] [(0, [.i (L0.getD v3 RA.z).a0])] [])) (live := []) (tv := fun _ => [some (ms E_iiii L0), some (vi (v1 : Int)), some (vi v2), some (vi (((v3 + 1) : Nat) : Int))]) (bl := []) (ob := [((IntKind.i64.wrap ((v3 : Int) + (1 : Int))) == (((v3 + 1) : Nat) : Int), true), nF v2 0, nT (L0.getD v3 RA.z).a0 14, nF (L0.getD v3 RA.z).a0 13, nF (L0.getD v3 RA.z).a0 12, nF (L0.getD v3 RA.z).a0 11, nF (L0.getD v3 RA.z).a0 17, nF (L0.getD v3 RA.z).a0 15, (dP (ZH (code (Z9 E_iiii L0)) ((0 + (v3 * 4)) + 0) 1 = some [.i (L0.getD v3 RA.z).a0]), true), (Nat.blt v3 L0.length, true), ((v3 : Int) == Int.ofNat v3, true), ((decide ((v3 : Int) < (L0.length : Int))), true)]) rfl (show 1 ∈ Z1 (Zbr 1) from by decide +kernel) (fun gv => by kernel_rfl) (Za (beq_iff_eq.2 ((wrap_i64 ltA).trans (by first | rfl | omega))) <| oF <| oT <| oF <| oF <| oF <| oF <| oF <| Za (Zg (Zt (E := E_iiii) (L := L0) (i := v3) (q := 0) (by omega) (show ((0 + (v3 * 4)) + 0) = v3 * 4 + 0 from by omega) (show 0 + 1 ≤ 4 from by decide) rfl)) <| oB <| oI <| oY Ze) rfl (by decide) (by rfl) (fun _ => ⟨rr, ⟨rr, ⟨rr, ⟨rr, trivial⟩⟩⟩⟩) trivial
         ·
          exact Mach.ok_none
       ·
        refine Mach.ok_ite (fun g7 => ?_) (fun g7 => ?_)
        ·
         exact Mach.ok_next (M := Zav L0 N) (cd := 1000000) (cm := 0) (y := (.h1m0 (v1) (v2) ((v3 + 1)) : ZL)) (fu := 4000) (orc := (Zi [(0, true), (1, false), (2, false), (3, false), (4, false), (5, false), (6, false)] [(0, (((v3 + 1) : Nat) : Int))] [(0, v3)] [(0, [.i (L0.getD v3 RA.z).a0])] [])) (live := []) (tv := fun _ => [some (ms E_iiii L0), some (vi (v1 : Int)), some (vi v2), some (vi (((v3 + 1) : Nat) : Int))]) (bl := []) (ob := [((IntKind.i64.wrap ((v3 : Int) + (1 : Int))) == (((v3 + 1) : Nat) : Int), true), nF (L0.getD v3 RA.z).a0 14, nF (L0.getD v3 RA.z).a0 13, nF (L0.getD v3 RA.z).a0 12, nF (L0.getD v3 RA.z).a0 11, nF (L0.getD v3 RA.z).a0 17, nF (L0.getD v3 RA.z).a0 15, (dP (ZH (code (Z9 E_iiii L0)) ((0 + (v3 * 4)) + 0) 1 = some [.i (L0.getD v3 RA.z).a0]), true), (Nat.blt v3 L0.length, true), ((v3 : Int) == Int.ofNat v3, true), ((decide ((v3 : Int) < (L0.length : Int))), true)]) rfl (show 1 ∈ Z1 (Zbr 1) from by decide +kernel) (fun gv => by kernel_rfl) (Za (beq_iff_eq.2 ((wrap_i64 ltA).trans (by first | rfl | omega))) <| oF <| oF <| oF <| oF <| oF <| oF <| Za (Zg (Zt (E := E_iiii) (L := L0) (i := v3) (q := 0) (by omega) (show ((0 + (v3 * 4)) + 0) = v3 * 4 + 0 from by omega) (show 0 + 1 ≤ 4 from by decide) rfl)) <| oB <| oI <| oY Ze) rfl (by decide) (by rfl) (fun _ => ⟨rr, ⟨rr, ⟨rr, ⟨rr, trivial⟩⟩⟩⟩) trivial
        ·
         exact Mach.ok_none
 ·
  exact Mach.ok_fin (M := Zav L0 N) (cd := 1000000) (cm := 0) (r := (.r0 ((v1 : Int)) : Zbp)) (fu := 4000) (orc := (Zi [(0, false)] [] [] [] [])) (live := []) (u := vi (v1 : Int)) (bl := []) (ob := [((decide ((v3 : Int) < (L0.length : Int))), false)]) (fun gv => by kernel_rfl) (oN Ze) rfl (by decide) (by rfl) rr trivial

theorem ZoA (L0 : List RA) (N : Nat) : (Zav L0 N).Enter Tryz.prog ZG #[ms E_iiii L0] (Zhe L0 N) := by
 unfold Zhe
 refine Mach.en_bind (fun z0 c0 => ?_)
 cases z0 with
 | r0 y0_0 =>
  refine Mach.en_ite (fun g1 => ?_) (fun g1 => ?_)
  ·
   exact Mach.en_fin (M := Zav L0 N) (cd := 1000000) (cm := 0) (r := (.r0 ((0 : Int)) : Zbp)) (fu := 4000) (orc := (Zi [(0, true)] [] [] [] [(0, (Zfa (L0)  y0_0  0))])) (live := []) (u := vq) (bl := []) (ob := [((y0_0 != (0 : Int)), true), (dP (ZdT #[ms E_iiii L0] (L0)  y0_0  0), true)]) (by kernel_rfl) (oD <| Za (Zg (Zfb #[ms E_iiii L0] (L0)  y0_0 N c0  0 rfl (by decide) (by decide))) Ze) rfl (by decide) (by rfl) rr trivial
  ·
   exact Mach.en_head (bK := Zd5 1) (M := Zav L0 N) (cd := 1000000) (cm := 0) (y := (.h1m0 (0) ((0 : Int)) (0) : ZL)) (fu := 4000) (orc := (Zi [(0, false)] [] [] [] [(0, (Zfa (L0)  y0_0  0))])) (live := []) (tv := [some (ms E_iiii L0), some (vq), some (vq), some (vq)]) (bl := []) (ob := [((y0_0 != (0 : Int)), false), (dP (ZdT #[ms E_iiii L0] (L0)  y0_0  0), true)]) rfl rfl (show Z1 (Zd5 1).2 = [] from rfl) (by kernel_rfl) (oE <| Za (Zg (Zfb #[ms E_iiii L0] (L0)  y0_0 N c0  0 rfl (by decide) (by decide))) Ze) rfl (by decide) (by rfl) ⟨rr, ⟨⟨Eq.trans (show (vi ((0 : Nat) : Int) : Value) = vq from (congrArg (Value.int .i64) (by first | rfl | omega))) (by rfl), by rfl⟩, ⟨rr, ⟨⟨Eq.trans (show (vi ((0 : Nat) : Int) : Value) = vq from (congrArg (Value.int .i64) (by first | rfl | omega))) (by rfl), by rfl⟩, trivial⟩⟩⟩⟩ trivial

theorem Znu (L0 : List RA) (N : Nat) (r : Zbp) (h : ZeO L0 N = some r) : LSpec Tryz.prog 9 #[ms E_iiii L0] [] (ZlQ L0 r) (Zk1 L0 r) :=
 Mach.spec Zl (Zav L0 N) Tryz.func9 (by kernel_rfl) (by kernel_rfl) (fun x => by cases x <;> exact Zj _ rfl) (fun r => by cases r <;> exact Zj _ rfl) (fun x => by
  cases x with
  | h1m0 _ _ _ => exact fun _ => (show ¬ (1 ∈ Z1 (Zd5 1).2) from by decide +kernel)
  ) (fun x => (show (Zav L0 N).Ok Tryz.prog ZG x (Zde L0 N x) from by
  cases x with
  | h1m0 v1 v2 v3 => exact Zm0 L0 v1 v2 v3 N
  )) (ZoA L0 N) (n := N) h

noncomputable def Zhg (L0 : List RA) (w0 : Int) (n : Nat) : Zaj := .call [] (vi w0) [] 0
def Zfc (A : Array Value) (L0 : List RA) (w0 : Int) (n : Nat) : Prop := Zz Tryz.prog 9 A [] (vi w0) [] n 0

theorem Zhh (A : Array Value) (L0 : List RA) (w0 : Int) (N : Nat) (h : ZeO L0 N = some (.r0 w0)) (n : Nat) (hA : A = #[ms E_iiii L0]) (hnd : ([] : List Nat).Nodup) (hlt : ∀ k ∈ ([] : List Nat), k < n) : Zfc A L0 w0  n :=
 ZC hA (LSpec.callL (show LSpec Tryz.prog 9 #[ms E_iiii L0] [] (vi w0) [] from Znu L0 N _ h) [] n [] rfl hnd hlt (show 0 ≤ 0 from by decide) (show ∀ j ∈ ([] : List Nat), j < 0 from by decide) (by rfl) trivial (by rfl) trivial trivial rfl rfl rfl rfl rfl)

noncomputable def Zk3 (L0 : List (List RA)) : Za8 → Value
 | .r0 w1 w2 => Value.tuple #[vi w1, vi w2]
noncomputable def Zju (L0 : List (List RA)) : Za8 → List (Option AObj)
 | .r0 w1 w2 => [some (.cells (Zb (ZE E_iiii) L0) 25)]

def ZoB : ZaK → Nat
 | .h1m0 v2 v3 v5 => 1
noncomputable def ZpP (L0 : List (List RA)) : ZaK → List (Nat × Value)
 | .h1m0 v2 v3 v5 => [(4, vi (L0.length : Int)), (5, vi v2), (6, vi v3), (14, vs 0 0 L0.length L0.length), (15, vi (L0.length : Int)), (16, vi (v5 : Int))]
noncomputable def ZpQ (L0 : List (List RA)) : ZaK → List (Option AObj)
 | .h1m0 v2 v3 v5 => [some (.cells (Zb (ZE E_iiii) L0) 25)]

noncomputable def ZcU : Nat → Code × List ZaI
 | 1 => Zb3 [1, 1, 1, 0, 1, 3] (Zc8 Tryz.f10) []
 | _ => (.skip, [])
def Zjv : Nat → Bool
 | 1 => true
 | _ => true
noncomputable def ZpR (i : Nat) : List ZaI := match Zjv i with | true => .rnd i :: (ZcU i).2 | false => (ZcU i).2

noncomputable def Zbs (L0 : List (List RA)) (N : Nat) : Mach := ⟨Tryz.f10, [.cells (Zb (ZE E_iiii) L0) 25], ZaK, Za8, ZcL L0 N, ZoB, ZcU, Zjv, ZpP L0, ZpQ L0, Zk3 L0, Zju L0⟩

theorem ZlR (L0 : List (List RA)) (v2 v3 : Int) (v5 N : Nat) : (Zbs L0 N).Ok Tryz.prog ZG (.h1m0 v2 v3 v5 : ZaK) (ZcL L0 N (.h1m0 v2 v3 v5 : ZaK)) := by
 show (Zbs L0 N).Ok Tryz.prog ZG (.h1m0 v2 v3 v5 : ZaK) (ZeF L0 N v2 v3 v5)
 unfold ZeF
 refine Mach.ok_ite (fun g0 => ?_) (fun g0 => ?_)
 ·
  refine Mach.ok_bind (fun z1 c1 => ?_)
  cases z1 with
  | r0 y1_0 =>
   refine Mach.ok_ite (fun g2 => ?_) (fun g2 => ?_)
   ·
    exact Mach.ok_fin (M := Zbs L0 N) (cd := 1000000) (cm := 0) (r := (.r0 ((0 : Int)) ((270 : Int)) : Za8)) (fu := 4000) (orc := (Zi [(0, true), (1, true)] [] [(0, v5)] [(0, [(mc E_iiii (L0.getD v5 []))])] [(0, (ZeU ((L0.getD v5 []))  y1_0  1))])) (live := [0]) (u := Value.tuple #[vq, vi (270 : Int)]) (bl := [some (.cells (Zb (ZE E_iiii) L0) 25)]) (ob := [((!y1_0), true), (dP (ZdZ #[ms E_iiii (L0.getD v5 [])] ((L0.getD v5 []))  y1_0  1), true), (Zas (Z7 1 (List.drop (0 + (v5 * 1)) (Zb (ZE E_iiii) L0))) [(mc E_iiii (L0.getD v5 []))], true), (Nat.blt v5 L0.length, true), ((v5 : Int) == Int.ofNat v5, true), ((decide ((v5 : Int) < (L0.length : Int))), true)]) (fun gv => by kernel_rfl) (Za (ZdL (by first | assumption | simp_all)) <| Za (Zg (ZeV #[ms E_iiii (L0.getD v5 [])] ((L0.getD v5 []))  y1_0 N c1  1 rfl (by decide) (by decide))) <| Za (ZS (E := (ZE E_iiii)) (L := L0) (i := v5) (q := 0) (by omega) (show (0 + (v5 * 1)) = v5 * 1 + 0 from by omega) (show 0 + 1 ≤ 1 from by decide) rfl rfl) <| oB <| oI <| oY Ze) rfl (by decide) (by rfl) rr ⟨(Zf (E := (ZE E_iiii)) (α := List RA) _ L0 _), trivial⟩
   ·
    refine Mach.ok_bind (fun z3 c3 => ?_)
    cases z3 with
    | r0 y3_0 =>
     refine Mach.ok_ite (fun g4 => ?_) (fun g4 => ?_)
     ·
      exact Mach.ok_next (M := Zbs L0 N) (cd := 1000000) (cm := 0) (y := (.h1m0 ((IntKind.i64.wrap (v2 + y3_0))) ((if (((L0.getD v5 []).length : Nat) : Int) > v3 then (((L0.getD v5 []).length : Nat) : Int) else v3)) ((v5 + 1)) : ZaK)) (fu := 4000) (orc := (Zi [(0, true), (1, false)] [(1, (((v5 + 1) : Nat) : Int))] [(0, v5)] [(0, [(mc E_iiii (L0.getD v5 []))])] [(0, (ZeU ((L0.getD v5 []))  y1_0  1)), (1, (Zim ((L0.getD v5 []))  y3_0  1))])) (live := [0]) (tv := fun _ => [some (vi (L0.length : Int)), some (vi (IntKind.i64.wrap (v2 + y3_0))), some (vi (if (((L0.getD v5 []).length : Nat) : Int) > v3 then (((L0.getD v5 []).length : Nat) : Int) else v3)), some (vs 0 0 L0.length L0.length), some (vi (L0.length : Int)), some (vi (((v5 + 1) : Nat) : Int))]) (bl := [some (.cells (Zb (ZE E_iiii) L0) 25)]) (ob := [((IntKind.i64.wrap ((v5 : Int) + (1 : Int))) == (((v5 + 1) : Nat) : Int), true), (dP (ZfP #[ms E_iiii (L0.getD v5 [])] ((L0.getD v5 []))  y3_0  1), true), ((!y1_0), false), (dP (ZdZ #[ms E_iiii (L0.getD v5 [])] ((L0.getD v5 []))  y1_0  1), true), (Zas (Z7 1 (List.drop (0 + (v5 * 1)) (Zb (ZE E_iiii) L0))) [(mc E_iiii (L0.getD v5 []))], true), (Nat.blt v5 L0.length, true), ((v5 : Int) == Int.ofNat v5, true), ((decide ((v5 : Int) < (L0.length : Int))), true)]) rfl (show 1 ∈ Z1 (ZpR 1) from by decide +kernel) (fun gv => by kernel_rfl) (Za (beq_iff_eq.2 ((wrap_i64 ltA).trans (by first | rfl | omega))) <| Za (Zg (Zin #[ms E_iiii (L0.getD v5 [])] ((L0.getD v5 []))  y3_0 N c3  1 rfl (by decide) (by decide))) <| Za (Zdc (by first | assumption | exact Decidable.not_not.1 (by assumption) | simp_all)) <| Za (Zg (ZeV #[ms E_iiii (L0.getD v5 [])] ((L0.getD v5 []))  y1_0 N c1  1 rfl (by decide) (by decide))) <| Za (ZS (E := (ZE E_iiii)) (L := L0) (i := v5) (q := 0) (by omega) (show (0 + (v5 * 1)) = v5 * 1 + 0 from by omega) (show 0 + 1 ≤ 1 from by decide) rfl rfl) <| oB <| oI <| oY Ze) rfl (by decide) (by rfl) (fun _ => ⟨rr, ⟨rr, ⟨rr, ⟨rr, ⟨rr, ⟨rr, trivial⟩⟩⟩⟩⟩⟩) ⟨(Zf (E := (ZE E_iiii)) (α := List RA) _ L0 _), trivial⟩
     ·
      exact Mach.ok_none
 ·
  exact Mach.ok_fin (M := Zbs L0 N) (cd := 1000000) (cm := 0) (r := (.r0 ((IntKind.i64.wrap ((IntKind.i64.wrap ((L0.length : Int) * (IntKind.i64.wrap (v2 + (L0.length : Int))))) * (IntKind.i64.wrap ((IntKind.i64.wrap ((IntKind.i64.wrap ((4 : Int) * v3)) * v3)) + (400 : Int)))))) ((0 : Int)) : Za8)) (fu := 4000) (orc := (Zi [(0, false)] [] [] [] [])) (live := [0]) (u := Value.tuple #[vi (IntKind.i64.wrap ((IntKind.i64.wrap ((L0.length : Int) * (IntKind.i64.wrap (v2 + (L0.length : Int))))) * (IntKind.i64.wrap ((IntKind.i64.wrap ((IntKind.i64.wrap ((4 : Int) * v3)) * v3)) + (400 : Int))))), vq]) (bl := [some (.cells (Zb (ZE E_iiii) L0) 25)]) (ob := [((decide ((v5 : Int) < (L0.length : Int))), false)]) (fun gv => by kernel_rfl) (oN Ze) rfl (by decide) (by rfl) rr ⟨(Zf (E := (ZE E_iiii)) (α := List RA) _ L0 _), trivial⟩

theorem Zoe (L0 : List (List RA)) (N : Nat) : (Zbs L0 N).Enter Tryz.prog ZG #[vs 0 0 L0.length L0.length] (Zgu L0 N) := by
 unfold Zgu
 refine Mach.en_ite (fun g0 => ?_) (fun g0 => ?_)
 ·
  refine Mach.en_ite (fun g1 => ?_) (fun g1 => ?_)
  ·
   exact Mach.en_head (bK := ZcU 1) (M := Zbs L0 N) (cd := 1000000) (cm := 0) (y := (.h1m0 ((0 : Int)) ((0 : Int)) (0) : ZaK)) (fu := 4000) (orc := (Zi [(0, true), (1, true)] [] [] [] [])) (live := [0]) (tv := [some (vi (L0.length : Int)), some (vq), some (vq), some (vs 0 0 L0.length L0.length), some (vi (L0.length : Int)), some (vq)]) (bl := [some (.cells (Zb (ZE E_iiii) L0) 25)]) (ob := [((decide ((L0.length : Int) ≤ (64 : Int))), true), ((decide ((L0.length : Int) ≥ (1 : Int))), true)]) rfl rfl (show Z1 (ZcU 1).2 = [] from rfl) (by kernel_rfl) (oY <| oY Ze) rfl (by decide) (by rfl) ⟨rr, ⟨rr, ⟨rr, ⟨rr, ⟨rr, ⟨⟨Eq.trans (show (vi ((0 : Nat) : Int) : Value) = vq from (congrArg (Value.int .i64) (by first | rfl | omega))) (by rfl), by rfl⟩, trivial⟩⟩⟩⟩⟩⟩ ⟨(Zf (E := (ZE E_iiii)) (α := List RA) _ L0 _), trivial⟩
  ·
   exact Mach.en_fin (M := Zbs L0 N) (cd := 1000000) (cm := 0) (r := (.r0 ((0 : Int)) ((270 : Int)) : Za8)) (fu := 4000) (orc := (Zi [(0, true), (1, false)] [] [] [] [])) (live := [0]) (u := Value.tuple #[vq, vi (270 : Int)]) (bl := [some (.cells (Zb (ZE E_iiii) L0) 25)]) (ob := [((decide ((L0.length : Int) ≤ (64 : Int))), false), ((decide ((L0.length : Int) ≥ (1 : Int))), true)]) (by kernel_rfl) (oN <| oY Ze) rfl (by decide) (by rfl) rr ⟨(Zf (E := (ZE E_iiii)) (α := List RA) _ L0 _), trivial⟩
 ·
  exact Mach.en_fin (M := Zbs L0 N) (cd := 1000000) (cm := 0) (r := (.r0 ((0 : Int)) ((270 : Int)) : Za8)) (fu := 4000) (orc := (Zi [(0, false)] [] [] [] [])) (live := [0]) (u := Value.tuple #[vq, vi (270 : Int)]) (bl := [some (.cells (Zb (ZE E_iiii) L0) 25)]) (ob := [((decide ((L0.length : Int) ≥ (1 : Int))), false)]) (by kernel_rfl) (oN Ze) rfl (by decide) (by rfl) rr ⟨(Zf (E := (ZE E_iiii)) (α := List RA) _ L0 _), trivial⟩

theorem Zm1 (L0 : List (List RA)) (N : Nat) (r : Za8) (h : ZfA L0 N = some r) : LSpec Tryz.prog 10 #[vs 0 0 L0.length L0.length] [.cells (Zb (ZE E_iiii) L0) 25] (Zk3 L0 r) (Zju L0 r) :=
 Mach.spec Zl (Zbs L0 N) Tryz.func10 (by kernel_rfl) (by kernel_rfl) (fun x => by cases x <;> exact Zj _ rfl) (fun r => by cases r <;> exact Zj _ rfl) (fun x => by
  cases x with
  | h1m0 _ _ _ => exact fun _ => (show ¬ (1 ∈ Z1 (ZcU 1).2) from by decide +kernel)
  ) (fun x => (show (Zbs L0 N).Ok Tryz.prog ZG x (ZcL L0 N x) from by
  cases x with
  | h1m0 v2 v3 v5 => exact ZlR L0 v2 v3 v5 N
  )) (Zoe L0 N) (n := N) h

noncomputable def Zgz (L0 : List (List RA)) (w1 w2 : Int) (k0 n : Nat) : Zaj := .call [(k0, .cells (Zb (ZE E_iiii) L0) 25)] (Value.tuple #[vi w1, vi w2]) [] 0
def ZeD (A : Array Value) (L0 : List (List RA)) (w1 w2 : Int) (k0 n : Nat) : Prop := Zz Tryz.prog 10 A [(k0, .cells (Zb (ZE E_iiii) L0) 25)] (Value.tuple #[vi w1, vi w2]) [] n 0

theorem Zg0 (A : Array Value) (L0 : List (List RA)) (w1 w2 : Int) (N : Nat) (h : ZfA L0 N = some (.r0 w1 w2)) (k0 n : Nat) (hA : A = #[vs k0 0 L0.length L0.length]) (hnd : ([k0] : List Nat).Nodup) (hlt : ∀ k ∈ ([k0] : List Nat), k < n) : ZeD A L0 w1 w2 k0 n :=
 ZC hA (LSpec.callL (show LSpec Tryz.prog 10 #[vs 0 0 L0.length L0.length] [.cells (Zb (ZE E_iiii) L0) 25] (Value.tuple #[vi w1, vi w2]) [some (.cells (Zb (ZE E_iiii) L0) 25)] from Zm1 L0 N _ h) [k0] n [] rfl hnd hlt (show 1 ≤ 1 from by decide) (show ∀ j ∈ ([] : List Nat), j < 1 from by decide) (by rfl) ⟨(Zo _ _ _), trivial⟩ (by rfl) ⟨(Zo _ _ _), trivial⟩ ⟨.inr rfl, trivial⟩ rfl rfl rfl (Zc (Zp rfl (Z0 _ _ _)) rfl) rfl)

noncomputable def Zjw (L0 : List (List RA)) : Za2 → Value
 | .r0 w1 w2 => Value.tuple #[vi w1, vi w2]
noncomputable def Zi3 (L0 : List (List RA)) : Za2 → List (Option AObj)
 | .r0 w1 w2 => [some (.cells (Zb (ZE E_iiii) L0) 25)]

def Zof : Za6 → Nat
 | .h1m0 v2 v3 v4 => 1
noncomputable def ZoC (L0 : List (List RA)) : Za6 → List (Nat × Value)
 | .h1m0 v2 v3 v4 => [(0, vs 0 0 L0.length L0.length), (4, vi (L0.length : Int)), (5, vi v2), (6, vi v3), (7, vi (v4 : Int))]
noncomputable def ZoD (L0 : List (List RA)) : Za6 → List (Option AObj)
 | .h1m0 v2 v3 v4 => [some (.cells (Zb (ZE E_iiii) L0) 25)]

noncomputable def ZcF : Nat → Code × List ZaI
 | 1 => Zb3 [1, 1, 1, 1, 0, 1, 3] (Zc8 Tryz.f11) []
 | _ => (.skip, [])
def Zi4 : Nat → Bool
 | 1 => true
 | _ => true
noncomputable def ZoE (i : Nat) : List ZaI := match Zi4 i with | true => .rnd i :: (ZcF i).2 | false => (ZcF i).2

noncomputable def Zbj (L0 : List (List RA)) (N : Nat) : Mach := ⟨Tryz.f11, [.cells (Zb (ZE E_iiii) L0) 25], Za6, Za2, Zc6 L0 N, Zof, ZcF, Zi4, ZoC L0, ZoD L0, Zjw L0, Zi3 L0⟩

theorem ZkL (L0 : List (List RA)) (v2 v3 : Int) (v4 N : Nat) : (Zbj L0 N).Ok Tryz.prog ZG (.h1m0 v2 v3 v4 : Za6) (Zc6 L0 N (.h1m0 v2 v3 v4 : Za6)) := by
 show (Zbj L0 N).Ok Tryz.prog ZG (.h1m0 v2 v3 v4 : Za6) (Zep L0 N v2 v3 v4)
 unfold Zep
 refine Mach.ok_ite (fun g0 => ?_) (fun g0 => ?_)
 ·
  refine Mach.ok_bind (fun z1 c1 => ?_)
  cases z1 with
  | r0 y1_0 =>
   refine Mach.ok_ite (fun g2 => ?_) (fun g2 => ?_)
   ·
    exact Mach.ok_fin (M := Zbj L0 N) (cd := 1000000) (cm := 0) (r := (.r0 ((0 : Int)) ((270 : Int)) : Za2)) (fu := 4000) (orc := (Zi [(0, true), (1, true)] [] [(0, v4)] [(0, [(mc E_iiii (L0.getD v4 []))])] [(0, (Zet ((L0.getD v4 []))  y1_0  1))])) (live := [0]) (u := Value.tuple #[vq, vi (270 : Int)]) (bl := [some (.cells (Zb (ZE E_iiii) L0) 25)]) (ob := [((!y1_0), true), (dP (Zd4 #[ms E_iiii (L0.getD v4 [])] ((L0.getD v4 []))  y1_0  1), true), (Zas (Z7 1 (List.drop (0 + (v4 * 1)) (Zb (ZE E_iiii) L0))) [(mc E_iiii (L0.getD v4 []))], true), (Nat.blt v4 L0.length, true), ((v4 : Int) == Int.ofNat v4, true), ((decide ((v4 : Int) < (L0.length : Int))), true)]) (fun gv => by kernel_rfl) (Za (ZdL (by first | assumption | simp_all)) <| Za (Zg (Zeu #[ms E_iiii (L0.getD v4 [])] ((L0.getD v4 []))  y1_0 N c1  1 rfl (by decide) (by decide))) <| Za (ZS (E := (ZE E_iiii)) (L := L0) (i := v4) (q := 0) (by omega) (show (0 + (v4 * 1)) = v4 * 1 + 0 from by omega) (show 0 + 1 ≤ 1 from by decide) rfl rfl) <| oB <| oI <| oY Ze) rfl (by decide) (by rfl) rr ⟨(Zf (E := (ZE E_iiii)) (α := List RA) _ L0 _), trivial⟩
   ·
    refine Mach.ok_bind (fun z3 c3 => ?_)
    cases z3 with
    | r0 y3_0 =>
     refine Mach.ok_ite (fun g4 => ?_) (fun g4 => ?_)
     ·
      exact Mach.ok_next (M := Zbj L0 N) (cd := 1000000) (cm := 0) (y := (.h1m0 ((IntKind.i64.wrap (v2 + y3_0))) ((if (((L0.getD v4 []).length : Nat) : Int) > v3 then (((L0.getD v4 []).length : Nat) : Int) else v3)) ((v4 + 1)) : Za6)) (fu := 4000) (orc := (Zi [(0, true), (1, false)] [(1, (((v4 + 1) : Nat) : Int))] [(0, v4), (1, v4), (2, v4)] [(0, [(mc E_iiii (L0.getD v4 []))]), (1, [(mc E_iiii (L0.getD v4 []))]), (2, [(mc E_iiii (L0.getD v4 []))])] [(0, (Zet ((L0.getD v4 []))  y1_0  1)), (1, (Zhg ((L0.getD v4 []))  y3_0  1))])) (live := [0]) (tv := fun _ => [some (vs 0 0 L0.length L0.length), some (vi (L0.length : Int)), some (vi (IntKind.i64.wrap (v2 + y3_0))), some (vi (if (((L0.getD v4 []).length : Nat) : Int) > v3 then (((L0.getD v4 []).length : Nat) : Int) else v3)), some (vi (((v4 + 1) : Nat) : Int))]) (bl := [some (.cells (Zb (ZE E_iiii) L0) 25)]) (ob := [((IntKind.i64.wrap ((v4 : Int) + (1 : Int))) == (((v4 + 1) : Nat) : Int), true), (Zas (Z7 1 (List.drop (0 + (v4 * 1)) (Zb (ZE E_iiii) L0))) [(mc E_iiii (L0.getD v4 []))], true), (Nat.blt v4 L0.length, true), ((v4 : Int) == Int.ofNat v4, true), (dP (Zfc #[ms E_iiii (L0.getD v4 [])] ((L0.getD v4 []))  y3_0  1), true), (Zas (Z7 1 (List.drop (0 + (v4 * 1)) (Zb (ZE E_iiii) L0))) [(mc E_iiii (L0.getD v4 []))], true), (Nat.blt v4 L0.length, true), ((v4 : Int) == Int.ofNat v4, true), ((!y1_0), false), (dP (Zd4 #[ms E_iiii (L0.getD v4 [])] ((L0.getD v4 []))  y1_0  1), true), (Zas (Z7 1 (List.drop (0 + (v4 * 1)) (Zb (ZE E_iiii) L0))) [(mc E_iiii (L0.getD v4 []))], true), (Nat.blt v4 L0.length, true), ((v4 : Int) == Int.ofNat v4, true), ((decide ((v4 : Int) < (L0.length : Int))), true)]) rfl (show 1 ∈ Z1 (ZoE 1) from by decide +kernel) (fun gv => by kernel_rfl) (Za (beq_iff_eq.2 ((wrap_i64 ltA).trans (by first | rfl | omega))) <| Za (ZS (E := (ZE E_iiii)) (L := L0) (i := v4) (q := 0) (by omega) (show (0 + (v4 * 1)) = v4 * 1 + 0 from by omega) (show 0 + 1 ≤ 1 from by decide) rfl rfl) <| oB <| oI <| Za (Zg (Zhh #[ms E_iiii (L0.getD v4 [])] ((L0.getD v4 []))  y3_0 N c3  1 rfl (by decide) (by decide))) <| Za (ZS (E := (ZE E_iiii)) (L := L0) (i := v4) (q := 0) (by omega) (show (0 + (v4 * 1)) = v4 * 1 + 0 from by omega) (show 0 + 1 ≤ 1 from by decide) rfl rfl) <| oB <| oI <| Za (Zdc (by first | assumption | exact Decidable.not_not.1 (by assumption) | simp_all)) <| Za (Zg (Zeu #[ms E_iiii (L0.getD v4 [])] ((L0.getD v4 []))  y1_0 N c1  1 rfl (by decide) (by decide))) <| Za (ZS (E := (ZE E_iiii)) (L := L0) (i := v4) (q := 0) (by omega) (show (0 + (v4 * 1)) = v4 * 1 + 0 from by omega) (show 0 + 1 ≤ 1 from by decide) rfl rfl) <| oB <| oI <| oY Ze) rfl (by decide) (by rfl) (fun _ => ⟨rr, ⟨rr, ⟨rr, ⟨rr, ⟨rr, trivial⟩⟩⟩⟩⟩) ⟨(Zf (E := (ZE E_iiii)) (α := List RA) _ L0 _), trivial⟩
     ·
      exact Mach.ok_none
 ·
  exact Mach.ok_fin (M := Zbj L0 N) (cd := 1000000) (cm := 0) (r := (.r0 ((IntKind.i64.wrap ((IntKind.i64.wrap ((L0.length : Int) * (IntKind.i64.wrap (v2 + (L0.length : Int))))) * (IntKind.i64.wrap ((IntKind.i64.wrap ((IntKind.i64.wrap ((4 : Int) * v3)) * v3)) + (400 : Int)))))) ((0 : Int)) : Za2)) (fu := 4000) (orc := (Zi [(0, false)] [] [] [] [])) (live := [0]) (u := Value.tuple #[vi (IntKind.i64.wrap ((IntKind.i64.wrap ((L0.length : Int) * (IntKind.i64.wrap (v2 + (L0.length : Int))))) * (IntKind.i64.wrap ((IntKind.i64.wrap ((IntKind.i64.wrap ((4 : Int) * v3)) * v3)) + (400 : Int))))), vq]) (bl := [some (.cells (Zb (ZE E_iiii) L0) 25)]) (ob := [((decide ((v4 : Int) < (L0.length : Int))), false)]) (fun gv => by kernel_rfl) (oN Ze) rfl (by decide) (by rfl) rr ⟨(Zf (E := (ZE E_iiii)) (α := List RA) _ L0 _), trivial⟩

theorem Znv (L0 : List (List RA)) (N : Nat) : (Zbj L0 N).Enter Tryz.prog ZG #[vs 0 0 L0.length L0.length] (ZfB L0 N) := by
 unfold ZfB
 refine Mach.en_ite (fun g0 => ?_) (fun g0 => ?_)
 ·
  exact Mach.en_fin (M := Zbj L0 N) (cd := 1000000) (cm := 0) (r := (.r0 ((0 : Int)) ((270 : Int)) : Za2)) (fu := 4000) (orc := (Zi [(0, true)] [] [] [] [])) (live := [0]) (u := Value.tuple #[vq, vi (270 : Int)]) (bl := [some (.cells (Zb (ZE E_iiii) L0) 25)]) (ob := [((decide ((L0.length : Int) < (1 : Int))), true)]) (by kernel_rfl) (oY Ze) rfl (by decide) (by rfl) rr ⟨(Zf (E := (ZE E_iiii)) (α := List RA) _ L0 _), trivial⟩
 ·
  refine Mach.en_ite (fun g1 => ?_) (fun g1 => ?_)
  ·
   exact Mach.en_fin (M := Zbj L0 N) (cd := 1000000) (cm := 0) (r := (.r0 ((0 : Int)) ((270 : Int)) : Za2)) (fu := 4000) (orc := (Zi [(0, false), (1, true)] [] [] [] [])) (live := [0]) (u := Value.tuple #[vq, vi (270 : Int)]) (bl := [some (.cells (Zb (ZE E_iiii) L0) 25)]) (ob := [((decide ((L0.length : Int) > (64 : Int))), true), ((decide ((L0.length : Int) < (1 : Int))), false)]) (by kernel_rfl) (oY <| oN Ze) rfl (by decide) (by rfl) rr ⟨(Zf (E := (ZE E_iiii)) (α := List RA) _ L0 _), trivial⟩
  ·
   exact Mach.en_head (bK := ZcF 1) (M := Zbj L0 N) (cd := 1000000) (cm := 0) (y := (.h1m0 ((0 : Int)) ((0 : Int)) (0) : Za6)) (fu := 4000) (orc := (Zi [(0, false), (1, false)] [] [] [] [])) (live := [0]) (tv := [some (vs 0 0 L0.length L0.length), some (vi (L0.length : Int)), some (vq), some (vq), some (vq)]) (bl := [some (.cells (Zb (ZE E_iiii) L0) 25)]) (ob := [((decide ((L0.length : Int) > (64 : Int))), false), ((decide ((L0.length : Int) < (1 : Int))), false)]) rfl rfl (show Z1 (ZcF 1).2 = [] from rfl) (by kernel_rfl) (oN <| oN Ze) rfl (by decide) (by rfl) ⟨rr, ⟨rr, ⟨rr, ⟨rr, ⟨⟨Eq.trans (show (vi ((0 : Nat) : Int) : Value) = vq from (congrArg (Value.int .i64) (by first | rfl | omega))) (by rfl), by rfl⟩, trivial⟩⟩⟩⟩⟩ ⟨(Zf (E := (ZE E_iiii)) (α := List RA) _ L0 _), trivial⟩

theorem ZlS (L0 : List (List RA)) (N : Nat) (r : Za2) (h : ZeZ L0 N = some r) : LSpec Tryz.prog 11 #[vs 0 0 L0.length L0.length] [.cells (Zb (ZE E_iiii) L0) 25] (Zjw L0 r) (Zi3 L0 r) :=
 Mach.spec Zl (Zbj L0 N) Tryz.func11 (by kernel_rfl) (by kernel_rfl) (fun x => by cases x <;> exact Zj _ rfl) (fun r => by cases r <;> exact Zj _ rfl) (fun x => by
  cases x with
  | h1m0 _ _ _ => exact fun _ => (show ¬ (1 ∈ Z1 (ZcF 1).2) from by decide +kernel)
  ) (fun x => (show (Zbj L0 N).Ok Tryz.prog ZG x (Zc6 L0 N x) from by
  cases x with
  | h1m0 v2 v3 v4 => exact ZkL L0 v2 v3 v4 N
  )) (Znv L0 N) (n := N) h

noncomputable def ZfQ (L0 : List (List RA)) (w1 w2 : Int) (k0 n : Nat) : Zaj := .call [(k0, .cells (Zb (ZE E_iiii) L0) 25)] (Value.tuple #[vi w1, vi w2]) [] 0
def Zej (A : Array Value) (L0 : List (List RA)) (w1 w2 : Int) (k0 n : Nat) : Prop := Zz Tryz.prog 11 A [(k0, .cells (Zb (ZE E_iiii) L0) 25)] (Value.tuple #[vi w1, vi w2]) [] n 0

theorem ZfR (A : Array Value) (L0 : List (List RA)) (w1 w2 : Int) (N : Nat) (h : ZeZ L0 N = some (.r0 w1 w2)) (k0 n : Nat) (hA : A = #[vs k0 0 L0.length L0.length]) (hnd : ([k0] : List Nat).Nodup) (hlt : ∀ k ∈ ([k0] : List Nat), k < n) : Zej A L0 w1 w2 k0 n :=
 ZC hA (LSpec.callL (show LSpec Tryz.prog 11 #[vs 0 0 L0.length L0.length] [.cells (Zb (ZE E_iiii) L0) 25] (Value.tuple #[vi w1, vi w2]) [some (.cells (Zb (ZE E_iiii) L0) 25)] from ZlS L0 N _ h) [k0] n [] rfl hnd hlt (show 1 ≤ 1 from by decide) (show ∀ j ∈ ([] : List Nat), j < 1 from by decide) (by rfl) ⟨(Zo _ _ _), trivial⟩ (by rfl) ⟨(Zo _ _ _), trivial⟩ ⟨.inr rfl, trivial⟩ rfl rfl rfl (Zc (Zp rfl (Z0 _ _ _)) rfl) rfl)

noncomputable def Zht (L0 : List (List RA)) : Zab → Value
 | .r0 w0 => Value.bool w0
noncomputable def ZgV (L0 : List (List RA)) : Zab → List (Option AObj)
 | .r0 w0 => []

def ZlT : Zac → Nat
 | .h1m0 => 1
 | .h1m1 v0 v1 => 1
noncomputable def Zm2 (L0 : List (List RA)) : Zac → List (Nat × Value)
 | .h1m0 => [(0, vn), (3, vq)]
 | .h1m1 v0 v1 => [(0, vs 0 0 v0.length v0.length), (3, vi (v1 : Int))]
noncomputable def Zm3 (L0 : List (List RA)) : Zac → List (Option AObj)
 | .h1m0 => []
 | .h1m1 v0 v1 => [some (.cells (Zb (ZE E_iiii) v0) 25)]

noncomputable def Zbg : Nat → Code × List ZaI
 | 1 => Zb3 [1, 1, 0, 1, 3] (Zc8 Tryz.f3) []
 | _ => (.skip, [])
def ZgW : Nat → Bool
 | 1 => true
 | _ => true
noncomputable def Zm4 (i : Nat) : List ZaI := match ZgW i with | true => .rnd i :: (Zbg i).2 | false => (Zbg i).2

noncomputable def Zan (L0 : List (List RA)) (N : Nat) : Mach := ⟨Tryz.f3, [], Zac, Zab, ZbB L0 N, ZlT, Zbg, ZgW, Zm2 L0, Zm3 L0, Zht L0, ZgV L0⟩

theorem ZiM (L0 : List (List RA)) (N : Nat) : (Zan L0 N).Ok Tryz.prog ZG (.h1m0 : Zac) (ZbB L0 N (.h1m0 : Zac)) := by
 show (Zan L0 N).Ok Tryz.prog ZG (.h1m0 : Zac) (Zdy L0 N)
 unfold Zdy
 refine Mach.ok_bind (fun z0 c0 => ?_)
 cases z0 with
 | r0 =>
  refine Mach.ok_bind (fun z1 c1 => ?_)
  cases z1 with
  | r0 =>
   exact Mach.ok_fin (M := Zan L0 N) (cd := 1000000) (cm := 0) (r := (.r0 (true) : Zab)) (fu := 4000) (orc := (Zi [] [] [] [] [(0, (ZqX     0)), (1, (Zpo     0))])) (live := []) (u := vT) (bl := []) (ob := [(dP (ZjZ #[vn]     0), true), (dP (Zlt #[vn]     0), true)]) (fun gv => by kernel_rfl) (Za (Zg (Zpp #[vn]    N c1  0 rfl (by decide) (by decide))) <| Za (Zg (ZqY #[vn]    N c0  0 rfl (by decide) (by decide))) Ze) rfl (by decide) (by rfl) rr trivial

theorem ZiN (L0 : List (List RA)) (v0 : List (List RA)) (v1 N : Nat) : (Zan L0 N).Ok Tryz.prog ZG (.h1m1 v0 v1 : Zac) (ZbB L0 N (.h1m1 v0 v1 : Zac)) := by
 show (Zan L0 N).Ok Tryz.prog ZG (.h1m1 v0 v1 : Zac) (Zdz L0 N v0 v1)
 unfold Zdz
 refine Mach.ok_ite (fun g0 => ?_) (fun g0 => ?_)
 ·
  refine Mach.ok_bind (fun z1 c1 => ?_)
  cases z1 with
  | r0 y1_0 =>
   refine Mach.ok_bind (fun z2 c2 => ?_)
   cases z2 with
   | r0 y2_0 =>
    refine Mach.ok_ite (fun g3 => ?_) (fun g3 => ?_)
    ·
     exact Mach.ok_fin (M := Zan L0 N) (cd := 1000000) (cm := 0) (r := (.r0 (false) : Zab)) (fu := 4000) (orc := (Zi [(0, true), (1, true)] [] [(0, v1), (1, v1)] [(0, [(mc E_iiii (v0.getD v1 []))]), (1, [(mc E_iiii (v0.getD v1 []))])] [(0, (ZeU ((v0.getD v1 []))  y1_0  1)), (1, (Zet ((v0.getD v1 []))  y2_0  1))])) (live := []) (u := vf) (bl := []) (ob := [((!(y1_0 == y2_0)), true), (dP (Zd4 #[ms E_iiii (v0.getD v1 [])] ((v0.getD v1 []))  y2_0  1), true), (Zas (Z7 1 (List.drop (0 + (v1 * 1)) (Zb (ZE E_iiii) v0))) [(mc E_iiii (v0.getD v1 []))], true), (Nat.blt v1 v0.length, true), ((v1 : Int) == Int.ofNat v1, true), (dP (ZdZ #[ms E_iiii (v0.getD v1 [])] ((v0.getD v1 []))  y1_0  1), true), (Zas (Z7 1 (List.drop (0 + (v1 * 1)) (Zb (ZE E_iiii) v0))) [(mc E_iiii (v0.getD v1 []))], true), (Nat.blt v1 v0.length, true), ((v1 : Int) == Int.ofNat v1, true), ((decide ((v1 : Int) < (v0.length : Int))), true)]) (fun gv => by kernel_rfl) (Za (neB_t (by first | assumption | rfl | simp_all)) <| Za (Zg (Zeu #[ms E_iiii (v0.getD v1 [])] ((v0.getD v1 []))  y2_0 N c2  1 rfl (by decide) (by decide))) <| Za (ZS (E := (ZE E_iiii)) (L := v0) (i := v1) (q := 0) (by omega) (show (0 + (v1 * 1)) = v1 * 1 + 0 from by omega) (show 0 + 1 ≤ 1 from by decide) rfl rfl) <| oB <| oI <| Za (Zg (ZeV #[ms E_iiii (v0.getD v1 [])] ((v0.getD v1 []))  y1_0 N c1  1 rfl (by decide) (by decide))) <| Za (ZS (E := (ZE E_iiii)) (L := v0) (i := v1) (q := 0) (by omega) (show (0 + (v1 * 1)) = v1 * 1 + 0 from by omega) (show 0 + 1 ≤ 1 from by decide) rfl rfl) <| oB <| oI <| oY Ze) rfl (by decide) (by rfl) rr trivial
    ·
     refine Mach.ok_bind (fun z4 c4 => ?_)
     cases z4 with
     | r0 y4_0 =>
      refine Mach.ok_bind (fun z5 c5 => ?_)
      cases z5 with
      | r0 y5_0 =>
       refine Mach.ok_ite (fun g6 => ?_) (fun g6 => ?_)
       ·
        exact Mach.ok_fin (M := Zan L0 N) (cd := 1000000) (cm := 0) (r := (.r0 (false) : Zab)) (fu := 4000) (orc := (Zi [(0, true), (1, false), (2, true)] [] [(0, v1), (1, v1), (2, v1), (3, v1)] [(0, [(mc E_iiii (v0.getD v1 []))]), (1, [(mc E_iiii (v0.getD v1 []))]), (2, [(mc E_iiii (v0.getD v1 []))]), (3, [(mc E_iiii (v0.getD v1 []))])] [(0, (ZeU ((v0.getD v1 []))  y1_0  1)), (1, (Zet ((v0.getD v1 []))  y2_0  1)), (2, (Zim ((v0.getD v1 []))  y4_0  1)), (3, (Zhg ((v0.getD v1 []))  y5_0  1))])) (live := []) (u := vf) (bl := []) (ob := [((y4_0 != y5_0), true), (dP (Zfc #[ms E_iiii (v0.getD v1 [])] ((v0.getD v1 []))  y5_0  1), true), (Zas (Z7 1 (List.drop (0 + (v1 * 1)) (Zb (ZE E_iiii) v0))) [(mc E_iiii (v0.getD v1 []))], true), (Nat.blt v1 v0.length, true), ((v1 : Int) == Int.ofNat v1, true), (dP (ZfP #[ms E_iiii (v0.getD v1 [])] ((v0.getD v1 []))  y4_0  1), true), (Zas (Z7 1 (List.drop (0 + (v1 * 1)) (Zb (ZE E_iiii) v0))) [(mc E_iiii (v0.getD v1 []))], true), (Nat.blt v1 v0.length, true), ((v1 : Int) == Int.ofNat v1, true), ((!(y1_0 == y2_0)), false), (dP (Zd4 #[ms E_iiii (v0.getD v1 [])] ((v0.getD v1 []))  y2_0  1), true), (Zas (Z7 1 (List.drop (0 + (v1 * 1)) (Zb (ZE E_iiii) v0))) [(mc E_iiii (v0.getD v1 []))], true), (Nat.blt v1 v0.length, true), ((v1 : Int) == Int.ofNat v1, true), (dP (ZdZ #[ms E_iiii (v0.getD v1 [])] ((v0.getD v1 []))  y1_0  1), true), (Zas (Z7 1 (List.drop (0 + (v1 * 1)) (Zb (ZE E_iiii) v0))) [(mc E_iiii (v0.getD v1 []))], true), (Nat.blt v1 v0.length, true), ((v1 : Int) == Int.ofNat v1, true), ((decide ((v1 : Int) < (v0.length : Int))), true)]) (fun gv => by kernel_rfl) (oD <| Za (Zg (Zhh #[ms E_iiii (v0.getD v1 [])] ((v0.getD v1 []))  y5_0 N c5  1 rfl (by decide) (by decide))) <| Za (ZS (E := (ZE E_iiii)) (L := v0) (i := v1) (q := 0) (by omega) (show (0 + (v1 * 1)) = v1 * 1 + 0 from by omega) (show 0 + 1 ≤ 1 from by decide) rfl rfl) <| oB <| oI <| Za (Zg (Zin #[ms E_iiii (v0.getD v1 [])] ((v0.getD v1 []))  y4_0 N c4  1 rfl (by decide) (by decide))) <| Za (ZS (E := (ZE E_iiii)) (L := v0) (i := v1) (q := 0) (by omega) (show (0 + (v1 * 1)) = v1 * 1 + 0 from by omega) (show 0 + 1 ≤ 1 from by decide) rfl rfl) <| oB <| oI <| Za (ZuQ (by first | assumption | rfl | simp_all)) <| Za (Zg (Zeu #[ms E_iiii (v0.getD v1 [])] ((v0.getD v1 []))  y2_0 N c2  1 rfl (by decide) (by decide))) <| Za (ZS (E := (ZE E_iiii)) (L := v0) (i := v1) (q := 0) (by omega) (show (0 + (v1 * 1)) = v1 * 1 + 0 from by omega) (show 0 + 1 ≤ 1 from by decide) rfl rfl) <| oB <| oI <| Za (Zg (ZeV #[ms E_iiii (v0.getD v1 [])] ((v0.getD v1 []))  y1_0 N c1  1 rfl (by decide) (by decide))) <| Za (ZS (E := (ZE E_iiii)) (L := v0) (i := v1) (q := 0) (by omega) (show (0 + (v1 * 1)) = v1 * 1 + 0 from by omega) (show 0 + 1 ≤ 1 from by decide) rfl rfl) <| oB <| oI <| oY Ze) rfl (by decide) (by rfl) rr trivial
       ·
        refine Mach.ok_ite (fun g7 => ?_) (fun g7 => ?_)
        ·
         exact Mach.ok_next (M := Zan L0 N) (cd := 1000000) (cm := 0) (y := (.h1m1 (v0) ((v1 + 1)) : Zac)) (fu := 4000) (orc := (Zi [(0, true), (1, false), (2, false)] [(0, (((v1 + 1) : Nat) : Int))] [(0, v1), (1, v1), (2, v1), (3, v1)] [(0, [(mc E_iiii (v0.getD v1 []))]), (1, [(mc E_iiii (v0.getD v1 []))]), (2, [(mc E_iiii (v0.getD v1 []))]), (3, [(mc E_iiii (v0.getD v1 []))])] [(0, (ZeU ((v0.getD v1 []))  y1_0  1)), (1, (Zet ((v0.getD v1 []))  y2_0  1)), (2, (Zim ((v0.getD v1 []))  y4_0  1)), (3, (Zhg ((v0.getD v1 []))  y5_0  1))])) (live := [0]) (tv := fun _ => [some (vs 0 0 v0.length v0.length), some (vi (((v1 + 1) : Nat) : Int))]) (bl := [some (.cells (Zb (ZE E_iiii) v0) 25)]) (ob := [((IntKind.i64.wrap ((v1 : Int) + (1 : Int))) == (((v1 + 1) : Nat) : Int), true), ((y4_0 != y5_0), false), (dP (Zfc #[ms E_iiii (v0.getD v1 [])] ((v0.getD v1 []))  y5_0  1), true), (Zas (Z7 1 (List.drop (0 + (v1 * 1)) (Zb (ZE E_iiii) v0))) [(mc E_iiii (v0.getD v1 []))], true), (Nat.blt v1 v0.length, true), ((v1 : Int) == Int.ofNat v1, true), (dP (ZfP #[ms E_iiii (v0.getD v1 [])] ((v0.getD v1 []))  y4_0  1), true), (Zas (Z7 1 (List.drop (0 + (v1 * 1)) (Zb (ZE E_iiii) v0))) [(mc E_iiii (v0.getD v1 []))], true), (Nat.blt v1 v0.length, true), ((v1 : Int) == Int.ofNat v1, true), ((!(y1_0 == y2_0)), false), (dP (Zd4 #[ms E_iiii (v0.getD v1 [])] ((v0.getD v1 []))  y2_0  1), true), (Zas (Z7 1 (List.drop (0 + (v1 * 1)) (Zb (ZE E_iiii) v0))) [(mc E_iiii (v0.getD v1 []))], true), (Nat.blt v1 v0.length, true), ((v1 : Int) == Int.ofNat v1, true), (dP (ZdZ #[ms E_iiii (v0.getD v1 [])] ((v0.getD v1 []))  y1_0  1), true), (Zas (Z7 1 (List.drop (0 + (v1 * 1)) (Zb (ZE E_iiii) v0))) [(mc E_iiii (v0.getD v1 []))], true), (Nat.blt v1 v0.length, true), ((v1 : Int) == Int.ofNat v1, true), ((decide ((v1 : Int) < (v0.length : Int))), true)]) rfl (show 1 ∈ Z1 (Zm4 1) from by decide +kernel) (fun gv => by kernel_rfl) (Za (beq_iff_eq.2 ((wrap_i64 ltA).trans (by first | rfl | omega))) <| oE <| Za (Zg (Zhh #[ms E_iiii (v0.getD v1 [])] ((v0.getD v1 []))  y5_0 N c5  1 rfl (by decide) (by decide))) <| Za (ZS (E := (ZE E_iiii)) (L := v0) (i := v1) (q := 0) (by omega) (show (0 + (v1 * 1)) = v1 * 1 + 0 from by omega) (show 0 + 1 ≤ 1 from by decide) rfl rfl) <| oB <| oI <| Za (Zg (Zin #[ms E_iiii (v0.getD v1 [])] ((v0.getD v1 []))  y4_0 N c4  1 rfl (by decide) (by decide))) <| Za (ZS (E := (ZE E_iiii)) (L := v0) (i := v1) (q := 0) (by omega) (show (0 + (v1 * 1)) = v1 * 1 + 0 from by omega) (show 0 + 1 ≤ 1 from by decide) rfl rfl) <| oB <| oI <| Za (ZuQ (by first | assumption | rfl | simp_all)) <| Za (Zg (Zeu #[ms E_iiii (v0.getD v1 [])] ((v0.getD v1 []))  y2_0 N c2  1 rfl (by decide) (by decide))) <| Za (ZS (E := (ZE E_iiii)) (L := v0) (i := v1) (q := 0) (by omega) (show (0 + (v1 * 1)) = v1 * 1 + 0 from by omega) (show 0 + 1 ≤ 1 from by decide) rfl rfl) <| oB <| oI <| Za (Zg (ZeV #[ms E_iiii (v0.getD v1 [])] ((v0.getD v1 []))  y1_0 N c1  1 rfl (by decide) (by decide))) <| Za (ZS (E := (ZE E_iiii)) (L := v0) (i := v1) (q := 0) (by omega) (show (0 + (v1 * 1)) = v1 * 1 + 0 from by omega) (show 0 + 1 ≤ 1 from by decide) rfl rfl) <| oB <| oI <| oY Ze) rfl (by decide) (by rfl) (fun _ => ⟨rr, ⟨rr, trivial⟩⟩) ⟨(Zf (E := (ZE E_iiii)) (α := List RA) _ v0 _), trivial⟩
        ·
         exact Mach.ok_none
 ·
  refine Mach.ok_bind (fun z1 c1 => ?_)
  cases z1 with
  | r0 y1_0 y1_1 =>
   refine Mach.ok_bind (fun z2 c2 => ?_)
   cases z2 with
   | r0 y2_0 y2_1 =>
    refine Mach.ok_ite (fun g3 => ?_) (fun g3 => ?_)
    ·
     refine Mach.ok_ite (fun g4 => ?_) (fun g4 => ?_)
     ·
      exact Mach.ok_fin (M := Zan L0 N) (cd := 1000000) (cm := 0) (r := (.r0 (true) : Zab)) (fu := 4000) (orc := (Zi [(0, false), (1, true), (2, true)] [] [] [] [(0, (Zgz (v0)  y1_0 y1_1 0 1)), (1, (ZfQ (v0)  y2_0 y2_1 0 1))])) (live := []) (u := vT) (bl := []) (ob := [((y1_1 == y2_1), true), ((y1_0 == y2_0), true), (dP (Zej #[vs 0 0 v0.length v0.length] (v0)  y2_0 y2_1 0 1), true), (dS (Zb (ZE E_iiii) v0), true), (dP (ZeD #[vs 0 0 v0.length v0.length] (v0)  y1_0 y1_1 0 1), true), (dS (Zb (ZE E_iiii) v0), true), ((decide ((v1 : Int) < (v0.length : Int))), false)]) (fun gv => by kernel_rfl) (oT <| oT <| Za (Zg (ZfR #[vs 0 0 v0.length v0.length] (v0)  y2_0 y2_1 N c2 0 1 rfl (by decide) (by decide))) <| oR <| Za (Zg (Zg0 #[vs 0 0 v0.length v0.length] (v0)  y1_0 y1_1 N c1 0 1 rfl (by decide) (by decide))) <| oR <| oN Ze) rfl (by decide) (by rfl) rr trivial
     ·
      exact Mach.ok_fin (M := Zan L0 N) (cd := 1000000) (cm := 0) (r := (.r0 (false) : Zab)) (fu := 4000) (orc := (Zi [(0, false), (1, true), (2, false)] [] [] [] [(0, (Zgz (v0)  y1_0 y1_1 0 1)), (1, (ZfQ (v0)  y2_0 y2_1 0 1))])) (live := []) (u := vf) (bl := []) (ob := [((y1_1 == y2_1), false), ((y1_0 == y2_0), true), (dP (Zej #[vs 0 0 v0.length v0.length] (v0)  y2_0 y2_1 0 1), true), (dS (Zb (ZE E_iiii) v0), true), (dP (ZeD #[vs 0 0 v0.length v0.length] (v0)  y1_0 y1_1 0 1), true), (dS (Zb (ZE E_iiii) v0), true), ((decide ((v1 : Int) < (v0.length : Int))), false)]) (fun gv => by kernel_rfl) (oF <| oT <| Za (Zg (ZfR #[vs 0 0 v0.length v0.length] (v0)  y2_0 y2_1 N c2 0 1 rfl (by decide) (by decide))) <| oR <| Za (Zg (Zg0 #[vs 0 0 v0.length v0.length] (v0)  y1_0 y1_1 N c1 0 1 rfl (by decide) (by decide))) <| oR <| oN Ze) rfl (by decide) (by rfl) rr trivial
    ·
     exact Mach.ok_fin (M := Zan L0 N) (cd := 1000000) (cm := 0) (r := (.r0 (false) : Zab)) (fu := 4000) (orc := (Zi [(0, false), (1, false)] [] [] [] [(0, (Zgz (v0)  y1_0 y1_1 0 1)), (1, (ZfQ (v0)  y2_0 y2_1 0 1))])) (live := []) (u := vf) (bl := []) (ob := [((y1_0 == y2_0), false), (dP (Zej #[vs 0 0 v0.length v0.length] (v0)  y2_0 y2_1 0 1), true), (dS (Zb (ZE E_iiii) v0), true), (dP (ZeD #[vs 0 0 v0.length v0.length] (v0)  y1_0 y1_1 0 1), true), (dS (Zb (ZE E_iiii) v0), true), ((decide ((v1 : Int) < (v0.length : Int))), false)]) (fun gv => by kernel_rfl) (oF <| Za (Zg (ZfR #[vs 0 0 v0.length v0.length] (v0)  y2_0 y2_1 N c2 0 1 rfl (by decide) (by decide))) <| oR <| Za (Zg (Zg0 #[vs 0 0 v0.length v0.length] (v0)  y1_0 y1_1 N c1 0 1 rfl (by decide) (by decide))) <| oR <| oN Ze) rfl (by decide) (by rfl) rr trivial

theorem ZkM (L0 : List (List RA)) (N : Nat) : (Zan L0 N).Enter Tryz.prog ZG #[ms (ZE E_iiii) L0] (Zeq L0 N) := by
 unfold Zeq
 refine Mach.en_bind (fun z0 c0 => ?_)
 cases z0 with
 | r0 =>
  exact Mach.en_head (bK := Zbg 1) (M := Zan L0 N) (cd := 1000000) (cm := 0) (y := (.h1m0 : Zac)) (fu := 4000) (orc := (Zi [] [] [] [] [(0, (Zsb (L0)    0))])) (live := []) (tv := [some (vn), some (vq)]) (bl := []) (ob := [(dP (ZmF #[ms (ZE E_iiii) L0] (L0)    0), true)]) rfl rfl (show Z1 (Zbg 1).2 = [] from rfl) (by kernel_rfl) (Za (Zg (Zsc #[ms (ZE E_iiii) L0] (L0)   N c0  0 rfl (by decide) (by decide))) Ze) rfl (by decide) (by rfl) ⟨rr, ⟨rr, trivial⟩⟩ trivial
 | r1 y0_0 =>
  exact Mach.en_head (bK := Zbg 1) (M := Zan L0 N) (cd := 1000000) (cm := 0) (y := (.h1m1 (y0_0) (0) : Zac)) (fu := 4000) (orc := (Zi [] [] [] [] [(0, (Zsd (L0)  y0_0  0))])) (live := [0]) (tv := [some (vs 0 0 y0_0.length y0_0.length), some (vq)]) (bl := [some (.cells (Zb (ZE E_iiii) y0_0) 25)]) (ob := [(dP (ZmG #[ms (ZE E_iiii) L0] (L0)  y0_0  0), true)]) rfl rfl (show Z1 (Zbg 1).2 = [] from rfl) (by kernel_rfl) (Za (Zg (Zse #[ms (ZE E_iiii) L0] (L0)  y0_0 N c0  0 rfl (by decide) (by decide))) Ze) rfl (by decide) (by rfl) ⟨rr, ⟨⟨Eq.trans (show (vi ((0 : Nat) : Int) : Value) = vq from (congrArg (Value.int .i64) (by first | rfl | omega))) (by rfl), by rfl⟩, trivial⟩⟩ ⟨(Zf (E := (ZE E_iiii)) (α := List RA) _ y0_0 _), trivial⟩

theorem Zjx (L0 : List (List RA)) (N : Nat) (r : Zab) (h : ZhT L0 N = some r) : LSpec Tryz.prog 3 #[ms (ZE E_iiii) L0] [] (Zht L0 r) (ZgV L0 r) :=
 Mach.spec Zl (Zan L0 N) Tryz.func3 (by kernel_rfl) (by kernel_rfl) (fun x => by cases x <;> exact Zj _ rfl) (fun r => by cases r <;> exact Zj _ rfl) (fun x => by
  cases x with
  | h1m0 => exact fun _ => (show ¬ (1 ∈ Z1 (Zbg 1).2) from by decide +kernel)
  | h1m1 _ _ => exact fun _ => (show ¬ (1 ∈ Z1 (Zbg 1).2) from by decide +kernel)
  ) (fun x => (show (Zan L0 N).Ok Tryz.prog ZG x (ZbB L0 N x) from by
  cases x with
  | h1m0 => exact ZiM L0 N
  | h1m1 v0 v1 => exact ZiN L0 v0 v1 N
  )) (ZkM L0 N) (n := N) h

end Ev
end Go.Proofs.YtelfeeoobdpmkaaGreat
/- Layer 12, plain: as for rows with a count of their own. -/
namespace Go.Proofs.YtelfeeoobdpmkaaGreat
open Go.RowKit
namespace Ev
namespace Old
set_option linter.unusedVariables false
def Zbf (a0 : Int) (a1 : Int) (a2 : Int) (a3 : Int) (L5 : List RA) (n6 : Nat) (n7 : Nat) (a8 : Int) (a9 : Int) (a10 : Int) (N : Nat) : Option ZB :=
 if a0 = 15 then
  ((Z2 (a0) (a1) (a2) (a3) N).bind fun r => match r with
  | .r0 y1_0 =>
   if ¬ (y1_0 = 0) then
    some (.r0 (120) : ZB)
   else
   some (.r0 (0) : ZB)
  )
 else
 if a0 = 16 then
  some (.r0 (120) : ZB)
 else
 if a0 = 17 then
  some (.r0 (120) : ZB)
 else
 if a0 = 18 then
  some (.r0 (120) : ZB)
 else
 ((Z2 (a0) (a1) (a2) (a3) N).bind fun r => match r with
 | .r0 y5_0 =>
  if ¬ (y5_0 = 0) then
   some (.r0 (120) : ZB)
  else
  some (.r0 (0) : ZB)
 )

def Zb4 (L1 : List RA) (n2 : Nat) (n3 : Nat) (a4 : Int) (a5 : Int) (a6 : Int) (N : Nat) : Option Zbe :=
 some (.r0 : Zbe)

def ZbK (a0 : Int) (a1 : Int) (L3 : List RA) (n4 : Nat) (n5 : Nat) (a6 : Int) (a7 : Int) (a8 : Int) (N : Nat) : Option ZaQ :=
 ((Zb4 (L3) (n4) (n5) (a6) (a7) (a8) N).bind fun r => match r with
 | .r0 =>
  if a1 = 15 then
   some (.r0 : ZaQ)
  else
  if a1 = 16 then
   none
  else
  if a1 = 17 then
   none
  else
  some (.r1 : ZaQ)
 )

def check_scan_aims_h1m0 (L1 : List RA) (n2 : Nat) (n3 : Nat) (L4 : List R_ii) (a5 : Int) (a6 : Int) (a7 : Int) (N : Nat) (v6 : Nat) : Option (ZU ⊕ Zae) :=
 if (v6 : Int) < (n2 : Int) then
  if v6 < L1.length then
   ((Zbi ((L1.getD v6 RA.z).a0) ((L1.getD v6 RA.z).a1) ((L1.getD v6 RA.z).a2) ((L1.getD v6 RA.z).a3) N).bind fun r => match r with
   | .r0 y2_0 y2_1 =>
    if y2_1 = true then
     if (n2 : Int) < y2_0 then
      some (.inr (.r0 ((v6 : Int)) (120) : Zae))
     else
     if 0 ≤ y2_0 then
      if (y2_0).toNat < L4.length then
       if v6 < L4.length then
        if ¬ (((L4.getD (y2_0).toNat R_ii.z).a0 = (L4.getD v6 R_ii.z).a0 ∧ (L4.getD (y2_0).toNat R_ii.z).a1 = (L4.getD v6 R_ii.z).a1)) then
         some (.inr (.r0 ((v6 : Int)) (120) : Zae))
        else
        if (((v6 + 1) : Nat) : Int) ≤ 9223372036854775807 then
         some (.inl (.h1m0 ((v6 + 1)) : ZU))
        else
        none
       else
       none
      else
      none
     else
     none
    else
    if (((v6 + 1) : Nat) : Int) ≤ 9223372036854775807 then
     some (.inl (.h1m0 ((v6 + 1)) : ZU))
    else
    none
   )
  else
  none
 else
 some (.inr (.r0 (a6) (a7) : Zae))

def check_scan_aimsStep (L1 : List RA) (n2 : Nat) (n3 : Nat) (L4 : List R_ii) (a5 : Int) (a6 : Int) (a7 : Int) (N : Nat) : ZU → Option (ZU ⊕ Zae)
 | .h1m0 v6 => check_scan_aims_h1m0 L1 n2 n3 L4 a5 a6 a7 N v6

def Zc5 (L1 : List RA) (n2 : Nat) (n3 : Nat) (L4 : List R_ii) (a5 : Int) (a6 : Int) (a7 : Int) (N : Nat) : Option (ZU ⊕ Zae) :=
 some (.inl (.h1m0 (0) : ZU))

def check_scan_aims (L1 : List RA) (n2 : Nat) (n3 : Nat) (L4 : List R_ii) (a5 : Int) (a6 : Int) (a7 : Int) (N : Nat) : Option Zae := goM (check_scan_aimsStep L1 n2 n3 L4 a5 a6 a7 N) N (Zc5 L1 n2 n3 L4 a5 a6 a7 N)

def ZaT (a0 : Int) (a1 : Int) (a2 : Int) (a3 : Int) (L4 : List R_ii) (L6 : List RA) (n7 : Nat) (n8 : Nat) (L9 : List R_ii) (L10 : List Int) (L11 : List Int) (a12 : Int) (a13 : Int) (a14 : Int) (N : Nat) : Option Zk :=
 if a0 = 15 then
  if 8 ≤ (L4.length : Int) then
   ((Z2 (a0) (a1) (a2) (a3) N).bind fun r => match r with
   | .r0 y2_0 =>
    if y2_0 = 0 then
     some (.r0 (140) : Zk)
    else
    ((Z2 (a0) (a1) (a2) (a3) N).bind fun r => match r with
    | .r0 y4_0 =>
     if ¬ (y4_0 = 0) then
      some (.r0 (120) : Zk)
     else
     some (.r0 (0) : Zk)
    )
   )
  else
  ((Z2 (a0) (a1) (a2) (a3) N).bind fun r => match r with
  | .r0 y2_0 =>
   if ¬ (y2_0 = 0) then
    some (.r0 (120) : Zk)
   else
   some (.r0 (0) : Zk)
  )
 else
 if a0 = 16 then
  if (L4.length : Int) = 0 then
   some (.r0 (120) : Zk)
  else
  if ((L4.length : Int) - (1 : Int)) ≤ 9223372036854775807 then
   if 0 ≤ (L4.getD (L4.length - 1) R_ii.z).a1 then
    some (.r0 (120) : Zk)
   else
   ((Z2 (a0) (a1) (a2) (a3) N).bind fun r => match r with
   | .r0 y5_0 =>
    if ¬ (y5_0 = 0) then
     some (.r0 (120) : Zk)
    else
    some (.r0 (0) : Zk)
   )
  else
  none
 else
 if a0 = 17 then
  if (L4.length : Int) = 0 then
   some (.r0 (120) : Zk)
  else
  ((Z2 (a0) (a1) (a2) (a3) N).bind fun r => match r with
  | .r0 y4_0 =>
   if ¬ (y4_0 = 0) then
    some (.r0 (120) : Zk)
   else
   some (.r0 (0) : Zk)
  )
 else
 if a0 = 18 then
  if (L4.length : Int) = 0 then
   some (.r0 (120) : Zk)
  else
  ((Z2 (a0) (a1) (a2) (a3) N).bind fun r => match r with
  | .r0 y5_0 =>
   if ¬ (y5_0 = 0) then
    some (.r0 (120) : Zk)
   else
   some (.r0 (0) : Zk)
  )
 else
 if a0 = 20 then
  if 0 < (L4.length : Int) then
   some (.r0 (120) : Zk)
  else
  ((Z2 (a0) (a1) (a2) (a3) N).bind fun r => match r with
  | .r0 y6_0 =>
   if ¬ (y6_0 = 0) then
    some (.r0 (120) : Zk)
   else
   some (.r0 (0) : Zk)
  )
 else
 ((Z2 (a0) (a1) (a2) (a3) N).bind fun r => match r with
 | .r0 y5_0 =>
  if ¬ (y5_0 = 0) then
   some (.r0 (120) : Zk)
  else
  some (.r0 (0) : Zk)
 )

def Za1 (L0 : List R_ii) (L2 : List RA) (n3 : Nat) (n4 : Nat) (L5 : List R_ii) (L6 : List Int) (L7 : List Int) (a8 : Int) (a9 : Int) (a10 : Int) (N : Nat) : Option Zak :=
 if (L0.length : Int) = 0 then
  some (.r0 ((-1 : Int)) (0) : Zak)
 else
 if ((L0.length : Int) - (1 : Int)) ≤ 9223372036854775807 then
  if 0 ≤ (L0.getD (L0.length - 1) R_ii.z).a1 then
   some (.r0 ((L0.getD (L0.length - 1) R_ii.z).a0) (1) : Zak)
  else
  some (.r0 ((L0.getD (L0.length - 1) R_ii.z).a0) (0) : Zak)
 else
 none

def Zba (L0 : List R_ii) (L2 : List RA) (n3 : Nat) (n4 : Nat) (L5 : List R_ii) (L6 : List Int) (L7 : List Int) (a8 : Int) (a9 : Int) (a10 : Int) (N : Nat) : Option Zb5 :=
 if ((L0.length : Int) - (1 : Int)) ≤ 9223372036854775807 then
  if 0 ≤ ((L0.length : Int) - (1 : Int)) then
   some (.r0 : Zb5)
  else
  none
 else
 none

def ZaL (a0 : Int) (a1 : Int) (L2 : List R_ii) (L4 : List RA) (n5 : Nat) (n6 : Nat) (L7 : List R_ii) (L8 : List Int) (L9 : List Int) (a10 : Int) (a11 : Int) (a12 : Int) (N : Nat) : Option ZN :=
 ((Za1 (L2) (L4) (n5) (n6) (L7) (L8) (L9) (a10) (a11) (a12) N).bind fun r => match r with
 | .r0 y0_0 y0_1 =>
  if L7.length ≤ 100000 then
   if L8.length ≤ 100000 then
    if a1 = 15 then
     if (L2.length : Int) = 0 then
      if L9.length ≤ 100000 then
       some (.r0 ((L7 ++ ([(⟨y0_0, y0_1⟩ : R_ii)] : List R_ii))) : ZN)
      else
      none
     else
     if L2.length ≤ 100000 then
      some (.r1 ((L2 ++ ([(⟨a0, (-1 : Int)⟩ : R_ii)] : List R_ii))) ((L7 ++ ([(⟨y0_0, y0_1⟩ : R_ii)] : List R_ii))) ((L8 ++ [(-1 : Int)])) ((if (((L2.length + 1) : Nat) : Int) > a10 then (((L2.length + 1) : Nat) : Int) else a10)) : ZN)
     else
     none
    else
    if a1 = 16 then
     if ((L2.length : Int) - (1 : Int)) ≤ 9223372036854775807 then
      if 0 ≤ ((L2.length : Int) - (1 : Int)) then
       if 0 ≤ (L2.getD (((L2.length : Int) - (1 : Int))).toNat R_ii.z).a0 then
        if ((L2.getD (((L2.length : Int) - (1 : Int))).toNat R_ii.z).a0).toNat < (L8.length + 1) then
         some (.r2 ((L2.set (((L2.length : Int) - (1 : Int))).toNat (⟨(L2.getD (((L2.length : Int) - (1 : Int))).toNat R_ii.z).a0, a0⟩ : R_ii))) ((L7 ++ ([(⟨y0_0, y0_1⟩ : R_ii)] : List R_ii))) (((L8 ++ [(-1 : Int)]).set ((L2.getD (((L2.length : Int) - (1 : Int))).toNat R_ii.z).a0).toNat a0)) : ZN)
        else
        none
       else
       none
      else
      none
     else
     none
    else
    if a1 = 17 then
     if ((L2.length : Int) - (1 : Int)) ≤ 9223372036854775807 then
      if 0 ≤ ((L2.length : Int) - (1 : Int)) then
       if 0 ≤ (L2.getD (((L2.length : Int) - (1 : Int))).toNat R_ii.z).a1 then
        if ((L2.getD (((L2.length : Int) - (1 : Int))).toNat R_ii.z).a1).toNat < (L8.length + 1) then
         if 0 ≤ a0 then
          if (a0).toNat < (L8.length + 1) then
           ((Zba (L2) (L4) (n5) (n6) ((L7 ++ ([(⟨y0_0, y0_1⟩ : R_ii)] : List R_ii))) ((((L8 ++ [(-1 : Int)]).set ((L2.getD (((L2.length : Int) - (1 : Int))).toNat R_ii.z).a1).toNat a0).set (a0).toNat (L2.getD (((L2.length : Int) - (1 : Int))).toNat R_ii.z).a0)) (L9) (a10) (a11) (a12) N).bind fun r => match r with
           | .r0 =>
            some (.r1 ((L2.take (((L2.length : Int) - (1 : Int))).toNat)) ((L7 ++ ([(⟨y0_0, y0_1⟩ : R_ii)] : List R_ii))) ((((L8 ++ [(-1 : Int)]).set ((L2.getD (((L2.length : Int) - (1 : Int))).toNat R_ii.z).a1).toNat a0).set (a0).toNat (L2.getD (((L2.length : Int) - (1 : Int))).toNat R_ii.z).a0)) (a10) : ZN)
           )
          else
          none
         else
         none
        else
        none
       else
       if 0 ≤ (L2.getD (((L2.length : Int) - (1 : Int))).toNat R_ii.z).a0 then
        if ((L2.getD (((L2.length : Int) - (1 : Int))).toNat R_ii.z).a0).toNat < (L8.length + 1) then
         if 0 ≤ a0 then
          if (a0).toNat < (L8.length + 1) then
           ((Zba (L2) (L4) (n5) (n6) ((L7 ++ ([(⟨y0_0, y0_1⟩ : R_ii)] : List R_ii))) ((((L8 ++ [(-1 : Int)]).set ((L2.getD (((L2.length : Int) - (1 : Int))).toNat R_ii.z).a0).toNat a0).set (a0).toNat (L2.getD (((L2.length : Int) - (1 : Int))).toNat R_ii.z).a0)) (L9) (a10) (a11) (a12) N).bind fun r => match r with
           | .r0 =>
            some (.r1 ((L2.take (((L2.length : Int) - (1 : Int))).toNat)) ((L7 ++ ([(⟨y0_0, y0_1⟩ : R_ii)] : List R_ii))) ((((L8 ++ [(-1 : Int)]).set ((L2.getD (((L2.length : Int) - (1 : Int))).toNat R_ii.z).a0).toNat a0).set (a0).toNat (L2.getD (((L2.length : Int) - (1 : Int))).toNat R_ii.z).a0)) (a10) : ZN)
           )
          else
          none
         else
         none
        else
        none
       else
       none
      else
      none
     else
     none
    else
    some (.r2 (L2) ((L7 ++ ([(⟨y0_0, y0_1⟩ : R_ii)] : List R_ii))) ((L8 ++ [(-1 : Int)])) : ZN)
   else
   none
  else
  none
 )

def ZaU (a0 : Int) (a1 : Int) (a2 : Int) (a3 : Int) (L5 : List RA) (n6 : Nat) (n7 : Nat) (L8 : List R_ii) (L9 : List Int) (a10 : Int) (a11 : Int) (a12 : Int) (N : Nat) : Option Z3 :=
 if a0 = 15 then
  ((Z2 (a0) (a1) (a2) (a3) N).bind fun r => match r with
  | .r0 y1_0 =>
   if ¬ (y1_0 = 0) then
    some (.r0 (120) : Z3)
   else
   some (.r0 (0) : Z3)
  )
 else
 if a0 = 16 then
  some (.r0 (120) : Z3)
 else
 if a0 = 17 then
  some (.r0 (120) : Z3)
 else
 if a0 = 18 then
  some (.r0 (120) : Z3)
 else
 ((Z2 (a0) (a1) (a2) (a3) N).bind fun r => match r with
 | .r0 y5_0 =>
  if ¬ (y5_0 = 0) then
   some (.r0 (120) : Z3)
  else
  some (.r0 (0) : Z3)
 )

def Zbn (L1 : List RA) (n2 : Nat) (n3 : Nat) (L4 : List R_ii) (L5 : List Int) (a6 : Int) (a7 : Int) (a8 : Int) (N : Nat) : Option ZaW :=
 some (.r0 : ZaW)

def Zby (a0 : Int) (a1 : Int) (L3 : List RA) (n4 : Nat) (n5 : Nat) (L6 : List R_ii) (L7 : List Int) (a8 : Int) (a9 : Int) (a10 : Int) (N : Nat) : Option ZaC :=
 ((Zbn (L3) (n4) (n5) (L6) (L7) (a8) (a9) (a10) N).bind fun r => match r with
 | .r0 =>
  if L6.length ≤ 100000 then
   if L7.length ≤ 100000 then
    if a1 = 15 then
     some (.r0 : ZaC)
    else
    if a1 = 16 then
     none
    else
    if a1 = 17 then
     none
    else
    some (.r1 : ZaC)
   else
   none
  else
  none
 )

def check_scan_aims_2_h1m0 (L1 : List RA) (n2 : Nat) (n3 : Nat) (L4 : List R_ii) (L5 : List Int) (a6 : Int) (a7 : Int) (a8 : Int) (N : Nat) (v7 : Nat) : Option (ZO ⊕ ZV) :=
 if (v7 : Int) < (n2 : Int) then
  if v7 < L1.length then
   ((Zbi ((L1.getD v7 RA.z).a0) ((L1.getD v7 RA.z).a1) ((L1.getD v7 RA.z).a2) ((L1.getD v7 RA.z).a3) N).bind fun r => match r with
   | .r0 y2_0 y2_1 =>
    if y2_1 = true then
     if (n2 : Int) < y2_0 then
      some (.inr (.r0 ((v7 : Int)) (120) : ZV))
     else
     if 0 ≤ y2_0 then
      if (y2_0).toNat < L4.length then
       if v7 < L4.length then
        if ¬ (((L4.getD (y2_0).toNat R_ii.z).a0 = (L4.getD v7 R_ii.z).a0 ∧ (L4.getD (y2_0).toNat R_ii.z).a1 = (L4.getD v7 R_ii.z).a1)) then
         some (.inr (.r0 ((v7 : Int)) (120) : ZV))
        else
        if (((v7 + 1) : Nat) : Int) ≤ 9223372036854775807 then
         some (.inl (.h1m0 ((v7 + 1)) : ZO))
        else
        none
       else
       none
      else
      none
     else
     none
    else
    if (((v7 + 1) : Nat) : Int) ≤ 9223372036854775807 then
     some (.inl (.h1m0 ((v7 + 1)) : ZO))
    else
    none
   )
  else
  none
 else
 some (.inr (.r0 (a7) (a8) : ZV))

def check_scan_aims_2Step (L1 : List RA) (n2 : Nat) (n3 : Nat) (L4 : List R_ii) (L5 : List Int) (a6 : Int) (a7 : Int) (a8 : Int) (N : Nat) : ZO → Option (ZO ⊕ ZV)
 | .h1m0 v7 => check_scan_aims_2_h1m0 L1 n2 n3 L4 L5 a6 a7 a8 N v7

def Zcr (L1 : List RA) (n2 : Nat) (n3 : Nat) (L4 : List R_ii) (L5 : List Int) (a6 : Int) (a7 : Int) (a8 : Int) (N : Nat) : Option (ZO ⊕ ZV) :=
 some (.inl (.h1m0 (0) : ZO))

def check_scan_aims_2 (L1 : List RA) (n2 : Nat) (n3 : Nat) (L4 : List R_ii) (L5 : List Int) (a6 : Int) (a7 : Int) (a8 : Int) (N : Nat) : Option ZV := goM (check_scan_aims_2Step L1 n2 n3 L4 L5 a6 a7 a8 N) N (Zcr L1 n2 n3 L4 L5 a6 a7 a8 N)

def check_scan_aims_3_h1m0 (L0 : List R_ii) (L2 : List RA) (n3 : Nat) (n4 : Nat) (L5 : List R_ii) (L6 : List Int) (L7 : List Int) (a8 : Int) (a9 : Int) (a10 : Int) (N : Nat) (v9 : Nat) : Option (ZP ⊕ ZW) :=
 if (v9 : Int) < (n3 : Int) then
  if v9 < L2.length then
   ((Zbi ((L2.getD v9 RA.z).a0) ((L2.getD v9 RA.z).a1) ((L2.getD v9 RA.z).a2) ((L2.getD v9 RA.z).a3) N).bind fun r => match r with
   | .r0 y2_0 y2_1 =>
    if y2_1 = true then
     if (n3 : Int) < y2_0 then
      some (.inr (.r0 ((v9 : Int)) (120) : ZW))
     else
     if 0 ≤ y2_0 then
      if (y2_0).toNat < L5.length then
       if v9 < L5.length then
        if ¬ (((L5.getD (y2_0).toNat R_ii.z).a0 = (L5.getD v9 R_ii.z).a0 ∧ (L5.getD (y2_0).toNat R_ii.z).a1 = (L5.getD v9 R_ii.z).a1)) then
         some (.inr (.r0 ((v9 : Int)) (120) : ZW))
        else
        if (((v9 + 1) : Nat) : Int) ≤ 9223372036854775807 then
         some (.inl (.h1m0 ((v9 + 1)) : ZP))
        else
        none
       else
       none
      else
      none
     else
     none
    else
    if (((v9 + 1) : Nat) : Int) ≤ 9223372036854775807 then
     some (.inl (.h1m0 ((v9 + 1)) : ZP))
    else
    none
   )
  else
  none
 else
 some (.inr (.r0 (a9) (a10) : ZW))

def check_scan_aims_3Step (L0 : List R_ii) (L2 : List RA) (n3 : Nat) (n4 : Nat) (L5 : List R_ii) (L6 : List Int) (L7 : List Int) (a8 : Int) (a9 : Int) (a10 : Int) (N : Nat) : ZP → Option (ZP ⊕ ZW)
 | .h1m0 v9 => check_scan_aims_3_h1m0 L0 L2 n3 n4 L5 L6 L7 a8 a9 a10 N v9

def Zcs (L0 : List R_ii) (L2 : List RA) (n3 : Nat) (n4 : Nat) (L5 : List R_ii) (L6 : List Int) (L7 : List Int) (a8 : Int) (a9 : Int) (a10 : Int) (N : Nat) : Option (ZP ⊕ ZW) :=
 some (.inl (.h1m0 (0) : ZP))

def check_scan_aims_3 (L0 : List R_ii) (L2 : List RA) (n3 : Nat) (n4 : Nat) (L5 : List R_ii) (L6 : List Int) (L7 : List Int) (a8 : Int) (a9 : Int) (a10 : Int) (N : Nat) : Option ZW := goM (check_scan_aims_3Step L0 L2 n3 n4 L5 L6 L7 a8 a9 a10 N) N (Zcs L0 L2 n3 n4 L5 L6 L7 a8 a9 a10 N)

def check_look_h1m0 (L1 : List RA) (n2 : Nat) (n3 : Nat) (N : Nat) : Option (Z8 ⊕ Z5) :=
 if 0 < (n2 : Int) then
  if 0 < L1.length then
   ((Zbf ((L1.getD 0 RA.z).a0) ((L1.getD 0 RA.z).a1) ((L1.getD 0 RA.z).a2) ((L1.getD 0 RA.z).a3) (L1) (n2) (n3) (0) ((-1 : Int)) (0) N).bind fun r => match r with
   | .r0 y2_0 =>
    if ¬ (y2_0 = 0) then
     some (.inr (.r0 (y2_0) : Z5))
    else
    ((ZbK (0) ((L1.getD 0 RA.z).a0) (L1) (n2) (n3) (0) ((-1 : Int)) (0) N).bind fun r => match r with
    | .r0 =>
     some (.inl (.h1m1 (1) (([(⟨(0 : Int), (-1 : Int)⟩ : R_ii)] : List R_ii)) (([(⟨(-1 : Int), (0 : Int)⟩ : R_ii)] : List R_ii)) ([(-1 : Int)]) (([(0 : Int)] : List Int)) ((if (1 : Int) > (0 : Int) then (1 : Int) else (0 : Int))) : Z8))
    | .r1 =>
     some (.inl (.h1m2 (1) (([(⟨(-1 : Int), (0 : Int)⟩ : R_ii)] : List R_ii)) ([(-1 : Int)]) : Z8))
    )
   )
  else
  none
 else
 ((check_scan_aims (L1) (n2) (n3) (([(⟨(-1 : Int), (0 : Int)⟩ : R_ii)] : List R_ii)) (0) ((-1 : Int)) (0) N).bind fun r => match r with
 | .r0 y1_0 y1_1 =>
  some (.inr (.r1 (y1_0) (y1_1) : Z5))
 )

def check_look_h1m1 (L1 : List RA) (n2 : Nat) (n3 : Nat) (N : Nat) (v7 : Nat) (v8 : List R_ii) (v11 : List R_ii) (v12 : List Int) (v13 : List Int) (v14 : Int) : Option (Z8 ⊕ Z5) :=
 if (v7 : Int) < (n2 : Int) then
  if v7 < L1.length then
   ((ZaT ((L1.getD v7 RA.z).a0) ((L1.getD v7 RA.z).a1) ((L1.getD v7 RA.z).a2) ((L1.getD v7 RA.z).a3) (v8) (L1) (n2) (n3) (v11) (v12) (v13) (v14) ((-1 : Int)) (0) N).bind fun r => match r with
   | .r0 y2_0 =>
    if ¬ (y2_0 = 0) then
     some (.inr (.r2 (v8) (v11) (v12) (v13) (v14) ((v7 : Int)) (y2_0) : Z5))
    else
    ((ZaL ((v7 : Int)) ((L1.getD v7 RA.z).a0) (v8) (L1) (n2) (n3) (v11) (v12) (v13) (v14) ((-1 : Int)) (0) N).bind fun r => match r with
    | .r0 y4_0 =>
     if (((v7 + 1) : Nat) : Int) ≤ 9223372036854775807 then
      some (.inl (.h1m1 ((v7 + 1)) ((v8 ++ ([(⟨(v7 : Int), (-1 : Int)⟩ : R_ii)] : List R_ii))) (y4_0) ((v12 ++ [(-1 : Int)])) ((v13 ++ ([(v7 : Int)] : List Int))) ((if (((v8.length + 1) : Nat) : Int) > v14 then (((v8.length + 1) : Nat) : Int) else v14)) : Z8))
     else
     none
    | .r1 y4_0 y4_1 y4_2 y4_3 =>
     if (((v7 + 1) : Nat) : Int) ≤ 9223372036854775807 then
      some (.inl (.h1m1 ((v7 + 1)) (y4_0) (y4_1) (y4_2) (v13) (y4_3) : Z8))
     else
     none
    | .r2 y4_0 y4_1 y4_2 =>
     if (((v7 + 1) : Nat) : Int) ≤ 9223372036854775807 then
      some (.inl (.h1m1 ((v7 + 1)) (y4_0) (y4_1) (y4_2) (v13) (v14) : Z8))
     else
     none
    )
   )
  else
  none
 else
 if 0 < (v8.length : Int) then
  some (.inr (.r2 (v8) (v11) (v12) (v13) (v14) ((n2 : Int)) (120) : Z5))
 else
 if v11.length ≤ 100000 then
  ((check_scan_aims_3 (v8) (L1) (n2) (n3) ((v11 ++ ([(⟨(-1 : Int), (0 : Int)⟩ : R_ii)] : List R_ii))) (v12) (v13) (v14) ((-1 : Int)) (0) N).bind fun r => match r with
  | .r0 y3_0 y3_1 =>
   some (.inr (.r2 (v8) ((v11 ++ ([(⟨(-1 : Int), (0 : Int)⟩ : R_ii)] : List R_ii))) (v12) (v13) (v14) (y3_0) (y3_1) : Z5))
  )
 else
 none

def check_look_h1m2 (L1 : List RA) (n2 : Nat) (n3 : Nat) (N : Nat) (v7 : Nat) (v10 : List R_ii) (v11 : List Int) : Option (Z8 ⊕ Z5) :=
 if (v7 : Int) < (n2 : Int) then
  if v7 < L1.length then
   ((ZaU ((L1.getD v7 RA.z).a0) ((L1.getD v7 RA.z).a1) ((L1.getD v7 RA.z).a2) ((L1.getD v7 RA.z).a3) (L1) (n2) (n3) (v10) (v11) (0) ((-1 : Int)) (0) N).bind fun r => match r with
   | .r0 y2_0 =>
    if ¬ (y2_0 = 0) then
     some (.inr (.r3 (v10) (v11) ((v7 : Int)) (y2_0) : Z5))
    else
    ((Zby ((v7 : Int)) ((L1.getD v7 RA.z).a0) (L1) (n2) (n3) (v10) (v11) (0) ((-1 : Int)) (0) N).bind fun r => match r with
    | .r0 =>
     if (((v7 + 1) : Nat) : Int) ≤ 9223372036854775807 then
      some (.inl (.h1m1 ((v7 + 1)) (([(⟨(v7 : Int), (-1 : Int)⟩ : R_ii)] : List R_ii)) ((v10 ++ ([(⟨(-1 : Int), (0 : Int)⟩ : R_ii)] : List R_ii))) ((v11 ++ [(-1 : Int)])) (([(v7 : Int)] : List Int)) ((if (1 : Int) > (0 : Int) then (1 : Int) else (0 : Int))) : Z8))
     else
     none
    | .r1 =>
     if (((v7 + 1) : Nat) : Int) ≤ 9223372036854775807 then
      some (.inl (.h1m2 ((v7 + 1)) ((v10 ++ ([(⟨(-1 : Int), (0 : Int)⟩ : R_ii)] : List R_ii))) ((v11 ++ [(-1 : Int)])) : Z8))
     else
     none
    )
   )
  else
  none
 else
 if v10.length ≤ 100000 then
  ((check_scan_aims_2 (L1) (n2) (n3) ((v10 ++ ([(⟨(-1 : Int), (0 : Int)⟩ : R_ii)] : List R_ii))) (v11) (0) ((-1 : Int)) (0) N).bind fun r => match r with
  | .r0 y2_0 y2_1 =>
   some (.inr (.r3 ((v10 ++ ([(⟨(-1 : Int), (0 : Int)⟩ : R_ii)] : List R_ii))) (v11) (y2_0) (y2_1) : Z5))
  )
 else
 none

def check_lookStep (L1 : List RA) (n2 : Nat) (n3 : Nat) (N : Nat) : Z8 → Option (Z8 ⊕ Z5)
 | .h1m0 => check_look_h1m0 L1 n2 n3 N
 | .h1m1 v7 v8 v11 v12 v13 v14 => check_look_h1m1 L1 n2 n3 N v7 v8 v11 v12 v13 v14
 | .h1m2 v7 v10 v11 => check_look_h1m2 L1 n2 n3 N v7 v10 v11

def ZcJ (L1 : List RA) (n2 : Nat) (n3 : Nat) (N : Nat) : Option (Z8 ⊕ Z5) :=
 if (n2 : Int) = 0 then
  some (.inr (.r0 (120) : Z5))
 else
 if 512 < (n2 : Int) then
  some (.inr (.r0 (120) : Z5))
 else
 some (.inl (.h1m0 : Z8))

def check_look (L1 : List RA) (n2 : Nat) (n3 : Nat) (N : Nat) : Option Z5 := goM (check_lookStep L1 n2 n3 N) N (ZcJ L1 n2 n3 N)

inductive ZvE where
 | r0 (w2 : Int)

def ref12_opens_h1m0 (L1 : List RA) (n2 : Nat) (n3 : Nat) (a4 : Int) (N : Nat) (v5 : Nat) : Option (ZK ⊕ Zah) :=
 if (v5 : Int) < a4 then
  if (v5 : Int) < (n2 : Int) then
   if v5 < L1.length then
    ((Zcf ((L1.getD v5 RA.z).a0) ((L1.getD v5 RA.z).a1) ((L1.getD v5 RA.z).a2) ((L1.getD v5 RA.z).a3) ((v5 : Int)) N).bind fun r => match r with
    | .r0 =>
     if (((v5 + 1) : Nat) : Int) ≤ 9223372036854775807 then
      some (.inl (.h1m1 (([(⟨(v5 : Int), (0 : Int)⟩ : R_ii)] : List R_ii)) ((v5 + 1)) : ZK))
     else
     none
    | .r1 y3_0 =>
     if (((v5 + 1) : Nat) : Int) ≤ 9223372036854775807 then
      some (.inl (.h1m0 ((v5 + 1)) : ZK))
     else
     none
    )
   else
   none
  else
  some (.inr (.r0 : Zah))
 else
 some (.inr (.r0 : Zah))

def ref12_opens_h1m1 (L1 : List RA) (n2 : Nat) (n3 : Nat) (a4 : Int) (N : Nat) (v5 : List R_ii) (v6 : Nat) : Option (ZK ⊕ Zah) :=
 if (v6 : Int) < a4 then
  if (v6 : Int) < (n2 : Int) then
   if v6 < L1.length then
    ((Zbo (v5) ((L1.getD v6 RA.z).a0) ((L1.getD v6 RA.z).a1) ((L1.getD v6 RA.z).a2) ((L1.getD v6 RA.z).a3) ((v6 : Int)) N).bind fun r => match r with
    | .r0 y3_0 =>
     if (((v6 + 1) : Nat) : Int) ≤ 9223372036854775807 then
      some (.inl (.h1m1 (v5) ((v6 + 1)) : ZK))
     else
     none
    | .r1 y3_0 =>
     if (((v6 + 1) : Nat) : Int) ≤ 9223372036854775807 then
      some (.inl (.h1m1 (y3_0) ((v6 + 1)) : ZK))
     else
     none
    | .r2 =>
     if (((v6 + 1) : Nat) : Int) ≤ 9223372036854775807 then
      some (.inl (.h1m1 ((v5.take (v5.length - 1))) ((v6 + 1)) : ZK))
     else
     none
    )
   else
   none
  else
  some (.inr (.r1 (v5) : Zah))
 else
 some (.inr (.r1 (v5) : Zah))

def ref12_opensStep (L1 : List RA) (n2 : Nat) (n3 : Nat) (a4 : Int) (N : Nat) : ZK → Option (ZK ⊕ Zah)
 | .h1m0 v5 => ref12_opens_h1m0 L1 n2 n3 a4 N v5
 | .h1m1 v5 v6 => ref12_opens_h1m1 L1 n2 n3 a4 N v5 v6

def ZdO (L1 : List RA) (n2 : Nat) (n3 : Nat) (a4 : Int) (N : Nat) : Option (ZK ⊕ Zah) :=
 some (.inl (.h1m0 (0) : ZK))

def ref12_opens (L1 : List RA) (n2 : Nat) (n3 : Nat) (a4 : Int) (N : Nat) : Option Zah := goM (ref12_opensStep L1 n2 n3 a4 N) N (ZdO L1 n2 n3 a4 N)

def ref12_branch (L1 : List RA) (n2 : Nat) (n3 : Nat) (a4 : Int) (N : Nat) : Option ZaP :=
 ((ref12_opens (L1) (n2) (n3) (a4) N).bind fun r => match r with
 | .r0 =>
  some (.r0 ((-1 : Int)) (0) : ZaP)
 | .r1 y0_0 =>
  if (y0_0.length : Int) = 0 then
   some (.r0 ((-1 : Int)) (0) : ZaP)
  else
  if ((y0_0.length : Int) - (1 : Int)) ≤ 9223372036854775807 then
   some (.r0 ((y0_0.getD (y0_0.length - 1) R_ii.z).a0) ((y0_0.getD (y0_0.length - 1) R_ii.z).a1) : ZaP)
  else
  none
 )

def ref12_Wrong_h1m0 (L1 : List RA) (n2 : Nat) (n3 : Nat) (N : Nat) (v4 : Nat) : Option (Zx ⊕ Zw) :=
 if (v4 : Int) < (n2 : Int) then
  if v4 < L1.length then
   ((Zcf ((L1.getD v4 RA.z).a0) ((L1.getD v4 RA.z).a1) ((L1.getD v4 RA.z).a2) ((L1.getD v4 RA.z).a3) ((v4 : Int)) N).bind fun r => match r with
   | .r0 =>
    ((Zag ((L1.getD v4 RA.z).a0) ((L1.getD v4 RA.z).a1) ((L1.getD v4 RA.z).a2) ((L1.getD v4 RA.z).a3) N).bind fun r => match r with
    | .r0 y3_0 =>
     if ¬ (y3_0 = true) then
      some (.inr (.r0 ((v4 : Int)) : Zw))
     else
     if (((v4 + 1) : Nat) : Int) ≤ 9223372036854775807 then
      some (.inl (.h1m1 (([(⟨(v4 : Int), (0 : Int)⟩ : R_ii)] : List R_ii)) ((v4 + 1)) : Zx))
     else
     none
    )
   | .r1 y2_0 =>
    ((Zag ((L1.getD v4 RA.z).a0) ((L1.getD v4 RA.z).a1) ((L1.getD v4 RA.z).a2) ((L1.getD v4 RA.z).a3) N).bind fun r => match r with
    | .r0 y3_0 =>
     if ¬ (y3_0 = true) then
      some (.inr (.r0 ((v4 : Int)) : Zw))
     else
     if ¬ (y2_0 = true) then
      some (.inr (.r0 ((v4 : Int)) : Zw))
     else
     if (((v4 + 1) : Nat) : Int) ≤ 9223372036854775807 then
      some (.inl (.h1m0 ((v4 + 1)) : Zx))
     else
     none
    )
   )
  else
  none
 else
 some (.inl (.h2m0 (0) : Zx))

def ref12_Wrong_h1m1 (L1 : List RA) (n2 : Nat) (n3 : Nat) (N : Nat) (v4 : List R_ii) (v5 : Nat) : Option (Zx ⊕ Zw) :=
 if (v5 : Int) < (n2 : Int) then
  if v5 < L1.length then
   ((Zbo (v4) ((L1.getD v5 RA.z).a0) ((L1.getD v5 RA.z).a1) ((L1.getD v5 RA.z).a2) ((L1.getD v5 RA.z).a3) ((v5 : Int)) N).bind fun r => match r with
   | .r0 y2_0 =>
    ((Zag ((L1.getD v5 RA.z).a0) ((L1.getD v5 RA.z).a1) ((L1.getD v5 RA.z).a2) ((L1.getD v5 RA.z).a3) N).bind fun r => match r with
    | .r0 y3_0 =>
     if ¬ (y3_0 = true) then
      some (.inr (.r0 ((v5 : Int)) : Zw))
     else
     if ¬ (y2_0 = true) then
      some (.inr (.r0 ((v5 : Int)) : Zw))
     else
     if (((v5 + 1) : Nat) : Int) ≤ 9223372036854775807 then
      some (.inl (.h1m1 (v4) ((v5 + 1)) : Zx))
     else
     none
    )
   | .r1 y2_0 =>
    ((Zag ((L1.getD v5 RA.z).a0) ((L1.getD v5 RA.z).a1) ((L1.getD v5 RA.z).a2) ((L1.getD v5 RA.z).a3) N).bind fun r => match r with
    | .r0 y3_0 =>
     if ¬ (y3_0 = true) then
      some (.inr (.r0 ((v5 : Int)) : Zw))
     else
     if (((v5 + 1) : Nat) : Int) ≤ 9223372036854775807 then
      some (.inl (.h1m1 (y2_0) ((v5 + 1)) : Zx))
     else
     none
    )
   | .r2 =>
    ((Zag ((L1.getD v5 RA.z).a0) ((L1.getD v5 RA.z).a1) ((L1.getD v5 RA.z).a2) ((L1.getD v5 RA.z).a3) N).bind fun r => match r with
    | .r0 y3_0 =>
     if ¬ (y3_0 = true) then
      some (.inr (.r0 ((v5 : Int)) : Zw))
     else
     if (((v5 + 1) : Nat) : Int) ≤ 9223372036854775807 then
      some (.inl (.h1m1 ((v4.take (v4.length - 1))) ((v5 + 1)) : Zx))
     else
     none
    )
   )
  else
  none
 else
 if 0 < (v4.length : Int) then
  some (.inr (.r0 ((n2 : Int)) : Zw))
 else
 some (.inl (.h2m0 (0) : Zx))

def ref12_Wrong_h2m0 (L1 : List RA) (n2 : Nat) (n3 : Nat) (N : Nat) (v4 : Nat) : Option (Zx ⊕ Zw) :=
 if (v4 : Int) < (n2 : Int) then
  if v4 < L1.length then
   ((Zcg ((L1.getD v4 RA.z).a0) ((L1.getD v4 RA.z).a1) ((L1.getD v4 RA.z).a2) ((L1.getD v4 RA.z).a3) N).bind fun r => match r with
   | .r0 y2_0 y2_1 =>
    if y2_1 = true then
     if (n2 : Int) < y2_0 then
      some (.inr (.r0 ((v4 : Int)) : Zw))
     else
     ((ref12_branch (L1) (n2) (n3) (y2_0) N).bind fun r => match r with
     | .r0 y5_0 y5_1 =>
      ((ref12_branch (L1) (n2) (n3) ((v4 : Int)) N).bind fun r => match r with
      | .r0 y6_0 y6_1 =>
       if ¬ ((y5_0 = y6_0 ∧ y5_1 = y6_1)) then
        some (.inr (.r0 ((v4 : Int)) : Zw))
       else
       if (((v4 + 1) : Nat) : Int) ≤ 9223372036854775807 then
        some (.inl (.h2m0 ((v4 + 1)) : Zx))
       else
       none
      )
     )
    else
    if (((v4 + 1) : Nat) : Int) ≤ 9223372036854775807 then
     some (.inl (.h2m0 ((v4 + 1)) : Zx))
    else
    none
   )
  else
  none
 else
 some (.inr (.r0 ((-1 : Int)) : Zw))

def ref12_WrongStep (L1 : List RA) (n2 : Nat) (n3 : Nat) (N : Nat) : Zx → Option (Zx ⊕ Zw)
 | .h1m0 v4 => ref12_Wrong_h1m0 L1 n2 n3 N v4
 | .h1m1 v4 v5 => ref12_Wrong_h1m1 L1 n2 n3 N v4 v5
 | .h2m0 v4 => ref12_Wrong_h2m0 L1 n2 n3 N v4

def Zcq (L1 : List RA) (n2 : Nat) (n3 : Nat) (N : Nat) : Option (Zx ⊕ Zw) :=
 if (n2 : Int) < 1 then
  some (.inr (.r0 (0) : Zw))
 else
 if 512 < (n2 : Int) then
  some (.inr (.r0 (0) : Zw))
 else
 some (.inl (.h1m0 (0) : Zx))

def ref12_Wrong (L1 : List RA) (n2 : Nat) (n3 : Nat) (N : Nat) : Option Zw := goM (ref12_WrongStep L1 n2 n3 N) N (Zcq L1 n2 n3 N)

def check_Check (L1 : List RA) (n2 : Nat) (n3 : Nat) (N : Nat) : Option ZaD :=
 ((check_look (L1) (n2) (n3) N).bind fun r => match r with
 | .r0 y0_0 =>
  some (.r0 (y0_0) : ZaD)
 | .r1 y0_0 y0_1 =>
  some (.r0 (y0_1) : ZaD)
 | .r2 y0_0 y0_1 y0_2 y0_3 y0_4 y0_5 y0_6 =>
  some (.r0 (y0_6) : ZaD)
 | .r3 y0_0 y0_1 y0_2 y0_3 =>
  some (.r0 (y0_3) : ZaD)
 )

def ref12_Check (L1 : List RA) (n2 : Nat) (n3 : Nat) (N : Nat) : Option ref12_CheckR :=
 ((ref12_Wrong (L1) (n2) (n3) N).bind fun r => match r with
 | .r0 y0_0 =>
  if y0_0 < 0 then
   some (.r0 (0) : ref12_CheckR)
  else
  if y0_0 < (n2 : Int) then
   if (n2 : Int) ≤ 512 then
    if (y0_0).toNat < L1.length then
     if ((L1.getD (y0_0).toNat RA.z).a0 = 15 ∧ (L1.getD (y0_0).toNat RA.z).a1 = 0 ∧ (L1.getD (y0_0).toNat RA.z).a2 = 0 ∧ (L1.getD (y0_0).toNat RA.z).a3 = 0) then
      some (.r0 (140) : ref12_CheckR)
     else
     some (.r0 (120) : ref12_CheckR)
    else
    none
   else
   some (.r0 (120) : ref12_CheckR)
  else
  some (.r0 (120) : ref12_CheckR)
 )

end Old
end Ev
end Go.Proofs.YtelfeeoobdpmkaaGreat
/- Plain lemmas: machines step by step, lists by their places. -/
namespace Go.Proofs.YtelfeeoobdpmkaaGreat
open Go.RowKit
namespace Ev
section
variable {X R : Type} {step : X → Option (X ⊕ R)} {n : Nat} {x y : X} {r : R}
theorem ZaX (h : step x = some (.inl y)) : Zbl step (n + 1) x = Zbl step n y := by simp [Zbl, h]
theorem Zaa (h : step x = some (.inr r)) : Zbl step (n + 1) x = some r := by simp [Zbl, h]
theorem ZsB : ∀ {n m : Nat} {x : X} {r : R}, n ≤ m → Zbl step n x = some r → Zbl step m x = some r
 | 0, _, _, _, _, h => by cases h
 | n + 1, 0, _, _, h, _ => by omega
 | n + 1, m + 1, x, r, h, e => by
  simp only [Zbl] at e ⊢
  cases hs : step x with
  | none => rw [hs] at e; cases e
  | some y =>
   rw [hs] at e
   cases y with
   | inl y => exact ZsB (by omega) e
   | inr r' => exact e
theorem Zog {o : Option (X ⊕ R)} (h : o = some (.inl x)) : goM step n o = Zbl step n x := by subst h; rfl
theorem Zd6 {o : Option (X ⊕ R)} (h : o = some (.inr r)) : goM step n o = some r := by subst h; rfl
end
section
variable {α : Type}
theorem ZpS {L : List α} {i : Nat} {v d : α} (h : i < L.length) : (L.set i v).getD i d = v := by simp [h]
theorem Zsn {L : List α} {i j : Nat} {v d : α} (h : i ≠ j) : (L.set i v).getD j d = L.getD j d := by simp [List.getElem?_set_ne h]
theorem Zr6 {L : List α} {i j : Nat} {v d : α} (h : i < L.length) : (L.set i v).getD j d = if j = i then v else L.getD j d := by
 by_cases e : j = i
 ·subst e; rw [if_pos rfl, ZpS h]
 ·rw [if_neg e, Zsn (fun h => e h.symm)]
theorem ZcV {L M : List α} {i : Nat} {d : α} (h : i < L.length) : (L ++ M).getD i d = L.getD i d := by simp [List.getElem?_append_left h]
theorem Zft {L : List α} {v d : α} : (L ++ [v]).getD L.length d = v := by simp
theorem Zso {L : List α} {i : Nat} {d : α} (h : L.length ≤ i) : L.getD i d = d := by simp [List.getElem?_eq_none h]
end
theorem ZdU {α : Type} {c : Prop} [Decidable c] {a b r : α} (h1 : c → a = r) (h2 : ¬ c → b = r) : (if c then a else b) = r := by
 by_cases h : c
 ·rw [if_pos h]; exact h1 h
 ·rw [if_neg h]; exact h2 h
theorem Zh {α : Type} {c : Prop} [Decidable c] {a b r : α} (h : c) (e : a = r) : (if c then a else b) = r := by rw [if_pos h]; exact e
theorem Zr {α : Type} {c : Prop} [Decidable c] {a b r : α} (h : ¬ c) (e : b = r) : (if c then a else b) = r := by rw [if_neg h]; exact e
theorem Zy {α β : Type} {o : Option α} {a : α} {k : α → Option β} {r : Option β} (h : o = some a) (e : k a = r) : o.bind k = r := by rw [h]; exact e
theorem w64 {x : Int} (h1 : -9223372036854775808 ≤ x) (h2 : x ≤ 9223372036854775807) : IntKind.i64.wrap x = x := wrap_i64 ⟨h1, h2⟩
end Ev
end Go.Proofs.YtelfeeoobdpmkaaGreat
/- Which instructions may be: the program's and the document's answers are the same. -/
namespace Go.Proofs.YtelfeeoobdpmkaaGreat
open Go.RowKit
namespace Ev
namespace Old
set_option linter.unusedVariables false
set_option linter.unusedSimpArgs false
theorem ZbQ (n a c : Int) (N M : Nat) : ∃ b, ZQ 1 n a N = some (.r0 b) ∧ Zal 1 n c M = some (.r0 b) := by
 refine ⟨decide (0 ≤ n ∧ n ≤ 7), ?_, ?_⟩
 ·unfold ZQ; rw [if_pos rfl]; by_cases h1 : (0 : Int) ≤ n <;> by_cases h2 : n ≤ 7 <;> simp [h1, h2]
 ·unfold Zal; rw [if_pos rfl]; by_cases h1 : (0 : Int) ≤ n <;> by_cases h2 : n ≤ 7 <;> simp [h1, h2, show n < 8 ↔ n ≤ 7 by omega]
theorem ZuU (n a c : Int) (N M : Nat) : ∃ b, ZQ 2 n a N = some (.r0 b) ∧ Zal 4 n c M = some (.r0 b) := by
 refine ⟨decide (0 ≤ n ∧ n ≤ 15), ?_, ?_⟩
 ·unfold ZQ; rw [if_neg (by decide), if_pos rfl]; by_cases h1 : (0 : Int) ≤ n <;> by_cases h2 : n ≤ 15 <;> simp [h1, h2]
 ·unfold Zal; rw [if_neg (by decide), if_neg (by decide), if_neg (by decide), if_pos rfl]; by_cases h1 : (0 : Int) ≤ n <;> by_cases h2 : n ≤ 15 <;> simp [h1, h2, show n < 16 ↔ n ≤ 15 by omega]
theorem fit_c (n a c : Int) (N M : Nat) : ∃ b, ZQ 3 n a N = some (.r0 b) ∧ Zal 5 n c M = some (.r0 b) ∧ (b = true → 1 ≤ n ∧ n ≤ 16) := by
 refine ⟨decide (1 ≤ n ∧ n ≤ 16), ?_, ?_, fun h => by simpa using h⟩
 ·unfold ZQ; rw [if_neg (by decide), if_neg (by decide), if_pos rfl]; by_cases h1 : (1 : Int) ≤ n <;> by_cases h2 : n ≤ 16 <;> simp [h1, h2]
 ·unfold Zal; rw [if_neg (by decide), if_neg (by decide), if_neg (by decide), if_neg (by decide), if_pos rfl]; by_cases h1 : (1 : Int) ≤ n <;> by_cases h2 : n ≤ 16 <;> simp [h1, h2]
theorem ZuV (n a c : Int) (N M : Nat) : ∃ b, ZQ 4 n a N = some (.r0 b) ∧ Zal 3 n c M = some (.r0 b) ∧ (b = true → 0 ≤ n ∧ n ≤ 512) := by
 refine ⟨decide (0 ≤ n ∧ n ≤ 512), ?_, ?_, fun h => by simpa using h⟩
 ·unfold ZQ; rw [if_neg (by decide), if_neg (by decide), if_neg (by decide), if_pos rfl]; by_cases h1 : (0 : Int) ≤ n <;> by_cases h2 : n ≤ 512 <;> simp [h1, h2]
 ·unfold Zal; rw [if_neg (by decide), if_neg (by decide), if_pos rfl]; by_cases h1 : (0 : Int) ≤ n <;> by_cases h2 : n ≤ 512 <;> simp [h1, h2]
theorem Zue {a : Int} (h1 : 1 ≤ a) (h2 : a ≤ 16) : ∃ k : Nat, (1 : Int) * (2 ^ a.toNat : Int) = (k : Int) ∧ 2 ≤ k ∧ k ≤ 65536 := by
 have h : a.toNat = 1 ∨ a.toNat = 2 ∨ a.toNat = 3 ∨ a.toNat = 4 ∨ a.toNat = 5 ∨ a.toNat = 6 ∨ a.toNat = 7 ∨ a.toNat = 8 ∨ a.toNat = 9 ∨ a.toNat = 10 ∨ a.toNat = 11 ∨ a.toNat = 12 ∨ a.toNat = 13 ∨ a.toNat = 14 ∨ a.toNat = 15 ∨ a.toNat = 16 := by omega
 rcases h with h | h | h | h | h | h | h | h | h | h | h | h | h | h | h | h <;> rw [h]
 ·exact ⟨2, by decide, by decide, by decide⟩
 ·exact ⟨4, by decide, by decide, by decide⟩
 ·exact ⟨8, by decide, by decide, by decide⟩
 ·exact ⟨16, by decide, by decide, by decide⟩
 ·exact ⟨32, by decide, by decide, by decide⟩
 ·exact ⟨64, by decide, by decide, by decide⟩
 ·exact ⟨128, by decide, by decide, by decide⟩
 ·exact ⟨256, by decide, by decide, by decide⟩
 ·exact ⟨512, by decide, by decide, by decide⟩
 ·exact ⟨1024, by decide, by decide, by decide⟩
 ·exact ⟨2048, by decide, by decide, by decide⟩
 ·exact ⟨4096, by decide, by decide, by decide⟩
 ·exact ⟨8192, by decide, by decide, by decide⟩
 ·exact ⟨16384, by decide, by decide, by decide⟩
 ·exact ⟨32768, by decide, by decide, by decide⟩
 ·exact ⟨65536, by decide, by decide, by decide⟩
theorem fit_e (n a : Int) (N M : Nat) (h1 : 1 ≤ a) (h2 : a ≤ 16) : ∃ b, ZQ 5 n a N = some (.r0 b) ∧ Zal 6 n a M = some (.r0 b) := by
 obtain ⟨k, hk, k1, k2⟩ := Zue h1 h2
 have w1 : IntKind.i64.wrap ((1 : Int) * (2 ^ a.toNat : Int)) = (k : Int) := by rw [hk]; exact w64 (by omega) (by omega)
 refine ⟨decide (0 ≤ n ∧ n < (k : Int)), ?_, ?_⟩
 ·unfold ZQ
  rw [if_neg (by decide), if_neg (by decide), if_neg (by decide), if_neg (by decide), if_pos rfl, if_pos (by omega), if_pos (by omega), w1, w64 (by omega) (by omega)]
  by_cases h1 : (0 : Int) ≤ n <;> by_cases h2 : n < (k : Int) <;> simp [h1, h2, show n ≤ (k : Int) - 1 ↔ n < (k : Int) by omega]
 ·unfold Zal
  rw [if_neg (by decide), if_neg (by decide), if_neg (by decide), if_neg (by decide), if_neg (by decide), if_pos rfl, if_pos h1, if_pos h2, w1]
  by_cases h1 : (0 : Int) ≤ n <;> by_cases h2 : n < (k : Int) <;> simp [h1, h2]
theorem fit_f (n a c : Int) (N M : Nat) : ∃ b, ZQ 6 n a N = some (.r0 b) ∧ Zal 2 n c M = some (.r0 b) := by
 refine ⟨decide (-1099511627776 ≤ n ∧ n ≤ 1099511627776), ?_, ?_⟩
 ·unfold ZQ; rw [if_neg (by decide), if_neg (by decide), if_neg (by decide), if_neg (by decide), if_neg (by decide), if_pos rfl]; by_cases h1 : (-1099511627776 : Int) ≤ n <;> by_cases h2 : n ≤ 1099511627776 <;> simp [h1, h2]
 ·unfold Zal; rw [if_neg (by decide), if_pos rfl]; by_cases h1 : (-1099511627776 : Int) ≤ n <;> by_cases h2 : n ≤ 1099511627776 <;> simp [h1, h2]
theorem Zb0 (n a c : Int) (N M : Nat) : ∃ b, ZQ 0 n a N = some (.r0 b) ∧ Zal 0 n c M = some (.r0 b) ∧ (b = true → n = 0) ∧ (n = 0 → b = true) := by
 refine ⟨decide (n = 0), ?_, ?_, fun h => by simpa using h, fun h => by simpa using h⟩
 ·unfold ZQ; rw [if_neg (by decide), if_neg (by decide), if_neg (by decide), if_neg (by decide), if_neg (by decide), if_neg (by decide)]
  by_cases h1 : (0 : Int) ≤ n <;> by_cases h2 : n ≤ 0 <;> simp [h1, h2] <;> omega
 ·unfold Zal; rw [if_neg (by decide), if_neg (by decide), if_neg (by decide), if_neg (by decide), if_neg (by decide), if_neg (by decide)]
  by_cases h : n = 0 <;> simp [h]
end Old
end Ev
end Go.Proofs.YtelfeeoobdpmkaaGreat
/- An instruction may be: ZcP answers. -/
namespace Go.Proofs.YtelfeeoobdpmkaaGreat
open Go.RowKit
namespace Ev
namespace Old
set_option linter.unusedVariables false
set_option linter.unusedSimpArgs false
theorem run3 {op A B C : Int} {N s0 s1 s2 : Nat} {b0 b1 b2 : Bool} (hN : 4 ≤ N) (h0 : ZQ s0 A 0 N = some (.r0 b0)) (h1 : b0 = true → ZQ s1 B A N = some (.r0 b1)) (h2 : b0 = true → b1 = true → ZQ s2 C B N = some (.r0 b2)) :
  Zbl (ZbJ op A B C N) N (.h1m0 s0 s1 s2) = some (.r0 (if (b0 && b1 && b2) = true then 0 else 100)) := by
 obtain ⟨n, rfl⟩ : ∃ n, N = n + 4 := ⟨N - 4, by omega⟩
 cases b0 with
 | false =>
  refine Zaa ?_
  show ZbS op A B C (n + 4) s0 s1 s2 = _
  unfold ZbS
  rw [h0]; rfl
 | true =>
  refine (ZaX (y := .h1m1 s0 s1 s2) ?_).trans ?_
  ·show ZbS op A B C (n + 4) s0 s1 s2 = _
   unfold ZbS
   rw [h0]; rfl
  ·cases b1 with
   | false =>
    refine Zaa ?_
    show ZbT op A B C (n + 4) s0 s1 s2 = _
    unfold ZbT
    rw [h1 rfl]; rfl
   | true =>
    refine (ZaX (y := .h1m2 s0 s1 s2) ?_).trans ?_
    ·show ZbT op A B C (n + 4) s0 s1 s2 = _
     unfold ZbT
     rw [h1 rfl]; rfl
    ·cases b2 with
     | false =>
      refine Zaa ?_
      show ZbU op A B C (n + 4) s0 s1 s2 = _
      unfold ZbU
      rw [h2 rfl rfl]; rfl
     | true =>
      refine (ZaX (y := .h1m3 s0 s1 s2) ?_).trans ?_
      ·show ZbU op A B C (n + 4) s0 s1 s2 = _
       unfold ZbU
       rw [h2 rfl rfl]; rfl
      ·refine Zaa ?_
       show ZdH op A B C (n + 4) s0 s1 s2 = _
       rfl
theorem is3 {op A B C t0 t1 t2 : Int} {N : Nat} {b0 b1 b2 : Bool} (hH : Zdd op N = some (.r0 t0 t1 t2 true)) (h0 : Zal t0 A 0 N = some (.r0 b0)) (h1 : b0 = true → Zal t1 B 0 N = some (.r0 b1)) (h2 : b0 = true → b1 = true → Zal t2 C B N = some (.r0 b2)) :
  Zag op A B C N = some (.r0 (b0 && b1 && b2)) := by
 unfold Zag
 rw [hH]
 show (Zal t0 A 0 N).bind _ = _
 rw [h0]
 cases b0 with
 | false => rfl
 | true =>
  show (Zal t1 B 0 N).bind _ = _
  rw [h1 rfl]
  cases b1 with
  | false => rfl
  | true =>
   show (Zal t2 C B N).bind _ = _
   rw [h2 rfl rfl]
   cases b2 <;> rfl
def Zc2 (op A B C : Int) (b : Bool) : Prop := (op = 8 → b = true → 0 ≤ A ∧ A ≤ 512) ∧ (op = 9 → b = true → 0 ≤ B ∧ B ≤ 512) ∧ (op = 15 → (b = true ↔ A = 0 ∧ B = 0 ∧ C = 0))
theorem ZcP {op A B C t0 t1 t2 : Int} {N s0 s1 s2 : Nat} {b0 b1 b2 : Bool} (hN : 4 ≤ N) (hI : ZdM op A B C N = some (.inl (.h1m0 s0 s1 s2))) (hH : Zdd op N = some (.r0 t0 t1 t2 true))
  (h0 : ZQ s0 A 0 N = some (.r0 b0) ∧ Zal t0 A 0 N = some (.r0 b0)) (h1 : b0 = true → ZQ s1 B A N = some (.r0 b1) ∧ Zal t1 B 0 N = some (.r0 b1)) (h2 : b0 = true → b1 = true → ZQ s2 C B N = some (.r0 b2) ∧ Zal t2 C B N = some (.r0 b2))
  (hf : Zc2 op A B C (b0 && b1 && b2)) : ∃ b, Z2 op A B C N = some (.r0 (if b = true then 0 else 100)) ∧ Zag op A B C N = some (.r0 b) ∧ Zc2 op A B C b :=
 ⟨b0 && b1 && b2, (Zog hI).trans (run3 hN h0.1 (fun e => (h1 e).1) (fun e f => (h2 e f).1)), is3 hH h0.2 (fun e => (h1 e).2) (fun e f => (h2 e f).2), hf⟩
theorem ZbH {op A B C : Int} {b : Bool} (h8 : op ≠ 8) (h9 : op ≠ 9) (h15 : op ≠ 15) : Zc2 op A B C b := ⟨fun e => absurd e h8, fun e => absurd e h9, fun e => absurd e h15⟩
theorem is_1 (A B C : Int) (N : Nat) (hN : 4 ≤ N) : ∃ b, Z2 1 A B C N = some (.r0 (if b = true then 0 else 100)) ∧ Zag 1 A B C N = some (.r0 b) ∧ Zc2 1 A B C b := by
 obtain ⟨b0, p0, q0⟩ := ZbQ A 0 0 N N
 obtain ⟨b1, p1, q1⟩ := fit_f B A 0 N N
 obtain ⟨b2, p2, q2, r2, t2⟩ := Zb0 C B B N N
 exact ZcP hN rfl rfl ⟨p0, q0⟩ (fun _ => ⟨p1, q1⟩) (fun _ _ => ⟨p2, q2⟩) (ZbH (by decide) (by decide) (by decide))
theorem is_2 (A B C : Int) (N : Nat) (hN : 4 ≤ N) : ∃ b, Z2 2 A B C N = some (.r0 (if b = true then 0 else 100)) ∧ Zag 2 A B C N = some (.r0 b) ∧ Zc2 2 A B C b := by
 obtain ⟨b0, p0, q0⟩ := ZbQ A 0 0 N N
 obtain ⟨b1, p1, q1, r1, t1⟩ := Zb0 B A 0 N N
 obtain ⟨b2, p2, q2, r2, t2⟩ := Zb0 C B B N N
 exact ZcP hN rfl rfl ⟨p0, q0⟩ (fun _ => ⟨p1, q1⟩) (fun _ _ => ⟨p2, q2⟩) (ZbH (by decide) (by decide) (by decide))
theorem is_3 (A B C : Int) (N : Nat) (hN : 4 ≤ N) : ∃ b, Z2 3 A B C N = some (.r0 (if b = true then 0 else 100)) ∧ Zag 3 A B C N = some (.r0 b) ∧ Zc2 3 A B C b := by
 obtain ⟨b0, p0, q0⟩ := ZbQ A 0 0 N N
 obtain ⟨b1, p1, q1⟩ := ZbQ B A 0 N N
 obtain ⟨b2, p2, q2, r2, t2⟩ := Zb0 C B B N N
 exact ZcP hN rfl rfl ⟨p0, q0⟩ (fun _ => ⟨p1, q1⟩) (fun _ _ => ⟨p2, q2⟩) (ZbH (by decide) (by decide) (by decide))
theorem is_4 (A B C : Int) (N : Nat) (hN : 4 ≤ N) : ∃ b, Z2 4 A B C N = some (.r0 (if b = true then 0 else 100)) ∧ Zag 4 A B C N = some (.r0 b) ∧ Zc2 4 A B C b := by
 obtain ⟨b0, p0, q0⟩ := ZbQ A 0 0 N N
 obtain ⟨b1, p1, q1⟩ := ZbQ B A 0 N N
 obtain ⟨b2, p2, q2⟩ := ZbQ C B B N N
 exact ZcP hN rfl rfl ⟨p0, q0⟩ (fun _ => ⟨p1, q1⟩) (fun _ _ => ⟨p2, q2⟩) (ZbH (by decide) (by decide) (by decide))
theorem is_5 (A B C : Int) (N : Nat) (hN : 4 ≤ N) : ∃ b, Z2 5 A B C N = some (.r0 (if b = true then 0 else 100)) ∧ Zag 5 A B C N = some (.r0 b) ∧ Zc2 5 A B C b := by
 obtain ⟨b0, p0, q0⟩ := ZbQ A 0 0 N N
 obtain ⟨b1, p1, q1⟩ := ZbQ B A 0 N N
 obtain ⟨b2, p2, q2⟩ := ZbQ C B B N N
 exact ZcP hN rfl rfl ⟨p0, q0⟩ (fun _ => ⟨p1, q1⟩) (fun _ _ => ⟨p2, q2⟩) (ZbH (by decide) (by decide) (by decide))
theorem is_6 (A B C : Int) (N : Nat) (hN : 4 ≤ N) : ∃ b, Z2 6 A B C N = some (.r0 (if b = true then 0 else 100)) ∧ Zag 6 A B C N = some (.r0 b) ∧ Zc2 6 A B C b := by
 obtain ⟨b0, p0, q0⟩ := ZbQ A 0 0 N N
 obtain ⟨b1, p1, q1⟩ := ZbQ B A 0 N N
 obtain ⟨b2, p2, q2⟩ := ZbQ C B B N N
 exact ZcP hN rfl rfl ⟨p0, q0⟩ (fun _ => ⟨p1, q1⟩) (fun _ _ => ⟨p2, q2⟩) (ZbH (by decide) (by decide) (by decide))
theorem is_7 (A B C : Int) (N : Nat) (hN : 4 ≤ N) : ∃ b, Z2 7 A B C N = some (.r0 (if b = true then 0 else 100)) ∧ Zag 7 A B C N = some (.r0 b) ∧ Zc2 7 A B C b := by
 obtain ⟨b0, p0, q0⟩ := ZbQ A 0 0 N N
 obtain ⟨b1, p1, q1⟩ := ZbQ B A 0 N N
 obtain ⟨b2, p2, q2⟩ := ZbQ C B B N N
 exact ZcP hN rfl rfl ⟨p0, q0⟩ (fun _ => ⟨p1, q1⟩) (fun _ _ => ⟨p2, q2⟩) (ZbH (by decide) (by decide) (by decide))
theorem is_8 (A B C : Int) (N : Nat) (hN : 4 ≤ N) : ∃ b, Z2 8 A B C N = some (.r0 (if b = true then 0 else 100)) ∧ Zag 8 A B C N = some (.r0 b) ∧ Zc2 8 A B C b := by
 obtain ⟨b0, p0, q0, r0⟩ := ZuV A 0 0 N N
 obtain ⟨b1, p1, q1, r1, t1⟩ := Zb0 B A 0 N N
 obtain ⟨b2, p2, q2, r2, t2⟩ := Zb0 C B B N N
 exact ZcP hN rfl rfl ⟨p0, q0⟩ (fun _ => ⟨p1, q1⟩) (fun _ _ => ⟨p2, q2⟩) ⟨fun _ h => by simp only [Bool.and_eq_true] at h; exact r0 h.1.1, fun e => absurd e (by decide), fun e => absurd e (by decide)⟩
theorem is_9 (A B C : Int) (N : Nat) (hN : 4 ≤ N) : ∃ b, Z2 9 A B C N = some (.r0 (if b = true then 0 else 100)) ∧ Zag 9 A B C N = some (.r0 b) ∧ Zc2 9 A B C b := by
 obtain ⟨b0, p0, q0⟩ := ZbQ A 0 0 N N
 obtain ⟨b1, p1, q1, r1⟩ := ZuV B A 0 N N
 obtain ⟨b2, p2, q2, r2, t2⟩ := Zb0 C B B N N
 exact ZcP hN rfl rfl ⟨p0, q0⟩ (fun _ => ⟨p1, q1⟩) (fun _ _ => ⟨p2, q2⟩) ⟨fun e => absurd e (by decide), fun _ h => by simp only [Bool.and_eq_true] at h; exact r1 h.1.2, fun e => absurd e (by decide)⟩
theorem is_10 (A B C : Int) (N : Nat) (hN : 4 ≤ N) : ∃ b, Z2 10 A B C N = some (.r0 (if b = true then 0 else 100)) ∧ Zag 10 A B C N = some (.r0 b) ∧ Zc2 10 A B C b := by
 obtain ⟨b0, p0, q0⟩ := ZbQ A 0 0 N N
 obtain ⟨b1, p1, q1, r1, t1⟩ := Zb0 B A 0 N N
 obtain ⟨b2, p2, q2, r2, t2⟩ := Zb0 C B B N N
 exact ZcP hN rfl rfl ⟨p0, q0⟩ (fun _ => ⟨p1, q1⟩) (fun _ _ => ⟨p2, q2⟩) (ZbH (by decide) (by decide) (by decide))
theorem is_11 (A B C : Int) (N : Nat) (hN : 4 ≤ N) : ∃ b, Z2 11 A B C N = some (.r0 (if b = true then 0 else 100)) ∧ Zag 11 A B C N = some (.r0 b) ∧ Zc2 11 A B C b := by
 obtain ⟨b0, p0, q0⟩ := ZbQ A 0 0 N N
 obtain ⟨b1, p1, q1, r1⟩ := fit_c B A 0 N N
 cases hb : b1 with
 | false => subst hb; exact ZcP (b2 := false) hN rfl rfl ⟨p0, q0⟩ (fun _ => ⟨p1, q1⟩) (fun _ e => by cases e) (ZbH (by decide) (by decide) (by decide))
 | true =>
  obtain ⟨b2, p2, q2⟩ := fit_e C B N N (r1 hb).1 (r1 hb).2
  subst hb
  exact ZcP hN rfl rfl ⟨p0, q0⟩ (fun _ => ⟨p1, q1⟩) (fun _ _ => ⟨p2, q2⟩) (ZbH (by decide) (by decide) (by decide))
theorem is_12 (A B C : Int) (N : Nat) (hN : 4 ≤ N) : ∃ b, Z2 12 A B C N = some (.r0 (if b = true then 0 else 100)) ∧ Zag 12 A B C N = some (.r0 b) ∧ Zc2 12 A B C b := by
 obtain ⟨b0, p0, q0⟩ := ZbQ A 0 0 N N
 obtain ⟨b1, p1, q1, r1, t1⟩ := Zb0 B A 0 N N
 obtain ⟨b2, p2, q2, r2, t2⟩ := Zb0 C B B N N
 exact ZcP hN rfl rfl ⟨p0, q0⟩ (fun _ => ⟨p1, q1⟩) (fun _ _ => ⟨p2, q2⟩) (ZbH (by decide) (by decide) (by decide))
theorem is_13 (A B C : Int) (N : Nat) (hN : 4 ≤ N) : ∃ b, Z2 13 A B C N = some (.r0 (if b = true then 0 else 100)) ∧ Zag 13 A B C N = some (.r0 b) ∧ Zc2 13 A B C b := by
 obtain ⟨b0, p0, q0⟩ := ZbQ A 0 0 N N
 obtain ⟨b1, p1, q1⟩ := ZbQ B A 0 N N
 obtain ⟨b2, p2, q2⟩ := ZuU C B B N N
 exact ZcP hN rfl rfl ⟨p0, q0⟩ (fun _ => ⟨p1, q1⟩) (fun _ _ => ⟨p2, q2⟩) (ZbH (by decide) (by decide) (by decide))
theorem is_14 (A B C : Int) (N : Nat) (hN : 4 ≤ N) : ∃ b, Z2 14 A B C N = some (.r0 (if b = true then 0 else 100)) ∧ Zag 14 A B C N = some (.r0 b) ∧ Zc2 14 A B C b := by
 obtain ⟨b0, p0, q0⟩ := ZbQ A 0 0 N N
 obtain ⟨b1, p1, q1⟩ := ZuU B A 0 N N
 obtain ⟨b2, p2, q2⟩ := ZbQ C B B N N
 exact ZcP hN rfl rfl ⟨p0, q0⟩ (fun _ => ⟨p1, q1⟩) (fun _ _ => ⟨p2, q2⟩) (ZbH (by decide) (by decide) (by decide))
theorem is_15 (A B C : Int) (N : Nat) (hN : 4 ≤ N) : ∃ b, Z2 15 A B C N = some (.r0 (if b = true then 0 else 100)) ∧ Zag 15 A B C N = some (.r0 b) ∧ Zc2 15 A B C b := by
 obtain ⟨b0, p0, q0, r0, t0⟩ := Zb0 A 0 0 N N
 obtain ⟨b1, p1, q1, r1, t1⟩ := Zb0 B A 0 N N
 obtain ⟨b2, p2, q2, r2, t2⟩ := Zb0 C B B N N
 exact ZcP hN rfl rfl ⟨p0, q0⟩ (fun _ => ⟨p1, q1⟩) (fun _ _ => ⟨p2, q2⟩) ⟨fun e => absurd e (by decide), fun e => absurd e (by decide), fun _ => by simp only [Bool.and_eq_true]; exact ⟨fun h => ⟨r0 h.1.1, r1 h.1.2, r2 h.2⟩, fun h => ⟨⟨t0 h.1, t1 h.2.1⟩, t2 h.2.2⟩⟩⟩
theorem is_16 (A B C : Int) (N : Nat) (hN : 4 ≤ N) : ∃ b, Z2 16 A B C N = some (.r0 (if b = true then 0 else 100)) ∧ Zag 16 A B C N = some (.r0 b) ∧ Zc2 16 A B C b := by
 obtain ⟨b0, p0, q0, r0, t0⟩ := Zb0 A 0 0 N N
 obtain ⟨b1, p1, q1, r1, t1⟩ := Zb0 B A 0 N N
 obtain ⟨b2, p2, q2, r2, t2⟩ := Zb0 C B B N N
 exact ZcP hN rfl rfl ⟨p0, q0⟩ (fun _ => ⟨p1, q1⟩) (fun _ _ => ⟨p2, q2⟩) (ZbH (by decide) (by decide) (by decide))
theorem is_17 (A B C : Int) (N : Nat) (hN : 4 ≤ N) : ∃ b, Z2 17 A B C N = some (.r0 (if b = true then 0 else 100)) ∧ Zag 17 A B C N = some (.r0 b) ∧ Zc2 17 A B C b := by
 obtain ⟨b0, p0, q0, r0, t0⟩ := Zb0 A 0 0 N N
 obtain ⟨b1, p1, q1, r1, t1⟩ := Zb0 B A 0 N N
 obtain ⟨b2, p2, q2, r2, t2⟩ := Zb0 C B B N N
 exact ZcP hN rfl rfl ⟨p0, q0⟩ (fun _ => ⟨p1, q1⟩) (fun _ _ => ⟨p2, q2⟩) (ZbH (by decide) (by decide) (by decide))
theorem is_18 (A B C : Int) (N : Nat) (hN : 4 ≤ N) : ∃ b, Z2 18 A B C N = some (.r0 (if b = true then 0 else 100)) ∧ Zag 18 A B C N = some (.r0 b) ∧ Zc2 18 A B C b := by
 obtain ⟨b0, p0, q0, r0, t0⟩ := Zb0 A 0 0 N N
 obtain ⟨b1, p1, q1, r1, t1⟩ := Zb0 B A 0 N N
 obtain ⟨b2, p2, q2, r2, t2⟩ := Zb0 C B B N N
 exact ZcP hN rfl rfl ⟨p0, q0⟩ (fun _ => ⟨p1, q1⟩) (fun _ _ => ⟨p2, q2⟩) (ZbH (by decide) (by decide) (by decide))
theorem is_19 (A B C : Int) (N : Nat) (hN : 4 ≤ N) : ∃ b, Z2 19 A B C N = some (.r0 (if b = true then 0 else 100)) ∧ Zag 19 A B C N = some (.r0 b) ∧ Zc2 19 A B C b := by
 obtain ⟨b0, p0, q0⟩ := ZbQ A 0 0 N N
 obtain ⟨b1, p1, q1, r1, t1⟩ := Zb0 B A 0 N N
 obtain ⟨b2, p2, q2, r2, t2⟩ := Zb0 C B B N N
 exact ZcP hN rfl rfl ⟨p0, q0⟩ (fun _ => ⟨p1, q1⟩) (fun _ _ => ⟨p2, q2⟩) (ZbH (by decide) (by decide) (by decide))
theorem is_20 (A B C : Int) (N : Nat) (hN : 4 ≤ N) : ∃ b, Z2 20 A B C N = some (.r0 (if b = true then 0 else 100)) ∧ Zag 20 A B C N = some (.r0 b) ∧ Zc2 20 A B C b := by
 obtain ⟨b0, p0, q0, r0, t0⟩ := Zb0 A 0 0 N N
 obtain ⟨b1, p1, q1, r1, t1⟩ := Zb0 B A 0 N N
 obtain ⟨b2, p2, q2, r2, t2⟩ := Zb0 C B B N N
 exact ZcP hN rfl rfl ⟨p0, q0⟩ (fun _ => ⟨p1, q1⟩) (fun _ _ => ⟨p2, q2⟩) (ZbH (by decide) (by decide) (by decide))
theorem ZuI (op A B C : Int) (N : Nat) (hN : 4 ≤ N) : ∃ b, Z2 op A B C N = some (.r0 (if b = true then 0 else 100)) ∧ Zag op A B C N = some (.r0 b) ∧ Zc2 op A B C b := by
 by_cases h0 : op ≤ 0 ∨ 21 ≤ op
 ·refine ⟨false, ?_, ?_, ZbH (by omega) (by omega) (by omega)⟩
  ·refine Zd6 ?_
   have : Zap op N = some .r0 := by
    unfold Zap
    repeat' (first | rfl | (refine ZdU (fun _ => ?_) (fun _ => ?_)) | (exfalso; omega))
   unfold ZdM
   rw [this]; rfl
  ·have : Zdd op N = some (.r0 0 0 0 false) := by
    unfold Zdd
    repeat' (first | rfl | (refine ZdU (fun _ => ?_) (fun _ => ?_)) | (exfalso; omega))
   unfold Zag
   rw [this]; rfl
 ·have h : op = 1 ∨ op = 2 ∨ op = 3 ∨ op = 4 ∨ op = 5 ∨ op = 6 ∨ op = 7 ∨ op = 8 ∨ op = 9 ∨ op = 10 ∨ op = 11 ∨ op = 12 ∨ op = 13 ∨ op = 14 ∨ op = 15 ∨ op = 16 ∨ op = 17 ∨ op = 18 ∨ op = 19 ∨ op = 20 := by omega
  rcases h with rfl | rfl | rfl | rfl | rfl | rfl | rfl | rfl | rfl | rfl | rfl | rfl | rfl | rfl | rfl | rfl | rfl | rfl | rfl | rfl
  ·exact is_1 A B C N hN
  ·exact is_2 A B C N hN
  ·exact is_3 A B C N hN
  ·exact is_4 A B C N hN
  ·exact is_5 A B C N hN
  ·exact is_6 A B C N hN
  ·exact is_7 A B C N hN
  ·exact is_8 A B C N hN
  ·exact is_9 A B C N hN
  ·exact is_10 A B C N hN
  ·exact is_11 A B C N hN
  ·exact is_12 A B C N hN
  ·exact is_13 A B C N hN
  ·exact is_14 A B C N hN
  ·exact is_15 A B C N hN
  ·exact is_16 A B C N hN
  ·exact is_17 A B C N hN
  ·exact is_18 A B C N hN
  ·exact is_19 A B C N hN
  ·exact is_20 A B C N hN
end Old
end Ev
end Go.Proofs.YtelfeeoobdpmkaaGreat
/- The ways that are open, by the document's words: plain. -/
namespace Go.Proofs.YtelfeeoobdpmkaaGreat
open Go.RowKit
namespace Ev
namespace Old
set_option linter.unusedVariables false
set_option linter.unusedSimpArgs false
def Zbh (l : List R_ii) : R_ii := l.getD (l.length - 1) R_ii.z
def brP (l : List R_ii) : R_ii := if l.length = 0 then ⟨-1, 0⟩ else Zbh l
def stepL (l : List R_ii) (op : Int) (k : Nat) : List R_ii :=
 if op = 15 then if 8 ≤ l.length then l else l ++ [⟨(k : Int), 0⟩]
 else if op = 16 then if l.length = 0 then l else if (Zbh l).a1 = 1 then l else l.take (l.length - 1) ++ [⟨(Zbh l).a0, 1⟩]
 else if op = 17 then l.take (l.length - 1) else l
def stepB (l : List R_ii) (op : Int) : Bool :=
 if op = 15 then decide (l.length < 8)
 else if op = 16 then if l.length = 0 then false else if (Zbh l).a1 = 1 then false else true
 else if op = 17 then decide (0 < l.length)
 else if op = 18 then decide (0 < l.length)
 else if op = 20 then decide (l.length = 0) else true
def opn (L : List RA) : Nat → List R_ii
 | 0 => []
 | k + 1 => stepL (opn L k) (L.getD k RA.z).a0 k
theorem Zuf {l : List R_ii} {op : Int} {k : Nat} (h : l.length ≤ 8) : (stepL l op k).length ≤ 8 := by
 unfold stepL
 repeat' split
 all_goals try simp only [List.length_append, List.length_take, List.length_cons, List.length_nil]
 all_goals omega
theorem opn_len (L : List RA) : ∀ k, (opn L k).length ≤ 8
 | 0 => by simp [opn]
 | k + 1 => Zuf (opn_len L k)
theorem ZuW (op a1 a2 a3 : Int) (k : Nat) (N : Nat) : Zcf op a1 a2 a3 (k : Int) N = if op = 15 then some .r0 else some (.r1 (stepB [] op)) := by
 unfold Zcf stepB
 by_cases h15 : op = 15
 ·rw [if_pos h15, if_pos h15]
 ·rw [if_neg h15, if_neg h15, if_neg h15]
  by_cases h16 : op = 16
  ·rw [if_pos h16, if_pos h16]; rfl
  ·rw [if_neg h16, if_neg h16]
   by_cases h17 : op = 17
   ·rw [if_pos h17, if_pos h17]; rfl
   ·rw [if_neg h17, if_neg h17]
    by_cases h18 : op = 18
    ·rw [if_pos h18, if_pos h18]; rfl
    ·rw [if_neg h18, if_neg h18]; by_cases h20 : op = 20 <;> simp [h20]
def outL (l : List R_ii) : ZM → List R_ii
 | .r0 _ => l
 | .r1 l' => l'
 | .r2 => l.take (l.length - 1)
def Znw : ZM → Bool
 | .r0 b => b
 | _ => true
theorem ZuX (l : List R_ii) (op a1 a2 a3 : Int) (k : Nat) (N : Nat) (hl : l.length ≤ 8) : ∃ r, Zbo l op a1 a2 a3 (k : Int) N = some r ∧ outL l r = stepL l op k ∧ Znw r = stepB l op := by
 unfold Zbo stepL stepB
 by_cases h15 : op = 15
 ·rw [if_pos h15, if_pos h15, if_pos h15]
  by_cases h8 : 8 ≤ l.length
  ·rw [if_pos (by omega), if_pos h8]; exact ⟨_, rfl, rfl, by simp [Znw]; omega⟩
  ·rw [if_neg (by omega), if_neg h8]
   by_cases h0 : l.length = 0
   ·rw [if_pos h0]; obtain rfl := List.length_eq_zero_iff.1 h0; exact ⟨_, rfl, rfl, by simp [Znw]⟩
   ·rw [if_neg h0]; exact ⟨_, rfl, rfl, by simp [Znw]; omega⟩
 ·rw [if_neg h15, if_neg h15, if_neg h15]
  by_cases h16 : op = 16
  ·rw [if_pos h16, if_pos h16, if_pos h16]
   by_cases h0 : l.length = 0
   ·rw [if_pos (by omega), if_pos h0, if_pos h0]; exact ⟨_, rfl, rfl, rfl⟩
   ·rw [if_neg (by omega), if_neg h0, if_neg h0, if_pos (by omega)]
    show ∃ r, (if (Zbh l).a1 = 1 then _ else _) = some r ∧ _
    by_cases h1 : (Zbh l).a1 = 1
    ·rw [if_pos h1, if_pos h1, if_pos h1]; exact ⟨_, rfl, rfl, rfl⟩
    ·rw [if_neg h1, if_neg h1, if_neg h1]
     by_cases h2 : (l.length - 1) - 0 = 0
     ·rw [if_pos h2]
      refine ⟨_, rfl, ?_, rfl⟩
      show [(⟨(Zbh l).a0, 1⟩ : R_ii)] = _
      rw [show l.length - 1 = 0 by omega]; rfl
     ·rw [if_neg h2, if_pos (by omega)]; exact ⟨_, rfl, rfl, rfl⟩
  ·rw [if_neg h16, if_neg h16, if_neg h16]
   by_cases h17 : op = 17
   ·rw [if_pos h17, if_pos h17, if_pos h17]
    by_cases h0 : l.length = 0
    ·rw [if_pos (by omega)]
     obtain rfl := List.length_eq_zero_iff.1 h0
     exact ⟨_, rfl, rfl, rfl⟩
    ·rw [if_neg (by omega), if_pos (by omega)]; exact ⟨_, rfl, rfl, (decide_eq_true (by omega)).symm⟩
   ·rw [if_neg h17, if_neg h17, if_neg h17]
    by_cases h18 : op = 18
    ·rw [if_pos h18, if_pos h18]
     by_cases h0 : 0 < l.length
     ·rw [if_pos (by omega)]; exact ⟨_, rfl, rfl, by simp [Znw, h0]⟩
     ·rw [if_neg (by omega)]; exact ⟨_, rfl, rfl, (decide_eq_false (by omega)).symm⟩
    ·rw [if_neg h18, if_neg h18]
     by_cases h20 : op = 20
     ·rw [if_pos h20, if_pos h20]
      by_cases h0 : l.length = 0
      ·rw [if_pos (by omega)]; exact ⟨_, rfl, rfl, by simp [Znw, h0]⟩
      ·rw [if_neg (by omega)]; exact ⟨_, rfl, rfl, by simp [Znw, h0]⟩
     ·rw [if_neg h20, if_neg h20]; exact ⟨_, rfl, rfl, rfl⟩
end Old
end Ev
end Go.Proofs.YtelfeeoobdpmkaaGreat
/- The ways that are open ahead of a place, and its branch: plain. -/
namespace Go.Proofs.YtelfeeoobdpmkaaGreat
open Go.RowKit
namespace Ev
namespace Old
set_option linter.unusedVariables false
set_option linter.unusedSimpArgs false
def ZuY : Zah → List R_ii
 | .r0 => []
 | .r1 l => l
section
variable {L : List RA} {n c N : Nat} {at_ : Int}
theorem Zug (k : Nat) (l : List R_ii) (hl : l.length ≤ 8) (hk : k < n) (hn : n ≤ L.length) (hp : (k : Int) < at_) (hL : n ≤ 512) :
  ref12_opens_h1m1 L n c at_ N l k = some (.inl (.h1m1 (stepL l (L.getD k RA.z).a0 k) (k + 1))) := by
 unfold ref12_opens_h1m1
 rw [if_pos hp, if_pos (by omega), if_pos (by omega)]
 obtain ⟨r, h1, h2, h3⟩ := ZuX l (L.getD k RA.z).a0 (L.getD k RA.z).a1 (L.getD k RA.z).a2 (L.getD k RA.z).a3 k N hl
 refine Zy h1 ?_
 rw [← h2]
 cases r <;> exact Zh (by omega) rfl
theorem Zuh (k : Nat) (hk : k < n) (hn : n ≤ L.length) (hp : (k : Int) < at_) (hL : n ≤ 512) :
  ref12_opens_h1m0 L n c at_ N k = some (.inl (if (L.getD k RA.z).a0 = 15 then .h1m1 (stepL [] (L.getD k RA.z).a0 k) (k + 1) else .h1m0 (k + 1))) ∧ ((L.getD k RA.z).a0 ≠ 15 → stepL [] (L.getD k RA.z).a0 k = []) := by
 constructor
 ·unfold ref12_opens_h1m0
  rw [if_pos hp, if_pos (by omega), if_pos (by omega), ZuW]
  by_cases h : (L.getD k RA.z).a0 = 15
  ·rw [if_pos h, if_pos h, h]; exact Zy rfl (Zh (by omega) rfl)
  ·rw [if_neg h, if_neg h]; exact Zy rfl (Zh (by omega) rfl)
 ·intro h
  unfold stepL
  rw [if_neg h]
  by_cases h16 : (L.getD k RA.z).a0 = 16
  ·rw [if_pos h16]; rfl
  ·rw [if_neg h16]; by_cases h17 : (L.getD k RA.z).a0 = 17
   ·rw [if_pos h17]; rfl
   ·rw [if_neg h17]
theorem Zsp (m : Nat) (hm : m ≤ n) (hn : n ≤ L.length) (hp : (m : Int) ≤ at_) (he : (m : Int) = at_ ∨ m = n) (hL : n ≤ 512) : ∀ d k f, k + d = m → d < f →
  Zbl (ref12_opensStep L n c at_ N) f (.h1m1 (opn L k) k) = some (.r1 (opn L m)) := by
 intro d
 induction d with
 | zero =>
  intro k f hk hf
  obtain ⟨f, rfl⟩ : ∃ j, f = j + 1 := ⟨f - 1, by omega⟩
  obtain rfl : k = m := by omega
  refine Zaa ?_
  show ref12_opens_h1m1 L n c at_ N (opn L k) k = _
  unfold ref12_opens_h1m1
  rcases he with he | he
  ·exact Zr (by omega) rfl
  ·exact ZdU (fun _ => Zr (by omega) rfl) (fun _ => rfl)
 | succ d ih =>
  intro k f hk hf
  obtain ⟨f, rfl⟩ : ∃ j, f = j + 1 := ⟨f - 1, by omega⟩
  exact (ZaX (Zug (c := c) k (opn L k) (opn_len L k) (by omega) hn (by omega) hL)).trans (ih (k + 1) f (by omega) (by omega))
theorem Zsq (m : Nat) (hm : m ≤ n) (hn : n ≤ L.length) (hp : (m : Int) ≤ at_) (he : (m : Int) = at_ ∨ m = n) (hL : n ≤ 512) : ∀ d k f, k + d = m → d < f → opn L k = [] →
  ∃ r, Zbl (ref12_opensStep L n c at_ N) f (.h1m0 k) = some r ∧ ZuY r = opn L m := by
 intro d
 induction d with
 | zero =>
  intro k f hk hf h0
  obtain ⟨f, rfl⟩ : ∃ j, f = j + 1 := ⟨f - 1, by omega⟩
  obtain rfl : k = m := by omega
  refine ⟨.r0, Zaa ?_, h0.symm⟩
  show ref12_opens_h1m0 L n c at_ N k = _
  unfold ref12_opens_h1m0
  rcases he with he | he
  ·exact Zr (by omega) rfl
  ·exact ZdU (fun _ => Zr (by omega) rfl) (fun _ => rfl)
 | succ d ih =>
  intro k f hk hf h0
  obtain ⟨f, rfl⟩ : ∃ j, f = j + 1 := ⟨f - 1, by omega⟩
  obtain ⟨h1, h2⟩ := Zuh (L := L) (c := c) (N := N) (at_ := at_) k (by omega) hn (by omega) hL
  have hs : opn L (k + 1) = stepL [] (L.getD k RA.z).a0 k := by show stepL (opn L k) _ _ = _; rw [h0]
  by_cases h : (L.getD k RA.z).a0 = 15
  ·rw [if_pos h, ← hs] at h1
   exact ⟨_, (ZaX h1).trans (Zsp m hm hn hp he hL d (k + 1) f (by omega) (by omega)), rfl⟩
  ·rw [if_neg h] at h1
   obtain ⟨r, q1, q2⟩ := ih (k + 1) f (by omega) (by omega) (by rw [hs]; exact h2 h)
   exact ⟨r, (ZaX h1).trans q1, q2⟩
theorem ZuJ (m : Nat) (hm : m ≤ n) (hn : n ≤ L.length) (hp : (m : Int) ≤ at_) (he : (m : Int) = at_ ∨ m = n) (hL : n ≤ 512) (hN : 520 ≤ N) : ∃ r, ref12_opens L n c at_ N = some r ∧ ZuY r = opn L m :=
 Zsq m hm hn hp he hL m 0 N (by omega) (by omega) rfl
theorem Zpe (m : Nat) (hm : m ≤ n) (hn : n ≤ L.length) (hp : (m : Int) ≤ at_) (he : (m : Int) = at_ ∨ m = n) (hL : n ≤ 512) (hN : 520 ≤ N) : ref12_branch L n c at_ N = some (.r0 (brP (opn L m)).a0 (brP (opn L m)).a1) := by
 obtain ⟨r, h1, h2⟩ := ZuJ (c := c) (N := N) m hm hn hp he hL hN
 refine Zy h1 ?_
 have hl := opn_len L m
 cases r with
 | r0 =>
  have h2 : opn L m = [] := h2.symm
  rw [h2]; rfl
 | r1 l =>
  have h2 : l = opn L m := h2
  subst h2
  unfold brP Zbh
  by_cases h : (opn L m).length = 0
  ·rw [if_pos h]; exact Zh (by omega) rfl
  ·rw [if_neg h]; exact Zr (by omega) (Zh (by omega) rfl)
end
end Old
end Ev
end Go.Proofs.YtelfeeoobdpmkaaGreat
/- What the program's scan does with one instruction: plain. -/
namespace Go.Proofs.YtelfeeoobdpmkaaGreat
open Go.RowKit
namespace Ev
namespace Old
set_option linter.unusedVariables false
set_option linter.unusedSimpArgs false

def Zdn (x : RA) (N : Nat) : Bool := match Zag x.a0 x.a1 x.a2 x.a3 N with
 | some (.r0 b) => b
 | none => false
theorem Zg1 (x : RA) {N : Nat} (hN : 4 ≤ N) : Z2 x.a0 x.a1 x.a2 x.a3 N = some (.r0 (if Zdn x N = true then 0 else 100)) ∧ Zag x.a0 x.a1 x.a2 x.a3 N = some (.r0 (Zdn x N)) ∧ Zc2 x.a0 x.a1 x.a2 x.a3 (Zdn x N) := by
 obtain ⟨b, h1, h2, h3⟩ := ZuI x.a0 x.a1 x.a2 x.a3 N hN
 have e : Zdn x N = b := by unfold Zdn; rw [h2]
 rw [e]; exact ⟨h1, h2, h3⟩
def Zc3 (l : List R_ii) (x : RA) (N : Nat) : Int := if (Zdn x N && stepB l x.a0) = true then 0 else if x.a0 = 15 ∧ Zdn x N = true then 140 else 120
def Rel (s l : List R_ii) : Prop := s.length = l.length ∧ ∀ j, j < l.length → (s.getD j R_ii.z).a0 = (l.getD j R_ii.z).a0 ∧ (0 ≤ (s.getD j R_ii.z).a1 ↔ (l.getD j R_ii.z).a1 = 1) ∧ ((l.getD j R_ii.z).a1 = 0 ∨ (l.getD j R_ii.z).a1 = 1)
def Bd (s : List R_ii) (k : Nat) : Prop := ∀ j, j < s.length → 0 ≤ (s.getD j R_ii.z).a0 ∧ (s.getD j R_ii.z).a0 < (k : Int) ∧ (s.getD j R_ii.z).a1 < (k : Int)
def arP (s : List R_ii) : R_ii := if s.length = 0 then ⟨-1, 0⟩ else if 0 ≤ (Zbh s).a1 then ⟨(Zbh s).a0, 1⟩ else ⟨(Zbh s).a0, 0⟩
theorem ar_br {s l : List R_ii} (h : Rel s l) : arP s = brP l := by
 unfold arP brP
 rw [h.1]
 by_cases h0 : l.length = 0
 ·rw [if_pos h0, if_pos h0]
 ·rw [if_neg h0, if_neg h0]
  obtain ⟨e1, e2, e3⟩ := h.2 (l.length - 1) (by omega)
  unfold Zbh
  rw [h.1, e1]
  generalize l.getD (l.length - 1) R_ii.z = y at *
  obtain ⟨y0, y1⟩ := y
  simp only at e1 e2 e3 ⊢
  by_cases h1 : 0 ≤ (s.getD (l.length - 1) R_ii.z).a1
  ·rw [if_pos h1, e2.1 h1]
  ·rw [if_neg h1]; rcases e3 with e3 | e3
   ·rw [e3]
   ·exact absurd (e2.2 e3) h1
section
variable {L : List RA} {n c N : Nat} {s l B : List R_ii} {M D : List Int} {d w e : Int} {k : Nat}
theorem ZsC (x : RA) (hr : Rel s l) (hb : l.length ≤ 8) (hN : 4 ≤ N) : ZaT x.a0 x.a1 x.a2 x.a3 s L n c B M D d w e N = some (.r0 (Zc3 l x N)) := by
 obtain ⟨h1, h2, h3⟩ := Zg1 x hN
 unfold ZaT Zc3 stepB
 generalize Z2 x.a0 x.a1 x.a2 x.a3 N = q at h1 ⊢
 subst h1
 generalize Zdn x N = b
 clear h2 h3
 generalize x.a0 = op
 have hl := hr.1
 have c8 : ((8 : Int) ≤ (s.length : Int)) ↔ 8 ≤ l.length := by omega
 have c0 : ((s.length : Int) = 0) ↔ l.length = 0 := by omega
 have cp : ((0 : Int) < (s.length : Int)) ↔ 0 < l.length := by omega
 have cm : ((s.length : Int) - 1 ≤ 9223372036854775807) ↔ True := by constructor <;> intro _ <;> first | trivial | omega
 simp only [c8, c0, cp, cm, Option.bind_some, if_true]
 by_cases h15 : op = 15
 ·subst h15
  by_cases h8 : 8 ≤ l.length
  ·have h9 : ¬ l.length < 8 := by omega
   cases b <;> simp [h8, h9]
  ·have h9 : l.length < 8 := by omega
   cases b <;> simp [h8, h9]
 ·by_cases h16 : op = 16
  ·subst h16
   by_cases h0 : l.length = 0
   ·simp [h0]
   ·have ct : (0 ≤ (s.getD (s.length - 1) R_ii.z).a1) ↔ (Zbh l).a1 = 1 := by
     rw [hl]; exact (hr.2 (l.length - 1) (by omega)).2.1
    simp only [ct]
    by_cases h1 : (Zbh l).a1 = 1 <;> cases b <;> simp [h0, h1]
  ·by_cases h17 : op = 17
   ·subst h17
    by_cases h0 : l.length = 0
    ·simp [h0]
    ·have h9 : 0 < l.length := by omega
     cases b <;> simp [h0, h9]
   ·by_cases h18 : op = 18
    ·subst h18
     by_cases h0 : l.length = 0
     ·simp [h0]
     ·have h9 : 0 < l.length := by omega
      cases b <;> simp [h0, h9]
    ·by_cases h20 : op = 20
     ·subst h20
      by_cases h0 : l.length = 0
      ·cases b <;> simp [h0]
      ·have h9 : 0 < l.length := by omega
       cases b <;> simp [h0, h9]
     ·cases b <;> simp [h15, h16, h17, h18, h20]
theorem Zvt : Za1 s L n c B M D d w e N = if (s.length : Int) - 1 ≤ 9223372036854775807 then some (.r0 (arP s).a0 (arP s).a1) else Za1 s L n c B M D d w e N := by
 by_cases h : (s.length : Int) - 1 ≤ 9223372036854775807
 ·rw [if_pos h]
  unfold Za1 arP Zbh
  by_cases h0 : s.length = 0
  ·rw [if_pos (by omega), if_pos h0]
  ·rw [if_neg (by omega), if_neg h0, if_pos h]
   by_cases h1 : (0 : Int) ≤ (s.getD (s.length - 1) R_ii.z).a1
   ·rw [if_pos h1, if_pos h1]
   ·rw [if_neg h1, if_neg h1]
 ·rw [if_neg h]
theorem around (hs : s.length ≤ 1000) : Za1 s L n c B M D d w e N = some (.r0 (arP s).a0 (arP s).a1) := by
 rw [Zvt, if_pos (by omega)]
def stk (s : List R_ii) (op : Int) (k : Nat) : List R_ii := if op = 15 then s ++ [⟨(k : Int), -1⟩] else if op = 16 then s.set (s.length - 1) ⟨(Zbh s).a0, (k : Int)⟩ else if op = 17 then s.take (s.length - 1) else s
def mtk (M : List Int) (s : List R_ii) (op : Int) (k : Nat) : List Int := if op = 16 then (M ++ [-1]).set (Zbh s).a0.toNat k else if op = 17 then ((M ++ [-1]).set (if 0 ≤ (Zbh s).a1 then (Zbh s).a1 else (Zbh s).a0).toNat k).set k (Zbh s).a0 else M ++ [-1]
def blk (D : List Int) (s : List R_ii) (op : Int) (k : Nat) : List Int := if op = 15 then if s.length = 0 then D ++ [(k : Int)] else D else D
def dpk (d : Int) (s : List R_ii) (op : Int) : Int := if op = 15 then (if ((s.length + 1 : Nat) : Int) > d then ((s.length + 1 : Nat) : Int) else d) else d
def Ztz (s B : List R_ii) (M D : List Int) (d : Int) (op : Int) (k : Nat) : ZN :=
 if op = 15 then if s.length = 0 then .r0 (B ++ [arP s]) else .r1 (stk s op k) (B ++ [arP s]) (mtk M s op k) (dpk d s op)
 else if op = 17 then .r1 (stk s op k) (B ++ [arP s]) (mtk M s op k) d else .r2 (stk s op k) (B ++ [arP s]) (mtk M s op k)
theorem ZsD {op : Int} (ho : stepB l op = true) (h : op = 16 ∨ op = 17) : 0 < l.length := by
 unfold stepB at ho
 rcases h with h | h <;> subst h
 ·rw [if_neg (by decide), if_pos rfl] at ho
  by_cases h0 : l.length = 0
  ·rw [if_pos h0] at ho; cases ho
  ·omega
 ·rw [if_neg (by decide), if_neg (by decide), if_pos rfl] at ho
  exact of_decide_eq_true ho
theorem Zvu {op : Int} (hk : k < 512) (hr : Rel s l) (hl8 : l.length ≤ 8) (hb : Bd s k) (hB : B.length = k) (hM : M.length = k) (hD : D.length ≤ k) (ho : stepB l op = true) :
  ZaL (k : Int) op s L n c B M D d w e N = some (Ztz s B M D d op k) := by
 have hsl := hr.1
 have ht : ((s.length : Int) - 1).toNat = s.length - 1 := by omega
 have hat : ((k : Int)).toNat = k := Int.toNat_natCast k
 unfold ZaL
 refine Zy (around (by omega)) (Zh (by omega) (Zh (by omega) ?_))
 unfold Ztz
 by_cases h15 : op = 15
 ·rw [if_pos h15, if_pos h15]
  by_cases h0 : s.length = 0
  ·rw [if_pos h0]
   exact Zh (by omega) (Zh (by omega) rfl)
  ·rw [if_neg h0]
   have e1 : stk s op k = s ++ [⟨(k : Int), -1⟩] := if_pos h15
   have e2 : mtk M s op k = M ++ [-1] := by unfold mtk; rw [if_neg (by omega), if_neg (by omega)]
   have e3 : dpk d s op = (if ((s.length + 1 : Nat) : Int) > d then ((s.length + 1 : Nat) : Int) else d) := if_pos h15
   rw [e1, e2, e3]
   exact Zr (by omega) (Zh (by omega) rfl)
 ·rw [if_neg h15, if_neg h15]
  by_cases h16 : op = 16
  ·have hp := ZsD ho (.inl h16)
   obtain ⟨b1, b2, b3⟩ := hb (s.length - 1) (by omega)
   have e1 : stk s op k = s.set (s.length - 1) ⟨(Zbh s).a0, (k : Int)⟩ := by unfold stk; rw [if_neg h15, if_pos h16]
   have e2 : mtk M s op k = (M ++ [-1]).set (Zbh s).a0.toNat k := if_pos h16
   have h17 : ¬ op = 17 := by omega
   rw [if_pos h16, if_neg h17, ht, e1, e2]
   exact Zh (by omega) (Zh (by omega) (Zh b1 (Zh (by omega) rfl)))
  ·rw [if_neg h16]
   by_cases h17 : op = 17
   ·have hp := ZsD ho (.inr h17)
    obtain ⟨b1, b2, b3⟩ := hb (s.length - 1) (by omega)
    rw [if_pos h17, if_pos h17, ht, hat]
    have e1 : stk s op k = s.take (s.length - 1) := by unfold stk; rw [if_neg h15, if_neg h16, if_pos h17]
    have e2 : mtk M s op k = ((M ++ [-1]).set (if 0 ≤ (Zbh s).a1 then (Zbh s).a1 else (Zbh s).a0).toNat k).set k (Zbh s).a0 := by unfold mtk; rw [if_neg h16, if_pos h17]
    rw [e1, e2]
    by_cases h1 : (0 : Int) ≤ (s.getD (s.length - 1) R_ii.z).a1
    ·rw [show Zbh s = s.getD (s.length - 1) R_ii.z from rfl, if_pos h1, if_pos h1]
     refine Zh (by omega) (Zh (by omega) (Zh (by omega) (Zh (by omega) (Zh (by omega) (Zy (a := .r0) ?_ rfl)))))
     unfold Zba
     exact Zh (by omega) (Zh (by omega) rfl)
    ·rw [show Zbh s = s.getD (s.length - 1) R_ii.z from rfl, if_neg h1, if_neg h1]
     refine Zh (by omega) (Zh (by omega) (Zh b1 (Zh (by omega) (Zh (by omega) (Zh (by omega) (Zy (a := .r0) ?_ rfl))))))
     unfold Zba
     exact Zh (by omega) (Zh (by omega) rfl)
   ·rw [if_neg h17, if_neg h17]
    have e1 : stk s op k = s := by unfold stk; rw [if_neg h15, if_neg h16, if_neg h17]
    have e2 : mtk M s op k = M ++ [-1] := by unfold mtk; rw [if_neg h16, if_neg h17]
    rw [e1, e2]
theorem Zvv (hk : k < n) (hn : n ≤ L.length) (hL : n ≤ 512) (hN : 4 ≤ N) (hr : Rel s l) (hl8 : l.length ≤ 8) (hb : Bd s k) (hB : B.length = k) (hM : M.length = k) (hD : D.length ≤ k)
  (hf : Zdn (L.getD k RA.z) N = true) (ho : stepB l (L.getD k RA.z).a0 = true) :
  check_look_h1m1 L n c N k s B M D d = some (.inl (.h1m1 (k + 1) (stk s (L.getD k RA.z).a0 k) (B ++ [arP s]) (mtk M s (L.getD k RA.z).a0 k) (blk D s (L.getD k RA.z).a0 k) (dpk d s (L.getD k RA.z).a0))) := by
 unfold check_look_h1m1
 have he : Zc3 l (L.getD k RA.z) N = 0 := by unfold Zc3; rw [hf, ho]; rfl
 refine Zh (by omega) (Zh (by omega) (Zy (ZsC (L.getD k RA.z) hr hl8 hN) (Zr (by rw [he]; decide) (Zy (Zvu (by omega) hr hl8 hb hB hM hD ho) ?_))))
 generalize (L.getD k RA.z).a0 = op at ho ⊢
 unfold Ztz
 by_cases h15 : op = 15
 ·rw [if_pos h15]
  by_cases h0 : s.length = 0
  ·rw [if_pos h0]
   have e1 : stk s op k = s ++ [⟨(k : Int), -1⟩] := if_pos h15
   have e2 : mtk M s op k = M ++ [-1] := by unfold mtk; rw [if_neg (by omega), if_neg (by omega)]
   have e3 : dpk d s op = (if ((s.length + 1 : Nat) : Int) > d then ((s.length + 1 : Nat) : Int) else d) := if_pos h15
   have e4 : blk D s op k = D ++ [(k : Int)] := by unfold blk; rw [if_pos h15, if_pos h0]
   rw [e1, e2, e3, e4]
   exact Zh (by omega) rfl
  ·rw [if_neg h0]
   have : blk D s op k = D := by unfold blk; rw [if_pos h15, if_neg h0]
   rw [this]
   exact Zh (by omega) rfl
 ·rw [if_neg h15]
  have h1 : blk D s op k = D := by unfold blk; rw [if_neg h15]
  have h2 : dpk d s op = d := by unfold dpk; rw [if_neg h15]
  rw [h1, h2]
  by_cases h17 : op = 17
  ·rw [if_pos h17]; exact Zh (by omega) rfl
  ·rw [if_neg h17]; exact Zh (by omega) rfl
theorem Zvw (hk : k < n) (hn : n ≤ L.length) (hN : 4 ≤ N) (hr : Rel s l) (hl8 : l.length ≤ 8) (h : Zc3 l (L.getD k RA.z) N ≠ 0) :
  check_look_h1m1 L n c N k s B M D d = some (.inr (.r2 s B M D d (k : Int) (Zc3 l (L.getD k RA.z) N))) := by
 unfold check_look_h1m1
 exact Zh (by omega) (Zh (by omega) (Zy (ZsC (L.getD k RA.z) hr hl8 hN) (Zh h rfl)))
end
end Old
end Ev
end Go.Proofs.YtelfeeoobdpmkaaGreat
/- The program's scan of a whole program: plain. -/
namespace Go.Proofs.YtelfeeoobdpmkaaGreat
open Go.RowKit
namespace Ev
namespace Old
set_option linter.unusedVariables false
set_option linter.unusedSimpArgs false

theorem Zi5 {α : Type} {l : List α} {m j : Nat} {d : α} (h : j < m) : (l.take m).getD j d = l.getD j d := by
 rw [List.getD_eq_getElem?_getD, List.getD_eq_getElem?_getD, List.getElem?_take_of_lt h]
theorem Zvx {s l : List R_ii} {op : Int} {k : Nat} (hr : Rel s l) (ho : stepB l op = true) : Rel (stk s op k) (stepL l op k) := by
 have hl := hr.1
 unfold stk stepL
 unfold stepB at ho
 by_cases h15 : op = 15
 ·rw [if_pos h15] at ho
  have ho := of_decide_eq_true ho
  rw [if_pos h15, if_pos h15, if_neg (by omega)]
  refine ⟨by simp [hl], fun j hj => ?_⟩
  have hj : j < l.length + 1 := by simpa using hj
  by_cases e : j < l.length
  ·rw [ZcV (by omega), ZcV e]; exact hr.2 j e
  ·obtain rfl : j = l.length := by omega
   rw [Zft, ← hl, Zft]
   exact ⟨rfl, ⟨fun h => absurd h (show ¬ (0 : Int) ≤ -1 by decide), fun h => absurd h (show ¬ (0 : Int) = 1 by decide)⟩, .inl rfl⟩
 ·rw [if_neg h15] at ho
  rw [if_neg h15, if_neg h15]
  by_cases h16 : op = 16
  ·rw [if_pos h16] at ho
   rw [if_pos h16, if_pos h16]
   by_cases h0 : l.length = 0
   ·rw [if_pos h0] at ho; cases ho
   ·rw [if_neg h0] at ho
    by_cases h1 : (Zbh l).a1 = 1
    ·rw [if_pos h1] at ho; cases ho
    ·rw [if_neg h0, if_neg h1]
     refine ⟨by simp [hl]; omega, fun j hj => ?_⟩
     have hj : j < l.length := by simp at hj; omega
     rw [Zr6 (by omega)]
     by_cases e : j = s.length - 1
     ·rw [if_pos e]
      have e2 : j = (l.take (l.length - 1)).length := by simp; omega
      have e3 : (l.take (l.length - 1) ++ [(⟨(Zbh l).a0, 1⟩ : R_ii)]).getD j R_ii.z = ⟨(Zbh l).a0, 1⟩ := by rw [e2, Zft]
      rw [e3]
      refine ⟨?_, ⟨fun _ => rfl, fun _ => Int.natCast_nonneg k⟩, .inr rfl⟩
      unfold Zbh
      rw [hl]; exact (hr.2 (l.length - 1) (by omega)).1
     ·rw [if_neg e, ZcV (by simp; omega), Zi5 (by omega)]
      exact hr.2 j hj
  ·rw [if_neg h16] at ho
   rw [if_neg h16, if_neg h16]
   by_cases h17 : op = 17
   ·rw [if_pos h17, if_pos h17]
    refine ⟨by simp [hl], fun j hj => ?_⟩
    have hj : j < l.length - 1 := by simp at hj; omega
    rw [Zi5 (by omega), Zi5 hj]
    exact hr.2 j (by omega)
   ·rw [if_neg h17, if_neg h17]; exact hr
theorem ZvF {s : List R_ii} {op : Int} {k : Nat} (hb : Bd s k) (hs : op = 16 → 0 < s.length) : Bd (stk s op k) (k + 1) := by
 have up : Bd s (k + 1) := fun j hj => by obtain ⟨b1, b2, b3⟩ := hb j hj; exact ⟨b1, by omega, by omega⟩
 unfold stk
 by_cases h15 : op = 15
 ·rw [if_pos h15]
  intro j hj
  have hj : j < s.length + 1 := by simpa using hj
  by_cases e : j < s.length
  ·rw [ZcV e]; exact up j e
  ·obtain rfl : j = s.length := by omega
   rw [Zft]
   exact ⟨Int.natCast_nonneg k, (show (k : Int) < ((k + 1 : Nat) : Int) by omega), (show (-1 : Int) < ((k + 1 : Nat) : Int) by omega)⟩
 ·rw [if_neg h15]
  by_cases h16 : op = 16
  ·rw [if_pos h16]
   intro j hj
   have hj : j < s.length := by simpa using hj
   rw [Zr6 (by omega)]
   by_cases e : j = s.length - 1
   ·rw [if_pos e]
    obtain ⟨b1, b2, b3⟩ := up (s.length - 1) (by omega)
    exact ⟨b1, b2, (show (k : Int) < ((k + 1 : Nat) : Int) by omega)⟩
   ·rw [if_neg e]; exact up j hj
  ·rw [if_neg h16]
   by_cases h17 : op = 17
   ·rw [if_pos h17]
    intro j hj
    have hj : j < s.length - 1 := by simp at hj; omega
    rw [Zi5 hj]; exact up j (by omega)
   ·rw [if_neg h17]; exact up
section
variable (L : List RA)
def skL : Nat → List R_ii
 | 0 => []
 | k + 1 => stk (skL k) (L.getD k RA.z).a0 k
def brs : Nat → List R_ii
 | 0 => []
 | k + 1 => brs k ++ [arP (skL L k)]
def mtL : Nat → List Int
 | 0 => []
 | k + 1 => mtk (mtL k) (skL L k) (L.getD k RA.z).a0 k
def blL : Nat → List Int
 | 0 => []
 | k + 1 => blk (blL k) (skL L k) (L.getD k RA.z).a0 k
def dpL : Nat → Int
 | 0 => 0
 | k + 1 => dpk (dpL k) (skL L k) (L.getD k RA.z).a0
def okB (N k : Nat) : Bool := Zdn (L.getD k RA.z) N && stepB (opn L k) (L.getD k RA.z).a0
def fb (N : Nat) : Nat → Nat → Option Nat
 | 0, _ => none
 | d + 1, k => if okB L N k = true then fb N d (k + 1) else some k
def jb (n k : Nat) (to : Int) : Bool := decide ((n : Int) < to) || !decide ((brP (opn L to.toNat)).a0 = (brP (opn L k)).a0 ∧ (brP (opn L to.toNat)).a1 = (brP (opn L k)).a1)
def ZiO (n k : Nat) : Bool := if (L.getD k RA.z).a0 = 8 then jb L n k (L.getD k RA.z).a1 else if (L.getD k RA.z).a0 = 9 then jb L n k (L.getD k RA.z).a2 else false
def fj (n : Nat) : Nat → Nat → Option Nat
 | 0, _ => none
 | d + 1, k => if ZiO L n k = true then some k else fj n d (k + 1)
def ZdK (n N : Nat) (d k : Nat) : Int × Int := match fb L N d k with
 | some j => ((j : Int), Zc3 (opn L j) (L.getD j RA.z) N)
 | none => if (opn L n).length = 0 then (match fj L n n 0 with
  | some j => ((j : Int), 120)
  | none => (-1, 0)) else ((n : Int), 120)
end
theorem Zr7 (L : List RA) : ∀ k, (mtL L k).length = k
 | 0 => rfl
 | k + 1 => by
  unfold mtL mtk
  repeat' split
  all_goals simp [Zr7 L k]
theorem Zec (L : List RA) : ∀ k, (brs L k).length = k
 | 0 => rfl
 | k + 1 => by unfold brs; simp [Zec L k]
theorem bl_len (L : List RA) : ∀ k, (blL L k).length ≤ k
 | 0 => Nat.le_refl _
 | k + 1 => by
  have := bl_len L k
  unfold blL blk
  repeat' split
  all_goals first | omega | (simp; omega)
theorem inv {L : List RA} {N : Nat} : ∀ k, (∀ j, j < k → okB L N j = true) → Rel (skL L k) (opn L k) ∧ Bd (skL L k) k
 | 0, _ => ⟨⟨rfl, fun j hj => absurd hj (Nat.not_lt_zero j)⟩, fun j hj => absurd hj (Nat.not_lt_zero j)⟩
 | k + 1, h => by
  obtain ⟨h1, h2⟩ := inv k fun j hj => h j (by omega)
  have hk := h k (by omega)
  unfold okB at hk
  rw [Bool.and_eq_true] at hk
  refine ⟨Zvx h1 hk.2, ZvF h2 fun e => ?_⟩
  have := hk.2
  rw [e] at this
  unfold stepB at this
  rw [if_neg (by decide), if_pos rfl] at this
  rw [h1.1]
  by_cases h0 : (opn L k).length = 0
  ·rw [if_pos h0] at this; cases this
  ·omega
theorem ZsE {L : List RA} {N : Nat} : ∀ k, (∀ j, j < k → okB L N j = true) → ∀ j, j < k → (brs L k).getD j R_ii.z = brP (opn L j)
 | 0, _, j, hj => absurd hj (Nat.not_lt_zero j)
 | k + 1, h, j, hj => by
  unfold brs
  by_cases e : j < k
  ·rw [ZcV (by rw [Zec]; exact e)]; exact ZsE k (fun i hi => h i (by omega)) j e
  ·obtain rfl : j = k := by omega
   have := Zft (L := brs L j) (v := arP (skL L j)) (d := R_ii.z)
   rw [Zec] at this
   rw [this]; exact ar_br (inv j fun i hi => h i (by omega)).1
def rW : Z5 → Int
 | .r0 _ => 0
 | .r1 w _ => w
 | .r2 _ _ _ _ _ w _ => w
 | .r3 _ _ w _ => w
def rE : Z5 → Int
 | .r0 e => e
 | .r1 _ e => e
 | .r2 _ _ _ _ _ _ e => e
 | .r3 _ _ _ e => e
def rB : Z5 → List R_ii
 | .r2 _ b _ _ _ _ _ => b
 | .r3 b _ _ _ => b
 | _ => []
def rM : Z5 → List Int
 | .r2 _ _ m _ _ _ _ => m
 | .r3 _ m _ _ => m
 | _ => []
def rD : Z5 → List Int
 | .r2 _ _ _ d _ _ _ => d
 | _ => []
def rd : Z5 → Int
 | .r2 _ _ _ _ d _ _ => d
 | _ => 0
def ZeE (L : List RA) (n N d k : Nat) (r : Z5) : Prop := rW r = (ZdK L n N d k).1 ∧ rE r = (ZdK L n N d k).2 ∧
 ((ZdK L n N d k).2 = 0 → rB r = brs L n ++ [⟨-1, 0⟩] ∧ rM r = mtL L n ∧ rD r = blL L n ∧ rd r = dpL L n)
def tgt (x : RA) : Int := if x.a0 = 8 then x.a1 else if x.a0 = 9 then x.a2 else 0
def JF (L : List RA) (n : Nat) : Prop := ∀ k, k < n → 0 ≤ tgt (L.getD k RA.z) ∧ tgt (L.getD k RA.z) ≤ 512
theorem Zqc {L : List RA} {n N : Nat} (hN : 4 ≤ N) (h : ∀ j, j < n → okB L N j = true) : JF L n := by
 intro k hk
 have := h k hk
 unfold okB at this
 rw [Bool.and_eq_true] at this
 obtain ⟨-, -, f8, f9, -⟩ := Zg1 (L.getD k RA.z) hN
 unfold tgt
 by_cases h8 : (L.getD k RA.z).a0 = 8
 ·rw [if_pos h8]; exact f8 h8 this.1
 ·rw [if_neg h8]
  by_cases h9 : (L.getD k RA.z).a0 = 9
  ·rw [if_pos h9]; exact f9 h9 this.1
  ·rw [if_neg h9]; omega
theorem target_is (x : RA) (N : Nat) : Zbi x.a0 x.a1 x.a2 x.a3 N = some (.r0 (tgt x) (decide (x.a0 = 8 ∨ x.a0 = 9))) := by
 unfold Zbi tgt
 by_cases h8 : x.a0 = 8
 ·rw [if_pos h8, if_pos h8]; simp [h8]
 ·rw [if_neg h8, if_neg h8]
  by_cases h9 : x.a0 = 9
  ·rw [if_pos h9, if_pos h9]; simp [h9]
  ·rw [if_neg h9, if_neg h9]; simp [h8, h9]
theorem rtarget_is (x : RA) (N : Nat) : Zcg x.a0 x.a1 x.a2 x.a3 N = some (.r0 (tgt x) (decide (x.a0 = 8 ∨ x.a0 = 9))) := by
 unfold Zcg tgt
 by_cases h8 : x.a0 = 8
 ·rw [if_pos h8, if_pos h8]; simp [h8]
 ·rw [if_neg h8, if_neg h8]
  by_cases h9 : x.a0 = 9
  ·rw [if_pos h9, if_pos h9]; simp [h9]
  ·rw [if_neg h9, if_neg h9]; simp [h8, h9]
theorem Zg2 (L : List RA) (n k : Nat) : ZiO L n k = (decide ((L.getD k RA.z).a0 = 8 ∨ (L.getD k RA.z).a0 = 9) && jb L n k (tgt (L.getD k RA.z))) := by
 unfold ZiO tgt
 by_cases h8 : (L.getD k RA.z).a0 = 8
 ·rw [if_pos h8, if_pos h8, decide_eq_true (.inl h8), Bool.true_and]
 ·rw [if_neg h8, if_neg h8]
  by_cases h9 : (L.getD k RA.z).a0 = 9
  ·rw [if_pos h9, if_pos h9, decide_eq_true (.inr h9), Bool.true_and]
  ·rw [if_neg h9, if_neg h9, decide_eq_false (fun h => h.elim h8 h9), Bool.false_and]
def Zck (L : List RA) (n d k : Nat) : Int × Int := match fj L n d k with
 | some j => ((j : Int), 120)
 | none => (-1, 0)
theorem ZjR {L : List RA} {n d k : Nat} (h : ZiO L n k = true) : Zck L n (d + 1) k = ((k : Int), 120) := by unfold Zck fj; rw [if_pos h]
theorem ZlU {L : List RA} {n d k : Nat} (h : ¬ ZiO L n k = true) : Zck L n (d + 1) k = Zck L n d (k + 1) := by unfold Zck; rw [fj, if_neg h]

section
variable {L : List RA} {n c N : Nat} {s B : List R_ii} {M D : List Int} {d_ : Int}
theorem Zui (hn : n ≤ L.length) (hL : n ≤ 512) (hj : JF L n) (hB : B.length = n + 1) (hg : ∀ j, j ≤ n → B.getD j R_ii.z = brP (opn L j)) : ∀ d k f, k + d = n → d < f →
  Zbl (check_scan_aims_2Step L n c B M d_ (-1) 0 N) f (.h1m0 k) = some (.r0 (Zck L n d k).1 (Zck L n d k).2) := by
 intro d
 induction d with
 | zero =>
  intro k f hk hf
  obtain ⟨f, rfl⟩ : ∃ j, f = j + 1 := ⟨f - 1, by omega⟩
  refine Zaa ?_
  show check_scan_aims_2_h1m0 L n c B M d_ (-1) 0 N k = _
  unfold check_scan_aims_2_h1m0
  exact Zr (by omega) rfl
 | succ d ih =>
  intro k f hk hf
  obtain ⟨f, rfl⟩ : ∃ j, f = j + 1 := ⟨f - 1, by omega⟩
  obtain ⟨j1, j2⟩ := hj k (by omega)
  by_cases hb : ZiO L n k = true
  ·rw [ZjR hb]
   refine Zaa ?_
   rw [Zg2, Bool.and_eq_true] at hb
   show check_scan_aims_2_h1m0 L n c B M d_ (-1) 0 N k = _
   unfold check_scan_aims_2_h1m0
   refine Zh (by omega) (Zh (by omega) (Zy (target_is _ _) (Zh hb.1 (ZdU (fun _ => rfl) (fun h => Zh j1 (Zh (by omega) (Zh (by omega) (Zh ?_ rfl))))))))
   rw [hg _ (by omega), hg k (by omega)]
   have := hb.2
   unfold jb at this
   rw [decide_eq_false h, Bool.false_or, Bool.not_eq_true', decide_eq_false_iff_not] at this
   exact this
  ·rw [ZlU hb]
   refine (ZaX (y := .h1m0 (k + 1)) ?_).trans (ih (k + 1) f (by omega) (by omega))
   rw [Zg2, Bool.and_eq_true] at hb
   show check_scan_aims_2_h1m0 L n c B M d_ (-1) 0 N k = _
   unfold check_scan_aims_2_h1m0
   refine Zh (by omega) (Zh (by omega) (Zy (target_is _ _) (ZdU (fun h1 => ?_) (fun h1 => Zh (by omega) rfl))))
   have hb : ¬ jb L n k (tgt (L.getD k RA.z)) = true := fun e => hb ⟨h1, e⟩
   unfold jb at hb
   simp only [Bool.or_eq_true, decide_eq_true_eq, Bool.not_eq_true', decide_eq_false_iff_not, not_or, Decidable.not_not] at hb
   refine Zr hb.1 (Zh j1 (Zh (by omega) (Zh (by omega) (Zr ?_ (Zh (by omega) rfl)))))
   rw [hg _ (by omega), hg k (by omega)]
   exact fun h => h hb.2
end

section
variable {L : List RA} {n c N : Nat} {s B : List R_ii} {M D : List Int} {d_ : Int}
theorem Zuj (hn : n ≤ L.length) (hL : n ≤ 512) (hj : JF L n) (hB : B.length = n + 1) (hg : ∀ j, j ≤ n → B.getD j R_ii.z = brP (opn L j)) : ∀ d k f, k + d = n → d < f →
  Zbl (check_scan_aims_3Step s L n c B M D d_ (-1) 0 N) f (.h1m0 k) = some (.r0 (Zck L n d k).1 (Zck L n d k).2) := by
 intro d
 induction d with
 | zero =>
  intro k f hk hf
  obtain ⟨f, rfl⟩ : ∃ j, f = j + 1 := ⟨f - 1, by omega⟩
  refine Zaa ?_
  show check_scan_aims_3_h1m0 s L n c B M D d_ (-1) 0 N k = _
  unfold check_scan_aims_3_h1m0
  exact Zr (by omega) rfl
 | succ d ih =>
  intro k f hk hf
  obtain ⟨f, rfl⟩ : ∃ j, f = j + 1 := ⟨f - 1, by omega⟩
  obtain ⟨j1, j2⟩ := hj k (by omega)
  by_cases hb : ZiO L n k = true
  ·rw [ZjR hb]
   refine Zaa ?_
   rw [Zg2, Bool.and_eq_true] at hb
   show check_scan_aims_3_h1m0 s L n c B M D d_ (-1) 0 N k = _
   unfold check_scan_aims_3_h1m0
   refine Zh (by omega) (Zh (by omega) (Zy (target_is _ _) (Zh hb.1 (ZdU (fun _ => rfl) (fun h => Zh j1 (Zh (by omega) (Zh (by omega) (Zh ?_ rfl))))))))
   rw [hg _ (by omega), hg k (by omega)]
   have := hb.2
   unfold jb at this
   rw [decide_eq_false h, Bool.false_or, Bool.not_eq_true', decide_eq_false_iff_not] at this
   exact this
  ·rw [ZlU hb]
   refine (ZaX (y := .h1m0 (k + 1)) ?_).trans (ih (k + 1) f (by omega) (by omega))
   rw [Zg2, Bool.and_eq_true] at hb
   show check_scan_aims_3_h1m0 s L n c B M D d_ (-1) 0 N k = _
   unfold check_scan_aims_3_h1m0
   refine Zh (by omega) (Zh (by omega) (Zy (target_is _ _) (ZdU (fun h1 => ?_) (fun h1 => Zh (by omega) rfl))))
   have hb : ¬ jb L n k (tgt (L.getD k RA.z)) = true := fun e => hb ⟨h1, e⟩
   unfold jb at hb
   simp only [Bool.or_eq_true, decide_eq_true_eq, Bool.not_eq_true', decide_eq_false_iff_not, not_or, Decidable.not_not] at hb
   refine Zr hb.1 (Zh j1 (Zh (by omega) (Zh (by omega) (Zr ?_ (Zh (by omega) rfl)))))
   rw [hg _ (by omega), hg k (by omega)]
   exact fun h => h hb.2
end
end Old
end Ev
end Go.Proofs.YtelfeeoobdpmkaaGreat
/- The program's look, and the document's answer: where something is wrong first, and why. -/
namespace Go.Proofs.YtelfeeoobdpmkaaGreat
open Go.RowKit
namespace Ev
namespace Old
set_option linter.unusedVariables false
set_option linter.unusedSimpArgs false

section
variable {L : List RA} {n c N : Nat}
theorem Zi6 {d k : Nat} (h : ¬ okB L N k = true) : ZdK L n N (d + 1) k = ((k : Int), Zc3 (opn L k) (L.getD k RA.z) N) := by unfold ZdK fb; rw [if_neg h]
theorem Zev {d k : Nat} (h : okB L N k = true) : ZdK L n N (d + 1) k = ZdK L n N d (k + 1) := by unfold ZdK; rw [fb, if_pos h]
theorem ZgX {k : Nat} : ZdK L n N 0 k = if (opn L n).length = 0 then Zck L n n 0 else ((n : Int), 120) := rfl
theorem ZlV {l : List R_ii} {x : RA} {N : Nat} (h : ¬ (Zdn x N && stepB l x.a0) = true) : Zc3 l x N ≠ 0 := by
 unfold Zc3
 rw [if_neg h]
 split <;> decide
theorem ok_and {k : Nat} (h : okB L N k = true) : Zdn (L.getD k RA.z) N = true ∧ stepB (opn L k) (L.getD k RA.z).a0 = true := by
 unfold okB at h; rwa [Bool.and_eq_true] at h
theorem Zew {k : Nat} (h : ∀ j, j < k → okB L N j = true) (hk : okB L N k = true) : ∀ j, j < k + 1 → okB L N j = true := fun j hj => by
 by_cases e : j < k
 ·exact h j e
 ·obtain rfl : j = k := by omega
  exact hk
theorem ZoF {d k : Nat} {r : Z5} (h : ¬ okB L N k = true) (h1 : rW r = (k : Int)) (h2 : rE r = Zc3 (opn L k) (L.getD k RA.z) N) : ZeE L n N (d + 1) k r := by
 unfold ZeE
 rw [Zi6 h]
 exact ⟨h1, h2, fun e => absurd e (ZlV h)⟩
theorem ZsF (h : ∀ j, j < n → okB L N j = true) (h0 : (opn L n).length = 0) : (brs L n ++ [(⟨-1, 0⟩ : R_ii)]).length = n + 1 ∧ ∀ j, j ≤ n → (brs L n ++ [(⟨-1, 0⟩ : R_ii)]).getD j R_ii.z = brP (opn L j) := by
 refine ⟨by simp [Zec], fun j hj => ?_⟩
 by_cases e : j < n
 ·rw [ZcV (by rw [Zec]; exact e)]; exact ZsE n h j e
 ·obtain rfl : j = n := by omega
  have := Zft (L := brs L j) (v := (⟨-1, 0⟩ : R_ii)) (d := R_ii.z)
  rw [Zec] at this
  rw [this]; unfold brP; rw [if_pos h0]
theorem Zoh (hn : n ≤ L.length) (hL : n ≤ 512) (hN : 520 ≤ N) : ∀ d k f, k + d = n → d < f → (∀ j, j < k → okB L N j = true) →
  ∃ r, Zbl (check_lookStep L n c N) f (.h1m1 k (skL L k) (brs L k) (mtL L k) (blL L k) (dpL L k)) = some r ∧ ZeE L n N d k r := by
 intro d
 induction d with
 | zero =>
  intro k f hk hf ha
  obtain ⟨f, rfl⟩ : ∃ j, f = j + 1 := ⟨f - 1, by omega⟩
  obtain rfl : k = n := by omega
  obtain ⟨hr, hb⟩ := inv k ha
  by_cases h0 : (opn L k).length = 0
  ·obtain ⟨g1, g2⟩ := ZsF ha h0
   refine ⟨.r2 (skL L k) (brs L k ++ [⟨-1, 0⟩]) (mtL L k) (blL L k) (dpL L k) (Zck L k k 0).1 (Zck L k k 0).2, Zaa ?_, ?_⟩
   ·show check_look_h1m1 L k c N k _ _ _ _ _ = _
    unfold check_look_h1m1
    refine Zr (by omega) (Zr (by have := hr.1; omega) (Zh (by rw [Zec]; omega) (Zy (a := .r0 (Zck L k k 0).1 (Zck L k k 0).2) ?_ rfl)))
    exact Zuj hn hL (Zqc (by omega) ha) g1 g2 k 0 N (by omega) (by omega)
   ·unfold ZeE
    rw [ZgX, if_pos h0]
    exact ⟨rfl, rfl, fun _ => ⟨rfl, rfl, rfl, rfl⟩⟩
  ·refine ⟨.r2 (skL L k) (brs L k) (mtL L k) (blL L k) (dpL L k) (k : Int) 120, Zaa ?_, ?_⟩
   ·show check_look_h1m1 L k c N k _ _ _ _ _ = _
    unfold check_look_h1m1
    exact Zr (by omega) (Zh (by have := hr.1; omega) rfl)
   ·unfold ZeE
    rw [ZgX, if_neg h0]
    exact ⟨rfl, rfl, fun e => absurd e (show (120 : Int) ≠ 0 by decide)⟩
 | succ d ih =>
  intro k f hk hf ha
  obtain ⟨f, rfl⟩ : ∃ j, f = j + 1 := ⟨f - 1, by omega⟩
  obtain ⟨hr, hb⟩ := inv k ha
  by_cases hok : okB L N k = true
  ·obtain ⟨o1, o2⟩ := ok_and hok
   obtain ⟨r, h1, h2⟩ := ih (k + 1) f (by omega) (by omega) (Zew ha hok)
   refine ⟨r, (ZaX ?_).trans h1, ?_⟩
   ·exact Zvv (by omega) hn hL (by omega) hr (opn_len L k) hb (Zec L k) (Zr7 L k) (bl_len L k) o1 o2
   ·unfold ZeE at h2 ⊢; rw [Zev hok]; exact h2
  ·refine ⟨_, Zaa (Zvw (by omega) hn (by omega) hr (opn_len L k) (ZlV hok)), ZoF hok rfl rfl⟩
theorem ZoG (x : RA) {B : List R_ii} {M : List Int} {d w e : Int} (hN : 4 ≤ N) : ZaU x.a0 x.a1 x.a2 x.a3 L n c B M d w e N = some (.r0 (Zc3 [] x N)) := by
 obtain ⟨h1, h2, h3⟩ := Zg1 x hN
 unfold ZaU Zc3 stepB
 generalize Z2 x.a0 x.a1 x.a2 x.a3 N = q at h1 ⊢
 subst h1
 generalize Zdn x N = b
 clear h2 h3
 generalize x.a0 = op
 by_cases h15 : op = 15
 ·subst h15; cases b <;> simp
 ·by_cases h16 : op = 16
  ·subst h16; cases b <;> simp
  ·by_cases h17 : op = 17
   ·subst h17; cases b <;> simp
   ·by_cases h18 : op = 18
    ·subst h18; cases b <;> simp
    ·by_cases h20 : op = 20
     ·subst h20; cases b <;> simp
     ·cases b <;> simp [h15, h16, h17, h18, h20]
theorem ZoH (x : RA) {d w e : Int} (hN : 4 ≤ N) : Zbf x.a0 x.a1 x.a2 x.a3 L n c d w e N = some (.r0 (Zc3 [] x N)) := by
 obtain ⟨h1, h2, h3⟩ := Zg1 x hN
 unfold Zbf Zc3 stepB
 generalize Z2 x.a0 x.a1 x.a2 x.a3 N = q at h1 ⊢
 subst h1
 generalize Zdn x N = b
 clear h2 h3
 generalize x.a0 = op
 by_cases h15 : op = 15
 ·subst h15; cases b <;> simp
 ·by_cases h16 : op = 16
  ·subst h16; cases b <;> simp
  ·by_cases h17 : op = 17
   ·subst h17; cases b <;> simp
   ·by_cases h18 : op = 18
    ·subst h18; cases b <;> simp
    ·by_cases h20 : op = 20
     ·subst h20; cases b <;> simp
     ·cases b <;> simp [h15, h16, h17, h18, h20]
def Clr (L : List RA) (k : Nat) : Prop := skL L k = [] ∧ opn L k = [] ∧ blL L k = [] ∧ dpL L k = 0
theorem Zr8 {k : Nat} (h : Clr L k) (h15 : (L.getD k RA.z).a0 ≠ 15) (hok : okB L N k = true) : Clr L (k + 1) ∧ brs L (k + 1) = brs L k ++ [⟨-1, 0⟩] ∧ mtL L (k + 1) = mtL L k ++ [-1] ∧ (L.getD k RA.z).a0 ≠ 16 ∧ (L.getD k RA.z).a0 ≠ 17 := by
 obtain ⟨h1, h2, h3, h4⟩ := h
 obtain ⟨o1, o2⟩ := ok_and hok
 rw [h2] at o2
 unfold stepB at o2
 rw [if_neg h15] at o2
 by_cases h16 : (L.getD k RA.z).a0 = 16
 ·rw [if_pos h16] at o2; cases o2
 ·rw [if_neg h16] at o2
  by_cases h17 : (L.getD k RA.z).a0 = 17
  ·rw [if_pos h17] at o2; cases o2
  ·refine ⟨⟨?_, ?_, ?_, ?_⟩, ?_, ?_, h16, h17⟩
   ·rw [skL, stk, if_neg h15, if_neg h16, if_neg h17]; exact h1
   ·rw [opn, stepL, if_neg h15, if_neg h16, if_neg h17]; exact h2
   ·rw [blL, blk, if_neg h15]; exact h3
   ·rw [dpL, dpk, if_neg h15]; exact h4
   ·rw [brs, h1]; rfl
   ·rw [mtL, mtk, if_neg h16, if_neg h17]
theorem Zpf {k : Nat} (h : Clr L k) (h15 : (L.getD k RA.z).a0 = 15) : skL L (k + 1) = [⟨(k : Int), -1⟩] ∧ brs L (k + 1) = brs L k ++ [⟨-1, 0⟩] ∧ mtL L (k + 1) = mtL L k ++ [-1] ∧ blL L (k + 1) = [(k : Int)] ∧ dpL L (k + 1) = 1 := by
 obtain ⟨h1, h2, h3, h4⟩ := h
 refine ⟨?_, ?_, ?_, ?_, ?_⟩
 ·rw [skL, stk, if_pos h15, h1]; rfl
 ·rw [brs, h1]; rfl
 ·rw [mtL, mtk, if_neg (by omega), if_neg (by omega)]
 ·rw [blL, blk, if_pos h15, h1, h3]; rfl
 ·rw [dpL, dpk, if_pos h15, h1, h4]; rfl
theorem Zt0 (hn : n ≤ L.length) (hL : n ≤ 512) (hN : 520 ≤ N) : ∀ d k f, k + d = n → d < f → (∀ j, j < k → okB L N j = true) → Clr L k →
  ∃ r, Zbl (check_lookStep L n c N) f (.h1m2 k (brs L k) (mtL L k)) = some r ∧ ZeE L n N d k r := by
 intro d
 induction d with
 | zero =>
  intro k f hk hf ha hc
  obtain ⟨f, rfl⟩ : ∃ j, f = j + 1 := ⟨f - 1, by omega⟩
  obtain rfl : k = n := by omega
  have h0 : (opn L k).length = 0 := by rw [hc.2.1]; rfl
  obtain ⟨g1, g2⟩ := ZsF ha h0
  refine ⟨.r3 (brs L k ++ [⟨-1, 0⟩]) (mtL L k) (Zck L k k 0).1 (Zck L k k 0).2, Zaa ?_, ?_⟩
  ·show check_look_h1m2 L k c N k _ _ = _
   unfold check_look_h1m2
   refine Zr (by omega) (Zh (by rw [Zec]; omega) (Zy (a := .r0 (Zck L k k 0).1 (Zck L k k 0).2) ?_ rfl))
   exact Zui hn hL (Zqc (by omega) ha) g1 g2 k 0 N (by omega) (by omega)
  ·unfold ZeE
   rw [ZgX, if_pos h0]
   exact ⟨rfl, rfl, fun _ => ⟨rfl, rfl, hc.2.2.1.symm, hc.2.2.2.symm⟩⟩
 | succ d ih =>
  intro k f hk hf ha hc
  obtain ⟨f, rfl⟩ : ∃ j, f = j + 1 := ⟨f - 1, by omega⟩
  have hstep : ∀ x, check_look_h1m2 L n c N k (brs L k) (mtL L k) = x → check_lookStep L n c N (.h1m2 k (brs L k) (mtL L k)) = x := fun x h => h
  have hl1 := Zec L k
  have hl2 := Zr7 L k
  by_cases hok : okB L N k = true
  ·obtain ⟨o1, o2⟩ := ok_and hok
   have he : Zc3 [] (L.getD k RA.z) N = 0 := by
    have : Zc3 (opn L k) (L.getD k RA.z) N = 0 := by unfold Zc3; rw [o1, o2]; rfl
    rw [hc.2.1] at this; exact this
   by_cases h15 : (L.getD k RA.z).a0 = 15
   ·obtain ⟨e1, e2, e3, e4, e5⟩ := Zpf hc h15
    obtain ⟨r, h1, h2⟩ := Zoh (c := c) hn hL hN d (k + 1) f (by omega) (by omega) (Zew ha hok)
    refine ⟨r, (ZaX ?_).trans h1, ?_⟩
    ·refine hstep _ ?_
     unfold check_look_h1m2
     rw [e1, e2, e3, e4, e5]
     refine Zh (by omega) (Zh (by omega) (Zy (ZoG _ (by omega)) (Zr (by rw [he]; decide) (Zy (Zy rfl (Zh (by omega) (Zh (by omega) (Zh h15 rfl)))) (Zh (by omega) rfl)))))
    ·unfold ZeE at h2 ⊢; rw [Zev hok]; exact h2
   ·obtain ⟨c1, e2, e3, h16, h17⟩ := Zr8 hc h15 hok
    obtain ⟨r, h1, h2⟩ := ih (k + 1) f (by omega) (by omega) (Zew ha hok) c1
    refine ⟨r, (ZaX ?_).trans h1, ?_⟩
    ·refine hstep _ ?_
     unfold check_look_h1m2
     rw [e2, e3]
     refine Zh (by omega) (Zh (by omega) (Zy (ZoG _ (by omega)) (Zr (by rw [he]; decide) (Zy (Zy rfl (Zh (by omega) (Zh (by omega) (Zr h15 (Zr h16 (Zr h17 rfl)))))) (Zh (by omega) rfl)))))
    ·unfold ZeE at h2 ⊢; rw [Zev hok]; exact h2
  ·have he := ZlV hok
   refine ⟨.r3 (brs L k) (mtL L k) (k : Int) (Zc3 (opn L k) (L.getD k RA.z) N), Zaa (hstep _ ?_), ZoF hok rfl rfl⟩
   unfold check_look_h1m2
   rw [hc.2.1] at he ⊢
   exact Zh (by omega) (Zh (by omega) (Zy (ZoG _ (by omega)) (Zh he rfl)))
theorem Zvy (h1 : 1 ≤ n) (hn : n ≤ L.length) (hL : n ≤ 512) (hN : 520 ≤ N) : ∃ r, check_look L n c N = some r ∧ ZeE L n N n 0 r := by
 obtain ⟨f, rfl⟩ : ∃ j, N = j + 1 := ⟨N - 1, by omega⟩
 obtain ⟨m, rfl⟩ : ∃ m, n = m + 1 := ⟨n - 1, by omega⟩
 have hin : ZcJ L (m + 1) c (f + 1) = some (.inl .h1m0) := by
  unfold ZcJ
  exact Zr (by omega) (Zr (by omega) rfl)
 have hc : Clr L 0 := ⟨rfl, rfl, rfl, rfl⟩
 have ha : ∀ j, j < 0 → okB L (f + 1) j = true := fun j hj => absurd hj (Nat.not_lt_zero j)
 have hstep : ∀ x, check_look_h1m0 L (m + 1) c (f + 1) = x → check_lookStep L (m + 1) c (f + 1) .h1m0 = x := fun x h => h
 unfold check_look
 rw [Zog hin]
 by_cases hok : okB L (f + 1) 0 = true
 ·obtain ⟨o1, o2⟩ := ok_and hok
  have he : Zc3 [] (L.getD 0 RA.z) (f + 1) = 0 := by
   have : Zc3 (opn L 0) (L.getD 0 RA.z) (f + 1) = 0 := by unfold Zc3; rw [o1, o2]; rfl
   exact this
  by_cases h15 : (L.getD 0 RA.z).a0 = 15
  ·obtain ⟨e1, e2, e3, e4, e5⟩ := Zpf hc h15
   obtain ⟨r, h1, h2⟩ := Zoh (c := c) hn hL hN m (0 + 1) f (by omega) (by omega) (Zew ha hok)
   refine ⟨r, (ZaX ?_).trans h1, ?_⟩
   ·refine hstep _ ?_
    unfold check_look_h1m0
    rw [e1, e2, e3, e4, e5]
    refine Zh (by omega) (Zh (by omega) (Zy (ZoH _ (by omega)) (Zr (by rw [he]; decide) (Zy (Zy rfl (Zh h15 rfl)) rfl))))
   ·unfold ZeE at h2 ⊢; rw [Zev hok]; exact h2
  ·obtain ⟨c1, e2, e3, h16, h17⟩ := Zr8 hc h15 hok
   obtain ⟨r, h1, h2⟩ := Zt0 (c := c) hn hL hN m (0 + 1) f (by omega) (by omega) (Zew ha hok) c1
   refine ⟨r, (ZaX ?_).trans h1, ?_⟩
   ·refine hstep _ ?_
    unfold check_look_h1m0
    rw [e2, e3]
    refine Zh (by omega) (Zh (by omega) (Zy (ZoH _ (by omega)) (Zr (by rw [he]; decide) (Zy (Zy rfl (Zr h15 (Zr h16 (Zr h17 rfl)))) rfl))))
   ·unfold ZeE at h2 ⊢; rw [Zev hok]; exact h2
 ·have he := ZlV hok
  refine ⟨.r0 (Zc3 (opn L 0) (L.getD 0 RA.z) (f + 1)), Zaa (hstep _ ?_), ZoF hok rfl rfl⟩
  unfold check_look_h1m0
  exact Zh (by omega) (Zh (by omega) (Zy (ZoH _ (by omega)) (Zh he rfl)))
theorem ZvG {L : List RA} {c N : Nat} : check_look L 0 c N = some (.r0 120) := Zd6 rfl
end
end Old
end Ev
end Go.Proofs.YtelfeeoobdpmkaaGreat
/- The document's answer, plain: the same. -/
namespace Go.Proofs.YtelfeeoobdpmkaaGreat
open Go.RowKit
namespace Ev
namespace Old
set_option linter.unusedVariables false
set_option linter.unusedSimpArgs false

section
variable {L : List RA} {n c N : Nat}
theorem ZuZ (hn : n ≤ L.length) (hL : n ≤ 512) (hN : 520 ≤ N) (hj : JF L n) : ∀ d k f, k + d = n → d < f →
  Zbl (ref12_WrongStep L n c N) f (.h2m0 k) = some (.r0 (Zck L n d k).1) := by
 intro d
 induction d with
 | zero =>
  intro k f hk hf
  obtain ⟨f, rfl⟩ : ∃ j, f = j + 1 := ⟨f - 1, by omega⟩
  refine Zaa ?_
  show ref12_Wrong_h2m0 L n c N k = _
  unfold ref12_Wrong_h2m0
  exact Zr (by omega) rfl
 | succ d ih =>
  intro k f hk hf
  obtain ⟨f, rfl⟩ : ∃ j, f = j + 1 := ⟨f - 1, by omega⟩
  obtain ⟨j1, j2⟩ := hj k (by omega)
  have bk : ref12_branch L n c (k : Int) N = some (.r0 (brP (opn L k)).a0 (brP (opn L k)).a1) := Zpe k (by omega) hn (by omega) (.inl rfl) hL hN
  have bt : ¬ (n : Int) < tgt (L.getD k RA.z) → ref12_branch L n c (tgt (L.getD k RA.z)) N = some (.r0 (brP (opn L (tgt (L.getD k RA.z)).toNat)).a0 (brP (opn L (tgt (L.getD k RA.z)).toNat)).a1) := fun h => Zpe _ (by omega) hn (by omega) (.inl (by omega)) hL hN
  by_cases hb : ZiO L n k = true
  ·rw [ZjR hb]
   refine Zaa ?_
   rw [Zg2, Bool.and_eq_true] at hb
   show ref12_Wrong_h2m0 L n c N k = _
   unfold ref12_Wrong_h2m0
   refine Zh (by omega) (Zh (by omega) (Zy (rtarget_is _ _) (Zh hb.1 (ZdU (fun _ => rfl) (fun h => Zy (bt h) (Zy bk (Zh ?_ rfl)))))))
   have := hb.2
   unfold jb at this
   rw [decide_eq_false h, Bool.false_or, Bool.not_eq_true', decide_eq_false_iff_not] at this
   exact this
  ·rw [ZlU hb]
   refine (ZaX (y := .h2m0 (k + 1)) ?_).trans (ih (k + 1) f (by omega) (by omega))
   rw [Zg2, Bool.and_eq_true] at hb
   show ref12_Wrong_h2m0 L n c N k = _
   unfold ref12_Wrong_h2m0
   refine Zh (by omega) (Zh (by omega) (Zy (rtarget_is _ _) (ZdU (fun h1 => ?_) (fun h1 => Zh (by omega) rfl))))
   have hb : ¬ jb L n k (tgt (L.getD k RA.z)) = true := fun e => hb ⟨h1, e⟩
   unfold jb at hb
   simp only [Bool.or_eq_true, decide_eq_true_eq, Bool.not_eq_true', decide_eq_false_iff_not, not_or, Decidable.not_not] at hb
   exact Zr hb.1 (Zy (bt hb.1) (Zy bk (Zr (fun h => h hb.2) (Zh (by omega) rfl))))
theorem ZvH (hn : n ≤ L.length) (hL : n ≤ 512) (hN : 520 ≤ N) : ∀ d k f, k + d = n → d + n + 2 ≤ f → (∀ j, j < k → okB L N j = true) →
  Zbl (ref12_WrongStep L n c N) f (.h1m1 (opn L k) k) = some (.r0 (ZdK L n N d k).1) := by
 intro d
 induction d with
 | zero =>
  intro k f hk hf ha
  obtain ⟨f, rfl⟩ : ∃ j, f = j + 1 := ⟨f - 1, by omega⟩
  obtain rfl : k = n := by omega
  rw [ZgX]
  have hstep : ∀ x, ref12_Wrong_h1m1 L k c N (opn L k) k = x → ref12_WrongStep L k c N (.h1m1 (opn L k) k) = x := fun x h => h
  by_cases h0 : (opn L k).length = 0
  ·rw [if_pos h0]
   refine (ZaX (y := .h2m0 0) (hstep _ ?_)).trans (ZuZ hn hL hN (Zqc (by omega) ha) k 0 f (by omega) (by omega))
   unfold ref12_Wrong_h1m1
   exact Zr (by omega) (Zr (by omega) rfl)
  ·rw [if_neg h0]
   refine Zaa (hstep _ ?_)
   unfold ref12_Wrong_h1m1
   exact Zr (by omega) (Zh (by omega) rfl)
 | succ d ih =>
  intro k f hk hf ha
  obtain ⟨f, rfl⟩ : ∃ j, f = j + 1 := ⟨f - 1, by omega⟩
  have hstep : ∀ x, ref12_Wrong_h1m1 L n c N (opn L k) k = x → ref12_WrongStep L n c N (.h1m1 (opn L k) k) = x := fun x h => h
  obtain ⟨r, s1, s2, s3⟩ := ZuX (opn L k) (L.getD k RA.z).a0 (L.getD k RA.z).a1 (L.getD k RA.z).a2 (L.getD k RA.z).a3 k N (opn_len L k)
  obtain ⟨-, f2, -⟩ := Zg1 (L.getD k RA.z) (show 4 ≤ N by omega)
  by_cases hok : okB L N k = true
  ·obtain ⟨o1, o2⟩ := ok_and hok
   rw [Zev hok]
   refine (ZaX (y := .h1m1 (opn L (k + 1)) (k + 1)) (hstep _ ?_)).trans (ih (k + 1) f (by omega) (by omega) (Zew ha hok))
   have hs : opn L (k + 1) = outL (opn L k) r := s2.symm
   rw [hs]
   unfold ref12_Wrong_h1m1
   refine Zh (by omega) (Zh (by omega) (Zy s1 ?_))
   rw [o1] at f2
   rw [o2] at s3
   cases r with
   | r0 b => exact Zy f2 (Zr (by decide) (Zr (fun h => h s3) (Zh (by omega) rfl)))
   | r1 l => exact Zy f2 (Zr (by decide) (Zh (by omega) rfl))
   | r2 => exact Zy f2 (Zr (by decide) (Zh (by omega) rfl))
  ·rw [Zi6 hok]
   refine Zaa (hstep _ ?_)
   unfold ref12_Wrong_h1m1
   refine Zh (by omega) (Zh (by omega) (Zy s1 ?_))
   unfold okB at hok
   rw [Bool.and_eq_true] at hok
   cases r with
   | r0 b => exact Zy f2 (ZdU (fun _ => rfl) (fun h => Zh (fun e => hok ⟨Decidable.not_not.1 h, s3.symm.trans e⟩) rfl))
   | r1 l => exact Zy f2 (Zh (fun h => hok ⟨h, s3.symm⟩) rfl)
   | r2 => exact Zy f2 (Zh (fun h => hok ⟨h, s3.symm⟩) rfl)
theorem ZvI (hn : n ≤ L.length) (hL : n ≤ 512) (hN : 520 ≤ N) : ∀ d k f, k + d = n → d + n + 2 ≤ f → (∀ j, j < k → okB L N j = true) → opn L k = [] →
  Zbl (ref12_WrongStep L n c N) f (.h1m0 k) = some (.r0 (ZdK L n N d k).1) := by
 intro d
 induction d with
 | zero =>
  intro k f hk hf ha h0
  obtain ⟨f, rfl⟩ : ∃ j, f = j + 1 := ⟨f - 1, by omega⟩
  obtain rfl : k = n := by omega
  have hstep : ∀ x, ref12_Wrong_h1m0 L k c N k = x → ref12_WrongStep L k c N (.h1m0 k) = x := fun x h => h
  rw [ZgX, if_pos (by rw [h0]; rfl)]
  refine (ZaX (y := .h2m0 0) (hstep _ ?_)).trans (ZuZ hn hL hN (Zqc (by omega) ha) k 0 f (by omega) (by omega))
  unfold ref12_Wrong_h1m0
  exact Zr (by omega) rfl
 | succ d ih =>
  intro k f hk hf ha h0
  obtain ⟨f, rfl⟩ : ∃ j, f = j + 1 := ⟨f - 1, by omega⟩
  have hstep : ∀ x, ref12_Wrong_h1m0 L n c N k = x → ref12_WrongStep L n c N (.h1m0 k) = x := fun x h => h
  obtain ⟨-, f2, -⟩ := Zg1 (L.getD k RA.z) (show 4 ≤ N by omega)
  have s1 := ZuW (L.getD k RA.z).a0 (L.getD k RA.z).a1 (L.getD k RA.z).a2 (L.getD k RA.z).a3 k N
  by_cases h15 : (L.getD k RA.z).a0 = 15
  ·rw [if_pos h15] at s1
   have hB : stepB (opn L k) (L.getD k RA.z).a0 = true := by rw [h0, h15]; rfl
   by_cases hf1 : Zdn (L.getD k RA.z) N = true
   ·have hok : okB L N k = true := by unfold okB; rw [hf1, hB]; rfl
    rw [Zev hok]
    have hs : opn L (k + 1) = [⟨(k : Int), 0⟩] := by rw [opn, h0, h15]; rfl
    refine (ZaX (y := .h1m1 (opn L (k + 1)) (k + 1)) (hstep _ ?_)).trans (ZvH hn hL hN d (k + 1) f (by omega) (by omega) (Zew ha hok))
    rw [hs]
    unfold ref12_Wrong_h1m0
    rw [hf1] at f2
    exact Zh (by omega) (Zh (by omega) (Zy s1 (Zy f2 (Zr (by decide) (Zh (by omega) rfl)))))
   ·have hok : ¬ okB L N k = true := by unfold okB; rw [Bool.and_eq_true]; exact fun h => hf1 h.1
    rw [Zi6 hok]
    refine Zaa (hstep _ ?_)
    unfold ref12_Wrong_h1m0
    exact Zh (by omega) (Zh (by omega) (Zy s1 (Zy f2 (Zh hf1 rfl))))
  ·rw [if_neg h15] at s1
   by_cases hok : okB L N k = true
   ·obtain ⟨o1, o2⟩ := ok_and hok
    rw [Zev hok]
    have hs : opn L (k + 1) = [] := by
     rw [opn, h0]
     unfold stepL
     rw [if_neg h15]
     by_cases h16 : (L.getD k RA.z).a0 = 16
     ·rw [if_pos h16]; rfl
     ·rw [if_neg h16]; by_cases h17 : (L.getD k RA.z).a0 = 17
      ·rw [if_pos h17]; rfl
      ·rw [if_neg h17]
    refine (ZaX (y := .h1m0 (k + 1)) (hstep _ ?_)).trans (ih (k + 1) f (by omega) (by omega) (Zew ha hok) hs)
    unfold ref12_Wrong_h1m0
    rw [o1] at f2
    rw [h0] at o2
    exact Zh (by omega) (Zh (by omega) (Zy s1 (Zy f2 (Zr (by decide) (Zr (fun h => h o2) (Zh (by omega) rfl))))))
   ·rw [Zi6 hok]
    refine Zaa (hstep _ ?_)
    unfold ref12_Wrong_h1m0
    unfold okB at hok
    rw [Bool.and_eq_true, h0] at hok
    exact Zh (by omega) (Zh (by omega) (Zy s1 (Zy f2 (ZdU (fun _ => rfl) (fun h => Zh (fun e => hok ⟨Decidable.not_not.1 h, e⟩) rfl)))))
theorem ZoI {L : List RA} {N : Nat} : ∀ d k {j}, fb L N d k = some j → j < k + d ∧ ¬ okB L N j = true
 | 0, k, j, h => by cases h
 | d + 1, k, j, h => by
  unfold fb at h
  by_cases hk : okB L N k = true
  ·rw [if_pos hk] at h; have := ZoI d (k + 1) h; exact ⟨by omega, this.2⟩
  ·rw [if_neg hk] at h; cases h; exact ⟨by omega, hk⟩
theorem ZsG {L : List RA} {N : Nat} : ∀ d k, fb L N d k = none → ∀ j, k ≤ j → j < k + d → okB L N j = true
 | 0, k, h, j, h1, h2 => by omega
 | d + 1, k, h, j, h1, h2 => by
  unfold fb at h
  by_cases hk : okB L N k = true
  ·rw [if_pos hk] at h
   by_cases e : j = k
   ·rw [e]; exact hk
   ·exact ZsG d (k + 1) h j (by omega) (by omega)
  ·rw [if_neg hk] at h; cases h
theorem ZsH {L : List RA} {n : Nat} : ∀ d k {j}, fj L n d k = some j → j < k + d ∧ ZiO L n j = true
 | 0, k, j, h => by cases h
 | d + 1, k, j, h => by
  unfold fj at h
  by_cases hk : ZiO L n k = true
  ·rw [if_pos hk] at h; cases h; exact ⟨by omega, hk⟩
  ·rw [if_neg hk] at h; have := ZsH d (k + 1) h; exact ⟨by omega, this.2⟩
def Zjy (L : List RA) (n N : Nat) : Int := if n = 0 then 0 else (ZdK L n N n 0).1
def checkP (L : List RA) (n N : Nat) : Int := if n = 0 then 120 else (ZdK L n N n 0).2
theorem Zuk (hn : n ≤ L.length) (hL : n ≤ 512) (hN : 2000 ≤ N) : ref12_Wrong L n c N = some (.r0 (Zjy L n N)) := by
 unfold Zjy ref12_Wrong
 by_cases h : n = 0
 ·rw [if_pos h]
  refine Zd6 ?_
  unfold Zcq
  exact Zh (by omega) rfl
 ·rw [if_neg h]
  have hin : Zcq L n c N = some (.inl (.h1m0 0)) := by
   unfold Zcq
   exact Zr (by omega) (Zr (by omega) rfl)
  rw [Zog hin]
  exact ZvI hn hL (by omega) n 0 N (by omega) (by omega) (fun j hj => absurd hj (Nat.not_lt_zero j)) rfl
theorem rcheck_is (hn : n ≤ L.length) (hL : n ≤ 512) (hN : 2000 ≤ N) : ref12_Check L n c N = some (.r0 (checkP L n N)) := by
 unfold ref12_Check
 refine Zy (Zuk hn hL hN) ?_
 show (if Zjy L n N < 0 then _ else _) = _
 unfold Zjy checkP
 by_cases h : n = 0
 ·rw [if_pos h, if_pos h]
  exact Zr (by decide) (Zr (by omega) rfl)
 ·rw [if_neg h, if_neg h]
  unfold ZdK
  cases hfb : fb L N n 0 with
  | some j =>
   obtain ⟨j1, j2⟩ := ZoI n 0 hfb
   dsimp only
   refine Zr (by omega) (Zh (by omega) (Zh (by omega) (Zh (by omega) ?_)))
   rw [Int.toNat_natCast]
   obtain ⟨-, -, -, -, f15⟩ := Zg1 (L.getD j RA.z) (show 4 ≤ N by omega)
   show _ = some (ref12_CheckR.r0 (Zc3 (opn L j) (L.getD j RA.z) N))
   unfold Zc3
   unfold okB at j2
   rw [if_neg j2]
   by_cases e : (L.getD j RA.z).a0 = 15
   ·have := f15 e
    by_cases e2 : Zdn (L.getD j RA.z) N = true
    ·rw [if_pos ⟨e, this.1 e2⟩, if_pos ⟨e, e2⟩]
    ·rw [if_neg (fun h => e2 (this.2 h.2)), if_neg (fun h => e2 h.2)]
   ·rw [if_neg (fun h => e h.1), if_neg (fun h => e h.1)]
  | none =>
   dsimp only
   by_cases h0 : (opn L n).length = 0
   ·simp only [if_pos h0]
    cases hfj : fj L n n 0 with
    | none => rfl
    | some j =>
     dsimp only
     obtain ⟨j1, j2⟩ := ZsH n 0 hfj
     refine Zr (by omega) (Zh (by omega) (Zh (by omega) (Zh (by omega) ?_)))
     rw [Int.toNat_natCast]
     rw [Zg2, Bool.and_eq_true] at j2
     have := of_decide_eq_true j2.1
     exact Zr (by omega) rfl
   ·simp only [if_neg h0]
    exact Zr (by omega) (Zr (by omega) rfl)
theorem look_all (hn : n ≤ L.length) (hL : n ≤ 512) (hN : 520 ≤ N) : ∃ r, check_look L n c N = some r ∧ rW r = Zjy L n N ∧ rE r = checkP L n N ∧ (checkP L n N = 0 → rB r = brs L n ++ [⟨-1, 0⟩] ∧ rM r = mtL L n ∧ rD r = blL L n ∧ rd r = dpL L n) := by
 by_cases h : n = 0
 ·subst h
  refine ⟨_, ZvG, rfl, rfl, fun e => ?_⟩
  unfold checkP at e; rw [if_pos rfl] at e; cases e
 ·obtain ⟨r, h1, h2, h3, h4⟩ := Zvy (c := c) (show 1 ≤ n by omega) hn hL hN
  refine ⟨r, h1, ?_⟩
  unfold Zjy checkP
  rw [if_neg h, if_neg h]
  exact ⟨h2, h3, h4⟩
theorem fit_is (h : checkP L n N = 0) : 1 ≤ n ∧ (∀ j, j < n → okB L N j = true) ∧ opn L n = [] ∧ fj L n n 0 = none := by
 unfold checkP at h
 by_cases h0 : n = 0
 ·rw [if_pos h0] at h; cases h
 ·rw [if_neg h0] at h
  unfold ZdK at h
  cases hfb : fb L N n 0 with
  | some j =>
   rw [hfb] at h
   obtain ⟨j1, j2⟩ := ZoI n 0 hfb
   exact absurd h (ZlV j2)
  | none =>
   rw [hfb] at h
   by_cases e : (opn L n).length = 0
   ·have h : (if (opn L n).length = 0 then (match fj L n n 0 with
     | some j => ((j : Int), (120 : Int))
     | none => (-1, 0)) else ((n : Int), 120)).2 = 0 := h
    rw [if_pos e] at h
    cases hfj : fj L n n 0 with
    | some j => rw [hfj] at h; cases h
    | none => exact ⟨by omega, fun j hj => ZsG n 0 hfb j (by omega) (by omega), List.length_eq_zero_iff.1 e, rfl⟩
   ·have h : (if (opn L n).length = 0 then (match fj L n n 0 with
     | some j => ((j : Int), (120 : Int))
     | none => (-1, 0)) else ((n : Int), 120)).2 = 0 := h
    rw [if_neg e] at h; cases h
theorem check_P (hn : n ≤ L.length) (hL : n ≤ 512) (hN : 520 ≤ N) : check_Check L n c N = some (.r0 (checkP L n N)) := by
 obtain ⟨r, h1, h2, h3, h4⟩ := look_all (c := c) hn hL hN
 rw [← h3]
 refine Zy h1 ?_
 cases r <;> rfl
end
end Old
end Ev
end Go.Proofs.YtelfeeoobdpmkaaGreat
/- Rows that never change have their own length: layer 12's functions as those with a count of their own. -/
namespace Go.Proofs.YtelfeeoobdpmkaaGreat
open Go.RowKit
namespace Ev
set_option linter.unusedVariables false
set_option linter.unusedSimpArgs false
namespace Fb
theorem Zed {α : Type} {k n : Nat} {a b d : α} : (if (k : Int) < (n : Int) then (if k < n then a else b) else d) = if (k : Int) < (n : Int) then a else d := by
 by_cases h : (k : Int) < (n : Int)
 ·rw [if_pos h, if_pos h, if_pos (by omega)]
 ·rw [if_neg h, if_neg h]
theorem ZvJ {α : Type} {n : Nat} {a b d : α} : (if (0 : Int) < (n : Int) then (if 0 < n then a else b) else d) = if (0 : Int) < (n : Int) then a else d := by
 by_cases h : (0 : Int) < (n : Int)
 ·rw [if_pos h, if_pos h, if_pos (by omega)]
 ·rw [if_neg h, if_neg h]
section
variable {L : List RA} {c N : Nat} {S B : List R_ii} {M D : List Int} {a b d : Int}
theorem Zt1 : Old.check_scan_aims L L.length c B a b d N = check_scan_aims L B a b d N := by
 have h : Old.check_scan_aimsStep L L.length c B a b d N = check_scan_aimsStep L B a b d N := funext fun x => by
  cases x
  show Old.check_scan_aims_h1m0 L L.length c B a b d N _ = check_scan_aims_h1m0 L B a b d N _
  unfold Old.check_scan_aims_h1m0 check_scan_aims_h1m0
  rw [Zed]
 unfold Old.check_scan_aims check_scan_aims
 rw [h]; rfl
theorem Zt2 : Old.check_scan_aims_2 L L.length c B M a b d N = check_scan_aims_2 L B M a b d N := by
 have h : Old.check_scan_aims_2Step L L.length c B M a b d N = check_scan_aims_2Step L B M a b d N := funext fun x => by
  cases x
  show Old.check_scan_aims_2_h1m0 L L.length c B M a b d N _ = check_scan_aims_2_h1m0 L B M a b d N _
  unfold Old.check_scan_aims_2_h1m0 check_scan_aims_2_h1m0
  rw [Zed]
 unfold Old.check_scan_aims_2 check_scan_aims_2
 rw [h]; rfl
theorem Zt3 : Old.check_scan_aims_3 S L L.length c B M D a b d N = check_scan_aims_3 S L B M D a b d N := by
 have h : Old.check_scan_aims_3Step S L L.length c B M D a b d N = check_scan_aims_3Step S L B M D a b d N := funext fun x => by
  cases x
  show Old.check_scan_aims_3_h1m0 S L L.length c B M D a b d N _ = check_scan_aims_3_h1m0 S L B M D a b d N _
  unfold Old.check_scan_aims_3_h1m0 check_scan_aims_3_h1m0
  rw [Zed]
 unfold Old.check_scan_aims_3 check_scan_aims_3
 rw [h]; rfl
theorem look : Old.check_look L L.length c N = check_look L N := by
 have h : Old.check_lookStep L L.length c N = check_lookStep L N := funext fun x => by
  cases x
  ·show Old.check_look_h1m0 L L.length c N = check_look_h1m0 L N
   unfold Old.check_look_h1m0 check_look_h1m0
   simp only [ZvJ, Zt1, Zt2, Zt3]
   rfl
  ·show Old.check_look_h1m1 L L.length c N _ _ _ _ _ _ = check_look_h1m1 L N _ _ _ _ _ _
   unfold Old.check_look_h1m1 check_look_h1m1
   simp only [Zed, Zt1, Zt2, Zt3]
   rfl
  ·show Old.check_look_h1m2 L L.length c N _ _ _ = check_look_h1m2 L N _ _ _
   unfold Old.check_look_h1m2 check_look_h1m2
   simp only [Zed, Zt1, Zt2, Zt3]
   rfl
 unfold Old.check_look check_look
 rw [h]; rfl
theorem check : Old.check_Check L L.length c N = check_Check L N := by
 unfold Old.check_Check check_Check
 rw [look]; rfl
theorem opens : Old.ref12_opens L L.length c a N = ref12_opens L a N := by
 have h : Old.ref12_opensStep L L.length c a N = ref12_opensStep L a N := funext fun x => by
  cases x
  ·show Old.ref12_opens_h1m0 L L.length c a N _ = ref12_opens_h1m0 L a N _
   unfold Old.ref12_opens_h1m0 ref12_opens_h1m0
   simp only [Zed]
   all_goals rfl
  ·show Old.ref12_opens_h1m1 L L.length c a N _ _ = ref12_opens_h1m1 L a N _ _
   unfold Old.ref12_opens_h1m1 ref12_opens_h1m1
   simp only [Zed]
   all_goals rfl
 unfold Old.ref12_opens ref12_opens
 rw [h]; rfl
theorem branch : Old.ref12_branch L L.length c a N = ref12_branch L a N := by
 unfold Old.ref12_branch ref12_branch
 rw [opens]
 all_goals rfl
theorem ZvK : Old.ref12_Wrong L L.length c N = ref12_Wrong L N := by
 have h : Old.ref12_WrongStep L L.length c N = ref12_WrongStep L N := funext fun x => by
  cases x
  ·show Old.ref12_Wrong_h1m0 L L.length c N _ = ref12_Wrong_h1m0 L N _
   unfold Old.ref12_Wrong_h1m0 ref12_Wrong_h1m0
   simp only [Zed]
   all_goals rfl
  ·show Old.ref12_Wrong_h1m1 L L.length c N _ _ = ref12_Wrong_h1m1 L N _ _
   unfold Old.ref12_Wrong_h1m1 ref12_Wrong_h1m1
   simp only [Zed]
   all_goals rfl
  ·show Old.ref12_Wrong_h2m0 L L.length c N _ = ref12_Wrong_h2m0 L N _
   unfold Old.ref12_Wrong_h2m0 ref12_Wrong_h2m0
   simp only [Zed, branch]
   all_goals rfl
 unfold Old.ref12_Wrong ref12_Wrong
 rw [h]; rfl
theorem ZvL : Old.ref12_Check L L.length c N = ref12_Check L N := by
 unfold Old.ref12_Check ref12_Check
 rw [ZvK]
 refine congrArg (Option.bind _) (funext fun r => ?_)
 cases r with
 | r0 y =>
  by_cases h0 : y < 0
  ·simp only [if_pos h0]
  ·simp only [if_neg h0]
   by_cases h1 : y < (L.length : Int)
   ·have h2 : y.toNat < L.length := by omega
    simp only [if_pos h1, if_pos h2]
   ·simp only [if_neg h1]
end
end Fb
end Ev
end Go.Proofs.YtelfeeoobdpmkaaGreat
/- FairBounds: the plain law is true. -/
namespace Go.Proofs.YtelfeeoobdpmkaaGreat
open Go.RowKit
namespace Ev
set_option linter.unusedVariables false
set_option linter.unusedSimpArgs false
set_option maxRecDepth 100000
namespace Fb
theorem nx {X R : Type} {step : X → Option (X ⊕ R)} {n : Nat} {x : X} {r : Option R} (y : X) (h : step x = some (.inl y)) (e : Zbl step n y = r) : Zbl step (n + 1) x = r := (ZaX h).trans e
theorem gi {X R : Type} {step : X → Option (X ⊕ R)} {n m : Nat} {o : Option (X ⊕ R)} {r : R} (x : X) (h : o = some (.inl x)) (hm : m ≤ n) (e : Zbl step m x = some r) : goM step n o = some r := (Zog h).trans (ZsB hm e)
section
variable {L : List RA} {N : Nat}
def cP (L : List RA) (N : Nat) : Int := Old.checkP L L.length N
theorem chk (hl : L.length ≤ 60) (hN : 2000 ≤ N) : check_Check L N = some (.r0 (cP L N)) ∧ ref12_Check L N = some (.r0 (cP L N)) :=
 ⟨(check (c := 0)).symm.trans (Old.check_P (Nat.le_refl _) (by omega) (by omega)), (ZvL (c := 0)).symm.trans (Old.rcheck_is (Nat.le_refl _) (by omega) hN)⟩
def bn : Zax → Nat
 | .r0 => 0
 | .r1 l => l.length
theorem Zc7 (hl : L.length ≤ 60) (hN : 2000 ≤ N) (h : cP L N = 0) : ∃ r, ZcK L N = some r ∧ bn r = (Old.blL L L.length).length := by
 obtain ⟨r, h1, h2, h3, h4⟩ := Old.look_all (L := L) (n := L.length) (c := 0) (N := N) (Nat.le_refl _) (by omega) (by omega)
 rw [look] at h1
 obtain ⟨_, _, h5, _⟩ := h4 h
 rw [← h5]
 have h3 : Old.rE r = 0 := h3.trans h
 cases r with
 | r0 e => exact ⟨.r0, Zy h1 rfl, rfl⟩
 | r1 w e => exact ⟨.r0, Zy h1 rfl, rfl⟩
 | r2 s b m d x w e => exact ⟨.r1 d, Zy h1 (Zr (fun q => q h3) rfl), rfl⟩
 | r3 b m w e => exact ⟨.r0, Zy h1 rfl, rfl⟩
/-! ### Ends -/
theorem endl (hl : L.length ≤ 60) : ∀ (d i : Nat), L.length - i = d → i ≤ L.length → ∃ b, Zbl (ZdN L N) (d + 1) (.h1m0 i) = some (.r0 b) ∧ Zbl (Zdw L N) (d + 1) (.h1m0 i) = some (.r0 b)
 | 0, i, hd, hi => ⟨true, Zaa (Zr (by omega) rfl), Zaa (Zr (by omega) rfl)⟩
 | d + 1, i, hd, hi => by
  obtain ⟨b, q1, q2⟩ := endl hl d (i + 1) (by omega) (by omega)
  have e1 := Old.target_is (L.getD i RA.z) N
  have e2 := Old.rtarget_is (L.getD i RA.z) N
  by_cases hj : decide ((L.getD i RA.z).a0 = 8 ∨ (L.getD i RA.z).a0 = 9) = true
  ·by_cases ht : Old.tgt (L.getD i RA.z) ≤ (i : Int)
   ·exact ⟨false, Zaa (Zh (by omega) <| Zy e1 <| Zh hj <| Zh ht rfl), Zaa (Zh (by omega) <| Zy e2 <| Zh hj <| Zh ht rfl)⟩
   ·by_cases hr : (L.getD i RA.z).a0 = 18
    ·exact ⟨false, Zaa (Zh (by omega) <| Zy e1 <| Zh hj <| Zr ht <| Zh hr rfl), Zaa (Zh (by omega) <| Zy e2 <| Zh hj <| Zr ht <| Zh hr rfl)⟩
    ·exact ⟨b, nx _ (Zh (by omega) <| Zy e1 <| Zh hj <| Zr ht <| Zr hr <| Zh (by omega) rfl) q1, nx _ (Zh (by omega) <| Zy e2 <| Zh hj <| Zr ht <| Zr hr <| Zh (by omega) rfl) q2⟩
  ·by_cases hr : (L.getD i RA.z).a0 = 18
   ·exact ⟨false, Zaa (Zh (by omega) <| Zy e1 <| Zr hj <| Zh hr rfl), Zaa (Zh (by omega) <| Zy e2 <| Zr hj <| Zh hr rfl)⟩
   ·exact ⟨b, nx _ (Zh (by omega) <| Zy e1 <| Zr hj <| Zr hr <| Zh (by omega) rfl) q1, nx _ (Zh (by omega) <| Zy e2 <| Zr hj <| Zr hr <| Zh (by omega) rfl) q2⟩
theorem ends (hl : L.length ≤ 60) (hN : 2000 ≤ N) : ∃ b, ZgM L N = some (.r0 b) ∧ Zf7 L N = some (.r0 b) := by
 obtain ⟨c1, c2⟩ := chk hl hN
 by_cases h : cP L N = 0
 ·obtain ⟨b, q1, q2⟩ := endl (N := N) hl _ 0 rfl (Nat.zero_le _)
  exact ⟨b, gi _ (Zy c1 <| Zr (fun q => q h) rfl) (by omega) q1, gi _ (Zy c2 <| Zr (fun q => q h) rfl) (by omega) q2⟩
 ·exact ⟨false, Zd6 (Zy c1 <| Zh h rfl), Zd6 (Zy c2 <| Zh h rfl)⟩
/-! ### Units -/
theorem ZuK {l : List R_ii} {op : Int} {k : Nat} (h : Old.stepB l op = true) (h1 : ¬ op = 15) (h2 : ¬ op = 17) : (Old.stepL l op k).length = l.length := by
 unfold Old.stepL
 unfold Old.stepB at h
 rw [if_neg h1] at h
 rw [if_neg h1]
 by_cases h6 : op = 16
 ·rw [if_pos h6] at h
  rw [if_pos h6]
  by_cases h0 : l.length = 0
  ·rw [if_pos h0] at h; cases h
  ·rw [if_neg h0]
   split
   ·rfl
   ·simp; omega
 ·rw [if_neg h6, if_neg h2]
theorem unl (hl : L.length ≤ 60) (ha : ∀ j, j < L.length → Old.okB L N j = true) : ∀ (d i u : Nat), L.length - i = d → i ≤ L.length → u ≤ i →
  ∃ w, Zbl (Zdx L N) (d + 1) (.h1m0 ((Old.blL L L.length).length + u) ((Old.opn L i).length : Int) i) = some (.r0 w) ∧ Zbl (Zde L N) (d + 1) (.h1m0 ((Old.blL L i).length + u) ((Old.opn L i).length : Int) i) = some (.r0 w)
 | 0, i, u, hd, hi, hu => by
  obtain rfl : i = L.length := by omega
  exact ⟨_, Zaa (Zr (by omega) rfl), Zaa (Zr (by omega) rfl)⟩
 | d + 1, i, u, hd, hi, hu => by
  have hi' : i < L.length := by omega
  obtain ⟨_, o2⟩ := Old.ok_and (ha i hi')
  have h8 := Old.opn_len L i
  have hb := Old.bl_len L i
  have hb' := Old.bl_len L L.length
  have hs : (Old.skL L i).length = (Old.opn L i).length := (Old.inv i (fun j hj => ha j (by omega))).1.1
  have en : Old.opn L (i + 1) = Old.stepL (Old.opn L i) (L.getD i RA.z).a0 i := rfl
  have eb : Old.blL L (i + 1) = Old.blk (Old.blL L i) (Old.skL L i) (L.getD i RA.z).a0 i := rfl
  have g0 := unl hl ha d (i + 1) u (by omega) (by omega) (by omega)
  have g1 := unl hl ha d (i + 1) (u + 1) (by omega) (by omega) (by omega)
  rw [en, eb] at g0 g1
  by_cases h15 : (L.getD i RA.z).a0 = 15
  ·have ho : (Old.opn L i).length < 8 := by
    unfold Old.stepB at o2
    rw [if_pos h15] at o2
    exact of_decide_eq_true o2
   have e1 : (Old.stepL (Old.opn L i) (L.getD i RA.z).a0 i).length = (Old.opn L i).length + 1 := by
    unfold Old.stepL
    rw [if_pos h15, if_neg (by omega)]
    simp
   rw [e1] at g0
   obtain ⟨w, q1, q2⟩ := g0
   have w1 : IntKind.i64.wrap (((Old.opn L i).length : Int) + 1) = (((Old.opn L i).length + 1 : Nat) : Int) := (w64 (by omega) (by omega)).trans (by omega)
   refine ⟨w, nx _ (Zh (by omega) <| Zh h15 <| Zh (by omega) rfl) (by rw [w1]; exact q1), ?_⟩
   by_cases h0 : (Old.opn L i).length = 0
   ·have e2 : Old.blk (Old.blL L i) (Old.skL L i) (L.getD i RA.z).a0 i = Old.blL L i ++ [(i : Int)] := by
     unfold Old.blk
     rw [if_pos h15, if_pos (by omega)]
    rw [e2] at q2
    have e3 : (Old.blL L i ++ [(i : Int)]).length + u = (Old.blL L i).length + u + 1 := by simp; omega
    rw [e3] at q2
    refine nx (.h1m0 ((Old.blL L i).length + u + 1) (((Old.opn L i).length : Int) + 1) (i + 1)) (Zh (by omega) <| Zh h15 <| Zh (by omega) <| Zh (by omega) <| Zh (by omega) rfl) ?_
    rw [show ((Old.opn L i).length : Int) + 1 = (((Old.opn L i).length + 1 : Nat) : Int) by omega]
    exact q2
   ·have e2 : Old.blk (Old.blL L i) (Old.skL L i) (L.getD i RA.z).a0 i = Old.blL L i := by
     unfold Old.blk
     rw [if_pos h15, if_neg (by omega)]
    rw [e2] at q2
    exact nx _ (Zh (by omega) <| Zh h15 <| Zr (by omega) <| Zh (by omega) rfl) (by rw [w1]; exact q2)
  ·have e2 : Old.blk (Old.blL L i) (Old.skL L i) (L.getD i RA.z).a0 i = Old.blL L i := by
    unfold Old.blk
    rw [if_neg h15]
   rw [e2] at g0 g1
   by_cases h17 : (L.getD i RA.z).a0 = 17
   ·have ho : 0 < (Old.opn L i).length := by
     unfold Old.stepB at o2
     rw [if_neg h15, if_neg (by omega), if_pos h17] at o2
     exact of_decide_eq_true o2
    have e1 : (Old.stepL (Old.opn L i) (L.getD i RA.z).a0 i).length = (Old.opn L i).length - 1 := by
     unfold Old.stepL
     rw [if_neg h15, if_neg (by omega), if_pos h17]
     simp
    rw [e1] at g0
    obtain ⟨w, q1, q2⟩ := g0
    have w1 : IntKind.i64.wrap (((Old.opn L i).length : Int) - 1) = (((Old.opn L i).length - 1 : Nat) : Int) := (w64 (by omega) (by omega)).trans (by omega)
    exact ⟨w, nx _ (Zh (by omega) <| Zr h15 <| Zh h17 <| Zh (by omega) rfl) (by rw [w1]; exact q1), nx _ (Zh (by omega) <| Zr h15 <| Zh h17 <| Zh (by omega) rfl) (by rw [w1]; exact q2)⟩
   ·rw [ZuK o2 h15 h17] at g0 g1
    obtain ⟨w0, p1, p2⟩ := g0
    obtain ⟨w, q1, q2⟩ := g1
    by_cases h0 : ((Old.opn L i).length : Int) = 0
    ·by_cases k1 : (L.getD i RA.z).a0 = 11
     ·exact ⟨w, nx _ (Zh (by omega) <| Zr h15 <| Zr h17 <| Zh k1 <| Zh h0 <| Zh (by omega) <| Zh (by omega) rfl) q1, nx _ (Zh (by omega) <| Zr h15 <| Zr h17 <| Zh k1 <| Zh h0 <| Zh (by omega) <| Zh (by omega) rfl) q2⟩
     by_cases k2 : (L.getD i RA.z).a0 = 12
     ·exact ⟨w, nx _ (Zh (by omega) <| Zr h15 <| Zr h17 <| Zr k1 <| Zh k2 <| Zh h0 <| Zh (by omega) <| Zh (by omega) rfl) q1, nx _ (Zh (by omega) <| Zr h15 <| Zr h17 <| Zr k1 <| Zh k2 <| Zh h0 <| Zh (by omega) <| Zh (by omega) rfl) q2⟩
     by_cases k3 : (L.getD i RA.z).a0 = 13
     ·exact ⟨w, nx _ (Zh (by omega) <| Zr h15 <| Zr h17 <| Zr k1 <| Zr k2 <| Zh k3 <| Zh h0 <| Zh (by omega) <| Zh (by omega) rfl) q1, nx _ (Zh (by omega) <| Zr h15 <| Zr h17 <| Zr k1 <| Zr k2 <| Zh k3 <| Zh h0 <| Zh (by omega) <| Zh (by omega) rfl) q2⟩
     by_cases k4 : (L.getD i RA.z).a0 = 14
     ·exact ⟨w, nx _ (Zh (by omega) <| Zr h15 <| Zr h17 <| Zr k1 <| Zr k2 <| Zr k3 <| Zh k4 <| Zh h0 <| Zh (by omega) <| Zh (by omega) rfl) q1, nx _ (Zh (by omega) <| Zr h15 <| Zr h17 <| Zr k1 <| Zr k2 <| Zr k3 <| Zh k4 <| Zh h0 <| Zh (by omega) <| Zh (by omega) rfl) q2⟩
     ·exact ⟨w0, nx _ (Zh (by omega) <| Zr h15 <| Zr h17 <| Zr k1 <| Zr k2 <| Zr k3 <| Zr k4 <| Zh (by omega) rfl) p1, nx _ (Zh (by omega) <| Zr h15 <| Zr h17 <| Zr k1 <| Zr k2 <| Zr k3 <| Zr k4 <| Zh (by omega) rfl) p2⟩
    ·have go : ∀ {α : Type} {k1 k2 k3 k4 z : Prop} [Decidable k1] [Decidable k2] [Decidable k3] [Decidable k4] [Decidable z] {x1 x2 x3 x4 y r : α}, ¬ z → y = r → (if k1 then (if z then x1 else y) else if k2 then (if z then x2 else y) else if k3 then (if z then x3 else y) else if k4 then (if z then x4 else y) else y) = r := fun hz hy => by
      simp only [if_neg hz, hy, ite_self]
     exact ⟨w0, nx _ (Zh (by omega) <| Zr h15 <| Zr h17 <| go h0 <| Zh (by omega) rfl) p1, nx _ (Zh (by omega) <| Zr h15 <| Zr h17 <| go h0 <| Zh (by omega) rfl) p2⟩
theorem Zva (hl : L.length ≤ 60) (hN : 2000 ≤ N) : ∃ w, Zf9 L N = some (.r0 w) ∧ ZeO L N = some (.r0 w) := by
 obtain ⟨c1, c2⟩ := chk hl hN
 by_cases h : cP L N = 0
 ·obtain ⟨r, b1, b2⟩ := Zc7 hl hN h
  obtain ⟨_, ha, _, _⟩ := Old.fit_is h
  obtain ⟨w, q1, q2⟩ := unl hl ha _ 0 0 rfl (Nat.zero_le _) (Nat.zero_le _)
  rw [← b2] at q1
  refine ⟨w, gi (.h1m0 (bn r) 0 0) (Zy c1 <| Zr (fun q => q h) <| Zy b1 ?_) (by omega) q1, gi _ (Zy c2 <| Zr (fun q => q h) rfl) (by omega) q2⟩
  cases r <;> rfl
 ·exact ⟨0, Zd6 (Zy c1 <| Zh h rfl), Zd6 (Zy c2 <| Zh h rfl)⟩
end
section
variable {V : List (List RA)} {N : Nat}
/-! ### Bound -/
theorem getl (hV : ∀ x ∈ V, x.length ≤ 60) (i : Nat) : (V.getD i []).length ≤ 60 := by
 by_cases h : i < V.length
 ·have e : V.getD i [] = V[i] := by simp [List.getD, h]
  rw [e]; exact hV _ (List.getElem_mem h)
 ·rw [Zso (by omega)]; simp
theorem bndl (hV : ∀ x ∈ V, x.length ≤ 60) (hv : V.length ≤ 64) (hN : 2000 ≤ N) : ∀ (d i : Nat) (a b : Int), V.length - i = d → i ≤ V.length →
  ∃ w e, Zbl (ZcL V N) (d + 1) (.h1m0 a b i) = some (.r0 w e) ∧ Zbl (Zc6 V N) (d + 1) (.h1m0 a b i) = some (.r0 w e)
 | 0, i, a, b, hd, hi => ⟨_, _, Zaa (Zr (by omega) rfl), Zaa (Zr (by omega) rfl)⟩
 | d + 1, i, a, b, hd, hi => by
  have hx := getl hV i
  obtain ⟨e, e1, e2⟩ := ends (N := N) hx hN
  obtain ⟨u, u1, u2⟩ := Zva (N := N) hx hN
  by_cases he : e = true
  ·obtain ⟨w, f, q1, q2⟩ := bndl hV hv hN d (i + 1) (IntKind.i64.wrap (a + u)) (if (((V.getD i []).length : Nat) : Int) > b then (((V.getD i []).length : Nat) : Int) else b) (by omega) (by omega)
   exact ⟨w, f, nx _ (Zh (by omega) <| Zy e1 <| Zr (fun q => q he) <| Zy u1 <| Zh (by omega) rfl) q1, nx _ (Zh (by omega) <| Zy e2 <| Zr (fun q => q he) <| Zy u2 <| Zh (by omega) rfl) q2⟩
  ·exact ⟨0, 270, Zaa (Zh (by omega) <| Zy e1 <| Zh he rfl), Zaa (Zh (by omega) <| Zy e2 <| Zh he rfl)⟩
theorem Zvb (hV : ∀ x ∈ V, x.length ≤ 60) (hN : 2000 ≤ N) : ∃ w e, ZfA V N = some (.r0 w e) ∧ ZeZ V N = some (.r0 w e) := by
 by_cases h1 : (1 : Int) ≤ (V.length : Int)
 ·by_cases h2 : (V.length : Int) ≤ (64 : Int)
  ·obtain ⟨w, e, q1, q2⟩ := bndl (N := N) hV (by omega) hN _ 0 0 0 rfl (Nat.zero_le _)
   exact ⟨w, e, gi _ (Zh h1 <| Zh h2 rfl) (by omega) q1, gi _ (Zr (by omega) <| Zr (by omega) rfl) (by omega) q2⟩
  ·exact ⟨0, 270, Zd6 (Zh h1 <| Zr h2 rfl), Zd6 (Zr (by omega) <| Zh (by omega) rfl)⟩
 ·exact ⟨0, 270, Zd6 (Zr h1 rfl), Zd6 (Zh (by omega) rfl)⟩
/-! ### The law -/
theorem Zvc (x : List RA) : (x.take ((if (60 : Int) < (x.length : Int) then (60 : Int) else (x.length : Int))).toNat).length ≤ 60 := by
 rw [List.length_take]
 split <;> omega
theorem fewl {L : List (List RA)} : ∀ (d v : Nat) (V : List (List RA)), 4 - v = d → v ≤ 4 → V.length = v → (∀ x ∈ V, x.length ≤ 60) → ∃ W, Zbl (ZcR L N) (d + 1) (.h1m1 V v) = some (.r1 W) ∧ (∀ x ∈ W, x.length ≤ 60) ∧ W.length ≤ 4
 | 0, v, V, hd, hv, hw, hV => by
  by_cases h : (v : Int) < (L.length : Int)
  ·exact ⟨V, Zaa (Zh h <| Zr (by omega) rfl), hV, by omega⟩
  ·exact ⟨V, Zaa (Zr h rfl), hV, by omega⟩
 | d + 1, v, V, hd, hv, hw, hV => by
  by_cases h : (v : Int) < (L.length : Int)
  ·obtain ⟨W, q1, q2⟩ := fewl d (v + 1) (V ++ [((L.getD v []).take ((if (60 : Int) < (((L.getD v []).length : Nat) : Int) then (60 : Int) else (((L.getD v []).length : Nat) : Int))).toNat)]) (by omega) (by omega) (by simp [hw]) (fun x hx => by
    rcases List.mem_append.1 hx with hx | hx
    ·exact hV x hx
    ·rw [List.mem_singleton] at hx; subst hx; exact Zvc _)
   exact ⟨W, nx _ (Zh h <| Zh (by omega) <| Zh (by omega) rfl) q1, q2⟩
  ·exact ⟨V, Zaa (Zr h rfl), hV, by omega⟩
theorem few {L : List (List RA)} (hN : 2000 ≤ N) : Zfo L N = some .r0 ∨ ∃ W, Zfo L N = some (.r1 W) ∧ (∀ x ∈ W, x.length ≤ 60) ∧ W.length ≤ 4 := by
 by_cases h : (0 : Int) < (L.length : Int)
 ·obtain ⟨W, q1, q2⟩ := fewl (L := L) (N := N) 3 1 [((L.getD 0 []).take ((if (60 : Int) < (((L.getD 0 []).length : Nat) : Int) then (60 : Int) else (((L.getD 0 []).length : Nat) : Int))).toNat)] rfl (by decide) rfl (fun x hx => by
   rw [List.mem_singleton] at hx; subst hx; exact Zvc _)
  exact .inr ⟨W, gi .h1m0 rfl (show 5 ≤ N by omega) (nx _ (Zh h rfl) q1), q2⟩
 ·exact .inl (gi .h1m0 rfl (show 1 ≤ N by omega) (Zaa (Zr h rfl)))
theorem lawl {L : List (List RA)} (hV : ∀ x ∈ V, x.length ≤ 60) (hv : V.length ≤ 4) (hN : 2000 ≤ N) : ∀ (d i : Nat), V.length - i = d → i ≤ V.length → Zbl (ZbB L N) (d + 1) (.h1m1 V i) = some (.r0 true)
 | 0, i, hd, hi => by
  obtain ⟨w, e, q1, q2⟩ := Zvb (N := N) hV hN
  exact Zaa (Zr (by omega) <| Zy q1 <| Zy q2 <| Zh rfl <| Zh rfl rfl)
 | d + 1, i, hd, hi => by
  have hx := getl hV i
  obtain ⟨e, e1, e2⟩ := ends (N := N) hx hN
  obtain ⟨u, u1, u2⟩ := Zva (N := N) hx hN
  exact nx _ (Zh (by omega) <| Zy e1 <| Zy e2 <| Zr (fun q => q rfl) <| Zy u1 <| Zy u2 <| Zr (fun q => q rfl) <| Zh (by omega) rfl) (lawl hV hv hN d (i + 1) (by omega) (by omega))
theorem runs (L : List (List RA)) (N : Nat) (hN : 2000 ≤ N) : ZhT L N = some (.r0 true) := by
 rcases few (L := L) hN with h | ⟨W, h, hW, hw⟩
 ·exact gi .h1m0 (Zy h rfl) (show 1 ≤ N by omega) (Zaa (Zy rfl <| Zy rfl rfl))
 ·exact gi (.h1m1 W 0) (Zy h rfl) (show W.length - 0 + 1 ≤ N by omega) (lawl hW hw hN _ 0 rfl (Nat.zero_le _))
end
end Fb
end Ev
end Go.Proofs.YtelfeeoobdpmkaaGreat
/- A region that draws its order, whose first operations only read (and make memory in calls), and whose last ones, in a forced order among themselves, make and write new memory: but these may come up early. -/
namespace Go.Proofs.YtelfeeoobdpmkaaGreat
open Go.RowKit

section
variable {P : Program}

def Calm (P : Program) (W : World) (o : Oper) (a : Act) (v : Value) : Prop :=
 ∀ w, Below W.heap.size W w → o.quietAt P a (fun w' => Below w.heap.size w w') w v

def YieldsC (P : Program) (ops : Array Oper) (W : World) (o : Oper) (v : Value) (a : Act) : Prop :=
 (Region.wanted o (yielded ops a.tmps) = true ∧ Calm P W o a v) ∨ (Region.wanted o (yielded ops a.tmps) = false ∧ v = undef)
theorem Zpg {a b c : World} (h : Below a.heap.size a b) (k : Below b.heap.size b c) : Below a.heap.size a c := h.trans (k.mono h.size)

def Closed (md : Region.Mode) (ops : Array Oper) (listed : Array Bool) : Prop :=
 ∀ j oj, ops[j]? = some oj → listed.getD j false = true → ∀ e ∈ oj.after, Region.binds md e = true → listed.getD e.on false = true
def Zr9 (md : Region.Mode) (ops : Array Oper) : Nat → Nat → Nat → Bool
 | 0, _, _ => false
 | f + 1, t, i => Region.waitsFor md ops t i || (List.range ops.size).any fun k => Region.waitsFor md ops t k && Zr9 md ops f k i
theorem Closed.waits {md : Region.Mode} {ops : Array Oper} {listed : Array Bool} (h : Closed md ops listed) : ∀ (f t i : Nat), listed.getD t false = true → Zr9 md ops f t i = true → listed.getD i false = true
 | 0, _, _, _, hw => by cases hw
 | f + 1, t, i, ht, hw => by
  simp only [Zr9, Bool.or_eq_true, List.any_eq_true, Bool.and_eq_true] at hw
  rcases hw with hw | ⟨k, _, hw, hr⟩
  ·obtain ⟨o, ho, e, he, hb, rfl⟩ := Region.waitsFor_spec hw
   exact h t o ho ht e he hb
  ·obtain ⟨o, ho, e, he, hb, rfl⟩ := Region.waitsFor_spec hw
   exact h.waits f e.on i (h t o ho ht e he hb) hr

theorem YieldsC.wpOp {ops : Array Oper} {W : World} {i : Nat} {o : Oper} {v : Value} {a : Act} {w : World} (hi : ops[i]? = some o) (hy : YieldsC P ops W o v a) (hb : Below W.heap.size W w)
  {K : Act → World → Prop} {Q : Exit → Act → World → Prop} (h : ∀ w', Below w.heap.size w w' → K (a.put o.dst v) w') : wpOp P ops Q i K a w := by
 unfold Go.wpOp
 simp only [hi]
 rcases hy with ⟨hw, hv⟩ | ⟨hw, rfl⟩
 ·simp only [hw, if_true]
  exact .inl (Oper.wp_of_quiet (C := fun w' => Below w.heap.size w w') (K := fun a' => a' = a.put o.dst v) (Below.refl _ _) (fun a' w' hw' ha => by subst ha; exact h w' hw')
   ⟨v, fun w1 hw1 => by
    have h1 := hv w1 (Zpg hb hw1)
    unfold Oper.quietAt at h1 ⊢
    generalize (execOp a.eval o).run P w1 = r at *
    cases r with
    | ok n w' =>
     cases n <;> simp only [Oper.quietUpon] at h1 ⊢
     case value u => exact h1
     case skip => exact h1
     case enter f args => exact ⟨h1.1, h1.2.mono fun e w2 ⟨he, hb2⟩ => ⟨he, Zpg hw1 hb2⟩⟩
    | halt x w' => simp only [Oper.quietUpon] at h1, rfl⟩)
 ·simp only [hw, Bool.false_eq_true, if_false]
  exact h w (Below.refl _ _)

end
end Go.Proofs.YtelfeeoobdpmkaaGreat
/- The law FairBounds, for every input. -/
namespace Go.Proofs.YtelfeeoobdpmkaaGreat
open Go.ChangeShapes Go.WideShapes Go.ChangeAt Go.RowKit
namespace Ev
namespace FairBounds
set_option linter.unusedVariables false
def ZuL (x : RA) : Prop := (IntKind.i64.min ≤ x.a0 ∧ x.a0 ≤ IntKind.i64.max) ∧ (IntKind.i64.min ≤ x.a1 ∧ x.a1 ≤ IntKind.i64.max) ∧ (IntKind.i64.min ≤ x.a2 ∧ x.a2 ≤ IntKind.i64.max) ∧ (IntKind.i64.min ≤ x.a3 ∧ x.a3 ≤ IntKind.i64.max)
theorem el1 {H : Type} {enc : TypeId × Value → H} {w : World} {cs : List Value} (hl : cs.length = 4) (h : Trd enc Tryz.prog w 43 cs) : ∃ x : RA, DecL w cs (E_iiii.cel x) ∧ ZuL x := by
 have h0 := Zub (by kernel_rfl : Tryz.prog.cellsOf 43 = 4) hl h
 have h1 := ZjJ 0 1 4 Tryz.underlying43 h0 0 (te := 41) (o' := 0) (by kernel_rfl) rfl (by kernel_rfl) (by kernel_rfl) (by decide)
 obtain ⟨x0, e0, b0⟩ := ZnL Tryz.underlying41 (by kernel_rfl) h1
 have h2 := ZjJ 1 1 4 Tryz.underlying43 h0 1 (te := 3) (o' := 1) (by kernel_rfl) rfl (by kernel_rfl) (by kernel_rfl) (by decide)
 obtain ⟨x1, e1, b1⟩ := ZnL Tryz.underlying3 (by kernel_rfl) h2
 have h3 := ZjJ 2 1 4 Tryz.underlying43 h0 2 (te := 3) (o' := 2) (by kernel_rfl) rfl (by kernel_rfl) (by kernel_rfl) (by decide)
 obtain ⟨x2, e2, b2⟩ := ZnL Tryz.underlying3 (by kernel_rfl) h3
 have h4 := ZjJ 3 1 4 Tryz.underlying43 h0 3 (te := 3) (o' := 3) (by kernel_rfl) rfl (by kernel_rfl) (by kernel_rfl) (by decide)
 obtain ⟨x3, e3, b3⟩ := ZnL Tryz.underlying3 (by kernel_rfl) h4
 refine ⟨(⟨x0, x1, x2, x3⟩ : RA), ZsA (by rw [hl, Enc.clen]; rfl) (fun j y hy => ?_), ⟨b0, b1, b2, b3⟩⟩
 have := (Zji (w := w) (k := 0) e0 .i (Zji (w := w) (k := 1) e1 .i (Zji (w := w) (k := 2) e2 .i (Zji (w := w) (k := 3) e3 .i (Zua (w := w)))))) j y hy
 simpa using this
def el0R (x : List RA) : Prop := (x.length ≤ 9223372036854775807 ∧ ∀ y ∈ x, ZuL y)
theorem el0 {H : Type} {enc : TypeId × Value → H} {w : World} {cs : List Value} (hl : cs.length = 1) (h : Trd enc Tryz.prog w 25 cs) : ∃ x : List RA, DecL w cs ((ZE E_iiii).cel x) ∧ el0R x := by
 have h0 := Zub (by kernel_rfl : Tryz.prog.cellsOf 25 = 1) hl h
 obtain ⟨x0, v0, e0, d0, b0⟩ := ZuH (E := E_iiii) (Q := ZuL) Tryz.underlying25 (by kernel_rfl) (by kernel_rfl) (by decide) (fun _ => el1) h0
 refine ⟨(x0 : List RA), ZsA (by rw [hl, Enc.clen]; rfl) (fun j y hy => ?_), b0⟩
 have := (Zji (w := w) (k := 0) e0 d0 (Zua (w := w))) j y hy
 simpa using this
theorem own : ownKnob Tryz.prog.godebug = none := by kernel_rfl
set_option maxRecDepth 100000 in
theorem lifted (os : Os) (started : os.Started) (H : Type) (enc : TypeId × Value → H) :
  ReturnsInHanded {} Tryz.checked os 3 .any (Rows.fairBoundsSpec.pre6 enc Tryz.prog Tryz.f3 Rows.fairBoundsRow.domain false) (Rows.fairBoundsSpec.post enc Tryz.prog Tryz.f3 false true false false) := by
 refine ZtQ (C := Tryz.checked) own started (by kernel_rfl) Tryz.func3 rfl rfl Tryz.underlying4 ?_ (by kernel_rfl) (by kernel_rfl)
  (ChangeSpec.witness6 (enc := enc) (C := Tryz.checked) false ⟨#[], #[.slice none 0 0], []⟩ 8 (by kernel_rfl) (by kernel_rfl) (by kernel_rfl) (by kernel_rfl)) ?_
 ·intro ds hlen
  have hlen : ds.length = 1 := hlen.trans (by kernel_rfl)
  match ds, hlen with
  | [_], _ => rfl
 intro W base args ds p hval hA hlt hsz
 rw [Tryz.params3] at hA hval
 obtain ⟨v0, vs0, d0, ds0, p0, q0, hargs, rfl, rfl, h0, r0⟩ := trodAll_cons hA
 obtain ⟨rfl, rfl, rfl⟩ := trodAll_nil r0
 obtain rfl : args = #[v0] := by cases args; simp_all
 obtain ⟨a0, l0, c0, rfl⟩ := Go.WideShapes.okWide_slice Tryz.underlying22 (hval 0 22 v0 rfl rfl)
 obtain ⟨L0, u0, e0, D0, n0, m0⟩ := Zpc (E := (ZE E_iiii)) (Q := el0R) Tryz.underlying22 (by kernel_rfl) (by decide) (fun _ => el0) (Zvs h0)
 obtain rfl : u0 = .slice a0 l0 c0 := by have := e0; simp [Value.cells] at this; exact this.symm
 exact ZtT (Zjx L0 100000 _ (Fb.runs L0 100000 (by decide))) (Zu2 (show VR (ιMk W) (ms (ZE E_iiii) L0) _ from D0.vr) Zs0) rfl
theorem over : Rows.fairBoundsRow.holds Tryz.pinned (OpenSpec.ofChange Rows.fairBoundsSpec) :=
 OpenClaim.holds_of_wide 3 Tryz.f3 rfl rfl rfl rfl rfl rfl rfl ⟨rfl, rfl, rfl, rfl, rfl⟩ rfl rfl rfl rfl rfl (by kernel_rfl) Tryz.func3 Zuc
  (of_decide_eq_true (by kernel_rfl)) (by unfold Func.isWrapper; first | (rw [if_pos (by decide +kernel)]; kernel_rfl) | (rw [if_neg (by decide +kernel)]; exact ⟨rfl, rfl⟩))
  (fun os started H enc _ => lifted os started H enc)
theorem proved : Rows.FairBoundsSaid := over
#print axioms proved
end FairBounds
end Ev
end Go.Proofs.YtelfeeoobdpmkaaGreat
