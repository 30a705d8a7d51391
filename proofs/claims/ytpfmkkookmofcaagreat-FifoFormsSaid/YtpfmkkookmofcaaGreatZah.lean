/- The law FifoForms, for every input. -/
import Derived.Test.YtpfmkkookmofcaaGreatZag
import Derived.Test.YtpfmkkookmofcaaGreatZac
import Derived.Test.YtpfmkkookmofcaaGreatZad
import Derived.StillTail
import Derived.OrdersHeld
import Derived.WideBlind
/- Calls do what the plain functions say. -/
namespace Go.Proofs.YtpfmkkookmofcaaGreat
open Go.RowKit
namespace Ev
set_option linter.unusedVariables false
set_option maxRecDepth 100000
theorem Zhz (a0 a1 a2 a3 a4 : Int) (v3 v4 : Bool) (N : Nat) : (Zc a0 a1 a2 a3 a4 N).Ok Tryz.prog Zo (.h2m11 v3 v4 : law32_FifoFormsX) (Zp a0 a1 a2 a3 a4 N (.h2m11 v3 v4 : law32_FifoFormsX)) := by
 show (Zc a0 a1 a2 a3 a4 N).Ok Tryz.prog Zo (.h2m11 v3 v4 : law32_FifoFormsX) (Zb2 a0 a1 a2 a3 a4 N v3 v4)
 unfold Zb2
 refine Mach.ok_ite (fun g0 => ?_) (fun g0 => ?_)
 ·
  subst g0
  refine Mach.ok_ite (fun g1 => ?_) (fun g1 => ?_)
  ·
   subst g1
   refine Mach.ok_ite (fun g2 => ?_) (fun g2 => ?_)
   ·
    refine Mach.ok_ite (fun g3 => ?_) (fun g3 => ?_)
    ·
     refine Mach.ok_ite (fun g4 => ?_) (fun g4 => ?_)
     ·
      refine Mach.ok_ite (fun g5 => ?_) (fun g5 => ?_)
      ·
       exact Mach.ok_fin (M := Zc a0 a1 a2 a3 a4 N) (cd := 1000000) (cm := 0) (r := (.r0 (false) : Zg)) (fu := 4000) (orc := (Zk [(1, true), (2, true), (3, true), (4, true)] [] [] [] [])) (live := []) (u := vf) (bl := []) (ob := [((decide (a1 ≤ (3 : Int))), true), ((decide (a1 ≥ (0 : Int))), true), ((decide (a0 ≤ (400 : Int))), true), ((decide (a0 ≥ (0 : Int))), true)]) (fun gv => by kernel_rfl) (oY <| oY <| oY <| oY Zf) rfl (by decide) (by rfl) rr trivial
      ·
       exact Mach.ok_next (M := Zc a0 a1 a2 a3 a4 N) (cd := 1000000) (cm := 0) (y := (.h2m17 (true) (true) : law32_FifoFormsX)) (fu := 4000) (orc := (Zk [(1, true), (2, true), (3, true), (4, false)] [] [] [] [])) (live := [0, 1]) (tv := fun _ => [some (vi a0), some (vi a1), some (vi a2), some (vp 0 0), some (vp 1 0), some (vT), some (vT), some (vi (2 : Int))]) (bl := [some (.cells [vn, vn, vn, vn] 23), some ZJ]) (ob := [((decide (a1 ≤ (3 : Int))), false), ((decide (a1 ≥ (0 : Int))), true), ((decide (a0 ≤ (400 : Int))), true), ((decide (a0 ≥ (0 : Int))), true)]) rfl (show 2 ∈ Zl (Zh 2) from by decide +kernel) (fun gv => by kernel_rfl) (oN <| oY <| oY <| oY Zf) rfl (by decide) (by rfl) (fun _ => ⟨rr, ⟨rr, ⟨rr, ⟨rr, ⟨rr, ⟨rr, ⟨rr, ⟨rr, trivial⟩⟩⟩⟩⟩⟩⟩⟩) ⟨⟨rfl, ⟨[], by rfl⟩, by rfl⟩, ⟨⟨rfl, ⟨[], by rfl⟩, by rfl⟩, trivial⟩⟩
     ·
      exact Mach.ok_next (M := Zc a0 a1 a2 a3 a4 N) (cd := 1000000) (cm := 0) (y := (.h2m17 (true) (true) : law32_FifoFormsX)) (fu := 4000) (orc := (Zk [(1, true), (2, true), (3, false)] [] [] [] [])) (live := [0, 1]) (tv := fun _ => [some (vi a0), some (vi a1), some (vi a2), some (vp 0 0), some (vp 1 0), some (vT), some (vT), some (vi (2 : Int))]) (bl := [some (.cells [vn, vn, vn, vn] 23), some ZJ]) (ob := [((decide (a1 ≥ (0 : Int))), false), ((decide (a0 ≤ (400 : Int))), true), ((decide (a0 ≥ (0 : Int))), true)]) rfl (show 2 ∈ Zl (Zh 2) from by decide +kernel) (fun gv => by kernel_rfl) (oN <| oY <| oY Zf) rfl (by decide) (by rfl) (fun _ => ⟨rr, ⟨rr, ⟨rr, ⟨rr, ⟨rr, ⟨rr, ⟨rr, ⟨rr, trivial⟩⟩⟩⟩⟩⟩⟩⟩) ⟨⟨rfl, ⟨[], by rfl⟩, by rfl⟩, ⟨⟨rfl, ⟨[], by rfl⟩, by rfl⟩, trivial⟩⟩
    ·
     exact Mach.ok_next (M := Zc a0 a1 a2 a3 a4 N) (cd := 1000000) (cm := 0) (y := (.h2m17 (true) (true) : law32_FifoFormsX)) (fu := 4000) (orc := (Zk [(1, true), (2, false)] [] [] [] [])) (live := [0, 1]) (tv := fun _ => [some (vi a0), some (vi a1), some (vi a2), some (vp 0 0), some (vp 1 0), some (vT), some (vT), some (vi (2 : Int))]) (bl := [some (.cells [vn, vn, vn, vn] 23), some ZJ]) (ob := [((decide (a0 ≤ (400 : Int))), false), ((decide (a0 ≥ (0 : Int))), true)]) rfl (show 2 ∈ Zl (Zh 2) from by decide +kernel) (fun gv => by kernel_rfl) (oN <| oY Zf) rfl (by decide) (by rfl) (fun _ => ⟨rr, ⟨rr, ⟨rr, ⟨rr, ⟨rr, ⟨rr, ⟨rr, ⟨rr, trivial⟩⟩⟩⟩⟩⟩⟩⟩) ⟨⟨rfl, ⟨[], by rfl⟩, by rfl⟩, ⟨⟨rfl, ⟨[], by rfl⟩, by rfl⟩, trivial⟩⟩
   ·
    exact Mach.ok_next (M := Zc a0 a1 a2 a3 a4 N) (cd := 1000000) (cm := 0) (y := (.h2m17 (true) (true) : law32_FifoFormsX)) (fu := 4000) (orc := (Zk [(1, false)] [] [] [] [])) (live := [0, 1]) (tv := fun _ => [some (vi a0), some (vi a1), some (vi a2), some (vp 0 0), some (vp 1 0), some (vT), some (vT), some (vi (2 : Int))]) (bl := [some (.cells [vn, vn, vn, vn] 23), some ZJ]) (ob := [((decide (a0 ≥ (0 : Int))), false)]) rfl (show 2 ∈ Zl (Zh 2) from by decide +kernel) (fun gv => by kernel_rfl) (oN Zf) rfl (by decide) (by rfl) (fun _ => ⟨rr, ⟨rr, ⟨rr, ⟨rr, ⟨rr, ⟨rr, ⟨rr, ⟨rr, trivial⟩⟩⟩⟩⟩⟩⟩⟩) ⟨⟨rfl, ⟨[], by rfl⟩, by rfl⟩, ⟨⟨rfl, ⟨[], by rfl⟩, by rfl⟩, trivial⟩⟩
  ·
   obtain rfl : v4 = false := by simpa using g1
   refine Mach.ok_ite (fun g2 => ?_) (fun g2 => ?_)
   ·
    refine Mach.ok_ite (fun g3 => ?_) (fun g3 => ?_)
    ·
     refine Mach.ok_ite (fun g4 => ?_) (fun g4 => ?_)
     ·
      refine Mach.ok_ite (fun g5 => ?_) (fun g5 => ?_)
      ·
       exact Mach.ok_fin (M := Zc a0 a1 a2 a3 a4 N) (cd := 1000000) (cm := 0) (r := (.r0 (false) : Zg)) (fu := 4000) (orc := (Zk [(1, true), (2, true), (3, true), (4, true)] [] [] [] [])) (live := []) (u := vf) (bl := []) (ob := [((decide (a1 ≤ (3 : Int))), true), ((decide (a1 ≥ (0 : Int))), true), ((decide (a0 ≤ (400 : Int))), true), ((decide (a0 ≥ (0 : Int))), true)]) (fun gv => by kernel_rfl) (oY <| oY <| oY <| oY Zf) rfl (by decide) (by rfl) rr trivial
      ·
       exact Mach.ok_next (M := Zc a0 a1 a2 a3 a4 N) (cd := 1000000) (cm := 0) (y := (.h2m17 (true) (false) : law32_FifoFormsX)) (fu := 4000) (orc := (Zk [(1, true), (2, true), (3, true), (4, false)] [] [] [] [])) (live := [0, 1]) (tv := fun _ => [some (vi a0), some (vi a1), some (vi a2), some (vp 0 0), some (vp 1 0), some (vT), some (vf), some (vi (2 : Int))]) (bl := [some (.cells [vn, vn, vn, vn] 23), some ZJ]) (ob := [((decide (a1 ≤ (3 : Int))), false), ((decide (a1 ≥ (0 : Int))), true), ((decide (a0 ≤ (400 : Int))), true), ((decide (a0 ≥ (0 : Int))), true)]) rfl (show 2 ∈ Zl (Zh 2) from by decide +kernel) (fun gv => by kernel_rfl) (oN <| oY <| oY <| oY Zf) rfl (by decide) (by rfl) (fun _ => ⟨rr, ⟨rr, ⟨rr, ⟨rr, ⟨rr, ⟨rr, ⟨rr, ⟨rr, trivial⟩⟩⟩⟩⟩⟩⟩⟩) ⟨⟨rfl, ⟨[], by rfl⟩, by rfl⟩, ⟨⟨rfl, ⟨[], by rfl⟩, by rfl⟩, trivial⟩⟩
     ·
      exact Mach.ok_next (M := Zc a0 a1 a2 a3 a4 N) (cd := 1000000) (cm := 0) (y := (.h2m17 (true) (false) : law32_FifoFormsX)) (fu := 4000) (orc := (Zk [(1, true), (2, true), (3, false)] [] [] [] [])) (live := [0, 1]) (tv := fun _ => [some (vi a0), some (vi a1), some (vi a2), some (vp 0 0), some (vp 1 0), some (vT), some (vf), some (vi (2 : Int))]) (bl := [some (.cells [vn, vn, vn, vn] 23), some ZJ]) (ob := [((decide (a1 ≥ (0 : Int))), false), ((decide (a0 ≤ (400 : Int))), true), ((decide (a0 ≥ (0 : Int))), true)]) rfl (show 2 ∈ Zl (Zh 2) from by decide +kernel) (fun gv => by kernel_rfl) (oN <| oY <| oY Zf) rfl (by decide) (by rfl) (fun _ => ⟨rr, ⟨rr, ⟨rr, ⟨rr, ⟨rr, ⟨rr, ⟨rr, ⟨rr, trivial⟩⟩⟩⟩⟩⟩⟩⟩) ⟨⟨rfl, ⟨[], by rfl⟩, by rfl⟩, ⟨⟨rfl, ⟨[], by rfl⟩, by rfl⟩, trivial⟩⟩
    ·
     exact Mach.ok_next (M := Zc a0 a1 a2 a3 a4 N) (cd := 1000000) (cm := 0) (y := (.h2m17 (true) (false) : law32_FifoFormsX)) (fu := 4000) (orc := (Zk [(1, true), (2, false)] [] [] [] [])) (live := [0, 1]) (tv := fun _ => [some (vi a0), some (vi a1), some (vi a2), some (vp 0 0), some (vp 1 0), some (vT), some (vf), some (vi (2 : Int))]) (bl := [some (.cells [vn, vn, vn, vn] 23), some ZJ]) (ob := [((decide (a0 ≤ (400 : Int))), false), ((decide (a0 ≥ (0 : Int))), true)]) rfl (show 2 ∈ Zl (Zh 2) from by decide +kernel) (fun gv => by kernel_rfl) (oN <| oY Zf) rfl (by decide) (by rfl) (fun _ => ⟨rr, ⟨rr, ⟨rr, ⟨rr, ⟨rr, ⟨rr, ⟨rr, ⟨rr, trivial⟩⟩⟩⟩⟩⟩⟩⟩) ⟨⟨rfl, ⟨[], by rfl⟩, by rfl⟩, ⟨⟨rfl, ⟨[], by rfl⟩, by rfl⟩, trivial⟩⟩
   ·
    exact Mach.ok_next (M := Zc a0 a1 a2 a3 a4 N) (cd := 1000000) (cm := 0) (y := (.h2m17 (true) (false) : law32_FifoFormsX)) (fu := 4000) (orc := (Zk [(1, false)] [] [] [] [])) (live := [0, 1]) (tv := fun _ => [some (vi a0), some (vi a1), some (vi a2), some (vp 0 0), some (vp 1 0), some (vT), some (vf), some (vi (2 : Int))]) (bl := [some (.cells [vn, vn, vn, vn] 23), some ZJ]) (ob := [((decide (a0 ≥ (0 : Int))), false)]) rfl (show 2 ∈ Zl (Zh 2) from by decide +kernel) (fun gv => by kernel_rfl) (oN Zf) rfl (by decide) (by rfl) (fun _ => ⟨rr, ⟨rr, ⟨rr, ⟨rr, ⟨rr, ⟨rr, ⟨rr, ⟨rr, trivial⟩⟩⟩⟩⟩⟩⟩⟩) ⟨⟨rfl, ⟨[], by rfl⟩, by rfl⟩, ⟨⟨rfl, ⟨[], by rfl⟩, by rfl⟩, trivial⟩⟩
 ·
  obtain rfl : v3 = false := by simpa using g0
  refine Mach.ok_ite (fun g1 => ?_) (fun g1 => ?_)
  ·
   subst g1
   refine Mach.ok_ite (fun g2 => ?_) (fun g2 => ?_)
   ·
    refine Mach.ok_ite (fun g3 => ?_) (fun g3 => ?_)
    ·
     refine Mach.ok_ite (fun g4 => ?_) (fun g4 => ?_)
     ·
      refine Mach.ok_ite (fun g5 => ?_) (fun g5 => ?_)
      ·
       exact Mach.ok_fin (M := Zc a0 a1 a2 a3 a4 N) (cd := 1000000) (cm := 0) (r := (.r0 (false) : Zg)) (fu := 4000) (orc := (Zk [(1, true), (2, true), (3, true), (4, true)] [] [] [] [])) (live := []) (u := vf) (bl := []) (ob := [((decide (a1 ≤ (3 : Int))), true), ((decide (a1 ≥ (0 : Int))), true), ((decide (a0 ≤ (400 : Int))), true), ((decide (a0 ≥ (0 : Int))), true)]) (fun gv => by kernel_rfl) (oY <| oY <| oY <| oY Zf) rfl (by decide) (by rfl) rr trivial
      ·
       exact Mach.ok_next (M := Zc a0 a1 a2 a3 a4 N) (cd := 1000000) (cm := 0) (y := (.h2m17 (false) (true) : law32_FifoFormsX)) (fu := 4000) (orc := (Zk [(1, true), (2, true), (3, true), (4, false)] [] [] [] [])) (live := [0, 1]) (tv := fun _ => [some (vi a0), some (vi a1), some (vi a2), some (vp 0 0), some (vp 1 0), some (vf), some (vT), some (vi (2 : Int))]) (bl := [some (.cells [vn, vn, vn, vn] 23), some ZJ]) (ob := [((decide (a1 ≤ (3 : Int))), false), ((decide (a1 ≥ (0 : Int))), true), ((decide (a0 ≤ (400 : Int))), true), ((decide (a0 ≥ (0 : Int))), true)]) rfl (show 2 ∈ Zl (Zh 2) from by decide +kernel) (fun gv => by kernel_rfl) (oN <| oY <| oY <| oY Zf) rfl (by decide) (by rfl) (fun _ => ⟨rr, ⟨rr, ⟨rr, ⟨rr, ⟨rr, ⟨rr, ⟨rr, ⟨rr, trivial⟩⟩⟩⟩⟩⟩⟩⟩) ⟨⟨rfl, ⟨[], by rfl⟩, by rfl⟩, ⟨⟨rfl, ⟨[], by rfl⟩, by rfl⟩, trivial⟩⟩
     ·
      exact Mach.ok_next (M := Zc a0 a1 a2 a3 a4 N) (cd := 1000000) (cm := 0) (y := (.h2m17 (false) (true) : law32_FifoFormsX)) (fu := 4000) (orc := (Zk [(1, true), (2, true), (3, false)] [] [] [] [])) (live := [0, 1]) (tv := fun _ => [some (vi a0), some (vi a1), some (vi a2), some (vp 0 0), some (vp 1 0), some (vf), some (vT), some (vi (2 : Int))]) (bl := [some (.cells [vn, vn, vn, vn] 23), some ZJ]) (ob := [((decide (a1 ≥ (0 : Int))), false), ((decide (a0 ≤ (400 : Int))), true), ((decide (a0 ≥ (0 : Int))), true)]) rfl (show 2 ∈ Zl (Zh 2) from by decide +kernel) (fun gv => by kernel_rfl) (oN <| oY <| oY Zf) rfl (by decide) (by rfl) (fun _ => ⟨rr, ⟨rr, ⟨rr, ⟨rr, ⟨rr, ⟨rr, ⟨rr, ⟨rr, trivial⟩⟩⟩⟩⟩⟩⟩⟩) ⟨⟨rfl, ⟨[], by rfl⟩, by rfl⟩, ⟨⟨rfl, ⟨[], by rfl⟩, by rfl⟩, trivial⟩⟩
    ·
     exact Mach.ok_next (M := Zc a0 a1 a2 a3 a4 N) (cd := 1000000) (cm := 0) (y := (.h2m17 (false) (true) : law32_FifoFormsX)) (fu := 4000) (orc := (Zk [(1, true), (2, false)] [] [] [] [])) (live := [0, 1]) (tv := fun _ => [some (vi a0), some (vi a1), some (vi a2), some (vp 0 0), some (vp 1 0), some (vf), some (vT), some (vi (2 : Int))]) (bl := [some (.cells [vn, vn, vn, vn] 23), some ZJ]) (ob := [((decide (a0 ≤ (400 : Int))), false), ((decide (a0 ≥ (0 : Int))), true)]) rfl (show 2 ∈ Zl (Zh 2) from by decide +kernel) (fun gv => by kernel_rfl) (oN <| oY Zf) rfl (by decide) (by rfl) (fun _ => ⟨rr, ⟨rr, ⟨rr, ⟨rr, ⟨rr, ⟨rr, ⟨rr, ⟨rr, trivial⟩⟩⟩⟩⟩⟩⟩⟩) ⟨⟨rfl, ⟨[], by rfl⟩, by rfl⟩, ⟨⟨rfl, ⟨[], by rfl⟩, by rfl⟩, trivial⟩⟩
   ·
    exact Mach.ok_next (M := Zc a0 a1 a2 a3 a4 N) (cd := 1000000) (cm := 0) (y := (.h2m17 (false) (true) : law32_FifoFormsX)) (fu := 4000) (orc := (Zk [(1, false)] [] [] [] [])) (live := [0, 1]) (tv := fun _ => [some (vi a0), some (vi a1), some (vi a2), some (vp 0 0), some (vp 1 0), some (vf), some (vT), some (vi (2 : Int))]) (bl := [some (.cells [vn, vn, vn, vn] 23), some ZJ]) (ob := [((decide (a0 ≥ (0 : Int))), false)]) rfl (show 2 ∈ Zl (Zh 2) from by decide +kernel) (fun gv => by kernel_rfl) (oN Zf) rfl (by decide) (by rfl) (fun _ => ⟨rr, ⟨rr, ⟨rr, ⟨rr, ⟨rr, ⟨rr, ⟨rr, ⟨rr, trivial⟩⟩⟩⟩⟩⟩⟩⟩) ⟨⟨rfl, ⟨[], by rfl⟩, by rfl⟩, ⟨⟨rfl, ⟨[], by rfl⟩, by rfl⟩, trivial⟩⟩
  ·
   obtain rfl : v4 = false := by simpa using g1
   refine Mach.ok_ite (fun g2 => ?_) (fun g2 => ?_)
   ·
    refine Mach.ok_ite (fun g3 => ?_) (fun g3 => ?_)
    ·
     refine Mach.ok_ite (fun g4 => ?_) (fun g4 => ?_)
     ·
      refine Mach.ok_ite (fun g5 => ?_) (fun g5 => ?_)
      ·
       exact Mach.ok_fin (M := Zc a0 a1 a2 a3 a4 N) (cd := 1000000) (cm := 0) (r := (.r0 (false) : Zg)) (fu := 4000) (orc := (Zk [(1, true), (2, true), (3, true), (4, true)] [] [] [] [])) (live := []) (u := vf) (bl := []) (ob := [((decide (a1 ≤ (3 : Int))), true), ((decide (a1 ≥ (0 : Int))), true), ((decide (a0 ≤ (400 : Int))), true), ((decide (a0 ≥ (0 : Int))), true)]) (fun gv => by kernel_rfl) (oY <| oY <| oY <| oY Zf) rfl (by decide) (by rfl) rr trivial
      ·
       exact Mach.ok_next (M := Zc a0 a1 a2 a3 a4 N) (cd := 1000000) (cm := 0) (y := (.h2m17 (false) (false) : law32_FifoFormsX)) (fu := 4000) (orc := (Zk [(1, true), (2, true), (3, true), (4, false)] [] [] [] [])) (live := [0, 1]) (tv := fun _ => [some (vi a0), some (vi a1), some (vi a2), some (vp 0 0), some (vp 1 0), some (vf), some (vf), some (vi (2 : Int))]) (bl := [some (.cells [vn, vn, vn, vn] 23), some ZJ]) (ob := [((decide (a1 ≤ (3 : Int))), false), ((decide (a1 ≥ (0 : Int))), true), ((decide (a0 ≤ (400 : Int))), true), ((decide (a0 ≥ (0 : Int))), true)]) rfl (show 2 ∈ Zl (Zh 2) from by decide +kernel) (fun gv => by kernel_rfl) (oN <| oY <| oY <| oY Zf) rfl (by decide) (by rfl) (fun _ => ⟨rr, ⟨rr, ⟨rr, ⟨rr, ⟨rr, ⟨rr, ⟨rr, ⟨rr, trivial⟩⟩⟩⟩⟩⟩⟩⟩) ⟨⟨rfl, ⟨[], by rfl⟩, by rfl⟩, ⟨⟨rfl, ⟨[], by rfl⟩, by rfl⟩, trivial⟩⟩
     ·
      exact Mach.ok_next (M := Zc a0 a1 a2 a3 a4 N) (cd := 1000000) (cm := 0) (y := (.h2m17 (false) (false) : law32_FifoFormsX)) (fu := 4000) (orc := (Zk [(1, true), (2, true), (3, false)] [] [] [] [])) (live := [0, 1]) (tv := fun _ => [some (vi a0), some (vi a1), some (vi a2), some (vp 0 0), some (vp 1 0), some (vf), some (vf), some (vi (2 : Int))]) (bl := [some (.cells [vn, vn, vn, vn] 23), some ZJ]) (ob := [((decide (a1 ≥ (0 : Int))), false), ((decide (a0 ≤ (400 : Int))), true), ((decide (a0 ≥ (0 : Int))), true)]) rfl (show 2 ∈ Zl (Zh 2) from by decide +kernel) (fun gv => by kernel_rfl) (oN <| oY <| oY Zf) rfl (by decide) (by rfl) (fun _ => ⟨rr, ⟨rr, ⟨rr, ⟨rr, ⟨rr, ⟨rr, ⟨rr, ⟨rr, trivial⟩⟩⟩⟩⟩⟩⟩⟩) ⟨⟨rfl, ⟨[], by rfl⟩, by rfl⟩, ⟨⟨rfl, ⟨[], by rfl⟩, by rfl⟩, trivial⟩⟩
    ·
     exact Mach.ok_next (M := Zc a0 a1 a2 a3 a4 N) (cd := 1000000) (cm := 0) (y := (.h2m17 (false) (false) : law32_FifoFormsX)) (fu := 4000) (orc := (Zk [(1, true), (2, false)] [] [] [] [])) (live := [0, 1]) (tv := fun _ => [some (vi a0), some (vi a1), some (vi a2), some (vp 0 0), some (vp 1 0), some (vf), some (vf), some (vi (2 : Int))]) (bl := [some (.cells [vn, vn, vn, vn] 23), some ZJ]) (ob := [((decide (a0 ≤ (400 : Int))), false), ((decide (a0 ≥ (0 : Int))), true)]) rfl (show 2 ∈ Zl (Zh 2) from by decide +kernel) (fun gv => by kernel_rfl) (oN <| oY Zf) rfl (by decide) (by rfl) (fun _ => ⟨rr, ⟨rr, ⟨rr, ⟨rr, ⟨rr, ⟨rr, ⟨rr, ⟨rr, trivial⟩⟩⟩⟩⟩⟩⟩⟩) ⟨⟨rfl, ⟨[], by rfl⟩, by rfl⟩, ⟨⟨rfl, ⟨[], by rfl⟩, by rfl⟩, trivial⟩⟩
   ·
    exact Mach.ok_next (M := Zc a0 a1 a2 a3 a4 N) (cd := 1000000) (cm := 0) (y := (.h2m17 (false) (false) : law32_FifoFormsX)) (fu := 4000) (orc := (Zk [(1, false)] [] [] [] [])) (live := [0, 1]) (tv := fun _ => [some (vi a0), some (vi a1), some (vi a2), some (vp 0 0), some (vp 1 0), some (vf), some (vf), some (vi (2 : Int))]) (bl := [some (.cells [vn, vn, vn, vn] 23), some ZJ]) (ob := [((decide (a0 ≥ (0 : Int))), false)]) rfl (show 2 ∈ Zl (Zh 2) from by decide +kernel) (fun gv => by kernel_rfl) (oN Zf) rfl (by decide) (by rfl) (fun _ => ⟨rr, ⟨rr, ⟨rr, ⟨rr, ⟨rr, ⟨rr, ⟨rr, ⟨rr, trivial⟩⟩⟩⟩⟩⟩⟩⟩) ⟨⟨rfl, ⟨[], by rfl⟩, by rfl⟩, ⟨⟨rfl, ⟨[], by rfl⟩, by rfl⟩, trivial⟩⟩

theorem Zh0 (a0 a1 a2 a3 a4 : Int) (v5 v6 v7 v8 : List RA) (N : Nat) : (Zc a0 a1 a2 a3 a4 N).Ok Tryz.prog Zo (.h2m12 v5 v6 v7 v8 : law32_FifoFormsX) (Zp a0 a1 a2 a3 a4 N (.h2m12 v5 v6 v7 v8 : law32_FifoFormsX)) := by
 show (Zc a0 a1 a2 a3 a4 N).Ok Tryz.prog Zo (.h2m12 v5 v6 v7 v8 : law32_FifoFormsX) (Zb3 a0 a1 a2 a3 a4 N v5 v6 v7 v8)
 unfold Zb3
 refine Mach.ok_ite (fun g0 => ?_) (fun g0 => ?_)
 ·
  refine Mach.ok_ite (fun g1 => ?_) (fun g1 => ?_)
  ·
   refine Mach.ok_ite (fun g2 => ?_) (fun g2 => ?_)
   ·
    refine Mach.ok_ite (fun g3 => ?_) (fun g3 => ?_)
    ·
     refine Mach.ok_ite (fun g4 => ?_) (fun g4 => ?_)
     ·
      refine Mach.ok_ite (fun g5 => ?_) (fun g5 => ?_)
      ·
       refine Mach.ok_ite (fun g6 => ?_) (fun g6 => ?_)
       ·
        exact Mach.ok_fin (M := Zc a0 a1 a2 a3 a4 N) (cd := 1000000) (cm := 0) (r := (.r0 (false) : Zg)) (fu := 4000) (orc := (Zk [(1, true), (2, true), (3, true), (4, true), (8, true)] [] [] [] [])) (live := []) (u := vf) (bl := []) (ob := [((decide ((v7.length : Int) < (1 : Int))), true), ((decide (a1 ≤ (3 : Int))), true), ((decide (a1 ≥ (0 : Int))), true), ((decide (a0 ≤ (400 : Int))), true), ((decide (a0 ≥ (0 : Int))), true)]) (fun gv => by kernel_rfl) (oY <| oY <| oY <| oY <| oY Zf) rfl (by decide) (by rfl) rr trivial
       ·
        refine Mach.ok_ite (fun g7 => ?_) (fun g7 => ?_)
        ·
         exact Mach.ok_fin (M := Zc a0 a1 a2 a3 a4 N) (cd := 1000000) (cm := 0) (r := (.r0 (false) : Zg)) (fu := 4000) (orc := (Zk [(1, true), (2, true), (3, true), (4, true), (8, false), (9, true)] [] [] [] [])) (live := []) (u := vf) (bl := []) (ob := [((decide ((v7.length : Int) > (60 : Int))), true), ((decide ((v7.length : Int) < (1 : Int))), false), ((decide (a1 ≤ (3 : Int))), true), ((decide (a1 ≥ (0 : Int))), true), ((decide (a0 ≤ (400 : Int))), true), ((decide (a0 ≥ (0 : Int))), true)]) (fun gv => by kernel_rfl) (oY <| oN <| oY <| oY <| oY <| oY Zf) rfl (by decide) (by rfl) rr trivial
        ·
         refine Mach.ok_bind (fun z8 c8 => ?_)
         cases z8 with
         | r0 y8_0 =>
          refine Mach.ok_ite (fun g9 => ?_) (fun g9 => ?_)
          ·
           exact Mach.ok_fin (M := Zc a0 a1 a2 a3 a4 N) (cd := 1000000) (cm := 0) (r := (.r0 (false) : Zg)) (fu := 4000) (orc := (Zk [(1, true), (2, true), (3, true), (4, true), (8, false), (9, false), (10, true)] [] [] [] [(0, (ZH (v7) (a0)  y8_0 4 6))])) (live := []) (u := vf) (bl := []) (ob := [((!y8_0), true), (dP (ZF #[vs 4 0 v7.length v7.length, vi a0] (v7) (a0)  y8_0 4 6), true), (dS (Ze Zb v7), true), ((decide ((v7.length : Int) > (60 : Int))), false), ((decide ((v7.length : Int) < (1 : Int))), false), ((decide (a1 ≤ (3 : Int))), true), ((decide (a1 ≥ (0 : Int))), true), ((decide (a0 ≤ (400 : Int))), true), ((decide (a0 ≥ (0 : Int))), true)]) (fun gv => by kernel_rfl) (Zd (Zb0 (by first | assumption | simp_all)) <| Zd (Zm (ZI #[vs 4 0 v7.length v7.length, vi a0] (v7) (a0)  y8_0 N c8 4 6 rfl (by decide) (by decide))) <| oR <| oN <| oN <| oY <| oY <| oY <| oY Zf) rfl (by decide) (by rfl) rr trivial
          ·
           exact Mach.ok_next (M := Zc a0 a1 a2 a3 a4 N) (cd := 1000000) (cm := 0) (y := (.h2m18 (v5) (v6) (v7) (v8) : law32_FifoFormsX)) (fu := 4000) (orc := (Zk [(1, true), (2, true), (3, true), (4, true), (8, false), (9, false), (10, false)] [] [] [] [(0, (ZH (v7) (a0)  y8_0 4 6))])) (live := [0, 1, 2, 3, 4, 5]) (tv := fun _ => [some (vi a0), some (vi a1), some (vi a2), some (vp 0 0), some (vp 1 0), some (vT), some (vT), some (vi (3 : Int))]) (bl := [some (.cells [vs 2 0 v5.length v5.length, vs 3 0 v6.length v6.length, vs 4 0 v7.length v7.length, vs 5 0 v8.length v8.length] 23), some (.cells [vq, vq, vq, vq] 25), some (.cells (Ze Zb v5) 57), some (.cells (Ze Zb v6) 57), some (.cells (Ze Zb v7) 57), some (.cells (Ze Zb v8) 57)]) (ob := [((!y8_0), false), (dP (ZF #[vs 4 0 v7.length v7.length, vi a0] (v7) (a0)  y8_0 4 6), true), (dS (Ze Zb v7), true), ((decide ((v7.length : Int) > (60 : Int))), false), ((decide ((v7.length : Int) < (1 : Int))), false), ((decide (a1 ≤ (3 : Int))), true), ((decide (a1 ≥ (0 : Int))), true), ((decide (a0 ≤ (400 : Int))), true), ((decide (a0 ≥ (0 : Int))), true)]) rfl (show 2 ∈ Zl (Zh 2) from by decide +kernel) (fun gv => by kernel_rfl) (Zd (Zbk (by first | assumption | exact Decidable.not_not.1 (by assumption) | simp_all)) <| Zd (Zm (ZI #[vs 4 0 v7.length v7.length, vi a0] (v7) (a0)  y8_0 N c8 4 6 rfl (by decide) (by decide))) <| oR <| oN <| oN <| oY <| oY <| oY <| oY Zf) rfl (by decide) (by rfl) (fun _ => ⟨rr, ⟨rr, ⟨rr, ⟨rr, ⟨rr, ⟨rr, ⟨rr, ⟨rr, trivial⟩⟩⟩⟩⟩⟩⟩⟩) ⟨⟨rfl, ⟨[], by rfl⟩, by rfl⟩, ⟨⟨rfl, ⟨[], by rfl⟩, by rfl⟩, ⟨(Zi (E := Zb) (α := RA) _ v5 _), ⟨(Zi (E := Zb) (α := RA) _ v6 _), ⟨(Zi (E := Zb) (α := RA) _ v7 _), ⟨(Zi (E := Zb) (α := RA) _ v8 _), trivial⟩⟩⟩⟩⟩⟩
      ·
       exact Mach.ok_none
     ·
      exact Mach.ok_none
    ·
     exact Mach.ok_none
   ·
    exact Mach.ok_none
  ·
   exact Mach.ok_none
 ·
  exact Mach.ok_none

theorem Zh1 (a0 a1 a2 a3 a4 : Int) (v5 v6 v7 : List RA) (N : Nat) : (Zc a0 a1 a2 a3 a4 N).Ok Tryz.prog Zo (.h2m13 v5 v6 v7 : law32_FifoFormsX) (Zp a0 a1 a2 a3 a4 N (.h2m13 v5 v6 v7 : law32_FifoFormsX)) := by
 show (Zc a0 a1 a2 a3 a4 N).Ok Tryz.prog Zo (.h2m13 v5 v6 v7 : law32_FifoFormsX) (Zb4 a0 a1 a2 a3 a4 N v5 v6 v7)
 unfold Zb4
 refine Mach.ok_ite (fun g0 => ?_) (fun g0 => ?_)
 ·
  refine Mach.ok_ite (fun g1 => ?_) (fun g1 => ?_)
  ·
   refine Mach.ok_ite (fun g2 => ?_) (fun g2 => ?_)
   ·
    refine Mach.ok_ite (fun g3 => ?_) (fun g3 => ?_)
    ·
     refine Mach.ok_ite (fun g4 => ?_) (fun g4 => ?_)
     ·
      exact Mach.ok_fin (M := Zc a0 a1 a2 a3 a4 N) (cd := 1000000) (cm := 0) (r := (.r0 (false) : Zg)) (fu := 4000) (orc := (Zk [(1, true), (2, true), (3, true), (4, true), (8, true)] [] [] [] [])) (live := []) (u := vf) (bl := []) (ob := [((decide ((v7.length : Int) < (1 : Int))), true), ((decide (a1 ≤ (3 : Int))), true), ((decide (a1 ≥ (0 : Int))), true), ((decide (a0 ≤ (400 : Int))), true), ((decide (a0 ≥ (0 : Int))), true)]) (fun gv => by kernel_rfl) (oY <| oY <| oY <| oY <| oY Zf) rfl (by decide) (by rfl) rr trivial
     ·
      refine Mach.ok_ite (fun g5 => ?_) (fun g5 => ?_)
      ·
       exact Mach.ok_fin (M := Zc a0 a1 a2 a3 a4 N) (cd := 1000000) (cm := 0) (r := (.r0 (false) : Zg)) (fu := 4000) (orc := (Zk [(1, true), (2, true), (3, true), (4, true), (8, false), (9, true)] [] [] [] [])) (live := []) (u := vf) (bl := []) (ob := [((decide ((v7.length : Int) > (60 : Int))), true), ((decide ((v7.length : Int) < (1 : Int))), false), ((decide (a1 ≤ (3 : Int))), true), ((decide (a1 ≥ (0 : Int))), true), ((decide (a0 ≤ (400 : Int))), true), ((decide (a0 ≥ (0 : Int))), true)]) (fun gv => by kernel_rfl) (oY <| oN <| oY <| oY <| oY <| oY Zf) rfl (by decide) (by rfl) rr trivial
      ·
       refine Mach.ok_bind (fun z6 c6 => ?_)
       cases z6 with
       | r0 y6_0 =>
        refine Mach.ok_ite (fun g7 => ?_) (fun g7 => ?_)
        ·
         exact Mach.ok_fin (M := Zc a0 a1 a2 a3 a4 N) (cd := 1000000) (cm := 0) (r := (.r0 (false) : Zg)) (fu := 4000) (orc := (Zk [(1, true), (2, true), (3, true), (4, true), (8, false), (9, false), (10, true)] [] [] [] [(0, (ZH (v7) (a0)  y6_0 4 5))])) (live := []) (u := vf) (bl := []) (ob := [((!y6_0), true), (dP (ZF #[vs 4 0 v7.length v7.length, vi a0] (v7) (a0)  y6_0 4 5), true), (dS (Ze Zb v7), true), ((decide ((v7.length : Int) > (60 : Int))), false), ((decide ((v7.length : Int) < (1 : Int))), false), ((decide (a1 ≤ (3 : Int))), true), ((decide (a1 ≥ (0 : Int))), true), ((decide (a0 ≤ (400 : Int))), true), ((decide (a0 ≥ (0 : Int))), true)]) (fun gv => by kernel_rfl) (Zd (Zb0 (by first | assumption | simp_all)) <| Zd (Zm (ZI #[vs 4 0 v7.length v7.length, vi a0] (v7) (a0)  y6_0 N c6 4 5 rfl (by decide) (by decide))) <| oR <| oN <| oN <| oY <| oY <| oY <| oY Zf) rfl (by decide) (by rfl) rr trivial
        ·
         exact Mach.ok_next (M := Zc a0 a1 a2 a3 a4 N) (cd := 1000000) (cm := 0) (y := (.h2m19 (v5) (v6) (v7) : law32_FifoFormsX)) (fu := 4000) (orc := (Zk [(1, true), (2, true), (3, true), (4, true), (8, false), (9, false), (10, false)] [] [] [] [(0, (ZH (v7) (a0)  y6_0 4 5))])) (live := [0, 1, 2, 3, 4]) (tv := fun _ => [some (vi a0), some (vi a1), some (vi a2), some (vp 0 0), some (vp 1 0), some (vT), some (vT), some (vi (3 : Int))]) (bl := [some (.cells [vs 2 0 v5.length v5.length, vs 3 0 v6.length v6.length, vs 4 0 v7.length v7.length, vn] 23), some (.cells [vq, vq, vq, vi (240 : Int)] 25), some (.cells (Ze Zb v5) 57), some (.cells (Ze Zb v6) 57), some (.cells (Ze Zb v7) 57)]) (ob := [((!y6_0), false), (dP (ZF #[vs 4 0 v7.length v7.length, vi a0] (v7) (a0)  y6_0 4 5), true), (dS (Ze Zb v7), true), ((decide ((v7.length : Int) > (60 : Int))), false), ((decide ((v7.length : Int) < (1 : Int))), false), ((decide (a1 ≤ (3 : Int))), true), ((decide (a1 ≥ (0 : Int))), true), ((decide (a0 ≤ (400 : Int))), true), ((decide (a0 ≥ (0 : Int))), true)]) rfl (show 2 ∈ Zl (Zh 2) from by decide +kernel) (fun gv => by kernel_rfl) (Zd (Zbk (by first | assumption | exact Decidable.not_not.1 (by assumption) | simp_all)) <| Zd (Zm (ZI #[vs 4 0 v7.length v7.length, vi a0] (v7) (a0)  y6_0 N c6 4 5 rfl (by decide) (by decide))) <| oR <| oN <| oN <| oY <| oY <| oY <| oY Zf) rfl (by decide) (by rfl) (fun _ => ⟨rr, ⟨rr, ⟨rr, ⟨rr, ⟨rr, ⟨rr, ⟨rr, ⟨rr, trivial⟩⟩⟩⟩⟩⟩⟩⟩) ⟨⟨rfl, ⟨[], by rfl⟩, by rfl⟩, ⟨⟨rfl, ⟨[], by rfl⟩, by rfl⟩, ⟨(Zi (E := Zb) (α := RA) _ v5 _), ⟨(Zi (E := Zb) (α := RA) _ v6 _), ⟨(Zi (E := Zb) (α := RA) _ v7 _), trivial⟩⟩⟩⟩⟩
    ·
     exact Mach.ok_none
   ·
    exact Mach.ok_none
  ·
   exact Mach.ok_none
 ·
  exact Mach.ok_none

theorem Zh2 (a0 a1 a2 a3 a4 : Int) (v5 v6 : List RA) (N : Nat) : (Zc a0 a1 a2 a3 a4 N).Ok Tryz.prog Zo (.h2m14 v5 v6 : law32_FifoFormsX) (Zp a0 a1 a2 a3 a4 N (.h2m14 v5 v6 : law32_FifoFormsX)) := by
 show (Zc a0 a1 a2 a3 a4 N).Ok Tryz.prog Zo (.h2m14 v5 v6 : law32_FifoFormsX) (Zb5 a0 a1 a2 a3 a4 N v5 v6)
 unfold Zb5
 refine Mach.ok_ite (fun g0 => ?_) (fun g0 => ?_)
 ·
  refine Mach.ok_ite (fun g1 => ?_) (fun g1 => ?_)
  ·
   refine Mach.ok_ite (fun g2 => ?_) (fun g2 => ?_)
   ·
    refine Mach.ok_ite (fun g3 => ?_) (fun g3 => ?_)
    ·
     refine Mach.ok_ite (fun g4 => ?_) (fun g4 => ?_)
     ·
      exact Mach.ok_fin (M := Zc a0 a1 a2 a3 a4 N) (cd := 1000000) (cm := 0) (r := (.r0 (false) : Zg)) (fu := 4000) (orc := (Zk [(1, true), (2, true), (3, true), (4, true), (10, true)] [] [] [] [])) (live := []) (u := vf) (bl := []) (ob := [((decide ((v6.length : Int) < (1 : Int))), true), ((decide (a1 ≤ (3 : Int))), true), ((decide (a1 ≥ (0 : Int))), true), ((decide (a0 ≤ (400 : Int))), true), ((decide (a0 ≥ (0 : Int))), true)]) (fun gv => by kernel_rfl) (oY <| oY <| oY <| oY <| oY Zf) rfl (by decide) (by rfl) rr trivial
     ·
      refine Mach.ok_ite (fun g5 => ?_) (fun g5 => ?_)
      ·
       exact Mach.ok_fin (M := Zc a0 a1 a2 a3 a4 N) (cd := 1000000) (cm := 0) (r := (.r0 (false) : Zg)) (fu := 4000) (orc := (Zk [(1, true), (2, true), (3, true), (4, true), (10, false), (11, true)] [] [] [] [])) (live := []) (u := vf) (bl := []) (ob := [((decide ((v6.length : Int) > (60 : Int))), true), ((decide ((v6.length : Int) < (1 : Int))), false), ((decide (a1 ≤ (3 : Int))), true), ((decide (a1 ≥ (0 : Int))), true), ((decide (a0 ≤ (400 : Int))), true), ((decide (a0 ≥ (0 : Int))), true)]) (fun gv => by kernel_rfl) (oY <| oN <| oY <| oY <| oY <| oY Zf) rfl (by decide) (by rfl) rr trivial
      ·
       refine Mach.ok_bind (fun z6 c6 => ?_)
       cases z6 with
       | r0 y6_0 =>
        refine Mach.ok_ite (fun g7 => ?_) (fun g7 => ?_)
        ·
         exact Mach.ok_fin (M := Zc a0 a1 a2 a3 a4 N) (cd := 1000000) (cm := 0) (r := (.r0 (false) : Zg)) (fu := 4000) (orc := (Zk [(1, true), (2, true), (3, true), (4, true), (10, false), (11, false), (12, true)] [] [] [] [(0, (ZH (v6) (a0)  y6_0 3 4))])) (live := []) (u := vf) (bl := []) (ob := [((!y6_0), true), (dP (ZF #[vs 3 0 v6.length v6.length, vi a0] (v6) (a0)  y6_0 3 4), true), (dS (Ze Zb v6), true), ((decide ((v6.length : Int) > (60 : Int))), false), ((decide ((v6.length : Int) < (1 : Int))), false), ((decide (a1 ≤ (3 : Int))), true), ((decide (a1 ≥ (0 : Int))), true), ((decide (a0 ≤ (400 : Int))), true), ((decide (a0 ≥ (0 : Int))), true)]) (fun gv => by kernel_rfl) (Zd (Zb0 (by first | assumption | simp_all)) <| Zd (Zm (ZI #[vs 3 0 v6.length v6.length, vi a0] (v6) (a0)  y6_0 N c6 3 4 rfl (by decide) (by decide))) <| oR <| oN <| oN <| oY <| oY <| oY <| oY Zf) rfl (by decide) (by rfl) rr trivial
        ·
         exact Mach.ok_next (M := Zc a0 a1 a2 a3 a4 N) (cd := 1000000) (cm := 0) (y := (.h2m20 (v5) (v6) : law32_FifoFormsX)) (fu := 4000) (orc := (Zk [(1, true), (2, true), (3, true), (4, true), (10, false), (11, false), (12, false)] [] [] [] [(0, (ZH (v6) (a0)  y6_0 3 4))])) (live := [0, 1, 2, 3]) (tv := fun _ => [some (vi a0), some (vi a1), some (vi a2), some (vp 0 0), some (vp 1 0), some (vT), some (vf), some (vi (3 : Int))]) (bl := [some (.cells [vn, vs 2 0 v5.length v5.length, vs 3 0 v6.length v6.length, vn] 23), some (.cells [vi (240 : Int), vq, vq, vi (240 : Int)] 25), some (.cells (Ze Zb v5) 57), some (.cells (Ze Zb v6) 57)]) (ob := [((!y6_0), false), (dP (ZF #[vs 3 0 v6.length v6.length, vi a0] (v6) (a0)  y6_0 3 4), true), (dS (Ze Zb v6), true), ((decide ((v6.length : Int) > (60 : Int))), false), ((decide ((v6.length : Int) < (1 : Int))), false), ((decide (a1 ≤ (3 : Int))), true), ((decide (a1 ≥ (0 : Int))), true), ((decide (a0 ≤ (400 : Int))), true), ((decide (a0 ≥ (0 : Int))), true)]) rfl (show 2 ∈ Zl (Zh 2) from by decide +kernel) (fun gv => by kernel_rfl) (Zd (Zbk (by first | assumption | exact Decidable.not_not.1 (by assumption) | simp_all)) <| Zd (Zm (ZI #[vs 3 0 v6.length v6.length, vi a0] (v6) (a0)  y6_0 N c6 3 4 rfl (by decide) (by decide))) <| oR <| oN <| oN <| oY <| oY <| oY <| oY Zf) rfl (by decide) (by rfl) (fun _ => ⟨rr, ⟨rr, ⟨rr, ⟨rr, ⟨rr, ⟨rr, ⟨rr, ⟨rr, trivial⟩⟩⟩⟩⟩⟩⟩⟩) ⟨⟨rfl, ⟨[], by rfl⟩, by rfl⟩, ⟨⟨rfl, ⟨[], by rfl⟩, by rfl⟩, ⟨(Zi (E := Zb) (α := RA) _ v5 _), ⟨(Zi (E := Zb) (α := RA) _ v6 _), trivial⟩⟩⟩⟩
    ·
     exact Mach.ok_none
   ·
    exact Mach.ok_none
  ·
   exact Mach.ok_none
 ·
  exact Mach.ok_none

theorem Zh3 (a0 a1 a2 a3 a4 : Int) (v5 v6 : List RA) (N : Nat) : (Zc a0 a1 a2 a3 a4 N).Ok Tryz.prog Zo (.h2m15 v5 v6 : law32_FifoFormsX) (Zp a0 a1 a2 a3 a4 N (.h2m15 v5 v6 : law32_FifoFormsX)) := by
 show (Zc a0 a1 a2 a3 a4 N).Ok Tryz.prog Zo (.h2m15 v5 v6 : law32_FifoFormsX) (Zb6 a0 a1 a2 a3 a4 N v5 v6)
 unfold Zb6
 refine Mach.ok_ite (fun g0 => ?_) (fun g0 => ?_)
 ·
  refine Mach.ok_ite (fun g1 => ?_) (fun g1 => ?_)
  ·
   refine Mach.ok_ite (fun g2 => ?_) (fun g2 => ?_)
   ·
    refine Mach.ok_ite (fun g3 => ?_) (fun g3 => ?_)
    ·
     refine Mach.ok_ite (fun g4 => ?_) (fun g4 => ?_)
     ·
      refine Mach.ok_ite (fun g5 => ?_) (fun g5 => ?_)
      ·
       exact Mach.ok_next (M := Zc a0 a1 a2 a3 a4 N) (cd := 1000000) (cm := 0) (y := (.h2m21 (v5) (v6) : law32_FifoFormsX)) (fu := 4000) (orc := (Zk [(1, true), (2, true), (3, true), (4, true)] [] [] [] [])) (live := [0, 1, 2, 3]) (tv := fun _ => [some (vi a0), some (vi a1), some (vi a2), some (vp 0 0), some (vp 1 0), some (vf), some (vT), some (vi (3 : Int))]) (bl := [some (.cells [vn, vs 2 0 v5.length v5.length, vn, vs 3 0 v6.length v6.length] 23), some (.cells [vi (240 : Int), vq, vi (240 : Int), vq] 25), some (.cells (Ze Zb v5) 57), some (.cells (Ze Zb v6) 57)]) (ob := [((decide (a1 ≤ (3 : Int))), true), ((decide (a1 ≥ (0 : Int))), true), ((decide (a0 ≤ (400 : Int))), true), ((decide (a0 ≥ (0 : Int))), true)]) rfl (show 2 ∈ Zl (Zh 2) from by decide +kernel) (fun gv => by kernel_rfl) (oY <| oY <| oY <| oY Zf) rfl (by decide) (by rfl) (fun _ => ⟨rr, ⟨rr, ⟨rr, ⟨rr, ⟨rr, ⟨rr, ⟨rr, ⟨rr, trivial⟩⟩⟩⟩⟩⟩⟩⟩) ⟨⟨rfl, ⟨[], by rfl⟩, by rfl⟩, ⟨⟨rfl, ⟨[], by rfl⟩, by rfl⟩, ⟨(Zi (E := Zb) (α := RA) _ v5 _), ⟨(Zi (E := Zb) (α := RA) _ v6 _), trivial⟩⟩⟩⟩
      ·
       exact Mach.ok_none
     ·
      exact Mach.ok_none
    ·
     exact Mach.ok_none
   ·
    exact Mach.ok_none
  ·
   exact Mach.ok_none
 ·
  exact Mach.ok_none

theorem Zh4 (a0 a1 a2 a3 a4 : Int) (v4 : Bool) (v5 : List RA) (N : Nat) : (Zc a0 a1 a2 a3 a4 N).Ok Tryz.prog Zo (.h2m16 v4 v5 : law32_FifoFormsX) (Zp a0 a1 a2 a3 a4 N (.h2m16 v4 v5 : law32_FifoFormsX)) := by
 show (Zc a0 a1 a2 a3 a4 N).Ok Tryz.prog Zo (.h2m16 v4 v5 : law32_FifoFormsX) (Zb7 a0 a1 a2 a3 a4 N v4 v5)
 unfold Zb7
 refine Mach.ok_ite (fun g0 => ?_) (fun g0 => ?_)
 ·
  refine Mach.ok_ite (fun g1 => ?_) (fun g1 => ?_)
  ·
   refine Mach.ok_ite (fun g2 => ?_) (fun g2 => ?_)
   ·
    refine Mach.ok_ite (fun g3 => ?_) (fun g3 => ?_)
    ·
     exact Mach.ok_next (M := Zc a0 a1 a2 a3 a4 N) (cd := 1000000) (cm := 0) (y := (.h2m22 (v4) (v5) : law32_FifoFormsX)) (fu := 4000) (orc := (Zk [(1, true), (2, true), (3, true), (4, true)] [] [] [] [])) (live := [0, 1, 2]) (tv := fun _ => [some (vi a0), some (vi a1), some (vi a2), some (vp 0 0), some (vp 1 0), some (vf), some (Value.bool v4), some (vi (3 : Int))]) (bl := [some (.cells [vn, vs 2 0 v5.length v5.length, vn, vn] 23), some (.cells [vi (240 : Int), vq, vi (240 : Int), vi (240 : Int)] 25), some (.cells (Ze Zb v5) 57)]) (ob := [((decide (a1 ≤ (3 : Int))), true), ((decide (a1 ≥ (0 : Int))), true), ((decide (a0 ≤ (400 : Int))), true), ((decide (a0 ≥ (0 : Int))), true)]) rfl (show 2 ∈ Zl (Zh 2) from by decide +kernel) (fun gv => by kernel_rfl) (oY <| oY <| oY <| oY Zf) rfl (by decide) (by rfl) (fun _ => ⟨rr, ⟨rr, ⟨rr, ⟨rr, ⟨rr, ⟨rr, ⟨rr, ⟨rr, trivial⟩⟩⟩⟩⟩⟩⟩⟩) ⟨⟨rfl, ⟨[], by rfl⟩, by rfl⟩, ⟨⟨rfl, ⟨[], by rfl⟩, by rfl⟩, ⟨(Zi (E := Zb) (α := RA) _ v5 _), trivial⟩⟩⟩
    ·
     exact Mach.ok_none
   ·
    exact Mach.ok_none
  ·
   exact Mach.ok_none
 ·
  exact Mach.ok_none

theorem Zh5 (a0 a1 a2 a3 a4 : Int) (v3 v4 : Bool) (N : Nat) : (Zc a0 a1 a2 a3 a4 N).Ok Tryz.prog Zo (.h2m17 v3 v4 : law32_FifoFormsX) (Zp a0 a1 a2 a3 a4 N (.h2m17 v3 v4 : law32_FifoFormsX)) := by
 show (Zc a0 a1 a2 a3 a4 N).Ok Tryz.prog Zo (.h2m17 v3 v4 : law32_FifoFormsX) (Zb8 a0 a1 a2 a3 a4 N v3 v4)
 unfold Zb8
 refine Mach.ok_ite (fun g0 => ?_) (fun g0 => ?_)
 ·
  subst g0
  refine Mach.ok_ite (fun g1 => ?_) (fun g1 => ?_)
  ·
   subst g1
   refine Mach.ok_ite (fun g2 => ?_) (fun g2 => ?_)
   ·
    refine Mach.ok_ite (fun g3 => ?_) (fun g3 => ?_)
    ·
     refine Mach.ok_ite (fun g4 => ?_) (fun g4 => ?_)
     ·
      refine Mach.ok_ite (fun g5 => ?_) (fun g5 => ?_)
      ·
       exact Mach.ok_fin (M := Zc a0 a1 a2 a3 a4 N) (cd := 1000000) (cm := 0) (r := (.r0 (false) : Zg)) (fu := 4000) (orc := (Zk [(1, true), (2, true), (3, true), (4, true)] [] [] [] [])) (live := []) (u := vf) (bl := []) (ob := [((decide (a1 ≤ (3 : Int))), true), ((decide (a1 ≥ (0 : Int))), true), ((decide (a0 ≤ (400 : Int))), true), ((decide (a0 ≥ (0 : Int))), true)]) (fun gv => by kernel_rfl) (oY <| oY <| oY <| oY Zf) rfl (by decide) (by rfl) rr trivial
      ·
       exact Mach.ok_next (M := Zc a0 a1 a2 a3 a4 N) (cd := 1000000) (cm := 0) (y := (.h2m23 (true) (true) : law32_FifoFormsX)) (fu := 4000) (orc := (Zk [(1, true), (2, true), (3, true), (4, false)] [] [] [] [])) (live := [0, 1]) (tv := fun _ => [some (vi a0), some (vi a1), some (vi a2), some (vp 0 0), some (vp 1 0), some (vT), some (vT), some (vi (3 : Int))]) (bl := [some (.cells [vn, vn, vn, vn] 23), some ZJ]) (ob := [((decide (a1 ≤ (3 : Int))), false), ((decide (a1 ≥ (0 : Int))), true), ((decide (a0 ≤ (400 : Int))), true), ((decide (a0 ≥ (0 : Int))), true)]) rfl (show 2 ∈ Zl (Zh 2) from by decide +kernel) (fun gv => by kernel_rfl) (oN <| oY <| oY <| oY Zf) rfl (by decide) (by rfl) (fun _ => ⟨rr, ⟨rr, ⟨rr, ⟨rr, ⟨rr, ⟨rr, ⟨rr, ⟨rr, trivial⟩⟩⟩⟩⟩⟩⟩⟩) ⟨⟨rfl, ⟨[], by rfl⟩, by rfl⟩, ⟨⟨rfl, ⟨[], by rfl⟩, by rfl⟩, trivial⟩⟩
     ·
      exact Mach.ok_next (M := Zc a0 a1 a2 a3 a4 N) (cd := 1000000) (cm := 0) (y := (.h2m23 (true) (true) : law32_FifoFormsX)) (fu := 4000) (orc := (Zk [(1, true), (2, true), (3, false)] [] [] [] [])) (live := [0, 1]) (tv := fun _ => [some (vi a0), some (vi a1), some (vi a2), some (vp 0 0), some (vp 1 0), some (vT), some (vT), some (vi (3 : Int))]) (bl := [some (.cells [vn, vn, vn, vn] 23), some ZJ]) (ob := [((decide (a1 ≥ (0 : Int))), false), ((decide (a0 ≤ (400 : Int))), true), ((decide (a0 ≥ (0 : Int))), true)]) rfl (show 2 ∈ Zl (Zh 2) from by decide +kernel) (fun gv => by kernel_rfl) (oN <| oY <| oY Zf) rfl (by decide) (by rfl) (fun _ => ⟨rr, ⟨rr, ⟨rr, ⟨rr, ⟨rr, ⟨rr, ⟨rr, ⟨rr, trivial⟩⟩⟩⟩⟩⟩⟩⟩) ⟨⟨rfl, ⟨[], by rfl⟩, by rfl⟩, ⟨⟨rfl, ⟨[], by rfl⟩, by rfl⟩, trivial⟩⟩
    ·
     exact Mach.ok_next (M := Zc a0 a1 a2 a3 a4 N) (cd := 1000000) (cm := 0) (y := (.h2m23 (true) (true) : law32_FifoFormsX)) (fu := 4000) (orc := (Zk [(1, true), (2, false)] [] [] [] [])) (live := [0, 1]) (tv := fun _ => [some (vi a0), some (vi a1), some (vi a2), some (vp 0 0), some (vp 1 0), some (vT), some (vT), some (vi (3 : Int))]) (bl := [some (.cells [vn, vn, vn, vn] 23), some ZJ]) (ob := [((decide (a0 ≤ (400 : Int))), false), ((decide (a0 ≥ (0 : Int))), true)]) rfl (show 2 ∈ Zl (Zh 2) from by decide +kernel) (fun gv => by kernel_rfl) (oN <| oY Zf) rfl (by decide) (by rfl) (fun _ => ⟨rr, ⟨rr, ⟨rr, ⟨rr, ⟨rr, ⟨rr, ⟨rr, ⟨rr, trivial⟩⟩⟩⟩⟩⟩⟩⟩) ⟨⟨rfl, ⟨[], by rfl⟩, by rfl⟩, ⟨⟨rfl, ⟨[], by rfl⟩, by rfl⟩, trivial⟩⟩
   ·
    exact Mach.ok_next (M := Zc a0 a1 a2 a3 a4 N) (cd := 1000000) (cm := 0) (y := (.h2m23 (true) (true) : law32_FifoFormsX)) (fu := 4000) (orc := (Zk [(1, false)] [] [] [] [])) (live := [0, 1]) (tv := fun _ => [some (vi a0), some (vi a1), some (vi a2), some (vp 0 0), some (vp 1 0), some (vT), some (vT), some (vi (3 : Int))]) (bl := [some (.cells [vn, vn, vn, vn] 23), some ZJ]) (ob := [((decide (a0 ≥ (0 : Int))), false)]) rfl (show 2 ∈ Zl (Zh 2) from by decide +kernel) (fun gv => by kernel_rfl) (oN Zf) rfl (by decide) (by rfl) (fun _ => ⟨rr, ⟨rr, ⟨rr, ⟨rr, ⟨rr, ⟨rr, ⟨rr, ⟨rr, trivial⟩⟩⟩⟩⟩⟩⟩⟩) ⟨⟨rfl, ⟨[], by rfl⟩, by rfl⟩, ⟨⟨rfl, ⟨[], by rfl⟩, by rfl⟩, trivial⟩⟩
  ·
   obtain rfl : v4 = false := by simpa using g1
   refine Mach.ok_ite (fun g2 => ?_) (fun g2 => ?_)
   ·
    refine Mach.ok_ite (fun g3 => ?_) (fun g3 => ?_)
    ·
     refine Mach.ok_ite (fun g4 => ?_) (fun g4 => ?_)
     ·
      refine Mach.ok_ite (fun g5 => ?_) (fun g5 => ?_)
      ·
       exact Mach.ok_fin (M := Zc a0 a1 a2 a3 a4 N) (cd := 1000000) (cm := 0) (r := (.r0 (false) : Zg)) (fu := 4000) (orc := (Zk [(1, true), (2, true), (3, true), (4, true)] [] [] [] [])) (live := []) (u := vf) (bl := []) (ob := [((decide (a1 ≤ (3 : Int))), true), ((decide (a1 ≥ (0 : Int))), true), ((decide (a0 ≤ (400 : Int))), true), ((decide (a0 ≥ (0 : Int))), true)]) (fun gv => by kernel_rfl) (oY <| oY <| oY <| oY Zf) rfl (by decide) (by rfl) rr trivial
      ·
       exact Mach.ok_next (M := Zc a0 a1 a2 a3 a4 N) (cd := 1000000) (cm := 0) (y := (.h2m23 (true) (false) : law32_FifoFormsX)) (fu := 4000) (orc := (Zk [(1, true), (2, true), (3, true), (4, false)] [] [] [] [])) (live := [0, 1]) (tv := fun _ => [some (vi a0), some (vi a1), some (vi a2), some (vp 0 0), some (vp 1 0), some (vT), some (vf), some (vi (3 : Int))]) (bl := [some (.cells [vn, vn, vn, vn] 23), some ZJ]) (ob := [((decide (a1 ≤ (3 : Int))), false), ((decide (a1 ≥ (0 : Int))), true), ((decide (a0 ≤ (400 : Int))), true), ((decide (a0 ≥ (0 : Int))), true)]) rfl (show 2 ∈ Zl (Zh 2) from by decide +kernel) (fun gv => by kernel_rfl) (oN <| oY <| oY <| oY Zf) rfl (by decide) (by rfl) (fun _ => ⟨rr, ⟨rr, ⟨rr, ⟨rr, ⟨rr, ⟨rr, ⟨rr, ⟨rr, trivial⟩⟩⟩⟩⟩⟩⟩⟩) ⟨⟨rfl, ⟨[], by rfl⟩, by rfl⟩, ⟨⟨rfl, ⟨[], by rfl⟩, by rfl⟩, trivial⟩⟩
     ·
      exact Mach.ok_next (M := Zc a0 a1 a2 a3 a4 N) (cd := 1000000) (cm := 0) (y := (.h2m23 (true) (false) : law32_FifoFormsX)) (fu := 4000) (orc := (Zk [(1, true), (2, true), (3, false)] [] [] [] [])) (live := [0, 1]) (tv := fun _ => [some (vi a0), some (vi a1), some (vi a2), some (vp 0 0), some (vp 1 0), some (vT), some (vf), some (vi (3 : Int))]) (bl := [some (.cells [vn, vn, vn, vn] 23), some ZJ]) (ob := [((decide (a1 ≥ (0 : Int))), false), ((decide (a0 ≤ (400 : Int))), true), ((decide (a0 ≥ (0 : Int))), true)]) rfl (show 2 ∈ Zl (Zh 2) from by decide +kernel) (fun gv => by kernel_rfl) (oN <| oY <| oY Zf) rfl (by decide) (by rfl) (fun _ => ⟨rr, ⟨rr, ⟨rr, ⟨rr, ⟨rr, ⟨rr, ⟨rr, ⟨rr, trivial⟩⟩⟩⟩⟩⟩⟩⟩) ⟨⟨rfl, ⟨[], by rfl⟩, by rfl⟩, ⟨⟨rfl, ⟨[], by rfl⟩, by rfl⟩, trivial⟩⟩
    ·
     exact Mach.ok_next (M := Zc a0 a1 a2 a3 a4 N) (cd := 1000000) (cm := 0) (y := (.h2m23 (true) (false) : law32_FifoFormsX)) (fu := 4000) (orc := (Zk [(1, true), (2, false)] [] [] [] [])) (live := [0, 1]) (tv := fun _ => [some (vi a0), some (vi a1), some (vi a2), some (vp 0 0), some (vp 1 0), some (vT), some (vf), some (vi (3 : Int))]) (bl := [some (.cells [vn, vn, vn, vn] 23), some ZJ]) (ob := [((decide (a0 ≤ (400 : Int))), false), ((decide (a0 ≥ (0 : Int))), true)]) rfl (show 2 ∈ Zl (Zh 2) from by decide +kernel) (fun gv => by kernel_rfl) (oN <| oY Zf) rfl (by decide) (by rfl) (fun _ => ⟨rr, ⟨rr, ⟨rr, ⟨rr, ⟨rr, ⟨rr, ⟨rr, ⟨rr, trivial⟩⟩⟩⟩⟩⟩⟩⟩) ⟨⟨rfl, ⟨[], by rfl⟩, by rfl⟩, ⟨⟨rfl, ⟨[], by rfl⟩, by rfl⟩, trivial⟩⟩
   ·
    exact Mach.ok_next (M := Zc a0 a1 a2 a3 a4 N) (cd := 1000000) (cm := 0) (y := (.h2m23 (true) (false) : law32_FifoFormsX)) (fu := 4000) (orc := (Zk [(1, false)] [] [] [] [])) (live := [0, 1]) (tv := fun _ => [some (vi a0), some (vi a1), some (vi a2), some (vp 0 0), some (vp 1 0), some (vT), some (vf), some (vi (3 : Int))]) (bl := [some (.cells [vn, vn, vn, vn] 23), some ZJ]) (ob := [((decide (a0 ≥ (0 : Int))), false)]) rfl (show 2 ∈ Zl (Zh 2) from by decide +kernel) (fun gv => by kernel_rfl) (oN Zf) rfl (by decide) (by rfl) (fun _ => ⟨rr, ⟨rr, ⟨rr, ⟨rr, ⟨rr, ⟨rr, ⟨rr, ⟨rr, trivial⟩⟩⟩⟩⟩⟩⟩⟩) ⟨⟨rfl, ⟨[], by rfl⟩, by rfl⟩, ⟨⟨rfl, ⟨[], by rfl⟩, by rfl⟩, trivial⟩⟩
 ·
  obtain rfl : v3 = false := by simpa using g0
  refine Mach.ok_ite (fun g1 => ?_) (fun g1 => ?_)
  ·
   subst g1
   by_cases g2 : (0 : Int) ≤ a0
   ·
    by_cases g3 : a0 ≤ (400 : Int)
    ·
     by_cases g4 : (0 : Int) ≤ a1
     ·
      by_cases g5 : a1 ≤ (3 : Int)
      ·
       exact Mach.ok_next (M := Zc a0 a1 a2 a3 a4 N) (cd := 1000000) (cm := 0) (y := (.h2m23 (false) (true) : law32_FifoFormsX)) (fu := 4000) (orc := (Zk [(1, true), (2, true), (3, true), (4, true)] [] [] [] [])) (live := [0, 1]) (tv := fun _ => [some (vi a0), some (vi a1), some (vi a2), some (vp 0 0), some (vp 1 0), some (vf), some (vT), some (vi (3 : Int))]) (bl := [some (.cells [vn, vn, vn, vn] 23), some ZJ]) (ob := [((decide (a1 ≤ (3 : Int))), true), ((decide (a1 ≥ (0 : Int))), true), ((decide (a0 ≤ (400 : Int))), true), ((decide (a0 ≥ (0 : Int))), true)]) rfl (show 2 ∈ Zl (Zh 2) from by decide +kernel) (fun gv => by kernel_rfl) (oY <| oY <| oY <| oY Zf) rfl (by decide) (by rfl) (fun _ => ⟨rr, ⟨rr, ⟨rr, ⟨rr, ⟨rr, ⟨rr, ⟨rr, ⟨rr, trivial⟩⟩⟩⟩⟩⟩⟩⟩) ⟨⟨rfl, ⟨[], by rfl⟩, by rfl⟩, ⟨⟨rfl, ⟨[], by rfl⟩, by rfl⟩, trivial⟩⟩
      ·
       exact Mach.ok_next (M := Zc a0 a1 a2 a3 a4 N) (cd := 1000000) (cm := 0) (y := (.h2m23 (false) (true) : law32_FifoFormsX)) (fu := 4000) (orc := (Zk [(1, true), (2, true), (3, true), (4, false)] [] [] [] [])) (live := [0, 1]) (tv := fun _ => [some (vi a0), some (vi a1), some (vi a2), some (vp 0 0), some (vp 1 0), some (vf), some (vT), some (vi (3 : Int))]) (bl := [some (.cells [vn, vn, vn, vn] 23), some ZJ]) (ob := [((decide (a1 ≤ (3 : Int))), false), ((decide (a1 ≥ (0 : Int))), true), ((decide (a0 ≤ (400 : Int))), true), ((decide (a0 ≥ (0 : Int))), true)]) rfl (show 2 ∈ Zl (Zh 2) from by decide +kernel) (fun gv => by kernel_rfl) (oN <| oY <| oY <| oY Zf) rfl (by decide) (by rfl) (fun _ => ⟨rr, ⟨rr, ⟨rr, ⟨rr, ⟨rr, ⟨rr, ⟨rr, ⟨rr, trivial⟩⟩⟩⟩⟩⟩⟩⟩) ⟨⟨rfl, ⟨[], by rfl⟩, by rfl⟩, ⟨⟨rfl, ⟨[], by rfl⟩, by rfl⟩, trivial⟩⟩
     ·
      exact Mach.ok_next (M := Zc a0 a1 a2 a3 a4 N) (cd := 1000000) (cm := 0) (y := (.h2m23 (false) (true) : law32_FifoFormsX)) (fu := 4000) (orc := (Zk [(1, true), (2, true), (3, false)] [] [] [] [])) (live := [0, 1]) (tv := fun _ => [some (vi a0), some (vi a1), some (vi a2), some (vp 0 0), some (vp 1 0), some (vf), some (vT), some (vi (3 : Int))]) (bl := [some (.cells [vn, vn, vn, vn] 23), some ZJ]) (ob := [((decide (a1 ≥ (0 : Int))), false), ((decide (a0 ≤ (400 : Int))), true), ((decide (a0 ≥ (0 : Int))), true)]) rfl (show 2 ∈ Zl (Zh 2) from by decide +kernel) (fun gv => by kernel_rfl) (oN <| oY <| oY Zf) rfl (by decide) (by rfl) (fun _ => ⟨rr, ⟨rr, ⟨rr, ⟨rr, ⟨rr, ⟨rr, ⟨rr, ⟨rr, trivial⟩⟩⟩⟩⟩⟩⟩⟩) ⟨⟨rfl, ⟨[], by rfl⟩, by rfl⟩, ⟨⟨rfl, ⟨[], by rfl⟩, by rfl⟩, trivial⟩⟩
    ·
     exact Mach.ok_next (M := Zc a0 a1 a2 a3 a4 N) (cd := 1000000) (cm := 0) (y := (.h2m23 (false) (true) : law32_FifoFormsX)) (fu := 4000) (orc := (Zk [(1, true), (2, false)] [] [] [] [])) (live := [0, 1]) (tv := fun _ => [some (vi a0), some (vi a1), some (vi a2), some (vp 0 0), some (vp 1 0), some (vf), some (vT), some (vi (3 : Int))]) (bl := [some (.cells [vn, vn, vn, vn] 23), some ZJ]) (ob := [((decide (a0 ≤ (400 : Int))), false), ((decide (a0 ≥ (0 : Int))), true)]) rfl (show 2 ∈ Zl (Zh 2) from by decide +kernel) (fun gv => by kernel_rfl) (oN <| oY Zf) rfl (by decide) (by rfl) (fun _ => ⟨rr, ⟨rr, ⟨rr, ⟨rr, ⟨rr, ⟨rr, ⟨rr, ⟨rr, trivial⟩⟩⟩⟩⟩⟩⟩⟩) ⟨⟨rfl, ⟨[], by rfl⟩, by rfl⟩, ⟨⟨rfl, ⟨[], by rfl⟩, by rfl⟩, trivial⟩⟩
   ·
    exact Mach.ok_next (M := Zc a0 a1 a2 a3 a4 N) (cd := 1000000) (cm := 0) (y := (.h2m23 (false) (true) : law32_FifoFormsX)) (fu := 4000) (orc := (Zk [(1, false)] [] [] [] [])) (live := [0, 1]) (tv := fun _ => [some (vi a0), some (vi a1), some (vi a2), some (vp 0 0), some (vp 1 0), some (vf), some (vT), some (vi (3 : Int))]) (bl := [some (.cells [vn, vn, vn, vn] 23), some ZJ]) (ob := [((decide (a0 ≥ (0 : Int))), false)]) rfl (show 2 ∈ Zl (Zh 2) from by decide +kernel) (fun gv => by kernel_rfl) (oN Zf) rfl (by decide) (by rfl) (fun _ => ⟨rr, ⟨rr, ⟨rr, ⟨rr, ⟨rr, ⟨rr, ⟨rr, ⟨rr, trivial⟩⟩⟩⟩⟩⟩⟩⟩) ⟨⟨rfl, ⟨[], by rfl⟩, by rfl⟩, ⟨⟨rfl, ⟨[], by rfl⟩, by rfl⟩, trivial⟩⟩
  ·
   obtain rfl : v4 = false := by simpa using g1
   by_cases g2 : (0 : Int) ≤ a0
   ·
    by_cases g3 : a0 ≤ (400 : Int)
    ·
     by_cases g4 : (0 : Int) ≤ a1
     ·
      by_cases g5 : a1 ≤ (3 : Int)
      ·
       exact Mach.ok_next (M := Zc a0 a1 a2 a3 a4 N) (cd := 1000000) (cm := 0) (y := (.h2m23 (false) (false) : law32_FifoFormsX)) (fu := 4000) (orc := (Zk [(1, true), (2, true), (3, true), (4, true)] [] [] [] [])) (live := [0, 1]) (tv := fun _ => [some (vi a0), some (vi a1), some (vi a2), some (vp 0 0), some (vp 1 0), some (vf), some (vf), some (vi (3 : Int))]) (bl := [some (.cells [vn, vn, vn, vn] 23), some ZJ]) (ob := [((decide (a1 ≤ (3 : Int))), true), ((decide (a1 ≥ (0 : Int))), true), ((decide (a0 ≤ (400 : Int))), true), ((decide (a0 ≥ (0 : Int))), true)]) rfl (show 2 ∈ Zl (Zh 2) from by decide +kernel) (fun gv => by kernel_rfl) (oY <| oY <| oY <| oY Zf) rfl (by decide) (by rfl) (fun _ => ⟨rr, ⟨rr, ⟨rr, ⟨rr, ⟨rr, ⟨rr, ⟨rr, ⟨rr, trivial⟩⟩⟩⟩⟩⟩⟩⟩) ⟨⟨rfl, ⟨[], by rfl⟩, by rfl⟩, ⟨⟨rfl, ⟨[], by rfl⟩, by rfl⟩, trivial⟩⟩
      ·
       exact Mach.ok_next (M := Zc a0 a1 a2 a3 a4 N) (cd := 1000000) (cm := 0) (y := (.h2m23 (false) (false) : law32_FifoFormsX)) (fu := 4000) (orc := (Zk [(1, true), (2, true), (3, true), (4, false)] [] [] [] [])) (live := [0, 1]) (tv := fun _ => [some (vi a0), some (vi a1), some (vi a2), some (vp 0 0), some (vp 1 0), some (vf), some (vf), some (vi (3 : Int))]) (bl := [some (.cells [vn, vn, vn, vn] 23), some ZJ]) (ob := [((decide (a1 ≤ (3 : Int))), false), ((decide (a1 ≥ (0 : Int))), true), ((decide (a0 ≤ (400 : Int))), true), ((decide (a0 ≥ (0 : Int))), true)]) rfl (show 2 ∈ Zl (Zh 2) from by decide +kernel) (fun gv => by kernel_rfl) (oN <| oY <| oY <| oY Zf) rfl (by decide) (by rfl) (fun _ => ⟨rr, ⟨rr, ⟨rr, ⟨rr, ⟨rr, ⟨rr, ⟨rr, ⟨rr, trivial⟩⟩⟩⟩⟩⟩⟩⟩) ⟨⟨rfl, ⟨[], by rfl⟩, by rfl⟩, ⟨⟨rfl, ⟨[], by rfl⟩, by rfl⟩, trivial⟩⟩
     ·
      exact Mach.ok_next (M := Zc a0 a1 a2 a3 a4 N) (cd := 1000000) (cm := 0) (y := (.h2m23 (false) (false) : law32_FifoFormsX)) (fu := 4000) (orc := (Zk [(1, true), (2, true), (3, false)] [] [] [] [])) (live := [0, 1]) (tv := fun _ => [some (vi a0), some (vi a1), some (vi a2), some (vp 0 0), some (vp 1 0), some (vf), some (vf), some (vi (3 : Int))]) (bl := [some (.cells [vn, vn, vn, vn] 23), some ZJ]) (ob := [((decide (a1 ≥ (0 : Int))), false), ((decide (a0 ≤ (400 : Int))), true), ((decide (a0 ≥ (0 : Int))), true)]) rfl (show 2 ∈ Zl (Zh 2) from by decide +kernel) (fun gv => by kernel_rfl) (oN <| oY <| oY Zf) rfl (by decide) (by rfl) (fun _ => ⟨rr, ⟨rr, ⟨rr, ⟨rr, ⟨rr, ⟨rr, ⟨rr, ⟨rr, trivial⟩⟩⟩⟩⟩⟩⟩⟩) ⟨⟨rfl, ⟨[], by rfl⟩, by rfl⟩, ⟨⟨rfl, ⟨[], by rfl⟩, by rfl⟩, trivial⟩⟩
    ·
     exact Mach.ok_next (M := Zc a0 a1 a2 a3 a4 N) (cd := 1000000) (cm := 0) (y := (.h2m23 (false) (false) : law32_FifoFormsX)) (fu := 4000) (orc := (Zk [(1, true), (2, false)] [] [] [] [])) (live := [0, 1]) (tv := fun _ => [some (vi a0), some (vi a1), some (vi a2), some (vp 0 0), some (vp 1 0), some (vf), some (vf), some (vi (3 : Int))]) (bl := [some (.cells [vn, vn, vn, vn] 23), some ZJ]) (ob := [((decide (a0 ≤ (400 : Int))), false), ((decide (a0 ≥ (0 : Int))), true)]) rfl (show 2 ∈ Zl (Zh 2) from by decide +kernel) (fun gv => by kernel_rfl) (oN <| oY Zf) rfl (by decide) (by rfl) (fun _ => ⟨rr, ⟨rr, ⟨rr, ⟨rr, ⟨rr, ⟨rr, ⟨rr, ⟨rr, trivial⟩⟩⟩⟩⟩⟩⟩⟩) ⟨⟨rfl, ⟨[], by rfl⟩, by rfl⟩, ⟨⟨rfl, ⟨[], by rfl⟩, by rfl⟩, trivial⟩⟩
   ·
    exact Mach.ok_next (M := Zc a0 a1 a2 a3 a4 N) (cd := 1000000) (cm := 0) (y := (.h2m23 (false) (false) : law32_FifoFormsX)) (fu := 4000) (orc := (Zk [(1, false)] [] [] [] [])) (live := [0, 1]) (tv := fun _ => [some (vi a0), some (vi a1), some (vi a2), some (vp 0 0), some (vp 1 0), some (vf), some (vf), some (vi (3 : Int))]) (bl := [some (.cells [vn, vn, vn, vn] 23), some ZJ]) (ob := [((decide (a0 ≥ (0 : Int))), false)]) rfl (show 2 ∈ Zl (Zh 2) from by decide +kernel) (fun gv => by kernel_rfl) (oN Zf) rfl (by decide) (by rfl) (fun _ => ⟨rr, ⟨rr, ⟨rr, ⟨rr, ⟨rr, ⟨rr, ⟨rr, ⟨rr, trivial⟩⟩⟩⟩⟩⟩⟩⟩) ⟨⟨rfl, ⟨[], by rfl⟩, by rfl⟩, ⟨⟨rfl, ⟨[], by rfl⟩, by rfl⟩, trivial⟩⟩

theorem Zh6 (a0 a1 a2 a3 a4 : Int) (v5 v6 v7 v8 : List RA) (N : Nat) : (Zc a0 a1 a2 a3 a4 N).Ok Tryz.prog Zo (.h2m18 v5 v6 v7 v8 : law32_FifoFormsX) (Zp a0 a1 a2 a3 a4 N (.h2m18 v5 v6 v7 v8 : law32_FifoFormsX)) := by
 show (Zc a0 a1 a2 a3 a4 N).Ok Tryz.prog Zo (.h2m18 v5 v6 v7 v8 : law32_FifoFormsX) (Zb9 a0 a1 a2 a3 a4 N v5 v6 v7 v8)
 unfold Zb9
 refine Mach.ok_ite (fun g0 => ?_) (fun g0 => ?_)
 ·
  refine Mach.ok_ite (fun g1 => ?_) (fun g1 => ?_)
  ·
   refine Mach.ok_ite (fun g2 => ?_) (fun g2 => ?_)
   ·
    refine Mach.ok_ite (fun g3 => ?_) (fun g3 => ?_)
    ·
     refine Mach.ok_ite (fun g4 => ?_) (fun g4 => ?_)
     ·
      refine Mach.ok_ite (fun g5 => ?_) (fun g5 => ?_)
      ·
       refine Mach.ok_ite (fun g6 => ?_) (fun g6 => ?_)
       ·
        exact Mach.ok_fin (M := Zc a0 a1 a2 a3 a4 N) (cd := 1000000) (cm := 0) (r := (.r0 (false) : Zg)) (fu := 4000) (orc := (Zk [(1, true), (2, true), (3, true), (4, true), (6, true), (7, true), (10, true)] [] [] [] [])) (live := []) (u := vf) (bl := []) (ob := [((decide ((v8.length : Int) < (1 : Int))), true), ((decide (a2 ≤ (3 : Int))), true), ((decide (a2 ≥ (0 : Int))), true), ((decide (a1 ≤ (3 : Int))), true), ((decide (a1 ≥ (0 : Int))), true), ((decide (a0 ≤ (400 : Int))), true), ((decide (a0 ≥ (0 : Int))), true)]) (fun gv => by kernel_rfl) (oY <| oY <| oY <| oY <| oY <| oY <| oY Zf) rfl (by decide) (by rfl) rr trivial
       ·
        refine Mach.ok_ite (fun g7 => ?_) (fun g7 => ?_)
        ·
         exact Mach.ok_fin (M := Zc a0 a1 a2 a3 a4 N) (cd := 1000000) (cm := 0) (r := (.r0 (false) : Zg)) (fu := 4000) (orc := (Zk [(1, true), (2, true), (3, true), (4, true), (6, true), (7, true), (10, false), (11, true)] [] [] [] [])) (live := []) (u := vf) (bl := []) (ob := [((decide ((v8.length : Int) > (60 : Int))), true), ((decide ((v8.length : Int) < (1 : Int))), false), ((decide (a2 ≤ (3 : Int))), true), ((decide (a2 ≥ (0 : Int))), true), ((decide (a1 ≤ (3 : Int))), true), ((decide (a1 ≥ (0 : Int))), true), ((decide (a0 ≤ (400 : Int))), true), ((decide (a0 ≥ (0 : Int))), true)]) (fun gv => by kernel_rfl) (oY <| oN <| oY <| oY <| oY <| oY <| oY <| oY Zf) rfl (by decide) (by rfl) rr trivial
        ·
         refine Mach.ok_bind (fun z8 c8 => ?_)
         cases z8 with
         | r0 y8_0 =>
          refine Mach.ok_ite (fun g9 => ?_) (fun g9 => ?_)
          ·
           exact Mach.ok_fin (M := Zc a0 a1 a2 a3 a4 N) (cd := 1000000) (cm := 0) (r := (.r0 (false) : Zg)) (fu := 4000) (orc := (Zk [(1, true), (2, true), (3, true), (4, true), (6, true), (7, true), (10, false), (11, false), (12, true)] [] [] [] [(0, (ZH (v8) (a0)  y8_0 5 6))])) (live := []) (u := vf) (bl := []) (ob := [((!y8_0), true), (dP (ZF #[vs 5 0 v8.length v8.length, vi a0] (v8) (a0)  y8_0 5 6), true), (dS (Ze Zb v8), true), ((decide ((v8.length : Int) > (60 : Int))), false), ((decide ((v8.length : Int) < (1 : Int))), false), ((decide (a2 ≤ (3 : Int))), true), ((decide (a2 ≥ (0 : Int))), true), ((decide (a1 ≤ (3 : Int))), true), ((decide (a1 ≥ (0 : Int))), true), ((decide (a0 ≤ (400 : Int))), true), ((decide (a0 ≥ (0 : Int))), true)]) (fun gv => by kernel_rfl) (Zd (Zb0 (by first | assumption | simp_all)) <| Zd (Zm (ZI #[vs 5 0 v8.length v8.length, vi a0] (v8) (a0)  y8_0 N c8 5 6 rfl (by decide) (by decide))) <| oR <| oN <| oN <| oY <| oY <| oY <| oY <| oY <| oY Zf) rfl (by decide) (by rfl) rr trivial
          ·
           exact Mach.ok_next (M := Zc a0 a1 a2 a3 a4 N) (cd := 1000000) (cm := 0) (y := (.h2m24 (v5) (v6) (v7) (v8) : law32_FifoFormsX)) (fu := 4000) (orc := (Zk [(1, true), (2, true), (3, true), (4, true), (6, true), (7, true), (10, false), (11, false), (12, false)] [] [] [] [(0, (ZH (v8) (a0)  y8_0 5 6))])) (live := [0, 1, 2, 3, 4, 5]) (tv := fun _ => [some (vi a0), some (vi a1), some (vi a2), some (vp 0 0), some (vp 1 0), some (vT), some (vT), some (vi (4 : Int))]) (bl := [some (.cells [vs 2 0 v5.length v5.length, vs 3 0 v6.length v6.length, vs 4 0 v7.length v7.length, vs 5 0 v8.length v8.length] 23), some (.cells [vq, vq, vq, vq] 25), some (.cells (Ze Zb v5) 57), some (.cells (Ze Zb v6) 57), some (.cells (Ze Zb v7) 57), some (.cells (Ze Zb v8) 57)]) (ob := [((!y8_0), false), (dP (ZF #[vs 5 0 v8.length v8.length, vi a0] (v8) (a0)  y8_0 5 6), true), (dS (Ze Zb v8), true), ((decide ((v8.length : Int) > (60 : Int))), false), ((decide ((v8.length : Int) < (1 : Int))), false), ((decide (a2 ≤ (3 : Int))), true), ((decide (a2 ≥ (0 : Int))), true), ((decide (a1 ≤ (3 : Int))), true), ((decide (a1 ≥ (0 : Int))), true), ((decide (a0 ≤ (400 : Int))), true), ((decide (a0 ≥ (0 : Int))), true)]) rfl (show 2 ∈ Zl (Zh 2) from by decide +kernel) (fun gv => by kernel_rfl) (Zd (Zbk (by first | assumption | exact Decidable.not_not.1 (by assumption) | simp_all)) <| Zd (Zm (ZI #[vs 5 0 v8.length v8.length, vi a0] (v8) (a0)  y8_0 N c8 5 6 rfl (by decide) (by decide))) <| oR <| oN <| oN <| oY <| oY <| oY <| oY <| oY <| oY Zf) rfl (by decide) (by rfl) (fun _ => ⟨rr, ⟨rr, ⟨rr, ⟨rr, ⟨rr, ⟨rr, ⟨rr, ⟨rr, trivial⟩⟩⟩⟩⟩⟩⟩⟩) ⟨⟨rfl, ⟨[], by rfl⟩, by rfl⟩, ⟨⟨rfl, ⟨[], by rfl⟩, by rfl⟩, ⟨(Zi (E := Zb) (α := RA) _ v5 _), ⟨(Zi (E := Zb) (α := RA) _ v6 _), ⟨(Zi (E := Zb) (α := RA) _ v7 _), ⟨(Zi (E := Zb) (α := RA) _ v8 _), trivial⟩⟩⟩⟩⟩⟩
      ·
       exact Mach.ok_none
     ·
      exact Mach.ok_none
    ·
     exact Mach.ok_none
   ·
    exact Mach.ok_none
  ·
   exact Mach.ok_none
 ·
  exact Mach.ok_none

theorem Zh7 (a0 a1 a2 a3 a4 : Int) (v5 v6 v7 : List RA) (N : Nat) : (Zc a0 a1 a2 a3 a4 N).Ok Tryz.prog Zo (.h2m19 v5 v6 v7 : law32_FifoFormsX) (Zp a0 a1 a2 a3 a4 N (.h2m19 v5 v6 v7 : law32_FifoFormsX)) := by
 show (Zc a0 a1 a2 a3 a4 N).Ok Tryz.prog Zo (.h2m19 v5 v6 v7 : law32_FifoFormsX) (ZbA a0 a1 a2 a3 a4 N v5 v6 v7)
 unfold ZbA
 refine Mach.ok_ite (fun g0 => ?_) (fun g0 => ?_)
 ·
  refine Mach.ok_ite (fun g1 => ?_) (fun g1 => ?_)
  ·
   refine Mach.ok_ite (fun g2 => ?_) (fun g2 => ?_)
   ·
    refine Mach.ok_ite (fun g3 => ?_) (fun g3 => ?_)
    ·
     refine Mach.ok_ite (fun g4 => ?_) (fun g4 => ?_)
     ·
      refine Mach.ok_ite (fun g5 => ?_) (fun g5 => ?_)
      ·
       exact Mach.ok_fin (M := Zc a0 a1 a2 a3 a4 N) (cd := 1000000) (cm := 0) (r := (.r0 (false) : Zg)) (fu := 4000) (orc := (Zk [(1, true), (2, true), (3, true), (4, true), (6, true), (7, true)] [] [] [] [])) (live := []) (u := vf) (bl := []) (ob := [((decide (a2 ≤ (3 : Int))), true), ((decide (a2 ≥ (0 : Int))), true), ((decide (a1 ≤ (3 : Int))), true), ((decide (a1 ≥ (0 : Int))), true), ((decide (a0 ≤ (400 : Int))), true), ((decide (a0 ≥ (0 : Int))), true)]) (fun gv => by kernel_rfl) (oY <| oY <| oY <| oY <| oY <| oY Zf) rfl (by decide) (by rfl) rr trivial
      ·
       exact Mach.ok_next (M := Zc a0 a1 a2 a3 a4 N) (cd := 1000000) (cm := 0) (y := (.h2m25 (v5) (v6) (v7) : law32_FifoFormsX)) (fu := 4000) (orc := (Zk [(1, true), (2, true), (3, true), (4, true), (6, true), (7, false)] [] [] [] [])) (live := [0, 1, 2, 3, 4]) (tv := fun _ => [some (vi a0), some (vi a1), some (vi a2), some (vp 0 0), some (vp 1 0), some (vT), some (vT), some (vi (4 : Int))]) (bl := [some (.cells [vs 2 0 v5.length v5.length, vs 3 0 v6.length v6.length, vs 4 0 v7.length v7.length, vn] 23), some (.cells [vq, vq, vq, vi (240 : Int)] 25), some (.cells (Ze Zb v5) 57), some (.cells (Ze Zb v6) 57), some (.cells (Ze Zb v7) 57)]) (ob := [((decide (a2 ≤ (3 : Int))), false), ((decide (a2 ≥ (0 : Int))), true), ((decide (a1 ≤ (3 : Int))), true), ((decide (a1 ≥ (0 : Int))), true), ((decide (a0 ≤ (400 : Int))), true), ((decide (a0 ≥ (0 : Int))), true)]) rfl (show 2 ∈ Zl (Zh 2) from by decide +kernel) (fun gv => by kernel_rfl) (oN <| oY <| oY <| oY <| oY <| oY Zf) rfl (by decide) (by rfl) (fun _ => ⟨rr, ⟨rr, ⟨rr, ⟨rr, ⟨rr, ⟨rr, ⟨rr, ⟨rr, trivial⟩⟩⟩⟩⟩⟩⟩⟩) ⟨⟨rfl, ⟨[], by rfl⟩, by rfl⟩, ⟨⟨rfl, ⟨[], by rfl⟩, by rfl⟩, ⟨(Zi (E := Zb) (α := RA) _ v5 _), ⟨(Zi (E := Zb) (α := RA) _ v6 _), ⟨(Zi (E := Zb) (α := RA) _ v7 _), trivial⟩⟩⟩⟩⟩
     ·
      exact Mach.ok_next (M := Zc a0 a1 a2 a3 a4 N) (cd := 1000000) (cm := 0) (y := (.h2m25 (v5) (v6) (v7) : law32_FifoFormsX)) (fu := 4000) (orc := (Zk [(1, true), (2, true), (3, true), (4, true), (6, false)] [] [] [] [])) (live := [0, 1, 2, 3, 4]) (tv := fun _ => [some (vi a0), some (vi a1), some (vi a2), some (vp 0 0), some (vp 1 0), some (vT), some (vT), some (vi (4 : Int))]) (bl := [some (.cells [vs 2 0 v5.length v5.length, vs 3 0 v6.length v6.length, vs 4 0 v7.length v7.length, vn] 23), some (.cells [vq, vq, vq, vi (240 : Int)] 25), some (.cells (Ze Zb v5) 57), some (.cells (Ze Zb v6) 57), some (.cells (Ze Zb v7) 57)]) (ob := [((decide (a2 ≥ (0 : Int))), false), ((decide (a1 ≤ (3 : Int))), true), ((decide (a1 ≥ (0 : Int))), true), ((decide (a0 ≤ (400 : Int))), true), ((decide (a0 ≥ (0 : Int))), true)]) rfl (show 2 ∈ Zl (Zh 2) from by decide +kernel) (fun gv => by kernel_rfl) (oN <| oY <| oY <| oY <| oY Zf) rfl (by decide) (by rfl) (fun _ => ⟨rr, ⟨rr, ⟨rr, ⟨rr, ⟨rr, ⟨rr, ⟨rr, ⟨rr, trivial⟩⟩⟩⟩⟩⟩⟩⟩) ⟨⟨rfl, ⟨[], by rfl⟩, by rfl⟩, ⟨⟨rfl, ⟨[], by rfl⟩, by rfl⟩, ⟨(Zi (E := Zb) (α := RA) _ v5 _), ⟨(Zi (E := Zb) (α := RA) _ v6 _), ⟨(Zi (E := Zb) (α := RA) _ v7 _), trivial⟩⟩⟩⟩⟩
    ·
     exact Mach.ok_none
   ·
    exact Mach.ok_none
  ·
   exact Mach.ok_none
 ·
  exact Mach.ok_none

theorem Zh8 (a0 a1 a2 a3 a4 : Int) (v5 v6 : List RA) (N : Nat) : (Zc a0 a1 a2 a3 a4 N).Ok Tryz.prog Zo (.h2m20 v5 v6 : law32_FifoFormsX) (Zp a0 a1 a2 a3 a4 N (.h2m20 v5 v6 : law32_FifoFormsX)) := by
 show (Zc a0 a1 a2 a3 a4 N).Ok Tryz.prog Zo (.h2m20 v5 v6 : law32_FifoFormsX) (ZbB a0 a1 a2 a3 a4 N v5 v6)
 unfold ZbB
 refine Mach.ok_ite (fun g0 => ?_) (fun g0 => ?_)
 ·
  refine Mach.ok_ite (fun g1 => ?_) (fun g1 => ?_)
  ·
   refine Mach.ok_ite (fun g2 => ?_) (fun g2 => ?_)
   ·
    refine Mach.ok_ite (fun g3 => ?_) (fun g3 => ?_)
    ·
     exact Mach.ok_next (M := Zc a0 a1 a2 a3 a4 N) (cd := 1000000) (cm := 0) (y := (.h2m26 (v5) (v6) : law32_FifoFormsX)) (fu := 4000) (orc := (Zk [(1, true), (2, true), (3, true), (4, true)] [] [] [] [])) (live := [0, 1, 2, 3]) (tv := fun _ => [some (vi a0), some (vi a1), some (vi a2), some (vp 0 0), some (vp 1 0), some (vT), some (vf), some (vi (4 : Int))]) (bl := [some (.cells [vn, vs 2 0 v5.length v5.length, vs 3 0 v6.length v6.length, vn] 23), some (.cells [vi (240 : Int), vq, vq, vi (240 : Int)] 25), some (.cells (Ze Zb v5) 57), some (.cells (Ze Zb v6) 57)]) (ob := [((decide (a1 ≤ (3 : Int))), true), ((decide (a1 ≥ (0 : Int))), true), ((decide (a0 ≤ (400 : Int))), true), ((decide (a0 ≥ (0 : Int))), true)]) rfl (show 2 ∈ Zl (Zh 2) from by decide +kernel) (fun gv => by kernel_rfl) (oY <| oY <| oY <| oY Zf) rfl (by decide) (by rfl) (fun _ => ⟨rr, ⟨rr, ⟨rr, ⟨rr, ⟨rr, ⟨rr, ⟨rr, ⟨rr, trivial⟩⟩⟩⟩⟩⟩⟩⟩) ⟨⟨rfl, ⟨[], by rfl⟩, by rfl⟩, ⟨⟨rfl, ⟨[], by rfl⟩, by rfl⟩, ⟨(Zi (E := Zb) (α := RA) _ v5 _), ⟨(Zi (E := Zb) (α := RA) _ v6 _), trivial⟩⟩⟩⟩
    ·
     exact Mach.ok_none
   ·
    exact Mach.ok_none
  ·
   exact Mach.ok_none
 ·
  exact Mach.ok_none

theorem Zh9 (a0 a1 a2 a3 a4 : Int) (v5 v6 : List RA) (N : Nat) : (Zc a0 a1 a2 a3 a4 N).Ok Tryz.prog Zo (.h2m21 v5 v6 : law32_FifoFormsX) (Zp a0 a1 a2 a3 a4 N (.h2m21 v5 v6 : law32_FifoFormsX)) := by
 show (Zc a0 a1 a2 a3 a4 N).Ok Tryz.prog Zo (.h2m21 v5 v6 : law32_FifoFormsX) (ZbC a0 a1 a2 a3 a4 N v5 v6)
 unfold ZbC
 refine Mach.ok_ite (fun g0 => ?_) (fun g0 => ?_)
 ·
  refine Mach.ok_ite (fun g1 => ?_) (fun g1 => ?_)
  ·
   refine Mach.ok_ite (fun g2 => ?_) (fun g2 => ?_)
   ·
    refine Mach.ok_ite (fun g3 => ?_) (fun g3 => ?_)
    ·
     refine Mach.ok_ite (fun g4 => ?_) (fun g4 => ?_)
     ·
      refine Mach.ok_ite (fun g5 => ?_) (fun g5 => ?_)
      ·
       refine Mach.ok_ite (fun g6 => ?_) (fun g6 => ?_)
       ·
        exact Mach.ok_fin (M := Zc a0 a1 a2 a3 a4 N) (cd := 1000000) (cm := 0) (r := (.r0 (false) : Zg)) (fu := 4000) (orc := (Zk [(1, true), (2, true), (3, true), (4, true), (8, true), (9, true), (12, true)] [] [] [] [])) (live := []) (u := vf) (bl := []) (ob := [((decide ((v6.length : Int) < (1 : Int))), true), ((decide (a2 ≤ (3 : Int))), true), ((decide (a2 ≥ (0 : Int))), true), ((decide (a1 ≤ (3 : Int))), true), ((decide (a1 ≥ (0 : Int))), true), ((decide (a0 ≤ (400 : Int))), true), ((decide (a0 ≥ (0 : Int))), true)]) (fun gv => by kernel_rfl) (oY <| oY <| oY <| oY <| oY <| oY <| oY Zf) rfl (by decide) (by rfl) rr trivial
       ·
        refine Mach.ok_ite (fun g7 => ?_) (fun g7 => ?_)
        ·
         exact Mach.ok_fin (M := Zc a0 a1 a2 a3 a4 N) (cd := 1000000) (cm := 0) (r := (.r0 (false) : Zg)) (fu := 4000) (orc := (Zk [(1, true), (2, true), (3, true), (4, true), (8, true), (9, true), (12, false), (13, true)] [] [] [] [])) (live := []) (u := vf) (bl := []) (ob := [((decide ((v6.length : Int) > (60 : Int))), true), ((decide ((v6.length : Int) < (1 : Int))), false), ((decide (a2 ≤ (3 : Int))), true), ((decide (a2 ≥ (0 : Int))), true), ((decide (a1 ≤ (3 : Int))), true), ((decide (a1 ≥ (0 : Int))), true), ((decide (a0 ≤ (400 : Int))), true), ((decide (a0 ≥ (0 : Int))), true)]) (fun gv => by kernel_rfl) (oY <| oN <| oY <| oY <| oY <| oY <| oY <| oY Zf) rfl (by decide) (by rfl) rr trivial
        ·
         refine Mach.ok_bind (fun z8 c8 => ?_)
         cases z8 with
         | r0 y8_0 =>
          refine Mach.ok_ite (fun g9 => ?_) (fun g9 => ?_)
          ·
           exact Mach.ok_fin (M := Zc a0 a1 a2 a3 a4 N) (cd := 1000000) (cm := 0) (r := (.r0 (false) : Zg)) (fu := 4000) (orc := (Zk [(1, true), (2, true), (3, true), (4, true), (8, true), (9, true), (12, false), (13, false), (14, true)] [] [] [] [(0, (ZH (v6) (a0)  y8_0 3 4))])) (live := []) (u := vf) (bl := []) (ob := [((!y8_0), true), (dP (ZF #[vs 3 0 v6.length v6.length, vi a0] (v6) (a0)  y8_0 3 4), true), (dS (Ze Zb v6), true), ((decide ((v6.length : Int) > (60 : Int))), false), ((decide ((v6.length : Int) < (1 : Int))), false), ((decide (a2 ≤ (3 : Int))), true), ((decide (a2 ≥ (0 : Int))), true), ((decide (a1 ≤ (3 : Int))), true), ((decide (a1 ≥ (0 : Int))), true), ((decide (a0 ≤ (400 : Int))), true), ((decide (a0 ≥ (0 : Int))), true)]) (fun gv => by kernel_rfl) (Zd (Zb0 (by first | assumption | simp_all)) <| Zd (Zm (ZI #[vs 3 0 v6.length v6.length, vi a0] (v6) (a0)  y8_0 N c8 3 4 rfl (by decide) (by decide))) <| oR <| oN <| oN <| oY <| oY <| oY <| oY <| oY <| oY Zf) rfl (by decide) (by rfl) rr trivial
          ·
           exact Mach.ok_next (M := Zc a0 a1 a2 a3 a4 N) (cd := 1000000) (cm := 0) (y := (.h2m27 (v5) (v6) : law32_FifoFormsX)) (fu := 4000) (orc := (Zk [(1, true), (2, true), (3, true), (4, true), (8, true), (9, true), (12, false), (13, false), (14, false)] [] [] [] [(0, (ZH (v6) (a0)  y8_0 3 4))])) (live := [0, 1, 2, 3]) (tv := fun _ => [some (vi a0), some (vi a1), some (vi a2), some (vp 0 0), some (vp 1 0), some (vf), some (vT), some (vi (4 : Int))]) (bl := [some (.cells [vn, vs 2 0 v5.length v5.length, vn, vs 3 0 v6.length v6.length] 23), some (.cells [vi (240 : Int), vq, vi (240 : Int), vq] 25), some (.cells (Ze Zb v5) 57), some (.cells (Ze Zb v6) 57)]) (ob := [((!y8_0), false), (dP (ZF #[vs 3 0 v6.length v6.length, vi a0] (v6) (a0)  y8_0 3 4), true), (dS (Ze Zb v6), true), ((decide ((v6.length : Int) > (60 : Int))), false), ((decide ((v6.length : Int) < (1 : Int))), false), ((decide (a2 ≤ (3 : Int))), true), ((decide (a2 ≥ (0 : Int))), true), ((decide (a1 ≤ (3 : Int))), true), ((decide (a1 ≥ (0 : Int))), true), ((decide (a0 ≤ (400 : Int))), true), ((decide (a0 ≥ (0 : Int))), true)]) rfl (show 2 ∈ Zl (Zh 2) from by decide +kernel) (fun gv => by kernel_rfl) (Zd (Zbk (by first | assumption | exact Decidable.not_not.1 (by assumption) | simp_all)) <| Zd (Zm (ZI #[vs 3 0 v6.length v6.length, vi a0] (v6) (a0)  y8_0 N c8 3 4 rfl (by decide) (by decide))) <| oR <| oN <| oN <| oY <| oY <| oY <| oY <| oY <| oY Zf) rfl (by decide) (by rfl) (fun _ => ⟨rr, ⟨rr, ⟨rr, ⟨rr, ⟨rr, ⟨rr, ⟨rr, ⟨rr, trivial⟩⟩⟩⟩⟩⟩⟩⟩) ⟨⟨rfl, ⟨[], by rfl⟩, by rfl⟩, ⟨⟨rfl, ⟨[], by rfl⟩, by rfl⟩, ⟨(Zi (E := Zb) (α := RA) _ v5 _), ⟨(Zi (E := Zb) (α := RA) _ v6 _), trivial⟩⟩⟩⟩
      ·
       exact Mach.ok_none
     ·
      exact Mach.ok_none
    ·
     exact Mach.ok_none
   ·
    exact Mach.ok_none
  ·
   exact Mach.ok_none
 ·
  exact Mach.ok_none

theorem ZhA (a0 a1 a2 a3 a4 : Int) (v4 : Bool) (v5 : List RA) (N : Nat) : (Zc a0 a1 a2 a3 a4 N).Ok Tryz.prog Zo (.h2m22 v4 v5 : law32_FifoFormsX) (Zp a0 a1 a2 a3 a4 N (.h2m22 v4 v5 : law32_FifoFormsX)) := by
 show (Zc a0 a1 a2 a3 a4 N).Ok Tryz.prog Zo (.h2m22 v4 v5 : law32_FifoFormsX) (ZbD a0 a1 a2 a3 a4 N v4 v5)
 unfold ZbD
 refine Mach.ok_ite (fun g0 => ?_) (fun g0 => ?_)
 ·
  subst g0
  refine Mach.ok_ite (fun g1 => ?_) (fun g1 => ?_)
  ·
   refine Mach.ok_ite (fun g2 => ?_) (fun g2 => ?_)
   ·
    refine Mach.ok_ite (fun g3 => ?_) (fun g3 => ?_)
    ·
     refine Mach.ok_ite (fun g4 => ?_) (fun g4 => ?_)
     ·
      refine Mach.ok_ite (fun g5 => ?_) (fun g5 => ?_)
      ·
       refine Mach.ok_ite (fun g6 => ?_) (fun g6 => ?_)
       ·
        exact Mach.ok_fin (M := Zc a0 a1 a2 a3 a4 N) (cd := 1000000) (cm := 0) (r := (.r0 (false) : Zg)) (fu := 4000) (orc := (Zk [(1, true), (2, true), (3, true), (4, true), (8, true), (9, true)] [] [] [] [])) (live := []) (u := vf) (bl := []) (ob := [((decide (a2 ≤ (3 : Int))), true), ((decide (a2 ≥ (0 : Int))), true), ((decide (a1 ≤ (3 : Int))), true), ((decide (a1 ≥ (0 : Int))), true), ((decide (a0 ≤ (400 : Int))), true), ((decide (a0 ≥ (0 : Int))), true)]) (fun gv => by kernel_rfl) (oY <| oY <| oY <| oY <| oY <| oY Zf) rfl (by decide) (by rfl) rr trivial
       ·
        exact Mach.ok_next (M := Zc a0 a1 a2 a3 a4 N) (cd := 1000000) (cm := 0) (y := (.h2m28 (true) (v5) : law32_FifoFormsX)) (fu := 4000) (orc := (Zk [(1, true), (2, true), (3, true), (4, true), (8, true), (9, false)] [] [] [] [])) (live := [0, 1, 2]) (tv := fun _ => [some (vi a0), some (vi a1), some (vi a2), some (vp 0 0), some (vp 1 0), some (vf), some (vT), some (vi (4 : Int))]) (bl := [some (.cells [vn, vs 2 0 v5.length v5.length, vn, vn] 23), some (.cells [vi (240 : Int), vq, vi (240 : Int), vi (240 : Int)] 25), some (.cells (Ze Zb v5) 57)]) (ob := [((decide (a2 ≤ (3 : Int))), false), ((decide (a2 ≥ (0 : Int))), true), ((decide (a1 ≤ (3 : Int))), true), ((decide (a1 ≥ (0 : Int))), true), ((decide (a0 ≤ (400 : Int))), true), ((decide (a0 ≥ (0 : Int))), true)]) rfl (show 2 ∈ Zl (Zh 2) from by decide +kernel) (fun gv => by kernel_rfl) (oN <| oY <| oY <| oY <| oY <| oY Zf) rfl (by decide) (by rfl) (fun _ => ⟨rr, ⟨rr, ⟨rr, ⟨rr, ⟨rr, ⟨rr, ⟨rr, ⟨rr, trivial⟩⟩⟩⟩⟩⟩⟩⟩) ⟨⟨rfl, ⟨[], by rfl⟩, by rfl⟩, ⟨⟨rfl, ⟨[], by rfl⟩, by rfl⟩, ⟨(Zi (E := Zb) (α := RA) _ v5 _), trivial⟩⟩⟩
      ·
       exact Mach.ok_next (M := Zc a0 a1 a2 a3 a4 N) (cd := 1000000) (cm := 0) (y := (.h2m28 (true) (v5) : law32_FifoFormsX)) (fu := 4000) (orc := (Zk [(1, true), (2, true), (3, true), (4, true), (8, false)] [] [] [] [])) (live := [0, 1, 2]) (tv := fun _ => [some (vi a0), some (vi a1), some (vi a2), some (vp 0 0), some (vp 1 0), some (vf), some (vT), some (vi (4 : Int))]) (bl := [some (.cells [vn, vs 2 0 v5.length v5.length, vn, vn] 23), some (.cells [vi (240 : Int), vq, vi (240 : Int), vi (240 : Int)] 25), some (.cells (Ze Zb v5) 57)]) (ob := [((decide (a2 ≥ (0 : Int))), false), ((decide (a1 ≤ (3 : Int))), true), ((decide (a1 ≥ (0 : Int))), true), ((decide (a0 ≤ (400 : Int))), true), ((decide (a0 ≥ (0 : Int))), true)]) rfl (show 2 ∈ Zl (Zh 2) from by decide +kernel) (fun gv => by kernel_rfl) (oN <| oY <| oY <| oY <| oY Zf) rfl (by decide) (by rfl) (fun _ => ⟨rr, ⟨rr, ⟨rr, ⟨rr, ⟨rr, ⟨rr, ⟨rr, ⟨rr, trivial⟩⟩⟩⟩⟩⟩⟩⟩) ⟨⟨rfl, ⟨[], by rfl⟩, by rfl⟩, ⟨⟨rfl, ⟨[], by rfl⟩, by rfl⟩, ⟨(Zi (E := Zb) (α := RA) _ v5 _), trivial⟩⟩⟩
     ·
      exact Mach.ok_none
    ·
     exact Mach.ok_none
   ·
    exact Mach.ok_none
  ·
   exact Mach.ok_none
 ·
  obtain rfl : v4 = false := by simpa using g0
  refine Mach.ok_ite (fun g1 => ?_) (fun g1 => ?_)
  ·
   refine Mach.ok_ite (fun g2 => ?_) (fun g2 => ?_)
   ·
    refine Mach.ok_ite (fun g3 => ?_) (fun g3 => ?_)
    ·
     refine Mach.ok_ite (fun g4 => ?_) (fun g4 => ?_)
     ·
      exact Mach.ok_next (M := Zc a0 a1 a2 a3 a4 N) (cd := 1000000) (cm := 0) (y := (.h2m28 (false) (v5) : law32_FifoFormsX)) (fu := 4000) (orc := (Zk [(1, true), (2, true), (3, true), (4, true)] [] [] [] [])) (live := [0, 1, 2]) (tv := fun _ => [some (vi a0), some (vi a1), some (vi a2), some (vp 0 0), some (vp 1 0), some (vf), some (vf), some (vi (4 : Int))]) (bl := [some (.cells [vn, vs 2 0 v5.length v5.length, vn, vn] 23), some (.cells [vi (240 : Int), vq, vi (240 : Int), vi (240 : Int)] 25), some (.cells (Ze Zb v5) 57)]) (ob := [((decide (a1 ≤ (3 : Int))), true), ((decide (a1 ≥ (0 : Int))), true), ((decide (a0 ≤ (400 : Int))), true), ((decide (a0 ≥ (0 : Int))), true)]) rfl (show 2 ∈ Zl (Zh 2) from by decide +kernel) (fun gv => by kernel_rfl) (oY <| oY <| oY <| oY Zf) rfl (by decide) (by rfl) (fun _ => ⟨rr, ⟨rr, ⟨rr, ⟨rr, ⟨rr, ⟨rr, ⟨rr, ⟨rr, trivial⟩⟩⟩⟩⟩⟩⟩⟩) ⟨⟨rfl, ⟨[], by rfl⟩, by rfl⟩, ⟨⟨rfl, ⟨[], by rfl⟩, by rfl⟩, ⟨(Zi (E := Zb) (α := RA) _ v5 _), trivial⟩⟩⟩
     ·
      exact Mach.ok_none
    ·
     exact Mach.ok_none
   ·
    exact Mach.ok_none
  ·
   exact Mach.ok_none

theorem ZhB (a0 a1 a2 a3 a4 : Int) (v3 v4 : Bool) (N : Nat) : (Zc a0 a1 a2 a3 a4 N).Ok Tryz.prog Zo (.h2m23 v3 v4 : law32_FifoFormsX) (Zp a0 a1 a2 a3 a4 N (.h2m23 v3 v4 : law32_FifoFormsX)) := by
 show (Zc a0 a1 a2 a3 a4 N).Ok Tryz.prog Zo (.h2m23 v3 v4 : law32_FifoFormsX) (ZbE a0 a1 a2 a3 a4 N v3 v4)
 unfold ZbE
 refine Mach.ok_ite (fun g0 => ?_) (fun g0 => ?_)
 ·
  subst g0
  refine Mach.ok_ite (fun g1 => ?_) (fun g1 => ?_)
  ·
   subst g1
   refine Mach.ok_ite (fun g2 => ?_) (fun g2 => ?_)
   ·
    refine Mach.ok_ite (fun g3 => ?_) (fun g3 => ?_)
    ·
     refine Mach.ok_ite (fun g4 => ?_) (fun g4 => ?_)
     ·
      refine Mach.ok_ite (fun g5 => ?_) (fun g5 => ?_)
      ·
       refine Mach.ok_ite (fun g6 => ?_) (fun g6 => ?_)
       ·
        refine Mach.ok_ite (fun g7 => ?_) (fun g7 => ?_)
        ·
         exact Mach.ok_fin (M := Zc a0 a1 a2 a3 a4 N) (cd := 1000000) (cm := 0) (r := (.r0 (false) : Zg)) (fu := 4000) (orc := (Zk [(1, true), (2, true), (3, true), (4, true), (6, true), (7, true)] [] [] [] [])) (live := []) (u := vf) (bl := []) (ob := [((decide (a2 ≤ (3 : Int))), true), ((decide (a2 ≥ (0 : Int))), true), ((decide (a1 ≤ (3 : Int))), true), ((decide (a1 ≥ (0 : Int))), true), ((decide (a0 ≤ (400 : Int))), true), ((decide (a0 ≥ (0 : Int))), true)]) (fun gv => by kernel_rfl) (oY <| oY <| oY <| oY <| oY <| oY Zf) rfl (by decide) (by rfl) rr trivial
        ·
         exact Mach.ok_next (M := Zc a0 a1 a2 a3 a4 N) (cd := 1000000) (cm := 0) (y := (.h2m29 (true) (true) : law32_FifoFormsX)) (fu := 4000) (orc := (Zk [(1, true), (2, true), (3, true), (4, true), (6, true), (7, false)] [] [] [] [])) (live := [0, 1]) (tv := fun _ => [some (vi a0), some (vi a1), some (vi a2), some (vp 0 0), some (vp 1 0), some (vT), some (vT), some (vi (4 : Int))]) (bl := [some (.cells [vn, vn, vn, vn] 23), some ZJ]) (ob := [((decide (a2 ≤ (3 : Int))), false), ((decide (a2 ≥ (0 : Int))), true), ((decide (a1 ≤ (3 : Int))), true), ((decide (a1 ≥ (0 : Int))), true), ((decide (a0 ≤ (400 : Int))), true), ((decide (a0 ≥ (0 : Int))), true)]) rfl (show 2 ∈ Zl (Zh 2) from by decide +kernel) (fun gv => by kernel_rfl) (oN <| oY <| oY <| oY <| oY <| oY Zf) rfl (by decide) (by rfl) (fun _ => ⟨rr, ⟨rr, ⟨rr, ⟨rr, ⟨rr, ⟨rr, ⟨rr, ⟨rr, trivial⟩⟩⟩⟩⟩⟩⟩⟩) ⟨⟨rfl, ⟨[], by rfl⟩, by rfl⟩, ⟨⟨rfl, ⟨[], by rfl⟩, by rfl⟩, trivial⟩⟩
       ·
        exact Mach.ok_next (M := Zc a0 a1 a2 a3 a4 N) (cd := 1000000) (cm := 0) (y := (.h2m29 (true) (true) : law32_FifoFormsX)) (fu := 4000) (orc := (Zk [(1, true), (2, true), (3, true), (4, true), (6, false)] [] [] [] [])) (live := [0, 1]) (tv := fun _ => [some (vi a0), some (vi a1), some (vi a2), some (vp 0 0), some (vp 1 0), some (vT), some (vT), some (vi (4 : Int))]) (bl := [some (.cells [vn, vn, vn, vn] 23), some ZJ]) (ob := [((decide (a2 ≥ (0 : Int))), false), ((decide (a1 ≤ (3 : Int))), true), ((decide (a1 ≥ (0 : Int))), true), ((decide (a0 ≤ (400 : Int))), true), ((decide (a0 ≥ (0 : Int))), true)]) rfl (show 2 ∈ Zl (Zh 2) from by decide +kernel) (fun gv => by kernel_rfl) (oN <| oY <| oY <| oY <| oY Zf) rfl (by decide) (by rfl) (fun _ => ⟨rr, ⟨rr, ⟨rr, ⟨rr, ⟨rr, ⟨rr, ⟨rr, ⟨rr, trivial⟩⟩⟩⟩⟩⟩⟩⟩) ⟨⟨rfl, ⟨[], by rfl⟩, by rfl⟩, ⟨⟨rfl, ⟨[], by rfl⟩, by rfl⟩, trivial⟩⟩
      ·
       exact Mach.ok_next (M := Zc a0 a1 a2 a3 a4 N) (cd := 1000000) (cm := 0) (y := (.h2m29 (true) (true) : law32_FifoFormsX)) (fu := 4000) (orc := (Zk [(1, true), (2, true), (3, true), (4, false)] [] [] [] [])) (live := [0, 1]) (tv := fun _ => [some (vi a0), some (vi a1), some (vi a2), some (vp 0 0), some (vp 1 0), some (vT), some (vT), some (vi (4 : Int))]) (bl := [some (.cells [vn, vn, vn, vn] 23), some ZJ]) (ob := [((decide (a1 ≤ (3 : Int))), false), ((decide (a1 ≥ (0 : Int))), true), ((decide (a0 ≤ (400 : Int))), true), ((decide (a0 ≥ (0 : Int))), true)]) rfl (show 2 ∈ Zl (Zh 2) from by decide +kernel) (fun gv => by kernel_rfl) (oN <| oY <| oY <| oY Zf) rfl (by decide) (by rfl) (fun _ => ⟨rr, ⟨rr, ⟨rr, ⟨rr, ⟨rr, ⟨rr, ⟨rr, ⟨rr, trivial⟩⟩⟩⟩⟩⟩⟩⟩) ⟨⟨rfl, ⟨[], by rfl⟩, by rfl⟩, ⟨⟨rfl, ⟨[], by rfl⟩, by rfl⟩, trivial⟩⟩
     ·
      exact Mach.ok_next (M := Zc a0 a1 a2 a3 a4 N) (cd := 1000000) (cm := 0) (y := (.h2m29 (true) (true) : law32_FifoFormsX)) (fu := 4000) (orc := (Zk [(1, true), (2, true), (3, false)] [] [] [] [])) (live := [0, 1]) (tv := fun _ => [some (vi a0), some (vi a1), some (vi a2), some (vp 0 0), some (vp 1 0), some (vT), some (vT), some (vi (4 : Int))]) (bl := [some (.cells [vn, vn, vn, vn] 23), some ZJ]) (ob := [((decide (a1 ≥ (0 : Int))), false), ((decide (a0 ≤ (400 : Int))), true), ((decide (a0 ≥ (0 : Int))), true)]) rfl (show 2 ∈ Zl (Zh 2) from by decide +kernel) (fun gv => by kernel_rfl) (oN <| oY <| oY Zf) rfl (by decide) (by rfl) (fun _ => ⟨rr, ⟨rr, ⟨rr, ⟨rr, ⟨rr, ⟨rr, ⟨rr, ⟨rr, trivial⟩⟩⟩⟩⟩⟩⟩⟩) ⟨⟨rfl, ⟨[], by rfl⟩, by rfl⟩, ⟨⟨rfl, ⟨[], by rfl⟩, by rfl⟩, trivial⟩⟩
    ·
     exact Mach.ok_next (M := Zc a0 a1 a2 a3 a4 N) (cd := 1000000) (cm := 0) (y := (.h2m29 (true) (true) : law32_FifoFormsX)) (fu := 4000) (orc := (Zk [(1, true), (2, false)] [] [] [] [])) (live := [0, 1]) (tv := fun _ => [some (vi a0), some (vi a1), some (vi a2), some (vp 0 0), some (vp 1 0), some (vT), some (vT), some (vi (4 : Int))]) (bl := [some (.cells [vn, vn, vn, vn] 23), some ZJ]) (ob := [((decide (a0 ≤ (400 : Int))), false), ((decide (a0 ≥ (0 : Int))), true)]) rfl (show 2 ∈ Zl (Zh 2) from by decide +kernel) (fun gv => by kernel_rfl) (oN <| oY Zf) rfl (by decide) (by rfl) (fun _ => ⟨rr, ⟨rr, ⟨rr, ⟨rr, ⟨rr, ⟨rr, ⟨rr, ⟨rr, trivial⟩⟩⟩⟩⟩⟩⟩⟩) ⟨⟨rfl, ⟨[], by rfl⟩, by rfl⟩, ⟨⟨rfl, ⟨[], by rfl⟩, by rfl⟩, trivial⟩⟩
   ·
    exact Mach.ok_next (M := Zc a0 a1 a2 a3 a4 N) (cd := 1000000) (cm := 0) (y := (.h2m29 (true) (true) : law32_FifoFormsX)) (fu := 4000) (orc := (Zk [(1, false)] [] [] [] [])) (live := [0, 1]) (tv := fun _ => [some (vi a0), some (vi a1), some (vi a2), some (vp 0 0), some (vp 1 0), some (vT), some (vT), some (vi (4 : Int))]) (bl := [some (.cells [vn, vn, vn, vn] 23), some ZJ]) (ob := [((decide (a0 ≥ (0 : Int))), false)]) rfl (show 2 ∈ Zl (Zh 2) from by decide +kernel) (fun gv => by kernel_rfl) (oN Zf) rfl (by decide) (by rfl) (fun _ => ⟨rr, ⟨rr, ⟨rr, ⟨rr, ⟨rr, ⟨rr, ⟨rr, ⟨rr, trivial⟩⟩⟩⟩⟩⟩⟩⟩) ⟨⟨rfl, ⟨[], by rfl⟩, by rfl⟩, ⟨⟨rfl, ⟨[], by rfl⟩, by rfl⟩, trivial⟩⟩
  ·
   obtain rfl : v4 = false := by simpa using g1
   by_cases g2 : (0 : Int) ≤ a0
   ·
    by_cases g3 : a0 ≤ (400 : Int)
    ·
     by_cases g4 : (0 : Int) ≤ a1
     ·
      by_cases g5 : a1 ≤ (3 : Int)
      ·
       exact Mach.ok_next (M := Zc a0 a1 a2 a3 a4 N) (cd := 1000000) (cm := 0) (y := (.h2m29 (true) (false) : law32_FifoFormsX)) (fu := 4000) (orc := (Zk [(1, true), (2, true), (3, true), (4, true)] [] [] [] [])) (live := [0, 1]) (tv := fun _ => [some (vi a0), some (vi a1), some (vi a2), some (vp 0 0), some (vp 1 0), some (vT), some (vf), some (vi (4 : Int))]) (bl := [some (.cells [vn, vn, vn, vn] 23), some ZJ]) (ob := [((decide (a1 ≤ (3 : Int))), true), ((decide (a1 ≥ (0 : Int))), true), ((decide (a0 ≤ (400 : Int))), true), ((decide (a0 ≥ (0 : Int))), true)]) rfl (show 2 ∈ Zl (Zh 2) from by decide +kernel) (fun gv => by kernel_rfl) (oY <| oY <| oY <| oY Zf) rfl (by decide) (by rfl) (fun _ => ⟨rr, ⟨rr, ⟨rr, ⟨rr, ⟨rr, ⟨rr, ⟨rr, ⟨rr, trivial⟩⟩⟩⟩⟩⟩⟩⟩) ⟨⟨rfl, ⟨[], by rfl⟩, by rfl⟩, ⟨⟨rfl, ⟨[], by rfl⟩, by rfl⟩, trivial⟩⟩
      ·
       exact Mach.ok_next (M := Zc a0 a1 a2 a3 a4 N) (cd := 1000000) (cm := 0) (y := (.h2m29 (true) (false) : law32_FifoFormsX)) (fu := 4000) (orc := (Zk [(1, true), (2, true), (3, true), (4, false)] [] [] [] [])) (live := [0, 1]) (tv := fun _ => [some (vi a0), some (vi a1), some (vi a2), some (vp 0 0), some (vp 1 0), some (vT), some (vf), some (vi (4 : Int))]) (bl := [some (.cells [vn, vn, vn, vn] 23), some ZJ]) (ob := [((decide (a1 ≤ (3 : Int))), false), ((decide (a1 ≥ (0 : Int))), true), ((decide (a0 ≤ (400 : Int))), true), ((decide (a0 ≥ (0 : Int))), true)]) rfl (show 2 ∈ Zl (Zh 2) from by decide +kernel) (fun gv => by kernel_rfl) (oN <| oY <| oY <| oY Zf) rfl (by decide) (by rfl) (fun _ => ⟨rr, ⟨rr, ⟨rr, ⟨rr, ⟨rr, ⟨rr, ⟨rr, ⟨rr, trivial⟩⟩⟩⟩⟩⟩⟩⟩) ⟨⟨rfl, ⟨[], by rfl⟩, by rfl⟩, ⟨⟨rfl, ⟨[], by rfl⟩, by rfl⟩, trivial⟩⟩
     ·
      exact Mach.ok_next (M := Zc a0 a1 a2 a3 a4 N) (cd := 1000000) (cm := 0) (y := (.h2m29 (true) (false) : law32_FifoFormsX)) (fu := 4000) (orc := (Zk [(1, true), (2, true), (3, false)] [] [] [] [])) (live := [0, 1]) (tv := fun _ => [some (vi a0), some (vi a1), some (vi a2), some (vp 0 0), some (vp 1 0), some (vT), some (vf), some (vi (4 : Int))]) (bl := [some (.cells [vn, vn, vn, vn] 23), some ZJ]) (ob := [((decide (a1 ≥ (0 : Int))), false), ((decide (a0 ≤ (400 : Int))), true), ((decide (a0 ≥ (0 : Int))), true)]) rfl (show 2 ∈ Zl (Zh 2) from by decide +kernel) (fun gv => by kernel_rfl) (oN <| oY <| oY Zf) rfl (by decide) (by rfl) (fun _ => ⟨rr, ⟨rr, ⟨rr, ⟨rr, ⟨rr, ⟨rr, ⟨rr, ⟨rr, trivial⟩⟩⟩⟩⟩⟩⟩⟩) ⟨⟨rfl, ⟨[], by rfl⟩, by rfl⟩, ⟨⟨rfl, ⟨[], by rfl⟩, by rfl⟩, trivial⟩⟩
    ·
     exact Mach.ok_next (M := Zc a0 a1 a2 a3 a4 N) (cd := 1000000) (cm := 0) (y := (.h2m29 (true) (false) : law32_FifoFormsX)) (fu := 4000) (orc := (Zk [(1, true), (2, false)] [] [] [] [])) (live := [0, 1]) (tv := fun _ => [some (vi a0), some (vi a1), some (vi a2), some (vp 0 0), some (vp 1 0), some (vT), some (vf), some (vi (4 : Int))]) (bl := [some (.cells [vn, vn, vn, vn] 23), some ZJ]) (ob := [((decide (a0 ≤ (400 : Int))), false), ((decide (a0 ≥ (0 : Int))), true)]) rfl (show 2 ∈ Zl (Zh 2) from by decide +kernel) (fun gv => by kernel_rfl) (oN <| oY Zf) rfl (by decide) (by rfl) (fun _ => ⟨rr, ⟨rr, ⟨rr, ⟨rr, ⟨rr, ⟨rr, ⟨rr, ⟨rr, trivial⟩⟩⟩⟩⟩⟩⟩⟩) ⟨⟨rfl, ⟨[], by rfl⟩, by rfl⟩, ⟨⟨rfl, ⟨[], by rfl⟩, by rfl⟩, trivial⟩⟩
   ·
    exact Mach.ok_next (M := Zc a0 a1 a2 a3 a4 N) (cd := 1000000) (cm := 0) (y := (.h2m29 (true) (false) : law32_FifoFormsX)) (fu := 4000) (orc := (Zk [(1, false)] [] [] [] [])) (live := [0, 1]) (tv := fun _ => [some (vi a0), some (vi a1), some (vi a2), some (vp 0 0), some (vp 1 0), some (vT), some (vf), some (vi (4 : Int))]) (bl := [some (.cells [vn, vn, vn, vn] 23), some ZJ]) (ob := [((decide (a0 ≥ (0 : Int))), false)]) rfl (show 2 ∈ Zl (Zh 2) from by decide +kernel) (fun gv => by kernel_rfl) (oN Zf) rfl (by decide) (by rfl) (fun _ => ⟨rr, ⟨rr, ⟨rr, ⟨rr, ⟨rr, ⟨rr, ⟨rr, ⟨rr, trivial⟩⟩⟩⟩⟩⟩⟩⟩) ⟨⟨rfl, ⟨[], by rfl⟩, by rfl⟩, ⟨⟨rfl, ⟨[], by rfl⟩, by rfl⟩, trivial⟩⟩
 ·
  obtain rfl : v3 = false := by simpa using g0
  refine Mach.ok_ite (fun g1 => ?_) (fun g1 => ?_)
  ·
   subst g1
   refine Mach.ok_ite (fun g2 => ?_) (fun g2 => ?_)
   ·
    refine Mach.ok_ite (fun g3 => ?_) (fun g3 => ?_)
    ·
     refine Mach.ok_ite (fun g4 => ?_) (fun g4 => ?_)
     ·
      refine Mach.ok_ite (fun g5 => ?_) (fun g5 => ?_)
      ·
       refine Mach.ok_ite (fun g6 => ?_) (fun g6 => ?_)
       ·
        refine Mach.ok_ite (fun g7 => ?_) (fun g7 => ?_)
        ·
         exact Mach.ok_fin (M := Zc a0 a1 a2 a3 a4 N) (cd := 1000000) (cm := 0) (r := (.r0 (false) : Zg)) (fu := 4000) (orc := (Zk [(1, true), (2, true), (3, true), (4, true), (8, true), (9, true)] [] [] [] [])) (live := []) (u := vf) (bl := []) (ob := [((decide (a2 ≤ (3 : Int))), true), ((decide (a2 ≥ (0 : Int))), true), ((decide (a1 ≤ (3 : Int))), true), ((decide (a1 ≥ (0 : Int))), true), ((decide (a0 ≤ (400 : Int))), true), ((decide (a0 ≥ (0 : Int))), true)]) (fun gv => by kernel_rfl) (oY <| oY <| oY <| oY <| oY <| oY Zf) rfl (by decide) (by rfl) rr trivial
        ·
         exact Mach.ok_next (M := Zc a0 a1 a2 a3 a4 N) (cd := 1000000) (cm := 0) (y := (.h2m29 (false) (true) : law32_FifoFormsX)) (fu := 4000) (orc := (Zk [(1, true), (2, true), (3, true), (4, true), (8, true), (9, false)] [] [] [] [])) (live := [0, 1]) (tv := fun _ => [some (vi a0), some (vi a1), some (vi a2), some (vp 0 0), some (vp 1 0), some (vf), some (vT), some (vi (4 : Int))]) (bl := [some (.cells [vn, vn, vn, vn] 23), some ZJ]) (ob := [((decide (a2 ≤ (3 : Int))), false), ((decide (a2 ≥ (0 : Int))), true), ((decide (a1 ≤ (3 : Int))), true), ((decide (a1 ≥ (0 : Int))), true), ((decide (a0 ≤ (400 : Int))), true), ((decide (a0 ≥ (0 : Int))), true)]) rfl (show 2 ∈ Zl (Zh 2) from by decide +kernel) (fun gv => by kernel_rfl) (oN <| oY <| oY <| oY <| oY <| oY Zf) rfl (by decide) (by rfl) (fun _ => ⟨rr, ⟨rr, ⟨rr, ⟨rr, ⟨rr, ⟨rr, ⟨rr, ⟨rr, trivial⟩⟩⟩⟩⟩⟩⟩⟩) ⟨⟨rfl, ⟨[], by rfl⟩, by rfl⟩, ⟨⟨rfl, ⟨[], by rfl⟩, by rfl⟩, trivial⟩⟩
       ·
        exact Mach.ok_next (M := Zc a0 a1 a2 a3 a4 N) (cd := 1000000) (cm := 0) (y := (.h2m29 (false) (true) : law32_FifoFormsX)) (fu := 4000) (orc := (Zk [(1, true), (2, true), (3, true), (4, true), (8, false)] [] [] [] [])) (live := [0, 1]) (tv := fun _ => [some (vi a0), some (vi a1), some (vi a2), some (vp 0 0), some (vp 1 0), some (vf), some (vT), some (vi (4 : Int))]) (bl := [some (.cells [vn, vn, vn, vn] 23), some ZJ]) (ob := [((decide (a2 ≥ (0 : Int))), false), ((decide (a1 ≤ (3 : Int))), true), ((decide (a1 ≥ (0 : Int))), true), ((decide (a0 ≤ (400 : Int))), true), ((decide (a0 ≥ (0 : Int))), true)]) rfl (show 2 ∈ Zl (Zh 2) from by decide +kernel) (fun gv => by kernel_rfl) (oN <| oY <| oY <| oY <| oY Zf) rfl (by decide) (by rfl) (fun _ => ⟨rr, ⟨rr, ⟨rr, ⟨rr, ⟨rr, ⟨rr, ⟨rr, ⟨rr, trivial⟩⟩⟩⟩⟩⟩⟩⟩) ⟨⟨rfl, ⟨[], by rfl⟩, by rfl⟩, ⟨⟨rfl, ⟨[], by rfl⟩, by rfl⟩, trivial⟩⟩
      ·
       exact Mach.ok_next (M := Zc a0 a1 a2 a3 a4 N) (cd := 1000000) (cm := 0) (y := (.h2m29 (false) (true) : law32_FifoFormsX)) (fu := 4000) (orc := (Zk [(1, true), (2, true), (3, true), (4, false)] [] [] [] [])) (live := [0, 1]) (tv := fun _ => [some (vi a0), some (vi a1), some (vi a2), some (vp 0 0), some (vp 1 0), some (vf), some (vT), some (vi (4 : Int))]) (bl := [some (.cells [vn, vn, vn, vn] 23), some ZJ]) (ob := [((decide (a1 ≤ (3 : Int))), false), ((decide (a1 ≥ (0 : Int))), true), ((decide (a0 ≤ (400 : Int))), true), ((decide (a0 ≥ (0 : Int))), true)]) rfl (show 2 ∈ Zl (Zh 2) from by decide +kernel) (fun gv => by kernel_rfl) (oN <| oY <| oY <| oY Zf) rfl (by decide) (by rfl) (fun _ => ⟨rr, ⟨rr, ⟨rr, ⟨rr, ⟨rr, ⟨rr, ⟨rr, ⟨rr, trivial⟩⟩⟩⟩⟩⟩⟩⟩) ⟨⟨rfl, ⟨[], by rfl⟩, by rfl⟩, ⟨⟨rfl, ⟨[], by rfl⟩, by rfl⟩, trivial⟩⟩
     ·
      exact Mach.ok_next (M := Zc a0 a1 a2 a3 a4 N) (cd := 1000000) (cm := 0) (y := (.h2m29 (false) (true) : law32_FifoFormsX)) (fu := 4000) (orc := (Zk [(1, true), (2, true), (3, false)] [] [] [] [])) (live := [0, 1]) (tv := fun _ => [some (vi a0), some (vi a1), some (vi a2), some (vp 0 0), some (vp 1 0), some (vf), some (vT), some (vi (4 : Int))]) (bl := [some (.cells [vn, vn, vn, vn] 23), some ZJ]) (ob := [((decide (a1 ≥ (0 : Int))), false), ((decide (a0 ≤ (400 : Int))), true), ((decide (a0 ≥ (0 : Int))), true)]) rfl (show 2 ∈ Zl (Zh 2) from by decide +kernel) (fun gv => by kernel_rfl) (oN <| oY <| oY Zf) rfl (by decide) (by rfl) (fun _ => ⟨rr, ⟨rr, ⟨rr, ⟨rr, ⟨rr, ⟨rr, ⟨rr, ⟨rr, trivial⟩⟩⟩⟩⟩⟩⟩⟩) ⟨⟨rfl, ⟨[], by rfl⟩, by rfl⟩, ⟨⟨rfl, ⟨[], by rfl⟩, by rfl⟩, trivial⟩⟩
    ·
     exact Mach.ok_next (M := Zc a0 a1 a2 a3 a4 N) (cd := 1000000) (cm := 0) (y := (.h2m29 (false) (true) : law32_FifoFormsX)) (fu := 4000) (orc := (Zk [(1, true), (2, false)] [] [] [] [])) (live := [0, 1]) (tv := fun _ => [some (vi a0), some (vi a1), some (vi a2), some (vp 0 0), some (vp 1 0), some (vf), some (vT), some (vi (4 : Int))]) (bl := [some (.cells [vn, vn, vn, vn] 23), some ZJ]) (ob := [((decide (a0 ≤ (400 : Int))), false), ((decide (a0 ≥ (0 : Int))), true)]) rfl (show 2 ∈ Zl (Zh 2) from by decide +kernel) (fun gv => by kernel_rfl) (oN <| oY Zf) rfl (by decide) (by rfl) (fun _ => ⟨rr, ⟨rr, ⟨rr, ⟨rr, ⟨rr, ⟨rr, ⟨rr, ⟨rr, trivial⟩⟩⟩⟩⟩⟩⟩⟩) ⟨⟨rfl, ⟨[], by rfl⟩, by rfl⟩, ⟨⟨rfl, ⟨[], by rfl⟩, by rfl⟩, trivial⟩⟩
   ·
    exact Mach.ok_next (M := Zc a0 a1 a2 a3 a4 N) (cd := 1000000) (cm := 0) (y := (.h2m29 (false) (true) : law32_FifoFormsX)) (fu := 4000) (orc := (Zk [(1, false)] [] [] [] [])) (live := [0, 1]) (tv := fun _ => [some (vi a0), some (vi a1), some (vi a2), some (vp 0 0), some (vp 1 0), some (vf), some (vT), some (vi (4 : Int))]) (bl := [some (.cells [vn, vn, vn, vn] 23), some ZJ]) (ob := [((decide (a0 ≥ (0 : Int))), false)]) rfl (show 2 ∈ Zl (Zh 2) from by decide +kernel) (fun gv => by kernel_rfl) (oN Zf) rfl (by decide) (by rfl) (fun _ => ⟨rr, ⟨rr, ⟨rr, ⟨rr, ⟨rr, ⟨rr, ⟨rr, ⟨rr, trivial⟩⟩⟩⟩⟩⟩⟩⟩) ⟨⟨rfl, ⟨[], by rfl⟩, by rfl⟩, ⟨⟨rfl, ⟨[], by rfl⟩, by rfl⟩, trivial⟩⟩
  ·
   obtain rfl : v4 = false := by simpa using g1
   by_cases g2 : (0 : Int) ≤ a0
   ·
    by_cases g3 : a0 ≤ (400 : Int)
    ·
     by_cases g4 : (0 : Int) ≤ a1
     ·
      by_cases g5 : a1 ≤ (3 : Int)
      ·
       exact Mach.ok_next (M := Zc a0 a1 a2 a3 a4 N) (cd := 1000000) (cm := 0) (y := (.h2m29 (false) (false) : law32_FifoFormsX)) (fu := 4000) (orc := (Zk [(1, true), (2, true), (3, true), (4, true)] [] [] [] [])) (live := [0, 1]) (tv := fun _ => [some (vi a0), some (vi a1), some (vi a2), some (vp 0 0), some (vp 1 0), some (vf), some (vf), some (vi (4 : Int))]) (bl := [some (.cells [vn, vn, vn, vn] 23), some ZJ]) (ob := [((decide (a1 ≤ (3 : Int))), true), ((decide (a1 ≥ (0 : Int))), true), ((decide (a0 ≤ (400 : Int))), true), ((decide (a0 ≥ (0 : Int))), true)]) rfl (show 2 ∈ Zl (Zh 2) from by decide +kernel) (fun gv => by kernel_rfl) (oY <| oY <| oY <| oY Zf) rfl (by decide) (by rfl) (fun _ => ⟨rr, ⟨rr, ⟨rr, ⟨rr, ⟨rr, ⟨rr, ⟨rr, ⟨rr, trivial⟩⟩⟩⟩⟩⟩⟩⟩) ⟨⟨rfl, ⟨[], by rfl⟩, by rfl⟩, ⟨⟨rfl, ⟨[], by rfl⟩, by rfl⟩, trivial⟩⟩
      ·
       exact Mach.ok_next (M := Zc a0 a1 a2 a3 a4 N) (cd := 1000000) (cm := 0) (y := (.h2m29 (false) (false) : law32_FifoFormsX)) (fu := 4000) (orc := (Zk [(1, true), (2, true), (3, true), (4, false)] [] [] [] [])) (live := [0, 1]) (tv := fun _ => [some (vi a0), some (vi a1), some (vi a2), some (vp 0 0), some (vp 1 0), some (vf), some (vf), some (vi (4 : Int))]) (bl := [some (.cells [vn, vn, vn, vn] 23), some ZJ]) (ob := [((decide (a1 ≤ (3 : Int))), false), ((decide (a1 ≥ (0 : Int))), true), ((decide (a0 ≤ (400 : Int))), true), ((decide (a0 ≥ (0 : Int))), true)]) rfl (show 2 ∈ Zl (Zh 2) from by decide +kernel) (fun gv => by kernel_rfl) (oN <| oY <| oY <| oY Zf) rfl (by decide) (by rfl) (fun _ => ⟨rr, ⟨rr, ⟨rr, ⟨rr, ⟨rr, ⟨rr, ⟨rr, ⟨rr, trivial⟩⟩⟩⟩⟩⟩⟩⟩) ⟨⟨rfl, ⟨[], by rfl⟩, by rfl⟩, ⟨⟨rfl, ⟨[], by rfl⟩, by rfl⟩, trivial⟩⟩
     ·
      exact Mach.ok_next (M := Zc a0 a1 a2 a3 a4 N) (cd := 1000000) (cm := 0) (y := (.h2m29 (false) (false) : law32_FifoFormsX)) (fu := 4000) (orc := (Zk [(1, true), (2, true), (3, false)] [] [] [] [])) (live := [0, 1]) (tv := fun _ => [some (vi a0), some (vi a1), some (vi a2), some (vp 0 0), some (vp 1 0), some (vf), some (vf), some (vi (4 : Int))]) (bl := [some (.cells [vn, vn, vn, vn] 23), some ZJ]) (ob := [((decide (a1 ≥ (0 : Int))), false), ((decide (a0 ≤ (400 : Int))), true), ((decide (a0 ≥ (0 : Int))), true)]) rfl (show 2 ∈ Zl (Zh 2) from by decide +kernel) (fun gv => by kernel_rfl) (oN <| oY <| oY Zf) rfl (by decide) (by rfl) (fun _ => ⟨rr, ⟨rr, ⟨rr, ⟨rr, ⟨rr, ⟨rr, ⟨rr, ⟨rr, trivial⟩⟩⟩⟩⟩⟩⟩⟩) ⟨⟨rfl, ⟨[], by rfl⟩, by rfl⟩, ⟨⟨rfl, ⟨[], by rfl⟩, by rfl⟩, trivial⟩⟩
    ·
     exact Mach.ok_next (M := Zc a0 a1 a2 a3 a4 N) (cd := 1000000) (cm := 0) (y := (.h2m29 (false) (false) : law32_FifoFormsX)) (fu := 4000) (orc := (Zk [(1, true), (2, false)] [] [] [] [])) (live := [0, 1]) (tv := fun _ => [some (vi a0), some (vi a1), some (vi a2), some (vp 0 0), some (vp 1 0), some (vf), some (vf), some (vi (4 : Int))]) (bl := [some (.cells [vn, vn, vn, vn] 23), some ZJ]) (ob := [((decide (a0 ≤ (400 : Int))), false), ((decide (a0 ≥ (0 : Int))), true)]) rfl (show 2 ∈ Zl (Zh 2) from by decide +kernel) (fun gv => by kernel_rfl) (oN <| oY Zf) rfl (by decide) (by rfl) (fun _ => ⟨rr, ⟨rr, ⟨rr, ⟨rr, ⟨rr, ⟨rr, ⟨rr, ⟨rr, trivial⟩⟩⟩⟩⟩⟩⟩⟩) ⟨⟨rfl, ⟨[], by rfl⟩, by rfl⟩, ⟨⟨rfl, ⟨[], by rfl⟩, by rfl⟩, trivial⟩⟩
   ·
    exact Mach.ok_next (M := Zc a0 a1 a2 a3 a4 N) (cd := 1000000) (cm := 0) (y := (.h2m29 (false) (false) : law32_FifoFormsX)) (fu := 4000) (orc := (Zk [(1, false)] [] [] [] [])) (live := [0, 1]) (tv := fun _ => [some (vi a0), some (vi a1), some (vi a2), some (vp 0 0), some (vp 1 0), some (vf), some (vf), some (vi (4 : Int))]) (bl := [some (.cells [vn, vn, vn, vn] 23), some ZJ]) (ob := [((decide (a0 ≥ (0 : Int))), false)]) rfl (show 2 ∈ Zl (Zh 2) from by decide +kernel) (fun gv => by kernel_rfl) (oN Zf) rfl (by decide) (by rfl) (fun _ => ⟨rr, ⟨rr, ⟨rr, ⟨rr, ⟨rr, ⟨rr, ⟨rr, ⟨rr, trivial⟩⟩⟩⟩⟩⟩⟩⟩) ⟨⟨rfl, ⟨[], by rfl⟩, by rfl⟩, ⟨⟨rfl, ⟨[], by rfl⟩, by rfl⟩, trivial⟩⟩

theorem ZhC (a0 a1 a2 a3 a4 : Int) (v5 v6 v7 v8 : List RA) (N : Nat) : (Zc a0 a1 a2 a3 a4 N).Ok Tryz.prog Zo (.h2m24 v5 v6 v7 v8 : law32_FifoFormsX) (Zp a0 a1 a2 a3 a4 N (.h2m24 v5 v6 v7 v8 : law32_FifoFormsX)) := by
 show (Zc a0 a1 a2 a3 a4 N).Ok Tryz.prog Zo (.h2m24 v5 v6 v7 v8 : law32_FifoFormsX) (ZbF a0 a1 a2 a3 a4 N v5 v6 v7 v8)
 unfold ZbF
 refine Mach.ok_ite (fun g0 => ?_) (fun g0 => ?_)
 ·
  refine Mach.ok_ite (fun g1 => ?_) (fun g1 => ?_)
  ·
   refine Mach.ok_ite (fun g2 => ?_) (fun g2 => ?_)
   ·
    refine Mach.ok_ite (fun g3 => ?_) (fun g3 => ?_)
    ·
     refine Mach.ok_ite (fun g4 => ?_) (fun g4 => ?_)
     ·
      refine Mach.ok_ite (fun g5 => ?_) (fun g5 => ?_)
      ·
       refine Mach.ok_bind (fun z6 c6 => ?_)
       cases z6 with
       | r0 =>
        exact Mach.ok_fin (M := Zc a0 a1 a2 a3 a4 N) (cd := 1000000) (cm := 0) (r := (.r0 (true) : Zg)) (fu := 4000) (orc := (Zk [] [] [] [] [(0, (ZcZ     6))])) (live := []) (u := vT) (bl := []) (ob := [(dP (ZcD #[]     6), true)]) (fun gv => by kernel_rfl) (Zd (Zm (Zda #[]    N c6  6 rfl (by decide) (by decide))) Zf) rfl (by decide) (by rfl) rr trivial
      ·
       exact Mach.ok_none
     ·
      exact Mach.ok_none
    ·
     exact Mach.ok_none
   ·
    exact Mach.ok_none
  ·
   exact Mach.ok_none
 ·
  exact Mach.ok_none

theorem ZhD (a0 a1 a2 a3 a4 : Int) (v5 v6 v7 : List RA) (N : Nat) : (Zc a0 a1 a2 a3 a4 N).Ok Tryz.prog Zo (.h2m25 v5 v6 v7 : law32_FifoFormsX) (Zp a0 a1 a2 a3 a4 N (.h2m25 v5 v6 v7 : law32_FifoFormsX)) := by
 show (Zc a0 a1 a2 a3 a4 N).Ok Tryz.prog Zo (.h2m25 v5 v6 v7 : law32_FifoFormsX) (ZbG a0 a1 a2 a3 a4 N v5 v6 v7)
 unfold ZbG
 refine Mach.ok_ite (fun g0 => ?_) (fun g0 => ?_)
 ·
  refine Mach.ok_ite (fun g1 => ?_) (fun g1 => ?_)
  ·
   refine Mach.ok_ite (fun g2 => ?_) (fun g2 => ?_)
   ·
    refine Mach.ok_ite (fun g3 => ?_) (fun g3 => ?_)
    ·
     refine Mach.ok_bind (fun z4 c4 => ?_)
     cases z4 with
     | r0 =>
      exact Mach.ok_fin (M := Zc a0 a1 a2 a3 a4 N) (cd := 1000000) (cm := 0) (r := (.r0 (true) : Zg)) (fu := 4000) (orc := (Zk [] [] [] [] [(0, (ZcZ     5))])) (live := []) (u := vT) (bl := []) (ob := [(dP (ZcD #[]     5), true)]) (fun gv => by kernel_rfl) (Zd (Zm (Zda #[]    N c4  5 rfl (by decide) (by decide))) Zf) rfl (by decide) (by rfl) rr trivial
    ·
     exact Mach.ok_none
   ·
    exact Mach.ok_none
  ·
   exact Mach.ok_none
 ·
  exact Mach.ok_none

theorem ZhE (a0 a1 a2 a3 a4 : Int) (v5 v6 : List RA) (N : Nat) : (Zc a0 a1 a2 a3 a4 N).Ok Tryz.prog Zo (.h2m26 v5 v6 : law32_FifoFormsX) (Zp a0 a1 a2 a3 a4 N (.h2m26 v5 v6 : law32_FifoFormsX)) := by
 show (Zc a0 a1 a2 a3 a4 N).Ok Tryz.prog Zo (.h2m26 v5 v6 : law32_FifoFormsX) (ZbH a0 a1 a2 a3 a4 N v5 v6)
 unfold ZbH
 refine Mach.ok_ite (fun g0 => ?_) (fun g0 => ?_)
 ·
  refine Mach.ok_ite (fun g1 => ?_) (fun g1 => ?_)
  ·
   refine Mach.ok_ite (fun g2 => ?_) (fun g2 => ?_)
   ·
    refine Mach.ok_ite (fun g3 => ?_) (fun g3 => ?_)
    ·
     refine Mach.ok_bind (fun z4 c4 => ?_)
     cases z4 with
     | r0 =>
      exact Mach.ok_fin (M := Zc a0 a1 a2 a3 a4 N) (cd := 1000000) (cm := 0) (r := (.r0 (true) : Zg)) (fu := 4000) (orc := (Zk [] [] [] [] [(0, (ZcZ     4))])) (live := []) (u := vT) (bl := []) (ob := [(dP (ZcD #[]     4), true)]) (fun gv => by kernel_rfl) (Zd (Zm (Zda #[]    N c4  4 rfl (by decide) (by decide))) Zf) rfl (by decide) (by rfl) rr trivial
    ·
     exact Mach.ok_none
   ·
    exact Mach.ok_none
  ·
   exact Mach.ok_none
 ·
  exact Mach.ok_none

theorem ZhF (a0 a1 a2 a3 a4 : Int) (v5 v6 : List RA) (N : Nat) : (Zc a0 a1 a2 a3 a4 N).Ok Tryz.prog Zo (.h2m27 v5 v6 : law32_FifoFormsX) (Zp a0 a1 a2 a3 a4 N (.h2m27 v5 v6 : law32_FifoFormsX)) := by
 show (Zc a0 a1 a2 a3 a4 N).Ok Tryz.prog Zo (.h2m27 v5 v6 : law32_FifoFormsX) (ZbI a0 a1 a2 a3 a4 N v5 v6)
 unfold ZbI
 refine Mach.ok_ite (fun g0 => ?_) (fun g0 => ?_)
 ·
  refine Mach.ok_ite (fun g1 => ?_) (fun g1 => ?_)
  ·
   refine Mach.ok_ite (fun g2 => ?_) (fun g2 => ?_)
   ·
    refine Mach.ok_ite (fun g3 => ?_) (fun g3 => ?_)
    ·
     refine Mach.ok_ite (fun g4 => ?_) (fun g4 => ?_)
     ·
      refine Mach.ok_ite (fun g5 => ?_) (fun g5 => ?_)
      ·
       refine Mach.ok_bind (fun z6 c6 => ?_)
       cases z6 with
       | r0 =>
        exact Mach.ok_fin (M := Zc a0 a1 a2 a3 a4 N) (cd := 1000000) (cm := 0) (r := (.r0 (true) : Zg)) (fu := 4000) (orc := (Zk [] [] [] [] [(0, (ZcZ     4))])) (live := []) (u := vT) (bl := []) (ob := [(dP (ZcD #[]     4), true)]) (fun gv => by kernel_rfl) (Zd (Zm (Zda #[]    N c6  4 rfl (by decide) (by decide))) Zf) rfl (by decide) (by rfl) rr trivial
      ·
       exact Mach.ok_none
     ·
      exact Mach.ok_none
    ·
     exact Mach.ok_none
   ·
    exact Mach.ok_none
  ·
   exact Mach.ok_none
 ·
  exact Mach.ok_none

theorem ZhG (a0 a1 a2 a3 a4 : Int) (v4 : Bool) (v5 : List RA) (N : Nat) : (Zc a0 a1 a2 a3 a4 N).Ok Tryz.prog Zo (.h2m28 v4 v5 : law32_FifoFormsX) (Zp a0 a1 a2 a3 a4 N (.h2m28 v4 v5 : law32_FifoFormsX)) := by
 show (Zc a0 a1 a2 a3 a4 N).Ok Tryz.prog Zo (.h2m28 v4 v5 : law32_FifoFormsX) (ZbJ a0 a1 a2 a3 a4 N v4 v5)
 unfold ZbJ
 refine Mach.ok_ite (fun g0 => ?_) (fun g0 => ?_)
 ·
  refine Mach.ok_ite (fun g1 => ?_) (fun g1 => ?_)
  ·
   refine Mach.ok_ite (fun g2 => ?_) (fun g2 => ?_)
   ·
    refine Mach.ok_ite (fun g3 => ?_) (fun g3 => ?_)
    ·
     refine Mach.ok_bind (fun z4 c4 => ?_)
     cases z4 with
     | r0 =>
      exact Mach.ok_fin (M := Zc a0 a1 a2 a3 a4 N) (cd := 1000000) (cm := 0) (r := (.r0 (true) : Zg)) (fu := 4000) (orc := (Zk [] [] [] [] [(0, (ZcZ     3))])) (live := []) (u := vT) (bl := []) (ob := [(dP (ZcD #[]     3), true)]) (fun gv => by kernel_rfl) (Zd (Zm (Zda #[]    N c4  3 rfl (by decide) (by decide))) Zf) rfl (by decide) (by rfl) rr trivial
    ·
     exact Mach.ok_none
   ·
    exact Mach.ok_none
  ·
   exact Mach.ok_none
 ·
  exact Mach.ok_none

theorem ZhH (a0 a1 a2 a3 a4 : Int) (v3 v4 : Bool) (N : Nat) : (Zc a0 a1 a2 a3 a4 N).Ok Tryz.prog Zo (.h2m29 v3 v4 : law32_FifoFormsX) (Zp a0 a1 a2 a3 a4 N (.h2m29 v3 v4 : law32_FifoFormsX)) := by
 show (Zc a0 a1 a2 a3 a4 N).Ok Tryz.prog Zo (.h2m29 v3 v4 : law32_FifoFormsX) (ZbK a0 a1 a2 a3 a4 N v3 v4)
 unfold ZbK
 refine Mach.ok_bind (fun z0 c0 => ?_)
 cases z0 with
 | r0 =>
  exact Mach.ok_fin (M := Zc a0 a1 a2 a3 a4 N) (cd := 1000000) (cm := 0) (r := (.r0 (true) : Zg)) (fu := 4000) (orc := (Zk [] [] [] [] [(0, (ZcZ     2))])) (live := []) (u := vT) (bl := []) (ob := [(dP (ZcD #[]     2), true)]) (fun gv => by kernel_rfl) (Zd (Zm (Zda #[]    N c0  2 rfl (by decide) (by decide))) Zf) rfl (by decide) (by rfl) rr trivial

theorem Zkr (a0 a1 a2 a3 a4 : Int) (N : Nat) : (Zc a0 a1 a2 a3 a4 N).Enter Tryz.prog Zo #[vi a0, vi a1, vi a2, vi a3, vi a4] (Zag a0 a1 a2 a3 a4 N) := by
 unfold Zag
 refine Mach.en_bind (fun z0 c0 => ?_)
 cases z0 with
 | r0 y0_0 =>
  refine Mach.en_bind (fun z1 c1 => ?_)
  cases z1 with
  | r0 y1_0 =>
   refine Mach.en_bind (fun z2 c2 => ?_)
   cases z2 with
   | r0 y2_0 =>
    refine Mach.en_bind (fun z3 c3 => ?_)
    cases z3 with
    | r0 y3_0 =>
     exact Mach.en_cut (bK := Zj 1) (M := Zc a0 a1 a2 a3 a4 N) (cd := 0) (cm := 6) (y := (.h1m0 (y0_0) (y1_0) (y2_0) (y3_0) : law32_FifoFormsX)) (fu := 4000) (orc := (Zk [] [] [] [] [(0, (Zmd (a0) (a1) (a3) (a4)  y0_0  2)), (3, (ZdO (a0) (a1)  y1_0  3)), (6, (Zg4 (a0) (a1) (a3)  y2_0  4)), (9, (Zhw (a0) (a1) (a2) (a4)  y3_0  5))])) (live := [0, 1, 2, 3, 4, 5]) (tv := [some (vi a0), some (vi a1), some (vi a2), some (vi a3), some (vi a4), some (vp 0 0), some (vp 1 0)]) (bl := [some (.cells [vs 2 0 y0_0.length y0_0.length, vs 3 0 y1_0.length y1_0.length, vs 4 0 y2_0.length y2_0.length, vs 5 0 y3_0.length y3_0.length] 23), some (.cells [vq, vq, vq, vq] 25), some (.cells (Ze Zb y0_0) 57), some (.cells (Ze Zb y1_0) 57), some (.cells (Ze Zb y2_0) 57), some (.cells (Ze Zb y3_0) 57)]) (ob := [(dP (ZfO #[vi a0, vi a1, vi a2, vi a4] (a0) (a1) (a2) (a4)  y3_0  5), true), (dP (Zfz #[vi a0, vi a1, vi a3] (a0) (a1) (a3)  y2_0  4), true), (dP (Zdq #[vi a0, vi a1] (a0) (a1)  y1_0  3), true), (dP (ZiU #[vi a0, vi a1, vi a3, vi a4] (a0) (a1) (a3) (a4)  y0_0  2), true)]) rfl rfl (show Zl (Zj 1).2 = [] from rfl) (by kernel_rfl) (Zd (Zm (Zhx #[vi a0, vi a1, vi a2, vi a4] (a0) (a1) (a2) (a4)  y3_0 N c3  5 rfl (by decide) (by decide))) <| Zd (Zm (Zg5 #[vi a0, vi a1, vi a3] (a0) (a1) (a3)  y2_0 N c2  4 rfl (by decide) (by decide))) <| Zd (Zm (ZdP #[vi a0, vi a1] (a0) (a1)  y1_0 N c1  3 rfl (by decide) (by decide))) <| Zd (Zm (Zme #[vi a0, vi a1, vi a3, vi a4] (a0) (a1) (a3) (a4)  y0_0 N c0  2 rfl (by decide) (by decide))) Zf) rfl (by decide) (by rfl) ⟨rr, ⟨rr, ⟨rr, ⟨rr, ⟨rr, ⟨rr, ⟨rr, trivial⟩⟩⟩⟩⟩⟩⟩ ⟨⟨rfl, ⟨[], by rfl⟩, by rfl⟩, ⟨⟨rfl, ⟨[], by rfl⟩, by rfl⟩, ⟨(Zi (E := Zb) (α := RA) _ y0_0 _), ⟨(Zi (E := Zb) (α := RA) _ y1_0 _), ⟨(Zi (E := Zb) (α := RA) _ y2_0 _), ⟨(Zi (E := Zb) (α := RA) _ y3_0 _), trivial⟩⟩⟩⟩⟩⟩
    | r1 =>
     exact Mach.en_cut (bK := Zj 1) (M := Zc a0 a1 a2 a3 a4 N) (cd := 0) (cm := 6) (y := (.h1m1 (y0_0) (y1_0) (y2_0) : law32_FifoFormsX)) (fu := 4000) (orc := (Zk [] [] [] [] [(0, (Zmd (a0) (a1) (a3) (a4)  y0_0  2)), (3, (ZdO (a0) (a1)  y1_0  3)), (6, (Zg4 (a0) (a1) (a3)  y2_0  4)), (9, (ZfP (a0) (a1) (a2) (a4)    5))])) (live := [0, 1, 2, 3, 4]) (tv := [some (vi a0), some (vi a1), some (vi a2), some (vi a3), some (vi a4), some (vp 0 0), some (vp 1 0)]) (bl := [some (.cells [vs 2 0 y0_0.length y0_0.length, vs 3 0 y1_0.length y1_0.length, vs 4 0 y2_0.length y2_0.length, vn] 23), some (.cells [vq, vq, vq, vi (240 : Int)] 25), some (.cells (Ze Zb y0_0) 57), some (.cells (Ze Zb y1_0) 57), some (.cells (Ze Zb y2_0) 57)]) (ob := [(dP (ZeA #[vi a0, vi a1, vi a2, vi a4] (a0) (a1) (a2) (a4)    5), true), (dP (Zfz #[vi a0, vi a1, vi a3] (a0) (a1) (a3)  y2_0  4), true), (dP (Zdq #[vi a0, vi a1] (a0) (a1)  y1_0  3), true), (dP (ZiU #[vi a0, vi a1, vi a3, vi a4] (a0) (a1) (a3) (a4)  y0_0  2), true)]) rfl rfl (show Zl (Zj 1).2 = [] from rfl) (by kernel_rfl) (Zd (Zm (ZfQ #[vi a0, vi a1, vi a2, vi a4] (a0) (a1) (a2) (a4)   N c3  5 rfl (by decide) (by decide))) <| Zd (Zm (Zg5 #[vi a0, vi a1, vi a3] (a0) (a1) (a3)  y2_0 N c2  4 rfl (by decide) (by decide))) <| Zd (Zm (ZdP #[vi a0, vi a1] (a0) (a1)  y1_0 N c1  3 rfl (by decide) (by decide))) <| Zd (Zm (Zme #[vi a0, vi a1, vi a3, vi a4] (a0) (a1) (a3) (a4)  y0_0 N c0  2 rfl (by decide) (by decide))) Zf) rfl (by decide) (by rfl) ⟨rr, ⟨rr, ⟨rr, ⟨rr, ⟨rr, ⟨rr, ⟨rr, trivial⟩⟩⟩⟩⟩⟩⟩ ⟨⟨rfl, ⟨[], by rfl⟩, by rfl⟩, ⟨⟨rfl, ⟨[], by rfl⟩, by rfl⟩, ⟨(Zi (E := Zb) (α := RA) _ y0_0 _), ⟨(Zi (E := Zb) (α := RA) _ y1_0 _), ⟨(Zi (E := Zb) (α := RA) _ y2_0 _), trivial⟩⟩⟩⟩⟩
   | r1 =>
    exact Mach.en_none
  | r1 =>
   exact Mach.en_none
 | r1 =>
  refine Mach.en_bind (fun z1 c1 => ?_)
  cases z1 with
  | r0 y1_0 =>
   refine Mach.en_bind (fun z2 c2 => ?_)
   cases z2 with
   | r0 y2_0 =>
    refine Mach.en_bind (fun z3 c3 => ?_)
    cases z3 with
    | r0 y3_0 =>
     exact Mach.en_cut (bK := Zj 1) (M := Zc a0 a1 a2 a3 a4 N) (cd := 0) (cm := 6) (y := (.h1m2 (y1_0) (y2_0) (y3_0) : law32_FifoFormsX)) (fu := 4000) (orc := (Zk [] [] [] [] [(0, (Zfx (a0) (a1) (a3) (a4)    2)), (3, (ZdO (a0) (a1)  y1_0  2)), (6, (Zg4 (a0) (a1) (a3)  y2_0  3)), (9, (Zhw (a0) (a1) (a2) (a4)  y3_0  4))])) (live := [0, 1, 2, 3, 4]) (tv := [some (vi a0), some (vi a1), some (vi a2), some (vi a3), some (vi a4), some (vp 0 0), some (vp 1 0)]) (bl := [some (.cells [vn, vs 2 0 y1_0.length y1_0.length, vs 3 0 y2_0.length y2_0.length, vs 4 0 y3_0.length y3_0.length] 23), some (.cells [vi (240 : Int), vq, vq, vq] 25), some (.cells (Ze Zb y1_0) 57), some (.cells (Ze Zb y2_0) 57), some (.cells (Ze Zb y3_0) 57)]) (ob := [(dP (ZfO #[vi a0, vi a1, vi a2, vi a4] (a0) (a1) (a2) (a4)  y3_0  4), true), (dP (Zfz #[vi a0, vi a1, vi a3] (a0) (a1) (a3)  y2_0  3), true), (dP (Zdq #[vi a0, vi a1] (a0) (a1)  y1_0  2), true), (dP (Zet #[vi a0, vi a1, vi a3, vi a4] (a0) (a1) (a3) (a4)    2), true)]) rfl rfl (show Zl (Zj 1).2 = [] from rfl) (by kernel_rfl) (Zd (Zm (Zhx #[vi a0, vi a1, vi a2, vi a4] (a0) (a1) (a2) (a4)  y3_0 N c3  4 rfl (by decide) (by decide))) <| Zd (Zm (Zg5 #[vi a0, vi a1, vi a3] (a0) (a1) (a3)  y2_0 N c2  3 rfl (by decide) (by decide))) <| Zd (Zm (ZdP #[vi a0, vi a1] (a0) (a1)  y1_0 N c1  2 rfl (by decide) (by decide))) <| Zd (Zm (Zfy #[vi a0, vi a1, vi a3, vi a4] (a0) (a1) (a3) (a4)   N c0  2 rfl (by decide) (by decide))) Zf) rfl (by decide) (by rfl) ⟨rr, ⟨rr, ⟨rr, ⟨rr, ⟨rr, ⟨rr, ⟨rr, trivial⟩⟩⟩⟩⟩⟩⟩ ⟨⟨rfl, ⟨[], by rfl⟩, by rfl⟩, ⟨⟨rfl, ⟨[], by rfl⟩, by rfl⟩, ⟨(Zi (E := Zb) (α := RA) _ y1_0 _), ⟨(Zi (E := Zb) (α := RA) _ y2_0 _), ⟨(Zi (E := Zb) (α := RA) _ y3_0 _), trivial⟩⟩⟩⟩⟩
    | r1 =>
     exact Mach.en_cut (bK := Zj 1) (M := Zc a0 a1 a2 a3 a4 N) (cd := 0) (cm := 6) (y := (.h1m3 (y1_0) (y2_0) : law32_FifoFormsX)) (fu := 4000) (orc := (Zk [] [] [] [] [(0, (Zfx (a0) (a1) (a3) (a4)    2)), (3, (ZdO (a0) (a1)  y1_0  2)), (6, (Zg4 (a0) (a1) (a3)  y2_0  3)), (9, (ZfP (a0) (a1) (a2) (a4)    4))])) (live := [0, 1, 2, 3]) (tv := [some (vi a0), some (vi a1), some (vi a2), some (vi a3), some (vi a4), some (vp 0 0), some (vp 1 0)]) (bl := [some (.cells [vn, vs 2 0 y1_0.length y1_0.length, vs 3 0 y2_0.length y2_0.length, vn] 23), some (.cells [vi (240 : Int), vq, vq, vi (240 : Int)] 25), some (.cells (Ze Zb y1_0) 57), some (.cells (Ze Zb y2_0) 57)]) (ob := [(dP (ZeA #[vi a0, vi a1, vi a2, vi a4] (a0) (a1) (a2) (a4)    4), true), (dP (Zfz #[vi a0, vi a1, vi a3] (a0) (a1) (a3)  y2_0  3), true), (dP (Zdq #[vi a0, vi a1] (a0) (a1)  y1_0  2), true), (dP (Zet #[vi a0, vi a1, vi a3, vi a4] (a0) (a1) (a3) (a4)    2), true)]) rfl rfl (show Zl (Zj 1).2 = [] from rfl) (by kernel_rfl) (Zd (Zm (ZfQ #[vi a0, vi a1, vi a2, vi a4] (a0) (a1) (a2) (a4)   N c3  4 rfl (by decide) (by decide))) <| Zd (Zm (Zg5 #[vi a0, vi a1, vi a3] (a0) (a1) (a3)  y2_0 N c2  3 rfl (by decide) (by decide))) <| Zd (Zm (ZdP #[vi a0, vi a1] (a0) (a1)  y1_0 N c1  2 rfl (by decide) (by decide))) <| Zd (Zm (Zfy #[vi a0, vi a1, vi a3, vi a4] (a0) (a1) (a3) (a4)   N c0  2 rfl (by decide) (by decide))) Zf) rfl (by decide) (by rfl) ⟨rr, ⟨rr, ⟨rr, ⟨rr, ⟨rr, ⟨rr, ⟨rr, trivial⟩⟩⟩⟩⟩⟩⟩ ⟨⟨rfl, ⟨[], by rfl⟩, by rfl⟩, ⟨⟨rfl, ⟨[], by rfl⟩, by rfl⟩, ⟨(Zi (E := Zb) (α := RA) _ y1_0 _), ⟨(Zi (E := Zb) (α := RA) _ y2_0 _), trivial⟩⟩⟩⟩
   | r1 =>
    refine Mach.en_bind (fun z3 c3 => ?_)
    cases z3 with
    | r0 y3_0 =>
     exact Mach.en_cut (bK := Zj 1) (M := Zc a0 a1 a2 a3 a4 N) (cd := 0) (cm := 6) (y := (.h1m4 (y1_0) (y3_0) : law32_FifoFormsX)) (fu := 4000) (orc := (Zk [] [] [] [] [(0, (Zfx (a0) (a1) (a3) (a4)    2)), (3, (ZdO (a0) (a1)  y1_0  2)), (6, (ZiV (a0) (a1) (a3)    3)), (9, (Zhw (a0) (a1) (a2) (a4)  y3_0  3))])) (live := [0, 1, 2, 3]) (tv := [some (vi a0), some (vi a1), some (vi a2), some (vi a3), some (vi a4), some (vp 0 0), some (vp 1 0)]) (bl := [some (.cells [vn, vs 2 0 y1_0.length y1_0.length, vn, vs 3 0 y3_0.length y3_0.length] 23), some (.cells [vi (240 : Int), vq, vi (240 : Int), vq] 25), some (.cells (Ze Zb y1_0) 57), some (.cells (Ze Zb y3_0) 57)]) (ob := [(dP (ZfO #[vi a0, vi a1, vi a2, vi a4] (a0) (a1) (a2) (a4)  y3_0  3), true), (dP (Zg6 #[vi a0, vi a1, vi a3] (a0) (a1) (a3)    3), true), (dP (Zdq #[vi a0, vi a1] (a0) (a1)  y1_0  2), true), (dP (Zet #[vi a0, vi a1, vi a3, vi a4] (a0) (a1) (a3) (a4)    2), true)]) rfl rfl (show Zl (Zj 1).2 = [] from rfl) (by kernel_rfl) (Zd (Zm (Zhx #[vi a0, vi a1, vi a2, vi a4] (a0) (a1) (a2) (a4)  y3_0 N c3  3 rfl (by decide) (by decide))) <| Zd (Zm (ZiW #[vi a0, vi a1, vi a3] (a0) (a1) (a3)   N c2  3 rfl (by decide) (by decide))) <| Zd (Zm (ZdP #[vi a0, vi a1] (a0) (a1)  y1_0 N c1  2 rfl (by decide) (by decide))) <| Zd (Zm (Zfy #[vi a0, vi a1, vi a3, vi a4] (a0) (a1) (a3) (a4)   N c0  2 rfl (by decide) (by decide))) Zf) rfl (by decide) (by rfl) ⟨rr, ⟨rr, ⟨rr, ⟨rr, ⟨rr, ⟨rr, ⟨rr, trivial⟩⟩⟩⟩⟩⟩⟩ ⟨⟨rfl, ⟨[], by rfl⟩, by rfl⟩, ⟨⟨rfl, ⟨[], by rfl⟩, by rfl⟩, ⟨(Zi (E := Zb) (α := RA) _ y1_0 _), ⟨(Zi (E := Zb) (α := RA) _ y3_0 _), trivial⟩⟩⟩⟩
    | r1 =>
     exact Mach.en_cut (bK := Zj 1) (M := Zc a0 a1 a2 a3 a4 N) (cd := 0) (cm := 6) (y := (.h1m5 (y1_0) : law32_FifoFormsX)) (fu := 4000) (orc := (Zk [] [] [] [] [(0, (Zfx (a0) (a1) (a3) (a4)    2)), (3, (ZdO (a0) (a1)  y1_0  2)), (6, (ZiV (a0) (a1) (a3)    3)), (9, (ZfP (a0) (a1) (a2) (a4)    3))])) (live := [0, 1, 2]) (tv := [some (vi a0), some (vi a1), some (vi a2), some (vi a3), some (vi a4), some (vp 0 0), some (vp 1 0)]) (bl := [some (.cells [vn, vs 2 0 y1_0.length y1_0.length, vn, vn] 23), some (.cells [vi (240 : Int), vq, vi (240 : Int), vi (240 : Int)] 25), some (.cells (Ze Zb y1_0) 57)]) (ob := [(dP (ZeA #[vi a0, vi a1, vi a2, vi a4] (a0) (a1) (a2) (a4)    3), true), (dP (Zg6 #[vi a0, vi a1, vi a3] (a0) (a1) (a3)    3), true), (dP (Zdq #[vi a0, vi a1] (a0) (a1)  y1_0  2), true), (dP (Zet #[vi a0, vi a1, vi a3, vi a4] (a0) (a1) (a3) (a4)    2), true)]) rfl rfl (show Zl (Zj 1).2 = [] from rfl) (by kernel_rfl) (Zd (Zm (ZfQ #[vi a0, vi a1, vi a2, vi a4] (a0) (a1) (a2) (a4)   N c3  3 rfl (by decide) (by decide))) <| Zd (Zm (ZiW #[vi a0, vi a1, vi a3] (a0) (a1) (a3)   N c2  3 rfl (by decide) (by decide))) <| Zd (Zm (ZdP #[vi a0, vi a1] (a0) (a1)  y1_0 N c1  2 rfl (by decide) (by decide))) <| Zd (Zm (Zfy #[vi a0, vi a1, vi a3, vi a4] (a0) (a1) (a3) (a4)   N c0  2 rfl (by decide) (by decide))) Zf) rfl (by decide) (by rfl) ⟨rr, ⟨rr, ⟨rr, ⟨rr, ⟨rr, ⟨rr, ⟨rr, trivial⟩⟩⟩⟩⟩⟩⟩ ⟨⟨rfl, ⟨[], by rfl⟩, by rfl⟩, ⟨⟨rfl, ⟨[], by rfl⟩, by rfl⟩, ⟨(Zi (E := Zb) (α := RA) _ y1_0 _), trivial⟩⟩⟩
  | r1 =>
   refine Mach.en_bind (fun z2 c2 => ?_)
   cases z2 with
   | r0 _ =>
    exact Mach.en_none
   | r1 =>
    refine Mach.en_bind (fun z3 c3 => ?_)
    cases z3 with
    | r0 _ =>
     exact Mach.en_none
    | r1 =>
     exact Mach.en_cut (bK := Zj 1) (M := Zc a0 a1 a2 a3 a4 N) (cd := 0) (cm := 6) (y := (.h1m6 : law32_FifoFormsX)) (fu := 4000) (orc := (Zk [] [] [] [] [(0, (Zfx (a0) (a1) (a3) (a4)    2)), (3, (Zp6 (a0) (a1)    2)), (6, (ZiV (a0) (a1) (a3)    2)), (9, (ZfP (a0) (a1) (a2) (a4)    2))])) (live := [0, 1]) (tv := [some (vi a0), some (vi a1), some (vi a2), some (vi a3), some (vi a4), some (vp 0 0), some (vp 1 0)]) (bl := [some (.cells [vn, vn, vn, vn] 23), some ZJ]) (ob := [(dP (ZeA #[vi a0, vi a1, vi a2, vi a4] (a0) (a1) (a2) (a4)    2), true), (dP (Zg6 #[vi a0, vi a1, vi a3] (a0) (a1) (a3)    2), true), (dP (ZkS #[vi a0, vi a1] (a0) (a1)    2), true), (dP (Zet #[vi a0, vi a1, vi a3, vi a4] (a0) (a1) (a3) (a4)    2), true)]) rfl rfl (show Zl (Zj 1).2 = [] from rfl) (by kernel_rfl) (Zd (Zm (ZfQ #[vi a0, vi a1, vi a2, vi a4] (a0) (a1) (a2) (a4)   N c3  2 rfl (by decide) (by decide))) <| Zd (Zm (ZiW #[vi a0, vi a1, vi a3] (a0) (a1) (a3)   N c2  2 rfl (by decide) (by decide))) <| Zd (Zm (Zp7 #[vi a0, vi a1] (a0) (a1)   N c1  2 rfl (by decide) (by decide))) <| Zd (Zm (Zfy #[vi a0, vi a1, vi a3, vi a4] (a0) (a1) (a3) (a4)   N c0  2 rfl (by decide) (by decide))) Zf) rfl (by decide) (by rfl) ⟨rr, ⟨rr, ⟨rr, ⟨rr, ⟨rr, ⟨rr, ⟨rr, trivial⟩⟩⟩⟩⟩⟩⟩ ⟨⟨rfl, ⟨[], by rfl⟩, by rfl⟩, ⟨⟨rfl, ⟨[], by rfl⟩, by rfl⟩, trivial⟩⟩

theorem ZiX (a0 a1 a2 a3 a4 : Int) (N : Nat) (r : Zg) (h : Zbr a0 a1 a2 a3 a4 N = some r) : LSpec Tryz.prog 3 #[vi a0, vi a1, vi a2, vi a3, vi a4] [] (ZgX a0 a1 a2 a3 a4 r) (Zgt a0 a1 a2 a3 a4 r) :=
 Mach.spec ZaV (Zc a0 a1 a2 a3 a4 N) Tryz.func3 (by kernel_rfl) (by kernel_rfl) (fun x => by cases x <;> exact Zay _ rfl) (fun r => by cases r <;> exact Zay _ rfl) (fun x => by
  cases x with
  | h1m0 _ _ _ _ => exact fun _ => (show ¬ (1 ∈ Zl (Zj 1).2) from by decide +kernel)
  | h1m1 _ _ _ => exact fun _ => (show ¬ (1 ∈ Zl (Zj 1).2) from by decide +kernel)
  | h1m2 _ _ _ => exact fun _ => (show ¬ (1 ∈ Zl (Zj 1).2) from by decide +kernel)
  | h1m3 _ _ => exact fun _ => (show ¬ (1 ∈ Zl (Zj 1).2) from by decide +kernel)
  | h1m4 _ _ => exact fun _ => (show ¬ (1 ∈ Zl (Zj 1).2) from by decide +kernel)
  | h1m5 _ => exact fun _ => (show ¬ (1 ∈ Zl (Zj 1).2) from by decide +kernel)
  | h1m6 => exact fun _ => (show ¬ (1 ∈ Zl (Zj 1).2) from by decide +kernel)
  | h2m0 _ _ _ _ => exact fun _ => (show ¬ (2 ∈ Zl (Zj 2).2) from by decide +kernel)
  | h2m1 _ _ _ => exact fun _ => (show ¬ (2 ∈ Zl (Zj 2).2) from by decide +kernel)
  | h2m2 _ _ _ => exact fun _ => (show ¬ (2 ∈ Zl (Zj 2).2) from by decide +kernel)
  | h2m3 _ _ _ => exact fun _ => (show ¬ (2 ∈ Zl (Zj 2).2) from by decide +kernel)
  | h2m4 _ _ _ => exact fun _ => (show ¬ (2 ∈ Zl (Zj 2).2) from by decide +kernel)
  | h2m5 _ _ => exact fun _ => (show ¬ (2 ∈ Zl (Zj 2).2) from by decide +kernel)
  | h2m6 _ _ _ _ => exact fun _ => (show ¬ (2 ∈ Zl (Zj 2).2) from by decide +kernel)
  | h2m7 _ _ _ => exact fun _ => (show ¬ (2 ∈ Zl (Zj 2).2) from by decide +kernel)
  | h2m8 _ _ => exact fun _ => (show ¬ (2 ∈ Zl (Zj 2).2) from by decide +kernel)
  | h2m9 _ _ => exact fun _ => (show ¬ (2 ∈ Zl (Zj 2).2) from by decide +kernel)
  | h2m10 _ _ => exact fun _ => (show ¬ (2 ∈ Zl (Zj 2).2) from by decide +kernel)
  | h2m11 _ _ => exact fun _ => (show ¬ (2 ∈ Zl (Zj 2).2) from by decide +kernel)
  | h2m12 _ _ _ _ => exact fun _ => (show ¬ (2 ∈ Zl (Zj 2).2) from by decide +kernel)
  | h2m13 _ _ _ => exact fun _ => (show ¬ (2 ∈ Zl (Zj 2).2) from by decide +kernel)
  | h2m14 _ _ => exact fun _ => (show ¬ (2 ∈ Zl (Zj 2).2) from by decide +kernel)
  | h2m15 _ _ => exact fun _ => (show ¬ (2 ∈ Zl (Zj 2).2) from by decide +kernel)
  | h2m16 _ _ => exact fun _ => (show ¬ (2 ∈ Zl (Zj 2).2) from by decide +kernel)
  | h2m17 _ _ => exact fun _ => (show ¬ (2 ∈ Zl (Zj 2).2) from by decide +kernel)
  | h2m18 _ _ _ _ => exact fun _ => (show ¬ (2 ∈ Zl (Zj 2).2) from by decide +kernel)
  | h2m19 _ _ _ => exact fun _ => (show ¬ (2 ∈ Zl (Zj 2).2) from by decide +kernel)
  | h2m20 _ _ => exact fun _ => (show ¬ (2 ∈ Zl (Zj 2).2) from by decide +kernel)
  | h2m21 _ _ => exact fun _ => (show ¬ (2 ∈ Zl (Zj 2).2) from by decide +kernel)
  | h2m22 _ _ => exact fun _ => (show ¬ (2 ∈ Zl (Zj 2).2) from by decide +kernel)
  | h2m23 _ _ => exact fun _ => (show ¬ (2 ∈ Zl (Zj 2).2) from by decide +kernel)
  | h2m24 _ _ _ _ => exact fun _ => (show ¬ (2 ∈ Zl (Zj 2).2) from by decide +kernel)
  | h2m25 _ _ _ => exact fun _ => (show ¬ (2 ∈ Zl (Zj 2).2) from by decide +kernel)
  | h2m26 _ _ => exact fun _ => (show ¬ (2 ∈ Zl (Zj 2).2) from by decide +kernel)
  | h2m27 _ _ => exact fun _ => (show ¬ (2 ∈ Zl (Zj 2).2) from by decide +kernel)
  | h2m28 _ _ => exact fun _ => (show ¬ (2 ∈ Zl (Zj 2).2) from by decide +kernel)
  | h2m29 _ _ => exact fun _ => (show ¬ (2 ∈ Zl (Zj 2).2) from by decide +kernel)
  ) (fun x => (show (Zc a0 a1 a2 a3 a4 N).Ok Tryz.prog Zo x (Zp a0 a1 a2 a3 a4 N x) from by
  cases x with
  | h1m0 v5 v6 v7 v8 => exact Ziq a0 a1 a2 a3 a4 v5 v6 v7 v8 N
  | h1m1 v5 v6 v7 => exact Zir a0 a1 a2 a3 a4 v5 v6 v7 N
  | h1m2 v5 v6 v7 => exact Zis a0 a1 a2 a3 a4 v5 v6 v7 N
  | h1m3 v5 v6 => exact Zit a0 a1 a2 a3 a4 v5 v6 N
  | h1m4 v5 v6 => exact Ziu a0 a1 a2 a3 a4 v5 v6 N
  | h1m5 v5 => exact Ziv a0 a1 a2 a3 a4 v5 N
  | h1m6 => exact Ziw a0 a1 a2 a3 a4 N
  | h2m0 v5 v6 v7 v8 => exact Zix a0 a1 a2 a3 a4 v5 v6 v7 v8 N
  | h2m1 v5 v6 v7 => exact Ziy a0 a1 a2 a3 a4 v5 v6 v7 N
  | h2m2 v4 v5 v6 => exact Ziz a0 a1 a2 a3 a4 v4 v5 v6 N
  | h2m3 v3 v5 v6 => exact Zi0 a0 a1 a2 a3 a4 v3 v5 v6 N
  | h2m4 v3 v4 v5 => exact Zi1 a0 a1 a2 a3 a4 v3 v4 v5 N
  | h2m5 v3 v4 => exact Zi2 a0 a1 a2 a3 a4 v3 v4 N
  | h2m6 v5 v6 v7 v8 => exact Zi3 a0 a1 a2 a3 a4 v5 v6 v7 v8 N
  | h2m7 v5 v6 v7 => exact Zi4 a0 a1 a2 a3 a4 v5 v6 v7 N
  | h2m8 v5 v6 => exact Zi5 a0 a1 a2 a3 a4 v5 v6 N
  | h2m9 v5 v6 => exact Zi6 a0 a1 a2 a3 a4 v5 v6 N
  | h2m10 v4 v5 => exact Zhy a0 a1 a2 a3 a4 v4 v5 N
  | h2m11 v3 v4 => exact Zhz a0 a1 a2 a3 a4 v3 v4 N
  | h2m12 v5 v6 v7 v8 => exact Zh0 a0 a1 a2 a3 a4 v5 v6 v7 v8 N
  | h2m13 v5 v6 v7 => exact Zh1 a0 a1 a2 a3 a4 v5 v6 v7 N
  | h2m14 v5 v6 => exact Zh2 a0 a1 a2 a3 a4 v5 v6 N
  | h2m15 v5 v6 => exact Zh3 a0 a1 a2 a3 a4 v5 v6 N
  | h2m16 v4 v5 => exact Zh4 a0 a1 a2 a3 a4 v4 v5 N
  | h2m17 v3 v4 => exact Zh5 a0 a1 a2 a3 a4 v3 v4 N
  | h2m18 v5 v6 v7 v8 => exact Zh6 a0 a1 a2 a3 a4 v5 v6 v7 v8 N
  | h2m19 v5 v6 v7 => exact Zh7 a0 a1 a2 a3 a4 v5 v6 v7 N
  | h2m20 v5 v6 => exact Zh8 a0 a1 a2 a3 a4 v5 v6 N
  | h2m21 v5 v6 => exact Zh9 a0 a1 a2 a3 a4 v5 v6 N
  | h2m22 v4 v5 => exact ZhA a0 a1 a2 a3 a4 v4 v5 N
  | h2m23 v3 v4 => exact ZhB a0 a1 a2 a3 a4 v3 v4 N
  | h2m24 v5 v6 v7 v8 => exact ZhC a0 a1 a2 a3 a4 v5 v6 v7 v8 N
  | h2m25 v5 v6 v7 => exact ZhD a0 a1 a2 a3 a4 v5 v6 v7 N
  | h2m26 v5 v6 => exact ZhE a0 a1 a2 a3 a4 v5 v6 N
  | h2m27 v5 v6 => exact ZhF a0 a1 a2 a3 a4 v5 v6 N
  | h2m28 v4 v5 => exact ZhG a0 a1 a2 a3 a4 v4 v5 N
  | h2m29 v3 v4 => exact ZhH a0 a1 a2 a3 a4 v3 v4 N
  )) (Zkr a0 a1 a2 a3 a4 N) (n := N) h

end Ev
end Go.Proofs.YtpfmkkookmofcaaGreat
/- Plain lemmas: machines step by step, lists by their places. -/
namespace Go.Proofs.YtpfmkkookmofcaaGreat
open Go.RowKit
namespace Ev
section
variable {X R : Type} {step : X → Option (X ⊕ R)} {n : Nat} {x y : X} {r : R}
theorem Zar (h : step x = some (.inl y)) : Zc8 step (n + 1) x = Zc8 step n y := by simp [Zc8, h]
theorem Zef (h : step x = some (.inr r)) : Zc8 step (n + 1) x = some r := by simp [Zc8, h]
theorem Zd6 {o : Option (X ⊕ R)} (h : o = some (.inl x)) : goM step n o = Zc8 step n x := by subst h; rfl
end
section
variable {α : Type}
theorem Zsf {n i : Nat} {v d : α} (h : i < n) : (List.replicate n v).getD i d = v := by simp [h]
theorem ZnC {L M : List α} {i : Nat} {d : α} (h : i < L.length) : (L ++ M).getD i d = L.getD i d := by simp [List.getElem?_append_left h]
end
theorem Zrt {α : Type} {c : Prop} [Decidable c] {a b r : α} (h1 : c → a = r) (h2 : ¬ c → b = r) : (if c then a else b) = r := by
 by_cases h : c
 ·rw [if_pos h]; exact h1 h
 ·rw [if_neg h]; exact h2 h
theorem Z3 {α : Type} {c : Prop} [Decidable c] {a b r : α} (h : c) (e : a = r) : (if c then a else b) = r := by rw [if_pos h]; exact e
theorem ZE {α : Type} {c : Prop} [Decidable c] {a b r : α} (h : ¬ c) (e : b = r) : (if c then a else b) = r := by rw [if_neg h]; exact e
theorem ZZ {α β : Type} {o : Option α} {a : α} {k : α → Option β} {r : Option β} (h : o = some a) (e : k a = r) : o.bind k = r := by rw [h]; exact e
theorem w64 {x : Int} (h1 : -9223372036854775808 ≤ x) (h2 : x ≤ 9223372036854775807) : IntKind.i64.wrap x = x := wrap_i64 ⟨h1, h2⟩
end Ev
end Go.Proofs.YtpfmkkookmofcaaGreat
/- The ways that are open, by the document's words: plain. -/
namespace Go.Proofs.YtpfmkkookmofcaaGreat
open Go.RowKit
namespace Ev
namespace Pc
set_option linter.unusedVariables false
set_option linter.unusedSimpArgs false
def ZdI (l : List R_ii) : R_ii := l.getD (l.length - 1) R_ii.z
def brP (l : List R_ii) : R_ii := if l.length = 0 then ⟨-1, 0⟩ else ZdI l
def Zc3 (l : List R_ii) (op : Int) (k : Nat) : List R_ii :=
 if op = 15 then if 8 ≤ l.length then l else l ++ [⟨(k : Int), 0⟩]
 else if op = 16 then if l.length = 0 then l else if (ZdI l).a1 = 1 then l else l.take (l.length - 1) ++ [⟨(ZdI l).a0, 1⟩]
 else if op = 17 then l.take (l.length - 1) else l
def ZfR (l : List R_ii) (op : Int) : Bool :=
 if op = 15 then decide (l.length < 8)
 else if op = 16 then if l.length = 0 then false else if (ZdI l).a1 = 1 then false else true
 else if op = 17 then decide (0 < l.length)
 else if op = 18 then decide (0 < l.length)
 else if op = 20 then decide (l.length = 0) else true
def opn (L : List RA) : Nat → List R_ii
 | 0 => []
 | k + 1 => Zc3 (opn L k) (L.getD k RA.z).a0 k
theorem Zru {l : List R_ii} {op : Int} {k : Nat} (h : l.length ≤ 8) : (Zc3 l op k).length ≤ 8 := by
 unfold Zc3
 repeat' split
 all_goals try simp only [List.length_append, List.length_take, List.length_cons, List.length_nil]
 all_goals omega
theorem Zk6 (L : List RA) : ∀ k, (opn L k).length ≤ 8
 | 0 => by simp [opn]
 | k + 1 => Zru (Zk6 L k)
theorem ZqE (op a1 a2 a3 : Int) (k : Nat) (N : Nat) : ZcE op a1 a2 a3 (k : Int) N = if op = 15 then some .r0 else some (.r1 (ZfR [] op)) := by
 unfold ZcE ZfR
 by_cases h15 : op = 15
 ·rw [if_pos h15, if_pos h15]
 ·rw [if_neg h15, if_neg h15, if_neg h15]
  by_cases h16 : op = 16
  ·rw [if_pos h16, if_pos h16]; rfl
  ·rw [if_neg h16, if_neg h16]
   by_cases h17 : op = 17
   ·rw [if_pos h17, if_pos h17]; rfl
   ·rw [if_neg h17, if_neg h17]
    by_cases h18 : op = 18
    ·rw [if_pos h18, if_pos h18]; rfl
    ·rw [if_neg h18, if_neg h18]; by_cases h20 : op = 20 <;> simp [h20]
def outL (l : List R_ii) : ZA → List R_ii
 | .r0 _ => l
 | .r1 l' => l'
 | .r2 => l.take (l.length - 1)
def ZlA : ZA → Bool
 | .r0 b => b
 | _ => true
theorem Zsy (l : List R_ii) (op a1 a2 a3 : Int) (k : Nat) (N : Nat) (hl : l.length ≤ 8) : ∃ r, Zbs l op a1 a2 a3 (k : Int) N = some r ∧ outL l r = Zc3 l op k ∧ ZlA r = ZfR l op := by
 unfold Zbs Zc3 ZfR
 by_cases h15 : op = 15
 ·rw [if_pos h15, if_pos h15, if_pos h15]
  by_cases h8 : 8 ≤ l.length
  ·rw [if_pos (by omega), if_pos h8]; exact ⟨_, rfl, rfl, by simp [ZlA]; omega⟩
  ·rw [if_neg (by omega), if_neg h8]
   by_cases h0 : l.length = 0
   ·rw [if_pos h0]; obtain rfl := List.length_eq_zero_iff.1 h0; exact ⟨_, rfl, rfl, by simp [ZlA]⟩
   ·rw [if_neg h0]; exact ⟨_, rfl, rfl, by simp [ZlA]; omega⟩
 ·rw [if_neg h15, if_neg h15, if_neg h15]
  by_cases h16 : op = 16
  ·rw [if_pos h16, if_pos h16, if_pos h16]
   by_cases h0 : l.length = 0
   ·rw [if_pos (by omega), if_pos h0, if_pos h0]; exact ⟨_, rfl, rfl, rfl⟩
   ·rw [if_neg (by omega), if_neg h0, if_neg h0, if_pos (by omega)]
    show ∃ r, (if (ZdI l).a1 = 1 then _ else _) = some r ∧ _
    by_cases h1 : (ZdI l).a1 = 1
    ·rw [if_pos h1, if_pos h1, if_pos h1]; exact ⟨_, rfl, rfl, rfl⟩
    ·rw [if_neg h1, if_neg h1, if_neg h1]
     by_cases h2 : (l.length - 1) - 0 = 0
     ·rw [if_pos h2]
      refine ⟨_, rfl, ?_, rfl⟩
      show [(⟨(ZdI l).a0, 1⟩ : R_ii)] = _
      rw [show l.length - 1 = 0 by omega]; rfl
     ·rw [if_neg h2, if_pos (by omega)]; exact ⟨_, rfl, rfl, rfl⟩
  ·rw [if_neg h16, if_neg h16, if_neg h16]
   by_cases h17 : op = 17
   ·rw [if_pos h17, if_pos h17, if_pos h17]
    by_cases h0 : l.length = 0
    ·rw [if_pos (by omega)]
     obtain rfl := List.length_eq_zero_iff.1 h0
     exact ⟨_, rfl, rfl, rfl⟩
    ·rw [if_neg (by omega), if_pos (by omega)]; exact ⟨_, rfl, rfl, (decide_eq_true (by omega)).symm⟩
   ·rw [if_neg h17, if_neg h17, if_neg h17]
    by_cases h18 : op = 18
    ·rw [if_pos h18, if_pos h18]
     by_cases h0 : 0 < l.length
     ·rw [if_pos (by omega)]; exact ⟨_, rfl, rfl, by simp [ZlA, h0]⟩
     ·rw [if_neg (by omega)]; exact ⟨_, rfl, rfl, (decide_eq_false (by omega)).symm⟩
    ·rw [if_neg h18, if_neg h18]
     by_cases h20 : op = 20
     ·rw [if_pos h20, if_pos h20]
      by_cases h0 : l.length = 0
      ·rw [if_pos (by omega)]; exact ⟨_, rfl, rfl, by simp [ZlA, h0]⟩
      ·rw [if_neg (by omega)]; exact ⟨_, rfl, rfl, by simp [ZlA, h0]⟩
     ·rw [if_neg h20, if_neg h20]; exact ⟨_, rfl, rfl, rfl⟩
end Pc
end Ev
end Go.Proofs.YtpfmkkookmofcaaGreat
/- The ways that are open ahead of a place, and its branch: plain. -/
namespace Go.Proofs.YtpfmkkookmofcaaGreat
open Go.RowKit
namespace Ev
namespace Pc
set_option linter.unusedVariables false
set_option linter.unusedSimpArgs false
def Zsz : Zak → List R_ii
 | .r0 => []
 | .r1 l => l
section
variable {L : List RA} {N : Nat} {at_ : Int}
theorem Zrv (k : Nat) (l : List R_ii) (hl : l.length ≤ 8) (hk : k < L.length)  (hp : (k : Int) < at_) (hL : L.length ≤ 512) :
  Zbx L at_ N l k = some (.inl (.h1m1 (Zc3 l (L.getD k RA.z).a0 k) (k + 1))) := by
 unfold Zbx
 rw [if_pos hp, if_pos (by omega)]
 obtain ⟨r, h1, h2, h3⟩ := Zsy l (L.getD k RA.z).a0 (L.getD k RA.z).a1 (L.getD k RA.z).a2 (L.getD k RA.z).a3 k N hl
 refine ZZ h1 ?_
 rw [← h2]
 cases r <;> exact Z3 (by omega) rfl
theorem Zrw (k : Nat) (hk : k < L.length)  (hp : (k : Int) < at_) (hL : L.length ≤ 512) :
  Zbw L at_ N k = some (.inl (if (L.getD k RA.z).a0 = 15 then .h1m1 (Zc3 [] (L.getD k RA.z).a0 k) (k + 1) else .h1m0 (k + 1))) ∧ ((L.getD k RA.z).a0 ≠ 15 → Zc3 [] (L.getD k RA.z).a0 k = []) := by
 constructor
 ·unfold Zbw
  rw [if_pos hp, if_pos (by omega), ZqE]
  by_cases h : (L.getD k RA.z).a0 = 15
  ·rw [if_pos h, if_pos h, h]; exact ZZ rfl (Z3 (by omega) rfl)
  ·rw [if_neg h, if_neg h]; exact ZZ rfl (Z3 (by omega) rfl)
 ·intro h
  unfold Zc3
  rw [if_neg h]
  by_cases h16 : (L.getD k RA.z).a0 = 16
  ·rw [if_pos h16]; rfl
  ·rw [if_neg h16]; by_cases h17 : (L.getD k RA.z).a0 = 17
   ·rw [if_pos h17]; rfl
   ·rw [if_neg h17]
theorem ZpE (m : Nat) (hm : m ≤ L.length)  (hp : (m : Int) ≤ at_) (he : (m : Int) = at_ ∨ m = L.length) (hL : L.length ≤ 512) : ∀ d k f, k + d = m → d < f →
  Zc8 (ZbT L at_ N) f (.h1m1 (opn L k) k) = some (.r1 (opn L m)) := by
 intro d
 induction d with
 | zero =>
  intro k f hk hf
  obtain ⟨f, rfl⟩ : ∃ j, f = j + 1 := ⟨f - 1, by omega⟩
  obtain rfl : k = m := by omega
  refine Zef ?_
  show Zbx L at_ N (opn L k) k = _
  unfold Zbx
  rcases he with he | he
  ·exact ZE (by omega) rfl
  ·exact Zrt (fun _ => ZE (by omega) rfl) (fun _ => rfl)
 | succ d ih =>
  intro k f hk hf
  obtain ⟨f, rfl⟩ : ∃ j, f = j + 1 := ⟨f - 1, by omega⟩
  exact (Zar (Zrv k (opn L k) (Zk6 L k) (by omega) (by omega) hL)).trans (ih (k + 1) f (by omega) (by omega))
theorem ZpF (m : Nat) (hm : m ≤ L.length)  (hp : (m : Int) ≤ at_) (he : (m : Int) = at_ ∨ m = L.length) (hL : L.length ≤ 512) : ∀ d k f, k + d = m → d < f → opn L k = [] →
  ∃ r, Zc8 (ZbT L at_ N) f (.h1m0 k) = some r ∧ Zsz r = opn L m := by
 intro d
 induction d with
 | zero =>
  intro k f hk hf h0
  obtain ⟨f, rfl⟩ : ∃ j, f = j + 1 := ⟨f - 1, by omega⟩
  obtain rfl : k = m := by omega
  refine ⟨.r0, Zef ?_, h0.symm⟩
  show Zbw L at_ N k = _
  unfold Zbw
  rcases he with he | he
  ·exact ZE (by omega) rfl
  ·exact Zrt (fun _ => ZE (by omega) rfl) (fun _ => rfl)
 | succ d ih =>
  intro k f hk hf h0
  obtain ⟨f, rfl⟩ : ∃ j, f = j + 1 := ⟨f - 1, by omega⟩
  obtain ⟨h1, h2⟩ := Zrw (L := L) (N := N) (at_ := at_) k (by omega) (by omega) hL
  have hs : opn L (k + 1) = Zc3 [] (L.getD k RA.z).a0 k := by show Zc3 (opn L k) _ _ = _; rw [h0]
  by_cases h : (L.getD k RA.z).a0 = 15
  ·rw [if_pos h, ← hs] at h1
   exact ⟨_, (Zar h1).trans (ZpE m hm hp he hL d (k + 1) f (by omega) (by omega)), rfl⟩
  ·rw [if_neg h] at h1
   obtain ⟨r, q1, q2⟩ := ih (k + 1) f (by omega) (by omega) (by rw [hs]; exact h2 h)
   exact ⟨r, (Zar h1).trans q1, q2⟩
theorem ZlB (m : Nat) (hm : m ≤ L.length)  (hp : (m : Int) ≤ at_) (he : (m : Int) = at_ ∨ m = L.length) (hL : L.length ≤ 512) (hN : 520 ≤ N) : ∃ r, Zdp L at_ N = some r ∧ Zsz r = opn L m :=
 ZpF m hm hp he hL m 0 N (by omega) (by omega) rfl
theorem Zks (m : Nat) (hm : m ≤ L.length)  (hp : (m : Int) ≤ at_) (he : (m : Int) = at_ ∨ m = L.length) (hL : L.length ≤ 512) (hN : 520 ≤ N) : ZbU L at_ N = some (.r0 (brP (opn L m)).a0 (brP (opn L m)).a1) := by
 obtain ⟨r, h1, h2⟩ := ZlB (N := N) m hm hp he hL hN
 refine ZZ h1 ?_
 have hl := Zk6 L m
 cases r with
 | r0 =>
  have h2 : opn L m = [] := h2.symm
  rw [h2]; rfl
 | r1 l =>
  have h2 : l = opn L m := h2
  subst h2
  unfold brP ZdI
  by_cases h : (opn L m).length = 0
  ·rw [if_pos h]; exact Z3 (by omega) rfl
  ·rw [if_neg h]; exact ZE (by omega) (Z3 (by omega) rfl)
end
end Pc
end Ev
end Go.Proofs.YtpfmkkookmofcaaGreat
/- Wrong, Check, Blocks, Branch of a program that is right: plain. -/
namespace Go.Proofs.YtpfmkkookmofcaaGreat
open Go.RowKit
namespace Ev
namespace Pc
set_option linter.unusedVariables false
set_option linter.unusedSimpArgs false
def tgt (x : RA) : Int := if x.a0 = 8 then x.a1 else if x.a0 = 9 then x.a2 else 0
theorem Zrx (x : RA) (N : Nat) : ZcR x.a0 x.a1 x.a2 x.a3 N = some (.r0 (tgt x) (decide (x.a0 = 8 ∨ x.a0 = 9))) := by
 unfold ZcR tgt
 by_cases h8 : x.a0 = 8
 ·rw [if_pos h8, if_pos h8, decide_eq_true (Or.inl h8)]
 ·rw [if_neg h8, if_neg h8]
  by_cases h9 : x.a0 = 9
  ·rw [if_pos h9, if_pos h9, decide_eq_true (Or.inr h9)]
  ·rw [if_neg h9, if_neg h9, decide_eq_false (by rintro (h | h) <;> contradiction)]
structure Good (L : List RA) (N : Nat) : Prop where
 len1 : 1 ≤ L.length
 len2 : L.length ≤ 512
 is : ∀ k, k < L.length → ZaR (L.getD k RA.z).a0 (L.getD k RA.z).a1 (L.getD k RA.z).a2 (L.getD k RA.z).a3 N = some (.r0 true)
 st : ∀ k, k < L.length → ZfR (opn L k) (L.getD k RA.z).a0 = true
 fin : opn L L.length = []
 tg : ∀ k, k < L.length → ((L.getD k RA.z).a0 = 8 ∨ (L.getD k RA.z).a0 = 9) → ∃ m : Nat, tgt (L.getD k RA.z) = (m : Int) ∧ m ≤ L.length ∧ brP (opn L m) = brP (opn L k)
section
variable {L : List RA} {N : Nat}
theorem ZqF (G : Good L N) (hN : 2000 ≤ N) : ∀ d k f, k + d = L.length → d < f → Zc8 (ZaH L N) f (.h2m0 k) = some (.r0 (-1)) := by
 have hL := G.len2
 intro d
 induction d with
 | zero =>
  intro k f hk hf
  obtain ⟨f, rfl⟩ : ∃ j, f = j + 1 := ⟨f - 1, by omega⟩
  refine Zef ?_
  show ZaY L N k = _
  unfold ZaY
  exact ZE (by omega) rfl
 | succ d ih =>
  intro k f hk hf
  obtain ⟨f, rfl⟩ : ∃ j, f = j + 1 := ⟨f - 1, by omega⟩
  refine (Zar ?_).trans (ih (k + 1) f (by omega) (by omega))
  show ZaY L N k = _
  unfold ZaY
  refine Z3 (by omega) ?_
  refine ZZ (Zrx (L.getD k RA.z) N) ?_
  by_cases hj : (L.getD k RA.z).a0 = 8 ∨ (L.getD k RA.z).a0 = 9
  ·obtain ⟨m, h1, h2, h3⟩ := G.tg k (by omega) hj
   refine Z3 (decide_eq_true hj) ?_
   refine ZE (by rw [h1]; omega) ?_
   rw [h1]
   refine ZZ (Zks m h2 (by omega) (.inl rfl) hL (by omega)) ?_
   refine ZZ (Zks k (by omega) (by omega) (.inl rfl) hL (by omega)) ?_
   refine ZE (by rw [h3]; simp) ?_
   exact Z3 (by omega) rfl
  ·refine ZE (fun q => hj (of_decide_eq_true q)) ?_
   exact Z3 (by omega) rfl
theorem from1 (G : Good L N) (hN : 2000 ≤ N) : ∀ d k f, k + d = L.length → d + L.length + 2 ≤ f → Zc8 (ZaH L N) f (.h1m1 (opn L k) k) = some (.r0 (-1)) := by
 have hL := G.len2
 intro d
 induction d with
 | zero =>
  intro k f hk hf
  obtain ⟨f, rfl⟩ : ∃ j, f = j + 1 := ⟨f - 1, by omega⟩
  obtain rfl : k = L.length := by omega
  refine (Zar ?_).trans (ZqF G hN L.length 0 f (by omega) (by omega))
  show ZaX L N (opn L L.length) L.length = _
  unfold ZaX
  refine ZE (by omega) ?_
  rw [G.fin]
  exact ZE (by simp) rfl
 | succ d ih =>
  intro k f hk hf
  obtain ⟨f, rfl⟩ : ∃ j, f = j + 1 := ⟨f - 1, by omega⟩
  refine (Zar ?_).trans (ih (k + 1) f (by omega) (by omega))
  show ZaX L N (opn L k) k = _
  unfold ZaX
  refine Z3 (by omega) ?_
  obtain ⟨r, h1, h2, h3⟩ := Zsy (opn L k) (L.getD k RA.z).a0 (L.getD k RA.z).a1 (L.getD k RA.z).a2 (L.getD k RA.z).a3 k N (Zk6 L k)
  have hb := G.st k (by omega)
  refine ZZ h1 ?_
  show _ = some (Sum.inl (ref12_Wrong_2X.h1m1 (Zc3 (opn L k) (L.getD k RA.z).a0 k) (k + 1)))
  rw [← h2]
  rw [← h3] at hb
  have hi := G.is k (by omega)
  cases r with
  | r0 b => exact ZZ hi (ZE (by simp) (ZE (fun q => q hb) (Z3 (by omega) rfl)))
  | r1 l => exact ZZ hi (ZE (by simp) (Z3 (by omega) rfl))
  | r2 => exact ZZ hi (ZE (by simp) (Z3 (by omega) rfl))
theorem ZoY {op : Int} {k : Nat} (h : op ≠ 15) : Zc3 [] op k = [] := by
 unfold Zc3
 rw [if_neg h]
 by_cases h16 : op = 16
 ·rw [if_pos h16]; rfl
 ·rw [if_neg h16]; by_cases h17 : op = 17
  ·rw [if_pos h17]; rfl
  ·rw [if_neg h17]
theorem from0 (G : Good L N) (hN : 2000 ≤ N) : ∀ d k f, k + d = L.length → d + L.length + 2 ≤ f → opn L k = [] → Zc8 (ZaH L N) f (.h1m0 k) = some (.r0 (-1)) := by
 have hL := G.len2
 intro d
 induction d with
 | zero =>
  intro k f hk hf h0
  obtain ⟨f, rfl⟩ : ∃ j, f = j + 1 := ⟨f - 1, by omega⟩
  obtain rfl : k = L.length := by omega
  refine (Zar ?_).trans (ZqF G hN L.length 0 f (by omega) (by omega))
  show ZaC L N L.length = _
  unfold ZaC
  exact ZE (by omega) rfl
 | succ d ih =>
  intro k f hk hf h0
  obtain ⟨f, rfl⟩ : ∃ j, f = j + 1 := ⟨f - 1, by omega⟩
  have hb := G.st k (by omega)
  have hi := G.is k (by omega)
  have hs : opn L (k + 1) = Zc3 [] (L.getD k RA.z).a0 k := by show Zc3 (opn L k) _ _ = _; rw [h0]
  by_cases h : (L.getD k RA.z).a0 = 15
  ·refine (Zar ?_).trans (from1 G hN d (k + 1) f (by omega) (by omega))
   show ZaC L N k = _
   unfold ZaC
   refine Z3 (by omega) ?_
   rw [ZqE, if_pos h]
   refine ZZ rfl ?_
   refine ZZ hi (ZE (by simp) (Z3 (by omega) ?_))
   rw [hs, h]; rfl
  ·refine (Zar ?_).trans (ih (k + 1) f (by omega) (by omega) (by rw [hs]; exact ZoY h))
   show ZaC L N k = _
   unfold ZaC
   refine Z3 (by omega) ?_
   rw [ZqE, if_neg h]
   refine ZZ rfl ?_
   rw [h0] at hb
   exact ZZ hi (ZE (by simp) (ZE (fun q => q hb) (Z3 (by omega) rfl)))
theorem Zsg (G : Good L N) (hN : 2000 ≤ N) : ZeH L N = some (.r0 (-1)) := by
 have h1 := G.len1
 have h2 := G.len2
 refine (Zd6 (x := .h1m0 0) ?_).trans (from0 G hN L.length 0 N (by omega) (by omega) rfl)
 unfold ZdU
 exact ZE (by omega) (ZE (by omega) rfl)
theorem ZlC (G : Good L N) (hN : 2000 ≤ N) : Za8 L N = some (.r0 0) := by
 unfold Za8
 exact ZZ (Zsg G hN) (Z3 (by omega) rfl)
def blL (L : List RA) : Nat → List Int
 | 0 => []
 | k + 1 => if (L.getD k RA.z).a0 = 15 ∧ (opn L k).length = 0 then blL L k ++ [(k : Int)] else blL L k
theorem Zry (L : List RA) : ∀ k, (blL L k).length ≤ k
 | 0 => by simp [blL]
 | k + 1 => by
  have := Zry L k
  unfold blL
  split
  ·simp; omega
  ·omega
def Zsh : Zao → List Int
 | .r0 => []
 | .r1 l => l
theorem ZsF (hL : L.length ≤ 512) (hN : 2000 ≤ N) : ∀ d k f, k + d = L.length → d < f → Zc8 (Zby L N) f (.h1m1 (blL L k) k) = some (.r1 (blL L L.length)) := by
 intro d
 induction d with
 | zero =>
  intro k f hk hf
  obtain ⟨f, rfl⟩ : ∃ j, f = j + 1 := ⟨f - 1, by omega⟩
  obtain rfl : k = L.length := by omega
  refine Zef ?_
  show Zbm L N _ _ = _
  unfold Zbm
  exact ZE (by omega) rfl
 | succ d ih =>
  intro k f hk hf
  obtain ⟨f, rfl⟩ : ∃ j, f = j + 1 := ⟨f - 1, by omega⟩
  refine (Zar ?_).trans (ih (k + 1) f (by omega) (by omega))
  show Zbm L N _ _ = _
  unfold Zbm
  have hb := Zry L k
  refine Z3 (by omega) ?_
  by_cases h : (L.getD k RA.z).a0 = 15
  ·refine Z3 h ?_
   obtain ⟨r, h1, h2⟩ := ZlB (L := L) (N := N) (at_ := (k : Int)) k (by omega) (by omega) (.inl rfl) hL (by omega)
   refine ZZ h1 ?_
   cases r with
   | r0 =>
    have h2 : opn L k = [] := h2.symm
    have hs : blL L (k + 1) = blL L k ++ [(k : Int)] := if_pos ⟨h, by rw [h2]; rfl⟩
    rw [hs]
    exact Z3 (by omega) (Z3 (by omega) rfl)
   | r1 l =>
    have h2 : l = opn L k := h2
    subst h2
    by_cases h0 : (opn L k).length = 0
    ·have hs : blL L (k + 1) = blL L k ++ [(k : Int)] := if_pos ⟨h, h0⟩
     rw [hs]
     exact Z3 (by omega) (Z3 (by omega) (Z3 (by omega) rfl))
    ·have hs : blL L (k + 1) = blL L k := if_neg (fun q => h0 q.2)
     rw [hs]
     exact ZE (by omega) (Z3 (by omega) rfl)
  ·have hs : blL L (k + 1) = blL L k := if_neg (fun q => h q.1)
   rw [hs]
   exact ZE h (Z3 (by omega) rfl)
theorem ZsG (hL : L.length ≤ 512) (hN : 2000 ≤ N) : ∀ d k f, k + d = L.length → d < f → blL L k = [] → ∃ r, Zc8 (Zby L N) f (.h1m0 k) = some r ∧ Zsh r = blL L L.length := by
 intro d
 induction d with
 | zero =>
  intro k f hk hf h0
  obtain ⟨f, rfl⟩ : ∃ j, f = j + 1 := ⟨f - 1, by omega⟩
  obtain rfl : k = L.length := by omega
  refine ⟨.r0, Zef ?_, h0.symm⟩
  show Zaw L N _ = _
  unfold Zaw
  exact ZE (by omega) rfl
 | succ d ih =>
  intro k f hk hf h0
  obtain ⟨f, rfl⟩ : ∃ j, f = j + 1 := ⟨f - 1, by omega⟩
  have hs : blL L (k + 1) = if (L.getD k RA.z).a0 = 15 ∧ (opn L k).length = 0 then [(k : Int)] else [] := by rw [blL, h0]; simp only [List.nil_append]
  by_cases h : (L.getD k RA.z).a0 = 15
  ·obtain ⟨r, h1, h2⟩ := ZlB (L := L) (N := N) (at_ := (k : Int)) k (by omega) (by omega) (.inl rfl) hL (by omega)
   by_cases h9 : (opn L k).length = 0
   ·rw [if_pos ⟨h, h9⟩] at hs
    refine ⟨_, (Zar (y := .h1m1 [(k : Int)] (k + 1)) ?_).trans (by rw [← hs]; exact ZsF hL hN d (k + 1) f (by omega) (by omega)), rfl⟩
    show Zaw L N _ = _
    unfold Zaw
    refine Z3 (by omega) (Z3 h (ZZ h1 ?_))
    cases r with
    | r0 => exact Z3 (by omega) rfl
    | r1 l =>
     have h2 : l = opn L k := h2
     subst h2
     exact Z3 (by omega) (Z3 (by omega) rfl)
   ·rw [if_neg (fun q => h9 q.2)] at hs
    obtain ⟨r', q1, q2⟩ := ih (k + 1) f (by omega) (by omega) hs
    refine ⟨r', (Zar (y := .h1m0 (k + 1)) ?_).trans q1, q2⟩
    show Zaw L N _ = _
    unfold Zaw
    refine Z3 (by omega) (Z3 h (ZZ h1 ?_))
    cases r with
    | r0 => exact absurd (by rw [← h2]; rfl) h9
    | r1 l =>
     have h2 : l = opn L k := h2
     subst h2
     exact ZE (by omega) (Z3 (by omega) rfl)
  ·rw [if_neg (fun q => h q.1)] at hs
   obtain ⟨r', q1, q2⟩ := ih (k + 1) f (by omega) (by omega) hs
   refine ⟨r', (Zar (y := .h1m0 (k + 1)) ?_).trans q1, q2⟩
   show Zaw L N _ = _
   unfold Zaw
   exact Z3 (by omega) (ZE h (Z3 (by omega) rfl))
theorem Zrz (G : Good L N) (hN : 2000 ≤ N) : ∃ r, Zcz L N = some r ∧ Zsh r = blL L L.length := by
 have h2 := G.len2
 obtain ⟨r, q1, q2⟩ := ZsG (N := N) h2 hN L.length 0 N (by omega) (by omega) rfl
 refine ⟨r, (Zd6 (x := .h1m0 0) ?_).trans q1, q2⟩
 unfold Zep
 exact ZZ (ZlC G hN) (ZE (by simp) rfl)
theorem Zr0 (G : Good L N) (hN : 2000 ≤ N) (k : Nat) (hk : k ≤ L.length) : ZaZ L (k : Int) N = some (.r0 (brP (opn L k)).a0 (brP (opn L k)).a1) := by
 unfold ZaZ
 refine ZE (by omega) (ZE (by omega) (ZZ (ZlC G hN) (ZE (by simp) ?_)))
 exact ZZ (Zks k hk (by omega) (.inl rfl) G.len2 (by omega)) rfl
end
end Pc
end Ev
end Go.Proofs.YtpfmkkookmofcaaGreat
/- Emits, and a piece behind them: plain. -/
namespace Go.Proofs.YtpfmkkookmofcaaGreat
open Go.RowKit
namespace Ev
namespace Pc
set_option linter.unusedVariables false
set_option linter.unusedSimpArgs false
def sh (b : Int) (l : List R_ii) : List R_ii := l.map fun x => ⟨x.a0 + b, x.a1⟩
def Zd7 (ops : List Int) : Nat → List R_ii
 | 0 => []
 | k + 1 => Zc3 (Zd7 ops k) (ops.getD k 0) k
theorem Zmz (b : Int) (l : List R_ii) : (sh b l).length = l.length := by simp [sh]
theorem ZmT {b : Int} {l : List R_ii} (h : l.length ≠ 0) : ZdI (sh b l) = ⟨(ZdI l).a0 + b, (ZdI l).a1⟩ := by
 have h' : l.length - 1 < l.length := by omega
 simp [ZdI, sh, h']
theorem Zsi (b : Nat) (l : List R_ii) (op : Int) (k : Nat) : Zc3 (sh (b : Int) l) op (b + k) = sh (b : Int) (Zc3 l op k) := by
 unfold Zc3
 rw [Zmz]
 by_cases h15 : op = 15
 ·rw [if_pos h15, if_pos h15]
  by_cases h8 : 8 ≤ l.length
  ·rw [if_pos h8, if_pos h8]
  ·rw [if_neg h8, if_neg h8]
   have e : ((b + k : Nat) : Int) = (k : Int) + (b : Int) := by omega
   simp only [sh, List.map_append, List.map_cons, List.map_nil, e]
 ·rw [if_neg h15, if_neg h15]
  by_cases h16 : op = 16
  ·rw [if_pos h16, if_pos h16]
   by_cases h0 : l.length = 0
   ·rw [if_pos h0, if_pos h0]
   ·rw [if_neg h0, if_neg h0, ZmT h0]
    by_cases h1 : (ZdI l).a1 = 1
    ·rw [if_pos h1, if_pos h1]
    ·rw [if_neg h1, if_neg h1]
     simp [sh]
  ·rw [if_neg h16, if_neg h16]
   by_cases h17 : op = 17
   ·rw [if_pos h17, if_pos h17]; simp [sh]
   ·rw [if_neg h17, if_neg h17]
theorem Zsj (b : Int) (l : List R_ii) (op : Int) : ZfR (sh b l) op = ZfR l op := by
 unfold ZfR
 rw [Zmz]
 by_cases h0 : l.length = 0
 ·simp only [if_pos h0]
 ·rw [ZmT h0]
abbrev ZbO : RA := ⟨19, 0, 0, 0⟩
section
variable {p : List RA} {b : Nat}
theorem ZgY {k : Nat} (h : k < b) : (List.replicate b ZbO ++ p).getD k RA.z = ZbO := by
 rw [ZnC (by simpa using h), Zsf h]
theorem ZeW (j : Nat) : (List.replicate b ZbO ++ p).getD (b + j) RA.z = p.getD j RA.z := by
 rw [List.getD_eq_getElem?_getD, List.getD_eq_getElem?_getD, List.getElem?_append_right (by simp)]
 simp
theorem ZlD : ∀ k, k ≤ b → opn (List.replicate b ZbO ++ p) k = []
 | 0, _ => rfl
 | k + 1, h => by
  rw [opn, ZlD k (by omega), ZgY (by omega)]; exact ZoY (by decide)
theorem Zeg : ∀ j, opn (List.replicate b ZbO ++ p) (b + j) = sh (b : Int) (Zd7 (p.map (·.a0)) j)
 | 0 => ZlD b (Nat.le_refl _)
 | j + 1 => by
  rw [show b + (j + 1) = (b + j) + 1 by omega, opn, Zeg j, ZeW, Zsi, Zd7]
  congr 1
  by_cases hj : j < p.length
  ·simp [hj]
  ·simp [List.getElem?_eq_none (Nat.le_of_not_lt hj), RA.z]
def ZnP : List R_ii → List R_ii → Bool
 | [], [] => true
 | x :: l, y :: m => x.a0 == y.a0 && x.a1 == y.a1 && ZnP l m
 | _, _ => false
theorem ZfK : ∀ {l m : List R_ii}, ZnP l m = true → l = m
 | [], [], _ => rfl
 | [], _ :: _, h => by cases h
 | _ :: _, [], h => by cases h
 | ⟨x0, x1⟩ :: l, ⟨y0, y1⟩ :: m, h => by
  simp only [ZnP, Bool.and_eq_true, beq_iff_eq] at h
  obtain ⟨⟨rfl, rfl⟩, h3⟩ := h
  rw [ZfK h3]
def nBl (ops : List Int) : Nat → Nat
 | 0 => 0
 | k + 1 => if ops.getD k 0 = 15 ∧ (Zd7 ops k).length = 0 then nBl ops k + 1 else nBl ops k
def Zkt (ops : List Int) (tg : List Nat) : Bool :=
 (List.range ops.length).all fun k => ZfR (Zd7 ops k) (ops.getD k 0) && (!(ops.getD k 0 == 8 || ops.getD k 0 == 9) || (Nat.ble (tg.getD k 0) ops.length && ZnP (Zd7 ops (tg.getD k 0)) (Zd7 ops k)))
theorem ZpY : ∀ k, k ≤ b → blL (List.replicate b ZbO ++ p) k = []
 | 0, _ => rfl
 | k + 1, h => by
  rw [blL, ZpY k (by omega), ZgY (by omega)]
  exact if_neg (by simp [ZbO])
theorem ZlE : ∀ j, j ≤ p.length → (blL (List.replicate b ZbO ++ p) (b + j)).length = nBl (p.map (·.a0)) j
 | 0, _ => by rw [Nat.add_zero, ZpY b (Nat.le_refl _)]; rfl
 | j + 1, h => by
  have hj : j < p.length := h
  rw [show b + (j + 1) = (b + j) + 1 by omega, blL, ZeW, Zeg, Zmz, nBl]
  have e : (p.map (·.a0)).getD j 0 = (p.getD j RA.z).a0 := by simp [hj]
  rw [e]
  by_cases hc : (p.getD j RA.z).a0 = 15 ∧ (Zd7 (p.map (·.a0)) j).length = 0
  ·rw [if_pos hc, if_pos hc]; simp [ZlE j (by omega)]
  ·rw [if_neg hc, if_neg hc]; exact ZlE j (by omega)
theorem ZsH (N : Nat) : ZaR 19 0 0 0 N = some (.r0 true) := rfl
theorem Zg7 {N : Nat} {tg : List Nat} (h1 : 1 ≤ p.length) (h2 : b + p.length ≤ 512) (hi : ∀ x ∈ p, ZaR x.a0 x.a1 x.a2 x.a3 N = some (.r0 true))
  (hr : Zkt (p.map (·.a0)) tg = true) (hf : Zd7 (p.map (·.a0)) p.length = [])
  (ht : ∀ k, k < p.length → ((p.getD k RA.z).a0 = 8 ∨ (p.getD k RA.z).a0 = 9) → tgt (p.getD k RA.z) = (b : Int) + (tg.getD k 0 : Nat)) : Good (List.replicate b ZbO ++ p) N := by
 have hl : (List.replicate b ZbO ++ p).length = b + p.length := by simp
 have hR : ∀ k, k < p.length → ZfR (Zd7 (p.map (·.a0)) k) (p.getD k RA.z).a0 = true ∧ (((p.getD k RA.z).a0 = 8 ∨ (p.getD k RA.z).a0 = 9) → tg.getD k 0 ≤ p.length ∧ Zd7 (p.map (·.a0)) (tg.getD k 0) = Zd7 (p.map (·.a0)) k) := by
  intro k hk
  have h := List.all_eq_true.1 hr k (by simp [hk])
  have e : (p.map (·.a0)).getD k 0 = (p.getD k RA.z).a0 := by simp [hk]
  rw [e, List.length_map] at h
  simp only [Bool.and_eq_true, Bool.or_eq_true, Bool.not_eq_true', Bool.or_eq_false_iff, beq_eq_false_iff_ne, Nat.ble_eq] at h
  refine ⟨h.1, fun hj => ?_⟩
  rcases h.2 with h | h
  ·rcases hj with hj | hj
   ·exact absurd hj h.1
   ·exact absurd hj h.2
  ·exact ⟨h.1, ZfK h.2⟩
 refine ⟨by omega, by omega, fun k hk => ?_, fun k hk => ?_, ?_, fun k hk hj => ?_⟩
 ·by_cases hb : k < b
  ·rw [ZgY hb]; exact ZsH N
  ·obtain ⟨j, rfl⟩ : ∃ j, k = b + j := ⟨k - b, by omega⟩
   have hj : j < p.length := by omega
   rw [ZeW]
   have : p.getD j RA.z = p[j] := by simp [hj]
   rw [this]; exact hi _ (List.getElem_mem hj)
 ·by_cases hb : k < b
  ·rw [ZgY hb, ZlD k (by omega)]; rfl
  ·obtain ⟨j, rfl⟩ : ∃ j, k = b + j := ⟨k - b, by omega⟩
   rw [ZeW, Zeg, Zsj]; exact (hR j (by omega)).1
 ·rw [hl, Zeg, hf]; rfl
 ·by_cases hb : k < b
  ·rw [ZgY hb] at hj; exact absurd hj (by simp [ZbO])
  ·obtain ⟨j, rfl⟩ : ∃ j, k = b + j := ⟨k - b, by omega⟩
   rw [ZeW] at hj ⊢
   obtain ⟨q1, q2⟩ := (hR j (by omega)).2 hj
   refine ⟨b + tg.getD j 0, by rw [ht j (by omega) hj]; omega, by omega, ?_⟩
   rw [Zeg, Zeg, q2]
end
end Pc
end Ev
end Go.Proofs.YtpfmkkookmofcaaGreat
/- The pieces: plain. -/
namespace Go.Proofs.YtpfmkkookmofcaaGreat
open Go.RowKit
namespace Ev
namespace Pc
set_option linter.unusedVariables false
set_option linter.unusedSimpArgs false
set_option maxRecDepth 100000
theorem Z4 {op A B C t0 t1 t2 : Int} {N : Nat} (hH : ZeV op N = some (.r0 t0 t1 t2 true)) (h0 : ZaG t0 A 0 N = some (.r0 true)) (h1 : ZaG t1 B 0 N = some (.r0 true)) (h2 : ZaG t2 C B N = some (.r0 true)) : ZaR op A B C N = some (.r0 true) := by
 unfold ZaR
 exact ZZ hH (Z3 rfl (ZZ h0 (Z3 rfl (ZZ h1 (Z3 rfl (ZZ h2 (Z3 rfl rfl)))))))
section
variable {a c : Int} {N : Nat}
theorem f0 (h : a = 0) : ZaG 0 a c N = some (.r0 true) := by subst h; rfl
theorem f1 (h : 0 ≤ a) (h' : a < 8) : ZaG 1 a c N = some (.r0 true) := Z3 rfl (Z3 h (Z3 h' rfl))
theorem f2 (h : -1099511627776 ≤ a) (h' : a ≤ 1099511627776) : ZaG 2 a c N = some (.r0 true) := ZE (by decide) (Z3 rfl (Z3 h (Z3 h' rfl)))
theorem f3 (h : 0 ≤ a) (h' : a ≤ 512) : ZaG 3 a c N = some (.r0 true) := ZE (by decide) (ZE (by decide) (Z3 rfl (Z3 h (Z3 h' rfl))))
theorem f4 (h : 0 ≤ a) (h' : a < 16) : ZaG 4 a c N = some (.r0 true) := ZE (by decide) (ZE (by decide) (ZE (by decide) (Z3 rfl (Z3 h (Z3 h' rfl)))))
theorem f5 (h : 1 ≤ a) (h' : a ≤ 16) : ZaG 5 a c N = some (.r0 true) := ZE (by decide) (ZE (by decide) (ZE (by decide) (ZE (by decide) (Z3 rfl (Z3 h (Z3 h' rfl))))))
end
theorem all_cons {α : Type} {q : α → Prop} {x : α} {l : List α} (h : q x) (t : ∀ y ∈ l, q y) : ∀ y ∈ x :: l, q y := fun y hy => by
 rcases List.mem_cons.1 hy with rfl | hy
 ·exact h
 ·exact t y hy
theorem Zk7 {α : Type} {q : α → Prop} : ∀ y ∈ ([] : List α), q y := fun y hy => by cases hy
def Zgr (b : Int) : List RA → List Nat → Prop
 | [], _ => True
 | _ :: _, [] => False
 | x :: l, t :: ts => ((x.a0 = 8 ∨ x.a0 = 9) → tgt x = b + (t : Int)) ∧ Zgr b l ts
theorem ZG {b : Int} {x : RA} {l : List RA} {t : Nat} {ts : List Nat} (h8 : x.a0 ≠ 8) (h9 : x.a0 ≠ 9) (h : Zgr b l ts) : Zgr b (x :: l) (t :: ts) := ⟨fun q => by rcases q with q | q <;> contradiction, h⟩
theorem ZhI {b A B C : Int} {l : List RA} {t : Nat} {ts : List Nat} (e : A = b + (t : Int)) (h : Zgr b l ts) : Zgr b (⟨8, A, B, C⟩ :: l) (t :: ts) := ⟨fun _ => e, h⟩
theorem ZhJ {b A B C : Int} {l : List RA} {t : Nat} {ts : List Nat} (e : B = b + (t : Int)) (h : Zgr b l ts) : Zgr b (⟨9, A, B, C⟩ :: l) (t :: ts) := ⟨fun _ => e, h⟩
theorem Zku {b : Int} : ∀ {l : List RA} {ts : List Nat}, Zgr b l ts → ∀ k, k < l.length → ((l.getD k RA.z).a0 = 8 ∨ (l.getD k RA.z).a0 = 9) → tgt (l.getD k RA.z) = b + (ts.getD k 0 : Nat)
 | [], _, _, k, hk => by simp at hk
 | _ :: _, [], h, _, _ => h.elim
 | x :: l, t :: ts, h, 0, _ => h.1
 | x :: l, t :: ts, h, k + 1, hk => Zku h.2 k (by simpa using hk)
def ZiY (ops : List Int) : Bool :=
 (List.range ops.length).all fun k => !(ops.getD k 0 == 20) && (!(ops.getD k 0 == 11 || ops.getD k 0 == 12 || ops.getD k 0 == 13 || ops.getD k 0 == 14 || ops.getD k 0 == 18) || (!Nat.beq (Zd7 ops k).length 0 && decide (0 ≤ (ZdI (Zd7 ops k)).a0)))
theorem Zr1 {p : List RA} (h : ZiY (p.map (·.a0)) = true) {k : Nat} (hk : k < p.length) : (p.getD k RA.z).a0 ≠ 20 ∧ (((p.getD k RA.z).a0 = 11 ∨ (p.getD k RA.z).a0 = 12 ∨ (p.getD k RA.z).a0 = 13 ∨ (p.getD k RA.z).a0 = 14 ∨ (p.getD k RA.z).a0 = 18) → (Zd7 (p.map (·.a0)) k).length ≠ 0 ∧ 0 ≤ (ZdI (Zd7 (p.map (·.a0)) k)).a0) := by
 have h := List.all_eq_true.1 h k (by simp [hk])
 have e : (p.map (·.a0)).getD k 0 = (p.getD k RA.z).a0 := by simp [hk]
 rw [e] at h
 generalize (p.getD k RA.z).a0 = op at h ⊢
 simp only [Bool.and_eq_true, Bool.or_eq_true, Bool.not_eq_true', Bool.or_eq_false_iff, beq_eq_false_iff_ne, decide_eq_true_eq] at h
 refine ⟨h.1, fun hm => ?_⟩
 rcases h.2 with h2 | h2
 ·obtain ⟨⟨⟨⟨q1, q2⟩, q3⟩, q4⟩, q5⟩ := h2
  rcases hm with h | h | h | h | h <;> contradiction
 ·exact ⟨fun q => (by have := h2.1; rw [q] at this; cases this), h2.2⟩
theorem Zr2 {p : List RA} {b N : Nat} (G : Good (List.replicate b ZbO ++ p) N) (hN : 2000 ≤ N) (hm : ZiY (p.map (·.a0)) = true) {k : Nat} (hk : k < p.length) (ho : (p.getD k RA.z).a0 = 11 ∨ (p.getD k RA.z).a0 = 12 ∨ (p.getD k RA.z).a0 = 13 ∨ (p.getD k RA.z).a0 = 14 ∨ (p.getD k RA.z).a0 = 18) : ∃ x y, ZaZ (List.replicate b ZbO ++ p) ((b + k : Nat) : Int) N = some (.r0 x y) ∧ ¬ x < 0 := by
 refine ⟨_, _, Zr0 G hN (b + k) (by simp; omega), ?_⟩
 obtain ⟨h1, h2⟩ := (Zr1 hm hk).2 ho
 rw [Zeg]
 unfold brP
 rw [Zmz, if_neg h1, ZmT h1]
 show ¬ _ + _ < _
 omega
section
variable {p : List RA} {b N : Nat}
theorem ZoZ (G : Good (List.replicate b ZbO ++ p) N) (hN : 2000 ≤ N) (hm : ZiY (p.map (·.a0)) = true) (hb : b ≤ 512) (hp : p.length ≤ 512) : ∀ d k f, k + d = p.length → d < f → Zc8 (Zba p (b : Int) N) f (.h2m0 (List.replicate b ZbO ++ p) ((b + k : Nat) : Int)) = some (.r0 true) := by
 have hl : (List.replicate b ZbO ++ p).length = b + p.length := by simp
 intro d
 induction d with
 | zero =>
  intro k f hk hf
  obtain ⟨f, rfl⟩ : ∃ j, f = j + 1 := ⟨f - 1, by omega⟩
  refine Zef ?_
  show Zbp p (b : Int) N _ _ = _
  unfold Zbp
  exact ZE (by omega) rfl
 | succ d ih =>
  intro k f hk hf
  obtain ⟨f, rfl⟩ : ∃ j, f = j + 1 := ⟨f - 1, by omega⟩
  refine (Zar ?_).trans (ih (k + 1) f (by omega) (by omega))
  show Zbp p (b : Int) N _ _ = _
  unfold Zbp
  have hk' : k < p.length := by omega
  have e : (((b + k : Nat) : Int)).toNat = b + k := rfl
  have ew : IntKind.i64.wrap (((b + k : Nat) : Int) + 1) = ((b + (k + 1) : Nat) : Int) := (w64 (by omega) (by omega)).trans (by omega)
  refine Z3 (by omega) (Z3 (by omega) ?_)
  rw [e, ZeW, ew]
  have h20 := (Zr1 hm hk').1
  have br := Zr2 G hN hm hk'
  generalize (p.getD k RA.z).a0 = op at h20 br ⊢
  by_cases h11 : op = 11
  ·subst h11
   obtain ⟨x, y, q1, q2⟩ := br (.inl rfl)
   exact Z3 rfl (ZZ q1 (ZE q2 rfl))
  by_cases h12 : op = 12
  ·subst h12
   obtain ⟨x, y, q1, q2⟩ := br (.inr (.inl rfl))
   exact ZE (by decide) (Z3 rfl (ZZ q1 (ZE q2 rfl)))
  by_cases h13 : op = 13
  ·subst h13
   obtain ⟨x, y, q1, q2⟩ := br (.inr (.inr (.inl rfl)))
   exact ZE (by decide) (ZE (by decide) (Z3 rfl (ZZ q1 (ZE q2 rfl))))
  by_cases h14 : op = 14
  ·subst h14
   obtain ⟨x, y, q1, q2⟩ := br (.inr (.inr (.inr (.inl rfl))))
   exact ZE (by decide) (ZE (by decide) (ZE (by decide) (Z3 rfl (ZZ q1 (ZE q2 rfl)))))
  refine ZE h11 ?_
  refine ZE h12 ?_
  refine ZE h13 ?_
  refine ZE h14 ?_
  exact ZE h20 rfl
theorem Zpa (G : Good (List.replicate b ZbO ++ p) N) (hN : 2000 ≤ N) (hbl : nBl (p.map (·.a0)) p.length = 1) : ∃ r, Za8 (List.replicate b ZbO ++ p) N = some (.r0 0) ∧ Zcz (List.replicate b ZbO ++ p) N = some r ∧ (Zsh r).length = 1 := by
 obtain ⟨r, h1, h2⟩ := Zrz G hN
 refine ⟨r, ZlC G hN, h1, ?_⟩
 rw [h2, show (List.replicate b ZbO ++ p).length = b + p.length by simp, ZlE _ (Nat.le_refl _), hbl]
theorem Zsk (G : Good (List.replicate b ZbO ++ p) N) (hN : 2000 ≤ N) (hm : ZiY (p.map (·.a0)) = true) (hbl : nBl (p.map (·.a0)) p.length = 1) (hb : b ≤ 512) (hp : p.length ≤ 512) (h1 : 1 ≤ p.length) : ∀ d k f, k + d = b → d + p.length + 2 < f → 1 ≤ k → Zc8 (Zba p (b : Int) N) f (.h1m1 (List.replicate k ZbO) k) = some (.r0 true) := by
 intro d
 induction d with
 | zero =>
  intro k f hk hf h1k
  obtain ⟨f, rfl⟩ : ∃ j, f = j + 1 := ⟨f - 1, by omega⟩
  obtain rfl : k = b := by omega
  refine (Zar (y := law32_standsX.h2m0 (List.replicate k ZbO ++ p) ((k + 0 : Nat) : Int)) ?_).trans (ZoZ G hN hm hb hp p.length 0 f (by omega) (by omega))
  show Zbo p (k : Int) N _ _ = _
  unfold Zbo
  obtain ⟨r, q1, q2, q3⟩ := Zpa G hN hbl
  refine ZE (by omega) (ZE (by omega) (Z3 (by omega) (Z3 (by simp; omega) (ZZ q1 (ZE (by simp) (ZZ q2 ?_))))))
  cases r with
  | r0 => exact absurd q3 (by decide)
  | r1 l =>
   have q3 : l.length = 1 := q3
   exact ZE (by omega) rfl
 | succ d ih =>
  intro k f hk hf h1k
  obtain ⟨f, rfl⟩ : ∃ j, f = j + 1 := ⟨f - 1, by omega⟩
  refine (Zar ?_).trans (ih (k + 1) f (by omega) (by omega) (by omega))
  show Zbo p (b : Int) N _ _ = _
  unfold Zbo
  refine Z3 (by omega) (Z3 (by simp; omega) (Z3 (by omega) ?_))
  rw [List.replicate_succ']
theorem Zhn (G : Good (List.replicate b ZbO ++ p) N) (hN : 2000 ≤ N) (hm : ZiY (p.map (·.a0)) = true) (hbl : nBl (p.map (·.a0)) p.length = 1) (hb : b ≤ 512) (hp : p.length ≤ 512) (h1 : 1 ≤ p.length) : Zz p (b : Int) N = some (.r0 true) := by
 refine (Zd6 (x := law32_standsX.h1m0) rfl).trans ?_
 obtain ⟨f, rfl⟩ : ∃ j, N = j + 1 := ⟨N - 1, by omega⟩
 by_cases h0 : b = 0
 ·subst h0
  refine (Zar (y := law32_standsX.h2m0 (List.replicate 0 ZbO ++ p) ((0 + 0 : Nat) : Int)) ?_).trans (ZoZ G hN hm hb hp p.length 0 f (by omega) (by omega))
  show Zbn p _ _ = _
  unfold Zbn
  obtain ⟨r, q1, q2, q3⟩ := Zpa G hN hbl
  refine ZE (by simp) (ZE (by omega) (Z3 (by omega) (ZZ q1 (ZE (by simp) (ZZ q2 ?_)))))
  cases r with
  | r0 => exact absurd q3 (by decide)
  | r1 l =>
   have q3 : l.length = 1 := q3
   exact ZE (by omega) rfl
 ·refine (Zar (y := law32_standsX.h1m1 (List.replicate 1 ZbO) 1) ?_).trans (Zsk G hN hm hbl hb hp h1 (b - 1) 1 f (by omega) (by omega) (by omega))
  show Zbn p _ _ = _
  unfold Zbn
  exact Z3 (by omega) rfl
end
def Za6 (a0 a1 a2 a3 : Int) : List RA := [(⟨(10 : Int), (0 : Int), (0 : Int), (0 : Int)⟩ : RA), (⟨(1 : Int), (1 : Int), a2, (0 : Int)⟩ : RA), (⟨(1 : Int), (2 : Int), a3, (0 : Int)⟩ : RA), (⟨(1 : Int), (3 : Int), (1 : Int), (0 : Int)⟩ : RA), (⟨(15 : Int), (0 : Int), (0 : Int), (0 : Int)⟩ : RA), (⟨(13 : Int), (6 : Int), (0 : Int), ((8 : Int) + a1)⟩ : RA), (⟨(6 : Int), (5 : Int), (6 : Int), (2 : Int)⟩ : RA), (⟨(9 : Int), (5 : Int), (a0 + (19 : Int)), (0 : Int)⟩ : RA), (⟨(11 : Int), (4 : Int), (2 : Int), (1 : Int)⟩ : RA), (⟨(14 : Int), (4 : Int), (1 : Int), (1 : Int)⟩ : RA), (⟨(13 : Int), (5 : Int), (0 : Int), (((2 : Int) * a1) + (1 : Int))⟩ : RA), (⟨(9 : Int), (5 : Int), (a0 + (14 : Int)), (0 : Int)⟩ : RA), (⟨(14 : Int), (5 : Int), (0 : Int), (4 : Int)⟩ : RA), (⟨(8 : Int), (a0 + (15 : Int)), (0 : Int), (0 : Int)⟩ : RA), (⟨(14 : Int), (0 : Int), ((2 : Int) * a1), (4 : Int)⟩ : RA), (⟨(14 : Int), (0 : Int), (((2 : Int) * a1) + (1 : Int)), (4 : Int)⟩ : RA), (⟨(4 : Int), (6 : Int), (6 : Int), (3 : Int)⟩ : RA), (⟨(14 : Int), (0 : Int), ((8 : Int) + a1), (6 : Int)⟩ : RA), (⟨(8 : Int), (a0 + (20 : Int)), (0 : Int), (0 : Int)⟩ : RA), (⟨(18 : Int), (0 : Int), (0 : Int), (0 : Int)⟩ : RA), (⟨(1 : Int), (7 : Int), (1 : Int), (0 : Int)⟩ : RA), (⟨(17 : Int), (0 : Int), (0 : Int), (0 : Int)⟩ : RA)]
theorem Zc4 (a0 a1 a2 a3 : Int) : (Za6 a0 a1 a2 a3).length = 22 := rfl
theorem Ztf {a0 a1 a2 a3 : Int} (N : Nat) (h0 : 0 ≤ a0) (h1 : a0 ≤ 400) (h2 : 0 ≤ a1) (h3 : a1 ≤ 3) (h4 : -1099511627776 ≤ a2) (h5 : a2 ≤ 1099511627776) (h6 : 1 ≤ a3) (h7 : a3 ≤ 1099511627776) : ∀ x ∈ Za6 a0 a1 a2 a3, ZaR x.a0 x.a1 x.a2 x.a3 N = some (.r0 true) :=
  all_cons (Z4 (op := 10) (A := 0) (B := 0) (C := 0) rfl (f1 (by omega) (by omega)) (f0 (by omega)) (f0 (by omega))) <|
  all_cons (Z4 (op := 1) (A := 1) (B := a2) (C := 0) rfl (f1 (by omega) (by omega)) (f2 (by omega) (by omega)) (f0 (by omega))) <|
  all_cons (Z4 (op := 1) (A := 2) (B := a3) (C := 0) rfl (f1 (by omega) (by omega)) (f2 (by omega) (by omega)) (f0 (by omega))) <|
  all_cons (Z4 (op := 1) (A := 3) (B := 1) (C := 0) rfl (f1 (by omega) (by omega)) (f2 (by omega) (by omega)) (f0 (by omega))) <|
  all_cons (Z4 (op := 15) (A := 0) (B := 0) (C := 0) rfl (f0 (by omega)) (f0 (by omega)) (f0 (by omega))) <|
  all_cons (Z4 (op := 13) (A := 6) (B := 0) (C := (8 : Int) + a1) rfl (f1 (by omega) (by omega)) (f1 (by omega) (by omega)) (f4 (by omega) (by omega))) <|
  all_cons (Z4 (op := 6) (A := 5) (B := 6) (C := 2) rfl (f1 (by omega) (by omega)) (f1 (by omega) (by omega)) (f1 (by omega) (by omega))) <|
  all_cons (Z4 (op := 9) (A := 5) (B := a0 + (19 : Int)) (C := 0) rfl (f1 (by omega) (by omega)) (f3 (by omega) (by omega)) (f0 (by omega))) <|
  all_cons (Z4 (op := 11) (A := 4) (B := 2) (C := 1) rfl (f1 (by omega) (by omega)) (f5 (by omega) (by omega)) ((by rfl))) <|
  all_cons (Z4 (op := 14) (A := 4) (B := 1) (C := 1) rfl (f1 (by omega) (by omega)) (f4 (by omega) (by omega)) (f1 (by omega) (by omega))) <|
  all_cons (Z4 (op := 13) (A := 5) (B := 0) (C := ((2 : Int) * a1) + (1 : Int)) rfl (f1 (by omega) (by omega)) (f1 (by omega) (by omega)) (f4 (by omega) (by omega))) <|
  all_cons (Z4 (op := 9) (A := 5) (B := a0 + (14 : Int)) (C := 0) rfl (f1 (by omega) (by omega)) (f3 (by omega) (by omega)) (f0 (by omega))) <|
  all_cons (Z4 (op := 14) (A := 5) (B := 0) (C := 4) rfl (f1 (by omega) (by omega)) (f4 (by omega) (by omega)) (f1 (by omega) (by omega))) <|
  all_cons (Z4 (op := 8) (A := a0 + (15 : Int)) (B := 0) (C := 0) rfl (f3 (by omega) (by omega)) (f0 (by omega)) (f0 (by omega))) <|
  all_cons (Z4 (op := 14) (A := 0) (B := (2 : Int) * a1) (C := 4) rfl (f1 (by omega) (by omega)) (f4 (by omega) (by omega)) (f1 (by omega) (by omega))) <|
  all_cons (Z4 (op := 14) (A := 0) (B := ((2 : Int) * a1) + (1 : Int)) (C := 4) rfl (f1 (by omega) (by omega)) (f4 (by omega) (by omega)) (f1 (by omega) (by omega))) <|
  all_cons (Z4 (op := 4) (A := 6) (B := 6) (C := 3) rfl (f1 (by omega) (by omega)) (f1 (by omega) (by omega)) (f1 (by omega) (by omega))) <|
  all_cons (Z4 (op := 14) (A := 0) (B := (8 : Int) + a1) (C := 6) rfl (f1 (by omega) (by omega)) (f4 (by omega) (by omega)) (f1 (by omega) (by omega))) <|
  all_cons (Z4 (op := 8) (A := a0 + (20 : Int)) (B := 0) (C := 0) rfl (f3 (by omega) (by omega)) (f0 (by omega)) (f0 (by omega))) <|
  all_cons (Z4 (op := 18) (A := 0) (B := 0) (C := 0) rfl (f0 (by omega)) (f0 (by omega)) (f0 (by omega))) <|
  all_cons (Z4 (op := 1) (A := 7) (B := 1) (C := 0) rfl (f1 (by omega) (by omega)) (f2 (by omega) (by omega)) (f0 (by omega))) <|
  all_cons (Z4 (op := 17) (A := 0) (B := 0) (C := 0) rfl (f0 (by omega)) (f0 (by omega)) (f0 (by omega))) <|
  Zk7
def ZqG : List Int := [10, 1, 1, 1, 15, 13, 6, 9, 11, 14, 13, 9, 14, 8, 14, 14, 4, 14, 8, 18, 1, 17]
def Zc5 : List Nat := [0, 0, 0, 0, 0, 0, 0, 19, 0, 0, 0, 14, 0, 15, 0, 0, 0, 0, 20, 0, 0, 0]
theorem Ztg {a0 a1 a2 a3 : Int} (b : Nat) (hb : a0 = (b : Int)) : Zgr (b : Int) (Za6 a0 a1 a2 a3) Zc5 :=
  ZG (show (10 : Int) ≠ 8 from by decide) (show (10 : Int) ≠ 9 from by decide) <| ZG (show (1 : Int) ≠ 8 from by decide) (show (1 : Int) ≠ 9 from by decide) <| ZG (show (1 : Int) ≠ 8 from by decide) (show (1 : Int) ≠ 9 from by decide) <| ZG (show (1 : Int) ≠ 8 from by decide) (show (1 : Int) ≠ 9 from by decide) <| ZG (show (15 : Int) ≠ 8 from by decide) (show (15 : Int) ≠ 9 from by decide) <| ZG (show (13 : Int) ≠ 8 from by decide) (show (13 : Int) ≠ 9 from by decide) <| ZG (show (6 : Int) ≠ 8 from by decide) (show (6 : Int) ≠ 9 from by decide) <| ZhJ (by omega) <| ZG (show (11 : Int) ≠ 8 from by decide) (show (11 : Int) ≠ 9 from by decide) <| ZG (show (14 : Int) ≠ 8 from by decide) (show (14 : Int) ≠ 9 from by decide) <| ZG (show (13 : Int) ≠ 8 from by decide) (show (13 : Int) ≠ 9 from by decide) <| ZhJ (by omega) <| ZG (show (14 : Int) ≠ 8 from by decide) (show (14 : Int) ≠ 9 from by decide) <| ZhI (by omega) <| ZG (show (14 : Int) ≠ 8 from by decide) (show (14 : Int) ≠ 9 from by decide) <| ZG (show (14 : Int) ≠ 8 from by decide) (show (14 : Int) ≠ 9 from by decide) <| ZG (show (4 : Int) ≠ 8 from by decide) (show (4 : Int) ≠ 9 from by decide) <| ZG (show (14 : Int) ≠ 8 from by decide) (show (14 : Int) ≠ 9 from by decide) <| ZhI (by omega) <| ZG (show (18 : Int) ≠ 8 from by decide) (show (18 : Int) ≠ 9 from by decide) <| ZG (show (1 : Int) ≠ 8 from by decide) (show (1 : Int) ≠ 9 from by decide) <| ZG (show (17 : Int) ≠ 8 from by decide) (show (17 : Int) ≠ 9 from by decide) <| trivial
theorem Zr3 : Zkt ZqG Zc5 = true := by kernel_rfl
theorem ZsI : Zd7 ZqG 22 = [] := ZfK (by kernel_rfl)
theorem Zsl {a0 a1 a2 a3 : Int} (N : Nat) (h0 : 0 ≤ a0) (h1 : a0 ≤ 400) (h2 : 0 ≤ a1) (h3 : a1 ≤ 3) (h4 : -1099511627776 ≤ a2) (h5 : a2 ≤ 1099511627776) (h6 : 1 ≤ a3) (h7 : a3 ≤ 1099511627776) (b : Nat) (hb : a0 = (b : Int)) : Good (List.replicate b ZbO ++ Za6 a0 a1 a2 a3) N :=
 Zg7 (tg := Zc5) (by rw [Zc4]; decide) (by rw [Zc4]; omega) (Ztf N h0 h1 h2 h3 h4 h5 h6 h7) Zr3 ZsI (Zku (Ztg b hb))
theorem ZsJ : ZiY ZqG = true := by kernel_rfl
theorem Zth : nBl ZqG 22 = 1 := by kernel_rfl
theorem Zr4 {a0 a1 a2 a3 : Int} {N : Nat} (hN : 2000 ≤ N) (h0 : 0 ≤ a0) (h1 : a0 ≤ 400) (h2 : 0 ≤ a1) (h3 : a1 ≤ 3) (h4 : -1099511627776 ≤ a2) (h5 : a2 ≤ 1099511627776) (h6 : 1 ≤ a3) (h7 : a3 ≤ 1099511627776) : Zz (Za6 a0 a1 a2 a3) a0 N = some (.r0 true) := by
 obtain ⟨b, rfl⟩ : ∃ b : Nat, a0 = (b : Int) := ⟨a0.toNat, by omega⟩
 exact Zhn (Zsl N h0 h1 h2 h3 h4 h5 h6 h7 b rfl) hN ZsJ Zth (by omega) (by rw [Zc4]; decide) (by rw [Zc4]; decide)
def Zx (a0 a1 : Int) : List RA := [(⟨(10 : Int), (0 : Int), (0 : Int), (0 : Int)⟩ : RA), (⟨(1 : Int), (1 : Int), (0 : Int), (0 : Int)⟩ : RA), (⟨(1 : Int), (2 : Int), (0 : Int), (0 : Int)⟩ : RA), (⟨(1 : Int), (3 : Int), (1 : Int), (0 : Int)⟩ : RA), (⟨(15 : Int), (0 : Int), (0 : Int), (0 : Int)⟩ : RA), (⟨(13 : Int), (4 : Int), (0 : Int), ((2 : Int) * a1)⟩ : RA), (⟨(9 : Int), (4 : Int), (a0 + (18 : Int)), (0 : Int)⟩ : RA), (⟨(13 : Int), (7 : Int), (4 : Int), (1 : Int)⟩ : RA), (⟨(13 : Int), (5 : Int), (4 : Int), (0 : Int)⟩ : RA), (⟨(14 : Int), (0 : Int), ((2 : Int) * a1), (5 : Int)⟩ : RA), (⟨(9 : Int), (5 : Int), (a0 + (12 : Int)), (0 : Int)⟩ : RA), (⟨(8 : Int), (a0 + (13 : Int)), (0 : Int), (0 : Int)⟩ : RA), (⟨(14 : Int), (0 : Int), (((2 : Int) * a1) + (1 : Int)), (5 : Int)⟩ : RA), (⟨(13 : Int), (6 : Int), (0 : Int), ((8 : Int) + a1)⟩ : RA), (⟨(5 : Int), (6 : Int), (6 : Int), (3 : Int)⟩ : RA), (⟨(14 : Int), (0 : Int), ((8 : Int) + a1), (6 : Int)⟩ : RA), (⟨(12 : Int), (4 : Int), (0 : Int), (0 : Int)⟩ : RA), (⟨(8 : Int), (a0 + (19 : Int)), (0 : Int), (0 : Int)⟩ : RA), (⟨(18 : Int), (0 : Int), (0 : Int), (0 : Int)⟩ : RA), (⟨(17 : Int), (0 : Int), (0 : Int), (0 : Int)⟩ : RA)]
theorem Zad (a0 a1 : Int) : (Zx a0 a1).length = 20 := rfl
theorem ZsK {a0 a1 : Int} (N : Nat) (h0 : 0 ≤ a0) (h1 : a0 ≤ 400) (h2 : 0 ≤ a1) (h3 : a1 ≤ 3) : ∀ x ∈ Zx a0 a1, ZaR x.a0 x.a1 x.a2 x.a3 N = some (.r0 true) :=
  all_cons (Z4 (op := 10) (A := 0) (B := 0) (C := 0) rfl (f1 (by omega) (by omega)) (f0 (by omega)) (f0 (by omega))) <|
  all_cons (Z4 (op := 1) (A := 1) (B := 0) (C := 0) rfl (f1 (by omega) (by omega)) (f2 (by omega) (by omega)) (f0 (by omega))) <|
  all_cons (Z4 (op := 1) (A := 2) (B := 0) (C := 0) rfl (f1 (by omega) (by omega)) (f2 (by omega) (by omega)) (f0 (by omega))) <|
  all_cons (Z4 (op := 1) (A := 3) (B := 1) (C := 0) rfl (f1 (by omega) (by omega)) (f2 (by omega) (by omega)) (f0 (by omega))) <|
  all_cons (Z4 (op := 15) (A := 0) (B := 0) (C := 0) rfl (f0 (by omega)) (f0 (by omega)) (f0 (by omega))) <|
  all_cons (Z4 (op := 13) (A := 4) (B := 0) (C := (2 : Int) * a1) rfl (f1 (by omega) (by omega)) (f1 (by omega) (by omega)) (f4 (by omega) (by omega))) <|
  all_cons (Z4 (op := 9) (A := 4) (B := a0 + (18 : Int)) (C := 0) rfl (f1 (by omega) (by omega)) (f3 (by omega) (by omega)) (f0 (by omega))) <|
  all_cons (Z4 (op := 13) (A := 7) (B := 4) (C := 1) rfl (f1 (by omega) (by omega)) (f1 (by omega) (by omega)) (f4 (by omega) (by omega))) <|
  all_cons (Z4 (op := 13) (A := 5) (B := 4) (C := 0) rfl (f1 (by omega) (by omega)) (f1 (by omega) (by omega)) (f4 (by omega) (by omega))) <|
  all_cons (Z4 (op := 14) (A := 0) (B := (2 : Int) * a1) (C := 5) rfl (f1 (by omega) (by omega)) (f4 (by omega) (by omega)) (f1 (by omega) (by omega))) <|
  all_cons (Z4 (op := 9) (A := 5) (B := a0 + (12 : Int)) (C := 0) rfl (f1 (by omega) (by omega)) (f3 (by omega) (by omega)) (f0 (by omega))) <|
  all_cons (Z4 (op := 8) (A := a0 + (13 : Int)) (B := 0) (C := 0) rfl (f3 (by omega) (by omega)) (f0 (by omega)) (f0 (by omega))) <|
  all_cons (Z4 (op := 14) (A := 0) (B := ((2 : Int) * a1) + (1 : Int)) (C := 5) rfl (f1 (by omega) (by omega)) (f4 (by omega) (by omega)) (f1 (by omega) (by omega))) <|
  all_cons (Z4 (op := 13) (A := 6) (B := 0) (C := (8 : Int) + a1) rfl (f1 (by omega) (by omega)) (f1 (by omega) (by omega)) (f4 (by omega) (by omega))) <|
  all_cons (Z4 (op := 5) (A := 6) (B := 6) (C := 3) rfl (f1 (by omega) (by omega)) (f1 (by omega) (by omega)) (f1 (by omega) (by omega))) <|
  all_cons (Z4 (op := 14) (A := 0) (B := (8 : Int) + a1) (C := 6) rfl (f1 (by omega) (by omega)) (f4 (by omega) (by omega)) (f1 (by omega) (by omega))) <|
  all_cons (Z4 (op := 12) (A := 4) (B := 0) (C := 0) rfl (f1 (by omega) (by omega)) (f0 (by omega)) (f0 (by omega))) <|
  all_cons (Z4 (op := 8) (A := a0 + (19 : Int)) (B := 0) (C := 0) rfl (f3 (by omega) (by omega)) (f0 (by omega)) (f0 (by omega))) <|
  all_cons (Z4 (op := 18) (A := 0) (B := 0) (C := 0) rfl (f0 (by omega)) (f0 (by omega)) (f0 (by omega))) <|
  all_cons (Z4 (op := 17) (A := 0) (B := 0) (C := 0) rfl (f0 (by omega)) (f0 (by omega)) (f0 (by omega))) <|
  Zk7
def ZnQ : List Int := [10, 1, 1, 1, 15, 13, 9, 13, 13, 14, 9, 8, 14, 13, 5, 14, 12, 8, 18, 17]
def ZqH : List Nat := [0, 0, 0, 0, 0, 0, 18, 0, 0, 0, 12, 13, 0, 0, 0, 0, 0, 19, 0, 0]
theorem ZsL {a0 a1 : Int} (b : Nat) (hb : a0 = (b : Int)) : Zgr (b : Int) (Zx a0 a1) ZqH :=
  ZG (show (10 : Int) ≠ 8 from by decide) (show (10 : Int) ≠ 9 from by decide) <| ZG (show (1 : Int) ≠ 8 from by decide) (show (1 : Int) ≠ 9 from by decide) <| ZG (show (1 : Int) ≠ 8 from by decide) (show (1 : Int) ≠ 9 from by decide) <| ZG (show (1 : Int) ≠ 8 from by decide) (show (1 : Int) ≠ 9 from by decide) <| ZG (show (15 : Int) ≠ 8 from by decide) (show (15 : Int) ≠ 9 from by decide) <| ZG (show (13 : Int) ≠ 8 from by decide) (show (13 : Int) ≠ 9 from by decide) <| ZhJ (by omega) <| ZG (show (13 : Int) ≠ 8 from by decide) (show (13 : Int) ≠ 9 from by decide) <| ZG (show (13 : Int) ≠ 8 from by decide) (show (13 : Int) ≠ 9 from by decide) <| ZG (show (14 : Int) ≠ 8 from by decide) (show (14 : Int) ≠ 9 from by decide) <| ZhJ (by omega) <| ZhI (by omega) <| ZG (show (14 : Int) ≠ 8 from by decide) (show (14 : Int) ≠ 9 from by decide) <| ZG (show (13 : Int) ≠ 8 from by decide) (show (13 : Int) ≠ 9 from by decide) <| ZG (show (5 : Int) ≠ 8 from by decide) (show (5 : Int) ≠ 9 from by decide) <| ZG (show (14 : Int) ≠ 8 from by decide) (show (14 : Int) ≠ 9 from by decide) <| ZG (show (12 : Int) ≠ 8 from by decide) (show (12 : Int) ≠ 9 from by decide) <| ZhI (by omega) <| ZG (show (18 : Int) ≠ 8 from by decide) (show (18 : Int) ≠ 9 from by decide) <| ZG (show (17 : Int) ≠ 8 from by decide) (show (17 : Int) ≠ 9 from by decide) <| trivial
theorem ZqI : Zkt ZnQ ZqH = true := by kernel_rfl
theorem Zsm : Zd7 ZnQ 20 = [] := ZfK (by kernel_rfl)
theorem Zr5 {a0 a1 : Int} (N : Nat) (h0 : 0 ≤ a0) (h1 : a0 ≤ 400) (h2 : 0 ≤ a1) (h3 : a1 ≤ 3) (b : Nat) (hb : a0 = (b : Int)) : Good (List.replicate b ZbO ++ Zx a0 a1) N :=
 Zg7 (tg := ZqH) (by rw [Zad]; decide) (by rw [Zad]; omega) (ZsK N h0 h1 h2 h3) ZqI Zsm (Zku (ZsL b hb))
theorem Zsn : ZiY ZnQ = true := by kernel_rfl
theorem ZsM : nBl ZnQ 20 = 1 := by kernel_rfl
theorem Zi7 {a0 a1 : Int} {N : Nat} (hN : 2000 ≤ N) (h0 : 0 ≤ a0) (h1 : a0 ≤ 400) (h2 : 0 ≤ a1) (h3 : a1 ≤ 3) : Zz (Zx a0 a1) a0 N = some (.r0 true) := by
 obtain ⟨b, rfl⟩ : ∃ b : Nat, a0 = (b : Int) := ⟨a0.toNat, by omega⟩
 exact Zhn (Zr5 N h0 h1 h2 h3 b rfl) hN Zsn ZsM (by omega) (by rw [Zad]; decide) (by rw [Zad]; decide)
def ZT (a0 a1 a2 : Int) : List RA := [(⟨(10 : Int), (0 : Int), (0 : Int), (0 : Int)⟩ : RA), (⟨(1 : Int), (1 : Int), a2, (0 : Int)⟩ : RA), (⟨(1 : Int), (2 : Int), (0 : Int), (0 : Int)⟩ : RA), (⟨(1 : Int), (3 : Int), (1 : Int), (0 : Int)⟩ : RA), (⟨(15 : Int), (0 : Int), (0 : Int), (0 : Int)⟩ : RA), (⟨(13 : Int), (4 : Int), (0 : Int), ((2 : Int) * a1)⟩ : RA), (⟨(9 : Int), (4 : Int), (a0 + (18 : Int)), (0 : Int)⟩ : RA), (⟨(13 : Int), (7 : Int), (4 : Int), (1 : Int)⟩ : RA), (⟨(13 : Int), (5 : Int), (4 : Int), (0 : Int)⟩ : RA), (⟨(14 : Int), (0 : Int), ((2 : Int) * a1), (5 : Int)⟩ : RA), (⟨(9 : Int), (5 : Int), (a0 + (12 : Int)), (0 : Int)⟩ : RA), (⟨(8 : Int), (a0 + (13 : Int)), (0 : Int), (0 : Int)⟩ : RA), (⟨(14 : Int), (0 : Int), (((2 : Int) * a1) + (1 : Int)), (5 : Int)⟩ : RA), (⟨(13 : Int), (6 : Int), (0 : Int), ((8 : Int) + a1)⟩ : RA), (⟨(5 : Int), (6 : Int), (6 : Int), (3 : Int)⟩ : RA), (⟨(14 : Int), (0 : Int), ((8 : Int) + a1), (6 : Int)⟩ : RA), (⟨(12 : Int), (4 : Int), (0 : Int), (0 : Int)⟩ : RA), (⟨(8 : Int), (a0 + (19 : Int)), (0 : Int), (0 : Int)⟩ : RA), (⟨(1 : Int), (7 : Int), a2, (0 : Int)⟩ : RA), (⟨(17 : Int), (0 : Int), (0 : Int), (0 : Int)⟩ : RA)]
theorem Zbj (a0 a1 a2 : Int) : (ZT a0 a1 a2).length = 20 := rfl
theorem Zti {a0 a1 a2 : Int} (N : Nat) (h0 : 0 ≤ a0) (h1 : a0 ≤ 400) (h2 : 0 ≤ a1) (h3 : a1 ≤ 3) (h4 : -1099511627776 ≤ a2) (h5 : a2 ≤ 1099511627776) : ∀ x ∈ ZT a0 a1 a2, ZaR x.a0 x.a1 x.a2 x.a3 N = some (.r0 true) :=
  all_cons (Z4 (op := 10) (A := 0) (B := 0) (C := 0) rfl (f1 (by omega) (by omega)) (f0 (by omega)) (f0 (by omega))) <|
  all_cons (Z4 (op := 1) (A := 1) (B := a2) (C := 0) rfl (f1 (by omega) (by omega)) (f2 (by omega) (by omega)) (f0 (by omega))) <|
  all_cons (Z4 (op := 1) (A := 2) (B := 0) (C := 0) rfl (f1 (by omega) (by omega)) (f2 (by omega) (by omega)) (f0 (by omega))) <|
  all_cons (Z4 (op := 1) (A := 3) (B := 1) (C := 0) rfl (f1 (by omega) (by omega)) (f2 (by omega) (by omega)) (f0 (by omega))) <|
  all_cons (Z4 (op := 15) (A := 0) (B := 0) (C := 0) rfl (f0 (by omega)) (f0 (by omega)) (f0 (by omega))) <|
  all_cons (Z4 (op := 13) (A := 4) (B := 0) (C := (2 : Int) * a1) rfl (f1 (by omega) (by omega)) (f1 (by omega) (by omega)) (f4 (by omega) (by omega))) <|
  all_cons (Z4 (op := 9) (A := 4) (B := a0 + (18 : Int)) (C := 0) rfl (f1 (by omega) (by omega)) (f3 (by omega) (by omega)) (f0 (by omega))) <|
  all_cons (Z4 (op := 13) (A := 7) (B := 4) (C := 1) rfl (f1 (by omega) (by omega)) (f1 (by omega) (by omega)) (f4 (by omega) (by omega))) <|
  all_cons (Z4 (op := 13) (A := 5) (B := 4) (C := 0) rfl (f1 (by omega) (by omega)) (f1 (by omega) (by omega)) (f4 (by omega) (by omega))) <|
  all_cons (Z4 (op := 14) (A := 0) (B := (2 : Int) * a1) (C := 5) rfl (f1 (by omega) (by omega)) (f4 (by omega) (by omega)) (f1 (by omega) (by omega))) <|
  all_cons (Z4 (op := 9) (A := 5) (B := a0 + (12 : Int)) (C := 0) rfl (f1 (by omega) (by omega)) (f3 (by omega) (by omega)) (f0 (by omega))) <|
  all_cons (Z4 (op := 8) (A := a0 + (13 : Int)) (B := 0) (C := 0) rfl (f3 (by omega) (by omega)) (f0 (by omega)) (f0 (by omega))) <|
  all_cons (Z4 (op := 14) (A := 0) (B := ((2 : Int) * a1) + (1 : Int)) (C := 5) rfl (f1 (by omega) (by omega)) (f4 (by omega) (by omega)) (f1 (by omega) (by omega))) <|
  all_cons (Z4 (op := 13) (A := 6) (B := 0) (C := (8 : Int) + a1) rfl (f1 (by omega) (by omega)) (f1 (by omega) (by omega)) (f4 (by omega) (by omega))) <|
  all_cons (Z4 (op := 5) (A := 6) (B := 6) (C := 3) rfl (f1 (by omega) (by omega)) (f1 (by omega) (by omega)) (f1 (by omega) (by omega))) <|
  all_cons (Z4 (op := 14) (A := 0) (B := (8 : Int) + a1) (C := 6) rfl (f1 (by omega) (by omega)) (f4 (by omega) (by omega)) (f1 (by omega) (by omega))) <|
  all_cons (Z4 (op := 12) (A := 4) (B := 0) (C := 0) rfl (f1 (by omega) (by omega)) (f0 (by omega)) (f0 (by omega))) <|
  all_cons (Z4 (op := 8) (A := a0 + (19 : Int)) (B := 0) (C := 0) rfl (f3 (by omega) (by omega)) (f0 (by omega)) (f0 (by omega))) <|
  all_cons (Z4 (op := 1) (A := 7) (B := a2) (C := 0) rfl (f1 (by omega) (by omega)) (f2 (by omega) (by omega)) (f0 (by omega))) <|
  all_cons (Z4 (op := 17) (A := 0) (B := 0) (C := 0) rfl (f0 (by omega)) (f0 (by omega)) (f0 (by omega))) <|
  Zk7
def ZqJ : List Int := [10, 1, 1, 1, 15, 13, 9, 13, 13, 14, 9, 8, 14, 13, 5, 14, 12, 8, 1, 17]
def Zso : List Nat := [0, 0, 0, 0, 0, 0, 18, 0, 0, 0, 12, 13, 0, 0, 0, 0, 0, 19, 0, 0]
theorem Ztj {a0 a1 a2 : Int} (b : Nat) (hb : a0 = (b : Int)) : Zgr (b : Int) (ZT a0 a1 a2) Zso :=
  ZG (show (10 : Int) ≠ 8 from by decide) (show (10 : Int) ≠ 9 from by decide) <| ZG (show (1 : Int) ≠ 8 from by decide) (show (1 : Int) ≠ 9 from by decide) <| ZG (show (1 : Int) ≠ 8 from by decide) (show (1 : Int) ≠ 9 from by decide) <| ZG (show (1 : Int) ≠ 8 from by decide) (show (1 : Int) ≠ 9 from by decide) <| ZG (show (15 : Int) ≠ 8 from by decide) (show (15 : Int) ≠ 9 from by decide) <| ZG (show (13 : Int) ≠ 8 from by decide) (show (13 : Int) ≠ 9 from by decide) <| ZhJ (by omega) <| ZG (show (13 : Int) ≠ 8 from by decide) (show (13 : Int) ≠ 9 from by decide) <| ZG (show (13 : Int) ≠ 8 from by decide) (show (13 : Int) ≠ 9 from by decide) <| ZG (show (14 : Int) ≠ 8 from by decide) (show (14 : Int) ≠ 9 from by decide) <| ZhJ (by omega) <| ZhI (by omega) <| ZG (show (14 : Int) ≠ 8 from by decide) (show (14 : Int) ≠ 9 from by decide) <| ZG (show (13 : Int) ≠ 8 from by decide) (show (13 : Int) ≠ 9 from by decide) <| ZG (show (5 : Int) ≠ 8 from by decide) (show (5 : Int) ≠ 9 from by decide) <| ZG (show (14 : Int) ≠ 8 from by decide) (show (14 : Int) ≠ 9 from by decide) <| ZG (show (12 : Int) ≠ 8 from by decide) (show (12 : Int) ≠ 9 from by decide) <| ZhI (by omega) <| ZG (show (1 : Int) ≠ 8 from by decide) (show (1 : Int) ≠ 9 from by decide) <| ZG (show (17 : Int) ≠ 8 from by decide) (show (17 : Int) ≠ 9 from by decide) <| trivial
theorem Zr6 : Zkt ZqJ Zso = true := by kernel_rfl
theorem ZsN : Zd7 ZqJ 20 = [] := ZfK (by kernel_rfl)
theorem Zsp {a0 a1 a2 : Int} (N : Nat) (h0 : 0 ≤ a0) (h1 : a0 ≤ 400) (h2 : 0 ≤ a1) (h3 : a1 ≤ 3) (h4 : -1099511627776 ≤ a2) (h5 : a2 ≤ 1099511627776) (b : Nat) (hb : a0 = (b : Int)) : Good (List.replicate b ZbO ++ ZT a0 a1 a2) N :=
 Zg7 (tg := Zso) (by rw [Zbj]; decide) (by rw [Zbj]; omega) (Zti N h0 h1 h2 h3 h4 h5) Zr6 ZsN (Zku (Ztj b hb))
theorem ZsO : ZiY ZqJ = true := by kernel_rfl
theorem Ztk : nBl ZqJ 20 = 1 := by kernel_rfl
theorem Zpb {a0 a1 a2 : Int} {N : Nat} (hN : 2000 ≤ N) (h0 : 0 ≤ a0) (h1 : a0 ≤ 400) (h2 : 0 ≤ a1) (h3 : a1 ≤ 3) (h4 : -1099511627776 ≤ a2) (h5 : a2 ≤ 1099511627776) : Zz (ZT a0 a1 a2) a0 N = some (.r0 true) := by
 obtain ⟨b, rfl⟩ : ∃ b : Nat, a0 = (b : Int) := ⟨a0.toNat, by omega⟩
 exact Zhn (Zsp N h0 h1 h2 h3 h4 h5 b rfl) hN ZsO Ztk (by omega) (by rw [Zbj]; decide) (by rw [Zbj]; decide)
def Zah (a0 a1 a2 a3 : Int) : List RA := [(⟨(10 : Int), (0 : Int), (0 : Int), (0 : Int)⟩ : RA), (⟨(1 : Int), (1 : Int), (0 : Int), (0 : Int)⟩ : RA), (⟨(1 : Int), (2 : Int), a3, (0 : Int)⟩ : RA), (⟨(1 : Int), (3 : Int), (1 : Int), (0 : Int)⟩ : RA), (⟨(15 : Int), (0 : Int), (0 : Int), (0 : Int)⟩ : RA), (⟨(13 : Int), (4 : Int), (0 : Int), ((2 : Int) * a1)⟩ : RA), (⟨(9 : Int), (4 : Int), (a0 + (18 : Int)), (0 : Int)⟩ : RA), (⟨(13 : Int), (7 : Int), (4 : Int), (1 : Int)⟩ : RA), (⟨(13 : Int), (5 : Int), (4 : Int), (0 : Int)⟩ : RA), (⟨(14 : Int), (0 : Int), ((2 : Int) * a1), (5 : Int)⟩ : RA), (⟨(9 : Int), (5 : Int), (a0 + (12 : Int)), (0 : Int)⟩ : RA), (⟨(8 : Int), (a0 + (13 : Int)), (0 : Int), (0 : Int)⟩ : RA), (⟨(14 : Int), (0 : Int), (((2 : Int) * a1) + (1 : Int)), (5 : Int)⟩ : RA), (⟨(13 : Int), (6 : Int), (0 : Int), ((8 : Int) + a1)⟩ : RA), (⟨(5 : Int), (6 : Int), (6 : Int), (3 : Int)⟩ : RA), (⟨(14 : Int), (0 : Int), ((8 : Int) + a1), (6 : Int)⟩ : RA), (⟨(12 : Int), (4 : Int), (0 : Int), (0 : Int)⟩ : RA), (⟨(8 : Int), (a0 + (19 : Int)), (0 : Int), (0 : Int)⟩ : RA), (⟨(18 : Int), (0 : Int), (0 : Int), (0 : Int)⟩ : RA), (⟨(13 : Int), (6 : Int), (0 : Int), ((8 : Int) + a2)⟩ : RA), (⟨(6 : Int), (5 : Int), (6 : Int), (2 : Int)⟩ : RA), (⟨(9 : Int), (5 : Int), (a0 + (33 : Int)), (0 : Int)⟩ : RA), (⟨(11 : Int), (4 : Int), (2 : Int), (1 : Int)⟩ : RA), (⟨(14 : Int), (4 : Int), (1 : Int), (7 : Int)⟩ : RA), (⟨(13 : Int), (5 : Int), (0 : Int), (((2 : Int) * a2) + (1 : Int))⟩ : RA), (⟨(9 : Int), (5 : Int), (a0 + (28 : Int)), (0 : Int)⟩ : RA), (⟨(14 : Int), (5 : Int), (0 : Int), (4 : Int)⟩ : RA), (⟨(8 : Int), (a0 + (29 : Int)), (0 : Int), (0 : Int)⟩ : RA), (⟨(14 : Int), (0 : Int), ((2 : Int) * a2), (4 : Int)⟩ : RA), (⟨(14 : Int), (0 : Int), (((2 : Int) * a2) + (1 : Int)), (4 : Int)⟩ : RA), (⟨(4 : Int), (6 : Int), (6 : Int), (3 : Int)⟩ : RA), (⟨(14 : Int), (0 : Int), ((8 : Int) + a2), (6 : Int)⟩ : RA), (⟨(8 : Int), (a0 + (34 : Int)), (0 : Int), (0 : Int)⟩ : RA), (⟨(18 : Int), (0 : Int), (0 : Int), (0 : Int)⟩ : RA), (⟨(17 : Int), (0 : Int), (0 : Int), (0 : Int)⟩ : RA)]
theorem Zcl (a0 a1 a2 a3 : Int) : (Zah a0 a1 a2 a3).length = 35 := rfl
theorem ZsP {a0 a1 a2 a3 : Int} (N : Nat) (h0 : 0 ≤ a0) (h1 : a0 ≤ 400) (h2 : 0 ≤ a1) (h3 : a1 ≤ 3) (h4 : 0 ≤ a2) (h5 : a2 ≤ 3) (h6 : 1 ≤ a3) (h7 : a3 ≤ 1099511627776) : ∀ x ∈ Zah a0 a1 a2 a3, ZaR x.a0 x.a1 x.a2 x.a3 N = some (.r0 true) :=
  all_cons (Z4 (op := 10) (A := 0) (B := 0) (C := 0) rfl (f1 (by omega) (by omega)) (f0 (by omega)) (f0 (by omega))) <|
  all_cons (Z4 (op := 1) (A := 1) (B := 0) (C := 0) rfl (f1 (by omega) (by omega)) (f2 (by omega) (by omega)) (f0 (by omega))) <|
  all_cons (Z4 (op := 1) (A := 2) (B := a3) (C := 0) rfl (f1 (by omega) (by omega)) (f2 (by omega) (by omega)) (f0 (by omega))) <|
  all_cons (Z4 (op := 1) (A := 3) (B := 1) (C := 0) rfl (f1 (by omega) (by omega)) (f2 (by omega) (by omega)) (f0 (by omega))) <|
  all_cons (Z4 (op := 15) (A := 0) (B := 0) (C := 0) rfl (f0 (by omega)) (f0 (by omega)) (f0 (by omega))) <|
  all_cons (Z4 (op := 13) (A := 4) (B := 0) (C := (2 : Int) * a1) rfl (f1 (by omega) (by omega)) (f1 (by omega) (by omega)) (f4 (by omega) (by omega))) <|
  all_cons (Z4 (op := 9) (A := 4) (B := a0 + (18 : Int)) (C := 0) rfl (f1 (by omega) (by omega)) (f3 (by omega) (by omega)) (f0 (by omega))) <|
  all_cons (Z4 (op := 13) (A := 7) (B := 4) (C := 1) rfl (f1 (by omega) (by omega)) (f1 (by omega) (by omega)) (f4 (by omega) (by omega))) <|
  all_cons (Z4 (op := 13) (A := 5) (B := 4) (C := 0) rfl (f1 (by omega) (by omega)) (f1 (by omega) (by omega)) (f4 (by omega) (by omega))) <|
  all_cons (Z4 (op := 14) (A := 0) (B := (2 : Int) * a1) (C := 5) rfl (f1 (by omega) (by omega)) (f4 (by omega) (by omega)) (f1 (by omega) (by omega))) <|
  all_cons (Z4 (op := 9) (A := 5) (B := a0 + (12 : Int)) (C := 0) rfl (f1 (by omega) (by omega)) (f3 (by omega) (by omega)) (f0 (by omega))) <|
  all_cons (Z4 (op := 8) (A := a0 + (13 : Int)) (B := 0) (C := 0) rfl (f3 (by omega) (by omega)) (f0 (by omega)) (f0 (by omega))) <|
  all_cons (Z4 (op := 14) (A := 0) (B := ((2 : Int) * a1) + (1 : Int)) (C := 5) rfl (f1 (by omega) (by omega)) (f4 (by omega) (by omega)) (f1 (by omega) (by omega))) <|
  all_cons (Z4 (op := 13) (A := 6) (B := 0) (C := (8 : Int) + a1) rfl (f1 (by omega) (by omega)) (f1 (by omega) (by omega)) (f4 (by omega) (by omega))) <|
  all_cons (Z4 (op := 5) (A := 6) (B := 6) (C := 3) rfl (f1 (by omega) (by omega)) (f1 (by omega) (by omega)) (f1 (by omega) (by omega))) <|
  all_cons (Z4 (op := 14) (A := 0) (B := (8 : Int) + a1) (C := 6) rfl (f1 (by omega) (by omega)) (f4 (by omega) (by omega)) (f1 (by omega) (by omega))) <|
  all_cons (Z4 (op := 12) (A := 4) (B := 0) (C := 0) rfl (f1 (by omega) (by omega)) (f0 (by omega)) (f0 (by omega))) <|
  all_cons (Z4 (op := 8) (A := a0 + (19 : Int)) (B := 0) (C := 0) rfl (f3 (by omega) (by omega)) (f0 (by omega)) (f0 (by omega))) <|
  all_cons (Z4 (op := 18) (A := 0) (B := 0) (C := 0) rfl (f0 (by omega)) (f0 (by omega)) (f0 (by omega))) <|
  all_cons (Z4 (op := 13) (A := 6) (B := 0) (C := (8 : Int) + a2) rfl (f1 (by omega) (by omega)) (f1 (by omega) (by omega)) (f4 (by omega) (by omega))) <|
  all_cons (Z4 (op := 6) (A := 5) (B := 6) (C := 2) rfl (f1 (by omega) (by omega)) (f1 (by omega) (by omega)) (f1 (by omega) (by omega))) <|
  all_cons (Z4 (op := 9) (A := 5) (B := a0 + (33 : Int)) (C := 0) rfl (f1 (by omega) (by omega)) (f3 (by omega) (by omega)) (f0 (by omega))) <|
  all_cons (Z4 (op := 11) (A := 4) (B := 2) (C := 1) rfl (f1 (by omega) (by omega)) (f5 (by omega) (by omega)) ((by rfl))) <|
  all_cons (Z4 (op := 14) (A := 4) (B := 1) (C := 7) rfl (f1 (by omega) (by omega)) (f4 (by omega) (by omega)) (f1 (by omega) (by omega))) <|
  all_cons (Z4 (op := 13) (A := 5) (B := 0) (C := ((2 : Int) * a2) + (1 : Int)) rfl (f1 (by omega) (by omega)) (f1 (by omega) (by omega)) (f4 (by omega) (by omega))) <|
  all_cons (Z4 (op := 9) (A := 5) (B := a0 + (28 : Int)) (C := 0) rfl (f1 (by omega) (by omega)) (f3 (by omega) (by omega)) (f0 (by omega))) <|
  all_cons (Z4 (op := 14) (A := 5) (B := 0) (C := 4) rfl (f1 (by omega) (by omega)) (f4 (by omega) (by omega)) (f1 (by omega) (by omega))) <|
  all_cons (Z4 (op := 8) (A := a0 + (29 : Int)) (B := 0) (C := 0) rfl (f3 (by omega) (by omega)) (f0 (by omega)) (f0 (by omega))) <|
  all_cons (Z4 (op := 14) (A := 0) (B := (2 : Int) * a2) (C := 4) rfl (f1 (by omega) (by omega)) (f4 (by omega) (by omega)) (f1 (by omega) (by omega))) <|
  all_cons (Z4 (op := 14) (A := 0) (B := ((2 : Int) * a2) + (1 : Int)) (C := 4) rfl (f1 (by omega) (by omega)) (f4 (by omega) (by omega)) (f1 (by omega) (by omega))) <|
  all_cons (Z4 (op := 4) (A := 6) (B := 6) (C := 3) rfl (f1 (by omega) (by omega)) (f1 (by omega) (by omega)) (f1 (by omega) (by omega))) <|
  all_cons (Z4 (op := 14) (A := 0) (B := (8 : Int) + a2) (C := 6) rfl (f1 (by omega) (by omega)) (f4 (by omega) (by omega)) (f1 (by omega) (by omega))) <|
  all_cons (Z4 (op := 8) (A := a0 + (34 : Int)) (B := 0) (C := 0) rfl (f3 (by omega) (by omega)) (f0 (by omega)) (f0 (by omega))) <|
  all_cons (Z4 (op := 18) (A := 0) (B := 0) (C := 0) rfl (f0 (by omega)) (f0 (by omega)) (f0 (by omega))) <|
  all_cons (Z4 (op := 17) (A := 0) (B := 0) (C := 0) rfl (f0 (by omega)) (f0 (by omega)) (f0 (by omega))) <|
  Zk7
def ZnR : List Int := [10, 1, 1, 1, 15, 13, 9, 13, 13, 14, 9, 8, 14, 13, 5, 14, 12, 8, 18, 13, 6, 9, 11, 14, 13, 9, 14, 8, 14, 14, 4, 14, 8, 18, 17]
def ZqK : List Nat := [0, 0, 0, 0, 0, 0, 18, 0, 0, 0, 12, 13, 0, 0, 0, 0, 0, 19, 0, 0, 0, 33, 0, 0, 0, 28, 0, 29, 0, 0, 0, 0, 34, 0, 0]
theorem ZsQ {a0 a1 a2 a3 : Int} (b : Nat) (hb : a0 = (b : Int)) : Zgr (b : Int) (Zah a0 a1 a2 a3) ZqK :=
  ZG (show (10 : Int) ≠ 8 from by decide) (show (10 : Int) ≠ 9 from by decide) <| ZG (show (1 : Int) ≠ 8 from by decide) (show (1 : Int) ≠ 9 from by decide) <| ZG (show (1 : Int) ≠ 8 from by decide) (show (1 : Int) ≠ 9 from by decide) <| ZG (show (1 : Int) ≠ 8 from by decide) (show (1 : Int) ≠ 9 from by decide) <| ZG (show (15 : Int) ≠ 8 from by decide) (show (15 : Int) ≠ 9 from by decide) <| ZG (show (13 : Int) ≠ 8 from by decide) (show (13 : Int) ≠ 9 from by decide) <| ZhJ (by omega) <| ZG (show (13 : Int) ≠ 8 from by decide) (show (13 : Int) ≠ 9 from by decide) <| ZG (show (13 : Int) ≠ 8 from by decide) (show (13 : Int) ≠ 9 from by decide) <| ZG (show (14 : Int) ≠ 8 from by decide) (show (14 : Int) ≠ 9 from by decide) <| ZhJ (by omega) <| ZhI (by omega) <| ZG (show (14 : Int) ≠ 8 from by decide) (show (14 : Int) ≠ 9 from by decide) <| ZG (show (13 : Int) ≠ 8 from by decide) (show (13 : Int) ≠ 9 from by decide) <| ZG (show (5 : Int) ≠ 8 from by decide) (show (5 : Int) ≠ 9 from by decide) <| ZG (show (14 : Int) ≠ 8 from by decide) (show (14 : Int) ≠ 9 from by decide) <| ZG (show (12 : Int) ≠ 8 from by decide) (show (12 : Int) ≠ 9 from by decide) <| ZhI (by omega) <| ZG (show (18 : Int) ≠ 8 from by decide) (show (18 : Int) ≠ 9 from by decide) <| ZG (show (13 : Int) ≠ 8 from by decide) (show (13 : Int) ≠ 9 from by decide) <| ZG (show (6 : Int) ≠ 8 from by decide) (show (6 : Int) ≠ 9 from by decide) <| ZhJ (by omega) <| ZG (show (11 : Int) ≠ 8 from by decide) (show (11 : Int) ≠ 9 from by decide) <| ZG (show (14 : Int) ≠ 8 from by decide) (show (14 : Int) ≠ 9 from by decide) <| ZG (show (13 : Int) ≠ 8 from by decide) (show (13 : Int) ≠ 9 from by decide) <| ZhJ (by omega) <| ZG (show (14 : Int) ≠ 8 from by decide) (show (14 : Int) ≠ 9 from by decide) <| ZhI (by omega) <| ZG (show (14 : Int) ≠ 8 from by decide) (show (14 : Int) ≠ 9 from by decide) <| ZG (show (14 : Int) ≠ 8 from by decide) (show (14 : Int) ≠ 9 from by decide) <| ZG (show (4 : Int) ≠ 8 from by decide) (show (4 : Int) ≠ 9 from by decide) <| ZG (show (14 : Int) ≠ 8 from by decide) (show (14 : Int) ≠ 9 from by decide) <| ZhI (by omega) <| ZG (show (18 : Int) ≠ 8 from by decide) (show (18 : Int) ≠ 9 from by decide) <| ZG (show (17 : Int) ≠ 8 from by decide) (show (17 : Int) ≠ 9 from by decide) <| trivial
theorem ZqL : Zkt ZnR ZqK = true := by kernel_rfl
theorem Zsq : Zd7 ZnR 35 = [] := ZfK (by kernel_rfl)
theorem Zr7 {a0 a1 a2 a3 : Int} (N : Nat) (h0 : 0 ≤ a0) (h1 : a0 ≤ 400) (h2 : 0 ≤ a1) (h3 : a1 ≤ 3) (h4 : 0 ≤ a2) (h5 : a2 ≤ 3) (h6 : 1 ≤ a3) (h7 : a3 ≤ 1099511627776) (b : Nat) (hb : a0 = (b : Int)) : Good (List.replicate b ZbO ++ Zah a0 a1 a2 a3) N :=
 Zg7 (tg := ZqK) (by rw [Zcl]; decide) (by rw [Zcl]; omega) (ZsP N h0 h1 h2 h3 h4 h5 h6 h7) ZqL Zsq (Zku (ZsQ b hb))
theorem Zsr : ZiY ZnR = true := by kernel_rfl
theorem ZsR : nBl ZnR 35 = 1 := by kernel_rfl
theorem ZpZ {a0 a1 a2 a3 : Int} {N : Nat} (hN : 2000 ≤ N) (h0 : 0 ≤ a0) (h1 : a0 ≤ 400) (h2 : 0 ≤ a1) (h3 : a1 ≤ 3) (h4 : 0 ≤ a2) (h5 : a2 ≤ 3) (h6 : 1 ≤ a3) (h7 : a3 ≤ 1099511627776) : Zz (Zah a0 a1 a2 a3) a0 N = some (.r0 true) := by
 obtain ⟨b, rfl⟩ : ∃ b : Nat, a0 = (b : Int) := ⟨a0.toNat, by omega⟩
 exact Zhn (Zr7 N h0 h1 h2 h3 h4 h5 h6 h7 b rfl) hN Zsr ZsR (by omega) (by rw [Zcl]; decide) (by rw [Zcl]; decide)
end Pc
end Ev
end Go.Proofs.YtpfmkkookmofcaaGreat
/- The law's rounds, and the law: plain. -/
namespace Go.Proofs.YtpfmkkookmofcaaGreat
open Go.RowKit
namespace Ev
namespace Pc
set_option linter.unusedVariables false
set_option linter.unusedSimpArgs false
set_option maxRecDepth 100000
def Nx {X R : Type} (ok : X → Prop) (fin : R → Prop) (o : Option (X ⊕ R)) : Prop := (∃ y, o = some (.inl y) ∧ ok y) ∨ ∃ r, o = some (.inr r) ∧ fin r
section
variable {a0 a1 a2 a3 a4 : Int} {N : Nat}
theorem mA0  (h0 : (0 ≤ a0 ∧ a0 ≤ 400 ∧ 0 ≤ a1 ∧ a1 ≤ 3)) (h1 : (-1099511627776 ≤ a3 ∧ a3 ≤ 1099511627776)) (h2 : (1 ≤ a4 ∧ a4 ≤ 1099511627776)) (h3 : (0 ≤ a2 ∧ a2 ≤ 3)) (s0 : Zz (Za6 a0 a1 a3 a4) a0 N = some (.r0 true)) : ZbZ a0 a1 a2 a3 a4 N (Za6 a0 a1 a3 a4) (Zx a0 a1) (ZT a0 a1 a3) (Zah a0 a1 a2 a4) = some (.inl (.h2m6 (Za6 a0 a1 a3 a4) (Zx a0 a1) (ZT a0 a1 a3) (Zah a0 a1 a2 a4))) := by
 unfold ZbZ
 try simp only [s0, Option.bind_some, Bool.false_eq_true, if_false, if_true, not_true_eq_false, not_false_eq_true, Zc4, Zad, Zbj, Zcl]
 repeat' split
 all_goals first|rfl|(exfalso;omega)|(simp_all;done)
theorem mA1  (h0 : (0 ≤ a0 ∧ a0 ≤ 400 ∧ 0 ≤ a1 ∧ a1 ≤ 3)) (h1 : (-1099511627776 ≤ a3 ∧ a3 ≤ 1099511627776)) (h2 : (1 ≤ a4 ∧ a4 ≤ 1099511627776)) (h3 : (0 ≤ a2 ∧ a2 ≤ 3)) (s0 : Zz (Zx a0 a1) a0 N = some (.r0 true)) : Zcf a0 a1 a2 a3 a4 N (Za6 a0 a1 a3 a4) (Zx a0 a1) (ZT a0 a1 a3) (Zah a0 a1 a2 a4) = some (.inl (.h2m12 (Za6 a0 a1 a3 a4) (Zx a0 a1) (ZT a0 a1 a3) (Zah a0 a1 a2 a4))) := by
 unfold Zcf
 try simp only [s0, Option.bind_some, Bool.false_eq_true, if_false, if_true, not_true_eq_false, not_false_eq_true, Zc4, Zad, Zbj, Zcl]
 repeat' split
 all_goals first|rfl|(exfalso;omega)|(simp_all;done)
theorem mA2  (h0 : (0 ≤ a0 ∧ a0 ≤ 400 ∧ 0 ≤ a1 ∧ a1 ≤ 3)) (h1 : (-1099511627776 ≤ a3 ∧ a3 ≤ 1099511627776)) (h2 : (1 ≤ a4 ∧ a4 ≤ 1099511627776)) (h3 : (0 ≤ a2 ∧ a2 ≤ 3)) (s0 : Zz (ZT a0 a1 a3) a0 N = some (.r0 true)) : Zb3 a0 a1 a2 a3 a4 N (Za6 a0 a1 a3 a4) (Zx a0 a1) (ZT a0 a1 a3) (Zah a0 a1 a2 a4) = some (.inl (.h2m18 (Za6 a0 a1 a3 a4) (Zx a0 a1) (ZT a0 a1 a3) (Zah a0 a1 a2 a4))) := by
 unfold Zb3
 try simp only [s0, Option.bind_some, Bool.false_eq_true, if_false, if_true, not_true_eq_false, not_false_eq_true, Zc4, Zad, Zbj, Zcl]
 repeat' split
 all_goals first|rfl|(exfalso;omega)|(simp_all;done)
theorem mA3  (h0 : (0 ≤ a0 ∧ a0 ≤ 400 ∧ 0 ≤ a1 ∧ a1 ≤ 3)) (h1 : (-1099511627776 ≤ a3 ∧ a3 ≤ 1099511627776)) (h2 : (1 ≤ a4 ∧ a4 ≤ 1099511627776)) (h3 : (0 ≤ a2 ∧ a2 ≤ 3)) (s0 : Zz (Zah a0 a1 a2 a4) a0 N = some (.r0 true)) : Zb9 a0 a1 a2 a3 a4 N (Za6 a0 a1 a3 a4) (Zx a0 a1) (ZT a0 a1 a3) (Zah a0 a1 a2 a4) = some (.inl (.h2m24 (Za6 a0 a1 a3 a4) (Zx a0 a1) (ZT a0 a1 a3) (Zah a0 a1 a2 a4))) := by
 unfold Zb9
 try simp only [s0, Option.bind_some, Bool.false_eq_true, if_false, if_true, not_true_eq_false, not_false_eq_true, Zc4, Zad, Zbj, Zcl]
 repeat' split
 all_goals first|rfl|(exfalso;omega)|(simp_all;done)
theorem mA4  (h0 : (0 ≤ a0 ∧ a0 ≤ 400 ∧ 0 ≤ a1 ∧ a1 ≤ 3)) (h1 : (-1099511627776 ≤ a3 ∧ a3 ≤ 1099511627776)) (h2 : (1 ≤ a4 ∧ a4 ≤ 1099511627776)) (h3 : (0 ≤ a2 ∧ a2 ≤ 3))  (ha : Zaz N = some .r0) : ZbF a0 a1 a2 a3 a4 N (Za6 a0 a1 a3 a4) (Zx a0 a1) (ZT a0 a1 a3) (Zah a0 a1 a2 a4) = some (.inr (.r0 true)) := by
 unfold ZbF
 try simp only [ha, Option.bind_some, Bool.false_eq_true, if_false, if_true, not_true_eq_false, not_false_eq_true, Zc4, Zad, Zbj, Zcl]
 repeat' split
 all_goals first|rfl|(exfalso;omega)|(simp_all;done)
theorem mB0  (h0 : (0 ≤ a0 ∧ a0 ≤ 400 ∧ 0 ≤ a1 ∧ a1 ≤ 3)) (h1 : (-1099511627776 ≤ a3 ∧ a3 ≤ 1099511627776)) (h2 : (1 ≤ a4 ∧ a4 ≤ 1099511627776)) (h3 : ¬ (0 ≤ a2 ∧ a2 ≤ 3)) (s0 : Zz (Za6 a0 a1 a3 a4) a0 N = some (.r0 true)) : Zca a0 a1 a2 a3 a4 N (Za6 a0 a1 a3 a4) (Zx a0 a1) (ZT a0 a1 a3) = some (.inl (.h2m7 (Za6 a0 a1 a3 a4) (Zx a0 a1) (ZT a0 a1 a3))) := by
 unfold Zca
 try simp only [s0, Option.bind_some, Bool.false_eq_true, if_false, if_true, not_true_eq_false, not_false_eq_true, Zc4, Zad, Zbj]
 repeat' split
 all_goals first|rfl|(exfalso;omega)|(simp_all;done)
theorem mB1  (h0 : (0 ≤ a0 ∧ a0 ≤ 400 ∧ 0 ≤ a1 ∧ a1 ≤ 3)) (h1 : (-1099511627776 ≤ a3 ∧ a3 ≤ 1099511627776)) (h2 : (1 ≤ a4 ∧ a4 ≤ 1099511627776)) (h3 : ¬ (0 ≤ a2 ∧ a2 ≤ 3)) (s0 : Zz (Zx a0 a1) a0 N = some (.r0 true)) : Zcg a0 a1 a2 a3 a4 N (Za6 a0 a1 a3 a4) (Zx a0 a1) (ZT a0 a1 a3) = some (.inl (.h2m13 (Za6 a0 a1 a3 a4) (Zx a0 a1) (ZT a0 a1 a3))) := by
 unfold Zcg
 try simp only [s0, Option.bind_some, Bool.false_eq_true, if_false, if_true, not_true_eq_false, not_false_eq_true, Zc4, Zad, Zbj]
 repeat' split
 all_goals first|rfl|(exfalso;omega)|(simp_all;done)
theorem mB2  (h0 : (0 ≤ a0 ∧ a0 ≤ 400 ∧ 0 ≤ a1 ∧ a1 ≤ 3)) (h1 : (-1099511627776 ≤ a3 ∧ a3 ≤ 1099511627776)) (h2 : (1 ≤ a4 ∧ a4 ≤ 1099511627776)) (h3 : ¬ (0 ≤ a2 ∧ a2 ≤ 3)) (s0 : Zz (ZT a0 a1 a3) a0 N = some (.r0 true)) : Zb4 a0 a1 a2 a3 a4 N (Za6 a0 a1 a3 a4) (Zx a0 a1) (ZT a0 a1 a3) = some (.inl (.h2m19 (Za6 a0 a1 a3 a4) (Zx a0 a1) (ZT a0 a1 a3))) := by
 unfold Zb4
 try simp only [s0, Option.bind_some, Bool.false_eq_true, if_false, if_true, not_true_eq_false, not_false_eq_true, Zc4, Zad, Zbj]
 repeat' split
 all_goals first|rfl|(exfalso;omega)|(simp_all;done)
theorem mB3  (h0 : (0 ≤ a0 ∧ a0 ≤ 400 ∧ 0 ≤ a1 ∧ a1 ≤ 3)) (h1 : (-1099511627776 ≤ a3 ∧ a3 ≤ 1099511627776)) (h2 : (1 ≤ a4 ∧ a4 ≤ 1099511627776)) (h3 : ¬ (0 ≤ a2 ∧ a2 ≤ 3))  : ZbA a0 a1 a2 a3 a4 N (Za6 a0 a1 a3 a4) (Zx a0 a1) (ZT a0 a1 a3) = some (.inl (.h2m25 (Za6 a0 a1 a3 a4) (Zx a0 a1) (ZT a0 a1 a3))) := by
 unfold ZbA
 try simp only [Option.bind_some, Bool.false_eq_true, if_false, if_true, not_true_eq_false, not_false_eq_true, Zc4, Zad, Zbj]
 repeat' split
 all_goals first|rfl|(exfalso;omega)|(simp_all;done)
theorem mB4  (h0 : (0 ≤ a0 ∧ a0 ≤ 400 ∧ 0 ≤ a1 ∧ a1 ≤ 3)) (h1 : (-1099511627776 ≤ a3 ∧ a3 ≤ 1099511627776)) (h2 : (1 ≤ a4 ∧ a4 ≤ 1099511627776)) (h3 : ¬ (0 ≤ a2 ∧ a2 ≤ 3))  (ha : Zaz N = some .r0) : ZbG a0 a1 a2 a3 a4 N (Za6 a0 a1 a3 a4) (Zx a0 a1) (ZT a0 a1 a3) = some (.inr (.r0 true)) := by
 unfold ZbG
 try simp only [ha, Option.bind_some, Bool.false_eq_true, if_false, if_true, not_true_eq_false, not_false_eq_true, Zc4, Zad, Zbj]
 repeat' split
 all_goals first|rfl|(exfalso;omega)|(simp_all;done)
theorem mD0  (h0 : (0 ≤ a0 ∧ a0 ≤ 400 ∧ 0 ≤ a1 ∧ a1 ≤ 3)) (h1 : (-1099511627776 ≤ a3 ∧ a3 ≤ 1099511627776)) (h2 : ¬ (1 ≤ a4 ∧ a4 ≤ 1099511627776))  : Zcb a0 a1 a2 a3 a4 N false (Zx a0 a1) (ZT a0 a1 a3) = some (.inl (.h2m8 (Zx a0 a1) (ZT a0 a1 a3))) := by
 unfold Zcb
 try simp only [Option.bind_some, Bool.false_eq_true, if_false, if_true, not_true_eq_false, not_false_eq_true, Zad, Zbj]
 repeat' split
 all_goals first|rfl|(exfalso;omega)|(simp_all;done)
theorem mD1  (h0 : (0 ≤ a0 ∧ a0 ≤ 400 ∧ 0 ≤ a1 ∧ a1 ≤ 3)) (h1 : (-1099511627776 ≤ a3 ∧ a3 ≤ 1099511627776)) (h2 : ¬ (1 ≤ a4 ∧ a4 ≤ 1099511627776)) (s0 : Zz (Zx a0 a1) a0 N = some (.r0 true)) : Zch a0 a1 a2 a3 a4 N (Zx a0 a1) (ZT a0 a1 a3) = some (.inl (.h2m14 (Zx a0 a1) (ZT a0 a1 a3))) := by
 unfold Zch
 try simp only [s0, Option.bind_some, Bool.false_eq_true, if_false, if_true, not_true_eq_false, not_false_eq_true, Zad, Zbj]
 repeat' split
 all_goals first|rfl|(exfalso;omega)|(simp_all;done)
theorem mD2  (h0 : (0 ≤ a0 ∧ a0 ≤ 400 ∧ 0 ≤ a1 ∧ a1 ≤ 3)) (h1 : (-1099511627776 ≤ a3 ∧ a3 ≤ 1099511627776)) (h2 : ¬ (1 ≤ a4 ∧ a4 ≤ 1099511627776)) (s0 : Zz (ZT a0 a1 a3) a0 N = some (.r0 true)) : Zb5 a0 a1 a2 a3 a4 N (Zx a0 a1) (ZT a0 a1 a3) = some (.inl (.h2m20 (Zx a0 a1) (ZT a0 a1 a3))) := by
 unfold Zb5
 try simp only [s0, Option.bind_some, Bool.false_eq_true, if_false, if_true, not_true_eq_false, not_false_eq_true, Zad, Zbj]
 repeat' split
 all_goals first|rfl|(exfalso;omega)|(simp_all;done)
theorem mD3  (h0 : (0 ≤ a0 ∧ a0 ≤ 400 ∧ 0 ≤ a1 ∧ a1 ≤ 3)) (h1 : (-1099511627776 ≤ a3 ∧ a3 ≤ 1099511627776)) (h2 : ¬ (1 ≤ a4 ∧ a4 ≤ 1099511627776))  : ZbB a0 a1 a2 a3 a4 N (Zx a0 a1) (ZT a0 a1 a3) = some (.inl (.h2m26 (Zx a0 a1) (ZT a0 a1 a3))) := by
 unfold ZbB
 try simp only [Option.bind_some, Bool.false_eq_true, if_false, if_true, not_true_eq_false, not_false_eq_true, Zad, Zbj]
 repeat' split
 all_goals first|rfl|(exfalso;omega)|(simp_all;done)
theorem mD4  (h0 : (0 ≤ a0 ∧ a0 ≤ 400 ∧ 0 ≤ a1 ∧ a1 ≤ 3)) (h1 : (-1099511627776 ≤ a3 ∧ a3 ≤ 1099511627776)) (h2 : ¬ (1 ≤ a4 ∧ a4 ≤ 1099511627776))  (ha : Zaz N = some .r0) : ZbH a0 a1 a2 a3 a4 N (Zx a0 a1) (ZT a0 a1 a3) = some (.inr (.r0 true)) := by
 unfold ZbH
 try simp only [ha, Option.bind_some, Bool.false_eq_true, if_false, if_true, not_true_eq_false, not_false_eq_true, Zad, Zbj]
 repeat' split
 all_goals first|rfl|(exfalso;omega)|(simp_all;done)
theorem mE0  (h0 : (0 ≤ a0 ∧ a0 ≤ 400 ∧ 0 ≤ a1 ∧ a1 ≤ 3)) (h1 : ¬ (-1099511627776 ≤ a3 ∧ a3 ≤ 1099511627776)) (h2 : (1 ≤ a4 ∧ a4 ≤ 1099511627776)) (h3 : (0 ≤ a2 ∧ a2 ≤ 3))  : Zcc a0 a1 a2 a3 a4 N false (Zx a0 a1) (Zah a0 a1 a2 a4) = some (.inl (.h2m9 (Zx a0 a1) (Zah a0 a1 a2 a4))) := by
 unfold Zcc
 try simp only [Option.bind_some, Bool.false_eq_true, if_false, if_true, not_true_eq_false, not_false_eq_true, Zad, Zcl]
 repeat' split
 all_goals first|rfl|(exfalso;omega)|(simp_all;done)
theorem mE1  (h0 : (0 ≤ a0 ∧ a0 ≤ 400 ∧ 0 ≤ a1 ∧ a1 ≤ 3)) (h1 : ¬ (-1099511627776 ≤ a3 ∧ a3 ≤ 1099511627776)) (h2 : (1 ≤ a4 ∧ a4 ≤ 1099511627776)) (h3 : (0 ≤ a2 ∧ a2 ≤ 3)) (s0 : Zz (Zx a0 a1) a0 N = some (.r0 true)) : Zci a0 a1 a2 a3 a4 N (Zx a0 a1) (Zah a0 a1 a2 a4) = some (.inl (.h2m15 (Zx a0 a1) (Zah a0 a1 a2 a4))) := by
 unfold Zci
 try simp only [s0, Option.bind_some, Bool.false_eq_true, if_false, if_true, not_true_eq_false, not_false_eq_true, Zad, Zcl]
 repeat' split
 all_goals first|rfl|(exfalso;omega)|(simp_all;done)
theorem mE2  (h0 : (0 ≤ a0 ∧ a0 ≤ 400 ∧ 0 ≤ a1 ∧ a1 ≤ 3)) (h1 : ¬ (-1099511627776 ≤ a3 ∧ a3 ≤ 1099511627776)) (h2 : (1 ≤ a4 ∧ a4 ≤ 1099511627776)) (h3 : (0 ≤ a2 ∧ a2 ≤ 3))  : Zb6 a0 a1 a2 a3 a4 N (Zx a0 a1) (Zah a0 a1 a2 a4) = some (.inl (.h2m21 (Zx a0 a1) (Zah a0 a1 a2 a4))) := by
 unfold Zb6
 try simp only [Option.bind_some, Bool.false_eq_true, if_false, if_true, not_true_eq_false, not_false_eq_true, Zad, Zcl]
 repeat' split
 all_goals first|rfl|(exfalso;omega)|(simp_all;done)
theorem mE3  (h0 : (0 ≤ a0 ∧ a0 ≤ 400 ∧ 0 ≤ a1 ∧ a1 ≤ 3)) (h1 : ¬ (-1099511627776 ≤ a3 ∧ a3 ≤ 1099511627776)) (h2 : (1 ≤ a4 ∧ a4 ≤ 1099511627776)) (h3 : (0 ≤ a2 ∧ a2 ≤ 3)) (s0 : Zz (Zah a0 a1 a2 a4) a0 N = some (.r0 true)) : ZbC a0 a1 a2 a3 a4 N (Zx a0 a1) (Zah a0 a1 a2 a4) = some (.inl (.h2m27 (Zx a0 a1) (Zah a0 a1 a2 a4))) := by
 unfold ZbC
 try simp only [s0, Option.bind_some, Bool.false_eq_true, if_false, if_true, not_true_eq_false, not_false_eq_true, Zad, Zcl]
 repeat' split
 all_goals first|rfl|(exfalso;omega)|(simp_all;done)
theorem mE4  (h0 : (0 ≤ a0 ∧ a0 ≤ 400 ∧ 0 ≤ a1 ∧ a1 ≤ 3)) (h1 : ¬ (-1099511627776 ≤ a3 ∧ a3 ≤ 1099511627776)) (h2 : (1 ≤ a4 ∧ a4 ≤ 1099511627776)) (h3 : (0 ≤ a2 ∧ a2 ≤ 3))  (ha : Zaz N = some .r0) : ZbI a0 a1 a2 a3 a4 N (Zx a0 a1) (Zah a0 a1 a2 a4) = some (.inr (.r0 true)) := by
 unfold ZbI
 try simp only [ha, Option.bind_some, Bool.false_eq_true, if_false, if_true, not_true_eq_false, not_false_eq_true, Zad, Zcl]
 repeat' split
 all_goals first|rfl|(exfalso;omega)|(simp_all;done)
theorem mF0 (v4 : Bool) (h0 : (0 ≤ a0 ∧ a0 ≤ 400 ∧ 0 ≤ a1 ∧ a1 ≤ 3)) (h1 : ¬ (-1099511627776 ≤ a3 ∧ a3 ≤ 1099511627776)) (h2 : (v4 = true → ¬ (0 ≤ a2 ∧ a2 ≤ 3)))  : Zcd a0 a1 a2 a3 a4 N false v4 (Zx a0 a1) = some (.inl (.h2m10 v4 (Zx a0 a1))) := by
 unfold Zcd
 try simp only [Option.bind_some, Bool.false_eq_true, if_false, if_true, not_true_eq_false, not_false_eq_true, Zad]
 repeat' split
 all_goals first|rfl|(exfalso;omega)|(simp_all;done)
theorem mF1 (v4 : Bool) (h0 : (0 ≤ a0 ∧ a0 ≤ 400 ∧ 0 ≤ a1 ∧ a1 ≤ 3)) (h1 : ¬ (-1099511627776 ≤ a3 ∧ a3 ≤ 1099511627776)) (h2 : (v4 = true → ¬ (0 ≤ a2 ∧ a2 ≤ 3))) (s0 : Zz (Zx a0 a1) a0 N = some (.r0 true)) : Zb1 a0 a1 a2 a3 a4 N v4 (Zx a0 a1) = some (.inl (.h2m16 v4 (Zx a0 a1))) := by
 unfold Zb1
 try simp only [s0, Option.bind_some, Bool.false_eq_true, if_false, if_true, not_true_eq_false, not_false_eq_true, Zad]
 repeat' split
 all_goals first|rfl|(exfalso;omega)|(simp_all;done)
theorem mF2 (v4 : Bool) (h0 : (0 ≤ a0 ∧ a0 ≤ 400 ∧ 0 ≤ a1 ∧ a1 ≤ 3)) (h1 : ¬ (-1099511627776 ≤ a3 ∧ a3 ≤ 1099511627776)) (h2 : (v4 = true → ¬ (0 ≤ a2 ∧ a2 ≤ 3)))  : Zb7 a0 a1 a2 a3 a4 N v4 (Zx a0 a1) = some (.inl (.h2m22 v4 (Zx a0 a1))) := by
 unfold Zb7
 try simp only [Option.bind_some, Bool.false_eq_true, if_false, if_true, not_true_eq_false, not_false_eq_true, Zad]
 repeat' split
 all_goals first|rfl|(exfalso;omega)|(simp_all;done)
theorem mF3 (v4 : Bool) (h0 : (0 ≤ a0 ∧ a0 ≤ 400 ∧ 0 ≤ a1 ∧ a1 ≤ 3)) (h1 : ¬ (-1099511627776 ≤ a3 ∧ a3 ≤ 1099511627776)) (h2 : (v4 = true → ¬ (0 ≤ a2 ∧ a2 ≤ 3)))  : ZbD a0 a1 a2 a3 a4 N v4 (Zx a0 a1) = some (.inl (.h2m28 v4 (Zx a0 a1))) := by
 unfold ZbD
 try simp only [Option.bind_some, Bool.false_eq_true, if_false, if_true, not_true_eq_false, not_false_eq_true, Zad]
 repeat' split
 all_goals first|rfl|(exfalso;omega)|(simp_all;done)
theorem mF4 (v4 : Bool) (h0 : (0 ≤ a0 ∧ a0 ≤ 400 ∧ 0 ≤ a1 ∧ a1 ≤ 3)) (h1 : ¬ (-1099511627776 ≤ a3 ∧ a3 ≤ 1099511627776)) (h2 : (v4 = true → ¬ (0 ≤ a2 ∧ a2 ≤ 3)))  (ha : Zaz N = some .r0) : ZbJ a0 a1 a2 a3 a4 N v4 (Zx a0 a1) = some (.inr (.r0 true)) := by
 unfold ZbJ
 try simp only [ha, Option.bind_some, Bool.false_eq_true, if_false, if_true, not_true_eq_false, not_false_eq_true, Zad]
 repeat' split
 all_goals first|rfl|(exfalso;omega)|(simp_all;done)
theorem mG0 (v3 : Bool) (v4 : Bool) (h0 : ¬ (0 ≤ a0 ∧ a0 ≤ 400 ∧ 0 ≤ a1 ∧ a1 ≤ 3))  : Zce a0 a1 a2 a3 a4 N v3 v4 = some (.inl (.h2m11 v3 v4)) := by
 unfold Zce
 try simp only [Option.bind_some, Bool.false_eq_true, if_false, if_true, not_true_eq_false, not_false_eq_true]
 repeat' split
 all_goals first|rfl|(exfalso;omega)|(simp_all;done)
theorem mG1 (v3 : Bool) (v4 : Bool) (h0 : ¬ (0 ≤ a0 ∧ a0 ≤ 400 ∧ 0 ≤ a1 ∧ a1 ≤ 3))  : Zb2 a0 a1 a2 a3 a4 N v3 v4 = some (.inl (.h2m17 v3 v4)) := by
 unfold Zb2
 try simp only [Option.bind_some, Bool.false_eq_true, if_false, if_true, not_true_eq_false, not_false_eq_true]
 repeat' split
 all_goals first|rfl|(exfalso;omega)|(simp_all;done)
theorem mG2 (v3 : Bool) (v4 : Bool) (h0 : ¬ (0 ≤ a0 ∧ a0 ≤ 400 ∧ 0 ≤ a1 ∧ a1 ≤ 3))  : Zb8 a0 a1 a2 a3 a4 N v3 v4 = some (.inl (.h2m23 v3 v4)) := by
 unfold Zb8
 try simp only [Option.bind_some, Bool.false_eq_true, if_false, if_true, not_true_eq_false, not_false_eq_true]
 repeat' split
 all_goals first|rfl|(exfalso;omega)|(simp_all;done)
theorem mG3 (v3 : Bool) (v4 : Bool) (h0 : ¬ (0 ≤ a0 ∧ a0 ≤ 400 ∧ 0 ≤ a1 ∧ a1 ≤ 3))  : ZbE a0 a1 a2 a3 a4 N v3 v4 = some (.inl (.h2m29 v3 v4)) := by
 unfold ZbE
 try simp only [Option.bind_some, Bool.false_eq_true, if_false, if_true, not_true_eq_false, not_false_eq_true]
 repeat' split
 all_goals first|rfl|(exfalso;omega)|(simp_all;done)
theorem mG4 (v3 : Bool) (v4 : Bool) (h0 : ¬ (0 ≤ a0 ∧ a0 ≤ 400 ∧ 0 ≤ a1 ∧ a1 ≤ 3))  (ha : Zaz N = some .r0) : ZbK a0 a1 a2 a3 a4 N v3 v4 = some (.inr (.r0 true)) := by
 unfold ZbK
 try simp only [ha, Option.bind_some, Bool.false_eq_true, if_false, if_true, not_true_eq_false, not_false_eq_true]
 repeat' split
 all_goals first|rfl|(exfalso;omega)|(simp_all;done)
end
theorem Zdr : Zaz 100000 = some .r0 := by kernel_rfl
theorem Znp {a0 a1 a2 a3 : Int} {N : Nat} (h0 : 0 ≤ a0) (h1 : a0 ≤ 400) (h2 : 0 ≤ a1) (h3 : a1 ≤ 3) (h4 : -1099511627776 ≤ a2) (h5 : a2 ≤ 1099511627776) (h6 : 1 ≤ a3) (h7 : a3 ≤ 1099511627776) : Zbl a0 a1 a2 a3 N = some (.r0 (Za6 a0 a1 a2 a3)) := by
 unfold Zbl
 repeat' split
 all_goals first|rfl|(exfalso;omega)
theorem ZiZ {a0 a1 a2 a3 : Int} {N : Nat} (h : ¬ (0 ≤ a0 ∧ a0 ≤ 400 ∧ 0 ≤ a1 ∧ a1 ≤ 3 ∧ -1099511627776 ≤ a2 ∧ a2 ≤ 1099511627776 ∧ 1 ≤ a3 ∧ a3 ≤ 1099511627776)) : Zbl a0 a1 a2 a3 N = some .r1 := by
 unfold Zbl
 repeat' split
 all_goals first|rfl|(exfalso;omega)
theorem Zf3 {a0 a1 : Int} {N : Nat} (h0 : 0 ≤ a0) (h1 : a0 ≤ 400) (h2 : 0 ≤ a1) (h3 : a1 ≤ 3) : ZaK a0 a1 N = some (.r0 (Zx a0 a1)) := by
 unfold ZaK
 repeat' split
 all_goals first|rfl|(exfalso;omega)
theorem Zr8 {a0 a1 : Int} {N : Nat} (h : ¬ (0 ≤ a0 ∧ a0 ≤ 400 ∧ 0 ≤ a1 ∧ a1 ≤ 3)) : ZaK a0 a1 N = some .r1 := by
 unfold ZaK
 repeat' split
 all_goals first|rfl|(exfalso;omega)
theorem Zkv {a0 a1 a2 : Int} {N : Nat} (h0 : 0 ≤ a0) (h1 : a0 ≤ 400) (h2 : 0 ≤ a1) (h3 : a1 ≤ 3) (h4 : -1099511627776 ≤ a2) (h5 : a2 ≤ 1099511627776) : ZaQ a0 a1 a2 N = some (.r0 (ZT a0 a1 a2)) := by
 unfold ZaQ
 repeat' split
 all_goals first|rfl|(exfalso;omega)
theorem ZlF {a0 a1 a2 : Int} {N : Nat} (h : ¬ (0 ≤ a0 ∧ a0 ≤ 400 ∧ 0 ≤ a1 ∧ a1 ≤ 3 ∧ -1099511627776 ≤ a2 ∧ a2 ≤ 1099511627776)) : ZaQ a0 a1 a2 N = some .r1 := by
 unfold ZaQ
 repeat' split
 all_goals first|rfl|(exfalso;omega)
theorem Zm0 {a0 a1 a2 a3 : Int} {N : Nat} (h0 : 0 ≤ a0) (h1 : a0 ≤ 400) (h2 : 0 ≤ a1) (h3 : a1 ≤ 3) (h4 : 0 ≤ a2) (h5 : a2 ≤ 3) (h6 : 1 ≤ a3) (h7 : a3 ≤ 1099511627776) : ZaB a0 a1 a2 a3 N = some (.r0 (Zah a0 a1 a2 a3)) := by
 unfold ZaB
 repeat' split
 all_goals first|rfl|(exfalso;omega)
theorem Zho {a0 a1 a2 a3 : Int} {N : Nat} (h : ¬ (0 ≤ a0 ∧ a0 ≤ 400 ∧ 0 ≤ a1 ∧ a1 ≤ 3 ∧ 0 ≤ a2 ∧ a2 ≤ 3 ∧ 1 ≤ a3 ∧ a3 ≤ 1099511627776)) : ZaB a0 a1 a2 a3 N = some .r1 := by
 unfold ZaB
 repeat' split
 all_goals first|rfl|(exfalso;omega)
theorem go5 {X R : Type} {step : X → Option (X ⊕ R)} {N : Nat} {y0 x0 x1 x2 x3 x4 : X} {r : R} (hN : 10 ≤ N) (hc : step y0 = some (.inl x0)) (h0 : step x0 = some (.inl x1)) (h1 : step x1 = some (.inl x2)) (h2 : step x2 = some (.inl x3)) (h3 : step x3 = some (.inl x4)) (h4 : step x4 = some (.inr r)) : Zc8 step N y0 = some r := by
 obtain ⟨n, rfl⟩ : ∃ n, N = n + 6 := ⟨N - 6, by omega⟩
 exact (Zar hc).trans <| (Zar h0).trans <| (Zar h1).trans <| (Zar h2).trans <| (Zar h3).trans (Zef h4)
section
variable {a0 a1 a2 a3 a4 : Int}
theorem allA (h0 : (0 ≤ a0 ∧ a0 ≤ 400 ∧ 0 ≤ a1 ∧ a1 ≤ 3)) (h1 : (-1099511627776 ≤ a3 ∧ a3 ≤ 1099511627776)) (h2 : (1 ≤ a4 ∧ a4 ≤ 1099511627776)) (h3 : (0 ≤ a2 ∧ a2 ≤ 3)) : Zbr a0 a1 a2 a3 a4 100000 = some (.r0 true) := by
 have c_put : Zbl a0 a1 a3 a4 100000 = some (.r0 (Za6 a0 a1 a3 a4)) := Znp (by omega) (by omega) (by omega) (by omega) (by omega) (by omega) (by omega) (by omega)
 have s_put : Zz (Za6 a0 a1 a3 a4) a0 100000 = some (.r0 true) := Zr4 (by decide) (by omega) (by omega) (by omega) (by omega) (by omega) (by omega) (by omega) (by omega)
 have c_take : ZaK a0 a1 100000 = some (.r0 (Zx a0 a1)) := Zf3 (by omega) (by omega) (by omega) (by omega)
 have s_take : Zz (Zx a0 a1) a0 100000 = some (.r0 true) := Zi7 (by decide) (by omega) (by omega) (by omega) (by omega)
 have c_try : ZaQ a0 a1 a3 100000 = some (.r0 (ZT a0 a1 a3)) := Zkv (by omega) (by omega) (by omega) (by omega) (by omega) (by omega)
 have s_try : Zz (ZT a0 a1 a3) a0 100000 = some (.r0 true) := Zpb (by decide) (by omega) (by omega) (by omega) (by omega) (by omega) (by omega)
 have c_pass : ZaB a0 a1 a2 a4 100000 = some (.r0 (Zah a0 a1 a2 a4)) := Zm0 (by omega) (by omega) (by omega) (by omega) (by omega) (by omega) (by omega) (by omega)
 have s_pass : Zz (Zah a0 a1 a2 a4) a0 100000 = some (.r0 true) := ZpZ (by decide) (by omega) (by omega) (by omega) (by omega) (by omega) (by omega) (by omega) (by omega)
 refine (Zd6 (x := law32_FifoFormsX.h1m0 (Za6 a0 a1 a3 a4) (Zx a0 a1) (ZT a0 a1 a3) (Zah a0 a1 a2 a4)) ?_).trans (go5 (y0 := law32_FifoFormsX.h1m0 (Za6 a0 a1 a3 a4) (Zx a0 a1) (ZT a0 a1 a3) (Zah a0 a1 a2 a4)) (x0 := law32_FifoFormsX.h2m0 (Za6 a0 a1 a3 a4) (Zx a0 a1) (ZT a0 a1 a3) (Zah a0 a1 a2 a4)) (x1 := law32_FifoFormsX.h2m6 (Za6 a0 a1 a3 a4) (Zx a0 a1) (ZT a0 a1 a3) (Zah a0 a1 a2 a4)) (x2 := law32_FifoFormsX.h2m12 (Za6 a0 a1 a3 a4) (Zx a0 a1) (ZT a0 a1 a3) (Zah a0 a1 a2 a4)) (x3 := law32_FifoFormsX.h2m18 (Za6 a0 a1 a3 a4) (Zx a0 a1) (ZT a0 a1 a3) (Zah a0 a1 a2 a4)) (x4 := law32_FifoFormsX.h2m24 (Za6 a0 a1 a3 a4) (Zx a0 a1) (ZT a0 a1 a3) (Zah a0 a1 a2 a4)) (by decide) (show ZbV a0 a1 a2 a3 a4 100000 (Za6 a0 a1 a3 a4) (Zx a0 a1) (ZT a0 a1 a3) (Zah a0 a1 a2 a4) = _ from by
  unfold ZbV
  repeat' split
  all_goals first|rfl|(exfalso;omega)) (mA0 (a0 := a0) (a1 := a1) (a2 := a2) (a3 := a3) (a4 := a4) (N := 100000)  h0 h1 h2 h3 s_put) (mA1 (a0 := a0) (a1 := a1) (a2 := a2) (a3 := a3) (a4 := a4) (N := 100000)  h0 h1 h2 h3 s_take) (mA2 (a0 := a0) (a1 := a1) (a2 := a2) (a3 := a3) (a4 := a4) (N := 100000)  h0 h1 h2 h3 s_try) (mA3 (a0 := a0) (a1 := a1) (a2 := a2) (a3 := a3) (a4 := a4) (N := 100000)  h0 h1 h2 h3 s_pass) (mA4 (a0 := a0) (a1 := a1) (a2 := a2) (a3 := a3) (a4 := a4) (N := 100000)  h0 h1 h2 h3 Zdr))
 unfold Zag
 simp only [c_put, c_take, c_try, c_pass, Option.bind_some]
 repeat' split
 all_goals first|rfl|(exfalso;omega)
theorem Z5 (h0 : (0 ≤ a0 ∧ a0 ≤ 400 ∧ 0 ≤ a1 ∧ a1 ≤ 3)) (h1 : (-1099511627776 ≤ a3 ∧ a3 ≤ 1099511627776)) (h2 : (1 ≤ a4 ∧ a4 ≤ 1099511627776)) (h3 : ¬ (0 ≤ a2 ∧ a2 ≤ 3)) : Zbr a0 a1 a2 a3 a4 100000 = some (.r0 true) := by
 have c_put : Zbl a0 a1 a3 a4 100000 = some (.r0 (Za6 a0 a1 a3 a4)) := Znp (by omega) (by omega) (by omega) (by omega) (by omega) (by omega) (by omega) (by omega)
 have s_put : Zz (Za6 a0 a1 a3 a4) a0 100000 = some (.r0 true) := Zr4 (by decide) (by omega) (by omega) (by omega) (by omega) (by omega) (by omega) (by omega) (by omega)
 have c_take : ZaK a0 a1 100000 = some (.r0 (Zx a0 a1)) := Zf3 (by omega) (by omega) (by omega) (by omega)
 have s_take : Zz (Zx a0 a1) a0 100000 = some (.r0 true) := Zi7 (by decide) (by omega) (by omega) (by omega) (by omega)
 have c_try : ZaQ a0 a1 a3 100000 = some (.r0 (ZT a0 a1 a3)) := Zkv (by omega) (by omega) (by omega) (by omega) (by omega) (by omega)
 have s_try : Zz (ZT a0 a1 a3) a0 100000 = some (.r0 true) := Zpb (by decide) (by omega) (by omega) (by omega) (by omega) (by omega) (by omega)
 have c_pass : ZaB a0 a1 a2 a4 100000 = some .r1 := Zho (by omega)
 refine (Zd6 (x := law32_FifoFormsX.h1m1 (Za6 a0 a1 a3 a4) (Zx a0 a1) (ZT a0 a1 a3)) ?_).trans (go5 (y0 := law32_FifoFormsX.h1m1 (Za6 a0 a1 a3 a4) (Zx a0 a1) (ZT a0 a1 a3)) (x0 := law32_FifoFormsX.h2m1 (Za6 a0 a1 a3 a4) (Zx a0 a1) (ZT a0 a1 a3)) (x1 := law32_FifoFormsX.h2m7 (Za6 a0 a1 a3 a4) (Zx a0 a1) (ZT a0 a1 a3)) (x2 := law32_FifoFormsX.h2m13 (Za6 a0 a1 a3 a4) (Zx a0 a1) (ZT a0 a1 a3)) (x3 := law32_FifoFormsX.h2m19 (Za6 a0 a1 a3 a4) (Zx a0 a1) (ZT a0 a1 a3)) (x4 := law32_FifoFormsX.h2m25 (Za6 a0 a1 a3 a4) (Zx a0 a1) (ZT a0 a1 a3)) (by decide) (show ZbW a0 a1 a2 a3 a4 100000 (Za6 a0 a1 a3 a4) (Zx a0 a1) (ZT a0 a1 a3) = _ from by
  unfold ZbW
  repeat' split
  all_goals first|rfl|(exfalso;omega)) (mB0 (a0 := a0) (a1 := a1) (a2 := a2) (a3 := a3) (a4 := a4) (N := 100000)  h0 h1 h2 h3 s_put) (mB1 (a0 := a0) (a1 := a1) (a2 := a2) (a3 := a3) (a4 := a4) (N := 100000)  h0 h1 h2 h3 s_take) (mB2 (a0 := a0) (a1 := a1) (a2 := a2) (a3 := a3) (a4 := a4) (N := 100000)  h0 h1 h2 h3 s_try) (mB3 (a0 := a0) (a1 := a1) (a2 := a2) (a3 := a3) (a4 := a4) (N := 100000)  h0 h1 h2 h3 ) (mB4 (a0 := a0) (a1 := a1) (a2 := a2) (a3 := a3) (a4 := a4) (N := 100000)  h0 h1 h2 h3 Zdr))
 unfold Zag
 simp only [c_put, c_take, c_try, c_pass, Option.bind_some]
 repeat' split
 all_goals first|rfl|(exfalso;omega)
theorem allD (h0 : (0 ≤ a0 ∧ a0 ≤ 400 ∧ 0 ≤ a1 ∧ a1 ≤ 3)) (h1 : (-1099511627776 ≤ a3 ∧ a3 ≤ 1099511627776)) (h2 : ¬ (1 ≤ a4 ∧ a4 ≤ 1099511627776)) : Zbr a0 a1 a2 a3 a4 100000 = some (.r0 true) := by
 have c_put : Zbl a0 a1 a3 a4 100000 = some .r1 := ZiZ (by omega)
 have c_take : ZaK a0 a1 100000 = some (.r0 (Zx a0 a1)) := Zf3 (by omega) (by omega) (by omega) (by omega)
 have s_take : Zz (Zx a0 a1) a0 100000 = some (.r0 true) := Zi7 (by decide) (by omega) (by omega) (by omega) (by omega)
 have c_try : ZaQ a0 a1 a3 100000 = some (.r0 (ZT a0 a1 a3)) := Zkv (by omega) (by omega) (by omega) (by omega) (by omega) (by omega)
 have s_try : Zz (ZT a0 a1 a3) a0 100000 = some (.r0 true) := Zpb (by decide) (by omega) (by omega) (by omega) (by omega) (by omega) (by omega)
 have c_pass : ZaB a0 a1 a2 a4 100000 = some .r1 := Zho (by omega)
 refine (Zd6 (x := law32_FifoFormsX.h1m3 (Zx a0 a1) (ZT a0 a1 a3)) ?_).trans (go5 (y0 := law32_FifoFormsX.h1m3 (Zx a0 a1) (ZT a0 a1 a3)) (x0 := law32_FifoFormsX.h2m2 false (Zx a0 a1) (ZT a0 a1 a3)) (x1 := law32_FifoFormsX.h2m8 (Zx a0 a1) (ZT a0 a1 a3)) (x2 := law32_FifoFormsX.h2m14 (Zx a0 a1) (ZT a0 a1 a3)) (x3 := law32_FifoFormsX.h2m20 (Zx a0 a1) (ZT a0 a1 a3)) (x4 := law32_FifoFormsX.h2m26 (Zx a0 a1) (ZT a0 a1 a3)) (by decide) (show ZbX a0 a1 a2 a3 a4 100000 (Zx a0 a1) (ZT a0 a1 a3) = _ from by
  unfold ZbX
  repeat' split
  all_goals first|rfl|(exfalso;omega)) (mD0 (a0 := a0) (a1 := a1) (a2 := a2) (a3 := a3) (a4 := a4) (N := 100000)  h0 h1 h2 ) (mD1 (a0 := a0) (a1 := a1) (a2 := a2) (a3 := a3) (a4 := a4) (N := 100000)  h0 h1 h2 s_take) (mD2 (a0 := a0) (a1 := a1) (a2 := a2) (a3 := a3) (a4 := a4) (N := 100000)  h0 h1 h2 s_try) (mD3 (a0 := a0) (a1 := a1) (a2 := a2) (a3 := a3) (a4 := a4) (N := 100000)  h0 h1 h2 ) (mD4 (a0 := a0) (a1 := a1) (a2 := a2) (a3 := a3) (a4 := a4) (N := 100000)  h0 h1 h2 Zdr))
 unfold Zag
 simp only [c_put, c_take, c_try, c_pass, Option.bind_some]
 repeat' split
 all_goals first|rfl|(exfalso;omega)
theorem allE (h0 : (0 ≤ a0 ∧ a0 ≤ 400 ∧ 0 ≤ a1 ∧ a1 ≤ 3)) (h1 : ¬ (-1099511627776 ≤ a3 ∧ a3 ≤ 1099511627776)) (h2 : (1 ≤ a4 ∧ a4 ≤ 1099511627776)) (h3 : (0 ≤ a2 ∧ a2 ≤ 3)) : Zbr a0 a1 a2 a3 a4 100000 = some (.r0 true) := by
 have c_put : Zbl a0 a1 a3 a4 100000 = some .r1 := ZiZ (by omega)
 have c_take : ZaK a0 a1 100000 = some (.r0 (Zx a0 a1)) := Zf3 (by omega) (by omega) (by omega) (by omega)
 have s_take : Zz (Zx a0 a1) a0 100000 = some (.r0 true) := Zi7 (by decide) (by omega) (by omega) (by omega) (by omega)
 have c_try : ZaQ a0 a1 a3 100000 = some .r1 := ZlF (by omega)
 have c_pass : ZaB a0 a1 a2 a4 100000 = some (.r0 (Zah a0 a1 a2 a4)) := Zm0 (by omega) (by omega) (by omega) (by omega) (by omega) (by omega) (by omega) (by omega)
 have s_pass : Zz (Zah a0 a1 a2 a4) a0 100000 = some (.r0 true) := ZpZ (by decide) (by omega) (by omega) (by omega) (by omega) (by omega) (by omega) (by omega) (by omega)
 refine (Zd6 (x := law32_FifoFormsX.h1m4 (Zx a0 a1) (Zah a0 a1 a2 a4)) ?_).trans (go5 (y0 := law32_FifoFormsX.h1m4 (Zx a0 a1) (Zah a0 a1 a2 a4)) (x0 := law32_FifoFormsX.h2m3 false (Zx a0 a1) (Zah a0 a1 a2 a4)) (x1 := law32_FifoFormsX.h2m9 (Zx a0 a1) (Zah a0 a1 a2 a4)) (x2 := law32_FifoFormsX.h2m15 (Zx a0 a1) (Zah a0 a1 a2 a4)) (x3 := law32_FifoFormsX.h2m21 (Zx a0 a1) (Zah a0 a1 a2 a4)) (x4 := law32_FifoFormsX.h2m27 (Zx a0 a1) (Zah a0 a1 a2 a4)) (by decide) (show ZbY a0 a1 a2 a3 a4 100000 (Zx a0 a1) (Zah a0 a1 a2 a4) = _ from by
  unfold ZbY
  repeat' split
  all_goals first|rfl|(exfalso;omega)) (mE0 (a0 := a0) (a1 := a1) (a2 := a2) (a3 := a3) (a4 := a4) (N := 100000)  h0 h1 h2 h3 ) (mE1 (a0 := a0) (a1 := a1) (a2 := a2) (a3 := a3) (a4 := a4) (N := 100000)  h0 h1 h2 h3 s_take) (mE2 (a0 := a0) (a1 := a1) (a2 := a2) (a3 := a3) (a4 := a4) (N := 100000)  h0 h1 h2 h3 ) (mE3 (a0 := a0) (a1 := a1) (a2 := a2) (a3 := a3) (a4 := a4) (N := 100000)  h0 h1 h2 h3 s_pass) (mE4 (a0 := a0) (a1 := a1) (a2 := a2) (a3 := a3) (a4 := a4) (N := 100000)  h0 h1 h2 h3 Zdr))
 unfold Zag
 simp only [c_put, c_take, c_try, c_pass, Option.bind_some]
 repeat' split
 all_goals first|rfl|(exfalso;omega)
theorem allF (h0 : (0 ≤ a0 ∧ a0 ≤ 400 ∧ 0 ≤ a1 ∧ a1 ≤ 3)) (h1 : ¬ (-1099511627776 ≤ a3 ∧ a3 ≤ 1099511627776)) (h2 : ¬ ((1 ≤ a4 ∧ a4 ≤ 1099511627776) ∧ (0 ≤ a2 ∧ a2 ≤ 3))) : Zbr a0 a1 a2 a3 a4 100000 = some (.r0 true) := by
 have c_put : Zbl a0 a1 a3 a4 100000 = some .r1 := ZiZ (by omega)
 have c_take : ZaK a0 a1 100000 = some (.r0 (Zx a0 a1)) := Zf3 (by omega) (by omega) (by omega) (by omega)
 have s_take : Zz (Zx a0 a1) a0 100000 = some (.r0 true) := Zi7 (by decide) (by omega) (by omega) (by omega) (by omega)
 have c_try : ZaQ a0 a1 a3 100000 = some .r1 := ZlF (by omega)
 have c_pass : ZaB a0 a1 a2 a4 100000 = some .r1 := Zho (by omega)
 by_cases g : (1 ≤ a4 ∧ a4 ≤ 1099511627776)
 ·
  refine (Zd6 (x := law32_FifoFormsX.h1m5 (Zx a0 a1)) ?_).trans (go5 (y0 := law32_FifoFormsX.h1m5 (Zx a0 a1)) (x0 := law32_FifoFormsX.h2m4 false true (Zx a0 a1)) (x1 := law32_FifoFormsX.h2m10 true (Zx a0 a1)) (x2 := law32_FifoFormsX.h2m16 true (Zx a0 a1)) (x3 := law32_FifoFormsX.h2m22 true (Zx a0 a1)) (x4 := law32_FifoFormsX.h2m28 true (Zx a0 a1)) (by decide) (show ZaN a0 a1 a2 a3 a4 100000 (Zx a0 a1) = _ from by
   unfold ZaN
   repeat' split
   all_goals first|rfl|(exfalso;omega)) (mF0 (a0 := a0) (a1 := a1) (a2 := a2) (a3 := a3) (a4 := a4) (N := 100000) true h0 h1 (fun _ => by omega) ) (mF1 (a0 := a0) (a1 := a1) (a2 := a2) (a3 := a3) (a4 := a4) (N := 100000) true h0 h1 (fun _ => by omega) s_take) (mF2 (a0 := a0) (a1 := a1) (a2 := a2) (a3 := a3) (a4 := a4) (N := 100000) true h0 h1 (fun _ => by omega) ) (mF3 (a0 := a0) (a1 := a1) (a2 := a2) (a3 := a3) (a4 := a4) (N := 100000) true h0 h1 (fun _ => by omega) ) (mF4 (a0 := a0) (a1 := a1) (a2 := a2) (a3 := a3) (a4 := a4) (N := 100000) true h0 h1 (fun _ => by omega) Zdr))
  unfold Zag
  simp only [c_put, c_take, c_try, c_pass, Option.bind_some]
  repeat' split
  all_goals first|rfl|(exfalso;omega)
 ·
  refine (Zd6 (x := law32_FifoFormsX.h1m5 (Zx a0 a1)) ?_).trans (go5 (y0 := law32_FifoFormsX.h1m5 (Zx a0 a1)) (x0 := law32_FifoFormsX.h2m4 false false (Zx a0 a1)) (x1 := law32_FifoFormsX.h2m10 false (Zx a0 a1)) (x2 := law32_FifoFormsX.h2m16 false (Zx a0 a1)) (x3 := law32_FifoFormsX.h2m22 false (Zx a0 a1)) (x4 := law32_FifoFormsX.h2m28 false (Zx a0 a1)) (by decide) (show ZaN a0 a1 a2 a3 a4 100000 (Zx a0 a1) = _ from by
   unfold ZaN
   repeat' split
   all_goals first|rfl|(exfalso;omega)) (mF0 (a0 := a0) (a1 := a1) (a2 := a2) (a3 := a3) (a4 := a4) (N := 100000) false h0 h1 (fun q => by cases q) ) (mF1 (a0 := a0) (a1 := a1) (a2 := a2) (a3 := a3) (a4 := a4) (N := 100000) false h0 h1 (fun q => by cases q) s_take) (mF2 (a0 := a0) (a1 := a1) (a2 := a2) (a3 := a3) (a4 := a4) (N := 100000) false h0 h1 (fun q => by cases q) ) (mF3 (a0 := a0) (a1 := a1) (a2 := a2) (a3 := a3) (a4 := a4) (N := 100000) false h0 h1 (fun q => by cases q) ) (mF4 (a0 := a0) (a1 := a1) (a2 := a2) (a3 := a3) (a4 := a4) (N := 100000) false h0 h1 (fun q => by cases q) Zdr))
  unfold Zag
  simp only [c_put, c_take, c_try, c_pass, Option.bind_some]
  repeat' split
  all_goals first|rfl|(exfalso;omega)
theorem allG (h0 : ¬ (0 ≤ a0 ∧ a0 ≤ 400 ∧ 0 ≤ a1 ∧ a1 ≤ 3)) : Zbr a0 a1 a2 a3 a4 100000 = some (.r0 true) := by
 have c_put : Zbl a0 a1 a3 a4 100000 = some .r1 := ZiZ (by omega)
 have c_take : ZaK a0 a1 100000 = some .r1 := Zr8 (by omega)
 have c_try : ZaQ a0 a1 a3 100000 = some .r1 := ZlF (by omega)
 have c_pass : ZaB a0 a1 a2 a4 100000 = some .r1 := Zho (by omega)
 by_cases g : (1 ≤ a4 ∧ a4 ≤ 1099511627776) <;> by_cases g' : (-1099511627776 ≤ a3 ∧ a3 ≤ 1099511627776)
 ·
  refine (Zd6 (x := law32_FifoFormsX.h1m6 ) ?_).trans (go5 (y0 := law32_FifoFormsX.h1m6 ) (x0 := law32_FifoFormsX.h2m5 true true) (x1 := law32_FifoFormsX.h2m11 true true) (x2 := law32_FifoFormsX.h2m17 true true) (x3 := law32_FifoFormsX.h2m23 true true) (x4 := law32_FifoFormsX.h2m29 true true) (by decide) (show Zac a0 a1 a2 a3 a4 100000  = _ from by
   unfold Zac
   repeat' split
   all_goals first|rfl|(exfalso;omega)) (mG0 (a0 := a0) (a1 := a1) (a2 := a2) (a3 := a3) (a4 := a4) (N := 100000) true true h0 ) (mG1 (a0 := a0) (a1 := a1) (a2 := a2) (a3 := a3) (a4 := a4) (N := 100000) true true h0 ) (mG2 (a0 := a0) (a1 := a1) (a2 := a2) (a3 := a3) (a4 := a4) (N := 100000) true true h0 ) (mG3 (a0 := a0) (a1 := a1) (a2 := a2) (a3 := a3) (a4 := a4) (N := 100000) true true h0 ) (mG4 (a0 := a0) (a1 := a1) (a2 := a2) (a3 := a3) (a4 := a4) (N := 100000) true true h0 Zdr))
  unfold Zag
  simp only [c_put, c_take, c_try, c_pass, Option.bind_some]
  repeat' split
  all_goals first|rfl|(exfalso;omega)
 ·
  refine (Zd6 (x := law32_FifoFormsX.h1m6 ) ?_).trans (go5 (y0 := law32_FifoFormsX.h1m6 ) (x0 := law32_FifoFormsX.h2m5 false true) (x1 := law32_FifoFormsX.h2m11 false true) (x2 := law32_FifoFormsX.h2m17 false true) (x3 := law32_FifoFormsX.h2m23 false true) (x4 := law32_FifoFormsX.h2m29 false true) (by decide) (show Zac a0 a1 a2 a3 a4 100000  = _ from by
   unfold Zac
   repeat' split
   all_goals first|rfl|(exfalso;omega)) (mG0 (a0 := a0) (a1 := a1) (a2 := a2) (a3 := a3) (a4 := a4) (N := 100000) false true h0 ) (mG1 (a0 := a0) (a1 := a1) (a2 := a2) (a3 := a3) (a4 := a4) (N := 100000) false true h0 ) (mG2 (a0 := a0) (a1 := a1) (a2 := a2) (a3 := a3) (a4 := a4) (N := 100000) false true h0 ) (mG3 (a0 := a0) (a1 := a1) (a2 := a2) (a3 := a3) (a4 := a4) (N := 100000) false true h0 ) (mG4 (a0 := a0) (a1 := a1) (a2 := a2) (a3 := a3) (a4 := a4) (N := 100000) false true h0 Zdr))
  unfold Zag
  simp only [c_put, c_take, c_try, c_pass, Option.bind_some]
  repeat' split
  all_goals first|rfl|(exfalso;omega)
 ·
  refine (Zd6 (x := law32_FifoFormsX.h1m6 ) ?_).trans (go5 (y0 := law32_FifoFormsX.h1m6 ) (x0 := law32_FifoFormsX.h2m5 true false) (x1 := law32_FifoFormsX.h2m11 true false) (x2 := law32_FifoFormsX.h2m17 true false) (x3 := law32_FifoFormsX.h2m23 true false) (x4 := law32_FifoFormsX.h2m29 true false) (by decide) (show Zac a0 a1 a2 a3 a4 100000  = _ from by
   unfold Zac
   repeat' split
   all_goals first|rfl|(exfalso;omega)) (mG0 (a0 := a0) (a1 := a1) (a2 := a2) (a3 := a3) (a4 := a4) (N := 100000) true false h0 ) (mG1 (a0 := a0) (a1 := a1) (a2 := a2) (a3 := a3) (a4 := a4) (N := 100000) true false h0 ) (mG2 (a0 := a0) (a1 := a1) (a2 := a2) (a3 := a3) (a4 := a4) (N := 100000) true false h0 ) (mG3 (a0 := a0) (a1 := a1) (a2 := a2) (a3 := a3) (a4 := a4) (N := 100000) true false h0 ) (mG4 (a0 := a0) (a1 := a1) (a2 := a2) (a3 := a3) (a4 := a4) (N := 100000) true false h0 Zdr))
  unfold Zag
  simp only [c_put, c_take, c_try, c_pass, Option.bind_some]
  repeat' split
  all_goals first|rfl|(exfalso;omega)
 ·
  refine (Zd6 (x := law32_FifoFormsX.h1m6 ) ?_).trans (go5 (y0 := law32_FifoFormsX.h1m6 ) (x0 := law32_FifoFormsX.h2m5 false false) (x1 := law32_FifoFormsX.h2m11 false false) (x2 := law32_FifoFormsX.h2m17 false false) (x3 := law32_FifoFormsX.h2m23 false false) (x4 := law32_FifoFormsX.h2m29 false false) (by decide) (show Zac a0 a1 a2 a3 a4 100000  = _ from by
   unfold Zac
   repeat' split
   all_goals first|rfl|(exfalso;omega)) (mG0 (a0 := a0) (a1 := a1) (a2 := a2) (a3 := a3) (a4 := a4) (N := 100000) false false h0 ) (mG1 (a0 := a0) (a1 := a1) (a2 := a2) (a3 := a3) (a4 := a4) (N := 100000) false false h0 ) (mG2 (a0 := a0) (a1 := a1) (a2 := a2) (a3 := a3) (a4 := a4) (N := 100000) false false h0 ) (mG3 (a0 := a0) (a1 := a1) (a2 := a2) (a3 := a3) (a4 := a4) (N := 100000) false false h0 ) (mG4 (a0 := a0) (a1 := a1) (a2 := a2) (a3 := a3) (a4 := a4) (N := 100000) false false h0 Zdr))
  unfold Zag
  simp only [c_put, c_take, c_try, c_pass, Option.bind_some]
  repeat' split
  all_goals first|rfl|(exfalso;omega)
end
theorem runs (a0 a1 a2 a3 a4 : Int) : Zbr a0 a1 a2 a3 a4 100000 = some (.r0 true) := by
 by_cases hp : (0 ≤ a0 ∧ a0 ≤ 400 ∧ 0 ≤ a1 ∧ a1 ≤ 3)
 ·by_cases hn : (-1099511627776 ≤ a3 ∧ a3 ≤ 1099511627776)
  ·by_cases hc : (1 ≤ a4 ∧ a4 ≤ 1099511627776)
   ·by_cases ht : (0 ≤ a2 ∧ a2 ≤ 3)
    ·exact allA hp hn hc ht
    ·exact Z5 hp hn hc ht
   ·exact allD hp hn hc
  ·by_cases hc : (1 ≤ a4 ∧ a4 ≤ 1099511627776) ∧ (0 ≤ a2 ∧ a2 ≤ 3)
   ·exact allE hp hn hc.1 hc.2
   ·exact allF hp hn hc
 ·exact allG hp
end Pc
end Ev
end Go.Proofs.YtpfmkkookmofcaaGreat
/- A region that draws its order, whose first operations only read (and make memory in calls), and whose last ones, in a forced order among themselves, make and write new memory: but these may come up early. -/
namespace Go.Proofs.YtpfmkkookmofcaaGreat
open Go.RowKit

section
variable {P : Program}

def Calm (P : Program) (W : World) (o : Oper) (a : Act) (v : Value) : Prop :=
 ∀ w, Below W.heap.size W w → o.quietAt P a (fun w' => Below w.heap.size w w') w v

def YieldsC (P : Program) (ops : Array Oper) (W : World) (o : Oper) (v : Value) (a : Act) : Prop :=
 (Region.wanted o (yielded ops a.tmps) = true ∧ Calm P W o a v) ∨ (Region.wanted o (yielded ops a.tmps) = false ∧ v = undef)
theorem Znq {a b c : World} (h : Below a.heap.size a b) (k : Below b.heap.size b c) : Below a.heap.size a c := h.trans (k.mono h.size)

def Closed (md : Region.Mode) (ops : Array Oper) (listed : Array Bool) : Prop :=
 ∀ j oj, ops[j]? = some oj → listed.getD j false = true → ∀ e ∈ oj.after, Region.binds md e = true → listed.getD e.on false = true
def Zpc (md : Region.Mode) (ops : Array Oper) : Nat → Nat → Nat → Bool
 | 0, _, _ => false
 | f + 1, t, i => Region.waitsFor md ops t i || (List.range ops.size).any fun k => Region.waitsFor md ops t k && Zpc md ops f k i
theorem Closed.waits {md : Region.Mode} {ops : Array Oper} {listed : Array Bool} (h : Closed md ops listed) : ∀ (f t i : Nat), listed.getD t false = true → Zpc md ops f t i = true → listed.getD i false = true
 | 0, _, _, _, hw => by cases hw
 | f + 1, t, i, ht, hw => by
  simp only [Zpc, Bool.or_eq_true, List.any_eq_true, Bool.and_eq_true] at hw
  rcases hw with hw | ⟨k, _, hw, hr⟩
  ·obtain ⟨o, ho, e, he, hb, rfl⟩ := Region.waitsFor_spec hw
   exact h t o ho ht e he hb
  ·obtain ⟨o, ho, e, he, hb, rfl⟩ := Region.waitsFor_spec hw
   exact h.waits f e.on i (h t o ho ht e he hb) hr

theorem YieldsC.wpOp {ops : Array Oper} {W : World} {i : Nat} {o : Oper} {v : Value} {a : Act} {w : World} (hi : ops[i]? = some o) (hy : YieldsC P ops W o v a) (hb : Below W.heap.size W w)
  {K : Act → World → Prop} {Q : Exit → Act → World → Prop} (h : ∀ w', Below w.heap.size w w' → K (a.put o.dst v) w') : wpOp P ops Q i K a w := by
 unfold Go.wpOp
 simp only [hi]
 rcases hy with ⟨hw, hv⟩ | ⟨hw, rfl⟩
 ·simp only [hw, if_true]
  exact .inl (Oper.wp_of_quiet (C := fun w' => Below w.heap.size w w') (K := fun a' => a' = a.put o.dst v) (Below.refl _ _) (fun a' w' hw' ha => by subst ha; exact h w' hw')
   ⟨v, fun w1 hw1 => by
    have h1 := hv w1 (Znq hb hw1)
    unfold Oper.quietAt at h1 ⊢
    generalize (execOp a.eval o).run P w1 = r at *
    cases r with
    | ok n w' =>
     cases n <;> simp only [Oper.quietUpon] at h1 ⊢
     case value u => exact h1
     case skip => exact h1
     case enter f args => exact ⟨h1.1, h1.2.mono fun e w2 ⟨he, hb2⟩ => ⟨he, Znq hw1 hb2⟩⟩
    | halt x w' => simp only [Oper.quietUpon] at h1, rfl⟩)
 ·simp only [hw, Bool.false_eq_true, if_false]
  exact h w (Below.refl _ _)

end
end Go.Proofs.YtpfmkkookmofcaaGreat
/- The law FifoForms, for every input. -/
namespace Go.Proofs.YtpfmkkookmofcaaGreat
open Go.ChangeShapes Go.WideShapes Go.ChangeAt Go.RowKit
namespace Ev
namespace FifoForms
set_option linter.unusedVariables false
theorem own : ownKnob Tryz.prog.godebug = none := by kernel_rfl
set_option maxRecDepth 100000 in
theorem lifted (os : Os) (started : os.Started) (H : Type) (enc : TypeId × Value → H) :
  ReturnsInHanded {} Tryz.checked os 3 .any (Rows.fifoFormsSpec.pre6 enc Tryz.prog Tryz.f3 Rows.fifoFormsRow.domain false) (Rows.fifoFormsSpec.post enc Tryz.prog Tryz.f3 false true false false) := by
 refine Zrk (C := Tryz.checked) own started (by kernel_rfl) Tryz.func3 rfl rfl Tryz.underlying4 ?_ (by kernel_rfl) (by kernel_rfl)
  (ChangeSpec.witness6 (enc := enc) (C := Tryz.checked) false ⟨#[], #[.int .i64 0, .int .i64 0, .int .i64 0, .int .i64 0, .int .i64 0], []⟩ 8 (by kernel_rfl) (by kernel_rfl) (by kernel_rfl) (by kernel_rfl)) ?_
 ·intro ds hlen
  have hlen : ds.length = 5 := hlen.trans (by kernel_rfl)
  match ds, hlen with
  | [_, _, _, _, _], _ => rfl
 intro W base args ds p hval hA hlt hsz
 rw [Tryz.params3] at hA hval
 obtain ⟨v0, vs0, d0, ds0, p0, q0, hargs, rfl, rfl, h0, r0⟩ := trodAll_cons hA
 obtain ⟨v1, vs1, d1, ds1, p1, q1, rfl, rfl, rfl, h1, r1⟩ := trodAll_cons r0
 obtain ⟨v2, vs2, d2, ds2, p2, q2, rfl, rfl, rfl, h2, r2⟩ := trodAll_cons r1
 obtain ⟨v3, vs3, d3, ds3, p3, q3, rfl, rfl, rfl, h3, r3⟩ := trodAll_cons r2
 obtain ⟨v4, vs4, d4, ds4, p4, q4, rfl, rfl, rfl, h4, r4⟩ := trodAll_cons r3
 obtain ⟨rfl, rfl, rfl⟩ := trodAll_nil r4
 obtain rfl : args = #[v0, v1, v2, v3, v4] := by cases args; simp_all
 obtain ⟨z0, rfl, w0⟩ := Zfh (k := .i64) (by kernel_rfl) (Zfi (by kernel_rfl) (hval 0 3 v0 rfl rfl))
 obtain ⟨z1, rfl, w1⟩ := Zfh (k := .i64) (by kernel_rfl) (Zfi (by kernel_rfl) (hval 1 3 v1 rfl rfl))
 obtain ⟨z2, rfl, w2⟩ := Zfh (k := .i64) (by kernel_rfl) (Zfi (by kernel_rfl) (hval 2 3 v2 rfl rfl))
 obtain ⟨z3, rfl, w3⟩ := Zfh (k := .i64) (by kernel_rfl) (Zfi (by kernel_rfl) (hval 3 3 v3 rfl rfl))
 obtain ⟨z4, rfl, w4⟩ := Zfh (k := .i64) (by kernel_rfl) (Zfi (by kernel_rfl) (hval 4 3 v4 rfl rfl))
 exact Ztd (ZiX z0 z1 z2 z3 z4 100000 _ (Pc.runs z0 z1 z2 z3 z4)) (ZgP (.atom rfl) (ZgP (.atom rfl) (ZgP (.atom rfl) (ZgP (.atom rfl) (ZgP (.atom rfl) Zs9))))) rfl
theorem over : Rows.fifoFormsRow.holds Tryz.pinned (OpenSpec.ofChange Rows.fifoFormsSpec) :=
 OpenClaim.holds_of_wide 3 Tryz.f3 rfl rfl rfl rfl rfl rfl rfl ⟨rfl, rfl, rfl, rfl, rfl⟩ rfl rfl rfl rfl rfl (by kernel_rfl) Tryz.func3 (by kernel_rfl)
  (of_decide_eq_true (by kernel_rfl)) (by unfold Func.isWrapper; first | (rw [if_pos (by decide +kernel)]; kernel_rfl) | (rw [if_neg (by decide +kernel)]; exact ⟨rfl, rfl⟩))
  (fun os started H enc _ => lifted os started H enc)
theorem proved : Rows.FifoFormsSaid := over
#print axioms proved
end FifoForms
end Ev
end Go.Proofs.YtpfmkkookmofcaaGreat
