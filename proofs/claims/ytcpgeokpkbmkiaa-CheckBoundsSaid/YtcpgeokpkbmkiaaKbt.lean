/- CheckBounds: what the plain functions come to. -/
import Derived.Test.YtcpgeokpkbmkiaaKbr
import Derived.Test.YtcpgeokpkbmkiaaPu
namespace Go.Proofs.Ytcpgeokpkbmkiaa
open Go.RowKit
namespace Ev
set_option linter.unusedVariables false
namespace Kb
abbrev hlt : R_iiii := ⟨20, 0, 0, 0⟩
theorem fin0 : [iter (law12_CheckBoundsStep 0 0 100000) 99488 (.h2m1 (List.replicate 511 hlt)), iter (law12_CheckBoundsStep 0 1 100000) 99488 (.h2m1 (List.replicate 511 hlt)), iter (law12_CheckBoundsStep 0 2 100000) 99488 (.h2m1 (List.replicate 511 hlt)), iter (law12_CheckBoundsStep 0 3 100000) 99488 (.h2m1 (List.replicate 511 hlt)), iter (law12_CheckBoundsStep 0 4 100000) 99488 (.h2m1 (List.replicate 511 hlt)), iter (law12_CheckBoundsStep 0 5 100000) 99488 (.h2m1 (List.replicate 511 hlt)), iter (law12_CheckBoundsStep 0 6 100000) 99488 (.h2m1 (List.replicate 511 hlt)), iter (law12_CheckBoundsStep 0 7 100000) 99488 (.h2m1 (List.replicate 511 hlt)), iter (law12_CheckBoundsStep 0 8 100000) 99488 (.h2m1 (List.replicate 511 hlt)), iter (law12_CheckBoundsStep 0 9 100000) 99488 (.h2m1 (List.replicate 511 hlt)), iter (law12_CheckBoundsStep 0 10 100000) 99488 (.h2m1 (List.replicate 511 hlt)), iter (law12_CheckBoundsStep 0 11 100000) 99488 (.h2m1 (List.replicate 511 hlt))] = [some (.r0 true), some (.r0 true), some (.r0 true), some (.r0 true), some (.r0 true), some (.r0 true), some (.r0 true), some (.r0 true), some (.r0 true), some (.r0 true), some (.r0 true), some (.r0 true)] := by kernel_rfl
theorem fin0_0 : iter (law12_CheckBoundsStep 0 0 100000) 99488 (.h2m1 (List.replicate 511 hlt)) = some (.r0 true) := List.cons.inj (fin0) |>.1
theorem fin0_1 : iter (law12_CheckBoundsStep 0 1 100000) 99488 (.h2m1 (List.replicate 511 hlt)) = some (.r0 true) := List.cons.inj ((List.cons.inj fin0).2) |>.1
theorem fin0_2 : iter (law12_CheckBoundsStep 0 2 100000) 99488 (.h2m1 (List.replicate 511 hlt)) = some (.r0 true) := List.cons.inj ((List.cons.inj (List.cons.inj fin0).2).2) |>.1
theorem fin0_3 : iter (law12_CheckBoundsStep 0 3 100000) 99488 (.h2m1 (List.replicate 511 hlt)) = some (.r0 true) := List.cons.inj ((List.cons.inj (List.cons.inj (List.cons.inj fin0).2).2).2) |>.1
theorem fin0_4 : iter (law12_CheckBoundsStep 0 4 100000) 99488 (.h2m1 (List.replicate 511 hlt)) = some (.r0 true) := List.cons.inj ((List.cons.inj (List.cons.inj (List.cons.inj (List.cons.inj fin0).2).2).2).2) |>.1
theorem fin0_5 : iter (law12_CheckBoundsStep 0 5 100000) 99488 (.h2m1 (List.replicate 511 hlt)) = some (.r0 true) := List.cons.inj ((List.cons.inj (List.cons.inj (List.cons.inj (List.cons.inj (List.cons.inj fin0).2).2).2).2).2) |>.1
theorem fin0_6 : iter (law12_CheckBoundsStep 0 6 100000) 99488 (.h2m1 (List.replicate 511 hlt)) = some (.r0 true) := List.cons.inj ((List.cons.inj (List.cons.inj (List.cons.inj (List.cons.inj (List.cons.inj (List.cons.inj fin0).2).2).2).2).2).2) |>.1
theorem fin0_7 : iter (law12_CheckBoundsStep 0 7 100000) 99488 (.h2m1 (List.replicate 511 hlt)) = some (.r0 true) := List.cons.inj ((List.cons.inj (List.cons.inj (List.cons.inj (List.cons.inj (List.cons.inj (List.cons.inj (List.cons.inj fin0).2).2).2).2).2).2).2) |>.1
theorem fin0_8 : iter (law12_CheckBoundsStep 0 8 100000) 99488 (.h2m1 (List.replicate 511 hlt)) = some (.r0 true) := List.cons.inj ((List.cons.inj (List.cons.inj (List.cons.inj (List.cons.inj (List.cons.inj (List.cons.inj (List.cons.inj (List.cons.inj fin0).2).2).2).2).2).2).2).2) |>.1
theorem fin0_9 : iter (law12_CheckBoundsStep 0 9 100000) 99488 (.h2m1 (List.replicate 511 hlt)) = some (.r0 true) := List.cons.inj ((List.cons.inj (List.cons.inj (List.cons.inj (List.cons.inj (List.cons.inj (List.cons.inj (List.cons.inj (List.cons.inj (List.cons.inj fin0).2).2).2).2).2).2).2).2).2) |>.1
theorem fin0_10 : iter (law12_CheckBoundsStep 0 10 100000) 99488 (.h2m1 (List.replicate 511 hlt)) = some (.r0 true) := List.cons.inj ((List.cons.inj (List.cons.inj (List.cons.inj (List.cons.inj (List.cons.inj (List.cons.inj (List.cons.inj (List.cons.inj (List.cons.inj (List.cons.inj fin0).2).2).2).2).2).2).2).2).2).2) |>.1
theorem fin0_11 : iter (law12_CheckBoundsStep 0 11 100000) 99488 (.h2m1 (List.replicate 511 hlt)) = some (.r0 true) := List.cons.inj ((List.cons.inj (List.cons.inj (List.cons.inj (List.cons.inj (List.cons.inj (List.cons.inj (List.cons.inj (List.cons.inj (List.cons.inj (List.cons.inj (List.cons.inj fin0).2).2).2).2).2).2).2).2).2).2).2) |>.1
theorem fin1 : [iter (law12_CheckBoundsStep 1 0 100000) 99487 (.h2m1 (List.replicate 512 hlt)), iter (law12_CheckBoundsStep 1 1 100000) 99487 (.h2m1 (List.replicate 512 hlt)), iter (law12_CheckBoundsStep 1 2 100000) 99487 (.h2m1 (List.replicate 512 hlt)), iter (law12_CheckBoundsStep 1 3 100000) 99487 (.h2m1 (List.replicate 512 hlt)), iter (law12_CheckBoundsStep 1 4 100000) 99487 (.h2m1 (List.replicate 512 hlt)), iter (law12_CheckBoundsStep 1 5 100000) 99487 (.h2m1 (List.replicate 512 hlt)), iter (law12_CheckBoundsStep 1 6 100000) 99487 (.h2m1 (List.replicate 512 hlt)), iter (law12_CheckBoundsStep 1 7 100000) 99487 (.h2m1 (List.replicate 512 hlt)), iter (law12_CheckBoundsStep 1 8 100000) 99487 (.h2m1 (List.replicate 512 hlt)), iter (law12_CheckBoundsStep 1 9 100000) 99487 (.h2m1 (List.replicate 512 hlt)), iter (law12_CheckBoundsStep 1 10 100000) 99487 (.h2m1 (List.replicate 512 hlt)), iter (law12_CheckBoundsStep 1 11 100000) 99487 (.h2m1 (List.replicate 512 hlt))] = [some (.r0 true), some (.r0 true), some (.r0 true), some (.r0 true), some (.r0 true), some (.r0 true), some (.r0 true), some (.r0 true), some (.r0 true), some (.r0 true), some (.r0 true), some (.r0 true)] := by kernel_rfl
theorem fin1_0 : iter (law12_CheckBoundsStep 1 0 100000) 99487 (.h2m1 (List.replicate 512 hlt)) = some (.r0 true) := List.cons.inj (fin1) |>.1
theorem fin1_1 : iter (law12_CheckBoundsStep 1 1 100000) 99487 (.h2m1 (List.replicate 512 hlt)) = some (.r0 true) := List.cons.inj ((List.cons.inj fin1).2) |>.1
theorem fin1_2 : iter (law12_CheckBoundsStep 1 2 100000) 99487 (.h2m1 (List.replicate 512 hlt)) = some (.r0 true) := List.cons.inj ((List.cons.inj (List.cons.inj fin1).2).2) |>.1
theorem fin1_3 : iter (law12_CheckBoundsStep 1 3 100000) 99487 (.h2m1 (List.replicate 512 hlt)) = some (.r0 true) := List.cons.inj ((List.cons.inj (List.cons.inj (List.cons.inj fin1).2).2).2) |>.1
theorem fin1_4 : iter (law12_CheckBoundsStep 1 4 100000) 99487 (.h2m1 (List.replicate 512 hlt)) = some (.r0 true) := List.cons.inj ((List.cons.inj (List.cons.inj (List.cons.inj (List.cons.inj fin1).2).2).2).2) |>.1
theorem fin1_5 : iter (law12_CheckBoundsStep 1 5 100000) 99487 (.h2m1 (List.replicate 512 hlt)) = some (.r0 true) := List.cons.inj ((List.cons.inj (List.cons.inj (List.cons.inj (List.cons.inj (List.cons.inj fin1).2).2).2).2).2) |>.1
theorem fin1_6 : iter (law12_CheckBoundsStep 1 6 100000) 99487 (.h2m1 (List.replicate 512 hlt)) = some (.r0 true) := List.cons.inj ((List.cons.inj (List.cons.inj (List.cons.inj (List.cons.inj (List.cons.inj (List.cons.inj fin1).2).2).2).2).2).2) |>.1
theorem fin1_7 : iter (law12_CheckBoundsStep 1 7 100000) 99487 (.h2m1 (List.replicate 512 hlt)) = some (.r0 true) := List.cons.inj ((List.cons.inj (List.cons.inj (List.cons.inj (List.cons.inj (List.cons.inj (List.cons.inj (List.cons.inj fin1).2).2).2).2).2).2).2) |>.1
theorem fin1_8 : iter (law12_CheckBoundsStep 1 8 100000) 99487 (.h2m1 (List.replicate 512 hlt)) = some (.r0 true) := List.cons.inj ((List.cons.inj (List.cons.inj (List.cons.inj (List.cons.inj (List.cons.inj (List.cons.inj (List.cons.inj (List.cons.inj fin1).2).2).2).2).2).2).2).2) |>.1
theorem fin1_9 : iter (law12_CheckBoundsStep 1 9 100000) 99487 (.h2m1 (List.replicate 512 hlt)) = some (.r0 true) := List.cons.inj ((List.cons.inj (List.cons.inj (List.cons.inj (List.cons.inj (List.cons.inj (List.cons.inj (List.cons.inj (List.cons.inj (List.cons.inj fin1).2).2).2).2).2).2).2).2).2) |>.1
theorem fin1_10 : iter (law12_CheckBoundsStep 1 10 100000) 99487 (.h2m1 (List.replicate 512 hlt)) = some (.r0 true) := List.cons.inj ((List.cons.inj (List.cons.inj (List.cons.inj (List.cons.inj (List.cons.inj (List.cons.inj (List.cons.inj (List.cons.inj (List.cons.inj (List.cons.inj fin1).2).2).2).2).2).2).2).2).2).2) |>.1
theorem fin1_11 : iter (law12_CheckBoundsStep 1 11 100000) 99487 (.h2m1 (List.replicate 512 hlt)) = some (.r0 true) := List.cons.inj ((List.cons.inj (List.cons.inj (List.cons.inj (List.cons.inj (List.cons.inj (List.cons.inj (List.cons.inj (List.cons.inj (List.cons.inj (List.cons.inj (List.cons.inj fin1).2).2).2).2).2).2).2).2).2).2).2) |>.1
theorem fin2 : [iter (law12_CheckBoundsStep 2 0 100000) 99486 (.h2m1 (List.replicate 513 hlt)), iter (law12_CheckBoundsStep 2 1 100000) 99486 (.h2m1 (List.replicate 513 hlt)), iter (law12_CheckBoundsStep 2 2 100000) 99486 (.h2m1 (List.replicate 513 hlt)), iter (law12_CheckBoundsStep 2 3 100000) 99486 (.h2m1 (List.replicate 513 hlt)), iter (law12_CheckBoundsStep 2 4 100000) 99486 (.h2m1 (List.replicate 513 hlt)), iter (law12_CheckBoundsStep 2 5 100000) 99486 (.h2m1 (List.replicate 513 hlt)), iter (law12_CheckBoundsStep 2 6 100000) 99486 (.h2m1 (List.replicate 513 hlt)), iter (law12_CheckBoundsStep 2 7 100000) 99486 (.h2m1 (List.replicate 513 hlt)), iter (law12_CheckBoundsStep 2 8 100000) 99486 (.h2m1 (List.replicate 513 hlt)), iter (law12_CheckBoundsStep 2 9 100000) 99486 (.h2m1 (List.replicate 513 hlt)), iter (law12_CheckBoundsStep 2 10 100000) 99486 (.h2m1 (List.replicate 513 hlt)), iter (law12_CheckBoundsStep 2 11 100000) 99486 (.h2m1 (List.replicate 513 hlt))] = [some (.r0 true), some (.r0 true), some (.r0 true), some (.r0 true), some (.r0 true), some (.r0 true), some (.r0 true), some (.r0 true), some (.r0 true), some (.r0 true), some (.r0 true), some (.r0 true)] := by kernel_rfl
theorem fin2_0 : iter (law12_CheckBoundsStep 2 0 100000) 99486 (.h2m1 (List.replicate 513 hlt)) = some (.r0 true) := List.cons.inj (fin2) |>.1
theorem fin2_1 : iter (law12_CheckBoundsStep 2 1 100000) 99486 (.h2m1 (List.replicate 513 hlt)) = some (.r0 true) := List.cons.inj ((List.cons.inj fin2).2) |>.1
theorem fin2_2 : iter (law12_CheckBoundsStep 2 2 100000) 99486 (.h2m1 (List.replicate 513 hlt)) = some (.r0 true) := List.cons.inj ((List.cons.inj (List.cons.inj fin2).2).2) |>.1
theorem fin2_3 : iter (law12_CheckBoundsStep 2 3 100000) 99486 (.h2m1 (List.replicate 513 hlt)) = some (.r0 true) := List.cons.inj ((List.cons.inj (List.cons.inj (List.cons.inj fin2).2).2).2) |>.1
theorem fin2_4 : iter (law12_CheckBoundsStep 2 4 100000) 99486 (.h2m1 (List.replicate 513 hlt)) = some (.r0 true) := List.cons.inj ((List.cons.inj (List.cons.inj (List.cons.inj (List.cons.inj fin2).2).2).2).2) |>.1
theorem fin2_5 : iter (law12_CheckBoundsStep 2 5 100000) 99486 (.h2m1 (List.replicate 513 hlt)) = some (.r0 true) := List.cons.inj ((List.cons.inj (List.cons.inj (List.cons.inj (List.cons.inj (List.cons.inj fin2).2).2).2).2).2) |>.1
theorem fin2_6 : iter (law12_CheckBoundsStep 2 6 100000) 99486 (.h2m1 (List.replicate 513 hlt)) = some (.r0 true) := List.cons.inj ((List.cons.inj (List.cons.inj (List.cons.inj (List.cons.inj (List.cons.inj (List.cons.inj fin2).2).2).2).2).2).2) |>.1
theorem fin2_7 : iter (law12_CheckBoundsStep 2 7 100000) 99486 (.h2m1 (List.replicate 513 hlt)) = some (.r0 true) := List.cons.inj ((List.cons.inj (List.cons.inj (List.cons.inj (List.cons.inj (List.cons.inj (List.cons.inj (List.cons.inj fin2).2).2).2).2).2).2).2) |>.1
theorem fin2_8 : iter (law12_CheckBoundsStep 2 8 100000) 99486 (.h2m1 (List.replicate 513 hlt)) = some (.r0 true) := List.cons.inj ((List.cons.inj (List.cons.inj (List.cons.inj (List.cons.inj (List.cons.inj (List.cons.inj (List.cons.inj (List.cons.inj fin2).2).2).2).2).2).2).2).2) |>.1
theorem fin2_9 : iter (law12_CheckBoundsStep 2 9 100000) 99486 (.h2m1 (List.replicate 513 hlt)) = some (.r0 true) := List.cons.inj ((List.cons.inj (List.cons.inj (List.cons.inj (List.cons.inj (List.cons.inj (List.cons.inj (List.cons.inj (List.cons.inj (List.cons.inj fin2).2).2).2).2).2).2).2).2).2) |>.1
theorem fin2_10 : iter (law12_CheckBoundsStep 2 10 100000) 99486 (.h2m1 (List.replicate 513 hlt)) = some (.r0 true) := List.cons.inj ((List.cons.inj (List.cons.inj (List.cons.inj (List.cons.inj (List.cons.inj (List.cons.inj (List.cons.inj (List.cons.inj (List.cons.inj (List.cons.inj fin2).2).2).2).2).2).2).2).2).2).2) |>.1
theorem fin2_11 : iter (law12_CheckBoundsStep 2 11 100000) 99486 (.h2m1 (List.replicate 513 hlt)) = some (.r0 true) := List.cons.inj ((List.cons.inj (List.cons.inj (List.cons.inj (List.cons.inj (List.cons.inj (List.cons.inj (List.cons.inj (List.cons.inj (List.cons.inj (List.cons.inj (List.cons.inj fin2).2).2).2).2).2).2).2).2).2).2).2) |>.1
theorem s1 {a0 a1 : Int} {n : Nat} (hn : (n : Int) = IntKind.i64.wrap (511 + Int.tmod a0 3)) (h9 : n ≤ 600) (w1 : -9223372036854775808 ≤ a1) (w2 : a1 ≤ 9223372036854775807) : ∀ d k f, k + d = n → iter (law12_CheckBoundsStep a0 a1 100000) (f + d + 1) (.h1m1 (List.replicate k hlt) k) = iter (law12_CheckBoundsStep a0 a1 100000) f (.h2m1 (List.replicate n hlt)) := by
  intro d
  induction d with
  | zero =>
    intro k f hk
    obtain rfl : k = n := by omega
    refine iter_next ?_
    show law12_CheckBounds_h1m1 a0 a1 100000 _ k = _
    unfold law12_CheckBounds_h1m1
    exact ite_no (by omega) (ite_yes w1 (ite_yes w2 rfl))
  | succ d ih =>
    intro k f hk
    refine (iter_next (y := .h1m1 (List.replicate (k + 1) hlt) (k + 1)) ?_).trans (ih (k + 1) f (by omega))
    show law12_CheckBounds_h1m1 a0 a1 100000 _ k = _
    unfold law12_CheckBounds_h1m1
    rw [List.replicate_succ']
    exact ite_yes (by omega) (ite_yes (by rw [List.length_replicate]; omega) rfl)
theorem stepEq {a0 a1 x y : Int} (hx : Int.tmod a0 3 = Int.tmod x 3) (hy : Int.tmod a1 12 = Int.tmod y 12) (w1 : -9223372036854775808 ≤ a1) (w2 : a1 ≤ 9223372036854775807) (y1 : -9223372036854775808 ≤ y) (y2 : y ≤ 9223372036854775807) : law12_CheckBoundsStep a0 a1 100000 = law12_CheckBoundsStep x y 100000 := by
  funext s
  cases s with
  | h1m0 => show law12_CheckBounds_h1m0 a0 a1 100000 = law12_CheckBounds_h1m0 x y 100000; unfold law12_CheckBounds_h1m0; simp only [hx, hy, if_pos w1, if_pos w2, if_pos y1, if_pos y2]
  | h1m1 v2 v3 => show law12_CheckBounds_h1m1 a0 a1 100000 v2 v3 = law12_CheckBounds_h1m1 x y 100000 v2 v3; unfold law12_CheckBounds_h1m1; simp only [hx, hy, if_pos w1, if_pos w2, if_pos y1, if_pos y2]
  | h2m0 => show law12_CheckBounds_h2m0 a0 a1 100000 = law12_CheckBounds_h2m0 x y 100000; unfold law12_CheckBounds_h2m0; simp only [hx, hy, if_pos w1, if_pos w2, if_pos y1, if_pos y2]
  | h2m1 v1 => show law12_CheckBounds_h2m1 a0 a1 100000 v1 = law12_CheckBounds_h2m1 x y 100000 v1; unfold law12_CheckBounds_h2m1; simp only [hx, hy, if_pos w1, if_pos w2, if_pos y1, if_pos y2]
  | h2m2 v2 v3 => show law12_CheckBounds_h2m2 a0 a1 100000 v2 v3 = law12_CheckBounds_h2m2 x y 100000 v2 v3; unfold law12_CheckBounds_h2m2; simp only [hx, hy, if_pos w1, if_pos w2, if_pos y1, if_pos y2]
  | h2m3 v1 v3 v4 => show law12_CheckBounds_h2m3 a0 a1 100000 v1 v3 v4 = law12_CheckBounds_h2m3 x y 100000 v1 v3 v4; unfold law12_CheckBounds_h2m3; simp only [hx, hy, if_pos w1, if_pos w2, if_pos y1, if_pos y2]
  | h3m0 v2 v3 => show law12_CheckBounds_h3m0 a0 a1 100000 v2 v3 = law12_CheckBounds_h3m0 x y 100000 v2 v3; unfold law12_CheckBounds_h3m0; simp only [hx, hy, if_pos w1, if_pos w2, if_pos y1, if_pos y2]
  | h3m1 v1 v3 v4 => show law12_CheckBounds_h3m1 a0 a1 100000 v1 v3 v4 = law12_CheckBounds_h3m1 x y 100000 v1 v3 v4; unfold law12_CheckBounds_h3m1; simp only [hx, hy, if_pos w1, if_pos w2, if_pos y1, if_pos y2]
theorem row0 {y : Int} (h1 : 0 ≤ y) (h2 : y ≤ 11) : iter (law12_CheckBoundsStep 0 y 100000) 99488 (.h2m1 (List.replicate 511 hlt)) = some (.r0 true) := by
  have h : y = 0 ∨ y = 1 ∨ y = 2 ∨ y = 3 ∨ y = 4 ∨ y = 5 ∨ y = 6 ∨ y = 7 ∨ y = 8 ∨ y = 9 ∨ y = 10 ∨ y = 11 := by omega
  rcases h with rfl | rfl | rfl | rfl | rfl | rfl | rfl | rfl | rfl | rfl | rfl | rfl
  · exact fin0_0
  · exact fin0_1
  · exact fin0_2
  · exact fin0_3
  · exact fin0_4
  · exact fin0_5
  · exact fin0_6
  · exact fin0_7
  · exact fin0_8
  · exact fin0_9
  · exact fin0_10
  · exact fin0_11
theorem row1 {y : Int} (h1 : 0 ≤ y) (h2 : y ≤ 11) : iter (law12_CheckBoundsStep 1 y 100000) 99487 (.h2m1 (List.replicate 512 hlt)) = some (.r0 true) := by
  have h : y = 0 ∨ y = 1 ∨ y = 2 ∨ y = 3 ∨ y = 4 ∨ y = 5 ∨ y = 6 ∨ y = 7 ∨ y = 8 ∨ y = 9 ∨ y = 10 ∨ y = 11 := by omega
  rcases h with rfl | rfl | rfl | rfl | rfl | rfl | rfl | rfl | rfl | rfl | rfl | rfl
  · exact fin1_0
  · exact fin1_1
  · exact fin1_2
  · exact fin1_3
  · exact fin1_4
  · exact fin1_5
  · exact fin1_6
  · exact fin1_7
  · exact fin1_8
  · exact fin1_9
  · exact fin1_10
  · exact fin1_11
theorem row2 {y : Int} (h1 : 0 ≤ y) (h2 : y ≤ 11) : iter (law12_CheckBoundsStep 2 y 100000) 99486 (.h2m1 (List.replicate 513 hlt)) = some (.r0 true) := by
  have h : y = 0 ∨ y = 1 ∨ y = 2 ∨ y = 3 ∨ y = 4 ∨ y = 5 ∨ y = 6 ∨ y = 7 ∨ y = 8 ∨ y = 9 ∨ y = 10 ∨ y = 11 := by omega
  rcases h with rfl | rfl | rfl | rfl | rfl | rfl | rfl | rfl | rfl | rfl | rfl | rfl
  · exact fin2_0
  · exact fin2_1
  · exact fin2_2
  · exact fin2_3
  · exact fin2_4
  · exact fin2_5
  · exact fin2_6
  · exact fin2_7
  · exact fin2_8
  · exact fin2_9
  · exact fin2_10
  · exact fin2_11
theorem runs (a0 a1 : Int) (u1 : 0 ≤ a0) (u2 : a0 ≤ 255) (w1 : 0 ≤ a1) (w2 : a1 ≤ 255) : law12_CheckBounds a0 a1 100000 = some (.r0 true) := by
  have e3 : Int.tmod a0 3 = a0 % 3 := Int.tmod_eq_emod_of_nonneg u1
  have e12 : Int.tmod a1 12 = a1 % 12 := Int.tmod_eq_emod_of_nonneg w1
  have hy : Int.tmod a1 12 = Int.tmod (a1 % 12) 12 := by rw [e12, Int.tmod_eq_emod_of_nonneg (by omega)]; omega
  have hin : law12_CheckBoundsIn a0 a1 100000 = some (.inl .h1m0) := by unfold law12_CheckBoundsIn; exact ite_yes (by omega) (ite_yes (by omega) rfl)
  unfold law12_CheckBounds
  rw [goM_in hin]
  have h3 : a0 % 3 = 0 ∨ a0 % 3 = 1 ∨ a0 % 3 = 2 := by omega
  rcases h3 with h | h | h
  · have hx : Int.tmod a0 3 = Int.tmod 0 3 := by rw [e3, h]; rfl
    rw [stepEq hx hy (by omega) (by omega) (by omega) (by omega)]
    have a : iter (law12_CheckBoundsStep 0 (a1 % 12) 100000) 100000 .h1m0 = iter (law12_CheckBoundsStep 0 (a1 % 12) 100000) 99999 (.h1m1 (List.replicate 1 hlt) 1) := iter_next (by show law12_CheckBounds_h1m0 0 (a1 % 12) 100000 = _; unfold law12_CheckBounds_h1m0; exact ite_yes (by rw [w64 (by decide) (by decide)]; decide) rfl)
    have b := s1 (a0 := 0) (a1 := a1 % 12) (n := 511) (by rw [w64 (by decide) (by decide)]; rfl) (by decide) (by omega) (by omega) 510 1 99488 (by decide)
    exact a.trans (b.trans (row0 (by omega) (by omega)))
  · have hx : Int.tmod a0 3 = Int.tmod 1 3 := by rw [e3, h]; rfl
    rw [stepEq hx hy (by omega) (by omega) (by omega) (by omega)]
    have a : iter (law12_CheckBoundsStep 1 (a1 % 12) 100000) 100000 .h1m0 = iter (law12_CheckBoundsStep 1 (a1 % 12) 100000) 99999 (.h1m1 (List.replicate 1 hlt) 1) := iter_next (by show law12_CheckBounds_h1m0 1 (a1 % 12) 100000 = _; unfold law12_CheckBounds_h1m0; exact ite_yes (by rw [w64 (by decide) (by decide)]; decide) rfl)
    have b := s1 (a0 := 1) (a1 := a1 % 12) (n := 512) (by rw [w64 (by decide) (by decide)]; rfl) (by decide) (by omega) (by omega) 511 1 99487 (by decide)
    exact a.trans (b.trans (row1 (by omega) (by omega)))
  · have hx : Int.tmod a0 3 = Int.tmod 2 3 := by rw [e3, h]; rfl
    rw [stepEq hx hy (by omega) (by omega) (by omega) (by omega)]
    have a : iter (law12_CheckBoundsStep 2 (a1 % 12) 100000) 100000 .h1m0 = iter (law12_CheckBoundsStep 2 (a1 % 12) 100000) 99999 (.h1m1 (List.replicate 1 hlt) 1) := iter_next (by show law12_CheckBounds_h1m0 2 (a1 % 12) 100000 = _; unfold law12_CheckBounds_h1m0; exact ite_yes (by rw [w64 (by decide) (by decide)]; decide) rfl)
    have b := s1 (a0 := 2) (a1 := a1 % 12) (n := 513) (by rw [w64 (by decide) (by decide)]; rfl) (by decide) (by omega) (by omega) 512 1 99486 (by decide)
    exact a.trans (b.trans (row2 (by omega) (by omega)))
end Kb
end Ev
end Go.Proofs.Ytcpgeokpkbmkiaa
