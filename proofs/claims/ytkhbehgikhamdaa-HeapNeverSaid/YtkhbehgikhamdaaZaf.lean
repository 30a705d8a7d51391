/- The law HeapNever, for every input. -/
import Derived.Test.YtkhbehgikhamdaaZae
import Derived.Test.YtkhbehgikhamdaaZac
import Derived.Test.YtkhbehgikhamdaaZab
import Derived.StillTail
import Derived.OrdersHeld
import Derived.WideBlind
/- Calls do what the plain functions say. -/
namespace Go.Proofs.Ytkhbehgikhamdaa
open Go.RowKit
namespace Ev
set_option linter.unusedVariables false
set_option maxRecDepth 100000
theorem ZeB (a0 a1 a2 : Int) (v2 : List R_ii) (v3 v4 : Nat) (v7 : Int) (v8 N : Nat) : (Zd a0 a1 a2 N).Ok Try.prog Zk (.h2m26 v2 v3 v4 v7 v8 : Zb) (Zf a0 a1 a2 N (.h2m26 v2 v3 v4 v7 v8 : Zb)) := by
 show (Zd a0 a1 a2 N).Ok Try.prog Zk (.h2m26 v2 v3 v4 v7 v8 : Zb) (Zau a0 a1 a2 N v2 v3 v4 v7 v8)
 unfold Zau
 refine Mach.ok_ite (fun g0 => ?_) (fun g0 => ?_)
 ·
  refine Mach.ok_ite (fun g1 => ?_) (fun g1 => ?_)
  ·
   refine Mach.ok_ite (fun g2 => ?_) (fun g2 => ?_)
   ·
    refine Mach.ok_ite (fun g3 => ?_) (fun g3 => ?_)
    ·
     refine Mach.ok_ite (fun g4 => ?_) (fun g4 => ?_)
     ·
      refine Mach.ok_ite (fun g5 => ?_) (fun g5 => ?_)
      ·
       refine Mach.ok_ite (fun g6 => ?_) (fun g6 => ?_)
       ·
        refine Mach.ok_ite (fun g7 => ?_) (fun g7 => ?_)
        ·
         refine Mach.ok_ite (fun g8 => ?_) (fun g8 => ?_)
         ·
          refine Mach.ok_ite (fun g9 => ?_) (fun g9 => ?_)
          ·
           exact Mach.ok_none
          ·
           refine Mach.ok_ite (fun g10 => ?_) (fun g10 => ?_)
           ·
            refine Mach.ok_ite (fun g11 => ?_) (fun g11 => ?_)
            ·
             refine Mach.ok_ite (fun g12 => ?_) (fun g12 => ?_)
             ·
              refine Mach.ok_ite (fun g13 => ?_) (fun g13 => ?_)
              ·
               refine Mach.ok_ite (fun g14 => ?_) (fun g14 => ?_)
               ·
                refine Mach.ok_ite (fun g15 => ?_) (fun g15 => ?_)
                ·
                 refine Mach.ok_ite (fun g16 => ?_) (fun g16 => ?_)
                 ·
                  refine Mach.ok_ite (fun g17 => ?_) (fun g17 => ?_)
                  ·
                   exact Mach.ok_next (M := Zd a0 a1 a2 N) (cd := 1000000) (cm := 0) (y := (.h2m26 (v2) (v3) ((v4 + 1)) (v7) (v8) : Zb)) (fu := 4000) (orc := (Z9 v2 v4)) (live := [0, 1, 2, 3, 4, 5]) (tv := fun _ => [some (Value.int .u8 a1), some (vi a2), some (vp 0 0), some (vi (11 : Int)), some (vs 1 0 v2.length v2.length), some (vi (v3 : Int)), some (vp 2 0), some (vi (((v4 + 1) : Nat) : Int))]) (bl := [some (.cells [vi (400 : Int), vs 3 0 29 29, vs 4 0 29 29, vn, vn, vn, vn, vn, vn, vn, vn, vn, vn, vn, vs 5 0 0 1, vn, vn, vn, vn, vn] 48), some (.cells (Zr Zp v2) 30), some (.cells [vi (2 : Int), vi v7] 30), some (.cells [vi (1 : Int), vi (16 : Int), vi (255 : Int), vi (2 : Int), vq, vq, vq, vq, vq, vq, vq, vq, vq, vq, vq, vq, vq, vq, vq, vq, vq, vq, vq, vq, vq, vq, vq, vq, vq, vq, vq, vq, vq, vq, vq, vq, vq, vq, vq, vq, vq, vq, vq, vq, vq, vq, vq, vq, vq, vq, vq, vq, vq, vq, vq, vq, vq, vq, vq, vq, vq, vq, vq, vq, vq, vq, vq, vq, vq, vq, vq, vq, vq, vq, vq, vq, vq, vq, vq, vq, vq, vq, vq, vq, vq, vi (v8 : Int), vi (11 : Int), vq, vi (1 : Int), vq, vq, vq, vq, vq, vq, vq, vq, vq, vq, vq, vq, vq, vq, vq, vq, vq, vq, vq, vq, vq, vq, vq, vq, vq, vq, vq, vq, vq, vq, vq, vq, vq, vq, vq, vq, vq, vq, vq, vq, vq, vq, vq, vq, vq, vq, vq, vq, vq, vq, vq, vq, vq, vq, vq, vq] 38), some (.cells [vq, vq, vi (2 : Int), vq, vi (2 : Int), vq, vi (2 : Int), vq, vi (2 : Int), vq, vi (2 : Int), vq, vi (2 : Int), vq, vi (2 : Int), vq, vi (2 : Int), vq, vi (1 : Int), vq, vi (1 : Int), vq, vi (1 : Int), vq, vi (1 : Int), vq, vi (1 : Int), vq, vi (1 : Int), vq, vi (1 : Int), vq, vi (1 : Int), vq, vq, vq, vi (1 : Int), vq, vi (1 : Int), vq, vi (1 : Int), vq, vi (1 : Int), vq, vi (1 : Int), vq, vi (1 : Int), vq, vi (1 : Int), vq, vi (1 : Int), vq, vi (1 : Int), vq, vi (1 : Int), vq, vi (1 : Int), vi a2] 30), some (.cells [vi (18 : Int)] 3)]) (ob := (Z0 a1 v2 v3 v4 v7 v8)) rfl (show 2 ∈ Zl (Zh 2) from by decide +kernel) (fun gv => by kernel_rfl) (ZA a1 v2 v3 v4 v7 v8 g0 g1 g2 g3 g4 g5 g6 g7 g8 g9 g10 g11 g12 g13 g14 g15 g16 g17) rfl (by decide) (by rfl) (fun _ => ⟨rr, ⟨rr, ⟨rr, ⟨rr, ⟨rr, ⟨rr, ⟨rr, ⟨rr, trivial⟩⟩⟩⟩⟩⟩⟩⟩) ⟨⟨rfl, ⟨[], by rfl⟩, by rfl⟩, ⟨(Zu (E := Zp) (α := R_ii) _ v2 _), ⟨⟨rfl, ⟨[], by rfl⟩, by rfl⟩, ⟨⟨rfl, ⟨[], by rfl⟩, by rfl⟩, ⟨⟨rfl, ⟨[], by rfl⟩, by rfl⟩, ⟨⟨rfl, ⟨[], by rfl⟩, by rfl⟩, trivial⟩⟩⟩⟩⟩⟩
                  ·
                   exact Mach.ok_none
                 ·
                  exact Mach.ok_none
                ·
                 exact Mach.ok_none
               ·
                exact Mach.ok_none
              ·
               exact Mach.ok_none
             ·
              exact Mach.ok_none
            ·
             exact Mach.ok_none
           ·
            exact Mach.ok_none
         ·
          exact Mach.ok_next (M := Zd a0 a1 a2 N) (cd := 1000000) (cm := 0) (y := (.h1m26 ((v2 ++ ([(⟨(2 : Int), v7⟩ : R_ii)] : List R_ii))) ((v3 + 1)) (v8) : Zb)) (fu := 4000) (orc := (ZB v2 v3 v7)) (live := [0, 26, 3, 4, 5]) (tv := fun _ => [some (Value.int .u8 a1), some (vi a2), some (vp 0 0), some (vi (11 : Int)), some (vs 26 0 (v2.length + 1) (v2.length + 1)), some (vi (((v3 + 1) : Nat) : Int))]) (bl := [some (.cells [vi (400 : Int), vs 3 0 29 29, vs 4 0 29 29, vn, vn, vn, vn, vn, vn, vn, vn, vn, vn, vn, vs 5 0 1 1, vn, vn, vn, vn, vn] 48), some (.cells (Zr Zp (v2 ++ ([(⟨(2 : Int), v7⟩ : R_ii)] : List R_ii))) 30), some (.cells [vi (1 : Int), vi (16 : Int), vi (255 : Int), vi (2 : Int), vq, vq, vq, vq, vq, vq, vq, vq, vq, vq, vq, vq, vq, vq, vq, vq, vq, vq, vq, vq, vq, vq, vq, vq, vq, vq, vq, vq, vq, vq, vq, vq, vq, vq, vq, vq, vq, vq, vq, vq, vq, vq, vq, vq, vq, vq, vq, vq, vq, vq, vq, vq, vq, vq, vq, vq, vq, vq, vq, vq, vq, vq, vq, vq, vq, vq, vq, vq, vq, vq, vq, vq, vq, vq, vq, vq, vq, vq, vq, vq, vq, vi (v8 : Int), vi (11 : Int), vq, vq, vq, vq, vq, vq, vq, vq, vq, vq, vq, vq, vq, vq, vq, vq, vq, vq, vq, vq, vq, vq, vq, vq, vq, vq, vq, vq, vq, vq, vq, vq, vq, vq, vq, vq, vq, vq, vq, vq, vq, vq, vq, vq, vq, vq, vq, vq, vq, vq, vq, vq, vq, vq, vq, vq, vq, vq] 38), some (.cells [vq, vq, vi (2 : Int), vq, vi (2 : Int), vq, vi (2 : Int), vq, vi (2 : Int), vq, vi (2 : Int), vq, vi (2 : Int), vq, vi (2 : Int), vq, vi (2 : Int), vq, vi (1 : Int), vq, vi (1 : Int), vq, vi (1 : Int), vq, vi (1 : Int), vq, vi (1 : Int), vq, vi (1 : Int), vq, vi (1 : Int), vq, vi (1 : Int), vq, vq, vq, vi (1 : Int), vq, vi (1 : Int), vq, vi (1 : Int), vq, vi (1 : Int), vq, vi (1 : Int), vq, vi (1 : Int), vq, vi (1 : Int), vq, vi (1 : Int), vq, vi (1 : Int), vq, vi (1 : Int), vq, vi (1 : Int), vi a2] 30), some (.cells [vi (18 : Int)] 3)]) (ob := (Z1 a1 a2 v2 v3 v4 v7 v8)) rfl (show 1 ∈ Zl (Zh 2) from by decide +kernel) (fun gv => by kernel_rfl) (ZC a1 a2 v2 v3 v4 v7 v8 g0 g1 g2 g3 g4 g5 g6 g7 g8) rfl (by decide) (by rfl) (fun _ => ⟨rr, ⟨rr, ⟨rr, ⟨rr, ⟨⟨Eq.trans (show (vs 1 0 (v2 ++ ([(⟨(2 : Int), v7⟩ : R_ii)] : List R_ii)).length (v2 ++ ([(⟨(2 : Int), v7⟩ : R_ii)] : List R_ii)).length : Value) = vs 1 0 (v2.length + 1) (v2.length + 1) from (ZF rfl eqA eqA)) (by rfl), by rfl⟩, ⟨rr, trivial⟩⟩⟩⟩⟩⟩) ⟨⟨rfl, ⟨[], by rfl⟩, by rfl⟩, ⟨(Zu (E := Zp) (α := R_ii) _ (v2 ++ ([(⟨(2 : Int), v7⟩ : R_ii)] : List R_ii)) _), ⟨⟨rfl, ⟨[], by rfl⟩, by rfl⟩, ⟨⟨rfl, ⟨[], by rfl⟩, by rfl⟩, ⟨⟨rfl, ⟨[], by rfl⟩, by rfl⟩, trivial⟩⟩⟩⟩⟩
        ·
         exact Mach.ok_none
       ·
        exact Mach.ok_none
      ·
       exact Mach.ok_none
     ·
      exact Mach.ok_none
    ·
     exact Mach.ok_none
   ·
    exact Mach.ok_none
  ·
   exact Mach.ok_none
 ·
  exact Mach.ok_none

theorem ZeC (a0 a1 a2 : Int) (v2 : List R_ii) (v3 v4 : Nat) (v7 : Int) (v8 N : Nat) : (Zd a0 a1 a2 N).Ok Try.prog Zk (.h2m27 v2 v3 v4 v7 v8 : Zb) (Zf a0 a1 a2 N (.h2m27 v2 v3 v4 v7 v8 : Zb)) := by
 show (Zd a0 a1 a2 N).Ok Try.prog Zk (.h2m27 v2 v3 v4 v7 v8 : Zb) (Zav a0 a1 a2 N v2 v3 v4 v7 v8)
 unfold Zav
 refine Mach.ok_ite (fun g0 => ?_) (fun g0 => ?_)
 ·
  refine Mach.ok_ite (fun g1 => ?_) (fun g1 => ?_)
  ·
   refine Mach.ok_ite (fun g2 => ?_) (fun g2 => ?_)
   ·
    refine Mach.ok_ite (fun g3 => ?_) (fun g3 => ?_)
    ·
     refine Mach.ok_ite (fun g4 => ?_) (fun g4 => ?_)
     ·
      refine Mach.ok_ite (fun g5 => ?_) (fun g5 => ?_)
      ·
       refine Mach.ok_ite (fun g6 => ?_) (fun g6 => ?_)
       ·
        refine Mach.ok_ite (fun g7 => ?_) (fun g7 => ?_)
        ·
         refine Mach.ok_ite (fun g8 => ?_) (fun g8 => ?_)
         ·
          refine Mach.ok_ite (fun g9 => ?_) (fun g9 => ?_)
          ·
           exact Mach.ok_none
          ·
           refine Mach.ok_ite (fun g10 => ?_) (fun g10 => ?_)
           ·
            refine Mach.ok_ite (fun g11 => ?_) (fun g11 => ?_)
            ·
             refine Mach.ok_ite (fun g12 => ?_) (fun g12 => ?_)
             ·
              refine Mach.ok_ite (fun g13 => ?_) (fun g13 => ?_)
              ·
               refine Mach.ok_ite (fun g14 => ?_) (fun g14 => ?_)
               ·
                refine Mach.ok_ite (fun g15 => ?_) (fun g15 => ?_)
                ·
                 refine Mach.ok_ite (fun g16 => ?_) (fun g16 => ?_)
                 ·
                  refine Mach.ok_ite (fun g17 => ?_) (fun g17 => ?_)
                  ·
                   exact Mach.ok_next (M := Zd a0 a1 a2 N) (cd := 1000000) (cm := 0) (y := (.h2m27 (v2) (v3) ((v4 + 1)) (v7) (v8) : Zb)) (fu := 4000) (orc := (Z9 v2 v4)) (live := [0, 1, 2, 3, 4, 5]) (tv := fun _ => [some (Value.int .u8 a1), some (vi a2), some (vp 0 0), some (vi (12 : Int)), some (vs 1 0 v2.length v2.length), some (vi (v3 : Int)), some (vp 2 0), some (vi (((v4 + 1) : Nat) : Int))]) (bl := [some (.cells [vi (400 : Int), vs 3 0 30 30, vs 4 0 30 30, vn, vn, vn, vn, vn, vn, vn, vn, vn, vn, vn, vn, vs 5 0 0 1, vn, vn, vn, vn] 48), some (.cells (Zr Zp v2) 30), some (.cells [vi (2 : Int), vi v7] 30), some (.cells [vi (1 : Int), vi (16 : Int), vi (255 : Int), vi (2 : Int), vq, vq, vq, vq, vq, vq, vq, vq, vq, vq, vq, vq, vq, vq, vq, vq, vq, vq, vq, vq, vq, vq, vq, vq, vq, vq, vq, vq, vq, vq, vq, vq, vq, vq, vq, vq, vq, vq, vq, vq, vq, vq, vq, vq, vq, vq, vq, vq, vq, vq, vq, vq, vq, vq, vq, vq, vq, vq, vq, vq, vq, vq, vq, vq, vq, vq, vq, vq, vq, vq, vq, vq, vq, vq, vq, vq, vq, vq, vq, vq, vq, vi (v8 : Int), vi (12 : Int), vq, vi (1 : Int), vq, vq, vq, vq, vq, vq, vq, vq, vq, vq, vq, vq, vq, vq, vq, vq, vq, vq, vq, vq, vq, vq, vq, vq, vq, vq, vq, vq, vq, vq, vq, vq, vq, vq, vq, vq, vq, vq, vq, vq, vq, vq, vq, vq, vq, vq, vq, vq, vq, vq, vq, vq, vq, vq, vq, vq, vq, vq, vq, vq, vq] 38), some (.cells [vq, vq, vi (2 : Int), vq, vi (2 : Int), vq, vi (2 : Int), vq, vi (2 : Int), vq, vi (2 : Int), vq, vi (2 : Int), vq, vi (2 : Int), vq, vi (2 : Int), vq, vi (1 : Int), vq, vi (1 : Int), vq, vi (1 : Int), vq, vi (1 : Int), vq, vi (1 : Int), vq, vi (1 : Int), vq, vi (1 : Int), vq, vi (1 : Int), vq, vq, vq, vi (1 : Int), vq, vi (1 : Int), vq, vi (1 : Int), vq, vi (1 : Int), vq, vi (1 : Int), vq, vi (1 : Int), vq, vi (1 : Int), vq, vi (1 : Int), vq, vi (1 : Int), vq, vi (1 : Int), vq, vi (1 : Int), vq, vi (1 : Int), vi a2] 30), some (.cells [vi (18 : Int)] 3)]) (ob := (Z0 a1 v2 v3 v4 v7 v8)) rfl (show 2 ∈ Zl (Zh 2) from by decide +kernel) (fun gv => by kernel_rfl) (ZA a1 v2 v3 v4 v7 v8 g0 g1 g2 g3 g4 g5 g6 g7 g8 g9 g10 g11 g12 g13 g14 g15 g16 g17) rfl (by decide) (by rfl) (fun _ => ⟨rr, ⟨rr, ⟨rr, ⟨rr, ⟨rr, ⟨rr, ⟨rr, ⟨rr, trivial⟩⟩⟩⟩⟩⟩⟩⟩) ⟨⟨rfl, ⟨[], by rfl⟩, by rfl⟩, ⟨(Zu (E := Zp) (α := R_ii) _ v2 _), ⟨⟨rfl, ⟨[], by rfl⟩, by rfl⟩, ⟨⟨rfl, ⟨[], by rfl⟩, by rfl⟩, ⟨⟨rfl, ⟨[], by rfl⟩, by rfl⟩, ⟨⟨rfl, ⟨[], by rfl⟩, by rfl⟩, trivial⟩⟩⟩⟩⟩⟩
                  ·
                   exact Mach.ok_none
                 ·
                  exact Mach.ok_none
                ·
                 exact Mach.ok_none
               ·
                exact Mach.ok_none
              ·
               exact Mach.ok_none
             ·
              exact Mach.ok_none
            ·
             exact Mach.ok_none
           ·
            exact Mach.ok_none
         ·
          exact Mach.ok_next (M := Zd a0 a1 a2 N) (cd := 1000000) (cm := 0) (y := (.h1m27 ((v2 ++ ([(⟨(2 : Int), v7⟩ : R_ii)] : List R_ii))) ((v3 + 1)) (v8) : Zb)) (fu := 4000) (orc := (ZB v2 v3 v7)) (live := [0, 26, 3, 4, 5]) (tv := fun _ => [some (Value.int .u8 a1), some (vi a2), some (vp 0 0), some (vi (12 : Int)), some (vs 26 0 (v2.length + 1) (v2.length + 1)), some (vi (((v3 + 1) : Nat) : Int))]) (bl := [some (.cells [vi (400 : Int), vs 3 0 30 30, vs 4 0 30 30, vn, vn, vn, vn, vn, vn, vn, vn, vn, vn, vn, vn, vs 5 0 1 1, vn, vn, vn, vn] 48), some (.cells (Zr Zp (v2 ++ ([(⟨(2 : Int), v7⟩ : R_ii)] : List R_ii))) 30), some (.cells [vi (1 : Int), vi (16 : Int), vi (255 : Int), vi (2 : Int), vq, vq, vq, vq, vq, vq, vq, vq, vq, vq, vq, vq, vq, vq, vq, vq, vq, vq, vq, vq, vq, vq, vq, vq, vq, vq, vq, vq, vq, vq, vq, vq, vq, vq, vq, vq, vq, vq, vq, vq, vq, vq, vq, vq, vq, vq, vq, vq, vq, vq, vq, vq, vq, vq, vq, vq, vq, vq, vq, vq, vq, vq, vq, vq, vq, vq, vq, vq, vq, vq, vq, vq, vq, vq, vq, vq, vq, vq, vq, vq, vq, vi (v8 : Int), vi (12 : Int), vq, vq, vq, vq, vq, vq, vq, vq, vq, vq, vq, vq, vq, vq, vq, vq, vq, vq, vq, vq, vq, vq, vq, vq, vq, vq, vq, vq, vq, vq, vq, vq, vq, vq, vq, vq, vq, vq, vq, vq, vq, vq, vq, vq, vq, vq, vq, vq, vq, vq, vq, vq, vq, vq, vq, vq, vq, vq, vq, vq, vq, vq, vq] 38), some (.cells [vq, vq, vi (2 : Int), vq, vi (2 : Int), vq, vi (2 : Int), vq, vi (2 : Int), vq, vi (2 : Int), vq, vi (2 : Int), vq, vi (2 : Int), vq, vi (2 : Int), vq, vi (1 : Int), vq, vi (1 : Int), vq, vi (1 : Int), vq, vi (1 : Int), vq, vi (1 : Int), vq, vi (1 : Int), vq, vi (1 : Int), vq, vi (1 : Int), vq, vq, vq, vi (1 : Int), vq, vi (1 : Int), vq, vi (1 : Int), vq, vi (1 : Int), vq, vi (1 : Int), vq, vi (1 : Int), vq, vi (1 : Int), vq, vi (1 : Int), vq, vi (1 : Int), vq, vi (1 : Int), vq, vi (1 : Int), vq, vi (1 : Int), vi a2] 30), some (.cells [vi (18 : Int)] 3)]) (ob := (Z1 a1 a2 v2 v3 v4 v7 v8)) rfl (show 1 ∈ Zl (Zh 2) from by decide +kernel) (fun gv => by kernel_rfl) (ZC a1 a2 v2 v3 v4 v7 v8 g0 g1 g2 g3 g4 g5 g6 g7 g8) rfl (by decide) (by rfl) (fun _ => ⟨rr, ⟨rr, ⟨rr, ⟨rr, ⟨⟨Eq.trans (show (vs 1 0 (v2 ++ ([(⟨(2 : Int), v7⟩ : R_ii)] : List R_ii)).length (v2 ++ ([(⟨(2 : Int), v7⟩ : R_ii)] : List R_ii)).length : Value) = vs 1 0 (v2.length + 1) (v2.length + 1) from (ZF rfl eqA eqA)) (by rfl), by rfl⟩, ⟨rr, trivial⟩⟩⟩⟩⟩⟩) ⟨⟨rfl, ⟨[], by rfl⟩, by rfl⟩, ⟨(Zu (E := Zp) (α := R_ii) _ (v2 ++ ([(⟨(2 : Int), v7⟩ : R_ii)] : List R_ii)) _), ⟨⟨rfl, ⟨[], by rfl⟩, by rfl⟩, ⟨⟨rfl, ⟨[], by rfl⟩, by rfl⟩, ⟨⟨rfl, ⟨[], by rfl⟩, by rfl⟩, trivial⟩⟩⟩⟩⟩
        ·
         exact Mach.ok_none
       ·
        exact Mach.ok_none
      ·
       exact Mach.ok_none
     ·
      exact Mach.ok_none
    ·
     exact Mach.ok_none
   ·
    exact Mach.ok_none
  ·
   exact Mach.ok_none
 ·
  exact Mach.ok_none

theorem ZeD (a0 a1 a2 : Int) (v2 : List R_ii) (v3 v4 : Nat) (v7 : Int) (v8 N : Nat) : (Zd a0 a1 a2 N).Ok Try.prog Zk (.h2m28 v2 v3 v4 v7 v8 : Zb) (Zf a0 a1 a2 N (.h2m28 v2 v3 v4 v7 v8 : Zb)) := by
 show (Zd a0 a1 a2 N).Ok Try.prog Zk (.h2m28 v2 v3 v4 v7 v8 : Zb) (Zaw a0 a1 a2 N v2 v3 v4 v7 v8)
 unfold Zaw
 refine Mach.ok_ite (fun g0 => ?_) (fun g0 => ?_)
 ·
  refine Mach.ok_ite (fun g1 => ?_) (fun g1 => ?_)
  ·
   refine Mach.ok_ite (fun g2 => ?_) (fun g2 => ?_)
   ·
    refine Mach.ok_ite (fun g3 => ?_) (fun g3 => ?_)
    ·
     refine Mach.ok_ite (fun g4 => ?_) (fun g4 => ?_)
     ·
      refine Mach.ok_ite (fun g5 => ?_) (fun g5 => ?_)
      ·
       refine Mach.ok_ite (fun g6 => ?_) (fun g6 => ?_)
       ·
        refine Mach.ok_ite (fun g7 => ?_) (fun g7 => ?_)
        ·
         refine Mach.ok_ite (fun g8 => ?_) (fun g8 => ?_)
         ·
          refine Mach.ok_ite (fun g9 => ?_) (fun g9 => ?_)
          ·
           exact Mach.ok_none
          ·
           refine Mach.ok_ite (fun g10 => ?_) (fun g10 => ?_)
           ·
            refine Mach.ok_ite (fun g11 => ?_) (fun g11 => ?_)
            ·
             refine Mach.ok_ite (fun g12 => ?_) (fun g12 => ?_)
             ·
              refine Mach.ok_ite (fun g13 => ?_) (fun g13 => ?_)
              ·
               refine Mach.ok_ite (fun g14 => ?_) (fun g14 => ?_)
               ·
                refine Mach.ok_ite (fun g15 => ?_) (fun g15 => ?_)
                ·
                 refine Mach.ok_ite (fun g16 => ?_) (fun g16 => ?_)
                 ·
                  refine Mach.ok_ite (fun g17 => ?_) (fun g17 => ?_)
                  ·
                   exact Mach.ok_next (M := Zd a0 a1 a2 N) (cd := 1000000) (cm := 0) (y := (.h2m28 (v2) (v3) ((v4 + 1)) (v7) (v8) : Zb)) (fu := 4000) (orc := (Z9 v2 v4)) (live := [0, 1, 2, 3, 4, 5]) (tv := fun _ => [some (Value.int .u8 a1), some (vi a2), some (vp 0 0), some (vi (13 : Int)), some (vs 1 0 v2.length v2.length), some (vi (v3 : Int)), some (vp 2 0), some (vi (((v4 + 1) : Nat) : Int))]) (bl := [some (.cells [vi (400 : Int), vs 3 0 31 31, vs 4 0 31 31, vn, vn, vn, vn, vn, vn, vn, vn, vn, vn, vn, vn, vn, vs 5 0 0 1, vn, vn, vn] 48), some (.cells (Zr Zp v2) 30), some (.cells [vi (2 : Int), vi v7] 30), some (.cells [vi (1 : Int), vi (16 : Int), vi (255 : Int), vi (2 : Int), vq, vq, vq, vq, vq, vq, vq, vq, vq, vq, vq, vq, vq, vq, vq, vq, vq, vq, vq, vq, vq, vq, vq, vq, vq, vq, vq, vq, vq, vq, vq, vq, vq, vq, vq, vq, vq, vq, vq, vq, vq, vq, vq, vq, vq, vq, vq, vq, vq, vq, vq, vq, vq, vq, vq, vq, vq, vq, vq, vq, vq, vq, vq, vq, vq, vq, vq, vq, vq, vq, vq, vq, vq, vq, vq, vq, vq, vq, vq, vq, vq, vi (v8 : Int), vi (13 : Int), vq, vi (1 : Int), vq, vq, vq, vq, vq, vq, vq, vq, vq, vq, vq, vq, vq, vq, vq, vq, vq, vq, vq, vq, vq, vq, vq, vq, vq, vq, vq, vq, vq, vq, vq, vq, vq, vq, vq, vq, vq, vq, vq, vq, vq, vq, vq, vq, vq, vq, vq, vq, vq, vq, vq, vq, vq, vq, vq, vq, vq, vq, vq, vq, vq, vq, vq, vq, vq, vq] 38), some (.cells [vq, vq, vi (2 : Int), vq, vi (2 : Int), vq, vi (2 : Int), vq, vi (2 : Int), vq, vi (2 : Int), vq, vi (2 : Int), vq, vi (2 : Int), vq, vi (2 : Int), vq, vi (1 : Int), vq, vi (1 : Int), vq, vi (1 : Int), vq, vi (1 : Int), vq, vi (1 : Int), vq, vi (1 : Int), vq, vi (1 : Int), vq, vi (1 : Int), vq, vq, vq, vi (1 : Int), vq, vi (1 : Int), vq, vi (1 : Int), vq, vi (1 : Int), vq, vi (1 : Int), vq, vi (1 : Int), vq, vi (1 : Int), vq, vi (1 : Int), vq, vi (1 : Int), vq, vi (1 : Int), vq, vi (1 : Int), vq, vi (1 : Int), vq, vi (1 : Int), vi a2] 30), some (.cells [vi (18 : Int)] 3)]) (ob := (Z0 a1 v2 v3 v4 v7 v8)) rfl (show 2 ∈ Zl (Zh 2) from by decide +kernel) (fun gv => by kernel_rfl) (ZA a1 v2 v3 v4 v7 v8 g0 g1 g2 g3 g4 g5 g6 g7 g8 g9 g10 g11 g12 g13 g14 g15 g16 g17) rfl (by decide) (by rfl) (fun _ => ⟨rr, ⟨rr, ⟨rr, ⟨rr, ⟨rr, ⟨rr, ⟨rr, ⟨rr, trivial⟩⟩⟩⟩⟩⟩⟩⟩) ⟨⟨rfl, ⟨[], by rfl⟩, by rfl⟩, ⟨(Zu (E := Zp) (α := R_ii) _ v2 _), ⟨⟨rfl, ⟨[], by rfl⟩, by rfl⟩, ⟨⟨rfl, ⟨[], by rfl⟩, by rfl⟩, ⟨⟨rfl, ⟨[], by rfl⟩, by rfl⟩, ⟨⟨rfl, ⟨[], by rfl⟩, by rfl⟩, trivial⟩⟩⟩⟩⟩⟩
                  ·
                   exact Mach.ok_none
                 ·
                  exact Mach.ok_none
                ·
                 exact Mach.ok_none
               ·
                exact Mach.ok_none
              ·
               exact Mach.ok_none
             ·
              exact Mach.ok_none
            ·
             exact Mach.ok_none
           ·
            exact Mach.ok_none
         ·
          exact Mach.ok_next (M := Zd a0 a1 a2 N) (cd := 1000000) (cm := 0) (y := (.h1m28 ((v2 ++ ([(⟨(2 : Int), v7⟩ : R_ii)] : List R_ii))) ((v3 + 1)) (v8) : Zb)) (fu := 4000) (orc := (ZB v2 v3 v7)) (live := [0, 26, 3, 4, 5]) (tv := fun _ => [some (Value.int .u8 a1), some (vi a2), some (vp 0 0), some (vi (13 : Int)), some (vs 26 0 (v2.length + 1) (v2.length + 1)), some (vi (((v3 + 1) : Nat) : Int))]) (bl := [some (.cells [vi (400 : Int), vs 3 0 31 31, vs 4 0 31 31, vn, vn, vn, vn, vn, vn, vn, vn, vn, vn, vn, vn, vn, vs 5 0 1 1, vn, vn, vn] 48), some (.cells (Zr Zp (v2 ++ ([(⟨(2 : Int), v7⟩ : R_ii)] : List R_ii))) 30), some (.cells [vi (1 : Int), vi (16 : Int), vi (255 : Int), vi (2 : Int), vq, vq, vq, vq, vq, vq, vq, vq, vq, vq, vq, vq, vq, vq, vq, vq, vq, vq, vq, vq, vq, vq, vq, vq, vq, vq, vq, vq, vq, vq, vq, vq, vq, vq, vq, vq, vq, vq, vq, vq, vq, vq, vq, vq, vq, vq, vq, vq, vq, vq, vq, vq, vq, vq, vq, vq, vq, vq, vq, vq, vq, vq, vq, vq, vq, vq, vq, vq, vq, vq, vq, vq, vq, vq, vq, vq, vq, vq, vq, vq, vq, vi (v8 : Int), vi (13 : Int), vq, vq, vq, vq, vq, vq, vq, vq, vq, vq, vq, vq, vq, vq, vq, vq, vq, vq, vq, vq, vq, vq, vq, vq, vq, vq, vq, vq, vq, vq, vq, vq, vq, vq, vq, vq, vq, vq, vq, vq, vq, vq, vq, vq, vq, vq, vq, vq, vq, vq, vq, vq, vq, vq, vq, vq, vq, vq, vq, vq, vq, vq, vq, vq, vq, vq, vq, vq] 38), some (.cells [vq, vq, vi (2 : Int), vq, vi (2 : Int), vq, vi (2 : Int), vq, vi (2 : Int), vq, vi (2 : Int), vq, vi (2 : Int), vq, vi (2 : Int), vq, vi (2 : Int), vq, vi (1 : Int), vq, vi (1 : Int), vq, vi (1 : Int), vq, vi (1 : Int), vq, vi (1 : Int), vq, vi (1 : Int), vq, vi (1 : Int), vq, vi (1 : Int), vq, vq, vq, vi (1 : Int), vq, vi (1 : Int), vq, vi (1 : Int), vq, vi (1 : Int), vq, vi (1 : Int), vq, vi (1 : Int), vq, vi (1 : Int), vq, vi (1 : Int), vq, vi (1 : Int), vq, vi (1 : Int), vq, vi (1 : Int), vq, vi (1 : Int), vq, vi (1 : Int), vi a2] 30), some (.cells [vi (18 : Int)] 3)]) (ob := (Z1 a1 a2 v2 v3 v4 v7 v8)) rfl (show 1 ∈ Zl (Zh 2) from by decide +kernel) (fun gv => by kernel_rfl) (ZC a1 a2 v2 v3 v4 v7 v8 g0 g1 g2 g3 g4 g5 g6 g7 g8) rfl (by decide) (by rfl) (fun _ => ⟨rr, ⟨rr, ⟨rr, ⟨rr, ⟨⟨Eq.trans (show (vs 1 0 (v2 ++ ([(⟨(2 : Int), v7⟩ : R_ii)] : List R_ii)).length (v2 ++ ([(⟨(2 : Int), v7⟩ : R_ii)] : List R_ii)).length : Value) = vs 1 0 (v2.length + 1) (v2.length + 1) from (ZF rfl eqA eqA)) (by rfl), by rfl⟩, ⟨rr, trivial⟩⟩⟩⟩⟩⟩) ⟨⟨rfl, ⟨[], by rfl⟩, by rfl⟩, ⟨(Zu (E := Zp) (α := R_ii) _ (v2 ++ ([(⟨(2 : Int), v7⟩ : R_ii)] : List R_ii)) _), ⟨⟨rfl, ⟨[], by rfl⟩, by rfl⟩, ⟨⟨rfl, ⟨[], by rfl⟩, by rfl⟩, ⟨⟨rfl, ⟨[], by rfl⟩, by rfl⟩, trivial⟩⟩⟩⟩⟩
        ·
         exact Mach.ok_none
       ·
        exact Mach.ok_none
      ·
       exact Mach.ok_none
     ·
      exact Mach.ok_none
    ·
     exact Mach.ok_none
   ·
    exact Mach.ok_none
  ·
   exact Mach.ok_none
 ·
  exact Mach.ok_none

theorem ZeE (a0 a1 a2 : Int) (v2 : List R_ii) (v3 v4 : Nat) (v7 : Int) (v8 N : Nat) : (Zd a0 a1 a2 N).Ok Try.prog Zk (.h2m29 v2 v3 v4 v7 v8 : Zb) (Zf a0 a1 a2 N (.h2m29 v2 v3 v4 v7 v8 : Zb)) := by
 show (Zd a0 a1 a2 N).Ok Try.prog Zk (.h2m29 v2 v3 v4 v7 v8 : Zb) (Zax a0 a1 a2 N v2 v3 v4 v7 v8)
 unfold Zax
 refine Mach.ok_ite (fun g0 => ?_) (fun g0 => ?_)
 ·
  refine Mach.ok_ite (fun g1 => ?_) (fun g1 => ?_)
  ·
   refine Mach.ok_ite (fun g2 => ?_) (fun g2 => ?_)
   ·
    refine Mach.ok_ite (fun g3 => ?_) (fun g3 => ?_)
    ·
     refine Mach.ok_ite (fun g4 => ?_) (fun g4 => ?_)
     ·
      refine Mach.ok_ite (fun g5 => ?_) (fun g5 => ?_)
      ·
       refine Mach.ok_ite (fun g6 => ?_) (fun g6 => ?_)
       ·
        refine Mach.ok_ite (fun g7 => ?_) (fun g7 => ?_)
        ·
         refine Mach.ok_ite (fun g8 => ?_) (fun g8 => ?_)
         ·
          refine Mach.ok_ite (fun g9 => ?_) (fun g9 => ?_)
          ·
           exact Mach.ok_none
          ·
           refine Mach.ok_ite (fun g10 => ?_) (fun g10 => ?_)
           ·
            refine Mach.ok_ite (fun g11 => ?_) (fun g11 => ?_)
            ·
             refine Mach.ok_ite (fun g12 => ?_) (fun g12 => ?_)
             ·
              refine Mach.ok_ite (fun g13 => ?_) (fun g13 => ?_)
              ·
               refine Mach.ok_ite (fun g14 => ?_) (fun g14 => ?_)
               ·
                refine Mach.ok_ite (fun g15 => ?_) (fun g15 => ?_)
                ·
                 refine Mach.ok_ite (fun g16 => ?_) (fun g16 => ?_)
                 ·
                  refine Mach.ok_ite (fun g17 => ?_) (fun g17 => ?_)
                  ·
                   exact Mach.ok_next (M := Zd a0 a1 a2 N) (cd := 1000000) (cm := 0) (y := (.h2m29 (v2) (v3) ((v4 + 1)) (v7) (v8) : Zb)) (fu := 4000) (orc := (Z9 v2 v4)) (live := [0, 1, 2, 3, 4, 5]) (tv := fun _ => [some (Value.int .u8 a1), some (vi a2), some (vp 0 0), some (vi (14 : Int)), some (vs 1 0 v2.length v2.length), some (vi (v3 : Int)), some (vp 2 0), some (vi (((v4 + 1) : Nat) : Int))]) (bl := [some (.cells [vi (400 : Int), vs 3 0 32 32, vs 4 0 32 32, vn, vn, vn, vn, vn, vn, vn, vn, vn, vn, vn, vn, vn, vn, vs 5 0 0 1, vn, vn] 48), some (.cells (Zr Zp v2) 30), some (.cells [vi (2 : Int), vi v7] 30), some (.cells [vi (1 : Int), vi (16 : Int), vi (255 : Int), vi (2 : Int), vq, vq, vq, vq, vq, vq, vq, vq, vq, vq, vq, vq, vq, vq, vq, vq, vq, vq, vq, vq, vq, vq, vq, vq, vq, vq, vq, vq, vq, vq, vq, vq, vq, vq, vq, vq, vq, vq, vq, vq, vq, vq, vq, vq, vq, vq, vq, vq, vq, vq, vq, vq, vq, vq, vq, vq, vq, vq, vq, vq, vq, vq, vq, vq, vq, vq, vq, vq, vq, vq, vq, vq, vq, vq, vq, vq, vq, vq, vq, vq, vq, vi (v8 : Int), vi (14 : Int), vq, vi (1 : Int), vq, vq, vq, vq, vq, vq, vq, vq, vq, vq, vq, vq, vq, vq, vq, vq, vq, vq, vq, vq, vq, vq, vq, vq, vq, vq, vq, vq, vq, vq, vq, vq, vq, vq, vq, vq, vq, vq, vq, vq, vq, vq, vq, vq, vq, vq, vq, vq, vq, vq, vq, vq, vq, vq, vq, vq, vq, vq, vq, vq, vq, vq, vq, vq, vq, vq, vq, vq, vq, vq, vq] 38), some (.cells [vq, vq, vi (2 : Int), vq, vi (2 : Int), vq, vi (2 : Int), vq, vi (2 : Int), vq, vi (2 : Int), vq, vi (2 : Int), vq, vi (2 : Int), vq, vi (2 : Int), vq, vi (1 : Int), vq, vi (1 : Int), vq, vi (1 : Int), vq, vi (1 : Int), vq, vi (1 : Int), vq, vi (1 : Int), vq, vi (1 : Int), vq, vi (1 : Int), vq, vq, vq, vi (1 : Int), vq, vi (1 : Int), vq, vi (1 : Int), vq, vi (1 : Int), vq, vi (1 : Int), vq, vi (1 : Int), vq, vi (1 : Int), vq, vi (1 : Int), vq, vi (1 : Int), vq, vi (1 : Int), vq, vi (1 : Int), vq, vi (1 : Int), vq, vi (1 : Int), vq, vi (1 : Int), vi a2] 30), some (.cells [vi (18 : Int)] 3)]) (ob := (Z0 a1 v2 v3 v4 v7 v8)) rfl (show 2 ∈ Zl (Zh 2) from by decide +kernel) (fun gv => by kernel_rfl) (ZA a1 v2 v3 v4 v7 v8 g0 g1 g2 g3 g4 g5 g6 g7 g8 g9 g10 g11 g12 g13 g14 g15 g16 g17) rfl (by decide) (by rfl) (fun _ => ⟨rr, ⟨rr, ⟨rr, ⟨rr, ⟨rr, ⟨rr, ⟨rr, ⟨rr, trivial⟩⟩⟩⟩⟩⟩⟩⟩) ⟨⟨rfl, ⟨[], by rfl⟩, by rfl⟩, ⟨(Zu (E := Zp) (α := R_ii) _ v2 _), ⟨⟨rfl, ⟨[], by rfl⟩, by rfl⟩, ⟨⟨rfl, ⟨[], by rfl⟩, by rfl⟩, ⟨⟨rfl, ⟨[], by rfl⟩, by rfl⟩, ⟨⟨rfl, ⟨[], by rfl⟩, by rfl⟩, trivial⟩⟩⟩⟩⟩⟩
                  ·
                   exact Mach.ok_none
                 ·
                  exact Mach.ok_none
                ·
                 exact Mach.ok_none
               ·
                exact Mach.ok_none
              ·
               exact Mach.ok_none
             ·
              exact Mach.ok_none
            ·
             exact Mach.ok_none
           ·
            exact Mach.ok_none
         ·
          exact Mach.ok_next (M := Zd a0 a1 a2 N) (cd := 1000000) (cm := 0) (y := (.h1m29 ((v2 ++ ([(⟨(2 : Int), v7⟩ : R_ii)] : List R_ii))) ((v3 + 1)) (v8) : Zb)) (fu := 4000) (orc := (ZB v2 v3 v7)) (live := [0, 26, 3, 4, 5]) (tv := fun _ => [some (Value.int .u8 a1), some (vi a2), some (vp 0 0), some (vi (14 : Int)), some (vs 26 0 (v2.length + 1) (v2.length + 1)), some (vi (((v3 + 1) : Nat) : Int))]) (bl := [some (.cells [vi (400 : Int), vs 3 0 32 32, vs 4 0 32 32, vn, vn, vn, vn, vn, vn, vn, vn, vn, vn, vn, vn, vn, vn, vs 5 0 1 1, vn, vn] 48), some (.cells (Zr Zp (v2 ++ ([(⟨(2 : Int), v7⟩ : R_ii)] : List R_ii))) 30), some (.cells [vi (1 : Int), vi (16 : Int), vi (255 : Int), vi (2 : Int), vq, vq, vq, vq, vq, vq, vq, vq, vq, vq, vq, vq, vq, vq, vq, vq, vq, vq, vq, vq, vq, vq, vq, vq, vq, vq, vq, vq, vq, vq, vq, vq, vq, vq, vq, vq, vq, vq, vq, vq, vq, vq, vq, vq, vq, vq, vq, vq, vq, vq, vq, vq, vq, vq, vq, vq, vq, vq, vq, vq, vq, vq, vq, vq, vq, vq, vq, vq, vq, vq, vq, vq, vq, vq, vq, vq, vq, vq, vq, vq, vq, vi (v8 : Int), vi (14 : Int), vq, vq, vq, vq, vq, vq, vq, vq, vq, vq, vq, vq, vq, vq, vq, vq, vq, vq, vq, vq, vq, vq, vq, vq, vq, vq, vq, vq, vq, vq, vq, vq, vq, vq, vq, vq, vq, vq, vq, vq, vq, vq, vq, vq, vq, vq, vq, vq, vq, vq, vq, vq, vq, vq, vq, vq, vq, vq, vq, vq, vq, vq, vq, vq, vq, vq, vq, vq, vq, vq, vq, vq, vq] 38), some (.cells [vq, vq, vi (2 : Int), vq, vi (2 : Int), vq, vi (2 : Int), vq, vi (2 : Int), vq, vi (2 : Int), vq, vi (2 : Int), vq, vi (2 : Int), vq, vi (2 : Int), vq, vi (1 : Int), vq, vi (1 : Int), vq, vi (1 : Int), vq, vi (1 : Int), vq, vi (1 : Int), vq, vi (1 : Int), vq, vi (1 : Int), vq, vi (1 : Int), vq, vq, vq, vi (1 : Int), vq, vi (1 : Int), vq, vi (1 : Int), vq, vi (1 : Int), vq, vi (1 : Int), vq, vi (1 : Int), vq, vi (1 : Int), vq, vi (1 : Int), vq, vi (1 : Int), vq, vi (1 : Int), vq, vi (1 : Int), vq, vi (1 : Int), vq, vi (1 : Int), vq, vi (1 : Int), vi a2] 30), some (.cells [vi (18 : Int)] 3)]) (ob := (Z1 a1 a2 v2 v3 v4 v7 v8)) rfl (show 1 ∈ Zl (Zh 2) from by decide +kernel) (fun gv => by kernel_rfl) (ZC a1 a2 v2 v3 v4 v7 v8 g0 g1 g2 g3 g4 g5 g6 g7 g8) rfl (by decide) (by rfl) (fun _ => ⟨rr, ⟨rr, ⟨rr, ⟨rr, ⟨⟨Eq.trans (show (vs 1 0 (v2 ++ ([(⟨(2 : Int), v7⟩ : R_ii)] : List R_ii)).length (v2 ++ ([(⟨(2 : Int), v7⟩ : R_ii)] : List R_ii)).length : Value) = vs 1 0 (v2.length + 1) (v2.length + 1) from (ZF rfl eqA eqA)) (by rfl), by rfl⟩, ⟨rr, trivial⟩⟩⟩⟩⟩⟩) ⟨⟨rfl, ⟨[], by rfl⟩, by rfl⟩, ⟨(Zu (E := Zp) (α := R_ii) _ (v2 ++ ([(⟨(2 : Int), v7⟩ : R_ii)] : List R_ii)) _), ⟨⟨rfl, ⟨[], by rfl⟩, by rfl⟩, ⟨⟨rfl, ⟨[], by rfl⟩, by rfl⟩, ⟨⟨rfl, ⟨[], by rfl⟩, by rfl⟩, trivial⟩⟩⟩⟩⟩
        ·
         exact Mach.ok_none
       ·
        exact Mach.ok_none
      ·
       exact Mach.ok_none
     ·
      exact Mach.ok_none
    ·
     exact Mach.ok_none
   ·
    exact Mach.ok_none
  ·
   exact Mach.ok_none
 ·
  exact Mach.ok_none

theorem ZeF (a0 a1 a2 : Int) (v2 : List R_ii) (v3 v4 : Nat) (v7 : Int) (v8 N : Nat) : (Zd a0 a1 a2 N).Ok Try.prog Zk (.h2m30 v2 v3 v4 v7 v8 : Zb) (Zf a0 a1 a2 N (.h2m30 v2 v3 v4 v7 v8 : Zb)) := by
 show (Zd a0 a1 a2 N).Ok Try.prog Zk (.h2m30 v2 v3 v4 v7 v8 : Zb) (Zay a0 a1 a2 N v2 v3 v4 v7 v8)
 unfold Zay
 refine Mach.ok_ite (fun g0 => ?_) (fun g0 => ?_)
 ·
  refine Mach.ok_ite (fun g1 => ?_) (fun g1 => ?_)
  ·
   refine Mach.ok_ite (fun g2 => ?_) (fun g2 => ?_)
   ·
    refine Mach.ok_ite (fun g3 => ?_) (fun g3 => ?_)
    ·
     refine Mach.ok_ite (fun g4 => ?_) (fun g4 => ?_)
     ·
      refine Mach.ok_ite (fun g5 => ?_) (fun g5 => ?_)
      ·
       refine Mach.ok_ite (fun g6 => ?_) (fun g6 => ?_)
       ·
        refine Mach.ok_ite (fun g7 => ?_) (fun g7 => ?_)
        ·
         refine Mach.ok_ite (fun g8 => ?_) (fun g8 => ?_)
         ·
          refine Mach.ok_ite (fun g9 => ?_) (fun g9 => ?_)
          ·
           exact Mach.ok_none
          ·
           refine Mach.ok_ite (fun g10 => ?_) (fun g10 => ?_)
           ·
            refine Mach.ok_ite (fun g11 => ?_) (fun g11 => ?_)
            ·
             refine Mach.ok_ite (fun g12 => ?_) (fun g12 => ?_)
             ·
              refine Mach.ok_ite (fun g13 => ?_) (fun g13 => ?_)
              ·
               refine Mach.ok_ite (fun g14 => ?_) (fun g14 => ?_)
               ·
                refine Mach.ok_ite (fun g15 => ?_) (fun g15 => ?_)
                ·
                 refine Mach.ok_ite (fun g16 => ?_) (fun g16 => ?_)
                 ·
                  refine Mach.ok_ite (fun g17 => ?_) (fun g17 => ?_)
                  ·
                   exact Mach.ok_next (M := Zd a0 a1 a2 N) (cd := 1000000) (cm := 0) (y := (.h2m30 (v2) (v3) ((v4 + 1)) (v7) (v8) : Zb)) (fu := 4000) (orc := (Z9 v2 v4)) (live := [0, 1, 2, 3, 4, 5]) (tv := fun _ => [some (Value.int .u8 a1), some (vi a2), some (vp 0 0), some (vi (15 : Int)), some (vs 1 0 v2.length v2.length), some (vi (v3 : Int)), some (vp 2 0), some (vi (((v4 + 1) : Nat) : Int))]) (bl := [some (.cells [vi (400 : Int), vs 3 0 33 33, vs 4 0 33 33, vn, vn, vn, vn, vn, vn, vn, vn, vn, vn, vn, vn, vn, vn, vn, vs 5 0 0 1, vn] 48), some (.cells (Zr Zp v2) 30), some (.cells [vi (2 : Int), vi v7] 30), some (.cells [vi (1 : Int), vi (16 : Int), vi (255 : Int), vi (2 : Int), vq, vq, vq, vq, vq, vq, vq, vq, vq, vq, vq, vq, vq, vq, vq, vq, vq, vq, vq, vq, vq, vq, vq, vq, vq, vq, vq, vq, vq, vq, vq, vq, vq, vq, vq, vq, vq, vq, vq, vq, vq, vq, vq, vq, vq, vq, vq, vq, vq, vq, vq, vq, vq, vq, vq, vq, vq, vq, vq, vq, vq, vq, vq, vq, vq, vq, vq, vq, vq, vq, vq, vq, vq, vq, vq, vq, vq, vq, vq, vq, vq, vi (v8 : Int), vi (15 : Int), vq, vi (1 : Int), vq, vq, vq, vq, vq, vq, vq, vq, vq, vq, vq, vq, vq, vq, vq, vq, vq, vq, vq, vq, vq, vq, vq, vq, vq, vq, vq, vq, vq, vq, vq, vq, vq, vq, vq, vq, vq, vq, vq, vq, vq, vq, vq, vq, vq, vq, vq, vq, vq, vq, vq, vq, vq, vq, vq, vq, vq, vq, vq, vq, vq, vq, vq, vq, vq, vq, vq, vq, vq, vq, vq, vq, vq, vq, vq, vq] 38), some (.cells [vq, vq, vi (2 : Int), vq, vi (2 : Int), vq, vi (2 : Int), vq, vi (2 : Int), vq, vi (2 : Int), vq, vi (2 : Int), vq, vi (2 : Int), vq, vi (2 : Int), vq, vi (1 : Int), vq, vi (1 : Int), vq, vi (1 : Int), vq, vi (1 : Int), vq, vi (1 : Int), vq, vi (1 : Int), vq, vi (1 : Int), vq, vi (1 : Int), vq, vq, vq, vi (1 : Int), vq, vi (1 : Int), vq, vi (1 : Int), vq, vi (1 : Int), vq, vi (1 : Int), vq, vi (1 : Int), vq, vi (1 : Int), vq, vi (1 : Int), vq, vi (1 : Int), vq, vi (1 : Int), vq, vi (1 : Int), vq, vi (1 : Int), vq, vi (1 : Int), vq, vi (1 : Int), vq, vi (1 : Int), vi a2] 30), some (.cells [vi (18 : Int)] 3)]) (ob := (Z0 a1 v2 v3 v4 v7 v8)) rfl (show 2 ∈ Zl (Zh 2) from by decide +kernel) (fun gv => by kernel_rfl) (ZA a1 v2 v3 v4 v7 v8 g0 g1 g2 g3 g4 g5 g6 g7 g8 g9 g10 g11 g12 g13 g14 g15 g16 g17) rfl (by decide) (by rfl) (fun _ => ⟨rr, ⟨rr, ⟨rr, ⟨rr, ⟨rr, ⟨rr, ⟨rr, ⟨rr, trivial⟩⟩⟩⟩⟩⟩⟩⟩) ⟨⟨rfl, ⟨[], by rfl⟩, by rfl⟩, ⟨(Zu (E := Zp) (α := R_ii) _ v2 _), ⟨⟨rfl, ⟨[], by rfl⟩, by rfl⟩, ⟨⟨rfl, ⟨[], by rfl⟩, by rfl⟩, ⟨⟨rfl, ⟨[], by rfl⟩, by rfl⟩, ⟨⟨rfl, ⟨[], by rfl⟩, by rfl⟩, trivial⟩⟩⟩⟩⟩⟩
                  ·
                   exact Mach.ok_none
                 ·
                  exact Mach.ok_none
                ·
                 exact Mach.ok_none
               ·
                exact Mach.ok_none
              ·
               exact Mach.ok_none
             ·
              exact Mach.ok_none
            ·
             exact Mach.ok_none
           ·
            exact Mach.ok_none
         ·
          exact Mach.ok_next (M := Zd a0 a1 a2 N) (cd := 1000000) (cm := 0) (y := (.h1m30 ((v2 ++ ([(⟨(2 : Int), v7⟩ : R_ii)] : List R_ii))) ((v3 + 1)) (v8) : Zb)) (fu := 4000) (orc := (ZB v2 v3 v7)) (live := [0, 26, 3, 4, 5]) (tv := fun _ => [some (Value.int .u8 a1), some (vi a2), some (vp 0 0), some (vi (15 : Int)), some (vs 26 0 (v2.length + 1) (v2.length + 1)), some (vi (((v3 + 1) : Nat) : Int))]) (bl := [some (.cells [vi (400 : Int), vs 3 0 33 33, vs 4 0 33 33, vn, vn, vn, vn, vn, vn, vn, vn, vn, vn, vn, vn, vn, vn, vn, vs 5 0 1 1, vn] 48), some (.cells (Zr Zp (v2 ++ ([(⟨(2 : Int), v7⟩ : R_ii)] : List R_ii))) 30), some (.cells [vi (1 : Int), vi (16 : Int), vi (255 : Int), vi (2 : Int), vq, vq, vq, vq, vq, vq, vq, vq, vq, vq, vq, vq, vq, vq, vq, vq, vq, vq, vq, vq, vq, vq, vq, vq, vq, vq, vq, vq, vq, vq, vq, vq, vq, vq, vq, vq, vq, vq, vq, vq, vq, vq, vq, vq, vq, vq, vq, vq, vq, vq, vq, vq, vq, vq, vq, vq, vq, vq, vq, vq, vq, vq, vq, vq, vq, vq, vq, vq, vq, vq, vq, vq, vq, vq, vq, vq, vq, vq, vq, vq, vq, vi (v8 : Int), vi (15 : Int), vq, vq, vq, vq, vq, vq, vq, vq, vq, vq, vq, vq, vq, vq, vq, vq, vq, vq, vq, vq, vq, vq, vq, vq, vq, vq, vq, vq, vq, vq, vq, vq, vq, vq, vq, vq, vq, vq, vq, vq, vq, vq, vq, vq, vq, vq, vq, vq, vq, vq, vq, vq, vq, vq, vq, vq, vq, vq, vq, vq, vq, vq, vq, vq, vq, vq, vq, vq, vq, vq, vq, vq, vq, vq, vq, vq, vq, vq] 38), some (.cells [vq, vq, vi (2 : Int), vq, vi (2 : Int), vq, vi (2 : Int), vq, vi (2 : Int), vq, vi (2 : Int), vq, vi (2 : Int), vq, vi (2 : Int), vq, vi (2 : Int), vq, vi (1 : Int), vq, vi (1 : Int), vq, vi (1 : Int), vq, vi (1 : Int), vq, vi (1 : Int), vq, vi (1 : Int), vq, vi (1 : Int), vq, vi (1 : Int), vq, vq, vq, vi (1 : Int), vq, vi (1 : Int), vq, vi (1 : Int), vq, vi (1 : Int), vq, vi (1 : Int), vq, vi (1 : Int), vq, vi (1 : Int), vq, vi (1 : Int), vq, vi (1 : Int), vq, vi (1 : Int), vq, vi (1 : Int), vq, vi (1 : Int), vq, vi (1 : Int), vq, vi (1 : Int), vq, vi (1 : Int), vi a2] 30), some (.cells [vi (18 : Int)] 3)]) (ob := (Z1 a1 a2 v2 v3 v4 v7 v8)) rfl (show 1 ∈ Zl (Zh 2) from by decide +kernel) (fun gv => by kernel_rfl) (ZC a1 a2 v2 v3 v4 v7 v8 g0 g1 g2 g3 g4 g5 g6 g7 g8) rfl (by decide) (by rfl) (fun _ => ⟨rr, ⟨rr, ⟨rr, ⟨rr, ⟨⟨Eq.trans (show (vs 1 0 (v2 ++ ([(⟨(2 : Int), v7⟩ : R_ii)] : List R_ii)).length (v2 ++ ([(⟨(2 : Int), v7⟩ : R_ii)] : List R_ii)).length : Value) = vs 1 0 (v2.length + 1) (v2.length + 1) from (ZF rfl eqA eqA)) (by rfl), by rfl⟩, ⟨rr, trivial⟩⟩⟩⟩⟩⟩) ⟨⟨rfl, ⟨[], by rfl⟩, by rfl⟩, ⟨(Zu (E := Zp) (α := R_ii) _ (v2 ++ ([(⟨(2 : Int), v7⟩ : R_ii)] : List R_ii)) _), ⟨⟨rfl, ⟨[], by rfl⟩, by rfl⟩, ⟨⟨rfl, ⟨[], by rfl⟩, by rfl⟩, ⟨⟨rfl, ⟨[], by rfl⟩, by rfl⟩, trivial⟩⟩⟩⟩⟩
        ·
         exact Mach.ok_none
       ·
        exact Mach.ok_none
      ·
       exact Mach.ok_none
     ·
      exact Mach.ok_none
    ·
     exact Mach.ok_none
   ·
    exact Mach.ok_none
  ·
   exact Mach.ok_none
 ·
  exact Mach.ok_none

theorem ZeG (a0 a1 a2 : Int) (v2 : List R_ii) (v3 v4 : Nat) (v7 : Int) (v8 N : Nat) : (Zd a0 a1 a2 N).Ok Try.prog Zk (.h2m31 v2 v3 v4 v7 v8 : Zb) (Zf a0 a1 a2 N (.h2m31 v2 v3 v4 v7 v8 : Zb)) := by
 show (Zd a0 a1 a2 N).Ok Try.prog Zk (.h2m31 v2 v3 v4 v7 v8 : Zb) (Zaz a0 a1 a2 N v2 v3 v4 v7 v8)
 unfold Zaz
 refine Mach.ok_ite (fun g0 => ?_) (fun g0 => ?_)
 ·
  refine Mach.ok_ite (fun g1 => ?_) (fun g1 => ?_)
  ·
   refine Mach.ok_ite (fun g2 => ?_) (fun g2 => ?_)
   ·
    refine Mach.ok_ite (fun g3 => ?_) (fun g3 => ?_)
    ·
     refine Mach.ok_ite (fun g4 => ?_) (fun g4 => ?_)
     ·
      refine Mach.ok_ite (fun g5 => ?_) (fun g5 => ?_)
      ·
       refine Mach.ok_ite (fun g6 => ?_) (fun g6 => ?_)
       ·
        refine Mach.ok_ite (fun g7 => ?_) (fun g7 => ?_)
        ·
         refine Mach.ok_ite (fun g8 => ?_) (fun g8 => ?_)
         ·
          refine Mach.ok_ite (fun g9 => ?_) (fun g9 => ?_)
          ·
           exact Mach.ok_none
          ·
           refine Mach.ok_ite (fun g10 => ?_) (fun g10 => ?_)
           ·
            refine Mach.ok_ite (fun g11 => ?_) (fun g11 => ?_)
            ·
             refine Mach.ok_ite (fun g12 => ?_) (fun g12 => ?_)
             ·
              refine Mach.ok_ite (fun g13 => ?_) (fun g13 => ?_)
              ·
               refine Mach.ok_ite (fun g14 => ?_) (fun g14 => ?_)
               ·
                refine Mach.ok_ite (fun g15 => ?_) (fun g15 => ?_)
                ·
                 refine Mach.ok_ite (fun g16 => ?_) (fun g16 => ?_)
                 ·
                  refine Mach.ok_ite (fun g17 => ?_) (fun g17 => ?_)
                  ·
                   exact Mach.ok_next (M := Zd a0 a1 a2 N) (cd := 1000000) (cm := 0) (y := (.h2m31 (v2) (v3) ((v4 + 1)) (v7) (v8) : Zb)) (fu := 4000) (orc := (Z9 v2 v4)) (live := [0, 1, 2, 3, 4, 5]) (tv := fun _ => [some (Value.int .u8 a1), some (vi a2), some (vp 0 0), some (vi (16 : Int)), some (vs 1 0 v2.length v2.length), some (vi (v3 : Int)), some (vp 2 0), some (vi (((v4 + 1) : Nat) : Int))]) (bl := [some (.cells [vi (400 : Int), vs 3 0 34 34, vs 4 0 34 34, vn, vn, vn, vn, vn, vn, vn, vn, vn, vn, vn, vn, vn, vn, vn, vn, vs 5 0 0 1] 48), some (.cells (Zr Zp v2) 30), some (.cells [vi (2 : Int), vi v7] 30), some (.cells [vi (1 : Int), vi (16 : Int), vi (255 : Int), vi (2 : Int), vq, vq, vq, vq, vq, vq, vq, vq, vq, vq, vq, vq, vq, vq, vq, vq, vq, vq, vq, vq, vq, vq, vq, vq, vq, vq, vq, vq, vq, vq, vq, vq, vq, vq, vq, vq, vq, vq, vq, vq, vq, vq, vq, vq, vq, vq, vq, vq, vq, vq, vq, vq, vq, vq, vq, vq, vq, vq, vq, vq, vq, vq, vq, vq, vq, vq, vq, vq, vq, vq, vq, vq, vq, vq, vq, vq, vq, vq, vq, vq, vq, vi (v8 : Int), vi (16 : Int), vq, vi (1 : Int), vq, vq, vq, vq, vq, vq, vq, vq, vq, vq, vq, vq, vq, vq, vq, vq, vq, vq, vq, vq, vq, vq, vq, vq, vq, vq, vq, vq, vq, vq, vq, vq, vq, vq, vq, vq, vq, vq, vq, vq, vq, vq, vq, vq, vq, vq, vq, vq, vq, vq, vq, vq, vq, vq, vq, vq, vq, vq, vq, vq, vq, vq, vq, vq, vq, vq, vq, vq, vq, vq, vq, vq, vq, vq, vq, vq, vq, vq, vq, vq, vq] 38), some (.cells [vq, vq, vi (2 : Int), vq, vi (2 : Int), vq, vi (2 : Int), vq, vi (2 : Int), vq, vi (2 : Int), vq, vi (2 : Int), vq, vi (2 : Int), vq, vi (2 : Int), vq, vi (1 : Int), vq, vi (1 : Int), vq, vi (1 : Int), vq, vi (1 : Int), vq, vi (1 : Int), vq, vi (1 : Int), vq, vi (1 : Int), vq, vi (1 : Int), vq, vq, vq, vi (1 : Int), vq, vi (1 : Int), vq, vi (1 : Int), vq, vi (1 : Int), vq, vi (1 : Int), vq, vi (1 : Int), vq, vi (1 : Int), vq, vi (1 : Int), vq, vi (1 : Int), vq, vi (1 : Int), vq, vi (1 : Int), vq, vi (1 : Int), vq, vi (1 : Int), vq, vi (1 : Int), vq, vi (1 : Int), vq, vi (1 : Int), vi a2] 30), some (.cells [vi (18 : Int)] 3)]) (ob := (Z0 a1 v2 v3 v4 v7 v8)) rfl (show 2 ∈ Zl (Zh 2) from by decide +kernel) (fun gv => by kernel_rfl) (ZA a1 v2 v3 v4 v7 v8 g0 g1 g2 g3 g4 g5 g6 g7 g8 g9 g10 g11 g12 g13 g14 g15 g16 g17) rfl (by decide) (by rfl) (fun _ => ⟨rr, ⟨rr, ⟨rr, ⟨rr, ⟨rr, ⟨rr, ⟨rr, ⟨rr, trivial⟩⟩⟩⟩⟩⟩⟩⟩) ⟨⟨rfl, ⟨[], by rfl⟩, by rfl⟩, ⟨(Zu (E := Zp) (α := R_ii) _ v2 _), ⟨⟨rfl, ⟨[], by rfl⟩, by rfl⟩, ⟨⟨rfl, ⟨[], by rfl⟩, by rfl⟩, ⟨⟨rfl, ⟨[], by rfl⟩, by rfl⟩, ⟨⟨rfl, ⟨[], by rfl⟩, by rfl⟩, trivial⟩⟩⟩⟩⟩⟩
                  ·
                   exact Mach.ok_none
                 ·
                  exact Mach.ok_none
                ·
                 exact Mach.ok_none
               ·
                exact Mach.ok_none
              ·
               exact Mach.ok_none
             ·
              exact Mach.ok_none
            ·
             exact Mach.ok_none
           ·
            exact Mach.ok_none
         ·
          exact Mach.ok_next (M := Zd a0 a1 a2 N) (cd := 1000000) (cm := 0) (y := (.h1m31 ((v2 ++ ([(⟨(2 : Int), v7⟩ : R_ii)] : List R_ii))) ((v3 + 1)) (v8) : Zb)) (fu := 4000) (orc := (ZB v2 v3 v7)) (live := [0, 26, 3, 4, 5]) (tv := fun _ => [some (Value.int .u8 a1), some (vi a2), some (vp 0 0), some (vi (16 : Int)), some (vs 26 0 (v2.length + 1) (v2.length + 1)), some (vi (((v3 + 1) : Nat) : Int))]) (bl := [some (.cells [vi (400 : Int), vs 3 0 34 34, vs 4 0 34 34, vn, vn, vn, vn, vn, vn, vn, vn, vn, vn, vn, vn, vn, vn, vn, vn, vs 5 0 1 1] 48), some (.cells (Zr Zp (v2 ++ ([(⟨(2 : Int), v7⟩ : R_ii)] : List R_ii))) 30), some (.cells [vi (1 : Int), vi (16 : Int), vi (255 : Int), vi (2 : Int), vq, vq, vq, vq, vq, vq, vq, vq, vq, vq, vq, vq, vq, vq, vq, vq, vq, vq, vq, vq, vq, vq, vq, vq, vq, vq, vq, vq, vq, vq, vq, vq, vq, vq, vq, vq, vq, vq, vq, vq, vq, vq, vq, vq, vq, vq, vq, vq, vq, vq, vq, vq, vq, vq, vq, vq, vq, vq, vq, vq, vq, vq, vq, vq, vq, vq, vq, vq, vq, vq, vq, vq, vq, vq, vq, vq, vq, vq, vq, vq, vq, vi (v8 : Int), vi (16 : Int), vq, vq, vq, vq, vq, vq, vq, vq, vq, vq, vq, vq, vq, vq, vq, vq, vq, vq, vq, vq, vq, vq, vq, vq, vq, vq, vq, vq, vq, vq, vq, vq, vq, vq, vq, vq, vq, vq, vq, vq, vq, vq, vq, vq, vq, vq, vq, vq, vq, vq, vq, vq, vq, vq, vq, vq, vq, vq, vq, vq, vq, vq, vq, vq, vq, vq, vq, vq, vq, vq, vq, vq, vq, vq, vq, vq, vq, vq, vq, vq, vq, vq, vq] 38), some (.cells [vq, vq, vi (2 : Int), vq, vi (2 : Int), vq, vi (2 : Int), vq, vi (2 : Int), vq, vi (2 : Int), vq, vi (2 : Int), vq, vi (2 : Int), vq, vi (2 : Int), vq, vi (1 : Int), vq, vi (1 : Int), vq, vi (1 : Int), vq, vi (1 : Int), vq, vi (1 : Int), vq, vi (1 : Int), vq, vi (1 : Int), vq, vi (1 : Int), vq, vq, vq, vi (1 : Int), vq, vi (1 : Int), vq, vi (1 : Int), vq, vi (1 : Int), vq, vi (1 : Int), vq, vi (1 : Int), vq, vi (1 : Int), vq, vi (1 : Int), vq, vi (1 : Int), vq, vi (1 : Int), vq, vi (1 : Int), vq, vi (1 : Int), vq, vi (1 : Int), vq, vi (1 : Int), vq, vi (1 : Int), vq, vi (1 : Int), vi a2] 30), some (.cells [vi (18 : Int)] 3)]) (ob := (Z1 a1 a2 v2 v3 v4 v7 v8)) rfl (show 1 ∈ Zl (Zh 2) from by decide +kernel) (fun gv => by kernel_rfl) (ZC a1 a2 v2 v3 v4 v7 v8 g0 g1 g2 g3 g4 g5 g6 g7 g8) rfl (by decide) (by rfl) (fun _ => ⟨rr, ⟨rr, ⟨rr, ⟨rr, ⟨⟨Eq.trans (show (vs 1 0 (v2 ++ ([(⟨(2 : Int), v7⟩ : R_ii)] : List R_ii)).length (v2 ++ ([(⟨(2 : Int), v7⟩ : R_ii)] : List R_ii)).length : Value) = vs 1 0 (v2.length + 1) (v2.length + 1) from (ZF rfl eqA eqA)) (by rfl), by rfl⟩, ⟨rr, trivial⟩⟩⟩⟩⟩⟩) ⟨⟨rfl, ⟨[], by rfl⟩, by rfl⟩, ⟨(Zu (E := Zp) (α := R_ii) _ (v2 ++ ([(⟨(2 : Int), v7⟩ : R_ii)] : List R_ii)) _), ⟨⟨rfl, ⟨[], by rfl⟩, by rfl⟩, ⟨⟨rfl, ⟨[], by rfl⟩, by rfl⟩, ⟨⟨rfl, ⟨[], by rfl⟩, by rfl⟩, trivial⟩⟩⟩⟩⟩
        ·
         exact Mach.ok_none
       ·
        exact Mach.ok_none
      ·
       exact Mach.ok_none
     ·
      exact Mach.ok_none
    ·
     exact Mach.ok_none
   ·
    exact Mach.ok_none
  ·
   exact Mach.ok_none
 ·
  exact Mach.ok_none

theorem ZfM (a0 a1 a2 : Int) (N : Nat) (g0 : (0 : Int) ≤ a0) (g1 : a0 ≤ (255 : Int)) (g2 : (0 : Int) ≤ a1) (g3 : a1 ≤ (255 : Int)) (g4 : (a0 % (16 : Int)) = (0 : Int)) : (Zd a0 a1 a2 N).Enter Try.prog Zk #[Value.int .u8 a0, Value.int .u8 a1, vi a2] (some (.inl (.h1m0 : Zb))) := by
 exact Mach.en_head (bK := Ze 1) (M := Zd a0 a1 a2 N) (cd := 1000000) (cm := 0) (y := (.h1m0 : Zb)) (fu := 4000) (orc := (ZO [] [(68, a0), (69, (0 : Int))] [] [] [])) (live := [0, 2, 3]) (tv := [some (Value.int .u8 a1), some (vi a2), some (vp 0 0), some (vi (1 : Int)), some (vn), some (vq)]) (bl := [some (.cells [vi (400 : Int), vs 2 0 17 17, vs 3 0 17 17, vn, vn, vn, vn, vn, vn, vn, vn, vn, vn, vn, vn, vn, vn, vn, vn, vn] 48), some (.cells [vi (1 : Int), vi (16 : Int), vi (255 : Int), vi (2 : Int), vq, vq, vq, vq, vq, vq, vq, vq, vq, vq, vq, vq, vq, vq, vq, vq, vq, vq, vq, vq, vq, vq, vq, vq, vq, vq, vq, vq, vq, vq, vq, vq, vq, vq, vq, vq, vq, vq, vq, vq, vq, vq, vq, vq, vq, vq, vq, vq, vq, vq, vq, vq, vq, vq, vq, vq, vq, vq, vq, vq, vq, vq, vq, vq, vq, vq, vq, vq, vq, vq, vq, vq, vq, vq, vq, vq, vq, vq, vq, vq, vq] 38), some (.cells [vq, vq, vi (2 : Int), vq, vi (2 : Int), vq, vi (2 : Int), vq, vi (2 : Int), vq, vi (2 : Int), vq, vi (2 : Int), vq, vi (2 : Int), vq, vi (2 : Int), vq, vi (1 : Int), vq, vi (1 : Int), vq, vi (1 : Int), vq, vi (1 : Int), vq, vi (1 : Int), vq, vi (1 : Int), vq, vi (1 : Int), vq, vi (1 : Int), vq] 30)]) (ob := [((Int.tmod a0 (16 : Int)) == (0 : Int), true), ((IntKind.i64.wrap a0) == a0, true)]) rfl rfl (show Zl (Ze 1).2 = [] from rfl) (by kernel_rfl) (Zi (beq_iff_eq.2 ((beq_iff_eq.1 (beq_iff_eq.2 (Zt (by omega)))).trans (by omega))) <| Zi (beq_iff_eq.2 (wrap_i64 ltA)) Za0) rfl (by decide) (by rfl) ⟨rr, ⟨rr, ⟨rr, ⟨rr, ⟨rr, ⟨rr, trivial⟩⟩⟩⟩⟩⟩ ⟨⟨rfl, ⟨[], by rfl⟩, by rfl⟩, ⟨⟨rfl, ⟨[], by rfl⟩, by rfl⟩, ⟨⟨rfl, ⟨[], by rfl⟩, by rfl⟩, trivial⟩⟩⟩

theorem ZfN (a0 a1 a2 : Int) (N : Nat) (g0 : (0 : Int) ≤ a0) (g1 : a0 ≤ (255 : Int)) (g2 : (0 : Int) ≤ a1) (g3 : a1 ≤ (255 : Int)) (g4 : ¬ ((a0 % (16 : Int)) = (0 : Int))) (g5 : (a0 % (16 : Int)) = (1 : Int)) : (Zd a0 a1 a2 N).Enter Try.prog Zk #[Value.int .u8 a0, Value.int .u8 a1, vi a2] (some (.inl (.h1m1 : Zb))) := by
 exact Mach.en_head (bK := Ze 1) (M := Zd a0 a1 a2 N) (cd := 1000000) (cm := 0) (y := (.h1m1 : Zb)) (fu := 4000) (orc := (ZO [] [(68, a0), (69, (1 : Int))] [] [] [])) (live := [0, 2, 3]) (tv := [some (Value.int .u8 a1), some (vi a2), some (vp 0 0), some (vi (2 : Int)), some (vn), some (vq)]) (bl := [some (.cells [vi (400 : Int), vs 2 0 17 17, vs 3 0 17 17, vn, vn, vn, vn, vn, vn, vn, vn, vn, vn, vn, vn, vn, vn, vn, vn, vn] 48), some (.cells [vi (1 : Int), vi (16 : Int), vi (255 : Int), vi (2 : Int), vq, vq, vq, vq, vq, vq, vq, vq, vq, vq, vq, vq, vq, vq, vq, vq, vq, vq, vq, vq, vq, vq, vq, vq, vq, vq, vq, vq, vq, vq, vq, vq, vq, vq, vq, vq, vq, vq, vq, vq, vq, vq, vq, vq, vq, vq, vq, vq, vq, vq, vq, vq, vq, vq, vq, vq, vq, vq, vq, vq, vq, vq, vq, vq, vq, vq, vq, vq, vq, vq, vq, vq, vq, vq, vq, vq, vq, vq, vq, vq, vq] 38), some (.cells [vq, vq, vi (2 : Int), vq, vi (2 : Int), vq, vi (2 : Int), vq, vi (2 : Int), vq, vi (2 : Int), vq, vi (2 : Int), vq, vi (2 : Int), vq, vi (2 : Int), vq, vi (1 : Int), vq, vi (1 : Int), vq, vi (1 : Int), vq, vi (1 : Int), vq, vi (1 : Int), vq, vi (1 : Int), vq, vi (1 : Int), vq, vi (1 : Int), vq] 30)]) (ob := [((Int.tmod a0 (16 : Int)) == (1 : Int), true), ((IntKind.i64.wrap a0) == a0, true)]) rfl rfl (show Zl (Ze 1).2 = [] from rfl) (by kernel_rfl) (Zi (beq_iff_eq.2 ((beq_iff_eq.1 (beq_iff_eq.2 (Zt (by omega)))).trans (by omega))) <| Zi (beq_iff_eq.2 (wrap_i64 ltA)) Za0) rfl (by decide) (by rfl) ⟨rr, ⟨rr, ⟨rr, ⟨rr, ⟨rr, ⟨rr, trivial⟩⟩⟩⟩⟩⟩ ⟨⟨rfl, ⟨[], by rfl⟩, by rfl⟩, ⟨⟨rfl, ⟨[], by rfl⟩, by rfl⟩, ⟨⟨rfl, ⟨[], by rfl⟩, by rfl⟩, trivial⟩⟩⟩

theorem ZfO (a0 a1 a2 : Int) (N : Nat) (g0 : (0 : Int) ≤ a0) (g1 : a0 ≤ (255 : Int)) (g2 : (0 : Int) ≤ a1) (g3 : a1 ≤ (255 : Int)) (g4 : ¬ ((a0 % (16 : Int)) = (0 : Int))) (g5 : ¬ ((a0 % (16 : Int)) = (1 : Int))) (g6 : (a0 % (16 : Int)) = (2 : Int)) : (Zd a0 a1 a2 N).Enter Try.prog Zk #[Value.int .u8 a0, Value.int .u8 a1, vi a2] (some (.inl (.h1m2 : Zb))) := by
 exact Mach.en_head (bK := Ze 1) (M := Zd a0 a1 a2 N) (cd := 1000000) (cm := 0) (y := (.h1m2 : Zb)) (fu := 4000) (orc := (ZO [] [(68, a0), (69, (2 : Int))] [] [] [])) (live := [0, 2, 3]) (tv := [some (Value.int .u8 a1), some (vi a2), some (vp 0 0), some (vi (3 : Int)), some (vn), some (vq)]) (bl := [some (.cells [vi (400 : Int), vs 2 0 17 17, vs 3 0 17 17, vn, vn, vn, vn, vn, vn, vn, vn, vn, vn, vn, vn, vn, vn, vn, vn, vn] 48), some (.cells [vi (1 : Int), vi (16 : Int), vi (255 : Int), vi (2 : Int), vq, vq, vq, vq, vq, vq, vq, vq, vq, vq, vq, vq, vq, vq, vq, vq, vq, vq, vq, vq, vq, vq, vq, vq, vq, vq, vq, vq, vq, vq, vq, vq, vq, vq, vq, vq, vq, vq, vq, vq, vq, vq, vq, vq, vq, vq, vq, vq, vq, vq, vq, vq, vq, vq, vq, vq, vq, vq, vq, vq, vq, vq, vq, vq, vq, vq, vq, vq, vq, vq, vq, vq, vq, vq, vq, vq, vq, vq, vq, vq, vq] 38), some (.cells [vq, vq, vi (2 : Int), vq, vi (2 : Int), vq, vi (2 : Int), vq, vi (2 : Int), vq, vi (2 : Int), vq, vi (2 : Int), vq, vi (2 : Int), vq, vi (2 : Int), vq, vi (1 : Int), vq, vi (1 : Int), vq, vi (1 : Int), vq, vi (1 : Int), vq, vi (1 : Int), vq, vi (1 : Int), vq, vi (1 : Int), vq, vi (1 : Int), vq] 30)]) (ob := [((Int.tmod a0 (16 : Int)) == (2 : Int), true), ((IntKind.i64.wrap a0) == a0, true)]) rfl rfl (show Zl (Ze 1).2 = [] from rfl) (by kernel_rfl) (Zi (beq_iff_eq.2 ((beq_iff_eq.1 (beq_iff_eq.2 (Zt (by omega)))).trans (by omega))) <| Zi (beq_iff_eq.2 (wrap_i64 ltA)) Za0) rfl (by decide) (by rfl) ⟨rr, ⟨rr, ⟨rr, ⟨rr, ⟨rr, ⟨rr, trivial⟩⟩⟩⟩⟩⟩ ⟨⟨rfl, ⟨[], by rfl⟩, by rfl⟩, ⟨⟨rfl, ⟨[], by rfl⟩, by rfl⟩, ⟨⟨rfl, ⟨[], by rfl⟩, by rfl⟩, trivial⟩⟩⟩

theorem ZfP (a0 a1 a2 : Int) (N : Nat) (g0 : (0 : Int) ≤ a0) (g1 : a0 ≤ (255 : Int)) (g2 : (0 : Int) ≤ a1) (g3 : a1 ≤ (255 : Int)) (g4 : ¬ ((a0 % (16 : Int)) = (0 : Int))) (g5 : ¬ ((a0 % (16 : Int)) = (1 : Int))) (g6 : ¬ ((a0 % (16 : Int)) = (2 : Int))) (g7 : (a0 % (16 : Int)) = (3 : Int)) : (Zd a0 a1 a2 N).Enter Try.prog Zk #[Value.int .u8 a0, Value.int .u8 a1, vi a2] (some (.inl (.h1m3 : Zb))) := by
 exact Mach.en_head (bK := Ze 1) (M := Zd a0 a1 a2 N) (cd := 1000000) (cm := 0) (y := (.h1m3 : Zb)) (fu := 4000) (orc := (ZO [] [(68, a0), (69, (3 : Int))] [] [] [])) (live := [0, 2, 3]) (tv := [some (Value.int .u8 a1), some (vi a2), some (vp 0 0), some (vi (4 : Int)), some (vn), some (vq)]) (bl := [some (.cells [vi (400 : Int), vs 2 0 17 17, vs 3 0 17 17, vn, vn, vn, vn, vn, vn, vn, vn, vn, vn, vn, vn, vn, vn, vn, vn, vn] 48), some (.cells [vi (1 : Int), vi (16 : Int), vi (255 : Int), vi (2 : Int), vq, vq, vq, vq, vq, vq, vq, vq, vq, vq, vq, vq, vq, vq, vq, vq, vq, vq, vq, vq, vq, vq, vq, vq, vq, vq, vq, vq, vq, vq, vq, vq, vq, vq, vq, vq, vq, vq, vq, vq, vq, vq, vq, vq, vq, vq, vq, vq, vq, vq, vq, vq, vq, vq, vq, vq, vq, vq, vq, vq, vq, vq, vq, vq, vq, vq, vq, vq, vq, vq, vq, vq, vq, vq, vq, vq, vq, vq, vq, vq, vq] 38), some (.cells [vq, vq, vi (2 : Int), vq, vi (2 : Int), vq, vi (2 : Int), vq, vi (2 : Int), vq, vi (2 : Int), vq, vi (2 : Int), vq, vi (2 : Int), vq, vi (2 : Int), vq, vi (1 : Int), vq, vi (1 : Int), vq, vi (1 : Int), vq, vi (1 : Int), vq, vi (1 : Int), vq, vi (1 : Int), vq, vi (1 : Int), vq, vi (1 : Int), vq] 30)]) (ob := [((Int.tmod a0 (16 : Int)) == (3 : Int), true), ((IntKind.i64.wrap a0) == a0, true)]) rfl rfl (show Zl (Ze 1).2 = [] from rfl) (by kernel_rfl) (Zi (beq_iff_eq.2 ((beq_iff_eq.1 (beq_iff_eq.2 (Zt (by omega)))).trans (by omega))) <| Zi (beq_iff_eq.2 (wrap_i64 ltA)) Za0) rfl (by decide) (by rfl) ⟨rr, ⟨rr, ⟨rr, ⟨rr, ⟨rr, ⟨rr, trivial⟩⟩⟩⟩⟩⟩ ⟨⟨rfl, ⟨[], by rfl⟩, by rfl⟩, ⟨⟨rfl, ⟨[], by rfl⟩, by rfl⟩, ⟨⟨rfl, ⟨[], by rfl⟩, by rfl⟩, trivial⟩⟩⟩

theorem ZfQ (a0 a1 a2 : Int) (N : Nat) (g0 : (0 : Int) ≤ a0) (g1 : a0 ≤ (255 : Int)) (g2 : (0 : Int) ≤ a1) (g3 : a1 ≤ (255 : Int)) (g4 : ¬ ((a0 % (16 : Int)) = (0 : Int))) (g5 : ¬ ((a0 % (16 : Int)) = (1 : Int))) (g6 : ¬ ((a0 % (16 : Int)) = (2 : Int))) (g7 : ¬ ((a0 % (16 : Int)) = (3 : Int))) (g8 : (a0 % (16 : Int)) = (4 : Int)) : (Zd a0 a1 a2 N).Enter Try.prog Zk #[Value.int .u8 a0, Value.int .u8 a1, vi a2] (some (.inl (.h1m4 : Zb))) := by
 exact Mach.en_head (bK := Ze 1) (M := Zd a0 a1 a2 N) (cd := 1000000) (cm := 0) (y := (.h1m4 : Zb)) (fu := 4000) (orc := (ZO [] [(68, a0), (69, (4 : Int))] [] [] [])) (live := [0, 2, 3]) (tv := [some (Value.int .u8 a1), some (vi a2), some (vp 0 0), some (vi (5 : Int)), some (vn), some (vq)]) (bl := [some (.cells [vi (400 : Int), vs 2 0 17 17, vs 3 0 17 17, vn, vn, vn, vn, vn, vn, vn, vn, vn, vn, vn, vn, vn, vn, vn, vn, vn] 48), some (.cells [vi (1 : Int), vi (16 : Int), vi (255 : Int), vi (2 : Int), vq, vq, vq, vq, vq, vq, vq, vq, vq, vq, vq, vq, vq, vq, vq, vq, vq, vq, vq, vq, vq, vq, vq, vq, vq, vq, vq, vq, vq, vq, vq, vq, vq, vq, vq, vq, vq, vq, vq, vq, vq, vq, vq, vq, vq, vq, vq, vq, vq, vq, vq, vq, vq, vq, vq, vq, vq, vq, vq, vq, vq, vq, vq, vq, vq, vq, vq, vq, vq, vq, vq, vq, vq, vq, vq, vq, vq, vq, vq, vq, vq] 38), some (.cells [vq, vq, vi (2 : Int), vq, vi (2 : Int), vq, vi (2 : Int), vq, vi (2 : Int), vq, vi (2 : Int), vq, vi (2 : Int), vq, vi (2 : Int), vq, vi (2 : Int), vq, vi (1 : Int), vq, vi (1 : Int), vq, vi (1 : Int), vq, vi (1 : Int), vq, vi (1 : Int), vq, vi (1 : Int), vq, vi (1 : Int), vq, vi (1 : Int), vq] 30)]) (ob := [((Int.tmod a0 (16 : Int)) == (4 : Int), true), ((IntKind.i64.wrap a0) == a0, true)]) rfl rfl (show Zl (Ze 1).2 = [] from rfl) (by kernel_rfl) (Zi (beq_iff_eq.2 ((beq_iff_eq.1 (beq_iff_eq.2 (Zt (by omega)))).trans (by omega))) <| Zi (beq_iff_eq.2 (wrap_i64 ltA)) Za0) rfl (by decide) (by rfl) ⟨rr, ⟨rr, ⟨rr, ⟨rr, ⟨rr, ⟨rr, trivial⟩⟩⟩⟩⟩⟩ ⟨⟨rfl, ⟨[], by rfl⟩, by rfl⟩, ⟨⟨rfl, ⟨[], by rfl⟩, by rfl⟩, ⟨⟨rfl, ⟨[], by rfl⟩, by rfl⟩, trivial⟩⟩⟩

theorem ZfR (a0 a1 a2 : Int) (N : Nat) (g0 : (0 : Int) ≤ a0) (g1 : a0 ≤ (255 : Int)) (g2 : (0 : Int) ≤ a1) (g3 : a1 ≤ (255 : Int)) (g4 : ¬ ((a0 % (16 : Int)) = (0 : Int))) (g5 : ¬ ((a0 % (16 : Int)) = (1 : Int))) (g6 : ¬ ((a0 % (16 : Int)) = (2 : Int))) (g7 : ¬ ((a0 % (16 : Int)) = (3 : Int))) (g8 : ¬ ((a0 % (16 : Int)) = (4 : Int))) (g9 : (a0 % (16 : Int)) = (5 : Int)) : (Zd a0 a1 a2 N).Enter Try.prog Zk #[Value.int .u8 a0, Value.int .u8 a1, vi a2] (some (.inl (.h1m5 : Zb))) := by
 exact Mach.en_head (bK := Ze 1) (M := Zd a0 a1 a2 N) (cd := 1000000) (cm := 0) (y := (.h1m5 : Zb)) (fu := 4000) (orc := (ZO [] [(68, a0), (69, (5 : Int))] [] [] [])) (live := [0, 2, 3]) (tv := [some (Value.int .u8 a1), some (vi a2), some (vp 0 0), some (vi (6 : Int)), some (vn), some (vq)]) (bl := [some (.cells [vi (400 : Int), vs 2 0 17 17, vs 3 0 17 17, vn, vn, vn, vn, vn, vn, vn, vn, vn, vn, vn, vn, vn, vn, vn, vn, vn] 48), some (.cells [vi (1 : Int), vi (16 : Int), vi (255 : Int), vi (2 : Int), vq, vq, vq, vq, vq, vq, vq, vq, vq, vq, vq, vq, vq, vq, vq, vq, vq, vq, vq, vq, vq, vq, vq, vq, vq, vq, vq, vq, vq, vq, vq, vq, vq, vq, vq, vq, vq, vq, vq, vq, vq, vq, vq, vq, vq, vq, vq, vq, vq, vq, vq, vq, vq, vq, vq, vq, vq, vq, vq, vq, vq, vq, vq, vq, vq, vq, vq, vq, vq, vq, vq, vq, vq, vq, vq, vq, vq, vq, vq, vq, vq] 38), some (.cells [vq, vq, vi (2 : Int), vq, vi (2 : Int), vq, vi (2 : Int), vq, vi (2 : Int), vq, vi (2 : Int), vq, vi (2 : Int), vq, vi (2 : Int), vq, vi (2 : Int), vq, vi (1 : Int), vq, vi (1 : Int), vq, vi (1 : Int), vq, vi (1 : Int), vq, vi (1 : Int), vq, vi (1 : Int), vq, vi (1 : Int), vq, vi (1 : Int), vq] 30)]) (ob := [((Int.tmod a0 (16 : Int)) == (5 : Int), true), ((IntKind.i64.wrap a0) == a0, true)]) rfl rfl (show Zl (Ze 1).2 = [] from rfl) (by kernel_rfl) (Zi (beq_iff_eq.2 ((beq_iff_eq.1 (beq_iff_eq.2 (Zt (by omega)))).trans (by omega))) <| Zi (beq_iff_eq.2 (wrap_i64 ltA)) Za0) rfl (by decide) (by rfl) ⟨rr, ⟨rr, ⟨rr, ⟨rr, ⟨rr, ⟨rr, trivial⟩⟩⟩⟩⟩⟩ ⟨⟨rfl, ⟨[], by rfl⟩, by rfl⟩, ⟨⟨rfl, ⟨[], by rfl⟩, by rfl⟩, ⟨⟨rfl, ⟨[], by rfl⟩, by rfl⟩, trivial⟩⟩⟩

theorem ZfS (a0 a1 a2 : Int) (N : Nat) (g0 : (0 : Int) ≤ a0) (g1 : a0 ≤ (255 : Int)) (g2 : (0 : Int) ≤ a1) (g3 : a1 ≤ (255 : Int)) (g4 : ¬ ((a0 % (16 : Int)) = (0 : Int))) (g5 : ¬ ((a0 % (16 : Int)) = (1 : Int))) (g6 : ¬ ((a0 % (16 : Int)) = (2 : Int))) (g7 : ¬ ((a0 % (16 : Int)) = (3 : Int))) (g8 : ¬ ((a0 % (16 : Int)) = (4 : Int))) (g9 : ¬ ((a0 % (16 : Int)) = (5 : Int))) (g10 : (a0 % (16 : Int)) = (6 : Int)) : (Zd a0 a1 a2 N).Enter Try.prog Zk #[Value.int .u8 a0, Value.int .u8 a1, vi a2] (some (.inl (.h1m6 : Zb))) := by
 exact Mach.en_head (bK := Ze 1) (M := Zd a0 a1 a2 N) (cd := 1000000) (cm := 0) (y := (.h1m6 : Zb)) (fu := 4000) (orc := (ZO [] [(68, a0), (69, (6 : Int))] [] [] [])) (live := [0, 2, 3]) (tv := [some (Value.int .u8 a1), some (vi a2), some (vp 0 0), some (vi (7 : Int)), some (vn), some (vq)]) (bl := [some (.cells [vi (400 : Int), vs 2 0 17 17, vs 3 0 17 17, vn, vn, vn, vn, vn, vn, vn, vn, vn, vn, vn, vn, vn, vn, vn, vn, vn] 48), some (.cells [vi (1 : Int), vi (16 : Int), vi (255 : Int), vi (2 : Int), vq, vq, vq, vq, vq, vq, vq, vq, vq, vq, vq, vq, vq, vq, vq, vq, vq, vq, vq, vq, vq, vq, vq, vq, vq, vq, vq, vq, vq, vq, vq, vq, vq, vq, vq, vq, vq, vq, vq, vq, vq, vq, vq, vq, vq, vq, vq, vq, vq, vq, vq, vq, vq, vq, vq, vq, vq, vq, vq, vq, vq, vq, vq, vq, vq, vq, vq, vq, vq, vq, vq, vq, vq, vq, vq, vq, vq, vq, vq, vq, vq] 38), some (.cells [vq, vq, vi (2 : Int), vq, vi (2 : Int), vq, vi (2 : Int), vq, vi (2 : Int), vq, vi (2 : Int), vq, vi (2 : Int), vq, vi (2 : Int), vq, vi (2 : Int), vq, vi (1 : Int), vq, vi (1 : Int), vq, vi (1 : Int), vq, vi (1 : Int), vq, vi (1 : Int), vq, vi (1 : Int), vq, vi (1 : Int), vq, vi (1 : Int), vq] 30)]) (ob := [((Int.tmod a0 (16 : Int)) == (6 : Int), true), ((IntKind.i64.wrap a0) == a0, true)]) rfl rfl (show Zl (Ze 1).2 = [] from rfl) (by kernel_rfl) (Zi (beq_iff_eq.2 ((beq_iff_eq.1 (beq_iff_eq.2 (Zt (by omega)))).trans (by omega))) <| Zi (beq_iff_eq.2 (wrap_i64 ltA)) Za0) rfl (by decide) (by rfl) ⟨rr, ⟨rr, ⟨rr, ⟨rr, ⟨rr, ⟨rr, trivial⟩⟩⟩⟩⟩⟩ ⟨⟨rfl, ⟨[], by rfl⟩, by rfl⟩, ⟨⟨rfl, ⟨[], by rfl⟩, by rfl⟩, ⟨⟨rfl, ⟨[], by rfl⟩, by rfl⟩, trivial⟩⟩⟩

theorem ZfT (a0 a1 a2 : Int) (N : Nat) (g0 : (0 : Int) ≤ a0) (g1 : a0 ≤ (255 : Int)) (g2 : (0 : Int) ≤ a1) (g3 : a1 ≤ (255 : Int)) (g4 : ¬ ((a0 % (16 : Int)) = (0 : Int))) (g5 : ¬ ((a0 % (16 : Int)) = (1 : Int))) (g6 : ¬ ((a0 % (16 : Int)) = (2 : Int))) (g7 : ¬ ((a0 % (16 : Int)) = (3 : Int))) (g8 : ¬ ((a0 % (16 : Int)) = (4 : Int))) (g9 : ¬ ((a0 % (16 : Int)) = (5 : Int))) (g10 : ¬ ((a0 % (16 : Int)) = (6 : Int))) (g11 : (a0 % (16 : Int)) = (7 : Int)) : (Zd a0 a1 a2 N).Enter Try.prog Zk #[Value.int .u8 a0, Value.int .u8 a1, vi a2] (some (.inl (.h1m7 : Zb))) := by
 exact Mach.en_head (bK := Ze 1) (M := Zd a0 a1 a2 N) (cd := 1000000) (cm := 0) (y := (.h1m7 : Zb)) (fu := 4000) (orc := (ZO [] [(68, a0), (69, (7 : Int))] [] [] [])) (live := [0, 2, 3]) (tv := [some (Value.int .u8 a1), some (vi a2), some (vp 0 0), some (vi (8 : Int)), some (vn), some (vq)]) (bl := [some (.cells [vi (400 : Int), vs 2 0 17 17, vs 3 0 17 17, vn, vn, vn, vn, vn, vn, vn, vn, vn, vn, vn, vn, vn, vn, vn, vn, vn] 48), some (.cells [vi (1 : Int), vi (16 : Int), vi (255 : Int), vi (2 : Int), vq, vq, vq, vq, vq, vq, vq, vq, vq, vq, vq, vq, vq, vq, vq, vq, vq, vq, vq, vq, vq, vq, vq, vq, vq, vq, vq, vq, vq, vq, vq, vq, vq, vq, vq, vq, vq, vq, vq, vq, vq, vq, vq, vq, vq, vq, vq, vq, vq, vq, vq, vq, vq, vq, vq, vq, vq, vq, vq, vq, vq, vq, vq, vq, vq, vq, vq, vq, vq, vq, vq, vq, vq, vq, vq, vq, vq, vq, vq, vq, vq] 38), some (.cells [vq, vq, vi (2 : Int), vq, vi (2 : Int), vq, vi (2 : Int), vq, vi (2 : Int), vq, vi (2 : Int), vq, vi (2 : Int), vq, vi (2 : Int), vq, vi (2 : Int), vq, vi (1 : Int), vq, vi (1 : Int), vq, vi (1 : Int), vq, vi (1 : Int), vq, vi (1 : Int), vq, vi (1 : Int), vq, vi (1 : Int), vq, vi (1 : Int), vq] 30)]) (ob := [((Int.tmod a0 (16 : Int)) == (7 : Int), true), ((IntKind.i64.wrap a0) == a0, true)]) rfl rfl (show Zl (Ze 1).2 = [] from rfl) (by kernel_rfl) (Zi (beq_iff_eq.2 ((beq_iff_eq.1 (beq_iff_eq.2 (Zt (by omega)))).trans (by omega))) <| Zi (beq_iff_eq.2 (wrap_i64 ltA)) Za0) rfl (by decide) (by rfl) ⟨rr, ⟨rr, ⟨rr, ⟨rr, ⟨rr, ⟨rr, trivial⟩⟩⟩⟩⟩⟩ ⟨⟨rfl, ⟨[], by rfl⟩, by rfl⟩, ⟨⟨rfl, ⟨[], by rfl⟩, by rfl⟩, ⟨⟨rfl, ⟨[], by rfl⟩, by rfl⟩, trivial⟩⟩⟩

theorem ZfU (a0 a1 a2 : Int) (N : Nat) (g0 : (0 : Int) ≤ a0) (g1 : a0 ≤ (255 : Int)) (g2 : (0 : Int) ≤ a1) (g3 : a1 ≤ (255 : Int)) (g4 : ¬ ((a0 % (16 : Int)) = (0 : Int))) (g5 : ¬ ((a0 % (16 : Int)) = (1 : Int))) (g6 : ¬ ((a0 % (16 : Int)) = (2 : Int))) (g7 : ¬ ((a0 % (16 : Int)) = (3 : Int))) (g8 : ¬ ((a0 % (16 : Int)) = (4 : Int))) (g9 : ¬ ((a0 % (16 : Int)) = (5 : Int))) (g10 : ¬ ((a0 % (16 : Int)) = (6 : Int))) (g11 : ¬ ((a0 % (16 : Int)) = (7 : Int))) (g12 : (a0 % (16 : Int)) = (8 : Int)) : (Zd a0 a1 a2 N).Enter Try.prog Zk #[Value.int .u8 a0, Value.int .u8 a1, vi a2] (some (.inl (.h1m8 : Zb))) := by
 exact Mach.en_head (bK := Ze 1) (M := Zd a0 a1 a2 N) (cd := 1000000) (cm := 0) (y := (.h1m8 : Zb)) (fu := 4000) (orc := (ZO [] [(68, a0), (69, (8 : Int))] [] [] [])) (live := [0, 2, 3]) (tv := [some (Value.int .u8 a1), some (vi a2), some (vp 0 0), some (vi (9 : Int)), some (vn), some (vq)]) (bl := [some (.cells [vi (400 : Int), vs 2 0 17 17, vs 3 0 17 17, vn, vn, vn, vn, vn, vn, vn, vn, vn, vn, vn, vn, vn, vn, vn, vn, vn] 48), some (.cells [vi (1 : Int), vi (16 : Int), vi (255 : Int), vi (2 : Int), vq, vq, vq, vq, vq, vq, vq, vq, vq, vq, vq, vq, vq, vq, vq, vq, vq, vq, vq, vq, vq, vq, vq, vq, vq, vq, vq, vq, vq, vq, vq, vq, vq, vq, vq, vq, vq, vq, vq, vq, vq, vq, vq, vq, vq, vq, vq, vq, vq, vq, vq, vq, vq, vq, vq, vq, vq, vq, vq, vq, vq, vq, vq, vq, vq, vq, vq, vq, vq, vq, vq, vq, vq, vq, vq, vq, vq, vq, vq, vq, vq] 38), some (.cells [vq, vq, vi (2 : Int), vq, vi (2 : Int), vq, vi (2 : Int), vq, vi (2 : Int), vq, vi (2 : Int), vq, vi (2 : Int), vq, vi (2 : Int), vq, vi (2 : Int), vq, vi (1 : Int), vq, vi (1 : Int), vq, vi (1 : Int), vq, vi (1 : Int), vq, vi (1 : Int), vq, vi (1 : Int), vq, vi (1 : Int), vq, vi (1 : Int), vq] 30)]) (ob := [((Int.tmod a0 (16 : Int)) == (8 : Int), true), ((IntKind.i64.wrap a0) == a0, true)]) rfl rfl (show Zl (Ze 1).2 = [] from rfl) (by kernel_rfl) (Zi (beq_iff_eq.2 ((beq_iff_eq.1 (beq_iff_eq.2 (Zt (by omega)))).trans (by omega))) <| Zi (beq_iff_eq.2 (wrap_i64 ltA)) Za0) rfl (by decide) (by rfl) ⟨rr, ⟨rr, ⟨rr, ⟨rr, ⟨rr, ⟨rr, trivial⟩⟩⟩⟩⟩⟩ ⟨⟨rfl, ⟨[], by rfl⟩, by rfl⟩, ⟨⟨rfl, ⟨[], by rfl⟩, by rfl⟩, ⟨⟨rfl, ⟨[], by rfl⟩, by rfl⟩, trivial⟩⟩⟩

theorem ZfV (a0 a1 a2 : Int) (N : Nat) (g0 : (0 : Int) ≤ a0) (g1 : a0 ≤ (255 : Int)) (g2 : (0 : Int) ≤ a1) (g3 : a1 ≤ (255 : Int)) (g4 : ¬ ((a0 % (16 : Int)) = (0 : Int))) (g5 : ¬ ((a0 % (16 : Int)) = (1 : Int))) (g6 : ¬ ((a0 % (16 : Int)) = (2 : Int))) (g7 : ¬ ((a0 % (16 : Int)) = (3 : Int))) (g8 : ¬ ((a0 % (16 : Int)) = (4 : Int))) (g9 : ¬ ((a0 % (16 : Int)) = (5 : Int))) (g10 : ¬ ((a0 % (16 : Int)) = (6 : Int))) (g11 : ¬ ((a0 % (16 : Int)) = (7 : Int))) (g12 : ¬ ((a0 % (16 : Int)) = (8 : Int))) (g13 : (a0 % (16 : Int)) = (9 : Int)) : (Zd a0 a1 a2 N).Enter Try.prog Zk #[Value.int .u8 a0, Value.int .u8 a1, vi a2] (some (.inl (.h1m9 : Zb))) := by
 exact Mach.en_head (bK := Ze 1) (M := Zd a0 a1 a2 N) (cd := 1000000) (cm := 0) (y := (.h1m9 : Zb)) (fu := 4000) (orc := (ZO [] [(68, a0), (69, (9 : Int))] [] [] [])) (live := [0, 2, 3]) (tv := [some (Value.int .u8 a1), some (vi a2), some (vp 0 0), some (vi (10 : Int)), some (vn), some (vq)]) (bl := [some (.cells [vi (400 : Int), vs 2 0 17 17, vs 3 0 17 17, vn, vn, vn, vn, vn, vn, vn, vn, vn, vn, vn, vn, vn, vn, vn, vn, vn] 48), some (.cells [vi (1 : Int), vi (16 : Int), vi (255 : Int), vi (2 : Int), vq, vq, vq, vq, vq, vq, vq, vq, vq, vq, vq, vq, vq, vq, vq, vq, vq, vq, vq, vq, vq, vq, vq, vq, vq, vq, vq, vq, vq, vq, vq, vq, vq, vq, vq, vq, vq, vq, vq, vq, vq, vq, vq, vq, vq, vq, vq, vq, vq, vq, vq, vq, vq, vq, vq, vq, vq, vq, vq, vq, vq, vq, vq, vq, vq, vq, vq, vq, vq, vq, vq, vq, vq, vq, vq, vq, vq, vq, vq, vq, vq] 38), some (.cells [vq, vq, vi (2 : Int), vq, vi (2 : Int), vq, vi (2 : Int), vq, vi (2 : Int), vq, vi (2 : Int), vq, vi (2 : Int), vq, vi (2 : Int), vq, vi (2 : Int), vq, vi (1 : Int), vq, vi (1 : Int), vq, vi (1 : Int), vq, vi (1 : Int), vq, vi (1 : Int), vq, vi (1 : Int), vq, vi (1 : Int), vq, vi (1 : Int), vq] 30)]) (ob := [((Int.tmod a0 (16 : Int)) == (9 : Int), true), ((IntKind.i64.wrap a0) == a0, true)]) rfl rfl (show Zl (Ze 1).2 = [] from rfl) (by kernel_rfl) (Zi (beq_iff_eq.2 ((beq_iff_eq.1 (beq_iff_eq.2 (Zt (by omega)))).trans (by omega))) <| Zi (beq_iff_eq.2 (wrap_i64 ltA)) Za0) rfl (by decide) (by rfl) ⟨rr, ⟨rr, ⟨rr, ⟨rr, ⟨rr, ⟨rr, trivial⟩⟩⟩⟩⟩⟩ ⟨⟨rfl, ⟨[], by rfl⟩, by rfl⟩, ⟨⟨rfl, ⟨[], by rfl⟩, by rfl⟩, ⟨⟨rfl, ⟨[], by rfl⟩, by rfl⟩, trivial⟩⟩⟩

theorem ZfB (a0 a1 a2 : Int) (N : Nat) (g0 : (0 : Int) ≤ a0) (g1 : a0 ≤ (255 : Int)) (g2 : (0 : Int) ≤ a1) (g3 : a1 ≤ (255 : Int)) (g4 : ¬ ((a0 % (16 : Int)) = (0 : Int))) (g5 : ¬ ((a0 % (16 : Int)) = (1 : Int))) (g6 : ¬ ((a0 % (16 : Int)) = (2 : Int))) (g7 : ¬ ((a0 % (16 : Int)) = (3 : Int))) (g8 : ¬ ((a0 % (16 : Int)) = (4 : Int))) (g9 : ¬ ((a0 % (16 : Int)) = (5 : Int))) (g10 : ¬ ((a0 % (16 : Int)) = (6 : Int))) (g11 : ¬ ((a0 % (16 : Int)) = (7 : Int))) (g12 : ¬ ((a0 % (16 : Int)) = (8 : Int))) (g13 : ¬ ((a0 % (16 : Int)) = (9 : Int))) (g14 : (a0 % (16 : Int)) = (10 : Int)) : (Zd a0 a1 a2 N).Enter Try.prog Zk #[Value.int .u8 a0, Value.int .u8 a1, vi a2] (some (.inl (.h1m10 : Zb))) := by
 exact Mach.en_head (bK := Ze 1) (M := Zd a0 a1 a2 N) (cd := 1000000) (cm := 0) (y := (.h1m10 : Zb)) (fu := 4000) (orc := (ZO [] [(68, a0), (69, (10 : Int))] [] [] [])) (live := [0, 2, 3]) (tv := [some (Value.int .u8 a1), some (vi a2), some (vp 0 0), some (vi (11 : Int)), some (vn), some (vq)]) (bl := [some (.cells [vi (400 : Int), vs 2 0 17 17, vs 3 0 17 17, vn, vn, vn, vn, vn, vn, vn, vn, vn, vn, vn, vn, vn, vn, vn, vn, vn] 48), some (.cells [vi (1 : Int), vi (16 : Int), vi (255 : Int), vi (2 : Int), vq, vq, vq, vq, vq, vq, vq, vq, vq, vq, vq, vq, vq, vq, vq, vq, vq, vq, vq, vq, vq, vq, vq, vq, vq, vq, vq, vq, vq, vq, vq, vq, vq, vq, vq, vq, vq, vq, vq, vq, vq, vq, vq, vq, vq, vq, vq, vq, vq, vq, vq, vq, vq, vq, vq, vq, vq, vq, vq, vq, vq, vq, vq, vq, vq, vq, vq, vq, vq, vq, vq, vq, vq, vq, vq, vq, vq, vq, vq, vq, vq] 38), some (.cells [vq, vq, vi (2 : Int), vq, vi (2 : Int), vq, vi (2 : Int), vq, vi (2 : Int), vq, vi (2 : Int), vq, vi (2 : Int), vq, vi (2 : Int), vq, vi (2 : Int), vq, vi (1 : Int), vq, vi (1 : Int), vq, vi (1 : Int), vq, vi (1 : Int), vq, vi (1 : Int), vq, vi (1 : Int), vq, vi (1 : Int), vq, vi (1 : Int), vq] 30)]) (ob := [((Int.tmod a0 (16 : Int)) == (10 : Int), true), ((IntKind.i64.wrap a0) == a0, true)]) rfl rfl (show Zl (Ze 1).2 = [] from rfl) (by kernel_rfl) (Zi (beq_iff_eq.2 ((beq_iff_eq.1 (beq_iff_eq.2 (Zt (by omega)))).trans (by omega))) <| Zi (beq_iff_eq.2 (wrap_i64 ltA)) Za0) rfl (by decide) (by rfl) ⟨rr, ⟨rr, ⟨rr, ⟨rr, ⟨rr, ⟨rr, trivial⟩⟩⟩⟩⟩⟩ ⟨⟨rfl, ⟨[], by rfl⟩, by rfl⟩, ⟨⟨rfl, ⟨[], by rfl⟩, by rfl⟩, ⟨⟨rfl, ⟨[], by rfl⟩, by rfl⟩, trivial⟩⟩⟩

theorem ZfC (a0 a1 a2 : Int) (N : Nat) (g0 : (0 : Int) ≤ a0) (g1 : a0 ≤ (255 : Int)) (g2 : (0 : Int) ≤ a1) (g3 : a1 ≤ (255 : Int)) (g4 : ¬ ((a0 % (16 : Int)) = (0 : Int))) (g5 : ¬ ((a0 % (16 : Int)) = (1 : Int))) (g6 : ¬ ((a0 % (16 : Int)) = (2 : Int))) (g7 : ¬ ((a0 % (16 : Int)) = (3 : Int))) (g8 : ¬ ((a0 % (16 : Int)) = (4 : Int))) (g9 : ¬ ((a0 % (16 : Int)) = (5 : Int))) (g10 : ¬ ((a0 % (16 : Int)) = (6 : Int))) (g11 : ¬ ((a0 % (16 : Int)) = (7 : Int))) (g12 : ¬ ((a0 % (16 : Int)) = (8 : Int))) (g13 : ¬ ((a0 % (16 : Int)) = (9 : Int))) (g14 : ¬ ((a0 % (16 : Int)) = (10 : Int))) (g15 : (a0 % (16 : Int)) = (11 : Int)) : (Zd a0 a1 a2 N).Enter Try.prog Zk #[Value.int .u8 a0, Value.int .u8 a1, vi a2] (some (.inl (.h1m11 : Zb))) := by
 exact Mach.en_head (bK := Ze 1) (M := Zd a0 a1 a2 N) (cd := 1000000) (cm := 0) (y := (.h1m11 : Zb)) (fu := 4000) (orc := (ZO [] [(68, a0), (69, (11 : Int))] [] [] [])) (live := [0, 2, 3]) (tv := [some (Value.int .u8 a1), some (vi a2), some (vp 0 0), some (vi (12 : Int)), some (vn), some (vq)]) (bl := [some (.cells [vi (400 : Int), vs 2 0 17 17, vs 3 0 17 17, vn, vn, vn, vn, vn, vn, vn, vn, vn, vn, vn, vn, vn, vn, vn, vn, vn] 48), some (.cells [vi (1 : Int), vi (16 : Int), vi (255 : Int), vi (2 : Int), vq, vq, vq, vq, vq, vq, vq, vq, vq, vq, vq, vq, vq, vq, vq, vq, vq, vq, vq, vq, vq, vq, vq, vq, vq, vq, vq, vq, vq, vq, vq, vq, vq, vq, vq, vq, vq, vq, vq, vq, vq, vq, vq, vq, vq, vq, vq, vq, vq, vq, vq, vq, vq, vq, vq, vq, vq, vq, vq, vq, vq, vq, vq, vq, vq, vq, vq, vq, vq, vq, vq, vq, vq, vq, vq, vq, vq, vq, vq, vq, vq] 38), some (.cells [vq, vq, vi (2 : Int), vq, vi (2 : Int), vq, vi (2 : Int), vq, vi (2 : Int), vq, vi (2 : Int), vq, vi (2 : Int), vq, vi (2 : Int), vq, vi (2 : Int), vq, vi (1 : Int), vq, vi (1 : Int), vq, vi (1 : Int), vq, vi (1 : Int), vq, vi (1 : Int), vq, vi (1 : Int), vq, vi (1 : Int), vq, vi (1 : Int), vq] 30)]) (ob := [((Int.tmod a0 (16 : Int)) == (11 : Int), true), ((IntKind.i64.wrap a0) == a0, true)]) rfl rfl (show Zl (Ze 1).2 = [] from rfl) (by kernel_rfl) (Zi (beq_iff_eq.2 ((beq_iff_eq.1 (beq_iff_eq.2 (Zt (by omega)))).trans (by omega))) <| Zi (beq_iff_eq.2 (wrap_i64 ltA)) Za0) rfl (by decide) (by rfl) ⟨rr, ⟨rr, ⟨rr, ⟨rr, ⟨rr, ⟨rr, trivial⟩⟩⟩⟩⟩⟩ ⟨⟨rfl, ⟨[], by rfl⟩, by rfl⟩, ⟨⟨rfl, ⟨[], by rfl⟩, by rfl⟩, ⟨⟨rfl, ⟨[], by rfl⟩, by rfl⟩, trivial⟩⟩⟩

theorem ZfD (a0 a1 a2 : Int) (N : Nat) (g0 : (0 : Int) ≤ a0) (g1 : a0 ≤ (255 : Int)) (g2 : (0 : Int) ≤ a1) (g3 : a1 ≤ (255 : Int)) (g4 : ¬ ((a0 % (16 : Int)) = (0 : Int))) (g5 : ¬ ((a0 % (16 : Int)) = (1 : Int))) (g6 : ¬ ((a0 % (16 : Int)) = (2 : Int))) (g7 : ¬ ((a0 % (16 : Int)) = (3 : Int))) (g8 : ¬ ((a0 % (16 : Int)) = (4 : Int))) (g9 : ¬ ((a0 % (16 : Int)) = (5 : Int))) (g10 : ¬ ((a0 % (16 : Int)) = (6 : Int))) (g11 : ¬ ((a0 % (16 : Int)) = (7 : Int))) (g12 : ¬ ((a0 % (16 : Int)) = (8 : Int))) (g13 : ¬ ((a0 % (16 : Int)) = (9 : Int))) (g14 : ¬ ((a0 % (16 : Int)) = (10 : Int))) (g15 : ¬ ((a0 % (16 : Int)) = (11 : Int))) (g16 : (a0 % (16 : Int)) = (12 : Int)) : (Zd a0 a1 a2 N).Enter Try.prog Zk #[Value.int .u8 a0, Value.int .u8 a1, vi a2] (some (.inl (.h1m12 : Zb))) := by
 exact Mach.en_head (bK := Ze 1) (M := Zd a0 a1 a2 N) (cd := 1000000) (cm := 0) (y := (.h1m12 : Zb)) (fu := 4000) (orc := (ZO [] [(68, a0), (69, (12 : Int))] [] [] [])) (live := [0, 2, 3]) (tv := [some (Value.int .u8 a1), some (vi a2), some (vp 0 0), some (vi (13 : Int)), some (vn), some (vq)]) (bl := [some (.cells [vi (400 : Int), vs 2 0 17 17, vs 3 0 17 17, vn, vn, vn, vn, vn, vn, vn, vn, vn, vn, vn, vn, vn, vn, vn, vn, vn] 48), some (.cells [vi (1 : Int), vi (16 : Int), vi (255 : Int), vi (2 : Int), vq, vq, vq, vq, vq, vq, vq, vq, vq, vq, vq, vq, vq, vq, vq, vq, vq, vq, vq, vq, vq, vq, vq, vq, vq, vq, vq, vq, vq, vq, vq, vq, vq, vq, vq, vq, vq, vq, vq, vq, vq, vq, vq, vq, vq, vq, vq, vq, vq, vq, vq, vq, vq, vq, vq, vq, vq, vq, vq, vq, vq, vq, vq, vq, vq, vq, vq, vq, vq, vq, vq, vq, vq, vq, vq, vq, vq, vq, vq, vq, vq] 38), some (.cells [vq, vq, vi (2 : Int), vq, vi (2 : Int), vq, vi (2 : Int), vq, vi (2 : Int), vq, vi (2 : Int), vq, vi (2 : Int), vq, vi (2 : Int), vq, vi (2 : Int), vq, vi (1 : Int), vq, vi (1 : Int), vq, vi (1 : Int), vq, vi (1 : Int), vq, vi (1 : Int), vq, vi (1 : Int), vq, vi (1 : Int), vq, vi (1 : Int), vq] 30)]) (ob := [((Int.tmod a0 (16 : Int)) == (12 : Int), true), ((IntKind.i64.wrap a0) == a0, true)]) rfl rfl (show Zl (Ze 1).2 = [] from rfl) (by kernel_rfl) (Zi (beq_iff_eq.2 ((beq_iff_eq.1 (beq_iff_eq.2 (Zt (by omega)))).trans (by omega))) <| Zi (beq_iff_eq.2 (wrap_i64 ltA)) Za0) rfl (by decide) (by rfl) ⟨rr, ⟨rr, ⟨rr, ⟨rr, ⟨rr, ⟨rr, trivial⟩⟩⟩⟩⟩⟩ ⟨⟨rfl, ⟨[], by rfl⟩, by rfl⟩, ⟨⟨rfl, ⟨[], by rfl⟩, by rfl⟩, ⟨⟨rfl, ⟨[], by rfl⟩, by rfl⟩, trivial⟩⟩⟩

theorem ZfE (a0 a1 a2 : Int) (N : Nat) (g0 : (0 : Int) ≤ a0) (g1 : a0 ≤ (255 : Int)) (g2 : (0 : Int) ≤ a1) (g3 : a1 ≤ (255 : Int)) (g4 : ¬ ((a0 % (16 : Int)) = (0 : Int))) (g5 : ¬ ((a0 % (16 : Int)) = (1 : Int))) (g6 : ¬ ((a0 % (16 : Int)) = (2 : Int))) (g7 : ¬ ((a0 % (16 : Int)) = (3 : Int))) (g8 : ¬ ((a0 % (16 : Int)) = (4 : Int))) (g9 : ¬ ((a0 % (16 : Int)) = (5 : Int))) (g10 : ¬ ((a0 % (16 : Int)) = (6 : Int))) (g11 : ¬ ((a0 % (16 : Int)) = (7 : Int))) (g12 : ¬ ((a0 % (16 : Int)) = (8 : Int))) (g13 : ¬ ((a0 % (16 : Int)) = (9 : Int))) (g14 : ¬ ((a0 % (16 : Int)) = (10 : Int))) (g15 : ¬ ((a0 % (16 : Int)) = (11 : Int))) (g16 : ¬ ((a0 % (16 : Int)) = (12 : Int))) (g17 : (a0 % (16 : Int)) = (13 : Int)) : (Zd a0 a1 a2 N).Enter Try.prog Zk #[Value.int .u8 a0, Value.int .u8 a1, vi a2] (some (.inl (.h1m13 : Zb))) := by
 exact Mach.en_head (bK := Ze 1) (M := Zd a0 a1 a2 N) (cd := 1000000) (cm := 0) (y := (.h1m13 : Zb)) (fu := 4000) (orc := (ZO [] [(68, a0), (69, (13 : Int))] [] [] [])) (live := [0, 2, 3]) (tv := [some (Value.int .u8 a1), some (vi a2), some (vp 0 0), some (vi (14 : Int)), some (vn), some (vq)]) (bl := [some (.cells [vi (400 : Int), vs 2 0 17 17, vs 3 0 17 17, vn, vn, vn, vn, vn, vn, vn, vn, vn, vn, vn, vn, vn, vn, vn, vn, vn] 48), some (.cells [vi (1 : Int), vi (16 : Int), vi (255 : Int), vi (2 : Int), vq, vq, vq, vq, vq, vq, vq, vq, vq, vq, vq, vq, vq, vq, vq, vq, vq, vq, vq, vq, vq, vq, vq, vq, vq, vq, vq, vq, vq, vq, vq, vq, vq, vq, vq, vq, vq, vq, vq, vq, vq, vq, vq, vq, vq, vq, vq, vq, vq, vq, vq, vq, vq, vq, vq, vq, vq, vq, vq, vq, vq, vq, vq, vq, vq, vq, vq, vq, vq, vq, vq, vq, vq, vq, vq, vq, vq, vq, vq, vq, vq] 38), some (.cells [vq, vq, vi (2 : Int), vq, vi (2 : Int), vq, vi (2 : Int), vq, vi (2 : Int), vq, vi (2 : Int), vq, vi (2 : Int), vq, vi (2 : Int), vq, vi (2 : Int), vq, vi (1 : Int), vq, vi (1 : Int), vq, vi (1 : Int), vq, vi (1 : Int), vq, vi (1 : Int), vq, vi (1 : Int), vq, vi (1 : Int), vq, vi (1 : Int), vq] 30)]) (ob := [((Int.tmod a0 (16 : Int)) == (13 : Int), true), ((IntKind.i64.wrap a0) == a0, true)]) rfl rfl (show Zl (Ze 1).2 = [] from rfl) (by kernel_rfl) (Zi (beq_iff_eq.2 ((beq_iff_eq.1 (beq_iff_eq.2 (Zt (by omega)))).trans (by omega))) <| Zi (beq_iff_eq.2 (wrap_i64 ltA)) Za0) rfl (by decide) (by rfl) ⟨rr, ⟨rr, ⟨rr, ⟨rr, ⟨rr, ⟨rr, trivial⟩⟩⟩⟩⟩⟩ ⟨⟨rfl, ⟨[], by rfl⟩, by rfl⟩, ⟨⟨rfl, ⟨[], by rfl⟩, by rfl⟩, ⟨⟨rfl, ⟨[], by rfl⟩, by rfl⟩, trivial⟩⟩⟩

theorem ZfF (a0 a1 a2 : Int) (N : Nat) (g0 : (0 : Int) ≤ a0) (g1 : a0 ≤ (255 : Int)) (g2 : (0 : Int) ≤ a1) (g3 : a1 ≤ (255 : Int)) (g4 : ¬ ((a0 % (16 : Int)) = (0 : Int))) (g5 : ¬ ((a0 % (16 : Int)) = (1 : Int))) (g6 : ¬ ((a0 % (16 : Int)) = (2 : Int))) (g7 : ¬ ((a0 % (16 : Int)) = (3 : Int))) (g8 : ¬ ((a0 % (16 : Int)) = (4 : Int))) (g9 : ¬ ((a0 % (16 : Int)) = (5 : Int))) (g10 : ¬ ((a0 % (16 : Int)) = (6 : Int))) (g11 : ¬ ((a0 % (16 : Int)) = (7 : Int))) (g12 : ¬ ((a0 % (16 : Int)) = (8 : Int))) (g13 : ¬ ((a0 % (16 : Int)) = (9 : Int))) (g14 : ¬ ((a0 % (16 : Int)) = (10 : Int))) (g15 : ¬ ((a0 % (16 : Int)) = (11 : Int))) (g16 : ¬ ((a0 % (16 : Int)) = (12 : Int))) (g17 : ¬ ((a0 % (16 : Int)) = (13 : Int))) (g18 : (a0 % (16 : Int)) = (14 : Int)) : (Zd a0 a1 a2 N).Enter Try.prog Zk #[Value.int .u8 a0, Value.int .u8 a1, vi a2] (some (.inl (.h1m14 : Zb))) := by
 exact Mach.en_head (bK := Ze 1) (M := Zd a0 a1 a2 N) (cd := 1000000) (cm := 0) (y := (.h1m14 : Zb)) (fu := 4000) (orc := (ZO [] [(68, a0), (69, (14 : Int))] [] [] [])) (live := [0, 2, 3]) (tv := [some (Value.int .u8 a1), some (vi a2), some (vp 0 0), some (vi (15 : Int)), some (vn), some (vq)]) (bl := [some (.cells [vi (400 : Int), vs 2 0 17 17, vs 3 0 17 17, vn, vn, vn, vn, vn, vn, vn, vn, vn, vn, vn, vn, vn, vn, vn, vn, vn] 48), some (.cells [vi (1 : Int), vi (16 : Int), vi (255 : Int), vi (2 : Int), vq, vq, vq, vq, vq, vq, vq, vq, vq, vq, vq, vq, vq, vq, vq, vq, vq, vq, vq, vq, vq, vq, vq, vq, vq, vq, vq, vq, vq, vq, vq, vq, vq, vq, vq, vq, vq, vq, vq, vq, vq, vq, vq, vq, vq, vq, vq, vq, vq, vq, vq, vq, vq, vq, vq, vq, vq, vq, vq, vq, vq, vq, vq, vq, vq, vq, vq, vq, vq, vq, vq, vq, vq, vq, vq, vq, vq, vq, vq, vq, vq] 38), some (.cells [vq, vq, vi (2 : Int), vq, vi (2 : Int), vq, vi (2 : Int), vq, vi (2 : Int), vq, vi (2 : Int), vq, vi (2 : Int), vq, vi (2 : Int), vq, vi (2 : Int), vq, vi (1 : Int), vq, vi (1 : Int), vq, vi (1 : Int), vq, vi (1 : Int), vq, vi (1 : Int), vq, vi (1 : Int), vq, vi (1 : Int), vq, vi (1 : Int), vq] 30)]) (ob := [((Int.tmod a0 (16 : Int)) == (14 : Int), true), ((IntKind.i64.wrap a0) == a0, true)]) rfl rfl (show Zl (Ze 1).2 = [] from rfl) (by kernel_rfl) (Zi (beq_iff_eq.2 ((beq_iff_eq.1 (beq_iff_eq.2 (Zt (by omega)))).trans (by omega))) <| Zi (beq_iff_eq.2 (wrap_i64 ltA)) Za0) rfl (by decide) (by rfl) ⟨rr, ⟨rr, ⟨rr, ⟨rr, ⟨rr, ⟨rr, trivial⟩⟩⟩⟩⟩⟩ ⟨⟨rfl, ⟨[], by rfl⟩, by rfl⟩, ⟨⟨rfl, ⟨[], by rfl⟩, by rfl⟩, ⟨⟨rfl, ⟨[], by rfl⟩, by rfl⟩, trivial⟩⟩⟩

theorem ZfG (a0 a1 a2 : Int) (N : Nat) (g0 : (0 : Int) ≤ a0) (g1 : a0 ≤ (255 : Int)) (g2 : (0 : Int) ≤ a1) (g3 : a1 ≤ (255 : Int)) (g4 : ¬ ((a0 % (16 : Int)) = (0 : Int))) (g5 : ¬ ((a0 % (16 : Int)) = (1 : Int))) (g6 : ¬ ((a0 % (16 : Int)) = (2 : Int))) (g7 : ¬ ((a0 % (16 : Int)) = (3 : Int))) (g8 : ¬ ((a0 % (16 : Int)) = (4 : Int))) (g9 : ¬ ((a0 % (16 : Int)) = (5 : Int))) (g10 : ¬ ((a0 % (16 : Int)) = (6 : Int))) (g11 : ¬ ((a0 % (16 : Int)) = (7 : Int))) (g12 : ¬ ((a0 % (16 : Int)) = (8 : Int))) (g13 : ¬ ((a0 % (16 : Int)) = (9 : Int))) (g14 : ¬ ((a0 % (16 : Int)) = (10 : Int))) (g15 : ¬ ((a0 % (16 : Int)) = (11 : Int))) (g16 : ¬ ((a0 % (16 : Int)) = (12 : Int))) (g17 : ¬ ((a0 % (16 : Int)) = (13 : Int))) (g18 : ¬ ((a0 % (16 : Int)) = (14 : Int))) : (Zd a0 a1 a2 N).Enter Try.prog Zk #[Value.int .u8 a0, Value.int .u8 a1, vi a2] (some (.inl (.h1m15 : Zb))) := by
 exact Mach.en_head (bK := Ze 1) (M := Zd a0 a1 a2 N) (cd := 1000000) (cm := 0) (y := (.h1m15 : Zb)) (fu := 4000) (orc := (ZO [] [(68, a0), (69, (15 : Int))] [] [] [])) (live := [0, 2, 3]) (tv := [some (Value.int .u8 a1), some (vi a2), some (vp 0 0), some (vi (16 : Int)), some (vn), some (vq)]) (bl := [some (.cells [vi (400 : Int), vs 2 0 17 17, vs 3 0 17 17, vn, vn, vn, vn, vn, vn, vn, vn, vn, vn, vn, vn, vn, vn, vn, vn, vn] 48), some (.cells [vi (1 : Int), vi (16 : Int), vi (255 : Int), vi (2 : Int), vq, vq, vq, vq, vq, vq, vq, vq, vq, vq, vq, vq, vq, vq, vq, vq, vq, vq, vq, vq, vq, vq, vq, vq, vq, vq, vq, vq, vq, vq, vq, vq, vq, vq, vq, vq, vq, vq, vq, vq, vq, vq, vq, vq, vq, vq, vq, vq, vq, vq, vq, vq, vq, vq, vq, vq, vq, vq, vq, vq, vq, vq, vq, vq, vq, vq, vq, vq, vq, vq, vq, vq, vq, vq, vq, vq, vq, vq, vq, vq, vq] 38), some (.cells [vq, vq, vi (2 : Int), vq, vi (2 : Int), vq, vi (2 : Int), vq, vi (2 : Int), vq, vi (2 : Int), vq, vi (2 : Int), vq, vi (2 : Int), vq, vi (2 : Int), vq, vi (1 : Int), vq, vi (1 : Int), vq, vi (1 : Int), vq, vi (1 : Int), vq, vi (1 : Int), vq, vi (1 : Int), vq, vi (1 : Int), vq, vi (1 : Int), vq] 30)]) (ob := [((Int.tmod a0 (16 : Int)) == (15 : Int), true), ((IntKind.i64.wrap a0) == a0, true)]) rfl rfl (show Zl (Ze 1).2 = [] from rfl) (by kernel_rfl) (Zi (beq_iff_eq.2 ((beq_iff_eq.1 (beq_iff_eq.2 (Zt (by omega)))).trans (by omega))) <| Zi (beq_iff_eq.2 (wrap_i64 ltA)) Za0) rfl (by decide) (by rfl) ⟨rr, ⟨rr, ⟨rr, ⟨rr, ⟨rr, ⟨rr, trivial⟩⟩⟩⟩⟩⟩ ⟨⟨rfl, ⟨[], by rfl⟩, by rfl⟩, ⟨⟨rfl, ⟨[], by rfl⟩, by rfl⟩, ⟨⟨rfl, ⟨[], by rfl⟩, by rfl⟩, trivial⟩⟩⟩

theorem Zg0 (a0 a1 a2 : Int) (N : Nat) : (Zd a0 a1 a2 N).Enter Try.prog Zk #[Value.int .u8 a0, Value.int .u8 a1, vi a2] (Zq a0 a1 a2 N) := by
 unfold Zq
 refine Mach.en_ite (fun g0 => ?_) (fun g0 => ?_)
 ·
  refine Mach.en_ite (fun g1 => ?_) (fun g1 => ?_)
  ·
   refine Mach.en_ite (fun g2 => ?_) (fun g2 => ?_)
   ·
    refine Mach.en_ite (fun g3 => ?_) (fun g3 => ?_)
    ·
     refine Mach.en_ite (fun g4 => ?_) (fun g4 => ?_)
     ·
      exact ZfM a0 a1 a2 N g0 g1 g2 g3 g4
     ·
      refine Mach.en_ite (fun g5 => ?_) (fun g5 => ?_)
      ·
       exact ZfN a0 a1 a2 N g0 g1 g2 g3 g4 g5
      ·
       refine Mach.en_ite (fun g6 => ?_) (fun g6 => ?_)
       ·
        exact ZfO a0 a1 a2 N g0 g1 g2 g3 g4 g5 g6
       ·
        refine Mach.en_ite (fun g7 => ?_) (fun g7 => ?_)
        ·
         exact ZfP a0 a1 a2 N g0 g1 g2 g3 g4 g5 g6 g7
        ·
         refine Mach.en_ite (fun g8 => ?_) (fun g8 => ?_)
         ·
          exact ZfQ a0 a1 a2 N g0 g1 g2 g3 g4 g5 g6 g7 g8
         ·
          refine Mach.en_ite (fun g9 => ?_) (fun g9 => ?_)
          ·
           exact ZfR a0 a1 a2 N g0 g1 g2 g3 g4 g5 g6 g7 g8 g9
          ·
           refine Mach.en_ite (fun g10 => ?_) (fun g10 => ?_)
           ·
            exact ZfS a0 a1 a2 N g0 g1 g2 g3 g4 g5 g6 g7 g8 g9 g10
           ·
            refine Mach.en_ite (fun g11 => ?_) (fun g11 => ?_)
            ·
             exact ZfT a0 a1 a2 N g0 g1 g2 g3 g4 g5 g6 g7 g8 g9 g10 g11
            ·
             refine Mach.en_ite (fun g12 => ?_) (fun g12 => ?_)
             ·
              exact ZfU a0 a1 a2 N g0 g1 g2 g3 g4 g5 g6 g7 g8 g9 g10 g11 g12
             ·
              refine Mach.en_ite (fun g13 => ?_) (fun g13 => ?_)
              ·
               exact ZfV a0 a1 a2 N g0 g1 g2 g3 g4 g5 g6 g7 g8 g9 g10 g11 g12 g13
              ·
               refine Mach.en_ite (fun g14 => ?_) (fun g14 => ?_)
               ·
                exact ZfB a0 a1 a2 N g0 g1 g2 g3 g4 g5 g6 g7 g8 g9 g10 g11 g12 g13 g14
               ·
                refine Mach.en_ite (fun g15 => ?_) (fun g15 => ?_)
                ·
                 exact ZfC a0 a1 a2 N g0 g1 g2 g3 g4 g5 g6 g7 g8 g9 g10 g11 g12 g13 g14 g15
                ·
                 refine Mach.en_ite (fun g16 => ?_) (fun g16 => ?_)
                 ·
                  exact ZfD a0 a1 a2 N g0 g1 g2 g3 g4 g5 g6 g7 g8 g9 g10 g11 g12 g13 g14 g15 g16
                 ·
                  refine Mach.en_ite (fun g17 => ?_) (fun g17 => ?_)
                  ·
                   exact ZfE a0 a1 a2 N g0 g1 g2 g3 g4 g5 g6 g7 g8 g9 g10 g11 g12 g13 g14 g15 g16 g17
                  ·
                   refine Mach.en_ite (fun g18 => ?_) (fun g18 => ?_)
                   ·
                    exact ZfF a0 a1 a2 N g0 g1 g2 g3 g4 g5 g6 g7 g8 g9 g10 g11 g12 g13 g14 g15 g16 g17 g18
                   ·
                    exact ZfG a0 a1 a2 N g0 g1 g2 g3 g4 g5 g6 g7 g8 g9 g10 g11 g12 g13 g14 g15 g16 g17 g18
    ·
     exact Mach.en_none
   ·
    exact Mach.en_none
  ·
   exact Mach.en_none
 ·
  exact Mach.en_none

theorem ZfH (a0 a1 a2 : Int) (N : Nat) (r : Zg) (h : ZcI a0 a1 a2 N = some r) : LSpec Try.prog 3 #[Value.int .u8 a0, Value.int .u8 a1, vi a2] [] (ZdJ a0 a1 a2 r) (Zdp a0 a1 a2 r) :=
 Mach.spec Zmr (Zd a0 a1 a2 N) Try.func3 (by kernel_rfl) (by kernel_rfl) (fun x => by cases x <;> exact ZkN _ rfl) (fun r => by cases r <;> exact ZkN _ rfl) (fun x => by
  cases x with
  | h1m0 => exact fun _ => (show ¬ (1 ∈ Zl (Ze 1).2) from by decide +kernel)
  | h1m1 => exact fun _ => (show ¬ (1 ∈ Zl (Ze 1).2) from by decide +kernel)
  | h1m2 => exact fun _ => (show ¬ (1 ∈ Zl (Ze 1).2) from by decide +kernel)
  | h1m3 => exact fun _ => (show ¬ (1 ∈ Zl (Ze 1).2) from by decide +kernel)
  | h1m4 => exact fun _ => (show ¬ (1 ∈ Zl (Ze 1).2) from by decide +kernel)
  | h1m5 => exact fun _ => (show ¬ (1 ∈ Zl (Ze 1).2) from by decide +kernel)
  | h1m6 => exact fun _ => (show ¬ (1 ∈ Zl (Ze 1).2) from by decide +kernel)
  | h1m7 => exact fun _ => (show ¬ (1 ∈ Zl (Ze 1).2) from by decide +kernel)
  | h1m8 => exact fun _ => (show ¬ (1 ∈ Zl (Ze 1).2) from by decide +kernel)
  | h1m9 => exact fun _ => (show ¬ (1 ∈ Zl (Ze 1).2) from by decide +kernel)
  | h1m10 => exact fun _ => (show ¬ (1 ∈ Zl (Ze 1).2) from by decide +kernel)
  | h1m11 => exact fun _ => (show ¬ (1 ∈ Zl (Ze 1).2) from by decide +kernel)
  | h1m12 => exact fun _ => (show ¬ (1 ∈ Zl (Ze 1).2) from by decide +kernel)
  | h1m13 => exact fun _ => (show ¬ (1 ∈ Zl (Ze 1).2) from by decide +kernel)
  | h1m14 => exact fun _ => (show ¬ (1 ∈ Zl (Ze 1).2) from by decide +kernel)
  | h1m15 => exact fun _ => (show ¬ (1 ∈ Zl (Ze 1).2) from by decide +kernel)
  | h1m16 _ _ _ => exact fun _ => (show ¬ (1 ∈ Zl (Ze 1).2) from by decide +kernel)
  | h1m17 _ _ _ => exact fun _ => (show ¬ (1 ∈ Zl (Ze 1).2) from by decide +kernel)
  | h1m18 _ _ _ => exact fun _ => (show ¬ (1 ∈ Zl (Ze 1).2) from by decide +kernel)
  | h1m19 _ _ _ => exact fun _ => (show ¬ (1 ∈ Zl (Ze 1).2) from by decide +kernel)
  | h1m20 _ _ _ => exact fun _ => (show ¬ (1 ∈ Zl (Ze 1).2) from by decide +kernel)
  | h1m21 _ _ _ => exact fun _ => (show ¬ (1 ∈ Zl (Ze 1).2) from by decide +kernel)
  | h1m22 _ _ _ => exact fun _ => (show ¬ (1 ∈ Zl (Ze 1).2) from by decide +kernel)
  | h1m23 _ _ _ => exact fun _ => (show ¬ (1 ∈ Zl (Ze 1).2) from by decide +kernel)
  | h1m24 _ _ _ => exact fun _ => (show ¬ (1 ∈ Zl (Ze 1).2) from by decide +kernel)
  | h1m25 _ _ _ => exact fun _ => (show ¬ (1 ∈ Zl (Ze 1).2) from by decide +kernel)
  | h1m26 _ _ _ => exact fun _ => (show ¬ (1 ∈ Zl (Ze 1).2) from by decide +kernel)
  | h1m27 _ _ _ => exact fun _ => (show ¬ (1 ∈ Zl (Ze 1).2) from by decide +kernel)
  | h1m28 _ _ _ => exact fun _ => (show ¬ (1 ∈ Zl (Ze 1).2) from by decide +kernel)
  | h1m29 _ _ _ => exact fun _ => (show ¬ (1 ∈ Zl (Ze 1).2) from by decide +kernel)
  | h1m30 _ _ _ => exact fun _ => (show ¬ (1 ∈ Zl (Ze 1).2) from by decide +kernel)
  | h1m31 _ _ _ => exact fun _ => (show ¬ (1 ∈ Zl (Ze 1).2) from by decide +kernel)
  | h2m0 => exact fun _ => (show ¬ (2 ∈ Zl (Ze 2).2) from by decide +kernel)
  | h2m1 => exact fun _ => (show ¬ (2 ∈ Zl (Ze 2).2) from by decide +kernel)
  | h2m2 => exact fun _ => (show ¬ (2 ∈ Zl (Ze 2).2) from by decide +kernel)
  | h2m3 => exact fun _ => (show ¬ (2 ∈ Zl (Ze 2).2) from by decide +kernel)
  | h2m4 => exact fun _ => (show ¬ (2 ∈ Zl (Ze 2).2) from by decide +kernel)
  | h2m5 => exact fun _ => (show ¬ (2 ∈ Zl (Ze 2).2) from by decide +kernel)
  | h2m6 => exact fun _ => (show ¬ (2 ∈ Zl (Ze 2).2) from by decide +kernel)
  | h2m7 => exact fun _ => (show ¬ (2 ∈ Zl (Ze 2).2) from by decide +kernel)
  | h2m8 => exact fun _ => (show ¬ (2 ∈ Zl (Ze 2).2) from by decide +kernel)
  | h2m9 => exact fun _ => (show ¬ (2 ∈ Zl (Ze 2).2) from by decide +kernel)
  | h2m10 => exact fun _ => (show ¬ (2 ∈ Zl (Ze 2).2) from by decide +kernel)
  | h2m11 => exact fun _ => (show ¬ (2 ∈ Zl (Ze 2).2) from by decide +kernel)
  | h2m12 => exact fun _ => (show ¬ (2 ∈ Zl (Ze 2).2) from by decide +kernel)
  | h2m13 => exact fun _ => (show ¬ (2 ∈ Zl (Ze 2).2) from by decide +kernel)
  | h2m14 => exact fun _ => (show ¬ (2 ∈ Zl (Ze 2).2) from by decide +kernel)
  | h2m15 => exact fun _ => (show ¬ (2 ∈ Zl (Ze 2).2) from by decide +kernel)
  | h2m16 _ _ _ _ _ => exact fun _ => (show ¬ (2 ∈ Zl (Ze 2).2) from by decide +kernel)
  | h2m17 _ _ _ _ _ => exact fun _ => (show ¬ (2 ∈ Zl (Ze 2).2) from by decide +kernel)
  | h2m18 _ _ _ _ _ => exact fun _ => (show ¬ (2 ∈ Zl (Ze 2).2) from by decide +kernel)
  | h2m19 _ _ _ _ _ => exact fun _ => (show ¬ (2 ∈ Zl (Ze 2).2) from by decide +kernel)
  | h2m20 _ _ _ _ _ => exact fun _ => (show ¬ (2 ∈ Zl (Ze 2).2) from by decide +kernel)
  | h2m21 _ _ _ _ _ => exact fun _ => (show ¬ (2 ∈ Zl (Ze 2).2) from by decide +kernel)
  | h2m22 _ _ _ _ _ => exact fun _ => (show ¬ (2 ∈ Zl (Ze 2).2) from by decide +kernel)
  | h2m23 _ _ _ _ _ => exact fun _ => (show ¬ (2 ∈ Zl (Ze 2).2) from by decide +kernel)
  | h2m24 _ _ _ _ _ => exact fun _ => (show ¬ (2 ∈ Zl (Ze 2).2) from by decide +kernel)
  | h2m25 _ _ _ _ _ => exact fun _ => (show ¬ (2 ∈ Zl (Ze 2).2) from by decide +kernel)
  | h2m26 _ _ _ _ _ => exact fun _ => (show ¬ (2 ∈ Zl (Ze 2).2) from by decide +kernel)
  | h2m27 _ _ _ _ _ => exact fun _ => (show ¬ (2 ∈ Zl (Ze 2).2) from by decide +kernel)
  | h2m28 _ _ _ _ _ => exact fun _ => (show ¬ (2 ∈ Zl (Ze 2).2) from by decide +kernel)
  | h2m29 _ _ _ _ _ => exact fun _ => (show ¬ (2 ∈ Zl (Ze 2).2) from by decide +kernel)
  | h2m30 _ _ _ _ _ => exact fun _ => (show ¬ (2 ∈ Zl (Ze 2).2) from by decide +kernel)
  | h2m31 _ _ _ _ _ => exact fun _ => (show ¬ (2 ∈ Zl (Ze 2).2) from by decide +kernel)
  ) (fun x => (show (Zd a0 a1 a2 N).Ok Try.prog Zk x (Zf a0 a1 a2 N x) from by
  cases x with
  | h1m0 => exact ZeZ a0 a1 a2 N
  | h1m1 => exact Zfa a0 a1 a2 N
  | h1m2 => exact Zfb a0 a1 a2 N
  | h1m3 => exact Zfc a0 a1 a2 N
  | h1m4 => exact Zfd a0 a1 a2 N
  | h1m5 => exact Zfe a0 a1 a2 N
  | h1m6 => exact Zff a0 a1 a2 N
  | h1m7 => exact Zfg a0 a1 a2 N
  | h1m8 => exact Zfh a0 a1 a2 N
  | h1m9 => exact Zfi a0 a1 a2 N
  | h1m10 => exact ZdZ a0 a1 a2 N
  | h1m11 => exact Zea a0 a1 a2 N
  | h1m12 => exact Zeb a0 a1 a2 N
  | h1m13 => exact Zec a0 a1 a2 N
  | h1m14 => exact Zed a0 a1 a2 N
  | h1m15 => exact Zee a0 a1 a2 N
  | h1m16 v2 v3 v5 => exact Zef a0 a1 a2 v2 v3 v5 N
  | h1m17 v2 v3 v5 => exact Zeg a0 a1 a2 v2 v3 v5 N
  | h1m18 v2 v3 v5 => exact Zeh a0 a1 a2 v2 v3 v5 N
  | h1m19 v2 v3 v5 => exact Zei a0 a1 a2 v2 v3 v5 N
  | h1m20 v2 v3 v5 => exact Zej a0 a1 a2 v2 v3 v5 N
  | h1m21 v2 v3 v5 => exact Zek a0 a1 a2 v2 v3 v5 N
  | h1m22 v2 v3 v5 => exact Zel a0 a1 a2 v2 v3 v5 N
  | h1m23 v2 v3 v5 => exact Zem a0 a1 a2 v2 v3 v5 N
  | h1m24 v2 v3 v5 => exact Zen a0 a1 a2 v2 v3 v5 N
  | h1m25 v2 v3 v5 => exact Zeo a0 a1 a2 v2 v3 v5 N
  | h1m26 v2 v3 v5 => exact Zep a0 a1 a2 v2 v3 v5 N
  | h1m27 v2 v3 v5 => exact Zeq a0 a1 a2 v2 v3 v5 N
  | h1m28 v2 v3 v5 => exact Zer a0 a1 a2 v2 v3 v5 N
  | h1m29 v2 v3 v5 => exact Zes a0 a1 a2 v2 v3 v5 N
  | h1m30 v2 v3 v5 => exact Zet a0 a1 a2 v2 v3 v5 N
  | h1m31 v2 v3 v5 => exact Zeu a0 a1 a2 v2 v3 v5 N
  | h2m0 => exact Zfj a0 a1 a2 N
  | h2m1 => exact Zfk a0 a1 a2 N
  | h2m2 => exact Zfl a0 a1 a2 N
  | h2m3 => exact Zfm a0 a1 a2 N
  | h2m4 => exact Zfn a0 a1 a2 N
  | h2m5 => exact Zfo a0 a1 a2 N
  | h2m6 => exact Zfp a0 a1 a2 N
  | h2m7 => exact Zfq a0 a1 a2 N
  | h2m8 => exact Zfr a0 a1 a2 N
  | h2m9 => exact Zfs a0 a1 a2 N
  | h2m10 => exact Zev a0 a1 a2 N
  | h2m11 => exact Zew a0 a1 a2 N
  | h2m12 => exact Zex a0 a1 a2 N
  | h2m13 => exact Zey a0 a1 a2 N
  | h2m14 => exact Zez a0 a1 a2 N
  | h2m15 => exact Ze0 a0 a1 a2 N
  | h2m16 v2 v3 v4 v7 v8 => exact Ze1 a0 a1 a2 v2 v3 v4 v7 v8 N
  | h2m17 v2 v3 v4 v7 v8 => exact Ze2 a0 a1 a2 v2 v3 v4 v7 v8 N
  | h2m18 v2 v3 v4 v7 v8 => exact Ze3 a0 a1 a2 v2 v3 v4 v7 v8 N
  | h2m19 v2 v3 v4 v7 v8 => exact Ze4 a0 a1 a2 v2 v3 v4 v7 v8 N
  | h2m20 v2 v3 v4 v7 v8 => exact Ze5 a0 a1 a2 v2 v3 v4 v7 v8 N
  | h2m21 v2 v3 v4 v7 v8 => exact Ze6 a0 a1 a2 v2 v3 v4 v7 v8 N
  | h2m22 v2 v3 v4 v7 v8 => exact Ze7 a0 a1 a2 v2 v3 v4 v7 v8 N
  | h2m23 v2 v3 v4 v7 v8 => exact Ze8 a0 a1 a2 v2 v3 v4 v7 v8 N
  | h2m24 v2 v3 v4 v7 v8 => exact Ze9 a0 a1 a2 v2 v3 v4 v7 v8 N
  | h2m25 v2 v3 v4 v7 v8 => exact ZeA a0 a1 a2 v2 v3 v4 v7 v8 N
  | h2m26 v2 v3 v4 v7 v8 => exact ZeB a0 a1 a2 v2 v3 v4 v7 v8 N
  | h2m27 v2 v3 v4 v7 v8 => exact ZeC a0 a1 a2 v2 v3 v4 v7 v8 N
  | h2m28 v2 v3 v4 v7 v8 => exact ZeD a0 a1 a2 v2 v3 v4 v7 v8 N
  | h2m29 v2 v3 v4 v7 v8 => exact ZeE a0 a1 a2 v2 v3 v4 v7 v8 N
  | h2m30 v2 v3 v4 v7 v8 => exact ZeF a0 a1 a2 v2 v3 v4 v7 v8 N
  | h2m31 v2 v3 v4 v7 v8 => exact ZeG a0 a1 a2 v2 v3 v4 v7 v8 N
  )) (Zg0 a0 a1 a2 N) (n := N) h

end Ev
end Go.Proofs.Ytkhbehgikhamdaa
/- Plain lemmas: machines step by step, lists by their places. -/
namespace Go.Proofs.Ytkhbehgikhamdaa
open Go.RowKit
namespace Ev
section
variable {X R : Type} {step : X → Option (X ⊕ R)} {n : Nat} {x y : X} {r : R}
theorem Zn (h : step x = some (.inl y)) : Z2 step (n + 1) x = Z2 step n y := by simp [Z2, h]
theorem Za4 (h : step x = some (.inr r)) : Z2 step (n + 1) x = some r := by simp [Z2, h]
theorem ZI : ∀ {n m : Nat} {x : X} {r : R}, n ≤ m → Z2 step n x = some r → Z2 step m x = some r
 | 0, _, _, _, _, h => by cases h
 | n + 1, 0, _, _, h, _ => by omega
 | n + 1, m + 1, x, r, h, e => by
  simp only [Z2] at e ⊢
  cases hs : step x with
  | none => rw [hs] at e; cases e
  | some y =>
   rw [hs] at e
   cases y with
   | inl y => exact ZI (by omega) e
   | inr r' => exact e
theorem Zbw {o : Option (X ⊕ R)} (h : o = some (.inl x)) : goM step n o = Z2 step n x := by subst h; rfl
end
section
variable {α : Type}
theorem Zig {L M : List α} {i : Nat} {d : α} (h : i < L.length) : (L ++ M).getD i d = L.getD i d := by simp [List.getElem?_append_left h]
theorem ZkQ {L : List α} {v d : α} : (L ++ [v]).getD L.length d = v := by simp
end
theorem Zc {α : Type} {c : Prop} [Decidable c] {a b r : α} (h : c) (e : a = r) : (if c then a else b) = r := by rw [if_pos h]; exact e
theorem Zj {α : Type} {c : Prop} [Decidable c] {a b r : α} (h : ¬ c) (e : b = r) : (if c then a else b) = r := by rw [if_neg h]; exact e
end Ev
end Go.Proofs.Ytkhbehgikhamdaa
/- HeapNever: what the plain functions come to. -/
namespace Go.Proofs.Ytkhbehgikhamdaa
open Go.RowKit
namespace Ev
set_option linter.unusedVariables false
set_option linter.unusedSimpArgs false
namespace Hn
def Good (L : List R_ii) : Prop := ∀ j, j < L.length → L.getD j R_ii.z = ⟨2, ((j : Int) + 1) * 1048576 + 18⟩
theorem ZaA : Good [⟨2, 1048594⟩] := by
 intro j hj
 obtain rfl : j = 0 := by simpa using hj
 rfl
theorem ZaB {L : List R_ii} {n : Nat} (hl : L.length = n) (h : Good L) : Good (L ++ [⟨2, ((n + 1 : Nat) : Int) * 1048576 + 18⟩]) := by
 subst hl
 intro j hj
 by_cases e : j < L.length
 ·rw [Zig e]; exact h j e
 ·obtain rfl : j = L.length := by
   simp at hj; omega
  rw [ZkQ, show ((L.length + 1 : Nat) : Int) = (L.length : Int) + 1 from by omega]
section
variable {a0 a1 a2 : Int}
theorem Zms (h1 : 0 ≤ a1 ∧ a1 ≤ 255) {L : List R_ii} {n : Nat} (hn : 1 ≤ n ∧ n ≤ 9) (hl : L.length = n) (hg : Good L) {f : Nat} {r : Zg} (hr : Z2 (Zf a0 a1 a2 100000) f (.h1m16 (L ++ [⟨2, ((n + 1 : Nat) : Int) * 1048576 + 18⟩]) (n + 1) (n + 1)) = some r) : ∀ d j, j + d = n → Z2 (Zf a0 a1 a2 100000) (f + d + 1) (.h2m16 L n j (((n + 1 : Nat) : Int) * 1048576 + 18) (n + 1)) = some r := by
 intro d
 induction d with
 | zero =>
  intro j hj
  refine (Zn (y := .h1m16 (L ++ [⟨2, ((n + 1 : Nat) : Int) * 1048576 + 18⟩]) (n + 1) (n + 1)) ?_).trans hr
  show Zak a0 a1 a2 100000 L n j _ _ = _
  unfold Zak
  exact Zc h1.1 (Zc h1.2 (Zc (by omega) (Zc (by omega) (Zc hl (Zc (by omega) (Zc rfl (Zc rfl (Zj (by omega) rfl))))))))
 | succ d ih =>
  intro j hj
  refine (Zn (n := f + d + 1) (y := .h2m16 L n (j + 1) (((n + 1 : Nat) : Int) * 1048576 + 18) (n + 1)) ?_).trans (ih (j + 1) (by omega))
  show Zak a0 a1 a2 100000 L n j _ _ = _
  unfold Zak
  have e0 : (L.getD j R_ii.z).a0 = 2 := by rw [hg j (by omega)]
  have e1 : (L.getD j R_ii.z).a1 = ((j : Int) + 1) * 1048576 + 18 := by rw [hg j (by omega)]
  exact Zc h1.1 (Zc h1.2 (Zc (by omega) (Zc (by omega) (Zc hl (Zc (by omega) (Zc rfl (Zc rfl (Zc (by omega) (Zj (by omega) (Zc (by omega) (Zc (by omega) (Zc (by omega) (Zc (by omega) (Zc (by omega) (Zc (by omega) (Zc (by omega) (Zc (by omega) rfl)))))))))))))))))
theorem Zmt (h1 : 0 ≤ a1 ∧ a1 ≤ 255) : ∀ (d n : Nat) (L : List R_ii), (n : Int) + (d : Int) = 1 + a1 % 10 → 1 ≤ n → L.length = n → Good L → Z2 (Zf a0 a1 a2 100000) (20 * d + 1) (.h1m16 L n n) = some .r0 := by
 intro d
 induction d with
 | zero =>
  intro n L hd hn hl hg
  refine Za4 ?_
  show ZU a0 a1 a2 100000 L n n = _
  unfold ZU
  exact Zc h1.1 (Zc h1.2 (Zc (by omega) (Zc (by omega) (Zc hl (Zc rfl (Zj (by omega) rfl))))))
 | succ d ih =>
  intro n L hd hn hl hg
  have hr := ih (n + 1) (L ++ [⟨2, ((n + 1 : Nat) : Int) * 1048576 + 18⟩]) (by omega) (by omega) (by simp [hl]) (ZaB hl hg)
  have hi := Zms (a0 := a0) (a2 := a2) h1 ⟨hn, by omega⟩ hl hg hr n 0 (by omega)
  refine ZI (n := 20 * d + 1 + n + 1 + 1) (by omega) ?_
  refine (Zn (y := .h2m16 L n 0 (((n + 1 : Nat) : Int) * 1048576 + 18) (n + 1)) ?_).trans hi
  show ZU a0 a1 a2 100000 L n n = _
  unfold ZU
  exact Zc h1.1 (Zc h1.2 (Zc (by omega) (Zc (by omega) (Zc hl (Zc rfl (Zc (by omega) rfl))))))
theorem Zmu (h1 : 0 ≤ a1 ∧ a1 ≤ 255) : Z2 (Zf a0 a1 a2 100000) 100000 .h1m0 = some .r0 := by
 have h := Zmt (a0 := a0) (a2 := a2) h1 (a1 % 10).toNat 1 [⟨2, 1048594⟩] (by omega) (by omega) rfl ZaA
 refine ZI (n := 20 * (a1 % 10).toNat + 1 + 1 + 1) (by omega) ?_
 refine (Zn (y := .h2m0) ?_).trans ((Zn (y := .h1m16 [⟨2, 1048594⟩] 1 1) ?_).trans h)
 ·show ZaR a0 a1 a2 100000 = _
  unfold ZaR
  exact Zc h1.1 (Zc h1.2 rfl)
 ·show Zbb a0 a1 a2 100000 = _
  unfold Zbb
  exact Zc h1.1 (Zc h1.2 rfl)
theorem Zmv (h1 : 0 ≤ a1 ∧ a1 ≤ 255) {L : List R_ii} {n : Nat} (hn : 1 ≤ n ∧ n ≤ 9) (hl : L.length = n) (hg : Good L) {f : Nat} {r : Zg} (hr : Z2 (Zf a0 a1 a2 100000) f (.h1m17 (L ++ [⟨2, ((n + 1 : Nat) : Int) * 1048576 + 18⟩]) (n + 1) (n + 1)) = some r) : ∀ d j, j + d = n → Z2 (Zf a0 a1 a2 100000) (f + d + 1) (.h2m17 L n j (((n + 1 : Nat) : Int) * 1048576 + 18) (n + 1)) = some r := by
 intro d
 induction d with
 | zero =>
  intro j hj
  refine (Zn (y := .h1m17 (L ++ [⟨2, ((n + 1 : Nat) : Int) * 1048576 + 18⟩]) (n + 1) (n + 1)) ?_).trans hr
  show Zal a0 a1 a2 100000 L n j _ _ = _
  unfold Zal
  exact Zc h1.1 (Zc h1.2 (Zc (by omega) (Zc (by omega) (Zc hl (Zc (by omega) (Zc rfl (Zc rfl (Zj (by omega) rfl))))))))
 | succ d ih =>
  intro j hj
  refine (Zn (n := f + d + 1) (y := .h2m17 L n (j + 1) (((n + 1 : Nat) : Int) * 1048576 + 18) (n + 1)) ?_).trans (ih (j + 1) (by omega))
  show Zal a0 a1 a2 100000 L n j _ _ = _
  unfold Zal
  have e0 : (L.getD j R_ii.z).a0 = 2 := by rw [hg j (by omega)]
  have e1 : (L.getD j R_ii.z).a1 = ((j : Int) + 1) * 1048576 + 18 := by rw [hg j (by omega)]
  exact Zc h1.1 (Zc h1.2 (Zc (by omega) (Zc (by omega) (Zc hl (Zc (by omega) (Zc rfl (Zc rfl (Zc (by omega) (Zj (by omega) (Zc (by omega) (Zc (by omega) (Zc (by omega) (Zc (by omega) (Zc (by omega) (Zc (by omega) (Zc (by omega) (Zc (by omega) rfl)))))))))))))))))
theorem Zmw (h1 : 0 ≤ a1 ∧ a1 ≤ 255) : ∀ (d n : Nat) (L : List R_ii), (n : Int) + (d : Int) = 1 + a1 % 10 → 1 ≤ n → L.length = n → Good L → Z2 (Zf a0 a1 a2 100000) (20 * d + 1) (.h1m17 L n n) = some .r0 := by
 intro d
 induction d with
 | zero =>
  intro n L hd hn hl hg
  refine Za4 ?_
  show ZV a0 a1 a2 100000 L n n = _
  unfold ZV
  exact Zc h1.1 (Zc h1.2 (Zc (by omega) (Zc (by omega) (Zc hl (Zc rfl (Zj (by omega) rfl))))))
 | succ d ih =>
  intro n L hd hn hl hg
  have hr := ih (n + 1) (L ++ [⟨2, ((n + 1 : Nat) : Int) * 1048576 + 18⟩]) (by omega) (by omega) (by simp [hl]) (ZaB hl hg)
  have hi := Zmv (a0 := a0) (a2 := a2) h1 ⟨hn, by omega⟩ hl hg hr n 0 (by omega)
  refine ZI (n := 20 * d + 1 + n + 1 + 1) (by omega) ?_
  refine (Zn (y := .h2m17 L n 0 (((n + 1 : Nat) : Int) * 1048576 + 18) (n + 1)) ?_).trans hi
  show ZV a0 a1 a2 100000 L n n = _
  unfold ZV
  exact Zc h1.1 (Zc h1.2 (Zc (by omega) (Zc (by omega) (Zc hl (Zc rfl (Zc (by omega) rfl))))))
theorem Zmx (h1 : 0 ≤ a1 ∧ a1 ≤ 255) : Z2 (Zf a0 a1 a2 100000) 100000 .h1m1 = some .r0 := by
 have h := Zmw (a0 := a0) (a2 := a2) h1 (a1 % 10).toNat 1 [⟨2, 1048594⟩] (by omega) (by omega) rfl ZaA
 refine ZI (n := 20 * (a1 % 10).toNat + 1 + 1 + 1) (by omega) ?_
 refine (Zn (y := .h2m1) ?_).trans ((Zn (y := .h1m17 [⟨2, 1048594⟩] 1 1) ?_).trans h)
 ·show ZaS a0 a1 a2 100000 = _
  unfold ZaS
  exact Zc h1.1 (Zc h1.2 rfl)
 ·show Zbc a0 a1 a2 100000 = _
  unfold Zbc
  exact Zc h1.1 (Zc h1.2 rfl)
theorem Zmy (h1 : 0 ≤ a1 ∧ a1 ≤ 255) {L : List R_ii} {n : Nat} (hn : 1 ≤ n ∧ n ≤ 9) (hl : L.length = n) (hg : Good L) {f : Nat} {r : Zg} (hr : Z2 (Zf a0 a1 a2 100000) f (.h1m18 (L ++ [⟨2, ((n + 1 : Nat) : Int) * 1048576 + 18⟩]) (n + 1) (n + 1)) = some r) : ∀ d j, j + d = n → Z2 (Zf a0 a1 a2 100000) (f + d + 1) (.h2m18 L n j (((n + 1 : Nat) : Int) * 1048576 + 18) (n + 1)) = some r := by
 intro d
 induction d with
 | zero =>
  intro j hj
  refine (Zn (y := .h1m18 (L ++ [⟨2, ((n + 1 : Nat) : Int) * 1048576 + 18⟩]) (n + 1) (n + 1)) ?_).trans hr
  show Zam a0 a1 a2 100000 L n j _ _ = _
  unfold Zam
  exact Zc h1.1 (Zc h1.2 (Zc (by omega) (Zc (by omega) (Zc hl (Zc (by omega) (Zc rfl (Zc rfl (Zj (by omega) rfl))))))))
 | succ d ih =>
  intro j hj
  refine (Zn (n := f + d + 1) (y := .h2m18 L n (j + 1) (((n + 1 : Nat) : Int) * 1048576 + 18) (n + 1)) ?_).trans (ih (j + 1) (by omega))
  show Zam a0 a1 a2 100000 L n j _ _ = _
  unfold Zam
  have e0 : (L.getD j R_ii.z).a0 = 2 := by rw [hg j (by omega)]
  have e1 : (L.getD j R_ii.z).a1 = ((j : Int) + 1) * 1048576 + 18 := by rw [hg j (by omega)]
  exact Zc h1.1 (Zc h1.2 (Zc (by omega) (Zc (by omega) (Zc hl (Zc (by omega) (Zc rfl (Zc rfl (Zc (by omega) (Zj (by omega) (Zc (by omega) (Zc (by omega) (Zc (by omega) (Zc (by omega) (Zc (by omega) (Zc (by omega) (Zc (by omega) (Zc (by omega) rfl)))))))))))))))))
theorem Zmz (h1 : 0 ≤ a1 ∧ a1 ≤ 255) : ∀ (d n : Nat) (L : List R_ii), (n : Int) + (d : Int) = 1 + a1 % 10 → 1 ≤ n → L.length = n → Good L → Z2 (Zf a0 a1 a2 100000) (20 * d + 1) (.h1m18 L n n) = some .r0 := by
 intro d
 induction d with
 | zero =>
  intro n L hd hn hl hg
  refine Za4 ?_
  show ZW a0 a1 a2 100000 L n n = _
  unfold ZW
  exact Zc h1.1 (Zc h1.2 (Zc (by omega) (Zc (by omega) (Zc hl (Zc rfl (Zj (by omega) rfl))))))
 | succ d ih =>
  intro n L hd hn hl hg
  have hr := ih (n + 1) (L ++ [⟨2, ((n + 1 : Nat) : Int) * 1048576 + 18⟩]) (by omega) (by omega) (by simp [hl]) (ZaB hl hg)
  have hi := Zmy (a0 := a0) (a2 := a2) h1 ⟨hn, by omega⟩ hl hg hr n 0 (by omega)
  refine ZI (n := 20 * d + 1 + n + 1 + 1) (by omega) ?_
  refine (Zn (y := .h2m18 L n 0 (((n + 1 : Nat) : Int) * 1048576 + 18) (n + 1)) ?_).trans hi
  show ZW a0 a1 a2 100000 L n n = _
  unfold ZW
  exact Zc h1.1 (Zc h1.2 (Zc (by omega) (Zc (by omega) (Zc hl (Zc rfl (Zc (by omega) rfl))))))
theorem Zm0 (h1 : 0 ≤ a1 ∧ a1 ≤ 255) : Z2 (Zf a0 a1 a2 100000) 100000 .h1m2 = some .r0 := by
 have h := Zmz (a0 := a0) (a2 := a2) h1 (a1 % 10).toNat 1 [⟨2, 1048594⟩] (by omega) (by omega) rfl ZaA
 refine ZI (n := 20 * (a1 % 10).toNat + 1 + 1 + 1) (by omega) ?_
 refine (Zn (y := .h2m2) ?_).trans ((Zn (y := .h1m18 [⟨2, 1048594⟩] 1 1) ?_).trans h)
 ·show ZaT a0 a1 a2 100000 = _
  unfold ZaT
  exact Zc h1.1 (Zc h1.2 rfl)
 ·show Zbd a0 a1 a2 100000 = _
  unfold Zbd
  exact Zc h1.1 (Zc h1.2 rfl)
theorem Zm1 (h1 : 0 ≤ a1 ∧ a1 ≤ 255) {L : List R_ii} {n : Nat} (hn : 1 ≤ n ∧ n ≤ 9) (hl : L.length = n) (hg : Good L) {f : Nat} {r : Zg} (hr : Z2 (Zf a0 a1 a2 100000) f (.h1m19 (L ++ [⟨2, ((n + 1 : Nat) : Int) * 1048576 + 18⟩]) (n + 1) (n + 1)) = some r) : ∀ d j, j + d = n → Z2 (Zf a0 a1 a2 100000) (f + d + 1) (.h2m19 L n j (((n + 1 : Nat) : Int) * 1048576 + 18) (n + 1)) = some r := by
 intro d
 induction d with
 | zero =>
  intro j hj
  refine (Zn (y := .h1m19 (L ++ [⟨2, ((n + 1 : Nat) : Int) * 1048576 + 18⟩]) (n + 1) (n + 1)) ?_).trans hr
  show Zan a0 a1 a2 100000 L n j _ _ = _
  unfold Zan
  exact Zc h1.1 (Zc h1.2 (Zc (by omega) (Zc (by omega) (Zc hl (Zc (by omega) (Zc rfl (Zc rfl (Zj (by omega) rfl))))))))
 | succ d ih =>
  intro j hj
  refine (Zn (n := f + d + 1) (y := .h2m19 L n (j + 1) (((n + 1 : Nat) : Int) * 1048576 + 18) (n + 1)) ?_).trans (ih (j + 1) (by omega))
  show Zan a0 a1 a2 100000 L n j _ _ = _
  unfold Zan
  have e0 : (L.getD j R_ii.z).a0 = 2 := by rw [hg j (by omega)]
  have e1 : (L.getD j R_ii.z).a1 = ((j : Int) + 1) * 1048576 + 18 := by rw [hg j (by omega)]
  exact Zc h1.1 (Zc h1.2 (Zc (by omega) (Zc (by omega) (Zc hl (Zc (by omega) (Zc rfl (Zc rfl (Zc (by omega) (Zj (by omega) (Zc (by omega) (Zc (by omega) (Zc (by omega) (Zc (by omega) (Zc (by omega) (Zc (by omega) (Zc (by omega) (Zc (by omega) rfl)))))))))))))))))
theorem Zm2 (h1 : 0 ≤ a1 ∧ a1 ≤ 255) : ∀ (d n : Nat) (L : List R_ii), (n : Int) + (d : Int) = 1 + a1 % 10 → 1 ≤ n → L.length = n → Good L → Z2 (Zf a0 a1 a2 100000) (20 * d + 1) (.h1m19 L n n) = some .r0 := by
 intro d
 induction d with
 | zero =>
  intro n L hd hn hl hg
  refine Za4 ?_
  show ZX a0 a1 a2 100000 L n n = _
  unfold ZX
  exact Zc h1.1 (Zc h1.2 (Zc (by omega) (Zc (by omega) (Zc hl (Zc rfl (Zj (by omega) rfl))))))
 | succ d ih =>
  intro n L hd hn hl hg
  have hr := ih (n + 1) (L ++ [⟨2, ((n + 1 : Nat) : Int) * 1048576 + 18⟩]) (by omega) (by omega) (by simp [hl]) (ZaB hl hg)
  have hi := Zm1 (a0 := a0) (a2 := a2) h1 ⟨hn, by omega⟩ hl hg hr n 0 (by omega)
  refine ZI (n := 20 * d + 1 + n + 1 + 1) (by omega) ?_
  refine (Zn (y := .h2m19 L n 0 (((n + 1 : Nat) : Int) * 1048576 + 18) (n + 1)) ?_).trans hi
  show ZX a0 a1 a2 100000 L n n = _
  unfold ZX
  exact Zc h1.1 (Zc h1.2 (Zc (by omega) (Zc (by omega) (Zc hl (Zc rfl (Zc (by omega) rfl))))))
theorem Zm3 (h1 : 0 ≤ a1 ∧ a1 ≤ 255) : Z2 (Zf a0 a1 a2 100000) 100000 .h1m3 = some .r0 := by
 have h := Zm2 (a0 := a0) (a2 := a2) h1 (a1 % 10).toNat 1 [⟨2, 1048594⟩] (by omega) (by omega) rfl ZaA
 refine ZI (n := 20 * (a1 % 10).toNat + 1 + 1 + 1) (by omega) ?_
 refine (Zn (y := .h2m3) ?_).trans ((Zn (y := .h1m19 [⟨2, 1048594⟩] 1 1) ?_).trans h)
 ·show ZaU a0 a1 a2 100000 = _
  unfold ZaU
  exact Zc h1.1 (Zc h1.2 rfl)
 ·show Zbe a0 a1 a2 100000 = _
  unfold Zbe
  exact Zc h1.1 (Zc h1.2 rfl)
theorem Zm4 (h1 : 0 ≤ a1 ∧ a1 ≤ 255) {L : List R_ii} {n : Nat} (hn : 1 ≤ n ∧ n ≤ 9) (hl : L.length = n) (hg : Good L) {f : Nat} {r : Zg} (hr : Z2 (Zf a0 a1 a2 100000) f (.h1m20 (L ++ [⟨2, ((n + 1 : Nat) : Int) * 1048576 + 18⟩]) (n + 1) (n + 1)) = some r) : ∀ d j, j + d = n → Z2 (Zf a0 a1 a2 100000) (f + d + 1) (.h2m20 L n j (((n + 1 : Nat) : Int) * 1048576 + 18) (n + 1)) = some r := by
 intro d
 induction d with
 | zero =>
  intro j hj
  refine (Zn (y := .h1m20 (L ++ [⟨2, ((n + 1 : Nat) : Int) * 1048576 + 18⟩]) (n + 1) (n + 1)) ?_).trans hr
  show Zao a0 a1 a2 100000 L n j _ _ = _
  unfold Zao
  exact Zc h1.1 (Zc h1.2 (Zc (by omega) (Zc (by omega) (Zc hl (Zc (by omega) (Zc rfl (Zc rfl (Zj (by omega) rfl))))))))
 | succ d ih =>
  intro j hj
  refine (Zn (n := f + d + 1) (y := .h2m20 L n (j + 1) (((n + 1 : Nat) : Int) * 1048576 + 18) (n + 1)) ?_).trans (ih (j + 1) (by omega))
  show Zao a0 a1 a2 100000 L n j _ _ = _
  unfold Zao
  have e0 : (L.getD j R_ii.z).a0 = 2 := by rw [hg j (by omega)]
  have e1 : (L.getD j R_ii.z).a1 = ((j : Int) + 1) * 1048576 + 18 := by rw [hg j (by omega)]
  exact Zc h1.1 (Zc h1.2 (Zc (by omega) (Zc (by omega) (Zc hl (Zc (by omega) (Zc rfl (Zc rfl (Zc (by omega) (Zj (by omega) (Zc (by omega) (Zc (by omega) (Zc (by omega) (Zc (by omega) (Zc (by omega) (Zc (by omega) (Zc (by omega) (Zc (by omega) rfl)))))))))))))))))
theorem Zm5 (h1 : 0 ≤ a1 ∧ a1 ≤ 255) : ∀ (d n : Nat) (L : List R_ii), (n : Int) + (d : Int) = 1 + a1 % 10 → 1 ≤ n → L.length = n → Good L → Z2 (Zf a0 a1 a2 100000) (20 * d + 1) (.h1m20 L n n) = some .r0 := by
 intro d
 induction d with
 | zero =>
  intro n L hd hn hl hg
  refine Za4 ?_
  show ZY a0 a1 a2 100000 L n n = _
  unfold ZY
  exact Zc h1.1 (Zc h1.2 (Zc (by omega) (Zc (by omega) (Zc hl (Zc rfl (Zj (by omega) rfl))))))
 | succ d ih =>
  intro n L hd hn hl hg
  have hr := ih (n + 1) (L ++ [⟨2, ((n + 1 : Nat) : Int) * 1048576 + 18⟩]) (by omega) (by omega) (by simp [hl]) (ZaB hl hg)
  have hi := Zm4 (a0 := a0) (a2 := a2) h1 ⟨hn, by omega⟩ hl hg hr n 0 (by omega)
  refine ZI (n := 20 * d + 1 + n + 1 + 1) (by omega) ?_
  refine (Zn (y := .h2m20 L n 0 (((n + 1 : Nat) : Int) * 1048576 + 18) (n + 1)) ?_).trans hi
  show ZY a0 a1 a2 100000 L n n = _
  unfold ZY
  exact Zc h1.1 (Zc h1.2 (Zc (by omega) (Zc (by omega) (Zc hl (Zc rfl (Zc (by omega) rfl))))))
theorem Zm6 (h1 : 0 ≤ a1 ∧ a1 ≤ 255) : Z2 (Zf a0 a1 a2 100000) 100000 .h1m4 = some .r0 := by
 have h := Zm5 (a0 := a0) (a2 := a2) h1 (a1 % 10).toNat 1 [⟨2, 1048594⟩] (by omega) (by omega) rfl ZaA
 refine ZI (n := 20 * (a1 % 10).toNat + 1 + 1 + 1) (by omega) ?_
 refine (Zn (y := .h2m4) ?_).trans ((Zn (y := .h1m20 [⟨2, 1048594⟩] 1 1) ?_).trans h)
 ·show ZaV a0 a1 a2 100000 = _
  unfold ZaV
  exact Zc h1.1 (Zc h1.2 rfl)
 ·show Zbf a0 a1 a2 100000 = _
  unfold Zbf
  exact Zc h1.1 (Zc h1.2 rfl)
theorem Zm7 (h1 : 0 ≤ a1 ∧ a1 ≤ 255) {L : List R_ii} {n : Nat} (hn : 1 ≤ n ∧ n ≤ 9) (hl : L.length = n) (hg : Good L) {f : Nat} {r : Zg} (hr : Z2 (Zf a0 a1 a2 100000) f (.h1m21 (L ++ [⟨2, ((n + 1 : Nat) : Int) * 1048576 + 18⟩]) (n + 1) (n + 1)) = some r) : ∀ d j, j + d = n → Z2 (Zf a0 a1 a2 100000) (f + d + 1) (.h2m21 L n j (((n + 1 : Nat) : Int) * 1048576 + 18) (n + 1)) = some r := by
 intro d
 induction d with
 | zero =>
  intro j hj
  refine (Zn (y := .h1m21 (L ++ [⟨2, ((n + 1 : Nat) : Int) * 1048576 + 18⟩]) (n + 1) (n + 1)) ?_).trans hr
  show Zap a0 a1 a2 100000 L n j _ _ = _
  unfold Zap
  exact Zc h1.1 (Zc h1.2 (Zc (by omega) (Zc (by omega) (Zc hl (Zc (by omega) (Zc rfl (Zc rfl (Zj (by omega) rfl))))))))
 | succ d ih =>
  intro j hj
  refine (Zn (n := f + d + 1) (y := .h2m21 L n (j + 1) (((n + 1 : Nat) : Int) * 1048576 + 18) (n + 1)) ?_).trans (ih (j + 1) (by omega))
  show Zap a0 a1 a2 100000 L n j _ _ = _
  unfold Zap
  have e0 : (L.getD j R_ii.z).a0 = 2 := by rw [hg j (by omega)]
  have e1 : (L.getD j R_ii.z).a1 = ((j : Int) + 1) * 1048576 + 18 := by rw [hg j (by omega)]
  exact Zc h1.1 (Zc h1.2 (Zc (by omega) (Zc (by omega) (Zc hl (Zc (by omega) (Zc rfl (Zc rfl (Zc (by omega) (Zj (by omega) (Zc (by omega) (Zc (by omega) (Zc (by omega) (Zc (by omega) (Zc (by omega) (Zc (by omega) (Zc (by omega) (Zc (by omega) rfl)))))))))))))))))
theorem Zm8 (h1 : 0 ≤ a1 ∧ a1 ≤ 255) : ∀ (d n : Nat) (L : List R_ii), (n : Int) + (d : Int) = 1 + a1 % 10 → 1 ≤ n → L.length = n → Good L → Z2 (Zf a0 a1 a2 100000) (20 * d + 1) (.h1m21 L n n) = some .r0 := by
 intro d
 induction d with
 | zero =>
  intro n L hd hn hl hg
  refine Za4 ?_
  show ZZ a0 a1 a2 100000 L n n = _
  unfold ZZ
  exact Zc h1.1 (Zc h1.2 (Zc (by omega) (Zc (by omega) (Zc hl (Zc rfl (Zj (by omega) rfl))))))
 | succ d ih =>
  intro n L hd hn hl hg
  have hr := ih (n + 1) (L ++ [⟨2, ((n + 1 : Nat) : Int) * 1048576 + 18⟩]) (by omega) (by omega) (by simp [hl]) (ZaB hl hg)
  have hi := Zm7 (a0 := a0) (a2 := a2) h1 ⟨hn, by omega⟩ hl hg hr n 0 (by omega)
  refine ZI (n := 20 * d + 1 + n + 1 + 1) (by omega) ?_
  refine (Zn (y := .h2m21 L n 0 (((n + 1 : Nat) : Int) * 1048576 + 18) (n + 1)) ?_).trans hi
  show ZZ a0 a1 a2 100000 L n n = _
  unfold ZZ
  exact Zc h1.1 (Zc h1.2 (Zc (by omega) (Zc (by omega) (Zc hl (Zc rfl (Zc (by omega) rfl))))))
theorem Zm9 (h1 : 0 ≤ a1 ∧ a1 ≤ 255) : Z2 (Zf a0 a1 a2 100000) 100000 .h1m5 = some .r0 := by
 have h := Zm8 (a0 := a0) (a2 := a2) h1 (a1 % 10).toNat 1 [⟨2, 1048594⟩] (by omega) (by omega) rfl ZaA
 refine ZI (n := 20 * (a1 % 10).toNat + 1 + 1 + 1) (by omega) ?_
 refine (Zn (y := .h2m5) ?_).trans ((Zn (y := .h1m21 [⟨2, 1048594⟩] 1 1) ?_).trans h)
 ·show ZaW a0 a1 a2 100000 = _
  unfold ZaW
  exact Zc h1.1 (Zc h1.2 rfl)
 ·show Zbg a0 a1 a2 100000 = _
  unfold Zbg
  exact Zc h1.1 (Zc h1.2 rfl)
theorem ZmA (h1 : 0 ≤ a1 ∧ a1 ≤ 255) {L : List R_ii} {n : Nat} (hn : 1 ≤ n ∧ n ≤ 9) (hl : L.length = n) (hg : Good L) {f : Nat} {r : Zg} (hr : Z2 (Zf a0 a1 a2 100000) f (.h1m22 (L ++ [⟨2, ((n + 1 : Nat) : Int) * 1048576 + 18⟩]) (n + 1) (n + 1)) = some r) : ∀ d j, j + d = n → Z2 (Zf a0 a1 a2 100000) (f + d + 1) (.h2m22 L n j (((n + 1 : Nat) : Int) * 1048576 + 18) (n + 1)) = some r := by
 intro d
 induction d with
 | zero =>
  intro j hj
  refine (Zn (y := .h1m22 (L ++ [⟨2, ((n + 1 : Nat) : Int) * 1048576 + 18⟩]) (n + 1) (n + 1)) ?_).trans hr
  show Zaq a0 a1 a2 100000 L n j _ _ = _
  unfold Zaq
  exact Zc h1.1 (Zc h1.2 (Zc (by omega) (Zc (by omega) (Zc hl (Zc (by omega) (Zc rfl (Zc rfl (Zj (by omega) rfl))))))))
 | succ d ih =>
  intro j hj
  refine (Zn (n := f + d + 1) (y := .h2m22 L n (j + 1) (((n + 1 : Nat) : Int) * 1048576 + 18) (n + 1)) ?_).trans (ih (j + 1) (by omega))
  show Zaq a0 a1 a2 100000 L n j _ _ = _
  unfold Zaq
  have e0 : (L.getD j R_ii.z).a0 = 2 := by rw [hg j (by omega)]
  have e1 : (L.getD j R_ii.z).a1 = ((j : Int) + 1) * 1048576 + 18 := by rw [hg j (by omega)]
  exact Zc h1.1 (Zc h1.2 (Zc (by omega) (Zc (by omega) (Zc hl (Zc (by omega) (Zc rfl (Zc rfl (Zc (by omega) (Zj (by omega) (Zc (by omega) (Zc (by omega) (Zc (by omega) (Zc (by omega) (Zc (by omega) (Zc (by omega) (Zc (by omega) (Zc (by omega) rfl)))))))))))))))))
theorem ZmB (h1 : 0 ≤ a1 ∧ a1 ≤ 255) : ∀ (d n : Nat) (L : List R_ii), (n : Int) + (d : Int) = 1 + a1 % 10 → 1 ≤ n → L.length = n → Good L → Z2 (Zf a0 a1 a2 100000) (20 * d + 1) (.h1m22 L n n) = some .r0 := by
 intro d
 induction d with
 | zero =>
  intro n L hd hn hl hg
  refine Za4 ?_
  show Zaa a0 a1 a2 100000 L n n = _
  unfold Zaa
  exact Zc h1.1 (Zc h1.2 (Zc (by omega) (Zc (by omega) (Zc hl (Zc rfl (Zj (by omega) rfl))))))
 | succ d ih =>
  intro n L hd hn hl hg
  have hr := ih (n + 1) (L ++ [⟨2, ((n + 1 : Nat) : Int) * 1048576 + 18⟩]) (by omega) (by omega) (by simp [hl]) (ZaB hl hg)
  have hi := ZmA (a0 := a0) (a2 := a2) h1 ⟨hn, by omega⟩ hl hg hr n 0 (by omega)
  refine ZI (n := 20 * d + 1 + n + 1 + 1) (by omega) ?_
  refine (Zn (y := .h2m22 L n 0 (((n + 1 : Nat) : Int) * 1048576 + 18) (n + 1)) ?_).trans hi
  show Zaa a0 a1 a2 100000 L n n = _
  unfold Zaa
  exact Zc h1.1 (Zc h1.2 (Zc (by omega) (Zc (by omega) (Zc hl (Zc rfl (Zc (by omega) rfl))))))
theorem ZmC (h1 : 0 ≤ a1 ∧ a1 ≤ 255) : Z2 (Zf a0 a1 a2 100000) 100000 .h1m6 = some .r0 := by
 have h := ZmB (a0 := a0) (a2 := a2) h1 (a1 % 10).toNat 1 [⟨2, 1048594⟩] (by omega) (by omega) rfl ZaA
 refine ZI (n := 20 * (a1 % 10).toNat + 1 + 1 + 1) (by omega) ?_
 refine (Zn (y := .h2m6) ?_).trans ((Zn (y := .h1m22 [⟨2, 1048594⟩] 1 1) ?_).trans h)
 ·show ZaX a0 a1 a2 100000 = _
  unfold ZaX
  exact Zc h1.1 (Zc h1.2 rfl)
 ·show Zbh a0 a1 a2 100000 = _
  unfold Zbh
  exact Zc h1.1 (Zc h1.2 rfl)
theorem ZmD (h1 : 0 ≤ a1 ∧ a1 ≤ 255) {L : List R_ii} {n : Nat} (hn : 1 ≤ n ∧ n ≤ 9) (hl : L.length = n) (hg : Good L) {f : Nat} {r : Zg} (hr : Z2 (Zf a0 a1 a2 100000) f (.h1m23 (L ++ [⟨2, ((n + 1 : Nat) : Int) * 1048576 + 18⟩]) (n + 1) (n + 1)) = some r) : ∀ d j, j + d = n → Z2 (Zf a0 a1 a2 100000) (f + d + 1) (.h2m23 L n j (((n + 1 : Nat) : Int) * 1048576 + 18) (n + 1)) = some r := by
 intro d
 induction d with
 | zero =>
  intro j hj
  refine (Zn (y := .h1m23 (L ++ [⟨2, ((n + 1 : Nat) : Int) * 1048576 + 18⟩]) (n + 1) (n + 1)) ?_).trans hr
  show Zar a0 a1 a2 100000 L n j _ _ = _
  unfold Zar
  exact Zc h1.1 (Zc h1.2 (Zc (by omega) (Zc (by omega) (Zc hl (Zc (by omega) (Zc rfl (Zc rfl (Zj (by omega) rfl))))))))
 | succ d ih =>
  intro j hj
  refine (Zn (n := f + d + 1) (y := .h2m23 L n (j + 1) (((n + 1 : Nat) : Int) * 1048576 + 18) (n + 1)) ?_).trans (ih (j + 1) (by omega))
  show Zar a0 a1 a2 100000 L n j _ _ = _
  unfold Zar
  have e0 : (L.getD j R_ii.z).a0 = 2 := by rw [hg j (by omega)]
  have e1 : (L.getD j R_ii.z).a1 = ((j : Int) + 1) * 1048576 + 18 := by rw [hg j (by omega)]
  exact Zc h1.1 (Zc h1.2 (Zc (by omega) (Zc (by omega) (Zc hl (Zc (by omega) (Zc rfl (Zc rfl (Zc (by omega) (Zj (by omega) (Zc (by omega) (Zc (by omega) (Zc (by omega) (Zc (by omega) (Zc (by omega) (Zc (by omega) (Zc (by omega) (Zc (by omega) rfl)))))))))))))))))
theorem ZmE (h1 : 0 ≤ a1 ∧ a1 ≤ 255) : ∀ (d n : Nat) (L : List R_ii), (n : Int) + (d : Int) = 1 + a1 % 10 → 1 ≤ n → L.length = n → Good L → Z2 (Zf a0 a1 a2 100000) (20 * d + 1) (.h1m23 L n n) = some .r0 := by
 intro d
 induction d with
 | zero =>
  intro n L hd hn hl hg
  refine Za4 ?_
  show Zab a0 a1 a2 100000 L n n = _
  unfold Zab
  exact Zc h1.1 (Zc h1.2 (Zc (by omega) (Zc (by omega) (Zc hl (Zc rfl (Zj (by omega) rfl))))))
 | succ d ih =>
  intro n L hd hn hl hg
  have hr := ih (n + 1) (L ++ [⟨2, ((n + 1 : Nat) : Int) * 1048576 + 18⟩]) (by omega) (by omega) (by simp [hl]) (ZaB hl hg)
  have hi := ZmD (a0 := a0) (a2 := a2) h1 ⟨hn, by omega⟩ hl hg hr n 0 (by omega)
  refine ZI (n := 20 * d + 1 + n + 1 + 1) (by omega) ?_
  refine (Zn (y := .h2m23 L n 0 (((n + 1 : Nat) : Int) * 1048576 + 18) (n + 1)) ?_).trans hi
  show Zab a0 a1 a2 100000 L n n = _
  unfold Zab
  exact Zc h1.1 (Zc h1.2 (Zc (by omega) (Zc (by omega) (Zc hl (Zc rfl (Zc (by omega) rfl))))))
theorem ZmF (h1 : 0 ≤ a1 ∧ a1 ≤ 255) : Z2 (Zf a0 a1 a2 100000) 100000 .h1m7 = some .r0 := by
 have h := ZmE (a0 := a0) (a2 := a2) h1 (a1 % 10).toNat 1 [⟨2, 1048594⟩] (by omega) (by omega) rfl ZaA
 refine ZI (n := 20 * (a1 % 10).toNat + 1 + 1 + 1) (by omega) ?_
 refine (Zn (y := .h2m7) ?_).trans ((Zn (y := .h1m23 [⟨2, 1048594⟩] 1 1) ?_).trans h)
 ·show ZaY a0 a1 a2 100000 = _
  unfold ZaY
  exact Zc h1.1 (Zc h1.2 rfl)
 ·show Zbi a0 a1 a2 100000 = _
  unfold Zbi
  exact Zc h1.1 (Zc h1.2 rfl)
theorem ZmG (h1 : 0 ≤ a1 ∧ a1 ≤ 255) {L : List R_ii} {n : Nat} (hn : 1 ≤ n ∧ n ≤ 9) (hl : L.length = n) (hg : Good L) {f : Nat} {r : Zg} (hr : Z2 (Zf a0 a1 a2 100000) f (.h1m24 (L ++ [⟨2, ((n + 1 : Nat) : Int) * 1048576 + 18⟩]) (n + 1) (n + 1)) = some r) : ∀ d j, j + d = n → Z2 (Zf a0 a1 a2 100000) (f + d + 1) (.h2m24 L n j (((n + 1 : Nat) : Int) * 1048576 + 18) (n + 1)) = some r := by
 intro d
 induction d with
 | zero =>
  intro j hj
  refine (Zn (y := .h1m24 (L ++ [⟨2, ((n + 1 : Nat) : Int) * 1048576 + 18⟩]) (n + 1) (n + 1)) ?_).trans hr
  show Zas a0 a1 a2 100000 L n j _ _ = _
  unfold Zas
  exact Zc h1.1 (Zc h1.2 (Zc (by omega) (Zc (by omega) (Zc hl (Zc (by omega) (Zc rfl (Zc rfl (Zj (by omega) rfl))))))))
 | succ d ih =>
  intro j hj
  refine (Zn (n := f + d + 1) (y := .h2m24 L n (j + 1) (((n + 1 : Nat) : Int) * 1048576 + 18) (n + 1)) ?_).trans (ih (j + 1) (by omega))
  show Zas a0 a1 a2 100000 L n j _ _ = _
  unfold Zas
  have e0 : (L.getD j R_ii.z).a0 = 2 := by rw [hg j (by omega)]
  have e1 : (L.getD j R_ii.z).a1 = ((j : Int) + 1) * 1048576 + 18 := by rw [hg j (by omega)]
  exact Zc h1.1 (Zc h1.2 (Zc (by omega) (Zc (by omega) (Zc hl (Zc (by omega) (Zc rfl (Zc rfl (Zc (by omega) (Zj (by omega) (Zc (by omega) (Zc (by omega) (Zc (by omega) (Zc (by omega) (Zc (by omega) (Zc (by omega) (Zc (by omega) (Zc (by omega) rfl)))))))))))))))))
theorem ZmH (h1 : 0 ≤ a1 ∧ a1 ≤ 255) : ∀ (d n : Nat) (L : List R_ii), (n : Int) + (d : Int) = 1 + a1 % 10 → 1 ≤ n → L.length = n → Good L → Z2 (Zf a0 a1 a2 100000) (20 * d + 1) (.h1m24 L n n) = some .r0 := by
 intro d
 induction d with
 | zero =>
  intro n L hd hn hl hg
  refine Za4 ?_
  show Zac a0 a1 a2 100000 L n n = _
  unfold Zac
  exact Zc h1.1 (Zc h1.2 (Zc (by omega) (Zc (by omega) (Zc hl (Zc rfl (Zj (by omega) rfl))))))
 | succ d ih =>
  intro n L hd hn hl hg
  have hr := ih (n + 1) (L ++ [⟨2, ((n + 1 : Nat) : Int) * 1048576 + 18⟩]) (by omega) (by omega) (by simp [hl]) (ZaB hl hg)
  have hi := ZmG (a0 := a0) (a2 := a2) h1 ⟨hn, by omega⟩ hl hg hr n 0 (by omega)
  refine ZI (n := 20 * d + 1 + n + 1 + 1) (by omega) ?_
  refine (Zn (y := .h2m24 L n 0 (((n + 1 : Nat) : Int) * 1048576 + 18) (n + 1)) ?_).trans hi
  show Zac a0 a1 a2 100000 L n n = _
  unfold Zac
  exact Zc h1.1 (Zc h1.2 (Zc (by omega) (Zc (by omega) (Zc hl (Zc rfl (Zc (by omega) rfl))))))
theorem ZmI (h1 : 0 ≤ a1 ∧ a1 ≤ 255) : Z2 (Zf a0 a1 a2 100000) 100000 .h1m8 = some .r0 := by
 have h := ZmH (a0 := a0) (a2 := a2) h1 (a1 % 10).toNat 1 [⟨2, 1048594⟩] (by omega) (by omega) rfl ZaA
 refine ZI (n := 20 * (a1 % 10).toNat + 1 + 1 + 1) (by omega) ?_
 refine (Zn (y := .h2m8) ?_).trans ((Zn (y := .h1m24 [⟨2, 1048594⟩] 1 1) ?_).trans h)
 ·show ZaZ a0 a1 a2 100000 = _
  unfold ZaZ
  exact Zc h1.1 (Zc h1.2 rfl)
 ·show Zbj a0 a1 a2 100000 = _
  unfold Zbj
  exact Zc h1.1 (Zc h1.2 rfl)
theorem ZmJ (h1 : 0 ≤ a1 ∧ a1 ≤ 255) {L : List R_ii} {n : Nat} (hn : 1 ≤ n ∧ n ≤ 9) (hl : L.length = n) (hg : Good L) {f : Nat} {r : Zg} (hr : Z2 (Zf a0 a1 a2 100000) f (.h1m25 (L ++ [⟨2, ((n + 1 : Nat) : Int) * 1048576 + 18⟩]) (n + 1) (n + 1)) = some r) : ∀ d j, j + d = n → Z2 (Zf a0 a1 a2 100000) (f + d + 1) (.h2m25 L n j (((n + 1 : Nat) : Int) * 1048576 + 18) (n + 1)) = some r := by
 intro d
 induction d with
 | zero =>
  intro j hj
  refine (Zn (y := .h1m25 (L ++ [⟨2, ((n + 1 : Nat) : Int) * 1048576 + 18⟩]) (n + 1) (n + 1)) ?_).trans hr
  show Zat a0 a1 a2 100000 L n j _ _ = _
  unfold Zat
  exact Zc h1.1 (Zc h1.2 (Zc (by omega) (Zc (by omega) (Zc hl (Zc (by omega) (Zc rfl (Zc rfl (Zj (by omega) rfl))))))))
 | succ d ih =>
  intro j hj
  refine (Zn (n := f + d + 1) (y := .h2m25 L n (j + 1) (((n + 1 : Nat) : Int) * 1048576 + 18) (n + 1)) ?_).trans (ih (j + 1) (by omega))
  show Zat a0 a1 a2 100000 L n j _ _ = _
  unfold Zat
  have e0 : (L.getD j R_ii.z).a0 = 2 := by rw [hg j (by omega)]
  have e1 : (L.getD j R_ii.z).a1 = ((j : Int) + 1) * 1048576 + 18 := by rw [hg j (by omega)]
  exact Zc h1.1 (Zc h1.2 (Zc (by omega) (Zc (by omega) (Zc hl (Zc (by omega) (Zc rfl (Zc rfl (Zc (by omega) (Zj (by omega) (Zc (by omega) (Zc (by omega) (Zc (by omega) (Zc (by omega) (Zc (by omega) (Zc (by omega) (Zc (by omega) (Zc (by omega) rfl)))))))))))))))))
theorem ZmK (h1 : 0 ≤ a1 ∧ a1 ≤ 255) : ∀ (d n : Nat) (L : List R_ii), (n : Int) + (d : Int) = 1 + a1 % 10 → 1 ≤ n → L.length = n → Good L → Z2 (Zf a0 a1 a2 100000) (20 * d + 1) (.h1m25 L n n) = some .r0 := by
 intro d
 induction d with
 | zero =>
  intro n L hd hn hl hg
  refine Za4 ?_
  show Zad a0 a1 a2 100000 L n n = _
  unfold Zad
  exact Zc h1.1 (Zc h1.2 (Zc (by omega) (Zc (by omega) (Zc hl (Zc rfl (Zj (by omega) rfl))))))
 | succ d ih =>
  intro n L hd hn hl hg
  have hr := ih (n + 1) (L ++ [⟨2, ((n + 1 : Nat) : Int) * 1048576 + 18⟩]) (by omega) (by omega) (by simp [hl]) (ZaB hl hg)
  have hi := ZmJ (a0 := a0) (a2 := a2) h1 ⟨hn, by omega⟩ hl hg hr n 0 (by omega)
  refine ZI (n := 20 * d + 1 + n + 1 + 1) (by omega) ?_
  refine (Zn (y := .h2m25 L n 0 (((n + 1 : Nat) : Int) * 1048576 + 18) (n + 1)) ?_).trans hi
  show Zad a0 a1 a2 100000 L n n = _
  unfold Zad
  exact Zc h1.1 (Zc h1.2 (Zc (by omega) (Zc (by omega) (Zc hl (Zc rfl (Zc (by omega) rfl))))))
theorem ZmL (h1 : 0 ≤ a1 ∧ a1 ≤ 255) : Z2 (Zf a0 a1 a2 100000) 100000 .h1m9 = some .r0 := by
 have h := ZmK (a0 := a0) (a2 := a2) h1 (a1 % 10).toNat 1 [⟨2, 1048594⟩] (by omega) (by omega) rfl ZaA
 refine ZI (n := 20 * (a1 % 10).toNat + 1 + 1 + 1) (by omega) ?_
 refine (Zn (y := .h2m9) ?_).trans ((Zn (y := .h1m25 [⟨2, 1048594⟩] 1 1) ?_).trans h)
 ·show Zba a0 a1 a2 100000 = _
  unfold Zba
  exact Zc h1.1 (Zc h1.2 rfl)
 ·show Zbk a0 a1 a2 100000 = _
  unfold Zbk
  exact Zc h1.1 (Zc h1.2 rfl)
theorem ZlG (h1 : 0 ≤ a1 ∧ a1 ≤ 255) {L : List R_ii} {n : Nat} (hn : 1 ≤ n ∧ n ≤ 9) (hl : L.length = n) (hg : Good L) {f : Nat} {r : Zg} (hr : Z2 (Zf a0 a1 a2 100000) f (.h1m26 (L ++ [⟨2, ((n + 1 : Nat) : Int) * 1048576 + 18⟩]) (n + 1) (n + 1)) = some r) : ∀ d j, j + d = n → Z2 (Zf a0 a1 a2 100000) (f + d + 1) (.h2m26 L n j (((n + 1 : Nat) : Int) * 1048576 + 18) (n + 1)) = some r := by
 intro d
 induction d with
 | zero =>
  intro j hj
  refine (Zn (y := .h1m26 (L ++ [⟨2, ((n + 1 : Nat) : Int) * 1048576 + 18⟩]) (n + 1) (n + 1)) ?_).trans hr
  show Zau a0 a1 a2 100000 L n j _ _ = _
  unfold Zau
  exact Zc h1.1 (Zc h1.2 (Zc (by omega) (Zc (by omega) (Zc hl (Zc (by omega) (Zc rfl (Zc rfl (Zj (by omega) rfl))))))))
 | succ d ih =>
  intro j hj
  refine (Zn (n := f + d + 1) (y := .h2m26 L n (j + 1) (((n + 1 : Nat) : Int) * 1048576 + 18) (n + 1)) ?_).trans (ih (j + 1) (by omega))
  show Zau a0 a1 a2 100000 L n j _ _ = _
  unfold Zau
  have e0 : (L.getD j R_ii.z).a0 = 2 := by rw [hg j (by omega)]
  have e1 : (L.getD j R_ii.z).a1 = ((j : Int) + 1) * 1048576 + 18 := by rw [hg j (by omega)]
  exact Zc h1.1 (Zc h1.2 (Zc (by omega) (Zc (by omega) (Zc hl (Zc (by omega) (Zc rfl (Zc rfl (Zc (by omega) (Zj (by omega) (Zc (by omega) (Zc (by omega) (Zc (by omega) (Zc (by omega) (Zc (by omega) (Zc (by omega) (Zc (by omega) (Zc (by omega) rfl)))))))))))))))))
theorem ZlH (h1 : 0 ≤ a1 ∧ a1 ≤ 255) : ∀ (d n : Nat) (L : List R_ii), (n : Int) + (d : Int) = 1 + a1 % 10 → 1 ≤ n → L.length = n → Good L → Z2 (Zf a0 a1 a2 100000) (20 * d + 1) (.h1m26 L n n) = some .r0 := by
 intro d
 induction d with
 | zero =>
  intro n L hd hn hl hg
  refine Za4 ?_
  show Zae a0 a1 a2 100000 L n n = _
  unfold Zae
  exact Zc h1.1 (Zc h1.2 (Zc (by omega) (Zc (by omega) (Zc hl (Zc rfl (Zj (by omega) rfl))))))
 | succ d ih =>
  intro n L hd hn hl hg
  have hr := ih (n + 1) (L ++ [⟨2, ((n + 1 : Nat) : Int) * 1048576 + 18⟩]) (by omega) (by omega) (by simp [hl]) (ZaB hl hg)
  have hi := ZlG (a0 := a0) (a2 := a2) h1 ⟨hn, by omega⟩ hl hg hr n 0 (by omega)
  refine ZI (n := 20 * d + 1 + n + 1 + 1) (by omega) ?_
  refine (Zn (y := .h2m26 L n 0 (((n + 1 : Nat) : Int) * 1048576 + 18) (n + 1)) ?_).trans hi
  show Zae a0 a1 a2 100000 L n n = _
  unfold Zae
  exact Zc h1.1 (Zc h1.2 (Zc (by omega) (Zc (by omega) (Zc hl (Zc rfl (Zc (by omega) rfl))))))
theorem ZlI (h1 : 0 ≤ a1 ∧ a1 ≤ 255) : Z2 (Zf a0 a1 a2 100000) 100000 .h1m10 = some .r0 := by
 have h := ZlH (a0 := a0) (a2 := a2) h1 (a1 % 10).toNat 1 [⟨2, 1048594⟩] (by omega) (by omega) rfl ZaA
 refine ZI (n := 20 * (a1 % 10).toNat + 1 + 1 + 1) (by omega) ?_
 refine (Zn (y := .h2m10) ?_).trans ((Zn (y := .h1m26 [⟨2, 1048594⟩] 1 1) ?_).trans h)
 ·show ZaD a0 a1 a2 100000 = _
  unfold ZaD
  exact Zc h1.1 (Zc h1.2 rfl)
 ·show ZaJ a0 a1 a2 100000 = _
  unfold ZaJ
  exact Zc h1.1 (Zc h1.2 rfl)
theorem ZlJ (h1 : 0 ≤ a1 ∧ a1 ≤ 255) {L : List R_ii} {n : Nat} (hn : 1 ≤ n ∧ n ≤ 9) (hl : L.length = n) (hg : Good L) {f : Nat} {r : Zg} (hr : Z2 (Zf a0 a1 a2 100000) f (.h1m27 (L ++ [⟨2, ((n + 1 : Nat) : Int) * 1048576 + 18⟩]) (n + 1) (n + 1)) = some r) : ∀ d j, j + d = n → Z2 (Zf a0 a1 a2 100000) (f + d + 1) (.h2m27 L n j (((n + 1 : Nat) : Int) * 1048576 + 18) (n + 1)) = some r := by
 intro d
 induction d with
 | zero =>
  intro j hj
  refine (Zn (y := .h1m27 (L ++ [⟨2, ((n + 1 : Nat) : Int) * 1048576 + 18⟩]) (n + 1) (n + 1)) ?_).trans hr
  show Zav a0 a1 a2 100000 L n j _ _ = _
  unfold Zav
  exact Zc h1.1 (Zc h1.2 (Zc (by omega) (Zc (by omega) (Zc hl (Zc (by omega) (Zc rfl (Zc rfl (Zj (by omega) rfl))))))))
 | succ d ih =>
  intro j hj
  refine (Zn (n := f + d + 1) (y := .h2m27 L n (j + 1) (((n + 1 : Nat) : Int) * 1048576 + 18) (n + 1)) ?_).trans (ih (j + 1) (by omega))
  show Zav a0 a1 a2 100000 L n j _ _ = _
  unfold Zav
  have e0 : (L.getD j R_ii.z).a0 = 2 := by rw [hg j (by omega)]
  have e1 : (L.getD j R_ii.z).a1 = ((j : Int) + 1) * 1048576 + 18 := by rw [hg j (by omega)]
  exact Zc h1.1 (Zc h1.2 (Zc (by omega) (Zc (by omega) (Zc hl (Zc (by omega) (Zc rfl (Zc rfl (Zc (by omega) (Zj (by omega) (Zc (by omega) (Zc (by omega) (Zc (by omega) (Zc (by omega) (Zc (by omega) (Zc (by omega) (Zc (by omega) (Zc (by omega) rfl)))))))))))))))))
theorem ZlK (h1 : 0 ≤ a1 ∧ a1 ≤ 255) : ∀ (d n : Nat) (L : List R_ii), (n : Int) + (d : Int) = 1 + a1 % 10 → 1 ≤ n → L.length = n → Good L → Z2 (Zf a0 a1 a2 100000) (20 * d + 1) (.h1m27 L n n) = some .r0 := by
 intro d
 induction d with
 | zero =>
  intro n L hd hn hl hg
  refine Za4 ?_
  show Zaf a0 a1 a2 100000 L n n = _
  unfold Zaf
  exact Zc h1.1 (Zc h1.2 (Zc (by omega) (Zc (by omega) (Zc hl (Zc rfl (Zj (by omega) rfl))))))
 | succ d ih =>
  intro n L hd hn hl hg
  have hr := ih (n + 1) (L ++ [⟨2, ((n + 1 : Nat) : Int) * 1048576 + 18⟩]) (by omega) (by omega) (by simp [hl]) (ZaB hl hg)
  have hi := ZlJ (a0 := a0) (a2 := a2) h1 ⟨hn, by omega⟩ hl hg hr n 0 (by omega)
  refine ZI (n := 20 * d + 1 + n + 1 + 1) (by omega) ?_
  refine (Zn (y := .h2m27 L n 0 (((n + 1 : Nat) : Int) * 1048576 + 18) (n + 1)) ?_).trans hi
  show Zaf a0 a1 a2 100000 L n n = _
  unfold Zaf
  exact Zc h1.1 (Zc h1.2 (Zc (by omega) (Zc (by omega) (Zc hl (Zc rfl (Zc (by omega) rfl))))))
theorem ZlL (h1 : 0 ≤ a1 ∧ a1 ≤ 255) : Z2 (Zf a0 a1 a2 100000) 100000 .h1m11 = some .r0 := by
 have h := ZlK (a0 := a0) (a2 := a2) h1 (a1 % 10).toNat 1 [⟨2, 1048594⟩] (by omega) (by omega) rfl ZaA
 refine ZI (n := 20 * (a1 % 10).toNat + 1 + 1 + 1) (by omega) ?_
 refine (Zn (y := .h2m11) ?_).trans ((Zn (y := .h1m27 [⟨2, 1048594⟩] 1 1) ?_).trans h)
 ·show ZaE a0 a1 a2 100000 = _
  unfold ZaE
  exact Zc h1.1 (Zc h1.2 rfl)
 ·show ZaK a0 a1 a2 100000 = _
  unfold ZaK
  exact Zc h1.1 (Zc h1.2 rfl)
theorem ZlM (h1 : 0 ≤ a1 ∧ a1 ≤ 255) {L : List R_ii} {n : Nat} (hn : 1 ≤ n ∧ n ≤ 9) (hl : L.length = n) (hg : Good L) {f : Nat} {r : Zg} (hr : Z2 (Zf a0 a1 a2 100000) f (.h1m28 (L ++ [⟨2, ((n + 1 : Nat) : Int) * 1048576 + 18⟩]) (n + 1) (n + 1)) = some r) : ∀ d j, j + d = n → Z2 (Zf a0 a1 a2 100000) (f + d + 1) (.h2m28 L n j (((n + 1 : Nat) : Int) * 1048576 + 18) (n + 1)) = some r := by
 intro d
 induction d with
 | zero =>
  intro j hj
  refine (Zn (y := .h1m28 (L ++ [⟨2, ((n + 1 : Nat) : Int) * 1048576 + 18⟩]) (n + 1) (n + 1)) ?_).trans hr
  show Zaw a0 a1 a2 100000 L n j _ _ = _
  unfold Zaw
  exact Zc h1.1 (Zc h1.2 (Zc (by omega) (Zc (by omega) (Zc hl (Zc (by omega) (Zc rfl (Zc rfl (Zj (by omega) rfl))))))))
 | succ d ih =>
  intro j hj
  refine (Zn (n := f + d + 1) (y := .h2m28 L n (j + 1) (((n + 1 : Nat) : Int) * 1048576 + 18) (n + 1)) ?_).trans (ih (j + 1) (by omega))
  show Zaw a0 a1 a2 100000 L n j _ _ = _
  unfold Zaw
  have e0 : (L.getD j R_ii.z).a0 = 2 := by rw [hg j (by omega)]
  have e1 : (L.getD j R_ii.z).a1 = ((j : Int) + 1) * 1048576 + 18 := by rw [hg j (by omega)]
  exact Zc h1.1 (Zc h1.2 (Zc (by omega) (Zc (by omega) (Zc hl (Zc (by omega) (Zc rfl (Zc rfl (Zc (by omega) (Zj (by omega) (Zc (by omega) (Zc (by omega) (Zc (by omega) (Zc (by omega) (Zc (by omega) (Zc (by omega) (Zc (by omega) (Zc (by omega) rfl)))))))))))))))))
theorem ZlN (h1 : 0 ≤ a1 ∧ a1 ≤ 255) : ∀ (d n : Nat) (L : List R_ii), (n : Int) + (d : Int) = 1 + a1 % 10 → 1 ≤ n → L.length = n → Good L → Z2 (Zf a0 a1 a2 100000) (20 * d + 1) (.h1m28 L n n) = some .r0 := by
 intro d
 induction d with
 | zero =>
  intro n L hd hn hl hg
  refine Za4 ?_
  show Zag a0 a1 a2 100000 L n n = _
  unfold Zag
  exact Zc h1.1 (Zc h1.2 (Zc (by omega) (Zc (by omega) (Zc hl (Zc rfl (Zj (by omega) rfl))))))
 | succ d ih =>
  intro n L hd hn hl hg
  have hr := ih (n + 1) (L ++ [⟨2, ((n + 1 : Nat) : Int) * 1048576 + 18⟩]) (by omega) (by omega) (by simp [hl]) (ZaB hl hg)
  have hi := ZlM (a0 := a0) (a2 := a2) h1 ⟨hn, by omega⟩ hl hg hr n 0 (by omega)
  refine ZI (n := 20 * d + 1 + n + 1 + 1) (by omega) ?_
  refine (Zn (y := .h2m28 L n 0 (((n + 1 : Nat) : Int) * 1048576 + 18) (n + 1)) ?_).trans hi
  show Zag a0 a1 a2 100000 L n n = _
  unfold Zag
  exact Zc h1.1 (Zc h1.2 (Zc (by omega) (Zc (by omega) (Zc hl (Zc rfl (Zc (by omega) rfl))))))
theorem ZlO (h1 : 0 ≤ a1 ∧ a1 ≤ 255) : Z2 (Zf a0 a1 a2 100000) 100000 .h1m12 = some .r0 := by
 have h := ZlN (a0 := a0) (a2 := a2) h1 (a1 % 10).toNat 1 [⟨2, 1048594⟩] (by omega) (by omega) rfl ZaA
 refine ZI (n := 20 * (a1 % 10).toNat + 1 + 1 + 1) (by omega) ?_
 refine (Zn (y := .h2m12) ?_).trans ((Zn (y := .h1m28 [⟨2, 1048594⟩] 1 1) ?_).trans h)
 ·show ZaF a0 a1 a2 100000 = _
  unfold ZaF
  exact Zc h1.1 (Zc h1.2 rfl)
 ·show ZaL a0 a1 a2 100000 = _
  unfold ZaL
  exact Zc h1.1 (Zc h1.2 rfl)
theorem ZlP (h1 : 0 ≤ a1 ∧ a1 ≤ 255) {L : List R_ii} {n : Nat} (hn : 1 ≤ n ∧ n ≤ 9) (hl : L.length = n) (hg : Good L) {f : Nat} {r : Zg} (hr : Z2 (Zf a0 a1 a2 100000) f (.h1m29 (L ++ [⟨2, ((n + 1 : Nat) : Int) * 1048576 + 18⟩]) (n + 1) (n + 1)) = some r) : ∀ d j, j + d = n → Z2 (Zf a0 a1 a2 100000) (f + d + 1) (.h2m29 L n j (((n + 1 : Nat) : Int) * 1048576 + 18) (n + 1)) = some r := by
 intro d
 induction d with
 | zero =>
  intro j hj
  refine (Zn (y := .h1m29 (L ++ [⟨2, ((n + 1 : Nat) : Int) * 1048576 + 18⟩]) (n + 1) (n + 1)) ?_).trans hr
  show Zax a0 a1 a2 100000 L n j _ _ = _
  unfold Zax
  exact Zc h1.1 (Zc h1.2 (Zc (by omega) (Zc (by omega) (Zc hl (Zc (by omega) (Zc rfl (Zc rfl (Zj (by omega) rfl))))))))
 | succ d ih =>
  intro j hj
  refine (Zn (n := f + d + 1) (y := .h2m29 L n (j + 1) (((n + 1 : Nat) : Int) * 1048576 + 18) (n + 1)) ?_).trans (ih (j + 1) (by omega))
  show Zax a0 a1 a2 100000 L n j _ _ = _
  unfold Zax
  have e0 : (L.getD j R_ii.z).a0 = 2 := by rw [hg j (by omega)]
  have e1 : (L.getD j R_ii.z).a1 = ((j : Int) + 1) * 1048576 + 18 := by rw [hg j (by omega)]
  exact Zc h1.1 (Zc h1.2 (Zc (by omega) (Zc (by omega) (Zc hl (Zc (by omega) (Zc rfl (Zc rfl (Zc (by omega) (Zj (by omega) (Zc (by omega) (Zc (by omega) (Zc (by omega) (Zc (by omega) (Zc (by omega) (Zc (by omega) (Zc (by omega) (Zc (by omega) rfl)))))))))))))))))
theorem ZlQ (h1 : 0 ≤ a1 ∧ a1 ≤ 255) : ∀ (d n : Nat) (L : List R_ii), (n : Int) + (d : Int) = 1 + a1 % 10 → 1 ≤ n → L.length = n → Good L → Z2 (Zf a0 a1 a2 100000) (20 * d + 1) (.h1m29 L n n) = some .r0 := by
 intro d
 induction d with
 | zero =>
  intro n L hd hn hl hg
  refine Za4 ?_
  show Zah a0 a1 a2 100000 L n n = _
  unfold Zah
  exact Zc h1.1 (Zc h1.2 (Zc (by omega) (Zc (by omega) (Zc hl (Zc rfl (Zj (by omega) rfl))))))
 | succ d ih =>
  intro n L hd hn hl hg
  have hr := ih (n + 1) (L ++ [⟨2, ((n + 1 : Nat) : Int) * 1048576 + 18⟩]) (by omega) (by omega) (by simp [hl]) (ZaB hl hg)
  have hi := ZlP (a0 := a0) (a2 := a2) h1 ⟨hn, by omega⟩ hl hg hr n 0 (by omega)
  refine ZI (n := 20 * d + 1 + n + 1 + 1) (by omega) ?_
  refine (Zn (y := .h2m29 L n 0 (((n + 1 : Nat) : Int) * 1048576 + 18) (n + 1)) ?_).trans hi
  show Zah a0 a1 a2 100000 L n n = _
  unfold Zah
  exact Zc h1.1 (Zc h1.2 (Zc (by omega) (Zc (by omega) (Zc hl (Zc rfl (Zc (by omega) rfl))))))
theorem ZlR (h1 : 0 ≤ a1 ∧ a1 ≤ 255) : Z2 (Zf a0 a1 a2 100000) 100000 .h1m13 = some .r0 := by
 have h := ZlQ (a0 := a0) (a2 := a2) h1 (a1 % 10).toNat 1 [⟨2, 1048594⟩] (by omega) (by omega) rfl ZaA
 refine ZI (n := 20 * (a1 % 10).toNat + 1 + 1 + 1) (by omega) ?_
 refine (Zn (y := .h2m13) ?_).trans ((Zn (y := .h1m29 [⟨2, 1048594⟩] 1 1) ?_).trans h)
 ·show ZaG a0 a1 a2 100000 = _
  unfold ZaG
  exact Zc h1.1 (Zc h1.2 rfl)
 ·show ZaM a0 a1 a2 100000 = _
  unfold ZaM
  exact Zc h1.1 (Zc h1.2 rfl)
theorem ZlS (h1 : 0 ≤ a1 ∧ a1 ≤ 255) {L : List R_ii} {n : Nat} (hn : 1 ≤ n ∧ n ≤ 9) (hl : L.length = n) (hg : Good L) {f : Nat} {r : Zg} (hr : Z2 (Zf a0 a1 a2 100000) f (.h1m30 (L ++ [⟨2, ((n + 1 : Nat) : Int) * 1048576 + 18⟩]) (n + 1) (n + 1)) = some r) : ∀ d j, j + d = n → Z2 (Zf a0 a1 a2 100000) (f + d + 1) (.h2m30 L n j (((n + 1 : Nat) : Int) * 1048576 + 18) (n + 1)) = some r := by
 intro d
 induction d with
 | zero =>
  intro j hj
  refine (Zn (y := .h1m30 (L ++ [⟨2, ((n + 1 : Nat) : Int) * 1048576 + 18⟩]) (n + 1) (n + 1)) ?_).trans hr
  show Zay a0 a1 a2 100000 L n j _ _ = _
  unfold Zay
  exact Zc h1.1 (Zc h1.2 (Zc (by omega) (Zc (by omega) (Zc hl (Zc (by omega) (Zc rfl (Zc rfl (Zj (by omega) rfl))))))))
 | succ d ih =>
  intro j hj
  refine (Zn (n := f + d + 1) (y := .h2m30 L n (j + 1) (((n + 1 : Nat) : Int) * 1048576 + 18) (n + 1)) ?_).trans (ih (j + 1) (by omega))
  show Zay a0 a1 a2 100000 L n j _ _ = _
  unfold Zay
  have e0 : (L.getD j R_ii.z).a0 = 2 := by rw [hg j (by omega)]
  have e1 : (L.getD j R_ii.z).a1 = ((j : Int) + 1) * 1048576 + 18 := by rw [hg j (by omega)]
  exact Zc h1.1 (Zc h1.2 (Zc (by omega) (Zc (by omega) (Zc hl (Zc (by omega) (Zc rfl (Zc rfl (Zc (by omega) (Zj (by omega) (Zc (by omega) (Zc (by omega) (Zc (by omega) (Zc (by omega) (Zc (by omega) (Zc (by omega) (Zc (by omega) (Zc (by omega) rfl)))))))))))))))))
theorem ZlT (h1 : 0 ≤ a1 ∧ a1 ≤ 255) : ∀ (d n : Nat) (L : List R_ii), (n : Int) + (d : Int) = 1 + a1 % 10 → 1 ≤ n → L.length = n → Good L → Z2 (Zf a0 a1 a2 100000) (20 * d + 1) (.h1m30 L n n) = some .r0 := by
 intro d
 induction d with
 | zero =>
  intro n L hd hn hl hg
  refine Za4 ?_
  show Zai a0 a1 a2 100000 L n n = _
  unfold Zai
  exact Zc h1.1 (Zc h1.2 (Zc (by omega) (Zc (by omega) (Zc hl (Zc rfl (Zj (by omega) rfl))))))
 | succ d ih =>
  intro n L hd hn hl hg
  have hr := ih (n + 1) (L ++ [⟨2, ((n + 1 : Nat) : Int) * 1048576 + 18⟩]) (by omega) (by omega) (by simp [hl]) (ZaB hl hg)
  have hi := ZlS (a0 := a0) (a2 := a2) h1 ⟨hn, by omega⟩ hl hg hr n 0 (by omega)
  refine ZI (n := 20 * d + 1 + n + 1 + 1) (by omega) ?_
  refine (Zn (y := .h2m30 L n 0 (((n + 1 : Nat) : Int) * 1048576 + 18) (n + 1)) ?_).trans hi
  show Zai a0 a1 a2 100000 L n n = _
  unfold Zai
  exact Zc h1.1 (Zc h1.2 (Zc (by omega) (Zc (by omega) (Zc hl (Zc rfl (Zc (by omega) rfl))))))
theorem ZlU (h1 : 0 ≤ a1 ∧ a1 ≤ 255) : Z2 (Zf a0 a1 a2 100000) 100000 .h1m14 = some .r0 := by
 have h := ZlT (a0 := a0) (a2 := a2) h1 (a1 % 10).toNat 1 [⟨2, 1048594⟩] (by omega) (by omega) rfl ZaA
 refine ZI (n := 20 * (a1 % 10).toNat + 1 + 1 + 1) (by omega) ?_
 refine (Zn (y := .h2m14) ?_).trans ((Zn (y := .h1m30 [⟨2, 1048594⟩] 1 1) ?_).trans h)
 ·show ZaH a0 a1 a2 100000 = _
  unfold ZaH
  exact Zc h1.1 (Zc h1.2 rfl)
 ·show ZaN a0 a1 a2 100000 = _
  unfold ZaN
  exact Zc h1.1 (Zc h1.2 rfl)
theorem ZlV (h1 : 0 ≤ a1 ∧ a1 ≤ 255) {L : List R_ii} {n : Nat} (hn : 1 ≤ n ∧ n ≤ 9) (hl : L.length = n) (hg : Good L) {f : Nat} {r : Zg} (hr : Z2 (Zf a0 a1 a2 100000) f (.h1m31 (L ++ [⟨2, ((n + 1 : Nat) : Int) * 1048576 + 18⟩]) (n + 1) (n + 1)) = some r) : ∀ d j, j + d = n → Z2 (Zf a0 a1 a2 100000) (f + d + 1) (.h2m31 L n j (((n + 1 : Nat) : Int) * 1048576 + 18) (n + 1)) = some r := by
 intro d
 induction d with
 | zero =>
  intro j hj
  refine (Zn (y := .h1m31 (L ++ [⟨2, ((n + 1 : Nat) : Int) * 1048576 + 18⟩]) (n + 1) (n + 1)) ?_).trans hr
  show Zaz a0 a1 a2 100000 L n j _ _ = _
  unfold Zaz
  exact Zc h1.1 (Zc h1.2 (Zc (by omega) (Zc (by omega) (Zc hl (Zc (by omega) (Zc rfl (Zc rfl (Zj (by omega) rfl))))))))
 | succ d ih =>
  intro j hj
  refine (Zn (n := f + d + 1) (y := .h2m31 L n (j + 1) (((n + 1 : Nat) : Int) * 1048576 + 18) (n + 1)) ?_).trans (ih (j + 1) (by omega))
  show Zaz a0 a1 a2 100000 L n j _ _ = _
  unfold Zaz
  have e0 : (L.getD j R_ii.z).a0 = 2 := by rw [hg j (by omega)]
  have e1 : (L.getD j R_ii.z).a1 = ((j : Int) + 1) * 1048576 + 18 := by rw [hg j (by omega)]
  exact Zc h1.1 (Zc h1.2 (Zc (by omega) (Zc (by omega) (Zc hl (Zc (by omega) (Zc rfl (Zc rfl (Zc (by omega) (Zj (by omega) (Zc (by omega) (Zc (by omega) (Zc (by omega) (Zc (by omega) (Zc (by omega) (Zc (by omega) (Zc (by omega) (Zc (by omega) rfl)))))))))))))))))
theorem ZlW (h1 : 0 ≤ a1 ∧ a1 ≤ 255) : ∀ (d n : Nat) (L : List R_ii), (n : Int) + (d : Int) = 1 + a1 % 10 → 1 ≤ n → L.length = n → Good L → Z2 (Zf a0 a1 a2 100000) (20 * d + 1) (.h1m31 L n n) = some .r0 := by
 intro d
 induction d with
 | zero =>
  intro n L hd hn hl hg
  refine Za4 ?_
  show Zaj a0 a1 a2 100000 L n n = _
  unfold Zaj
  exact Zc h1.1 (Zc h1.2 (Zc (by omega) (Zc (by omega) (Zc hl (Zc rfl (Zj (by omega) rfl))))))
 | succ d ih =>
  intro n L hd hn hl hg
  have hr := ih (n + 1) (L ++ [⟨2, ((n + 1 : Nat) : Int) * 1048576 + 18⟩]) (by omega) (by omega) (by simp [hl]) (ZaB hl hg)
  have hi := ZlV (a0 := a0) (a2 := a2) h1 ⟨hn, by omega⟩ hl hg hr n 0 (by omega)
  refine ZI (n := 20 * d + 1 + n + 1 + 1) (by omega) ?_
  refine (Zn (y := .h2m31 L n 0 (((n + 1 : Nat) : Int) * 1048576 + 18) (n + 1)) ?_).trans hi
  show Zaj a0 a1 a2 100000 L n n = _
  unfold Zaj
  exact Zc h1.1 (Zc h1.2 (Zc (by omega) (Zc (by omega) (Zc hl (Zc rfl (Zc (by omega) rfl))))))
theorem ZlX (h1 : 0 ≤ a1 ∧ a1 ≤ 255) : Z2 (Zf a0 a1 a2 100000) 100000 .h1m15 = some .r0 := by
 have h := ZlW (a0 := a0) (a2 := a2) h1 (a1 % 10).toNat 1 [⟨2, 1048594⟩] (by omega) (by omega) rfl ZaA
 refine ZI (n := 20 * (a1 % 10).toNat + 1 + 1 + 1) (by omega) ?_
 refine (Zn (y := .h2m15) ?_).trans ((Zn (y := .h1m31 [⟨2, 1048594⟩] 1 1) ?_).trans h)
 ·show ZaI a0 a1 a2 100000 = _
  unfold ZaI
  exact Zc h1.1 (Zc h1.2 rfl)
 ·show ZaO a0 a1 a2 100000 = _
  unfold ZaO
  exact Zc h1.1 (Zc h1.2 rfl)
theorem in0 (h0 : 0 ≤ a0 ∧ a0 ≤ 255) (h1 : 0 ≤ a1 ∧ a1 ≤ 255) (hm : a0 % 16 = 0) : Zq a0 a1 a2 100000 = some (.inl .h1m0) := by
 unfold Zq
 exact Zc h0.1 (Zc h0.2 (Zc h1.1 (Zc h1.2 (Zc hm rfl))))
theorem in1 (h0 : 0 ≤ a0 ∧ a0 ≤ 255) (h1 : 0 ≤ a1 ∧ a1 ≤ 255) (hm : a0 % 16 = 1) : Zq a0 a1 a2 100000 = some (.inl .h1m1) := by
 unfold Zq
 exact Zc h0.1 (Zc h0.2 (Zc h1.1 (Zc h1.2 (Zj (by rw [hm]; decide) (Zc hm rfl)))))
theorem in2 (h0 : 0 ≤ a0 ∧ a0 ≤ 255) (h1 : 0 ≤ a1 ∧ a1 ≤ 255) (hm : a0 % 16 = 2) : Zq a0 a1 a2 100000 = some (.inl .h1m2) := by
 unfold Zq
 exact Zc h0.1 (Zc h0.2 (Zc h1.1 (Zc h1.2 (Zj (by rw [hm]; decide) (Zj (by rw [hm]; decide) (Zc hm rfl))))))
theorem in3 (h0 : 0 ≤ a0 ∧ a0 ≤ 255) (h1 : 0 ≤ a1 ∧ a1 ≤ 255) (hm : a0 % 16 = 3) : Zq a0 a1 a2 100000 = some (.inl .h1m3) := by
 unfold Zq
 exact Zc h0.1 (Zc h0.2 (Zc h1.1 (Zc h1.2 (Zj (by rw [hm]; decide) (Zj (by rw [hm]; decide) (Zj (by rw [hm]; decide) (Zc hm rfl)))))))
theorem in4 (h0 : 0 ≤ a0 ∧ a0 ≤ 255) (h1 : 0 ≤ a1 ∧ a1 ≤ 255) (hm : a0 % 16 = 4) : Zq a0 a1 a2 100000 = some (.inl .h1m4) := by
 unfold Zq
 exact Zc h0.1 (Zc h0.2 (Zc h1.1 (Zc h1.2 (Zj (by rw [hm]; decide) (Zj (by rw [hm]; decide) (Zj (by rw [hm]; decide) (Zj (by rw [hm]; decide) (Zc hm rfl))))))))
theorem in5 (h0 : 0 ≤ a0 ∧ a0 ≤ 255) (h1 : 0 ≤ a1 ∧ a1 ≤ 255) (hm : a0 % 16 = 5) : Zq a0 a1 a2 100000 = some (.inl .h1m5) := by
 unfold Zq
 exact Zc h0.1 (Zc h0.2 (Zc h1.1 (Zc h1.2 (Zj (by rw [hm]; decide) (Zj (by rw [hm]; decide) (Zj (by rw [hm]; decide) (Zj (by rw [hm]; decide) (Zj (by rw [hm]; decide) (Zc hm rfl)))))))))
theorem in6 (h0 : 0 ≤ a0 ∧ a0 ≤ 255) (h1 : 0 ≤ a1 ∧ a1 ≤ 255) (hm : a0 % 16 = 6) : Zq a0 a1 a2 100000 = some (.inl .h1m6) := by
 unfold Zq
 exact Zc h0.1 (Zc h0.2 (Zc h1.1 (Zc h1.2 (Zj (by rw [hm]; decide) (Zj (by rw [hm]; decide) (Zj (by rw [hm]; decide) (Zj (by rw [hm]; decide) (Zj (by rw [hm]; decide) (Zj (by rw [hm]; decide) (Zc hm rfl))))))))))
theorem in7 (h0 : 0 ≤ a0 ∧ a0 ≤ 255) (h1 : 0 ≤ a1 ∧ a1 ≤ 255) (hm : a0 % 16 = 7) : Zq a0 a1 a2 100000 = some (.inl .h1m7) := by
 unfold Zq
 exact Zc h0.1 (Zc h0.2 (Zc h1.1 (Zc h1.2 (Zj (by rw [hm]; decide) (Zj (by rw [hm]; decide) (Zj (by rw [hm]; decide) (Zj (by rw [hm]; decide) (Zj (by rw [hm]; decide) (Zj (by rw [hm]; decide) (Zj (by rw [hm]; decide) (Zc hm rfl)))))))))))
theorem in8 (h0 : 0 ≤ a0 ∧ a0 ≤ 255) (h1 : 0 ≤ a1 ∧ a1 ≤ 255) (hm : a0 % 16 = 8) : Zq a0 a1 a2 100000 = some (.inl .h1m8) := by
 unfold Zq
 exact Zc h0.1 (Zc h0.2 (Zc h1.1 (Zc h1.2 (Zj (by rw [hm]; decide) (Zj (by rw [hm]; decide) (Zj (by rw [hm]; decide) (Zj (by rw [hm]; decide) (Zj (by rw [hm]; decide) (Zj (by rw [hm]; decide) (Zj (by rw [hm]; decide) (Zj (by rw [hm]; decide) (Zc hm rfl))))))))))))
theorem in9 (h0 : 0 ≤ a0 ∧ a0 ≤ 255) (h1 : 0 ≤ a1 ∧ a1 ≤ 255) (hm : a0 % 16 = 9) : Zq a0 a1 a2 100000 = some (.inl .h1m9) := by
 unfold Zq
 exact Zc h0.1 (Zc h0.2 (Zc h1.1 (Zc h1.2 (Zj (by rw [hm]; decide) (Zj (by rw [hm]; decide) (Zj (by rw [hm]; decide) (Zj (by rw [hm]; decide) (Zj (by rw [hm]; decide) (Zj (by rw [hm]; decide) (Zj (by rw [hm]; decide) (Zj (by rw [hm]; decide) (Zj (by rw [hm]; decide) (Zc hm rfl)))))))))))))
theorem in10 (h0 : 0 ≤ a0 ∧ a0 ≤ 255) (h1 : 0 ≤ a1 ∧ a1 ≤ 255) (hm : a0 % 16 = 10) : Zq a0 a1 a2 100000 = some (.inl .h1m10) := by
 unfold Zq
 exact Zc h0.1 (Zc h0.2 (Zc h1.1 (Zc h1.2 (Zj (by rw [hm]; decide) (Zj (by rw [hm]; decide) (Zj (by rw [hm]; decide) (Zj (by rw [hm]; decide) (Zj (by rw [hm]; decide) (Zj (by rw [hm]; decide) (Zj (by rw [hm]; decide) (Zj (by rw [hm]; decide) (Zj (by rw [hm]; decide) (Zj (by rw [hm]; decide) (Zc hm rfl))))))))))))))
theorem in11 (h0 : 0 ≤ a0 ∧ a0 ≤ 255) (h1 : 0 ≤ a1 ∧ a1 ≤ 255) (hm : a0 % 16 = 11) : Zq a0 a1 a2 100000 = some (.inl .h1m11) := by
 unfold Zq
 exact Zc h0.1 (Zc h0.2 (Zc h1.1 (Zc h1.2 (Zj (by rw [hm]; decide) (Zj (by rw [hm]; decide) (Zj (by rw [hm]; decide) (Zj (by rw [hm]; decide) (Zj (by rw [hm]; decide) (Zj (by rw [hm]; decide) (Zj (by rw [hm]; decide) (Zj (by rw [hm]; decide) (Zj (by rw [hm]; decide) (Zj (by rw [hm]; decide) (Zj (by rw [hm]; decide) (Zc hm rfl)))))))))))))))
theorem in12 (h0 : 0 ≤ a0 ∧ a0 ≤ 255) (h1 : 0 ≤ a1 ∧ a1 ≤ 255) (hm : a0 % 16 = 12) : Zq a0 a1 a2 100000 = some (.inl .h1m12) := by
 unfold Zq
 exact Zc h0.1 (Zc h0.2 (Zc h1.1 (Zc h1.2 (Zj (by rw [hm]; decide) (Zj (by rw [hm]; decide) (Zj (by rw [hm]; decide) (Zj (by rw [hm]; decide) (Zj (by rw [hm]; decide) (Zj (by rw [hm]; decide) (Zj (by rw [hm]; decide) (Zj (by rw [hm]; decide) (Zj (by rw [hm]; decide) (Zj (by rw [hm]; decide) (Zj (by rw [hm]; decide) (Zj (by rw [hm]; decide) (Zc hm rfl))))))))))))))))
theorem in13 (h0 : 0 ≤ a0 ∧ a0 ≤ 255) (h1 : 0 ≤ a1 ∧ a1 ≤ 255) (hm : a0 % 16 = 13) : Zq a0 a1 a2 100000 = some (.inl .h1m13) := by
 unfold Zq
 exact Zc h0.1 (Zc h0.2 (Zc h1.1 (Zc h1.2 (Zj (by rw [hm]; decide) (Zj (by rw [hm]; decide) (Zj (by rw [hm]; decide) (Zj (by rw [hm]; decide) (Zj (by rw [hm]; decide) (Zj (by rw [hm]; decide) (Zj (by rw [hm]; decide) (Zj (by rw [hm]; decide) (Zj (by rw [hm]; decide) (Zj (by rw [hm]; decide) (Zj (by rw [hm]; decide) (Zj (by rw [hm]; decide) (Zj (by rw [hm]; decide) (Zc hm rfl)))))))))))))))))
theorem in14 (h0 : 0 ≤ a0 ∧ a0 ≤ 255) (h1 : 0 ≤ a1 ∧ a1 ≤ 255) (hm : a0 % 16 = 14) : Zq a0 a1 a2 100000 = some (.inl .h1m14) := by
 unfold Zq
 exact Zc h0.1 (Zc h0.2 (Zc h1.1 (Zc h1.2 (Zj (by rw [hm]; decide) (Zj (by rw [hm]; decide) (Zj (by rw [hm]; decide) (Zj (by rw [hm]; decide) (Zj (by rw [hm]; decide) (Zj (by rw [hm]; decide) (Zj (by rw [hm]; decide) (Zj (by rw [hm]; decide) (Zj (by rw [hm]; decide) (Zj (by rw [hm]; decide) (Zj (by rw [hm]; decide) (Zj (by rw [hm]; decide) (Zj (by rw [hm]; decide) (Zj (by rw [hm]; decide) (Zc hm rfl))))))))))))))))))
theorem in15 (h0 : 0 ≤ a0 ∧ a0 ≤ 255) (h1 : 0 ≤ a1 ∧ a1 ≤ 255) (hm : a0 % 16 = 15) : Zq a0 a1 a2 100000 = some (.inl .h1m15) := by
 unfold Zq
 exact Zc h0.1 (Zc h0.2 (Zc h1.1 (Zc h1.2 (Zj (by rw [hm]; decide) (Zj (by rw [hm]; decide) (Zj (by rw [hm]; decide) (Zj (by rw [hm]; decide) (Zj (by rw [hm]; decide) (Zj (by rw [hm]; decide) (Zj (by rw [hm]; decide) (Zj (by rw [hm]; decide) (Zj (by rw [hm]; decide) (Zj (by rw [hm]; decide) (Zj (by rw [hm]; decide) (Zj (by rw [hm]; decide) (Zj (by rw [hm]; decide) (Zj (by rw [hm]; decide) (Zj (by rw [hm]; decide) (rfl)))))))))))))))))))
end
theorem runs (a0 a1 a2 : Int) (h0 : 0 ≤ a0 ∧ a0 ≤ 255) (h1 : 0 ≤ a1 ∧ a1 ≤ 255) : ZcI a0 a1 a2 100000 = some .r0 := by
 have hc : a0 % 16 = 0 ∨ a0 % 16 = 1 ∨ a0 % 16 = 2 ∨ a0 % 16 = 3 ∨ a0 % 16 = 4 ∨ a0 % 16 = 5 ∨ a0 % 16 = 6 ∨ a0 % 16 = 7 ∨ a0 % 16 = 8 ∨ a0 % 16 = 9 ∨ a0 % 16 = 10 ∨ a0 % 16 = 11 ∨ a0 % 16 = 12 ∨ a0 % 16 = 13 ∨ a0 % 16 = 14 ∨ a0 % 16 = 15 := by omega
 unfold ZcI
 rcases hc with hc | hc | hc | hc | hc | hc | hc | hc | hc | hc | hc | hc | hc | hc | hc | hc
 ·exact (Zbw (in0 h0 h1 hc)).trans (Zmu h1)
 ·exact (Zbw (in1 h0 h1 hc)).trans (Zmx h1)
 ·exact (Zbw (in2 h0 h1 hc)).trans (Zm0 h1)
 ·exact (Zbw (in3 h0 h1 hc)).trans (Zm3 h1)
 ·exact (Zbw (in4 h0 h1 hc)).trans (Zm6 h1)
 ·exact (Zbw (in5 h0 h1 hc)).trans (Zm9 h1)
 ·exact (Zbw (in6 h0 h1 hc)).trans (ZmC h1)
 ·exact (Zbw (in7 h0 h1 hc)).trans (ZmF h1)
 ·exact (Zbw (in8 h0 h1 hc)).trans (ZmI h1)
 ·exact (Zbw (in9 h0 h1 hc)).trans (ZmL h1)
 ·exact (Zbw (in10 h0 h1 hc)).trans (ZlI h1)
 ·exact (Zbw (in11 h0 h1 hc)).trans (ZlL h1)
 ·exact (Zbw (in12 h0 h1 hc)).trans (ZlO h1)
 ·exact (Zbw (in13 h0 h1 hc)).trans (ZlR h1)
 ·exact (Zbw (in14 h0 h1 hc)).trans (ZlU h1)
 ·exact (Zbw (in15 h0 h1 hc)).trans (ZlX h1)
end Hn
end Ev
end Go.Proofs.Ytkhbehgikhamdaa
/- A region that draws its order, whose first operations only read (and make memory in calls), and whose last ones, in a forced order among themselves, make and write new memory: but these may come up early. -/
namespace Go.Proofs.Ytkhbehgikhamdaa
open Go.RowKit

section
variable {P : Program}

def Calm (P : Program) (W : World) (o : Oper) (a : Act) (v : Value) : Prop :=
 ∀ w, Below W.heap.size W w → o.quietAt P a (fun w' => Below w.heap.size w w') w v

def YieldsC (P : Program) (ops : Array Oper) (W : World) (o : Oper) (v : Value) (a : Act) : Prop :=
 (Region.wanted o (yielded ops a.tmps) = true ∧ Calm P W o a v) ∨ (Region.wanted o (yielded ops a.tmps) = false ∧ v = undef)
theorem ZhZ {a b c : World} (h : Below a.heap.size a b) (k : Below b.heap.size b c) : Below a.heap.size a c := h.trans (k.mono h.size)

def Closed (md : Region.Mode) (ops : Array Oper) (listed : Array Bool) : Prop :=
 ∀ j oj, ops[j]? = some oj → listed.getD j false = true → ∀ e ∈ oj.after, Region.binds md e = true → listed.getD e.on false = true
def Zjf (md : Region.Mode) (ops : Array Oper) : Nat → Nat → Nat → Bool
 | 0, _, _ => false
 | f + 1, t, i => Region.waitsFor md ops t i || (List.range ops.size).any fun k => Region.waitsFor md ops t k && Zjf md ops f k i
theorem Closed.waits {md : Region.Mode} {ops : Array Oper} {listed : Array Bool} (h : Closed md ops listed) : ∀ (f t i : Nat), listed.getD t false = true → Zjf md ops f t i = true → listed.getD i false = true
 | 0, _, _, _, hw => by cases hw
 | f + 1, t, i, ht, hw => by
  simp only [Zjf, Bool.or_eq_true, List.any_eq_true, Bool.and_eq_true] at hw
  rcases hw with hw | ⟨k, _, hw, hr⟩
  ·obtain ⟨o, ho, e, he, hb, rfl⟩ := Region.waitsFor_spec hw
   exact h t o ho ht e he hb
  ·obtain ⟨o, ho, e, he, hb, rfl⟩ := Region.waitsFor_spec hw
   exact h.waits f e.on i (h t o ho ht e he hb) hr

theorem YieldsC.wpOp {ops : Array Oper} {W : World} {i : Nat} {o : Oper} {v : Value} {a : Act} {w : World} (hi : ops[i]? = some o) (hy : YieldsC P ops W o v a) (hb : Below W.heap.size W w)
  {K : Act → World → Prop} {Q : Exit → Act → World → Prop} (h : ∀ w', Below w.heap.size w w' → K (a.put o.dst v) w') : wpOp P ops Q i K a w := by
 unfold Go.wpOp
 simp only [hi]
 rcases hy with ⟨hw, hv⟩ | ⟨hw, rfl⟩
 ·simp only [hw, if_true]
  exact .inl (Oper.wp_of_quiet (C := fun w' => Below w.heap.size w w') (K := fun a' => a' = a.put o.dst v) (Below.refl _ _) (fun a' w' hw' ha => by subst ha; exact h w' hw')
   ⟨v, fun w1 hw1 => by
    have h1 := hv w1 (ZhZ hb hw1)
    unfold Oper.quietAt at h1 ⊢
    generalize (execOp a.eval o).run P w1 = r at *
    cases r with
    | ok n w' =>
     cases n <;> simp only [Oper.quietUpon] at h1 ⊢
     case value u => exact h1
     case skip => exact h1
     case enter f args => exact ⟨h1.1, h1.2.mono fun e w2 ⟨he, hb2⟩ => ⟨he, ZhZ hw1 hb2⟩⟩
    | halt x w' => simp only [Oper.quietUpon] at h1, rfl⟩)
 ·simp only [hw, Bool.false_eq_true, if_false]
  exact h w (Below.refl _ _)

end
end Go.Proofs.Ytkhbehgikhamdaa
/- The law HeapNever, for every input. -/
namespace Go.Proofs.Ytkhbehgikhamdaa
open Go.ChangeShapes Go.WideShapes Go.ChangeAt Go.RowKit
namespace Ev
namespace HeapNever
set_option linter.unusedVariables false
theorem own : ownKnob Try.prog.godebug = none := by kernel_rfl
set_option maxRecDepth 100000 in
theorem lifted (os : Os) (started : os.Started) (H : Type) (enc : TypeId × Value → H) :
  ReturnsInHanded {} Try.checked os 3 .any (Rows.heapNeverSpec.pre6 enc Try.prog Try.f3 Rows.heapNeverRow.domain false) (Rows.heapNeverSpec.post enc Try.prog Try.f3 false true false false) := by
 refine ZkI (C := Try.checked) own started (by kernel_rfl) Try.func3 rfl rfl Try.underlying4 ?_ (by kernel_rfl) (by kernel_rfl)
  (ChangeSpec.witness6 (enc := enc) (C := Try.checked) false ⟨#[], #[.int .u8 0, .int .u8 0, .int .i64 0], []⟩ 8 (by kernel_rfl) (by kernel_rfl) (by kernel_rfl) (by kernel_rfl)) ?_
 ·intro ds hlen
  have hlen : ds.length = 3 := hlen.trans (by kernel_rfl)
  match ds, hlen with
  | [_, _, _], _ => rfl
 intro W base args ds p hval hA hlt hsz
 rw [Try.params3] at hA hval
 obtain ⟨v0, vs0, d0, ds0, p0, q0, hargs, rfl, rfl, h0, r0⟩ := trodAll_cons hA
 obtain ⟨v1, vs1, d1, ds1, p1, q1, rfl, rfl, rfl, h1, r1⟩ := trodAll_cons r0
 obtain ⟨v2, vs2, d2, ds2, p2, q2, rfl, rfl, rfl, h2, r2⟩ := trodAll_cons r1
 obtain ⟨rfl, rfl, rfl⟩ := trodAll_nil r2
 obtain rfl : args = #[v0, v1, v2] := by cases args; simp_all
 obtain ⟨z0, rfl, w0⟩ := Zf7 (k := .u8) (by kernel_rfl) (Zf8 (by kernel_rfl) (hval 0 5 v0 rfl rfl))
 obtain ⟨z1, rfl, w1⟩ := Zf7 (k := .u8) (by kernel_rfl) (Zf8 (by kernel_rfl) (hval 1 5 v1 rfl rfl))
 obtain ⟨z2, rfl, w2⟩ := Zf7 (k := .i64) (by kernel_rfl) (Zf8 (by kernel_rfl) (hval 2 3 v2 rfl rfl))
 exact Zmo (ZfH z0 z1 z2 100000 _ (Hn.runs z0 z1 z2 ⟨w0.1, w0.2⟩ ⟨w1.1, w1.2⟩)) (ZgV (.atom rfl) (ZgV (.atom rfl) (ZgV (.atom rfl) Zl9))) rfl
theorem over : Rows.heapNeverRow.holds Try.pinned (OpenSpec.ofChange Rows.heapNeverSpec) :=
 OpenClaim.holds_of_wide 3 Try.f3 rfl rfl rfl rfl rfl rfl rfl ⟨rfl, rfl, rfl, rfl, rfl⟩ rfl rfl rfl rfl rfl (by kernel_rfl) Try.func3 (by kernel_rfl)
  (of_decide_eq_true (by kernel_rfl)) (by unfold Func.isWrapper; first | (rw [if_pos (by decide +kernel)]; kernel_rfl) | (rw [if_neg (by decide +kernel)]; exact ⟨rfl, rfl⟩))
  (fun os started H enc _ => lifted os started H enc)
theorem proved : Rows.HeapNeverSaid := over
#print axioms proved
end HeapNever
end Ev
end Go.Proofs.Ytkhbehgikhamdaa
