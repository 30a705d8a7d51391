/- Calls do what the plain functions say. -/
import Derived.Test.YtpgbennpiihajaaCfq2
namespace Go.Proofs.Ytpgbennpiihajaa
open Go.RowKit
namespace Ev
set_option linter.unusedVariables false
set_option maxRecDepth 100000
theorem ref12_step_fx (a0 a1 a2 a3 a4 : Int) (N : Nat) : Fx Try.prog ext_Cf Try.f27 [] #[vn, Value.agg #[vi a0, vi a1, vi a2, vi a3], vi a4] (ref12_stepV a0 a1 a2 a3 a4) (ref12_stepPo a0 a1 a2 a3 a4) (ref12_step a0 a1 a2 a3 a4 N) := by
 unfold ref12_step
 refine fx_ite (fun g0 => ?_) (fun g0 => ?_)
 ·
  exact fx_fin (r := (.r0 : ref12_stepR)) (fu := 4000) (orc := (orcw [(0, true)] [] [] [] [])) (live := [3]) (u := Value.tuple #[vs 3 0 1 1, Value.bool true]) (bl := [some (.cells [vi a4, vi (0 : Int)] 58)]) (ob := [((a0 == (15 : Int)), true)]) (by kernel_rfl) (oT obs_nil) rfl (by decide) (by rfl) rr ⟨(same_cells (E := E_ii) _ (L := ([(⟨a4, (0 : Int)⟩ : R_ii)] : List R_ii)) _ (show ([vi a4, vi (0 : Int)] : List Value) = rowV E_ii ([(⟨a4, (0 : Int)⟩ : R_ii)] : List R_ii) from rfl)), trivial⟩
 ·
  refine fx_ite (fun g1 => ?_) (fun g1 => ?_)
  ·
   exact fx_fin (r := (.r1 (false) : ref12_stepR)) (fu := 4000) (orc := (orcw [(0, false), (1, true)] [] [] [] [])) (live := []) (u := Value.tuple #[vn, Value.bool false]) (bl := []) (ob := [((a0 == (16 : Int)), true), ((a0 == (15 : Int)), false)]) (by kernel_rfl) (oT <| oF obs_nil) rfl (by decide) (by rfl) rr trivial
  ·
   refine fx_ite (fun g2 => ?_) (fun g2 => ?_)
   ·
    exact fx_fin (r := (.r1 (false) : ref12_stepR)) (fu := 4000) (orc := (orcw [(0, false), (1, false), (2, true)] [] [] [] [])) (live := []) (u := Value.tuple #[vn, Value.bool false]) (bl := []) (ob := [((a0 == (17 : Int)), true), ((a0 == (16 : Int)), false), ((a0 == (15 : Int)), false)]) (by kernel_rfl) (oT <| oF <| oF obs_nil) rfl (by decide) (by rfl) rr trivial
   ·
    refine fx_ite (fun g3 => ?_) (fun g3 => ?_)
    ·
     exact fx_fin (r := (.r1 (false) : ref12_stepR)) (fu := 4000) (orc := (orcw [(0, false), (1, false), (2, false), (3, true)] [] [] [] [])) (live := []) (u := Value.tuple #[vn, Value.bool false]) (bl := []) (ob := [((a0 == (18 : Int)), true), ((a0 == (17 : Int)), false), ((a0 == (16 : Int)), false), ((a0 == (15 : Int)), false)]) (by kernel_rfl) (oT <| oF <| oF <| oF obs_nil) rfl (by decide) (by rfl) rr trivial
    ·
     by_cases g4 : a0 = (20 : Int)
     ·
      exact fx_fin (r := (.r1 (true) : ref12_stepR)) (fu := 4000) (orc := (orcw [(0, false), (1, false), (2, false), (3, false), (4, true)] [] [] [] [])) (live := []) (u := Value.tuple #[vn, Value.bool true]) (bl := []) (ob := [((a0 == (20 : Int)), true), ((a0 == (18 : Int)), false), ((a0 == (17 : Int)), false), ((a0 == (16 : Int)), false), ((a0 == (15 : Int)), false)]) (by kernel_rfl) (oT <| oF <| oF <| oF <| oF obs_nil) rfl (by decide) (by rfl) rr trivial
     ·
      exact fx_fin (r := (.r1 (true) : ref12_stepR)) (fu := 4000) (orc := (orcw [(0, false), (1, false), (2, false), (3, false), (4, false)] [] [] [] [])) (live := []) (u := Value.tuple #[vn, Value.bool true]) (bl := []) (ob := [((a0 == (20 : Int)), false), ((a0 == (18 : Int)), false), ((a0 == (17 : Int)), false), ((a0 == (16 : Int)), false), ((a0 == (15 : Int)), false)]) (by kernel_rfl) (oF <| oF <| oF <| oF <| oF obs_nil) rfl (by decide) (by rfl) rr trivial

theorem ref12_step_spec (a0 a1 a2 a3 a4 : Int) (N : Nat) (r : ref12_stepR) (h : ref12_step a0 a1 a2 a3 a4 N = some r) : LSpec Try.prog 27 #[vn, Value.agg #[vi a0, vi a1, vi a2, vi a3], vi a4] [] (ref12_stepV a0 a1 a2 a3 a4 r) (ref12_stepPo a0 a1 a2 a3 a4 r) :=
 fx_spec fit_Cf Try.func27 (by kernel_rfl) (by kernel_rfl) (fun r => by cases r <;> exact le_far _ rfl) (ref12_step_fx a0 a1 a2 a3 a4 N) h

noncomputable def ref12_stepT0 (a0 a1 a2 a3 a4 : Int) (n : Nat) : Told := .call [] (Value.tuple #[vs n 0 1 1, Value.bool true]) [(n, some (.cells (rowV E_ii ([(⟨a4, (0 : Int)⟩ : R_ii)] : List R_ii)) 58))] 1
def ref12_stepP0 (A : Array Value) (a0 a1 a2 a3 a4 : Int) (n : Nat) : Prop := CallSpec Try.prog 27 A [] (Value.tuple #[vs n 0 1 1, Value.bool true]) [(n, some (.cells (rowV E_ii ([(⟨a4, (0 : Int)⟩ : R_ii)] : List R_ii)) 58))] n 1

theorem ref12_stepC0 (A : Array Value) (a0 a1 a2 a3 a4 : Int) (N : Nat) (h : ref12_step a0 a1 a2 a3 a4 N = some (.r0)) (n : Nat) (hA : A = #[vn, Value.agg #[vi a0, vi a1, vi a2, vi a3], vi a4]) (hnd : ([] : List Nat).Nodup) (hlt : ∀ k ∈ ([] : List Nat), k < n) : ref12_stepP0 A a0 a1 a2 a3 a4  n :=
 cs_args hA (LSpec.callL (show LSpec Try.prog 27 #[vn, Value.agg #[vi a0, vi a1, vi a2, vi a3], vi a4] [] (Value.tuple #[vs 0 0 1 1, Value.bool true]) [some (.cells (rowV E_ii ([(⟨a4, (0 : Int)⟩ : R_ii)] : List R_ii)) 58)] from ref12_step_spec a0 a1 a2 a3 a4 N _ h) [] n [0] rfl hnd hlt (show 0 ≤ 1 from by decide) (show ∀ j ∈ ([0] : List Nat), j < 1 from by decide) (by rfl) trivial (by rfl) ⟨(under_row _ _ _), trivial⟩ ⟨(by decide), trivial⟩ rfl rfl rfl rfl (cons_eq (pair_eq rfl (some_eq (renO_row _ _ _))) rfl))

noncomputable def ref12_stepT1 (a0 a1 a2 a3 a4 : Int) (w0 : Bool) (n : Nat) : Told := .call [] (Value.tuple #[vn, Value.bool w0]) [] 0
def ref12_stepP1 (A : Array Value) (a0 a1 a2 a3 a4 : Int) (w0 : Bool) (n : Nat) : Prop := CallSpec Try.prog 27 A [] (Value.tuple #[vn, Value.bool w0]) [] n 0

theorem ref12_stepC1 (A : Array Value) (a0 a1 a2 a3 a4 : Int) (w0 : Bool) (N : Nat) (h : ref12_step a0 a1 a2 a3 a4 N = some (.r1 w0)) (n : Nat) (hA : A = #[vn, Value.agg #[vi a0, vi a1, vi a2, vi a3], vi a4]) (hnd : ([] : List Nat).Nodup) (hlt : ∀ k ∈ ([] : List Nat), k < n) : ref12_stepP1 A a0 a1 a2 a3 a4 w0  n :=
 cs_args hA (LSpec.callL (show LSpec Try.prog 27 #[vn, Value.agg #[vi a0, vi a1, vi a2, vi a3], vi a4] [] (Value.tuple #[vn, Value.bool w0]) [] from ref12_step_spec a0 a1 a2 a3 a4 N _ h) [] n [] rfl hnd hlt (show 0 ≤ 0 from by decide) (show ∀ j ∈ ([] : List Nat), j < 0 from by decide) (by rfl) trivial (by rfl) trivial trivial rfl rfl rfl rfl rfl)

noncomputable def ref10_HasV (a0 : Int) : ref10_HasR → Value
 | .r0 w0 w1 w2 w3 => Value.tuple #[Value.agg #[vi w0, vi w1, vi w2], Value.bool w3]
noncomputable def ref10_HasPo (a0 : Int) : ref10_HasR → List (Option AObj)
 | .r0 w0 w1 w2 w3 => []

theorem ref10_Has_fx (a0 : Int) (N : Nat) : Fx Try.prog ext_Cf Try.f39 [] #[vi a0] (ref10_HasV a0) (ref10_HasPo a0) (ref10_Has a0 N) := by
 unfold ref10_Has
 refine fx_ite (fun g0 => ?_) (fun g0 => ?_)
 ·
  exact fx_fin (r := (.r0 ((1 : Int)) ((2 : Int)) ((0 : Int)) (true) : ref10_HasR)) (fu := 4000) (orc := (orcw [(0, true)] [] [] [] [])) (live := []) (u := Value.tuple #[Value.agg #[vi (1 : Int), vi (2 : Int), vi (0 : Int)], Value.bool true]) (bl := []) (ob := [((a0 == (1 : Int)), true)]) (by kernel_rfl) (oT obs_nil) rfl (by decide) (by rfl) rr trivial
 ·
  refine fx_ite (fun g1 => ?_) (fun g1 => ?_)
  ·
   exact fx_fin (r := (.r0 ((1 : Int)) ((0 : Int)) ((0 : Int)) (true) : ref10_HasR)) (fu := 4000) (orc := (orcw [(0, false), (1, true)] [] [] [] [])) (live := []) (u := Value.tuple #[Value.agg #[vi (1 : Int), vi (0 : Int), vi (0 : Int)], Value.bool true]) (bl := []) (ob := [((a0 == (2 : Int)), true), ((a0 == (1 : Int)), false)]) (by kernel_rfl) (oT <| oF obs_nil) rfl (by decide) (by rfl) rr trivial
  ·
   refine fx_ite (fun g2 => ?_) (fun g2 => ?_)
   ·
    exact fx_fin (r := (.r0 ((1 : Int)) ((0 : Int)) ((0 : Int)) (true) : ref10_HasR)) (fu := 4000) (orc := (orcw [(0, false), (1, false), (2, true)] [] [] [] [])) (live := []) (u := Value.tuple #[Value.agg #[vi (1 : Int), vi (0 : Int), vi (0 : Int)], Value.bool true]) (bl := []) (ob := [((a0 == (10 : Int)), true), ((a0 == (2 : Int)), false), ((a0 == (1 : Int)), false)]) (by kernel_rfl) (oT <| oF <| oF obs_nil) rfl (by decide) (by rfl) rr trivial
   ·
    refine fx_ite (fun g3 => ?_) (fun g3 => ?_)
    ·
     exact fx_fin (r := (.r0 ((1 : Int)) ((0 : Int)) ((0 : Int)) (true) : ref10_HasR)) (fu := 4000) (orc := (orcw [(0, false), (1, false), (2, false), (3, true)] [] [] [] [])) (live := []) (u := Value.tuple #[Value.agg #[vi (1 : Int), vi (0 : Int), vi (0 : Int)], Value.bool true]) (bl := []) (ob := [((a0 == (12 : Int)), true), ((a0 == (10 : Int)), false), ((a0 == (2 : Int)), false), ((a0 == (1 : Int)), false)]) (by kernel_rfl) (oT <| oF <| oF <| oF obs_nil) rfl (by decide) (by rfl) rr trivial
    ·
     refine fx_ite (fun g4 => ?_) (fun g4 => ?_)
     ·
      exact fx_fin (r := (.r0 ((1 : Int)) ((0 : Int)) ((0 : Int)) (true) : ref10_HasR)) (fu := 4000) (orc := (orcw [(0, false), (1, false), (2, false), (3, false), (4, true)] [] [] [] [])) (live := []) (u := Value.tuple #[Value.agg #[vi (1 : Int), vi (0 : Int), vi (0 : Int)], Value.bool true]) (bl := []) (ob := [((a0 == (19 : Int)), true), ((a0 == (12 : Int)), false), ((a0 == (10 : Int)), false), ((a0 == (2 : Int)), false), ((a0 == (1 : Int)), false)]) (by kernel_rfl) (oT <| oF <| oF <| oF <| oF obs_nil) rfl (by decide) (by rfl) rr trivial
     ·
      refine fx_ite (fun g5 => ?_) (fun g5 => ?_)
      ·
       exact fx_fin (r := (.r0 ((1 : Int)) ((1 : Int)) ((0 : Int)) (true) : ref10_HasR)) (fu := 4000) (orc := (orcw [(0, false), (1, false), (2, false), (3, false), (4, false), (5, true)] [] [] [] [])) (live := []) (u := Value.tuple #[Value.agg #[vi (1 : Int), vi (1 : Int), vi (0 : Int)], Value.bool true]) (bl := []) (ob := [((a0 == (3 : Int)), true), ((a0 == (19 : Int)), false), ((a0 == (12 : Int)), false), ((a0 == (10 : Int)), false), ((a0 == (2 : Int)), false), ((a0 == (1 : Int)), false)]) (by kernel_rfl) (oT <| oF <| oF <| oF <| oF <| oF obs_nil) rfl (by decide) (by rfl) rr trivial
      ·
       refine fx_ite (fun g6 => ?_) (fun g6 => ?_)
       ·
        exact fx_fin (r := (.r0 ((1 : Int)) ((1 : Int)) ((1 : Int)) (true) : ref10_HasR)) (fu := 4000) (orc := (orcw [(0, false), (1, false), (2, false), (3, false), (4, false), (5, false), (6, true)] [] [] [] [])) (live := []) (u := Value.tuple #[Value.agg #[vi (1 : Int), vi (1 : Int), vi (1 : Int)], Value.bool true]) (bl := []) (ob := [((a0 == (4 : Int)), true), ((a0 == (3 : Int)), false), ((a0 == (19 : Int)), false), ((a0 == (12 : Int)), false), ((a0 == (10 : Int)), false), ((a0 == (2 : Int)), false), ((a0 == (1 : Int)), false)]) (by kernel_rfl) (oT <| oF <| oF <| oF <| oF <| oF <| oF obs_nil) rfl (by decide) (by rfl) rr trivial
       ·
        refine fx_ite (fun g7 => ?_) (fun g7 => ?_)
        ·
         exact fx_fin (r := (.r0 ((1 : Int)) ((1 : Int)) ((1 : Int)) (true) : ref10_HasR)) (fu := 4000) (orc := (orcw [(0, false), (1, false), (2, false), (3, false), (4, false), (5, false), (6, false), (7, true)] [] [] [] [])) (live := []) (u := Value.tuple #[Value.agg #[vi (1 : Int), vi (1 : Int), vi (1 : Int)], Value.bool true]) (bl := []) (ob := [((a0 == (5 : Int)), true), ((a0 == (4 : Int)), false), ((a0 == (3 : Int)), false), ((a0 == (19 : Int)), false), ((a0 == (12 : Int)), false), ((a0 == (10 : Int)), false), ((a0 == (2 : Int)), false), ((a0 == (1 : Int)), false)]) (by kernel_rfl) (oT <| oF <| oF <| oF <| oF <| oF <| oF <| oF obs_nil) rfl (by decide) (by rfl) rr trivial
        ·
         refine fx_ite (fun g8 => ?_) (fun g8 => ?_)
         ·
          exact fx_fin (r := (.r0 ((1 : Int)) ((1 : Int)) ((1 : Int)) (true) : ref10_HasR)) (fu := 4000) (orc := (orcw [(0, false), (1, false), (2, false), (3, false), (4, false), (5, false), (6, false), (7, false), (8, true)] [] [] [] [])) (live := []) (u := Value.tuple #[Value.agg #[vi (1 : Int), vi (1 : Int), vi (1 : Int)], Value.bool true]) (bl := []) (ob := [((a0 == (6 : Int)), true), ((a0 == (5 : Int)), false), ((a0 == (4 : Int)), false), ((a0 == (3 : Int)), false), ((a0 == (19 : Int)), false), ((a0 == (12 : Int)), false), ((a0 == (10 : Int)), false), ((a0 == (2 : Int)), false), ((a0 == (1 : Int)), false)]) (by kernel_rfl) (oT <| oF <| oF <| oF <| oF <| oF <| oF <| oF <| oF obs_nil) rfl (by decide) (by rfl) rr trivial
         ·
          refine fx_ite (fun g9 => ?_) (fun g9 => ?_)
          ·
           exact fx_fin (r := (.r0 ((1 : Int)) ((1 : Int)) ((1 : Int)) (true) : ref10_HasR)) (fu := 4000) (orc := (orcw [(0, false), (1, false), (2, false), (3, false), (4, false), (5, false), (6, false), (7, false), (8, false), (9, true)] [] [] [] [])) (live := []) (u := Value.tuple #[Value.agg #[vi (1 : Int), vi (1 : Int), vi (1 : Int)], Value.bool true]) (bl := []) (ob := [((a0 == (7 : Int)), true), ((a0 == (6 : Int)), false), ((a0 == (5 : Int)), false), ((a0 == (4 : Int)), false), ((a0 == (3 : Int)), false), ((a0 == (19 : Int)), false), ((a0 == (12 : Int)), false), ((a0 == (10 : Int)), false), ((a0 == (2 : Int)), false), ((a0 == (1 : Int)), false)]) (by kernel_rfl) (oT <| oF <| oF <| oF <| oF <| oF <| oF <| oF <| oF <| oF obs_nil) rfl (by decide) (by rfl) rr trivial
          ·
           refine fx_ite (fun g10 => ?_) (fun g10 => ?_)
           ·
            exact fx_fin (r := (.r0 ((3 : Int)) ((0 : Int)) ((0 : Int)) (true) : ref10_HasR)) (fu := 4000) (orc := (orcw [(0, false), (1, false), (2, false), (3, false), (4, false), (5, false), (6, false), (7, false), (8, false), (9, false), (10, true)] [] [] [] [])) (live := []) (u := Value.tuple #[Value.agg #[vi (3 : Int), vi (0 : Int), vi (0 : Int)], Value.bool true]) (bl := []) (ob := [((a0 == (8 : Int)), true), ((a0 == (7 : Int)), false), ((a0 == (6 : Int)), false), ((a0 == (5 : Int)), false), ((a0 == (4 : Int)), false), ((a0 == (3 : Int)), false), ((a0 == (19 : Int)), false), ((a0 == (12 : Int)), false), ((a0 == (10 : Int)), false), ((a0 == (2 : Int)), false), ((a0 == (1 : Int)), false)]) (by kernel_rfl) (oT <| oF <| oF <| oF <| oF <| oF <| oF <| oF <| oF <| oF <| oF obs_nil) rfl (by decide) (by rfl) rr trivial
           ·
            refine fx_ite (fun g11 => ?_) (fun g11 => ?_)
            ·
             exact fx_fin (r := (.r0 ((1 : Int)) ((3 : Int)) ((0 : Int)) (true) : ref10_HasR)) (fu := 4000) (orc := (orcw [(0, false), (1, false), (2, false), (3, false), (4, false), (5, false), (6, false), (7, false), (8, false), (9, false), (10, false), (11, true)] [] [] [] [])) (live := []) (u := Value.tuple #[Value.agg #[vi (1 : Int), vi (3 : Int), vi (0 : Int)], Value.bool true]) (bl := []) (ob := [((a0 == (9 : Int)), true), ((a0 == (8 : Int)), false), ((a0 == (7 : Int)), false), ((a0 == (6 : Int)), false), ((a0 == (5 : Int)), false), ((a0 == (4 : Int)), false), ((a0 == (3 : Int)), false), ((a0 == (19 : Int)), false), ((a0 == (12 : Int)), false), ((a0 == (10 : Int)), false), ((a0 == (2 : Int)), false), ((a0 == (1 : Int)), false)]) (by kernel_rfl) (oT <| oF <| oF <| oF <| oF <| oF <| oF <| oF <| oF <| oF <| oF <| oF obs_nil) rfl (by decide) (by rfl) rr trivial
            ·
             refine fx_ite (fun g12 => ?_) (fun g12 => ?_)
             ·
              exact fx_fin (r := (.r0 ((1 : Int)) ((5 : Int)) ((6 : Int)) (true) : ref10_HasR)) (fu := 4000) (orc := (orcw [(0, false), (1, false), (2, false), (3, false), (4, false), (5, false), (6, false), (7, false), (8, false), (9, false), (10, false), (11, false), (12, true)] [] [] [] [])) (live := []) (u := Value.tuple #[Value.agg #[vi (1 : Int), vi (5 : Int), vi (6 : Int)], Value.bool true]) (bl := []) (ob := [((a0 == (11 : Int)), true), ((a0 == (9 : Int)), false), ((a0 == (8 : Int)), false), ((a0 == (7 : Int)), false), ((a0 == (6 : Int)), false), ((a0 == (5 : Int)), false), ((a0 == (4 : Int)), false), ((a0 == (3 : Int)), false), ((a0 == (19 : Int)), false), ((a0 == (12 : Int)), false), ((a0 == (10 : Int)), false), ((a0 == (2 : Int)), false), ((a0 == (1 : Int)), false)]) (by kernel_rfl) (oT <| oF <| oF <| oF <| oF <| oF <| oF <| oF <| oF <| oF <| oF <| oF <| oF obs_nil) rfl (by decide) (by rfl) rr trivial
             ·
              refine fx_ite (fun g13 => ?_) (fun g13 => ?_)
              ·
               exact fx_fin (r := (.r0 ((1 : Int)) ((1 : Int)) ((4 : Int)) (true) : ref10_HasR)) (fu := 4000) (orc := (orcw [(0, false), (1, false), (2, false), (3, false), (4, false), (5, false), (6, false), (7, false), (8, false), (9, false), (10, false), (11, false), (12, false), (13, true)] [] [] [] [])) (live := []) (u := Value.tuple #[Value.agg #[vi (1 : Int), vi (1 : Int), vi (4 : Int)], Value.bool true]) (bl := []) (ob := [((a0 == (13 : Int)), true), ((a0 == (11 : Int)), false), ((a0 == (9 : Int)), false), ((a0 == (8 : Int)), false), ((a0 == (7 : Int)), false), ((a0 == (6 : Int)), false), ((a0 == (5 : Int)), false), ((a0 == (4 : Int)), false), ((a0 == (3 : Int)), false), ((a0 == (19 : Int)), false), ((a0 == (12 : Int)), false), ((a0 == (10 : Int)), false), ((a0 == (2 : Int)), false), ((a0 == (1 : Int)), false)]) (by kernel_rfl) (oT <| oF <| oF <| oF <| oF <| oF <| oF <| oF <| oF <| oF <| oF <| oF <| oF <| oF obs_nil) rfl (by decide) (by rfl) rr trivial
              ·
               refine fx_ite (fun g14 => ?_) (fun g14 => ?_)
               ·
                exact fx_fin (r := (.r0 ((1 : Int)) ((4 : Int)) ((1 : Int)) (true) : ref10_HasR)) (fu := 4000) (orc := (orcw [(0, false), (1, false), (2, false), (3, false), (4, false), (5, false), (6, false), (7, false), (8, false), (9, false), (10, false), (11, false), (12, false), (13, false), (14, true)] [] [] [] [])) (live := []) (u := Value.tuple #[Value.agg #[vi (1 : Int), vi (4 : Int), vi (1 : Int)], Value.bool true]) (bl := []) (ob := [((a0 == (14 : Int)), true), ((a0 == (13 : Int)), false), ((a0 == (11 : Int)), false), ((a0 == (9 : Int)), false), ((a0 == (8 : Int)), false), ((a0 == (7 : Int)), false), ((a0 == (6 : Int)), false), ((a0 == (5 : Int)), false), ((a0 == (4 : Int)), false), ((a0 == (3 : Int)), false), ((a0 == (19 : Int)), false), ((a0 == (12 : Int)), false), ((a0 == (10 : Int)), false), ((a0 == (2 : Int)), false), ((a0 == (1 : Int)), false)]) (by kernel_rfl) (oT <| oF <| oF <| oF <| oF <| oF <| oF <| oF <| oF <| oF <| oF <| oF <| oF <| oF <| oF obs_nil) rfl (by decide) (by rfl) rr trivial
               ·
                refine fx_ite (fun g15 => ?_) (fun g15 => ?_)
                ·
                 exact fx_fin (r := (.r0 ((0 : Int)) ((0 : Int)) ((0 : Int)) (true) : ref10_HasR)) (fu := 4000) (orc := (orcw [(0, false), (1, false), (2, false), (3, false), (4, false), (5, false), (6, false), (7, false), (8, false), (9, false), (10, false), (11, false), (12, false), (13, false), (14, false), (15, true)] [] [] [] [])) (live := []) (u := Value.tuple #[Value.agg #[vi (0 : Int), vi (0 : Int), vi (0 : Int)], Value.bool true]) (bl := []) (ob := [((a0 == (15 : Int)), true), ((a0 == (14 : Int)), false), ((a0 == (13 : Int)), false), ((a0 == (11 : Int)), false), ((a0 == (9 : Int)), false), ((a0 == (8 : Int)), false), ((a0 == (7 : Int)), false), ((a0 == (6 : Int)), false), ((a0 == (5 : Int)), false), ((a0 == (4 : Int)), false), ((a0 == (3 : Int)), false), ((a0 == (19 : Int)), false), ((a0 == (12 : Int)), false), ((a0 == (10 : Int)), false), ((a0 == (2 : Int)), false), ((a0 == (1 : Int)), false)]) (by kernel_rfl) (oT <| oF <| oF <| oF <| oF <| oF <| oF <| oF <| oF <| oF <| oF <| oF <| oF <| oF <| oF <| oF obs_nil) rfl (by decide) (by rfl) rr trivial
                ·
                 refine fx_ite (fun g16 => ?_) (fun g16 => ?_)
                 ·
                  exact fx_fin (r := (.r0 ((0 : Int)) ((0 : Int)) ((0 : Int)) (true) : ref10_HasR)) (fu := 4000) (orc := (orcw [(0, false), (1, false), (2, false), (3, false), (4, false), (5, false), (6, false), (7, false), (8, false), (9, false), (10, false), (11, false), (12, false), (13, false), (14, false), (15, false), (16, true)] [] [] [] [])) (live := []) (u := Value.tuple #[Value.agg #[vi (0 : Int), vi (0 : Int), vi (0 : Int)], Value.bool true]) (bl := []) (ob := [((a0 == (16 : Int)), true), ((a0 == (15 : Int)), false), ((a0 == (14 : Int)), false), ((a0 == (13 : Int)), false), ((a0 == (11 : Int)), false), ((a0 == (9 : Int)), false), ((a0 == (8 : Int)), false), ((a0 == (7 : Int)), false), ((a0 == (6 : Int)), false), ((a0 == (5 : Int)), false), ((a0 == (4 : Int)), false), ((a0 == (3 : Int)), false), ((a0 == (19 : Int)), false), ((a0 == (12 : Int)), false), ((a0 == (10 : Int)), false), ((a0 == (2 : Int)), false), ((a0 == (1 : Int)), false)]) (by kernel_rfl) (oT <| oF <| oF <| oF <| oF <| oF <| oF <| oF <| oF <| oF <| oF <| oF <| oF <| oF <| oF <| oF <| oF obs_nil) rfl (by decide) (by rfl) rr trivial
                 ·
                  refine fx_ite (fun g17 => ?_) (fun g17 => ?_)
                  ·
                   exact fx_fin (r := (.r0 ((0 : Int)) ((0 : Int)) ((0 : Int)) (true) : ref10_HasR)) (fu := 4000) (orc := (orcw [(0, false), (1, false), (2, false), (3, false), (4, false), (5, false), (6, false), (7, false), (8, false), (9, false), (10, false), (11, false), (12, false), (13, false), (14, false), (15, false), (16, false), (17, true)] [] [] [] [])) (live := []) (u := Value.tuple #[Value.agg #[vi (0 : Int), vi (0 : Int), vi (0 : Int)], Value.bool true]) (bl := []) (ob := [((a0 == (17 : Int)), true), ((a0 == (16 : Int)), false), ((a0 == (15 : Int)), false), ((a0 == (14 : Int)), false), ((a0 == (13 : Int)), false), ((a0 == (11 : Int)), false), ((a0 == (9 : Int)), false), ((a0 == (8 : Int)), false), ((a0 == (7 : Int)), false), ((a0 == (6 : Int)), false), ((a0 == (5 : Int)), false), ((a0 == (4 : Int)), false), ((a0 == (3 : Int)), false), ((a0 == (19 : Int)), false), ((a0 == (12 : Int)), false), ((a0 == (10 : Int)), false), ((a0 == (2 : Int)), false), ((a0 == (1 : Int)), false)]) (by kernel_rfl) (oT <| oF <| oF <| oF <| oF <| oF <| oF <| oF <| oF <| oF <| oF <| oF <| oF <| oF <| oF <| oF <| oF <| oF obs_nil) rfl (by decide) (by rfl) rr trivial
                  ·
                   refine fx_ite (fun g18 => ?_) (fun g18 => ?_)
                   ·
                    exact fx_fin (r := (.r0 ((0 : Int)) ((0 : Int)) ((0 : Int)) (true) : ref10_HasR)) (fu := 4000) (orc := (orcw [(0, false), (1, false), (2, false), (3, false), (4, false), (5, false), (6, false), (7, false), (8, false), (9, false), (10, false), (11, false), (12, false), (13, false), (14, false), (15, false), (16, false), (17, false), (18, true)] [] [] [] [])) (live := []) (u := Value.tuple #[Value.agg #[vi (0 : Int), vi (0 : Int), vi (0 : Int)], Value.bool true]) (bl := []) (ob := [((a0 == (18 : Int)), true), ((a0 == (17 : Int)), false), ((a0 == (16 : Int)), false), ((a0 == (15 : Int)), false), ((a0 == (14 : Int)), false), ((a0 == (13 : Int)), false), ((a0 == (11 : Int)), false), ((a0 == (9 : Int)), false), ((a0 == (8 : Int)), false), ((a0 == (7 : Int)), false), ((a0 == (6 : Int)), false), ((a0 == (5 : Int)), false), ((a0 == (4 : Int)), false), ((a0 == (3 : Int)), false), ((a0 == (19 : Int)), false), ((a0 == (12 : Int)), false), ((a0 == (10 : Int)), false), ((a0 == (2 : Int)), false), ((a0 == (1 : Int)), false)]) (by kernel_rfl) (oT <| oF <| oF <| oF <| oF <| oF <| oF <| oF <| oF <| oF <| oF <| oF <| oF <| oF <| oF <| oF <| oF <| oF <| oF obs_nil) rfl (by decide) (by rfl) rr trivial
                   ·
                    refine fx_ite (fun g19 => ?_) (fun g19 => ?_)
                    ·
                     exact fx_fin (r := (.r0 ((0 : Int)) ((0 : Int)) ((0 : Int)) (true) : ref10_HasR)) (fu := 4000) (orc := (orcw [(0, false), (1, false), (2, false), (3, false), (4, false), (5, false), (6, false), (7, false), (8, false), (9, false), (10, false), (11, false), (12, false), (13, false), (14, false), (15, false), (16, false), (17, false), (18, false), (19, true)] [] [] [] [])) (live := []) (u := Value.tuple #[Value.agg #[vi (0 : Int), vi (0 : Int), vi (0 : Int)], Value.bool true]) (bl := []) (ob := [((a0 == (20 : Int)), true), ((a0 == (18 : Int)), false), ((a0 == (17 : Int)), false), ((a0 == (16 : Int)), false), ((a0 == (15 : Int)), false), ((a0 == (14 : Int)), false), ((a0 == (13 : Int)), false), ((a0 == (11 : Int)), false), ((a0 == (9 : Int)), false), ((a0 == (8 : Int)), false), ((a0 == (7 : Int)), false), ((a0 == (6 : Int)), false), ((a0 == (5 : Int)), false), ((a0 == (4 : Int)), false), ((a0 == (3 : Int)), false), ((a0 == (19 : Int)), false), ((a0 == (12 : Int)), false), ((a0 == (10 : Int)), false), ((a0 == (2 : Int)), false), ((a0 == (1 : Int)), false)]) (by kernel_rfl) (oT <| oF <| oF <| oF <| oF <| oF <| oF <| oF <| oF <| oF <| oF <| oF <| oF <| oF <| oF <| oF <| oF <| oF <| oF <| oF obs_nil) rfl (by decide) (by rfl) rr trivial
                    ·
                     exact fx_fin (r := (.r0 ((0 : Int)) ((0 : Int)) ((0 : Int)) (false) : ref10_HasR)) (fu := 4000) (orc := (orcw [(0, false), (1, false), (2, false), (3, false), (4, false), (5, false), (6, false), (7, false), (8, false), (9, false), (10, false), (11, false), (12, false), (13, false), (14, false), (15, false), (16, false), (17, false), (18, false), (19, false)] [] [] [] [])) (live := []) (u := Value.tuple #[Value.agg #[vi (0 : Int), vi (0 : Int), vi (0 : Int)], Value.bool false]) (bl := []) (ob := [((a0 == (20 : Int)), false), ((a0 == (18 : Int)), false), ((a0 == (17 : Int)), false), ((a0 == (16 : Int)), false), ((a0 == (15 : Int)), false), ((a0 == (14 : Int)), false), ((a0 == (13 : Int)), false), ((a0 == (11 : Int)), false), ((a0 == (9 : Int)), false), ((a0 == (8 : Int)), false), ((a0 == (7 : Int)), false), ((a0 == (6 : Int)), false), ((a0 == (5 : Int)), false), ((a0 == (4 : Int)), false), ((a0 == (3 : Int)), false), ((a0 == (19 : Int)), false), ((a0 == (12 : Int)), false), ((a0 == (10 : Int)), false), ((a0 == (2 : Int)), false), ((a0 == (1 : Int)), false)]) (by kernel_rfl) (oF <| oF <| oF <| oF <| oF <| oF <| oF <| oF <| oF <| oF <| oF <| oF <| oF <| oF <| oF <| oF <| oF <| oF <| oF <| oF obs_nil) rfl (by decide) (by rfl) rr trivial

theorem ref10_Has_spec (a0 : Int) (N : Nat) (r : ref10_HasR) (h : ref10_Has a0 N = some r) : LSpec Try.prog 39 #[vi a0] [] (ref10_HasV a0 r) (ref10_HasPo a0 r) :=
 fx_spec fit_Cf Try.func39 (by kernel_rfl) (by kernel_rfl) (fun r => by cases r <;> exact le_far _ rfl) (ref10_Has_fx a0 N) h

noncomputable def ref10_HasT0 (a0 w0 w1 w2 : Int) (w3 : Bool) (n : Nat) : Told := .call [] (Value.tuple #[Value.agg #[vi w0, vi w1, vi w2], Value.bool w3]) [] 0
def ref10_HasP0 (A : Array Value) (a0 w0 w1 w2 : Int) (w3 : Bool) (n : Nat) : Prop := CallSpec Try.prog 39 A [] (Value.tuple #[Value.agg #[vi w0, vi w1, vi w2], Value.bool w3]) [] n 0

theorem ref10_HasC0 (A : Array Value) (a0 w0 w1 w2 : Int) (w3 : Bool) (N : Nat) (h : ref10_Has a0 N = some (.r0 w0 w1 w2 w3)) (n : Nat) (hA : A = #[vi a0]) (hnd : ([] : List Nat).Nodup) (hlt : ∀ k ∈ ([] : List Nat), k < n) : ref10_HasP0 A a0 w0 w1 w2 w3  n :=
 cs_args hA (LSpec.callL (show LSpec Try.prog 39 #[vi a0] [] (Value.tuple #[Value.agg #[vi w0, vi w1, vi w2], Value.bool w3]) [] from ref10_Has_spec a0 N _ h) [] n [] rfl hnd hlt (show 0 ≤ 0 from by decide) (show ∀ j ∈ ([] : List Nat), j < 0 from by decide) (by rfl) trivial (by rfl) trivial trivial rfl rfl rfl rfl rfl)

noncomputable def ref10_fitsV (a0 a1 a2 : Int) : ref10_fitsR → Value
 | .r0 w0 => Value.bool w0
noncomputable def ref10_fitsPo (a0 a1 a2 : Int) : ref10_fitsR → List (Option AObj)
 | .r0 w0 => []

theorem ref10_fits_fx (a0 a1 a2 : Int) (N : Nat) : Fx Try.prog ext_Cf Try.f40 [] #[vi a0, vi a1, vi a2] (ref10_fitsV a0 a1 a2) (ref10_fitsPo a0 a1 a2) (ref10_fits a0 a1 a2 N) := by
 unfold ref10_fits
 refine fx_ite (fun g0 => ?_) (fun g0 => ?_)
 ·
  refine fx_ite (fun g1 => ?_) (fun g1 => ?_)
  ·
   refine fx_ite (fun g2 => ?_) (fun g2 => ?_)
   ·
    exact fx_fin (r := (.r0 (true) : ref10_fitsR)) (fu := 4000) (orc := (orcw [(0, true), (1, true), (2, true)] [] [] [] [])) (live := []) (u := Value.bool true) (bl := []) (ob := [((decide (a1 < (8 : Int))), true), ((decide (a1 ≥ (0 : Int))), true), ((a0 == (1 : Int)), true)]) (by kernel_rfl) (oY <| oY <| oT obs_nil) rfl (by decide) (by rfl) rr trivial
   ·
    exact fx_fin (r := (.r0 (false) : ref10_fitsR)) (fu := 4000) (orc := (orcw [(0, true), (1, true), (2, false)] [] [] [] [])) (live := []) (u := Value.bool false) (bl := []) (ob := [((decide (a1 < (8 : Int))), false), ((decide (a1 ≥ (0 : Int))), true), ((a0 == (1 : Int)), true)]) (by kernel_rfl) (oN <| oY <| oT obs_nil) rfl (by decide) (by rfl) rr trivial
  ·
   exact fx_fin (r := (.r0 (false) : ref10_fitsR)) (fu := 4000) (orc := (orcw [(0, true), (1, false)] [] [] [] [])) (live := []) (u := Value.bool false) (bl := []) (ob := [((decide (a1 ≥ (0 : Int))), false), ((a0 == (1 : Int)), true)]) (by kernel_rfl) (oN <| oT obs_nil) rfl (by decide) (by rfl) rr trivial
 ·
  refine fx_ite (fun g1 => ?_) (fun g1 => ?_)
  ·
   refine fx_ite (fun g2 => ?_) (fun g2 => ?_)
   ·
    refine fx_ite (fun g3 => ?_) (fun g3 => ?_)
    ·
     exact fx_fin (r := (.r0 (true) : ref10_fitsR)) (fu := 4000) (orc := (orcw [(0, false), (1, true), (2, true), (3, true)] [] [] [] [])) (live := []) (u := Value.bool true) (bl := []) (ob := [((decide (a1 ≤ (1099511627776 : Int))), true), ((decide (a1 ≥ (-1099511627776 : Int))), true), ((a0 == (2 : Int)), true), ((a0 == (1 : Int)), false)]) (by kernel_rfl) (oY <| oY <| oT <| oF obs_nil) rfl (by decide) (by rfl) rr trivial
    ·
     exact fx_fin (r := (.r0 (false) : ref10_fitsR)) (fu := 4000) (orc := (orcw [(0, false), (1, true), (2, true), (3, false)] [] [] [] [])) (live := []) (u := Value.bool false) (bl := []) (ob := [((decide (a1 ≤ (1099511627776 : Int))), false), ((decide (a1 ≥ (-1099511627776 : Int))), true), ((a0 == (2 : Int)), true), ((a0 == (1 : Int)), false)]) (by kernel_rfl) (oN <| oY <| oT <| oF obs_nil) rfl (by decide) (by rfl) rr trivial
   ·
    exact fx_fin (r := (.r0 (false) : ref10_fitsR)) (fu := 4000) (orc := (orcw [(0, false), (1, true), (2, false)] [] [] [] [])) (live := []) (u := Value.bool false) (bl := []) (ob := [((decide (a1 ≥ (-1099511627776 : Int))), false), ((a0 == (2 : Int)), true), ((a0 == (1 : Int)), false)]) (by kernel_rfl) (oN <| oT <| oF obs_nil) rfl (by decide) (by rfl) rr trivial
  ·
   refine fx_ite (fun g2 => ?_) (fun g2 => ?_)
   ·
    refine fx_ite (fun g3 => ?_) (fun g3 => ?_)
    ·
     refine fx_ite (fun g4 => ?_) (fun g4 => ?_)
     ·
      exact fx_fin (r := (.r0 (true) : ref10_fitsR)) (fu := 4000) (orc := (orcw [(0, false), (1, false), (2, true), (3, true), (4, true)] [] [] [] [])) (live := []) (u := Value.bool true) (bl := []) (ob := [((decide (a1 ≤ (512 : Int))), true), ((decide (a1 ≥ (0 : Int))), true), ((a0 == (3 : Int)), true), ((a0 == (2 : Int)), false), ((a0 == (1 : Int)), false)]) (by kernel_rfl) (oY <| oY <| oT <| oF <| oF obs_nil) rfl (by decide) (by rfl) rr trivial
     ·
      exact fx_fin (r := (.r0 (false) : ref10_fitsR)) (fu := 4000) (orc := (orcw [(0, false), (1, false), (2, true), (3, true), (4, false)] [] [] [] [])) (live := []) (u := Value.bool false) (bl := []) (ob := [((decide (a1 ≤ (512 : Int))), false), ((decide (a1 ≥ (0 : Int))), true), ((a0 == (3 : Int)), true), ((a0 == (2 : Int)), false), ((a0 == (1 : Int)), false)]) (by kernel_rfl) (oN <| oY <| oT <| oF <| oF obs_nil) rfl (by decide) (by rfl) rr trivial
    ·
     exact fx_fin (r := (.r0 (false) : ref10_fitsR)) (fu := 4000) (orc := (orcw [(0, false), (1, false), (2, true), (3, false)] [] [] [] [])) (live := []) (u := Value.bool false) (bl := []) (ob := [((decide (a1 ≥ (0 : Int))), false), ((a0 == (3 : Int)), true), ((a0 == (2 : Int)), false), ((a0 == (1 : Int)), false)]) (by kernel_rfl) (oN <| oT <| oF <| oF obs_nil) rfl (by decide) (by rfl) rr trivial
   ·
    refine fx_ite (fun g3 => ?_) (fun g3 => ?_)
    ·
     refine fx_ite (fun g4 => ?_) (fun g4 => ?_)
     ·
      refine fx_ite (fun g5 => ?_) (fun g5 => ?_)
      ·
       exact fx_fin (r := (.r0 (true) : ref10_fitsR)) (fu := 4000) (orc := (orcw [(0, false), (1, false), (2, false), (3, true), (4, true), (5, true)] [] [] [] [])) (live := []) (u := Value.bool true) (bl := []) (ob := [((decide (a1 < (16 : Int))), true), ((decide (a1 ≥ (0 : Int))), true), ((a0 == (4 : Int)), true), ((a0 == (3 : Int)), false), ((a0 == (2 : Int)), false), ((a0 == (1 : Int)), false)]) (by kernel_rfl) (oY <| oY <| oT <| oF <| oF <| oF obs_nil) rfl (by decide) (by rfl) rr trivial
      ·
       exact fx_fin (r := (.r0 (false) : ref10_fitsR)) (fu := 4000) (orc := (orcw [(0, false), (1, false), (2, false), (3, true), (4, true), (5, false)] [] [] [] [])) (live := []) (u := Value.bool false) (bl := []) (ob := [((decide (a1 < (16 : Int))), false), ((decide (a1 ≥ (0 : Int))), true), ((a0 == (4 : Int)), true), ((a0 == (3 : Int)), false), ((a0 == (2 : Int)), false), ((a0 == (1 : Int)), false)]) (by kernel_rfl) (oN <| oY <| oT <| oF <| oF <| oF obs_nil) rfl (by decide) (by rfl) rr trivial
     ·
      exact fx_fin (r := (.r0 (false) : ref10_fitsR)) (fu := 4000) (orc := (orcw [(0, false), (1, false), (2, false), (3, true), (4, false)] [] [] [] [])) (live := []) (u := Value.bool false) (bl := []) (ob := [((decide (a1 ≥ (0 : Int))), false), ((a0 == (4 : Int)), true), ((a0 == (3 : Int)), false), ((a0 == (2 : Int)), false), ((a0 == (1 : Int)), false)]) (by kernel_rfl) (oN <| oT <| oF <| oF <| oF obs_nil) rfl (by decide) (by rfl) rr trivial
    ·
     refine fx_ite (fun g4 => ?_) (fun g4 => ?_)
     ·
      refine fx_ite (fun g5 => ?_) (fun g5 => ?_)
      ·
       refine fx_ite (fun g6 => ?_) (fun g6 => ?_)
       ·
        exact fx_fin (r := (.r0 (true) : ref10_fitsR)) (fu := 4000) (orc := (orcw [(0, false), (1, false), (2, false), (3, false), (4, true), (5, true), (6, true)] [] [] [] [])) (live := []) (u := Value.bool true) (bl := []) (ob := [((decide (a1 ≤ (16 : Int))), true), ((decide (a1 ≥ (1 : Int))), true), ((a0 == (5 : Int)), true), ((a0 == (4 : Int)), false), ((a0 == (3 : Int)), false), ((a0 == (2 : Int)), false), ((a0 == (1 : Int)), false)]) (by kernel_rfl) (oY <| oY <| oT <| oF <| oF <| oF <| oF obs_nil) rfl (by decide) (by rfl) rr trivial
       ·
        exact fx_fin (r := (.r0 (false) : ref10_fitsR)) (fu := 4000) (orc := (orcw [(0, false), (1, false), (2, false), (3, false), (4, true), (5, true), (6, false)] [] [] [] [])) (live := []) (u := Value.bool false) (bl := []) (ob := [((decide (a1 ≤ (16 : Int))), false), ((decide (a1 ≥ (1 : Int))), true), ((a0 == (5 : Int)), true), ((a0 == (4 : Int)), false), ((a0 == (3 : Int)), false), ((a0 == (2 : Int)), false), ((a0 == (1 : Int)), false)]) (by kernel_rfl) (oN <| oY <| oT <| oF <| oF <| oF <| oF obs_nil) rfl (by decide) (by rfl) rr trivial
      ·
       exact fx_fin (r := (.r0 (false) : ref10_fitsR)) (fu := 4000) (orc := (orcw [(0, false), (1, false), (2, false), (3, false), (4, true), (5, false)] [] [] [] [])) (live := []) (u := Value.bool false) (bl := []) (ob := [((decide (a1 ≥ (1 : Int))), false), ((a0 == (5 : Int)), true), ((a0 == (4 : Int)), false), ((a0 == (3 : Int)), false), ((a0 == (2 : Int)), false), ((a0 == (1 : Int)), false)]) (by kernel_rfl) (oN <| oT <| oF <| oF <| oF <| oF obs_nil) rfl (by decide) (by rfl) rr trivial
     ·
      refine fx_ite (fun g5 => ?_) (fun g5 => ?_)
      ·
       refine fx_ite (fun g6 => ?_) (fun g6 => ?_)
       ·
        refine fx_ite (fun g7 => ?_) (fun g7 => ?_)
        ·
         refine fx_ite (fun g8 => ?_) (fun g8 => ?_)
         ·
          refine fx_ite (fun g9 => ?_) (fun g9 => ?_)
          ·
           exact fx_fin (r := (.r0 (true) : ref10_fitsR)) (fu := 4000) (orc := (orcw [(0, false), (1, false), (2, false), (3, false), (4, false), (5, true), (6, true), (7, true), (8, true), (9, true)] [(0, a2)] [] [] [(0, .sh (a2).toNat)])) (live := []) (u := Value.bool true) (bl := []) (ob := [((decide (a1 < (IntKind.i64.wrap ((1 : Int) * (2 ^ (a2).toNat : Int))))), true), (dP (a2 = Int.ofNat (a2).toNat ∧ (a2).toNat ≤ IntKind.i64.bits), true), ((IntKind.u64.wrap a2) == a2, true), ((decide (a1 ≥ (0 : Int))), true), ((decide (a2 ≤ (16 : Int))), true), ((decide (a2 ≥ (1 : Int))), true), ((a0 == (6 : Int)), true), ((a0 == (5 : Int)), false), ((a0 == (4 : Int)), false), ((a0 == (3 : Int)), false), ((a0 == (2 : Int)), false), ((a0 == (1 : Int)), false)]) (by kernel_rfl) (oY <| obs_cons (dP_of ⟨by first | rfl | exact idx_eq (by omega), show _ ≤ 64 from by omega⟩) <| obs_cons (beq_iff_eq.2 (wrap_u64 ltA)) <| oY <| oY <| oY <| oT <| oF <| oF <| oF <| oF <| oF obs_nil) rfl (by decide) (by rfl) rr trivial
          ·
           exact fx_fin (r := (.r0 (false) : ref10_fitsR)) (fu := 4000) (orc := (orcw [(0, false), (1, false), (2, false), (3, false), (4, false), (5, true), (6, true), (7, true), (8, true), (9, false)] [(0, a2)] [] [] [(0, .sh (a2).toNat)])) (live := []) (u := Value.bool false) (bl := []) (ob := [((decide (a1 < (IntKind.i64.wrap ((1 : Int) * (2 ^ (a2).toNat : Int))))), false), (dP (a2 = Int.ofNat (a2).toNat ∧ (a2).toNat ≤ IntKind.i64.bits), true), ((IntKind.u64.wrap a2) == a2, true), ((decide (a1 ≥ (0 : Int))), true), ((decide (a2 ≤ (16 : Int))), true), ((decide (a2 ≥ (1 : Int))), true), ((a0 == (6 : Int)), true), ((a0 == (5 : Int)), false), ((a0 == (4 : Int)), false), ((a0 == (3 : Int)), false), ((a0 == (2 : Int)), false), ((a0 == (1 : Int)), false)]) (by kernel_rfl) (oN <| obs_cons (dP_of ⟨by first | rfl | exact idx_eq (by omega), show _ ≤ 64 from by omega⟩) <| obs_cons (beq_iff_eq.2 (wrap_u64 ltA)) <| oY <| oY <| oY <| oT <| oF <| oF <| oF <| oF <| oF obs_nil) rfl (by decide) (by rfl) rr trivial
         ·
          exact fx_fin (r := (.r0 (false) : ref10_fitsR)) (fu := 4000) (orc := (orcw [(0, false), (1, false), (2, false), (3, false), (4, false), (5, true), (6, true), (7, true), (8, false)] [] [] [] [])) (live := []) (u := Value.bool false) (bl := []) (ob := [((decide (a1 ≥ (0 : Int))), false), ((decide (a2 ≤ (16 : Int))), true), ((decide (a2 ≥ (1 : Int))), true), ((a0 == (6 : Int)), true), ((a0 == (5 : Int)), false), ((a0 == (4 : Int)), false), ((a0 == (3 : Int)), false), ((a0 == (2 : Int)), false), ((a0 == (1 : Int)), false)]) (by kernel_rfl) (oN <| oY <| oY <| oT <| oF <| oF <| oF <| oF <| oF obs_nil) rfl (by decide) (by rfl) rr trivial
        ·
         exact fx_fin (r := (.r0 (false) : ref10_fitsR)) (fu := 4000) (orc := (orcw [(0, false), (1, false), (2, false), (3, false), (4, false), (5, true), (6, true), (7, false)] [] [] [] [])) (live := []) (u := Value.bool false) (bl := []) (ob := [((decide (a2 ≤ (16 : Int))), false), ((decide (a2 ≥ (1 : Int))), true), ((a0 == (6 : Int)), true), ((a0 == (5 : Int)), false), ((a0 == (4 : Int)), false), ((a0 == (3 : Int)), false), ((a0 == (2 : Int)), false), ((a0 == (1 : Int)), false)]) (by kernel_rfl) (oN <| oY <| oT <| oF <| oF <| oF <| oF <| oF obs_nil) rfl (by decide) (by rfl) rr trivial
       ·
        exact fx_fin (r := (.r0 (false) : ref10_fitsR)) (fu := 4000) (orc := (orcw [(0, false), (1, false), (2, false), (3, false), (4, false), (5, true), (6, false)] [] [] [] [])) (live := []) (u := Value.bool false) (bl := []) (ob := [((decide (a2 ≥ (1 : Int))), false), ((a0 == (6 : Int)), true), ((a0 == (5 : Int)), false), ((a0 == (4 : Int)), false), ((a0 == (3 : Int)), false), ((a0 == (2 : Int)), false), ((a0 == (1 : Int)), false)]) (by kernel_rfl) (oN <| oT <| oF <| oF <| oF <| oF <| oF obs_nil) rfl (by decide) (by rfl) rr trivial
      ·
       refine fx_ite (fun g6 => ?_) (fun g6 => ?_)
       ·
        exact fx_fin (r := (.r0 (true) : ref10_fitsR)) (fu := 4000) (orc := (orcw [(0, false), (1, false), (2, false), (3, false), (4, false), (5, false), (6, true)] [] [] [] [])) (live := []) (u := Value.bool true) (bl := []) (ob := [((a1 == (0 : Int)), true), ((a0 == (6 : Int)), false), ((a0 == (5 : Int)), false), ((a0 == (4 : Int)), false), ((a0 == (3 : Int)), false), ((a0 == (2 : Int)), false), ((a0 == (1 : Int)), false)]) (by kernel_rfl) (oT <| oF <| oF <| oF <| oF <| oF <| oF obs_nil) rfl (by decide) (by rfl) rr trivial
       ·
        exact fx_fin (r := (.r0 (false) : ref10_fitsR)) (fu := 4000) (orc := (orcw [(0, false), (1, false), (2, false), (3, false), (4, false), (5, false), (6, false)] [] [] [] [])) (live := []) (u := Value.bool false) (bl := []) (ob := [((a1 == (0 : Int)), false), ((a0 == (6 : Int)), false), ((a0 == (5 : Int)), false), ((a0 == (4 : Int)), false), ((a0 == (3 : Int)), false), ((a0 == (2 : Int)), false), ((a0 == (1 : Int)), false)]) (by kernel_rfl) (oF <| oF <| oF <| oF <| oF <| oF <| oF obs_nil) rfl (by decide) (by rfl) rr trivial

theorem ref10_fits_spec (a0 a1 a2 : Int) (N : Nat) (r : ref10_fitsR) (h : ref10_fits a0 a1 a2 N = some r) : LSpec Try.prog 40 #[vi a0, vi a1, vi a2] [] (ref10_fitsV a0 a1 a2 r) (ref10_fitsPo a0 a1 a2 r) :=
 fx_spec fit_Cf Try.func40 (by kernel_rfl) (by kernel_rfl) (fun r => by cases r <;> exact le_far _ rfl) (ref10_fits_fx a0 a1 a2 N) h

noncomputable def ref10_fitsT0 (a0 a1 a2 : Int) (w0 : Bool) (n : Nat) : Told := .call [] (Value.bool w0) [] 0
def ref10_fitsP0 (A : Array Value) (a0 a1 a2 : Int) (w0 : Bool) (n : Nat) : Prop := CallSpec Try.prog 40 A [] (Value.bool w0) [] n 0

theorem ref10_fitsC0 (A : Array Value) (a0 a1 a2 : Int) (w0 : Bool) (N : Nat) (h : ref10_fits a0 a1 a2 N = some (.r0 w0)) (n : Nat) (hA : A = #[vi a0, vi a1, vi a2]) (hnd : ([] : List Nat).Nodup) (hlt : ∀ k ∈ ([] : List Nat), k < n) : ref10_fitsP0 A a0 a1 a2 w0  n :=
 cs_args hA (LSpec.callL (show LSpec Try.prog 40 #[vi a0, vi a1, vi a2] [] (Value.bool w0) [] from ref10_fits_spec a0 a1 a2 N _ h) [] n [] rfl hnd hlt (show 0 ≤ 0 from by decide) (show ∀ j ∈ ([] : List Nat), j < 0 from by decide) (by rfl) trivial (by rfl) trivial trivial rfl rfl rfl rfl rfl)

noncomputable def ref10_IsV (a0 a1 a2 a3 : Int) : ref10_IsR → Value
 | .r0 w0 => Value.bool w0
noncomputable def ref10_IsPo (a0 a1 a2 a3 : Int) : ref10_IsR → List (Option AObj)
 | .r0 w0 => []

theorem ref10_Is_fx (a0 a1 a2 a3 : Int) (N : Nat) : Fx Try.prog ext_Cf Try.f28 [] #[Value.agg #[vi a0, vi a1, vi a2, vi a3]] (ref10_IsV a0 a1 a2 a3) (ref10_IsPo a0 a1 a2 a3) (ref10_Is a0 a1 a2 a3 N) := by
 unfold ref10_Is
 refine fx_bind (fun z0 c0 => ?_)
 cases z0 with
 | r0 y0_0 y0_1 y0_2 y0_3 =>
  refine fx_ite (fun g1 => ?_) (fun g1 => ?_)
  ·
   subst g1
   refine fx_bind (fun z2 c2 => ?_)
   cases z2 with
   | r0 y2_0 =>
    refine fx_ite (fun g3 => ?_) (fun g3 => ?_)
    ·
     subst g3
     refine fx_bind (fun z4 c4 => ?_)
     cases z4 with
     | r0 y4_0 =>
      refine fx_ite (fun g5 => ?_) (fun g5 => ?_)
      ·
       subst g5
       refine fx_bind (fun z6 c6 => ?_)
       cases z6 with
       | r0 y6_0 =>
        refine fx_ite (fun g7 => ?_) (fun g7 => ?_)
        ·
         subst g7
         exact fx_fin (r := (.r0 (true) : ref10_IsR)) (fu := 4000) (orc := (orcw [] [] [] [] [(0, (ref10_HasT0 (a0)  y0_0 y0_1 y0_2 true  1)), (2, (ref10_fitsT0 (y0_0) (a1) ((0 : Int))  true  2)), (3, (ref10_fitsT0 (y0_1) (a2) ((0 : Int))  true  2)), (4, (ref10_fitsT0 (y0_2) (a3) (a2)  true  2))])) (live := []) (u := Value.bool true) (bl := []) (ob := [(dP (ref10_fitsP0 #[vi y0_2, vi a3, vi a2] (y0_2) (a3) (a2)  true  2), true), (dP (ref10_fitsP0 #[vi y0_1, vi a2, vi (0 : Int)] (y0_1) (a2) ((0 : Int))  true  2), true), (dP (ref10_fitsP0 #[vi y0_0, vi a1, vi (0 : Int)] (y0_0) (a1) ((0 : Int))  true  2), true), (dP (ref10_HasP0 #[vi a0] (a0)  y0_0 y0_1 y0_2 true  1), true)]) (by kernel_rfl) (obs_cons (dP_of (ref10_fitsC0 #[vi y0_2, vi a3, vi a2] (y0_2) (a3) (a2)  true N c6  2 rfl (by decide) (by decide))) <| obs_cons (dP_of (ref10_fitsC0 #[vi y0_1, vi a2, vi (0 : Int)] (y0_1) (a2) ((0 : Int))  true N c4  2 rfl (by decide) (by decide))) <| obs_cons (dP_of (ref10_fitsC0 #[vi y0_0, vi a1, vi (0 : Int)] (y0_0) (a1) ((0 : Int))  true N c2  2 rfl (by decide) (by decide))) <| obs_cons (dP_of (ref10_HasC0 #[vi a0] (a0)  y0_0 y0_1 y0_2 true N c0  1 rfl (by decide) (by decide))) obs_nil) rfl (by decide) (by rfl) rr trivial
        ·
         obtain rfl : y6_0 = false := by simpa using g7
         exact fx_fin (r := (.r0 (false) : ref10_IsR)) (fu := 4000) (orc := (orcw [] [] [] [] [(0, (ref10_HasT0 (a0)  y0_0 y0_1 y0_2 true  1)), (2, (ref10_fitsT0 (y0_0) (a1) ((0 : Int))  true  2)), (3, (ref10_fitsT0 (y0_1) (a2) ((0 : Int))  true  2)), (4, (ref10_fitsT0 (y0_2) (a3) (a2)  false  2))])) (live := []) (u := Value.bool false) (bl := []) (ob := [(dP (ref10_fitsP0 #[vi y0_2, vi a3, vi a2] (y0_2) (a3) (a2)  false  2), true), (dP (ref10_fitsP0 #[vi y0_1, vi a2, vi (0 : Int)] (y0_1) (a2) ((0 : Int))  true  2), true), (dP (ref10_fitsP0 #[vi y0_0, vi a1, vi (0 : Int)] (y0_0) (a1) ((0 : Int))  true  2), true), (dP (ref10_HasP0 #[vi a0] (a0)  y0_0 y0_1 y0_2 true  1), true)]) (by kernel_rfl) (obs_cons (dP_of (ref10_fitsC0 #[vi y0_2, vi a3, vi a2] (y0_2) (a3) (a2)  false N c6  2 rfl (by decide) (by decide))) <| obs_cons (dP_of (ref10_fitsC0 #[vi y0_1, vi a2, vi (0 : Int)] (y0_1) (a2) ((0 : Int))  true N c4  2 rfl (by decide) (by decide))) <| obs_cons (dP_of (ref10_fitsC0 #[vi y0_0, vi a1, vi (0 : Int)] (y0_0) (a1) ((0 : Int))  true N c2  2 rfl (by decide) (by decide))) <| obs_cons (dP_of (ref10_HasC0 #[vi a0] (a0)  y0_0 y0_1 y0_2 true N c0  1 rfl (by decide) (by decide))) obs_nil) rfl (by decide) (by rfl) rr trivial
      ·
       obtain rfl : y4_0 = false := by simpa using g5
       exact fx_fin (r := (.r0 (false) : ref10_IsR)) (fu := 4000) (orc := (orcw [] [] [] [] [(0, (ref10_HasT0 (a0)  y0_0 y0_1 y0_2 true  1)), (2, (ref10_fitsT0 (y0_0) (a1) ((0 : Int))  true  2)), (3, (ref10_fitsT0 (y0_1) (a2) ((0 : Int))  false  2))])) (live := []) (u := Value.bool false) (bl := []) (ob := [(dP (ref10_fitsP0 #[vi y0_1, vi a2, vi (0 : Int)] (y0_1) (a2) ((0 : Int))  false  2), true), (dP (ref10_fitsP0 #[vi y0_0, vi a1, vi (0 : Int)] (y0_0) (a1) ((0 : Int))  true  2), true), (dP (ref10_HasP0 #[vi a0] (a0)  y0_0 y0_1 y0_2 true  1), true)]) (by kernel_rfl) (obs_cons (dP_of (ref10_fitsC0 #[vi y0_1, vi a2, vi (0 : Int)] (y0_1) (a2) ((0 : Int))  false N c4  2 rfl (by decide) (by decide))) <| obs_cons (dP_of (ref10_fitsC0 #[vi y0_0, vi a1, vi (0 : Int)] (y0_0) (a1) ((0 : Int))  true N c2  2 rfl (by decide) (by decide))) <| obs_cons (dP_of (ref10_HasC0 #[vi a0] (a0)  y0_0 y0_1 y0_2 true N c0  1 rfl (by decide) (by decide))) obs_nil) rfl (by decide) (by rfl) rr trivial
    ·
     obtain rfl : y2_0 = false := by simpa using g3
     exact fx_fin (r := (.r0 (false) : ref10_IsR)) (fu := 4000) (orc := (orcw [] [] [] [] [(0, (ref10_HasT0 (a0)  y0_0 y0_1 y0_2 true  1)), (2, (ref10_fitsT0 (y0_0) (a1) ((0 : Int))  false  2))])) (live := []) (u := Value.bool false) (bl := []) (ob := [(dP (ref10_fitsP0 #[vi y0_0, vi a1, vi (0 : Int)] (y0_0) (a1) ((0 : Int))  false  2), true), (dP (ref10_HasP0 #[vi a0] (a0)  y0_0 y0_1 y0_2 true  1), true)]) (by kernel_rfl) (obs_cons (dP_of (ref10_fitsC0 #[vi y0_0, vi a1, vi (0 : Int)] (y0_0) (a1) ((0 : Int))  false N c2  2 rfl (by decide) (by decide))) <| obs_cons (dP_of (ref10_HasC0 #[vi a0] (a0)  y0_0 y0_1 y0_2 true N c0  1 rfl (by decide) (by decide))) obs_nil) rfl (by decide) (by rfl) rr trivial
  ·
   obtain rfl : y0_3 = false := by simpa using g1
   exact fx_fin (r := (.r0 (false) : ref10_IsR)) (fu := 4000) (orc := (orcw [] [] [] [] [(0, (ref10_HasT0 (a0)  y0_0 y0_1 y0_2 false  1))])) (live := []) (u := Value.bool false) (bl := []) (ob := [(dP (ref10_HasP0 #[vi a0] (a0)  y0_0 y0_1 y0_2 false  1), true)]) (by kernel_rfl) (obs_cons (dP_of (ref10_HasC0 #[vi a0] (a0)  y0_0 y0_1 y0_2 false N c0  1 rfl (by decide) (by decide))) obs_nil) rfl (by decide) (by rfl) rr trivial

theorem ref10_Is_spec (a0 a1 a2 a3 : Int) (N : Nat) (r : ref10_IsR) (h : ref10_Is a0 a1 a2 a3 N = some r) : LSpec Try.prog 28 #[Value.agg #[vi a0, vi a1, vi a2, vi a3]] [] (ref10_IsV a0 a1 a2 a3 r) (ref10_IsPo a0 a1 a2 a3 r) :=
 fx_spec fit_Cf Try.func28 (by kernel_rfl) (by kernel_rfl) (fun r => by cases r <;> exact le_far _ rfl) (ref10_Is_fx a0 a1 a2 a3 N) h

noncomputable def ref10_IsT0 (a0 a1 a2 a3 : Int) (w0 : Bool) (n : Nat) : Told := .call [] (Value.bool w0) [] 0
def ref10_IsP0 (A : Array Value) (a0 a1 a2 a3 : Int) (w0 : Bool) (n : Nat) : Prop := CallSpec Try.prog 28 A [] (Value.bool w0) [] n 0

theorem ref10_IsC0 (A : Array Value) (a0 a1 a2 a3 : Int) (w0 : Bool) (N : Nat) (h : ref10_Is a0 a1 a2 a3 N = some (.r0 w0)) (n : Nat) (hA : A = #[Value.agg #[vi a0, vi a1, vi a2, vi a3]]) (hnd : ([] : List Nat).Nodup) (hlt : ∀ k ∈ ([] : List Nat), k < n) : ref10_IsP0 A a0 a1 a2 a3 w0  n :=
 cs_args hA (LSpec.callL (show LSpec Try.prog 28 #[Value.agg #[vi a0, vi a1, vi a2, vi a3]] [] (Value.bool w0) [] from ref10_Is_spec a0 a1 a2 a3 N _ h) [] n [] rfl hnd hlt (show 0 ≤ 0 from by decide) (show ∀ j ∈ ([] : List Nat), j < 0 from by decide) (by rfl) trivial (by rfl) trivial trivial rfl rfl rfl rfl rfl)

noncomputable def ref12_step_2V (L0 : List R_ii) (a1 a2 a3 a4 a5 : Int) : ref12_step_2R → Value
 | .r0 w1 => Value.tuple #[vs 0 0 L0.length L0.length, Value.bool w1]
 | .r1 w1 => Value.tuple #[vs 1 0 w1.length w1.length, Value.bool true]
 | .r2 => Value.tuple #[vs 1 0 (L0.take (L0.length - 1)).length (L0.take (L0.length - 1)).length, Value.bool true]
noncomputable def ref12_step_2Po (L0 : List R_ii) (a1 a2 a3 a4 a5 : Int) : ref12_step_2R → List (Option AObj)
 | .r0 w1 => [some (.cells (rowV E_ii L0) 58)]
 | .r1 w1 => [some (.cells (rowV E_ii L0) 58), some (.cells (rowV E_ii w1) 58)]
 | .r2 => [none, some (.cells (rowV E_ii (L0.take (L0.length - 1))) 58)]

theorem ref12_step_2_fx (L0 : List R_ii) (a1 a2 a3 a4 a5 : Int) (N : Nat) : Fx Try.prog ext_Cf Try.f27 [.cells (rowV E_ii L0) 58] #[vs 0 0 L0.length L0.length, Value.agg #[vi a1, vi a2, vi a3, vi a4], vi a5] (ref12_step_2V L0 a1 a2 a3 a4 a5) (ref12_step_2Po L0 a1 a2 a3 a4 a5) (ref12_step_2 L0 a1 a2 a3 a4 a5 N) := by
 unfold ref12_step_2
 refine fx_ite (fun g0 => ?_) (fun g0 => ?_)
 ·
  refine fx_ite (fun g1 => ?_) (fun g1 => ?_)
  ·
   exact fx_fin (r := (.r0 (false) : ref12_step_2R)) (fu := 4000) (orc := (orcw [(0, true), (1, true)] [] [] [] [])) (live := [0]) (u := Value.tuple #[vs 0 0 L0.length L0.length, Value.bool false]) (bl := [some (.cells (rowV E_ii L0) 58)]) (ob := [((decide (((L0.length : Nat) : Int) ≥ (8 : Int))), true), ((a1 == (15 : Int)), true)]) (by kernel_rfl) (oY <| oT obs_nil) rfl (by decide) (by rfl) rr ⟨(same_row (E := E_ii) (α := R_ii) _ L0 _), trivial⟩
  ·
   refine fx_ite (fun g2 => ?_) (fun g2 => ?_)
   ·
    exact fx_fin (r := (.r1 (([(⟨a5, (0 : Int)⟩ : R_ii)] : List R_ii)) : ref12_step_2R)) (fu := 4000) (orc := (orcw [(0, true), (1, false)] [] [] [] [(0, .ap0)])) (live := [0, 4]) (u := Value.tuple #[vs 4 0 1 1, Value.bool true]) (bl := [some (.cells (rowV E_ii L0) 58), some (.cells [vi a5, vi (0 : Int)] 58)]) (ob := [(dP (0 = L0.length ∧ takeN (L0.length * 2) (List.drop 0 (rowV E_ii L0)) = some [] ∧ allB cell1 [] = true), true), ((decide (((L0.length : Nat) : Int) ≥ (8 : Int))), false), ((a1 == (15 : Int)), true)]) (by kernel_rfl) (obs_cons (dP_of ⟨by omega, by rw [show L0.length = 0 by omega]; rfl, rfl⟩) <| oN <| oT obs_nil) rfl (by decide) (by rfl) ⟨Eq.trans (show (Value.tuple #[vs 1 0 ([(⟨a5, (0 : Int)⟩ : R_ii)] : List R_ii).length ([(⟨a5, (0 : Int)⟩ : R_ii)] : List R_ii).length, Value.bool true] : Value) = Value.tuple #[vs 1 0 1 1, Value.bool true] from (tuple_eq (cons_eq (slice_eq rfl eqA eqA) (cons_eq rfl rfl)))) (by rfl), by rfl⟩ ⟨(same_row (E := E_ii) (α := R_ii) _ L0 _), ⟨(same_cells (E := E_ii) _ (L := ([(⟨a5, (0 : Int)⟩ : R_ii)] : List R_ii)) _ (show ([vi a5, vi (0 : Int)] : List Value) = rowV E_ii ([(⟨a5, (0 : Int)⟩ : R_ii)] : List R_ii) from rfl)), trivial⟩⟩
   ·
    exact fx_fin (r := (.r1 ((L0 ++ ([(⟨a5, (0 : Int)⟩ : R_ii)] : List R_ii))) : ref12_step_2R)) (fu := 4000) (orc := (orcw [(0, true), (1, false)] [] [] [] [(0, .ap L0.length (rowV E_ii L0) (rowV E_ii L0)), (1, .ap 1 [vi a5, vi (0 : Int)] (rowV E_ii (L0 ++ ([(⟨a5, (0 : Int)⟩ : R_ii)] : List R_ii))))])) (live := [0, 5]) (u := Value.tuple #[vs 5 0 ((0 + L0.length) + 1) ((0 + L0.length) + 1), Value.bool true]) (bl := [some (.cells (rowV E_ii L0) 58), some (.cells (rowV E_ii (L0 ++ ([(⟨a5, (0 : Int)⟩ : R_ii)] : List R_ii))) 58)]) (ob := [(dP ((1 = 1 ∧ takeN (1 * 2) (List.drop 0 [vi a5, vi (0 : Int)]) = some [vi a5, vi (0 : Int)] ∧ allB cell1 [vi a5, vi (0 : Int)] = true) ∧ 0 < 1 ∧ 1 ≤ 100000 ∧ (0 + L0.length) < (0 + L0.length) + 1 ∧ (0 + L0.length) ≤ 100000 ∧ (0 + L0.length) * 2 ≤ (List.length (rowV E_ii L0)) ∧ List.take ((0 + L0.length) * 2) (rowV E_ii L0) ++ [vi a5, vi (0 : Int)] = (rowV E_ii (L0 ++ ([(⟨a5, (0 : Int)⟩ : R_ii)] : List R_ii)))), true), (dP ((L0.length = L0.length ∧ takeN (L0.length * 2) (List.drop 0 (rowV E_ii L0)) = some (rowV E_ii L0) ∧ allB cell1 (rowV E_ii L0) = true) ∧ 0 < L0.length ∧ L0.length ≤ 100000 ∧ 0 < 0 + L0.length ∧ 0 ≤ 100000 ∧ 0 * 2 ≤ (List.length []) ∧ List.take (0 * 2) [] ++ (rowV E_ii L0) = (rowV E_ii L0)), true), ((decide (((L0.length : Nat) : Int) ≥ (8 : Int))), false), ((a1 == (15 : Int)), true)]) (by kernel_rfl) (obs_cons (dP_of ⟨⟨rfl, ⟨rfl, rfl⟩⟩, by omega, by omega, ltA, by omega, (rowV_dst (E := E_ii) (L := L0) (M := ([(⟨a5, (0 : Int)⟩ : R_ii)] : List R_ii)) (n := (0 + L0.length)) (show _ = _ * 2 from rfl) (by omega) (R := (L0 ++ ([(⟨a5, (0 : Int)⟩ : R_ii)] : List R_ii))) (by rw [List.take_of_length_le (by omega)]))⟩) <| obs_cons (dP_of ⟨⟨rfl, (src_row (E := E_ii) (L := L0) (a := 0) (n := L0.length) (by omega) (by show _ = _ * 2; omega) (show _ = _ * 2 from rfl) (by rw [List.drop_zero, List.take_of_length_le (by omega)]))⟩, by omega, by omega, ltA, by omega, (rowV_dst (E := E_ii) (L := ([] : List R_ii)) (M := L0) (n := 0) (show _ = _ * 2 from rfl) ltA (R := L0) (by rw [List.take_of_length_le ltA]; rfl))⟩) <| oN <| oT obs_nil) rfl (by decide) (by rfl) ⟨Eq.trans (show (Value.tuple #[vs 1 0 (L0 ++ ([(⟨a5, (0 : Int)⟩ : R_ii)] : List R_ii)).length (L0 ++ ([(⟨a5, (0 : Int)⟩ : R_ii)] : List R_ii)).length, Value.bool true] : Value) = Value.tuple #[vs 1 0 ((0 + L0.length) + 1) ((0 + L0.length) + 1), Value.bool true] from (tuple_eq (cons_eq (slice_eq rfl eqA eqA) (cons_eq rfl rfl)))) (by rfl), by rfl⟩ ⟨(same_row (E := E_ii) (α := R_ii) _ L0 _), ⟨(same_row (E := E_ii) (α := R_ii) _ (L0 ++ ([(⟨a5, (0 : Int)⟩ : R_ii)] : List R_ii)) _), trivial⟩⟩
 ·
  refine fx_ite (fun g1 => ?_) (fun g1 => ?_)
  ·
   refine fx_ite (fun g2 => ?_) (fun g2 => ?_)
   ·
    exact fx_fin (r := (.r0 (false) : ref12_step_2R)) (fu := 4000) (orc := (orcw [(0, false), (1, true), (2, true)] [] [] [] [])) (live := [0]) (u := Value.tuple #[vs 0 0 L0.length L0.length, Value.bool false]) (bl := [some (.cells (rowV E_ii L0) 58)]) (ob := [((((L0.length : Nat) : Int) == (0 : Int)), true), ((a1 == (16 : Int)), true), ((a1 == (15 : Int)), false)]) (by kernel_rfl) (oT <| oT <| oF obs_nil) rfl (by decide) (by rfl) rr ⟨(same_row (E := E_ii) (α := R_ii) _ L0 _), trivial⟩
   ·
    refine fx_ite (fun g3 => ?_) (fun g3 => ?_)
    ·
     refine fx_ite (fun g4 => ?_) (fun g4 => ?_)
     ·
      exact fx_fin (r := (.r0 (false) : ref12_step_2R)) (fu := 4000) (orc := (orcw [(0, false), (1, true), (2, false), (3, true)] [(0, (((L0.length - 1) : Nat) : Int))] [(0, (L0.length - 1))] [(1, [.i (L0.getD (L0.length - 1) R_ii.z).a1])] [])) (live := [0]) (u := Value.tuple #[vs 0 0 L0.length L0.length, Value.bool false]) (bl := [some (.cells (rowV E_ii L0) 58)]) (ob := [(((L0.getD (L0.length - 1) R_ii.z).a1 == (1 : Int)), true), (sameR (takeN 1 (List.drop ((0 + ((L0.length - 1) * 2)) + 1) (rowV E_ii L0))) [.i (L0.getD (L0.length - 1) R_ii.z).a1], true), (Nat.blt (L0.length - 1) L0.length, true), ((((L0.length - 1) : Nat) : Int) == Int.ofNat (L0.length - 1), true), ((IntKind.i64.wrap (((L0.length : Nat) : Int) - (1 : Int))) == (((L0.length - 1) : Nat) : Int), true), ((((L0.length : Nat) : Int) == (0 : Int)), false), ((a1 == (16 : Int)), true), ((a1 == (15 : Int)), false)]) (by kernel_rfl) (oT <| obs_cons (rowV_load (E := E_ii) (L := L0) (i := (L0.length - 1)) (q := 1) (by omega) (show ((0 + ((L0.length - 1) * 2)) + 1) = (L0.length - 1) * 2 + 1 from by omega) (show 1 + 1 ≤ 2 from by decide) rfl rfl) <| oB <| oI <| obs_cons (beq_iff_eq.2 ((wrap_i64 ltA).trans (by first | rfl | omega))) <| oF <| oT <| oF obs_nil) rfl (by decide) (by rfl) rr ⟨(same_row (E := E_ii) (α := R_ii) _ L0 _), trivial⟩
     ·
      refine fx_ite (fun g5 => ?_) (fun g5 => ?_)
      ·
       exact fx_fin (r := (.r1 (([(⟨(L0.getD (L0.length - 1) R_ii.z).a0, (1 : Int)⟩ : R_ii)] : List R_ii)) : ref12_step_2R)) (fu := 4000) (orc := (orcw [(0, false), (1, true), (2, false), (3, false)] [(0, (((L0.length - 1) : Nat) : Int)), (1, (((L0.length - 1) : Nat) : Int)), (2, (((L0.length - 1) : Nat) : Int))] [(0, (L0.length - 1)), (1, (L0.length - 1))] [(1, [.i (L0.getD (L0.length - 1) R_ii.z).a1]), (2, [.i (L0.getD (L0.length - 1) R_ii.z).a0])] [(0, .sl 0 (L0.length - 1)), (1, .ap0)])) (live := [0, 4]) (u := Value.tuple #[vs 4 0 1 1, Value.bool true]) (bl := [some (.cells (rowV E_ii L0) 58), some (.cells [vi (L0.getD (L0.length - 1) R_ii.z).a0, vi (1 : Int)] 58)]) (ob := [(sameR (takeN 1 (List.drop ((0 + ((L0.length - 1) * 2)) + 0) (rowV E_ii L0))) [.i (L0.getD (L0.length - 1) R_ii.z).a0], true), (Nat.blt (L0.length - 1) L0.length, true), ((((L0.length - 1) : Nat) : Int) == Int.ofNat (L0.length - 1), true), ((IntKind.i64.wrap (((L0.length : Nat) : Int) - (1 : Int))) == (((L0.length - 1) : Nat) : Int), true), (dP (0 = ((L0.length - 1) - 0) ∧ takeN (((L0.length - 1) - 0) * 2) (List.drop (0 + (0 * 2)) (rowV E_ii L0)) = some [] ∧ allB cell1 [] = true), true), (dP (0 ≤ (L0.length - 1) ∧ (L0.length - 1) ≤ L0.length), true), ((((L0.length - 1) : Nat) : Int) == Int.ofNat (L0.length - 1), true), (dS 0, true), ((IntKind.i64.wrap (((L0.length : Nat) : Int) - (1 : Int))) == (((L0.length - 1) : Nat) : Int), true), (((L0.getD (L0.length - 1) R_ii.z).a1 == (1 : Int)), false), (sameR (takeN 1 (List.drop ((0 + ((L0.length - 1) * 2)) + 1) (rowV E_ii L0))) [.i (L0.getD (L0.length - 1) R_ii.z).a1], true), (Nat.blt (L0.length - 1) L0.length, true), ((((L0.length - 1) : Nat) : Int) == Int.ofNat (L0.length - 1), true), ((IntKind.i64.wrap (((L0.length : Nat) : Int) - (1 : Int))) == (((L0.length - 1) : Nat) : Int), true), ((((L0.length : Nat) : Int) == (0 : Int)), false), ((a1 == (16 : Int)), true), ((a1 == (15 : Int)), false)]) (by kernel_rfl) (obs_cons (rowV_load (E := E_ii) (L := L0) (i := (L0.length - 1)) (q := 0) (by omega) (show ((0 + ((L0.length - 1) * 2)) + 0) = (L0.length - 1) * 2 + 0 from by omega) (show 0 + 1 ≤ 2 from by decide) rfl rfl) <| oB <| oI <| obs_cons (beq_iff_eq.2 ((wrap_i64 ltA).trans (by first | rfl | omega))) <| obs_cons (dP_of ⟨by omega, by rw [show ((L0.length - 1) - 0) = 0 by omega]; rfl, rfl⟩) <| obs_cons (dP_of ⟨ltA, ltA⟩) <| oI <| oR <| obs_cons (beq_iff_eq.2 ((wrap_i64 ltA).trans (by first | rfl | omega))) <| oF <| obs_cons (rowV_load (E := E_ii) (L := L0) (i := (L0.length - 1)) (q := 1) (by omega) (show ((0 + ((L0.length - 1) * 2)) + 1) = (L0.length - 1) * 2 + 1 from by omega) (show 1 + 1 ≤ 2 from by decide) rfl rfl) <| oB <| oI <| obs_cons (beq_iff_eq.2 ((wrap_i64 ltA).trans (by first | rfl | omega))) <| oF <| oT <| oF obs_nil) rfl (by decide) (by rfl) ⟨Eq.trans (show (Value.tuple #[vs 1 0 ([(⟨(L0.getD (L0.length - 1) R_ii.z).a0, (1 : Int)⟩ : R_ii)] : List R_ii).length ([(⟨(L0.getD (L0.length - 1) R_ii.z).a0, (1 : Int)⟩ : R_ii)] : List R_ii).length, Value.bool true] : Value) = Value.tuple #[vs 1 0 1 1, Value.bool true] from (tuple_eq (cons_eq (slice_eq rfl eqA eqA) (cons_eq rfl rfl)))) (by rfl), by rfl⟩ ⟨(same_row (E := E_ii) (α := R_ii) _ L0 _), ⟨(same_cells (E := E_ii) _ (L := ([(⟨(L0.getD (L0.length - 1) R_ii.z).a0, (1 : Int)⟩ : R_ii)] : List R_ii)) _ (show ([vi (L0.getD (L0.length - 1) R_ii.z).a0, vi (1 : Int)] : List Value) = rowV E_ii ([(⟨(L0.getD (L0.length - 1) R_ii.z).a0, (1 : Int)⟩ : R_ii)] : List R_ii) from rfl)), trivial⟩⟩
      ·
       refine fx_ite (fun g6 => ?_) (fun g6 => ?_)
       ·
        exact fx_fin (r := (.r1 (((L0.take ((L0.length - 1) - 0)) ++ ([(⟨(L0.getD (L0.length - 1) R_ii.z).a0, (1 : Int)⟩ : R_ii)] : List R_ii))) : ref12_step_2R)) (fu := 4000) (orc := (orcw [(0, false), (1, true), (2, false), (3, false)] [(0, (((L0.length - 1) : Nat) : Int)), (1, (((L0.length - 1) : Nat) : Int)), (2, (((L0.length - 1) : Nat) : Int))] [(0, (L0.length - 1)), (1, (L0.length - 1))] [(1, [.i (L0.getD (L0.length - 1) R_ii.z).a1]), (2, [.i (L0.getD (L0.length - 1) R_ii.z).a0])] [(0, .sl 0 (L0.length - 1)), (1, .ap ((L0.length - 1) - 0) (rowV E_ii (L0.take ((L0.length - 1) - 0))) (rowV E_ii (L0.take ((L0.length - 1) - 0)))), (2, .ap 1 [vi (L0.getD (L0.length - 1) R_ii.z).a0, vi (1 : Int)] (rowV E_ii ((L0.take ((L0.length - 1) - 0)) ++ ([(⟨(L0.getD (L0.length - 1) R_ii.z).a0, (1 : Int)⟩ : R_ii)] : List R_ii))))])) (live := [0, 5]) (u := Value.tuple #[vs 5 0 ((0 + ((L0.length - 1) - 0)) + 1) ((0 + ((L0.length - 1) - 0)) + 1), Value.bool true]) (bl := [some (.cells (rowV E_ii L0) 58), some (.cells (rowV E_ii ((L0.take ((L0.length - 1) - 0)) ++ ([(⟨(L0.getD (L0.length - 1) R_ii.z).a0, (1 : Int)⟩ : R_ii)] : List R_ii))) 58)]) (ob := [(dP ((1 = 1 ∧ takeN (1 * 2) (List.drop 0 [vi (L0.getD (L0.length - 1) R_ii.z).a0, vi (1 : Int)]) = some [vi (L0.getD (L0.length - 1) R_ii.z).a0, vi (1 : Int)] ∧ allB cell1 [vi (L0.getD (L0.length - 1) R_ii.z).a0, vi (1 : Int)] = true) ∧ 0 < 1 ∧ 1 ≤ 100000 ∧ (0 + ((L0.length - 1) - 0)) < (0 + ((L0.length - 1) - 0)) + 1 ∧ (0 + ((L0.length - 1) - 0)) ≤ 100000 ∧ (0 + ((L0.length - 1) - 0)) * 2 ≤ (List.length (rowV E_ii (L0.take ((L0.length - 1) - 0)))) ∧ List.take ((0 + ((L0.length - 1) - 0)) * 2) (rowV E_ii (L0.take ((L0.length - 1) - 0))) ++ [vi (L0.getD (L0.length - 1) R_ii.z).a0, vi (1 : Int)] = (rowV E_ii ((L0.take ((L0.length - 1) - 0)) ++ ([(⟨(L0.getD (L0.length - 1) R_ii.z).a0, (1 : Int)⟩ : R_ii)] : List R_ii)))), true), (sameR (takeN 1 (List.drop ((0 + ((L0.length - 1) * 2)) + 0) (rowV E_ii L0))) [.i (L0.getD (L0.length - 1) R_ii.z).a0], true), (Nat.blt (L0.length - 1) L0.length, true), ((((L0.length - 1) : Nat) : Int) == Int.ofNat (L0.length - 1), true), ((IntKind.i64.wrap (((L0.length : Nat) : Int) - (1 : Int))) == (((L0.length - 1) : Nat) : Int), true), (dP ((((L0.length - 1) - 0) = ((L0.length - 1) - 0) ∧ takeN (((L0.length - 1) - 0) * 2) (List.drop (0 + (0 * 2)) (rowV E_ii L0)) = some (rowV E_ii (L0.take ((L0.length - 1) - 0))) ∧ allB cell1 (rowV E_ii (L0.take ((L0.length - 1) - 0))) = true) ∧ 0 < ((L0.length - 1) - 0) ∧ ((L0.length - 1) - 0) ≤ 100000 ∧ 0 < 0 + ((L0.length - 1) - 0) ∧ 0 ≤ 100000 ∧ 0 * 2 ≤ (List.length []) ∧ List.take (0 * 2) [] ++ (rowV E_ii (L0.take ((L0.length - 1) - 0))) = (rowV E_ii (L0.take ((L0.length - 1) - 0)))), true), (dP (0 ≤ (L0.length - 1) ∧ (L0.length - 1) ≤ L0.length), true), ((((L0.length - 1) : Nat) : Int) == Int.ofNat (L0.length - 1), true), (dS 0, true), ((IntKind.i64.wrap (((L0.length : Nat) : Int) - (1 : Int))) == (((L0.length - 1) : Nat) : Int), true), (((L0.getD (L0.length - 1) R_ii.z).a1 == (1 : Int)), false), (sameR (takeN 1 (List.drop ((0 + ((L0.length - 1) * 2)) + 1) (rowV E_ii L0))) [.i (L0.getD (L0.length - 1) R_ii.z).a1], true), (Nat.blt (L0.length - 1) L0.length, true), ((((L0.length - 1) : Nat) : Int) == Int.ofNat (L0.length - 1), true), ((IntKind.i64.wrap (((L0.length : Nat) : Int) - (1 : Int))) == (((L0.length - 1) : Nat) : Int), true), ((((L0.length : Nat) : Int) == (0 : Int)), false), ((a1 == (16 : Int)), true), ((a1 == (15 : Int)), false)]) (by kernel_rfl) (obs_cons (dP_of ⟨⟨rfl, ⟨rfl, rfl⟩⟩, by omega, by omega, ltA, by omega, (rowV_dst (E := E_ii) (L := (L0.take ((L0.length - 1) - 0))) (M := ([(⟨(L0.getD (L0.length - 1) R_ii.z).a0, (1 : Int)⟩ : R_ii)] : List R_ii)) (n := (0 + ((L0.length - 1) - 0))) (show _ = _ * 2 from rfl) ltA (R := ((L0.take ((L0.length - 1) - 0)) ++ ([(⟨(L0.getD (L0.length - 1) R_ii.z).a0, (1 : Int)⟩ : R_ii)] : List R_ii))) (by rw [List.take_of_length_le ltA]))⟩) <| obs_cons (rowV_load (E := E_ii) (L := L0) (i := (L0.length - 1)) (q := 0) (by omega) (show ((0 + ((L0.length - 1) * 2)) + 0) = (L0.length - 1) * 2 + 0 from by omega) (show 0 + 1 ≤ 2 from by decide) rfl rfl) <| oB <| oI <| obs_cons (beq_iff_eq.2 ((wrap_i64 ltA).trans (by first | rfl | omega))) <| obs_cons (dP_of ⟨⟨rfl, (src_row (E := E_ii) (L := L0) (a := 0) (n := ((L0.length - 1) - 0)) (by omega) (by show _ = _ * 2; omega) (show _ = _ * 2 from rfl) (by rw [List.drop_zero]))⟩, by omega, by omega, ltA, by omega, (rowV_dst (E := E_ii) (L := ([] : List R_ii)) (M := (L0.take ((L0.length - 1) - 0))) (n := 0) (show _ = _ * 2 from rfl) ltA (R := (L0.take ((L0.length - 1) - 0))) (by rw [List.take_of_length_le ltA]; rfl))⟩) <| obs_cons (dP_of ⟨ltA, ltA⟩) <| oI <| oR <| obs_cons (beq_iff_eq.2 ((wrap_i64 ltA).trans (by first | rfl | omega))) <| oF <| obs_cons (rowV_load (E := E_ii) (L := L0) (i := (L0.length - 1)) (q := 1) (by omega) (show ((0 + ((L0.length - 1) * 2)) + 1) = (L0.length - 1) * 2 + 1 from by omega) (show 1 + 1 ≤ 2 from by decide) rfl rfl) <| oB <| oI <| obs_cons (beq_iff_eq.2 ((wrap_i64 ltA).trans (by first | rfl | omega))) <| oF <| oT <| oF obs_nil) rfl (by decide) (by rfl) ⟨Eq.trans (show (Value.tuple #[vs 1 0 ((L0.take ((L0.length - 1) - 0)) ++ ([(⟨(L0.getD (L0.length - 1) R_ii.z).a0, (1 : Int)⟩ : R_ii)] : List R_ii)).length ((L0.take ((L0.length - 1) - 0)) ++ ([(⟨(L0.getD (L0.length - 1) R_ii.z).a0, (1 : Int)⟩ : R_ii)] : List R_ii)).length, Value.bool true] : Value) = Value.tuple #[vs 1 0 ((0 + ((L0.length - 1) - 0)) + 1) ((0 + ((L0.length - 1) - 0)) + 1), Value.bool true] from (tuple_eq (cons_eq (slice_eq rfl eqA eqA) (cons_eq rfl rfl)))) (by rfl), by rfl⟩ ⟨(same_row (E := E_ii) (α := R_ii) _ L0 _), ⟨(same_row (E := E_ii) (α := R_ii) _ ((L0.take ((L0.length - 1) - 0)) ++ ([(⟨(L0.getD (L0.length - 1) R_ii.z).a0, (1 : Int)⟩ : R_ii)] : List R_ii)) _), trivial⟩⟩
       ·
        exact fx_none
    ·
     exact fx_none
  ·
   refine fx_ite (fun g2 => ?_) (fun g2 => ?_)
   ·
    refine fx_ite (fun g3 => ?_) (fun g3 => ?_)
    ·
     exact fx_fin (r := (.r0 (false) : ref12_step_2R)) (fu := 4000) (orc := (orcw [(0, false), (1, false), (2, true), (3, true)] [] [] [] [])) (live := [0]) (u := Value.tuple #[vs 0 0 L0.length L0.length, Value.bool false]) (bl := [some (.cells (rowV E_ii L0) 58)]) (ob := [((((L0.length : Nat) : Int) == (0 : Int)), true), ((a1 == (17 : Int)), true), ((a1 == (16 : Int)), false), ((a1 == (15 : Int)), false)]) (by kernel_rfl) (oT <| oT <| oF <| oF obs_nil) rfl (by decide) (by rfl) rr ⟨(same_row (E := E_ii) (α := R_ii) _ L0 _), trivial⟩
    ·
     refine fx_ite (fun g4 => ?_) (fun g4 => ?_)
     ·
      exact fx_fin (r := (.r2 : ref12_step_2R)) (fu := 4000) (orc := (orcw [(0, false), (1, false), (2, true), (3, false)] [(0, (((L0.length - 1) : Nat) : Int))] [] [] [(0, .cut (L0.length - 1) (rowV E_ii (L0.take (L0.length - 1))))])) (live := [0, 2]) (u := Value.tuple #[vs 2 0 (L0.length - 1) (L0.length - 1), Value.bool true]) (bl := [none, some (.cells (rowV E_ii (L0.take (L0.length - 1))) 58)]) (ob := [(dP ((L0.length - 1) ≤ L0.length ∧ 0 < 2 ∧ L0.length * 2 ≤ ((rowV E_ii L0) : List Value).length ∧ List.take ((L0.length - 1) * 2) (rowV E_ii L0) = (rowV E_ii (L0.take (L0.length - 1)))), true), ((((L0.length - 1) : Nat) : Int) == Int.ofNat (L0.length - 1), true), (dS 0, true), ((IntKind.i64.wrap (((L0.length : Nat) : Int) - (1 : Int))) == (((L0.length - 1) : Nat) : Int), true), ((((L0.length : Nat) : Int) == (0 : Int)), false), ((a1 == (17 : Int)), true), ((a1 == (16 : Int)), false), ((a1 == (15 : Int)), false)]) (by kernel_rfl) (obs_cons (dP_of ⟨ltA, by decide, rowV_room (E := E_ii) (L := L0) (by omega) (show _ = _ * 2 from rfl), rowV_cut (E := E_ii) (L := L0) (R := (L0.take (L0.length - 1))) (show _ = _ * 2 from rfl) rfl⟩) <| oI <| oR <| obs_cons (beq_iff_eq.2 ((wrap_i64 ltA).trans (by first | rfl | omega))) <| oF <| oT <| oF <| oF obs_nil) rfl (by decide) (by rfl) ⟨Eq.trans (show (Value.tuple #[vs 1 0 (L0.take (L0.length - 1)).length (L0.take (L0.length - 1)).length, Value.bool true] : Value) = Value.tuple #[vs 1 0 (L0.length - 1) (L0.length - 1), Value.bool true] from (tuple_eq (cons_eq (slice_eq rfl eqA eqA) (cons_eq rfl rfl)))) (by rfl), by rfl⟩ ⟨(same_row (E := E_ii) (α := R_ii) _ (L0.take (L0.length - 1)) _), trivial⟩
     ·
      exact fx_none
   ·
    refine fx_ite (fun g3 => ?_) (fun g3 => ?_)
    ·
     refine fx_ite (fun g4 => ?_) (fun g4 => ?_)
     ·
      exact fx_fin (r := (.r0 (true) : ref12_step_2R)) (fu := 4000) (orc := (orcw [(0, false), (1, false), (2, false), (3, true), (4, true)] [] [] [] [])) (live := [0]) (u := Value.tuple #[vs 0 0 L0.length L0.length, Value.bool true]) (bl := [some (.cells (rowV E_ii L0) 58)]) (ob := [((decide (((L0.length : Nat) : Int) > (0 : Int))), true), ((a1 == (18 : Int)), true), ((a1 == (17 : Int)), false), ((a1 == (16 : Int)), false), ((a1 == (15 : Int)), false)]) (by kernel_rfl) (oY <| oT <| oF <| oF <| oF obs_nil) rfl (by decide) (by rfl) rr ⟨(same_row (E := E_ii) (α := R_ii) _ L0 _), trivial⟩
     ·
      exact fx_fin (r := (.r0 (false) : ref12_step_2R)) (fu := 4000) (orc := (orcw [(0, false), (1, false), (2, false), (3, true), (4, false)] [] [] [] [])) (live := [0]) (u := Value.tuple #[vs 0 0 L0.length L0.length, Value.bool false]) (bl := [some (.cells (rowV E_ii L0) 58)]) (ob := [((decide (((L0.length : Nat) : Int) > (0 : Int))), false), ((a1 == (18 : Int)), true), ((a1 == (17 : Int)), false), ((a1 == (16 : Int)), false), ((a1 == (15 : Int)), false)]) (by kernel_rfl) (oN <| oT <| oF <| oF <| oF obs_nil) rfl (by decide) (by rfl) rr ⟨(same_row (E := E_ii) (α := R_ii) _ L0 _), trivial⟩
    ·
     refine fx_ite (fun g4 => ?_) (fun g4 => ?_)
     ·
      refine fx_ite (fun g5 => ?_) (fun g5 => ?_)
      ·
       exact fx_fin (r := (.r0 (true) : ref12_step_2R)) (fu := 4000) (orc := (orcw [(0, false), (1, false), (2, false), (3, false), (4, true), (5, true)] [] [] [] [])) (live := [0]) (u := Value.tuple #[vs 0 0 L0.length L0.length, Value.bool true]) (bl := [some (.cells (rowV E_ii L0) 58)]) (ob := [((((L0.length : Nat) : Int) == (0 : Int)), true), ((a1 == (20 : Int)), true), ((a1 == (18 : Int)), false), ((a1 == (17 : Int)), false), ((a1 == (16 : Int)), false), ((a1 == (15 : Int)), false)]) (by kernel_rfl) (oT <| oT <| oF <| oF <| oF <| oF obs_nil) rfl (by decide) (by rfl) rr ⟨(same_row (E := E_ii) (α := R_ii) _ L0 _), trivial⟩
      ·
       exact fx_fin (r := (.r0 (false) : ref12_step_2R)) (fu := 4000) (orc := (orcw [(0, false), (1, false), (2, false), (3, false), (4, true), (5, false)] [] [] [] [])) (live := [0]) (u := Value.tuple #[vs 0 0 L0.length L0.length, Value.bool false]) (bl := [some (.cells (rowV E_ii L0) 58)]) (ob := [((((L0.length : Nat) : Int) == (0 : Int)), false), ((a1 == (20 : Int)), true), ((a1 == (18 : Int)), false), ((a1 == (17 : Int)), false), ((a1 == (16 : Int)), false), ((a1 == (15 : Int)), false)]) (by kernel_rfl) (oF <| oT <| oF <| oF <| oF <| oF obs_nil) rfl (by decide) (by rfl) rr ⟨(same_row (E := E_ii) (α := R_ii) _ L0 _), trivial⟩
     ·
      exact fx_fin (r := (.r0 (true) : ref12_step_2R)) (fu := 4000) (orc := (orcw [(0, false), (1, false), (2, false), (3, false), (4, false)] [] [] [] [])) (live := [0]) (u := Value.tuple #[vs 0 0 L0.length L0.length, Value.bool true]) (bl := [some (.cells (rowV E_ii L0) 58)]) (ob := [((a1 == (20 : Int)), false), ((a1 == (18 : Int)), false), ((a1 == (17 : Int)), false), ((a1 == (16 : Int)), false), ((a1 == (15 : Int)), false)]) (by kernel_rfl) (oF <| oF <| oF <| oF <| oF obs_nil) rfl (by decide) (by rfl) rr ⟨(same_row (E := E_ii) (α := R_ii) _ L0 _), trivial⟩

theorem ref12_step_2_spec (L0 : List R_ii) (a1 a2 a3 a4 a5 : Int) (N : Nat) (r : ref12_step_2R) (h : ref12_step_2 L0 a1 a2 a3 a4 a5 N = some r) : LSpec Try.prog 27 #[vs 0 0 L0.length L0.length, Value.agg #[vi a1, vi a2, vi a3, vi a4], vi a5] [.cells (rowV E_ii L0) 58] (ref12_step_2V L0 a1 a2 a3 a4 a5 r) (ref12_step_2Po L0 a1 a2 a3 a4 a5 r) :=
 fx_spec fit_Cf Try.func27 (by kernel_rfl) (by kernel_rfl) (fun r => by cases r <;> exact le_far _ rfl) (ref12_step_2_fx L0 a1 a2 a3 a4 a5 N) h

noncomputable def ref12_step_2T0 (L0 : List R_ii) (a1 a2 a3 a4 a5 : Int) (w1 : Bool) (k0 n : Nat) : Told := .call [(k0, .cells (rowV E_ii L0) 58)] (Value.tuple #[vs k0 0 L0.length L0.length, Value.bool w1]) [] 0
def ref12_step_2P0 (A : Array Value) (L0 : List R_ii) (a1 a2 a3 a4 a5 : Int) (w1 : Bool) (k0 n : Nat) : Prop := CallSpec Try.prog 27 A [(k0, .cells (rowV E_ii L0) 58)] (Value.tuple #[vs k0 0 L0.length L0.length, Value.bool w1]) [] n 0

theorem ref12_step_2C0 (A : Array Value) (L0 : List R_ii) (a1 a2 a3 a4 a5 : Int) (w1 : Bool) (N : Nat) (h : ref12_step_2 L0 a1 a2 a3 a4 a5 N = some (.r0 w1)) (k0 n : Nat) (hA : A = #[vs k0 0 L0.length L0.length, Value.agg #[vi a1, vi a2, vi a3, vi a4], vi a5]) (hnd : ([k0] : List Nat).Nodup) (hlt : ∀ k ∈ ([k0] : List Nat), k < n) : ref12_step_2P0 A L0 a1 a2 a3 a4 a5 w1 k0 n :=
 cs_args hA (LSpec.callL (show LSpec Try.prog 27 #[vs 0 0 L0.length L0.length, Value.agg #[vi a1, vi a2, vi a3, vi a4], vi a5] [.cells (rowV E_ii L0) 58] (Value.tuple #[vs 0 0 L0.length L0.length, Value.bool w1]) [some (.cells (rowV E_ii L0) 58)] from ref12_step_2_spec L0 a1 a2 a3 a4 a5 N _ h) [k0] n [] rfl hnd hlt (show 1 ≤ 1 from by decide) (show ∀ j ∈ ([] : List Nat), j < 1 from by decide) (by rfl) ⟨(under_row _ _ _), trivial⟩ (by rfl) ⟨(under_row _ _ _), trivial⟩ ⟨.inr rfl, trivial⟩ rfl rfl rfl (cons_eq (pair_eq rfl (renO_row _ _ _)) rfl) rfl)

noncomputable def ref12_step_2T1 (L0 : List R_ii) (a1 a2 a3 a4 a5 : Int) (w1 : List R_ii) (k0 n : Nat) : Told := .call [(k0, .cells (rowV E_ii L0) 58)] (Value.tuple #[vs n 0 w1.length w1.length, Value.bool true]) [(n, some (.cells (rowV E_ii w1) 58))] 1
def ref12_step_2P1 (A : Array Value) (L0 : List R_ii) (a1 a2 a3 a4 a5 : Int) (w1 : List R_ii) (k0 n : Nat) : Prop := CallSpec Try.prog 27 A [(k0, .cells (rowV E_ii L0) 58)] (Value.tuple #[vs n 0 w1.length w1.length, Value.bool true]) [(n, some (.cells (rowV E_ii w1) 58))] n 1

theorem ref12_step_2C1 (A : Array Value) (L0 : List R_ii) (a1 a2 a3 a4 a5 : Int) (w1 : List R_ii) (N : Nat) (h : ref12_step_2 L0 a1 a2 a3 a4 a5 N = some (.r1 w1)) (k0 n : Nat) (hA : A = #[vs k0 0 L0.length L0.length, Value.agg #[vi a1, vi a2, vi a3, vi a4], vi a5]) (hnd : ([k0] : List Nat).Nodup) (hlt : ∀ k ∈ ([k0] : List Nat), k < n) : ref12_step_2P1 A L0 a1 a2 a3 a4 a5 w1 k0 n :=
 cs_args hA (LSpec.callL (show LSpec Try.prog 27 #[vs 0 0 L0.length L0.length, Value.agg #[vi a1, vi a2, vi a3, vi a4], vi a5] [.cells (rowV E_ii L0) 58] (Value.tuple #[vs 1 0 w1.length w1.length, Value.bool true]) [some (.cells (rowV E_ii L0) 58), some (.cells (rowV E_ii w1) 58)] from ref12_step_2_spec L0 a1 a2 a3 a4 a5 N _ h) [k0] n [1] rfl hnd hlt (show 1 ≤ 2 from by decide) (show ∀ j ∈ ([1] : List Nat), j < 2 from by decide) (by rfl) ⟨(under_row _ _ _), trivial⟩ (by rfl) ⟨(under_row _ _ _), ⟨(under_row _ _ _), trivial⟩⟩ ⟨.inr rfl, ⟨(by decide), trivial⟩⟩ rfl rfl rfl (cons_eq (pair_eq rfl (renO_row _ _ _)) rfl) (cons_eq (pair_eq rfl (some_eq (renO_row _ _ _))) rfl))

noncomputable def ref12_step_2T2 (L0 : List R_ii) (a1 a2 a3 a4 a5 : Int) (k0 n : Nat) : Told := .call [(k0, .cells (rowV E_ii L0) 58)] (Value.tuple #[vs n 0 (L0.take (L0.length - 1)).length (L0.take (L0.length - 1)).length, Value.bool true]) [(k0, none), (n, some (.cells (rowV E_ii (L0.take (L0.length - 1))) 58))] 1
def ref12_step_2P2 (A : Array Value) (L0 : List R_ii) (a1 a2 a3 a4 a5 : Int) (k0 n : Nat) : Prop := CallSpec Try.prog 27 A [(k0, .cells (rowV E_ii L0) 58)] (Value.tuple #[vs n 0 (L0.take (L0.length - 1)).length (L0.take (L0.length - 1)).length, Value.bool true]) [(k0, none), (n, some (.cells (rowV E_ii (L0.take (L0.length - 1))) 58))] n 1

theorem ref12_step_2C2 (A : Array Value) (L0 : List R_ii) (a1 a2 a3 a4 a5 : Int) (N : Nat) (h : ref12_step_2 L0 a1 a2 a3 a4 a5 N = some (.r2)) (k0 n : Nat) (hA : A = #[vs k0 0 L0.length L0.length, Value.agg #[vi a1, vi a2, vi a3, vi a4], vi a5]) (hnd : ([k0] : List Nat).Nodup) (hlt : ∀ k ∈ ([k0] : List Nat), k < n) : ref12_step_2P2 A L0 a1 a2 a3 a4 a5 k0 n :=
 cs_args hA (LSpec.callL (show LSpec Try.prog 27 #[vs 0 0 L0.length L0.length, Value.agg #[vi a1, vi a2, vi a3, vi a4], vi a5] [.cells (rowV E_ii L0) 58] (Value.tuple #[vs 1 0 (L0.take (L0.length - 1)).length (L0.take (L0.length - 1)).length, Value.bool true]) [none, some (.cells (rowV E_ii (L0.take (L0.length - 1))) 58)] from ref12_step_2_spec L0 a1 a2 a3 a4 a5 N _ h) [k0] n [0, 1] rfl hnd hlt (show 1 ≤ 2 from by decide) (show ∀ j ∈ ([0, 1] : List Nat), j < 2 from by decide) (by rfl) ⟨(under_row _ _ _), trivial⟩ (by rfl) ⟨(under_row _ _ _), trivial⟩ ⟨.inl (by decide), ⟨(by decide), trivial⟩⟩ rfl rfl rfl (cons_eq (pair_eq rfl (renO_row _ _ _)) rfl) (cons_eq (pair_eq rfl rfl) (cons_eq (pair_eq rfl (some_eq (renO_row _ _ _))) rfl)))

noncomputable def ref10_TargetV (a0 a1 a2 a3 : Int) : ref10_TargetR → Value
 | .r0 w0 w1 => Value.tuple #[vi w0, Value.bool w1]
noncomputable def ref10_TargetPo (a0 a1 a2 a3 : Int) : ref10_TargetR → List (Option AObj)
 | .r0 w0 w1 => []

theorem ref10_Target_fx (a0 a1 a2 a3 : Int) (N : Nat) : Fx Try.prog ext_Cf Try.f24 [] #[Value.agg #[vi a0, vi a1, vi a2, vi a3]] (ref10_TargetV a0 a1 a2 a3) (ref10_TargetPo a0 a1 a2 a3) (ref10_Target a0 a1 a2 a3 N) := by
 unfold ref10_Target
 refine fx_ite (fun g0 => ?_) (fun g0 => ?_)
 ·
  exact fx_fin (r := (.r0 (a1) (true) : ref10_TargetR)) (fu := 4000) (orc := (orcw [(0, true)] [] [] [] [])) (live := []) (u := Value.tuple #[vi a1, Value.bool true]) (bl := []) (ob := [((a0 == (8 : Int)), true)]) (by kernel_rfl) (oT obs_nil) rfl (by decide) (by rfl) rr trivial
 ·
  refine fx_ite (fun g1 => ?_) (fun g1 => ?_)
  ·
   exact fx_fin (r := (.r0 (a2) (true) : ref10_TargetR)) (fu := 4000) (orc := (orcw [(0, false), (1, true)] [] [] [] [])) (live := []) (u := Value.tuple #[vi a2, Value.bool true]) (bl := []) (ob := [((a0 == (9 : Int)), true), ((a0 == (8 : Int)), false)]) (by kernel_rfl) (oT <| oF obs_nil) rfl (by decide) (by rfl) rr trivial
  ·
   exact fx_fin (r := (.r0 ((0 : Int)) (false) : ref10_TargetR)) (fu := 4000) (orc := (orcw [(0, false), (1, false)] [] [] [] [])) (live := []) (u := Value.tuple #[vi (0 : Int), Value.bool false]) (bl := []) (ob := [((a0 == (9 : Int)), false), ((a0 == (8 : Int)), false)]) (by kernel_rfl) (oF <| oF obs_nil) rfl (by decide) (by rfl) rr trivial

theorem ref10_Target_spec (a0 a1 a2 a3 : Int) (N : Nat) (r : ref10_TargetR) (h : ref10_Target a0 a1 a2 a3 N = some r) : LSpec Try.prog 24 #[Value.agg #[vi a0, vi a1, vi a2, vi a3]] [] (ref10_TargetV a0 a1 a2 a3 r) (ref10_TargetPo a0 a1 a2 a3 r) :=
 fx_spec fit_Cf Try.func24 (by kernel_rfl) (by kernel_rfl) (fun r => by cases r <;> exact le_far _ rfl) (ref10_Target_fx a0 a1 a2 a3 N) h

noncomputable def ref10_TargetT0 (a0 a1 a2 a3 w0 : Int) (w1 : Bool) (n : Nat) : Told := .call [] (Value.tuple #[vi w0, Value.bool w1]) [] 0
def ref10_TargetP0 (A : Array Value) (a0 a1 a2 a3 w0 : Int) (w1 : Bool) (n : Nat) : Prop := CallSpec Try.prog 24 A [] (Value.tuple #[vi w0, Value.bool w1]) [] n 0

theorem ref10_TargetC0 (A : Array Value) (a0 a1 a2 a3 w0 : Int) (w1 : Bool) (N : Nat) (h : ref10_Target a0 a1 a2 a3 N = some (.r0 w0 w1)) (n : Nat) (hA : A = #[Value.agg #[vi a0, vi a1, vi a2, vi a3]]) (hnd : ([] : List Nat).Nodup) (hlt : ∀ k ∈ ([] : List Nat), k < n) : ref10_TargetP0 A a0 a1 a2 a3 w0 w1  n :=
 cs_args hA (LSpec.callL (show LSpec Try.prog 24 #[Value.agg #[vi a0, vi a1, vi a2, vi a3]] [] (Value.tuple #[vi w0, Value.bool w1]) [] from ref10_Target_spec a0 a1 a2 a3 N _ h) [] n [] rfl hnd hlt (show 0 ≤ 0 from by decide) (show ∀ j ∈ ([] : List Nat), j < 0 from by decide) (by rfl) trivial (by rfl) trivial trivial rfl rfl rfl rfl rfl)

noncomputable def ref12_opensV (o0 : Nat) (L1 : List R_iiii) (n2 n3 : Nat) (a4 : Int) (O0 : Obj) : ref12_opensR → Value
 | .r0 => vn
 | .r1 w2 => vs 1 0 w2.length w2.length
noncomputable def ref12_opensPo (o0 : Nat) (L1 : List R_iiii) (n2 n3 : Nat) (a4 : Int) (O0 : Obj) : ref12_opensR → List (Option AObj)
 | .r0 => [some (.ro O0)]
 | .r1 w2 => [some (.ro O0), some (.cells (rowV E_ii w2) 58)]

def ref12_opensHd : ref12_opensX → Nat
 | .h1m0 v5 => 1
 | .h1m1 v5 v6 => 1
noncomputable def ref12_opensL (o0 : Nat) (L1 : List R_iiii) (n2 n3 : Nat) (a4 : Int) (O0 : Obj) : ref12_opensX → List (Nat × Value)
 | .h1m0 v5 => [(0, vs 0 o0 n2 n3), (1, vi a4), (5, vn), (6, vi (v5 : Int))]
 | .h1m1 v5 v6 => [(0, vs 0 o0 n2 n3), (1, vi a4), (5, vs 1 0 v5.length v5.length), (6, vi (v6 : Int))]
noncomputable def ref12_opensH (o0 : Nat) (L1 : List R_iiii) (n2 n3 : Nat) (a4 : Int) (O0 : Obj) : ref12_opensX → List (Option AObj)
 | .h1m0 v5 => [some (.ro O0)]
 | .h1m1 v5 v6 => [some (.ro O0), some (.cells (rowV E_ii v5) 58)]

noncomputable def ref12_opensC : Nat → Code × List Kont
 | 1 => headOf [1, 1, 0, 1, 3] (bodyC Try.f32) []
 | _ => (.skip, [])
def ref12_opensIL : Nat → Bool
 | 1 => true
 | _ => true
noncomputable def ref12_opensK (i : Nat) : List Kont := match ref12_opensIL i with | true => .rnd i :: (ref12_opensC i).2 | false => (ref12_opensC i).2

noncomputable def ref12_opensM (o0 : Nat) (L1 : List R_iiii) (n2 n3 : Nat) (a4 : Int) (O0 : Obj) (N : Nat) : Mach := ⟨Try.f32, [.ro O0], ref12_opensX, ref12_opensR, ref12_opensStep L1 n2 n3 a4 N, ref12_opensHd, ref12_opensC, ref12_opensIL, ref12_opensL o0 L1 n2 n3 a4 O0, ref12_opensH o0 L1 n2 n3 a4 O0, ref12_opensV o0 L1 n2 n3 a4 O0, ref12_opensPo o0 L1 n2 n3 a4 O0⟩

theorem ref12_opens_ok1_0 (o0 : Nat) (L1 : List R_iiii) (n2 n3 : Nat) (a4 : Int) (O0 : Obj) (F0 : RO_iiii O0 o0 L1) (v5 N : Nat) : (ref12_opensM o0 L1 n2 n3 a4 O0 N).Ok Try.prog ext_Cf (.h1m0 v5 : ref12_opensX) (ref12_opensStep L1 n2 n3 a4 N (.h1m0 v5 : ref12_opensX)) := by
 show (ref12_opensM o0 L1 n2 n3 a4 O0 N).Ok Try.prog ext_Cf (.h1m0 v5 : ref12_opensX) (ref12_opens_h1m0 L1 n2 n3 a4 N v5)
 unfold ref12_opens_h1m0
 refine Mach.ok_ite (fun g0 => ?_) (fun g0 => ?_)
 ·
  refine Mach.ok_ite (fun g1 => ?_) (fun g1 => ?_)
  ·
   refine Mach.ok_ite (fun g2 => ?_) (fun g2 => ?_)
   ·
    refine Mach.ok_bind (fun z3 c3 => ?_)
    cases z3 with
    | r0 =>
     refine Mach.ok_ite (fun g4 => ?_) (fun g4 => ?_)
     ·
      exact Mach.ok_next (M := ref12_opensM o0 L1 n2 n3 a4 O0 N) (cd := 1000000) (cm := 0) (y := (.h1m1 (([(⟨(v5 : Int), (0 : Int)⟩ : R_ii)] : List R_ii)) ((v5 + 1)) : ref12_opensX)) (fu := 4000) (orc := (orcw [(0, true), (1, true)] [(0, (((v5 + 1) : Nat) : Int))] [(0, v5)] [(0, [.i (L1.getD v5 R_iiii.z).a0, .i (L1.getD v5 R_iiii.z).a1, .i (L1.getD v5 R_iiii.z).a2, .i (L1.getD v5 R_iiii.z).a3])] [(0, (ref12_stepT0 ((L1.getD v5 R_iiii.z).a0) ((L1.getD v5 R_iiii.z).a1) ((L1.getD v5 R_iiii.z).a2) ((L1.getD v5 R_iiii.z).a3) ((v5 : Int))    1))])) (live := [0, 1]) (tv := fun _ => [some (vs 0 o0 n2 n3), some (vi a4), some (vs 1 0 1 1), some (vi (((v5 + 1) : Nat) : Int))]) (bl := [some (.ro O0), some (.cells (rowV E_ii ([(⟨(v5 : Int), (0 : Int)⟩ : R_ii)] : List R_ii)) 58)]) (ob := [((IntKind.i64.wrap ((v5 : Int) + (1 : Int))) == (((v5 + 1) : Nat) : Int), true), (dP (ref12_stepP0 #[vn, Value.agg #[vi (L1.getD v5 R_iiii.z).a0, vi (L1.getD v5 R_iiii.z).a1, vi (L1.getD v5 R_iiii.z).a2, vi (L1.getD v5 R_iiii.z).a3], vi (v5 : Int)] ((L1.getD v5 R_iiii.z).a0) ((L1.getD v5 R_iiii.z).a1) ((L1.getD v5 R_iiii.z).a2) ((L1.getD v5 R_iiii.z).a3) ((v5 : Int))    1), true), (sameR (roRow O0 (o0 + (v5 * 4)) 4) [.i (L1.getD v5 R_iiii.z).a0, .i (L1.getD v5 R_iiii.z).a1, .i (L1.getD v5 R_iiii.z).a2, .i (L1.getD v5 R_iiii.z).a3], true), (Nat.blt v5 n2, true), ((v5 : Int) == Int.ofNat v5, true), ((decide ((v5 : Int) < (n2 : Int))), true), ((decide ((v5 : Int) < a4)), true)]) rfl (show 1 ∈ rids (ref12_opensK 1) from by decide +kernel) (fun gv => by kernel_rfl) (obs_cons (beq_iff_eq.2 ((wrap_i64 ltA).trans (by first | rfl | omega))) <| obs_cons (dP_of (ref12_stepC0 #[vn, Value.agg #[vi (L1.getD v5 R_iiii.z).a0, vi (L1.getD v5 R_iiii.z).a1, vi (L1.getD v5 R_iiii.z).a2, vi (L1.getD v5 R_iiii.z).a3], vi (v5 : Int)] ((L1.getD v5 R_iiii.z).a0) ((L1.getD v5 R_iiii.z).a1) ((L1.getD v5 R_iiii.z).a2) ((L1.getD v5 R_iiii.z).a3) ((v5 : Int))   N c3  1 rfl (by decide) (by decide))) <| obs_cons ((show (o0 + v5 * 4 + 0) = (o0 + (v5 * 4)) from by omega) ▸ F0 v5 (by omega) 0 4 (show 0 + 4 ≤ 4 from by decide)) <| oB <| oI <| oY <| oY obs_nil) rfl (by decide) (by rfl) (fun _ => ⟨rr, ⟨rr, ⟨⟨Eq.trans (show (vs 1 0 ([(⟨(v5 : Int), (0 : Int)⟩ : R_ii)] : List R_ii).length ([(⟨(v5 : Int), (0 : Int)⟩ : R_ii)] : List R_ii).length : Value) = vs 1 0 1 1 from (slice_eq rfl eqA eqA)) (by rfl), by rfl⟩, ⟨rr, trivial⟩⟩⟩⟩) ⟨rfl, ⟨(same_row (E := E_ii) (α := R_ii) _ ([(⟨(v5 : Int), (0 : Int)⟩ : R_ii)] : List R_ii) _), trivial⟩⟩
     ·
      exact Mach.ok_none
    | r1 y3_0 =>
     refine Mach.ok_ite (fun g4 => ?_) (fun g4 => ?_)
     ·
      exact Mach.ok_next (M := ref12_opensM o0 L1 n2 n3 a4 O0 N) (cd := 1000000) (cm := 0) (y := (.h1m0 ((v5 + 1)) : ref12_opensX)) (fu := 4000) (orc := (orcw [(0, true), (1, true)] [(0, (((v5 + 1) : Nat) : Int))] [(0, v5)] [(0, [.i (L1.getD v5 R_iiii.z).a0, .i (L1.getD v5 R_iiii.z).a1, .i (L1.getD v5 R_iiii.z).a2, .i (L1.getD v5 R_iiii.z).a3])] [(0, (ref12_stepT1 ((L1.getD v5 R_iiii.z).a0) ((L1.getD v5 R_iiii.z).a1) ((L1.getD v5 R_iiii.z).a2) ((L1.getD v5 R_iiii.z).a3) ((v5 : Int))  y3_0  1))])) (live := [0]) (tv := fun _ => [some (vs 0 o0 n2 n3), some (vi a4), some (vn), some (vi (((v5 + 1) : Nat) : Int))]) (bl := [some (.ro O0)]) (ob := [((IntKind.i64.wrap ((v5 : Int) + (1 : Int))) == (((v5 + 1) : Nat) : Int), true), (dP (ref12_stepP1 #[vn, Value.agg #[vi (L1.getD v5 R_iiii.z).a0, vi (L1.getD v5 R_iiii.z).a1, vi (L1.getD v5 R_iiii.z).a2, vi (L1.getD v5 R_iiii.z).a3], vi (v5 : Int)] ((L1.getD v5 R_iiii.z).a0) ((L1.getD v5 R_iiii.z).a1) ((L1.getD v5 R_iiii.z).a2) ((L1.getD v5 R_iiii.z).a3) ((v5 : Int))  y3_0  1), true), (sameR (roRow O0 (o0 + (v5 * 4)) 4) [.i (L1.getD v5 R_iiii.z).a0, .i (L1.getD v5 R_iiii.z).a1, .i (L1.getD v5 R_iiii.z).a2, .i (L1.getD v5 R_iiii.z).a3], true), (Nat.blt v5 n2, true), ((v5 : Int) == Int.ofNat v5, true), ((decide ((v5 : Int) < (n2 : Int))), true), ((decide ((v5 : Int) < a4)), true)]) rfl (show 1 ∈ rids (ref12_opensK 1) from by decide +kernel) (fun gv => by kernel_rfl) (obs_cons (beq_iff_eq.2 ((wrap_i64 ltA).trans (by first | rfl | omega))) <| obs_cons (dP_of (ref12_stepC1 #[vn, Value.agg #[vi (L1.getD v5 R_iiii.z).a0, vi (L1.getD v5 R_iiii.z).a1, vi (L1.getD v5 R_iiii.z).a2, vi (L1.getD v5 R_iiii.z).a3], vi (v5 : Int)] ((L1.getD v5 R_iiii.z).a0) ((L1.getD v5 R_iiii.z).a1) ((L1.getD v5 R_iiii.z).a2) ((L1.getD v5 R_iiii.z).a3) ((v5 : Int))  y3_0 N c3  1 rfl (by decide) (by decide))) <| obs_cons ((show (o0 + v5 * 4 + 0) = (o0 + (v5 * 4)) from by omega) ▸ F0 v5 (by omega) 0 4 (show 0 + 4 ≤ 4 from by decide)) <| oB <| oI <| oY <| oY obs_nil) rfl (by decide) (by rfl) (fun _ => ⟨rr, ⟨rr, ⟨rr, ⟨rr, trivial⟩⟩⟩⟩) ⟨rfl, trivial⟩
     ·
      exact Mach.ok_none
   ·
    exact Mach.ok_none
  ·
   exact Mach.ok_fin (M := ref12_opensM o0 L1 n2 n3 a4 O0 N) (cd := 1000000) (cm := 0) (r := (.r0 : ref12_opensR)) (fu := 4000) (orc := (orcw [(0, true), (1, false)] [] [] [] [])) (live := [0]) (u := vn) (bl := [some (.ro O0)]) (ob := [((decide ((v5 : Int) < (n2 : Int))), false), ((decide ((v5 : Int) < a4)), true)]) (fun gv => by kernel_rfl) (oN <| oY obs_nil) rfl (by decide) (by rfl) rr ⟨rfl, trivial⟩
 ·
  exact Mach.ok_fin (M := ref12_opensM o0 L1 n2 n3 a4 O0 N) (cd := 1000000) (cm := 0) (r := (.r0 : ref12_opensR)) (fu := 4000) (orc := (orcw [(0, false)] [] [] [] [])) (live := [0]) (u := vn) (bl := [some (.ro O0)]) (ob := [((decide ((v5 : Int) < a4)), false)]) (fun gv => by kernel_rfl) (oN obs_nil) rfl (by decide) (by rfl) rr ⟨rfl, trivial⟩

theorem ref12_opens_ok1_1 (o0 : Nat) (L1 : List R_iiii) (n2 n3 : Nat) (a4 : Int) (O0 : Obj) (F0 : RO_iiii O0 o0 L1) (v5 : List R_ii) (v6 N : Nat) : (ref12_opensM o0 L1 n2 n3 a4 O0 N).Ok Try.prog ext_Cf (.h1m1 v5 v6 : ref12_opensX) (ref12_opensStep L1 n2 n3 a4 N (.h1m1 v5 v6 : ref12_opensX)) := by
 show (ref12_opensM o0 L1 n2 n3 a4 O0 N).Ok Try.prog ext_Cf (.h1m1 v5 v6 : ref12_opensX) (ref12_opens_h1m1 L1 n2 n3 a4 N v5 v6)
 unfold ref12_opens_h1m1
 refine Mach.ok_ite (fun g0 => ?_) (fun g0 => ?_)
 ·
  refine Mach.ok_ite (fun g1 => ?_) (fun g1 => ?_)
  ·
   refine Mach.ok_ite (fun g2 => ?_) (fun g2 => ?_)
   ·
    refine Mach.ok_bind (fun z3 c3 => ?_)
    cases z3 with
    | r0 y3_0 =>
     refine Mach.ok_ite (fun g4 => ?_) (fun g4 => ?_)
     ·
      exact Mach.ok_next (M := ref12_opensM o0 L1 n2 n3 a4 O0 N) (cd := 1000000) (cm := 0) (y := (.h1m1 (v5) ((v6 + 1)) : ref12_opensX)) (fu := 4000) (orc := (orcw [(0, true), (1, true)] [(0, (((v6 + 1) : Nat) : Int))] [(0, v6)] [(0, [.i (L1.getD v6 R_iiii.z).a0, .i (L1.getD v6 R_iiii.z).a1, .i (L1.getD v6 R_iiii.z).a2, .i (L1.getD v6 R_iiii.z).a3])] [(0, (ref12_step_2T0 (v5) ((L1.getD v6 R_iiii.z).a0) ((L1.getD v6 R_iiii.z).a1) ((L1.getD v6 R_iiii.z).a2) ((L1.getD v6 R_iiii.z).a3) ((v6 : Int))  y3_0 1 2))])) (live := [0, 1]) (tv := fun _ => [some (vs 0 o0 n2 n3), some (vi a4), some (vs 1 0 v5.length v5.length), some (vi (((v6 + 1) : Nat) : Int))]) (bl := [some (.ro O0), some (.cells (rowV E_ii v5) 58)]) (ob := [((IntKind.i64.wrap ((v6 : Int) + (1 : Int))) == (((v6 + 1) : Nat) : Int), true), (dP (ref12_step_2P0 #[vs 1 0 v5.length v5.length, Value.agg #[vi (L1.getD v6 R_iiii.z).a0, vi (L1.getD v6 R_iiii.z).a1, vi (L1.getD v6 R_iiii.z).a2, vi (L1.getD v6 R_iiii.z).a3], vi (v6 : Int)] (v5) ((L1.getD v6 R_iiii.z).a0) ((L1.getD v6 R_iiii.z).a1) ((L1.getD v6 R_iiii.z).a2) ((L1.getD v6 R_iiii.z).a3) ((v6 : Int))  y3_0 1 2), true), (dS (rowV E_ii v5), true), (sameR (roRow O0 (o0 + (v6 * 4)) 4) [.i (L1.getD v6 R_iiii.z).a0, .i (L1.getD v6 R_iiii.z).a1, .i (L1.getD v6 R_iiii.z).a2, .i (L1.getD v6 R_iiii.z).a3], true), (Nat.blt v6 n2, true), ((v6 : Int) == Int.ofNat v6, true), ((decide ((v6 : Int) < (n2 : Int))), true), ((decide ((v6 : Int) < a4)), true)]) rfl (show 1 ∈ rids (ref12_opensK 1) from by decide +kernel) (fun gv => by kernel_rfl) (obs_cons (beq_iff_eq.2 ((wrap_i64 ltA).trans (by first | rfl | omega))) <| obs_cons (dP_of (ref12_step_2C0 #[vs 1 0 v5.length v5.length, Value.agg #[vi (L1.getD v6 R_iiii.z).a0, vi (L1.getD v6 R_iiii.z).a1, vi (L1.getD v6 R_iiii.z).a2, vi (L1.getD v6 R_iiii.z).a3], vi (v6 : Int)] (v5) ((L1.getD v6 R_iiii.z).a0) ((L1.getD v6 R_iiii.z).a1) ((L1.getD v6 R_iiii.z).a2) ((L1.getD v6 R_iiii.z).a3) ((v6 : Int))  y3_0 N c3 1 2 rfl (by decide) (by decide))) <| oR <| obs_cons ((show (o0 + v6 * 4 + 0) = (o0 + (v6 * 4)) from by omega) ▸ F0 v6 (by omega) 0 4 (show 0 + 4 ≤ 4 from by decide)) <| oB <| oI <| oY <| oY obs_nil) rfl (by decide) (by rfl) (fun _ => ⟨rr, ⟨rr, ⟨rr, ⟨rr, trivial⟩⟩⟩⟩) ⟨rfl, ⟨(same_row (E := E_ii) (α := R_ii) _ v5 _), trivial⟩⟩
     ·
      exact Mach.ok_none
    | r1 y3_0 =>
     refine Mach.ok_ite (fun g4 => ?_) (fun g4 => ?_)
     ·
      exact Mach.ok_next (M := ref12_opensM o0 L1 n2 n3 a4 O0 N) (cd := 1000000) (cm := 0) (y := (.h1m1 (y3_0) ((v6 + 1)) : ref12_opensX)) (fu := 4000) (orc := (orcw [(0, true), (1, true)] [(0, (((v6 + 1) : Nat) : Int))] [(0, v6)] [(0, [.i (L1.getD v6 R_iiii.z).a0, .i (L1.getD v6 R_iiii.z).a1, .i (L1.getD v6 R_iiii.z).a2, .i (L1.getD v6 R_iiii.z).a3])] [(0, (ref12_step_2T1 (v5) ((L1.getD v6 R_iiii.z).a0) ((L1.getD v6 R_iiii.z).a1) ((L1.getD v6 R_iiii.z).a2) ((L1.getD v6 R_iiii.z).a3) ((v6 : Int))  y3_0 1 2))])) (live := [0, 2]) (tv := fun _ => [some (vs 0 o0 n2 n3), some (vi a4), some (vs 2 0 y3_0.length y3_0.length), some (vi (((v6 + 1) : Nat) : Int))]) (bl := [some (.ro O0), some (.cells (rowV E_ii y3_0) 58)]) (ob := [((IntKind.i64.wrap ((v6 : Int) + (1 : Int))) == (((v6 + 1) : Nat) : Int), true), (dP (ref12_step_2P1 #[vs 1 0 v5.length v5.length, Value.agg #[vi (L1.getD v6 R_iiii.z).a0, vi (L1.getD v6 R_iiii.z).a1, vi (L1.getD v6 R_iiii.z).a2, vi (L1.getD v6 R_iiii.z).a3], vi (v6 : Int)] (v5) ((L1.getD v6 R_iiii.z).a0) ((L1.getD v6 R_iiii.z).a1) ((L1.getD v6 R_iiii.z).a2) ((L1.getD v6 R_iiii.z).a3) ((v6 : Int))  y3_0 1 2), true), (dS (rowV E_ii v5), true), (sameR (roRow O0 (o0 + (v6 * 4)) 4) [.i (L1.getD v6 R_iiii.z).a0, .i (L1.getD v6 R_iiii.z).a1, .i (L1.getD v6 R_iiii.z).a2, .i (L1.getD v6 R_iiii.z).a3], true), (Nat.blt v6 n2, true), ((v6 : Int) == Int.ofNat v6, true), ((decide ((v6 : Int) < (n2 : Int))), true), ((decide ((v6 : Int) < a4)), true)]) rfl (show 1 ∈ rids (ref12_opensK 1) from by decide +kernel) (fun gv => by kernel_rfl) (obs_cons (beq_iff_eq.2 ((wrap_i64 ltA).trans (by first | rfl | omega))) <| obs_cons (dP_of (ref12_step_2C1 #[vs 1 0 v5.length v5.length, Value.agg #[vi (L1.getD v6 R_iiii.z).a0, vi (L1.getD v6 R_iiii.z).a1, vi (L1.getD v6 R_iiii.z).a2, vi (L1.getD v6 R_iiii.z).a3], vi (v6 : Int)] (v5) ((L1.getD v6 R_iiii.z).a0) ((L1.getD v6 R_iiii.z).a1) ((L1.getD v6 R_iiii.z).a2) ((L1.getD v6 R_iiii.z).a3) ((v6 : Int))  y3_0 N c3 1 2 rfl (by decide) (by decide))) <| oR <| obs_cons ((show (o0 + v6 * 4 + 0) = (o0 + (v6 * 4)) from by omega) ▸ F0 v6 (by omega) 0 4 (show 0 + 4 ≤ 4 from by decide)) <| oB <| oI <| oY <| oY obs_nil) rfl (by decide) (by rfl) (fun _ => ⟨rr, ⟨rr, ⟨rr, ⟨rr, trivial⟩⟩⟩⟩) ⟨rfl, ⟨(same_row (E := E_ii) (α := R_ii) _ y3_0 _), trivial⟩⟩
     ·
      exact Mach.ok_none
    | r2 =>
     refine Mach.ok_ite (fun g4 => ?_) (fun g4 => ?_)
     ·
      exact Mach.ok_next (M := ref12_opensM o0 L1 n2 n3 a4 O0 N) (cd := 1000000) (cm := 0) (y := (.h1m1 ((v5.take (v5.length - 1))) ((v6 + 1)) : ref12_opensX)) (fu := 4000) (orc := (orcw [(0, true), (1, true)] [(0, (((v6 + 1) : Nat) : Int))] [(0, v6)] [(0, [.i (L1.getD v6 R_iiii.z).a0, .i (L1.getD v6 R_iiii.z).a1, .i (L1.getD v6 R_iiii.z).a2, .i (L1.getD v6 R_iiii.z).a3])] [(0, (ref12_step_2T2 (v5) ((L1.getD v6 R_iiii.z).a0) ((L1.getD v6 R_iiii.z).a1) ((L1.getD v6 R_iiii.z).a2) ((L1.getD v6 R_iiii.z).a3) ((v6 : Int))   1 2))])) (live := [0, 2]) (tv := fun _ => [some (vs 0 o0 n2 n3), some (vi a4), some (vs 2 0 (v5.take (v5.length - 1)).length (v5.take (v5.length - 1)).length), some (vi (((v6 + 1) : Nat) : Int))]) (bl := [some (.ro O0), some (.cells (rowV E_ii (v5.take (v5.length - 1))) 58)]) (ob := [((IntKind.i64.wrap ((v6 : Int) + (1 : Int))) == (((v6 + 1) : Nat) : Int), true), (dP (ref12_step_2P2 #[vs 1 0 v5.length v5.length, Value.agg #[vi (L1.getD v6 R_iiii.z).a0, vi (L1.getD v6 R_iiii.z).a1, vi (L1.getD v6 R_iiii.z).a2, vi (L1.getD v6 R_iiii.z).a3], vi (v6 : Int)] (v5) ((L1.getD v6 R_iiii.z).a0) ((L1.getD v6 R_iiii.z).a1) ((L1.getD v6 R_iiii.z).a2) ((L1.getD v6 R_iiii.z).a3) ((v6 : Int))   1 2), true), (dS (rowV E_ii v5), true), (sameR (roRow O0 (o0 + (v6 * 4)) 4) [.i (L1.getD v6 R_iiii.z).a0, .i (L1.getD v6 R_iiii.z).a1, .i (L1.getD v6 R_iiii.z).a2, .i (L1.getD v6 R_iiii.z).a3], true), (Nat.blt v6 n2, true), ((v6 : Int) == Int.ofNat v6, true), ((decide ((v6 : Int) < (n2 : Int))), true), ((decide ((v6 : Int) < a4)), true)]) rfl (show 1 ∈ rids (ref12_opensK 1) from by decide +kernel) (fun gv => by kernel_rfl) (obs_cons (beq_iff_eq.2 ((wrap_i64 ltA).trans (by first | rfl | omega))) <| obs_cons (dP_of (ref12_step_2C2 #[vs 1 0 v5.length v5.length, Value.agg #[vi (L1.getD v6 R_iiii.z).a0, vi (L1.getD v6 R_iiii.z).a1, vi (L1.getD v6 R_iiii.z).a2, vi (L1.getD v6 R_iiii.z).a3], vi (v6 : Int)] (v5) ((L1.getD v6 R_iiii.z).a0) ((L1.getD v6 R_iiii.z).a1) ((L1.getD v6 R_iiii.z).a2) ((L1.getD v6 R_iiii.z).a3) ((v6 : Int))   N c3 1 2 rfl (by decide) (by decide))) <| oR <| obs_cons ((show (o0 + v6 * 4 + 0) = (o0 + (v6 * 4)) from by omega) ▸ F0 v6 (by omega) 0 4 (show 0 + 4 ≤ 4 from by decide)) <| oB <| oI <| oY <| oY obs_nil) rfl (by decide) (by rfl) (fun _ => ⟨rr, ⟨rr, ⟨rr, ⟨rr, trivial⟩⟩⟩⟩) ⟨rfl, ⟨(same_row (E := E_ii) (α := R_ii) _ (v5.take (v5.length - 1)) _), trivial⟩⟩
     ·
      exact Mach.ok_none
   ·
    exact Mach.ok_none
  ·
   exact Mach.ok_fin (M := ref12_opensM o0 L1 n2 n3 a4 O0 N) (cd := 1000000) (cm := 0) (r := (.r1 (v5) : ref12_opensR)) (fu := 4000) (orc := (orcw [(0, true), (1, false)] [] [] [] [])) (live := [0, 1]) (u := vs 1 0 v5.length v5.length) (bl := [some (.ro O0), some (.cells (rowV E_ii v5) 58)]) (ob := [((decide ((v6 : Int) < (n2 : Int))), false), ((decide ((v6 : Int) < a4)), true)]) (fun gv => by kernel_rfl) (oN <| oY obs_nil) rfl (by decide) (by rfl) rr ⟨rfl, ⟨(same_row (E := E_ii) (α := R_ii) _ v5 _), trivial⟩⟩
 ·
  exact Mach.ok_fin (M := ref12_opensM o0 L1 n2 n3 a4 O0 N) (cd := 1000000) (cm := 0) (r := (.r1 (v5) : ref12_opensR)) (fu := 4000) (orc := (orcw [(0, false)] [] [] [] [])) (live := [0, 1]) (u := vs 1 0 v5.length v5.length) (bl := [some (.ro O0), some (.cells (rowV E_ii v5) 58)]) (ob := [((decide ((v6 : Int) < a4)), false)]) (fun gv => by kernel_rfl) (oN obs_nil) rfl (by decide) (by rfl) rr ⟨rfl, ⟨(same_row (E := E_ii) (α := R_ii) _ v5 _), trivial⟩⟩

theorem ref12_opens_en (o0 : Nat) (L1 : List R_iiii) (n2 n3 : Nat) (a4 : Int) (O0 : Obj) (F0 : RO_iiii O0 o0 L1) (N : Nat) : (ref12_opensM o0 L1 n2 n3 a4 O0 N).Enter Try.prog ext_Cf #[vs 0 o0 n2 n3, vi a4] (ref12_opensIn L1 n2 n3 a4 N) := by
 unfold ref12_opensIn
 exact Mach.en_head (bK := ref12_opensC 1) (M := ref12_opensM o0 L1 n2 n3 a4 O0 N) (cd := 1000000) (cm := 0) (y := (.h1m0 (0) : ref12_opensX)) (fu := 4000) (orc := (orcw [] [] [] [] [])) (live := [0]) (tv := [some (vs 0 o0 n2 n3), some (vi a4), some (vn), some (vi (0 : Int))]) (bl := [some (.ro O0)]) (ob := []) rfl rfl (show rids (ref12_opensC 1).2 = [] from rfl) (by kernel_rfl) obs_nil rfl (by decide) (by rfl) ⟨rr, ⟨rr, ⟨rr, ⟨⟨Eq.trans (show (vi ((0 : Nat) : Int) : Value) = vi (0 : Int) from (congrArg (Value.int .i64) (by first | rfl | omega))) (by rfl), by rfl⟩, trivial⟩⟩⟩⟩ ⟨rfl, trivial⟩

theorem ref12_opens_spec (o0 : Nat) (L1 : List R_iiii) (n2 n3 : Nat) (a4 : Int) (O0 : Obj) (F0 : RO_iiii O0 o0 L1) (N : Nat) (r : ref12_opensR) (h : ref12_opens L1 n2 n3 a4 N = some r) : LSpec Try.prog 32 #[vs 0 o0 n2 n3, vi a4] [.ro O0] (ref12_opensV o0 L1 n2 n3 a4 O0 r) (ref12_opensPo o0 L1 n2 n3 a4 O0 r) :=
 Mach.spec fit_Cf (ref12_opensM o0 L1 n2 n3 a4 O0 N) Try.func32 (by kernel_rfl) (by kernel_rfl) (fun x => by cases x <;> exact le_far _ rfl) (fun r => by cases r <;> exact le_far _ rfl) (fun x => by
  cases x with
  | h1m0 _ => exact fun _ => (show ¬ (1 ∈ rids (ref12_opensC 1).2) from by decide +kernel)
  | h1m1 _ _ => exact fun _ => (show ¬ (1 ∈ rids (ref12_opensC 1).2) from by decide +kernel)
  ) (fun x => (show (ref12_opensM o0 L1 n2 n3 a4 O0 N).Ok Try.prog ext_Cf x (ref12_opensStep L1 n2 n3 a4 N x) from by
  cases x with
  | h1m0 v5 => exact ref12_opens_ok1_0 o0 L1 n2 n3 a4 O0 F0 v5 N
  | h1m1 v5 v6 => exact ref12_opens_ok1_1 o0 L1 n2 n3 a4 O0 F0 v5 v6 N
  )) (ref12_opens_en o0 L1 n2 n3 a4 O0 F0 N) (n := N) h

noncomputable def ref12_opensT0 (o0 : Nat) (L1 : List R_iiii) (n2 n3 : Nat) (a4 : Int) (O0 : Obj) (k0 n : Nat) : Told := .call [(k0, .ro O0)] (vn) [] 0
def ref12_opensP0 (A : Array Value) (o0 : Nat) (L1 : List R_iiii) (n2 n3 : Nat) (a4 : Int) (O0 : Obj) (k0 n : Nat) : Prop := CallSpec Try.prog 32 A [(k0, .ro O0)] (vn) [] n 0

theorem ref12_opensC0 (A : Array Value) (o0 : Nat) (L1 : List R_iiii) (n2 n3 : Nat) (a4 : Int) (O0 : Obj) (F0 : RO_iiii O0 o0 L1) (N : Nat) (h : ref12_opens L1 n2 n3 a4 N = some (.r0)) (k0 n : Nat) (hA : A = #[vs k0 o0 n2 n3, vi a4]) (hnd : ([k0] : List Nat).Nodup) (hlt : ∀ k ∈ ([k0] : List Nat), k < n) : ref12_opensP0 A o0 L1 n2 n3 a4 O0 k0 n :=
 cs_args hA (LSpec.callL (show LSpec Try.prog 32 #[vs 0 o0 n2 n3, vi a4] [.ro O0] (vn) [some (.ro O0)] from ref12_opens_spec o0 L1 n2 n3 a4 O0 F0 N _ h) [k0] n [] rfl hnd hlt (show 1 ≤ 1 from by decide) (show ∀ j ∈ ([] : List Nat), j < 1 from by decide) (by rfl) ⟨rfl, trivial⟩ (by rfl) ⟨rfl, trivial⟩ ⟨.inr rfl, trivial⟩ rfl rfl rfl (cons_eq (pair_eq rfl rfl) rfl) rfl)

noncomputable def ref12_opensT1 (o0 : Nat) (L1 : List R_iiii) (n2 n3 : Nat) (a4 : Int) (O0 : Obj) (w2 : List R_ii) (k0 n : Nat) : Told := .call [(k0, .ro O0)] (vs n 0 w2.length w2.length) [(n, some (.cells (rowV E_ii w2) 58))] 1
def ref12_opensP1 (A : Array Value) (o0 : Nat) (L1 : List R_iiii) (n2 n3 : Nat) (a4 : Int) (O0 : Obj) (w2 : List R_ii) (k0 n : Nat) : Prop := CallSpec Try.prog 32 A [(k0, .ro O0)] (vs n 0 w2.length w2.length) [(n, some (.cells (rowV E_ii w2) 58))] n 1

theorem ref12_opensC1 (A : Array Value) (o0 : Nat) (L1 : List R_iiii) (n2 n3 : Nat) (a4 : Int) (O0 : Obj) (F0 : RO_iiii O0 o0 L1) (w2 : List R_ii) (N : Nat) (h : ref12_opens L1 n2 n3 a4 N = some (.r1 w2)) (k0 n : Nat) (hA : A = #[vs k0 o0 n2 n3, vi a4]) (hnd : ([k0] : List Nat).Nodup) (hlt : ∀ k ∈ ([k0] : List Nat), k < n) : ref12_opensP1 A o0 L1 n2 n3 a4 O0 w2 k0 n :=
 cs_args hA (LSpec.callL (show LSpec Try.prog 32 #[vs 0 o0 n2 n3, vi a4] [.ro O0] (vs 1 0 w2.length w2.length) [some (.ro O0), some (.cells (rowV E_ii w2) 58)] from ref12_opens_spec o0 L1 n2 n3 a4 O0 F0 N _ h) [k0] n [1] rfl hnd hlt (show 1 ≤ 2 from by decide) (show ∀ j ∈ ([1] : List Nat), j < 2 from by decide) (by rfl) ⟨rfl, trivial⟩ (by rfl) ⟨rfl, ⟨(under_row _ _ _), trivial⟩⟩ ⟨.inr rfl, ⟨(by decide), trivial⟩⟩ rfl rfl rfl (cons_eq (pair_eq rfl rfl) rfl) (cons_eq (pair_eq rfl (some_eq (renO_row _ _ _))) rfl))

noncomputable def ref12_branchV (o0 : Nat) (L1 : List R_iiii) (n2 n3 : Nat) (a4 : Int) (O0 : Obj) : ref12_branchR → Value
 | .r0 w2 w3 => Value.agg #[vi w2, vi w3]
noncomputable def ref12_branchPo (o0 : Nat) (L1 : List R_iiii) (n2 n3 : Nat) (a4 : Int) (O0 : Obj) : ref12_branchR → List (Option AObj)
 | .r0 w2 w3 => [some (.ro O0)]

theorem ref12_branch_fx (o0 : Nat) (L1 : List R_iiii) (n2 n3 : Nat) (a4 : Int) (O0 : Obj) (F0 : RO_iiii O0 o0 L1) (N : Nat) : Fx Try.prog ext_Cf Try.f29 [.ro O0] #[vs 0 o0 n2 n3, vi a4] (ref12_branchV o0 L1 n2 n3 a4 O0) (ref12_branchPo o0 L1 n2 n3 a4 O0) (ref12_branch L1 n2 n3 a4 N) := by
 unfold ref12_branch
 refine fx_bind (fun z0 c0 => ?_)
 cases z0 with
 | r0 =>
  exact fx_fin (r := (.r0 ((-1 : Int)) ((0 : Int)) : ref12_branchR)) (fu := 4000) (orc := (orcw [] [] [] [] [(0, (ref12_opensT0 (o0) (L1) (n2) (n3) (a4) O0  0 2))])) (live := [0]) (u := Value.agg #[vi (-1 : Int), vi (0 : Int)]) (bl := [some (.ro O0)]) (ob := [(dP (ref12_opensP0 #[vs 0 o0 n2 n3, vi a4] (o0) (L1) (n2) (n3) (a4) O0  0 2), true), (dS O0, true)]) (by kernel_rfl) (obs_cons (dP_of (ref12_opensC0 #[vs 0 o0 n2 n3, vi a4] (o0) (L1) (n2) (n3) (a4) O0 F0  N c0 0 2 rfl (by decide) (by decide))) <| oR obs_nil) rfl (by decide) (by rfl) rr ⟨rfl, trivial⟩
 | r1 y0_0 =>
  refine fx_ite (fun g1 => ?_) (fun g1 => ?_)
  ·
   exact fx_fin (r := (.r0 ((-1 : Int)) ((0 : Int)) : ref12_branchR)) (fu := 4000) (orc := (orcw [(0, true)] [] [] [] [(0, (ref12_opensT1 (o0) (L1) (n2) (n3) (a4) O0 y0_0 0 2))])) (live := [0]) (u := Value.agg #[vi (-1 : Int), vi (0 : Int)]) (bl := [some (.ro O0)]) (ob := [((((y0_0.length : Nat) : Int) == (0 : Int)), true), (dP (ref12_opensP1 #[vs 0 o0 n2 n3, vi a4] (o0) (L1) (n2) (n3) (a4) O0 y0_0 0 2), true), (dS O0, true)]) (by kernel_rfl) (oT <| obs_cons (dP_of (ref12_opensC1 #[vs 0 o0 n2 n3, vi a4] (o0) (L1) (n2) (n3) (a4) O0 F0 y0_0 N c0 0 2 rfl (by decide) (by decide))) <| oR obs_nil) rfl (by decide) (by rfl) rr ⟨rfl, trivial⟩
  ·
   refine fx_ite (fun g2 => ?_) (fun g2 => ?_)
   ·
    exact fx_fin (r := (.r0 ((y0_0.getD (y0_0.length - 1) R_ii.z).a0) ((y0_0.getD (y0_0.length - 1) R_ii.z).a1) : ref12_branchR)) (fu := 4000) (orc := (orcw [(0, false)] [(0, (((y0_0.length - 1) : Nat) : Int))] [(0, (y0_0.length - 1))] [(0, [.i (y0_0.getD (y0_0.length - 1) R_ii.z).a0, .i (y0_0.getD (y0_0.length - 1) R_ii.z).a1])] [(0, (ref12_opensT1 (o0) (L1) (n2) (n3) (a4) O0 y0_0 0 2))])) (live := [0]) (u := Value.agg #[vi (y0_0.getD (y0_0.length - 1) R_ii.z).a0, vi (y0_0.getD (y0_0.length - 1) R_ii.z).a1]) (bl := [some (.ro O0)]) (ob := [(sameR (takeN 2 (List.drop (0 + ((y0_0.length - 1) * 2)) (rowV E_ii y0_0))) [.i (y0_0.getD (y0_0.length - 1) R_ii.z).a0, .i (y0_0.getD (y0_0.length - 1) R_ii.z).a1], true), (Nat.blt (y0_0.length - 1) y0_0.length, true), ((((y0_0.length - 1) : Nat) : Int) == Int.ofNat (y0_0.length - 1), true), ((IntKind.i64.wrap (((y0_0.length : Nat) : Int) - (1 : Int))) == (((y0_0.length - 1) : Nat) : Int), true), ((((y0_0.length : Nat) : Int) == (0 : Int)), false), (dP (ref12_opensP1 #[vs 0 o0 n2 n3, vi a4] (o0) (L1) (n2) (n3) (a4) O0 y0_0 0 2), true), (dS O0, true)]) (by kernel_rfl) (obs_cons (rowV_load (E := E_ii) (L := y0_0) (i := (y0_0.length - 1)) (q := 0) (by omega) (show (0 + ((y0_0.length - 1) * 2)) = (y0_0.length - 1) * 2 + 0 from by omega) (show 0 + 2 ≤ 2 from by decide) rfl rfl) <| oB <| oI <| obs_cons (beq_iff_eq.2 ((wrap_i64 ltA).trans (by first | rfl | omega))) <| oF <| obs_cons (dP_of (ref12_opensC1 #[vs 0 o0 n2 n3, vi a4] (o0) (L1) (n2) (n3) (a4) O0 F0 y0_0 N c0 0 2 rfl (by decide) (by decide))) <| oR obs_nil) rfl (by decide) (by rfl) rr ⟨rfl, trivial⟩
   ·
    exact fx_none

theorem ref12_branch_spec (o0 : Nat) (L1 : List R_iiii) (n2 n3 : Nat) (a4 : Int) (O0 : Obj) (F0 : RO_iiii O0 o0 L1) (N : Nat) (r : ref12_branchR) (h : ref12_branch L1 n2 n3 a4 N = some r) : LSpec Try.prog 29 #[vs 0 o0 n2 n3, vi a4] [.ro O0] (ref12_branchV o0 L1 n2 n3 a4 O0 r) (ref12_branchPo o0 L1 n2 n3 a4 O0 r) :=
 fx_spec fit_Cf Try.func29 (by kernel_rfl) (by kernel_rfl) (fun r => by cases r <;> exact le_far _ rfl) (ref12_branch_fx o0 L1 n2 n3 a4 O0 F0 N) h

noncomputable def ref12_branchT0 (o0 : Nat) (L1 : List R_iiii) (n2 n3 : Nat) (a4 : Int) (O0 : Obj) (w2 w3 : Int) (k0 n : Nat) : Told := .call [(k0, .ro O0)] (Value.agg #[vi w2, vi w3]) [] 0
def ref12_branchP0 (A : Array Value) (o0 : Nat) (L1 : List R_iiii) (n2 n3 : Nat) (a4 : Int) (O0 : Obj) (w2 w3 : Int) (k0 n : Nat) : Prop := CallSpec Try.prog 29 A [(k0, .ro O0)] (Value.agg #[vi w2, vi w3]) [] n 0

theorem ref12_branchC0 (A : Array Value) (o0 : Nat) (L1 : List R_iiii) (n2 n3 : Nat) (a4 : Int) (O0 : Obj) (F0 : RO_iiii O0 o0 L1) (w2 w3 : Int) (N : Nat) (h : ref12_branch L1 n2 n3 a4 N = some (.r0 w2 w3)) (k0 n : Nat) (hA : A = #[vs k0 o0 n2 n3, vi a4]) (hnd : ([k0] : List Nat).Nodup) (hlt : ∀ k ∈ ([k0] : List Nat), k < n) : ref12_branchP0 A o0 L1 n2 n3 a4 O0 w2 w3 k0 n :=
 cs_args hA (LSpec.callL (show LSpec Try.prog 29 #[vs 0 o0 n2 n3, vi a4] [.ro O0] (Value.agg #[vi w2, vi w3]) [some (.ro O0)] from ref12_branch_spec o0 L1 n2 n3 a4 O0 F0 N _ h) [k0] n [] rfl hnd hlt (show 1 ≤ 1 from by decide) (show ∀ j ∈ ([] : List Nat), j < 1 from by decide) (by rfl) ⟨rfl, trivial⟩ (by rfl) ⟨rfl, trivial⟩ ⟨.inr rfl, trivial⟩ rfl rfl rfl (cons_eq (pair_eq rfl rfl) rfl) rfl)

noncomputable def ref12_WrongV (o0 : Nat) (L1 : List R_iiii) (n2 n3 : Nat) (O0 : Obj) : ref12_WrongR → Value
 | .r0 w2 => vi w2
noncomputable def ref12_WrongPo (o0 : Nat) (L1 : List R_iiii) (n2 n3 : Nat) (O0 : Obj) : ref12_WrongR → List (Option AObj)
 | .r0 w2 => [some (.ro O0)]

def ref12_WrongHd : ref12_WrongX → Nat
 | .h1m0 v4 => 1
 | .h1m1 v4 v5 => 1
 | .h2m0 v4 => 2
noncomputable def ref12_WrongL (o0 : Nat) (L1 : List R_iiii) (n2 n3 : Nat) (O0 : Obj) : ref12_WrongX → List (Nat × Value)
 | .h1m0 v4 => [(0, vs 0 o0 n2 n3), (3, vn), (4, vi (v4 : Int))]
 | .h1m1 v4 v5 => [(0, vs 0 o0 n2 n3), (3, vs 1 0 v4.length v4.length), (4, vi (v5 : Int))]
 | .h2m0 v4 => [(0, vs 0 o0 n2 n3), (7, vi (v4 : Int))]
noncomputable def ref12_WrongH (o0 : Nat) (L1 : List R_iiii) (n2 n3 : Nat) (O0 : Obj) : ref12_WrongX → List (Option AObj)
 | .h1m0 v4 => [some (.ro O0)]
 | .h1m1 v4 v5 => [some (.ro O0), some (.cells (rowV E_ii v4) 58)]
 | .h2m0 v4 => [some (.ro O0)]

noncomputable def ref12_WrongC : Nat → Code × List Kont
 | 1 => headOf [1, 1, 1, 0, 1, 3] (bodyC Try.f11) []
 | 2 => headOf [1, 1, 1, 1, 1, 0, 1, 3] (bodyC Try.f11) []
 | _ => (.skip, [])
def ref12_WrongIL : Nat → Bool
 | 1 => true
 | 2 => true
 | _ => true
noncomputable def ref12_WrongK (i : Nat) : List Kont := match ref12_WrongIL i with | true => .rnd i :: (ref12_WrongC i).2 | false => (ref12_WrongC i).2

noncomputable def ref12_WrongM (o0 : Nat) (L1 : List R_iiii) (n2 n3 : Nat) (O0 : Obj) (N : Nat) : Mach := ⟨Try.f11, [.ro O0], ref12_WrongX, ref12_WrongR, ref12_WrongStep L1 n2 n3 N, ref12_WrongHd, ref12_WrongC, ref12_WrongIL, ref12_WrongL o0 L1 n2 n3 O0, ref12_WrongH o0 L1 n2 n3 O0, ref12_WrongV o0 L1 n2 n3 O0, ref12_WrongPo o0 L1 n2 n3 O0⟩

theorem ref12_Wrong_ok1_0 (o0 : Nat) (L1 : List R_iiii) (n2 n3 : Nat) (O0 : Obj) (F0 : RO_iiii O0 o0 L1) (v4 N : Nat) : (ref12_WrongM o0 L1 n2 n3 O0 N).Ok Try.prog ext_Cf (.h1m0 v4 : ref12_WrongX) (ref12_WrongStep L1 n2 n3 N (.h1m0 v4 : ref12_WrongX)) := by
 show (ref12_WrongM o0 L1 n2 n3 O0 N).Ok Try.prog ext_Cf (.h1m0 v4 : ref12_WrongX) (ref12_Wrong_h1m0 L1 n2 n3 N v4)
 unfold ref12_Wrong_h1m0
 refine Mach.ok_ite (fun g0 => ?_) (fun g0 => ?_)
 ·
  refine Mach.ok_ite (fun g1 => ?_) (fun g1 => ?_)
  ·
   refine Mach.ok_bind (fun z2 c2 => ?_)
   cases z2 with
   | r0 =>
    refine Mach.ok_bind (fun z3 c3 => ?_)
    cases z3 with
    | r0 y3_0 =>
     refine Mach.ok_ite (fun g4 => ?_) (fun g4 => ?_)
     ·
      exact Mach.ok_fin (M := ref12_WrongM o0 L1 n2 n3 O0 N) (cd := 1000000) (cm := 0) (r := (.r0 ((v4 : Int)) : ref12_WrongR)) (fu := 4000) (orc := (orcw [(0, true), (1, true)] [] [(0, v4), (1, v4)] [(0, [.i (L1.getD v4 R_iiii.z).a0, .i (L1.getD v4 R_iiii.z).a1, .i (L1.getD v4 R_iiii.z).a2, .i (L1.getD v4 R_iiii.z).a3]), (1, [.i (L1.getD v4 R_iiii.z).a0, .i (L1.getD v4 R_iiii.z).a1, .i (L1.getD v4 R_iiii.z).a2, .i (L1.getD v4 R_iiii.z).a3])] [(0, (ref12_stepT0 ((L1.getD v4 R_iiii.z).a0) ((L1.getD v4 R_iiii.z).a1) ((L1.getD v4 R_iiii.z).a2) ((L1.getD v4 R_iiii.z).a3) ((v4 : Int))    1)), (1, (ref10_IsT0 ((L1.getD v4 R_iiii.z).a0) ((L1.getD v4 R_iiii.z).a1) ((L1.getD v4 R_iiii.z).a2) ((L1.getD v4 R_iiii.z).a3)  y3_0  2))])) (live := [0]) (u := vi (v4 : Int)) (bl := [some (.ro O0)]) (ob := [((!y3_0), true), (dP (ref10_IsP0 #[Value.agg #[vi (L1.getD v4 R_iiii.z).a0, vi (L1.getD v4 R_iiii.z).a1, vi (L1.getD v4 R_iiii.z).a2, vi (L1.getD v4 R_iiii.z).a3]] ((L1.getD v4 R_iiii.z).a0) ((L1.getD v4 R_iiii.z).a1) ((L1.getD v4 R_iiii.z).a2) ((L1.getD v4 R_iiii.z).a3)  y3_0  2), true), (sameR (roRow O0 (o0 + (v4 * 4)) 4) [.i (L1.getD v4 R_iiii.z).a0, .i (L1.getD v4 R_iiii.z).a1, .i (L1.getD v4 R_iiii.z).a2, .i (L1.getD v4 R_iiii.z).a3], true), (Nat.blt v4 n2, true), ((v4 : Int) == Int.ofNat v4, true), (dP (ref12_stepP0 #[vn, Value.agg #[vi (L1.getD v4 R_iiii.z).a0, vi (L1.getD v4 R_iiii.z).a1, vi (L1.getD v4 R_iiii.z).a2, vi (L1.getD v4 R_iiii.z).a3], vi (v4 : Int)] ((L1.getD v4 R_iiii.z).a0) ((L1.getD v4 R_iiii.z).a1) ((L1.getD v4 R_iiii.z).a2) ((L1.getD v4 R_iiii.z).a3) ((v4 : Int))    1), true), (sameR (roRow O0 (o0 + (v4 * 4)) 4) [.i (L1.getD v4 R_iiii.z).a0, .i (L1.getD v4 R_iiii.z).a1, .i (L1.getD v4 R_iiii.z).a2, .i (L1.getD v4 R_iiii.z).a3], true), (Nat.blt v4 n2, true), ((v4 : Int) == Int.ofNat v4, true), ((decide ((v4 : Int) < (n2 : Int))), true)]) (fun gv => by kernel_rfl) (obs_cons (notB_t (by first | assumption | simp_all)) <| obs_cons (dP_of (ref10_IsC0 #[Value.agg #[vi (L1.getD v4 R_iiii.z).a0, vi (L1.getD v4 R_iiii.z).a1, vi (L1.getD v4 R_iiii.z).a2, vi (L1.getD v4 R_iiii.z).a3]] ((L1.getD v4 R_iiii.z).a0) ((L1.getD v4 R_iiii.z).a1) ((L1.getD v4 R_iiii.z).a2) ((L1.getD v4 R_iiii.z).a3)  y3_0 N c3  2 rfl (by decide) (by decide))) <| obs_cons ((show (o0 + v4 * 4 + 0) = (o0 + (v4 * 4)) from by omega) ▸ F0 v4 (by omega) 0 4 (show 0 + 4 ≤ 4 from by decide)) <| oB <| oI <| obs_cons (dP_of (ref12_stepC0 #[vn, Value.agg #[vi (L1.getD v4 R_iiii.z).a0, vi (L1.getD v4 R_iiii.z).a1, vi (L1.getD v4 R_iiii.z).a2, vi (L1.getD v4 R_iiii.z).a3], vi (v4 : Int)] ((L1.getD v4 R_iiii.z).a0) ((L1.getD v4 R_iiii.z).a1) ((L1.getD v4 R_iiii.z).a2) ((L1.getD v4 R_iiii.z).a3) ((v4 : Int))   N c2  1 rfl (by decide) (by decide))) <| obs_cons ((show (o0 + v4 * 4 + 0) = (o0 + (v4 * 4)) from by omega) ▸ F0 v4 (by omega) 0 4 (show 0 + 4 ≤ 4 from by decide)) <| oB <| oI <| oY obs_nil) rfl (by decide) (by rfl) rr ⟨rfl, trivial⟩
     ·
      refine Mach.ok_ite (fun g5 => ?_) (fun g5 => ?_)
      ·
       exact Mach.ok_next (M := ref12_WrongM o0 L1 n2 n3 O0 N) (cd := 1000000) (cm := 0) (y := (.h1m1 (([(⟨(v4 : Int), (0 : Int)⟩ : R_ii)] : List R_ii)) ((v4 + 1)) : ref12_WrongX)) (fu := 4000) (orc := (orcw [(0, true), (1, false)] [(0, (((v4 + 1) : Nat) : Int))] [(0, v4), (1, v4)] [(0, [.i (L1.getD v4 R_iiii.z).a0, .i (L1.getD v4 R_iiii.z).a1, .i (L1.getD v4 R_iiii.z).a2, .i (L1.getD v4 R_iiii.z).a3]), (1, [.i (L1.getD v4 R_iiii.z).a0, .i (L1.getD v4 R_iiii.z).a1, .i (L1.getD v4 R_iiii.z).a2, .i (L1.getD v4 R_iiii.z).a3])] [(0, (ref12_stepT0 ((L1.getD v4 R_iiii.z).a0) ((L1.getD v4 R_iiii.z).a1) ((L1.getD v4 R_iiii.z).a2) ((L1.getD v4 R_iiii.z).a3) ((v4 : Int))    1)), (1, (ref10_IsT0 ((L1.getD v4 R_iiii.z).a0) ((L1.getD v4 R_iiii.z).a1) ((L1.getD v4 R_iiii.z).a2) ((L1.getD v4 R_iiii.z).a3)  y3_0  2))])) (live := [0, 1]) (tv := fun _ => [some (vs 0 o0 n2 n3), some (vs 1 0 1 1), some (vi (((v4 + 1) : Nat) : Int))]) (bl := [some (.ro O0), some (.cells (rowV E_ii ([(⟨(v4 : Int), (0 : Int)⟩ : R_ii)] : List R_ii)) 58)]) (ob := [((IntKind.i64.wrap ((v4 : Int) + (1 : Int))) == (((v4 + 1) : Nat) : Int), true), ((!y3_0), false), (dP (ref10_IsP0 #[Value.agg #[vi (L1.getD v4 R_iiii.z).a0, vi (L1.getD v4 R_iiii.z).a1, vi (L1.getD v4 R_iiii.z).a2, vi (L1.getD v4 R_iiii.z).a3]] ((L1.getD v4 R_iiii.z).a0) ((L1.getD v4 R_iiii.z).a1) ((L1.getD v4 R_iiii.z).a2) ((L1.getD v4 R_iiii.z).a3)  y3_0  2), true), (sameR (roRow O0 (o0 + (v4 * 4)) 4) [.i (L1.getD v4 R_iiii.z).a0, .i (L1.getD v4 R_iiii.z).a1, .i (L1.getD v4 R_iiii.z).a2, .i (L1.getD v4 R_iiii.z).a3], true), (Nat.blt v4 n2, true), ((v4 : Int) == Int.ofNat v4, true), (dP (ref12_stepP0 #[vn, Value.agg #[vi (L1.getD v4 R_iiii.z).a0, vi (L1.getD v4 R_iiii.z).a1, vi (L1.getD v4 R_iiii.z).a2, vi (L1.getD v4 R_iiii.z).a3], vi (v4 : Int)] ((L1.getD v4 R_iiii.z).a0) ((L1.getD v4 R_iiii.z).a1) ((L1.getD v4 R_iiii.z).a2) ((L1.getD v4 R_iiii.z).a3) ((v4 : Int))    1), true), (sameR (roRow O0 (o0 + (v4 * 4)) 4) [.i (L1.getD v4 R_iiii.z).a0, .i (L1.getD v4 R_iiii.z).a1, .i (L1.getD v4 R_iiii.z).a2, .i (L1.getD v4 R_iiii.z).a3], true), (Nat.blt v4 n2, true), ((v4 : Int) == Int.ofNat v4, true), ((decide ((v4 : Int) < (n2 : Int))), true)]) rfl (show 1 ∈ rids (ref12_WrongK 1) from by decide +kernel) (fun gv => by kernel_rfl) (obs_cons (beq_iff_eq.2 ((wrap_i64 ltA).trans (by first | rfl | omega))) <| obs_cons (notB_f (by first | assumption | simp_all)) <| obs_cons (dP_of (ref10_IsC0 #[Value.agg #[vi (L1.getD v4 R_iiii.z).a0, vi (L1.getD v4 R_iiii.z).a1, vi (L1.getD v4 R_iiii.z).a2, vi (L1.getD v4 R_iiii.z).a3]] ((L1.getD v4 R_iiii.z).a0) ((L1.getD v4 R_iiii.z).a1) ((L1.getD v4 R_iiii.z).a2) ((L1.getD v4 R_iiii.z).a3)  y3_0 N c3  2 rfl (by decide) (by decide))) <| obs_cons ((show (o0 + v4 * 4 + 0) = (o0 + (v4 * 4)) from by omega) ▸ F0 v4 (by omega) 0 4 (show 0 + 4 ≤ 4 from by decide)) <| oB <| oI <| obs_cons (dP_of (ref12_stepC0 #[vn, Value.agg #[vi (L1.getD v4 R_iiii.z).a0, vi (L1.getD v4 R_iiii.z).a1, vi (L1.getD v4 R_iiii.z).a2, vi (L1.getD v4 R_iiii.z).a3], vi (v4 : Int)] ((L1.getD v4 R_iiii.z).a0) ((L1.getD v4 R_iiii.z).a1) ((L1.getD v4 R_iiii.z).a2) ((L1.getD v4 R_iiii.z).a3) ((v4 : Int))   N c2  1 rfl (by decide) (by decide))) <| obs_cons ((show (o0 + v4 * 4 + 0) = (o0 + (v4 * 4)) from by omega) ▸ F0 v4 (by omega) 0 4 (show 0 + 4 ≤ 4 from by decide)) <| oB <| oI <| oY obs_nil) rfl (by decide) (by rfl) (fun _ => ⟨rr, ⟨⟨Eq.trans (show (vs 1 0 ([(⟨(v4 : Int), (0 : Int)⟩ : R_ii)] : List R_ii).length ([(⟨(v4 : Int), (0 : Int)⟩ : R_ii)] : List R_ii).length : Value) = vs 1 0 1 1 from (slice_eq rfl eqA eqA)) (by rfl), by rfl⟩, ⟨rr, trivial⟩⟩⟩) ⟨rfl, ⟨(same_row (E := E_ii) (α := R_ii) _ ([(⟨(v4 : Int), (0 : Int)⟩ : R_ii)] : List R_ii) _), trivial⟩⟩
      ·
       exact Mach.ok_none
   | r1 y2_0 =>
    refine Mach.ok_bind (fun z3 c3 => ?_)
    cases z3 with
    | r0 y3_0 =>
     refine Mach.ok_ite (fun g4 => ?_) (fun g4 => ?_)
     ·
      exact Mach.ok_fin (M := ref12_WrongM o0 L1 n2 n3 O0 N) (cd := 1000000) (cm := 0) (r := (.r0 ((v4 : Int)) : ref12_WrongR)) (fu := 4000) (orc := (orcw [(0, true), (1, true)] [] [(0, v4), (1, v4)] [(0, [.i (L1.getD v4 R_iiii.z).a0, .i (L1.getD v4 R_iiii.z).a1, .i (L1.getD v4 R_iiii.z).a2, .i (L1.getD v4 R_iiii.z).a3]), (1, [.i (L1.getD v4 R_iiii.z).a0, .i (L1.getD v4 R_iiii.z).a1, .i (L1.getD v4 R_iiii.z).a2, .i (L1.getD v4 R_iiii.z).a3])] [(0, (ref12_stepT1 ((L1.getD v4 R_iiii.z).a0) ((L1.getD v4 R_iiii.z).a1) ((L1.getD v4 R_iiii.z).a2) ((L1.getD v4 R_iiii.z).a3) ((v4 : Int))  y2_0  1)), (1, (ref10_IsT0 ((L1.getD v4 R_iiii.z).a0) ((L1.getD v4 R_iiii.z).a1) ((L1.getD v4 R_iiii.z).a2) ((L1.getD v4 R_iiii.z).a3)  y3_0  1))])) (live := [0]) (u := vi (v4 : Int)) (bl := [some (.ro O0)]) (ob := [((!y3_0), true), (dP (ref10_IsP0 #[Value.agg #[vi (L1.getD v4 R_iiii.z).a0, vi (L1.getD v4 R_iiii.z).a1, vi (L1.getD v4 R_iiii.z).a2, vi (L1.getD v4 R_iiii.z).a3]] ((L1.getD v4 R_iiii.z).a0) ((L1.getD v4 R_iiii.z).a1) ((L1.getD v4 R_iiii.z).a2) ((L1.getD v4 R_iiii.z).a3)  y3_0  1), true), (sameR (roRow O0 (o0 + (v4 * 4)) 4) [.i (L1.getD v4 R_iiii.z).a0, .i (L1.getD v4 R_iiii.z).a1, .i (L1.getD v4 R_iiii.z).a2, .i (L1.getD v4 R_iiii.z).a3], true), (Nat.blt v4 n2, true), ((v4 : Int) == Int.ofNat v4, true), (dP (ref12_stepP1 #[vn, Value.agg #[vi (L1.getD v4 R_iiii.z).a0, vi (L1.getD v4 R_iiii.z).a1, vi (L1.getD v4 R_iiii.z).a2, vi (L1.getD v4 R_iiii.z).a3], vi (v4 : Int)] ((L1.getD v4 R_iiii.z).a0) ((L1.getD v4 R_iiii.z).a1) ((L1.getD v4 R_iiii.z).a2) ((L1.getD v4 R_iiii.z).a3) ((v4 : Int))  y2_0  1), true), (sameR (roRow O0 (o0 + (v4 * 4)) 4) [.i (L1.getD v4 R_iiii.z).a0, .i (L1.getD v4 R_iiii.z).a1, .i (L1.getD v4 R_iiii.z).a2, .i (L1.getD v4 R_iiii.z).a3], true), (Nat.blt v4 n2, true), ((v4 : Int) == Int.ofNat v4, true), ((decide ((v4 : Int) < (n2 : Int))), true)]) (fun gv => by kernel_rfl) (obs_cons (notB_t (by first | assumption | simp_all)) <| obs_cons (dP_of (ref10_IsC0 #[Value.agg #[vi (L1.getD v4 R_iiii.z).a0, vi (L1.getD v4 R_iiii.z).a1, vi (L1.getD v4 R_iiii.z).a2, vi (L1.getD v4 R_iiii.z).a3]] ((L1.getD v4 R_iiii.z).a0) ((L1.getD v4 R_iiii.z).a1) ((L1.getD v4 R_iiii.z).a2) ((L1.getD v4 R_iiii.z).a3)  y3_0 N c3  1 rfl (by decide) (by decide))) <| obs_cons ((show (o0 + v4 * 4 + 0) = (o0 + (v4 * 4)) from by omega) ▸ F0 v4 (by omega) 0 4 (show 0 + 4 ≤ 4 from by decide)) <| oB <| oI <| obs_cons (dP_of (ref12_stepC1 #[vn, Value.agg #[vi (L1.getD v4 R_iiii.z).a0, vi (L1.getD v4 R_iiii.z).a1, vi (L1.getD v4 R_iiii.z).a2, vi (L1.getD v4 R_iiii.z).a3], vi (v4 : Int)] ((L1.getD v4 R_iiii.z).a0) ((L1.getD v4 R_iiii.z).a1) ((L1.getD v4 R_iiii.z).a2) ((L1.getD v4 R_iiii.z).a3) ((v4 : Int))  y2_0 N c2  1 rfl (by decide) (by decide))) <| obs_cons ((show (o0 + v4 * 4 + 0) = (o0 + (v4 * 4)) from by omega) ▸ F0 v4 (by omega) 0 4 (show 0 + 4 ≤ 4 from by decide)) <| oB <| oI <| oY obs_nil) rfl (by decide) (by rfl) rr ⟨rfl, trivial⟩
     ·
      refine Mach.ok_ite (fun g5 => ?_) (fun g5 => ?_)
      ·
       exact Mach.ok_fin (M := ref12_WrongM o0 L1 n2 n3 O0 N) (cd := 1000000) (cm := 0) (r := (.r0 ((v4 : Int)) : ref12_WrongR)) (fu := 4000) (orc := (orcw [(0, true), (1, false), (2, true)] [] [(0, v4), (1, v4)] [(0, [.i (L1.getD v4 R_iiii.z).a0, .i (L1.getD v4 R_iiii.z).a1, .i (L1.getD v4 R_iiii.z).a2, .i (L1.getD v4 R_iiii.z).a3]), (1, [.i (L1.getD v4 R_iiii.z).a0, .i (L1.getD v4 R_iiii.z).a1, .i (L1.getD v4 R_iiii.z).a2, .i (L1.getD v4 R_iiii.z).a3])] [(0, (ref12_stepT1 ((L1.getD v4 R_iiii.z).a0) ((L1.getD v4 R_iiii.z).a1) ((L1.getD v4 R_iiii.z).a2) ((L1.getD v4 R_iiii.z).a3) ((v4 : Int))  y2_0  1)), (1, (ref10_IsT0 ((L1.getD v4 R_iiii.z).a0) ((L1.getD v4 R_iiii.z).a1) ((L1.getD v4 R_iiii.z).a2) ((L1.getD v4 R_iiii.z).a3)  y3_0  1))])) (live := [0]) (u := vi (v4 : Int)) (bl := [some (.ro O0)]) (ob := [((!y2_0), true), ((!y3_0), false), (dP (ref10_IsP0 #[Value.agg #[vi (L1.getD v4 R_iiii.z).a0, vi (L1.getD v4 R_iiii.z).a1, vi (L1.getD v4 R_iiii.z).a2, vi (L1.getD v4 R_iiii.z).a3]] ((L1.getD v4 R_iiii.z).a0) ((L1.getD v4 R_iiii.z).a1) ((L1.getD v4 R_iiii.z).a2) ((L1.getD v4 R_iiii.z).a3)  y3_0  1), true), (sameR (roRow O0 (o0 + (v4 * 4)) 4) [.i (L1.getD v4 R_iiii.z).a0, .i (L1.getD v4 R_iiii.z).a1, .i (L1.getD v4 R_iiii.z).a2, .i (L1.getD v4 R_iiii.z).a3], true), (Nat.blt v4 n2, true), ((v4 : Int) == Int.ofNat v4, true), (dP (ref12_stepP1 #[vn, Value.agg #[vi (L1.getD v4 R_iiii.z).a0, vi (L1.getD v4 R_iiii.z).a1, vi (L1.getD v4 R_iiii.z).a2, vi (L1.getD v4 R_iiii.z).a3], vi (v4 : Int)] ((L1.getD v4 R_iiii.z).a0) ((L1.getD v4 R_iiii.z).a1) ((L1.getD v4 R_iiii.z).a2) ((L1.getD v4 R_iiii.z).a3) ((v4 : Int))  y2_0  1), true), (sameR (roRow O0 (o0 + (v4 * 4)) 4) [.i (L1.getD v4 R_iiii.z).a0, .i (L1.getD v4 R_iiii.z).a1, .i (L1.getD v4 R_iiii.z).a2, .i (L1.getD v4 R_iiii.z).a3], true), (Nat.blt v4 n2, true), ((v4 : Int) == Int.ofNat v4, true), ((decide ((v4 : Int) < (n2 : Int))), true)]) (fun gv => by kernel_rfl) (obs_cons (notB_t (by first | assumption | simp_all)) <| obs_cons (notB_f (by first | assumption | simp_all)) <| obs_cons (dP_of (ref10_IsC0 #[Value.agg #[vi (L1.getD v4 R_iiii.z).a0, vi (L1.getD v4 R_iiii.z).a1, vi (L1.getD v4 R_iiii.z).a2, vi (L1.getD v4 R_iiii.z).a3]] ((L1.getD v4 R_iiii.z).a0) ((L1.getD v4 R_iiii.z).a1) ((L1.getD v4 R_iiii.z).a2) ((L1.getD v4 R_iiii.z).a3)  y3_0 N c3  1 rfl (by decide) (by decide))) <| obs_cons ((show (o0 + v4 * 4 + 0) = (o0 + (v4 * 4)) from by omega) ▸ F0 v4 (by omega) 0 4 (show 0 + 4 ≤ 4 from by decide)) <| oB <| oI <| obs_cons (dP_of (ref12_stepC1 #[vn, Value.agg #[vi (L1.getD v4 R_iiii.z).a0, vi (L1.getD v4 R_iiii.z).a1, vi (L1.getD v4 R_iiii.z).a2, vi (L1.getD v4 R_iiii.z).a3], vi (v4 : Int)] ((L1.getD v4 R_iiii.z).a0) ((L1.getD v4 R_iiii.z).a1) ((L1.getD v4 R_iiii.z).a2) ((L1.getD v4 R_iiii.z).a3) ((v4 : Int))  y2_0 N c2  1 rfl (by decide) (by decide))) <| obs_cons ((show (o0 + v4 * 4 + 0) = (o0 + (v4 * 4)) from by omega) ▸ F0 v4 (by omega) 0 4 (show 0 + 4 ≤ 4 from by decide)) <| oB <| oI <| oY obs_nil) rfl (by decide) (by rfl) rr ⟨rfl, trivial⟩
      ·
       refine Mach.ok_ite (fun g6 => ?_) (fun g6 => ?_)
       ·
        exact Mach.ok_next (M := ref12_WrongM o0 L1 n2 n3 O0 N) (cd := 1000000) (cm := 0) (y := (.h1m0 ((v4 + 1)) : ref12_WrongX)) (fu := 4000) (orc := (orcw [(0, true), (1, false), (2, false)] [(0, (((v4 + 1) : Nat) : Int))] [(0, v4), (1, v4)] [(0, [.i (L1.getD v4 R_iiii.z).a0, .i (L1.getD v4 R_iiii.z).a1, .i (L1.getD v4 R_iiii.z).a2, .i (L1.getD v4 R_iiii.z).a3]), (1, [.i (L1.getD v4 R_iiii.z).a0, .i (L1.getD v4 R_iiii.z).a1, .i (L1.getD v4 R_iiii.z).a2, .i (L1.getD v4 R_iiii.z).a3])] [(0, (ref12_stepT1 ((L1.getD v4 R_iiii.z).a0) ((L1.getD v4 R_iiii.z).a1) ((L1.getD v4 R_iiii.z).a2) ((L1.getD v4 R_iiii.z).a3) ((v4 : Int))  y2_0  1)), (1, (ref10_IsT0 ((L1.getD v4 R_iiii.z).a0) ((L1.getD v4 R_iiii.z).a1) ((L1.getD v4 R_iiii.z).a2) ((L1.getD v4 R_iiii.z).a3)  y3_0  1))])) (live := [0]) (tv := fun _ => [some (vs 0 o0 n2 n3), some (vn), some (vi (((v4 + 1) : Nat) : Int))]) (bl := [some (.ro O0)]) (ob := [((IntKind.i64.wrap ((v4 : Int) + (1 : Int))) == (((v4 + 1) : Nat) : Int), true), ((!y2_0), false), ((!y3_0), false), (dP (ref10_IsP0 #[Value.agg #[vi (L1.getD v4 R_iiii.z).a0, vi (L1.getD v4 R_iiii.z).a1, vi (L1.getD v4 R_iiii.z).a2, vi (L1.getD v4 R_iiii.z).a3]] ((L1.getD v4 R_iiii.z).a0) ((L1.getD v4 R_iiii.z).a1) ((L1.getD v4 R_iiii.z).a2) ((L1.getD v4 R_iiii.z).a3)  y3_0  1), true), (sameR (roRow O0 (o0 + (v4 * 4)) 4) [.i (L1.getD v4 R_iiii.z).a0, .i (L1.getD v4 R_iiii.z).a1, .i (L1.getD v4 R_iiii.z).a2, .i (L1.getD v4 R_iiii.z).a3], true), (Nat.blt v4 n2, true), ((v4 : Int) == Int.ofNat v4, true), (dP (ref12_stepP1 #[vn, Value.agg #[vi (L1.getD v4 R_iiii.z).a0, vi (L1.getD v4 R_iiii.z).a1, vi (L1.getD v4 R_iiii.z).a2, vi (L1.getD v4 R_iiii.z).a3], vi (v4 : Int)] ((L1.getD v4 R_iiii.z).a0) ((L1.getD v4 R_iiii.z).a1) ((L1.getD v4 R_iiii.z).a2) ((L1.getD v4 R_iiii.z).a3) ((v4 : Int))  y2_0  1), true), (sameR (roRow O0 (o0 + (v4 * 4)) 4) [.i (L1.getD v4 R_iiii.z).a0, .i (L1.getD v4 R_iiii.z).a1, .i (L1.getD v4 R_iiii.z).a2, .i (L1.getD v4 R_iiii.z).a3], true), (Nat.blt v4 n2, true), ((v4 : Int) == Int.ofNat v4, true), ((decide ((v4 : Int) < (n2 : Int))), true)]) rfl (show 1 ∈ rids (ref12_WrongK 1) from by decide +kernel) (fun gv => by kernel_rfl) (obs_cons (beq_iff_eq.2 ((wrap_i64 ltA).trans (by first | rfl | omega))) <| obs_cons (notB_f (by first | assumption | simp_all)) <| obs_cons (notB_f (by first | assumption | simp_all)) <| obs_cons (dP_of (ref10_IsC0 #[Value.agg #[vi (L1.getD v4 R_iiii.z).a0, vi (L1.getD v4 R_iiii.z).a1, vi (L1.getD v4 R_iiii.z).a2, vi (L1.getD v4 R_iiii.z).a3]] ((L1.getD v4 R_iiii.z).a0) ((L1.getD v4 R_iiii.z).a1) ((L1.getD v4 R_iiii.z).a2) ((L1.getD v4 R_iiii.z).a3)  y3_0 N c3  1 rfl (by decide) (by decide))) <| obs_cons ((show (o0 + v4 * 4 + 0) = (o0 + (v4 * 4)) from by omega) ▸ F0 v4 (by omega) 0 4 (show 0 + 4 ≤ 4 from by decide)) <| oB <| oI <| obs_cons (dP_of (ref12_stepC1 #[vn, Value.agg #[vi (L1.getD v4 R_iiii.z).a0, vi (L1.getD v4 R_iiii.z).a1, vi (L1.getD v4 R_iiii.z).a2, vi (L1.getD v4 R_iiii.z).a3], vi (v4 : Int)] ((L1.getD v4 R_iiii.z).a0) ((L1.getD v4 R_iiii.z).a1) ((L1.getD v4 R_iiii.z).a2) ((L1.getD v4 R_iiii.z).a3) ((v4 : Int))  y2_0 N c2  1 rfl (by decide) (by decide))) <| obs_cons ((show (o0 + v4 * 4 + 0) = (o0 + (v4 * 4)) from by omega) ▸ F0 v4 (by omega) 0 4 (show 0 + 4 ≤ 4 from by decide)) <| oB <| oI <| oY obs_nil) rfl (by decide) (by rfl) (fun _ => ⟨rr, ⟨rr, ⟨rr, trivial⟩⟩⟩) ⟨rfl, trivial⟩
       ·
        exact Mach.ok_none
  ·
   exact Mach.ok_none
 ·
  exact Mach.ok_head (bK := ref12_WrongC 2) (M := ref12_WrongM o0 L1 n2 n3 O0 N) (cd := 1000000) (cm := 0) (y := (.h2m0 (0) : ref12_WrongX)) (fu := 4000) (orc := (orcw [(0, false)] [] [] [] [])) (live := [0]) (tv := fun _ => [some (vs 0 o0 n2 n3), some (vi (0 : Int))]) (bl := [some (.ro O0)]) (ob := [((decide ((v4 : Int) < (n2 : Int))), false)]) rfl rfl (show ∀ j ∈ rids (ref12_WrongC 2).2, j ∈ rids (ref12_WrongK 1) from by decide +kernel) (fun gv => by kernel_rfl) (oN obs_nil) rfl (by decide) (by rfl) (fun _ => ⟨rr, ⟨⟨Eq.trans (show (vi ((0 : Nat) : Int) : Value) = vi (0 : Int) from (congrArg (Value.int .i64) (by first | rfl | omega))) (by rfl), by rfl⟩, trivial⟩⟩) ⟨rfl, trivial⟩

theorem ref12_Wrong_ok1_1 (o0 : Nat) (L1 : List R_iiii) (n2 n3 : Nat) (O0 : Obj) (F0 : RO_iiii O0 o0 L1) (v4 : List R_ii) (v5 N : Nat) : (ref12_WrongM o0 L1 n2 n3 O0 N).Ok Try.prog ext_Cf (.h1m1 v4 v5 : ref12_WrongX) (ref12_WrongStep L1 n2 n3 N (.h1m1 v4 v5 : ref12_WrongX)) := by
 show (ref12_WrongM o0 L1 n2 n3 O0 N).Ok Try.prog ext_Cf (.h1m1 v4 v5 : ref12_WrongX) (ref12_Wrong_h1m1 L1 n2 n3 N v4 v5)
 unfold ref12_Wrong_h1m1
 refine Mach.ok_ite (fun g0 => ?_) (fun g0 => ?_)
 ·
  refine Mach.ok_ite (fun g1 => ?_) (fun g1 => ?_)
  ·
   refine Mach.ok_bind (fun z2 c2 => ?_)
   cases z2 with
   | r0 y2_0 =>
    refine Mach.ok_bind (fun z3 c3 => ?_)
    cases z3 with
    | r0 y3_0 =>
     refine Mach.ok_ite (fun g4 => ?_) (fun g4 => ?_)
     ·
      exact Mach.ok_fin (M := ref12_WrongM o0 L1 n2 n3 O0 N) (cd := 1000000) (cm := 0) (r := (.r0 ((v5 : Int)) : ref12_WrongR)) (fu := 4000) (orc := (orcw [(0, true), (1, true)] [] [(0, v5), (1, v5)] [(0, [.i (L1.getD v5 R_iiii.z).a0, .i (L1.getD v5 R_iiii.z).a1, .i (L1.getD v5 R_iiii.z).a2, .i (L1.getD v5 R_iiii.z).a3]), (1, [.i (L1.getD v5 R_iiii.z).a0, .i (L1.getD v5 R_iiii.z).a1, .i (L1.getD v5 R_iiii.z).a2, .i (L1.getD v5 R_iiii.z).a3])] [(0, (ref12_step_2T0 (v4) ((L1.getD v5 R_iiii.z).a0) ((L1.getD v5 R_iiii.z).a1) ((L1.getD v5 R_iiii.z).a2) ((L1.getD v5 R_iiii.z).a3) ((v5 : Int))  y2_0 1 2)), (1, (ref10_IsT0 ((L1.getD v5 R_iiii.z).a0) ((L1.getD v5 R_iiii.z).a1) ((L1.getD v5 R_iiii.z).a2) ((L1.getD v5 R_iiii.z).a3)  y3_0  2))])) (live := [0]) (u := vi (v5 : Int)) (bl := [some (.ro O0)]) (ob := [((!y3_0), true), (dP (ref10_IsP0 #[Value.agg #[vi (L1.getD v5 R_iiii.z).a0, vi (L1.getD v5 R_iiii.z).a1, vi (L1.getD v5 R_iiii.z).a2, vi (L1.getD v5 R_iiii.z).a3]] ((L1.getD v5 R_iiii.z).a0) ((L1.getD v5 R_iiii.z).a1) ((L1.getD v5 R_iiii.z).a2) ((L1.getD v5 R_iiii.z).a3)  y3_0  2), true), (sameR (roRow O0 (o0 + (v5 * 4)) 4) [.i (L1.getD v5 R_iiii.z).a0, .i (L1.getD v5 R_iiii.z).a1, .i (L1.getD v5 R_iiii.z).a2, .i (L1.getD v5 R_iiii.z).a3], true), (Nat.blt v5 n2, true), ((v5 : Int) == Int.ofNat v5, true), (dP (ref12_step_2P0 #[vs 1 0 v4.length v4.length, Value.agg #[vi (L1.getD v5 R_iiii.z).a0, vi (L1.getD v5 R_iiii.z).a1, vi (L1.getD v5 R_iiii.z).a2, vi (L1.getD v5 R_iiii.z).a3], vi (v5 : Int)] (v4) ((L1.getD v5 R_iiii.z).a0) ((L1.getD v5 R_iiii.z).a1) ((L1.getD v5 R_iiii.z).a2) ((L1.getD v5 R_iiii.z).a3) ((v5 : Int))  y2_0 1 2), true), (dS (rowV E_ii v4), true), (sameR (roRow O0 (o0 + (v5 * 4)) 4) [.i (L1.getD v5 R_iiii.z).a0, .i (L1.getD v5 R_iiii.z).a1, .i (L1.getD v5 R_iiii.z).a2, .i (L1.getD v5 R_iiii.z).a3], true), (Nat.blt v5 n2, true), ((v5 : Int) == Int.ofNat v5, true), ((decide ((v5 : Int) < (n2 : Int))), true)]) (fun gv => by kernel_rfl) (obs_cons (notB_t (by first | assumption | simp_all)) <| obs_cons (dP_of (ref10_IsC0 #[Value.agg #[vi (L1.getD v5 R_iiii.z).a0, vi (L1.getD v5 R_iiii.z).a1, vi (L1.getD v5 R_iiii.z).a2, vi (L1.getD v5 R_iiii.z).a3]] ((L1.getD v5 R_iiii.z).a0) ((L1.getD v5 R_iiii.z).a1) ((L1.getD v5 R_iiii.z).a2) ((L1.getD v5 R_iiii.z).a3)  y3_0 N c3  2 rfl (by decide) (by decide))) <| obs_cons ((show (o0 + v5 * 4 + 0) = (o0 + (v5 * 4)) from by omega) ▸ F0 v5 (by omega) 0 4 (show 0 + 4 ≤ 4 from by decide)) <| oB <| oI <| obs_cons (dP_of (ref12_step_2C0 #[vs 1 0 v4.length v4.length, Value.agg #[vi (L1.getD v5 R_iiii.z).a0, vi (L1.getD v5 R_iiii.z).a1, vi (L1.getD v5 R_iiii.z).a2, vi (L1.getD v5 R_iiii.z).a3], vi (v5 : Int)] (v4) ((L1.getD v5 R_iiii.z).a0) ((L1.getD v5 R_iiii.z).a1) ((L1.getD v5 R_iiii.z).a2) ((L1.getD v5 R_iiii.z).a3) ((v5 : Int))  y2_0 N c2 1 2 rfl (by decide) (by decide))) <| oR <| obs_cons ((show (o0 + v5 * 4 + 0) = (o0 + (v5 * 4)) from by omega) ▸ F0 v5 (by omega) 0 4 (show 0 + 4 ≤ 4 from by decide)) <| oB <| oI <| oY obs_nil) rfl (by decide) (by rfl) rr ⟨rfl, trivial⟩
     ·
      refine Mach.ok_ite (fun g5 => ?_) (fun g5 => ?_)
      ·
       exact Mach.ok_fin (M := ref12_WrongM o0 L1 n2 n3 O0 N) (cd := 1000000) (cm := 0) (r := (.r0 ((v5 : Int)) : ref12_WrongR)) (fu := 4000) (orc := (orcw [(0, true), (1, false), (2, true)] [] [(0, v5), (1, v5)] [(0, [.i (L1.getD v5 R_iiii.z).a0, .i (L1.getD v5 R_iiii.z).a1, .i (L1.getD v5 R_iiii.z).a2, .i (L1.getD v5 R_iiii.z).a3]), (1, [.i (L1.getD v5 R_iiii.z).a0, .i (L1.getD v5 R_iiii.z).a1, .i (L1.getD v5 R_iiii.z).a2, .i (L1.getD v5 R_iiii.z).a3])] [(0, (ref12_step_2T0 (v4) ((L1.getD v5 R_iiii.z).a0) ((L1.getD v5 R_iiii.z).a1) ((L1.getD v5 R_iiii.z).a2) ((L1.getD v5 R_iiii.z).a3) ((v5 : Int))  y2_0 1 2)), (1, (ref10_IsT0 ((L1.getD v5 R_iiii.z).a0) ((L1.getD v5 R_iiii.z).a1) ((L1.getD v5 R_iiii.z).a2) ((L1.getD v5 R_iiii.z).a3)  y3_0  2))])) (live := [0]) (u := vi (v5 : Int)) (bl := [some (.ro O0)]) (ob := [((!y2_0), true), ((!y3_0), false), (dP (ref10_IsP0 #[Value.agg #[vi (L1.getD v5 R_iiii.z).a0, vi (L1.getD v5 R_iiii.z).a1, vi (L1.getD v5 R_iiii.z).a2, vi (L1.getD v5 R_iiii.z).a3]] ((L1.getD v5 R_iiii.z).a0) ((L1.getD v5 R_iiii.z).a1) ((L1.getD v5 R_iiii.z).a2) ((L1.getD v5 R_iiii.z).a3)  y3_0  2), true), (sameR (roRow O0 (o0 + (v5 * 4)) 4) [.i (L1.getD v5 R_iiii.z).a0, .i (L1.getD v5 R_iiii.z).a1, .i (L1.getD v5 R_iiii.z).a2, .i (L1.getD v5 R_iiii.z).a3], true), (Nat.blt v5 n2, true), ((v5 : Int) == Int.ofNat v5, true), (dP (ref12_step_2P0 #[vs 1 0 v4.length v4.length, Value.agg #[vi (L1.getD v5 R_iiii.z).a0, vi (L1.getD v5 R_iiii.z).a1, vi (L1.getD v5 R_iiii.z).a2, vi (L1.getD v5 R_iiii.z).a3], vi (v5 : Int)] (v4) ((L1.getD v5 R_iiii.z).a0) ((L1.getD v5 R_iiii.z).a1) ((L1.getD v5 R_iiii.z).a2) ((L1.getD v5 R_iiii.z).a3) ((v5 : Int))  y2_0 1 2), true), (dS (rowV E_ii v4), true), (sameR (roRow O0 (o0 + (v5 * 4)) 4) [.i (L1.getD v5 R_iiii.z).a0, .i (L1.getD v5 R_iiii.z).a1, .i (L1.getD v5 R_iiii.z).a2, .i (L1.getD v5 R_iiii.z).a3], true), (Nat.blt v5 n2, true), ((v5 : Int) == Int.ofNat v5, true), ((decide ((v5 : Int) < (n2 : Int))), true)]) (fun gv => by kernel_rfl) (obs_cons (notB_t (by first | assumption | simp_all)) <| obs_cons (notB_f (by first | assumption | simp_all)) <| obs_cons (dP_of (ref10_IsC0 #[Value.agg #[vi (L1.getD v5 R_iiii.z).a0, vi (L1.getD v5 R_iiii.z).a1, vi (L1.getD v5 R_iiii.z).a2, vi (L1.getD v5 R_iiii.z).a3]] ((L1.getD v5 R_iiii.z).a0) ((L1.getD v5 R_iiii.z).a1) ((L1.getD v5 R_iiii.z).a2) ((L1.getD v5 R_iiii.z).a3)  y3_0 N c3  2 rfl (by decide) (by decide))) <| obs_cons ((show (o0 + v5 * 4 + 0) = (o0 + (v5 * 4)) from by omega) ▸ F0 v5 (by omega) 0 4 (show 0 + 4 ≤ 4 from by decide)) <| oB <| oI <| obs_cons (dP_of (ref12_step_2C0 #[vs 1 0 v4.length v4.length, Value.agg #[vi (L1.getD v5 R_iiii.z).a0, vi (L1.getD v5 R_iiii.z).a1, vi (L1.getD v5 R_iiii.z).a2, vi (L1.getD v5 R_iiii.z).a3], vi (v5 : Int)] (v4) ((L1.getD v5 R_iiii.z).a0) ((L1.getD v5 R_iiii.z).a1) ((L1.getD v5 R_iiii.z).a2) ((L1.getD v5 R_iiii.z).a3) ((v5 : Int))  y2_0 N c2 1 2 rfl (by decide) (by decide))) <| oR <| obs_cons ((show (o0 + v5 * 4 + 0) = (o0 + (v5 * 4)) from by omega) ▸ F0 v5 (by omega) 0 4 (show 0 + 4 ≤ 4 from by decide)) <| oB <| oI <| oY obs_nil) rfl (by decide) (by rfl) rr ⟨rfl, trivial⟩
      ·
       refine Mach.ok_ite (fun g6 => ?_) (fun g6 => ?_)
       ·
        exact Mach.ok_next (M := ref12_WrongM o0 L1 n2 n3 O0 N) (cd := 1000000) (cm := 0) (y := (.h1m1 (v4) ((v5 + 1)) : ref12_WrongX)) (fu := 4000) (orc := (orcw [(0, true), (1, false), (2, false)] [(0, (((v5 + 1) : Nat) : Int))] [(0, v5), (1, v5)] [(0, [.i (L1.getD v5 R_iiii.z).a0, .i (L1.getD v5 R_iiii.z).a1, .i (L1.getD v5 R_iiii.z).a2, .i (L1.getD v5 R_iiii.z).a3]), (1, [.i (L1.getD v5 R_iiii.z).a0, .i (L1.getD v5 R_iiii.z).a1, .i (L1.getD v5 R_iiii.z).a2, .i (L1.getD v5 R_iiii.z).a3])] [(0, (ref12_step_2T0 (v4) ((L1.getD v5 R_iiii.z).a0) ((L1.getD v5 R_iiii.z).a1) ((L1.getD v5 R_iiii.z).a2) ((L1.getD v5 R_iiii.z).a3) ((v5 : Int))  y2_0 1 2)), (1, (ref10_IsT0 ((L1.getD v5 R_iiii.z).a0) ((L1.getD v5 R_iiii.z).a1) ((L1.getD v5 R_iiii.z).a2) ((L1.getD v5 R_iiii.z).a3)  y3_0  2))])) (live := [0, 1]) (tv := fun _ => [some (vs 0 o0 n2 n3), some (vs 1 0 v4.length v4.length), some (vi (((v5 + 1) : Nat) : Int))]) (bl := [some (.ro O0), some (.cells (rowV E_ii v4) 58)]) (ob := [((IntKind.i64.wrap ((v5 : Int) + (1 : Int))) == (((v5 + 1) : Nat) : Int), true), ((!y2_0), false), ((!y3_0), false), (dP (ref10_IsP0 #[Value.agg #[vi (L1.getD v5 R_iiii.z).a0, vi (L1.getD v5 R_iiii.z).a1, vi (L1.getD v5 R_iiii.z).a2, vi (L1.getD v5 R_iiii.z).a3]] ((L1.getD v5 R_iiii.z).a0) ((L1.getD v5 R_iiii.z).a1) ((L1.getD v5 R_iiii.z).a2) ((L1.getD v5 R_iiii.z).a3)  y3_0  2), true), (sameR (roRow O0 (o0 + (v5 * 4)) 4) [.i (L1.getD v5 R_iiii.z).a0, .i (L1.getD v5 R_iiii.z).a1, .i (L1.getD v5 R_iiii.z).a2, .i (L1.getD v5 R_iiii.z).a3], true), (Nat.blt v5 n2, true), ((v5 : Int) == Int.ofNat v5, true), (dP (ref12_step_2P0 #[vs 1 0 v4.length v4.length, Value.agg #[vi (L1.getD v5 R_iiii.z).a0, vi (L1.getD v5 R_iiii.z).a1, vi (L1.getD v5 R_iiii.z).a2, vi (L1.getD v5 R_iiii.z).a3], vi (v5 : Int)] (v4) ((L1.getD v5 R_iiii.z).a0) ((L1.getD v5 R_iiii.z).a1) ((L1.getD v5 R_iiii.z).a2) ((L1.getD v5 R_iiii.z).a3) ((v5 : Int))  y2_0 1 2), true), (dS (rowV E_ii v4), true), (sameR (roRow O0 (o0 + (v5 * 4)) 4) [.i (L1.getD v5 R_iiii.z).a0, .i (L1.getD v5 R_iiii.z).a1, .i (L1.getD v5 R_iiii.z).a2, .i (L1.getD v5 R_iiii.z).a3], true), (Nat.blt v5 n2, true), ((v5 : Int) == Int.ofNat v5, true), ((decide ((v5 : Int) < (n2 : Int))), true)]) rfl (show 1 ∈ rids (ref12_WrongK 1) from by decide +kernel) (fun gv => by kernel_rfl) (obs_cons (beq_iff_eq.2 ((wrap_i64 ltA).trans (by first | rfl | omega))) <| obs_cons (notB_f (by first | assumption | simp_all)) <| obs_cons (notB_f (by first | assumption | simp_all)) <| obs_cons (dP_of (ref10_IsC0 #[Value.agg #[vi (L1.getD v5 R_iiii.z).a0, vi (L1.getD v5 R_iiii.z).a1, vi (L1.getD v5 R_iiii.z).a2, vi (L1.getD v5 R_iiii.z).a3]] ((L1.getD v5 R_iiii.z).a0) ((L1.getD v5 R_iiii.z).a1) ((L1.getD v5 R_iiii.z).a2) ((L1.getD v5 R_iiii.z).a3)  y3_0 N c3  2 rfl (by decide) (by decide))) <| obs_cons ((show (o0 + v5 * 4 + 0) = (o0 + (v5 * 4)) from by omega) ▸ F0 v5 (by omega) 0 4 (show 0 + 4 ≤ 4 from by decide)) <| oB <| oI <| obs_cons (dP_of (ref12_step_2C0 #[vs 1 0 v4.length v4.length, Value.agg #[vi (L1.getD v5 R_iiii.z).a0, vi (L1.getD v5 R_iiii.z).a1, vi (L1.getD v5 R_iiii.z).a2, vi (L1.getD v5 R_iiii.z).a3], vi (v5 : Int)] (v4) ((L1.getD v5 R_iiii.z).a0) ((L1.getD v5 R_iiii.z).a1) ((L1.getD v5 R_iiii.z).a2) ((L1.getD v5 R_iiii.z).a3) ((v5 : Int))  y2_0 N c2 1 2 rfl (by decide) (by decide))) <| oR <| obs_cons ((show (o0 + v5 * 4 + 0) = (o0 + (v5 * 4)) from by omega) ▸ F0 v5 (by omega) 0 4 (show 0 + 4 ≤ 4 from by decide)) <| oB <| oI <| oY obs_nil) rfl (by decide) (by rfl) (fun _ => ⟨rr, ⟨rr, ⟨rr, trivial⟩⟩⟩) ⟨rfl, ⟨(same_row (E := E_ii) (α := R_ii) _ v4 _), trivial⟩⟩
       ·
        exact Mach.ok_none
   | r1 y2_0 =>
    refine Mach.ok_bind (fun z3 c3 => ?_)
    cases z3 with
    | r0 y3_0 =>
     refine Mach.ok_ite (fun g4 => ?_) (fun g4 => ?_)
     ·
      exact Mach.ok_fin (M := ref12_WrongM o0 L1 n2 n3 O0 N) (cd := 1000000) (cm := 0) (r := (.r0 ((v5 : Int)) : ref12_WrongR)) (fu := 4000) (orc := (orcw [(0, true), (1, true)] [] [(0, v5), (1, v5)] [(0, [.i (L1.getD v5 R_iiii.z).a0, .i (L1.getD v5 R_iiii.z).a1, .i (L1.getD v5 R_iiii.z).a2, .i (L1.getD v5 R_iiii.z).a3]), (1, [.i (L1.getD v5 R_iiii.z).a0, .i (L1.getD v5 R_iiii.z).a1, .i (L1.getD v5 R_iiii.z).a2, .i (L1.getD v5 R_iiii.z).a3])] [(0, (ref12_step_2T1 (v4) ((L1.getD v5 R_iiii.z).a0) ((L1.getD v5 R_iiii.z).a1) ((L1.getD v5 R_iiii.z).a2) ((L1.getD v5 R_iiii.z).a3) ((v5 : Int))  y2_0 1 2)), (1, (ref10_IsT0 ((L1.getD v5 R_iiii.z).a0) ((L1.getD v5 R_iiii.z).a1) ((L1.getD v5 R_iiii.z).a2) ((L1.getD v5 R_iiii.z).a3)  y3_0  3))])) (live := [0]) (u := vi (v5 : Int)) (bl := [some (.ro O0)]) (ob := [((!y3_0), true), (dP (ref10_IsP0 #[Value.agg #[vi (L1.getD v5 R_iiii.z).a0, vi (L1.getD v5 R_iiii.z).a1, vi (L1.getD v5 R_iiii.z).a2, vi (L1.getD v5 R_iiii.z).a3]] ((L1.getD v5 R_iiii.z).a0) ((L1.getD v5 R_iiii.z).a1) ((L1.getD v5 R_iiii.z).a2) ((L1.getD v5 R_iiii.z).a3)  y3_0  3), true), (sameR (roRow O0 (o0 + (v5 * 4)) 4) [.i (L1.getD v5 R_iiii.z).a0, .i (L1.getD v5 R_iiii.z).a1, .i (L1.getD v5 R_iiii.z).a2, .i (L1.getD v5 R_iiii.z).a3], true), (Nat.blt v5 n2, true), ((v5 : Int) == Int.ofNat v5, true), (dP (ref12_step_2P1 #[vs 1 0 v4.length v4.length, Value.agg #[vi (L1.getD v5 R_iiii.z).a0, vi (L1.getD v5 R_iiii.z).a1, vi (L1.getD v5 R_iiii.z).a2, vi (L1.getD v5 R_iiii.z).a3], vi (v5 : Int)] (v4) ((L1.getD v5 R_iiii.z).a0) ((L1.getD v5 R_iiii.z).a1) ((L1.getD v5 R_iiii.z).a2) ((L1.getD v5 R_iiii.z).a3) ((v5 : Int))  y2_0 1 2), true), (dS (rowV E_ii v4), true), (sameR (roRow O0 (o0 + (v5 * 4)) 4) [.i (L1.getD v5 R_iiii.z).a0, .i (L1.getD v5 R_iiii.z).a1, .i (L1.getD v5 R_iiii.z).a2, .i (L1.getD v5 R_iiii.z).a3], true), (Nat.blt v5 n2, true), ((v5 : Int) == Int.ofNat v5, true), ((decide ((v5 : Int) < (n2 : Int))), true)]) (fun gv => by kernel_rfl) (obs_cons (notB_t (by first | assumption | simp_all)) <| obs_cons (dP_of (ref10_IsC0 #[Value.agg #[vi (L1.getD v5 R_iiii.z).a0, vi (L1.getD v5 R_iiii.z).a1, vi (L1.getD v5 R_iiii.z).a2, vi (L1.getD v5 R_iiii.z).a3]] ((L1.getD v5 R_iiii.z).a0) ((L1.getD v5 R_iiii.z).a1) ((L1.getD v5 R_iiii.z).a2) ((L1.getD v5 R_iiii.z).a3)  y3_0 N c3  3 rfl (by decide) (by decide))) <| obs_cons ((show (o0 + v5 * 4 + 0) = (o0 + (v5 * 4)) from by omega) ▸ F0 v5 (by omega) 0 4 (show 0 + 4 ≤ 4 from by decide)) <| oB <| oI <| obs_cons (dP_of (ref12_step_2C1 #[vs 1 0 v4.length v4.length, Value.agg #[vi (L1.getD v5 R_iiii.z).a0, vi (L1.getD v5 R_iiii.z).a1, vi (L1.getD v5 R_iiii.z).a2, vi (L1.getD v5 R_iiii.z).a3], vi (v5 : Int)] (v4) ((L1.getD v5 R_iiii.z).a0) ((L1.getD v5 R_iiii.z).a1) ((L1.getD v5 R_iiii.z).a2) ((L1.getD v5 R_iiii.z).a3) ((v5 : Int))  y2_0 N c2 1 2 rfl (by decide) (by decide))) <| oR <| obs_cons ((show (o0 + v5 * 4 + 0) = (o0 + (v5 * 4)) from by omega) ▸ F0 v5 (by omega) 0 4 (show 0 + 4 ≤ 4 from by decide)) <| oB <| oI <| oY obs_nil) rfl (by decide) (by rfl) rr ⟨rfl, trivial⟩
     ·
      refine Mach.ok_ite (fun g5 => ?_) (fun g5 => ?_)
      ·
       exact Mach.ok_next (M := ref12_WrongM o0 L1 n2 n3 O0 N) (cd := 1000000) (cm := 0) (y := (.h1m1 (y2_0) ((v5 + 1)) : ref12_WrongX)) (fu := 4000) (orc := (orcw [(0, true), (1, false)] [(0, (((v5 + 1) : Nat) : Int))] [(0, v5), (1, v5)] [(0, [.i (L1.getD v5 R_iiii.z).a0, .i (L1.getD v5 R_iiii.z).a1, .i (L1.getD v5 R_iiii.z).a2, .i (L1.getD v5 R_iiii.z).a3]), (1, [.i (L1.getD v5 R_iiii.z).a0, .i (L1.getD v5 R_iiii.z).a1, .i (L1.getD v5 R_iiii.z).a2, .i (L1.getD v5 R_iiii.z).a3])] [(0, (ref12_step_2T1 (v4) ((L1.getD v5 R_iiii.z).a0) ((L1.getD v5 R_iiii.z).a1) ((L1.getD v5 R_iiii.z).a2) ((L1.getD v5 R_iiii.z).a3) ((v5 : Int))  y2_0 1 2)), (1, (ref10_IsT0 ((L1.getD v5 R_iiii.z).a0) ((L1.getD v5 R_iiii.z).a1) ((L1.getD v5 R_iiii.z).a2) ((L1.getD v5 R_iiii.z).a3)  y3_0  3))])) (live := [0, 2]) (tv := fun _ => [some (vs 0 o0 n2 n3), some (vs 2 0 y2_0.length y2_0.length), some (vi (((v5 + 1) : Nat) : Int))]) (bl := [some (.ro O0), some (.cells (rowV E_ii y2_0) 58)]) (ob := [((IntKind.i64.wrap ((v5 : Int) + (1 : Int))) == (((v5 + 1) : Nat) : Int), true), ((!y3_0), false), (dP (ref10_IsP0 #[Value.agg #[vi (L1.getD v5 R_iiii.z).a0, vi (L1.getD v5 R_iiii.z).a1, vi (L1.getD v5 R_iiii.z).a2, vi (L1.getD v5 R_iiii.z).a3]] ((L1.getD v5 R_iiii.z).a0) ((L1.getD v5 R_iiii.z).a1) ((L1.getD v5 R_iiii.z).a2) ((L1.getD v5 R_iiii.z).a3)  y3_0  3), true), (sameR (roRow O0 (o0 + (v5 * 4)) 4) [.i (L1.getD v5 R_iiii.z).a0, .i (L1.getD v5 R_iiii.z).a1, .i (L1.getD v5 R_iiii.z).a2, .i (L1.getD v5 R_iiii.z).a3], true), (Nat.blt v5 n2, true), ((v5 : Int) == Int.ofNat v5, true), (dP (ref12_step_2P1 #[vs 1 0 v4.length v4.length, Value.agg #[vi (L1.getD v5 R_iiii.z).a0, vi (L1.getD v5 R_iiii.z).a1, vi (L1.getD v5 R_iiii.z).a2, vi (L1.getD v5 R_iiii.z).a3], vi (v5 : Int)] (v4) ((L1.getD v5 R_iiii.z).a0) ((L1.getD v5 R_iiii.z).a1) ((L1.getD v5 R_iiii.z).a2) ((L1.getD v5 R_iiii.z).a3) ((v5 : Int))  y2_0 1 2), true), (dS (rowV E_ii v4), true), (sameR (roRow O0 (o0 + (v5 * 4)) 4) [.i (L1.getD v5 R_iiii.z).a0, .i (L1.getD v5 R_iiii.z).a1, .i (L1.getD v5 R_iiii.z).a2, .i (L1.getD v5 R_iiii.z).a3], true), (Nat.blt v5 n2, true), ((v5 : Int) == Int.ofNat v5, true), ((decide ((v5 : Int) < (n2 : Int))), true)]) rfl (show 1 ∈ rids (ref12_WrongK 1) from by decide +kernel) (fun gv => by kernel_rfl) (obs_cons (beq_iff_eq.2 ((wrap_i64 ltA).trans (by first | rfl | omega))) <| obs_cons (notB_f (by first | assumption | simp_all)) <| obs_cons (dP_of (ref10_IsC0 #[Value.agg #[vi (L1.getD v5 R_iiii.z).a0, vi (L1.getD v5 R_iiii.z).a1, vi (L1.getD v5 R_iiii.z).a2, vi (L1.getD v5 R_iiii.z).a3]] ((L1.getD v5 R_iiii.z).a0) ((L1.getD v5 R_iiii.z).a1) ((L1.getD v5 R_iiii.z).a2) ((L1.getD v5 R_iiii.z).a3)  y3_0 N c3  3 rfl (by decide) (by decide))) <| obs_cons ((show (o0 + v5 * 4 + 0) = (o0 + (v5 * 4)) from by omega) ▸ F0 v5 (by omega) 0 4 (show 0 + 4 ≤ 4 from by decide)) <| oB <| oI <| obs_cons (dP_of (ref12_step_2C1 #[vs 1 0 v4.length v4.length, Value.agg #[vi (L1.getD v5 R_iiii.z).a0, vi (L1.getD v5 R_iiii.z).a1, vi (L1.getD v5 R_iiii.z).a2, vi (L1.getD v5 R_iiii.z).a3], vi (v5 : Int)] (v4) ((L1.getD v5 R_iiii.z).a0) ((L1.getD v5 R_iiii.z).a1) ((L1.getD v5 R_iiii.z).a2) ((L1.getD v5 R_iiii.z).a3) ((v5 : Int))  y2_0 N c2 1 2 rfl (by decide) (by decide))) <| oR <| obs_cons ((show (o0 + v5 * 4 + 0) = (o0 + (v5 * 4)) from by omega) ▸ F0 v5 (by omega) 0 4 (show 0 + 4 ≤ 4 from by decide)) <| oB <| oI <| oY obs_nil) rfl (by decide) (by rfl) (fun _ => ⟨rr, ⟨rr, ⟨rr, trivial⟩⟩⟩) ⟨rfl, ⟨(same_row (E := E_ii) (α := R_ii) _ y2_0 _), trivial⟩⟩
      ·
       exact Mach.ok_none
   | r2 =>
    refine Mach.ok_bind (fun z3 c3 => ?_)
    cases z3 with
    | r0 y3_0 =>
     refine Mach.ok_ite (fun g4 => ?_) (fun g4 => ?_)
     ·
      exact Mach.ok_fin (M := ref12_WrongM o0 L1 n2 n3 O0 N) (cd := 1000000) (cm := 0) (r := (.r0 ((v5 : Int)) : ref12_WrongR)) (fu := 4000) (orc := (orcw [(0, true), (1, true)] [] [(0, v5), (1, v5)] [(0, [.i (L1.getD v5 R_iiii.z).a0, .i (L1.getD v5 R_iiii.z).a1, .i (L1.getD v5 R_iiii.z).a2, .i (L1.getD v5 R_iiii.z).a3]), (1, [.i (L1.getD v5 R_iiii.z).a0, .i (L1.getD v5 R_iiii.z).a1, .i (L1.getD v5 R_iiii.z).a2, .i (L1.getD v5 R_iiii.z).a3])] [(0, (ref12_step_2T2 (v4) ((L1.getD v5 R_iiii.z).a0) ((L1.getD v5 R_iiii.z).a1) ((L1.getD v5 R_iiii.z).a2) ((L1.getD v5 R_iiii.z).a3) ((v5 : Int))   1 2)), (1, (ref10_IsT0 ((L1.getD v5 R_iiii.z).a0) ((L1.getD v5 R_iiii.z).a1) ((L1.getD v5 R_iiii.z).a2) ((L1.getD v5 R_iiii.z).a3)  y3_0  3))])) (live := [0]) (u := vi (v5 : Int)) (bl := [some (.ro O0)]) (ob := [((!y3_0), true), (dP (ref10_IsP0 #[Value.agg #[vi (L1.getD v5 R_iiii.z).a0, vi (L1.getD v5 R_iiii.z).a1, vi (L1.getD v5 R_iiii.z).a2, vi (L1.getD v5 R_iiii.z).a3]] ((L1.getD v5 R_iiii.z).a0) ((L1.getD v5 R_iiii.z).a1) ((L1.getD v5 R_iiii.z).a2) ((L1.getD v5 R_iiii.z).a3)  y3_0  3), true), (sameR (roRow O0 (o0 + (v5 * 4)) 4) [.i (L1.getD v5 R_iiii.z).a0, .i (L1.getD v5 R_iiii.z).a1, .i (L1.getD v5 R_iiii.z).a2, .i (L1.getD v5 R_iiii.z).a3], true), (Nat.blt v5 n2, true), ((v5 : Int) == Int.ofNat v5, true), (dP (ref12_step_2P2 #[vs 1 0 v4.length v4.length, Value.agg #[vi (L1.getD v5 R_iiii.z).a0, vi (L1.getD v5 R_iiii.z).a1, vi (L1.getD v5 R_iiii.z).a2, vi (L1.getD v5 R_iiii.z).a3], vi (v5 : Int)] (v4) ((L1.getD v5 R_iiii.z).a0) ((L1.getD v5 R_iiii.z).a1) ((L1.getD v5 R_iiii.z).a2) ((L1.getD v5 R_iiii.z).a3) ((v5 : Int))   1 2), true), (dS (rowV E_ii v4), true), (sameR (roRow O0 (o0 + (v5 * 4)) 4) [.i (L1.getD v5 R_iiii.z).a0, .i (L1.getD v5 R_iiii.z).a1, .i (L1.getD v5 R_iiii.z).a2, .i (L1.getD v5 R_iiii.z).a3], true), (Nat.blt v5 n2, true), ((v5 : Int) == Int.ofNat v5, true), ((decide ((v5 : Int) < (n2 : Int))), true)]) (fun gv => by kernel_rfl) (obs_cons (notB_t (by first | assumption | simp_all)) <| obs_cons (dP_of (ref10_IsC0 #[Value.agg #[vi (L1.getD v5 R_iiii.z).a0, vi (L1.getD v5 R_iiii.z).a1, vi (L1.getD v5 R_iiii.z).a2, vi (L1.getD v5 R_iiii.z).a3]] ((L1.getD v5 R_iiii.z).a0) ((L1.getD v5 R_iiii.z).a1) ((L1.getD v5 R_iiii.z).a2) ((L1.getD v5 R_iiii.z).a3)  y3_0 N c3  3 rfl (by decide) (by decide))) <| obs_cons ((show (o0 + v5 * 4 + 0) = (o0 + (v5 * 4)) from by omega) ▸ F0 v5 (by omega) 0 4 (show 0 + 4 ≤ 4 from by decide)) <| oB <| oI <| obs_cons (dP_of (ref12_step_2C2 #[vs 1 0 v4.length v4.length, Value.agg #[vi (L1.getD v5 R_iiii.z).a0, vi (L1.getD v5 R_iiii.z).a1, vi (L1.getD v5 R_iiii.z).a2, vi (L1.getD v5 R_iiii.z).a3], vi (v5 : Int)] (v4) ((L1.getD v5 R_iiii.z).a0) ((L1.getD v5 R_iiii.z).a1) ((L1.getD v5 R_iiii.z).a2) ((L1.getD v5 R_iiii.z).a3) ((v5 : Int))   N c2 1 2 rfl (by decide) (by decide))) <| oR <| obs_cons ((show (o0 + v5 * 4 + 0) = (o0 + (v5 * 4)) from by omega) ▸ F0 v5 (by omega) 0 4 (show 0 + 4 ≤ 4 from by decide)) <| oB <| oI <| oY obs_nil) rfl (by decide) (by rfl) rr ⟨rfl, trivial⟩
     ·
      refine Mach.ok_ite (fun g5 => ?_) (fun g5 => ?_)
      ·
       exact Mach.ok_next (M := ref12_WrongM o0 L1 n2 n3 O0 N) (cd := 1000000) (cm := 0) (y := (.h1m1 ((v4.take (v4.length - 1))) ((v5 + 1)) : ref12_WrongX)) (fu := 4000) (orc := (orcw [(0, true), (1, false)] [(0, (((v5 + 1) : Nat) : Int))] [(0, v5), (1, v5)] [(0, [.i (L1.getD v5 R_iiii.z).a0, .i (L1.getD v5 R_iiii.z).a1, .i (L1.getD v5 R_iiii.z).a2, .i (L1.getD v5 R_iiii.z).a3]), (1, [.i (L1.getD v5 R_iiii.z).a0, .i (L1.getD v5 R_iiii.z).a1, .i (L1.getD v5 R_iiii.z).a2, .i (L1.getD v5 R_iiii.z).a3])] [(0, (ref12_step_2T2 (v4) ((L1.getD v5 R_iiii.z).a0) ((L1.getD v5 R_iiii.z).a1) ((L1.getD v5 R_iiii.z).a2) ((L1.getD v5 R_iiii.z).a3) ((v5 : Int))   1 2)), (1, (ref10_IsT0 ((L1.getD v5 R_iiii.z).a0) ((L1.getD v5 R_iiii.z).a1) ((L1.getD v5 R_iiii.z).a2) ((L1.getD v5 R_iiii.z).a3)  y3_0  3))])) (live := [0, 2]) (tv := fun _ => [some (vs 0 o0 n2 n3), some (vs 2 0 (v4.take (v4.length - 1)).length (v4.take (v4.length - 1)).length), some (vi (((v5 + 1) : Nat) : Int))]) (bl := [some (.ro O0), some (.cells (rowV E_ii (v4.take (v4.length - 1))) 58)]) (ob := [((IntKind.i64.wrap ((v5 : Int) + (1 : Int))) == (((v5 + 1) : Nat) : Int), true), ((!y3_0), false), (dP (ref10_IsP0 #[Value.agg #[vi (L1.getD v5 R_iiii.z).a0, vi (L1.getD v5 R_iiii.z).a1, vi (L1.getD v5 R_iiii.z).a2, vi (L1.getD v5 R_iiii.z).a3]] ((L1.getD v5 R_iiii.z).a0) ((L1.getD v5 R_iiii.z).a1) ((L1.getD v5 R_iiii.z).a2) ((L1.getD v5 R_iiii.z).a3)  y3_0  3), true), (sameR (roRow O0 (o0 + (v5 * 4)) 4) [.i (L1.getD v5 R_iiii.z).a0, .i (L1.getD v5 R_iiii.z).a1, .i (L1.getD v5 R_iiii.z).a2, .i (L1.getD v5 R_iiii.z).a3], true), (Nat.blt v5 n2, true), ((v5 : Int) == Int.ofNat v5, true), (dP (ref12_step_2P2 #[vs 1 0 v4.length v4.length, Value.agg #[vi (L1.getD v5 R_iiii.z).a0, vi (L1.getD v5 R_iiii.z).a1, vi (L1.getD v5 R_iiii.z).a2, vi (L1.getD v5 R_iiii.z).a3], vi (v5 : Int)] (v4) ((L1.getD v5 R_iiii.z).a0) ((L1.getD v5 R_iiii.z).a1) ((L1.getD v5 R_iiii.z).a2) ((L1.getD v5 R_iiii.z).a3) ((v5 : Int))   1 2), true), (dS (rowV E_ii v4), true), (sameR (roRow O0 (o0 + (v5 * 4)) 4) [.i (L1.getD v5 R_iiii.z).a0, .i (L1.getD v5 R_iiii.z).a1, .i (L1.getD v5 R_iiii.z).a2, .i (L1.getD v5 R_iiii.z).a3], true), (Nat.blt v5 n2, true), ((v5 : Int) == Int.ofNat v5, true), ((decide ((v5 : Int) < (n2 : Int))), true)]) rfl (show 1 ∈ rids (ref12_WrongK 1) from by decide +kernel) (fun gv => by kernel_rfl) (obs_cons (beq_iff_eq.2 ((wrap_i64 ltA).trans (by first | rfl | omega))) <| obs_cons (notB_f (by first | assumption | simp_all)) <| obs_cons (dP_of (ref10_IsC0 #[Value.agg #[vi (L1.getD v5 R_iiii.z).a0, vi (L1.getD v5 R_iiii.z).a1, vi (L1.getD v5 R_iiii.z).a2, vi (L1.getD v5 R_iiii.z).a3]] ((L1.getD v5 R_iiii.z).a0) ((L1.getD v5 R_iiii.z).a1) ((L1.getD v5 R_iiii.z).a2) ((L1.getD v5 R_iiii.z).a3)  y3_0 N c3  3 rfl (by decide) (by decide))) <| obs_cons ((show (o0 + v5 * 4 + 0) = (o0 + (v5 * 4)) from by omega) ▸ F0 v5 (by omega) 0 4 (show 0 + 4 ≤ 4 from by decide)) <| oB <| oI <| obs_cons (dP_of (ref12_step_2C2 #[vs 1 0 v4.length v4.length, Value.agg #[vi (L1.getD v5 R_iiii.z).a0, vi (L1.getD v5 R_iiii.z).a1, vi (L1.getD v5 R_iiii.z).a2, vi (L1.getD v5 R_iiii.z).a3], vi (v5 : Int)] (v4) ((L1.getD v5 R_iiii.z).a0) ((L1.getD v5 R_iiii.z).a1) ((L1.getD v5 R_iiii.z).a2) ((L1.getD v5 R_iiii.z).a3) ((v5 : Int))   N c2 1 2 rfl (by decide) (by decide))) <| oR <| obs_cons ((show (o0 + v5 * 4 + 0) = (o0 + (v5 * 4)) from by omega) ▸ F0 v5 (by omega) 0 4 (show 0 + 4 ≤ 4 from by decide)) <| oB <| oI <| oY obs_nil) rfl (by decide) (by rfl) (fun _ => ⟨rr, ⟨rr, ⟨rr, trivial⟩⟩⟩) ⟨rfl, ⟨(same_row (E := E_ii) (α := R_ii) _ (v4.take (v4.length - 1)) _), trivial⟩⟩
      ·
       exact Mach.ok_none
  ·
   exact Mach.ok_none
 ·
  refine Mach.ok_ite (fun g1 => ?_) (fun g1 => ?_)
  ·
   exact Mach.ok_fin (M := ref12_WrongM o0 L1 n2 n3 O0 N) (cd := 1000000) (cm := 0) (r := (.r0 ((n2 : Int)) : ref12_WrongR)) (fu := 4000) (orc := (orcw [(0, false), (1, true)] [] [] [] [])) (live := [0]) (u := vi (n2 : Int)) (bl := [some (.ro O0)]) (ob := [((decide (((v4.length : Nat) : Int) > (0 : Int))), true), ((decide ((v5 : Int) < (n2 : Int))), false)]) (fun gv => by kernel_rfl) (oY <| oN obs_nil) rfl (by decide) (by rfl) rr ⟨rfl, trivial⟩
  ·
   exact Mach.ok_head (bK := ref12_WrongC 2) (M := ref12_WrongM o0 L1 n2 n3 O0 N) (cd := 1000000) (cm := 0) (y := (.h2m0 (0) : ref12_WrongX)) (fu := 4000) (orc := (orcw [(0, false), (1, false)] [] [] [] [])) (live := [0]) (tv := fun _ => [some (vs 0 o0 n2 n3), some (vi (0 : Int))]) (bl := [some (.ro O0)]) (ob := [((decide (((v4.length : Nat) : Int) > (0 : Int))), false), ((decide ((v5 : Int) < (n2 : Int))), false)]) rfl rfl (show ∀ j ∈ rids (ref12_WrongC 2).2, j ∈ rids (ref12_WrongK 1) from by decide +kernel) (fun gv => by kernel_rfl) (oN <| oN obs_nil) rfl (by decide) (by rfl) (fun _ => ⟨rr, ⟨⟨Eq.trans (show (vi ((0 : Nat) : Int) : Value) = vi (0 : Int) from (congrArg (Value.int .i64) (by first | rfl | omega))) (by rfl), by rfl⟩, trivial⟩⟩) ⟨rfl, trivial⟩

theorem ref12_Wrong_ok2_0 (o0 : Nat) (L1 : List R_iiii) (n2 n3 : Nat) (O0 : Obj) (F0 : RO_iiii O0 o0 L1) (v4 N : Nat) : (ref12_WrongM o0 L1 n2 n3 O0 N).Ok Try.prog ext_Cf (.h2m0 v4 : ref12_WrongX) (ref12_WrongStep L1 n2 n3 N (.h2m0 v4 : ref12_WrongX)) := by
 show (ref12_WrongM o0 L1 n2 n3 O0 N).Ok Try.prog ext_Cf (.h2m0 v4 : ref12_WrongX) (ref12_Wrong_h2m0 L1 n2 n3 N v4)
 unfold ref12_Wrong_h2m0
 refine Mach.ok_ite (fun g0 => ?_) (fun g0 => ?_)
 ·
  refine Mach.ok_ite (fun g1 => ?_) (fun g1 => ?_)
  ·
   refine Mach.ok_bind (fun z2 c2 => ?_)
   cases z2 with
   | r0 y2_0 y2_1 =>
    refine Mach.ok_ite (fun g3 => ?_) (fun g3 => ?_)
    ·
     subst g3
     refine Mach.ok_ite (fun g4 => ?_) (fun g4 => ?_)
     ·
      exact Mach.ok_fin (M := ref12_WrongM o0 L1 n2 n3 O0 N) (cd := 1000000) (cm := 0) (r := (.r0 ((v4 : Int)) : ref12_WrongR)) (fu := 4000) (orc := (orcw [(0, true), (1, true)] [] [(0, v4)] [(0, [.i (L1.getD v4 R_iiii.z).a0, .i (L1.getD v4 R_iiii.z).a1, .i (L1.getD v4 R_iiii.z).a2, .i (L1.getD v4 R_iiii.z).a3])] [(0, (ref10_TargetT0 ((L1.getD v4 R_iiii.z).a0) ((L1.getD v4 R_iiii.z).a1) ((L1.getD v4 R_iiii.z).a2) ((L1.getD v4 R_iiii.z).a3)  y2_0 true  1))])) (live := [0]) (u := vi (v4 : Int)) (bl := [some (.ro O0)]) (ob := [((decide (y2_0 > (n2 : Int))), true), (dP (ref10_TargetP0 #[Value.agg #[vi (L1.getD v4 R_iiii.z).a0, vi (L1.getD v4 R_iiii.z).a1, vi (L1.getD v4 R_iiii.z).a2, vi (L1.getD v4 R_iiii.z).a3]] ((L1.getD v4 R_iiii.z).a0) ((L1.getD v4 R_iiii.z).a1) ((L1.getD v4 R_iiii.z).a2) ((L1.getD v4 R_iiii.z).a3)  y2_0 true  1), true), (sameR (roRow O0 (o0 + (v4 * 4)) 4) [.i (L1.getD v4 R_iiii.z).a0, .i (L1.getD v4 R_iiii.z).a1, .i (L1.getD v4 R_iiii.z).a2, .i (L1.getD v4 R_iiii.z).a3], true), (Nat.blt v4 n2, true), ((v4 : Int) == Int.ofNat v4, true), ((decide ((v4 : Int) < (n2 : Int))), true)]) (fun gv => by kernel_rfl) (oY <| obs_cons (dP_of (ref10_TargetC0 #[Value.agg #[vi (L1.getD v4 R_iiii.z).a0, vi (L1.getD v4 R_iiii.z).a1, vi (L1.getD v4 R_iiii.z).a2, vi (L1.getD v4 R_iiii.z).a3]] ((L1.getD v4 R_iiii.z).a0) ((L1.getD v4 R_iiii.z).a1) ((L1.getD v4 R_iiii.z).a2) ((L1.getD v4 R_iiii.z).a3)  y2_0 true N c2  1 rfl (by decide) (by decide))) <| obs_cons ((show (o0 + v4 * 4 + 0) = (o0 + (v4 * 4)) from by omega) ▸ F0 v4 (by omega) 0 4 (show 0 + 4 ≤ 4 from by decide)) <| oB <| oI <| oY obs_nil) rfl (by decide) (by rfl) rr ⟨rfl, trivial⟩
     ·
      refine Mach.ok_bind (fun z5 c5 => ?_)
      cases z5 with
      | r0 y5_0 y5_1 =>
       refine Mach.ok_bind (fun z6 c6 => ?_)
       cases z6 with
       | r0 y6_0 y6_1 =>
        refine Mach.ok_ite (fun g7 => ?_) (fun g7 => ?_)
        ·
         exact Mach.ok_fin (M := ref12_WrongM o0 L1 n2 n3 O0 N) (cd := 1000000) (cm := 0) (r := (.r0 ((v4 : Int)) : ref12_WrongR)) (fu := 4000) (orc := (orcw [(0, true), (1, false), (2, true)] [] [(0, v4)] [(0, [.i (L1.getD v4 R_iiii.z).a0, .i (L1.getD v4 R_iiii.z).a1, .i (L1.getD v4 R_iiii.z).a2, .i (L1.getD v4 R_iiii.z).a3])] [(0, (ref10_TargetT0 ((L1.getD v4 R_iiii.z).a0) ((L1.getD v4 R_iiii.z).a1) ((L1.getD v4 R_iiii.z).a2) ((L1.getD v4 R_iiii.z).a3)  y2_0 true  1)), (1, (ref12_branchT0 (o0) (L1) (n2) (n3) (y2_0) O0 y5_0 y5_1 0 1)), (2, (ref12_branchT0 (o0) (L1) (n2) (n3) ((v4 : Int)) O0 y6_0 y6_1 0 1))])) (live := [0]) (u := vi (v4 : Int)) (bl := [some (.ro O0)]) (ob := [((!((y5_0 == y6_0) && ((y5_1 == y6_1) && true))), true), (dP (ref12_branchP0 #[vs 0 o0 n2 n3, vi (v4 : Int)] (o0) (L1) (n2) (n3) ((v4 : Int)) O0 y6_0 y6_1 0 1), true), (dS O0, true), (dP (ref12_branchP0 #[vs 0 o0 n2 n3, vi y2_0] (o0) (L1) (n2) (n3) (y2_0) O0 y5_0 y5_1 0 1), true), (dS O0, true), ((decide (y2_0 > (n2 : Int))), false), (dP (ref10_TargetP0 #[Value.agg #[vi (L1.getD v4 R_iiii.z).a0, vi (L1.getD v4 R_iiii.z).a1, vi (L1.getD v4 R_iiii.z).a2, vi (L1.getD v4 R_iiii.z).a3]] ((L1.getD v4 R_iiii.z).a0) ((L1.getD v4 R_iiii.z).a1) ((L1.getD v4 R_iiii.z).a2) ((L1.getD v4 R_iiii.z).a3)  y2_0 true  1), true), (sameR (roRow O0 (o0 + (v4 * 4)) 4) [.i (L1.getD v4 R_iiii.z).a0, .i (L1.getD v4 R_iiii.z).a1, .i (L1.getD v4 R_iiii.z).a2, .i (L1.getD v4 R_iiii.z).a3], true), (Nat.blt v4 n2, true), ((v4 : Int) == Int.ofNat v4, true), ((decide ((v4 : Int) < (n2 : Int))), true)]) (fun gv => by kernel_rfl) (obs_cons (by rw [Bool.not_eq_true']; exact Bool.eq_false_iff.2 (by simp only [ne_eq, Bool.and_true, Bool.and_eq_true, beq_iff_eq]; first | omega | (intro hh; simp_all; done))) <| obs_cons (dP_of (ref12_branchC0 #[vs 0 o0 n2 n3, vi (v4 : Int)] (o0) (L1) (n2) (n3) ((v4 : Int)) O0 F0 y6_0 y6_1 N c6 0 1 rfl (by decide) (by decide))) <| oR <| obs_cons (dP_of (ref12_branchC0 #[vs 0 o0 n2 n3, vi y2_0] (o0) (L1) (n2) (n3) (y2_0) O0 F0 y5_0 y5_1 N c5 0 1 rfl (by decide) (by decide))) <| oR <| oN <| obs_cons (dP_of (ref10_TargetC0 #[Value.agg #[vi (L1.getD v4 R_iiii.z).a0, vi (L1.getD v4 R_iiii.z).a1, vi (L1.getD v4 R_iiii.z).a2, vi (L1.getD v4 R_iiii.z).a3]] ((L1.getD v4 R_iiii.z).a0) ((L1.getD v4 R_iiii.z).a1) ((L1.getD v4 R_iiii.z).a2) ((L1.getD v4 R_iiii.z).a3)  y2_0 true N c2  1 rfl (by decide) (by decide))) <| obs_cons ((show (o0 + v4 * 4 + 0) = (o0 + (v4 * 4)) from by omega) ▸ F0 v4 (by omega) 0 4 (show 0 + 4 ≤ 4 from by decide)) <| oB <| oI <| oY obs_nil) rfl (by decide) (by rfl) rr ⟨rfl, trivial⟩
        ·
         refine Mach.ok_ite (fun g8 => ?_) (fun g8 => ?_)
         ·
          exact Mach.ok_next (M := ref12_WrongM o0 L1 n2 n3 O0 N) (cd := 1000000) (cm := 0) (y := (.h2m0 ((v4 + 1)) : ref12_WrongX)) (fu := 4000) (orc := (orcw [(0, true), (1, false), (2, false)] [(0, (((v4 + 1) : Nat) : Int))] [(0, v4)] [(0, [.i (L1.getD v4 R_iiii.z).a0, .i (L1.getD v4 R_iiii.z).a1, .i (L1.getD v4 R_iiii.z).a2, .i (L1.getD v4 R_iiii.z).a3])] [(0, (ref10_TargetT0 ((L1.getD v4 R_iiii.z).a0) ((L1.getD v4 R_iiii.z).a1) ((L1.getD v4 R_iiii.z).a2) ((L1.getD v4 R_iiii.z).a3)  y2_0 true  1)), (1, (ref12_branchT0 (o0) (L1) (n2) (n3) (y2_0) O0 y5_0 y5_1 0 1)), (2, (ref12_branchT0 (o0) (L1) (n2) (n3) ((v4 : Int)) O0 y6_0 y6_1 0 1))])) (live := [0]) (tv := fun _ => [some (vs 0 o0 n2 n3), some (vi (((v4 + 1) : Nat) : Int))]) (bl := [some (.ro O0)]) (ob := [((IntKind.i64.wrap ((v4 : Int) + (1 : Int))) == (((v4 + 1) : Nat) : Int), true), ((!((y5_0 == y6_0) && ((y5_1 == y6_1) && true))), false), (dP (ref12_branchP0 #[vs 0 o0 n2 n3, vi (v4 : Int)] (o0) (L1) (n2) (n3) ((v4 : Int)) O0 y6_0 y6_1 0 1), true), (dS O0, true), (dP (ref12_branchP0 #[vs 0 o0 n2 n3, vi y2_0] (o0) (L1) (n2) (n3) (y2_0) O0 y5_0 y5_1 0 1), true), (dS O0, true), ((decide (y2_0 > (n2 : Int))), false), (dP (ref10_TargetP0 #[Value.agg #[vi (L1.getD v4 R_iiii.z).a0, vi (L1.getD v4 R_iiii.z).a1, vi (L1.getD v4 R_iiii.z).a2, vi (L1.getD v4 R_iiii.z).a3]] ((L1.getD v4 R_iiii.z).a0) ((L1.getD v4 R_iiii.z).a1) ((L1.getD v4 R_iiii.z).a2) ((L1.getD v4 R_iiii.z).a3)  y2_0 true  1), true), (sameR (roRow O0 (o0 + (v4 * 4)) 4) [.i (L1.getD v4 R_iiii.z).a0, .i (L1.getD v4 R_iiii.z).a1, .i (L1.getD v4 R_iiii.z).a2, .i (L1.getD v4 R_iiii.z).a3], true), (Nat.blt v4 n2, true), ((v4 : Int) == Int.ofNat v4, true), ((decide ((v4 : Int) < (n2 : Int))), true)]) rfl (show 2 ∈ rids (ref12_WrongK 2) from by decide +kernel) (fun gv => by kernel_rfl) (obs_cons (beq_iff_eq.2 ((wrap_i64 ltA).trans (by first | rfl | omega))) <| obs_cons (by rw [Bool.not_eq_false']; first | (simp only [beq_self_eq_true, Bool.and_self]; done) | (simp only [Bool.and_true, Bool.and_eq_true, beq_iff_eq] <;> first | omega | (simp_all; done))) <| obs_cons (dP_of (ref12_branchC0 #[vs 0 o0 n2 n3, vi (v4 : Int)] (o0) (L1) (n2) (n3) ((v4 : Int)) O0 F0 y6_0 y6_1 N c6 0 1 rfl (by decide) (by decide))) <| oR <| obs_cons (dP_of (ref12_branchC0 #[vs 0 o0 n2 n3, vi y2_0] (o0) (L1) (n2) (n3) (y2_0) O0 F0 y5_0 y5_1 N c5 0 1 rfl (by decide) (by decide))) <| oR <| oN <| obs_cons (dP_of (ref10_TargetC0 #[Value.agg #[vi (L1.getD v4 R_iiii.z).a0, vi (L1.getD v4 R_iiii.z).a1, vi (L1.getD v4 R_iiii.z).a2, vi (L1.getD v4 R_iiii.z).a3]] ((L1.getD v4 R_iiii.z).a0) ((L1.getD v4 R_iiii.z).a1) ((L1.getD v4 R_iiii.z).a2) ((L1.getD v4 R_iiii.z).a3)  y2_0 true N c2  1 rfl (by decide) (by decide))) <| obs_cons ((show (o0 + v4 * 4 + 0) = (o0 + (v4 * 4)) from by omega) ▸ F0 v4 (by omega) 0 4 (show 0 + 4 ≤ 4 from by decide)) <| oB <| oI <| oY obs_nil) rfl (by decide) (by rfl) (fun _ => ⟨rr, ⟨rr, trivial⟩⟩) ⟨rfl, trivial⟩
         ·
          exact Mach.ok_none
    ·
     obtain rfl : y2_1 = false := by simpa using g3
     refine Mach.ok_ite (fun g4 => ?_) (fun g4 => ?_)
     ·
      exact Mach.ok_next (M := ref12_WrongM o0 L1 n2 n3 O0 N) (cd := 1000000) (cm := 0) (y := (.h2m0 ((v4 + 1)) : ref12_WrongX)) (fu := 4000) (orc := (orcw [(0, true)] [(0, (((v4 + 1) : Nat) : Int))] [(0, v4)] [(0, [.i (L1.getD v4 R_iiii.z).a0, .i (L1.getD v4 R_iiii.z).a1, .i (L1.getD v4 R_iiii.z).a2, .i (L1.getD v4 R_iiii.z).a3])] [(0, (ref10_TargetT0 ((L1.getD v4 R_iiii.z).a0) ((L1.getD v4 R_iiii.z).a1) ((L1.getD v4 R_iiii.z).a2) ((L1.getD v4 R_iiii.z).a3)  y2_0 false  1))])) (live := [0]) (tv := fun _ => [some (vs 0 o0 n2 n3), some (vi (((v4 + 1) : Nat) : Int))]) (bl := [some (.ro O0)]) (ob := [((IntKind.i64.wrap ((v4 : Int) + (1 : Int))) == (((v4 + 1) : Nat) : Int), true), (dP (ref10_TargetP0 #[Value.agg #[vi (L1.getD v4 R_iiii.z).a0, vi (L1.getD v4 R_iiii.z).a1, vi (L1.getD v4 R_iiii.z).a2, vi (L1.getD v4 R_iiii.z).a3]] ((L1.getD v4 R_iiii.z).a0) ((L1.getD v4 R_iiii.z).a1) ((L1.getD v4 R_iiii.z).a2) ((L1.getD v4 R_iiii.z).a3)  y2_0 false  1), true), (sameR (roRow O0 (o0 + (v4 * 4)) 4) [.i (L1.getD v4 R_iiii.z).a0, .i (L1.getD v4 R_iiii.z).a1, .i (L1.getD v4 R_iiii.z).a2, .i (L1.getD v4 R_iiii.z).a3], true), (Nat.blt v4 n2, true), ((v4 : Int) == Int.ofNat v4, true), ((decide ((v4 : Int) < (n2 : Int))), true)]) rfl (show 2 ∈ rids (ref12_WrongK 2) from by decide +kernel) (fun gv => by kernel_rfl) (obs_cons (beq_iff_eq.2 ((wrap_i64 ltA).trans (by first | rfl | omega))) <| obs_cons (dP_of (ref10_TargetC0 #[Value.agg #[vi (L1.getD v4 R_iiii.z).a0, vi (L1.getD v4 R_iiii.z).a1, vi (L1.getD v4 R_iiii.z).a2, vi (L1.getD v4 R_iiii.z).a3]] ((L1.getD v4 R_iiii.z).a0) ((L1.getD v4 R_iiii.z).a1) ((L1.getD v4 R_iiii.z).a2) ((L1.getD v4 R_iiii.z).a3)  y2_0 false N c2  1 rfl (by decide) (by decide))) <| obs_cons ((show (o0 + v4 * 4 + 0) = (o0 + (v4 * 4)) from by omega) ▸ F0 v4 (by omega) 0 4 (show 0 + 4 ≤ 4 from by decide)) <| oB <| oI <| oY obs_nil) rfl (by decide) (by rfl) (fun _ => ⟨rr, ⟨rr, trivial⟩⟩) ⟨rfl, trivial⟩
     ·
      exact Mach.ok_none
  ·
   exact Mach.ok_none
 ·
  exact Mach.ok_fin (M := ref12_WrongM o0 L1 n2 n3 O0 N) (cd := 1000000) (cm := 0) (r := (.r0 ((-1 : Int)) : ref12_WrongR)) (fu := 4000) (orc := (orcw [(0, false)] [] [] [] [])) (live := [0]) (u := vi (-1 : Int)) (bl := [some (.ro O0)]) (ob := [((decide ((v4 : Int) < (n2 : Int))), false)]) (fun gv => by kernel_rfl) (oN obs_nil) rfl (by decide) (by rfl) rr ⟨rfl, trivial⟩

theorem ref12_Wrong_en (o0 : Nat) (L1 : List R_iiii) (n2 n3 : Nat) (O0 : Obj) (F0 : RO_iiii O0 o0 L1) (N : Nat) : (ref12_WrongM o0 L1 n2 n3 O0 N).Enter Try.prog ext_Cf #[vs 0 o0 n2 n3] (ref12_WrongIn L1 n2 n3 N) := by
 unfold ref12_WrongIn
 refine Mach.en_ite (fun g0 => ?_) (fun g0 => ?_)
 ·
  exact Mach.en_fin (M := ref12_WrongM o0 L1 n2 n3 O0 N) (cd := 1000000) (cm := 0) (r := (.r0 ((0 : Int)) : ref12_WrongR)) (fu := 4000) (orc := (orcw [(0, true)] [] [] [] [])) (live := [0]) (u := vi (0 : Int)) (bl := [some (.ro O0)]) (ob := [((decide ((n2 : Int) < (1 : Int))), true)]) (by kernel_rfl) (oY obs_nil) rfl (by decide) (by rfl) rr ⟨rfl, trivial⟩
 ·
  refine Mach.en_ite (fun g1 => ?_) (fun g1 => ?_)
  ·
   exact Mach.en_fin (M := ref12_WrongM o0 L1 n2 n3 O0 N) (cd := 1000000) (cm := 0) (r := (.r0 ((0 : Int)) : ref12_WrongR)) (fu := 4000) (orc := (orcw [(0, false), (1, true)] [] [] [] [])) (live := [0]) (u := vi (0 : Int)) (bl := [some (.ro O0)]) (ob := [((decide ((n2 : Int) > (512 : Int))), true), ((decide ((n2 : Int) < (1 : Int))), false)]) (by kernel_rfl) (oY <| oN obs_nil) rfl (by decide) (by rfl) rr ⟨rfl, trivial⟩
  ·
   exact Mach.en_head (bK := ref12_WrongC 1) (M := ref12_WrongM o0 L1 n2 n3 O0 N) (cd := 1000000) (cm := 0) (y := (.h1m0 (0) : ref12_WrongX)) (fu := 4000) (orc := (orcw [(0, false), (1, false)] [] [] [] [])) (live := [0]) (tv := [some (vs 0 o0 n2 n3), some (vn), some (vi (0 : Int))]) (bl := [some (.ro O0)]) (ob := [((decide ((n2 : Int) > (512 : Int))), false), ((decide ((n2 : Int) < (1 : Int))), false)]) rfl rfl (show rids (ref12_WrongC 1).2 = [] from rfl) (by kernel_rfl) (oN <| oN obs_nil) rfl (by decide) (by rfl) ⟨rr, ⟨rr, ⟨⟨Eq.trans (show (vi ((0 : Nat) : Int) : Value) = vi (0 : Int) from (congrArg (Value.int .i64) (by first | rfl | omega))) (by rfl), by rfl⟩, trivial⟩⟩⟩ ⟨rfl, trivial⟩

theorem ref12_Wrong_spec (o0 : Nat) (L1 : List R_iiii) (n2 n3 : Nat) (O0 : Obj) (F0 : RO_iiii O0 o0 L1) (N : Nat) (r : ref12_WrongR) (h : ref12_Wrong L1 n2 n3 N = some r) : LSpec Try.prog 11 #[vs 0 o0 n2 n3] [.ro O0] (ref12_WrongV o0 L1 n2 n3 O0 r) (ref12_WrongPo o0 L1 n2 n3 O0 r) :=
 Mach.spec fit_Cf (ref12_WrongM o0 L1 n2 n3 O0 N) Try.func11 (by kernel_rfl) (by kernel_rfl) (fun x => by cases x <;> exact le_far _ rfl) (fun r => by cases r <;> exact le_far _ rfl) (fun x => by
  cases x with
  | h1m0 _ => exact fun _ => (show ¬ (1 ∈ rids (ref12_WrongC 1).2) from by decide +kernel)
  | h1m1 _ _ => exact fun _ => (show ¬ (1 ∈ rids (ref12_WrongC 1).2) from by decide +kernel)
  | h2m0 _ => exact fun _ => (show ¬ (2 ∈ rids (ref12_WrongC 2).2) from by decide +kernel)
  ) (fun x => (show (ref12_WrongM o0 L1 n2 n3 O0 N).Ok Try.prog ext_Cf x (ref12_WrongStep L1 n2 n3 N x) from by
  cases x with
  | h1m0 v4 => exact ref12_Wrong_ok1_0 o0 L1 n2 n3 O0 F0 v4 N
  | h1m1 v4 v5 => exact ref12_Wrong_ok1_1 o0 L1 n2 n3 O0 F0 v4 v5 N
  | h2m0 v4 => exact ref12_Wrong_ok2_0 o0 L1 n2 n3 O0 F0 v4 N
  )) (ref12_Wrong_en o0 L1 n2 n3 O0 F0 N) (n := N) h

noncomputable def ref12_WrongT0 (o0 : Nat) (L1 : List R_iiii) (n2 n3 : Nat) (O0 : Obj) (w2 : Int) (k0 n : Nat) : Told := .call [(k0, .ro O0)] (vi w2) [] 0
def ref12_WrongP0 (A : Array Value) (o0 : Nat) (L1 : List R_iiii) (n2 n3 : Nat) (O0 : Obj) (w2 : Int) (k0 n : Nat) : Prop := CallSpec Try.prog 11 A [(k0, .ro O0)] (vi w2) [] n 0

theorem ref12_WrongC0 (A : Array Value) (o0 : Nat) (L1 : List R_iiii) (n2 n3 : Nat) (O0 : Obj) (F0 : RO_iiii O0 o0 L1) (w2 : Int) (N : Nat) (h : ref12_Wrong L1 n2 n3 N = some (.r0 w2)) (k0 n : Nat) (hA : A = #[vs k0 o0 n2 n3]) (hnd : ([k0] : List Nat).Nodup) (hlt : ∀ k ∈ ([k0] : List Nat), k < n) : ref12_WrongP0 A o0 L1 n2 n3 O0 w2 k0 n :=
 cs_args hA (LSpec.callL (show LSpec Try.prog 11 #[vs 0 o0 n2 n3] [.ro O0] (vi w2) [some (.ro O0)] from ref12_Wrong_spec o0 L1 n2 n3 O0 F0 N _ h) [k0] n [] rfl hnd hlt (show 1 ≤ 1 from by decide) (show ∀ j ∈ ([] : List Nat), j < 1 from by decide) (by rfl) ⟨rfl, trivial⟩ (by rfl) ⟨rfl, trivial⟩ ⟨.inr rfl, trivial⟩ rfl rfl rfl (cons_eq (pair_eq rfl rfl) rfl) rfl)

noncomputable def check_CheckV (o0 : Nat) (L1 : List R_iiii) (n2 n3 : Nat) (O0 : Obj) : check_CheckR → Value
 | .r0 w2 => vi w2
noncomputable def check_CheckPo (o0 : Nat) (L1 : List R_iiii) (n2 n3 : Nat) (O0 : Obj) : check_CheckR → List (Option AObj)
 | .r0 w2 => [some (.ro O0)]

theorem check_Check_fx (o0 : Nat) (L1 : List R_iiii) (n2 n3 : Nat) (O0 : Obj) (F0 : RO_iiii O0 o0 L1) (N : Nat) : Fx Try.prog ext_Cf Try.f12 [.ro O0] #[vs 0 o0 n2 n3] (check_CheckV o0 L1 n2 n3 O0) (check_CheckPo o0 L1 n2 n3 O0) (check_Check L1 n2 n3 N) := by
 unfold check_Check
 refine fx_bind (fun z0 c0 => ?_)
 cases z0 with
 | r0 y0_0 =>
  exact fx_fin (r := (.r0 (y0_0) : check_CheckR)) (fu := 4000) (orc := (orcw [] [] [] [] [(0, (check_lookT0 (o0) (L1) (n2) (n3) O0 y0_0 0 1))])) (live := [0]) (u := vi y0_0) (bl := [some (.ro O0)]) (ob := [(dP (check_lookP0 #[vs 0 o0 n2 n3] (o0) (L1) (n2) (n3) O0 y0_0 0 1), true), (dS O0, true)]) (by kernel_rfl) (obs_cons (dP_of (check_lookC0 #[vs 0 o0 n2 n3] (o0) (L1) (n2) (n3) O0 F0 y0_0 N c0 0 1 rfl (by decide) (by decide))) <| oR obs_nil) rfl (by decide) (by rfl) rr ⟨rfl, trivial⟩
 | r1 y0_0 y0_1 =>
  exact fx_fin (r := (.r0 (y0_1) : check_CheckR)) (fu := 4000) (orc := (orcw [] [] [] [] [(0, (check_lookT1 (o0) (L1) (n2) (n3) O0 y0_0 y0_1 0 1))])) (live := [0]) (u := vi y0_1) (bl := [some (.ro O0)]) (ob := [(dP (check_lookP1 #[vs 0 o0 n2 n3] (o0) (L1) (n2) (n3) O0 y0_0 y0_1 0 1), true), (dS O0, true)]) (by kernel_rfl) (obs_cons (dP_of (check_lookC1 #[vs 0 o0 n2 n3] (o0) (L1) (n2) (n3) O0 F0 y0_0 y0_1 N c0 0 1 rfl (by decide) (by decide))) <| oR obs_nil) rfl (by decide) (by rfl) rr ⟨rfl, trivial⟩
 | r2 y0_0 y0_1 y0_2 y0_3 y0_4 y0_5 y0_6 =>
  exact fx_fin (r := (.r0 (y0_6) : check_CheckR)) (fu := 4000) (orc := (orcw [] [] [] [] [(0, (check_lookT2 (o0) (L1) (n2) (n3) O0 y0_0 y0_1 y0_2 y0_3 y0_4 y0_5 y0_6 0 1))])) (live := [0]) (u := vi y0_6) (bl := [some (.ro O0)]) (ob := [(dP (check_lookP2 #[vs 0 o0 n2 n3] (o0) (L1) (n2) (n3) O0 y0_0 y0_1 y0_2 y0_3 y0_4 y0_5 y0_6 0 1), true), (dS O0, true)]) (by kernel_rfl) (obs_cons (dP_of (check_lookC2 #[vs 0 o0 n2 n3] (o0) (L1) (n2) (n3) O0 F0 y0_0 y0_1 y0_2 y0_3 y0_4 y0_5 y0_6 N c0 0 1 rfl (by decide) (by decide))) <| oR obs_nil) rfl (by decide) (by rfl) rr ⟨rfl, trivial⟩
 | r3 y0_0 y0_1 y0_2 y0_3 =>
  exact fx_fin (r := (.r0 (y0_3) : check_CheckR)) (fu := 4000) (orc := (orcw [] [] [] [] [(0, (check_lookT3 (o0) (L1) (n2) (n3) O0 y0_0 y0_1 y0_2 y0_3 0 1))])) (live := [0]) (u := vi y0_3) (bl := [some (.ro O0)]) (ob := [(dP (check_lookP3 #[vs 0 o0 n2 n3] (o0) (L1) (n2) (n3) O0 y0_0 y0_1 y0_2 y0_3 0 1), true), (dS O0, true)]) (by kernel_rfl) (obs_cons (dP_of (check_lookC3 #[vs 0 o0 n2 n3] (o0) (L1) (n2) (n3) O0 F0 y0_0 y0_1 y0_2 y0_3 N c0 0 1 rfl (by decide) (by decide))) <| oR obs_nil) rfl (by decide) (by rfl) rr ⟨rfl, trivial⟩

theorem check_Check_spec (o0 : Nat) (L1 : List R_iiii) (n2 n3 : Nat) (O0 : Obj) (F0 : RO_iiii O0 o0 L1) (N : Nat) (r : check_CheckR) (h : check_Check L1 n2 n3 N = some r) : LSpec Try.prog 12 #[vs 0 o0 n2 n3] [.ro O0] (check_CheckV o0 L1 n2 n3 O0 r) (check_CheckPo o0 L1 n2 n3 O0 r) :=
 fx_spec fit_Cf Try.func12 (by kernel_rfl) (by kernel_rfl) (fun r => by cases r <;> exact le_far _ rfl) (check_Check_fx o0 L1 n2 n3 O0 F0 N) h

noncomputable def check_CheckT0 (o0 : Nat) (L1 : List R_iiii) (n2 n3 : Nat) (O0 : Obj) (w2 : Int) (k0 n : Nat) : Told := .call [(k0, .ro O0)] (vi w2) [] 0
def check_CheckP0 (A : Array Value) (o0 : Nat) (L1 : List R_iiii) (n2 n3 : Nat) (O0 : Obj) (w2 : Int) (k0 n : Nat) : Prop := CallSpec Try.prog 12 A [(k0, .ro O0)] (vi w2) [] n 0

theorem check_CheckC0 (A : Array Value) (o0 : Nat) (L1 : List R_iiii) (n2 n3 : Nat) (O0 : Obj) (F0 : RO_iiii O0 o0 L1) (w2 : Int) (N : Nat) (h : check_Check L1 n2 n3 N = some (.r0 w2)) (k0 n : Nat) (hA : A = #[vs k0 o0 n2 n3]) (hnd : ([k0] : List Nat).Nodup) (hlt : ∀ k ∈ ([k0] : List Nat), k < n) : check_CheckP0 A o0 L1 n2 n3 O0 w2 k0 n :=
 cs_args hA (LSpec.callL (show LSpec Try.prog 12 #[vs 0 o0 n2 n3] [.ro O0] (vi w2) [some (.ro O0)] from check_Check_spec o0 L1 n2 n3 O0 F0 N _ h) [k0] n [] rfl hnd hlt (show 1 ≤ 1 from by decide) (show ∀ j ∈ ([] : List Nat), j < 1 from by decide) (by rfl) ⟨rfl, trivial⟩ (by rfl) ⟨rfl, trivial⟩ ⟨.inr rfl, trivial⟩ rfl rfl rfl (cons_eq (pair_eq rfl rfl) rfl) rfl)

noncomputable def ref12_CheckV (o0 : Nat) (L1 : List R_iiii) (n2 n3 : Nat) (O0 : Obj) : ref12_CheckR → Value
 | .r0 w2 => vi w2
noncomputable def ref12_CheckPo (o0 : Nat) (L1 : List R_iiii) (n2 n3 : Nat) (O0 : Obj) : ref12_CheckR → List (Option AObj)
 | .r0 w2 => [some (.ro O0)]

theorem ref12_Check_fx (o0 : Nat) (L1 : List R_iiii) (n2 n3 : Nat) (O0 : Obj) (F0 : RO_iiii O0 o0 L1) (N : Nat) : Fx Try.prog ext_Cf Try.f13 [.ro O0] #[vs 0 o0 n2 n3] (ref12_CheckV o0 L1 n2 n3 O0) (ref12_CheckPo o0 L1 n2 n3 O0) (ref12_Check L1 n2 n3 N) := by
 unfold ref12_Check
 refine fx_bind (fun z0 c0 => ?_)
 cases z0 with
 | r0 y0_0 =>
  refine fx_ite (fun g1 => ?_) (fun g1 => ?_)
  ·
   exact fx_fin (r := (.r0 ((0 : Int)) : ref12_CheckR)) (fu := 4000) (orc := (orcw [(0, true)] [] [] [] [(0, (ref12_WrongT0 (o0) (L1) (n2) (n3) O0 y0_0 0 1))])) (live := [0]) (u := vi (0 : Int)) (bl := [some (.ro O0)]) (ob := [((decide (y0_0 < (0 : Int))), true), (dP (ref12_WrongP0 #[vs 0 o0 n2 n3] (o0) (L1) (n2) (n3) O0 y0_0 0 1), true), (dS O0, true)]) (by kernel_rfl) (oY <| obs_cons (dP_of (ref12_WrongC0 #[vs 0 o0 n2 n3] (o0) (L1) (n2) (n3) O0 F0 y0_0 N c0 0 1 rfl (by decide) (by decide))) <| oR obs_nil) rfl (by decide) (by rfl) rr ⟨rfl, trivial⟩
  ·
   refine fx_ite (fun g2 => ?_) (fun g2 => ?_)
   ·
    refine fx_ite (fun g3 => ?_) (fun g3 => ?_)
    ·
     refine fx_ite (fun g4 => ?_) (fun g4 => ?_)
     ·
      refine fx_ite (fun g5 => ?_) (fun g5 => ?_)
      ·
       exact fx_fin (r := (.r0 ((140 : Int)) : ref12_CheckR)) (fu := 4000) (orc := (orcw [(0, false), (1, true), (2, true), (3, true)] [] [(0, (y0_0).toNat)] [(0, [.i (L1.getD (y0_0).toNat R_iiii.z).a0, .i (L1.getD (y0_0).toNat R_iiii.z).a1, .i (L1.getD (y0_0).toNat R_iiii.z).a2, .i (L1.getD (y0_0).toNat R_iiii.z).a3])] [(0, (ref12_WrongT0 (o0) (L1) (n2) (n3) O0 y0_0 0 1))])) (live := [0]) (u := vi (140 : Int)) (bl := [some (.ro O0)]) (ob := [((((L1.getD (y0_0).toNat R_iiii.z).a0 == (15 : Int)) && (((L1.getD (y0_0).toNat R_iiii.z).a1 == (0 : Int)) && (((L1.getD (y0_0).toNat R_iiii.z).a2 == (0 : Int)) && (((L1.getD (y0_0).toNat R_iiii.z).a3 == (0 : Int)) && true)))), true), (sameR (roRow O0 (o0 + ((y0_0).toNat * 4)) 4) [.i (L1.getD (y0_0).toNat R_iiii.z).a0, .i (L1.getD (y0_0).toNat R_iiii.z).a1, .i (L1.getD (y0_0).toNat R_iiii.z).a2, .i (L1.getD (y0_0).toNat R_iiii.z).a3], true), (Nat.blt (y0_0).toNat n2, true), (y0_0 == Int.ofNat (y0_0).toNat, true), ((decide ((n2 : Int) ≤ (512 : Int))), true), ((decide (y0_0 < (n2 : Int))), true), ((decide (y0_0 < (0 : Int))), false), (dP (ref12_WrongP0 #[vs 0 o0 n2 n3] (o0) (L1) (n2) (n3) O0 y0_0 0 1), true), (dS O0, true)]) (by kernel_rfl) (obs_cons (by first | (simp only [beq_self_eq_true, Bool.and_self]; done) | (simp only [Bool.and_true, Bool.and_eq_true, beq_iff_eq] <;> first | omega | (simp_all; done))) <| obs_cons ((show (o0 + (y0_0).toNat * 4 + 0) = (o0 + ((y0_0).toNat * 4)) from by omega) ▸ F0 (y0_0).toNat (by omega) 0 4 (show 0 + 4 ≤ 4 from by decide)) <| oB <| oI <| oY <| oY <| oN <| obs_cons (dP_of (ref12_WrongC0 #[vs 0 o0 n2 n3] (o0) (L1) (n2) (n3) O0 F0 y0_0 N c0 0 1 rfl (by decide) (by decide))) <| oR obs_nil) rfl (by decide) (by rfl) rr ⟨rfl, trivial⟩
      ·
       exact fx_fin (r := (.r0 ((120 : Int)) : ref12_CheckR)) (fu := 4000) (orc := (orcw [(0, false), (1, true), (2, true), (3, false)] [] [(0, (y0_0).toNat)] [(0, [.i (L1.getD (y0_0).toNat R_iiii.z).a0, .i (L1.getD (y0_0).toNat R_iiii.z).a1, .i (L1.getD (y0_0).toNat R_iiii.z).a2, .i (L1.getD (y0_0).toNat R_iiii.z).a3])] [(0, (ref12_WrongT0 (o0) (L1) (n2) (n3) O0 y0_0 0 1))])) (live := [0]) (u := vi (120 : Int)) (bl := [some (.ro O0)]) (ob := [((((L1.getD (y0_0).toNat R_iiii.z).a0 == (15 : Int)) && (((L1.getD (y0_0).toNat R_iiii.z).a1 == (0 : Int)) && (((L1.getD (y0_0).toNat R_iiii.z).a2 == (0 : Int)) && (((L1.getD (y0_0).toNat R_iiii.z).a3 == (0 : Int)) && true)))), false), (sameR (roRow O0 (o0 + ((y0_0).toNat * 4)) 4) [.i (L1.getD (y0_0).toNat R_iiii.z).a0, .i (L1.getD (y0_0).toNat R_iiii.z).a1, .i (L1.getD (y0_0).toNat R_iiii.z).a2, .i (L1.getD (y0_0).toNat R_iiii.z).a3], true), (Nat.blt (y0_0).toNat n2, true), (y0_0 == Int.ofNat (y0_0).toNat, true), ((decide ((n2 : Int) ≤ (512 : Int))), true), ((decide (y0_0 < (n2 : Int))), true), ((decide (y0_0 < (0 : Int))), false), (dP (ref12_WrongP0 #[vs 0 o0 n2 n3] (o0) (L1) (n2) (n3) O0 y0_0 0 1), true), (dS O0, true)]) (by kernel_rfl) (obs_cons (Bool.eq_false_iff.2 (by simp only [ne_eq, Bool.and_true, Bool.and_eq_true, beq_iff_eq]; first | omega | (intro hh; simp_all; done))) <| obs_cons ((show (o0 + (y0_0).toNat * 4 + 0) = (o0 + ((y0_0).toNat * 4)) from by omega) ▸ F0 (y0_0).toNat (by omega) 0 4 (show 0 + 4 ≤ 4 from by decide)) <| oB <| oI <| oY <| oY <| oN <| obs_cons (dP_of (ref12_WrongC0 #[vs 0 o0 n2 n3] (o0) (L1) (n2) (n3) O0 F0 y0_0 N c0 0 1 rfl (by decide) (by decide))) <| oR obs_nil) rfl (by decide) (by rfl) rr ⟨rfl, trivial⟩
     ·
      exact fx_none
    ·
     exact fx_fin (r := (.r0 ((120 : Int)) : ref12_CheckR)) (fu := 4000) (orc := (orcw [(0, false), (1, true), (2, false)] [] [] [] [(0, (ref12_WrongT0 (o0) (L1) (n2) (n3) O0 y0_0 0 1))])) (live := [0]) (u := vi (120 : Int)) (bl := [some (.ro O0)]) (ob := [((decide ((n2 : Int) ≤ (512 : Int))), false), ((decide (y0_0 < (n2 : Int))), true), ((decide (y0_0 < (0 : Int))), false), (dP (ref12_WrongP0 #[vs 0 o0 n2 n3] (o0) (L1) (n2) (n3) O0 y0_0 0 1), true), (dS O0, true)]) (by kernel_rfl) (oN <| oY <| oN <| obs_cons (dP_of (ref12_WrongC0 #[vs 0 o0 n2 n3] (o0) (L1) (n2) (n3) O0 F0 y0_0 N c0 0 1 rfl (by decide) (by decide))) <| oR obs_nil) rfl (by decide) (by rfl) rr ⟨rfl, trivial⟩
   ·
    exact fx_fin (r := (.r0 ((120 : Int)) : ref12_CheckR)) (fu := 4000) (orc := (orcw [(0, false), (1, false)] [] [] [] [(0, (ref12_WrongT0 (o0) (L1) (n2) (n3) O0 y0_0 0 1))])) (live := [0]) (u := vi (120 : Int)) (bl := [some (.ro O0)]) (ob := [((decide (y0_0 < (n2 : Int))), false), ((decide (y0_0 < (0 : Int))), false), (dP (ref12_WrongP0 #[vs 0 o0 n2 n3] (o0) (L1) (n2) (n3) O0 y0_0 0 1), true), (dS O0, true)]) (by kernel_rfl) (oN <| oN <| obs_cons (dP_of (ref12_WrongC0 #[vs 0 o0 n2 n3] (o0) (L1) (n2) (n3) O0 F0 y0_0 N c0 0 1 rfl (by decide) (by decide))) <| oR obs_nil) rfl (by decide) (by rfl) rr ⟨rfl, trivial⟩

theorem ref12_Check_spec (o0 : Nat) (L1 : List R_iiii) (n2 n3 : Nat) (O0 : Obj) (F0 : RO_iiii O0 o0 L1) (N : Nat) (r : ref12_CheckR) (h : ref12_Check L1 n2 n3 N = some r) : LSpec Try.prog 13 #[vs 0 o0 n2 n3] [.ro O0] (ref12_CheckV o0 L1 n2 n3 O0 r) (ref12_CheckPo o0 L1 n2 n3 O0 r) :=
 fx_spec fit_Cf Try.func13 (by kernel_rfl) (by kernel_rfl) (fun r => by cases r <;> exact le_far _ rfl) (ref12_Check_fx o0 L1 n2 n3 O0 F0 N) h

noncomputable def ref12_CheckT0 (o0 : Nat) (L1 : List R_iiii) (n2 n3 : Nat) (O0 : Obj) (w2 : Int) (k0 n : Nat) : Told := .call [(k0, .ro O0)] (vi w2) [] 0
def ref12_CheckP0 (A : Array Value) (o0 : Nat) (L1 : List R_iiii) (n2 n3 : Nat) (O0 : Obj) (w2 : Int) (k0 n : Nat) : Prop := CallSpec Try.prog 13 A [(k0, .ro O0)] (vi w2) [] n 0

theorem ref12_CheckC0 (A : Array Value) (o0 : Nat) (L1 : List R_iiii) (n2 n3 : Nat) (O0 : Obj) (F0 : RO_iiii O0 o0 L1) (w2 : Int) (N : Nat) (h : ref12_Check L1 n2 n3 N = some (.r0 w2)) (k0 n : Nat) (hA : A = #[vs k0 o0 n2 n3]) (hnd : ([k0] : List Nat).Nodup) (hlt : ∀ k ∈ ([k0] : List Nat), k < n) : ref12_CheckP0 A o0 L1 n2 n3 O0 w2 k0 n :=
 cs_args hA (LSpec.callL (show LSpec Try.prog 13 #[vs 0 o0 n2 n3] [.ro O0] (vi w2) [some (.ro O0)] from ref12_Check_spec o0 L1 n2 n3 O0 F0 N _ h) [k0] n [] rfl hnd hlt (show 1 ≤ 1 from by decide) (show ∀ j ∈ ([] : List Nat), j < 1 from by decide) (by rfl) ⟨rfl, trivial⟩ (by rfl) ⟨rfl, trivial⟩ ⟨.inr rfl, trivial⟩ rfl rfl rfl (cons_eq (pair_eq rfl rfl) rfl) rfl)

noncomputable def law12_CheckFormsV (o0 : Nat) (L1 : List R_iiii) (n2 n3 : Nat) (O0 : Obj) : law12_CheckFormsR → Value
 | .r0 w2 => Value.bool w2
noncomputable def law12_CheckFormsPo (o0 : Nat) (L1 : List R_iiii) (n2 n3 : Nat) (O0 : Obj) : law12_CheckFormsR → List (Option AObj)
 | .r0 w2 => [some (.ro O0)]

theorem law12_CheckForms_fx (o0 : Nat) (L1 : List R_iiii) (n2 n3 : Nat) (O0 : Obj) (F0 : RO_iiii O0 o0 L1) (N : Nat) : Fx Try.prog ext_Cf Try.f3 [.ro O0] #[vs 0 o0 n2 n3] (law12_CheckFormsV o0 L1 n2 n3 O0) (law12_CheckFormsPo o0 L1 n2 n3 O0) (law12_CheckForms L1 n2 n3 N) := by
 unfold law12_CheckForms
 refine fx_ite (fun g0 => ?_) (fun g0 => ?_)
 ·
  refine fx_ite (fun g1 => ?_) (fun g1 => ?_)
  ·
   refine fx_bind (fun z2 c2 => ?_)
   cases z2 with
   | r0 y2_0 =>
    refine fx_bind (fun z3 c3 => ?_)
    cases z3 with
    | r0 y3_0 =>
     refine fx_ite (fun g4 => ?_) (fun g4 => ?_)
     ·
      refine fx_bind (fun z5 c5 => ?_)
      cases z5 with
      | r0 y5_0 =>
       refine fx_bind (fun z6 c6 => ?_)
       cases z6 with
       | r0 y6_0 =>
        refine fx_ite (fun g7 => ?_) (fun g7 => ?_)
        ·
         exact fx_fin (r := (.r0 (true) : law12_CheckFormsR)) (fu := 4000) (orc := (orcw [(0, true), (1, true), (2, true)] [] [] [] [(0, .sl 0 60), (1, (check_WrongT0 (o0) (L1) ((60 - 0)) ((n3 - 0)) O0 y2_0 0 1)), (2, (ref12_WrongT0 (o0) (L1) ((60 - 0)) ((n3 - 0)) O0 y3_0 0 1)), (3, (check_CheckT0 (o0) (L1) ((60 - 0)) ((n3 - 0)) O0 y5_0 0 1)), (4, (ref12_CheckT0 (o0) (L1) ((60 - 0)) ((n3 - 0)) O0 y6_0 0 1))])) (live := [0]) (u := Value.bool true) (bl := [some (.ro O0)]) (ob := [((y5_0 == y6_0), true), (dP (ref12_CheckP0 #[Value.slice (some ⟨0, (o0 + (0 * 4)), none⟩) (60 - 0) (n3 - 0)] (o0) (L1) ((60 - 0)) ((n3 - 0)) O0 y6_0 0 1), true), (dS O0, true), (dP (check_CheckP0 #[Value.slice (some ⟨0, (o0 + (0 * 4)), none⟩) (60 - 0) (n3 - 0)] (o0) (L1) ((60 - 0)) ((n3 - 0)) O0 y5_0 0 1), true), (dS O0, true), ((y2_0 == y3_0), true), (dP (ref12_WrongP0 #[Value.slice (some ⟨0, (o0 + (0 * 4)), none⟩) (60 - 0) (n3 - 0)] (o0) (L1) ((60 - 0)) ((n3 - 0)) O0 y3_0 0 1), true), (dS O0, true), (dP (check_WrongP0 #[Value.slice (some ⟨0, (o0 + (0 * 4)), none⟩) (60 - 0) (n3 - 0)] (o0) (L1) ((60 - 0)) ((n3 - 0)) O0 y2_0 0 1), true), (dS O0, true), (dP (0 ≤ 60 ∧ 60 ≤ n3), true), ((60 : Int) == Int.ofNat 60, true), (dS 0, true), ((decide ((n2 : Int) > (60 : Int))), true)]) (by kernel_rfl) (oT <| obs_cons (dP_of (ref12_CheckC0 #[Value.slice (some ⟨0, (o0 + (0 * 4)), none⟩) (60 - 0) (n3 - 0)] (o0) (L1) ((60 - 0)) ((n3 - 0)) O0 F0 y6_0 N c6 0 1 (array_eq (cons_eq (slice_eq eqA rfl rfl) rfl)) (by decide) (by decide))) <| oR <| obs_cons (dP_of (check_CheckC0 #[Value.slice (some ⟨0, (o0 + (0 * 4)), none⟩) (60 - 0) (n3 - 0)] (o0) (L1) ((60 - 0)) ((n3 - 0)) O0 F0 y5_0 N c5 0 1 (array_eq (cons_eq (slice_eq eqA rfl rfl) rfl)) (by decide) (by decide))) <| oR <| oT <| obs_cons (dP_of (ref12_WrongC0 #[Value.slice (some ⟨0, (o0 + (0 * 4)), none⟩) (60 - 0) (n3 - 0)] (o0) (L1) ((60 - 0)) ((n3 - 0)) O0 F0 y3_0 N c3 0 1 (array_eq (cons_eq (slice_eq eqA rfl rfl) rfl)) (by decide) (by decide))) <| oR <| obs_cons (dP_of (check_WrongC0 #[Value.slice (some ⟨0, (o0 + (0 * 4)), none⟩) (60 - 0) (n3 - 0)] (o0) (L1) ((60 - 0)) ((n3 - 0)) O0 F0 y2_0 N c2 0 1 (array_eq (cons_eq (slice_eq eqA rfl rfl) rfl)) (by decide) (by decide))) <| oR <| obs_cons (dP_of ⟨ltA, ltA⟩) <| oI <| oR <| oY obs_nil) rfl (by decide) (by rfl) rr ⟨rfl, trivial⟩
        ·
         exact fx_fin (r := (.r0 (false) : law12_CheckFormsR)) (fu := 4000) (orc := (orcw [(0, true), (1, true), (2, false)] [] [] [] [(0, .sl 0 60), (1, (check_WrongT0 (o0) (L1) ((60 - 0)) ((n3 - 0)) O0 y2_0 0 1)), (2, (ref12_WrongT0 (o0) (L1) ((60 - 0)) ((n3 - 0)) O0 y3_0 0 1)), (3, (check_CheckT0 (o0) (L1) ((60 - 0)) ((n3 - 0)) O0 y5_0 0 1)), (4, (ref12_CheckT0 (o0) (L1) ((60 - 0)) ((n3 - 0)) O0 y6_0 0 1))])) (live := [0]) (u := Value.bool false) (bl := [some (.ro O0)]) (ob := [((y5_0 == y6_0), false), (dP (ref12_CheckP0 #[Value.slice (some ⟨0, (o0 + (0 * 4)), none⟩) (60 - 0) (n3 - 0)] (o0) (L1) ((60 - 0)) ((n3 - 0)) O0 y6_0 0 1), true), (dS O0, true), (dP (check_CheckP0 #[Value.slice (some ⟨0, (o0 + (0 * 4)), none⟩) (60 - 0) (n3 - 0)] (o0) (L1) ((60 - 0)) ((n3 - 0)) O0 y5_0 0 1), true), (dS O0, true), ((y2_0 == y3_0), true), (dP (ref12_WrongP0 #[Value.slice (some ⟨0, (o0 + (0 * 4)), none⟩) (60 - 0) (n3 - 0)] (o0) (L1) ((60 - 0)) ((n3 - 0)) O0 y3_0 0 1), true), (dS O0, true), (dP (check_WrongP0 #[Value.slice (some ⟨0, (o0 + (0 * 4)), none⟩) (60 - 0) (n3 - 0)] (o0) (L1) ((60 - 0)) ((n3 - 0)) O0 y2_0 0 1), true), (dS O0, true), (dP (0 ≤ 60 ∧ 60 ≤ n3), true), ((60 : Int) == Int.ofNat 60, true), (dS 0, true), ((decide ((n2 : Int) > (60 : Int))), true)]) (by kernel_rfl) (oF <| obs_cons (dP_of (ref12_CheckC0 #[Value.slice (some ⟨0, (o0 + (0 * 4)), none⟩) (60 - 0) (n3 - 0)] (o0) (L1) ((60 - 0)) ((n3 - 0)) O0 F0 y6_0 N c6 0 1 (array_eq (cons_eq (slice_eq eqA rfl rfl) rfl)) (by decide) (by decide))) <| oR <| obs_cons (dP_of (check_CheckC0 #[Value.slice (some ⟨0, (o0 + (0 * 4)), none⟩) (60 - 0) (n3 - 0)] (o0) (L1) ((60 - 0)) ((n3 - 0)) O0 F0 y5_0 N c5 0 1 (array_eq (cons_eq (slice_eq eqA rfl rfl) rfl)) (by decide) (by decide))) <| oR <| oT <| obs_cons (dP_of (ref12_WrongC0 #[Value.slice (some ⟨0, (o0 + (0 * 4)), none⟩) (60 - 0) (n3 - 0)] (o0) (L1) ((60 - 0)) ((n3 - 0)) O0 F0 y3_0 N c3 0 1 (array_eq (cons_eq (slice_eq eqA rfl rfl) rfl)) (by decide) (by decide))) <| oR <| obs_cons (dP_of (check_WrongC0 #[Value.slice (some ⟨0, (o0 + (0 * 4)), none⟩) (60 - 0) (n3 - 0)] (o0) (L1) ((60 - 0)) ((n3 - 0)) O0 F0 y2_0 N c2 0 1 (array_eq (cons_eq (slice_eq eqA rfl rfl) rfl)) (by decide) (by decide))) <| oR <| obs_cons (dP_of ⟨ltA, ltA⟩) <| oI <| oR <| oY obs_nil) rfl (by decide) (by rfl) rr ⟨rfl, trivial⟩
     ·
      exact fx_fin (r := (.r0 (false) : law12_CheckFormsR)) (fu := 4000) (orc := (orcw [(0, true), (1, false)] [] [] [] [(0, .sl 0 60), (1, (check_WrongT0 (o0) (L1) ((60 - 0)) ((n3 - 0)) O0 y2_0 0 1)), (2, (ref12_WrongT0 (o0) (L1) ((60 - 0)) ((n3 - 0)) O0 y3_0 0 1))])) (live := [0]) (u := Value.bool false) (bl := [some (.ro O0)]) (ob := [((y2_0 == y3_0), false), (dP (ref12_WrongP0 #[Value.slice (some ⟨0, (o0 + (0 * 4)), none⟩) (60 - 0) (n3 - 0)] (o0) (L1) ((60 - 0)) ((n3 - 0)) O0 y3_0 0 1), true), (dS O0, true), (dP (check_WrongP0 #[Value.slice (some ⟨0, (o0 + (0 * 4)), none⟩) (60 - 0) (n3 - 0)] (o0) (L1) ((60 - 0)) ((n3 - 0)) O0 y2_0 0 1), true), (dS O0, true), (dP (0 ≤ 60 ∧ 60 ≤ n3), true), ((60 : Int) == Int.ofNat 60, true), (dS 0, true), ((decide ((n2 : Int) > (60 : Int))), true)]) (by kernel_rfl) (oF <| obs_cons (dP_of (ref12_WrongC0 #[Value.slice (some ⟨0, (o0 + (0 * 4)), none⟩) (60 - 0) (n3 - 0)] (o0) (L1) ((60 - 0)) ((n3 - 0)) O0 F0 y3_0 N c3 0 1 (array_eq (cons_eq (slice_eq eqA rfl rfl) rfl)) (by decide) (by decide))) <| oR <| obs_cons (dP_of (check_WrongC0 #[Value.slice (some ⟨0, (o0 + (0 * 4)), none⟩) (60 - 0) (n3 - 0)] (o0) (L1) ((60 - 0)) ((n3 - 0)) O0 F0 y2_0 N c2 0 1 (array_eq (cons_eq (slice_eq eqA rfl rfl) rfl)) (by decide) (by decide))) <| oR <| obs_cons (dP_of ⟨ltA, ltA⟩) <| oI <| oR <| oY obs_nil) rfl (by decide) (by rfl) rr ⟨rfl, trivial⟩
  ·
   exact fx_none
 ·
  refine fx_bind (fun z1 c1 => ?_)
  cases z1 with
  | r0 y1_0 =>
   refine fx_bind (fun z2 c2 => ?_)
   cases z2 with
   | r0 y2_0 =>
    refine fx_ite (fun g3 => ?_) (fun g3 => ?_)
    ·
     refine fx_bind (fun z4 c4 => ?_)
     cases z4 with
     | r0 y4_0 =>
      refine fx_bind (fun z5 c5 => ?_)
      cases z5 with
      | r0 y5_0 =>
       refine fx_ite (fun g6 => ?_) (fun g6 => ?_)
       ·
        exact fx_fin (r := (.r0 (true) : law12_CheckFormsR)) (fu := 4000) (orc := (orcw [(0, false), (1, true), (2, true)] [] [] [] [(0, (check_WrongT0 (o0) (L1) (n2) (n3) O0 y1_0 0 1)), (1, (ref12_WrongT0 (o0) (L1) (n2) (n3) O0 y2_0 0 1)), (2, (check_CheckT0 (o0) (L1) (n2) (n3) O0 y4_0 0 1)), (3, (ref12_CheckT0 (o0) (L1) (n2) (n3) O0 y5_0 0 1))])) (live := [0]) (u := Value.bool true) (bl := [some (.ro O0)]) (ob := [((y4_0 == y5_0), true), (dP (ref12_CheckP0 #[vs 0 o0 n2 n3] (o0) (L1) (n2) (n3) O0 y5_0 0 1), true), (dS O0, true), (dP (check_CheckP0 #[vs 0 o0 n2 n3] (o0) (L1) (n2) (n3) O0 y4_0 0 1), true), (dS O0, true), ((y1_0 == y2_0), true), (dP (ref12_WrongP0 #[vs 0 o0 n2 n3] (o0) (L1) (n2) (n3) O0 y2_0 0 1), true), (dS O0, true), (dP (check_WrongP0 #[vs 0 o0 n2 n3] (o0) (L1) (n2) (n3) O0 y1_0 0 1), true), (dS O0, true), ((decide ((n2 : Int) > (60 : Int))), false)]) (by kernel_rfl) (oT <| obs_cons (dP_of (ref12_CheckC0 #[vs 0 o0 n2 n3] (o0) (L1) (n2) (n3) O0 F0 y5_0 N c5 0 1 rfl (by decide) (by decide))) <| oR <| obs_cons (dP_of (check_CheckC0 #[vs 0 o0 n2 n3] (o0) (L1) (n2) (n3) O0 F0 y4_0 N c4 0 1 rfl (by decide) (by decide))) <| oR <| oT <| obs_cons (dP_of (ref12_WrongC0 #[vs 0 o0 n2 n3] (o0) (L1) (n2) (n3) O0 F0 y2_0 N c2 0 1 rfl (by decide) (by decide))) <| oR <| obs_cons (dP_of (check_WrongC0 #[vs 0 o0 n2 n3] (o0) (L1) (n2) (n3) O0 F0 y1_0 N c1 0 1 rfl (by decide) (by decide))) <| oR <| oN obs_nil) rfl (by decide) (by rfl) rr ⟨rfl, trivial⟩
       ·
        exact fx_fin (r := (.r0 (false) : law12_CheckFormsR)) (fu := 4000) (orc := (orcw [(0, false), (1, true), (2, false)] [] [] [] [(0, (check_WrongT0 (o0) (L1) (n2) (n3) O0 y1_0 0 1)), (1, (ref12_WrongT0 (o0) (L1) (n2) (n3) O0 y2_0 0 1)), (2, (check_CheckT0 (o0) (L1) (n2) (n3) O0 y4_0 0 1)), (3, (ref12_CheckT0 (o0) (L1) (n2) (n3) O0 y5_0 0 1))])) (live := [0]) (u := Value.bool false) (bl := [some (.ro O0)]) (ob := [((y4_0 == y5_0), false), (dP (ref12_CheckP0 #[vs 0 o0 n2 n3] (o0) (L1) (n2) (n3) O0 y5_0 0 1), true), (dS O0, true), (dP (check_CheckP0 #[vs 0 o0 n2 n3] (o0) (L1) (n2) (n3) O0 y4_0 0 1), true), (dS O0, true), ((y1_0 == y2_0), true), (dP (ref12_WrongP0 #[vs 0 o0 n2 n3] (o0) (L1) (n2) (n3) O0 y2_0 0 1), true), (dS O0, true), (dP (check_WrongP0 #[vs 0 o0 n2 n3] (o0) (L1) (n2) (n3) O0 y1_0 0 1), true), (dS O0, true), ((decide ((n2 : Int) > (60 : Int))), false)]) (by kernel_rfl) (oF <| obs_cons (dP_of (ref12_CheckC0 #[vs 0 o0 n2 n3] (o0) (L1) (n2) (n3) O0 F0 y5_0 N c5 0 1 rfl (by decide) (by decide))) <| oR <| obs_cons (dP_of (check_CheckC0 #[vs 0 o0 n2 n3] (o0) (L1) (n2) (n3) O0 F0 y4_0 N c4 0 1 rfl (by decide) (by decide))) <| oR <| oT <| obs_cons (dP_of (ref12_WrongC0 #[vs 0 o0 n2 n3] (o0) (L1) (n2) (n3) O0 F0 y2_0 N c2 0 1 rfl (by decide) (by decide))) <| oR <| obs_cons (dP_of (check_WrongC0 #[vs 0 o0 n2 n3] (o0) (L1) (n2) (n3) O0 F0 y1_0 N c1 0 1 rfl (by decide) (by decide))) <| oR <| oN obs_nil) rfl (by decide) (by rfl) rr ⟨rfl, trivial⟩
    ·
     exact fx_fin (r := (.r0 (false) : law12_CheckFormsR)) (fu := 4000) (orc := (orcw [(0, false), (1, false)] [] [] [] [(0, (check_WrongT0 (o0) (L1) (n2) (n3) O0 y1_0 0 1)), (1, (ref12_WrongT0 (o0) (L1) (n2) (n3) O0 y2_0 0 1))])) (live := [0]) (u := Value.bool false) (bl := [some (.ro O0)]) (ob := [((y1_0 == y2_0), false), (dP (ref12_WrongP0 #[vs 0 o0 n2 n3] (o0) (L1) (n2) (n3) O0 y2_0 0 1), true), (dS O0, true), (dP (check_WrongP0 #[vs 0 o0 n2 n3] (o0) (L1) (n2) (n3) O0 y1_0 0 1), true), (dS O0, true), ((decide ((n2 : Int) > (60 : Int))), false)]) (by kernel_rfl) (oF <| obs_cons (dP_of (ref12_WrongC0 #[vs 0 o0 n2 n3] (o0) (L1) (n2) (n3) O0 F0 y2_0 N c2 0 1 rfl (by decide) (by decide))) <| oR <| obs_cons (dP_of (check_WrongC0 #[vs 0 o0 n2 n3] (o0) (L1) (n2) (n3) O0 F0 y1_0 N c1 0 1 rfl (by decide) (by decide))) <| oR <| oN obs_nil) rfl (by decide) (by rfl) rr ⟨rfl, trivial⟩

theorem law12_CheckForms_spec (o0 : Nat) (L1 : List R_iiii) (n2 n3 : Nat) (O0 : Obj) (F0 : RO_iiii O0 o0 L1) (N : Nat) (r : law12_CheckFormsR) (h : law12_CheckForms L1 n2 n3 N = some r) : LSpec Try.prog 3 #[vs 0 o0 n2 n3] [.ro O0] (law12_CheckFormsV o0 L1 n2 n3 O0 r) (law12_CheckFormsPo o0 L1 n2 n3 O0 r) :=
 fx_spec fit_Cf Try.func3 (by kernel_rfl) (by kernel_rfl) (fun r => by cases r <;> exact le_far _ rfl) (law12_CheckForms_fx o0 L1 n2 n3 O0 F0 N) h

noncomputable def law12_CheckFormsT0 (o0 : Nat) (L1 : List R_iiii) (n2 n3 : Nat) (O0 : Obj) (w2 : Bool) (k0 n : Nat) : Told := .call [(k0, .ro O0)] (Value.bool w2) [] 0
def law12_CheckFormsP0 (A : Array Value) (o0 : Nat) (L1 : List R_iiii) (n2 n3 : Nat) (O0 : Obj) (w2 : Bool) (k0 n : Nat) : Prop := CallSpec Try.prog 3 A [(k0, .ro O0)] (Value.bool w2) [] n 0

theorem law12_CheckFormsC0 (A : Array Value) (o0 : Nat) (L1 : List R_iiii) (n2 n3 : Nat) (O0 : Obj) (F0 : RO_iiii O0 o0 L1) (w2 : Bool) (N : Nat) (h : law12_CheckForms L1 n2 n3 N = some (.r0 w2)) (k0 n : Nat) (hA : A = #[vs k0 o0 n2 n3]) (hnd : ([k0] : List Nat).Nodup) (hlt : ∀ k ∈ ([k0] : List Nat), k < n) : law12_CheckFormsP0 A o0 L1 n2 n3 O0 w2 k0 n :=
 cs_args hA (LSpec.callL (show LSpec Try.prog 3 #[vs 0 o0 n2 n3] [.ro O0] (Value.bool w2) [some (.ro O0)] from law12_CheckForms_spec o0 L1 n2 n3 O0 F0 N _ h) [k0] n [] rfl hnd hlt (show 1 ≤ 1 from by decide) (show ∀ j ∈ ([] : List Nat), j < 1 from by decide) (by rfl) ⟨rfl, trivial⟩ (by rfl) ⟨rfl, trivial⟩ ⟨.inr rfl, trivial⟩ rfl rfl rfl (cons_eq (pair_eq rfl rfl) rfl) rfl)

noncomputable def check_look_2V  : check_look_2R → Value
 | .r0 => vp 0 0
noncomputable def check_look_2Po  : check_look_2R → List (Option AObj)
 | .r0 => [some (.cells [vn, vn, vn, vn, vn, vi (0 : Int), vi (0 : Int), vi (120 : Int)] 50)]

theorem check_look_2_fx  (N : Nat) : Fx Try.prog ext_Cf Try.f26 [] #[vn] (check_look_2V ) (check_look_2Po ) (check_look_2  N) := by
 unfold check_look_2
 exact fx_fin (r := (.r0 : check_look_2R)) (fu := 4000) (orc := (orcw [] [] [] [] [])) (live := [0]) (u := vp 0 0) (bl := [some (.cells [vn, vn, vn, vn, vn, vi (0 : Int), vi (0 : Int), vi (120 : Int)] 50)]) (ob := []) (by kernel_rfl) obs_nil rfl (by decide) (by rfl) rr ⟨⟨rfl, ⟨[], by rfl⟩, by rfl⟩, trivial⟩

theorem check_look_2_spec  (N : Nat) (r : check_look_2R) (h : check_look_2  N = some r) : LSpec Try.prog 26 #[vn] [] (check_look_2V  r) (check_look_2Po  r) :=
 fx_spec fit_Cf Try.func26 (by kernel_rfl) (by kernel_rfl) (fun r => by cases r <;> exact le_far _ rfl) (check_look_2_fx  N) h

noncomputable def check_look_2T0  (n : Nat) : Told := .call [] (vp n 0) [(n, some (.cells [vn, vn, vn, vn, vn, vi (0 : Int), vi (0 : Int), vi (120 : Int)] 50))] 1
def check_look_2P0 (A : Array Value)  (n : Nat) : Prop := CallSpec Try.prog 26 A [] (vp n 0) [(n, some (.cells [vn, vn, vn, vn, vn, vi (0 : Int), vi (0 : Int), vi (120 : Int)] 50))] n 1

theorem check_look_2C0 (A : Array Value)  (N : Nat) (h : check_look_2  N = some (.r0)) (n : Nat) (hA : A = #[vn]) (hnd : ([] : List Nat).Nodup) (hlt : ∀ k ∈ ([] : List Nat), k < n) : check_look_2P0 A   n :=
 cs_args hA (LSpec.callL (show LSpec Try.prog 26 #[vn] [] (vp 0 0) [some (.cells [vn, vn, vn, vn, vn, vi (0 : Int), vi (0 : Int), vi (120 : Int)] 50)] from check_look_2_spec  N _ h) [] n [0] rfl hnd hlt (show 0 ≤ 1 from by decide) (show ∀ j ∈ ([0] : List Nat), j < 1 from by decide) (by rfl) trivial (by rfl) ⟨rfl, trivial⟩ ⟨(by decide), trivial⟩ rfl rfl rfl rfl (cons_eq (pair_eq rfl (some_eq rfl)) rfl))

noncomputable def check_Wrong_2V  : check_Wrong_2R → Value
 | .r0 => vi (0 : Int)
noncomputable def check_Wrong_2Po  : check_Wrong_2R → List (Option AObj)
 | .r0 => []

theorem check_Wrong_2_fx  (N : Nat) : Fx Try.prog ext_Cf Try.f10 [] #[vn] (check_Wrong_2V ) (check_Wrong_2Po ) (check_Wrong_2  N) := by
 unfold check_Wrong_2
 refine fx_bind (fun z0 c0 => ?_)
 cases z0 with
 | r0 =>
  exact fx_fin (r := (.r0 : check_Wrong_2R)) (fu := 4000) (orc := (orcw [] [] [] [] [(0, (check_look_2T0     0))])) (live := []) (u := vi (0 : Int)) (bl := []) (ob := [(dP (check_look_2P0 #[vn]     0), true)]) (by kernel_rfl) (obs_cons (dP_of (check_look_2C0 #[vn]    N c0  0 rfl (by decide) (by decide))) obs_nil) rfl (by decide) (by rfl) rr trivial

theorem check_Wrong_2_spec  (N : Nat) (r : check_Wrong_2R) (h : check_Wrong_2  N = some r) : LSpec Try.prog 10 #[vn] [] (check_Wrong_2V  r) (check_Wrong_2Po  r) :=
 fx_spec fit_Cf Try.func10 (by kernel_rfl) (by kernel_rfl) (fun r => by cases r <;> exact le_far _ rfl) (check_Wrong_2_fx  N) h

noncomputable def check_Wrong_2T0  (n : Nat) : Told := .call [] (vi (0 : Int)) [] 0
def check_Wrong_2P0 (A : Array Value)  (n : Nat) : Prop := CallSpec Try.prog 10 A [] (vi (0 : Int)) [] n 0

theorem check_Wrong_2C0 (A : Array Value)  (N : Nat) (h : check_Wrong_2  N = some (.r0)) (n : Nat) (hA : A = #[vn]) (hnd : ([] : List Nat).Nodup) (hlt : ∀ k ∈ ([] : List Nat), k < n) : check_Wrong_2P0 A   n :=
 cs_args hA (LSpec.callL (show LSpec Try.prog 10 #[vn] [] (vi (0 : Int)) [] from check_Wrong_2_spec  N _ h) [] n [] rfl hnd hlt (show 0 ≤ 0 from by decide) (show ∀ j ∈ ([] : List Nat), j < 0 from by decide) (by rfl) trivial (by rfl) trivial trivial rfl rfl rfl rfl rfl)

noncomputable def ref12_Wrong_2V  : ref12_Wrong_2R → Value
 | .r0 => vi (0 : Int)
noncomputable def ref12_Wrong_2Po  : ref12_Wrong_2R → List (Option AObj)
 | .r0 => []

theorem ref12_Wrong_2_fx  (N : Nat) : Fx Try.prog ext_Cf Try.f11 [] #[vn] (ref12_Wrong_2V ) (ref12_Wrong_2Po ) (ref12_Wrong_2  N) := by
 unfold ref12_Wrong_2
 exact fx_fin (r := (.r0 : ref12_Wrong_2R)) (fu := 4000) (orc := (orcw [] [] [] [] [])) (live := []) (u := vi (0 : Int)) (bl := []) (ob := []) (by kernel_rfl) obs_nil rfl (by decide) (by rfl) rr trivial

theorem ref12_Wrong_2_spec  (N : Nat) (r : ref12_Wrong_2R) (h : ref12_Wrong_2  N = some r) : LSpec Try.prog 11 #[vn] [] (ref12_Wrong_2V  r) (ref12_Wrong_2Po  r) :=
 fx_spec fit_Cf Try.func11 (by kernel_rfl) (by kernel_rfl) (fun r => by cases r <;> exact le_far _ rfl) (ref12_Wrong_2_fx  N) h

noncomputable def ref12_Wrong_2T0  (n : Nat) : Told := .call [] (vi (0 : Int)) [] 0
def ref12_Wrong_2P0 (A : Array Value)  (n : Nat) : Prop := CallSpec Try.prog 11 A [] (vi (0 : Int)) [] n 0

theorem ref12_Wrong_2C0 (A : Array Value)  (N : Nat) (h : ref12_Wrong_2  N = some (.r0)) (n : Nat) (hA : A = #[vn]) (hnd : ([] : List Nat).Nodup) (hlt : ∀ k ∈ ([] : List Nat), k < n) : ref12_Wrong_2P0 A   n :=
 cs_args hA (LSpec.callL (show LSpec Try.prog 11 #[vn] [] (vi (0 : Int)) [] from ref12_Wrong_2_spec  N _ h) [] n [] rfl hnd hlt (show 0 ≤ 0 from by decide) (show ∀ j ∈ ([] : List Nat), j < 0 from by decide) (by rfl) trivial (by rfl) trivial trivial rfl rfl rfl rfl rfl)

noncomputable def check_Check_2V  : check_Check_2R → Value
 | .r0 => vi (120 : Int)
noncomputable def check_Check_2Po  : check_Check_2R → List (Option AObj)
 | .r0 => []

theorem check_Check_2_fx  (N : Nat) : Fx Try.prog ext_Cf Try.f12 [] #[vn] (check_Check_2V ) (check_Check_2Po ) (check_Check_2  N) := by
 unfold check_Check_2
 refine fx_bind (fun z0 c0 => ?_)
 cases z0 with
 | r0 =>
  exact fx_fin (r := (.r0 : check_Check_2R)) (fu := 4000) (orc := (orcw [] [] [] [] [(0, (check_look_2T0     0))])) (live := []) (u := vi (120 : Int)) (bl := []) (ob := [(dP (check_look_2P0 #[vn]     0), true)]) (by kernel_rfl) (obs_cons (dP_of (check_look_2C0 #[vn]    N c0  0 rfl (by decide) (by decide))) obs_nil) rfl (by decide) (by rfl) rr trivial

theorem check_Check_2_spec  (N : Nat) (r : check_Check_2R) (h : check_Check_2  N = some r) : LSpec Try.prog 12 #[vn] [] (check_Check_2V  r) (check_Check_2Po  r) :=
 fx_spec fit_Cf Try.func12 (by kernel_rfl) (by kernel_rfl) (fun r => by cases r <;> exact le_far _ rfl) (check_Check_2_fx  N) h

noncomputable def check_Check_2T0  (n : Nat) : Told := .call [] (vi (120 : Int)) [] 0
def check_Check_2P0 (A : Array Value)  (n : Nat) : Prop := CallSpec Try.prog 12 A [] (vi (120 : Int)) [] n 0

theorem check_Check_2C0 (A : Array Value)  (N : Nat) (h : check_Check_2  N = some (.r0)) (n : Nat) (hA : A = #[vn]) (hnd : ([] : List Nat).Nodup) (hlt : ∀ k ∈ ([] : List Nat), k < n) : check_Check_2P0 A   n :=
 cs_args hA (LSpec.callL (show LSpec Try.prog 12 #[vn] [] (vi (120 : Int)) [] from check_Check_2_spec  N _ h) [] n [] rfl hnd hlt (show 0 ≤ 0 from by decide) (show ∀ j ∈ ([] : List Nat), j < 0 from by decide) (by rfl) trivial (by rfl) trivial trivial rfl rfl rfl rfl rfl)

noncomputable def ref12_Check_2V  : ref12_Check_2R → Value
 | .r0 => vi (120 : Int)
noncomputable def ref12_Check_2Po  : ref12_Check_2R → List (Option AObj)
 | .r0 => []

theorem ref12_Check_2_fx  (N : Nat) : Fx Try.prog ext_Cf Try.f13 [] #[vn] (ref12_Check_2V ) (ref12_Check_2Po ) (ref12_Check_2  N) := by
 unfold ref12_Check_2
 refine fx_bind (fun z0 c0 => ?_)
 cases z0 with
 | r0 =>
  exact fx_fin (r := (.r0 : ref12_Check_2R)) (fu := 4000) (orc := (orcw [] [] [] [] [(0, (ref12_Wrong_2T0     0))])) (live := []) (u := vi (120 : Int)) (bl := []) (ob := [(dP (ref12_Wrong_2P0 #[vn]     0), true)]) (by kernel_rfl) (obs_cons (dP_of (ref12_Wrong_2C0 #[vn]    N c0  0 rfl (by decide) (by decide))) obs_nil) rfl (by decide) (by rfl) rr trivial

theorem ref12_Check_2_spec  (N : Nat) (r : ref12_Check_2R) (h : ref12_Check_2  N = some r) : LSpec Try.prog 13 #[vn] [] (ref12_Check_2V  r) (ref12_Check_2Po  r) :=
 fx_spec fit_Cf Try.func13 (by kernel_rfl) (by kernel_rfl) (fun r => by cases r <;> exact le_far _ rfl) (ref12_Check_2_fx  N) h

noncomputable def ref12_Check_2T0  (n : Nat) : Told := .call [] (vi (120 : Int)) [] 0
def ref12_Check_2P0 (A : Array Value)  (n : Nat) : Prop := CallSpec Try.prog 13 A [] (vi (120 : Int)) [] n 0

theorem ref12_Check_2C0 (A : Array Value)  (N : Nat) (h : ref12_Check_2  N = some (.r0)) (n : Nat) (hA : A = #[vn]) (hnd : ([] : List Nat).Nodup) (hlt : ∀ k ∈ ([] : List Nat), k < n) : ref12_Check_2P0 A   n :=
 cs_args hA (LSpec.callL (show LSpec Try.prog 13 #[vn] [] (vi (120 : Int)) [] from ref12_Check_2_spec  N _ h) [] n [] rfl hnd hlt (show 0 ≤ 0 from by decide) (show ∀ j ∈ ([] : List Nat), j < 0 from by decide) (by rfl) trivial (by rfl) trivial trivial rfl rfl rfl rfl rfl)

noncomputable def law12_CheckForms_2V  : law12_CheckForms_2R → Value
 | .r0 => Value.bool true
noncomputable def law12_CheckForms_2Po  : law12_CheckForms_2R → List (Option AObj)
 | .r0 => []

theorem law12_CheckForms_2_fx  (N : Nat) : Fx Try.prog ext_Cf Try.f3 [] #[vn] (law12_CheckForms_2V ) (law12_CheckForms_2Po ) (law12_CheckForms_2  N) := by
 unfold law12_CheckForms_2
 refine fx_bind (fun z0 c0 => ?_)
 cases z0 with
 | r0 =>
  refine fx_bind (fun z1 c1 => ?_)
  cases z1 with
  | r0 =>
   refine fx_bind (fun z2 c2 => ?_)
   cases z2 with
   | r0 =>
    refine fx_bind (fun z3 c3 => ?_)
    cases z3 with
    | r0 =>
     exact fx_fin (r := (.r0 : law12_CheckForms_2R)) (fu := 4000) (orc := (orcw [] [] [] [] [(0, (check_Wrong_2T0     0)), (1, (ref12_Wrong_2T0     0)), (2, (check_Check_2T0     0)), (3, (ref12_Check_2T0     0))])) (live := []) (u := Value.bool true) (bl := []) (ob := [(dP (ref12_Check_2P0 #[vn]     0), true), (dP (check_Check_2P0 #[vn]     0), true), (dP (ref12_Wrong_2P0 #[vn]     0), true), (dP (check_Wrong_2P0 #[vn]     0), true)]) (by kernel_rfl) (obs_cons (dP_of (ref12_Check_2C0 #[vn]    N c3  0 rfl (by decide) (by decide))) <| obs_cons (dP_of (check_Check_2C0 #[vn]    N c2  0 rfl (by decide) (by decide))) <| obs_cons (dP_of (ref12_Wrong_2C0 #[vn]    N c1  0 rfl (by decide) (by decide))) <| obs_cons (dP_of (check_Wrong_2C0 #[vn]    N c0  0 rfl (by decide) (by decide))) obs_nil) rfl (by decide) (by rfl) rr trivial

theorem law12_CheckForms_2_spec  (N : Nat) (r : law12_CheckForms_2R) (h : law12_CheckForms_2  N = some r) : LSpec Try.prog 3 #[vn] [] (law12_CheckForms_2V  r) (law12_CheckForms_2Po  r) :=
 fx_spec fit_Cf Try.func3 (by kernel_rfl) (by kernel_rfl) (fun r => by cases r <;> exact le_far _ rfl) (law12_CheckForms_2_fx  N) h

noncomputable def law12_CheckForms_2T0  (n : Nat) : Told := .call [] (Value.bool true) [] 0
def law12_CheckForms_2P0 (A : Array Value)  (n : Nat) : Prop := CallSpec Try.prog 3 A [] (Value.bool true) [] n 0

theorem law12_CheckForms_2C0 (A : Array Value)  (N : Nat) (h : law12_CheckForms_2  N = some (.r0)) (n : Nat) (hA : A = #[vn]) (hnd : ([] : List Nat).Nodup) (hlt : ∀ k ∈ ([] : List Nat), k < n) : law12_CheckForms_2P0 A   n :=
 cs_args hA (LSpec.callL (show LSpec Try.prog 3 #[vn] [] (Value.bool true) [] from law12_CheckForms_2_spec  N _ h) [] n [] rfl hnd hlt (show 0 ≤ 0 from by decide) (show ∀ j ∈ ([] : List Nat), j < 0 from by decide) (by rfl) trivial (by rfl) trivial trivial rfl rfl rfl rfl rfl)

end Ev
end Go.Proofs.Ytpgbennpiihajaa
