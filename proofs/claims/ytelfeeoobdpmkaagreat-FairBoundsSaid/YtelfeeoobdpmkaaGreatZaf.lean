/- Part 6. -/
import Derived.Test.YtelfeeoobdpmkaaGreatZae
/- Calls do what the plain functions say. -/
namespace Go.Proofs.YtelfeeoobdpmkaaGreat
open Go.RowKit
namespace Ev
set_option linter.unusedVariables false
set_option maxRecDepth 100000
theorem Zrw (L0 : List RA) (N : Nat) : (ZbD L0 N).Enter Tryz.prog ZG #[ms E_iiii L0] (ZiG L0 N) := by
 unfold ZiG
 refine Mach.en_bind (fun z0 c0 => ?_)
 cases z0 with
 | r0 y0_0 =>
  refine Mach.en_ite (fun g1 => ?_) (fun g1 => ?_)
  ·
   exact Mach.en_fin (M := ZbD L0 N) (cd := 1000000) (cm := 0) (r := (.r0 (false) : ZaV)) (fu := 4000) (orc := (Zi [(0, true)] [] [] [] [(0, (ZdP (L0)  y0_0  0))])) (live := []) (u := vf) (bl := []) (ob := [((y0_0 != (0 : Int)), true), (dP (ZcS #[ms E_iiii L0] (L0)  y0_0  0), true)]) (by kernel_rfl) (oD <| Za (Zg (ZdQ #[ms E_iiii L0] (L0)  y0_0 N c0  0 rfl (by decide) (by decide))) Ze) rfl (by decide) (by rfl) rr trivial
  ·
   exact Mach.en_head (bK := Ze6 1) (M := ZbD L0 N) (cd := 1000000) (cm := 0) (y := (.h1m0 (0) : Zbb)) (fu := 4000) (orc := (Zi [(0, false)] [] [] [] [(0, (ZdP (L0)  y0_0  0))])) (live := []) (tv := [some (ms E_iiii L0), some (vi (L0.length : Int)), some (vq)]) (bl := []) (ob := [((y0_0 != (0 : Int)), false), (dP (ZcS #[ms E_iiii L0] (L0)  y0_0  0), true)]) rfl rfl (show Z1 (Ze6 1).2 = [] from rfl) (by kernel_rfl) (oE <| Za (Zg (ZdQ #[ms E_iiii L0] (L0)  y0_0 N c0  0 rfl (by decide) (by decide))) Ze) rfl (by decide) (by rfl) ⟨rr, ⟨rr, ⟨⟨Eq.trans (show (vi ((0 : Nat) : Int) : Value) = vq from (congrArg (Value.int .i64) (by first | rfl | omega))) (by rfl), by rfl⟩, trivial⟩⟩⟩ trivial

theorem Zo1 (L0 : List RA) (N : Nat) (r : ZaV) (h : ZgM L0 N = some r) : LSpec Tryz.prog 6 #[ms E_iiii L0] [] (ZnS L0 r) (ZmK L0 r) :=
 Mach.spec Zl (ZbD L0 N) Tryz.func6 (by kernel_rfl) (by kernel_rfl) (fun x => by cases x <;> exact Zj _ rfl) (fun r => by cases r <;> exact Zj _ rfl) (fun x => by
  cases x with
  | h1m0 _ => exact fun _ => (show ¬ (1 ∈ Z1 (Ze6 1).2) from by decide +kernel)
  ) (fun x => (show (ZbD L0 N).Ok Tryz.prog ZG x (ZdN L0 N x) from by
  cases x with
  | h1m0 v2 => exact ZnU L0 v2 N
  )) (Zrw L0 N) (n := N) h

noncomputable def ZeU (L0 : List RA) (w0 : Bool) (n : Nat) : Zaj := .call [] (Value.bool w0) [] 0
def ZdZ (A : Array Value) (L0 : List RA) (w0 : Bool) (n : Nat) : Prop := Zz Tryz.prog 6 A [] (Value.bool w0) [] n 0

theorem ZeV (A : Array Value) (L0 : List RA) (w0 : Bool) (N : Nat) (h : ZgM L0 N = some (.r0 w0)) (n : Nat) (hA : A = #[ms E_iiii L0]) (hnd : ([] : List Nat).Nodup) (hlt : ∀ k ∈ ([] : List Nat), k < n) : ZdZ A L0 w0  n :=
 ZC hA (LSpec.callL (show LSpec Tryz.prog 6 #[ms E_iiii L0] [] (Value.bool w0) [] from Zo1 L0 N _ h) [] n [] rfl hnd hlt (show 0 ≤ 0 from by decide) (show ∀ j ∈ ([] : List Nat), j < 0 from by decide) (by rfl) trivial (by rfl) trivial trivial rfl rfl rfl rfl rfl)

noncomputable def ZmM (a0 a1 a2 a3 a4 : Int) : Zbc → Value
 | .r0 => Value.tuple #[vs 0 0 1 1, vT]
 | .r1 w0 => Value.tuple #[vn, Value.bool w0]
noncomputable def ZlH (a0 a1 a2 a3 a4 : Int) : Zbc → List (Option AObj)
 | .r0 => [some (.cells (Zb Zd ([(⟨a4, (0 : Int)⟩ : R_ii)] : List R_ii)) 82)]
 | .r1 w0 => []

theorem ZpF (a0 a1 a2 a3 a4 : Int) (N : Nat) : Gx Tryz.prog 39 [] #[vn, Value.agg #[vi a0, vi a1, vi a2, vi a3], vi a4] (ZmM a0 a1 a2 a3 a4) (ZlH a0 a1 a2 a3 a4) (Zcf a0 a1 a2 a3 a4 N) := by
 unfold Zcf
 refine Zn (fun g0 => ?_) (fun g0 => ?_)
 ·
  exact Zm Zl (r := (.r0 : Zbc)) (fu := 4000) (orc := (Zi [(0, true)] [] [] [] [])) (live := [3]) (u := Value.tuple #[vs 3 0 1 1, vT]) (bl := [some (.cells [vi a4, vq] 82)]) (ob := [nT a0 15]) (by kernel_rfl) (oT Ze) rfl (by decide) (by rfl) rr ⟨(ZbA (E := Zd) _ (L := ([(⟨a4, (0 : Int)⟩ : R_ii)] : List R_ii)) _ (show ([vi a4, vq] : List Value) = Zb Zd ([(⟨a4, (0 : Int)⟩ : R_ii)] : List R_ii) from rfl)), trivial⟩ (Zj _ rfl)
 ·
  refine Zn (fun g1 => ?_) (fun g1 => ?_)
  ·
   exact Zm Zl (r := (.r1 (false) : Zbc)) (fu := 4000) (orc := (Zi [(0, false), (1, true)] [] [] [] [])) (live := []) (u := Value.tuple #[vn, vf]) (bl := []) (ob := [nT a0 16, nF a0 15]) (by kernel_rfl) (oT <| oF Ze) rfl (by decide) (by rfl) rr trivial (Zj _ rfl)
  ·
   refine Zn (fun g2 => ?_) (fun g2 => ?_)
   ·
    exact Zm Zl (r := (.r1 (false) : Zbc)) (fu := 4000) (orc := (Zi [(0, false), (1, false), (2, true)] [] [] [] [])) (live := []) (u := Value.tuple #[vn, vf]) (bl := []) (ob := [nT a0 17, nF a0 16, nF a0 15]) (by kernel_rfl) (oT <| oF <| oF Ze) rfl (by decide) (by rfl) rr trivial (Zj _ rfl)
   ·
    refine Zn (fun g3 => ?_) (fun g3 => ?_)
    ·
     exact Zm Zl (r := (.r1 (false) : Zbc)) (fu := 4000) (orc := (Zi [(0, false), (1, false), (2, false), (3, true)] [] [] [] [])) (live := []) (u := Value.tuple #[vn, vf]) (bl := []) (ob := [nT a0 18, nF a0 17, nF a0 16, nF a0 15]) (by kernel_rfl) (oT <| oF <| oF <| oF Ze) rfl (by decide) (by rfl) rr trivial (Zj _ rfl)
    ·
     by_cases g4 : a0 = (20 : Int)
     ·
      exact Zm Zl (r := (.r1 (true) : Zbc)) (fu := 4000) (orc := (Zi [(0, false), (1, false), (2, false), (3, false), (4, true)] [] [] [] [])) (live := []) (u := Value.tuple #[vn, vT]) (bl := []) (ob := [nT a0 20, nF a0 18, nF a0 17, nF a0 16, nF a0 15]) (by kernel_rfl) (oT <| oF <| oF <| oF <| oF Ze) rfl (by decide) (by rfl) rr trivial (Zj _ rfl)
     ·
      exact Zm Zl (r := (.r1 (true) : Zbc)) (fu := 4000) (orc := (Zi [(0, false), (1, false), (2, false), (3, false), (4, false)] [] [] [] [])) (live := []) (u := Value.tuple #[vn, vT]) (bl := []) (ob := [nF a0 20, nF a0 18, nF a0 17, nF a0 16, nF a0 15]) (by kernel_rfl) (oF <| oF <| oF <| oF <| oF Ze) rfl (by decide) (by rfl) rr trivial (Zj _ rfl)

theorem Zi2 (a0 a1 a2 a3 a4 : Int) (N : Nat) (r : Zbc) (h : Zcf a0 a1 a2 a3 a4 N = some r) : LSpec Tryz.prog 39 #[vn, Value.agg #[vi a0, vi a1, vi a2, vi a3], vi a4] [] (ZmM a0 a1 a2 a3 a4 r) (ZlH a0 a1 a2 a3 a4 r) :=
 (ZpF a0 a1 a2 a3 a4 N) r h

noncomputable def Zij (a0 a1 a2 a3 a4 : Int) (n : Nat) : Zaj := .call [] (Value.tuple #[vs n 0 1 1, vT]) [(n, some (.cells (Zb Zd ([(⟨a4, (0 : Int)⟩ : R_ii)] : List R_ii)) 82))] 1
def ZfM (A : Array Value) (a0 a1 a2 a3 a4 : Int) (n : Nat) : Prop := Zz Tryz.prog 39 A [] (Value.tuple #[vs n 0 1 1, vT]) [(n, some (.cells (Zb Zd ([(⟨a4, (0 : Int)⟩ : R_ii)] : List R_ii)) 82))] n 1

theorem Zik (A : Array Value) (a0 a1 a2 a3 a4 : Int) (N : Nat) (h : Zcf a0 a1 a2 a3 a4 N = some (.r0)) (n : Nat) (hA : A = #[vn, Value.agg #[vi a0, vi a1, vi a2, vi a3], vi a4]) (hnd : ([] : List Nat).Nodup) (hlt : ∀ k ∈ ([] : List Nat), k < n) : ZfM A a0 a1 a2 a3 a4  n :=
 ZC hA (LSpec.callL (show LSpec Tryz.prog 39 #[vn, Value.agg #[vi a0, vi a1, vi a2, vi a3], vi a4] [] (Value.tuple #[vs 0 0 1 1, vT]) [some (.cells (Zb Zd ([(⟨a4, (0 : Int)⟩ : R_ii)] : List R_ii)) 82)] from Zi2 a0 a1 a2 a3 a4 N _ h) [] n [0] rfl hnd hlt (show 0 ≤ 1 from by decide) (show ∀ j ∈ ([0] : List Nat), j < 1 from by decide) (by rfl) trivial (by rfl) ⟨(Zo _ _ _), trivial⟩ ⟨(by decide), trivial⟩ rfl rfl rfl rfl (Zc (Zp rfl (Zad (Z0 _ _ _))) rfl))

noncomputable def ZfN (a0 a1 a2 a3 a4 : Int) (w0 : Bool) (n : Nat) : Zaj := .call [] (Value.tuple #[vn, Value.bool w0]) [] 0
def Zer (A : Array Value) (a0 a1 a2 a3 a4 : Int) (w0 : Bool) (n : Nat) : Prop := Zz Tryz.prog 39 A [] (Value.tuple #[vn, Value.bool w0]) [] n 0

theorem ZfO (A : Array Value) (a0 a1 a2 a3 a4 : Int) (w0 : Bool) (N : Nat) (h : Zcf a0 a1 a2 a3 a4 N = some (.r1 w0)) (n : Nat) (hA : A = #[vn, Value.agg #[vi a0, vi a1, vi a2, vi a3], vi a4]) (hnd : ([] : List Nat).Nodup) (hlt : ∀ k ∈ ([] : List Nat), k < n) : Zer A a0 a1 a2 a3 a4 w0  n :=
 ZC hA (LSpec.callL (show LSpec Tryz.prog 39 #[vn, Value.agg #[vi a0, vi a1, vi a2, vi a3], vi a4] [] (Value.tuple #[vn, Value.bool w0]) [] from Zi2 a0 a1 a2 a3 a4 N _ h) [] n [] rfl hnd hlt (show 0 ≤ 0 from by decide) (show ∀ j ∈ ([] : List Nat), j < 0 from by decide) (by rfl) trivial (by rfl) trivial trivial rfl rfl rfl rfl rfl)

noncomputable def ZnV (a0 : Int) : ZJ → Value
 | .r0 w0 w1 w2 w3 => Value.tuple #[Value.agg #[vi w0, vi w1, vi w2], Value.bool w3]
noncomputable def ZmN (a0 : Int) : ZJ → List (Option AObj)
 | .r0 w0 w1 w2 w3 => []

theorem Zrx (a0 : Int) (N : Nat) : Gx Tryz.prog 54 [] #[vi a0] (ZnV a0) (ZmN a0) (Zdd a0 N) := by
 unfold Zdd
 refine Zn (fun g0 => ?_) (fun g0 => ?_)
 ·
  exact Zm Zl (r := (.r0 ((1 : Int)) ((2 : Int)) ((0 : Int)) (true) : ZJ)) (fu := 4000) (orc := (Zi [(0, true)] [] [] [] [])) (live := []) (u := Value.tuple #[Value.agg #[vi (1 : Int), vi (2 : Int), vq], vT]) (bl := []) (ob := [nT a0 1]) (by kernel_rfl) (oT Ze) rfl (by decide) (by rfl) rr trivial (Zj _ rfl)
 ·
  refine Zn (fun g1 => ?_) (fun g1 => ?_)
  ·
   exact Zm Zl (r := (.r0 ((1 : Int)) ((0 : Int)) ((0 : Int)) (true) : ZJ)) (fu := 4000) (orc := (Zi [(0, false), (1, true)] [] [] [] [])) (live := []) (u := Value.tuple #[Value.agg #[vi (1 : Int), vq, vq], vT]) (bl := []) (ob := [nT a0 2, nF a0 1]) (by kernel_rfl) (oT <| oF Ze) rfl (by decide) (by rfl) rr trivial (Zj _ rfl)
  ·
   refine Zn (fun g2 => ?_) (fun g2 => ?_)
   ·
    exact Zm Zl (r := (.r0 ((1 : Int)) ((0 : Int)) ((0 : Int)) (true) : ZJ)) (fu := 4000) (orc := (Zi [(0, false), (1, false), (2, true)] [] [] [] [])) (live := []) (u := Value.tuple #[Value.agg #[vi (1 : Int), vq, vq], vT]) (bl := []) (ob := [nT a0 10, nF a0 2, nF a0 1]) (by kernel_rfl) (oT <| oF <| oF Ze) rfl (by decide) (by rfl) rr trivial (Zj _ rfl)
   ·
    refine Zn (fun g3 => ?_) (fun g3 => ?_)
    ·
     exact Zm Zl (r := (.r0 ((1 : Int)) ((0 : Int)) ((0 : Int)) (true) : ZJ)) (fu := 4000) (orc := (Zi [(0, false), (1, false), (2, false), (3, true)] [] [] [] [])) (live := []) (u := Value.tuple #[Value.agg #[vi (1 : Int), vq, vq], vT]) (bl := []) (ob := [nT a0 12, nF a0 10, nF a0 2, nF a0 1]) (by kernel_rfl) (oT <| oF <| oF <| oF Ze) rfl (by decide) (by rfl) rr trivial (Zj _ rfl)
    ·
     refine Zn (fun g4 => ?_) (fun g4 => ?_)
     ·
      exact Zm Zl (r := (.r0 ((1 : Int)) ((0 : Int)) ((0 : Int)) (true) : ZJ)) (fu := 4000) (orc := (Zi [(0, false), (1, false), (2, false), (3, false), (4, true)] [] [] [] [])) (live := []) (u := Value.tuple #[Value.agg #[vi (1 : Int), vq, vq], vT]) (bl := []) (ob := [nT a0 19, nF a0 12, nF a0 10, nF a0 2, nF a0 1]) (by kernel_rfl) (oT <| oF <| oF <| oF <| oF Ze) rfl (by decide) (by rfl) rr trivial (Zj _ rfl)
     ·
      refine Zn (fun g5 => ?_) (fun g5 => ?_)
      ·
       exact Zm Zl (r := (.r0 ((1 : Int)) ((1 : Int)) ((0 : Int)) (true) : ZJ)) (fu := 4000) (orc := (Zi [(0, false), (1, false), (2, false), (3, false), (4, false), (5, true)] [] [] [] [])) (live := []) (u := Value.tuple #[Value.agg #[vi (1 : Int), vi (1 : Int), vq], vT]) (bl := []) (ob := [nT a0 3, nF a0 19, nF a0 12, nF a0 10, nF a0 2, nF a0 1]) (by kernel_rfl) (oT <| oF <| oF <| oF <| oF <| oF Ze) rfl (by decide) (by rfl) rr trivial (Zj _ rfl)
      ·
       refine Zn (fun g6 => ?_) (fun g6 => ?_)
       ·
        exact Zm Zl (r := (.r0 ((1 : Int)) ((1 : Int)) ((1 : Int)) (true) : ZJ)) (fu := 4000) (orc := (Zi [(0, false), (1, false), (2, false), (3, false), (4, false), (5, false), (6, true)] [] [] [] [])) (live := []) (u := Value.tuple #[Value.agg #[vi (1 : Int), vi (1 : Int), vi (1 : Int)], vT]) (bl := []) (ob := [nT a0 4, nF a0 3, nF a0 19, nF a0 12, nF a0 10, nF a0 2, nF a0 1]) (by kernel_rfl) (oT <| oF <| oF <| oF <| oF <| oF <| oF Ze) rfl (by decide) (by rfl) rr trivial (Zj _ rfl)
       ·
        refine Zn (fun g7 => ?_) (fun g7 => ?_)
        ·
         exact Zm Zl (r := (.r0 ((1 : Int)) ((1 : Int)) ((1 : Int)) (true) : ZJ)) (fu := 4000) (orc := (Zi [(0, false), (1, false), (2, false), (3, false), (4, false), (5, false), (6, false), (7, true)] [] [] [] [])) (live := []) (u := Value.tuple #[Value.agg #[vi (1 : Int), vi (1 : Int), vi (1 : Int)], vT]) (bl := []) (ob := [nT a0 5, nF a0 4, nF a0 3, nF a0 19, nF a0 12, nF a0 10, nF a0 2, nF a0 1]) (by kernel_rfl) (oT <| oF <| oF <| oF <| oF <| oF <| oF <| oF Ze) rfl (by decide) (by rfl) rr trivial (Zj _ rfl)
        ·
         refine Zn (fun g8 => ?_) (fun g8 => ?_)
         ·
          exact Zm Zl (r := (.r0 ((1 : Int)) ((1 : Int)) ((1 : Int)) (true) : ZJ)) (fu := 4000) (orc := (Zi [(0, false), (1, false), (2, false), (3, false), (4, false), (5, false), (6, false), (7, false), (8, true)] [] [] [] [])) (live := []) (u := Value.tuple #[Value.agg #[vi (1 : Int), vi (1 : Int), vi (1 : Int)], vT]) (bl := []) (ob := [nT a0 6, nF a0 5, nF a0 4, nF a0 3, nF a0 19, nF a0 12, nF a0 10, nF a0 2, nF a0 1]) (by kernel_rfl) (oT <| oF <| oF <| oF <| oF <| oF <| oF <| oF <| oF Ze) rfl (by decide) (by rfl) rr trivial (Zj _ rfl)
         ·
          refine Zn (fun g9 => ?_) (fun g9 => ?_)
          ·
           exact Zm Zl (r := (.r0 ((1 : Int)) ((1 : Int)) ((1 : Int)) (true) : ZJ)) (fu := 4000) (orc := (Zi [(0, false), (1, false), (2, false), (3, false), (4, false), (5, false), (6, false), (7, false), (8, false), (9, true)] [] [] [] [])) (live := []) (u := Value.tuple #[Value.agg #[vi (1 : Int), vi (1 : Int), vi (1 : Int)], vT]) (bl := []) (ob := [nT a0 7, nF a0 6, nF a0 5, nF a0 4, nF a0 3, nF a0 19, nF a0 12, nF a0 10, nF a0 2, nF a0 1]) (by kernel_rfl) (oT <| oF <| oF <| oF <| oF <| oF <| oF <| oF <| oF <| oF Ze) rfl (by decide) (by rfl) rr trivial (Zj _ rfl)
          ·
           refine Zn (fun g10 => ?_) (fun g10 => ?_)
           ·
            exact Zm Zl (r := (.r0 ((3 : Int)) ((0 : Int)) ((0 : Int)) (true) : ZJ)) (fu := 4000) (orc := (Zi [(0, false), (1, false), (2, false), (3, false), (4, false), (5, false), (6, false), (7, false), (8, false), (9, false), (10, true)] [] [] [] [])) (live := []) (u := Value.tuple #[Value.agg #[vi (3 : Int), vq, vq], vT]) (bl := []) (ob := [nT a0 8, nF a0 7, nF a0 6, nF a0 5, nF a0 4, nF a0 3, nF a0 19, nF a0 12, nF a0 10, nF a0 2, nF a0 1]) (by kernel_rfl) (oT <| oF <| oF <| oF <| oF <| oF <| oF <| oF <| oF <| oF <| oF Ze) rfl (by decide) (by rfl) rr trivial (Zj _ rfl)
           ·
            refine Zn (fun g11 => ?_) (fun g11 => ?_)
            ·
             exact Zm Zl (r := (.r0 ((1 : Int)) ((3 : Int)) ((0 : Int)) (true) : ZJ)) (fu := 4000) (orc := (Zi [(0, false), (1, false), (2, false), (3, false), (4, false), (5, false), (6, false), (7, false), (8, false), (9, false), (10, false), (11, true)] [] [] [] [])) (live := []) (u := Value.tuple #[Value.agg #[vi (1 : Int), vi (3 : Int), vq], vT]) (bl := []) (ob := [nT a0 9, nF a0 8, nF a0 7, nF a0 6, nF a0 5, nF a0 4, nF a0 3, nF a0 19, nF a0 12, nF a0 10, nF a0 2, nF a0 1]) (by kernel_rfl) (oT <| oF <| oF <| oF <| oF <| oF <| oF <| oF <| oF <| oF <| oF <| oF Ze) rfl (by decide) (by rfl) rr trivial (Zj _ rfl)
            ·
             refine Zn (fun g12 => ?_) (fun g12 => ?_)
             ·
              exact Zm Zl (r := (.r0 ((1 : Int)) ((5 : Int)) ((6 : Int)) (true) : ZJ)) (fu := 4000) (orc := (Zi [(0, false), (1, false), (2, false), (3, false), (4, false), (5, false), (6, false), (7, false), (8, false), (9, false), (10, false), (11, false), (12, true)] [] [] [] [])) (live := []) (u := Value.tuple #[Value.agg #[vi (1 : Int), vi (5 : Int), vi (6 : Int)], vT]) (bl := []) (ob := [nT a0 11, nF a0 9, nF a0 8, nF a0 7, nF a0 6, nF a0 5, nF a0 4, nF a0 3, nF a0 19, nF a0 12, nF a0 10, nF a0 2, nF a0 1]) (by kernel_rfl) (oT <| oF <| oF <| oF <| oF <| oF <| oF <| oF <| oF <| oF <| oF <| oF <| oF Ze) rfl (by decide) (by rfl) rr trivial (Zj _ rfl)
             ·
              refine Zn (fun g13 => ?_) (fun g13 => ?_)
              ·
               exact Zm Zl (r := (.r0 ((1 : Int)) ((1 : Int)) ((4 : Int)) (true) : ZJ)) (fu := 4000) (orc := (Zi [(0, false), (1, false), (2, false), (3, false), (4, false), (5, false), (6, false), (7, false), (8, false), (9, false), (10, false), (11, false), (12, false), (13, true)] [] [] [] [])) (live := []) (u := Value.tuple #[Value.agg #[vi (1 : Int), vi (1 : Int), vi (4 : Int)], vT]) (bl := []) (ob := [nT a0 13, nF a0 11, nF a0 9, nF a0 8, nF a0 7, nF a0 6, nF a0 5, nF a0 4, nF a0 3, nF a0 19, nF a0 12, nF a0 10, nF a0 2, nF a0 1]) (by kernel_rfl) (oT <| oF <| oF <| oF <| oF <| oF <| oF <| oF <| oF <| oF <| oF <| oF <| oF <| oF Ze) rfl (by decide) (by rfl) rr trivial (Zj _ rfl)
              ·
               refine Zn (fun g14 => ?_) (fun g14 => ?_)
               ·
                exact Zm Zl (r := (.r0 ((1 : Int)) ((4 : Int)) ((1 : Int)) (true) : ZJ)) (fu := 4000) (orc := (Zi [(0, false), (1, false), (2, false), (3, false), (4, false), (5, false), (6, false), (7, false), (8, false), (9, false), (10, false), (11, false), (12, false), (13, false), (14, true)] [] [] [] [])) (live := []) (u := Value.tuple #[Value.agg #[vi (1 : Int), vi (4 : Int), vi (1 : Int)], vT]) (bl := []) (ob := [nT a0 14, nF a0 13, nF a0 11, nF a0 9, nF a0 8, nF a0 7, nF a0 6, nF a0 5, nF a0 4, nF a0 3, nF a0 19, nF a0 12, nF a0 10, nF a0 2, nF a0 1]) (by kernel_rfl) (oT <| oF <| oF <| oF <| oF <| oF <| oF <| oF <| oF <| oF <| oF <| oF <| oF <| oF <| oF Ze) rfl (by decide) (by rfl) rr trivial (Zj _ rfl)
               ·
                refine Zn (fun g15 => ?_) (fun g15 => ?_)
                ·
                 exact Zm Zl (r := (.r0 ((0 : Int)) ((0 : Int)) ((0 : Int)) (true) : ZJ)) (fu := 4000) (orc := (Zi [(0, false), (1, false), (2, false), (3, false), (4, false), (5, false), (6, false), (7, false), (8, false), (9, false), (10, false), (11, false), (12, false), (13, false), (14, false), (15, true)] [] [] [] [])) (live := []) (u := Value.tuple #[Value.agg #[vq, vq, vq], vT]) (bl := []) (ob := [nT a0 15, nF a0 14, nF a0 13, nF a0 11, nF a0 9, nF a0 8, nF a0 7, nF a0 6, nF a0 5, nF a0 4, nF a0 3, nF a0 19, nF a0 12, nF a0 10, nF a0 2, nF a0 1]) (by kernel_rfl) (oT <| oF <| oF <| oF <| oF <| oF <| oF <| oF <| oF <| oF <| oF <| oF <| oF <| oF <| oF <| oF Ze) rfl (by decide) (by rfl) rr trivial (Zj _ rfl)
                ·
                 refine Zn (fun g16 => ?_) (fun g16 => ?_)
                 ·
                  exact Zm Zl (r := (.r0 ((0 : Int)) ((0 : Int)) ((0 : Int)) (true) : ZJ)) (fu := 4000) (orc := (Zi [(0, false), (1, false), (2, false), (3, false), (4, false), (5, false), (6, false), (7, false), (8, false), (9, false), (10, false), (11, false), (12, false), (13, false), (14, false), (15, false), (16, true)] [] [] [] [])) (live := []) (u := Value.tuple #[Value.agg #[vq, vq, vq], vT]) (bl := []) (ob := [nT a0 16, nF a0 15, nF a0 14, nF a0 13, nF a0 11, nF a0 9, nF a0 8, nF a0 7, nF a0 6, nF a0 5, nF a0 4, nF a0 3, nF a0 19, nF a0 12, nF a0 10, nF a0 2, nF a0 1]) (by kernel_rfl) (oT <| oF <| oF <| oF <| oF <| oF <| oF <| oF <| oF <| oF <| oF <| oF <| oF <| oF <| oF <| oF <| oF Ze) rfl (by decide) (by rfl) rr trivial (Zj _ rfl)
                 ·
                  refine Zn (fun g17 => ?_) (fun g17 => ?_)
                  ·
                   exact Zm Zl (r := (.r0 ((0 : Int)) ((0 : Int)) ((0 : Int)) (true) : ZJ)) (fu := 4000) (orc := (Zi [(0, false), (1, false), (2, false), (3, false), (4, false), (5, false), (6, false), (7, false), (8, false), (9, false), (10, false), (11, false), (12, false), (13, false), (14, false), (15, false), (16, false), (17, true)] [] [] [] [])) (live := []) (u := Value.tuple #[Value.agg #[vq, vq, vq], vT]) (bl := []) (ob := [nT a0 17, nF a0 16, nF a0 15, nF a0 14, nF a0 13, nF a0 11, nF a0 9, nF a0 8, nF a0 7, nF a0 6, nF a0 5, nF a0 4, nF a0 3, nF a0 19, nF a0 12, nF a0 10, nF a0 2, nF a0 1]) (by kernel_rfl) (oT <| oF <| oF <| oF <| oF <| oF <| oF <| oF <| oF <| oF <| oF <| oF <| oF <| oF <| oF <| oF <| oF <| oF Ze) rfl (by decide) (by rfl) rr trivial (Zj _ rfl)
                  ·
                   refine Zn (fun g18 => ?_) (fun g18 => ?_)
                   ·
                    exact Zm Zl (r := (.r0 ((0 : Int)) ((0 : Int)) ((0 : Int)) (true) : ZJ)) (fu := 4000) (orc := (Zi [(0, false), (1, false), (2, false), (3, false), (4, false), (5, false), (6, false), (7, false), (8, false), (9, false), (10, false), (11, false), (12, false), (13, false), (14, false), (15, false), (16, false), (17, false), (18, true)] [] [] [] [])) (live := []) (u := Value.tuple #[Value.agg #[vq, vq, vq], vT]) (bl := []) (ob := [nT a0 18, nF a0 17, nF a0 16, nF a0 15, nF a0 14, nF a0 13, nF a0 11, nF a0 9, nF a0 8, nF a0 7, nF a0 6, nF a0 5, nF a0 4, nF a0 3, nF a0 19, nF a0 12, nF a0 10, nF a0 2, nF a0 1]) (by kernel_rfl) (oT <| oF <| oF <| oF <| oF <| oF <| oF <| oF <| oF <| oF <| oF <| oF <| oF <| oF <| oF <| oF <| oF <| oF <| oF Ze) rfl (by decide) (by rfl) rr trivial (Zj _ rfl)
                   ·
                    refine Zn (fun g19 => ?_) (fun g19 => ?_)
                    ·
                     exact Zm Zl (r := (.r0 ((0 : Int)) ((0 : Int)) ((0 : Int)) (true) : ZJ)) (fu := 4000) (orc := (Zi [(0, false), (1, false), (2, false), (3, false), (4, false), (5, false), (6, false), (7, false), (8, false), (9, false), (10, false), (11, false), (12, false), (13, false), (14, false), (15, false), (16, false), (17, false), (18, false), (19, true)] [] [] [] [])) (live := []) (u := Value.tuple #[Value.agg #[vq, vq, vq], vT]) (bl := []) (ob := [nT a0 20, nF a0 18, nF a0 17, nF a0 16, nF a0 15, nF a0 14, nF a0 13, nF a0 11, nF a0 9, nF a0 8, nF a0 7, nF a0 6, nF a0 5, nF a0 4, nF a0 3, nF a0 19, nF a0 12, nF a0 10, nF a0 2, nF a0 1]) (by kernel_rfl) (oT <| oF <| oF <| oF <| oF <| oF <| oF <| oF <| oF <| oF <| oF <| oF <| oF <| oF <| oF <| oF <| oF <| oF <| oF <| oF Ze) rfl (by decide) (by rfl) rr trivial (Zj _ rfl)
                    ·
                     exact Zm Zl (r := (.r0 ((0 : Int)) ((0 : Int)) ((0 : Int)) (false) : ZJ)) (fu := 4000) (orc := (Zi [(0, false), (1, false), (2, false), (3, false), (4, false), (5, false), (6, false), (7, false), (8, false), (9, false), (10, false), (11, false), (12, false), (13, false), (14, false), (15, false), (16, false), (17, false), (18, false), (19, false)] [] [] [] [])) (live := []) (u := Value.tuple #[Value.agg #[vq, vq, vq], vf]) (bl := []) (ob := [nF a0 20, nF a0 18, nF a0 17, nF a0 16, nF a0 15, nF a0 14, nF a0 13, nF a0 11, nF a0 9, nF a0 8, nF a0 7, nF a0 6, nF a0 5, nF a0 4, nF a0 3, nF a0 19, nF a0 12, nF a0 10, nF a0 2, nF a0 1]) (by kernel_rfl) (oF <| oF <| oF <| oF <| oF <| oF <| oF <| oF <| oF <| oF <| oF <| oF <| oF <| oF <| oF <| oF <| oF <| oF <| oF <| oF Ze) rfl (by decide) (by rfl) rr trivial (Zj _ rfl)

theorem Zo2 (a0 : Int) (N : Nat) (r : ZJ) (h : Zdd a0 N = some r) : LSpec Tryz.prog 54 #[vi a0] [] (ZnV a0 r) (ZmN a0 r) :=
 (Zrx a0 N) r h

noncomputable def ZeW (a0 w0 w1 w2 : Int) (w3 : Bool) (n : Nat) : Zaj := .call [] (Value.tuple #[Value.agg #[vi w0, vi w1, vi w2], Value.bool w3]) [] 0
def Zea (A : Array Value) (a0 w0 w1 w2 : Int) (w3 : Bool) (n : Nat) : Prop := Zz Tryz.prog 54 A [] (Value.tuple #[Value.agg #[vi w0, vi w1, vi w2], Value.bool w3]) [] n 0

theorem ZeX (A : Array Value) (a0 w0 w1 w2 : Int) (w3 : Bool) (N : Nat) (h : Zdd a0 N = some (.r0 w0 w1 w2 w3)) (n : Nat) (hA : A = #[vi a0]) (hnd : ([] : List Nat).Nodup) (hlt : ∀ k ∈ ([] : List Nat), k < n) : Zea A a0 w0 w1 w2 w3  n :=
 ZC hA (LSpec.callL (show LSpec Tryz.prog 54 #[vi a0] [] (Value.tuple #[Value.agg #[vi w0, vi w1, vi w2], Value.bool w3]) [] from Zo2 a0 N _ h) [] n [] rfl hnd hlt (show 0 ≤ 0 from by decide) (show ∀ j ∈ ([] : List Nat), j < 0 from by decide) (by rfl) trivial (by rfl) trivial trivial rfl rfl rfl rfl rfl)

noncomputable def ZmO (a0 a1 a2 : Int) : ZA → Value
 | .r0 w0 => Value.bool w0
noncomputable def ZlI (a0 a1 a2 : Int) : ZA → List (Option AObj)
 | .r0 w0 => []

theorem ZpG (a0 a1 a2 : Int) (N : Nat) : Gx Tryz.prog 55 [] #[vi a0, vi a1, vi a2] (ZmO a0 a1 a2) (ZlI a0 a1 a2) (Zal a0 a1 a2 N) := by
 unfold Zal
 refine Zn (fun g0 => ?_) (fun g0 => ?_)
 ·
  refine Zn (fun g1 => ?_) (fun g1 => ?_)
  ·
   refine Zn (fun g2 => ?_) (fun g2 => ?_)
   ·
    exact Zm Zl (r := (.r0 (true) : ZA)) (fu := 4000) (orc := (Zi [(0, true), (1, true), (2, true)] [] [] [] [])) (live := []) (u := vT) (bl := []) (ob := [((decide (a1 < (8 : Int))), true), ((decide (a1 ≥ (0 : Int))), true), nT a0 1]) (by kernel_rfl) (oY <| oY <| oT Ze) rfl (by decide) (by rfl) rr trivial (Zj _ rfl)
   ·
    exact Zm Zl (r := (.r0 (false) : ZA)) (fu := 4000) (orc := (Zi [(0, true), (1, true), (2, false)] [] [] [] [])) (live := []) (u := vf) (bl := []) (ob := [((decide (a1 < (8 : Int))), false), ((decide (a1 ≥ (0 : Int))), true), nT a0 1]) (by kernel_rfl) (oN <| oY <| oT Ze) rfl (by decide) (by rfl) rr trivial (Zj _ rfl)
  ·
   exact Zm Zl (r := (.r0 (false) : ZA)) (fu := 4000) (orc := (Zi [(0, true), (1, false)] [] [] [] [])) (live := []) (u := vf) (bl := []) (ob := [((decide (a1 ≥ (0 : Int))), false), nT a0 1]) (by kernel_rfl) (oN <| oT Ze) rfl (by decide) (by rfl) rr trivial (Zj _ rfl)
 ·
  refine Zn (fun g1 => ?_) (fun g1 => ?_)
  ·
   refine Zn (fun g2 => ?_) (fun g2 => ?_)
   ·
    refine Zn (fun g3 => ?_) (fun g3 => ?_)
    ·
     exact Zm Zl (r := (.r0 (true) : ZA)) (fu := 4000) (orc := (Zi [(0, false), (1, true), (2, true), (3, true)] [] [] [] [])) (live := []) (u := vT) (bl := []) (ob := [((decide (a1 ≤ (1099511627776 : Int))), true), ((decide (a1 ≥ (-1099511627776 : Int))), true), nT a0 2, nF a0 1]) (by kernel_rfl) (oY <| oY <| oT <| oF Ze) rfl (by decide) (by rfl) rr trivial (Zj _ rfl)
    ·
     exact Zm Zl (r := (.r0 (false) : ZA)) (fu := 4000) (orc := (Zi [(0, false), (1, true), (2, true), (3, false)] [] [] [] [])) (live := []) (u := vf) (bl := []) (ob := [((decide (a1 ≤ (1099511627776 : Int))), false), ((decide (a1 ≥ (-1099511627776 : Int))), true), nT a0 2, nF a0 1]) (by kernel_rfl) (oN <| oY <| oT <| oF Ze) rfl (by decide) (by rfl) rr trivial (Zj _ rfl)
   ·
    exact Zm Zl (r := (.r0 (false) : ZA)) (fu := 4000) (orc := (Zi [(0, false), (1, true), (2, false)] [] [] [] [])) (live := []) (u := vf) (bl := []) (ob := [((decide (a1 ≥ (-1099511627776 : Int))), false), nT a0 2, nF a0 1]) (by kernel_rfl) (oN <| oT <| oF Ze) rfl (by decide) (by rfl) rr trivial (Zj _ rfl)
  ·
   refine Zn (fun g2 => ?_) (fun g2 => ?_)
   ·
    refine Zn (fun g3 => ?_) (fun g3 => ?_)
    ·
     refine Zn (fun g4 => ?_) (fun g4 => ?_)
     ·
      exact Zm Zl (r := (.r0 (true) : ZA)) (fu := 4000) (orc := (Zi [(0, false), (1, false), (2, true), (3, true), (4, true)] [] [] [] [])) (live := []) (u := vT) (bl := []) (ob := [((decide (a1 ≤ (512 : Int))), true), ((decide (a1 ≥ (0 : Int))), true), nT a0 3, nF a0 2, nF a0 1]) (by kernel_rfl) (oY <| oY <| oT <| oF <| oF Ze) rfl (by decide) (by rfl) rr trivial (Zj _ rfl)
     ·
      exact Zm Zl (r := (.r0 (false) : ZA)) (fu := 4000) (orc := (Zi [(0, false), (1, false), (2, true), (3, true), (4, false)] [] [] [] [])) (live := []) (u := vf) (bl := []) (ob := [((decide (a1 ≤ (512 : Int))), false), ((decide (a1 ≥ (0 : Int))), true), nT a0 3, nF a0 2, nF a0 1]) (by kernel_rfl) (oN <| oY <| oT <| oF <| oF Ze) rfl (by decide) (by rfl) rr trivial (Zj _ rfl)
    ·
     exact Zm Zl (r := (.r0 (false) : ZA)) (fu := 4000) (orc := (Zi [(0, false), (1, false), (2, true), (3, false)] [] [] [] [])) (live := []) (u := vf) (bl := []) (ob := [((decide (a1 ≥ (0 : Int))), false), nT a0 3, nF a0 2, nF a0 1]) (by kernel_rfl) (oN <| oT <| oF <| oF Ze) rfl (by decide) (by rfl) rr trivial (Zj _ rfl)
   ·
    refine Zn (fun g3 => ?_) (fun g3 => ?_)
    ·
     refine Zn (fun g4 => ?_) (fun g4 => ?_)
     ·
      refine Zn (fun g5 => ?_) (fun g5 => ?_)
      ·
       exact Zm Zl (r := (.r0 (true) : ZA)) (fu := 4000) (orc := (Zi [(0, false), (1, false), (2, false), (3, true), (4, true), (5, true)] [] [] [] [])) (live := []) (u := vT) (bl := []) (ob := [((decide (a1 < (16 : Int))), true), ((decide (a1 ≥ (0 : Int))), true), nT a0 4, nF a0 3, nF a0 2, nF a0 1]) (by kernel_rfl) (oY <| oY <| oT <| oF <| oF <| oF Ze) rfl (by decide) (by rfl) rr trivial (Zj _ rfl)
      ·
       exact Zm Zl (r := (.r0 (false) : ZA)) (fu := 4000) (orc := (Zi [(0, false), (1, false), (2, false), (3, true), (4, true), (5, false)] [] [] [] [])) (live := []) (u := vf) (bl := []) (ob := [((decide (a1 < (16 : Int))), false), ((decide (a1 ≥ (0 : Int))), true), nT a0 4, nF a0 3, nF a0 2, nF a0 1]) (by kernel_rfl) (oN <| oY <| oT <| oF <| oF <| oF Ze) rfl (by decide) (by rfl) rr trivial (Zj _ rfl)
     ·
      exact Zm Zl (r := (.r0 (false) : ZA)) (fu := 4000) (orc := (Zi [(0, false), (1, false), (2, false), (3, true), (4, false)] [] [] [] [])) (live := []) (u := vf) (bl := []) (ob := [((decide (a1 ≥ (0 : Int))), false), nT a0 4, nF a0 3, nF a0 2, nF a0 1]) (by kernel_rfl) (oN <| oT <| oF <| oF <| oF Ze) rfl (by decide) (by rfl) rr trivial (Zj _ rfl)
    ·
     refine Zn (fun g4 => ?_) (fun g4 => ?_)
     ·
      refine Zn (fun g5 => ?_) (fun g5 => ?_)
      ·
       refine Zn (fun g6 => ?_) (fun g6 => ?_)
       ·
        exact Zm Zl (r := (.r0 (true) : ZA)) (fu := 4000) (orc := (Zi [(0, false), (1, false), (2, false), (3, false), (4, true), (5, true), (6, true)] [] [] [] [])) (live := []) (u := vT) (bl := []) (ob := [((decide (a1 ≤ (16 : Int))), true), ((decide (a1 ≥ (1 : Int))), true), nT a0 5, nF a0 4, nF a0 3, nF a0 2, nF a0 1]) (by kernel_rfl) (oY <| oY <| oT <| oF <| oF <| oF <| oF Ze) rfl (by decide) (by rfl) rr trivial (Zj _ rfl)
       ·
        exact Zm Zl (r := (.r0 (false) : ZA)) (fu := 4000) (orc := (Zi [(0, false), (1, false), (2, false), (3, false), (4, true), (5, true), (6, false)] [] [] [] [])) (live := []) (u := vf) (bl := []) (ob := [((decide (a1 ≤ (16 : Int))), false), ((decide (a1 ≥ (1 : Int))), true), nT a0 5, nF a0 4, nF a0 3, nF a0 2, nF a0 1]) (by kernel_rfl) (oN <| oY <| oT <| oF <| oF <| oF <| oF Ze) rfl (by decide) (by rfl) rr trivial (Zj _ rfl)
      ·
       exact Zm Zl (r := (.r0 (false) : ZA)) (fu := 4000) (orc := (Zi [(0, false), (1, false), (2, false), (3, false), (4, true), (5, false)] [] [] [] [])) (live := []) (u := vf) (bl := []) (ob := [((decide (a1 ≥ (1 : Int))), false), nT a0 5, nF a0 4, nF a0 3, nF a0 2, nF a0 1]) (by kernel_rfl) (oN <| oT <| oF <| oF <| oF <| oF Ze) rfl (by decide) (by rfl) rr trivial (Zj _ rfl)
     ·
      refine Zn (fun g5 => ?_) (fun g5 => ?_)
      ·
       refine Zn (fun g6 => ?_) (fun g6 => ?_)
       ·
        refine Zn (fun g7 => ?_) (fun g7 => ?_)
        ·
         refine Zn (fun g8 => ?_) (fun g8 => ?_)
         ·
          refine Zn (fun g9 => ?_) (fun g9 => ?_)
          ·
           exact Zm Zl (r := (.r0 (true) : ZA)) (fu := 4000) (orc := (Zi [(0, false), (1, false), (2, false), (3, false), (4, false), (5, true), (6, true), (7, true), (8, true), (9, true)] [(0, a2)] [] [] [(0, .sh (a2).toNat)])) (live := []) (u := vT) (bl := []) (ob := [((decide (a1 < (IntKind.i64.wrap ((1 : Int) * (2 ^ (a2).toNat : Int))))), true), (dP (a2 = Int.ofNat (a2).toNat ∧ (a2).toNat ≤ IntKind.i64.bits), true), ((IntKind.u64.wrap a2) == a2, true), ((decide (a1 ≥ (0 : Int))), true), ((decide (a2 ≤ (16 : Int))), true), ((decide (a2 ≥ (1 : Int))), true), nT a0 6, nF a0 5, nF a0 4, nF a0 3, nF a0 2, nF a0 1]) (by kernel_rfl) (oY <| Za (Zg ⟨by first | rfl | exact Zjh (by omega), show _ ≤ 64 from by omega⟩) <| Za (beq_iff_eq.2 (ZqM ltA)) <| oY <| oY <| oY <| oT <| oF <| oF <| oF <| oF <| oF Ze) rfl (by decide) (by rfl) rr trivial (Zj _ rfl)
          ·
           exact Zm Zl (r := (.r0 (false) : ZA)) (fu := 4000) (orc := (Zi [(0, false), (1, false), (2, false), (3, false), (4, false), (5, true), (6, true), (7, true), (8, true), (9, false)] [(0, a2)] [] [] [(0, .sh (a2).toNat)])) (live := []) (u := vf) (bl := []) (ob := [((decide (a1 < (IntKind.i64.wrap ((1 : Int) * (2 ^ (a2).toNat : Int))))), false), (dP (a2 = Int.ofNat (a2).toNat ∧ (a2).toNat ≤ IntKind.i64.bits), true), ((IntKind.u64.wrap a2) == a2, true), ((decide (a1 ≥ (0 : Int))), true), ((decide (a2 ≤ (16 : Int))), true), ((decide (a2 ≥ (1 : Int))), true), nT a0 6, nF a0 5, nF a0 4, nF a0 3, nF a0 2, nF a0 1]) (by kernel_rfl) (oN <| Za (Zg ⟨by first | rfl | exact Zjh (by omega), show _ ≤ 64 from by omega⟩) <| Za (beq_iff_eq.2 (ZqM ltA)) <| oY <| oY <| oY <| oT <| oF <| oF <| oF <| oF <| oF Ze) rfl (by decide) (by rfl) rr trivial (Zj _ rfl)
         ·
          exact Zm Zl (r := (.r0 (false) : ZA)) (fu := 4000) (orc := (Zi [(0, false), (1, false), (2, false), (3, false), (4, false), (5, true), (6, true), (7, true), (8, false)] [] [] [] [])) (live := []) (u := vf) (bl := []) (ob := [((decide (a1 ≥ (0 : Int))), false), ((decide (a2 ≤ (16 : Int))), true), ((decide (a2 ≥ (1 : Int))), true), nT a0 6, nF a0 5, nF a0 4, nF a0 3, nF a0 2, nF a0 1]) (by kernel_rfl) (oN <| oY <| oY <| oT <| oF <| oF <| oF <| oF <| oF Ze) rfl (by decide) (by rfl) rr trivial (Zj _ rfl)
        ·
         exact Zm Zl (r := (.r0 (false) : ZA)) (fu := 4000) (orc := (Zi [(0, false), (1, false), (2, false), (3, false), (4, false), (5, true), (6, true), (7, false)] [] [] [] [])) (live := []) (u := vf) (bl := []) (ob := [((decide (a2 ≤ (16 : Int))), false), ((decide (a2 ≥ (1 : Int))), true), nT a0 6, nF a0 5, nF a0 4, nF a0 3, nF a0 2, nF a0 1]) (by kernel_rfl) (oN <| oY <| oT <| oF <| oF <| oF <| oF <| oF Ze) rfl (by decide) (by rfl) rr trivial (Zj _ rfl)
       ·
        exact Zm Zl (r := (.r0 (false) : ZA)) (fu := 4000) (orc := (Zi [(0, false), (1, false), (2, false), (3, false), (4, false), (5, true), (6, false)] [] [] [] [])) (live := []) (u := vf) (bl := []) (ob := [((decide (a2 ≥ (1 : Int))), false), nT a0 6, nF a0 5, nF a0 4, nF a0 3, nF a0 2, nF a0 1]) (by kernel_rfl) (oN <| oT <| oF <| oF <| oF <| oF <| oF Ze) rfl (by decide) (by rfl) rr trivial (Zj _ rfl)
      ·
       refine Zn (fun g6 => ?_) (fun g6 => ?_)
       ·
        exact Zm Zl (r := (.r0 (true) : ZA)) (fu := 4000) (orc := (Zi [(0, false), (1, false), (2, false), (3, false), (4, false), (5, false), (6, true)] [] [] [] [])) (live := []) (u := vT) (bl := []) (ob := [nT a1 0, nF a0 6, nF a0 5, nF a0 4, nF a0 3, nF a0 2, nF a0 1]) (by kernel_rfl) (oT <| oF <| oF <| oF <| oF <| oF <| oF Ze) rfl (by decide) (by rfl) rr trivial (Zj _ rfl)
       ·
        exact Zm Zl (r := (.r0 (false) : ZA)) (fu := 4000) (orc := (Zi [(0, false), (1, false), (2, false), (3, false), (4, false), (5, false), (6, false)] [] [] [] [])) (live := []) (u := vf) (bl := []) (ob := [nF a1 0, nF a0 6, nF a0 5, nF a0 4, nF a0 3, nF a0 2, nF a0 1]) (by kernel_rfl) (oF <| oF <| oF <| oF <| oF <| oF <| oF Ze) rfl (by decide) (by rfl) rr trivial (Zj _ rfl)

theorem ZnW (a0 a1 a2 : Int) (N : Nat) (r : ZA) (h : Zal a0 a1 a2 N = some r) : LSpec Tryz.prog 55 #[vi a0, vi a1, vi a2] [] (ZmO a0 a1 a2 r) (ZlI a0 a1 a2 r) :=
 (ZpG a0 a1 a2 N) r h

noncomputable def Zch (a0 a1 a2 : Int) (w0 : Bool) (n : Nat) : Zaj := .call [] (Value.bool w0) [] 0
def ZbM (A : Array Value) (a0 a1 a2 : Int) (w0 : Bool) (n : Nat) : Prop := Zz Tryz.prog 55 A [] (Value.bool w0) [] n 0

theorem Zci (A : Array Value) (a0 a1 a2 : Int) (w0 : Bool) (N : Nat) (h : Zal a0 a1 a2 N = some (.r0 w0)) (n : Nat) (hA : A = #[vi a0, vi a1, vi a2]) (hnd : ([] : List Nat).Nodup) (hlt : ∀ k ∈ ([] : List Nat), k < n) : ZbM A a0 a1 a2 w0  n :=
 ZC hA (LSpec.callL (show LSpec Tryz.prog 55 #[vi a0, vi a1, vi a2] [] (Value.bool w0) [] from ZnW a0 a1 a2 N _ h) [] n [] rfl hnd hlt (show 0 ≤ 0 from by decide) (show ∀ j ∈ ([] : List Nat), j < 0 from by decide) (by rfl) trivial (by rfl) trivial trivial rfl rfl rfl rfl rfl)

noncomputable def Zpd (a0 a1 a2 a3 : Int) : ZbL → Value
 | .r0 w0 => Value.bool w0
noncomputable def ZnX (a0 a1 a2 a3 : Int) : ZbL → List (Option AObj)
 | .r0 w0 => []

theorem Zsi (a0 a1 a2 a3 : Int) (N : Nat) : Gx Tryz.prog 40 [] #[Value.agg #[vi a0, vi a1, vi a2, vi a3]] (Zpd a0 a1 a2 a3) (ZnX a0 a1 a2 a3) (Zag a0 a1 a2 a3 N) := by
 unfold Zag
 refine ZaO (fun z0 c0 => ?_)
 cases z0 with
 | r0 y0_0 y0_1 y0_2 y0_3 =>
  refine Zn (fun g1 => ?_) (fun g1 => ?_)
  ·
   subst g1
   refine ZaO (fun z2 c2 => ?_)
   cases z2 with
   | r0 y2_0 =>
    refine Zn (fun g3 => ?_) (fun g3 => ?_)
    ·
     subst g3
     refine ZaO (fun z4 c4 => ?_)
     cases z4 with
     | r0 y4_0 =>
      refine Zn (fun g5 => ?_) (fun g5 => ?_)
      ·
       subst g5
       refine ZaO (fun z6 c6 => ?_)
       cases z6 with
       | r0 y6_0 =>
        refine Zn (fun g7 => ?_) (fun g7 => ?_)
        ·
         subst g7
         exact Zm Zl (r := (.r0 (true) : ZbL)) (fu := 4000) (orc := (Zi [] [] [] [] [(0, (ZeW (a0)  y0_0 y0_1 y0_2 true  1)), (2, (Zch (y0_0) (a1) ((0 : Int))  true  2)), (3, (Zch (y0_1) (a2) ((0 : Int))  true  2)), (4, (Zch (y0_2) (a3) (a2)  true  2))])) (live := []) (u := vT) (bl := []) (ob := [(dP (ZbM #[vi y0_2, vi a3, vi a2] (y0_2) (a3) (a2)  true  2), true), (dP (ZbM #[vi y0_1, vi a2, vq] (y0_1) (a2) ((0 : Int))  true  2), true), (dP (ZbM #[vi y0_0, vi a1, vq] (y0_0) (a1) ((0 : Int))  true  2), true), (dP (Zea #[vi a0] (a0)  y0_0 y0_1 y0_2 true  1), true)]) (by kernel_rfl) (Za (Zg (Zci #[vi y0_2, vi a3, vi a2] (y0_2) (a3) (a2)  true N c6  2 rfl (by decide) (by decide))) <| Za (Zg (Zci #[vi y0_1, vi a2, vq] (y0_1) (a2) ((0 : Int))  true N c4  2 rfl (by decide) (by decide))) <| Za (Zg (Zci #[vi y0_0, vi a1, vq] (y0_0) (a1) ((0 : Int))  true N c2  2 rfl (by decide) (by decide))) <| Za (Zg (ZeX #[vi a0] (a0)  y0_0 y0_1 y0_2 true N c0  1 rfl (by decide) (by decide))) Ze) rfl (by decide) (by rfl) rr trivial (Zj _ rfl)
        ·
         obtain rfl : y6_0 = false := by simpa using g7
         exact Zm Zl (r := (.r0 (false) : ZbL)) (fu := 4000) (orc := (Zi [] [] [] [] [(0, (ZeW (a0)  y0_0 y0_1 y0_2 true  1)), (2, (Zch (y0_0) (a1) ((0 : Int))  true  2)), (3, (Zch (y0_1) (a2) ((0 : Int))  true  2)), (4, (Zch (y0_2) (a3) (a2)  false  2))])) (live := []) (u := vf) (bl := []) (ob := [(dP (ZbM #[vi y0_2, vi a3, vi a2] (y0_2) (a3) (a2)  false  2), true), (dP (ZbM #[vi y0_1, vi a2, vq] (y0_1) (a2) ((0 : Int))  true  2), true), (dP (ZbM #[vi y0_0, vi a1, vq] (y0_0) (a1) ((0 : Int))  true  2), true), (dP (Zea #[vi a0] (a0)  y0_0 y0_1 y0_2 true  1), true)]) (by kernel_rfl) (Za (Zg (Zci #[vi y0_2, vi a3, vi a2] (y0_2) (a3) (a2)  false N c6  2 rfl (by decide) (by decide))) <| Za (Zg (Zci #[vi y0_1, vi a2, vq] (y0_1) (a2) ((0 : Int))  true N c4  2 rfl (by decide) (by decide))) <| Za (Zg (Zci #[vi y0_0, vi a1, vq] (y0_0) (a1) ((0 : Int))  true N c2  2 rfl (by decide) (by decide))) <| Za (Zg (ZeX #[vi a0] (a0)  y0_0 y0_1 y0_2 true N c0  1 rfl (by decide) (by decide))) Ze) rfl (by decide) (by rfl) rr trivial (Zj _ rfl)
      ·
       obtain rfl : y4_0 = false := by simpa using g5
       exact Zm Zl (r := (.r0 (false) : ZbL)) (fu := 4000) (orc := (Zi [] [] [] [] [(0, (ZeW (a0)  y0_0 y0_1 y0_2 true  1)), (2, (Zch (y0_0) (a1) ((0 : Int))  true  2)), (3, (Zch (y0_1) (a2) ((0 : Int))  false  2))])) (live := []) (u := vf) (bl := []) (ob := [(dP (ZbM #[vi y0_1, vi a2, vq] (y0_1) (a2) ((0 : Int))  false  2), true), (dP (ZbM #[vi y0_0, vi a1, vq] (y0_0) (a1) ((0 : Int))  true  2), true), (dP (Zea #[vi a0] (a0)  y0_0 y0_1 y0_2 true  1), true)]) (by kernel_rfl) (Za (Zg (Zci #[vi y0_1, vi a2, vq] (y0_1) (a2) ((0 : Int))  false N c4  2 rfl (by decide) (by decide))) <| Za (Zg (Zci #[vi y0_0, vi a1, vq] (y0_0) (a1) ((0 : Int))  true N c2  2 rfl (by decide) (by decide))) <| Za (Zg (ZeX #[vi a0] (a0)  y0_0 y0_1 y0_2 true N c0  1 rfl (by decide) (by decide))) Ze) rfl (by decide) (by rfl) rr trivial (Zj _ rfl)
    ·
     obtain rfl : y2_0 = false := by simpa using g3
     exact Zm Zl (r := (.r0 (false) : ZbL)) (fu := 4000) (orc := (Zi [] [] [] [] [(0, (ZeW (a0)  y0_0 y0_1 y0_2 true  1)), (2, (Zch (y0_0) (a1) ((0 : Int))  false  2))])) (live := []) (u := vf) (bl := []) (ob := [(dP (ZbM #[vi y0_0, vi a1, vq] (y0_0) (a1) ((0 : Int))  false  2), true), (dP (Zea #[vi a0] (a0)  y0_0 y0_1 y0_2 true  1), true)]) (by kernel_rfl) (Za (Zg (Zci #[vi y0_0, vi a1, vq] (y0_0) (a1) ((0 : Int))  false N c2  2 rfl (by decide) (by decide))) <| Za (Zg (ZeX #[vi a0] (a0)  y0_0 y0_1 y0_2 true N c0  1 rfl (by decide) (by decide))) Ze) rfl (by decide) (by rfl) rr trivial (Zj _ rfl)
  ·
   obtain rfl : y0_3 = false := by simpa using g1
   exact Zm Zl (r := (.r0 (false) : ZbL)) (fu := 4000) (orc := (Zi [] [] [] [] [(0, (ZeW (a0)  y0_0 y0_1 y0_2 false  1))])) (live := []) (u := vf) (bl := []) (ob := [(dP (Zea #[vi a0] (a0)  y0_0 y0_1 y0_2 false  1), true)]) (by kernel_rfl) (Za (Zg (ZeX #[vi a0] (a0)  y0_0 y0_1 y0_2 false N c0  1 rfl (by decide) (by decide))) Ze) rfl (by decide) (by rfl) rr trivial (Zj _ rfl)

theorem ZpH (a0 a1 a2 a3 : Int) (N : Nat) (r : ZbL) (h : Zag a0 a1 a2 a3 N = some r) : LSpec Tryz.prog 40 #[Value.agg #[vi a0, vi a1, vi a2, vi a3]] [] (Zpd a0 a1 a2 a3 r) (ZnX a0 a1 a2 a3 r) :=
 (Zsi a0 a1 a2 a3 N) r h

noncomputable def ZbO (a0 a1 a2 a3 : Int) (w0 : Bool) (n : Nat) : Zaj := .call [] (Value.bool w0) [] 0
def ZbE (A : Array Value) (a0 a1 a2 a3 : Int) (w0 : Bool) (n : Nat) : Prop := Zz Tryz.prog 40 A [] (Value.bool w0) [] n 0

theorem ZbP (A : Array Value) (a0 a1 a2 a3 : Int) (w0 : Bool) (N : Nat) (h : Zag a0 a1 a2 a3 N = some (.r0 w0)) (n : Nat) (hA : A = #[Value.agg #[vi a0, vi a1, vi a2, vi a3]]) (hnd : ([] : List Nat).Nodup) (hlt : ∀ k ∈ ([] : List Nat), k < n) : ZbE A a0 a1 a2 a3 w0  n :=
 ZC hA (LSpec.callL (show LSpec Tryz.prog 40 #[Value.agg #[vi a0, vi a1, vi a2, vi a3]] [] (Value.bool w0) [] from ZpH a0 a1 a2 a3 N _ h) [] n [] rfl hnd hlt (show 0 ≤ 0 from by decide) (show ∀ j ∈ ([] : List Nat), j < 0 from by decide) (by rfl) trivial (by rfl) trivial trivial rfl rfl rfl rfl rfl)

noncomputable def Zkp (L0 : List R_ii) (a1 a2 a3 a4 a5 : Int) : ZM → Value
 | .r0 w1 => Value.tuple #[vs 0 0 L0.length L0.length, Value.bool w1]
 | .r1 w1 => Value.tuple #[vs 1 0 w1.length w1.length, vT]
 | .r2 => Value.tuple #[vs 1 0 (L0.take (L0.length - 1)).length (L0.take (L0.length - 1)).length, vT]
noncomputable def Zjo (L0 : List R_ii) (a1 a2 a3 a4 a5 : Int) : ZM → List (Option AObj)
 | .r0 w1 => [some (.cells (Zb Zd L0) 82)]
 | .r1 w1 => [some (.cells (Zb Zd L0) 82), some (.cells (Zb Zd w1) 82)]
 | .r2 => [none, some (.cells (Zb Zd (L0.take (L0.length - 1))) 82)]

theorem ZnY (L0 : List R_ii) (a1 a2 a3 a4 a5 : Int) (N : Nat) : Gx Tryz.prog 39 [.cells (Zb Zd L0) 82] #[vs 0 0 L0.length L0.length, Value.agg #[vi a1, vi a2, vi a3, vi a4], vi a5] (Zkp L0 a1 a2 a3 a4 a5) (Zjo L0 a1 a2 a3 a4 a5) (Zbo L0 a1 a2 a3 a4 a5 N) := by
 unfold Zbo
 refine Zn (fun g0 => ?_) (fun g0 => ?_)
 ·
  refine Zn (fun g1 => ?_) (fun g1 => ?_)
  ·
   exact Zm Zl (r := (.r0 (false) : ZM)) (fu := 4000) (orc := (Zi [(0, true), (1, true)] [] [] [] [])) (live := [0]) (u := Value.tuple #[vs 0 0 L0.length L0.length, vf]) (bl := [some (.cells (Zb Zd L0) 82)]) (ob := [((decide ((L0.length : Int) ≥ (8 : Int))), true), nT a1 15]) (by kernel_rfl) (oY <| oT Ze) rfl (by decide) (by rfl) rr ⟨(Zf (E := Zd) (α := R_ii) _ L0 _), trivial⟩ (Zj _ rfl)
  ·
   refine Zn (fun g2 => ?_) (fun g2 => ?_)
   ·
    exact Zm Zl (r := (.r1 (([(⟨a5, (0 : Int)⟩ : R_ii)] : List R_ii)) : ZM)) (fu := 4000) (orc := (Zi [(0, true), (1, false)] [] [] [] [(0, .ap0)])) (live := [0, 4]) (u := Value.tuple #[vs 4 0 1 1, vT]) (bl := [some (.cells (Zb Zd L0) 82), some (.cells [vi a5, vq] 82)]) (ob := [(dP (0 = L0.length ∧ Z7 (L0.length * 2) (List.drop 0 (Zb Zd L0)) = some [] ∧ ZF Zaw [] = true), true), ((decide ((L0.length : Int) ≥ (8 : Int))), false), nT a1 15]) (by kernel_rfl) (Za (Zg ⟨by omega, by rw [show L0.length = 0 by omega]; rfl, rfl⟩) <| oN <| oT Ze) rfl (by decide) (by rfl) ⟨Eq.trans (show (Value.tuple #[vs 1 0 ([(⟨a5, (0 : Int)⟩ : R_ii)] : List R_ii).length ([(⟨a5, (0 : Int)⟩ : R_ii)] : List R_ii).length, vT] : Value) = Value.tuple #[vs 1 0 1 1, vT] from (ZhO (Zc (Zaf rfl eqA eqA) (Zc rfl rfl)))) (by rfl), by rfl⟩ ⟨(Zf (E := Zd) (α := R_ii) _ L0 _), ⟨(ZbA (E := Zd) _ (L := ([(⟨a5, (0 : Int)⟩ : R_ii)] : List R_ii)) _ (show ([vi a5, vq] : List Value) = Zb Zd ([(⟨a5, (0 : Int)⟩ : R_ii)] : List R_ii) from rfl)), trivial⟩⟩ (Zj _ rfl)
   ·
    exact Zm Zl (r := (.r1 ((L0 ++ ([(⟨a5, (0 : Int)⟩ : R_ii)] : List R_ii))) : ZM)) (fu := 4000) (orc := (Zi [(0, true), (1, false)] [] [] [] [(0, .ap L0.length (Zb Zd L0) (Zb Zd L0)), (1, .ap 1 [vi a5, vq] (Zb Zd (L0 ++ ([(⟨a5, (0 : Int)⟩ : R_ii)] : List R_ii))))])) (live := [0, 5]) (u := Value.tuple #[vs 5 0 ((0 + L0.length) + 1) ((0 + L0.length) + 1), vT]) (bl := [some (.cells (Zb Zd L0) 82), some (.cells (Zb Zd (L0 ++ ([(⟨a5, (0 : Int)⟩ : R_ii)] : List R_ii))) 82)]) (ob := [(dP ((1 = 1 ∧ Z7 (1 * 2) (List.drop 0 [vi a5, vq]) = some [vi a5, vq] ∧ ZF Zaw [vi a5, vq] = true) ∧ 0 < 1 ∧ 1 ≤ 100000 ∧ (0 + L0.length) < (0 + L0.length) + 1 ∧ (0 + L0.length) ≤ 100000 ∧ (0 + L0.length) * 2 ≤ (List.length (Zb Zd L0)) ∧ List.take ((0 + L0.length) * 2) (Zb Zd L0) ++ [vi a5, vq] = (Zb Zd (L0 ++ ([(⟨a5, (0 : Int)⟩ : R_ii)] : List R_ii)))), true), (dP ((L0.length = L0.length ∧ Z7 (L0.length * 2) (List.drop 0 (Zb Zd L0)) = some (Zb Zd L0) ∧ ZF Zaw (Zb Zd L0) = true) ∧ 0 < L0.length ∧ L0.length ≤ 100000 ∧ 0 < 0 + L0.length ∧ 0 ≤ 100000 ∧ 0 * 2 ≤ (List.length []) ∧ List.take (0 * 2) [] ++ (Zb Zd L0) = (Zb Zd L0)), true), ((decide ((L0.length : Int) ≥ (8 : Int))), false), nT a1 15]) (by kernel_rfl) (Za (Zg ⟨⟨rfl, ⟨rfl, rfl⟩⟩, by omega, by omega, ltA, by omega, (ZaB (E := Zd) (L := L0) (M := ([(⟨a5, (0 : Int)⟩ : R_ii)] : List R_ii)) (n := (0 + L0.length)) (show _ = _ * 2 from rfl) (by omega) (R := (L0 ++ ([(⟨a5, (0 : Int)⟩ : R_ii)] : List R_ii))) (by rw [List.take_of_length_le (by omega)]))⟩) <| Za (Zg ⟨⟨rfl, (Zs9 (E := Zd) (L := L0) (a := 0) (n := L0.length) (by omega) (by show _ = _ * 2; omega) (show _ = _ * 2 from rfl) (by rw [List.drop_zero, List.take_of_length_le (by omega)]))⟩, by omega, by omega, ltA, by omega, (ZaB (E := Zd) (L := ([] : List R_ii)) (M := L0) (n := 0) (show _ = _ * 2 from rfl) ltA (R := L0) (by rw [List.take_of_length_le ltA]; rfl))⟩) <| oN <| oT Ze) rfl (by decide) (by rfl) ⟨Eq.trans (show (Value.tuple #[vs 1 0 (L0 ++ ([(⟨a5, (0 : Int)⟩ : R_ii)] : List R_ii)).length (L0 ++ ([(⟨a5, (0 : Int)⟩ : R_ii)] : List R_ii)).length, vT] : Value) = Value.tuple #[vs 1 0 ((0 + L0.length) + 1) ((0 + L0.length) + 1), vT] from (ZhO (Zc (Zaf rfl eqA eqA) (Zc rfl rfl)))) (by rfl), by rfl⟩ ⟨(Zf (E := Zd) (α := R_ii) _ L0 _), ⟨(Zf (E := Zd) (α := R_ii) _ (L0 ++ ([(⟨a5, (0 : Int)⟩ : R_ii)] : List R_ii)) _), trivial⟩⟩ (Zj _ rfl)
 ·
  refine Zn (fun g1 => ?_) (fun g1 => ?_)
  ·
   refine Zn (fun g2 => ?_) (fun g2 => ?_)
   ·
    exact Zm Zl (r := (.r0 (false) : ZM)) (fu := 4000) (orc := (Zi [(0, false), (1, true), (2, true)] [] [] [] [])) (live := [0]) (u := Value.tuple #[vs 0 0 L0.length L0.length, vf]) (bl := [some (.cells (Zb Zd L0) 82)]) (ob := [(((L0.length : Int) == (0 : Int)), true), nT a1 16, nF a1 15]) (by kernel_rfl) (oT <| oT <| oF Ze) rfl (by decide) (by rfl) rr ⟨(Zf (E := Zd) (α := R_ii) _ L0 _), trivial⟩ (Zj _ rfl)
   ·
    refine Zn (fun g3 => ?_) (fun g3 => ?_)
    ·
     refine Zn (fun g4 => ?_) (fun g4 => ?_)
     ·
      exact Zm Zl (r := (.r0 (false) : ZM)) (fu := 4000) (orc := (Zi [(0, false), (1, true), (2, false), (3, true)] [(0, (((L0.length - 1) : Nat) : Int))] [(0, (L0.length - 1))] [(1, [.i (L0.getD (L0.length - 1) R_ii.z).a1])] [])) (live := [0]) (u := Value.tuple #[vs 0 0 L0.length L0.length, vf]) (bl := [some (.cells (Zb Zd L0) 82)]) (ob := [(((L0.getD (L0.length - 1) R_ii.z).a1 == (1 : Int)), true), (Zas (Z7 1 (List.drop ((0 + ((L0.length - 1) * 2)) + 1) (Zb Zd L0))) [.i (L0.getD (L0.length - 1) R_ii.z).a1], true), (Nat.blt (L0.length - 1) L0.length, true), ((((L0.length - 1) : Nat) : Int) == Int.ofNat (L0.length - 1), true), ((IntKind.i64.wrap ((L0.length : Int) - (1 : Int))) == (((L0.length - 1) : Nat) : Int), true), (((L0.length : Int) == (0 : Int)), false), nT a1 16, nF a1 15]) (by kernel_rfl) (oT <| Za (ZS (E := Zd) (L := L0) (i := (L0.length - 1)) (q := 1) (by omega) (show ((0 + ((L0.length - 1) * 2)) + 1) = (L0.length - 1) * 2 + 1 from by omega) (show 1 + 1 ≤ 2 from by decide) rfl rfl) <| oB <| oI <| Za (beq_iff_eq.2 ((wrap_i64 ltA).trans (by first | rfl | omega))) <| oF <| oT <| oF Ze) rfl (by decide) (by rfl) rr ⟨(Zf (E := Zd) (α := R_ii) _ L0 _), trivial⟩ (Zj _ rfl)
     ·
      refine Zn (fun g5 => ?_) (fun g5 => ?_)
      ·
       exact Zm Zl (r := (.r1 (([(⟨(L0.getD (L0.length - 1) R_ii.z).a0, (1 : Int)⟩ : R_ii)] : List R_ii)) : ZM)) (fu := 4000) (orc := (Zi [(0, false), (1, true), (2, false), (3, false)] [(0, (((L0.length - 1) : Nat) : Int)), (1, (((L0.length - 1) : Nat) : Int)), (2, (((L0.length - 1) : Nat) : Int))] [(0, (L0.length - 1)), (1, (L0.length - 1))] [(1, [.i (L0.getD (L0.length - 1) R_ii.z).a1]), (2, [.i (L0.getD (L0.length - 1) R_ii.z).a0])] [(0, .sl 0 (L0.length - 1)), (1, .ap0)])) (live := [0, 4]) (u := Value.tuple #[vs 4 0 1 1, vT]) (bl := [some (.cells (Zb Zd L0) 82), some (.cells [vi (L0.getD (L0.length - 1) R_ii.z).a0, vi (1 : Int)] 82)]) (ob := [(Zas (Z7 1 (List.drop ((0 + ((L0.length - 1) * 2)) + 0) (Zb Zd L0))) [.i (L0.getD (L0.length - 1) R_ii.z).a0], true), (Nat.blt (L0.length - 1) L0.length, true), ((((L0.length - 1) : Nat) : Int) == Int.ofNat (L0.length - 1), true), ((IntKind.i64.wrap ((L0.length : Int) - (1 : Int))) == (((L0.length - 1) : Nat) : Int), true), (dP (0 = ((L0.length - 1) - 0) ∧ Z7 (((L0.length - 1) - 0) * 2) (List.drop (0 + (0 * 2)) (Zb Zd L0)) = some [] ∧ ZF Zaw [] = true), true), (dP (0 ≤ (L0.length - 1) ∧ (L0.length - 1) ≤ L0.length), true), ((((L0.length - 1) : Nat) : Int) == Int.ofNat (L0.length - 1), true), (dS 0, true), ((IntKind.i64.wrap ((L0.length : Int) - (1 : Int))) == (((L0.length - 1) : Nat) : Int), true), (((L0.getD (L0.length - 1) R_ii.z).a1 == (1 : Int)), false), (Zas (Z7 1 (List.drop ((0 + ((L0.length - 1) * 2)) + 1) (Zb Zd L0))) [.i (L0.getD (L0.length - 1) R_ii.z).a1], true), (Nat.blt (L0.length - 1) L0.length, true), ((((L0.length - 1) : Nat) : Int) == Int.ofNat (L0.length - 1), true), ((IntKind.i64.wrap ((L0.length : Int) - (1 : Int))) == (((L0.length - 1) : Nat) : Int), true), (((L0.length : Int) == (0 : Int)), false), nT a1 16, nF a1 15]) (by kernel_rfl) (Za (ZS (E := Zd) (L := L0) (i := (L0.length - 1)) (q := 0) (by omega) (show ((0 + ((L0.length - 1) * 2)) + 0) = (L0.length - 1) * 2 + 0 from by omega) (show 0 + 1 ≤ 2 from by decide) rfl rfl) <| oB <| oI <| Za (beq_iff_eq.2 ((wrap_i64 ltA).trans (by first | rfl | omega))) <| Za (Zg ⟨by omega, by rw [show ((L0.length - 1) - 0) = 0 by omega]; rfl, rfl⟩) <| Za (Zg ⟨ltA, ltA⟩) <| oI <| oR <| Za (beq_iff_eq.2 ((wrap_i64 ltA).trans (by first | rfl | omega))) <| oF <| Za (ZS (E := Zd) (L := L0) (i := (L0.length - 1)) (q := 1) (by omega) (show ((0 + ((L0.length - 1) * 2)) + 1) = (L0.length - 1) * 2 + 1 from by omega) (show 1 + 1 ≤ 2 from by decide) rfl rfl) <| oB <| oI <| Za (beq_iff_eq.2 ((wrap_i64 ltA).trans (by first | rfl | omega))) <| oF <| oT <| oF Ze) rfl (by decide) (by rfl) ⟨Eq.trans (show (Value.tuple #[vs 1 0 ([(⟨(L0.getD (L0.length - 1) R_ii.z).a0, (1 : Int)⟩ : R_ii)] : List R_ii).length ([(⟨(L0.getD (L0.length - 1) R_ii.z).a0, (1 : Int)⟩ : R_ii)] : List R_ii).length, vT] : Value) = Value.tuple #[vs 1 0 1 1, vT] from (ZhO (Zc (Zaf rfl eqA eqA) (Zc rfl rfl)))) (by rfl), by rfl⟩ ⟨(Zf (E := Zd) (α := R_ii) _ L0 _), ⟨(ZbA (E := Zd) _ (L := ([(⟨(L0.getD (L0.length - 1) R_ii.z).a0, (1 : Int)⟩ : R_ii)] : List R_ii)) _ (show ([vi (L0.getD (L0.length - 1) R_ii.z).a0, vi (1 : Int)] : List Value) = Zb Zd ([(⟨(L0.getD (L0.length - 1) R_ii.z).a0, (1 : Int)⟩ : R_ii)] : List R_ii) from rfl)), trivial⟩⟩ (Zj _ rfl)
      ·
       refine Zn (fun g6 => ?_) (fun g6 => ?_)
       ·
        exact Zm Zl (r := (.r1 (((L0.take ((L0.length - 1) - 0)) ++ ([(⟨(L0.getD (L0.length - 1) R_ii.z).a0, (1 : Int)⟩ : R_ii)] : List R_ii))) : ZM)) (fu := 4000) (orc := (Zi [(0, false), (1, true), (2, false), (3, false)] [(0, (((L0.length - 1) : Nat) : Int)), (1, (((L0.length - 1) : Nat) : Int)), (2, (((L0.length - 1) : Nat) : Int))] [(0, (L0.length - 1)), (1, (L0.length - 1))] [(1, [.i (L0.getD (L0.length - 1) R_ii.z).a1]), (2, [.i (L0.getD (L0.length - 1) R_ii.z).a0])] [(0, .sl 0 (L0.length - 1)), (1, .ap ((L0.length - 1) - 0) (Zb Zd (L0.take ((L0.length - 1) - 0))) (Zb Zd (L0.take ((L0.length - 1) - 0)))), (2, .ap 1 [vi (L0.getD (L0.length - 1) R_ii.z).a0, vi (1 : Int)] (Zb Zd ((L0.take ((L0.length - 1) - 0)) ++ ([(⟨(L0.getD (L0.length - 1) R_ii.z).a0, (1 : Int)⟩ : R_ii)] : List R_ii))))])) (live := [0, 5]) (u := Value.tuple #[vs 5 0 ((0 + ((L0.length - 1) - 0)) + 1) ((0 + ((L0.length - 1) - 0)) + 1), vT]) (bl := [some (.cells (Zb Zd L0) 82), some (.cells (Zb Zd ((L0.take ((L0.length - 1) - 0)) ++ ([(⟨(L0.getD (L0.length - 1) R_ii.z).a0, (1 : Int)⟩ : R_ii)] : List R_ii))) 82)]) (ob := [(dP ((1 = 1 ∧ Z7 (1 * 2) (List.drop 0 [vi (L0.getD (L0.length - 1) R_ii.z).a0, vi (1 : Int)]) = some [vi (L0.getD (L0.length - 1) R_ii.z).a0, vi (1 : Int)] ∧ ZF Zaw [vi (L0.getD (L0.length - 1) R_ii.z).a0, vi (1 : Int)] = true) ∧ 0 < 1 ∧ 1 ≤ 100000 ∧ (0 + ((L0.length - 1) - 0)) < (0 + ((L0.length - 1) - 0)) + 1 ∧ (0 + ((L0.length - 1) - 0)) ≤ 100000 ∧ (0 + ((L0.length - 1) - 0)) * 2 ≤ (List.length (Zb Zd (L0.take ((L0.length - 1) - 0)))) ∧ List.take ((0 + ((L0.length - 1) - 0)) * 2) (Zb Zd (L0.take ((L0.length - 1) - 0))) ++ [vi (L0.getD (L0.length - 1) R_ii.z).a0, vi (1 : Int)] = (Zb Zd ((L0.take ((L0.length - 1) - 0)) ++ ([(⟨(L0.getD (L0.length - 1) R_ii.z).a0, (1 : Int)⟩ : R_ii)] : List R_ii)))), true), (Zas (Z7 1 (List.drop ((0 + ((L0.length - 1) * 2)) + 0) (Zb Zd L0))) [.i (L0.getD (L0.length - 1) R_ii.z).a0], true), (Nat.blt (L0.length - 1) L0.length, true), ((((L0.length - 1) : Nat) : Int) == Int.ofNat (L0.length - 1), true), ((IntKind.i64.wrap ((L0.length : Int) - (1 : Int))) == (((L0.length - 1) : Nat) : Int), true), (dP ((((L0.length - 1) - 0) = ((L0.length - 1) - 0) ∧ Z7 (((L0.length - 1) - 0) * 2) (List.drop (0 + (0 * 2)) (Zb Zd L0)) = some (Zb Zd (L0.take ((L0.length - 1) - 0))) ∧ ZF Zaw (Zb Zd (L0.take ((L0.length - 1) - 0))) = true) ∧ 0 < ((L0.length - 1) - 0) ∧ ((L0.length - 1) - 0) ≤ 100000 ∧ 0 < 0 + ((L0.length - 1) - 0) ∧ 0 ≤ 100000 ∧ 0 * 2 ≤ (List.length []) ∧ List.take (0 * 2) [] ++ (Zb Zd (L0.take ((L0.length - 1) - 0))) = (Zb Zd (L0.take ((L0.length - 1) - 0)))), true), (dP (0 ≤ (L0.length - 1) ∧ (L0.length - 1) ≤ L0.length), true), ((((L0.length - 1) : Nat) : Int) == Int.ofNat (L0.length - 1), true), (dS 0, true), ((IntKind.i64.wrap ((L0.length : Int) - (1 : Int))) == (((L0.length - 1) : Nat) : Int), true), (((L0.getD (L0.length - 1) R_ii.z).a1 == (1 : Int)), false), (Zas (Z7 1 (List.drop ((0 + ((L0.length - 1) * 2)) + 1) (Zb Zd L0))) [.i (L0.getD (L0.length - 1) R_ii.z).a1], true), (Nat.blt (L0.length - 1) L0.length, true), ((((L0.length - 1) : Nat) : Int) == Int.ofNat (L0.length - 1), true), ((IntKind.i64.wrap ((L0.length : Int) - (1 : Int))) == (((L0.length - 1) : Nat) : Int), true), (((L0.length : Int) == (0 : Int)), false), nT a1 16, nF a1 15]) (by kernel_rfl) (Za (Zg ⟨⟨rfl, ⟨rfl, rfl⟩⟩, by omega, by omega, ltA, by omega, (ZaB (E := Zd) (L := (L0.take ((L0.length - 1) - 0))) (M := ([(⟨(L0.getD (L0.length - 1) R_ii.z).a0, (1 : Int)⟩ : R_ii)] : List R_ii)) (n := (0 + ((L0.length - 1) - 0))) (show _ = _ * 2 from rfl) ltA (R := ((L0.take ((L0.length - 1) - 0)) ++ ([(⟨(L0.getD (L0.length - 1) R_ii.z).a0, (1 : Int)⟩ : R_ii)] : List R_ii))) (by rw [List.take_of_length_le ltA]))⟩) <| Za (ZS (E := Zd) (L := L0) (i := (L0.length - 1)) (q := 0) (by omega) (show ((0 + ((L0.length - 1) * 2)) + 0) = (L0.length - 1) * 2 + 0 from by omega) (show 0 + 1 ≤ 2 from by decide) rfl rfl) <| oB <| oI <| Za (beq_iff_eq.2 ((wrap_i64 ltA).trans (by first | rfl | omega))) <| Za (Zg ⟨⟨rfl, (Zs9 (E := Zd) (L := L0) (a := 0) (n := ((L0.length - 1) - 0)) (by omega) (by show _ = _ * 2; omega) (show _ = _ * 2 from rfl) (by rw [List.drop_zero]))⟩, by omega, by omega, ltA, by omega, (ZaB (E := Zd) (L := ([] : List R_ii)) (M := (L0.take ((L0.length - 1) - 0))) (n := 0) (show _ = _ * 2 from rfl) ltA (R := (L0.take ((L0.length - 1) - 0))) (by rw [List.take_of_length_le ltA]; rfl))⟩) <| Za (Zg ⟨ltA, ltA⟩) <| oI <| oR <| Za (beq_iff_eq.2 ((wrap_i64 ltA).trans (by first | rfl | omega))) <| oF <| Za (ZS (E := Zd) (L := L0) (i := (L0.length - 1)) (q := 1) (by omega) (show ((0 + ((L0.length - 1) * 2)) + 1) = (L0.length - 1) * 2 + 1 from by omega) (show 1 + 1 ≤ 2 from by decide) rfl rfl) <| oB <| oI <| Za (beq_iff_eq.2 ((wrap_i64 ltA).trans (by first | rfl | omega))) <| oF <| oT <| oF Ze) rfl (by decide) (by rfl) ⟨Eq.trans (show (Value.tuple #[vs 1 0 ((L0.take ((L0.length - 1) - 0)) ++ ([(⟨(L0.getD (L0.length - 1) R_ii.z).a0, (1 : Int)⟩ : R_ii)] : List R_ii)).length ((L0.take ((L0.length - 1) - 0)) ++ ([(⟨(L0.getD (L0.length - 1) R_ii.z).a0, (1 : Int)⟩ : R_ii)] : List R_ii)).length, vT] : Value) = Value.tuple #[vs 1 0 ((0 + ((L0.length - 1) - 0)) + 1) ((0 + ((L0.length - 1) - 0)) + 1), vT] from (ZhO (Zc (Zaf rfl eqA eqA) (Zc rfl rfl)))) (by rfl), by rfl⟩ ⟨(Zf (E := Zd) (α := R_ii) _ L0 _), ⟨(Zf (E := Zd) (α := R_ii) _ ((L0.take ((L0.length - 1) - 0)) ++ ([(⟨(L0.getD (L0.length - 1) R_ii.z).a0, (1 : Int)⟩ : R_ii)] : List R_ii)) _), trivial⟩⟩ (Zj _ rfl)
       ·
        exact Zay
    ·
     exact Zay
  ·
   refine Zn (fun g2 => ?_) (fun g2 => ?_)
   ·
    refine Zn (fun g3 => ?_) (fun g3 => ?_)
    ·
     exact Zm Zl (r := (.r0 (false) : ZM)) (fu := 4000) (orc := (Zi [(0, false), (1, false), (2, true), (3, true)] [] [] [] [])) (live := [0]) (u := Value.tuple #[vs 0 0 L0.length L0.length, vf]) (bl := [some (.cells (Zb Zd L0) 82)]) (ob := [(((L0.length : Int) == (0 : Int)), true), nT a1 17, nF a1 16, nF a1 15]) (by kernel_rfl) (oT <| oT <| oF <| oF Ze) rfl (by decide) (by rfl) rr ⟨(Zf (E := Zd) (α := R_ii) _ L0 _), trivial⟩ (Zj _ rfl)
    ·
     refine Zn (fun g4 => ?_) (fun g4 => ?_)
     ·
      exact Zm Zl (r := (.r2 : ZM)) (fu := 4000) (orc := (Zi [(0, false), (1, false), (2, true), (3, false)] [(0, (((L0.length - 1) : Nat) : Int))] [] [] [(0, .cut (L0.length - 1) (Zb Zd (L0.take (L0.length - 1))))])) (live := [0, 2]) (u := Value.tuple #[vs 2 0 (L0.length - 1) (L0.length - 1), vT]) (bl := [none, some (.cells (Zb Zd (L0.take (L0.length - 1))) 82)]) (ob := [(dP ((L0.length - 1) ≤ L0.length ∧ 0 < 2 ∧ L0.length * 2 ≤ ((Zb Zd L0) : List Value).length ∧ List.take ((L0.length - 1) * 2) (Zb Zd L0) = (Zb Zd (L0.take (L0.length - 1)))), true), ((((L0.length - 1) : Nat) : Int) == Int.ofNat (L0.length - 1), true), (dS 0, true), ((IntKind.i64.wrap ((L0.length : Int) - (1 : Int))) == (((L0.length - 1) : Nat) : Int), true), (((L0.length : Int) == (0 : Int)), false), nT a1 17, nF a1 16, nF a1 15]) (by kernel_rfl) (Za (Zg ⟨ltA, by decide, Zpa (E := Zd) (L := L0) (by omega) (show _ = _ * 2 from rfl), ZqS (E := Zd) (L := L0) (R := (L0.take (L0.length - 1))) (show _ = _ * 2 from rfl) rfl⟩) <| oI <| oR <| Za (beq_iff_eq.2 ((wrap_i64 ltA).trans (by first | rfl | omega))) <| oF <| oT <| oF <| oF Ze) rfl (by decide) (by rfl) ⟨Eq.trans (show (Value.tuple #[vs 1 0 (L0.take (L0.length - 1)).length (L0.take (L0.length - 1)).length, vT] : Value) = Value.tuple #[vs 1 0 (L0.length - 1) (L0.length - 1), vT] from (ZhO (Zc (Zaf rfl eqA eqA) (Zc rfl rfl)))) (by rfl), by rfl⟩ ⟨(Zf (E := Zd) (α := R_ii) _ (L0.take (L0.length - 1)) _), trivial⟩ (Zj _ rfl)
     ·
      exact Zay
   ·
    refine Zn (fun g3 => ?_) (fun g3 => ?_)
    ·
     refine Zn (fun g4 => ?_) (fun g4 => ?_)
     ·
      exact Zm Zl (r := (.r0 (true) : ZM)) (fu := 4000) (orc := (Zi [(0, false), (1, false), (2, false), (3, true), (4, true)] [] [] [] [])) (live := [0]) (u := Value.tuple #[vs 0 0 L0.length L0.length, vT]) (bl := [some (.cells (Zb Zd L0) 82)]) (ob := [((decide ((L0.length : Int) > (0 : Int))), true), nT a1 18, nF a1 17, nF a1 16, nF a1 15]) (by kernel_rfl) (oY <| oT <| oF <| oF <| oF Ze) rfl (by decide) (by rfl) rr ⟨(Zf (E := Zd) (α := R_ii) _ L0 _), trivial⟩ (Zj _ rfl)
     ·
      exact Zm Zl (r := (.r0 (false) : ZM)) (fu := 4000) (orc := (Zi [(0, false), (1, false), (2, false), (3, true), (4, false)] [] [] [] [])) (live := [0]) (u := Value.tuple #[vs 0 0 L0.length L0.length, vf]) (bl := [some (.cells (Zb Zd L0) 82)]) (ob := [((decide ((L0.length : Int) > (0 : Int))), false), nT a1 18, nF a1 17, nF a1 16, nF a1 15]) (by kernel_rfl) (oN <| oT <| oF <| oF <| oF Ze) rfl (by decide) (by rfl) rr ⟨(Zf (E := Zd) (α := R_ii) _ L0 _), trivial⟩ (Zj _ rfl)
    ·
     refine Zn (fun g4 => ?_) (fun g4 => ?_)
     ·
      refine Zn (fun g5 => ?_) (fun g5 => ?_)
      ·
       exact Zm Zl (r := (.r0 (true) : ZM)) (fu := 4000) (orc := (Zi [(0, false), (1, false), (2, false), (3, false), (4, true), (5, true)] [] [] [] [])) (live := [0]) (u := Value.tuple #[vs 0 0 L0.length L0.length, vT]) (bl := [some (.cells (Zb Zd L0) 82)]) (ob := [(((L0.length : Int) == (0 : Int)), true), nT a1 20, nF a1 18, nF a1 17, nF a1 16, nF a1 15]) (by kernel_rfl) (oT <| oT <| oF <| oF <| oF <| oF Ze) rfl (by decide) (by rfl) rr ⟨(Zf (E := Zd) (α := R_ii) _ L0 _), trivial⟩ (Zj _ rfl)
      ·
       exact Zm Zl (r := (.r0 (false) : ZM)) (fu := 4000) (orc := (Zi [(0, false), (1, false), (2, false), (3, false), (4, true), (5, false)] [] [] [] [])) (live := [0]) (u := Value.tuple #[vs 0 0 L0.length L0.length, vf]) (bl := [some (.cells (Zb Zd L0) 82)]) (ob := [(((L0.length : Int) == (0 : Int)), false), nT a1 20, nF a1 18, nF a1 17, nF a1 16, nF a1 15]) (by kernel_rfl) (oF <| oT <| oF <| oF <| oF <| oF Ze) rfl (by decide) (by rfl) rr ⟨(Zf (E := Zd) (α := R_ii) _ L0 _), trivial⟩ (Zj _ rfl)
     ·
      exact Zm Zl (r := (.r0 (true) : ZM)) (fu := 4000) (orc := (Zi [(0, false), (1, false), (2, false), (3, false), (4, false)] [] [] [] [])) (live := [0]) (u := Value.tuple #[vs 0 0 L0.length L0.length, vT]) (bl := [some (.cells (Zb Zd L0) 82)]) (ob := [nF a1 20, nF a1 18, nF a1 17, nF a1 16, nF a1 15]) (by kernel_rfl) (oF <| oF <| oF <| oF <| oF Ze) rfl (by decide) (by rfl) rr ⟨(Zf (E := Zd) (α := R_ii) _ L0 _), trivial⟩ (Zj _ rfl)

theorem ZeH (L0 : List R_ii) (a1 a2 a3 a4 a5 : Int) (N : Nat) (r : ZM) (h : Zbo L0 a1 a2 a3 a4 a5 N = some r) : LSpec Tryz.prog 39 #[vs 0 0 L0.length L0.length, Value.agg #[vi a1, vi a2, vi a3, vi a4], vi a5] [.cells (Zb Zd L0) 82] (Zkp L0 a1 a2 a3 a4 a5 r) (Zjo L0 a1 a2 a3 a4 a5 r) :=
 (ZnY L0 a1 a2 a3 a4 a5 N) r h

noncomputable def Ze7 (L0 : List R_ii) (a1 a2 a3 a4 a5 : Int) (w1 : Bool) (k0 n : Nat) : Zaj := .call [(k0, .cells (Zb Zd L0) 82)] (Value.tuple #[vs k0 0 L0.length L0.length, Value.bool w1]) [] 0
def Zd2 (A : Array Value) (L0 : List R_ii) (a1 a2 a3 a4 a5 : Int) (w1 : Bool) (k0 n : Nat) : Prop := Zz Tryz.prog 39 A [(k0, .cells (Zb Zd L0) 82)] (Value.tuple #[vs k0 0 L0.length L0.length, Value.bool w1]) [] n 0

theorem Ze8 (A : Array Value) (L0 : List R_ii) (a1 a2 a3 a4 a5 : Int) (w1 : Bool) (N : Nat) (h : Zbo L0 a1 a2 a3 a4 a5 N = some (.r0 w1)) (k0 n : Nat) (hA : A = #[vs k0 0 L0.length L0.length, Value.agg #[vi a1, vi a2, vi a3, vi a4], vi a5]) (hnd : ([k0] : List Nat).Nodup) (hlt : ∀ k ∈ ([k0] : List Nat), k < n) : Zd2 A L0 a1 a2 a3 a4 a5 w1 k0 n :=
 ZC hA (LSpec.callL (show LSpec Tryz.prog 39 #[vs 0 0 L0.length L0.length, Value.agg #[vi a1, vi a2, vi a3, vi a4], vi a5] [.cells (Zb Zd L0) 82] (Value.tuple #[vs 0 0 L0.length L0.length, Value.bool w1]) [some (.cells (Zb Zd L0) 82)] from ZeH L0 a1 a2 a3 a4 a5 N _ h) [k0] n [] rfl hnd hlt (show 1 ≤ 1 from by decide) (show ∀ j ∈ ([] : List Nat), j < 1 from by decide) (by rfl) ⟨(Zo _ _ _), trivial⟩ (by rfl) ⟨(Zo _ _ _), trivial⟩ ⟨.inr rfl, trivial⟩ rfl rfl rfl (Zc (Zp rfl (Z0 _ _ _)) rfl) rfl)

noncomputable def Zgv (L0 : List R_ii) (a1 a2 a3 a4 a5 : Int) (w1 : List R_ii) (k0 n : Nat) : Zaj := .call [(k0, .cells (Zb Zd L0) 82)] (Value.tuple #[vs n 0 w1.length w1.length, vT]) [(n, some (.cells (Zb Zd w1) 82))] 1
def Ze9 (A : Array Value) (L0 : List R_ii) (a1 a2 a3 a4 a5 : Int) (w1 : List R_ii) (k0 n : Nat) : Prop := Zz Tryz.prog 39 A [(k0, .cells (Zb Zd L0) 82)] (Value.tuple #[vs n 0 w1.length w1.length, vT]) [(n, some (.cells (Zb Zd w1) 82))] n 1

theorem Zgw (A : Array Value) (L0 : List R_ii) (a1 a2 a3 a4 a5 : Int) (w1 : List R_ii) (N : Nat) (h : Zbo L0 a1 a2 a3 a4 a5 N = some (.r1 w1)) (k0 n : Nat) (hA : A = #[vs k0 0 L0.length L0.length, Value.agg #[vi a1, vi a2, vi a3, vi a4], vi a5]) (hnd : ([k0] : List Nat).Nodup) (hlt : ∀ k ∈ ([k0] : List Nat), k < n) : Ze9 A L0 a1 a2 a3 a4 a5 w1 k0 n :=
 ZC hA (LSpec.callL (show LSpec Tryz.prog 39 #[vs 0 0 L0.length L0.length, Value.agg #[vi a1, vi a2, vi a3, vi a4], vi a5] [.cells (Zb Zd L0) 82] (Value.tuple #[vs 1 0 w1.length w1.length, vT]) [some (.cells (Zb Zd L0) 82), some (.cells (Zb Zd w1) 82)] from ZeH L0 a1 a2 a3 a4 a5 N _ h) [k0] n [1] rfl hnd hlt (show 1 ≤ 2 from by decide) (show ∀ j ∈ ([1] : List Nat), j < 2 from by decide) (by rfl) ⟨(Zo _ _ _), trivial⟩ (by rfl) ⟨(Zo _ _ _), ⟨(Zo _ _ _), trivial⟩⟩ ⟨.inr rfl, ⟨(by decide), trivial⟩⟩ rfl rfl rfl (Zc (Zp rfl (Z0 _ _ _)) rfl) (Zc (Zp rfl (Zad (Z0 _ _ _))) rfl))

noncomputable def Zgx (L0 : List R_ii) (a1 a2 a3 a4 a5 : Int) (k0 n : Nat) : Zaj := .call [(k0, .cells (Zb Zd L0) 82)] (Value.tuple #[vs n 0 (L0.take (L0.length - 1)).length (L0.take (L0.length - 1)).length, vT]) [(k0, none), (n, some (.cells (Zb Zd (L0.take (L0.length - 1))) 82))] 1
def ZeA (A : Array Value) (L0 : List R_ii) (a1 a2 a3 a4 a5 : Int) (k0 n : Nat) : Prop := Zz Tryz.prog 39 A [(k0, .cells (Zb Zd L0) 82)] (Value.tuple #[vs n 0 (L0.take (L0.length - 1)).length (L0.take (L0.length - 1)).length, vT]) [(k0, none), (n, some (.cells (Zb Zd (L0.take (L0.length - 1))) 82))] n 1

theorem Zgy (A : Array Value) (L0 : List R_ii) (a1 a2 a3 a4 a5 : Int) (N : Nat) (h : Zbo L0 a1 a2 a3 a4 a5 N = some (.r2)) (k0 n : Nat) (hA : A = #[vs k0 0 L0.length L0.length, Value.agg #[vi a1, vi a2, vi a3, vi a4], vi a5]) (hnd : ([k0] : List Nat).Nodup) (hlt : ∀ k ∈ ([k0] : List Nat), k < n) : ZeA A L0 a1 a2 a3 a4 a5 k0 n :=
 ZC hA (LSpec.callL (show LSpec Tryz.prog 39 #[vs 0 0 L0.length L0.length, Value.agg #[vi a1, vi a2, vi a3, vi a4], vi a5] [.cells (Zb Zd L0) 82] (Value.tuple #[vs 1 0 (L0.take (L0.length - 1)).length (L0.take (L0.length - 1)).length, vT]) [none, some (.cells (Zb Zd (L0.take (L0.length - 1))) 82)] from ZeH L0 a1 a2 a3 a4 a5 N _ h) [k0] n [0, 1] rfl hnd hlt (show 1 ≤ 2 from by decide) (show ∀ j ∈ ([0, 1] : List Nat), j < 2 from by decide) (by rfl) ⟨(Zo _ _ _), trivial⟩ (by rfl) ⟨(Zo _ _ _), trivial⟩ ⟨.inl (by decide), ⟨(by decide), trivial⟩⟩ rfl rfl rfl (Zc (Zp rfl (Z0 _ _ _)) rfl) (Zc (Zp rfl rfl) (Zc (Zp rfl (Zad (Z0 _ _ _))) rfl)))

noncomputable def Zkq (a0 a1 a2 a3 : Int) : Zb8 → Value
 | .r0 w0 w1 => Value.tuple #[vi w0, Value.bool w1]
noncomputable def Zjp (a0 a1 a2 a3 : Int) : Zb8 → List (Option AObj)
 | .r0 w0 w1 => []

theorem ZnZ (a0 a1 a2 a3 : Int) (N : Nat) : Gx Tryz.prog 22 [] #[Value.agg #[vi a0, vi a1, vi a2, vi a3]] (Zkq a0 a1 a2 a3) (Zjp a0 a1 a2 a3) (Zcg a0 a1 a2 a3 N) := by
 unfold Zcg
 refine Zn (fun g0 => ?_) (fun g0 => ?_)
 ·
  exact Zm Zl (r := (.r0 (a1) (true) : Zb8)) (fu := 4000) (orc := (Zi [(0, true)] [] [] [] [])) (live := []) (u := Value.tuple #[vi a1, vT]) (bl := []) (ob := [nT a0 8]) (by kernel_rfl) (oT Ze) rfl (by decide) (by rfl) rr trivial (Zj _ rfl)
 ·
  refine Zn (fun g1 => ?_) (fun g1 => ?_)
  ·
   exact Zm Zl (r := (.r0 (a2) (true) : Zb8)) (fu := 4000) (orc := (Zi [(0, false), (1, true)] [] [] [] [])) (live := []) (u := Value.tuple #[vi a2, vT]) (bl := []) (ob := [nT a0 9, nF a0 8]) (by kernel_rfl) (oT <| oF Ze) rfl (by decide) (by rfl) rr trivial (Zj _ rfl)
  ·
   exact Zm Zl (r := (.r0 ((0 : Int)) (false) : Zb8)) (fu := 4000) (orc := (Zi [(0, false), (1, false)] [] [] [] [])) (live := []) (u := Value.tuple #[vq, vf]) (bl := []) (ob := [nF a0 9, nF a0 8]) (by kernel_rfl) (oF <| oF Ze) rfl (by decide) (by rfl) rr trivial (Zj _ rfl)

theorem Zmt (a0 a1 a2 a3 : Int) (N : Nat) (r : Zb8) (h : Zcg a0 a1 a2 a3 N = some r) : LSpec Tryz.prog 22 #[Value.agg #[vi a0, vi a1, vi a2, vi a3]] [] (Zkq a0 a1 a2 a3 r) (Zjp a0 a1 a2 a3 r) :=
 (ZnZ a0 a1 a2 a3 N) r h

noncomputable def ZbF (a0 a1 a2 a3 w0 : Int) (w1 : Bool) (n : Nat) : Zaj := .call [] (Value.tuple #[vi w0, Value.bool w1]) [] 0
def Zbw (A : Array Value) (a0 a1 a2 a3 w0 : Int) (w1 : Bool) (n : Nat) : Prop := Zz Tryz.prog 22 A [] (Value.tuple #[vi w0, Value.bool w1]) [] n 0

theorem ZbG (A : Array Value) (a0 a1 a2 a3 w0 : Int) (w1 : Bool) (N : Nat) (h : Zcg a0 a1 a2 a3 N = some (.r0 w0 w1)) (n : Nat) (hA : A = #[Value.agg #[vi a0, vi a1, vi a2, vi a3]]) (hnd : ([] : List Nat).Nodup) (hlt : ∀ k ∈ ([] : List Nat), k < n) : Zbw A a0 a1 a2 a3 w0 w1  n :=
 ZC hA (LSpec.callL (show LSpec Tryz.prog 22 #[Value.agg #[vi a0, vi a1, vi a2, vi a3]] [] (Value.tuple #[vi w0, Value.bool w1]) [] from Zmt a0 a1 a2 a3 N _ h) [] n [] rfl hnd hlt (show 0 ≤ 0 from by decide) (show ∀ j ∈ ([] : List Nat), j < 0 from by decide) (by rfl) trivial (by rfl) trivial trivial rfl rfl rfl rfl rfl)

noncomputable def ZlJ (L0 : List RA) (a1 : Int) : Zah → Value
 | .r0 => vn
 | .r1 w0 => vs 0 0 w0.length w0.length
noncomputable def Zkr (L0 : List RA) (a1 : Int) : Zah → List (Option AObj)
 | .r0 => []
 | .r1 w0 => [some (.cells (Zb Zd w0) 82)]

def ZpI : ZK → Nat
 | .h1m0 v2 => 1
 | .h1m1 v2 v3 => 1
noncomputable def Zry (L0 : List RA) (a1 : Int) : ZK → List (Nat × Value)
 | .h1m0 v2 => [(0, ms E_iiii L0), (1, vi a1), (5, vn), (6, vi (v2 : Int))]
 | .h1m1 v2 v3 => [(0, ms E_iiii L0), (1, vi a1), (5, vs 0 0 v2.length v2.length), (6, vi (v3 : Int))]
noncomputable def Zrz (L0 : List RA) (a1 : Int) : ZK → List (Option AObj)
 | .h1m0 v2 => []
 | .h1m1 v2 v3 => [some (.cells (Zb Zd v2) 82)]

noncomputable def ZcM : Nat → Code × List ZaI
 | 1 => Zb3 [1, 1, 0, 1, 3] (Zc8 Tryz.f56) []
 | _ => (.skip, [])
def Zks : Nat → Bool
 | 1 => true
 | _ => true
noncomputable def Zes (i : Nat) : List ZaI := match Zks i with | true => .rnd i :: (ZcM i).2 | false => (ZcM i).2

noncomputable def ZaG (L0 : List RA) (a1 : Int) (N : Nat) : Mach := ⟨Tryz.f56, [], ZK, Zah, ref12_opensStep L0 a1 N, ZpI, ZcM, Zks, Zry L0 a1, Zrz L0 a1, ZlJ L0 a1, Zkr L0 a1⟩

theorem Zmu (L0 : List RA) (a1 : Int) (v2 N : Nat) : (ZaG L0 a1 N).Ok Tryz.prog ZG (.h1m0 v2 : ZK) (ref12_opensStep L0 a1 N (.h1m0 v2 : ZK)) := by
 show (ZaG L0 a1 N).Ok Tryz.prog ZG (.h1m0 v2 : ZK) (ref12_opens_h1m0 L0 a1 N v2)
 unfold ref12_opens_h1m0
 refine Mach.ok_ite (fun g0 => ?_) (fun g0 => ?_)
 ·
  refine Mach.ok_ite (fun g1 => ?_) (fun g1 => ?_)
  ·
   refine Mach.ok_bind (fun z2 c2 => ?_)
   cases z2 with
   | r0 =>
    refine Mach.ok_ite (fun g3 => ?_) (fun g3 => ?_)
    ·
     exact Mach.ok_next (M := ZaG L0 a1 N) (cd := 1000000) (cm := 0) (y := (.h1m1 (([(⟨(v2 : Int), (0 : Int)⟩ : R_ii)] : List R_ii)) ((v2 + 1)) : ZK)) (fu := 4000) (orc := (Zi [(0, true), (1, true)] [(0, (((v2 + 1) : Nat) : Int))] [(0, v2)] [(0, [.i (L0.getD v2 RA.z).a0, .i (L0.getD v2 RA.z).a1, .i (L0.getD v2 RA.z).a2, .i (L0.getD v2 RA.z).a3])] [(0, (Zij ((L0.getD v2 RA.z).a0) ((L0.getD v2 RA.z).a1) ((L0.getD v2 RA.z).a2) ((L0.getD v2 RA.z).a3) ((v2 : Int))    0))])) (live := [0]) (tv := fun _ => [some (ms E_iiii L0), some (vi a1), some (vs 0 0 1 1), some (vi (((v2 + 1) : Nat) : Int))]) (bl := [some (.cells (Zb Zd ([(⟨(v2 : Int), (0 : Int)⟩ : R_ii)] : List R_ii)) 82)]) (ob := [((IntKind.i64.wrap ((v2 : Int) + (1 : Int))) == (((v2 + 1) : Nat) : Int), true), (dP (ZfM #[vn, Value.agg #[vi (L0.getD v2 RA.z).a0, vi (L0.getD v2 RA.z).a1, vi (L0.getD v2 RA.z).a2, vi (L0.getD v2 RA.z).a3], vi (v2 : Int)] ((L0.getD v2 RA.z).a0) ((L0.getD v2 RA.z).a1) ((L0.getD v2 RA.z).a2) ((L0.getD v2 RA.z).a3) ((v2 : Int))    0), true), (dP (ZH (code (Z9 E_iiii L0)) (0 + (v2 * 4)) 4 = some [.i (L0.getD v2 RA.z).a0, .i (L0.getD v2 RA.z).a1, .i (L0.getD v2 RA.z).a2, .i (L0.getD v2 RA.z).a3]), true), (Nat.blt v2 L0.length, true), ((v2 : Int) == Int.ofNat v2, true), ((decide ((v2 : Int) < (L0.length : Int))), true), ((decide ((v2 : Int) < a1)), true)]) rfl (show 1 ∈ Z1 (Zes 1) from by decide +kernel) (fun gv => by kernel_rfl) (Za (beq_iff_eq.2 ((wrap_i64 ltA).trans (by first | rfl | omega))) <| Za (Zg (Zik #[vn, Value.agg #[vi (L0.getD v2 RA.z).a0, vi (L0.getD v2 RA.z).a1, vi (L0.getD v2 RA.z).a2, vi (L0.getD v2 RA.z).a3], vi (v2 : Int)] ((L0.getD v2 RA.z).a0) ((L0.getD v2 RA.z).a1) ((L0.getD v2 RA.z).a2) ((L0.getD v2 RA.z).a3) ((v2 : Int))   N c2  0 rfl (by decide) (by decide))) <| Za (Zg (Zt (E := E_iiii) (L := L0) (i := v2) (q := 0) (by omega) (show (0 + (v2 * 4)) = v2 * 4 + 0 from by omega) (show 0 + 4 ≤ 4 from by decide) rfl)) <| oB <| oI <| oY <| oY Ze) rfl (by decide) (by rfl) (fun _ => ⟨rr, ⟨rr, ⟨⟨Eq.trans (show (vs 0 0 ([(⟨(v2 : Int), (0 : Int)⟩ : R_ii)] : List R_ii).length ([(⟨(v2 : Int), (0 : Int)⟩ : R_ii)] : List R_ii).length : Value) = vs 0 0 1 1 from (Zaf rfl eqA eqA)) (by rfl), by rfl⟩, ⟨rr, trivial⟩⟩⟩⟩) ⟨(Zf (E := Zd) (α := R_ii) _ ([(⟨(v2 : Int), (0 : Int)⟩ : R_ii)] : List R_ii) _), trivial⟩
    ·
     exact Mach.ok_none
   | r1 y2_0 =>
    refine Mach.ok_ite (fun g3 => ?_) (fun g3 => ?_)
    ·
     exact Mach.ok_next (M := ZaG L0 a1 N) (cd := 1000000) (cm := 0) (y := (.h1m0 ((v2 + 1)) : ZK)) (fu := 4000) (orc := (Zi [(0, true), (1, true)] [(0, (((v2 + 1) : Nat) : Int))] [(0, v2)] [(0, [.i (L0.getD v2 RA.z).a0, .i (L0.getD v2 RA.z).a1, .i (L0.getD v2 RA.z).a2, .i (L0.getD v2 RA.z).a3])] [(0, (ZfN ((L0.getD v2 RA.z).a0) ((L0.getD v2 RA.z).a1) ((L0.getD v2 RA.z).a2) ((L0.getD v2 RA.z).a3) ((v2 : Int))  y2_0  0))])) (live := []) (tv := fun _ => [some (ms E_iiii L0), some (vi a1), some (vn), some (vi (((v2 + 1) : Nat) : Int))]) (bl := []) (ob := [((IntKind.i64.wrap ((v2 : Int) + (1 : Int))) == (((v2 + 1) : Nat) : Int), true), (dP (Zer #[vn, Value.agg #[vi (L0.getD v2 RA.z).a0, vi (L0.getD v2 RA.z).a1, vi (L0.getD v2 RA.z).a2, vi (L0.getD v2 RA.z).a3], vi (v2 : Int)] ((L0.getD v2 RA.z).a0) ((L0.getD v2 RA.z).a1) ((L0.getD v2 RA.z).a2) ((L0.getD v2 RA.z).a3) ((v2 : Int))  y2_0  0), true), (dP (ZH (code (Z9 E_iiii L0)) (0 + (v2 * 4)) 4 = some [.i (L0.getD v2 RA.z).a0, .i (L0.getD v2 RA.z).a1, .i (L0.getD v2 RA.z).a2, .i (L0.getD v2 RA.z).a3]), true), (Nat.blt v2 L0.length, true), ((v2 : Int) == Int.ofNat v2, true), ((decide ((v2 : Int) < (L0.length : Int))), true), ((decide ((v2 : Int) < a1)), true)]) rfl (show 1 ∈ Z1 (Zes 1) from by decide +kernel) (fun gv => by kernel_rfl) (Za (beq_iff_eq.2 ((wrap_i64 ltA).trans (by first | rfl | omega))) <| Za (Zg (ZfO #[vn, Value.agg #[vi (L0.getD v2 RA.z).a0, vi (L0.getD v2 RA.z).a1, vi (L0.getD v2 RA.z).a2, vi (L0.getD v2 RA.z).a3], vi (v2 : Int)] ((L0.getD v2 RA.z).a0) ((L0.getD v2 RA.z).a1) ((L0.getD v2 RA.z).a2) ((L0.getD v2 RA.z).a3) ((v2 : Int))  y2_0 N c2  0 rfl (by decide) (by decide))) <| Za (Zg (Zt (E := E_iiii) (L := L0) (i := v2) (q := 0) (by omega) (show (0 + (v2 * 4)) = v2 * 4 + 0 from by omega) (show 0 + 4 ≤ 4 from by decide) rfl)) <| oB <| oI <| oY <| oY Ze) rfl (by decide) (by rfl) (fun _ => ⟨rr, ⟨rr, ⟨rr, ⟨rr, trivial⟩⟩⟩⟩) trivial
    ·
     exact Mach.ok_none
  ·
   exact Mach.ok_fin (M := ZaG L0 a1 N) (cd := 1000000) (cm := 0) (r := (.r0 : Zah)) (fu := 4000) (orc := (Zi [(0, true), (1, false)] [] [] [] [])) (live := []) (u := vn) (bl := []) (ob := [((decide ((v2 : Int) < (L0.length : Int))), false), ((decide ((v2 : Int) < a1)), true)]) (fun gv => by kernel_rfl) (oN <| oY Ze) rfl (by decide) (by rfl) rr trivial
 ·
  exact Mach.ok_fin (M := ZaG L0 a1 N) (cd := 1000000) (cm := 0) (r := (.r0 : Zah)) (fu := 4000) (orc := (Zi [(0, false)] [] [] [] [])) (live := []) (u := vn) (bl := []) (ob := [((decide ((v2 : Int) < a1)), false)]) (fun gv => by kernel_rfl) (oN Ze) rfl (by decide) (by rfl) rr trivial

theorem Zmv (L0 : List RA) (a1 : Int) (v2 : List R_ii) (v3 N : Nat) : (ZaG L0 a1 N).Ok Tryz.prog ZG (.h1m1 v2 v3 : ZK) (ref12_opensStep L0 a1 N (.h1m1 v2 v3 : ZK)) := by
 show (ZaG L0 a1 N).Ok Tryz.prog ZG (.h1m1 v2 v3 : ZK) (ref12_opens_h1m1 L0 a1 N v2 v3)
 unfold ref12_opens_h1m1
 refine Mach.ok_ite (fun g0 => ?_) (fun g0 => ?_)
 ·
  refine Mach.ok_ite (fun g1 => ?_) (fun g1 => ?_)
  ·
   refine Mach.ok_bind (fun z2 c2 => ?_)
   cases z2 with
   | r0 y2_0 =>
    refine Mach.ok_ite (fun g3 => ?_) (fun g3 => ?_)
    ·
     exact Mach.ok_next (M := ZaG L0 a1 N) (cd := 1000000) (cm := 0) (y := (.h1m1 (v2) ((v3 + 1)) : ZK)) (fu := 4000) (orc := (Zi [(0, true), (1, true)] [(0, (((v3 + 1) : Nat) : Int))] [(0, v3)] [(0, [.i (L0.getD v3 RA.z).a0, .i (L0.getD v3 RA.z).a1, .i (L0.getD v3 RA.z).a2, .i (L0.getD v3 RA.z).a3])] [(0, (Ze7 (v2) ((L0.getD v3 RA.z).a0) ((L0.getD v3 RA.z).a1) ((L0.getD v3 RA.z).a2) ((L0.getD v3 RA.z).a3) ((v3 : Int))  y2_0 0 1))])) (live := [0]) (tv := fun _ => [some (ms E_iiii L0), some (vi a1), some (vs 0 0 v2.length v2.length), some (vi (((v3 + 1) : Nat) : Int))]) (bl := [some (.cells (Zb Zd v2) 82)]) (ob := [((IntKind.i64.wrap ((v3 : Int) + (1 : Int))) == (((v3 + 1) : Nat) : Int), true), (dP (Zd2 #[vs 0 0 v2.length v2.length, Value.agg #[vi (L0.getD v3 RA.z).a0, vi (L0.getD v3 RA.z).a1, vi (L0.getD v3 RA.z).a2, vi (L0.getD v3 RA.z).a3], vi (v3 : Int)] (v2) ((L0.getD v3 RA.z).a0) ((L0.getD v3 RA.z).a1) ((L0.getD v3 RA.z).a2) ((L0.getD v3 RA.z).a3) ((v3 : Int))  y2_0 0 1), true), (dS (Zb Zd v2), true), (dP (ZH (code (Z9 E_iiii L0)) (0 + (v3 * 4)) 4 = some [.i (L0.getD v3 RA.z).a0, .i (L0.getD v3 RA.z).a1, .i (L0.getD v3 RA.z).a2, .i (L0.getD v3 RA.z).a3]), true), (Nat.blt v3 L0.length, true), ((v3 : Int) == Int.ofNat v3, true), ((decide ((v3 : Int) < (L0.length : Int))), true), ((decide ((v3 : Int) < a1)), true)]) rfl (show 1 ∈ Z1 (Zes 1) from by decide +kernel) (fun gv => by kernel_rfl) (Za (beq_iff_eq.2 ((wrap_i64 ltA).trans (by first | rfl | omega))) <| Za (Zg (Ze8 #[vs 0 0 v2.length v2.length, Value.agg #[vi (L0.getD v3 RA.z).a0, vi (L0.getD v3 RA.z).a1, vi (L0.getD v3 RA.z).a2, vi (L0.getD v3 RA.z).a3], vi (v3 : Int)] (v2) ((L0.getD v3 RA.z).a0) ((L0.getD v3 RA.z).a1) ((L0.getD v3 RA.z).a2) ((L0.getD v3 RA.z).a3) ((v3 : Int))  y2_0 N c2 0 1 rfl (by decide) (by decide))) <| oR <| Za (Zg (Zt (E := E_iiii) (L := L0) (i := v3) (q := 0) (by omega) (show (0 + (v3 * 4)) = v3 * 4 + 0 from by omega) (show 0 + 4 ≤ 4 from by decide) rfl)) <| oB <| oI <| oY <| oY Ze) rfl (by decide) (by rfl) (fun _ => ⟨rr, ⟨rr, ⟨rr, ⟨rr, trivial⟩⟩⟩⟩) ⟨(Zf (E := Zd) (α := R_ii) _ v2 _), trivial⟩
    ·
     exact Mach.ok_none
   | r1 y2_0 =>
    refine Mach.ok_ite (fun g3 => ?_) (fun g3 => ?_)
    ·
     exact Mach.ok_next (M := ZaG L0 a1 N) (cd := 1000000) (cm := 0) (y := (.h1m1 (y2_0) ((v3 + 1)) : ZK)) (fu := 4000) (orc := (Zi [(0, true), (1, true)] [(0, (((v3 + 1) : Nat) : Int))] [(0, v3)] [(0, [.i (L0.getD v3 RA.z).a0, .i (L0.getD v3 RA.z).a1, .i (L0.getD v3 RA.z).a2, .i (L0.getD v3 RA.z).a3])] [(0, (Zgv (v2) ((L0.getD v3 RA.z).a0) ((L0.getD v3 RA.z).a1) ((L0.getD v3 RA.z).a2) ((L0.getD v3 RA.z).a3) ((v3 : Int))  y2_0 0 1))])) (live := [1]) (tv := fun _ => [some (ms E_iiii L0), some (vi a1), some (vs 1 0 y2_0.length y2_0.length), some (vi (((v3 + 1) : Nat) : Int))]) (bl := [some (.cells (Zb Zd y2_0) 82)]) (ob := [((IntKind.i64.wrap ((v3 : Int) + (1 : Int))) == (((v3 + 1) : Nat) : Int), true), (dP (Ze9 #[vs 0 0 v2.length v2.length, Value.agg #[vi (L0.getD v3 RA.z).a0, vi (L0.getD v3 RA.z).a1, vi (L0.getD v3 RA.z).a2, vi (L0.getD v3 RA.z).a3], vi (v3 : Int)] (v2) ((L0.getD v3 RA.z).a0) ((L0.getD v3 RA.z).a1) ((L0.getD v3 RA.z).a2) ((L0.getD v3 RA.z).a3) ((v3 : Int))  y2_0 0 1), true), (dS (Zb Zd v2), true), (dP (ZH (code (Z9 E_iiii L0)) (0 + (v3 * 4)) 4 = some [.i (L0.getD v3 RA.z).a0, .i (L0.getD v3 RA.z).a1, .i (L0.getD v3 RA.z).a2, .i (L0.getD v3 RA.z).a3]), true), (Nat.blt v3 L0.length, true), ((v3 : Int) == Int.ofNat v3, true), ((decide ((v3 : Int) < (L0.length : Int))), true), ((decide ((v3 : Int) < a1)), true)]) rfl (show 1 ∈ Z1 (Zes 1) from by decide +kernel) (fun gv => by kernel_rfl) (Za (beq_iff_eq.2 ((wrap_i64 ltA).trans (by first | rfl | omega))) <| Za (Zg (Zgw #[vs 0 0 v2.length v2.length, Value.agg #[vi (L0.getD v3 RA.z).a0, vi (L0.getD v3 RA.z).a1, vi (L0.getD v3 RA.z).a2, vi (L0.getD v3 RA.z).a3], vi (v3 : Int)] (v2) ((L0.getD v3 RA.z).a0) ((L0.getD v3 RA.z).a1) ((L0.getD v3 RA.z).a2) ((L0.getD v3 RA.z).a3) ((v3 : Int))  y2_0 N c2 0 1 rfl (by decide) (by decide))) <| oR <| Za (Zg (Zt (E := E_iiii) (L := L0) (i := v3) (q := 0) (by omega) (show (0 + (v3 * 4)) = v3 * 4 + 0 from by omega) (show 0 + 4 ≤ 4 from by decide) rfl)) <| oB <| oI <| oY <| oY Ze) rfl (by decide) (by rfl) (fun _ => ⟨rr, ⟨rr, ⟨rr, ⟨rr, trivial⟩⟩⟩⟩) ⟨(Zf (E := Zd) (α := R_ii) _ y2_0 _), trivial⟩
    ·
     exact Mach.ok_none
   | r2 =>
    refine Mach.ok_ite (fun g3 => ?_) (fun g3 => ?_)
    ·
     exact Mach.ok_next (M := ZaG L0 a1 N) (cd := 1000000) (cm := 0) (y := (.h1m1 ((v2.take (v2.length - 1))) ((v3 + 1)) : ZK)) (fu := 4000) (orc := (Zi [(0, true), (1, true)] [(0, (((v3 + 1) : Nat) : Int))] [(0, v3)] [(0, [.i (L0.getD v3 RA.z).a0, .i (L0.getD v3 RA.z).a1, .i (L0.getD v3 RA.z).a2, .i (L0.getD v3 RA.z).a3])] [(0, (Zgx (v2) ((L0.getD v3 RA.z).a0) ((L0.getD v3 RA.z).a1) ((L0.getD v3 RA.z).a2) ((L0.getD v3 RA.z).a3) ((v3 : Int))   0 1))])) (live := [1]) (tv := fun _ => [some (ms E_iiii L0), some (vi a1), some (vs 1 0 (v2.take (v2.length - 1)).length (v2.take (v2.length - 1)).length), some (vi (((v3 + 1) : Nat) : Int))]) (bl := [some (.cells (Zb Zd (v2.take (v2.length - 1))) 82)]) (ob := [((IntKind.i64.wrap ((v3 : Int) + (1 : Int))) == (((v3 + 1) : Nat) : Int), true), (dP (ZeA #[vs 0 0 v2.length v2.length, Value.agg #[vi (L0.getD v3 RA.z).a0, vi (L0.getD v3 RA.z).a1, vi (L0.getD v3 RA.z).a2, vi (L0.getD v3 RA.z).a3], vi (v3 : Int)] (v2) ((L0.getD v3 RA.z).a0) ((L0.getD v3 RA.z).a1) ((L0.getD v3 RA.z).a2) ((L0.getD v3 RA.z).a3) ((v3 : Int))   0 1), true), (dS (Zb Zd v2), true), (dP (ZH (code (Z9 E_iiii L0)) (0 + (v3 * 4)) 4 = some [.i (L0.getD v3 RA.z).a0, .i (L0.getD v3 RA.z).a1, .i (L0.getD v3 RA.z).a2, .i (L0.getD v3 RA.z).a3]), true), (Nat.blt v3 L0.length, true), ((v3 : Int) == Int.ofNat v3, true), ((decide ((v3 : Int) < (L0.length : Int))), true), ((decide ((v3 : Int) < a1)), true)]) rfl (show 1 ∈ Z1 (Zes 1) from by decide +kernel) (fun gv => by kernel_rfl) (Za (beq_iff_eq.2 ((wrap_i64 ltA).trans (by first | rfl | omega))) <| Za (Zg (Zgy #[vs 0 0 v2.length v2.length, Value.agg #[vi (L0.getD v3 RA.z).a0, vi (L0.getD v3 RA.z).a1, vi (L0.getD v3 RA.z).a2, vi (L0.getD v3 RA.z).a3], vi (v3 : Int)] (v2) ((L0.getD v3 RA.z).a0) ((L0.getD v3 RA.z).a1) ((L0.getD v3 RA.z).a2) ((L0.getD v3 RA.z).a3) ((v3 : Int))   N c2 0 1 rfl (by decide) (by decide))) <| oR <| Za (Zg (Zt (E := E_iiii) (L := L0) (i := v3) (q := 0) (by omega) (show (0 + (v3 * 4)) = v3 * 4 + 0 from by omega) (show 0 + 4 ≤ 4 from by decide) rfl)) <| oB <| oI <| oY <| oY Ze) rfl (by decide) (by rfl) (fun _ => ⟨rr, ⟨rr, ⟨rr, ⟨rr, trivial⟩⟩⟩⟩) ⟨(Zf (E := Zd) (α := R_ii) _ (v2.take (v2.length - 1)) _), trivial⟩
    ·
     exact Mach.ok_none
  ·
   exact Mach.ok_fin (M := ZaG L0 a1 N) (cd := 1000000) (cm := 0) (r := (.r1 (v2) : Zah)) (fu := 4000) (orc := (Zi [(0, true), (1, false)] [] [] [] [])) (live := [0]) (u := vs 0 0 v2.length v2.length) (bl := [some (.cells (Zb Zd v2) 82)]) (ob := [((decide ((v3 : Int) < (L0.length : Int))), false), ((decide ((v3 : Int) < a1)), true)]) (fun gv => by kernel_rfl) (oN <| oY Ze) rfl (by decide) (by rfl) rr ⟨(Zf (E := Zd) (α := R_ii) _ v2 _), trivial⟩
 ·
  exact Mach.ok_fin (M := ZaG L0 a1 N) (cd := 1000000) (cm := 0) (r := (.r1 (v2) : Zah)) (fu := 4000) (orc := (Zi [(0, false)] [] [] [] [])) (live := [0]) (u := vs 0 0 v2.length v2.length) (bl := [some (.cells (Zb Zd v2) 82)]) (ob := [((decide ((v3 : Int) < a1)), false)]) (fun gv => by kernel_rfl) (oN Ze) rfl (by decide) (by rfl) rr ⟨(Zf (E := Zd) (α := R_ii) _ v2 _), trivial⟩

theorem Zo3 (L0 : List RA) (a1 : Int) (N : Nat) : (ZaG L0 a1 N).Enter Tryz.prog ZG #[ms E_iiii L0, vi a1] (ZdO L0 a1 N) := by
 unfold ZdO
 exact Mach.en_head (bK := ZcM 1) (M := ZaG L0 a1 N) (cd := 1000000) (cm := 0) (y := (.h1m0 (0) : ZK)) (fu := 4000) (orc := (Zi [] [] [] [] [])) (live := []) (tv := [some (ms E_iiii L0), some (vi a1), some (vn), some (vq)]) (bl := []) (ob := []) rfl rfl (show Z1 (ZcM 1).2 = [] from rfl) (by kernel_rfl) Ze rfl (by decide) (by rfl) ⟨rr, ⟨rr, ⟨rr, ⟨⟨Eq.trans (show (vi ((0 : Nat) : Int) : Value) = vq from (congrArg (Value.int .i64) (by first | rfl | omega))) (by rfl), by rfl⟩, trivial⟩⟩⟩⟩ trivial

theorem Zil (L0 : List RA) (a1 : Int) (N : Nat) (r : Zah) (h : ref12_opens L0 a1 N = some r) : LSpec Tryz.prog 56 #[ms E_iiii L0, vi a1] [] (ZlJ L0 a1 r) (Zkr L0 a1 r) :=
 Mach.spec Zl (ZaG L0 a1 N) Tryz.func56 (by kernel_rfl) (by kernel_rfl) (fun x => by cases x <;> exact Zj _ rfl) (fun r => by cases r <;> exact Zj _ rfl) (fun x => by
  cases x with
  | h1m0 _ => exact fun _ => (show ¬ (1 ∈ Z1 (ZcM 1).2) from by decide +kernel)
  | h1m1 _ _ => exact fun _ => (show ¬ (1 ∈ Z1 (ZcM 1).2) from by decide +kernel)
  ) (fun x => (show (ZaG L0 a1 N).Ok Tryz.prog ZG x (ref12_opensStep L0 a1 N x) from by
  cases x with
  | h1m0 v2 => exact Zmu L0 a1 v2 N
  | h1m1 v2 v3 => exact Zmv L0 a1 v2 v3 N
  )) (Zo3 L0 a1 N) (n := N) h

noncomputable def ZpJ (L0 : List RA) (a1 : Int) (n : Nat) : Zaj := .call [] (vn) [] 0
def Zkt (A : Array Value) (L0 : List RA) (a1 : Int) (n : Nat) : Prop := Zz Tryz.prog 56 A [] (vn) [] n 0

theorem ZpK (A : Array Value) (L0 : List RA) (a1 : Int) (N : Nat) (h : ref12_opens L0 a1 N = some (.r0)) (n : Nat) (hA : A = #[ms E_iiii L0, vi a1]) (hnd : ([] : List Nat).Nodup) (hlt : ∀ k ∈ ([] : List Nat), k < n) : Zkt A L0 a1  n :=
 ZC hA (LSpec.callL (show LSpec Tryz.prog 56 #[ms E_iiii L0, vi a1] [] (vn) [] from Zil L0 a1 N _ h) [] n [] rfl hnd hlt (show 0 ≤ 0 from by decide) (show ∀ j ∈ ([] : List Nat), j < 0 from by decide) (by rfl) trivial (by rfl) trivial trivial rfl rfl rfl rfl rfl)

noncomputable def Zku (L0 : List RA) (a1 : Int) (w0 : List R_ii) (n : Nat) : Zaj := .call [] (vs n 0 w0.length w0.length) [(n, some (.cells (Zb Zd w0) 82))] 1
def Zhf (A : Array Value) (L0 : List RA) (a1 : Int) (w0 : List R_ii) (n : Nat) : Prop := Zz Tryz.prog 56 A [] (vs n 0 w0.length w0.length) [(n, some (.cells (Zb Zd w0) 82))] n 1

theorem Zkv (A : Array Value) (L0 : List RA) (a1 : Int) (w0 : List R_ii) (N : Nat) (h : ref12_opens L0 a1 N = some (.r1 w0)) (n : Nat) (hA : A = #[ms E_iiii L0, vi a1]) (hnd : ([] : List Nat).Nodup) (hlt : ∀ k ∈ ([] : List Nat), k < n) : Zhf A L0 a1 w0  n :=
 ZC hA (LSpec.callL (show LSpec Tryz.prog 56 #[ms E_iiii L0, vi a1] [] (vs 0 0 w0.length w0.length) [some (.cells (Zb Zd w0) 82)] from Zil L0 a1 N _ h) [] n [0] rfl hnd hlt (show 0 ≤ 1 from by decide) (show ∀ j ∈ ([0] : List Nat), j < 1 from by decide) (by rfl) trivial (by rfl) ⟨(Zo _ _ _), trivial⟩ ⟨(by decide), trivial⟩ rfl rfl rfl rfl (Zc (Zp rfl (Zad (Z0 _ _ _))) rfl))

noncomputable def Zkw (L0 : List RA) (a1 : Int) : ZaP → Value
 | .r0 w0 w1 => Value.agg #[vi w0, vi w1]
noncomputable def Zjq (L0 : List RA) (a1 : Int) : ZaP → List (Option AObj)
 | .r0 w0 w1 => []

theorem Zoa (L0 : List RA) (a1 : Int) (N : Nat) : Gx Tryz.prog 41 [] #[ms E_iiii L0, vi a1] (Zkw L0 a1) (Zjq L0 a1) (ref12_branch L0 a1 N) := by
 unfold ref12_branch
 refine ZaO (fun z0 c0 => ?_)
 cases z0 with
 | r0 =>
  exact Zm Zl (r := (.r0 ((-1 : Int)) ((0 : Int)) : ZaP)) (fu := 4000) (orc := (Zi [] [] [] [] [(0, (ZpJ (L0) (a1)    1))])) (live := []) (u := Value.agg #[vi (-1 : Int), vq]) (bl := []) (ob := [(dP (Zkt #[ms E_iiii L0, vi a1] (L0) (a1)    1), true)]) (by kernel_rfl) (Za (Zg (ZpK #[ms E_iiii L0, vi a1] (L0) (a1)   N c0  1 rfl (by decide) (by decide))) Ze) rfl (by decide) (by rfl) rr trivial (Zj _ rfl)
 | r1 y0_0 =>
  refine Zn (fun g1 => ?_) (fun g1 => ?_)
  ·
   exact Zm Zl (r := (.r0 ((-1 : Int)) ((0 : Int)) : ZaP)) (fu := 4000) (orc := (Zi [(0, true)] [] [] [] [(0, (Zku (L0) (a1)  y0_0  1))])) (live := []) (u := Value.agg #[vi (-1 : Int), vq]) (bl := []) (ob := [(((y0_0.length : Int) == (0 : Int)), true), (dP (Zhf #[ms E_iiii L0, vi a1] (L0) (a1)  y0_0  1), true)]) (by kernel_rfl) (oT <| Za (Zg (Zkv #[ms E_iiii L0, vi a1] (L0) (a1)  y0_0 N c0  1 rfl (by decide) (by decide))) Ze) rfl (by decide) (by rfl) rr trivial (Zj _ rfl)
  ·
   refine Zn (fun g2 => ?_) (fun g2 => ?_)
   ·
    exact Zm Zl (r := (.r0 ((y0_0.getD (y0_0.length - 1) R_ii.z).a0) ((y0_0.getD (y0_0.length - 1) R_ii.z).a1) : ZaP)) (fu := 4000) (orc := (Zi [(0, false)] [(0, (((y0_0.length - 1) : Nat) : Int))] [(0, (y0_0.length - 1))] [(0, [.i (y0_0.getD (y0_0.length - 1) R_ii.z).a0, .i (y0_0.getD (y0_0.length - 1) R_ii.z).a1])] [(0, (Zku (L0) (a1)  y0_0  1))])) (live := []) (u := Value.agg #[vi (y0_0.getD (y0_0.length - 1) R_ii.z).a0, vi (y0_0.getD (y0_0.length - 1) R_ii.z).a1]) (bl := []) (ob := [(Zas (Z7 2 (List.drop (0 + ((y0_0.length - 1) * 2)) (Zb Zd y0_0))) [.i (y0_0.getD (y0_0.length - 1) R_ii.z).a0, .i (y0_0.getD (y0_0.length - 1) R_ii.z).a1], true), (Nat.blt (y0_0.length - 1) y0_0.length, true), ((((y0_0.length - 1) : Nat) : Int) == Int.ofNat (y0_0.length - 1), true), ((IntKind.i64.wrap ((y0_0.length : Int) - (1 : Int))) == (((y0_0.length - 1) : Nat) : Int), true), (((y0_0.length : Int) == (0 : Int)), false), (dP (Zhf #[ms E_iiii L0, vi a1] (L0) (a1)  y0_0  1), true)]) (by kernel_rfl) (Za (ZS (E := Zd) (L := y0_0) (i := (y0_0.length - 1)) (q := 0) (by omega) (show (0 + ((y0_0.length - 1) * 2)) = (y0_0.length - 1) * 2 + 0 from by omega) (show 0 + 2 ≤ 2 from by decide) rfl rfl) <| oB <| oI <| Za (beq_iff_eq.2 ((wrap_i64 ltA).trans (by first | rfl | omega))) <| oF <| Za (Zg (Zkv #[ms E_iiii L0, vi a1] (L0) (a1)  y0_0 N c0  1 rfl (by decide) (by decide))) Ze) rfl (by decide) (by rfl) rr trivial (Zj _ rfl)
   ·
    exact Zay

theorem Zmw (L0 : List RA) (a1 : Int) (N : Nat) (r : ZaP) (h : ref12_branch L0 a1 N = some r) : LSpec Tryz.prog 41 #[ms E_iiii L0, vi a1] [] (Zkw L0 a1 r) (Zjq L0 a1 r) :=
 (Zoa L0 a1 N) r h

noncomputable def ZeB (L0 : List RA) (a1 w0 w1 : Int) (n : Nat) : Zaj := .call [] (Value.agg #[vi w0, vi w1]) [] 0
def Zd3 (A : Array Value) (L0 : List RA) (a1 w0 w1 : Int) (n : Nat) : Prop := Zz Tryz.prog 41 A [] (Value.agg #[vi w0, vi w1]) [] n 0

theorem ZeC (A : Array Value) (L0 : List RA) (a1 w0 w1 : Int) (N : Nat) (h : ref12_branch L0 a1 N = some (.r0 w0 w1)) (n : Nat) (hA : A = #[ms E_iiii L0, vi a1]) (hnd : ([] : List Nat).Nodup) (hlt : ∀ k ∈ ([] : List Nat), k < n) : Zd3 A L0 a1 w0 w1  n :=
 ZC hA (LSpec.callL (show LSpec Tryz.prog 41 #[ms E_iiii L0, vi a1] [] (Value.agg #[vi w0, vi w1]) [] from Zmw L0 a1 N _ h) [] n [] rfl hnd hlt (show 0 ≤ 0 from by decide) (show ∀ j ∈ ([] : List Nat), j < 0 from by decide) (by rfl) trivial (by rfl) trivial trivial rfl rfl rfl rfl rfl)

noncomputable def ZlK (L0 : List RA) : Zw → Value
 | .r0 w0 => vi w0
noncomputable def Zkx (L0 : List RA) : Zw → List (Option AObj)
 | .r0 w0 => []

def ZpL : Zx → Nat
 | .h1m0 v1 => 1
 | .h1m1 v1 v2 => 1
 | .h2m0 v1 => 2
noncomputable def Zr0 (L0 : List RA) : Zx → List (Nat × Value)
 | .h1m0 v1 => [(0, ms E_iiii L0), (3, vn), (4, vi (v1 : Int))]
 | .h1m1 v1 v2 => [(0, ms E_iiii L0), (3, vs 0 0 v1.length v1.length), (4, vi (v2 : Int))]
 | .h2m0 v1 => [(0, ms E_iiii L0), (7, vi (v1 : Int))]
noncomputable def Zr1 (L0 : List RA) : Zx → List (Option AObj)
 | .h1m0 v1 => []
 | .h1m1 v1 v2 => [some (.cells (Zb Zd v1) 82)]
 | .h2m0 v1 => []

noncomputable def Zbq : Nat → Code × List ZaI
 | 1 => Zb3 [1, 1, 1, 0, 1, 3] (Zc8 Tryz.f29) []
 | 2 => Zb3 [1, 1, 1, 1, 1, 0, 1, 3] (Zc8 Tryz.f29) []
 | _ => (.skip, [])
def Zky : Nat → Bool
 | 1 => true
 | 2 => true
 | _ => true
noncomputable def Zcj (i : Nat) : List ZaI := match Zky i with | true => .rnd i :: (Zbq i).2 | false => (Zbq i).2

noncomputable def ZX (L0 : List RA) (N : Nat) : Mach := ⟨Tryz.f29, [], Zx, Zw, ref12_WrongStep L0 N, ZpL, Zbq, Zky, Zr0 L0, Zr1 L0, ZlK L0, Zkx L0⟩

theorem Zmx (L0 : List RA) (v1 N : Nat) : (ZX L0 N).Ok Tryz.prog ZG (.h1m0 v1 : Zx) (ref12_WrongStep L0 N (.h1m0 v1 : Zx)) := by
 show (ZX L0 N).Ok Tryz.prog ZG (.h1m0 v1 : Zx) (ref12_Wrong_h1m0 L0 N v1)
 unfold ref12_Wrong_h1m0
 refine Mach.ok_ite (fun g0 => ?_) (fun g0 => ?_)
 ·
  refine Mach.ok_bind (fun z1 c1 => ?_)
  cases z1 with
  | r0 =>
   refine Mach.ok_bind (fun z2 c2 => ?_)
   cases z2 with
   | r0 y2_0 =>
    refine Mach.ok_ite (fun g3 => ?_) (fun g3 => ?_)
    ·
     exact Mach.ok_fin (M := ZX L0 N) (cd := 1000000) (cm := 0) (r := (.r0 ((v1 : Int)) : Zw)) (fu := 4000) (orc := (Zi [(0, true), (1, true)] [] [(0, v1), (1, v1)] [(0, [.i (L0.getD v1 RA.z).a0, .i (L0.getD v1 RA.z).a1, .i (L0.getD v1 RA.z).a2, .i (L0.getD v1 RA.z).a3]), (1, [.i (L0.getD v1 RA.z).a0, .i (L0.getD v1 RA.z).a1, .i (L0.getD v1 RA.z).a2, .i (L0.getD v1 RA.z).a3])] [(0, (Zij ((L0.getD v1 RA.z).a0) ((L0.getD v1 RA.z).a1) ((L0.getD v1 RA.z).a2) ((L0.getD v1 RA.z).a3) ((v1 : Int))    0)), (1, (ZbO ((L0.getD v1 RA.z).a0) ((L0.getD v1 RA.z).a1) ((L0.getD v1 RA.z).a2) ((L0.getD v1 RA.z).a3)  y2_0  1))])) (live := []) (u := vi (v1 : Int)) (bl := []) (ob := [((!y2_0), true), (dP (ZbE #[Value.agg #[vi (L0.getD v1 RA.z).a0, vi (L0.getD v1 RA.z).a1, vi (L0.getD v1 RA.z).a2, vi (L0.getD v1 RA.z).a3]] ((L0.getD v1 RA.z).a0) ((L0.getD v1 RA.z).a1) ((L0.getD v1 RA.z).a2) ((L0.getD v1 RA.z).a3)  y2_0  1), true), (dP (ZH (code (Z9 E_iiii L0)) (0 + (v1 * 4)) 4 = some [.i (L0.getD v1 RA.z).a0, .i (L0.getD v1 RA.z).a1, .i (L0.getD v1 RA.z).a2, .i (L0.getD v1 RA.z).a3]), true), (Nat.blt v1 L0.length, true), ((v1 : Int) == Int.ofNat v1, true), (dP (ZfM #[vn, Value.agg #[vi (L0.getD v1 RA.z).a0, vi (L0.getD v1 RA.z).a1, vi (L0.getD v1 RA.z).a2, vi (L0.getD v1 RA.z).a3], vi (v1 : Int)] ((L0.getD v1 RA.z).a0) ((L0.getD v1 RA.z).a1) ((L0.getD v1 RA.z).a2) ((L0.getD v1 RA.z).a3) ((v1 : Int))    0), true), (dP (ZH (code (Z9 E_iiii L0)) (0 + (v1 * 4)) 4 = some [.i (L0.getD v1 RA.z).a0, .i (L0.getD v1 RA.z).a1, .i (L0.getD v1 RA.z).a2, .i (L0.getD v1 RA.z).a3]), true), (Nat.blt v1 L0.length, true), ((v1 : Int) == Int.ofNat v1, true), ((decide ((v1 : Int) < (L0.length : Int))), true)]) (fun gv => by kernel_rfl) (Za (ZdL (by first | assumption | simp_all)) <| Za (Zg (ZbP #[Value.agg #[vi (L0.getD v1 RA.z).a0, vi (L0.getD v1 RA.z).a1, vi (L0.getD v1 RA.z).a2, vi (L0.getD v1 RA.z).a3]] ((L0.getD v1 RA.z).a0) ((L0.getD v1 RA.z).a1) ((L0.getD v1 RA.z).a2) ((L0.getD v1 RA.z).a3)  y2_0 N c2  1 rfl (by decide) (by decide))) <| Za (Zg (Zt (E := E_iiii) (L := L0) (i := v1) (q := 0) (by omega) (show (0 + (v1 * 4)) = v1 * 4 + 0 from by omega) (show 0 + 4 ≤ 4 from by decide) rfl)) <| oB <| oI <| Za (Zg (Zik #[vn, Value.agg #[vi (L0.getD v1 RA.z).a0, vi (L0.getD v1 RA.z).a1, vi (L0.getD v1 RA.z).a2, vi (L0.getD v1 RA.z).a3], vi (v1 : Int)] ((L0.getD v1 RA.z).a0) ((L0.getD v1 RA.z).a1) ((L0.getD v1 RA.z).a2) ((L0.getD v1 RA.z).a3) ((v1 : Int))   N c1  0 rfl (by decide) (by decide))) <| Za (Zg (Zt (E := E_iiii) (L := L0) (i := v1) (q := 0) (by omega) (show (0 + (v1 * 4)) = v1 * 4 + 0 from by omega) (show 0 + 4 ≤ 4 from by decide) rfl)) <| oB <| oI <| oY Ze) rfl (by decide) (by rfl) rr trivial
    ·
     refine Mach.ok_ite (fun g4 => ?_) (fun g4 => ?_)
     ·
      exact Mach.ok_next (M := ZX L0 N) (cd := 1000000) (cm := 0) (y := (.h1m1 (([(⟨(v1 : Int), (0 : Int)⟩ : R_ii)] : List R_ii)) ((v1 + 1)) : Zx)) (fu := 4000) (orc := (Zi [(0, true), (1, false)] [(0, (((v1 + 1) : Nat) : Int))] [(0, v1), (1, v1)] [(0, [.i (L0.getD v1 RA.z).a0, .i (L0.getD v1 RA.z).a1, .i (L0.getD v1 RA.z).a2, .i (L0.getD v1 RA.z).a3]), (1, [.i (L0.getD v1 RA.z).a0, .i (L0.getD v1 RA.z).a1, .i (L0.getD v1 RA.z).a2, .i (L0.getD v1 RA.z).a3])] [(0, (Zij ((L0.getD v1 RA.z).a0) ((L0.getD v1 RA.z).a1) ((L0.getD v1 RA.z).a2) ((L0.getD v1 RA.z).a3) ((v1 : Int))    0)), (1, (ZbO ((L0.getD v1 RA.z).a0) ((L0.getD v1 RA.z).a1) ((L0.getD v1 RA.z).a2) ((L0.getD v1 RA.z).a3)  y2_0  1))])) (live := [0]) (tv := fun _ => [some (ms E_iiii L0), some (vs 0 0 1 1), some (vi (((v1 + 1) : Nat) : Int))]) (bl := [some (.cells (Zb Zd ([(⟨(v1 : Int), (0 : Int)⟩ : R_ii)] : List R_ii)) 82)]) (ob := [((IntKind.i64.wrap ((v1 : Int) + (1 : Int))) == (((v1 + 1) : Nat) : Int), true), ((!y2_0), false), (dP (ZbE #[Value.agg #[vi (L0.getD v1 RA.z).a0, vi (L0.getD v1 RA.z).a1, vi (L0.getD v1 RA.z).a2, vi (L0.getD v1 RA.z).a3]] ((L0.getD v1 RA.z).a0) ((L0.getD v1 RA.z).a1) ((L0.getD v1 RA.z).a2) ((L0.getD v1 RA.z).a3)  y2_0  1), true), (dP (ZH (code (Z9 E_iiii L0)) (0 + (v1 * 4)) 4 = some [.i (L0.getD v1 RA.z).a0, .i (L0.getD v1 RA.z).a1, .i (L0.getD v1 RA.z).a2, .i (L0.getD v1 RA.z).a3]), true), (Nat.blt v1 L0.length, true), ((v1 : Int) == Int.ofNat v1, true), (dP (ZfM #[vn, Value.agg #[vi (L0.getD v1 RA.z).a0, vi (L0.getD v1 RA.z).a1, vi (L0.getD v1 RA.z).a2, vi (L0.getD v1 RA.z).a3], vi (v1 : Int)] ((L0.getD v1 RA.z).a0) ((L0.getD v1 RA.z).a1) ((L0.getD v1 RA.z).a2) ((L0.getD v1 RA.z).a3) ((v1 : Int))    0), true), (dP (ZH (code (Z9 E_iiii L0)) (0 + (v1 * 4)) 4 = some [.i (L0.getD v1 RA.z).a0, .i (L0.getD v1 RA.z).a1, .i (L0.getD v1 RA.z).a2, .i (L0.getD v1 RA.z).a3]), true), (Nat.blt v1 L0.length, true), ((v1 : Int) == Int.ofNat v1, true), ((decide ((v1 : Int) < (L0.length : Int))), true)]) rfl (show 1 ∈ Z1 (Zcj 1) from by decide +kernel) (fun gv => by kernel_rfl) (Za (beq_iff_eq.2 ((wrap_i64 ltA).trans (by first | rfl | omega))) <| Za (Zdc (by first | assumption | exact Decidable.not_not.1 (by assumption) | simp_all)) <| Za (Zg (ZbP #[Value.agg #[vi (L0.getD v1 RA.z).a0, vi (L0.getD v1 RA.z).a1, vi (L0.getD v1 RA.z).a2, vi (L0.getD v1 RA.z).a3]] ((L0.getD v1 RA.z).a0) ((L0.getD v1 RA.z).a1) ((L0.getD v1 RA.z).a2) ((L0.getD v1 RA.z).a3)  y2_0 N c2  1 rfl (by decide) (by decide))) <| Za (Zg (Zt (E := E_iiii) (L := L0) (i := v1) (q := 0) (by omega) (show (0 + (v1 * 4)) = v1 * 4 + 0 from by omega) (show 0 + 4 ≤ 4 from by decide) rfl)) <| oB <| oI <| Za (Zg (Zik #[vn, Value.agg #[vi (L0.getD v1 RA.z).a0, vi (L0.getD v1 RA.z).a1, vi (L0.getD v1 RA.z).a2, vi (L0.getD v1 RA.z).a3], vi (v1 : Int)] ((L0.getD v1 RA.z).a0) ((L0.getD v1 RA.z).a1) ((L0.getD v1 RA.z).a2) ((L0.getD v1 RA.z).a3) ((v1 : Int))   N c1  0 rfl (by decide) (by decide))) <| Za (Zg (Zt (E := E_iiii) (L := L0) (i := v1) (q := 0) (by omega) (show (0 + (v1 * 4)) = v1 * 4 + 0 from by omega) (show 0 + 4 ≤ 4 from by decide) rfl)) <| oB <| oI <| oY Ze) rfl (by decide) (by rfl) (fun _ => ⟨rr, ⟨⟨Eq.trans (show (vs 0 0 ([(⟨(v1 : Int), (0 : Int)⟩ : R_ii)] : List R_ii).length ([(⟨(v1 : Int), (0 : Int)⟩ : R_ii)] : List R_ii).length : Value) = vs 0 0 1 1 from (Zaf rfl eqA eqA)) (by rfl), by rfl⟩, ⟨rr, trivial⟩⟩⟩) ⟨(Zf (E := Zd) (α := R_ii) _ ([(⟨(v1 : Int), (0 : Int)⟩ : R_ii)] : List R_ii) _), trivial⟩
     ·
      exact Mach.ok_none
  | r1 y1_0 =>
   refine Mach.ok_bind (fun z2 c2 => ?_)
   cases z2 with
   | r0 y2_0 =>
    refine Mach.ok_ite (fun g3 => ?_) (fun g3 => ?_)
    ·
     exact Mach.ok_fin (M := ZX L0 N) (cd := 1000000) (cm := 0) (r := (.r0 ((v1 : Int)) : Zw)) (fu := 4000) (orc := (Zi [(0, true), (1, true)] [] [(0, v1), (1, v1)] [(0, [.i (L0.getD v1 RA.z).a0, .i (L0.getD v1 RA.z).a1, .i (L0.getD v1 RA.z).a2, .i (L0.getD v1 RA.z).a3]), (1, [.i (L0.getD v1 RA.z).a0, .i (L0.getD v1 RA.z).a1, .i (L0.getD v1 RA.z).a2, .i (L0.getD v1 RA.z).a3])] [(0, (ZfN ((L0.getD v1 RA.z).a0) ((L0.getD v1 RA.z).a1) ((L0.getD v1 RA.z).a2) ((L0.getD v1 RA.z).a3) ((v1 : Int))  y1_0  0)), (1, (ZbO ((L0.getD v1 RA.z).a0) ((L0.getD v1 RA.z).a1) ((L0.getD v1 RA.z).a2) ((L0.getD v1 RA.z).a3)  y2_0  0))])) (live := []) (u := vi (v1 : Int)) (bl := []) (ob := [((!y2_0), true), (dP (ZbE #[Value.agg #[vi (L0.getD v1 RA.z).a0, vi (L0.getD v1 RA.z).a1, vi (L0.getD v1 RA.z).a2, vi (L0.getD v1 RA.z).a3]] ((L0.getD v1 RA.z).a0) ((L0.getD v1 RA.z).a1) ((L0.getD v1 RA.z).a2) ((L0.getD v1 RA.z).a3)  y2_0  0), true), (dP (ZH (code (Z9 E_iiii L0)) (0 + (v1 * 4)) 4 = some [.i (L0.getD v1 RA.z).a0, .i (L0.getD v1 RA.z).a1, .i (L0.getD v1 RA.z).a2, .i (L0.getD v1 RA.z).a3]), true), (Nat.blt v1 L0.length, true), ((v1 : Int) == Int.ofNat v1, true), (dP (Zer #[vn, Value.agg #[vi (L0.getD v1 RA.z).a0, vi (L0.getD v1 RA.z).a1, vi (L0.getD v1 RA.z).a2, vi (L0.getD v1 RA.z).a3], vi (v1 : Int)] ((L0.getD v1 RA.z).a0) ((L0.getD v1 RA.z).a1) ((L0.getD v1 RA.z).a2) ((L0.getD v1 RA.z).a3) ((v1 : Int))  y1_0  0), true), (dP (ZH (code (Z9 E_iiii L0)) (0 + (v1 * 4)) 4 = some [.i (L0.getD v1 RA.z).a0, .i (L0.getD v1 RA.z).a1, .i (L0.getD v1 RA.z).a2, .i (L0.getD v1 RA.z).a3]), true), (Nat.blt v1 L0.length, true), ((v1 : Int) == Int.ofNat v1, true), ((decide ((v1 : Int) < (L0.length : Int))), true)]) (fun gv => by kernel_rfl) (Za (ZdL (by first | assumption | simp_all)) <| Za (Zg (ZbP #[Value.agg #[vi (L0.getD v1 RA.z).a0, vi (L0.getD v1 RA.z).a1, vi (L0.getD v1 RA.z).a2, vi (L0.getD v1 RA.z).a3]] ((L0.getD v1 RA.z).a0) ((L0.getD v1 RA.z).a1) ((L0.getD v1 RA.z).a2) ((L0.getD v1 RA.z).a3)  y2_0 N c2  0 rfl (by decide) (by decide))) <| Za (Zg (Zt (E := E_iiii) (L := L0) (i := v1) (q := 0) (by omega) (show (0 + (v1 * 4)) = v1 * 4 + 0 from by omega) (show 0 + 4 ≤ 4 from by decide) rfl)) <| oB <| oI <| Za (Zg (ZfO #[vn, Value.agg #[vi (L0.getD v1 RA.z).a0, vi (L0.getD v1 RA.z).a1, vi (L0.getD v1 RA.z).a2, vi (L0.getD v1 RA.z).a3], vi (v1 : Int)] ((L0.getD v1 RA.z).a0) ((L0.getD v1 RA.z).a1) ((L0.getD v1 RA.z).a2) ((L0.getD v1 RA.z).a3) ((v1 : Int))  y1_0 N c1  0 rfl (by decide) (by decide))) <| Za (Zg (Zt (E := E_iiii) (L := L0) (i := v1) (q := 0) (by omega) (show (0 + (v1 * 4)) = v1 * 4 + 0 from by omega) (show 0 + 4 ≤ 4 from by decide) rfl)) <| oB <| oI <| oY Ze) rfl (by decide) (by rfl) rr trivial
    ·
     refine Mach.ok_ite (fun g4 => ?_) (fun g4 => ?_)
     ·
      exact Mach.ok_fin (M := ZX L0 N) (cd := 1000000) (cm := 0) (r := (.r0 ((v1 : Int)) : Zw)) (fu := 4000) (orc := (Zi [(0, true), (1, false), (2, true)] [] [(0, v1), (1, v1)] [(0, [.i (L0.getD v1 RA.z).a0, .i (L0.getD v1 RA.z).a1, .i (L0.getD v1 RA.z).a2, .i (L0.getD v1 RA.z).a3]), (1, [.i (L0.getD v1 RA.z).a0, .i (L0.getD v1 RA.z).a1, .i (L0.getD v1 RA.z).a2, .i (L0.getD v1 RA.z).a3])] [(0, (ZfN ((L0.getD v1 RA.z).a0) ((L0.getD v1 RA.z).a1) ((L0.getD v1 RA.z).a2) ((L0.getD v1 RA.z).a3) ((v1 : Int))  y1_0  0)), (1, (ZbO ((L0.getD v1 RA.z).a0) ((L0.getD v1 RA.z).a1) ((L0.getD v1 RA.z).a2) ((L0.getD v1 RA.z).a3)  y2_0  0))])) (live := []) (u := vi (v1 : Int)) (bl := []) (ob := [((!y1_0), true), ((!y2_0), false), (dP (ZbE #[Value.agg #[vi (L0.getD v1 RA.z).a0, vi (L0.getD v1 RA.z).a1, vi (L0.getD v1 RA.z).a2, vi (L0.getD v1 RA.z).a3]] ((L0.getD v1 RA.z).a0) ((L0.getD v1 RA.z).a1) ((L0.getD v1 RA.z).a2) ((L0.getD v1 RA.z).a3)  y2_0  0), true), (dP (ZH (code (Z9 E_iiii L0)) (0 + (v1 * 4)) 4 = some [.i (L0.getD v1 RA.z).a0, .i (L0.getD v1 RA.z).a1, .i (L0.getD v1 RA.z).a2, .i (L0.getD v1 RA.z).a3]), true), (Nat.blt v1 L0.length, true), ((v1 : Int) == Int.ofNat v1, true), (dP (Zer #[vn, Value.agg #[vi (L0.getD v1 RA.z).a0, vi (L0.getD v1 RA.z).a1, vi (L0.getD v1 RA.z).a2, vi (L0.getD v1 RA.z).a3], vi (v1 : Int)] ((L0.getD v1 RA.z).a0) ((L0.getD v1 RA.z).a1) ((L0.getD v1 RA.z).a2) ((L0.getD v1 RA.z).a3) ((v1 : Int))  y1_0  0), true), (dP (ZH (code (Z9 E_iiii L0)) (0 + (v1 * 4)) 4 = some [.i (L0.getD v1 RA.z).a0, .i (L0.getD v1 RA.z).a1, .i (L0.getD v1 RA.z).a2, .i (L0.getD v1 RA.z).a3]), true), (Nat.blt v1 L0.length, true), ((v1 : Int) == Int.ofNat v1, true), ((decide ((v1 : Int) < (L0.length : Int))), true)]) (fun gv => by kernel_rfl) (Za (ZdL (by first | assumption | simp_all)) <| Za (Zdc (by first | assumption | exact Decidable.not_not.1 (by assumption) | simp_all)) <| Za (Zg (ZbP #[Value.agg #[vi (L0.getD v1 RA.z).a0, vi (L0.getD v1 RA.z).a1, vi (L0.getD v1 RA.z).a2, vi (L0.getD v1 RA.z).a3]] ((L0.getD v1 RA.z).a0) ((L0.getD v1 RA.z).a1) ((L0.getD v1 RA.z).a2) ((L0.getD v1 RA.z).a3)  y2_0 N c2  0 rfl (by decide) (by decide))) <| Za (Zg (Zt (E := E_iiii) (L := L0) (i := v1) (q := 0) (by omega) (show (0 + (v1 * 4)) = v1 * 4 + 0 from by omega) (show 0 + 4 ≤ 4 from by decide) rfl)) <| oB <| oI <| Za (Zg (ZfO #[vn, Value.agg #[vi (L0.getD v1 RA.z).a0, vi (L0.getD v1 RA.z).a1, vi (L0.getD v1 RA.z).a2, vi (L0.getD v1 RA.z).a3], vi (v1 : Int)] ((L0.getD v1 RA.z).a0) ((L0.getD v1 RA.z).a1) ((L0.getD v1 RA.z).a2) ((L0.getD v1 RA.z).a3) ((v1 : Int))  y1_0 N c1  0 rfl (by decide) (by decide))) <| Za (Zg (Zt (E := E_iiii) (L := L0) (i := v1) (q := 0) (by omega) (show (0 + (v1 * 4)) = v1 * 4 + 0 from by omega) (show 0 + 4 ≤ 4 from by decide) rfl)) <| oB <| oI <| oY Ze) rfl (by decide) (by rfl) rr trivial
     ·
      refine Mach.ok_ite (fun g5 => ?_) (fun g5 => ?_)
      ·
       exact Mach.ok_next (M := ZX L0 N) (cd := 1000000) (cm := 0) (y := (.h1m0 ((v1 + 1)) : Zx)) (fu := 4000) (orc := (Zi [(0, true), (1, false), (2, false)] [(0, (((v1 + 1) : Nat) : Int))] [(0, v1), (1, v1)] [(0, [.i (L0.getD v1 RA.z).a0, .i (L0.getD v1 RA.z).a1, .i (L0.getD v1 RA.z).a2, .i (L0.getD v1 RA.z).a3]), (1, [.i (L0.getD v1 RA.z).a0, .i (L0.getD v1 RA.z).a1, .i (L0.getD v1 RA.z).a2, .i (L0.getD v1 RA.z).a3])] [(0, (ZfN ((L0.getD v1 RA.z).a0) ((L0.getD v1 RA.z).a1) ((L0.getD v1 RA.z).a2) ((L0.getD v1 RA.z).a3) ((v1 : Int))  y1_0  0)), (1, (ZbO ((L0.getD v1 RA.z).a0) ((L0.getD v1 RA.z).a1) ((L0.getD v1 RA.z).a2) ((L0.getD v1 RA.z).a3)  y2_0  0))])) (live := []) (tv := fun _ => [some (ms E_iiii L0), some (vn), some (vi (((v1 + 1) : Nat) : Int))]) (bl := []) (ob := [((IntKind.i64.wrap ((v1 : Int) + (1 : Int))) == (((v1 + 1) : Nat) : Int), true), ((!y1_0), false), ((!y2_0), false), (dP (ZbE #[Value.agg #[vi (L0.getD v1 RA.z).a0, vi (L0.getD v1 RA.z).a1, vi (L0.getD v1 RA.z).a2, vi (L0.getD v1 RA.z).a3]] ((L0.getD v1 RA.z).a0) ((L0.getD v1 RA.z).a1) ((L0.getD v1 RA.z).a2) ((L0.getD v1 RA.z).a3)  y2_0  0), true), (dP (ZH (code (Z9 E_iiii L0)) (0 + (v1 * 4)) 4 = some [.i (L0.getD v1 RA.z).a0, .i (L0.getD v1 RA.z).a1, .i (L0.getD v1 RA.z).a2, .i (L0.getD v1 RA.z).a3]), true), (Nat.blt v1 L0.length, true), ((v1 : Int) == Int.ofNat v1, true), (dP (Zer #[vn, Value.agg #[vi (L0.getD v1 RA.z).a0, vi (L0.getD v1 RA.z).a1, vi (L0.getD v1 RA.z).a2, vi (L0.getD v1 RA.z).a3], vi (v1 : Int)] ((L0.getD v1 RA.z).a0) ((L0.getD v1 RA.z).a1) ((L0.getD v1 RA.z).a2) ((L0.getD v1 RA.z).a3) ((v1 : Int))  y1_0  0), true), (dP (ZH (code (Z9 E_iiii L0)) (0 + (v1 * 4)) 4 = some [.i (L0.getD v1 RA.z).a0, .i (L0.getD v1 RA.z).a1, .i (L0.getD v1 RA.z).a2, .i (L0.getD v1 RA.z).a3]), true), (Nat.blt v1 L0.length, true), ((v1 : Int) == Int.ofNat v1, true), ((decide ((v1 : Int) < (L0.length : Int))), true)]) rfl (show 1 ∈ Z1 (Zcj 1) from by decide +kernel) (fun gv => by kernel_rfl) (Za (beq_iff_eq.2 ((wrap_i64 ltA).trans (by first | rfl | omega))) <| Za (Zdc (by first | assumption | exact Decidable.not_not.1 (by assumption) | simp_all)) <| Za (Zdc (by first | assumption | exact Decidable.not_not.1 (by assumption) | simp_all)) <| Za (Zg (ZbP #[Value.agg #[vi (L0.getD v1 RA.z).a0, vi (L0.getD v1 RA.z).a1, vi (L0.getD v1 RA.z).a2, vi (L0.getD v1 RA.z).a3]] ((L0.getD v1 RA.z).a0) ((L0.getD v1 RA.z).a1) ((L0.getD v1 RA.z).a2) ((L0.getD v1 RA.z).a3)  y2_0 N c2  0 rfl (by decide) (by decide))) <| Za (Zg (Zt (E := E_iiii) (L := L0) (i := v1) (q := 0) (by omega) (show (0 + (v1 * 4)) = v1 * 4 + 0 from by omega) (show 0 + 4 ≤ 4 from by decide) rfl)) <| oB <| oI <| Za (Zg (ZfO #[vn, Value.agg #[vi (L0.getD v1 RA.z).a0, vi (L0.getD v1 RA.z).a1, vi (L0.getD v1 RA.z).a2, vi (L0.getD v1 RA.z).a3], vi (v1 : Int)] ((L0.getD v1 RA.z).a0) ((L0.getD v1 RA.z).a1) ((L0.getD v1 RA.z).a2) ((L0.getD v1 RA.z).a3) ((v1 : Int))  y1_0 N c1  0 rfl (by decide) (by decide))) <| Za (Zg (Zt (E := E_iiii) (L := L0) (i := v1) (q := 0) (by omega) (show (0 + (v1 * 4)) = v1 * 4 + 0 from by omega) (show 0 + 4 ≤ 4 from by decide) rfl)) <| oB <| oI <| oY Ze) rfl (by decide) (by rfl) (fun _ => ⟨rr, ⟨rr, ⟨rr, trivial⟩⟩⟩) trivial
      ·
       exact Mach.ok_none
 ·
  exact Mach.ok_head (bK := Zbq 2) (M := ZX L0 N) (cd := 1000000) (cm := 0) (y := (.h2m0 (0) : Zx)) (fu := 4000) (orc := (Zi [(0, false)] [] [] [] [])) (live := []) (tv := fun _ => [some (ms E_iiii L0), some (vq)]) (bl := []) (ob := [((decide ((v1 : Int) < (L0.length : Int))), false)]) rfl rfl (show ∀ j ∈ Z1 (Zbq 2).2, j ∈ Z1 (Zcj 1) from by decide +kernel) (fun gv => by kernel_rfl) (oN Ze) rfl (by decide) (by rfl) (fun _ => ⟨rr, ⟨⟨Eq.trans (show (vi ((0 : Nat) : Int) : Value) = vq from (congrArg (Value.int .i64) (by first | rfl | omega))) (by rfl), by rfl⟩, trivial⟩⟩) trivial

theorem Zmy (L0 : List RA) (v1 : List R_ii) (v2 N : Nat) : (ZX L0 N).Ok Tryz.prog ZG (.h1m1 v1 v2 : Zx) (ref12_WrongStep L0 N (.h1m1 v1 v2 : Zx)) := by
 show (ZX L0 N).Ok Tryz.prog ZG (.h1m1 v1 v2 : Zx) (ref12_Wrong_h1m1 L0 N v1 v2)
 unfold ref12_Wrong_h1m1
 refine Mach.ok_ite (fun g0 => ?_) (fun g0 => ?_)
 ·
  refine Mach.ok_bind (fun z1 c1 => ?_)
  cases z1 with
  | r0 y1_0 =>
   refine Mach.ok_bind (fun z2 c2 => ?_)
   cases z2 with
   | r0 y2_0 =>
    refine Mach.ok_ite (fun g3 => ?_) (fun g3 => ?_)
    ·
     exact Mach.ok_fin (M := ZX L0 N) (cd := 1000000) (cm := 0) (r := (.r0 ((v2 : Int)) : Zw)) (fu := 4000) (orc := (Zi [(0, true), (1, true)] [] [(0, v2), (1, v2)] [(0, [.i (L0.getD v2 RA.z).a0, .i (L0.getD v2 RA.z).a1, .i (L0.getD v2 RA.z).a2, .i (L0.getD v2 RA.z).a3]), (1, [.i (L0.getD v2 RA.z).a0, .i (L0.getD v2 RA.z).a1, .i (L0.getD v2 RA.z).a2, .i (L0.getD v2 RA.z).a3])] [(0, (Ze7 (v1) ((L0.getD v2 RA.z).a0) ((L0.getD v2 RA.z).a1) ((L0.getD v2 RA.z).a2) ((L0.getD v2 RA.z).a3) ((v2 : Int))  y1_0 0 1)), (1, (ZbO ((L0.getD v2 RA.z).a0) ((L0.getD v2 RA.z).a1) ((L0.getD v2 RA.z).a2) ((L0.getD v2 RA.z).a3)  y2_0  1))])) (live := []) (u := vi (v2 : Int)) (bl := []) (ob := [((!y2_0), true), (dP (ZbE #[Value.agg #[vi (L0.getD v2 RA.z).a0, vi (L0.getD v2 RA.z).a1, vi (L0.getD v2 RA.z).a2, vi (L0.getD v2 RA.z).a3]] ((L0.getD v2 RA.z).a0) ((L0.getD v2 RA.z).a1) ((L0.getD v2 RA.z).a2) ((L0.getD v2 RA.z).a3)  y2_0  1), true), (dP (ZH (code (Z9 E_iiii L0)) (0 + (v2 * 4)) 4 = some [.i (L0.getD v2 RA.z).a0, .i (L0.getD v2 RA.z).a1, .i (L0.getD v2 RA.z).a2, .i (L0.getD v2 RA.z).a3]), true), (Nat.blt v2 L0.length, true), ((v2 : Int) == Int.ofNat v2, true), (dP (Zd2 #[vs 0 0 v1.length v1.length, Value.agg #[vi (L0.getD v2 RA.z).a0, vi (L0.getD v2 RA.z).a1, vi (L0.getD v2 RA.z).a2, vi (L0.getD v2 RA.z).a3], vi (v2 : Int)] (v1) ((L0.getD v2 RA.z).a0) ((L0.getD v2 RA.z).a1) ((L0.getD v2 RA.z).a2) ((L0.getD v2 RA.z).a3) ((v2 : Int))  y1_0 0 1), true), (dS (Zb Zd v1), true), (dP (ZH (code (Z9 E_iiii L0)) (0 + (v2 * 4)) 4 = some [.i (L0.getD v2 RA.z).a0, .i (L0.getD v2 RA.z).a1, .i (L0.getD v2 RA.z).a2, .i (L0.getD v2 RA.z).a3]), true), (Nat.blt v2 L0.length, true), ((v2 : Int) == Int.ofNat v2, true), ((decide ((v2 : Int) < (L0.length : Int))), true)]) (fun gv => by kernel_rfl) (Za (ZdL (by first | assumption | simp_all)) <| Za (Zg (ZbP #[Value.agg #[vi (L0.getD v2 RA.z).a0, vi (L0.getD v2 RA.z).a1, vi (L0.getD v2 RA.z).a2, vi (L0.getD v2 RA.z).a3]] ((L0.getD v2 RA.z).a0) ((L0.getD v2 RA.z).a1) ((L0.getD v2 RA.z).a2) ((L0.getD v2 RA.z).a3)  y2_0 N c2  1 rfl (by decide) (by decide))) <| Za (Zg (Zt (E := E_iiii) (L := L0) (i := v2) (q := 0) (by omega) (show (0 + (v2 * 4)) = v2 * 4 + 0 from by omega) (show 0 + 4 ≤ 4 from by decide) rfl)) <| oB <| oI <| Za (Zg (Ze8 #[vs 0 0 v1.length v1.length, Value.agg #[vi (L0.getD v2 RA.z).a0, vi (L0.getD v2 RA.z).a1, vi (L0.getD v2 RA.z).a2, vi (L0.getD v2 RA.z).a3], vi (v2 : Int)] (v1) ((L0.getD v2 RA.z).a0) ((L0.getD v2 RA.z).a1) ((L0.getD v2 RA.z).a2) ((L0.getD v2 RA.z).a3) ((v2 : Int))  y1_0 N c1 0 1 rfl (by decide) (by decide))) <| oR <| Za (Zg (Zt (E := E_iiii) (L := L0) (i := v2) (q := 0) (by omega) (show (0 + (v2 * 4)) = v2 * 4 + 0 from by omega) (show 0 + 4 ≤ 4 from by decide) rfl)) <| oB <| oI <| oY Ze) rfl (by decide) (by rfl) rr trivial
    ·
     refine Mach.ok_ite (fun g4 => ?_) (fun g4 => ?_)
     ·
      exact Mach.ok_fin (M := ZX L0 N) (cd := 1000000) (cm := 0) (r := (.r0 ((v2 : Int)) : Zw)) (fu := 4000) (orc := (Zi [(0, true), (1, false), (2, true)] [] [(0, v2), (1, v2)] [(0, [.i (L0.getD v2 RA.z).a0, .i (L0.getD v2 RA.z).a1, .i (L0.getD v2 RA.z).a2, .i (L0.getD v2 RA.z).a3]), (1, [.i (L0.getD v2 RA.z).a0, .i (L0.getD v2 RA.z).a1, .i (L0.getD v2 RA.z).a2, .i (L0.getD v2 RA.z).a3])] [(0, (Ze7 (v1) ((L0.getD v2 RA.z).a0) ((L0.getD v2 RA.z).a1) ((L0.getD v2 RA.z).a2) ((L0.getD v2 RA.z).a3) ((v2 : Int))  y1_0 0 1)), (1, (ZbO ((L0.getD v2 RA.z).a0) ((L0.getD v2 RA.z).a1) ((L0.getD v2 RA.z).a2) ((L0.getD v2 RA.z).a3)  y2_0  1))])) (live := []) (u := vi (v2 : Int)) (bl := []) (ob := [((!y1_0), true), ((!y2_0), false), (dP (ZbE #[Value.agg #[vi (L0.getD v2 RA.z).a0, vi (L0.getD v2 RA.z).a1, vi (L0.getD v2 RA.z).a2, vi (L0.getD v2 RA.z).a3]] ((L0.getD v2 RA.z).a0) ((L0.getD v2 RA.z).a1) ((L0.getD v2 RA.z).a2) ((L0.getD v2 RA.z).a3)  y2_0  1), true), (dP (ZH (code (Z9 E_iiii L0)) (0 + (v2 * 4)) 4 = some [.i (L0.getD v2 RA.z).a0, .i (L0.getD v2 RA.z).a1, .i (L0.getD v2 RA.z).a2, .i (L0.getD v2 RA.z).a3]), true), (Nat.blt v2 L0.length, true), ((v2 : Int) == Int.ofNat v2, true), (dP (Zd2 #[vs 0 0 v1.length v1.length, Value.agg #[vi (L0.getD v2 RA.z).a0, vi (L0.getD v2 RA.z).a1, vi (L0.getD v2 RA.z).a2, vi (L0.getD v2 RA.z).a3], vi (v2 : Int)] (v1) ((L0.getD v2 RA.z).a0) ((L0.getD v2 RA.z).a1) ((L0.getD v2 RA.z).a2) ((L0.getD v2 RA.z).a3) ((v2 : Int))  y1_0 0 1), true), (dS (Zb Zd v1), true), (dP (ZH (code (Z9 E_iiii L0)) (0 + (v2 * 4)) 4 = some [.i (L0.getD v2 RA.z).a0, .i (L0.getD v2 RA.z).a1, .i (L0.getD v2 RA.z).a2, .i (L0.getD v2 RA.z).a3]), true), (Nat.blt v2 L0.length, true), ((v2 : Int) == Int.ofNat v2, true), ((decide ((v2 : Int) < (L0.length : Int))), true)]) (fun gv => by kernel_rfl) (Za (ZdL (by first | assumption | simp_all)) <| Za (Zdc (by first | assumption | exact Decidable.not_not.1 (by assumption) | simp_all)) <| Za (Zg (ZbP #[Value.agg #[vi (L0.getD v2 RA.z).a0, vi (L0.getD v2 RA.z).a1, vi (L0.getD v2 RA.z).a2, vi (L0.getD v2 RA.z).a3]] ((L0.getD v2 RA.z).a0) ((L0.getD v2 RA.z).a1) ((L0.getD v2 RA.z).a2) ((L0.getD v2 RA.z).a3)  y2_0 N c2  1 rfl (by decide) (by decide))) <| Za (Zg (Zt (E := E_iiii) (L := L0) (i := v2) (q := 0) (by omega) (show (0 + (v2 * 4)) = v2 * 4 + 0 from by omega) (show 0 + 4 ≤ 4 from by decide) rfl)) <| oB <| oI <| Za (Zg (Ze8 #[vs 0 0 v1.length v1.length, Value.agg #[vi (L0.getD v2 RA.z).a0, vi (L0.getD v2 RA.z).a1, vi (L0.getD v2 RA.z).a2, vi (L0.getD v2 RA.z).a3], vi (v2 : Int)] (v1) ((L0.getD v2 RA.z).a0) ((L0.getD v2 RA.z).a1) ((L0.getD v2 RA.z).a2) ((L0.getD v2 RA.z).a3) ((v2 : Int))  y1_0 N c1 0 1 rfl (by decide) (by decide))) <| oR <| Za (Zg (Zt (E := E_iiii) (L := L0) (i := v2) (q := 0) (by omega) (show (0 + (v2 * 4)) = v2 * 4 + 0 from by omega) (show 0 + 4 ≤ 4 from by decide) rfl)) <| oB <| oI <| oY Ze) rfl (by decide) (by rfl) rr trivial
     ·
      refine Mach.ok_ite (fun g5 => ?_) (fun g5 => ?_)
      ·
       exact Mach.ok_next (M := ZX L0 N) (cd := 1000000) (cm := 0) (y := (.h1m1 (v1) ((v2 + 1)) : Zx)) (fu := 4000) (orc := (Zi [(0, true), (1, false), (2, false)] [(0, (((v2 + 1) : Nat) : Int))] [(0, v2), (1, v2)] [(0, [.i (L0.getD v2 RA.z).a0, .i (L0.getD v2 RA.z).a1, .i (L0.getD v2 RA.z).a2, .i (L0.getD v2 RA.z).a3]), (1, [.i (L0.getD v2 RA.z).a0, .i (L0.getD v2 RA.z).a1, .i (L0.getD v2 RA.z).a2, .i (L0.getD v2 RA.z).a3])] [(0, (Ze7 (v1) ((L0.getD v2 RA.z).a0) ((L0.getD v2 RA.z).a1) ((L0.getD v2 RA.z).a2) ((L0.getD v2 RA.z).a3) ((v2 : Int))  y1_0 0 1)), (1, (ZbO ((L0.getD v2 RA.z).a0) ((L0.getD v2 RA.z).a1) ((L0.getD v2 RA.z).a2) ((L0.getD v2 RA.z).a3)  y2_0  1))])) (live := [0]) (tv := fun _ => [some (ms E_iiii L0), some (vs 0 0 v1.length v1.length), some (vi (((v2 + 1) : Nat) : Int))]) (bl := [some (.cells (Zb Zd v1) 82)]) (ob := [((IntKind.i64.wrap ((v2 : Int) + (1 : Int))) == (((v2 + 1) : Nat) : Int), true), ((!y1_0), false), ((!y2_0), false), (dP (ZbE #[Value.agg #[vi (L0.getD v2 RA.z).a0, vi (L0.getD v2 RA.z).a1, vi (L0.getD v2 RA.z).a2, vi (L0.getD v2 RA.z).a3]] ((L0.getD v2 RA.z).a0) ((L0.getD v2 RA.z).a1) ((L0.getD v2 RA.z).a2) ((L0.getD v2 RA.z).a3)  y2_0  1), true), (dP (ZH (code (Z9 E_iiii L0)) (0 + (v2 * 4)) 4 = some [.i (L0.getD v2 RA.z).a0, .i (L0.getD v2 RA.z).a1, .i (L0.getD v2 RA.z).a2, .i (L0.getD v2 RA.z).a3]), true), (Nat.blt v2 L0.length, true), ((v2 : Int) == Int.ofNat v2, true), (dP (Zd2 #[vs 0 0 v1.length v1.length, Value.agg #[vi (L0.getD v2 RA.z).a0, vi (L0.getD v2 RA.z).a1, vi (L0.getD v2 RA.z).a2, vi (L0.getD v2 RA.z).a3], vi (v2 : Int)] (v1) ((L0.getD v2 RA.z).a0) ((L0.getD v2 RA.z).a1) ((L0.getD v2 RA.z).a2) ((L0.getD v2 RA.z).a3) ((v2 : Int))  y1_0 0 1), true), (dS (Zb Zd v1), true), (dP (ZH (code (Z9 E_iiii L0)) (0 + (v2 * 4)) 4 = some [.i (L0.getD v2 RA.z).a0, .i (L0.getD v2 RA.z).a1, .i (L0.getD v2 RA.z).a2, .i (L0.getD v2 RA.z).a3]), true), (Nat.blt v2 L0.length, true), ((v2 : Int) == Int.ofNat v2, true), ((decide ((v2 : Int) < (L0.length : Int))), true)]) rfl (show 1 ∈ Z1 (Zcj 1) from by decide +kernel) (fun gv => by kernel_rfl) (Za (beq_iff_eq.2 ((wrap_i64 ltA).trans (by first | rfl | omega))) <| Za (Zdc (by first | assumption | exact Decidable.not_not.1 (by assumption) | simp_all)) <| Za (Zdc (by first | assumption | exact Decidable.not_not.1 (by assumption) | simp_all)) <| Za (Zg (ZbP #[Value.agg #[vi (L0.getD v2 RA.z).a0, vi (L0.getD v2 RA.z).a1, vi (L0.getD v2 RA.z).a2, vi (L0.getD v2 RA.z).a3]] ((L0.getD v2 RA.z).a0) ((L0.getD v2 RA.z).a1) ((L0.getD v2 RA.z).a2) ((L0.getD v2 RA.z).a3)  y2_0 N c2  1 rfl (by decide) (by decide))) <| Za (Zg (Zt (E := E_iiii) (L := L0) (i := v2) (q := 0) (by omega) (show (0 + (v2 * 4)) = v2 * 4 + 0 from by omega) (show 0 + 4 ≤ 4 from by decide) rfl)) <| oB <| oI <| Za (Zg (Ze8 #[vs 0 0 v1.length v1.length, Value.agg #[vi (L0.getD v2 RA.z).a0, vi (L0.getD v2 RA.z).a1, vi (L0.getD v2 RA.z).a2, vi (L0.getD v2 RA.z).a3], vi (v2 : Int)] (v1) ((L0.getD v2 RA.z).a0) ((L0.getD v2 RA.z).a1) ((L0.getD v2 RA.z).a2) ((L0.getD v2 RA.z).a3) ((v2 : Int))  y1_0 N c1 0 1 rfl (by decide) (by decide))) <| oR <| Za (Zg (Zt (E := E_iiii) (L := L0) (i := v2) (q := 0) (by omega) (show (0 + (v2 * 4)) = v2 * 4 + 0 from by omega) (show 0 + 4 ≤ 4 from by decide) rfl)) <| oB <| oI <| oY Ze) rfl (by decide) (by rfl) (fun _ => ⟨rr, ⟨rr, ⟨rr, trivial⟩⟩⟩) ⟨(Zf (E := Zd) (α := R_ii) _ v1 _), trivial⟩
      ·
       exact Mach.ok_none
  | r1 y1_0 =>
   refine Mach.ok_bind (fun z2 c2 => ?_)
   cases z2 with
   | r0 y2_0 =>
    refine Mach.ok_ite (fun g3 => ?_) (fun g3 => ?_)
    ·
     exact Mach.ok_fin (M := ZX L0 N) (cd := 1000000) (cm := 0) (r := (.r0 ((v2 : Int)) : Zw)) (fu := 4000) (orc := (Zi [(0, true), (1, true)] [] [(0, v2), (1, v2)] [(0, [.i (L0.getD v2 RA.z).a0, .i (L0.getD v2 RA.z).a1, .i (L0.getD v2 RA.z).a2, .i (L0.getD v2 RA.z).a3]), (1, [.i (L0.getD v2 RA.z).a0, .i (L0.getD v2 RA.z).a1, .i (L0.getD v2 RA.z).a2, .i (L0.getD v2 RA.z).a3])] [(0, (Zgv (v1) ((L0.getD v2 RA.z).a0) ((L0.getD v2 RA.z).a1) ((L0.getD v2 RA.z).a2) ((L0.getD v2 RA.z).a3) ((v2 : Int))  y1_0 0 1)), (1, (ZbO ((L0.getD v2 RA.z).a0) ((L0.getD v2 RA.z).a1) ((L0.getD v2 RA.z).a2) ((L0.getD v2 RA.z).a3)  y2_0  2))])) (live := []) (u := vi (v2 : Int)) (bl := []) (ob := [((!y2_0), true), (dP (ZbE #[Value.agg #[vi (L0.getD v2 RA.z).a0, vi (L0.getD v2 RA.z).a1, vi (L0.getD v2 RA.z).a2, vi (L0.getD v2 RA.z).a3]] ((L0.getD v2 RA.z).a0) ((L0.getD v2 RA.z).a1) ((L0.getD v2 RA.z).a2) ((L0.getD v2 RA.z).a3)  y2_0  2), true), (dP (ZH (code (Z9 E_iiii L0)) (0 + (v2 * 4)) 4 = some [.i (L0.getD v2 RA.z).a0, .i (L0.getD v2 RA.z).a1, .i (L0.getD v2 RA.z).a2, .i (L0.getD v2 RA.z).a3]), true), (Nat.blt v2 L0.length, true), ((v2 : Int) == Int.ofNat v2, true), (dP (Ze9 #[vs 0 0 v1.length v1.length, Value.agg #[vi (L0.getD v2 RA.z).a0, vi (L0.getD v2 RA.z).a1, vi (L0.getD v2 RA.z).a2, vi (L0.getD v2 RA.z).a3], vi (v2 : Int)] (v1) ((L0.getD v2 RA.z).a0) ((L0.getD v2 RA.z).a1) ((L0.getD v2 RA.z).a2) ((L0.getD v2 RA.z).a3) ((v2 : Int))  y1_0 0 1), true), (dS (Zb Zd v1), true), (dP (ZH (code (Z9 E_iiii L0)) (0 + (v2 * 4)) 4 = some [.i (L0.getD v2 RA.z).a0, .i (L0.getD v2 RA.z).a1, .i (L0.getD v2 RA.z).a2, .i (L0.getD v2 RA.z).a3]), true), (Nat.blt v2 L0.length, true), ((v2 : Int) == Int.ofNat v2, true), ((decide ((v2 : Int) < (L0.length : Int))), true)]) (fun gv => by kernel_rfl) (Za (ZdL (by first | assumption | simp_all)) <| Za (Zg (ZbP #[Value.agg #[vi (L0.getD v2 RA.z).a0, vi (L0.getD v2 RA.z).a1, vi (L0.getD v2 RA.z).a2, vi (L0.getD v2 RA.z).a3]] ((L0.getD v2 RA.z).a0) ((L0.getD v2 RA.z).a1) ((L0.getD v2 RA.z).a2) ((L0.getD v2 RA.z).a3)  y2_0 N c2  2 rfl (by decide) (by decide))) <| Za (Zg (Zt (E := E_iiii) (L := L0) (i := v2) (q := 0) (by omega) (show (0 + (v2 * 4)) = v2 * 4 + 0 from by omega) (show 0 + 4 ≤ 4 from by decide) rfl)) <| oB <| oI <| Za (Zg (Zgw #[vs 0 0 v1.length v1.length, Value.agg #[vi (L0.getD v2 RA.z).a0, vi (L0.getD v2 RA.z).a1, vi (L0.getD v2 RA.z).a2, vi (L0.getD v2 RA.z).a3], vi (v2 : Int)] (v1) ((L0.getD v2 RA.z).a0) ((L0.getD v2 RA.z).a1) ((L0.getD v2 RA.z).a2) ((L0.getD v2 RA.z).a3) ((v2 : Int))  y1_0 N c1 0 1 rfl (by decide) (by decide))) <| oR <| Za (Zg (Zt (E := E_iiii) (L := L0) (i := v2) (q := 0) (by omega) (show (0 + (v2 * 4)) = v2 * 4 + 0 from by omega) (show 0 + 4 ≤ 4 from by decide) rfl)) <| oB <| oI <| oY Ze) rfl (by decide) (by rfl) rr trivial
    ·
     refine Mach.ok_ite (fun g4 => ?_) (fun g4 => ?_)
     ·
      exact Mach.ok_next (M := ZX L0 N) (cd := 1000000) (cm := 0) (y := (.h1m1 (y1_0) ((v2 + 1)) : Zx)) (fu := 4000) (orc := (Zi [(0, true), (1, false)] [(0, (((v2 + 1) : Nat) : Int))] [(0, v2), (1, v2)] [(0, [.i (L0.getD v2 RA.z).a0, .i (L0.getD v2 RA.z).a1, .i (L0.getD v2 RA.z).a2, .i (L0.getD v2 RA.z).a3]), (1, [.i (L0.getD v2 RA.z).a0, .i (L0.getD v2 RA.z).a1, .i (L0.getD v2 RA.z).a2, .i (L0.getD v2 RA.z).a3])] [(0, (Zgv (v1) ((L0.getD v2 RA.z).a0) ((L0.getD v2 RA.z).a1) ((L0.getD v2 RA.z).a2) ((L0.getD v2 RA.z).a3) ((v2 : Int))  y1_0 0 1)), (1, (ZbO ((L0.getD v2 RA.z).a0) ((L0.getD v2 RA.z).a1) ((L0.getD v2 RA.z).a2) ((L0.getD v2 RA.z).a3)  y2_0  2))])) (live := [1]) (tv := fun _ => [some (ms E_iiii L0), some (vs 1 0 y1_0.length y1_0.length), some (vi (((v2 + 1) : Nat) : Int))]) (bl := [some (.cells (Zb Zd y1_0) 82)]) (ob := [((IntKind.i64.wrap ((v2 : Int) + (1 : Int))) == (((v2 + 1) : Nat) : Int), true), ((!y2_0), false), (dP (ZbE #[Value.agg #[vi (L0.getD v2 RA.z).a0, vi (L0.getD v2 RA.z).a1, vi (L0.getD v2 RA.z).a2, vi (L0.getD v2 RA.z).a3]] ((L0.getD v2 RA.z).a0) ((L0.getD v2 RA.z).a1) ((L0.getD v2 RA.z).a2) ((L0.getD v2 RA.z).a3)  y2_0  2), true), (dP (ZH (code (Z9 E_iiii L0)) (0 + (v2 * 4)) 4 = some [.i (L0.getD v2 RA.z).a0, .i (L0.getD v2 RA.z).a1, .i (L0.getD v2 RA.z).a2, .i (L0.getD v2 RA.z).a3]), true), (Nat.blt v2 L0.length, true), ((v2 : Int) == Int.ofNat v2, true), (dP (Ze9 #[vs 0 0 v1.length v1.length, Value.agg #[vi (L0.getD v2 RA.z).a0, vi (L0.getD v2 RA.z).a1, vi (L0.getD v2 RA.z).a2, vi (L0.getD v2 RA.z).a3], vi (v2 : Int)] (v1) ((L0.getD v2 RA.z).a0) ((L0.getD v2 RA.z).a1) ((L0.getD v2 RA.z).a2) ((L0.getD v2 RA.z).a3) ((v2 : Int))  y1_0 0 1), true), (dS (Zb Zd v1), true), (dP (ZH (code (Z9 E_iiii L0)) (0 + (v2 * 4)) 4 = some [.i (L0.getD v2 RA.z).a0, .i (L0.getD v2 RA.z).a1, .i (L0.getD v2 RA.z).a2, .i (L0.getD v2 RA.z).a3]), true), (Nat.blt v2 L0.length, true), ((v2 : Int) == Int.ofNat v2, true), ((decide ((v2 : Int) < (L0.length : Int))), true)]) rfl (show 1 ∈ Z1 (Zcj 1) from by decide +kernel) (fun gv => by kernel_rfl) (Za (beq_iff_eq.2 ((wrap_i64 ltA).trans (by first | rfl | omega))) <| Za (Zdc (by first | assumption | exact Decidable.not_not.1 (by assumption) | simp_all)) <| Za (Zg (ZbP #[Value.agg #[vi (L0.getD v2 RA.z).a0, vi (L0.getD v2 RA.z).a1, vi (L0.getD v2 RA.z).a2, vi (L0.getD v2 RA.z).a3]] ((L0.getD v2 RA.z).a0) ((L0.getD v2 RA.z).a1) ((L0.getD v2 RA.z).a2) ((L0.getD v2 RA.z).a3)  y2_0 N c2  2 rfl (by decide) (by decide))) <| Za (Zg (Zt (E := E_iiii) (L := L0) (i := v2) (q := 0) (by omega) (show (0 + (v2 * 4)) = v2 * 4 + 0 from by omega) (show 0 + 4 ≤ 4 from by decide) rfl)) <| oB <| oI <| Za (Zg (Zgw #[vs 0 0 v1.length v1.length, Value.agg #[vi (L0.getD v2 RA.z).a0, vi (L0.getD v2 RA.z).a1, vi (L0.getD v2 RA.z).a2, vi (L0.getD v2 RA.z).a3], vi (v2 : Int)] (v1) ((L0.getD v2 RA.z).a0) ((L0.getD v2 RA.z).a1) ((L0.getD v2 RA.z).a2) ((L0.getD v2 RA.z).a3) ((v2 : Int))  y1_0 N c1 0 1 rfl (by decide) (by decide))) <| oR <| Za (Zg (Zt (E := E_iiii) (L := L0) (i := v2) (q := 0) (by omega) (show (0 + (v2 * 4)) = v2 * 4 + 0 from by omega) (show 0 + 4 ≤ 4 from by decide) rfl)) <| oB <| oI <| oY Ze) rfl (by decide) (by rfl) (fun _ => ⟨rr, ⟨rr, ⟨rr, trivial⟩⟩⟩) ⟨(Zf (E := Zd) (α := R_ii) _ y1_0 _), trivial⟩
     ·
      exact Mach.ok_none
  | r2 =>
   refine Mach.ok_bind (fun z2 c2 => ?_)
   cases z2 with
   | r0 y2_0 =>
    refine Mach.ok_ite (fun g3 => ?_) (fun g3 => ?_)
    ·
     exact Mach.ok_fin (M := ZX L0 N) (cd := 1000000) (cm := 0) (r := (.r0 ((v2 : Int)) : Zw)) (fu := 4000) (orc := (Zi [(0, true), (1, true)] [] [(0, v2), (1, v2)] [(0, [.i (L0.getD v2 RA.z).a0, .i (L0.getD v2 RA.z).a1, .i (L0.getD v2 RA.z).a2, .i (L0.getD v2 RA.z).a3]), (1, [.i (L0.getD v2 RA.z).a0, .i (L0.getD v2 RA.z).a1, .i (L0.getD v2 RA.z).a2, .i (L0.getD v2 RA.z).a3])] [(0, (Zgx (v1) ((L0.getD v2 RA.z).a0) ((L0.getD v2 RA.z).a1) ((L0.getD v2 RA.z).a2) ((L0.getD v2 RA.z).a3) ((v2 : Int))   0 1)), (1, (ZbO ((L0.getD v2 RA.z).a0) ((L0.getD v2 RA.z).a1) ((L0.getD v2 RA.z).a2) ((L0.getD v2 RA.z).a3)  y2_0  2))])) (live := []) (u := vi (v2 : Int)) (bl := []) (ob := [((!y2_0), true), (dP (ZbE #[Value.agg #[vi (L0.getD v2 RA.z).a0, vi (L0.getD v2 RA.z).a1, vi (L0.getD v2 RA.z).a2, vi (L0.getD v2 RA.z).a3]] ((L0.getD v2 RA.z).a0) ((L0.getD v2 RA.z).a1) ((L0.getD v2 RA.z).a2) ((L0.getD v2 RA.z).a3)  y2_0  2), true), (dP (ZH (code (Z9 E_iiii L0)) (0 + (v2 * 4)) 4 = some [.i (L0.getD v2 RA.z).a0, .i (L0.getD v2 RA.z).a1, .i (L0.getD v2 RA.z).a2, .i (L0.getD v2 RA.z).a3]), true), (Nat.blt v2 L0.length, true), ((v2 : Int) == Int.ofNat v2, true), (dP (ZeA #[vs 0 0 v1.length v1.length, Value.agg #[vi (L0.getD v2 RA.z).a0, vi (L0.getD v2 RA.z).a1, vi (L0.getD v2 RA.z).a2, vi (L0.getD v2 RA.z).a3], vi (v2 : Int)] (v1) ((L0.getD v2 RA.z).a0) ((L0.getD v2 RA.z).a1) ((L0.getD v2 RA.z).a2) ((L0.getD v2 RA.z).a3) ((v2 : Int))   0 1), true), (dS (Zb Zd v1), true), (dP (ZH (code (Z9 E_iiii L0)) (0 + (v2 * 4)) 4 = some [.i (L0.getD v2 RA.z).a0, .i (L0.getD v2 RA.z).a1, .i (L0.getD v2 RA.z).a2, .i (L0.getD v2 RA.z).a3]), true), (Nat.blt v2 L0.length, true), ((v2 : Int) == Int.ofNat v2, true), ((decide ((v2 : Int) < (L0.length : Int))), true)]) (fun gv => by kernel_rfl) (Za (ZdL (by first | assumption | simp_all)) <| Za (Zg (ZbP #[Value.agg #[vi (L0.getD v2 RA.z).a0, vi (L0.getD v2 RA.z).a1, vi (L0.getD v2 RA.z).a2, vi (L0.getD v2 RA.z).a3]] ((L0.getD v2 RA.z).a0) ((L0.getD v2 RA.z).a1) ((L0.getD v2 RA.z).a2) ((L0.getD v2 RA.z).a3)  y2_0 N c2  2 rfl (by decide) (by decide))) <| Za (Zg (Zt (E := E_iiii) (L := L0) (i := v2) (q := 0) (by omega) (show (0 + (v2 * 4)) = v2 * 4 + 0 from by omega) (show 0 + 4 ≤ 4 from by decide) rfl)) <| oB <| oI <| Za (Zg (Zgy #[vs 0 0 v1.length v1.length, Value.agg #[vi (L0.getD v2 RA.z).a0, vi (L0.getD v2 RA.z).a1, vi (L0.getD v2 RA.z).a2, vi (L0.getD v2 RA.z).a3], vi (v2 : Int)] (v1) ((L0.getD v2 RA.z).a0) ((L0.getD v2 RA.z).a1) ((L0.getD v2 RA.z).a2) ((L0.getD v2 RA.z).a3) ((v2 : Int))   N c1 0 1 rfl (by decide) (by decide))) <| oR <| Za (Zg (Zt (E := E_iiii) (L := L0) (i := v2) (q := 0) (by omega) (show (0 + (v2 * 4)) = v2 * 4 + 0 from by omega) (show 0 + 4 ≤ 4 from by decide) rfl)) <| oB <| oI <| oY Ze) rfl (by decide) (by rfl) rr trivial
    ·
     refine Mach.ok_ite (fun g4 => ?_) (fun g4 => ?_)
     ·
      exact Mach.ok_next (M := ZX L0 N) (cd := 1000000) (cm := 0) (y := (.h1m1 ((v1.take (v1.length - 1))) ((v2 + 1)) : Zx)) (fu := 4000) (orc := (Zi [(0, true), (1, false)] [(0, (((v2 + 1) : Nat) : Int))] [(0, v2), (1, v2)] [(0, [.i (L0.getD v2 RA.z).a0, .i (L0.getD v2 RA.z).a1, .i (L0.getD v2 RA.z).a2, .i (L0.getD v2 RA.z).a3]), (1, [.i (L0.getD v2 RA.z).a0, .i (L0.getD v2 RA.z).a1, .i (L0.getD v2 RA.z).a2, .i (L0.getD v2 RA.z).a3])] [(0, (Zgx (v1) ((L0.getD v2 RA.z).a0) ((L0.getD v2 RA.z).a1) ((L0.getD v2 RA.z).a2) ((L0.getD v2 RA.z).a3) ((v2 : Int))   0 1)), (1, (ZbO ((L0.getD v2 RA.z).a0) ((L0.getD v2 RA.z).a1) ((L0.getD v2 RA.z).a2) ((L0.getD v2 RA.z).a3)  y2_0  2))])) (live := [1]) (tv := fun _ => [some (ms E_iiii L0), some (vs 1 0 (v1.take (v1.length - 1)).length (v1.take (v1.length - 1)).length), some (vi (((v2 + 1) : Nat) : Int))]) (bl := [some (.cells (Zb Zd (v1.take (v1.length - 1))) 82)]) (ob := [((IntKind.i64.wrap ((v2 : Int) + (1 : Int))) == (((v2 + 1) : Nat) : Int), true), ((!y2_0), false), (dP (ZbE #[Value.agg #[vi (L0.getD v2 RA.z).a0, vi (L0.getD v2 RA.z).a1, vi (L0.getD v2 RA.z).a2, vi (L0.getD v2 RA.z).a3]] ((L0.getD v2 RA.z).a0) ((L0.getD v2 RA.z).a1) ((L0.getD v2 RA.z).a2) ((L0.getD v2 RA.z).a3)  y2_0  2), true), (dP (ZH (code (Z9 E_iiii L0)) (0 + (v2 * 4)) 4 = some [.i (L0.getD v2 RA.z).a0, .i (L0.getD v2 RA.z).a1, .i (L0.getD v2 RA.z).a2, .i (L0.getD v2 RA.z).a3]), true), (Nat.blt v2 L0.length, true), ((v2 : Int) == Int.ofNat v2, true), (dP (ZeA #[vs 0 0 v1.length v1.length, Value.agg #[vi (L0.getD v2 RA.z).a0, vi (L0.getD v2 RA.z).a1, vi (L0.getD v2 RA.z).a2, vi (L0.getD v2 RA.z).a3], vi (v2 : Int)] (v1) ((L0.getD v2 RA.z).a0) ((L0.getD v2 RA.z).a1) ((L0.getD v2 RA.z).a2) ((L0.getD v2 RA.z).a3) ((v2 : Int))   0 1), true), (dS (Zb Zd v1), true), (dP (ZH (code (Z9 E_iiii L0)) (0 + (v2 * 4)) 4 = some [.i (L0.getD v2 RA.z).a0, .i (L0.getD v2 RA.z).a1, .i (L0.getD v2 RA.z).a2, .i (L0.getD v2 RA.z).a3]), true), (Nat.blt v2 L0.length, true), ((v2 : Int) == Int.ofNat v2, true), ((decide ((v2 : Int) < (L0.length : Int))), true)]) rfl (show 1 ∈ Z1 (Zcj 1) from by decide +kernel) (fun gv => by kernel_rfl) (Za (beq_iff_eq.2 ((wrap_i64 ltA).trans (by first | rfl | omega))) <| Za (Zdc (by first | assumption | exact Decidable.not_not.1 (by assumption) | simp_all)) <| Za (Zg (ZbP #[Value.agg #[vi (L0.getD v2 RA.z).a0, vi (L0.getD v2 RA.z).a1, vi (L0.getD v2 RA.z).a2, vi (L0.getD v2 RA.z).a3]] ((L0.getD v2 RA.z).a0) ((L0.getD v2 RA.z).a1) ((L0.getD v2 RA.z).a2) ((L0.getD v2 RA.z).a3)  y2_0 N c2  2 rfl (by decide) (by decide))) <| Za (Zg (Zt (E := E_iiii) (L := L0) (i := v2) (q := 0) (by omega) (show (0 + (v2 * 4)) = v2 * 4 + 0 from by omega) (show 0 + 4 ≤ 4 from by decide) rfl)) <| oB <| oI <| Za (Zg (Zgy #[vs 0 0 v1.length v1.length, Value.agg #[vi (L0.getD v2 RA.z).a0, vi (L0.getD v2 RA.z).a1, vi (L0.getD v2 RA.z).a2, vi (L0.getD v2 RA.z).a3], vi (v2 : Int)] (v1) ((L0.getD v2 RA.z).a0) ((L0.getD v2 RA.z).a1) ((L0.getD v2 RA.z).a2) ((L0.getD v2 RA.z).a3) ((v2 : Int))   N c1 0 1 rfl (by decide) (by decide))) <| oR <| Za (Zg (Zt (E := E_iiii) (L := L0) (i := v2) (q := 0) (by omega) (show (0 + (v2 * 4)) = v2 * 4 + 0 from by omega) (show 0 + 4 ≤ 4 from by decide) rfl)) <| oB <| oI <| oY Ze) rfl (by decide) (by rfl) (fun _ => ⟨rr, ⟨rr, ⟨rr, trivial⟩⟩⟩) ⟨(Zf (E := Zd) (α := R_ii) _ (v1.take (v1.length - 1)) _), trivial⟩
     ·
      exact Mach.ok_none
 ·
  refine Mach.ok_ite (fun g1 => ?_) (fun g1 => ?_)
  ·
   exact Mach.ok_fin (M := ZX L0 N) (cd := 1000000) (cm := 0) (r := (.r0 ((L0.length : Int)) : Zw)) (fu := 4000) (orc := (Zi [(0, false), (1, true)] [] [] [] [])) (live := []) (u := vi (L0.length : Int)) (bl := []) (ob := [((decide ((v1.length : Int) > (0 : Int))), true), ((decide ((v2 : Int) < (L0.length : Int))), false)]) (fun gv => by kernel_rfl) (oY <| oN Ze) rfl (by decide) (by rfl) rr trivial
  ·
   exact Mach.ok_head (bK := Zbq 2) (M := ZX L0 N) (cd := 1000000) (cm := 0) (y := (.h2m0 (0) : Zx)) (fu := 4000) (orc := (Zi [(0, false), (1, false)] [] [] [] [])) (live := []) (tv := fun _ => [some (ms E_iiii L0), some (vq)]) (bl := []) (ob := [((decide ((v1.length : Int) > (0 : Int))), false), ((decide ((v2 : Int) < (L0.length : Int))), false)]) rfl rfl (show ∀ j ∈ Z1 (Zbq 2).2, j ∈ Z1 (Zcj 1) from by decide +kernel) (fun gv => by kernel_rfl) (oN <| oN Ze) rfl (by decide) (by rfl) (fun _ => ⟨rr, ⟨⟨Eq.trans (show (vi ((0 : Nat) : Int) : Value) = vq from (congrArg (Value.int .i64) (by first | rfl | omega))) (by rfl), by rfl⟩, trivial⟩⟩) trivial

theorem Zmz (L0 : List RA) (v1 N : Nat) : (ZX L0 N).Ok Tryz.prog ZG (.h2m0 v1 : Zx) (ref12_WrongStep L0 N (.h2m0 v1 : Zx)) := by
 show (ZX L0 N).Ok Tryz.prog ZG (.h2m0 v1 : Zx) (ref12_Wrong_h2m0 L0 N v1)
 unfold ref12_Wrong_h2m0
 refine Mach.ok_ite (fun g0 => ?_) (fun g0 => ?_)
 ·
  refine Mach.ok_bind (fun z1 c1 => ?_)
  cases z1 with
  | r0 y1_0 y1_1 =>
   refine Mach.ok_ite (fun g2 => ?_) (fun g2 => ?_)
   ·
    subst g2
    refine Mach.ok_ite (fun g3 => ?_) (fun g3 => ?_)
    ·
     exact Mach.ok_fin (M := ZX L0 N) (cd := 1000000) (cm := 0) (r := (.r0 ((v1 : Int)) : Zw)) (fu := 4000) (orc := (Zi [(0, true), (1, true)] [] [(0, v1)] [(0, [.i (L0.getD v1 RA.z).a0, .i (L0.getD v1 RA.z).a1, .i (L0.getD v1 RA.z).a2, .i (L0.getD v1 RA.z).a3])] [(0, (ZbF ((L0.getD v1 RA.z).a0) ((L0.getD v1 RA.z).a1) ((L0.getD v1 RA.z).a2) ((L0.getD v1 RA.z).a3)  y1_0 true  0))])) (live := []) (u := vi (v1 : Int)) (bl := []) (ob := [((decide (y1_0 > (L0.length : Int))), true), (dP (Zbw #[Value.agg #[vi (L0.getD v1 RA.z).a0, vi (L0.getD v1 RA.z).a1, vi (L0.getD v1 RA.z).a2, vi (L0.getD v1 RA.z).a3]] ((L0.getD v1 RA.z).a0) ((L0.getD v1 RA.z).a1) ((L0.getD v1 RA.z).a2) ((L0.getD v1 RA.z).a3)  y1_0 true  0), true), (dP (ZH (code (Z9 E_iiii L0)) (0 + (v1 * 4)) 4 = some [.i (L0.getD v1 RA.z).a0, .i (L0.getD v1 RA.z).a1, .i (L0.getD v1 RA.z).a2, .i (L0.getD v1 RA.z).a3]), true), (Nat.blt v1 L0.length, true), ((v1 : Int) == Int.ofNat v1, true), ((decide ((v1 : Int) < (L0.length : Int))), true)]) (fun gv => by kernel_rfl) (oY <| Za (Zg (ZbG #[Value.agg #[vi (L0.getD v1 RA.z).a0, vi (L0.getD v1 RA.z).a1, vi (L0.getD v1 RA.z).a2, vi (L0.getD v1 RA.z).a3]] ((L0.getD v1 RA.z).a0) ((L0.getD v1 RA.z).a1) ((L0.getD v1 RA.z).a2) ((L0.getD v1 RA.z).a3)  y1_0 true N c1  0 rfl (by decide) (by decide))) <| Za (Zg (Zt (E := E_iiii) (L := L0) (i := v1) (q := 0) (by omega) (show (0 + (v1 * 4)) = v1 * 4 + 0 from by omega) (show 0 + 4 ≤ 4 from by decide) rfl)) <| oB <| oI <| oY Ze) rfl (by decide) (by rfl) rr trivial
    ·
     refine Mach.ok_bind (fun z4 c4 => ?_)
     cases z4 with
     | r0 y4_0 y4_1 =>
      refine Mach.ok_bind (fun z5 c5 => ?_)
      cases z5 with
      | r0 y5_0 y5_1 =>
       refine Mach.ok_ite (fun g6 => ?_) (fun g6 => ?_)
       ·
        exact Mach.ok_fin (M := ZX L0 N) (cd := 1000000) (cm := 0) (r := (.r0 ((v1 : Int)) : Zw)) (fu := 4000) (orc := (Zi [(0, true), (1, false), (2, true)] [] [(0, v1)] [(0, [.i (L0.getD v1 RA.z).a0, .i (L0.getD v1 RA.z).a1, .i (L0.getD v1 RA.z).a2, .i (L0.getD v1 RA.z).a3])] [(0, (ZbF ((L0.getD v1 RA.z).a0) ((L0.getD v1 RA.z).a1) ((L0.getD v1 RA.z).a2) ((L0.getD v1 RA.z).a3)  y1_0 true  0)), (1, (ZeB (L0) (y1_0)  y4_0 y4_1  0)), (2, (ZeB (L0) ((v1 : Int))  y5_0 y5_1  0))])) (live := []) (u := vi (v1 : Int)) (bl := []) (ob := [((!((y4_0 == y5_0) && ((y4_1 == y5_1) && true))), true), (dP (Zd3 #[ms E_iiii L0, vi (v1 : Int)] (L0) ((v1 : Int))  y5_0 y5_1  0), true), (dP (Zd3 #[ms E_iiii L0, vi y1_0] (L0) (y1_0)  y4_0 y4_1  0), true), ((decide (y1_0 > (L0.length : Int))), false), (dP (Zbw #[Value.agg #[vi (L0.getD v1 RA.z).a0, vi (L0.getD v1 RA.z).a1, vi (L0.getD v1 RA.z).a2, vi (L0.getD v1 RA.z).a3]] ((L0.getD v1 RA.z).a0) ((L0.getD v1 RA.z).a1) ((L0.getD v1 RA.z).a2) ((L0.getD v1 RA.z).a3)  y1_0 true  0), true), (dP (ZH (code (Z9 E_iiii L0)) (0 + (v1 * 4)) 4 = some [.i (L0.getD v1 RA.z).a0, .i (L0.getD v1 RA.z).a1, .i (L0.getD v1 RA.z).a2, .i (L0.getD v1 RA.z).a3]), true), (Nat.blt v1 L0.length, true), ((v1 : Int) == Int.ofNat v1, true), ((decide ((v1 : Int) < (L0.length : Int))), true)]) (fun gv => by kernel_rfl) (Za (by rw [Bool.not_eq_true']; exact Bool.eq_false_iff.2 (by simp only [ne_eq, Bool.and_true, Bool.and_eq_true, beq_iff_eq]; first | omega | (intro hh; simp_all; done) | (intro hh; grind))) <| Za (Zg (ZeC #[ms E_iiii L0, vi (v1 : Int)] (L0) ((v1 : Int))  y5_0 y5_1 N c5  0 rfl (by decide) (by decide))) <| Za (Zg (ZeC #[ms E_iiii L0, vi y1_0] (L0) (y1_0)  y4_0 y4_1 N c4  0 rfl (by decide) (by decide))) <| oN <| Za (Zg (ZbG #[Value.agg #[vi (L0.getD v1 RA.z).a0, vi (L0.getD v1 RA.z).a1, vi (L0.getD v1 RA.z).a2, vi (L0.getD v1 RA.z).a3]] ((L0.getD v1 RA.z).a0) ((L0.getD v1 RA.z).a1) ((L0.getD v1 RA.z).a2) ((L0.getD v1 RA.z).a3)  y1_0 true N c1  0 rfl (by decide) (by decide))) <| Za (Zg (Zt (E := E_iiii) (L := L0) (i := v1) (q := 0) (by omega) (show (0 + (v1 * 4)) = v1 * 4 + 0 from by omega) (show 0 + 4 ≤ 4 from by decide) rfl)) <| oB <| oI <| oY Ze) rfl (by decide) (by rfl) rr trivial
       ·
        refine Mach.ok_ite (fun g7 => ?_) (fun g7 => ?_)
        ·
         exact Mach.ok_next (M := ZX L0 N) (cd := 1000000) (cm := 0) (y := (.h2m0 ((v1 + 1)) : Zx)) (fu := 4000) (orc := (Zi [(0, true), (1, false), (2, false)] [(0, (((v1 + 1) : Nat) : Int))] [(0, v1)] [(0, [.i (L0.getD v1 RA.z).a0, .i (L0.getD v1 RA.z).a1, .i (L0.getD v1 RA.z).a2, .i (L0.getD v1 RA.z).a3])] [(0, (ZbF ((L0.getD v1 RA.z).a0) ((L0.getD v1 RA.z).a1) ((L0.getD v1 RA.z).a2) ((L0.getD v1 RA.z).a3)  y1_0 true  0)), (1, (ZeB (L0) (y1_0)  y4_0 y4_1  0)), (2, (ZeB (L0) ((v1 : Int))  y5_0 y5_1  0))])) (live := []) (tv := fun _ => [some (ms E_iiii L0), some (vi (((v1 + 1) : Nat) : Int))]) (bl := []) (ob := [((IntKind.i64.wrap ((v1 : Int) + (1 : Int))) == (((v1 + 1) : Nat) : Int), true), ((!((y4_0 == y5_0) && ((y4_1 == y5_1) && true))), false), (dP (Zd3 #[ms E_iiii L0, vi (v1 : Int)] (L0) ((v1 : Int))  y5_0 y5_1  0), true), (dP (Zd3 #[ms E_iiii L0, vi y1_0] (L0) (y1_0)  y4_0 y4_1  0), true), ((decide (y1_0 > (L0.length : Int))), false), (dP (Zbw #[Value.agg #[vi (L0.getD v1 RA.z).a0, vi (L0.getD v1 RA.z).a1, vi (L0.getD v1 RA.z).a2, vi (L0.getD v1 RA.z).a3]] ((L0.getD v1 RA.z).a0) ((L0.getD v1 RA.z).a1) ((L0.getD v1 RA.z).a2) ((L0.getD v1 RA.z).a3)  y1_0 true  0), true), (dP (ZH (code (Z9 E_iiii L0)) (0 + (v1 * 4)) 4 = some [.i (L0.getD v1 RA.z).a0, .i (L0.getD v1 RA.z).a1, .i (L0.getD v1 RA.z).a2, .i (L0.getD v1 RA.z).a3]), true), (Nat.blt v1 L0.length, true), ((v1 : Int) == Int.ofNat v1, true), ((decide ((v1 : Int) < (L0.length : Int))), true)]) rfl (show 2 ∈ Z1 (Zcj 2) from by decide +kernel) (fun gv => by kernel_rfl) (Za (beq_iff_eq.2 ((wrap_i64 ltA).trans (by first | rfl | omega))) <| Za (by rw [Bool.not_eq_false']; first | (simp only [beq_self_eq_true, Bool.and_self]; done) | (simp only [Bool.and_true, Bool.and_eq_true, beq_iff_eq] <;> first | omega | (simp_all; done) | grind)) <| Za (Zg (ZeC #[ms E_iiii L0, vi (v1 : Int)] (L0) ((v1 : Int))  y5_0 y5_1 N c5  0 rfl (by decide) (by decide))) <| Za (Zg (ZeC #[ms E_iiii L0, vi y1_0] (L0) (y1_0)  y4_0 y4_1 N c4  0 rfl (by decide) (by decide))) <| oN <| Za (Zg (ZbG #[Value.agg #[vi (L0.getD v1 RA.z).a0, vi (L0.getD v1 RA.z).a1, vi (L0.getD v1 RA.z).a2, vi (L0.getD v1 RA.z).a3]] ((L0.getD v1 RA.z).a0) ((L0.getD v1 RA.z).a1) ((L0.getD v1 RA.z).a2) ((L0.getD v1 RA.z).a3)  y1_0 true N c1  0 rfl (by decide) (by decide))) <| Za (Zg (Zt (E := E_iiii) (L := L0) (i := v1) (q := 0) (by omega) (show (0 + (v1 * 4)) = v1 * 4 + 0 from by omega) (show 0 + 4 ≤ 4 from by decide) rfl)) <| oB <| oI <| oY Ze) rfl (by decide) (by rfl) (fun _ => ⟨rr, ⟨rr, trivial⟩⟩) trivial
        ·
         exact Mach.ok_none
   ·
    obtain rfl : y1_1 = false := by simpa using g2
    refine Mach.ok_ite (fun g3 => ?_) (fun g3 => ?_)
    ·
     exact Mach.ok_next (M := ZX L0 N) (cd := 1000000) (cm := 0) (y := (.h2m0 ((v1 + 1)) : Zx)) (fu := 4000) (orc := (Zi [(0, true)] [(0, (((v1 + 1) : Nat) : Int))] [(0, v1)] [(0, [.i (L0.getD v1 RA.z).a0, .i (L0.getD v1 RA.z).a1, .i (L0.getD v1 RA.z).a2, .i (L0.getD v1 RA.z).a3])] [(0, (ZbF ((L0.getD v1 RA.z).a0) ((L0.getD v1 RA.z).a1) ((L0.getD v1 RA.z).a2) ((L0.getD v1 RA.z).a3)  y1_0 false  0))])) (live := []) (tv := fun _ => [some (ms E_iiii L0), some (vi (((v1 + 1) : Nat) : Int))]) (bl := []) (ob := [((IntKind.i64.wrap ((v1 : Int) + (1 : Int))) == (((v1 + 1) : Nat) : Int), true), (dP (Zbw #[Value.agg #[vi (L0.getD v1 RA.z).a0, vi (L0.getD v1 RA.z).a1, vi (L0.getD v1 RA.z).a2, vi (L0.getD v1 RA.z).a3]] ((L0.getD v1 RA.z).a0) ((L0.getD v1 RA.z).a1) ((L0.getD v1 RA.z).a2) ((L0.getD v1 RA.z).a3)  y1_0 false  0), true), (dP (ZH (code (Z9 E_iiii L0)) (0 + (v1 * 4)) 4 = some [.i (L0.getD v1 RA.z).a0, .i (L0.getD v1 RA.z).a1, .i (L0.getD v1 RA.z).a2, .i (L0.getD v1 RA.z).a3]), true), (Nat.blt v1 L0.length, true), ((v1 : Int) == Int.ofNat v1, true), ((decide ((v1 : Int) < (L0.length : Int))), true)]) rfl (show 2 ∈ Z1 (Zcj 2) from by decide +kernel) (fun gv => by kernel_rfl) (Za (beq_iff_eq.2 ((wrap_i64 ltA).trans (by first | rfl | omega))) <| Za (Zg (ZbG #[Value.agg #[vi (L0.getD v1 RA.z).a0, vi (L0.getD v1 RA.z).a1, vi (L0.getD v1 RA.z).a2, vi (L0.getD v1 RA.z).a3]] ((L0.getD v1 RA.z).a0) ((L0.getD v1 RA.z).a1) ((L0.getD v1 RA.z).a2) ((L0.getD v1 RA.z).a3)  y1_0 false N c1  0 rfl (by decide) (by decide))) <| Za (Zg (Zt (E := E_iiii) (L := L0) (i := v1) (q := 0) (by omega) (show (0 + (v1 * 4)) = v1 * 4 + 0 from by omega) (show 0 + 4 ≤ 4 from by decide) rfl)) <| oB <| oI <| oY Ze) rfl (by decide) (by rfl) (fun _ => ⟨rr, ⟨rr, trivial⟩⟩) trivial
    ·
     exact Mach.ok_none
 ·
  exact Mach.ok_fin (M := ZX L0 N) (cd := 1000000) (cm := 0) (r := (.r0 ((-1 : Int)) : Zw)) (fu := 4000) (orc := (Zi [(0, false)] [] [] [] [])) (live := []) (u := vi (-1 : Int)) (bl := []) (ob := [((decide ((v1 : Int) < (L0.length : Int))), false)]) (fun gv => by kernel_rfl) (oN Ze) rfl (by decide) (by rfl) rr trivial

theorem Zo4 (L0 : List RA) (N : Nat) : (ZX L0 N).Enter Tryz.prog ZG #[ms E_iiii L0] (Zcq L0 N) := by
 unfold Zcq
 refine Mach.en_ite (fun g0 => ?_) (fun g0 => ?_)
 ·
  exact Mach.en_fin (M := ZX L0 N) (cd := 1000000) (cm := 0) (r := (.r0 ((0 : Int)) : Zw)) (fu := 4000) (orc := (Zi [(0, true)] [] [] [] [])) (live := []) (u := vq) (bl := []) (ob := [((decide ((L0.length : Int) < (1 : Int))), true)]) (by kernel_rfl) (oY Ze) rfl (by decide) (by rfl) rr trivial
 ·
  refine Mach.en_ite (fun g1 => ?_) (fun g1 => ?_)
  ·
   exact Mach.en_fin (M := ZX L0 N) (cd := 1000000) (cm := 0) (r := (.r0 ((0 : Int)) : Zw)) (fu := 4000) (orc := (Zi [(0, false), (1, true)] [] [] [] [])) (live := []) (u := vq) (bl := []) (ob := [((decide ((L0.length : Int) > (512 : Int))), true), ((decide ((L0.length : Int) < (1 : Int))), false)]) (by kernel_rfl) (oY <| oN Ze) rfl (by decide) (by rfl) rr trivial
  ·
   exact Mach.en_head (bK := Zbq 1) (M := ZX L0 N) (cd := 1000000) (cm := 0) (y := (.h1m0 (0) : Zx)) (fu := 4000) (orc := (Zi [(0, false), (1, false)] [] [] [] [])) (live := []) (tv := [some (ms E_iiii L0), some (vn), some (vq)]) (bl := []) (ob := [((decide ((L0.length : Int) > (512 : Int))), false), ((decide ((L0.length : Int) < (1 : Int))), false)]) rfl rfl (show Z1 (Zbq 1).2 = [] from rfl) (by kernel_rfl) (oN <| oN Ze) rfl (by decide) (by rfl) ⟨rr, ⟨rr, ⟨⟨Eq.trans (show (vi ((0 : Nat) : Int) : Value) = vq from (congrArg (Value.int .i64) (by first | rfl | omega))) (by rfl), by rfl⟩, trivial⟩⟩⟩ trivial

theorem Znq (L0 : List RA) (N : Nat) (r : Zw) (h : ref12_Wrong L0 N = some r) : LSpec Tryz.prog 29 #[ms E_iiii L0] [] (ZlK L0 r) (Zkx L0 r) :=
 Mach.spec Zl (ZX L0 N) Tryz.func29 (by kernel_rfl) (by kernel_rfl) (fun x => by cases x <;> exact Zj _ rfl) (fun r => by cases r <;> exact Zj _ rfl) (fun x => by
  cases x with
  | h1m0 _ => exact fun _ => (show ¬ (1 ∈ Z1 (Zbq 1).2) from by decide +kernel)
  | h1m1 _ _ => exact fun _ => (show ¬ (1 ∈ Z1 (Zbq 1).2) from by decide +kernel)
  | h2m0 _ => exact fun _ => (show ¬ (2 ∈ Z1 (Zbq 2).2) from by decide +kernel)
  ) (fun x => (show (ZX L0 N).Ok Tryz.prog ZG x (ref12_WrongStep L0 N x) from by
  cases x with
  | h1m0 v1 => exact Zmx L0 v1 N
  | h1m1 v1 v2 => exact Zmy L0 v1 v2 N
  | h2m0 v1 => exact Zmz L0 v1 N
  )) (Zo4 L0 N) (n := N) h

noncomputable def ZdR (L0 : List RA) (w0 : Int) (n : Nat) : Zaj := .call [] (vi w0) [] 0
def ZcT (A : Array Value) (L0 : List RA) (w0 : Int) (n : Nat) : Prop := Zz Tryz.prog 29 A [] (vi w0) [] n 0

theorem ZdS (A : Array Value) (L0 : List RA) (w0 : Int) (N : Nat) (h : ref12_Wrong L0 N = some (.r0 w0)) (n : Nat) (hA : A = #[ms E_iiii L0]) (hnd : ([] : List Nat).Nodup) (hlt : ∀ k ∈ ([] : List Nat), k < n) : ZcT A L0 w0  n :=
 ZC hA (LSpec.callL (show LSpec Tryz.prog 29 #[ms E_iiii L0] [] (vi w0) [] from Znq L0 N _ h) [] n [] rfl hnd hlt (show 0 ≤ 0 from by decide) (show ∀ j ∈ ([] : List Nat), j < 0 from by decide) (by rfl) trivial (by rfl) trivial trivial rfl rfl rfl rfl rfl)

noncomputable def ZlL (L0 : List RA) : ref12_CheckR → Value
 | .r0 w0 => vi w0
noncomputable def Zkz (L0 : List RA) : ref12_CheckR → List (Option AObj)
 | .r0 w0 => []

theorem Zo5 (L0 : List RA) (N : Nat) : Gx Tryz.prog 21 [] #[ms E_iiii L0] (ZlL L0) (Zkz L0) (ref12_Check L0 N) := by
 unfold ref12_Check
 refine ZaO (fun z0 c0 => ?_)
 cases z0 with
 | r0 y0_0 =>
  refine Zn (fun g1 => ?_) (fun g1 => ?_)
  ·
   exact Zm Zl (r := (.r0 ((0 : Int)) : ref12_CheckR)) (fu := 4000) (orc := (Zi [(0, true)] [] [] [] [(0, (ZdR (L0)  y0_0  0))])) (live := []) (u := vq) (bl := []) (ob := [((decide (y0_0 < (0 : Int))), true), (dP (ZcT #[ms E_iiii L0] (L0)  y0_0  0), true)]) (by kernel_rfl) (oY <| Za (Zg (ZdS #[ms E_iiii L0] (L0)  y0_0 N c0  0 rfl (by decide) (by decide))) Ze) rfl (by decide) (by rfl) rr trivial (Zj _ rfl)
  ·
   refine Zn (fun g2 => ?_) (fun g2 => ?_)
   ·
    refine Zn (fun g3 => ?_) (fun g3 => ?_)
    ·
     refine Zn (fun g4 => ?_) (fun g4 => ?_)
     ·
      exact Zm Zl (r := (.r0 ((140 : Int)) : ref12_CheckR)) (fu := 4000) (orc := (Zi [(0, false), (1, true), (2, true), (3, true)] [] [(0, (y0_0).toNat)] [(0, [.i (L0.getD (y0_0).toNat RA.z).a0, .i (L0.getD (y0_0).toNat RA.z).a1, .i (L0.getD (y0_0).toNat RA.z).a2, .i (L0.getD (y0_0).toNat RA.z).a3])] [(0, (ZdR (L0)  y0_0  0))])) (live := []) (u := vi (140 : Int)) (bl := []) (ob := [((((L0.getD (y0_0).toNat RA.z).a0 == (15 : Int)) && (((L0.getD (y0_0).toNat RA.z).a1 == (0 : Int)) && (((L0.getD (y0_0).toNat RA.z).a2 == (0 : Int)) && (((L0.getD (y0_0).toNat RA.z).a3 == (0 : Int)) && true)))), true), (dP (ZH (code (Z9 E_iiii L0)) (0 + ((y0_0).toNat * 4)) 4 = some [.i (L0.getD (y0_0).toNat RA.z).a0, .i (L0.getD (y0_0).toNat RA.z).a1, .i (L0.getD (y0_0).toNat RA.z).a2, .i (L0.getD (y0_0).toNat RA.z).a3]), true), (Nat.blt (y0_0).toNat L0.length, true), (y0_0 == Int.ofNat (y0_0).toNat, true), ((decide ((L0.length : Int) ≤ (512 : Int))), true), ((decide (y0_0 < (L0.length : Int))), true), ((decide (y0_0 < (0 : Int))), false), (dP (ZcT #[ms E_iiii L0] (L0)  y0_0  0), true)]) (by kernel_rfl) (Za (by first | (simp only [beq_self_eq_true, Bool.and_self]; done) | (simp only [Bool.and_true, Bool.and_eq_true, beq_iff_eq] <;> first | omega | (simp_all; done) | grind)) <| Za (Zg (Zt (E := E_iiii) (L := L0) (i := (y0_0).toNat) (q := 0) (by omega) (show (0 + ((y0_0).toNat * 4)) = (y0_0).toNat * 4 + 0 from by omega) (show 0 + 4 ≤ 4 from by decide) rfl)) <| oB <| oI <| oY <| oY <| oN <| Za (Zg (ZdS #[ms E_iiii L0] (L0)  y0_0 N c0  0 rfl (by decide) (by decide))) Ze) rfl (by decide) (by rfl) rr trivial (Zj _ rfl)
     ·
      exact Zm Zl (r := (.r0 ((120 : Int)) : ref12_CheckR)) (fu := 4000) (orc := (Zi [(0, false), (1, true), (2, true), (3, false)] [] [(0, (y0_0).toNat)] [(0, [.i (L0.getD (y0_0).toNat RA.z).a0, .i (L0.getD (y0_0).toNat RA.z).a1, .i (L0.getD (y0_0).toNat RA.z).a2, .i (L0.getD (y0_0).toNat RA.z).a3])] [(0, (ZdR (L0)  y0_0  0))])) (live := []) (u := vi (120 : Int)) (bl := []) (ob := [((((L0.getD (y0_0).toNat RA.z).a0 == (15 : Int)) && (((L0.getD (y0_0).toNat RA.z).a1 == (0 : Int)) && (((L0.getD (y0_0).toNat RA.z).a2 == (0 : Int)) && (((L0.getD (y0_0).toNat RA.z).a3 == (0 : Int)) && true)))), false), (dP (ZH (code (Z9 E_iiii L0)) (0 + ((y0_0).toNat * 4)) 4 = some [.i (L0.getD (y0_0).toNat RA.z).a0, .i (L0.getD (y0_0).toNat RA.z).a1, .i (L0.getD (y0_0).toNat RA.z).a2, .i (L0.getD (y0_0).toNat RA.z).a3]), true), (Nat.blt (y0_0).toNat L0.length, true), (y0_0 == Int.ofNat (y0_0).toNat, true), ((decide ((L0.length : Int) ≤ (512 : Int))), true), ((decide (y0_0 < (L0.length : Int))), true), ((decide (y0_0 < (0 : Int))), false), (dP (ZcT #[ms E_iiii L0] (L0)  y0_0  0), true)]) (by kernel_rfl) (Za (Bool.eq_false_iff.2 (by simp only [ne_eq, Bool.and_true, Bool.and_eq_true, beq_iff_eq]; first | omega | (intro hh; simp_all; done) | (intro hh; grind))) <| Za (Zg (Zt (E := E_iiii) (L := L0) (i := (y0_0).toNat) (q := 0) (by omega) (show (0 + ((y0_0).toNat * 4)) = (y0_0).toNat * 4 + 0 from by omega) (show 0 + 4 ≤ 4 from by decide) rfl)) <| oB <| oI <| oY <| oY <| oN <| Za (Zg (ZdS #[ms E_iiii L0] (L0)  y0_0 N c0  0 rfl (by decide) (by decide))) Ze) rfl (by decide) (by rfl) rr trivial (Zj _ rfl)
    ·
     exact Zm Zl (r := (.r0 ((120 : Int)) : ref12_CheckR)) (fu := 4000) (orc := (Zi [(0, false), (1, true), (2, false)] [] [] [] [(0, (ZdR (L0)  y0_0  0))])) (live := []) (u := vi (120 : Int)) (bl := []) (ob := [((decide ((L0.length : Int) ≤ (512 : Int))), false), ((decide (y0_0 < (L0.length : Int))), true), ((decide (y0_0 < (0 : Int))), false), (dP (ZcT #[ms E_iiii L0] (L0)  y0_0  0), true)]) (by kernel_rfl) (oN <| oY <| oN <| Za (Zg (ZdS #[ms E_iiii L0] (L0)  y0_0 N c0  0 rfl (by decide) (by decide))) Ze) rfl (by decide) (by rfl) rr trivial (Zj _ rfl)
   ·
    exact Zm Zl (r := (.r0 ((120 : Int)) : ref12_CheckR)) (fu := 4000) (orc := (Zi [(0, false), (1, false)] [] [] [] [(0, (ZdR (L0)  y0_0  0))])) (live := []) (u := vi (120 : Int)) (bl := []) (ob := [((decide (y0_0 < (L0.length : Int))), false), ((decide (y0_0 < (0 : Int))), false), (dP (ZcT #[ms E_iiii L0] (L0)  y0_0  0), true)]) (by kernel_rfl) (oN <| oN <| Za (Zg (ZdS #[ms E_iiii L0] (L0)  y0_0 N c0  0 rfl (by decide) (by decide))) Ze) rfl (by decide) (by rfl) rr trivial (Zj _ rfl)

theorem Znr (L0 : List RA) (N : Nat) (r : ref12_CheckR) (h : ref12_Check L0 N = some r) : LSpec Tryz.prog 21 #[ms E_iiii L0] [] (ZlL L0 r) (Zkz L0 r) :=
 (Zo5 L0 N) r h

noncomputable def Zfa (L0 : List RA) (w0 : Int) (n : Nat) : Zaj := .call [] (vi w0) [] 0
def ZdT (A : Array Value) (L0 : List RA) (w0 : Int) (n : Nat) : Prop := Zz Tryz.prog 21 A [] (vi w0) [] n 0

theorem Zfb (A : Array Value) (L0 : List RA) (w0 : Int) (N : Nat) (h : ref12_Check L0 N = some (.r0 w0)) (n : Nat) (hA : A = #[ms E_iiii L0]) (hnd : ([] : List Nat).Nodup) (hlt : ∀ k ∈ ([] : List Nat), k < n) : ZdT A L0 w0  n :=
 ZC hA (LSpec.callL (show LSpec Tryz.prog 21 #[ms E_iiii L0] [] (vi w0) [] from Znr L0 N _ h) [] n [] rfl hnd hlt (show 0 ≤ 0 from by decide) (show ∀ j ∈ ([] : List Nat), j < 0 from by decide) (by rfl) trivial (by rfl) trivial trivial rfl rfl rfl rfl rfl)

noncomputable def ZmP (L0 : List RA) : ZaJ → Value
 | .r0 w0 => Value.bool w0
noncomputable def ZlM (L0 : List RA) : ZaJ → List (Option AObj)
 | .r0 w0 => []

def Zr2 : ZaN → Nat
 | .h1m0 v1 => 1
noncomputable def Zsj (L0 : List RA) : ZaN → List (Nat × Value)
 | .h1m0 v1 => [(0, ms E_iiii L0), (3, vi (v1 : Int))]
noncomputable def Zsk (L0 : List RA) : ZaN → List (Option AObj)
 | .h1m0 v1 => []

noncomputable def Zeb : Nat → Code × List ZaI
 | 1 => Zb3 [1, 1, 0, 1, 3] (Zc8 Tryz.f7) []
 | _ => (.skip, [])
def ZlN : Nat → Bool
 | 1 => true
 | _ => true
noncomputable def ZmQ (i : Nat) : List ZaI := match ZlN i with | true => .rnd i :: (Zeb i).2 | false => (Zeb i).2

noncomputable def Zbx (L0 : List RA) (N : Nat) : Mach := ⟨Tryz.f7, [], ZaN, ZaJ, Zdw L0 N, Zr2, Zeb, ZlN, Zsj L0, Zsk L0, ZmP L0, ZlM L0⟩

theorem Zns (L0 : List RA) (v1 N : Nat) : (Zbx L0 N).Ok Tryz.prog ZG (.h1m0 v1 : ZaN) (Zdw L0 N (.h1m0 v1 : ZaN)) := by
 show (Zbx L0 N).Ok Tryz.prog ZG (.h1m0 v1 : ZaN) (Zf6 L0 N v1)
 unfold Zf6
 refine Mach.ok_ite (fun g0 => ?_) (fun g0 => ?_)
 ·
  refine Mach.ok_bind (fun z1 c1 => ?_)
  cases z1 with
  | r0 y1_0 y1_1 =>
   refine Mach.ok_ite (fun g2 => ?_) (fun g2 => ?_)
   ·
    subst g2
    refine Mach.ok_ite (fun g3 => ?_) (fun g3 => ?_)
    ·
     exact Mach.ok_fin (M := Zbx L0 N) (cd := 1000000) (cm := 0) (r := (.r0 (false) : ZaJ)) (fu := 4000) (orc := (Zi [(0, true), (1, true)] [] [(0, v1)] [(0, [.i (L0.getD v1 RA.z).a0, .i (L0.getD v1 RA.z).a1, .i (L0.getD v1 RA.z).a2, .i (L0.getD v1 RA.z).a3])] [(0, (ZbF ((L0.getD v1 RA.z).a0) ((L0.getD v1 RA.z).a1) ((L0.getD v1 RA.z).a2) ((L0.getD v1 RA.z).a3)  y1_0 true  0))])) (live := []) (u := vf) (bl := []) (ob := [((decide (y1_0 ≤ (v1 : Int))), true), (dP (Zbw #[Value.agg #[vi (L0.getD v1 RA.z).a0, vi (L0.getD v1 RA.z).a1, vi (L0.getD v1 RA.z).a2, vi (L0.getD v1 RA.z).a3]] ((L0.getD v1 RA.z).a0) ((L0.getD v1 RA.z).a1) ((L0.getD v1 RA.z).a2) ((L0.getD v1 RA.z).a3)  y1_0 true  0), true), (dP (ZH (code (Z9 E_iiii L0)) (0 + (v1 * 4)) 4 = some [.i (L0.getD v1 RA.z).a0, .i (L0.getD v1 RA.z).a1, .i (L0.getD v1 RA.z).a2, .i (L0.getD v1 RA.z).a3]), true), (Nat.blt v1 L0.length, true), ((v1 : Int) == Int.ofNat v1, true), ((decide ((v1 : Int) < (L0.length : Int))), true)]) (fun gv => by kernel_rfl) (oY <| Za (Zg (ZbG #[Value.agg #[vi (L0.getD v1 RA.z).a0, vi (L0.getD v1 RA.z).a1, vi (L0.getD v1 RA.z).a2, vi (L0.getD v1 RA.z).a3]] ((L0.getD v1 RA.z).a0) ((L0.getD v1 RA.z).a1) ((L0.getD v1 RA.z).a2) ((L0.getD v1 RA.z).a3)  y1_0 true N c1  0 rfl (by decide) (by decide))) <| Za (Zg (Zt (E := E_iiii) (L := L0) (i := v1) (q := 0) (by omega) (show (0 + (v1 * 4)) = v1 * 4 + 0 from by omega) (show 0 + 4 ≤ 4 from by decide) rfl)) <| oB <| oI <| oY Ze) rfl (by decide) (by rfl) rr trivial
    ·
     refine Mach.ok_ite (fun g4 => ?_) (fun g4 => ?_)
     ·
      exact Mach.ok_fin (M := Zbx L0 N) (cd := 1000000) (cm := 0) (r := (.r0 (false) : ZaJ)) (fu := 4000) (orc := (Zi [(0, true), (1, false), (2, true)] [] [(0, v1), (1, v1)] [(0, [.i (L0.getD v1 RA.z).a0, .i (L0.getD v1 RA.z).a1, .i (L0.getD v1 RA.z).a2, .i (L0.getD v1 RA.z).a3]), (1, [.i (L0.getD v1 RA.z).a0])] [(0, (ZbF ((L0.getD v1 RA.z).a0) ((L0.getD v1 RA.z).a1) ((L0.getD v1 RA.z).a2) ((L0.getD v1 RA.z).a3)  y1_0 true  0))])) (live := []) (u := vf) (bl := []) (ob := [nT (L0.getD v1 RA.z).a0 18, (dP (ZH (code (Z9 E_iiii L0)) ((0 + (v1 * 4)) + 0) 1 = some [.i (L0.getD v1 RA.z).a0]), true), (Nat.blt v1 L0.length, true), ((v1 : Int) == Int.ofNat v1, true), ((decide (y1_0 ≤ (v1 : Int))), false), (dP (Zbw #[Value.agg #[vi (L0.getD v1 RA.z).a0, vi (L0.getD v1 RA.z).a1, vi (L0.getD v1 RA.z).a2, vi (L0.getD v1 RA.z).a3]] ((L0.getD v1 RA.z).a0) ((L0.getD v1 RA.z).a1) ((L0.getD v1 RA.z).a2) ((L0.getD v1 RA.z).a3)  y1_0 true  0), true), (dP (ZH (code (Z9 E_iiii L0)) (0 + (v1 * 4)) 4 = some [.i (L0.getD v1 RA.z).a0, .i (L0.getD v1 RA.z).a1, .i (L0.getD v1 RA.z).a2, .i (L0.getD v1 RA.z).a3]), true), (Nat.blt v1 L0.length, true), ((v1 : Int) == Int.ofNat v1, true), ((decide ((v1 : Int) < (L0.length : Int))), true)]) (fun gv => by kernel_rfl) (oT <| Za (Zg (Zt (E := E_iiii) (L := L0) (i := v1) (q := 0) (by omega) (show ((0 + (v1 * 4)) + 0) = v1 * 4 + 0 from by omega) (show 0 + 1 ≤ 4 from by decide) rfl)) <| oB <| oI <| oN <| Za (Zg (ZbG #[Value.agg #[vi (L0.getD v1 RA.z).a0, vi (L0.getD v1 RA.z).a1, vi (L0.getD v1 RA.z).a2, vi (L0.getD v1 RA.z).a3]] ((L0.getD v1 RA.z).a0) ((L0.getD v1 RA.z).a1) ((L0.getD v1 RA.z).a2) ((L0.getD v1 RA.z).a3)  y1_0 true N c1  0 rfl (by decide) (by decide))) <| Za (Zg (Zt (E := E_iiii) (L := L0) (i := v1) (q := 0) (by omega) (show (0 + (v1 * 4)) = v1 * 4 + 0 from by omega) (show 0 + 4 ≤ 4 from by decide) rfl)) <| oB <| oI <| oY Ze) rfl (by decide) (by rfl) rr trivial
     ·
      refine Mach.ok_ite (fun g5 => ?_) (fun g5 => ?_)
      ·
       exact Mach.ok_next (M := Zbx L0 N) (cd := 1000000) (cm := 0) (y := (.h1m0 ((v1 + 1)) : ZaN)) (fu := 4000) (orc := (Zi [(0, true), (1, false), (2, false)] [(0, (((v1 + 1) : Nat) : Int))] [(0, v1), (1, v1)] [(0, [.i (L0.getD v1 RA.z).a0, .i (L0.getD v1 RA.z).a1, .i (L0.getD v1 RA.z).a2, .i (L0.getD v1 RA.z).a3]), (1, [.i (L0.getD v1 RA.z).a0])] [(0, (ZbF ((L0.getD v1 RA.z).a0) ((L0.getD v1 RA.z).a1) ((L0.getD v1 RA.z).a2) ((L0.getD v1 RA.z).a3)  y1_0 true  0))])) (live := []) (tv := fun _ => [some (ms E_iiii L0), some (vi (((v1 + 1) : Nat) : Int))]) (bl := []) (ob := [((IntKind.i64.wrap ((v1 : Int) + (1 : Int))) == (((v1 + 1) : Nat) : Int), true), nF (L0.getD v1 RA.z).a0 18, (dP (ZH (code (Z9 E_iiii L0)) ((0 + (v1 * 4)) + 0) 1 = some [.i (L0.getD v1 RA.z).a0]), true), (Nat.blt v1 L0.length, true), ((v1 : Int) == Int.ofNat v1, true), ((decide (y1_0 ≤ (v1 : Int))), false), (dP (Zbw #[Value.agg #[vi (L0.getD v1 RA.z).a0, vi (L0.getD v1 RA.z).a1, vi (L0.getD v1 RA.z).a2, vi (L0.getD v1 RA.z).a3]] ((L0.getD v1 RA.z).a0) ((L0.getD v1 RA.z).a1) ((L0.getD v1 RA.z).a2) ((L0.getD v1 RA.z).a3)  y1_0 true  0), true), (dP (ZH (code (Z9 E_iiii L0)) (0 + (v1 * 4)) 4 = some [.i (L0.getD v1 RA.z).a0, .i (L0.getD v1 RA.z).a1, .i (L0.getD v1 RA.z).a2, .i (L0.getD v1 RA.z).a3]), true), (Nat.blt v1 L0.length, true), ((v1 : Int) == Int.ofNat v1, true), ((decide ((v1 : Int) < (L0.length : Int))), true)]) rfl (show 1 ∈ Z1 (ZmQ 1) from by decide +kernel) (fun gv => by kernel_rfl) (Za (beq_iff_eq.2 ((wrap_i64 ltA).trans (by first | rfl | omega))) <| oF <| Za (Zg (Zt (E := E_iiii) (L := L0) (i := v1) (q := 0) (by omega) (show ((0 + (v1 * 4)) + 0) = v1 * 4 + 0 from by omega) (show 0 + 1 ≤ 4 from by decide) rfl)) <| oB <| oI <| oN <| Za (Zg (ZbG #[Value.agg #[vi (L0.getD v1 RA.z).a0, vi (L0.getD v1 RA.z).a1, vi (L0.getD v1 RA.z).a2, vi (L0.getD v1 RA.z).a3]] ((L0.getD v1 RA.z).a0) ((L0.getD v1 RA.z).a1) ((L0.getD v1 RA.z).a2) ((L0.getD v1 RA.z).a3)  y1_0 true N c1  0 rfl (by decide) (by decide))) <| Za (Zg (Zt (E := E_iiii) (L := L0) (i := v1) (q := 0) (by omega) (show (0 + (v1 * 4)) = v1 * 4 + 0 from by omega) (show 0 + 4 ≤ 4 from by decide) rfl)) <| oB <| oI <| oY Ze) rfl (by decide) (by rfl) (fun _ => ⟨rr, ⟨rr, trivial⟩⟩) trivial
      ·
       exact Mach.ok_none
   ·
    obtain rfl : y1_1 = false := by simpa using g2
    refine Mach.ok_ite (fun g3 => ?_) (fun g3 => ?_)
    ·
     exact Mach.ok_fin (M := Zbx L0 N) (cd := 1000000) (cm := 0) (r := (.r0 (false) : ZaJ)) (fu := 4000) (orc := (Zi [(0, true), (1, true)] [] [(0, v1), (1, v1)] [(0, [.i (L0.getD v1 RA.z).a0, .i (L0.getD v1 RA.z).a1, .i (L0.getD v1 RA.z).a2, .i (L0.getD v1 RA.z).a3]), (1, [.i (L0.getD v1 RA.z).a0])] [(0, (ZbF ((L0.getD v1 RA.z).a0) ((L0.getD v1 RA.z).a1) ((L0.getD v1 RA.z).a2) ((L0.getD v1 RA.z).a3)  y1_0 false  0))])) (live := []) (u := vf) (bl := []) (ob := [nT (L0.getD v1 RA.z).a0 18, (dP (ZH (code (Z9 E_iiii L0)) ((0 + (v1 * 4)) + 0) 1 = some [.i (L0.getD v1 RA.z).a0]), true), (Nat.blt v1 L0.length, true), ((v1 : Int) == Int.ofNat v1, true), (dP (Zbw #[Value.agg #[vi (L0.getD v1 RA.z).a0, vi (L0.getD v1 RA.z).a1, vi (L0.getD v1 RA.z).a2, vi (L0.getD v1 RA.z).a3]] ((L0.getD v1 RA.z).a0) ((L0.getD v1 RA.z).a1) ((L0.getD v1 RA.z).a2) ((L0.getD v1 RA.z).a3)  y1_0 false  0), true), (dP (ZH (code (Z9 E_iiii L0)) (0 + (v1 * 4)) 4 = some [.i (L0.getD v1 RA.z).a0, .i (L0.getD v1 RA.z).a1, .i (L0.getD v1 RA.z).a2, .i (L0.getD v1 RA.z).a3]), true), (Nat.blt v1 L0.length, true), ((v1 : Int) == Int.ofNat v1, true), ((decide ((v1 : Int) < (L0.length : Int))), true)]) (fun gv => by kernel_rfl) (oT <| Za (Zg (Zt (E := E_iiii) (L := L0) (i := v1) (q := 0) (by omega) (show ((0 + (v1 * 4)) + 0) = v1 * 4 + 0 from by omega) (show 0 + 1 ≤ 4 from by decide) rfl)) <| oB <| oI <| Za (Zg (ZbG #[Value.agg #[vi (L0.getD v1 RA.z).a0, vi (L0.getD v1 RA.z).a1, vi (L0.getD v1 RA.z).a2, vi (L0.getD v1 RA.z).a3]] ((L0.getD v1 RA.z).a0) ((L0.getD v1 RA.z).a1) ((L0.getD v1 RA.z).a2) ((L0.getD v1 RA.z).a3)  y1_0 false N c1  0 rfl (by decide) (by decide))) <| Za (Zg (Zt (E := E_iiii) (L := L0) (i := v1) (q := 0) (by omega) (show (0 + (v1 * 4)) = v1 * 4 + 0 from by omega) (show 0 + 4 ≤ 4 from by decide) rfl)) <| oB <| oI <| oY Ze) rfl (by decide) (by rfl) rr trivial
    ·
     refine Mach.ok_ite (fun g4 => ?_) (fun g4 => ?_)
     ·
      exact Mach.ok_next (M := Zbx L0 N) (cd := 1000000) (cm := 0) (y := (.h1m0 ((v1 + 1)) : ZaN)) (fu := 4000) (orc := (Zi [(0, true), (1, false)] [(0, (((v1 + 1) : Nat) : Int))] [(0, v1), (1, v1)] [(0, [.i (L0.getD v1 RA.z).a0, .i (L0.getD v1 RA.z).a1, .i (L0.getD v1 RA.z).a2, .i (L0.getD v1 RA.z).a3]), (1, [.i (L0.getD v1 RA.z).a0])] [(0, (ZbF ((L0.getD v1 RA.z).a0) ((L0.getD v1 RA.z).a1) ((L0.getD v1 RA.z).a2) ((L0.getD v1 RA.z).a3)  y1_0 false  0))])) (live := []) (tv := fun _ => [some (ms E_iiii L0), some (vi (((v1 + 1) : Nat) : Int))]) (bl := []) (ob := [((IntKind.i64.wrap ((v1 : Int) + (1 : Int))) == (((v1 + 1) : Nat) : Int), true), nF (L0.getD v1 RA.z).a0 18, (dP (ZH (code (Z9 E_iiii L0)) ((0 + (v1 * 4)) + 0) 1 = some [.i (L0.getD v1 RA.z).a0]), true), (Nat.blt v1 L0.length, true), ((v1 : Int) == Int.ofNat v1, true), (dP (Zbw #[Value.agg #[vi (L0.getD v1 RA.z).a0, vi (L0.getD v1 RA.z).a1, vi (L0.getD v1 RA.z).a2, vi (L0.getD v1 RA.z).a3]] ((L0.getD v1 RA.z).a0) ((L0.getD v1 RA.z).a1) ((L0.getD v1 RA.z).a2) ((L0.getD v1 RA.z).a3)  y1_0 false  0), true), (dP (ZH (code (Z9 E_iiii L0)) (0 + (v1 * 4)) 4 = some [.i (L0.getD v1 RA.z).a0, .i (L0.getD v1 RA.z).a1, .i (L0.getD v1 RA.z).a2, .i (L0.getD v1 RA.z).a3]), true), (Nat.blt v1 L0.length, true), ((v1 : Int) == Int.ofNat v1, true), ((decide ((v1 : Int) < (L0.length : Int))), true)]) rfl (show 1 ∈ Z1 (ZmQ 1) from by decide +kernel) (fun gv => by kernel_rfl) (Za (beq_iff_eq.2 ((wrap_i64 ltA).trans (by first | rfl | omega))) <| oF <| Za (Zg (Zt (E := E_iiii) (L := L0) (i := v1) (q := 0) (by omega) (show ((0 + (v1 * 4)) + 0) = v1 * 4 + 0 from by omega) (show 0 + 1 ≤ 4 from by decide) rfl)) <| oB <| oI <| Za (Zg (ZbG #[Value.agg #[vi (L0.getD v1 RA.z).a0, vi (L0.getD v1 RA.z).a1, vi (L0.getD v1 RA.z).a2, vi (L0.getD v1 RA.z).a3]] ((L0.getD v1 RA.z).a0) ((L0.getD v1 RA.z).a1) ((L0.getD v1 RA.z).a2) ((L0.getD v1 RA.z).a3)  y1_0 false N c1  0 rfl (by decide) (by decide))) <| Za (Zg (Zt (E := E_iiii) (L := L0) (i := v1) (q := 0) (by omega) (show (0 + (v1 * 4)) = v1 * 4 + 0 from by omega) (show 0 + 4 ≤ 4 from by decide) rfl)) <| oB <| oI <| oY Ze) rfl (by decide) (by rfl) (fun _ => ⟨rr, ⟨rr, trivial⟩⟩) trivial
     ·
      exact Mach.ok_none
 ·
  exact Mach.ok_fin (M := Zbx L0 N) (cd := 1000000) (cm := 0) (r := (.r0 (true) : ZaJ)) (fu := 4000) (orc := (Zi [(0, false)] [] [] [] [])) (live := []) (u := vT) (bl := []) (ob := [((decide ((v1 : Int) < (L0.length : Int))), false)]) (fun gv => by kernel_rfl) (oN Ze) rfl (by decide) (by rfl) rr trivial

theorem ZpM (L0 : List RA) (N : Nat) : (Zbx L0 N).Enter Tryz.prog ZG #[ms E_iiii L0] (ZhR L0 N) := by
 unfold ZhR
 refine Mach.en_bind (fun z0 c0 => ?_)
 cases z0 with
 | r0 y0_0 =>
  refine Mach.en_ite (fun g1 => ?_) (fun g1 => ?_)
  ·
   exact Mach.en_fin (M := Zbx L0 N) (cd := 1000000) (cm := 0) (r := (.r0 (false) : ZaJ)) (fu := 4000) (orc := (Zi [(0, true)] [] [] [] [(0, (Zfa (L0)  y0_0  0))])) (live := []) (u := vf) (bl := []) (ob := [((y0_0 != (0 : Int)), true), (dP (ZdT #[ms E_iiii L0] (L0)  y0_0  0), true)]) (by kernel_rfl) (oD <| Za (Zg (Zfb #[ms E_iiii L0] (L0)  y0_0 N c0  0 rfl (by decide) (by decide))) Ze) rfl (by decide) (by rfl) rr trivial
  ·
   exact Mach.en_head (bK := Zeb 1) (M := Zbx L0 N) (cd := 1000000) (cm := 0) (y := (.h1m0 (0) : ZaN)) (fu := 4000) (orc := (Zi [(0, false)] [] [] [] [(0, (Zfa (L0)  y0_0  0))])) (live := []) (tv := [some (ms E_iiii L0), some (vq)]) (bl := []) (ob := [((y0_0 != (0 : Int)), false), (dP (ZdT #[ms E_iiii L0] (L0)  y0_0  0), true)]) rfl rfl (show Z1 (Zeb 1).2 = [] from rfl) (by kernel_rfl) (oE <| Za (Zg (Zfb #[ms E_iiii L0] (L0)  y0_0 N c0  0 rfl (by decide) (by decide))) Ze) rfl (by decide) (by rfl) ⟨rr, ⟨⟨Eq.trans (show (vi ((0 : Nat) : Int) : Value) = vq from (congrArg (Value.int .i64) (by first | rfl | omega))) (by rfl), by rfl⟩, trivial⟩⟩ trivial

theorem Zob (L0 : List RA) (N : Nat) (r : ZaJ) (h : Zf7 L0 N = some r) : LSpec Tryz.prog 7 #[ms E_iiii L0] [] (ZmP L0 r) (ZlM L0 r) :=
 Mach.spec Zl (Zbx L0 N) Tryz.func7 (by kernel_rfl) (by kernel_rfl) (fun x => by cases x <;> exact Zj _ rfl) (fun r => by cases r <;> exact Zj _ rfl) (fun x => by
  cases x with
  | h1m0 _ => exact fun _ => (show ¬ (1 ∈ Z1 (Zeb 1).2) from by decide +kernel)
  ) (fun x => (show (Zbx L0 N).Ok Tryz.prog ZG x (Zdw L0 N x) from by
  cases x with
  | h1m0 v1 => exact Zns L0 v1 N
  )) (ZpM L0 N) (n := N) h

noncomputable def Zet (L0 : List RA) (w0 : Bool) (n : Nat) : Zaj := .call [] (Value.bool w0) [] 0
def Zd4 (A : Array Value) (L0 : List RA) (w0 : Bool) (n : Nat) : Prop := Zz Tryz.prog 7 A [] (Value.bool w0) [] n 0

theorem Zeu (A : Array Value) (L0 : List RA) (w0 : Bool) (N : Nat) (h : Zf7 L0 N = some (.r0 w0)) (n : Nat) (hA : A = #[ms E_iiii L0]) (hnd : ([] : List Nat).Nodup) (hlt : ∀ k ∈ ([] : List Nat), k < n) : Zd4 A L0 w0  n :=
 ZC hA (LSpec.callL (show LSpec Tryz.prog 7 #[ms E_iiii L0] [] (Value.bool w0) [] from Zob L0 N _ h) [] n [] rfl hnd hlt (show 0 ≤ 0 from by decide) (show ∀ j ∈ ([] : List Nat), j < 0 from by decide) (by rfl) trivial (by rfl) trivial trivial rfl rfl rfl rfl rfl)

noncomputable def Zk0 (L0 : List RA) : Zax → Value
 | .r0 => vn
 | .r1 w0 => vs 0 0 w0.length w0.length
noncomputable def Zjr (L0 : List RA) : Zax → List (Option AObj)
 | .r0 => []
 | .r1 w0 => [some (.cells (Zb eI w0) 3)]

theorem Zoc (L0 : List RA) (N : Nat) : Gx Tryz.prog 23 [] #[ms E_iiii L0] (Zk0 L0) (Zjr L0) (ZcK L0 N) := by
 unfold ZcK
 refine ZaO (fun z0 c0 => ?_)
 cases z0 with
 | r0 y0_0 =>
  by_cases g1 : ¬ (y0_0 = (0 : Int))
  ·
   exact Zm Zl (r := (.r0 : Zax)) (fu := 4000) (orc := (Zi [(0, true)] [] [] [] [(0, (Zib (L0)  y0_0  0))])) (live := []) (u := vn) (bl := []) (ob := [((y0_0 != (0 : Int)), true), (dP (ZfI #[ms E_iiii L0] (L0)  y0_0  0), true)]) (by kernel_rfl) (oD <| Za (Zg (Zic #[ms E_iiii L0] (L0)  y0_0 N c0  0 rfl (by decide) (by decide))) Ze) rfl (by decide) (by rfl) rr trivial (Zj _ rfl)
  ·
   exact Zm Zl (r := (.r0 : Zax)) (fu := 4000) (orc := (Zi [(0, false)] [] [] [] [(0, (Zib (L0)  y0_0  0))])) (live := []) (u := vn) (bl := []) (ob := [((y0_0 != (0 : Int)), false), (dP (ZfI #[ms E_iiii L0] (L0)  y0_0  0), true)]) (by kernel_rfl) (oE <| Za (Zg (Zic #[ms E_iiii L0] (L0)  y0_0 N c0  0 rfl (by decide) (by decide))) Ze) rfl (by decide) (by rfl) rr trivial (Zj _ rfl)
 | r1 y0_0 y0_1 =>
  by_cases g1 : ¬ (y0_1 = (0 : Int))
  ·
   exact Zm Zl (r := (.r0 : Zax)) (fu := 4000) (orc := (Zi [(0, true)] [] [] [] [(0, (Zid (L0)  y0_0 y0_1  0))])) (live := []) (u := vn) (bl := []) (ob := [((y0_1 != (0 : Int)), true), (dP (ZfJ #[ms E_iiii L0] (L0)  y0_0 y0_1  0), true)]) (by kernel_rfl) (oD <| Za (Zg (Zie #[ms E_iiii L0] (L0)  y0_0 y0_1 N c0  0 rfl (by decide) (by decide))) Ze) rfl (by decide) (by rfl) rr trivial (Zj _ rfl)
  ·
   exact Zm Zl (r := (.r0 : Zax)) (fu := 4000) (orc := (Zi [(0, false)] [] [] [] [(0, (Zid (L0)  y0_0 y0_1  0))])) (live := []) (u := vn) (bl := []) (ob := [((y0_1 != (0 : Int)), false), (dP (ZfJ #[ms E_iiii L0] (L0)  y0_0 y0_1  0), true)]) (by kernel_rfl) (oE <| Za (Zg (Zie #[ms E_iiii L0] (L0)  y0_0 y0_1 N c0  0 rfl (by decide) (by decide))) Ze) rfl (by decide) (by rfl) rr trivial (Zj _ rfl)
 | r2 y0_0 y0_1 y0_2 y0_3 y0_4 y0_5 y0_6 =>
  refine Zn (fun g1 => ?_) (fun g1 => ?_)
  ·
   exact Zm Zl (r := (.r0 : Zax)) (fu := 4000) (orc := (Zi [(0, true)] [] [] [] [(0, (Zif (L0)  y0_0 y0_1 y0_2 y0_3 y0_4 y0_5 y0_6  0))])) (live := []) (u := vn) (bl := []) (ob := [((y0_6 != (0 : Int)), true), (dP (ZfK #[ms E_iiii L0] (L0)  y0_0 y0_1 y0_2 y0_3 y0_4 y0_5 y0_6  0), true)]) (by kernel_rfl) (oD <| Za (Zg (Zig #[ms E_iiii L0] (L0)  y0_0 y0_1 y0_2 y0_3 y0_4 y0_5 y0_6 N c0  0 rfl (by decide) (by decide))) Ze) rfl (by decide) (by rfl) rr trivial (Zj _ rfl)
  ·
   exact Zm Zl (r := (.r1 (y0_3) : Zax)) (fu := 4000) (orc := (Zi [(0, false)] [] [] [] [(0, (Zif (L0)  y0_0 y0_1 y0_2 y0_3 y0_4 y0_5 y0_6  0))])) (live := [4]) (u := vs 4 0 y0_3.length y0_3.length) (bl := [some (.cells (Zb eI y0_3) 3)]) (ob := [((y0_6 != (0 : Int)), false), (dP (ZfK #[ms E_iiii L0] (L0)  y0_0 y0_1 y0_2 y0_3 y0_4 y0_5 y0_6  0), true)]) (by kernel_rfl) (oE <| Za (Zg (Zig #[ms E_iiii L0] (L0)  y0_0 y0_1 y0_2 y0_3 y0_4 y0_5 y0_6 N c0  0 rfl (by decide) (by decide))) Ze) rfl (by decide) (by rfl) rr ⟨(Zf (E := eI) (α := Int) _ y0_3 _), trivial⟩ (Zj _ rfl)
 | r3 y0_0 y0_1 y0_2 y0_3 =>
  by_cases g1 : ¬ (y0_3 = (0 : Int))
  ·
   exact Zm Zl (r := (.r0 : Zax)) (fu := 4000) (orc := (Zi [(0, true)] [] [] [] [(0, (Zih (L0)  y0_0 y0_1 y0_2 y0_3  0))])) (live := []) (u := vn) (bl := []) (ob := [((y0_3 != (0 : Int)), true), (dP (ZfL #[ms E_iiii L0] (L0)  y0_0 y0_1 y0_2 y0_3  0), true)]) (by kernel_rfl) (oD <| Za (Zg (Zii #[ms E_iiii L0] (L0)  y0_0 y0_1 y0_2 y0_3 N c0  0 rfl (by decide) (by decide))) Ze) rfl (by decide) (by rfl) rr trivial (Zj _ rfl)
  ·
   exact Zm Zl (r := (.r0 : Zax)) (fu := 4000) (orc := (Zi [(0, false)] [] [] [] [(0, (Zih (L0)  y0_0 y0_1 y0_2 y0_3  0))])) (live := []) (u := vn) (bl := []) (ob := [((y0_3 != (0 : Int)), false), (dP (ZfL #[ms E_iiii L0] (L0)  y0_0 y0_1 y0_2 y0_3  0), true)]) (by kernel_rfl) (oE <| Za (Zg (Zii #[ms E_iiii L0] (L0)  y0_0 y0_1 y0_2 y0_3 N c0  0 rfl (by decide) (by decide))) Ze) rfl (by decide) (by rfl) rr trivial (Zj _ rfl)

theorem Zhs (L0 : List RA) (N : Nat) (r : Zax) (h : ZcK L0 N = some r) : LSpec Tryz.prog 23 #[ms E_iiii L0] [] (Zk0 L0 r) (Zjr L0 r) :=
 (Zoc L0 N) r h

noncomputable def Zo6 (L0 : List RA) (n : Nat) : Zaj := .call [] (vn) [] 0
def Zjs (A : Array Value) (L0 : List RA) (n : Nat) : Prop := Zz Tryz.prog 23 A [] (vn) [] n 0

theorem Zo7 (A : Array Value) (L0 : List RA) (N : Nat) (h : ZcK L0 N = some (.r0)) (n : Nat) (hA : A = #[ms E_iiii L0]) (hnd : ([] : List Nat).Nodup) (hlt : ∀ k ∈ ([] : List Nat), k < n) : Zjs A L0  n :=
 ZC hA (LSpec.callL (show LSpec Tryz.prog 23 #[ms E_iiii L0] [] (vn) [] from Zhs L0 N _ h) [] n [] rfl hnd hlt (show 0 ≤ 0 from by decide) (show ∀ j ∈ ([] : List Nat), j < 0 from by decide) (by rfl) trivial (by rfl) trivial trivial rfl rfl rfl rfl rfl)

noncomputable def Zo8 (L0 : List RA) (w0 : List Int) (n : Nat) : Zaj := .call [] (vs n 0 w0.length w0.length) [(n, some (.cells (Zb eI w0) 3))] 1
def Zjt (A : Array Value) (L0 : List RA) (w0 : List Int) (n : Nat) : Prop := Zz Tryz.prog 23 A [] (vs n 0 w0.length w0.length) [(n, some (.cells (Zb eI w0) 3))] n 1

theorem Zo9 (A : Array Value) (L0 : List RA) (w0 : List Int) (N : Nat) (h : ZcK L0 N = some (.r1 w0)) (n : Nat) (hA : A = #[ms E_iiii L0]) (hnd : ([] : List Nat).Nodup) (hlt : ∀ k ∈ ([] : List Nat), k < n) : Zjt A L0 w0  n :=
 ZC hA (LSpec.callL (show LSpec Tryz.prog 23 #[ms E_iiii L0] [] (vs 0 0 w0.length w0.length) [some (.cells (Zb eI w0) 3)] from Zhs L0 N _ h) [] n [0] rfl hnd hlt (show 0 ≤ 1 from by decide) (show ∀ j ∈ ([0] : List Nat), j < 1 from by decide) (by rfl) trivial (by rfl) ⟨(Zo _ _ _), trivial⟩ ⟨(by decide), trivial⟩ rfl rfl rfl rfl (Zc (Zp rfl (Zad (Z0 _ _ _))) rfl))

noncomputable def ZmR (L0 : List RA) : Zb9 → Value
 | .r0 w0 => vi w0
noncomputable def ZlO (L0 : List RA) : Zb9 → List (Option AObj)
 | .r0 w0 => []

def Zr3 : ZR → Nat
 | .h1m0 v0 v1 v4 => 1
noncomputable def Zsl (L0 : List RA) : ZR → List (Nat × Value)
 | .h1m0 v0 v1 v4 => [(3, vi (v0 : Int)), (4, vi v1), (13, ms E_iiii L0), (14, vi (L0.length : Int)), (15, vi (v4 : Int))]
noncomputable def Zsm (L0 : List RA) : ZR → List (Option AObj)
 | .h1m0 v0 v1 v4 => []

noncomputable def ZcD : Nat → Code × List ZaI
 | 1 => Zb3 [1, 1, 1, 0, 1, 3] (Zc8 Tryz.f8) []
 | _ => (.skip, [])
def ZlP : Nat → Bool
 | 1 => true
 | _ => true
noncomputable def ZbN (i : Nat) : List ZaI := match ZlP i with | true => .rnd i :: (ZcD i).2 | false => (ZcD i).2

noncomputable def Za4 (L0 : List RA) (N : Nat) : Mach := ⟨Tryz.f8, [], ZR, Zb9, Zdx L0 N, Zr3, ZcD, ZlP, Zsl L0, Zsm L0, ZmR L0, ZlO L0⟩

end Ev
end Go.Proofs.YtelfeeoobdpmkaaGreat
