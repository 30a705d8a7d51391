/- Calls do what the plain functions say. -/
import Derived.Test.YtpgbennpiihajaaKmq2
namespace Go.Proofs.Ytpgbennpiihajaa
open Go.RowKit
namespace Ev
set_option linter.unusedVariables false
set_option maxRecDepth 100000
theorem ZjA (o0 : Nat) (L1 : List R_iiii) (n2 n3 : Nat) (O0 : Obj) (F0 : Zs O0 o0 L1) (N : Nat) (r : ZaI) (h : ZeQ L1 n2 n3 N = some r) : LSpec Try.prog 15 #[vs 0 o0 n2 n3] [.ro O0] (ZnR o0 L1 n2 n3 O0 r) (Zmp o0 L1 n2 n3 O0 r) :=
 ZaB Zao Try.func15 (by kernel_rfl) (by kernel_rfl) (fun r => by cases r <;> exact ZN _ rfl) (Zrb o0 L1 n2 n3 O0 F0 N) h

noncomputable def Zmq (o0 : Nat) (L1 : List R_iiii) (n2 n3 : Nat) (O0 : Obj) (w2 : Int) (k0 n : Nat) : Zak := .call [(k0, .ro O0)] (Value.tuple #[vn, vi w2]) [] 0
def Zi9 (A : Array Value) (o0 : Nat) (L1 : List R_iiii) (n2 n3 : Nat) (O0 : Obj) (w2 : Int) (k0 n : Nat) : Prop := Zw Try.prog 15 A [(k0, .ro O0)] (Value.tuple #[vn, vi w2]) [] n 0

theorem Zmr (A : Array Value) (o0 : Nat) (L1 : List R_iiii) (n2 n3 : Nat) (O0 : Obj) (F0 : Zs O0 o0 L1) (w2 : Int) (N : Nat) (h : ZeQ L1 n2 n3 N = some (.r0 w2)) (k0 n : Nat) (hA : A = #[vs k0 o0 n2 n3]) (hnd : ([k0] : List Nat).Nodup) (hlt : ∀ k ∈ ([k0] : List Nat), k < n) : Zi9 A o0 L1 n2 n3 O0 w2 k0 n :=
 Z0 hA (LSpec.callL (show LSpec Try.prog 15 #[vs 0 o0 n2 n3] [.ro O0] (Value.tuple #[vn, vi w2]) [some (.ro O0)] from ZjA o0 L1 n2 n3 O0 F0 N _ h) [k0] n [] rfl hnd hlt (show 1 ≤ 1 from by decide) (show ∀ j ∈ ([] : List Nat), j < 1 from by decide) (by rfl) ⟨rfl, trivial⟩ (by rfl) ⟨rfl, trivial⟩ ⟨.inr rfl, trivial⟩ rfl rfl rfl (Zc (Zn rfl rfl) rfl) rfl)

noncomputable def Zms (o0 : Nat) (L1 : List R_iiii) (n2 n3 : Nat) (O0 : Obj) (w2 : List Int) (k0 n : Nat) : Zak := .call [(k0, .ro O0)] (Value.tuple #[vs n 0 w2.length w2.length, v0]) [(n, some (.cells (Zb eI w2) 3))] 1
def ZiA (A : Array Value) (o0 : Nat) (L1 : List R_iiii) (n2 n3 : Nat) (O0 : Obj) (w2 : List Int) (k0 n : Nat) : Prop := Zw Try.prog 15 A [(k0, .ro O0)] (Value.tuple #[vs n 0 w2.length w2.length, v0]) [(n, some (.cells (Zb eI w2) 3))] n 1

theorem Zmt (A : Array Value) (o0 : Nat) (L1 : List R_iiii) (n2 n3 : Nat) (O0 : Obj) (F0 : Zs O0 o0 L1) (w2 : List Int) (N : Nat) (h : ZeQ L1 n2 n3 N = some (.r1 w2)) (k0 n : Nat) (hA : A = #[vs k0 o0 n2 n3]) (hnd : ([k0] : List Nat).Nodup) (hlt : ∀ k ∈ ([k0] : List Nat), k < n) : ZiA A o0 L1 n2 n3 O0 w2 k0 n :=
 Z0 hA (LSpec.callL (show LSpec Try.prog 15 #[vs 0 o0 n2 n3] [.ro O0] (Value.tuple #[vs 1 0 w2.length w2.length, v0]) [some (.ro O0), some (.cells (Zb eI w2) 3)] from ZjA o0 L1 n2 n3 O0 F0 N _ h) [k0] n [1] rfl hnd hlt (show 1 ≤ 2 from by decide) (show ∀ j ∈ ([1] : List Nat), j < 2 from by decide) (by rfl) ⟨rfl, trivial⟩ (by rfl) ⟨rfl, ⟨(Zp _ _ _), trivial⟩⟩ ⟨.inr rfl, ⟨(by decide), trivial⟩⟩ rfl rfl rfl (Zc (Zn rfl rfl) rfl) (Zc (Zn rfl (Zac (Zy _ _ _))) rfl))

noncomputable def Zp0 (a0 a1 a2 a3 a4 : Int) : Zb6 → Value
 | .r0 => Value.tuple #[vs 0 0 1 1, vT]
 | .r1 w0 => Value.tuple #[vn, Value.bool w0]
noncomputable def ZnS (a0 a1 a2 a3 a4 : Int) : Zb6 → List (Option AObj)
 | .r0 => [some (.cells (Zb Ze ([(⟨a4, (0 : Int)⟩ : R_ii)] : List R_ii)) 58)]
 | .r1 w0 => []

theorem Zsf (a0 a1 a2 a3 a4 : Int) (N : Nat) : Fx Try.prog Zr Try.f27 [] #[vn, Value.agg #[vi a0, vi a1, vi a2, vi a3], vi a4] (Zp0 a0 a1 a2 a3 a4) (ZnS a0 a1 a2 a3 a4) (Zei a0 a1 a2 a3 a4 N) := by
 unfold Zei
 refine Zm (fun g0 => ?_) (fun g0 => ?_)
 ·
  exact Zk (r := (.r0 : Zb6)) (fu := 4000) (orc := (Zi [(0, true)] [] [] [] [])) (live := [3]) (u := Value.tuple #[vs 3 0 1 1, vT]) (bl := [some (.cells [vi a4, v0] 58)]) (ob := [((a0 == (15 : Int)), true)]) (by kernel_rfl) (oT Zd) rfl (by decide) (by rfl) rr ⟨(ZbO (E := Ze) _ (L := ([(⟨a4, (0 : Int)⟩ : R_ii)] : List R_ii)) _ (show ([vi a4, v0] : List Value) = Zb Ze ([(⟨a4, (0 : Int)⟩ : R_ii)] : List R_ii) from rfl)), trivial⟩
 ·
  refine Zm (fun g1 => ?_) (fun g1 => ?_)
  ·
   exact Zk (r := (.r1 (false) : Zb6)) (fu := 4000) (orc := (Zi [(0, false), (1, true)] [] [] [] [])) (live := []) (u := Value.tuple #[vn, vf]) (bl := []) (ob := [((a0 == (16 : Int)), true), ((a0 == (15 : Int)), false)]) (by kernel_rfl) (oT <| oF Zd) rfl (by decide) (by rfl) rr trivial
  ·
   refine Zm (fun g2 => ?_) (fun g2 => ?_)
   ·
    exact Zk (r := (.r1 (false) : Zb6)) (fu := 4000) (orc := (Zi [(0, false), (1, false), (2, true)] [] [] [] [])) (live := []) (u := Value.tuple #[vn, vf]) (bl := []) (ob := [((a0 == (17 : Int)), true), ((a0 == (16 : Int)), false), ((a0 == (15 : Int)), false)]) (by kernel_rfl) (oT <| oF <| oF Zd) rfl (by decide) (by rfl) rr trivial
   ·
    refine Zm (fun g3 => ?_) (fun g3 => ?_)
    ·
     exact Zk (r := (.r1 (false) : Zb6)) (fu := 4000) (orc := (Zi [(0, false), (1, false), (2, false), (3, true)] [] [] [] [])) (live := []) (u := Value.tuple #[vn, vf]) (bl := []) (ob := [((a0 == (18 : Int)), true), ((a0 == (17 : Int)), false), ((a0 == (16 : Int)), false), ((a0 == (15 : Int)), false)]) (by kernel_rfl) (oT <| oF <| oF <| oF Zd) rfl (by decide) (by rfl) rr trivial
    ·
     by_cases g4 : a0 = (20 : Int)
     ·
      exact Zk (r := (.r1 (true) : Zb6)) (fu := 4000) (orc := (Zi [(0, false), (1, false), (2, false), (3, false), (4, true)] [] [] [] [])) (live := []) (u := Value.tuple #[vn, vT]) (bl := []) (ob := [((a0 == (20 : Int)), true), ((a0 == (18 : Int)), false), ((a0 == (17 : Int)), false), ((a0 == (16 : Int)), false), ((a0 == (15 : Int)), false)]) (by kernel_rfl) (oT <| oF <| oF <| oF <| oF Zd) rfl (by decide) (by rfl) rr trivial
     ·
      exact Zk (r := (.r1 (true) : Zb6)) (fu := 4000) (orc := (Zi [(0, false), (1, false), (2, false), (3, false), (4, false)] [] [] [] [])) (live := []) (u := Value.tuple #[vn, vT]) (bl := []) (ob := [((a0 == (20 : Int)), false), ((a0 == (18 : Int)), false), ((a0 == (17 : Int)), false), ((a0 == (16 : Int)), false), ((a0 == (15 : Int)), false)]) (by kernel_rfl) (oF <| oF <| oF <| oF <| oF Zd) rfl (by decide) (by rfl) rr trivial

theorem Zkl (a0 a1 a2 a3 a4 : Int) (N : Nat) (r : Zb6) (h : Zei a0 a1 a2 a3 a4 N = some r) : LSpec Try.prog 27 #[vn, Value.agg #[vi a0, vi a1, vi a2, vi a3], vi a4] [] (Zp0 a0 a1 a2 a3 a4 r) (ZnS a0 a1 a2 a3 a4 r) :=
 ZaB Zao Try.func27 (by kernel_rfl) (by kernel_rfl) (fun r => by cases r <;> exact ZN _ rfl) (Zsf a0 a1 a2 a3 a4 N) h

noncomputable def ZjB (a0 a1 a2 a3 a4 : Int) (n : Nat) : Zak := .call [] (Value.tuple #[vs n 0 1 1, vT]) [(n, some (.cells (Zb Ze ([(⟨a4, (0 : Int)⟩ : R_ii)] : List R_ii)) 58))] 1
def Zhz (A : Array Value) (a0 a1 a2 a3 a4 : Int) (n : Nat) : Prop := Zw Try.prog 27 A [] (Value.tuple #[vs n 0 1 1, vT]) [(n, some (.cells (Zb Ze ([(⟨a4, (0 : Int)⟩ : R_ii)] : List R_ii)) 58))] n 1

theorem ZjC (A : Array Value) (a0 a1 a2 a3 a4 : Int) (N : Nat) (h : Zei a0 a1 a2 a3 a4 N = some (.r0)) (n : Nat) (hA : A = #[vn, Value.agg #[vi a0, vi a1, vi a2, vi a3], vi a4]) (hnd : ([] : List Nat).Nodup) (hlt : ∀ k ∈ ([] : List Nat), k < n) : Zhz A a0 a1 a2 a3 a4  n :=
 Z0 hA (LSpec.callL (show LSpec Try.prog 27 #[vn, Value.agg #[vi a0, vi a1, vi a2, vi a3], vi a4] [] (Value.tuple #[vs 0 0 1 1, vT]) [some (.cells (Zb Ze ([(⟨a4, (0 : Int)⟩ : R_ii)] : List R_ii)) 58)] from Zkl a0 a1 a2 a3 a4 N _ h) [] n [0] rfl hnd hlt (show 0 ≤ 1 from by decide) (show ∀ j ∈ ([0] : List Nat), j < 1 from by decide) (by rfl) trivial (by rfl) ⟨(Zp _ _ _), trivial⟩ ⟨(by decide), trivial⟩ rfl rfl rfl rfl (Zc (Zn rfl (Zac (Zy _ _ _))) rfl))

noncomputable def Zh0 (a0 a1 a2 a3 a4 : Int) (w0 : Bool) (n : Nat) : Zak := .call [] (Value.tuple #[vn, Value.bool w0]) [] 0
def Zgk (A : Array Value) (a0 a1 a2 a3 a4 : Int) (w0 : Bool) (n : Nat) : Prop := Zw Try.prog 27 A [] (Value.tuple #[vn, Value.bool w0]) [] n 0

theorem Zh1 (A : Array Value) (a0 a1 a2 a3 a4 : Int) (w0 : Bool) (N : Nat) (h : Zei a0 a1 a2 a3 a4 N = some (.r1 w0)) (n : Nat) (hA : A = #[vn, Value.agg #[vi a0, vi a1, vi a2, vi a3], vi a4]) (hnd : ([] : List Nat).Nodup) (hlt : ∀ k ∈ ([] : List Nat), k < n) : Zgk A a0 a1 a2 a3 a4 w0  n :=
 Z0 hA (LSpec.callL (show LSpec Try.prog 27 #[vn, Value.agg #[vi a0, vi a1, vi a2, vi a3], vi a4] [] (Value.tuple #[vn, Value.bool w0]) [] from Zkl a0 a1 a2 a3 a4 N _ h) [] n [] rfl hnd hlt (show 0 ≤ 0 from by decide) (show ∀ j ∈ ([] : List Nat), j < 0 from by decide) (by rfl) trivial (by rfl) trivial trivial rfl rfl rfl rfl rfl)

noncomputable def Zq2 (a0 : Int) : ZD → Value
 | .r0 w0 w1 w2 w3 => Value.tuple #[Value.agg #[vi w0, vi w1, vi w2], Value.bool w3]
noncomputable def Zp1 (a0 : Int) : ZD → List (Option AObj)
 | .r0 w0 w1 w2 w3 => []

theorem Ztu (a0 : Int) (N : Nat) : Fx Try.prog Zr Try.f39 [] #[vi a0] (Zq2 a0) (Zp1 a0) (ZeJ a0 N) := by
 unfold ZeJ
 refine Zm (fun g0 => ?_) (fun g0 => ?_)
 ·
  exact Zk (r := (.r0 ((1 : Int)) ((2 : Int)) ((0 : Int)) (true) : ZD)) (fu := 4000) (orc := (Zi [(0, true)] [] [] [] [])) (live := []) (u := Value.tuple #[Value.agg #[vi (1 : Int), vi (2 : Int), v0], vT]) (bl := []) (ob := [((a0 == (1 : Int)), true)]) (by kernel_rfl) (oT Zd) rfl (by decide) (by rfl) rr trivial
 ·
  refine Zm (fun g1 => ?_) (fun g1 => ?_)
  ·
   exact Zk (r := (.r0 ((1 : Int)) ((0 : Int)) ((0 : Int)) (true) : ZD)) (fu := 4000) (orc := (Zi [(0, false), (1, true)] [] [] [] [])) (live := []) (u := Value.tuple #[Value.agg #[vi (1 : Int), v0, v0], vT]) (bl := []) (ob := [((a0 == (2 : Int)), true), ((a0 == (1 : Int)), false)]) (by kernel_rfl) (oT <| oF Zd) rfl (by decide) (by rfl) rr trivial
  ·
   refine Zm (fun g2 => ?_) (fun g2 => ?_)
   ·
    exact Zk (r := (.r0 ((1 : Int)) ((0 : Int)) ((0 : Int)) (true) : ZD)) (fu := 4000) (orc := (Zi [(0, false), (1, false), (2, true)] [] [] [] [])) (live := []) (u := Value.tuple #[Value.agg #[vi (1 : Int), v0, v0], vT]) (bl := []) (ob := [((a0 == (10 : Int)), true), ((a0 == (2 : Int)), false), ((a0 == (1 : Int)), false)]) (by kernel_rfl) (oT <| oF <| oF Zd) rfl (by decide) (by rfl) rr trivial
   ·
    refine Zm (fun g3 => ?_) (fun g3 => ?_)
    ·
     exact Zk (r := (.r0 ((1 : Int)) ((0 : Int)) ((0 : Int)) (true) : ZD)) (fu := 4000) (orc := (Zi [(0, false), (1, false), (2, false), (3, true)] [] [] [] [])) (live := []) (u := Value.tuple #[Value.agg #[vi (1 : Int), v0, v0], vT]) (bl := []) (ob := [((a0 == (12 : Int)), true), ((a0 == (10 : Int)), false), ((a0 == (2 : Int)), false), ((a0 == (1 : Int)), false)]) (by kernel_rfl) (oT <| oF <| oF <| oF Zd) rfl (by decide) (by rfl) rr trivial
    ·
     refine Zm (fun g4 => ?_) (fun g4 => ?_)
     ·
      exact Zk (r := (.r0 ((1 : Int)) ((0 : Int)) ((0 : Int)) (true) : ZD)) (fu := 4000) (orc := (Zi [(0, false), (1, false), (2, false), (3, false), (4, true)] [] [] [] [])) (live := []) (u := Value.tuple #[Value.agg #[vi (1 : Int), v0, v0], vT]) (bl := []) (ob := [((a0 == (19 : Int)), true), ((a0 == (12 : Int)), false), ((a0 == (10 : Int)), false), ((a0 == (2 : Int)), false), ((a0 == (1 : Int)), false)]) (by kernel_rfl) (oT <| oF <| oF <| oF <| oF Zd) rfl (by decide) (by rfl) rr trivial
     ·
      refine Zm (fun g5 => ?_) (fun g5 => ?_)
      ·
       exact Zk (r := (.r0 ((1 : Int)) ((1 : Int)) ((0 : Int)) (true) : ZD)) (fu := 4000) (orc := (Zi [(0, false), (1, false), (2, false), (3, false), (4, false), (5, true)] [] [] [] [])) (live := []) (u := Value.tuple #[Value.agg #[vi (1 : Int), vi (1 : Int), v0], vT]) (bl := []) (ob := [((a0 == (3 : Int)), true), ((a0 == (19 : Int)), false), ((a0 == (12 : Int)), false), ((a0 == (10 : Int)), false), ((a0 == (2 : Int)), false), ((a0 == (1 : Int)), false)]) (by kernel_rfl) (oT <| oF <| oF <| oF <| oF <| oF Zd) rfl (by decide) (by rfl) rr trivial
      ·
       refine Zm (fun g6 => ?_) (fun g6 => ?_)
       ·
        exact Zk (r := (.r0 ((1 : Int)) ((1 : Int)) ((1 : Int)) (true) : ZD)) (fu := 4000) (orc := (Zi [(0, false), (1, false), (2, false), (3, false), (4, false), (5, false), (6, true)] [] [] [] [])) (live := []) (u := Value.tuple #[Value.agg #[vi (1 : Int), vi (1 : Int), vi (1 : Int)], vT]) (bl := []) (ob := [((a0 == (4 : Int)), true), ((a0 == (3 : Int)), false), ((a0 == (19 : Int)), false), ((a0 == (12 : Int)), false), ((a0 == (10 : Int)), false), ((a0 == (2 : Int)), false), ((a0 == (1 : Int)), false)]) (by kernel_rfl) (oT <| oF <| oF <| oF <| oF <| oF <| oF Zd) rfl (by decide) (by rfl) rr trivial
       ·
        refine Zm (fun g7 => ?_) (fun g7 => ?_)
        ·
         exact Zk (r := (.r0 ((1 : Int)) ((1 : Int)) ((1 : Int)) (true) : ZD)) (fu := 4000) (orc := (Zi [(0, false), (1, false), (2, false), (3, false), (4, false), (5, false), (6, false), (7, true)] [] [] [] [])) (live := []) (u := Value.tuple #[Value.agg #[vi (1 : Int), vi (1 : Int), vi (1 : Int)], vT]) (bl := []) (ob := [((a0 == (5 : Int)), true), ((a0 == (4 : Int)), false), ((a0 == (3 : Int)), false), ((a0 == (19 : Int)), false), ((a0 == (12 : Int)), false), ((a0 == (10 : Int)), false), ((a0 == (2 : Int)), false), ((a0 == (1 : Int)), false)]) (by kernel_rfl) (oT <| oF <| oF <| oF <| oF <| oF <| oF <| oF Zd) rfl (by decide) (by rfl) rr trivial
        ·
         refine Zm (fun g8 => ?_) (fun g8 => ?_)
         ·
          exact Zk (r := (.r0 ((1 : Int)) ((1 : Int)) ((1 : Int)) (true) : ZD)) (fu := 4000) (orc := (Zi [(0, false), (1, false), (2, false), (3, false), (4, false), (5, false), (6, false), (7, false), (8, true)] [] [] [] [])) (live := []) (u := Value.tuple #[Value.agg #[vi (1 : Int), vi (1 : Int), vi (1 : Int)], vT]) (bl := []) (ob := [((a0 == (6 : Int)), true), ((a0 == (5 : Int)), false), ((a0 == (4 : Int)), false), ((a0 == (3 : Int)), false), ((a0 == (19 : Int)), false), ((a0 == (12 : Int)), false), ((a0 == (10 : Int)), false), ((a0 == (2 : Int)), false), ((a0 == (1 : Int)), false)]) (by kernel_rfl) (oT <| oF <| oF <| oF <| oF <| oF <| oF <| oF <| oF Zd) rfl (by decide) (by rfl) rr trivial
         ·
          refine Zm (fun g9 => ?_) (fun g9 => ?_)
          ·
           exact Zk (r := (.r0 ((1 : Int)) ((1 : Int)) ((1 : Int)) (true) : ZD)) (fu := 4000) (orc := (Zi [(0, false), (1, false), (2, false), (3, false), (4, false), (5, false), (6, false), (7, false), (8, false), (9, true)] [] [] [] [])) (live := []) (u := Value.tuple #[Value.agg #[vi (1 : Int), vi (1 : Int), vi (1 : Int)], vT]) (bl := []) (ob := [((a0 == (7 : Int)), true), ((a0 == (6 : Int)), false), ((a0 == (5 : Int)), false), ((a0 == (4 : Int)), false), ((a0 == (3 : Int)), false), ((a0 == (19 : Int)), false), ((a0 == (12 : Int)), false), ((a0 == (10 : Int)), false), ((a0 == (2 : Int)), false), ((a0 == (1 : Int)), false)]) (by kernel_rfl) (oT <| oF <| oF <| oF <| oF <| oF <| oF <| oF <| oF <| oF Zd) rfl (by decide) (by rfl) rr trivial
          ·
           refine Zm (fun g10 => ?_) (fun g10 => ?_)
           ·
            exact Zk (r := (.r0 ((3 : Int)) ((0 : Int)) ((0 : Int)) (true) : ZD)) (fu := 4000) (orc := (Zi [(0, false), (1, false), (2, false), (3, false), (4, false), (5, false), (6, false), (7, false), (8, false), (9, false), (10, true)] [] [] [] [])) (live := []) (u := Value.tuple #[Value.agg #[vi (3 : Int), v0, v0], vT]) (bl := []) (ob := [((a0 == (8 : Int)), true), ((a0 == (7 : Int)), false), ((a0 == (6 : Int)), false), ((a0 == (5 : Int)), false), ((a0 == (4 : Int)), false), ((a0 == (3 : Int)), false), ((a0 == (19 : Int)), false), ((a0 == (12 : Int)), false), ((a0 == (10 : Int)), false), ((a0 == (2 : Int)), false), ((a0 == (1 : Int)), false)]) (by kernel_rfl) (oT <| oF <| oF <| oF <| oF <| oF <| oF <| oF <| oF <| oF <| oF Zd) rfl (by decide) (by rfl) rr trivial
           ·
            refine Zm (fun g11 => ?_) (fun g11 => ?_)
            ·
             exact Zk (r := (.r0 ((1 : Int)) ((3 : Int)) ((0 : Int)) (true) : ZD)) (fu := 4000) (orc := (Zi [(0, false), (1, false), (2, false), (3, false), (4, false), (5, false), (6, false), (7, false), (8, false), (9, false), (10, false), (11, true)] [] [] [] [])) (live := []) (u := Value.tuple #[Value.agg #[vi (1 : Int), vi (3 : Int), v0], vT]) (bl := []) (ob := [((a0 == (9 : Int)), true), ((a0 == (8 : Int)), false), ((a0 == (7 : Int)), false), ((a0 == (6 : Int)), false), ((a0 == (5 : Int)), false), ((a0 == (4 : Int)), false), ((a0 == (3 : Int)), false), ((a0 == (19 : Int)), false), ((a0 == (12 : Int)), false), ((a0 == (10 : Int)), false), ((a0 == (2 : Int)), false), ((a0 == (1 : Int)), false)]) (by kernel_rfl) (oT <| oF <| oF <| oF <| oF <| oF <| oF <| oF <| oF <| oF <| oF <| oF Zd) rfl (by decide) (by rfl) rr trivial
            ·
             refine Zm (fun g12 => ?_) (fun g12 => ?_)
             ·
              exact Zk (r := (.r0 ((1 : Int)) ((5 : Int)) ((6 : Int)) (true) : ZD)) (fu := 4000) (orc := (Zi [(0, false), (1, false), (2, false), (3, false), (4, false), (5, false), (6, false), (7, false), (8, false), (9, false), (10, false), (11, false), (12, true)] [] [] [] [])) (live := []) (u := Value.tuple #[Value.agg #[vi (1 : Int), vi (5 : Int), vi (6 : Int)], vT]) (bl := []) (ob := [((a0 == (11 : Int)), true), ((a0 == (9 : Int)), false), ((a0 == (8 : Int)), false), ((a0 == (7 : Int)), false), ((a0 == (6 : Int)), false), ((a0 == (5 : Int)), false), ((a0 == (4 : Int)), false), ((a0 == (3 : Int)), false), ((a0 == (19 : Int)), false), ((a0 == (12 : Int)), false), ((a0 == (10 : Int)), false), ((a0 == (2 : Int)), false), ((a0 == (1 : Int)), false)]) (by kernel_rfl) (oT <| oF <| oF <| oF <| oF <| oF <| oF <| oF <| oF <| oF <| oF <| oF <| oF Zd) rfl (by decide) (by rfl) rr trivial
             ·
              refine Zm (fun g13 => ?_) (fun g13 => ?_)
              ·
               exact Zk (r := (.r0 ((1 : Int)) ((1 : Int)) ((4 : Int)) (true) : ZD)) (fu := 4000) (orc := (Zi [(0, false), (1, false), (2, false), (3, false), (4, false), (5, false), (6, false), (7, false), (8, false), (9, false), (10, false), (11, false), (12, false), (13, true)] [] [] [] [])) (live := []) (u := Value.tuple #[Value.agg #[vi (1 : Int), vi (1 : Int), vi (4 : Int)], vT]) (bl := []) (ob := [((a0 == (13 : Int)), true), ((a0 == (11 : Int)), false), ((a0 == (9 : Int)), false), ((a0 == (8 : Int)), false), ((a0 == (7 : Int)), false), ((a0 == (6 : Int)), false), ((a0 == (5 : Int)), false), ((a0 == (4 : Int)), false), ((a0 == (3 : Int)), false), ((a0 == (19 : Int)), false), ((a0 == (12 : Int)), false), ((a0 == (10 : Int)), false), ((a0 == (2 : Int)), false), ((a0 == (1 : Int)), false)]) (by kernel_rfl) (oT <| oF <| oF <| oF <| oF <| oF <| oF <| oF <| oF <| oF <| oF <| oF <| oF <| oF Zd) rfl (by decide) (by rfl) rr trivial
              ·
               refine Zm (fun g14 => ?_) (fun g14 => ?_)
               ·
                exact Zk (r := (.r0 ((1 : Int)) ((4 : Int)) ((1 : Int)) (true) : ZD)) (fu := 4000) (orc := (Zi [(0, false), (1, false), (2, false), (3, false), (4, false), (5, false), (6, false), (7, false), (8, false), (9, false), (10, false), (11, false), (12, false), (13, false), (14, true)] [] [] [] [])) (live := []) (u := Value.tuple #[Value.agg #[vi (1 : Int), vi (4 : Int), vi (1 : Int)], vT]) (bl := []) (ob := [((a0 == (14 : Int)), true), ((a0 == (13 : Int)), false), ((a0 == (11 : Int)), false), ((a0 == (9 : Int)), false), ((a0 == (8 : Int)), false), ((a0 == (7 : Int)), false), ((a0 == (6 : Int)), false), ((a0 == (5 : Int)), false), ((a0 == (4 : Int)), false), ((a0 == (3 : Int)), false), ((a0 == (19 : Int)), false), ((a0 == (12 : Int)), false), ((a0 == (10 : Int)), false), ((a0 == (2 : Int)), false), ((a0 == (1 : Int)), false)]) (by kernel_rfl) (oT <| oF <| oF <| oF <| oF <| oF <| oF <| oF <| oF <| oF <| oF <| oF <| oF <| oF <| oF Zd) rfl (by decide) (by rfl) rr trivial
               ·
                refine Zm (fun g15 => ?_) (fun g15 => ?_)
                ·
                 exact Zk (r := (.r0 ((0 : Int)) ((0 : Int)) ((0 : Int)) (true) : ZD)) (fu := 4000) (orc := (Zi [(0, false), (1, false), (2, false), (3, false), (4, false), (5, false), (6, false), (7, false), (8, false), (9, false), (10, false), (11, false), (12, false), (13, false), (14, false), (15, true)] [] [] [] [])) (live := []) (u := Value.tuple #[Value.agg #[v0, v0, v0], vT]) (bl := []) (ob := [((a0 == (15 : Int)), true), ((a0 == (14 : Int)), false), ((a0 == (13 : Int)), false), ((a0 == (11 : Int)), false), ((a0 == (9 : Int)), false), ((a0 == (8 : Int)), false), ((a0 == (7 : Int)), false), ((a0 == (6 : Int)), false), ((a0 == (5 : Int)), false), ((a0 == (4 : Int)), false), ((a0 == (3 : Int)), false), ((a0 == (19 : Int)), false), ((a0 == (12 : Int)), false), ((a0 == (10 : Int)), false), ((a0 == (2 : Int)), false), ((a0 == (1 : Int)), false)]) (by kernel_rfl) (oT <| oF <| oF <| oF <| oF <| oF <| oF <| oF <| oF <| oF <| oF <| oF <| oF <| oF <| oF <| oF Zd) rfl (by decide) (by rfl) rr trivial
                ·
                 refine Zm (fun g16 => ?_) (fun g16 => ?_)
                 ·
                  exact Zk (r := (.r0 ((0 : Int)) ((0 : Int)) ((0 : Int)) (true) : ZD)) (fu := 4000) (orc := (Zi [(0, false), (1, false), (2, false), (3, false), (4, false), (5, false), (6, false), (7, false), (8, false), (9, false), (10, false), (11, false), (12, false), (13, false), (14, false), (15, false), (16, true)] [] [] [] [])) (live := []) (u := Value.tuple #[Value.agg #[v0, v0, v0], vT]) (bl := []) (ob := [((a0 == (16 : Int)), true), ((a0 == (15 : Int)), false), ((a0 == (14 : Int)), false), ((a0 == (13 : Int)), false), ((a0 == (11 : Int)), false), ((a0 == (9 : Int)), false), ((a0 == (8 : Int)), false), ((a0 == (7 : Int)), false), ((a0 == (6 : Int)), false), ((a0 == (5 : Int)), false), ((a0 == (4 : Int)), false), ((a0 == (3 : Int)), false), ((a0 == (19 : Int)), false), ((a0 == (12 : Int)), false), ((a0 == (10 : Int)), false), ((a0 == (2 : Int)), false), ((a0 == (1 : Int)), false)]) (by kernel_rfl) (oT <| oF <| oF <| oF <| oF <| oF <| oF <| oF <| oF <| oF <| oF <| oF <| oF <| oF <| oF <| oF <| oF Zd) rfl (by decide) (by rfl) rr trivial
                 ·
                  refine Zm (fun g17 => ?_) (fun g17 => ?_)
                  ·
                   exact Zk (r := (.r0 ((0 : Int)) ((0 : Int)) ((0 : Int)) (true) : ZD)) (fu := 4000) (orc := (Zi [(0, false), (1, false), (2, false), (3, false), (4, false), (5, false), (6, false), (7, false), (8, false), (9, false), (10, false), (11, false), (12, false), (13, false), (14, false), (15, false), (16, false), (17, true)] [] [] [] [])) (live := []) (u := Value.tuple #[Value.agg #[v0, v0, v0], vT]) (bl := []) (ob := [((a0 == (17 : Int)), true), ((a0 == (16 : Int)), false), ((a0 == (15 : Int)), false), ((a0 == (14 : Int)), false), ((a0 == (13 : Int)), false), ((a0 == (11 : Int)), false), ((a0 == (9 : Int)), false), ((a0 == (8 : Int)), false), ((a0 == (7 : Int)), false), ((a0 == (6 : Int)), false), ((a0 == (5 : Int)), false), ((a0 == (4 : Int)), false), ((a0 == (3 : Int)), false), ((a0 == (19 : Int)), false), ((a0 == (12 : Int)), false), ((a0 == (10 : Int)), false), ((a0 == (2 : Int)), false), ((a0 == (1 : Int)), false)]) (by kernel_rfl) (oT <| oF <| oF <| oF <| oF <| oF <| oF <| oF <| oF <| oF <| oF <| oF <| oF <| oF <| oF <| oF <| oF <| oF Zd) rfl (by decide) (by rfl) rr trivial
                  ·
                   refine Zm (fun g18 => ?_) (fun g18 => ?_)
                   ·
                    exact Zk (r := (.r0 ((0 : Int)) ((0 : Int)) ((0 : Int)) (true) : ZD)) (fu := 4000) (orc := (Zi [(0, false), (1, false), (2, false), (3, false), (4, false), (5, false), (6, false), (7, false), (8, false), (9, false), (10, false), (11, false), (12, false), (13, false), (14, false), (15, false), (16, false), (17, false), (18, true)] [] [] [] [])) (live := []) (u := Value.tuple #[Value.agg #[v0, v0, v0], vT]) (bl := []) (ob := [((a0 == (18 : Int)), true), ((a0 == (17 : Int)), false), ((a0 == (16 : Int)), false), ((a0 == (15 : Int)), false), ((a0 == (14 : Int)), false), ((a0 == (13 : Int)), false), ((a0 == (11 : Int)), false), ((a0 == (9 : Int)), false), ((a0 == (8 : Int)), false), ((a0 == (7 : Int)), false), ((a0 == (6 : Int)), false), ((a0 == (5 : Int)), false), ((a0 == (4 : Int)), false), ((a0 == (3 : Int)), false), ((a0 == (19 : Int)), false), ((a0 == (12 : Int)), false), ((a0 == (10 : Int)), false), ((a0 == (2 : Int)), false), ((a0 == (1 : Int)), false)]) (by kernel_rfl) (oT <| oF <| oF <| oF <| oF <| oF <| oF <| oF <| oF <| oF <| oF <| oF <| oF <| oF <| oF <| oF <| oF <| oF <| oF Zd) rfl (by decide) (by rfl) rr trivial
                   ·
                    refine Zm (fun g19 => ?_) (fun g19 => ?_)
                    ·
                     exact Zk (r := (.r0 ((0 : Int)) ((0 : Int)) ((0 : Int)) (true) : ZD)) (fu := 4000) (orc := (Zi [(0, false), (1, false), (2, false), (3, false), (4, false), (5, false), (6, false), (7, false), (8, false), (9, false), (10, false), (11, false), (12, false), (13, false), (14, false), (15, false), (16, false), (17, false), (18, false), (19, true)] [] [] [] [])) (live := []) (u := Value.tuple #[Value.agg #[v0, v0, v0], vT]) (bl := []) (ob := [((a0 == (20 : Int)), true), ((a0 == (18 : Int)), false), ((a0 == (17 : Int)), false), ((a0 == (16 : Int)), false), ((a0 == (15 : Int)), false), ((a0 == (14 : Int)), false), ((a0 == (13 : Int)), false), ((a0 == (11 : Int)), false), ((a0 == (9 : Int)), false), ((a0 == (8 : Int)), false), ((a0 == (7 : Int)), false), ((a0 == (6 : Int)), false), ((a0 == (5 : Int)), false), ((a0 == (4 : Int)), false), ((a0 == (3 : Int)), false), ((a0 == (19 : Int)), false), ((a0 == (12 : Int)), false), ((a0 == (10 : Int)), false), ((a0 == (2 : Int)), false), ((a0 == (1 : Int)), false)]) (by kernel_rfl) (oT <| oF <| oF <| oF <| oF <| oF <| oF <| oF <| oF <| oF <| oF <| oF <| oF <| oF <| oF <| oF <| oF <| oF <| oF <| oF Zd) rfl (by decide) (by rfl) rr trivial
                    ·
                     exact Zk (r := (.r0 ((0 : Int)) ((0 : Int)) ((0 : Int)) (false) : ZD)) (fu := 4000) (orc := (Zi [(0, false), (1, false), (2, false), (3, false), (4, false), (5, false), (6, false), (7, false), (8, false), (9, false), (10, false), (11, false), (12, false), (13, false), (14, false), (15, false), (16, false), (17, false), (18, false), (19, false)] [] [] [] [])) (live := []) (u := Value.tuple #[Value.agg #[v0, v0, v0], vf]) (bl := []) (ob := [((a0 == (20 : Int)), false), ((a0 == (18 : Int)), false), ((a0 == (17 : Int)), false), ((a0 == (16 : Int)), false), ((a0 == (15 : Int)), false), ((a0 == (14 : Int)), false), ((a0 == (13 : Int)), false), ((a0 == (11 : Int)), false), ((a0 == (9 : Int)), false), ((a0 == (8 : Int)), false), ((a0 == (7 : Int)), false), ((a0 == (6 : Int)), false), ((a0 == (5 : Int)), false), ((a0 == (4 : Int)), false), ((a0 == (3 : Int)), false), ((a0 == (19 : Int)), false), ((a0 == (12 : Int)), false), ((a0 == (10 : Int)), false), ((a0 == (2 : Int)), false), ((a0 == (1 : Int)), false)]) (by kernel_rfl) (oF <| oF <| oF <| oF <| oF <| oF <| oF <| oF <| oF <| oF <| oF <| oF <| oF <| oF <| oF <| oF <| oF <| oF <| oF <| oF Zd) rfl (by decide) (by rfl) rr trivial

theorem Zrc (a0 : Int) (N : Nat) (r : ZD) (h : ZeJ a0 N = some r) : LSpec Try.prog 39 #[vi a0] [] (Zq2 a0 r) (Zp1 a0 r) :=
 ZaB Zao Try.func39 (by kernel_rfl) (by kernel_rfl) (fun r => by cases r <;> exact ZN _ rfl) (Ztu a0 N) h

noncomputable def ZgR (a0 w0 w1 w2 : Int) (w3 : Bool) (n : Nat) : Zak := .call [] (Value.tuple #[Value.agg #[vi w0, vi w1, vi w2], Value.bool w3]) [] 0
def ZfN (A : Array Value) (a0 w0 w1 w2 : Int) (w3 : Bool) (n : Nat) : Prop := Zw Try.prog 39 A [] (Value.tuple #[Value.agg #[vi w0, vi w1, vi w2], Value.bool w3]) [] n 0

theorem ZgS (A : Array Value) (a0 w0 w1 w2 : Int) (w3 : Bool) (N : Nat) (h : ZeJ a0 N = some (.r0 w0 w1 w2 w3)) (n : Nat) (hA : A = #[vi a0]) (hnd : ([] : List Nat).Nodup) (hlt : ∀ k ∈ ([] : List Nat), k < n) : ZfN A a0 w0 w1 w2 w3  n :=
 Z0 hA (LSpec.callL (show LSpec Try.prog 39 #[vi a0] [] (Value.tuple #[Value.agg #[vi w0, vi w1, vi w2], Value.bool w3]) [] from Zrc a0 N _ h) [] n [] rfl hnd hlt (show 0 ≤ 0 from by decide) (show ∀ j ∈ ([] : List Nat), j < 0 from by decide) (by rfl) trivial (by rfl) trivial trivial rfl rfl rfl rfl rfl)

noncomputable def Zp2 (a0 a1 a2 : Int) : Z6 → Value
 | .r0 w0 => Value.bool w0
noncomputable def ZnT (a0 a1 a2 : Int) : Z6 → List (Option AObj)
 | .r0 w0 => []

theorem Zsg (a0 a1 a2 : Int) (N : Nat) : Fx Try.prog Zr Try.f40 [] #[vi a0, vi a1, vi a2] (Zp2 a0 a1 a2) (ZnT a0 a1 a2) (Zav a0 a1 a2 N) := by
 unfold Zav
 refine Zm (fun g0 => ?_) (fun g0 => ?_)
 ·
  refine Zm (fun g1 => ?_) (fun g1 => ?_)
  ·
   refine Zm (fun g2 => ?_) (fun g2 => ?_)
   ·
    exact Zk (r := (.r0 (true) : Z6)) (fu := 4000) (orc := (Zi [(0, true), (1, true), (2, true)] [] [] [] [])) (live := []) (u := vT) (bl := []) (ob := [((decide (a1 < (8 : Int))), true), ((decide (a1 ≥ (0 : Int))), true), ((a0 == (1 : Int)), true)]) (by kernel_rfl) (oY <| oY <| oT Zd) rfl (by decide) (by rfl) rr trivial
   ·
    exact Zk (r := (.r0 (false) : Z6)) (fu := 4000) (orc := (Zi [(0, true), (1, true), (2, false)] [] [] [] [])) (live := []) (u := vf) (bl := []) (ob := [((decide (a1 < (8 : Int))), false), ((decide (a1 ≥ (0 : Int))), true), ((a0 == (1 : Int)), true)]) (by kernel_rfl) (oN <| oY <| oT Zd) rfl (by decide) (by rfl) rr trivial
  ·
   exact Zk (r := (.r0 (false) : Z6)) (fu := 4000) (orc := (Zi [(0, true), (1, false)] [] [] [] [])) (live := []) (u := vf) (bl := []) (ob := [((decide (a1 ≥ (0 : Int))), false), ((a0 == (1 : Int)), true)]) (by kernel_rfl) (oN <| oT Zd) rfl (by decide) (by rfl) rr trivial
 ·
  refine Zm (fun g1 => ?_) (fun g1 => ?_)
  ·
   refine Zm (fun g2 => ?_) (fun g2 => ?_)
   ·
    refine Zm (fun g3 => ?_) (fun g3 => ?_)
    ·
     exact Zk (r := (.r0 (true) : Z6)) (fu := 4000) (orc := (Zi [(0, false), (1, true), (2, true), (3, true)] [] [] [] [])) (live := []) (u := vT) (bl := []) (ob := [((decide (a1 ≤ (1099511627776 : Int))), true), ((decide (a1 ≥ (-1099511627776 : Int))), true), ((a0 == (2 : Int)), true), ((a0 == (1 : Int)), false)]) (by kernel_rfl) (oY <| oY <| oT <| oF Zd) rfl (by decide) (by rfl) rr trivial
    ·
     exact Zk (r := (.r0 (false) : Z6)) (fu := 4000) (orc := (Zi [(0, false), (1, true), (2, true), (3, false)] [] [] [] [])) (live := []) (u := vf) (bl := []) (ob := [((decide (a1 ≤ (1099511627776 : Int))), false), ((decide (a1 ≥ (-1099511627776 : Int))), true), ((a0 == (2 : Int)), true), ((a0 == (1 : Int)), false)]) (by kernel_rfl) (oN <| oY <| oT <| oF Zd) rfl (by decide) (by rfl) rr trivial
   ·
    exact Zk (r := (.r0 (false) : Z6)) (fu := 4000) (orc := (Zi [(0, false), (1, true), (2, false)] [] [] [] [])) (live := []) (u := vf) (bl := []) (ob := [((decide (a1 ≥ (-1099511627776 : Int))), false), ((a0 == (2 : Int)), true), ((a0 == (1 : Int)), false)]) (by kernel_rfl) (oN <| oT <| oF Zd) rfl (by decide) (by rfl) rr trivial
  ·
   refine Zm (fun g2 => ?_) (fun g2 => ?_)
   ·
    refine Zm (fun g3 => ?_) (fun g3 => ?_)
    ·
     refine Zm (fun g4 => ?_) (fun g4 => ?_)
     ·
      exact Zk (r := (.r0 (true) : Z6)) (fu := 4000) (orc := (Zi [(0, false), (1, false), (2, true), (3, true), (4, true)] [] [] [] [])) (live := []) (u := vT) (bl := []) (ob := [((decide (a1 ≤ (512 : Int))), true), ((decide (a1 ≥ (0 : Int))), true), ((a0 == (3 : Int)), true), ((a0 == (2 : Int)), false), ((a0 == (1 : Int)), false)]) (by kernel_rfl) (oY <| oY <| oT <| oF <| oF Zd) rfl (by decide) (by rfl) rr trivial
     ·
      exact Zk (r := (.r0 (false) : Z6)) (fu := 4000) (orc := (Zi [(0, false), (1, false), (2, true), (3, true), (4, false)] [] [] [] [])) (live := []) (u := vf) (bl := []) (ob := [((decide (a1 ≤ (512 : Int))), false), ((decide (a1 ≥ (0 : Int))), true), ((a0 == (3 : Int)), true), ((a0 == (2 : Int)), false), ((a0 == (1 : Int)), false)]) (by kernel_rfl) (oN <| oY <| oT <| oF <| oF Zd) rfl (by decide) (by rfl) rr trivial
    ·
     exact Zk (r := (.r0 (false) : Z6)) (fu := 4000) (orc := (Zi [(0, false), (1, false), (2, true), (3, false)] [] [] [] [])) (live := []) (u := vf) (bl := []) (ob := [((decide (a1 ≥ (0 : Int))), false), ((a0 == (3 : Int)), true), ((a0 == (2 : Int)), false), ((a0 == (1 : Int)), false)]) (by kernel_rfl) (oN <| oT <| oF <| oF Zd) rfl (by decide) (by rfl) rr trivial
   ·
    refine Zm (fun g3 => ?_) (fun g3 => ?_)
    ·
     refine Zm (fun g4 => ?_) (fun g4 => ?_)
     ·
      refine Zm (fun g5 => ?_) (fun g5 => ?_)
      ·
       exact Zk (r := (.r0 (true) : Z6)) (fu := 4000) (orc := (Zi [(0, false), (1, false), (2, false), (3, true), (4, true), (5, true)] [] [] [] [])) (live := []) (u := vT) (bl := []) (ob := [((decide (a1 < (16 : Int))), true), ((decide (a1 ≥ (0 : Int))), true), ((a0 == (4 : Int)), true), ((a0 == (3 : Int)), false), ((a0 == (2 : Int)), false), ((a0 == (1 : Int)), false)]) (by kernel_rfl) (oY <| oY <| oT <| oF <| oF <| oF Zd) rfl (by decide) (by rfl) rr trivial
      ·
       exact Zk (r := (.r0 (false) : Z6)) (fu := 4000) (orc := (Zi [(0, false), (1, false), (2, false), (3, true), (4, true), (5, false)] [] [] [] [])) (live := []) (u := vf) (bl := []) (ob := [((decide (a1 < (16 : Int))), false), ((decide (a1 ≥ (0 : Int))), true), ((a0 == (4 : Int)), true), ((a0 == (3 : Int)), false), ((a0 == (2 : Int)), false), ((a0 == (1 : Int)), false)]) (by kernel_rfl) (oN <| oY <| oT <| oF <| oF <| oF Zd) rfl (by decide) (by rfl) rr trivial
     ·
      exact Zk (r := (.r0 (false) : Z6)) (fu := 4000) (orc := (Zi [(0, false), (1, false), (2, false), (3, true), (4, false)] [] [] [] [])) (live := []) (u := vf) (bl := []) (ob := [((decide (a1 ≥ (0 : Int))), false), ((a0 == (4 : Int)), true), ((a0 == (3 : Int)), false), ((a0 == (2 : Int)), false), ((a0 == (1 : Int)), false)]) (by kernel_rfl) (oN <| oT <| oF <| oF <| oF Zd) rfl (by decide) (by rfl) rr trivial
    ·
     refine Zm (fun g4 => ?_) (fun g4 => ?_)
     ·
      refine Zm (fun g5 => ?_) (fun g5 => ?_)
      ·
       refine Zm (fun g6 => ?_) (fun g6 => ?_)
       ·
        exact Zk (r := (.r0 (true) : Z6)) (fu := 4000) (orc := (Zi [(0, false), (1, false), (2, false), (3, false), (4, true), (5, true), (6, true)] [] [] [] [])) (live := []) (u := vT) (bl := []) (ob := [((decide (a1 ≤ (16 : Int))), true), ((decide (a1 ≥ (1 : Int))), true), ((a0 == (5 : Int)), true), ((a0 == (4 : Int)), false), ((a0 == (3 : Int)), false), ((a0 == (2 : Int)), false), ((a0 == (1 : Int)), false)]) (by kernel_rfl) (oY <| oY <| oT <| oF <| oF <| oF <| oF Zd) rfl (by decide) (by rfl) rr trivial
       ·
        exact Zk (r := (.r0 (false) : Z6)) (fu := 4000) (orc := (Zi [(0, false), (1, false), (2, false), (3, false), (4, true), (5, true), (6, false)] [] [] [] [])) (live := []) (u := vf) (bl := []) (ob := [((decide (a1 ≤ (16 : Int))), false), ((decide (a1 ≥ (1 : Int))), true), ((a0 == (5 : Int)), true), ((a0 == (4 : Int)), false), ((a0 == (3 : Int)), false), ((a0 == (2 : Int)), false), ((a0 == (1 : Int)), false)]) (by kernel_rfl) (oN <| oY <| oT <| oF <| oF <| oF <| oF Zd) rfl (by decide) (by rfl) rr trivial
      ·
       exact Zk (r := (.r0 (false) : Z6)) (fu := 4000) (orc := (Zi [(0, false), (1, false), (2, false), (3, false), (4, true), (5, false)] [] [] [] [])) (live := []) (u := vf) (bl := []) (ob := [((decide (a1 ≥ (1 : Int))), false), ((a0 == (5 : Int)), true), ((a0 == (4 : Int)), false), ((a0 == (3 : Int)), false), ((a0 == (2 : Int)), false), ((a0 == (1 : Int)), false)]) (by kernel_rfl) (oN <| oT <| oF <| oF <| oF <| oF Zd) rfl (by decide) (by rfl) rr trivial
     ·
      refine Zm (fun g5 => ?_) (fun g5 => ?_)
      ·
       refine Zm (fun g6 => ?_) (fun g6 => ?_)
       ·
        refine Zm (fun g7 => ?_) (fun g7 => ?_)
        ·
         refine Zm (fun g8 => ?_) (fun g8 => ?_)
         ·
          refine Zm (fun g9 => ?_) (fun g9 => ?_)
          ·
           exact Zk (r := (.r0 (true) : Z6)) (fu := 4000) (orc := (Zi [(0, false), (1, false), (2, false), (3, false), (4, false), (5, true), (6, true), (7, true), (8, true), (9, true)] [(0, a2)] [] [] [(0, .sh (a2).toNat)])) (live := []) (u := vT) (bl := []) (ob := [((decide (a1 < (IntKind.i64.wrap ((1 : Int) * (2 ^ (a2).toNat : Int))))), true), (dP (a2 = Int.ofNat (a2).toNat ∧ (a2).toNat ≤ IntKind.i64.bits), true), ((IntKind.u64.wrap a2) == a2, true), ((decide (a1 ≥ (0 : Int))), true), ((decide (a2 ≤ (16 : Int))), true), ((decide (a2 ≥ (1 : Int))), true), ((a0 == (6 : Int)), true), ((a0 == (5 : Int)), false), ((a0 == (4 : Int)), false), ((a0 == (3 : Int)), false), ((a0 == (2 : Int)), false), ((a0 == (1 : Int)), false)]) (by kernel_rfl) (oY <| Za (Zf ⟨by first | rfl | exact Zlh (by omega), show _ ≤ 64 from by omega⟩) <| Za (beq_iff_eq.2 (ZsP ltA)) <| oY <| oY <| oY <| oT <| oF <| oF <| oF <| oF <| oF Zd) rfl (by decide) (by rfl) rr trivial
          ·
           exact Zk (r := (.r0 (false) : Z6)) (fu := 4000) (orc := (Zi [(0, false), (1, false), (2, false), (3, false), (4, false), (5, true), (6, true), (7, true), (8, true), (9, false)] [(0, a2)] [] [] [(0, .sh (a2).toNat)])) (live := []) (u := vf) (bl := []) (ob := [((decide (a1 < (IntKind.i64.wrap ((1 : Int) * (2 ^ (a2).toNat : Int))))), false), (dP (a2 = Int.ofNat (a2).toNat ∧ (a2).toNat ≤ IntKind.i64.bits), true), ((IntKind.u64.wrap a2) == a2, true), ((decide (a1 ≥ (0 : Int))), true), ((decide (a2 ≤ (16 : Int))), true), ((decide (a2 ≥ (1 : Int))), true), ((a0 == (6 : Int)), true), ((a0 == (5 : Int)), false), ((a0 == (4 : Int)), false), ((a0 == (3 : Int)), false), ((a0 == (2 : Int)), false), ((a0 == (1 : Int)), false)]) (by kernel_rfl) (oN <| Za (Zf ⟨by first | rfl | exact Zlh (by omega), show _ ≤ 64 from by omega⟩) <| Za (beq_iff_eq.2 (ZsP ltA)) <| oY <| oY <| oY <| oT <| oF <| oF <| oF <| oF <| oF Zd) rfl (by decide) (by rfl) rr trivial
         ·
          exact Zk (r := (.r0 (false) : Z6)) (fu := 4000) (orc := (Zi [(0, false), (1, false), (2, false), (3, false), (4, false), (5, true), (6, true), (7, true), (8, false)] [] [] [] [])) (live := []) (u := vf) (bl := []) (ob := [((decide (a1 ≥ (0 : Int))), false), ((decide (a2 ≤ (16 : Int))), true), ((decide (a2 ≥ (1 : Int))), true), ((a0 == (6 : Int)), true), ((a0 == (5 : Int)), false), ((a0 == (4 : Int)), false), ((a0 == (3 : Int)), false), ((a0 == (2 : Int)), false), ((a0 == (1 : Int)), false)]) (by kernel_rfl) (oN <| oY <| oY <| oT <| oF <| oF <| oF <| oF <| oF Zd) rfl (by decide) (by rfl) rr trivial
        ·
         exact Zk (r := (.r0 (false) : Z6)) (fu := 4000) (orc := (Zi [(0, false), (1, false), (2, false), (3, false), (4, false), (5, true), (6, true), (7, false)] [] [] [] [])) (live := []) (u := vf) (bl := []) (ob := [((decide (a2 ≤ (16 : Int))), false), ((decide (a2 ≥ (1 : Int))), true), ((a0 == (6 : Int)), true), ((a0 == (5 : Int)), false), ((a0 == (4 : Int)), false), ((a0 == (3 : Int)), false), ((a0 == (2 : Int)), false), ((a0 == (1 : Int)), false)]) (by kernel_rfl) (oN <| oY <| oT <| oF <| oF <| oF <| oF <| oF Zd) rfl (by decide) (by rfl) rr trivial
       ·
        exact Zk (r := (.r0 (false) : Z6)) (fu := 4000) (orc := (Zi [(0, false), (1, false), (2, false), (3, false), (4, false), (5, true), (6, false)] [] [] [] [])) (live := []) (u := vf) (bl := []) (ob := [((decide (a2 ≥ (1 : Int))), false), ((a0 == (6 : Int)), true), ((a0 == (5 : Int)), false), ((a0 == (4 : Int)), false), ((a0 == (3 : Int)), false), ((a0 == (2 : Int)), false), ((a0 == (1 : Int)), false)]) (by kernel_rfl) (oN <| oT <| oF <| oF <| oF <| oF <| oF Zd) rfl (by decide) (by rfl) rr trivial
      ·
       refine Zm (fun g6 => ?_) (fun g6 => ?_)
       ·
        exact Zk (r := (.r0 (true) : Z6)) (fu := 4000) (orc := (Zi [(0, false), (1, false), (2, false), (3, false), (4, false), (5, false), (6, true)] [] [] [] [])) (live := []) (u := vT) (bl := []) (ob := [((a1 == (0 : Int)), true), ((a0 == (6 : Int)), false), ((a0 == (5 : Int)), false), ((a0 == (4 : Int)), false), ((a0 == (3 : Int)), false), ((a0 == (2 : Int)), false), ((a0 == (1 : Int)), false)]) (by kernel_rfl) (oT <| oF <| oF <| oF <| oF <| oF <| oF Zd) rfl (by decide) (by rfl) rr trivial
       ·
        exact Zk (r := (.r0 (false) : Z6)) (fu := 4000) (orc := (Zi [(0, false), (1, false), (2, false), (3, false), (4, false), (5, false), (6, false)] [] [] [] [])) (live := []) (u := vf) (bl := []) (ob := [((a1 == (0 : Int)), false), ((a0 == (6 : Int)), false), ((a0 == (5 : Int)), false), ((a0 == (4 : Int)), false), ((a0 == (3 : Int)), false), ((a0 == (2 : Int)), false), ((a0 == (1 : Int)), false)]) (by kernel_rfl) (oF <| oF <| oF <| oF <| oF <| oF <| oF Zd) rfl (by decide) (by rfl) rr trivial

theorem Zq3 (a0 a1 a2 : Int) (N : Nat) (r : Z6) (h : Zav a0 a1 a2 N = some r) : LSpec Try.prog 40 #[vi a0, vi a1, vi a2] [] (Zp2 a0 a1 a2 r) (ZnT a0 a1 a2 r) :=
 ZaB Zao Try.func40 (by kernel_rfl) (by kernel_rfl) (fun r => by cases r <;> exact ZN _ rfl) (Zsg a0 a1 a2 N) h

noncomputable def Zdv (a0 a1 a2 : Int) (w0 : Bool) (n : Nat) : Zak := .call [] (Value.bool w0) [] 0
def ZcL (A : Array Value) (a0 a1 a2 : Int) (w0 : Bool) (n : Nat) : Prop := Zw Try.prog 40 A [] (Value.bool w0) [] n 0

theorem Zdw (A : Array Value) (a0 a1 a2 : Int) (w0 : Bool) (N : Nat) (h : Zav a0 a1 a2 N = some (.r0 w0)) (n : Nat) (hA : A = #[vi a0, vi a1, vi a2]) (hnd : ([] : List Nat).Nodup) (hlt : ∀ k ∈ ([] : List Nat), k < n) : ZcL A a0 a1 a2 w0  n :=
 Z0 hA (LSpec.callL (show LSpec Try.prog 40 #[vi a0, vi a1, vi a2] [] (Value.bool w0) [] from Zq3 a0 a1 a2 N _ h) [] n [] rfl hnd hlt (show 0 ≤ 0 from by decide) (show ∀ j ∈ ([] : List Nat), j < 0 from by decide) (by rfl) trivial (by rfl) trivial trivial rfl rfl rfl rfl rfl)

noncomputable def Zr6 (a0 a1 a2 a3 : Int) : ZcA → Value
 | .r0 w0 => Value.bool w0
noncomputable def Zq4 (a0 a1 a2 a3 : Int) : ZcA → List (Option AObj)
 | .r0 w0 => []

theorem ZtT (a0 a1 a2 a3 : Int) (N : Nat) : Fx Try.prog Zr Try.f28 [] #[Value.agg #[vi a0, vi a1, vi a2, vi a3]] (Zr6 a0 a1 a2 a3) (Zq4 a0 a1 a2 a3) (Zaz a0 a1 a2 a3 N) := by
 unfold Zaz
 refine Za4 (fun z0 c0 => ?_)
 cases z0 with
 | r0 y0_0 y0_1 y0_2 y0_3 =>
  refine Zm (fun g1 => ?_) (fun g1 => ?_)
  ·
   subst g1
   refine Za4 (fun z2 c2 => ?_)
   cases z2 with
   | r0 y2_0 =>
    refine Zm (fun g3 => ?_) (fun g3 => ?_)
    ·
     subst g3
     refine Za4 (fun z4 c4 => ?_)
     cases z4 with
     | r0 y4_0 =>
      refine Zm (fun g5 => ?_) (fun g5 => ?_)
      ·
       subst g5
       refine Za4 (fun z6 c6 => ?_)
       cases z6 with
       | r0 y6_0 =>
        refine Zm (fun g7 => ?_) (fun g7 => ?_)
        ·
         subst g7
         exact Zk (r := (.r0 (true) : ZcA)) (fu := 4000) (orc := (Zi [] [] [] [] [(0, (ZgR (a0)  y0_0 y0_1 y0_2 true  1)), (2, (Zdv (y0_0) (a1) ((0 : Int))  true  2)), (3, (Zdv (y0_1) (a2) ((0 : Int))  true  2)), (4, (Zdv (y0_2) (a3) (a2)  true  2))])) (live := []) (u := vT) (bl := []) (ob := [(dP (ZcL #[vi y0_2, vi a3, vi a2] (y0_2) (a3) (a2)  true  2), true), (dP (ZcL #[vi y0_1, vi a2, v0] (y0_1) (a2) ((0 : Int))  true  2), true), (dP (ZcL #[vi y0_0, vi a1, v0] (y0_0) (a1) ((0 : Int))  true  2), true), (dP (ZfN #[vi a0] (a0)  y0_0 y0_1 y0_2 true  1), true)]) (by kernel_rfl) (Za (Zf (Zdw #[vi y0_2, vi a3, vi a2] (y0_2) (a3) (a2)  true N c6  2 rfl (by decide) (by decide))) <| Za (Zf (Zdw #[vi y0_1, vi a2, v0] (y0_1) (a2) ((0 : Int))  true N c4  2 rfl (by decide) (by decide))) <| Za (Zf (Zdw #[vi y0_0, vi a1, v0] (y0_0) (a1) ((0 : Int))  true N c2  2 rfl (by decide) (by decide))) <| Za (Zf (ZgS #[vi a0] (a0)  y0_0 y0_1 y0_2 true N c0  1 rfl (by decide) (by decide))) Zd) rfl (by decide) (by rfl) rr trivial
        ·
         obtain rfl : y6_0 = false := by simpa using g7
         exact Zk (r := (.r0 (false) : ZcA)) (fu := 4000) (orc := (Zi [] [] [] [] [(0, (ZgR (a0)  y0_0 y0_1 y0_2 true  1)), (2, (Zdv (y0_0) (a1) ((0 : Int))  true  2)), (3, (Zdv (y0_1) (a2) ((0 : Int))  true  2)), (4, (Zdv (y0_2) (a3) (a2)  false  2))])) (live := []) (u := vf) (bl := []) (ob := [(dP (ZcL #[vi y0_2, vi a3, vi a2] (y0_2) (a3) (a2)  false  2), true), (dP (ZcL #[vi y0_1, vi a2, v0] (y0_1) (a2) ((0 : Int))  true  2), true), (dP (ZcL #[vi y0_0, vi a1, v0] (y0_0) (a1) ((0 : Int))  true  2), true), (dP (ZfN #[vi a0] (a0)  y0_0 y0_1 y0_2 true  1), true)]) (by kernel_rfl) (Za (Zf (Zdw #[vi y0_2, vi a3, vi a2] (y0_2) (a3) (a2)  false N c6  2 rfl (by decide) (by decide))) <| Za (Zf (Zdw #[vi y0_1, vi a2, v0] (y0_1) (a2) ((0 : Int))  true N c4  2 rfl (by decide) (by decide))) <| Za (Zf (Zdw #[vi y0_0, vi a1, v0] (y0_0) (a1) ((0 : Int))  true N c2  2 rfl (by decide) (by decide))) <| Za (Zf (ZgS #[vi a0] (a0)  y0_0 y0_1 y0_2 true N c0  1 rfl (by decide) (by decide))) Zd) rfl (by decide) (by rfl) rr trivial
      ·
       obtain rfl : y4_0 = false := by simpa using g5
       exact Zk (r := (.r0 (false) : ZcA)) (fu := 4000) (orc := (Zi [] [] [] [] [(0, (ZgR (a0)  y0_0 y0_1 y0_2 true  1)), (2, (Zdv (y0_0) (a1) ((0 : Int))  true  2)), (3, (Zdv (y0_1) (a2) ((0 : Int))  false  2))])) (live := []) (u := vf) (bl := []) (ob := [(dP (ZcL #[vi y0_1, vi a2, v0] (y0_1) (a2) ((0 : Int))  false  2), true), (dP (ZcL #[vi y0_0, vi a1, v0] (y0_0) (a1) ((0 : Int))  true  2), true), (dP (ZfN #[vi a0] (a0)  y0_0 y0_1 y0_2 true  1), true)]) (by kernel_rfl) (Za (Zf (Zdw #[vi y0_1, vi a2, v0] (y0_1) (a2) ((0 : Int))  false N c4  2 rfl (by decide) (by decide))) <| Za (Zf (Zdw #[vi y0_0, vi a1, v0] (y0_0) (a1) ((0 : Int))  true N c2  2 rfl (by decide) (by decide))) <| Za (Zf (ZgS #[vi a0] (a0)  y0_0 y0_1 y0_2 true N c0  1 rfl (by decide) (by decide))) Zd) rfl (by decide) (by rfl) rr trivial
    ·
     obtain rfl : y2_0 = false := by simpa using g3
     exact Zk (r := (.r0 (false) : ZcA)) (fu := 4000) (orc := (Zi [] [] [] [] [(0, (ZgR (a0)  y0_0 y0_1 y0_2 true  1)), (2, (Zdv (y0_0) (a1) ((0 : Int))  false  2))])) (live := []) (u := vf) (bl := []) (ob := [(dP (ZcL #[vi y0_0, vi a1, v0] (y0_0) (a1) ((0 : Int))  false  2), true), (dP (ZfN #[vi a0] (a0)  y0_0 y0_1 y0_2 true  1), true)]) (by kernel_rfl) (Za (Zf (Zdw #[vi y0_0, vi a1, v0] (y0_0) (a1) ((0 : Int))  false N c2  2 rfl (by decide) (by decide))) <| Za (Zf (ZgS #[vi a0] (a0)  y0_0 y0_1 y0_2 true N c0  1 rfl (by decide) (by decide))) Zd) rfl (by decide) (by rfl) rr trivial
  ·
   obtain rfl : y0_3 = false := by simpa using g1
   exact Zk (r := (.r0 (false) : ZcA)) (fu := 4000) (orc := (Zi [] [] [] [] [(0, (ZgR (a0)  y0_0 y0_1 y0_2 false  1))])) (live := []) (u := vf) (bl := []) (ob := [(dP (ZfN #[vi a0] (a0)  y0_0 y0_1 y0_2 false  1), true)]) (by kernel_rfl) (Za (Zf (ZgS #[vi a0] (a0)  y0_0 y0_1 y0_2 false N c0  1 rfl (by decide) (by decide))) Zd) rfl (by decide) (by rfl) rr trivial

theorem Zsh (a0 a1 a2 a3 : Int) (N : Nat) (r : ZcA) (h : Zaz a0 a1 a2 a3 N = some r) : LSpec Try.prog 28 #[Value.agg #[vi a0, vi a1, vi a2, vi a3]] [] (Zr6 a0 a1 a2 a3 r) (Zq4 a0 a1 a2 a3 r) :=
 ZaB Zao Try.func28 (by kernel_rfl) (by kernel_rfl) (fun r => by cases r <;> exact ZN _ rfl) (ZtT a0 a1 a2 a3 N) h

noncomputable def ZcO (a0 a1 a2 a3 : Int) (w0 : Bool) (n : Nat) : Zak := .call [] (Value.bool w0) [] 0
def Zc2 (A : Array Value) (a0 a1 a2 a3 : Int) (w0 : Bool) (n : Nat) : Prop := Zw Try.prog 28 A [] (Value.bool w0) [] n 0

theorem ZcP (A : Array Value) (a0 a1 a2 a3 : Int) (w0 : Bool) (N : Nat) (h : Zaz a0 a1 a2 a3 N = some (.r0 w0)) (n : Nat) (hA : A = #[Value.agg #[vi a0, vi a1, vi a2, vi a3]]) (hnd : ([] : List Nat).Nodup) (hlt : ∀ k ∈ ([] : List Nat), k < n) : Zc2 A a0 a1 a2 a3 w0  n :=
 Z0 hA (LSpec.callL (show LSpec Try.prog 28 #[Value.agg #[vi a0, vi a1, vi a2, vi a3]] [] (Value.bool w0) [] from Zsh a0 a1 a2 a3 N _ h) [] n [] rfl hnd hlt (show 0 ≤ 0 from by decide) (show ∀ j ∈ ([] : List Nat), j < 0 from by decide) (by rfl) trivial (by rfl) trivial trivial rfl rfl rfl rfl rfl)

noncomputable def Zmu (L0 : List R_ii) (a1 a2 a3 a4 a5 : Int) : ZE → Value
 | .r0 w1 => Value.tuple #[vs 0 0 L0.length L0.length, Value.bool w1]
 | .r1 w1 => Value.tuple #[vs 1 0 w1.length w1.length, vT]
 | .r2 => Value.tuple #[vs 1 0 (L0.take (L0.length - 1)).length (L0.take (L0.length - 1)).length, vT]
noncomputable def Zlm (L0 : List R_ii) (a1 a2 a3 a4 a5 : Int) : ZE → List (Option AObj)
 | .r0 w1 => [some (.cells (Zb Ze L0) 58)]
 | .r1 w1 => [some (.cells (Zb Ze L0) 58), some (.cells (Zb Ze w1) 58)]
 | .r2 => [none, some (.cells (Zb Ze (L0.take (L0.length - 1))) 58)]

theorem Zq5 (L0 : List R_ii) (a1 a2 a3 a4 a5 : Int) (N : Nat) : Fx Try.prog Zr Try.f27 [.cells (Zb Ze L0) 58] #[vs 0 0 L0.length L0.length, Value.agg #[vi a1, vi a2, vi a3, vi a4], vi a5] (Zmu L0 a1 a2 a3 a4 a5) (Zlm L0 a1 a2 a3 a4 a5) (ZcC L0 a1 a2 a3 a4 a5 N) := by
 unfold ZcC
 refine Zm (fun g0 => ?_) (fun g0 => ?_)
 ·
  refine Zm (fun g1 => ?_) (fun g1 => ?_)
  ·
   exact Zk (r := (.r0 (false) : ZE)) (fu := 4000) (orc := (Zi [(0, true), (1, true)] [] [] [] [])) (live := [0]) (u := Value.tuple #[vs 0 0 L0.length L0.length, vf]) (bl := [some (.cells (Zb Ze L0) 58)]) (ob := [((decide ((L0.length : Int) ≥ (8 : Int))), true), ((a1 == (15 : Int)), true)]) (by kernel_rfl) (oY <| oT Zd) rfl (by decide) (by rfl) rr ⟨(Zg (E := Ze) (α := R_ii) _ L0 _), trivial⟩
  ·
   refine Zm (fun g2 => ?_) (fun g2 => ?_)
   ·
    exact Zk (r := (.r1 (([(⟨a5, (0 : Int)⟩ : R_ii)] : List R_ii)) : ZE)) (fu := 4000) (orc := (Zi [(0, true), (1, false)] [] [] [] [(0, .ap0)])) (live := [0, 4]) (u := Value.tuple #[vs 4 0 1 1, vT]) (bl := [some (.cells (Zb Ze L0) 58), some (.cells [vi a5, v0] 58)]) (ob := [(dP (0 = L0.length ∧ Z7 (L0.length * 2) (List.drop 0 (Zb Ze L0)) = some [] ∧ ZH ZaG [] = true), true), ((decide ((L0.length : Int) ≥ (8 : Int))), false), ((a1 == (15 : Int)), true)]) (by kernel_rfl) (Za (Zf ⟨by omega, by rw [show L0.length = 0 by omega]; rfl, rfl⟩) <| oN <| oT Zd) rfl (by decide) (by rfl) ⟨Eq.trans (show (Value.tuple #[vs 1 0 ([(⟨a5, (0 : Int)⟩ : R_ii)] : List R_ii).length ([(⟨a5, (0 : Int)⟩ : R_ii)] : List R_ii).length, vT] : Value) = Value.tuple #[vs 1 0 1 1, vT] from (Zj1 (Zc (Zad rfl eqA eqA) (Zc rfl rfl)))) (by rfl), by rfl⟩ ⟨(Zg (E := Ze) (α := R_ii) _ L0 _), ⟨(ZbO (E := Ze) _ (L := ([(⟨a5, (0 : Int)⟩ : R_ii)] : List R_ii)) _ (show ([vi a5, v0] : List Value) = Zb Ze ([(⟨a5, (0 : Int)⟩ : R_ii)] : List R_ii) from rfl)), trivial⟩⟩
   ·
    exact Zk (r := (.r1 ((L0 ++ ([(⟨a5, (0 : Int)⟩ : R_ii)] : List R_ii))) : ZE)) (fu := 4000) (orc := (Zi [(0, true), (1, false)] [] [] [] [(0, .ap L0.length (Zb Ze L0) (Zb Ze L0)), (1, .ap 1 [vi a5, v0] (Zb Ze (L0 ++ ([(⟨a5, (0 : Int)⟩ : R_ii)] : List R_ii))))])) (live := [0, 5]) (u := Value.tuple #[vs 5 0 ((0 + L0.length) + 1) ((0 + L0.length) + 1), vT]) (bl := [some (.cells (Zb Ze L0) 58), some (.cells (Zb Ze (L0 ++ ([(⟨a5, (0 : Int)⟩ : R_ii)] : List R_ii))) 58)]) (ob := [(dP ((1 = 1 ∧ Z7 (1 * 2) (List.drop 0 [vi a5, v0]) = some [vi a5, v0] ∧ ZH ZaG [vi a5, v0] = true) ∧ 0 < 1 ∧ 1 ≤ 100000 ∧ (0 + L0.length) < (0 + L0.length) + 1 ∧ (0 + L0.length) ≤ 100000 ∧ (0 + L0.length) * 2 ≤ (List.length (Zb Ze L0)) ∧ List.take ((0 + L0.length) * 2) (Zb Ze L0) ++ [vi a5, v0] = (Zb Ze (L0 ++ ([(⟨a5, (0 : Int)⟩ : R_ii)] : List R_ii)))), true), (dP ((L0.length = L0.length ∧ Z7 (L0.length * 2) (List.drop 0 (Zb Ze L0)) = some (Zb Ze L0) ∧ ZH ZaG (Zb Ze L0) = true) ∧ 0 < L0.length ∧ L0.length ≤ 100000 ∧ 0 < 0 + L0.length ∧ 0 ≤ 100000 ∧ 0 * 2 ≤ (List.length []) ∧ List.take (0 * 2) [] ++ (Zb Ze L0) = (Zb Ze L0)), true), ((decide ((L0.length : Int) ≥ (8 : Int))), false), ((a1 == (15 : Int)), true)]) (by kernel_rfl) (Za (Zf ⟨⟨rfl, ⟨rfl, rfl⟩⟩, by omega, by omega, ltA, by omega, (ZaW (E := Ze) (L := L0) (M := ([(⟨a5, (0 : Int)⟩ : R_ii)] : List R_ii)) (n := (0 + L0.length)) (show _ = _ * 2 from rfl) (by omega) (R := (L0 ++ ([(⟨a5, (0 : Int)⟩ : R_ii)] : List R_ii))) (by rw [List.take_of_length_le (by omega)]))⟩) <| Za (Zf ⟨⟨rfl, (Zup (E := Ze) (L := L0) (a := 0) (n := L0.length) (by omega) (by show _ = _ * 2; omega) (show _ = _ * 2 from rfl) (by rw [List.drop_zero, List.take_of_length_le (by omega)]))⟩, by omega, by omega, ltA, by omega, (ZaW (E := Ze) (L := ([] : List R_ii)) (M := L0) (n := 0) (show _ = _ * 2 from rfl) ltA (R := L0) (by rw [List.take_of_length_le ltA]; rfl))⟩) <| oN <| oT Zd) rfl (by decide) (by rfl) ⟨Eq.trans (show (Value.tuple #[vs 1 0 (L0 ++ ([(⟨a5, (0 : Int)⟩ : R_ii)] : List R_ii)).length (L0 ++ ([(⟨a5, (0 : Int)⟩ : R_ii)] : List R_ii)).length, vT] : Value) = Value.tuple #[vs 1 0 ((0 + L0.length) + 1) ((0 + L0.length) + 1), vT] from (Zj1 (Zc (Zad rfl eqA eqA) (Zc rfl rfl)))) (by rfl), by rfl⟩ ⟨(Zg (E := Ze) (α := R_ii) _ L0 _), ⟨(Zg (E := Ze) (α := R_ii) _ (L0 ++ ([(⟨a5, (0 : Int)⟩ : R_ii)] : List R_ii)) _), trivial⟩⟩
 ·
  refine Zm (fun g1 => ?_) (fun g1 => ?_)
  ·
   refine Zm (fun g2 => ?_) (fun g2 => ?_)
   ·
    exact Zk (r := (.r0 (false) : ZE)) (fu := 4000) (orc := (Zi [(0, false), (1, true), (2, true)] [] [] [] [])) (live := [0]) (u := Value.tuple #[vs 0 0 L0.length L0.length, vf]) (bl := [some (.cells (Zb Ze L0) 58)]) (ob := [(((L0.length : Int) == (0 : Int)), true), ((a1 == (16 : Int)), true), ((a1 == (15 : Int)), false)]) (by kernel_rfl) (oT <| oT <| oF Zd) rfl (by decide) (by rfl) rr ⟨(Zg (E := Ze) (α := R_ii) _ L0 _), trivial⟩
   ·
    refine Zm (fun g3 => ?_) (fun g3 => ?_)
    ·
     refine Zm (fun g4 => ?_) (fun g4 => ?_)
     ·
      exact Zk (r := (.r0 (false) : ZE)) (fu := 4000) (orc := (Zi [(0, false), (1, true), (2, false), (3, true)] [(0, (((L0.length - 1) : Nat) : Int))] [(0, (L0.length - 1))] [(1, [.i (L0.getD (L0.length - 1) R_ii.z).a1])] [])) (live := [0]) (u := Value.tuple #[vs 0 0 L0.length L0.length, vf]) (bl := [some (.cells (Zb Ze L0) 58)]) (ob := [(((L0.getD (L0.length - 1) R_ii.z).a1 == (1 : Int)), true), (Zz (Z7 1 (List.drop ((0 + ((L0.length - 1) * 2)) + 1) (Zb Ze L0))) [.i (L0.getD (L0.length - 1) R_ii.z).a1], true), (Nat.blt (L0.length - 1) L0.length, true), ((((L0.length - 1) : Nat) : Int) == Int.ofNat (L0.length - 1), true), ((IntKind.i64.wrap ((L0.length : Int) - (1 : Int))) == (((L0.length - 1) : Nat) : Int), true), (((L0.length : Int) == (0 : Int)), false), ((a1 == (16 : Int)), true), ((a1 == (15 : Int)), false)]) (by kernel_rfl) (oT <| Za (Zaq (E := Ze) (L := L0) (i := (L0.length - 1)) (q := 1) (by omega) (show ((0 + ((L0.length - 1) * 2)) + 1) = (L0.length - 1) * 2 + 1 from by omega) (show 1 + 1 ≤ 2 from by decide) rfl rfl) <| oB <| oI <| Za (beq_iff_eq.2 ((wrap_i64 ltA).trans (by first | rfl | omega))) <| oF <| oT <| oF Zd) rfl (by decide) (by rfl) rr ⟨(Zg (E := Ze) (α := R_ii) _ L0 _), trivial⟩
     ·
      refine Zm (fun g5 => ?_) (fun g5 => ?_)
      ·
       exact Zk (r := (.r1 (([(⟨(L0.getD (L0.length - 1) R_ii.z).a0, (1 : Int)⟩ : R_ii)] : List R_ii)) : ZE)) (fu := 4000) (orc := (Zi [(0, false), (1, true), (2, false), (3, false)] [(0, (((L0.length - 1) : Nat) : Int)), (1, (((L0.length - 1) : Nat) : Int)), (2, (((L0.length - 1) : Nat) : Int))] [(0, (L0.length - 1)), (1, (L0.length - 1))] [(1, [.i (L0.getD (L0.length - 1) R_ii.z).a1]), (2, [.i (L0.getD (L0.length - 1) R_ii.z).a0])] [(0, .sl 0 (L0.length - 1)), (1, .ap0)])) (live := [0, 4]) (u := Value.tuple #[vs 4 0 1 1, vT]) (bl := [some (.cells (Zb Ze L0) 58), some (.cells [vi (L0.getD (L0.length - 1) R_ii.z).a0, vi (1 : Int)] 58)]) (ob := [(Zz (Z7 1 (List.drop ((0 + ((L0.length - 1) * 2)) + 0) (Zb Ze L0))) [.i (L0.getD (L0.length - 1) R_ii.z).a0], true), (Nat.blt (L0.length - 1) L0.length, true), ((((L0.length - 1) : Nat) : Int) == Int.ofNat (L0.length - 1), true), ((IntKind.i64.wrap ((L0.length : Int) - (1 : Int))) == (((L0.length - 1) : Nat) : Int), true), (dP (0 = ((L0.length - 1) - 0) ∧ Z7 (((L0.length - 1) - 0) * 2) (List.drop (0 + (0 * 2)) (Zb Ze L0)) = some [] ∧ ZH ZaG [] = true), true), (dP (0 ≤ (L0.length - 1) ∧ (L0.length - 1) ≤ L0.length), true), ((((L0.length - 1) : Nat) : Int) == Int.ofNat (L0.length - 1), true), (dS 0, true), ((IntKind.i64.wrap ((L0.length : Int) - (1 : Int))) == (((L0.length - 1) : Nat) : Int), true), (((L0.getD (L0.length - 1) R_ii.z).a1 == (1 : Int)), false), (Zz (Z7 1 (List.drop ((0 + ((L0.length - 1) * 2)) + 1) (Zb Ze L0))) [.i (L0.getD (L0.length - 1) R_ii.z).a1], true), (Nat.blt (L0.length - 1) L0.length, true), ((((L0.length - 1) : Nat) : Int) == Int.ofNat (L0.length - 1), true), ((IntKind.i64.wrap ((L0.length : Int) - (1 : Int))) == (((L0.length - 1) : Nat) : Int), true), (((L0.length : Int) == (0 : Int)), false), ((a1 == (16 : Int)), true), ((a1 == (15 : Int)), false)]) (by kernel_rfl) (Za (Zaq (E := Ze) (L := L0) (i := (L0.length - 1)) (q := 0) (by omega) (show ((0 + ((L0.length - 1) * 2)) + 0) = (L0.length - 1) * 2 + 0 from by omega) (show 0 + 1 ≤ 2 from by decide) rfl rfl) <| oB <| oI <| Za (beq_iff_eq.2 ((wrap_i64 ltA).trans (by first | rfl | omega))) <| Za (Zf ⟨by omega, by rw [show ((L0.length - 1) - 0) = 0 by omega]; rfl, rfl⟩) <| Za (Zf ⟨ltA, ltA⟩) <| oI <| oR <| Za (beq_iff_eq.2 ((wrap_i64 ltA).trans (by first | rfl | omega))) <| oF <| Za (Zaq (E := Ze) (L := L0) (i := (L0.length - 1)) (q := 1) (by omega) (show ((0 + ((L0.length - 1) * 2)) + 1) = (L0.length - 1) * 2 + 1 from by omega) (show 1 + 1 ≤ 2 from by decide) rfl rfl) <| oB <| oI <| Za (beq_iff_eq.2 ((wrap_i64 ltA).trans (by first | rfl | omega))) <| oF <| oT <| oF Zd) rfl (by decide) (by rfl) ⟨Eq.trans (show (Value.tuple #[vs 1 0 ([(⟨(L0.getD (L0.length - 1) R_ii.z).a0, (1 : Int)⟩ : R_ii)] : List R_ii).length ([(⟨(L0.getD (L0.length - 1) R_ii.z).a0, (1 : Int)⟩ : R_ii)] : List R_ii).length, vT] : Value) = Value.tuple #[vs 1 0 1 1, vT] from (Zj1 (Zc (Zad rfl eqA eqA) (Zc rfl rfl)))) (by rfl), by rfl⟩ ⟨(Zg (E := Ze) (α := R_ii) _ L0 _), ⟨(ZbO (E := Ze) _ (L := ([(⟨(L0.getD (L0.length - 1) R_ii.z).a0, (1 : Int)⟩ : R_ii)] : List R_ii)) _ (show ([vi (L0.getD (L0.length - 1) R_ii.z).a0, vi (1 : Int)] : List Value) = Zb Ze ([(⟨(L0.getD (L0.length - 1) R_ii.z).a0, (1 : Int)⟩ : R_ii)] : List R_ii) from rfl)), trivial⟩⟩
      ·
       refine Zm (fun g6 => ?_) (fun g6 => ?_)
       ·
        exact Zk (r := (.r1 (((L0.take ((L0.length - 1) - 0)) ++ ([(⟨(L0.getD (L0.length - 1) R_ii.z).a0, (1 : Int)⟩ : R_ii)] : List R_ii))) : ZE)) (fu := 4000) (orc := (Zi [(0, false), (1, true), (2, false), (3, false)] [(0, (((L0.length - 1) : Nat) : Int)), (1, (((L0.length - 1) : Nat) : Int)), (2, (((L0.length - 1) : Nat) : Int))] [(0, (L0.length - 1)), (1, (L0.length - 1))] [(1, [.i (L0.getD (L0.length - 1) R_ii.z).a1]), (2, [.i (L0.getD (L0.length - 1) R_ii.z).a0])] [(0, .sl 0 (L0.length - 1)), (1, .ap ((L0.length - 1) - 0) (Zb Ze (L0.take ((L0.length - 1) - 0))) (Zb Ze (L0.take ((L0.length - 1) - 0)))), (2, .ap 1 [vi (L0.getD (L0.length - 1) R_ii.z).a0, vi (1 : Int)] (Zb Ze ((L0.take ((L0.length - 1) - 0)) ++ ([(⟨(L0.getD (L0.length - 1) R_ii.z).a0, (1 : Int)⟩ : R_ii)] : List R_ii))))])) (live := [0, 5]) (u := Value.tuple #[vs 5 0 ((0 + ((L0.length - 1) - 0)) + 1) ((0 + ((L0.length - 1) - 0)) + 1), vT]) (bl := [some (.cells (Zb Ze L0) 58), some (.cells (Zb Ze ((L0.take ((L0.length - 1) - 0)) ++ ([(⟨(L0.getD (L0.length - 1) R_ii.z).a0, (1 : Int)⟩ : R_ii)] : List R_ii))) 58)]) (ob := [(dP ((1 = 1 ∧ Z7 (1 * 2) (List.drop 0 [vi (L0.getD (L0.length - 1) R_ii.z).a0, vi (1 : Int)]) = some [vi (L0.getD (L0.length - 1) R_ii.z).a0, vi (1 : Int)] ∧ ZH ZaG [vi (L0.getD (L0.length - 1) R_ii.z).a0, vi (1 : Int)] = true) ∧ 0 < 1 ∧ 1 ≤ 100000 ∧ (0 + ((L0.length - 1) - 0)) < (0 + ((L0.length - 1) - 0)) + 1 ∧ (0 + ((L0.length - 1) - 0)) ≤ 100000 ∧ (0 + ((L0.length - 1) - 0)) * 2 ≤ (List.length (Zb Ze (L0.take ((L0.length - 1) - 0)))) ∧ List.take ((0 + ((L0.length - 1) - 0)) * 2) (Zb Ze (L0.take ((L0.length - 1) - 0))) ++ [vi (L0.getD (L0.length - 1) R_ii.z).a0, vi (1 : Int)] = (Zb Ze ((L0.take ((L0.length - 1) - 0)) ++ ([(⟨(L0.getD (L0.length - 1) R_ii.z).a0, (1 : Int)⟩ : R_ii)] : List R_ii)))), true), (Zz (Z7 1 (List.drop ((0 + ((L0.length - 1) * 2)) + 0) (Zb Ze L0))) [.i (L0.getD (L0.length - 1) R_ii.z).a0], true), (Nat.blt (L0.length - 1) L0.length, true), ((((L0.length - 1) : Nat) : Int) == Int.ofNat (L0.length - 1), true), ((IntKind.i64.wrap ((L0.length : Int) - (1 : Int))) == (((L0.length - 1) : Nat) : Int), true), (dP ((((L0.length - 1) - 0) = ((L0.length - 1) - 0) ∧ Z7 (((L0.length - 1) - 0) * 2) (List.drop (0 + (0 * 2)) (Zb Ze L0)) = some (Zb Ze (L0.take ((L0.length - 1) - 0))) ∧ ZH ZaG (Zb Ze (L0.take ((L0.length - 1) - 0))) = true) ∧ 0 < ((L0.length - 1) - 0) ∧ ((L0.length - 1) - 0) ≤ 100000 ∧ 0 < 0 + ((L0.length - 1) - 0) ∧ 0 ≤ 100000 ∧ 0 * 2 ≤ (List.length []) ∧ List.take (0 * 2) [] ++ (Zb Ze (L0.take ((L0.length - 1) - 0))) = (Zb Ze (L0.take ((L0.length - 1) - 0)))), true), (dP (0 ≤ (L0.length - 1) ∧ (L0.length - 1) ≤ L0.length), true), ((((L0.length - 1) : Nat) : Int) == Int.ofNat (L0.length - 1), true), (dS 0, true), ((IntKind.i64.wrap ((L0.length : Int) - (1 : Int))) == (((L0.length - 1) : Nat) : Int), true), (((L0.getD (L0.length - 1) R_ii.z).a1 == (1 : Int)), false), (Zz (Z7 1 (List.drop ((0 + ((L0.length - 1) * 2)) + 1) (Zb Ze L0))) [.i (L0.getD (L0.length - 1) R_ii.z).a1], true), (Nat.blt (L0.length - 1) L0.length, true), ((((L0.length - 1) : Nat) : Int) == Int.ofNat (L0.length - 1), true), ((IntKind.i64.wrap ((L0.length : Int) - (1 : Int))) == (((L0.length - 1) : Nat) : Int), true), (((L0.length : Int) == (0 : Int)), false), ((a1 == (16 : Int)), true), ((a1 == (15 : Int)), false)]) (by kernel_rfl) (Za (Zf ⟨⟨rfl, ⟨rfl, rfl⟩⟩, by omega, by omega, ltA, by omega, (ZaW (E := Ze) (L := (L0.take ((L0.length - 1) - 0))) (M := ([(⟨(L0.getD (L0.length - 1) R_ii.z).a0, (1 : Int)⟩ : R_ii)] : List R_ii)) (n := (0 + ((L0.length - 1) - 0))) (show _ = _ * 2 from rfl) ltA (R := ((L0.take ((L0.length - 1) - 0)) ++ ([(⟨(L0.getD (L0.length - 1) R_ii.z).a0, (1 : Int)⟩ : R_ii)] : List R_ii))) (by rw [List.take_of_length_le ltA]))⟩) <| Za (Zaq (E := Ze) (L := L0) (i := (L0.length - 1)) (q := 0) (by omega) (show ((0 + ((L0.length - 1) * 2)) + 0) = (L0.length - 1) * 2 + 0 from by omega) (show 0 + 1 ≤ 2 from by decide) rfl rfl) <| oB <| oI <| Za (beq_iff_eq.2 ((wrap_i64 ltA).trans (by first | rfl | omega))) <| Za (Zf ⟨⟨rfl, (Zup (E := Ze) (L := L0) (a := 0) (n := ((L0.length - 1) - 0)) (by omega) (by show _ = _ * 2; omega) (show _ = _ * 2 from rfl) (by rw [List.drop_zero]))⟩, by omega, by omega, ltA, by omega, (ZaW (E := Ze) (L := ([] : List R_ii)) (M := (L0.take ((L0.length - 1) - 0))) (n := 0) (show _ = _ * 2 from rfl) ltA (R := (L0.take ((L0.length - 1) - 0))) (by rw [List.take_of_length_le ltA]; rfl))⟩) <| Za (Zf ⟨ltA, ltA⟩) <| oI <| oR <| Za (beq_iff_eq.2 ((wrap_i64 ltA).trans (by first | rfl | omega))) <| oF <| Za (Zaq (E := Ze) (L := L0) (i := (L0.length - 1)) (q := 1) (by omega) (show ((0 + ((L0.length - 1) * 2)) + 1) = (L0.length - 1) * 2 + 1 from by omega) (show 1 + 1 ≤ 2 from by decide) rfl rfl) <| oB <| oI <| Za (beq_iff_eq.2 ((wrap_i64 ltA).trans (by first | rfl | omega))) <| oF <| oT <| oF Zd) rfl (by decide) (by rfl) ⟨Eq.trans (show (Value.tuple #[vs 1 0 ((L0.take ((L0.length - 1) - 0)) ++ ([(⟨(L0.getD (L0.length - 1) R_ii.z).a0, (1 : Int)⟩ : R_ii)] : List R_ii)).length ((L0.take ((L0.length - 1) - 0)) ++ ([(⟨(L0.getD (L0.length - 1) R_ii.z).a0, (1 : Int)⟩ : R_ii)] : List R_ii)).length, vT] : Value) = Value.tuple #[vs 1 0 ((0 + ((L0.length - 1) - 0)) + 1) ((0 + ((L0.length - 1) - 0)) + 1), vT] from (Zj1 (Zc (Zad rfl eqA eqA) (Zc rfl rfl)))) (by rfl), by rfl⟩ ⟨(Zg (E := Ze) (α := R_ii) _ L0 _), ⟨(Zg (E := Ze) (α := R_ii) _ ((L0.take ((L0.length - 1) - 0)) ++ ([(⟨(L0.getD (L0.length - 1) R_ii.z).a0, (1 : Int)⟩ : R_ii)] : List R_ii)) _), trivial⟩⟩
       ·
        exact Za6
    ·
     exact Za6
  ·
   refine Zm (fun g2 => ?_) (fun g2 => ?_)
   ·
    refine Zm (fun g3 => ?_) (fun g3 => ?_)
    ·
     exact Zk (r := (.r0 (false) : ZE)) (fu := 4000) (orc := (Zi [(0, false), (1, false), (2, true), (3, true)] [] [] [] [])) (live := [0]) (u := Value.tuple #[vs 0 0 L0.length L0.length, vf]) (bl := [some (.cells (Zb Ze L0) 58)]) (ob := [(((L0.length : Int) == (0 : Int)), true), ((a1 == (17 : Int)), true), ((a1 == (16 : Int)), false), ((a1 == (15 : Int)), false)]) (by kernel_rfl) (oT <| oT <| oF <| oF Zd) rfl (by decide) (by rfl) rr ⟨(Zg (E := Ze) (α := R_ii) _ L0 _), trivial⟩
    ·
     refine Zm (fun g4 => ?_) (fun g4 => ?_)
     ·
      exact Zk (r := (.r2 : ZE)) (fu := 4000) (orc := (Zi [(0, false), (1, false), (2, true), (3, false)] [(0, (((L0.length - 1) : Nat) : Int))] [] [] [(0, .cut (L0.length - 1) (Zb Ze (L0.take (L0.length - 1))))])) (live := [0, 2]) (u := Value.tuple #[vs 2 0 (L0.length - 1) (L0.length - 1), vT]) (bl := [none, some (.cells (Zb Ze (L0.take (L0.length - 1))) 58)]) (ob := [(dP ((L0.length - 1) ≤ L0.length ∧ 0 < 2 ∧ L0.length * 2 ≤ ((Zb Ze L0) : List Value).length ∧ List.take ((L0.length - 1) * 2) (Zb Ze L0) = (Zb Ze (L0.take (L0.length - 1)))), true), ((((L0.length - 1) : Nat) : Int) == Int.ofNat (L0.length - 1), true), (dS 0, true), ((IntKind.i64.wrap ((L0.length : Int) - (1 : Int))) == (((L0.length - 1) : Nat) : Int), true), (((L0.length : Int) == (0 : Int)), false), ((a1 == (17 : Int)), true), ((a1 == (16 : Int)), false), ((a1 == (15 : Int)), false)]) (by kernel_rfl) (Za (Zf ⟨ltA, by decide, Zr5 (E := Ze) (L := L0) (by omega) (show _ = _ * 2 from rfl), ZsV (E := Ze) (L := L0) (R := (L0.take (L0.length - 1))) (show _ = _ * 2 from rfl) rfl⟩) <| oI <| oR <| Za (beq_iff_eq.2 ((wrap_i64 ltA).trans (by first | rfl | omega))) <| oF <| oT <| oF <| oF Zd) rfl (by decide) (by rfl) ⟨Eq.trans (show (Value.tuple #[vs 1 0 (L0.take (L0.length - 1)).length (L0.take (L0.length - 1)).length, vT] : Value) = Value.tuple #[vs 1 0 (L0.length - 1) (L0.length - 1), vT] from (Zj1 (Zc (Zad rfl eqA eqA) (Zc rfl rfl)))) (by rfl), by rfl⟩ ⟨(Zg (E := Ze) (α := R_ii) _ (L0.take (L0.length - 1)) _), trivial⟩
     ·
      exact Za6
   ·
    refine Zm (fun g3 => ?_) (fun g3 => ?_)
    ·
     refine Zm (fun g4 => ?_) (fun g4 => ?_)
     ·
      exact Zk (r := (.r0 (true) : ZE)) (fu := 4000) (orc := (Zi [(0, false), (1, false), (2, false), (3, true), (4, true)] [] [] [] [])) (live := [0]) (u := Value.tuple #[vs 0 0 L0.length L0.length, vT]) (bl := [some (.cells (Zb Ze L0) 58)]) (ob := [((decide ((L0.length : Int) > (0 : Int))), true), ((a1 == (18 : Int)), true), ((a1 == (17 : Int)), false), ((a1 == (16 : Int)), false), ((a1 == (15 : Int)), false)]) (by kernel_rfl) (oY <| oT <| oF <| oF <| oF Zd) rfl (by decide) (by rfl) rr ⟨(Zg (E := Ze) (α := R_ii) _ L0 _), trivial⟩
     ·
      exact Zk (r := (.r0 (false) : ZE)) (fu := 4000) (orc := (Zi [(0, false), (1, false), (2, false), (3, true), (4, false)] [] [] [] [])) (live := [0]) (u := Value.tuple #[vs 0 0 L0.length L0.length, vf]) (bl := [some (.cells (Zb Ze L0) 58)]) (ob := [((decide ((L0.length : Int) > (0 : Int))), false), ((a1 == (18 : Int)), true), ((a1 == (17 : Int)), false), ((a1 == (16 : Int)), false), ((a1 == (15 : Int)), false)]) (by kernel_rfl) (oN <| oT <| oF <| oF <| oF Zd) rfl (by decide) (by rfl) rr ⟨(Zg (E := Ze) (α := R_ii) _ L0 _), trivial⟩
    ·
     refine Zm (fun g4 => ?_) (fun g4 => ?_)
     ·
      refine Zm (fun g5 => ?_) (fun g5 => ?_)
      ·
       exact Zk (r := (.r0 (true) : ZE)) (fu := 4000) (orc := (Zi [(0, false), (1, false), (2, false), (3, false), (4, true), (5, true)] [] [] [] [])) (live := [0]) (u := Value.tuple #[vs 0 0 L0.length L0.length, vT]) (bl := [some (.cells (Zb Ze L0) 58)]) (ob := [(((L0.length : Int) == (0 : Int)), true), ((a1 == (20 : Int)), true), ((a1 == (18 : Int)), false), ((a1 == (17 : Int)), false), ((a1 == (16 : Int)), false), ((a1 == (15 : Int)), false)]) (by kernel_rfl) (oT <| oT <| oF <| oF <| oF <| oF Zd) rfl (by decide) (by rfl) rr ⟨(Zg (E := Ze) (α := R_ii) _ L0 _), trivial⟩
      ·
       exact Zk (r := (.r0 (false) : ZE)) (fu := 4000) (orc := (Zi [(0, false), (1, false), (2, false), (3, false), (4, true), (5, false)] [] [] [] [])) (live := [0]) (u := Value.tuple #[vs 0 0 L0.length L0.length, vf]) (bl := [some (.cells (Zb Ze L0) 58)]) (ob := [(((L0.length : Int) == (0 : Int)), false), ((a1 == (20 : Int)), true), ((a1 == (18 : Int)), false), ((a1 == (17 : Int)), false), ((a1 == (16 : Int)), false), ((a1 == (15 : Int)), false)]) (by kernel_rfl) (oF <| oT <| oF <| oF <| oF <| oF Zd) rfl (by decide) (by rfl) rr ⟨(Zg (E := Ze) (α := R_ii) _ L0 _), trivial⟩
     ·
      exact Zk (r := (.r0 (true) : ZE)) (fu := 4000) (orc := (Zi [(0, false), (1, false), (2, false), (3, false), (4, false)] [] [] [] [])) (live := [0]) (u := Value.tuple #[vs 0 0 L0.length L0.length, vT]) (bl := [some (.cells (Zb Ze L0) 58)]) (ob := [((a1 == (20 : Int)), false), ((a1 == (18 : Int)), false), ((a1 == (17 : Int)), false), ((a1 == (16 : Int)), false), ((a1 == (15 : Int)), false)]) (by kernel_rfl) (oF <| oF <| oF <| oF <| oF Zd) rfl (by decide) (by rfl) rr ⟨(Zg (E := Ze) (α := R_ii) _ L0 _), trivial⟩

theorem ZgD (L0 : List R_ii) (a1 a2 a3 a4 a5 : Int) (N : Nat) (r : ZE) (h : ZcC L0 a1 a2 a3 a4 a5 N = some r) : LSpec Try.prog 27 #[vs 0 0 L0.length L0.length, Value.agg #[vi a1, vi a2, vi a3, vi a4], vi a5] [.cells (Zb Ze L0) 58] (Zmu L0 a1 a2 a3 a4 a5 r) (Zlm L0 a1 a2 a3 a4 a5 r) :=
 ZaB Zao Try.func27 (by kernel_rfl) (by kernel_rfl) (fun r => by cases r <;> exact ZN _ rfl) (Zq5 L0 a1 a2 a3 a4 a5 N) h

noncomputable def Zgw (L0 : List R_ii) (a1 a2 a3 a4 a5 : Int) (w1 : Bool) (k0 n : Nat) : Zak := .call [(k0, .cells (Zb Ze L0) 58)] (Value.tuple #[vs k0 0 L0.length L0.length, Value.bool w1]) [] 0
def Zfq (A : Array Value) (L0 : List R_ii) (a1 a2 a3 a4 a5 : Int) (w1 : Bool) (k0 n : Nat) : Prop := Zw Try.prog 27 A [(k0, .cells (Zb Ze L0) 58)] (Value.tuple #[vs k0 0 L0.length L0.length, Value.bool w1]) [] n 0

theorem Zgx (A : Array Value) (L0 : List R_ii) (a1 a2 a3 a4 a5 : Int) (w1 : Bool) (N : Nat) (h : ZcC L0 a1 a2 a3 a4 a5 N = some (.r0 w1)) (k0 n : Nat) (hA : A = #[vs k0 0 L0.length L0.length, Value.agg #[vi a1, vi a2, vi a3, vi a4], vi a5]) (hnd : ([k0] : List Nat).Nodup) (hlt : ∀ k ∈ ([k0] : List Nat), k < n) : Zfq A L0 a1 a2 a3 a4 a5 w1 k0 n :=
 Z0 hA (LSpec.callL (show LSpec Try.prog 27 #[vs 0 0 L0.length L0.length, Value.agg #[vi a1, vi a2, vi a3, vi a4], vi a5] [.cells (Zb Ze L0) 58] (Value.tuple #[vs 0 0 L0.length L0.length, Value.bool w1]) [some (.cells (Zb Ze L0) 58)] from ZgD L0 a1 a2 a3 a4 a5 N _ h) [k0] n [] rfl hnd hlt (show 1 ≤ 1 from by decide) (show ∀ j ∈ ([] : List Nat), j < 1 from by decide) (by rfl) ⟨(Zp _ _ _), trivial⟩ (by rfl) ⟨(Zp _ _ _), trivial⟩ ⟨.inr rfl, trivial⟩ rfl rfl rfl (Zc (Zn rfl (Zy _ _ _)) rfl) rfl)

noncomputable def ZhT (L0 : List R_ii) (a1 a2 a3 a4 a5 : Int) (w1 : List R_ii) (k0 n : Nat) : Zak := .call [(k0, .cells (Zb Ze L0) 58)] (Value.tuple #[vs n 0 w1.length w1.length, vT]) [(n, some (.cells (Zb Ze w1) 58))] 1
def Zgy (A : Array Value) (L0 : List R_ii) (a1 a2 a3 a4 a5 : Int) (w1 : List R_ii) (k0 n : Nat) : Prop := Zw Try.prog 27 A [(k0, .cells (Zb Ze L0) 58)] (Value.tuple #[vs n 0 w1.length w1.length, vT]) [(n, some (.cells (Zb Ze w1) 58))] n 1

theorem ZhU (A : Array Value) (L0 : List R_ii) (a1 a2 a3 a4 a5 : Int) (w1 : List R_ii) (N : Nat) (h : ZcC L0 a1 a2 a3 a4 a5 N = some (.r1 w1)) (k0 n : Nat) (hA : A = #[vs k0 0 L0.length L0.length, Value.agg #[vi a1, vi a2, vi a3, vi a4], vi a5]) (hnd : ([k0] : List Nat).Nodup) (hlt : ∀ k ∈ ([k0] : List Nat), k < n) : Zgy A L0 a1 a2 a3 a4 a5 w1 k0 n :=
 Z0 hA (LSpec.callL (show LSpec Try.prog 27 #[vs 0 0 L0.length L0.length, Value.agg #[vi a1, vi a2, vi a3, vi a4], vi a5] [.cells (Zb Ze L0) 58] (Value.tuple #[vs 1 0 w1.length w1.length, vT]) [some (.cells (Zb Ze L0) 58), some (.cells (Zb Ze w1) 58)] from ZgD L0 a1 a2 a3 a4 a5 N _ h) [k0] n [1] rfl hnd hlt (show 1 ≤ 2 from by decide) (show ∀ j ∈ ([1] : List Nat), j < 2 from by decide) (by rfl) ⟨(Zp _ _ _), trivial⟩ (by rfl) ⟨(Zp _ _ _), ⟨(Zp _ _ _), trivial⟩⟩ ⟨.inr rfl, ⟨(by decide), trivial⟩⟩ rfl rfl rfl (Zc (Zn rfl (Zy _ _ _)) rfl) (Zc (Zn rfl (Zac (Zy _ _ _))) rfl))

noncomputable def ZhV (L0 : List R_ii) (a1 a2 a3 a4 a5 : Int) (k0 n : Nat) : Zak := .call [(k0, .cells (Zb Ze L0) 58)] (Value.tuple #[vs n 0 (L0.take (L0.length - 1)).length (L0.take (L0.length - 1)).length, vT]) [(k0, none), (n, some (.cells (Zb Ze (L0.take (L0.length - 1))) 58))] 1
def Zgz (A : Array Value) (L0 : List R_ii) (a1 a2 a3 a4 a5 : Int) (k0 n : Nat) : Prop := Zw Try.prog 27 A [(k0, .cells (Zb Ze L0) 58)] (Value.tuple #[vs n 0 (L0.take (L0.length - 1)).length (L0.take (L0.length - 1)).length, vT]) [(k0, none), (n, some (.cells (Zb Ze (L0.take (L0.length - 1))) 58))] n 1

theorem ZhW (A : Array Value) (L0 : List R_ii) (a1 a2 a3 a4 a5 : Int) (N : Nat) (h : ZcC L0 a1 a2 a3 a4 a5 N = some (.r2)) (k0 n : Nat) (hA : A = #[vs k0 0 L0.length L0.length, Value.agg #[vi a1, vi a2, vi a3, vi a4], vi a5]) (hnd : ([k0] : List Nat).Nodup) (hlt : ∀ k ∈ ([k0] : List Nat), k < n) : Zgz A L0 a1 a2 a3 a4 a5 k0 n :=
 Z0 hA (LSpec.callL (show LSpec Try.prog 27 #[vs 0 0 L0.length L0.length, Value.agg #[vi a1, vi a2, vi a3, vi a4], vi a5] [.cells (Zb Ze L0) 58] (Value.tuple #[vs 1 0 (L0.take (L0.length - 1)).length (L0.take (L0.length - 1)).length, vT]) [none, some (.cells (Zb Ze (L0.take (L0.length - 1))) 58)] from ZgD L0 a1 a2 a3 a4 a5 N _ h) [k0] n [0, 1] rfl hnd hlt (show 1 ≤ 2 from by decide) (show ∀ j ∈ ([0, 1] : List Nat), j < 2 from by decide) (by rfl) ⟨(Zp _ _ _), trivial⟩ (by rfl) ⟨(Zp _ _ _), trivial⟩ ⟨.inl (by decide), ⟨(by decide), trivial⟩⟩ rfl rfl rfl (Zc (Zn rfl (Zy _ _ _)) rfl) (Zc (Zn rfl rfl) (Zc (Zn rfl (Zac (Zy _ _ _))) rfl)))

noncomputable def Zmv (a0 a1 a2 a3 : Int) : Zcz → Value
 | .r0 w0 w1 => Value.tuple #[vi w0, Value.bool w1]
noncomputable def Zln (a0 a1 a2 a3 : Int) : Zcz → List (Option AObj)
 | .r0 w0 w1 => []

theorem Zq6 (a0 a1 a2 a3 : Int) (N : Nat) : Fx Try.prog Zr Try.f24 [] #[Value.agg #[vi a0, vi a1, vi a2, vi a3]] (Zmv a0 a1 a2 a3) (Zln a0 a1 a2 a3) (Ze3 a0 a1 a2 a3 N) := by
 unfold Ze3
 refine Zm (fun g0 => ?_) (fun g0 => ?_)
 ·
  exact Zk (r := (.r0 (a1) (true) : Zcz)) (fu := 4000) (orc := (Zi [(0, true)] [] [] [] [])) (live := []) (u := Value.tuple #[vi a1, vT]) (bl := []) (ob := [((a0 == (8 : Int)), true)]) (by kernel_rfl) (oT Zd) rfl (by decide) (by rfl) rr trivial
 ·
  refine Zm (fun g1 => ?_) (fun g1 => ?_)
  ·
   exact Zk (r := (.r0 (a2) (true) : Zcz)) (fu := 4000) (orc := (Zi [(0, false), (1, true)] [] [] [] [])) (live := []) (u := Value.tuple #[vi a2, vT]) (bl := []) (ob := [((a0 == (9 : Int)), true), ((a0 == (8 : Int)), false)]) (by kernel_rfl) (oT <| oF Zd) rfl (by decide) (by rfl) rr trivial
  ·
   exact Zk (r := (.r0 ((0 : Int)) (false) : Zcz)) (fu := 4000) (orc := (Zi [(0, false), (1, false)] [] [] [] [])) (live := []) (u := Value.tuple #[v0, vf]) (bl := []) (ob := [((a0 == (9 : Int)), false), ((a0 == (8 : Int)), false)]) (by kernel_rfl) (oF <| oF Zd) rfl (by decide) (by rfl) rr trivial

theorem ZoP (a0 a1 a2 a3 : Int) (N : Nat) (r : Zcz) (h : Ze3 a0 a1 a2 a3 N = some r) : LSpec Try.prog 24 #[Value.agg #[vi a0, vi a1, vi a2, vi a3]] [] (Zmv a0 a1 a2 a3 r) (Zln a0 a1 a2 a3 r) :=
 ZaB Zao Try.func24 (by kernel_rfl) (by kernel_rfl) (fun r => by cases r <;> exact ZN _ rfl) (Zq6 a0 a1 a2 a3 N) h

noncomputable def Zg0 (a0 a1 a2 a3 w0 : Int) (w1 : Bool) (n : Nat) : Zak := .call [] (Value.tuple #[vi w0, Value.bool w1]) [] 0
def Zfr (A : Array Value) (a0 a1 a2 a3 w0 : Int) (w1 : Bool) (n : Nat) : Prop := Zw Try.prog 24 A [] (Value.tuple #[vi w0, Value.bool w1]) [] n 0

theorem Zg1 (A : Array Value) (a0 a1 a2 a3 w0 : Int) (w1 : Bool) (N : Nat) (h : Ze3 a0 a1 a2 a3 N = some (.r0 w0 w1)) (n : Nat) (hA : A = #[Value.agg #[vi a0, vi a1, vi a2, vi a3]]) (hnd : ([] : List Nat).Nodup) (hlt : ∀ k ∈ ([] : List Nat), k < n) : Zfr A a0 a1 a2 a3 w0 w1  n :=
 Z0 hA (LSpec.callL (show LSpec Try.prog 24 #[Value.agg #[vi a0, vi a1, vi a2, vi a3]] [] (Value.tuple #[vi w0, Value.bool w1]) [] from ZoP a0 a1 a2 a3 N _ h) [] n [] rfl hnd hlt (show 0 ≤ 0 from by decide) (show ∀ j ∈ ([] : List Nat), j < 0 from by decide) (by rfl) trivial (by rfl) trivial trivial rfl rfl rfl rfl rfl)

noncomputable def ZnU (o0 : Nat) (L1 : List R_iiii) (n2 n3 : Nat) (a4 : Int) (O0 : Obj) : ZaY → Value
 | .r0 => vn
 | .r1 w2 => vs 1 0 w2.length w2.length
noncomputable def Zmw (o0 : Nat) (L1 : List R_iiii) (n2 n3 : Nat) (a4 : Int) (O0 : Obj) : ZaY → List (Option AObj)
 | .r0 => [some (.ro O0)]
 | .r1 w2 => [some (.ro O0), some (.cells (Zb Ze w2) 58)]

def Zsi : Zan → Nat
 | .h1m0 v5 => 1
 | .h1m1 v5 v6 => 1
noncomputable def Ztv (o0 : Nat) (L1 : List R_iiii) (n2 n3 : Nat) (a4 : Int) (O0 : Obj) : Zan → List (Nat × Value)
 | .h1m0 v5 => [(0, vs 0 o0 n2 n3), (1, vi a4), (5, vn), (6, vi (v5 : Int))]
 | .h1m1 v5 v6 => [(0, vs 0 o0 n2 n3), (1, vi a4), (5, vs 1 0 v5.length v5.length), (6, vi (v6 : Int))]
noncomputable def Ztw (o0 : Nat) (L1 : List R_iiii) (n2 n3 : Nat) (a4 : Int) (O0 : Obj) : Zan → List (Option AObj)
 | .h1m0 v5 => [some (.ro O0)]
 | .h1m1 v5 v6 => [some (.ro O0), some (.cells (Zb Ze v5) 58)]

noncomputable def Ze5 : Nat → Code × List ZaO
 | 1 => Zcm [1, 1, 0, 1, 3] (Zc1 Try.f32) []
 | _ => (.skip, [])
def Zmx : Nat → Bool
 | 1 => true
 | _ => true
noncomputable def Zgl (i : Nat) : List ZaO := match Zmx i with | true => .rnd i :: (Ze5 i).2 | false => (Ze5 i).2

noncomputable def Zbi (o0 : Nat) (L1 : List R_iiii) (n2 n3 : Nat) (a4 : Int) (O0 : Obj) (N : Nat) : Mach := ⟨Try.f32, [.ro O0], Zan, ZaY, Zdp L1 n2 n3 a4 N, Zsi, Ze5, Zmx, Ztv o0 L1 n2 n3 a4 O0, Ztw o0 L1 n2 n3 a4 O0, ZnU o0 L1 n2 n3 a4 O0, Zmw o0 L1 n2 n3 a4 O0⟩

theorem ZoQ (o0 : Nat) (L1 : List R_iiii) (n2 n3 : Nat) (a4 : Int) (O0 : Obj) (F0 : Zs O0 o0 L1) (v5 N : Nat) : (Zbi o0 L1 n2 n3 a4 O0 N).Ok Try.prog Zr (.h1m0 v5 : Zan) (Zdp L1 n2 n3 a4 N (.h1m0 v5 : Zan)) := by
 show (Zbi o0 L1 n2 n3 a4 O0 N).Ok Try.prog Zr (.h1m0 v5 : Zan) (ZcV L1 n2 n3 a4 N v5)
 unfold ZcV
 refine Mach.ok_ite (fun g0 => ?_) (fun g0 => ?_)
 ·
  refine Mach.ok_ite (fun g1 => ?_) (fun g1 => ?_)
  ·
   refine Mach.ok_ite (fun g2 => ?_) (fun g2 => ?_)
   ·
    refine Mach.ok_bind (fun z3 c3 => ?_)
    cases z3 with
    | r0 =>
     refine Mach.ok_ite (fun g4 => ?_) (fun g4 => ?_)
     ·
      exact Mach.ok_next (M := Zbi o0 L1 n2 n3 a4 O0 N) (cd := 1000000) (cm := 0) (y := (.h1m1 (([(⟨(v5 : Int), (0 : Int)⟩ : R_ii)] : List R_ii)) ((v5 + 1)) : Zan)) (fu := 4000) (orc := (Zi [(0, true), (1, true)] [(0, (((v5 + 1) : Nat) : Int))] [(0, v5)] [(0, [.i (L1.getD v5 R_iiii.z).a0, .i (L1.getD v5 R_iiii.z).a1, .i (L1.getD v5 R_iiii.z).a2, .i (L1.getD v5 R_iiii.z).a3])] [(0, (ZjB ((L1.getD v5 R_iiii.z).a0) ((L1.getD v5 R_iiii.z).a1) ((L1.getD v5 R_iiii.z).a2) ((L1.getD v5 R_iiii.z).a3) ((v5 : Int))    1))])) (live := [0, 1]) (tv := fun _ => [some (vs 0 o0 n2 n3), some (vi a4), some (vs 1 0 1 1), some (vi (((v5 + 1) : Nat) : Int))]) (bl := [some (.ro O0), some (.cells (Zb Ze ([(⟨(v5 : Int), (0 : Int)⟩ : R_ii)] : List R_ii)) 58)]) (ob := [((IntKind.i64.wrap ((v5 : Int) + (1 : Int))) == (((v5 + 1) : Nat) : Int), true), (dP (Zhz #[vn, Value.agg #[vi (L1.getD v5 R_iiii.z).a0, vi (L1.getD v5 R_iiii.z).a1, vi (L1.getD v5 R_iiii.z).a2, vi (L1.getD v5 R_iiii.z).a3], vi (v5 : Int)] ((L1.getD v5 R_iiii.z).a0) ((L1.getD v5 R_iiii.z).a1) ((L1.getD v5 R_iiii.z).a2) ((L1.getD v5 R_iiii.z).a3) ((v5 : Int))    1), true), (Zz (ZC O0 (o0 + (v5 * 4)) 4) [.i (L1.getD v5 R_iiii.z).a0, .i (L1.getD v5 R_iiii.z).a1, .i (L1.getD v5 R_iiii.z).a2, .i (L1.getD v5 R_iiii.z).a3], true), (Nat.blt v5 n2, true), ((v5 : Int) == Int.ofNat v5, true), ((decide ((v5 : Int) < (n2 : Int))), true), ((decide ((v5 : Int) < a4)), true)]) rfl (show 1 ∈ Zx (Zgl 1) from by decide +kernel) (fun gv => by kernel_rfl) (Za (beq_iff_eq.2 ((wrap_i64 ltA).trans (by first | rfl | omega))) <| Za (Zf (ZjC #[vn, Value.agg #[vi (L1.getD v5 R_iiii.z).a0, vi (L1.getD v5 R_iiii.z).a1, vi (L1.getD v5 R_iiii.z).a2, vi (L1.getD v5 R_iiii.z).a3], vi (v5 : Int)] ((L1.getD v5 R_iiii.z).a0) ((L1.getD v5 R_iiii.z).a1) ((L1.getD v5 R_iiii.z).a2) ((L1.getD v5 R_iiii.z).a3) ((v5 : Int))   N c3  1 rfl (by decide) (by decide))) <| Za ((show (o0 + v5 * 4 + 0) = (o0 + (v5 * 4)) from by omega) ▸ F0 v5 (by omega) 0 4 (show 0 + 4 ≤ 4 from by decide)) <| oB <| oI <| oY <| oY Zd) rfl (by decide) (by rfl) (fun _ => ⟨rr, ⟨rr, ⟨⟨Eq.trans (show (vs 1 0 ([(⟨(v5 : Int), (0 : Int)⟩ : R_ii)] : List R_ii).length ([(⟨(v5 : Int), (0 : Int)⟩ : R_ii)] : List R_ii).length : Value) = vs 1 0 1 1 from (Zad rfl eqA eqA)) (by rfl), by rfl⟩, ⟨rr, trivial⟩⟩⟩⟩) ⟨rfl, ⟨(Zg (E := Ze) (α := R_ii) _ ([(⟨(v5 : Int), (0 : Int)⟩ : R_ii)] : List R_ii) _), trivial⟩⟩
     ·
      exact Mach.ok_none
    | r1 y3_0 =>
     refine Mach.ok_ite (fun g4 => ?_) (fun g4 => ?_)
     ·
      exact Mach.ok_next (M := Zbi o0 L1 n2 n3 a4 O0 N) (cd := 1000000) (cm := 0) (y := (.h1m0 ((v5 + 1)) : Zan)) (fu := 4000) (orc := (Zi [(0, true), (1, true)] [(0, (((v5 + 1) : Nat) : Int))] [(0, v5)] [(0, [.i (L1.getD v5 R_iiii.z).a0, .i (L1.getD v5 R_iiii.z).a1, .i (L1.getD v5 R_iiii.z).a2, .i (L1.getD v5 R_iiii.z).a3])] [(0, (Zh0 ((L1.getD v5 R_iiii.z).a0) ((L1.getD v5 R_iiii.z).a1) ((L1.getD v5 R_iiii.z).a2) ((L1.getD v5 R_iiii.z).a3) ((v5 : Int))  y3_0  1))])) (live := [0]) (tv := fun _ => [some (vs 0 o0 n2 n3), some (vi a4), some (vn), some (vi (((v5 + 1) : Nat) : Int))]) (bl := [some (.ro O0)]) (ob := [((IntKind.i64.wrap ((v5 : Int) + (1 : Int))) == (((v5 + 1) : Nat) : Int), true), (dP (Zgk #[vn, Value.agg #[vi (L1.getD v5 R_iiii.z).a0, vi (L1.getD v5 R_iiii.z).a1, vi (L1.getD v5 R_iiii.z).a2, vi (L1.getD v5 R_iiii.z).a3], vi (v5 : Int)] ((L1.getD v5 R_iiii.z).a0) ((L1.getD v5 R_iiii.z).a1) ((L1.getD v5 R_iiii.z).a2) ((L1.getD v5 R_iiii.z).a3) ((v5 : Int))  y3_0  1), true), (Zz (ZC O0 (o0 + (v5 * 4)) 4) [.i (L1.getD v5 R_iiii.z).a0, .i (L1.getD v5 R_iiii.z).a1, .i (L1.getD v5 R_iiii.z).a2, .i (L1.getD v5 R_iiii.z).a3], true), (Nat.blt v5 n2, true), ((v5 : Int) == Int.ofNat v5, true), ((decide ((v5 : Int) < (n2 : Int))), true), ((decide ((v5 : Int) < a4)), true)]) rfl (show 1 ∈ Zx (Zgl 1) from by decide +kernel) (fun gv => by kernel_rfl) (Za (beq_iff_eq.2 ((wrap_i64 ltA).trans (by first | rfl | omega))) <| Za (Zf (Zh1 #[vn, Value.agg #[vi (L1.getD v5 R_iiii.z).a0, vi (L1.getD v5 R_iiii.z).a1, vi (L1.getD v5 R_iiii.z).a2, vi (L1.getD v5 R_iiii.z).a3], vi (v5 : Int)] ((L1.getD v5 R_iiii.z).a0) ((L1.getD v5 R_iiii.z).a1) ((L1.getD v5 R_iiii.z).a2) ((L1.getD v5 R_iiii.z).a3) ((v5 : Int))  y3_0 N c3  1 rfl (by decide) (by decide))) <| Za ((show (o0 + v5 * 4 + 0) = (o0 + (v5 * 4)) from by omega) ▸ F0 v5 (by omega) 0 4 (show 0 + 4 ≤ 4 from by decide)) <| oB <| oI <| oY <| oY Zd) rfl (by decide) (by rfl) (fun _ => ⟨rr, ⟨rr, ⟨rr, ⟨rr, trivial⟩⟩⟩⟩) ⟨rfl, trivial⟩
     ·
      exact Mach.ok_none
   ·
    exact Mach.ok_none
  ·
   exact Mach.ok_fin (M := Zbi o0 L1 n2 n3 a4 O0 N) (cd := 1000000) (cm := 0) (r := (.r0 : ZaY)) (fu := 4000) (orc := (Zi [(0, true), (1, false)] [] [] [] [])) (live := [0]) (u := vn) (bl := [some (.ro O0)]) (ob := [((decide ((v5 : Int) < (n2 : Int))), false), ((decide ((v5 : Int) < a4)), true)]) (fun gv => by kernel_rfl) (oN <| oY Zd) rfl (by decide) (by rfl) rr ⟨rfl, trivial⟩
 ·
  exact Mach.ok_fin (M := Zbi o0 L1 n2 n3 a4 O0 N) (cd := 1000000) (cm := 0) (r := (.r0 : ZaY)) (fu := 4000) (orc := (Zi [(0, false)] [] [] [] [])) (live := [0]) (u := vn) (bl := [some (.ro O0)]) (ob := [((decide ((v5 : Int) < a4)), false)]) (fun gv => by kernel_rfl) (oN Zd) rfl (by decide) (by rfl) rr ⟨rfl, trivial⟩

theorem ZoR (o0 : Nat) (L1 : List R_iiii) (n2 n3 : Nat) (a4 : Int) (O0 : Obj) (F0 : Zs O0 o0 L1) (v5 : List R_ii) (v6 N : Nat) : (Zbi o0 L1 n2 n3 a4 O0 N).Ok Try.prog Zr (.h1m1 v5 v6 : Zan) (Zdp L1 n2 n3 a4 N (.h1m1 v5 v6 : Zan)) := by
 show (Zbi o0 L1 n2 n3 a4 O0 N).Ok Try.prog Zr (.h1m1 v5 v6 : Zan) (ZcW L1 n2 n3 a4 N v5 v6)
 unfold ZcW
 refine Mach.ok_ite (fun g0 => ?_) (fun g0 => ?_)
 ·
  refine Mach.ok_ite (fun g1 => ?_) (fun g1 => ?_)
  ·
   refine Mach.ok_ite (fun g2 => ?_) (fun g2 => ?_)
   ·
    refine Mach.ok_bind (fun z3 c3 => ?_)
    cases z3 with
    | r0 y3_0 =>
     refine Mach.ok_ite (fun g4 => ?_) (fun g4 => ?_)
     ·
      exact Mach.ok_next (M := Zbi o0 L1 n2 n3 a4 O0 N) (cd := 1000000) (cm := 0) (y := (.h1m1 (v5) ((v6 + 1)) : Zan)) (fu := 4000) (orc := (Zi [(0, true), (1, true)] [(0, (((v6 + 1) : Nat) : Int))] [(0, v6)] [(0, [.i (L1.getD v6 R_iiii.z).a0, .i (L1.getD v6 R_iiii.z).a1, .i (L1.getD v6 R_iiii.z).a2, .i (L1.getD v6 R_iiii.z).a3])] [(0, (Zgw (v5) ((L1.getD v6 R_iiii.z).a0) ((L1.getD v6 R_iiii.z).a1) ((L1.getD v6 R_iiii.z).a2) ((L1.getD v6 R_iiii.z).a3) ((v6 : Int))  y3_0 1 2))])) (live := [0, 1]) (tv := fun _ => [some (vs 0 o0 n2 n3), some (vi a4), some (vs 1 0 v5.length v5.length), some (vi (((v6 + 1) : Nat) : Int))]) (bl := [some (.ro O0), some (.cells (Zb Ze v5) 58)]) (ob := [((IntKind.i64.wrap ((v6 : Int) + (1 : Int))) == (((v6 + 1) : Nat) : Int), true), (dP (Zfq #[vs 1 0 v5.length v5.length, Value.agg #[vi (L1.getD v6 R_iiii.z).a0, vi (L1.getD v6 R_iiii.z).a1, vi (L1.getD v6 R_iiii.z).a2, vi (L1.getD v6 R_iiii.z).a3], vi (v6 : Int)] (v5) ((L1.getD v6 R_iiii.z).a0) ((L1.getD v6 R_iiii.z).a1) ((L1.getD v6 R_iiii.z).a2) ((L1.getD v6 R_iiii.z).a3) ((v6 : Int))  y3_0 1 2), true), (dS (Zb Ze v5), true), (Zz (ZC O0 (o0 + (v6 * 4)) 4) [.i (L1.getD v6 R_iiii.z).a0, .i (L1.getD v6 R_iiii.z).a1, .i (L1.getD v6 R_iiii.z).a2, .i (L1.getD v6 R_iiii.z).a3], true), (Nat.blt v6 n2, true), ((v6 : Int) == Int.ofNat v6, true), ((decide ((v6 : Int) < (n2 : Int))), true), ((decide ((v6 : Int) < a4)), true)]) rfl (show 1 ∈ Zx (Zgl 1) from by decide +kernel) (fun gv => by kernel_rfl) (Za (beq_iff_eq.2 ((wrap_i64 ltA).trans (by first | rfl | omega))) <| Za (Zf (Zgx #[vs 1 0 v5.length v5.length, Value.agg #[vi (L1.getD v6 R_iiii.z).a0, vi (L1.getD v6 R_iiii.z).a1, vi (L1.getD v6 R_iiii.z).a2, vi (L1.getD v6 R_iiii.z).a3], vi (v6 : Int)] (v5) ((L1.getD v6 R_iiii.z).a0) ((L1.getD v6 R_iiii.z).a1) ((L1.getD v6 R_iiii.z).a2) ((L1.getD v6 R_iiii.z).a3) ((v6 : Int))  y3_0 N c3 1 2 rfl (by decide) (by decide))) <| oR <| Za ((show (o0 + v6 * 4 + 0) = (o0 + (v6 * 4)) from by omega) ▸ F0 v6 (by omega) 0 4 (show 0 + 4 ≤ 4 from by decide)) <| oB <| oI <| oY <| oY Zd) rfl (by decide) (by rfl) (fun _ => ⟨rr, ⟨rr, ⟨rr, ⟨rr, trivial⟩⟩⟩⟩) ⟨rfl, ⟨(Zg (E := Ze) (α := R_ii) _ v5 _), trivial⟩⟩
     ·
      exact Mach.ok_none
    | r1 y3_0 =>
     refine Mach.ok_ite (fun g4 => ?_) (fun g4 => ?_)
     ·
      exact Mach.ok_next (M := Zbi o0 L1 n2 n3 a4 O0 N) (cd := 1000000) (cm := 0) (y := (.h1m1 (y3_0) ((v6 + 1)) : Zan)) (fu := 4000) (orc := (Zi [(0, true), (1, true)] [(0, (((v6 + 1) : Nat) : Int))] [(0, v6)] [(0, [.i (L1.getD v6 R_iiii.z).a0, .i (L1.getD v6 R_iiii.z).a1, .i (L1.getD v6 R_iiii.z).a2, .i (L1.getD v6 R_iiii.z).a3])] [(0, (ZhT (v5) ((L1.getD v6 R_iiii.z).a0) ((L1.getD v6 R_iiii.z).a1) ((L1.getD v6 R_iiii.z).a2) ((L1.getD v6 R_iiii.z).a3) ((v6 : Int))  y3_0 1 2))])) (live := [0, 2]) (tv := fun _ => [some (vs 0 o0 n2 n3), some (vi a4), some (vs 2 0 y3_0.length y3_0.length), some (vi (((v6 + 1) : Nat) : Int))]) (bl := [some (.ro O0), some (.cells (Zb Ze y3_0) 58)]) (ob := [((IntKind.i64.wrap ((v6 : Int) + (1 : Int))) == (((v6 + 1) : Nat) : Int), true), (dP (Zgy #[vs 1 0 v5.length v5.length, Value.agg #[vi (L1.getD v6 R_iiii.z).a0, vi (L1.getD v6 R_iiii.z).a1, vi (L1.getD v6 R_iiii.z).a2, vi (L1.getD v6 R_iiii.z).a3], vi (v6 : Int)] (v5) ((L1.getD v6 R_iiii.z).a0) ((L1.getD v6 R_iiii.z).a1) ((L1.getD v6 R_iiii.z).a2) ((L1.getD v6 R_iiii.z).a3) ((v6 : Int))  y3_0 1 2), true), (dS (Zb Ze v5), true), (Zz (ZC O0 (o0 + (v6 * 4)) 4) [.i (L1.getD v6 R_iiii.z).a0, .i (L1.getD v6 R_iiii.z).a1, .i (L1.getD v6 R_iiii.z).a2, .i (L1.getD v6 R_iiii.z).a3], true), (Nat.blt v6 n2, true), ((v6 : Int) == Int.ofNat v6, true), ((decide ((v6 : Int) < (n2 : Int))), true), ((decide ((v6 : Int) < a4)), true)]) rfl (show 1 ∈ Zx (Zgl 1) from by decide +kernel) (fun gv => by kernel_rfl) (Za (beq_iff_eq.2 ((wrap_i64 ltA).trans (by first | rfl | omega))) <| Za (Zf (ZhU #[vs 1 0 v5.length v5.length, Value.agg #[vi (L1.getD v6 R_iiii.z).a0, vi (L1.getD v6 R_iiii.z).a1, vi (L1.getD v6 R_iiii.z).a2, vi (L1.getD v6 R_iiii.z).a3], vi (v6 : Int)] (v5) ((L1.getD v6 R_iiii.z).a0) ((L1.getD v6 R_iiii.z).a1) ((L1.getD v6 R_iiii.z).a2) ((L1.getD v6 R_iiii.z).a3) ((v6 : Int))  y3_0 N c3 1 2 rfl (by decide) (by decide))) <| oR <| Za ((show (o0 + v6 * 4 + 0) = (o0 + (v6 * 4)) from by omega) ▸ F0 v6 (by omega) 0 4 (show 0 + 4 ≤ 4 from by decide)) <| oB <| oI <| oY <| oY Zd) rfl (by decide) (by rfl) (fun _ => ⟨rr, ⟨rr, ⟨rr, ⟨rr, trivial⟩⟩⟩⟩) ⟨rfl, ⟨(Zg (E := Ze) (α := R_ii) _ y3_0 _), trivial⟩⟩
     ·
      exact Mach.ok_none
    | r2 =>
     refine Mach.ok_ite (fun g4 => ?_) (fun g4 => ?_)
     ·
      exact Mach.ok_next (M := Zbi o0 L1 n2 n3 a4 O0 N) (cd := 1000000) (cm := 0) (y := (.h1m1 ((v5.take (v5.length - 1))) ((v6 + 1)) : Zan)) (fu := 4000) (orc := (Zi [(0, true), (1, true)] [(0, (((v6 + 1) : Nat) : Int))] [(0, v6)] [(0, [.i (L1.getD v6 R_iiii.z).a0, .i (L1.getD v6 R_iiii.z).a1, .i (L1.getD v6 R_iiii.z).a2, .i (L1.getD v6 R_iiii.z).a3])] [(0, (ZhV (v5) ((L1.getD v6 R_iiii.z).a0) ((L1.getD v6 R_iiii.z).a1) ((L1.getD v6 R_iiii.z).a2) ((L1.getD v6 R_iiii.z).a3) ((v6 : Int))   1 2))])) (live := [0, 2]) (tv := fun _ => [some (vs 0 o0 n2 n3), some (vi a4), some (vs 2 0 (v5.take (v5.length - 1)).length (v5.take (v5.length - 1)).length), some (vi (((v6 + 1) : Nat) : Int))]) (bl := [some (.ro O0), some (.cells (Zb Ze (v5.take (v5.length - 1))) 58)]) (ob := [((IntKind.i64.wrap ((v6 : Int) + (1 : Int))) == (((v6 + 1) : Nat) : Int), true), (dP (Zgz #[vs 1 0 v5.length v5.length, Value.agg #[vi (L1.getD v6 R_iiii.z).a0, vi (L1.getD v6 R_iiii.z).a1, vi (L1.getD v6 R_iiii.z).a2, vi (L1.getD v6 R_iiii.z).a3], vi (v6 : Int)] (v5) ((L1.getD v6 R_iiii.z).a0) ((L1.getD v6 R_iiii.z).a1) ((L1.getD v6 R_iiii.z).a2) ((L1.getD v6 R_iiii.z).a3) ((v6 : Int))   1 2), true), (dS (Zb Ze v5), true), (Zz (ZC O0 (o0 + (v6 * 4)) 4) [.i (L1.getD v6 R_iiii.z).a0, .i (L1.getD v6 R_iiii.z).a1, .i (L1.getD v6 R_iiii.z).a2, .i (L1.getD v6 R_iiii.z).a3], true), (Nat.blt v6 n2, true), ((v6 : Int) == Int.ofNat v6, true), ((decide ((v6 : Int) < (n2 : Int))), true), ((decide ((v6 : Int) < a4)), true)]) rfl (show 1 ∈ Zx (Zgl 1) from by decide +kernel) (fun gv => by kernel_rfl) (Za (beq_iff_eq.2 ((wrap_i64 ltA).trans (by first | rfl | omega))) <| Za (Zf (ZhW #[vs 1 0 v5.length v5.length, Value.agg #[vi (L1.getD v6 R_iiii.z).a0, vi (L1.getD v6 R_iiii.z).a1, vi (L1.getD v6 R_iiii.z).a2, vi (L1.getD v6 R_iiii.z).a3], vi (v6 : Int)] (v5) ((L1.getD v6 R_iiii.z).a0) ((L1.getD v6 R_iiii.z).a1) ((L1.getD v6 R_iiii.z).a2) ((L1.getD v6 R_iiii.z).a3) ((v6 : Int))   N c3 1 2 rfl (by decide) (by decide))) <| oR <| Za ((show (o0 + v6 * 4 + 0) = (o0 + (v6 * 4)) from by omega) ▸ F0 v6 (by omega) 0 4 (show 0 + 4 ≤ 4 from by decide)) <| oB <| oI <| oY <| oY Zd) rfl (by decide) (by rfl) (fun _ => ⟨rr, ⟨rr, ⟨rr, ⟨rr, trivial⟩⟩⟩⟩) ⟨rfl, ⟨(Zg (E := Ze) (α := R_ii) _ (v5.take (v5.length - 1)) _), trivial⟩⟩
     ·
      exact Mach.ok_none
   ·
    exact Mach.ok_none
  ·
   exact Mach.ok_fin (M := Zbi o0 L1 n2 n3 a4 O0 N) (cd := 1000000) (cm := 0) (r := (.r1 (v5) : ZaY)) (fu := 4000) (orc := (Zi [(0, true), (1, false)] [] [] [] [])) (live := [0, 1]) (u := vs 1 0 v5.length v5.length) (bl := [some (.ro O0), some (.cells (Zb Ze v5) 58)]) (ob := [((decide ((v6 : Int) < (n2 : Int))), false), ((decide ((v6 : Int) < a4)), true)]) (fun gv => by kernel_rfl) (oN <| oY Zd) rfl (by decide) (by rfl) rr ⟨rfl, ⟨(Zg (E := Ze) (α := R_ii) _ v5 _), trivial⟩⟩
 ·
  exact Mach.ok_fin (M := Zbi o0 L1 n2 n3 a4 O0 N) (cd := 1000000) (cm := 0) (r := (.r1 (v5) : ZaY)) (fu := 4000) (orc := (Zi [(0, false)] [] [] [] [])) (live := [0, 1]) (u := vs 1 0 v5.length v5.length) (bl := [some (.ro O0), some (.cells (Zb Ze v5) 58)]) (ob := [((decide ((v6 : Int) < a4)), false)]) (fun gv => by kernel_rfl) (oN Zd) rfl (by decide) (by rfl) rr ⟨rfl, ⟨(Zg (E := Ze) (α := R_ii) _ v5 _), trivial⟩⟩

theorem Zrd (o0 : Nat) (L1 : List R_iiii) (n2 n3 : Nat) (a4 : Int) (O0 : Obj) (F0 : Zs O0 o0 L1) (N : Nat) : (Zbi o0 L1 n2 n3 a4 O0 N).Enter Try.prog Zr #[vs 0 o0 n2 n3, vi a4] (Zi8 L1 n2 n3 a4 N) := by
 unfold Zi8
 exact Mach.en_head (bK := Ze5 1) (M := Zbi o0 L1 n2 n3 a4 O0 N) (cd := 1000000) (cm := 0) (y := (.h1m0 (0) : Zan)) (fu := 4000) (orc := (Zi [] [] [] [] [])) (live := [0]) (tv := [some (vs 0 o0 n2 n3), some (vi a4), some (vn), some (v0)]) (bl := [some (.ro O0)]) (ob := []) rfl rfl (show Zx (Ze5 1).2 = [] from rfl) (by kernel_rfl) Zd rfl (by decide) (by rfl) ⟨rr, ⟨rr, ⟨rr, ⟨⟨Eq.trans (show (vi ((0 : Nat) : Int) : Value) = v0 from (congrArg (Value.int .i64) (by first | rfl | omega))) (by rfl), by rfl⟩, trivial⟩⟩⟩⟩ ⟨rfl, trivial⟩

theorem ZjD (o0 : Nat) (L1 : List R_iiii) (n2 n3 : Nat) (a4 : Int) (O0 : Obj) (F0 : Zs O0 o0 L1) (N : Nat) (r : ZaY) (h : ZdI L1 n2 n3 a4 N = some r) : LSpec Try.prog 32 #[vs 0 o0 n2 n3, vi a4] [.ro O0] (ZnU o0 L1 n2 n3 a4 O0 r) (Zmw o0 L1 n2 n3 a4 O0 r) :=
 Mach.spec Zao (Zbi o0 L1 n2 n3 a4 O0 N) Try.func32 (by kernel_rfl) (by kernel_rfl) (fun x => by cases x <;> exact ZN _ rfl) (fun r => by cases r <;> exact ZN _ rfl) (fun x => by
  cases x with
  | h1m0 _ => exact fun _ => (show ¬ (1 ∈ Zx (Ze5 1).2) from by decide +kernel)
  | h1m1 _ _ => exact fun _ => (show ¬ (1 ∈ Zx (Ze5 1).2) from by decide +kernel)
  ) (fun x => (show (Zbi o0 L1 n2 n3 a4 O0 N).Ok Try.prog Zr x (Zdp L1 n2 n3 a4 N x) from by
  cases x with
  | h1m0 v5 => exact ZoQ o0 L1 n2 n3 a4 O0 F0 v5 N
  | h1m1 v5 v6 => exact ZoR o0 L1 n2 n3 a4 O0 F0 v5 v6 N
  )) (Zrd o0 L1 n2 n3 a4 O0 F0 N) (n := N) h

noncomputable def ZgY (o0 : Nat) (L1 : List R_iiii) (n2 n3 : Nat) (a4 : Int) (O0 : Obj) (k0 n : Nat) : Zak := .call [(k0, .ro O0)] (vn) [] 0
def ZfH (A : Array Value) (o0 : Nat) (L1 : List R_iiii) (n2 n3 : Nat) (a4 : Int) (O0 : Obj) (k0 n : Nat) : Prop := Zw Try.prog 32 A [(k0, .ro O0)] (vn) [] n 0

theorem ZgZ (A : Array Value) (o0 : Nat) (L1 : List R_iiii) (n2 n3 : Nat) (a4 : Int) (O0 : Obj) (F0 : Zs O0 o0 L1) (N : Nat) (h : ZdI L1 n2 n3 a4 N = some (.r0)) (k0 n : Nat) (hA : A = #[vs k0 o0 n2 n3, vi a4]) (hnd : ([k0] : List Nat).Nodup) (hlt : ∀ k ∈ ([k0] : List Nat), k < n) : ZfH A o0 L1 n2 n3 a4 O0 k0 n :=
 Z0 hA (LSpec.callL (show LSpec Try.prog 32 #[vs 0 o0 n2 n3, vi a4] [.ro O0] (vn) [some (.ro O0)] from ZjD o0 L1 n2 n3 a4 O0 F0 N _ h) [k0] n [] rfl hnd hlt (show 1 ≤ 1 from by decide) (show ∀ j ∈ ([] : List Nat), j < 1 from by decide) (by rfl) ⟨rfl, trivial⟩ (by rfl) ⟨rfl, trivial⟩ ⟨.inr rfl, trivial⟩ rfl rfl rfl (Zc (Zn rfl rfl) rfl) rfl)

noncomputable def Zeb (o0 : Nat) (L1 : List R_iiii) (n2 n3 : Nat) (a4 : Int) (O0 : Obj) (w2 : List R_ii) (k0 n : Nat) : Zak := .call [(k0, .ro O0)] (vs n 0 w2.length w2.length) [(n, some (.cells (Zb Ze w2) 58))] 1
def Zd7 (A : Array Value) (o0 : Nat) (L1 : List R_iiii) (n2 n3 : Nat) (a4 : Int) (O0 : Obj) (w2 : List R_ii) (k0 n : Nat) : Prop := Zw Try.prog 32 A [(k0, .ro O0)] (vs n 0 w2.length w2.length) [(n, some (.cells (Zb Ze w2) 58))] n 1

theorem Zec (A : Array Value) (o0 : Nat) (L1 : List R_iiii) (n2 n3 : Nat) (a4 : Int) (O0 : Obj) (F0 : Zs O0 o0 L1) (w2 : List R_ii) (N : Nat) (h : ZdI L1 n2 n3 a4 N = some (.r1 w2)) (k0 n : Nat) (hA : A = #[vs k0 o0 n2 n3, vi a4]) (hnd : ([k0] : List Nat).Nodup) (hlt : ∀ k ∈ ([k0] : List Nat), k < n) : Zd7 A o0 L1 n2 n3 a4 O0 w2 k0 n :=
 Z0 hA (LSpec.callL (show LSpec Try.prog 32 #[vs 0 o0 n2 n3, vi a4] [.ro O0] (vs 1 0 w2.length w2.length) [some (.ro O0), some (.cells (Zb Ze w2) 58)] from ZjD o0 L1 n2 n3 a4 O0 F0 N _ h) [k0] n [1] rfl hnd hlt (show 1 ≤ 2 from by decide) (show ∀ j ∈ ([1] : List Nat), j < 2 from by decide) (by rfl) ⟨rfl, trivial⟩ (by rfl) ⟨rfl, ⟨(Zp _ _ _), trivial⟩⟩ ⟨.inr rfl, ⟨(by decide), trivial⟩⟩ rfl rfl rfl (Zc (Zn rfl rfl) rfl) (Zc (Zn rfl (Zac (Zy _ _ _))) rfl))

noncomputable def Zmy (o0 : Nat) (L1 : List R_iiii) (n2 n3 : Nat) (a4 : Int) (O0 : Obj) : Zc0 → Value
 | .r0 w2 w3 => Value.agg #[vi w2, vi w3]
noncomputable def Zlo (o0 : Nat) (L1 : List R_iiii) (n2 n3 : Nat) (a4 : Int) (O0 : Obj) : Zc0 → List (Option AObj)
 | .r0 w2 w3 => [some (.ro O0)]

theorem Zq7 (o0 : Nat) (L1 : List R_iiii) (n2 n3 : Nat) (a4 : Int) (O0 : Obj) (F0 : Zs O0 o0 L1) (N : Nat) : Fx Try.prog Zr Try.f29 [.ro O0] #[vs 0 o0 n2 n3, vi a4] (Zmy o0 L1 n2 n3 a4 O0) (Zlo o0 L1 n2 n3 a4 O0) (Zcp L1 n2 n3 a4 N) := by
 unfold Zcp
 refine Za4 (fun z0 c0 => ?_)
 cases z0 with
 | r0 =>
  exact Zk (r := (.r0 ((-1 : Int)) ((0 : Int)) : Zc0)) (fu := 4000) (orc := (Zi [] [] [] [] [(0, (ZgY (o0) (L1) (n2) (n3) (a4) O0  0 2))])) (live := [0]) (u := Value.agg #[vi (-1 : Int), v0]) (bl := [some (.ro O0)]) (ob := [(dP (ZfH #[vs 0 o0 n2 n3, vi a4] (o0) (L1) (n2) (n3) (a4) O0  0 2), true), (dS O0, true)]) (by kernel_rfl) (Za (Zf (ZgZ #[vs 0 o0 n2 n3, vi a4] (o0) (L1) (n2) (n3) (a4) O0 F0  N c0 0 2 rfl (by decide) (by decide))) <| oR Zd) rfl (by decide) (by rfl) rr ⟨rfl, trivial⟩
 | r1 y0_0 =>
  refine Zm (fun g1 => ?_) (fun g1 => ?_)
  ·
   exact Zk (r := (.r0 ((-1 : Int)) ((0 : Int)) : Zc0)) (fu := 4000) (orc := (Zi [(0, true)] [] [] [] [(0, (Zeb (o0) (L1) (n2) (n3) (a4) O0 y0_0 0 2))])) (live := [0]) (u := Value.agg #[vi (-1 : Int), v0]) (bl := [some (.ro O0)]) (ob := [(((y0_0.length : Int) == (0 : Int)), true), (dP (Zd7 #[vs 0 o0 n2 n3, vi a4] (o0) (L1) (n2) (n3) (a4) O0 y0_0 0 2), true), (dS O0, true)]) (by kernel_rfl) (oT <| Za (Zf (Zec #[vs 0 o0 n2 n3, vi a4] (o0) (L1) (n2) (n3) (a4) O0 F0 y0_0 N c0 0 2 rfl (by decide) (by decide))) <| oR Zd) rfl (by decide) (by rfl) rr ⟨rfl, trivial⟩
  ·
   refine Zm (fun g2 => ?_) (fun g2 => ?_)
   ·
    exact Zk (r := (.r0 ((y0_0.getD (y0_0.length - 1) R_ii.z).a0) ((y0_0.getD (y0_0.length - 1) R_ii.z).a1) : Zc0)) (fu := 4000) (orc := (Zi [(0, false)] [(0, (((y0_0.length - 1) : Nat) : Int))] [(0, (y0_0.length - 1))] [(0, [.i (y0_0.getD (y0_0.length - 1) R_ii.z).a0, .i (y0_0.getD (y0_0.length - 1) R_ii.z).a1])] [(0, (Zeb (o0) (L1) (n2) (n3) (a4) O0 y0_0 0 2))])) (live := [0]) (u := Value.agg #[vi (y0_0.getD (y0_0.length - 1) R_ii.z).a0, vi (y0_0.getD (y0_0.length - 1) R_ii.z).a1]) (bl := [some (.ro O0)]) (ob := [(Zz (Z7 2 (List.drop (0 + ((y0_0.length - 1) * 2)) (Zb Ze y0_0))) [.i (y0_0.getD (y0_0.length - 1) R_ii.z).a0, .i (y0_0.getD (y0_0.length - 1) R_ii.z).a1], true), (Nat.blt (y0_0.length - 1) y0_0.length, true), ((((y0_0.length - 1) : Nat) : Int) == Int.ofNat (y0_0.length - 1), true), ((IntKind.i64.wrap ((y0_0.length : Int) - (1 : Int))) == (((y0_0.length - 1) : Nat) : Int), true), (((y0_0.length : Int) == (0 : Int)), false), (dP (Zd7 #[vs 0 o0 n2 n3, vi a4] (o0) (L1) (n2) (n3) (a4) O0 y0_0 0 2), true), (dS O0, true)]) (by kernel_rfl) (Za (Zaq (E := Ze) (L := y0_0) (i := (y0_0.length - 1)) (q := 0) (by omega) (show (0 + ((y0_0.length - 1) * 2)) = (y0_0.length - 1) * 2 + 0 from by omega) (show 0 + 2 ≤ 2 from by decide) rfl rfl) <| oB <| oI <| Za (beq_iff_eq.2 ((wrap_i64 ltA).trans (by first | rfl | omega))) <| oF <| Za (Zf (Zec #[vs 0 o0 n2 n3, vi a4] (o0) (L1) (n2) (n3) (a4) O0 F0 y0_0 N c0 0 2 rfl (by decide) (by decide))) <| oR Zd) rfl (by decide) (by rfl) rr ⟨rfl, trivial⟩
   ·
    exact Za6

theorem ZoS (o0 : Nat) (L1 : List R_iiii) (n2 n3 : Nat) (a4 : Int) (O0 : Obj) (F0 : Zs O0 o0 L1) (N : Nat) (r : Zc0) (h : Zcp L1 n2 n3 a4 N = some r) : LSpec Try.prog 29 #[vs 0 o0 n2 n3, vi a4] [.ro O0] (Zmy o0 L1 n2 n3 a4 O0 r) (Zlo o0 L1 n2 n3 a4 O0 r) :=
 ZaB Zao Try.func29 (by kernel_rfl) (by kernel_rfl) (fun r => by cases r <;> exact ZN _ rfl) (Zq7 o0 L1 n2 n3 a4 O0 F0 N) h

noncomputable def Zey (o0 : Nat) (L1 : List R_iiii) (n2 n3 : Nat) (a4 : Int) (O0 : Obj) (w2 w3 : Int) (k0 n : Nat) : Zak := .call [(k0, .ro O0)] (Value.agg #[vi w2, vi w3]) [] 0
def ZdH (A : Array Value) (o0 : Nat) (L1 : List R_iiii) (n2 n3 : Nat) (a4 : Int) (O0 : Obj) (w2 w3 : Int) (k0 n : Nat) : Prop := Zw Try.prog 29 A [(k0, .ro O0)] (Value.agg #[vi w2, vi w3]) [] n 0

theorem Zez (A : Array Value) (o0 : Nat) (L1 : List R_iiii) (n2 n3 : Nat) (a4 : Int) (O0 : Obj) (F0 : Zs O0 o0 L1) (w2 w3 : Int) (N : Nat) (h : Zcp L1 n2 n3 a4 N = some (.r0 w2 w3)) (k0 n : Nat) (hA : A = #[vs k0 o0 n2 n3, vi a4]) (hnd : ([k0] : List Nat).Nodup) (hlt : ∀ k ∈ ([k0] : List Nat), k < n) : ZdH A o0 L1 n2 n3 a4 O0 w2 w3 k0 n :=
 Z0 hA (LSpec.callL (show LSpec Try.prog 29 #[vs 0 o0 n2 n3, vi a4] [.ro O0] (Value.agg #[vi w2, vi w3]) [some (.ro O0)] from ZoS o0 L1 n2 n3 a4 O0 F0 N _ h) [k0] n [] rfl hnd hlt (show 1 ≤ 1 from by decide) (show ∀ j ∈ ([] : List Nat), j < 1 from by decide) (by rfl) ⟨rfl, trivial⟩ (by rfl) ⟨rfl, trivial⟩ ⟨.inr rfl, trivial⟩ rfl rfl rfl (Zc (Zn rfl rfl) rfl) rfl)

noncomputable def ZnV (o0 : Nat) (L1 : List R_iiii) (n2 n3 : Nat) (O0 : Obj) : ZJ → Value
 | .r0 w2 => vi w2
noncomputable def Zmz (o0 : Nat) (L1 : List R_iiii) (n2 n3 : Nat) (O0 : Obj) : ZJ → List (Option AObj)
 | .r0 w2 => [some (.ro O0)]

def Zsj : ZA → Nat
 | .h1m0 v4 => 1
 | .h1m1 v4 v5 => 1
 | .h2m0 v4 => 2
noncomputable def Ztx (o0 : Nat) (L1 : List R_iiii) (n2 n3 : Nat) (O0 : Obj) : ZA → List (Nat × Value)
 | .h1m0 v4 => [(0, vs 0 o0 n2 n3), (3, vn), (4, vi (v4 : Int))]
 | .h1m1 v4 v5 => [(0, vs 0 o0 n2 n3), (3, vs 1 0 v4.length v4.length), (4, vi (v5 : Int))]
 | .h2m0 v4 => [(0, vs 0 o0 n2 n3), (7, vi (v4 : Int))]
noncomputable def Zty (o0 : Nat) (L1 : List R_iiii) (n2 n3 : Nat) (O0 : Obj) : ZA → List (Option AObj)
 | .h1m0 v4 => [some (.ro O0)]
 | .h1m1 v4 v5 => [some (.ro O0), some (.cells (Zb Ze v4) 58)]
 | .h2m0 v4 => [some (.ro O0)]

noncomputable def ZbV : Nat → Code × List ZaO
 | 1 => Zcm [1, 1, 1, 0, 1, 3] (Zc1 Try.f11) []
 | 2 => Zcm [1, 1, 1, 1, 1, 0, 1, 3] (Zc1 Try.f11) []
 | _ => (.skip, [])
def Zm0 : Nat → Bool
 | 1 => true
 | 2 => true
 | _ => true
noncomputable def Zdx (i : Nat) : List ZaO := match Zm0 i with | true => .rnd i :: (ZbV i).2 | false => (ZbV i).2

noncomputable def ZW (o0 : Nat) (L1 : List R_iiii) (n2 n3 : Nat) (O0 : Obj) (N : Nat) : Mach := ⟨Try.f11, [.ro O0], ZA, ZJ, Zbj L1 n2 n3 N, Zsj, ZbV, Zm0, Ztx o0 L1 n2 n3 O0, Zty o0 L1 n2 n3 O0, ZnV o0 L1 n2 n3 O0, Zmz o0 L1 n2 n3 O0⟩

theorem ZoT (o0 : Nat) (L1 : List R_iiii) (n2 n3 : Nat) (O0 : Obj) (F0 : Zs O0 o0 L1) (v4 N : Nat) : (ZW o0 L1 n2 n3 O0 N).Ok Try.prog Zr (.h1m0 v4 : ZA) (Zbj L1 n2 n3 N (.h1m0 v4 : ZA)) := by
 show (ZW o0 L1 n2 n3 O0 N).Ok Try.prog Zr (.h1m0 v4 : ZA) (Zb7 L1 n2 n3 N v4)
 unfold Zb7
 refine Mach.ok_ite (fun g0 => ?_) (fun g0 => ?_)
 ·
  refine Mach.ok_ite (fun g1 => ?_) (fun g1 => ?_)
  ·
   refine Mach.ok_bind (fun z2 c2 => ?_)
   cases z2 with
   | r0 =>
    refine Mach.ok_bind (fun z3 c3 => ?_)
    cases z3 with
    | r0 y3_0 =>
     refine Mach.ok_ite (fun g4 => ?_) (fun g4 => ?_)
     ·
      exact Mach.ok_fin (M := ZW o0 L1 n2 n3 O0 N) (cd := 1000000) (cm := 0) (r := (.r0 ((v4 : Int)) : ZJ)) (fu := 4000) (orc := (Zi [(0, true), (1, true)] [] [(0, v4), (1, v4)] [(0, [.i (L1.getD v4 R_iiii.z).a0, .i (L1.getD v4 R_iiii.z).a1, .i (L1.getD v4 R_iiii.z).a2, .i (L1.getD v4 R_iiii.z).a3]), (1, [.i (L1.getD v4 R_iiii.z).a0, .i (L1.getD v4 R_iiii.z).a1, .i (L1.getD v4 R_iiii.z).a2, .i (L1.getD v4 R_iiii.z).a3])] [(0, (ZjB ((L1.getD v4 R_iiii.z).a0) ((L1.getD v4 R_iiii.z).a1) ((L1.getD v4 R_iiii.z).a2) ((L1.getD v4 R_iiii.z).a3) ((v4 : Int))    1)), (1, (ZcO ((L1.getD v4 R_iiii.z).a0) ((L1.getD v4 R_iiii.z).a1) ((L1.getD v4 R_iiii.z).a2) ((L1.getD v4 R_iiii.z).a3)  y3_0  2))])) (live := [0]) (u := vi (v4 : Int)) (bl := [some (.ro O0)]) (ob := [((!y3_0), true), (dP (Zc2 #[Value.agg #[vi (L1.getD v4 R_iiii.z).a0, vi (L1.getD v4 R_iiii.z).a1, vi (L1.getD v4 R_iiii.z).a2, vi (L1.getD v4 R_iiii.z).a3]] ((L1.getD v4 R_iiii.z).a0) ((L1.getD v4 R_iiii.z).a1) ((L1.getD v4 R_iiii.z).a2) ((L1.getD v4 R_iiii.z).a3)  y3_0  2), true), (Zz (ZC O0 (o0 + (v4 * 4)) 4) [.i (L1.getD v4 R_iiii.z).a0, .i (L1.getD v4 R_iiii.z).a1, .i (L1.getD v4 R_iiii.z).a2, .i (L1.getD v4 R_iiii.z).a3], true), (Nat.blt v4 n2, true), ((v4 : Int) == Int.ofNat v4, true), (dP (Zhz #[vn, Value.agg #[vi (L1.getD v4 R_iiii.z).a0, vi (L1.getD v4 R_iiii.z).a1, vi (L1.getD v4 R_iiii.z).a2, vi (L1.getD v4 R_iiii.z).a3], vi (v4 : Int)] ((L1.getD v4 R_iiii.z).a0) ((L1.getD v4 R_iiii.z).a1) ((L1.getD v4 R_iiii.z).a2) ((L1.getD v4 R_iiii.z).a3) ((v4 : Int))    1), true), (Zz (ZC O0 (o0 + (v4 * 4)) 4) [.i (L1.getD v4 R_iiii.z).a0, .i (L1.getD v4 R_iiii.z).a1, .i (L1.getD v4 R_iiii.z).a2, .i (L1.getD v4 R_iiii.z).a3], true), (Nat.blt v4 n2, true), ((v4 : Int) == Int.ofNat v4, true), ((decide ((v4 : Int) < (n2 : Int))), true)]) (fun gv => by kernel_rfl) (Za (ZgK (by first | assumption | simp_all)) <| Za (Zf (ZcP #[Value.agg #[vi (L1.getD v4 R_iiii.z).a0, vi (L1.getD v4 R_iiii.z).a1, vi (L1.getD v4 R_iiii.z).a2, vi (L1.getD v4 R_iiii.z).a3]] ((L1.getD v4 R_iiii.z).a0) ((L1.getD v4 R_iiii.z).a1) ((L1.getD v4 R_iiii.z).a2) ((L1.getD v4 R_iiii.z).a3)  y3_0 N c3  2 rfl (by decide) (by decide))) <| Za ((show (o0 + v4 * 4 + 0) = (o0 + (v4 * 4)) from by omega) ▸ F0 v4 (by omega) 0 4 (show 0 + 4 ≤ 4 from by decide)) <| oB <| oI <| Za (Zf (ZjC #[vn, Value.agg #[vi (L1.getD v4 R_iiii.z).a0, vi (L1.getD v4 R_iiii.z).a1, vi (L1.getD v4 R_iiii.z).a2, vi (L1.getD v4 R_iiii.z).a3], vi (v4 : Int)] ((L1.getD v4 R_iiii.z).a0) ((L1.getD v4 R_iiii.z).a1) ((L1.getD v4 R_iiii.z).a2) ((L1.getD v4 R_iiii.z).a3) ((v4 : Int))   N c2  1 rfl (by decide) (by decide))) <| Za ((show (o0 + v4 * 4 + 0) = (o0 + (v4 * 4)) from by omega) ▸ F0 v4 (by omega) 0 4 (show 0 + 4 ≤ 4 from by decide)) <| oB <| oI <| oY Zd) rfl (by decide) (by rfl) rr ⟨rfl, trivial⟩
     ·
      refine Mach.ok_ite (fun g5 => ?_) (fun g5 => ?_)
      ·
       exact Mach.ok_next (M := ZW o0 L1 n2 n3 O0 N) (cd := 1000000) (cm := 0) (y := (.h1m1 (([(⟨(v4 : Int), (0 : Int)⟩ : R_ii)] : List R_ii)) ((v4 + 1)) : ZA)) (fu := 4000) (orc := (Zi [(0, true), (1, false)] [(0, (((v4 + 1) : Nat) : Int))] [(0, v4), (1, v4)] [(0, [.i (L1.getD v4 R_iiii.z).a0, .i (L1.getD v4 R_iiii.z).a1, .i (L1.getD v4 R_iiii.z).a2, .i (L1.getD v4 R_iiii.z).a3]), (1, [.i (L1.getD v4 R_iiii.z).a0, .i (L1.getD v4 R_iiii.z).a1, .i (L1.getD v4 R_iiii.z).a2, .i (L1.getD v4 R_iiii.z).a3])] [(0, (ZjB ((L1.getD v4 R_iiii.z).a0) ((L1.getD v4 R_iiii.z).a1) ((L1.getD v4 R_iiii.z).a2) ((L1.getD v4 R_iiii.z).a3) ((v4 : Int))    1)), (1, (ZcO ((L1.getD v4 R_iiii.z).a0) ((L1.getD v4 R_iiii.z).a1) ((L1.getD v4 R_iiii.z).a2) ((L1.getD v4 R_iiii.z).a3)  y3_0  2))])) (live := [0, 1]) (tv := fun _ => [some (vs 0 o0 n2 n3), some (vs 1 0 1 1), some (vi (((v4 + 1) : Nat) : Int))]) (bl := [some (.ro O0), some (.cells (Zb Ze ([(⟨(v4 : Int), (0 : Int)⟩ : R_ii)] : List R_ii)) 58)]) (ob := [((IntKind.i64.wrap ((v4 : Int) + (1 : Int))) == (((v4 + 1) : Nat) : Int), true), ((!y3_0), false), (dP (Zc2 #[Value.agg #[vi (L1.getD v4 R_iiii.z).a0, vi (L1.getD v4 R_iiii.z).a1, vi (L1.getD v4 R_iiii.z).a2, vi (L1.getD v4 R_iiii.z).a3]] ((L1.getD v4 R_iiii.z).a0) ((L1.getD v4 R_iiii.z).a1) ((L1.getD v4 R_iiii.z).a2) ((L1.getD v4 R_iiii.z).a3)  y3_0  2), true), (Zz (ZC O0 (o0 + (v4 * 4)) 4) [.i (L1.getD v4 R_iiii.z).a0, .i (L1.getD v4 R_iiii.z).a1, .i (L1.getD v4 R_iiii.z).a2, .i (L1.getD v4 R_iiii.z).a3], true), (Nat.blt v4 n2, true), ((v4 : Int) == Int.ofNat v4, true), (dP (Zhz #[vn, Value.agg #[vi (L1.getD v4 R_iiii.z).a0, vi (L1.getD v4 R_iiii.z).a1, vi (L1.getD v4 R_iiii.z).a2, vi (L1.getD v4 R_iiii.z).a3], vi (v4 : Int)] ((L1.getD v4 R_iiii.z).a0) ((L1.getD v4 R_iiii.z).a1) ((L1.getD v4 R_iiii.z).a2) ((L1.getD v4 R_iiii.z).a3) ((v4 : Int))    1), true), (Zz (ZC O0 (o0 + (v4 * 4)) 4) [.i (L1.getD v4 R_iiii.z).a0, .i (L1.getD v4 R_iiii.z).a1, .i (L1.getD v4 R_iiii.z).a2, .i (L1.getD v4 R_iiii.z).a3], true), (Nat.blt v4 n2, true), ((v4 : Int) == Int.ofNat v4, true), ((decide ((v4 : Int) < (n2 : Int))), true)]) rfl (show 1 ∈ Zx (Zdx 1) from by decide +kernel) (fun gv => by kernel_rfl) (Za (beq_iff_eq.2 ((wrap_i64 ltA).trans (by first | rfl | omega))) <| Za (ZfA (by first | assumption | simp_all)) <| Za (Zf (ZcP #[Value.agg #[vi (L1.getD v4 R_iiii.z).a0, vi (L1.getD v4 R_iiii.z).a1, vi (L1.getD v4 R_iiii.z).a2, vi (L1.getD v4 R_iiii.z).a3]] ((L1.getD v4 R_iiii.z).a0) ((L1.getD v4 R_iiii.z).a1) ((L1.getD v4 R_iiii.z).a2) ((L1.getD v4 R_iiii.z).a3)  y3_0 N c3  2 rfl (by decide) (by decide))) <| Za ((show (o0 + v4 * 4 + 0) = (o0 + (v4 * 4)) from by omega) ▸ F0 v4 (by omega) 0 4 (show 0 + 4 ≤ 4 from by decide)) <| oB <| oI <| Za (Zf (ZjC #[vn, Value.agg #[vi (L1.getD v4 R_iiii.z).a0, vi (L1.getD v4 R_iiii.z).a1, vi (L1.getD v4 R_iiii.z).a2, vi (L1.getD v4 R_iiii.z).a3], vi (v4 : Int)] ((L1.getD v4 R_iiii.z).a0) ((L1.getD v4 R_iiii.z).a1) ((L1.getD v4 R_iiii.z).a2) ((L1.getD v4 R_iiii.z).a3) ((v4 : Int))   N c2  1 rfl (by decide) (by decide))) <| Za ((show (o0 + v4 * 4 + 0) = (o0 + (v4 * 4)) from by omega) ▸ F0 v4 (by omega) 0 4 (show 0 + 4 ≤ 4 from by decide)) <| oB <| oI <| oY Zd) rfl (by decide) (by rfl) (fun _ => ⟨rr, ⟨⟨Eq.trans (show (vs 1 0 ([(⟨(v4 : Int), (0 : Int)⟩ : R_ii)] : List R_ii).length ([(⟨(v4 : Int), (0 : Int)⟩ : R_ii)] : List R_ii).length : Value) = vs 1 0 1 1 from (Zad rfl eqA eqA)) (by rfl), by rfl⟩, ⟨rr, trivial⟩⟩⟩) ⟨rfl, ⟨(Zg (E := Ze) (α := R_ii) _ ([(⟨(v4 : Int), (0 : Int)⟩ : R_ii)] : List R_ii) _), trivial⟩⟩
      ·
       exact Mach.ok_none
   | r1 y2_0 =>
    refine Mach.ok_bind (fun z3 c3 => ?_)
    cases z3 with
    | r0 y3_0 =>
     refine Mach.ok_ite (fun g4 => ?_) (fun g4 => ?_)
     ·
      exact Mach.ok_fin (M := ZW o0 L1 n2 n3 O0 N) (cd := 1000000) (cm := 0) (r := (.r0 ((v4 : Int)) : ZJ)) (fu := 4000) (orc := (Zi [(0, true), (1, true)] [] [(0, v4), (1, v4)] [(0, [.i (L1.getD v4 R_iiii.z).a0, .i (L1.getD v4 R_iiii.z).a1, .i (L1.getD v4 R_iiii.z).a2, .i (L1.getD v4 R_iiii.z).a3]), (1, [.i (L1.getD v4 R_iiii.z).a0, .i (L1.getD v4 R_iiii.z).a1, .i (L1.getD v4 R_iiii.z).a2, .i (L1.getD v4 R_iiii.z).a3])] [(0, (Zh0 ((L1.getD v4 R_iiii.z).a0) ((L1.getD v4 R_iiii.z).a1) ((L1.getD v4 R_iiii.z).a2) ((L1.getD v4 R_iiii.z).a3) ((v4 : Int))  y2_0  1)), (1, (ZcO ((L1.getD v4 R_iiii.z).a0) ((L1.getD v4 R_iiii.z).a1) ((L1.getD v4 R_iiii.z).a2) ((L1.getD v4 R_iiii.z).a3)  y3_0  1))])) (live := [0]) (u := vi (v4 : Int)) (bl := [some (.ro O0)]) (ob := [((!y3_0), true), (dP (Zc2 #[Value.agg #[vi (L1.getD v4 R_iiii.z).a0, vi (L1.getD v4 R_iiii.z).a1, vi (L1.getD v4 R_iiii.z).a2, vi (L1.getD v4 R_iiii.z).a3]] ((L1.getD v4 R_iiii.z).a0) ((L1.getD v4 R_iiii.z).a1) ((L1.getD v4 R_iiii.z).a2) ((L1.getD v4 R_iiii.z).a3)  y3_0  1), true), (Zz (ZC O0 (o0 + (v4 * 4)) 4) [.i (L1.getD v4 R_iiii.z).a0, .i (L1.getD v4 R_iiii.z).a1, .i (L1.getD v4 R_iiii.z).a2, .i (L1.getD v4 R_iiii.z).a3], true), (Nat.blt v4 n2, true), ((v4 : Int) == Int.ofNat v4, true), (dP (Zgk #[vn, Value.agg #[vi (L1.getD v4 R_iiii.z).a0, vi (L1.getD v4 R_iiii.z).a1, vi (L1.getD v4 R_iiii.z).a2, vi (L1.getD v4 R_iiii.z).a3], vi (v4 : Int)] ((L1.getD v4 R_iiii.z).a0) ((L1.getD v4 R_iiii.z).a1) ((L1.getD v4 R_iiii.z).a2) ((L1.getD v4 R_iiii.z).a3) ((v4 : Int))  y2_0  1), true), (Zz (ZC O0 (o0 + (v4 * 4)) 4) [.i (L1.getD v4 R_iiii.z).a0, .i (L1.getD v4 R_iiii.z).a1, .i (L1.getD v4 R_iiii.z).a2, .i (L1.getD v4 R_iiii.z).a3], true), (Nat.blt v4 n2, true), ((v4 : Int) == Int.ofNat v4, true), ((decide ((v4 : Int) < (n2 : Int))), true)]) (fun gv => by kernel_rfl) (Za (ZgK (by first | assumption | simp_all)) <| Za (Zf (ZcP #[Value.agg #[vi (L1.getD v4 R_iiii.z).a0, vi (L1.getD v4 R_iiii.z).a1, vi (L1.getD v4 R_iiii.z).a2, vi (L1.getD v4 R_iiii.z).a3]] ((L1.getD v4 R_iiii.z).a0) ((L1.getD v4 R_iiii.z).a1) ((L1.getD v4 R_iiii.z).a2) ((L1.getD v4 R_iiii.z).a3)  y3_0 N c3  1 rfl (by decide) (by decide))) <| Za ((show (o0 + v4 * 4 + 0) = (o0 + (v4 * 4)) from by omega) ▸ F0 v4 (by omega) 0 4 (show 0 + 4 ≤ 4 from by decide)) <| oB <| oI <| Za (Zf (Zh1 #[vn, Value.agg #[vi (L1.getD v4 R_iiii.z).a0, vi (L1.getD v4 R_iiii.z).a1, vi (L1.getD v4 R_iiii.z).a2, vi (L1.getD v4 R_iiii.z).a3], vi (v4 : Int)] ((L1.getD v4 R_iiii.z).a0) ((L1.getD v4 R_iiii.z).a1) ((L1.getD v4 R_iiii.z).a2) ((L1.getD v4 R_iiii.z).a3) ((v4 : Int))  y2_0 N c2  1 rfl (by decide) (by decide))) <| Za ((show (o0 + v4 * 4 + 0) = (o0 + (v4 * 4)) from by omega) ▸ F0 v4 (by omega) 0 4 (show 0 + 4 ≤ 4 from by decide)) <| oB <| oI <| oY Zd) rfl (by decide) (by rfl) rr ⟨rfl, trivial⟩
     ·
      refine Mach.ok_ite (fun g5 => ?_) (fun g5 => ?_)
      ·
       exact Mach.ok_fin (M := ZW o0 L1 n2 n3 O0 N) (cd := 1000000) (cm := 0) (r := (.r0 ((v4 : Int)) : ZJ)) (fu := 4000) (orc := (Zi [(0, true), (1, false), (2, true)] [] [(0, v4), (1, v4)] [(0, [.i (L1.getD v4 R_iiii.z).a0, .i (L1.getD v4 R_iiii.z).a1, .i (L1.getD v4 R_iiii.z).a2, .i (L1.getD v4 R_iiii.z).a3]), (1, [.i (L1.getD v4 R_iiii.z).a0, .i (L1.getD v4 R_iiii.z).a1, .i (L1.getD v4 R_iiii.z).a2, .i (L1.getD v4 R_iiii.z).a3])] [(0, (Zh0 ((L1.getD v4 R_iiii.z).a0) ((L1.getD v4 R_iiii.z).a1) ((L1.getD v4 R_iiii.z).a2) ((L1.getD v4 R_iiii.z).a3) ((v4 : Int))  y2_0  1)), (1, (ZcO ((L1.getD v4 R_iiii.z).a0) ((L1.getD v4 R_iiii.z).a1) ((L1.getD v4 R_iiii.z).a2) ((L1.getD v4 R_iiii.z).a3)  y3_0  1))])) (live := [0]) (u := vi (v4 : Int)) (bl := [some (.ro O0)]) (ob := [((!y2_0), true), ((!y3_0), false), (dP (Zc2 #[Value.agg #[vi (L1.getD v4 R_iiii.z).a0, vi (L1.getD v4 R_iiii.z).a1, vi (L1.getD v4 R_iiii.z).a2, vi (L1.getD v4 R_iiii.z).a3]] ((L1.getD v4 R_iiii.z).a0) ((L1.getD v4 R_iiii.z).a1) ((L1.getD v4 R_iiii.z).a2) ((L1.getD v4 R_iiii.z).a3)  y3_0  1), true), (Zz (ZC O0 (o0 + (v4 * 4)) 4) [.i (L1.getD v4 R_iiii.z).a0, .i (L1.getD v4 R_iiii.z).a1, .i (L1.getD v4 R_iiii.z).a2, .i (L1.getD v4 R_iiii.z).a3], true), (Nat.blt v4 n2, true), ((v4 : Int) == Int.ofNat v4, true), (dP (Zgk #[vn, Value.agg #[vi (L1.getD v4 R_iiii.z).a0, vi (L1.getD v4 R_iiii.z).a1, vi (L1.getD v4 R_iiii.z).a2, vi (L1.getD v4 R_iiii.z).a3], vi (v4 : Int)] ((L1.getD v4 R_iiii.z).a0) ((L1.getD v4 R_iiii.z).a1) ((L1.getD v4 R_iiii.z).a2) ((L1.getD v4 R_iiii.z).a3) ((v4 : Int))  y2_0  1), true), (Zz (ZC O0 (o0 + (v4 * 4)) 4) [.i (L1.getD v4 R_iiii.z).a0, .i (L1.getD v4 R_iiii.z).a1, .i (L1.getD v4 R_iiii.z).a2, .i (L1.getD v4 R_iiii.z).a3], true), (Nat.blt v4 n2, true), ((v4 : Int) == Int.ofNat v4, true), ((decide ((v4 : Int) < (n2 : Int))), true)]) (fun gv => by kernel_rfl) (Za (ZgK (by first | assumption | simp_all)) <| Za (ZfA (by first | assumption | simp_all)) <| Za (Zf (ZcP #[Value.agg #[vi (L1.getD v4 R_iiii.z).a0, vi (L1.getD v4 R_iiii.z).a1, vi (L1.getD v4 R_iiii.z).a2, vi (L1.getD v4 R_iiii.z).a3]] ((L1.getD v4 R_iiii.z).a0) ((L1.getD v4 R_iiii.z).a1) ((L1.getD v4 R_iiii.z).a2) ((L1.getD v4 R_iiii.z).a3)  y3_0 N c3  1 rfl (by decide) (by decide))) <| Za ((show (o0 + v4 * 4 + 0) = (o0 + (v4 * 4)) from by omega) ▸ F0 v4 (by omega) 0 4 (show 0 + 4 ≤ 4 from by decide)) <| oB <| oI <| Za (Zf (Zh1 #[vn, Value.agg #[vi (L1.getD v4 R_iiii.z).a0, vi (L1.getD v4 R_iiii.z).a1, vi (L1.getD v4 R_iiii.z).a2, vi (L1.getD v4 R_iiii.z).a3], vi (v4 : Int)] ((L1.getD v4 R_iiii.z).a0) ((L1.getD v4 R_iiii.z).a1) ((L1.getD v4 R_iiii.z).a2) ((L1.getD v4 R_iiii.z).a3) ((v4 : Int))  y2_0 N c2  1 rfl (by decide) (by decide))) <| Za ((show (o0 + v4 * 4 + 0) = (o0 + (v4 * 4)) from by omega) ▸ F0 v4 (by omega) 0 4 (show 0 + 4 ≤ 4 from by decide)) <| oB <| oI <| oY Zd) rfl (by decide) (by rfl) rr ⟨rfl, trivial⟩
      ·
       refine Mach.ok_ite (fun g6 => ?_) (fun g6 => ?_)
       ·
        exact Mach.ok_next (M := ZW o0 L1 n2 n3 O0 N) (cd := 1000000) (cm := 0) (y := (.h1m0 ((v4 + 1)) : ZA)) (fu := 4000) (orc := (Zi [(0, true), (1, false), (2, false)] [(0, (((v4 + 1) : Nat) : Int))] [(0, v4), (1, v4)] [(0, [.i (L1.getD v4 R_iiii.z).a0, .i (L1.getD v4 R_iiii.z).a1, .i (L1.getD v4 R_iiii.z).a2, .i (L1.getD v4 R_iiii.z).a3]), (1, [.i (L1.getD v4 R_iiii.z).a0, .i (L1.getD v4 R_iiii.z).a1, .i (L1.getD v4 R_iiii.z).a2, .i (L1.getD v4 R_iiii.z).a3])] [(0, (Zh0 ((L1.getD v4 R_iiii.z).a0) ((L1.getD v4 R_iiii.z).a1) ((L1.getD v4 R_iiii.z).a2) ((L1.getD v4 R_iiii.z).a3) ((v4 : Int))  y2_0  1)), (1, (ZcO ((L1.getD v4 R_iiii.z).a0) ((L1.getD v4 R_iiii.z).a1) ((L1.getD v4 R_iiii.z).a2) ((L1.getD v4 R_iiii.z).a3)  y3_0  1))])) (live := [0]) (tv := fun _ => [some (vs 0 o0 n2 n3), some (vn), some (vi (((v4 + 1) : Nat) : Int))]) (bl := [some (.ro O0)]) (ob := [((IntKind.i64.wrap ((v4 : Int) + (1 : Int))) == (((v4 + 1) : Nat) : Int), true), ((!y2_0), false), ((!y3_0), false), (dP (Zc2 #[Value.agg #[vi (L1.getD v4 R_iiii.z).a0, vi (L1.getD v4 R_iiii.z).a1, vi (L1.getD v4 R_iiii.z).a2, vi (L1.getD v4 R_iiii.z).a3]] ((L1.getD v4 R_iiii.z).a0) ((L1.getD v4 R_iiii.z).a1) ((L1.getD v4 R_iiii.z).a2) ((L1.getD v4 R_iiii.z).a3)  y3_0  1), true), (Zz (ZC O0 (o0 + (v4 * 4)) 4) [.i (L1.getD v4 R_iiii.z).a0, .i (L1.getD v4 R_iiii.z).a1, .i (L1.getD v4 R_iiii.z).a2, .i (L1.getD v4 R_iiii.z).a3], true), (Nat.blt v4 n2, true), ((v4 : Int) == Int.ofNat v4, true), (dP (Zgk #[vn, Value.agg #[vi (L1.getD v4 R_iiii.z).a0, vi (L1.getD v4 R_iiii.z).a1, vi (L1.getD v4 R_iiii.z).a2, vi (L1.getD v4 R_iiii.z).a3], vi (v4 : Int)] ((L1.getD v4 R_iiii.z).a0) ((L1.getD v4 R_iiii.z).a1) ((L1.getD v4 R_iiii.z).a2) ((L1.getD v4 R_iiii.z).a3) ((v4 : Int))  y2_0  1), true), (Zz (ZC O0 (o0 + (v4 * 4)) 4) [.i (L1.getD v4 R_iiii.z).a0, .i (L1.getD v4 R_iiii.z).a1, .i (L1.getD v4 R_iiii.z).a2, .i (L1.getD v4 R_iiii.z).a3], true), (Nat.blt v4 n2, true), ((v4 : Int) == Int.ofNat v4, true), ((decide ((v4 : Int) < (n2 : Int))), true)]) rfl (show 1 ∈ Zx (Zdx 1) from by decide +kernel) (fun gv => by kernel_rfl) (Za (beq_iff_eq.2 ((wrap_i64 ltA).trans (by first | rfl | omega))) <| Za (ZfA (by first | assumption | simp_all)) <| Za (ZfA (by first | assumption | simp_all)) <| Za (Zf (ZcP #[Value.agg #[vi (L1.getD v4 R_iiii.z).a0, vi (L1.getD v4 R_iiii.z).a1, vi (L1.getD v4 R_iiii.z).a2, vi (L1.getD v4 R_iiii.z).a3]] ((L1.getD v4 R_iiii.z).a0) ((L1.getD v4 R_iiii.z).a1) ((L1.getD v4 R_iiii.z).a2) ((L1.getD v4 R_iiii.z).a3)  y3_0 N c3  1 rfl (by decide) (by decide))) <| Za ((show (o0 + v4 * 4 + 0) = (o0 + (v4 * 4)) from by omega) ▸ F0 v4 (by omega) 0 4 (show 0 + 4 ≤ 4 from by decide)) <| oB <| oI <| Za (Zf (Zh1 #[vn, Value.agg #[vi (L1.getD v4 R_iiii.z).a0, vi (L1.getD v4 R_iiii.z).a1, vi (L1.getD v4 R_iiii.z).a2, vi (L1.getD v4 R_iiii.z).a3], vi (v4 : Int)] ((L1.getD v4 R_iiii.z).a0) ((L1.getD v4 R_iiii.z).a1) ((L1.getD v4 R_iiii.z).a2) ((L1.getD v4 R_iiii.z).a3) ((v4 : Int))  y2_0 N c2  1 rfl (by decide) (by decide))) <| Za ((show (o0 + v4 * 4 + 0) = (o0 + (v4 * 4)) from by omega) ▸ F0 v4 (by omega) 0 4 (show 0 + 4 ≤ 4 from by decide)) <| oB <| oI <| oY Zd) rfl (by decide) (by rfl) (fun _ => ⟨rr, ⟨rr, ⟨rr, trivial⟩⟩⟩) ⟨rfl, trivial⟩
       ·
        exact Mach.ok_none
  ·
   exact Mach.ok_none
 ·
  exact Mach.ok_head (bK := ZbV 2) (M := ZW o0 L1 n2 n3 O0 N) (cd := 1000000) (cm := 0) (y := (.h2m0 (0) : ZA)) (fu := 4000) (orc := (Zi [(0, false)] [] [] [] [])) (live := [0]) (tv := fun _ => [some (vs 0 o0 n2 n3), some (v0)]) (bl := [some (.ro O0)]) (ob := [((decide ((v4 : Int) < (n2 : Int))), false)]) rfl rfl (show ∀ j ∈ Zx (ZbV 2).2, j ∈ Zx (Zdx 1) from by decide +kernel) (fun gv => by kernel_rfl) (oN Zd) rfl (by decide) (by rfl) (fun _ => ⟨rr, ⟨⟨Eq.trans (show (vi ((0 : Nat) : Int) : Value) = v0 from (congrArg (Value.int .i64) (by first | rfl | omega))) (by rfl), by rfl⟩, trivial⟩⟩) ⟨rfl, trivial⟩

theorem ZoU (o0 : Nat) (L1 : List R_iiii) (n2 n3 : Nat) (O0 : Obj) (F0 : Zs O0 o0 L1) (v4 : List R_ii) (v5 N : Nat) : (ZW o0 L1 n2 n3 O0 N).Ok Try.prog Zr (.h1m1 v4 v5 : ZA) (Zbj L1 n2 n3 N (.h1m1 v4 v5 : ZA)) := by
 show (ZW o0 L1 n2 n3 O0 N).Ok Try.prog Zr (.h1m1 v4 v5 : ZA) (ZbQ L1 n2 n3 N v4 v5)
 unfold ZbQ
 refine Mach.ok_ite (fun g0 => ?_) (fun g0 => ?_)
 ·
  refine Mach.ok_ite (fun g1 => ?_) (fun g1 => ?_)
  ·
   refine Mach.ok_bind (fun z2 c2 => ?_)
   cases z2 with
   | r0 y2_0 =>
    refine Mach.ok_bind (fun z3 c3 => ?_)
    cases z3 with
    | r0 y3_0 =>
     refine Mach.ok_ite (fun g4 => ?_) (fun g4 => ?_)
     ·
      exact Mach.ok_fin (M := ZW o0 L1 n2 n3 O0 N) (cd := 1000000) (cm := 0) (r := (.r0 ((v5 : Int)) : ZJ)) (fu := 4000) (orc := (Zi [(0, true), (1, true)] [] [(0, v5), (1, v5)] [(0, [.i (L1.getD v5 R_iiii.z).a0, .i (L1.getD v5 R_iiii.z).a1, .i (L1.getD v5 R_iiii.z).a2, .i (L1.getD v5 R_iiii.z).a3]), (1, [.i (L1.getD v5 R_iiii.z).a0, .i (L1.getD v5 R_iiii.z).a1, .i (L1.getD v5 R_iiii.z).a2, .i (L1.getD v5 R_iiii.z).a3])] [(0, (Zgw (v4) ((L1.getD v5 R_iiii.z).a0) ((L1.getD v5 R_iiii.z).a1) ((L1.getD v5 R_iiii.z).a2) ((L1.getD v5 R_iiii.z).a3) ((v5 : Int))  y2_0 1 2)), (1, (ZcO ((L1.getD v5 R_iiii.z).a0) ((L1.getD v5 R_iiii.z).a1) ((L1.getD v5 R_iiii.z).a2) ((L1.getD v5 R_iiii.z).a3)  y3_0  2))])) (live := [0]) (u := vi (v5 : Int)) (bl := [some (.ro O0)]) (ob := [((!y3_0), true), (dP (Zc2 #[Value.agg #[vi (L1.getD v5 R_iiii.z).a0, vi (L1.getD v5 R_iiii.z).a1, vi (L1.getD v5 R_iiii.z).a2, vi (L1.getD v5 R_iiii.z).a3]] ((L1.getD v5 R_iiii.z).a0) ((L1.getD v5 R_iiii.z).a1) ((L1.getD v5 R_iiii.z).a2) ((L1.getD v5 R_iiii.z).a3)  y3_0  2), true), (Zz (ZC O0 (o0 + (v5 * 4)) 4) [.i (L1.getD v5 R_iiii.z).a0, .i (L1.getD v5 R_iiii.z).a1, .i (L1.getD v5 R_iiii.z).a2, .i (L1.getD v5 R_iiii.z).a3], true), (Nat.blt v5 n2, true), ((v5 : Int) == Int.ofNat v5, true), (dP (Zfq #[vs 1 0 v4.length v4.length, Value.agg #[vi (L1.getD v5 R_iiii.z).a0, vi (L1.getD v5 R_iiii.z).a1, vi (L1.getD v5 R_iiii.z).a2, vi (L1.getD v5 R_iiii.z).a3], vi (v5 : Int)] (v4) ((L1.getD v5 R_iiii.z).a0) ((L1.getD v5 R_iiii.z).a1) ((L1.getD v5 R_iiii.z).a2) ((L1.getD v5 R_iiii.z).a3) ((v5 : Int))  y2_0 1 2), true), (dS (Zb Ze v4), true), (Zz (ZC O0 (o0 + (v5 * 4)) 4) [.i (L1.getD v5 R_iiii.z).a0, .i (L1.getD v5 R_iiii.z).a1, .i (L1.getD v5 R_iiii.z).a2, .i (L1.getD v5 R_iiii.z).a3], true), (Nat.blt v5 n2, true), ((v5 : Int) == Int.ofNat v5, true), ((decide ((v5 : Int) < (n2 : Int))), true)]) (fun gv => by kernel_rfl) (Za (ZgK (by first | assumption | simp_all)) <| Za (Zf (ZcP #[Value.agg #[vi (L1.getD v5 R_iiii.z).a0, vi (L1.getD v5 R_iiii.z).a1, vi (L1.getD v5 R_iiii.z).a2, vi (L1.getD v5 R_iiii.z).a3]] ((L1.getD v5 R_iiii.z).a0) ((L1.getD v5 R_iiii.z).a1) ((L1.getD v5 R_iiii.z).a2) ((L1.getD v5 R_iiii.z).a3)  y3_0 N c3  2 rfl (by decide) (by decide))) <| Za ((show (o0 + v5 * 4 + 0) = (o0 + (v5 * 4)) from by omega) ▸ F0 v5 (by omega) 0 4 (show 0 + 4 ≤ 4 from by decide)) <| oB <| oI <| Za (Zf (Zgx #[vs 1 0 v4.length v4.length, Value.agg #[vi (L1.getD v5 R_iiii.z).a0, vi (L1.getD v5 R_iiii.z).a1, vi (L1.getD v5 R_iiii.z).a2, vi (L1.getD v5 R_iiii.z).a3], vi (v5 : Int)] (v4) ((L1.getD v5 R_iiii.z).a0) ((L1.getD v5 R_iiii.z).a1) ((L1.getD v5 R_iiii.z).a2) ((L1.getD v5 R_iiii.z).a3) ((v5 : Int))  y2_0 N c2 1 2 rfl (by decide) (by decide))) <| oR <| Za ((show (o0 + v5 * 4 + 0) = (o0 + (v5 * 4)) from by omega) ▸ F0 v5 (by omega) 0 4 (show 0 + 4 ≤ 4 from by decide)) <| oB <| oI <| oY Zd) rfl (by decide) (by rfl) rr ⟨rfl, trivial⟩
     ·
      refine Mach.ok_ite (fun g5 => ?_) (fun g5 => ?_)
      ·
       exact Mach.ok_fin (M := ZW o0 L1 n2 n3 O0 N) (cd := 1000000) (cm := 0) (r := (.r0 ((v5 : Int)) : ZJ)) (fu := 4000) (orc := (Zi [(0, true), (1, false), (2, true)] [] [(0, v5), (1, v5)] [(0, [.i (L1.getD v5 R_iiii.z).a0, .i (L1.getD v5 R_iiii.z).a1, .i (L1.getD v5 R_iiii.z).a2, .i (L1.getD v5 R_iiii.z).a3]), (1, [.i (L1.getD v5 R_iiii.z).a0, .i (L1.getD v5 R_iiii.z).a1, .i (L1.getD v5 R_iiii.z).a2, .i (L1.getD v5 R_iiii.z).a3])] [(0, (Zgw (v4) ((L1.getD v5 R_iiii.z).a0) ((L1.getD v5 R_iiii.z).a1) ((L1.getD v5 R_iiii.z).a2) ((L1.getD v5 R_iiii.z).a3) ((v5 : Int))  y2_0 1 2)), (1, (ZcO ((L1.getD v5 R_iiii.z).a0) ((L1.getD v5 R_iiii.z).a1) ((L1.getD v5 R_iiii.z).a2) ((L1.getD v5 R_iiii.z).a3)  y3_0  2))])) (live := [0]) (u := vi (v5 : Int)) (bl := [some (.ro O0)]) (ob := [((!y2_0), true), ((!y3_0), false), (dP (Zc2 #[Value.agg #[vi (L1.getD v5 R_iiii.z).a0, vi (L1.getD v5 R_iiii.z).a1, vi (L1.getD v5 R_iiii.z).a2, vi (L1.getD v5 R_iiii.z).a3]] ((L1.getD v5 R_iiii.z).a0) ((L1.getD v5 R_iiii.z).a1) ((L1.getD v5 R_iiii.z).a2) ((L1.getD v5 R_iiii.z).a3)  y3_0  2), true), (Zz (ZC O0 (o0 + (v5 * 4)) 4) [.i (L1.getD v5 R_iiii.z).a0, .i (L1.getD v5 R_iiii.z).a1, .i (L1.getD v5 R_iiii.z).a2, .i (L1.getD v5 R_iiii.z).a3], true), (Nat.blt v5 n2, true), ((v5 : Int) == Int.ofNat v5, true), (dP (Zfq #[vs 1 0 v4.length v4.length, Value.agg #[vi (L1.getD v5 R_iiii.z).a0, vi (L1.getD v5 R_iiii.z).a1, vi (L1.getD v5 R_iiii.z).a2, vi (L1.getD v5 R_iiii.z).a3], vi (v5 : Int)] (v4) ((L1.getD v5 R_iiii.z).a0) ((L1.getD v5 R_iiii.z).a1) ((L1.getD v5 R_iiii.z).a2) ((L1.getD v5 R_iiii.z).a3) ((v5 : Int))  y2_0 1 2), true), (dS (Zb Ze v4), true), (Zz (ZC O0 (o0 + (v5 * 4)) 4) [.i (L1.getD v5 R_iiii.z).a0, .i (L1.getD v5 R_iiii.z).a1, .i (L1.getD v5 R_iiii.z).a2, .i (L1.getD v5 R_iiii.z).a3], true), (Nat.blt v5 n2, true), ((v5 : Int) == Int.ofNat v5, true), ((decide ((v5 : Int) < (n2 : Int))), true)]) (fun gv => by kernel_rfl) (Za (ZgK (by first | assumption | simp_all)) <| Za (ZfA (by first | assumption | simp_all)) <| Za (Zf (ZcP #[Value.agg #[vi (L1.getD v5 R_iiii.z).a0, vi (L1.getD v5 R_iiii.z).a1, vi (L1.getD v5 R_iiii.z).a2, vi (L1.getD v5 R_iiii.z).a3]] ((L1.getD v5 R_iiii.z).a0) ((L1.getD v5 R_iiii.z).a1) ((L1.getD v5 R_iiii.z).a2) ((L1.getD v5 R_iiii.z).a3)  y3_0 N c3  2 rfl (by decide) (by decide))) <| Za ((show (o0 + v5 * 4 + 0) = (o0 + (v5 * 4)) from by omega) ▸ F0 v5 (by omega) 0 4 (show 0 + 4 ≤ 4 from by decide)) <| oB <| oI <| Za (Zf (Zgx #[vs 1 0 v4.length v4.length, Value.agg #[vi (L1.getD v5 R_iiii.z).a0, vi (L1.getD v5 R_iiii.z).a1, vi (L1.getD v5 R_iiii.z).a2, vi (L1.getD v5 R_iiii.z).a3], vi (v5 : Int)] (v4) ((L1.getD v5 R_iiii.z).a0) ((L1.getD v5 R_iiii.z).a1) ((L1.getD v5 R_iiii.z).a2) ((L1.getD v5 R_iiii.z).a3) ((v5 : Int))  y2_0 N c2 1 2 rfl (by decide) (by decide))) <| oR <| Za ((show (o0 + v5 * 4 + 0) = (o0 + (v5 * 4)) from by omega) ▸ F0 v5 (by omega) 0 4 (show 0 + 4 ≤ 4 from by decide)) <| oB <| oI <| oY Zd) rfl (by decide) (by rfl) rr ⟨rfl, trivial⟩
      ·
       refine Mach.ok_ite (fun g6 => ?_) (fun g6 => ?_)
       ·
        exact Mach.ok_next (M := ZW o0 L1 n2 n3 O0 N) (cd := 1000000) (cm := 0) (y := (.h1m1 (v4) ((v5 + 1)) : ZA)) (fu := 4000) (orc := (Zi [(0, true), (1, false), (2, false)] [(0, (((v5 + 1) : Nat) : Int))] [(0, v5), (1, v5)] [(0, [.i (L1.getD v5 R_iiii.z).a0, .i (L1.getD v5 R_iiii.z).a1, .i (L1.getD v5 R_iiii.z).a2, .i (L1.getD v5 R_iiii.z).a3]), (1, [.i (L1.getD v5 R_iiii.z).a0, .i (L1.getD v5 R_iiii.z).a1, .i (L1.getD v5 R_iiii.z).a2, .i (L1.getD v5 R_iiii.z).a3])] [(0, (Zgw (v4) ((L1.getD v5 R_iiii.z).a0) ((L1.getD v5 R_iiii.z).a1) ((L1.getD v5 R_iiii.z).a2) ((L1.getD v5 R_iiii.z).a3) ((v5 : Int))  y2_0 1 2)), (1, (ZcO ((L1.getD v5 R_iiii.z).a0) ((L1.getD v5 R_iiii.z).a1) ((L1.getD v5 R_iiii.z).a2) ((L1.getD v5 R_iiii.z).a3)  y3_0  2))])) (live := [0, 1]) (tv := fun _ => [some (vs 0 o0 n2 n3), some (vs 1 0 v4.length v4.length), some (vi (((v5 + 1) : Nat) : Int))]) (bl := [some (.ro O0), some (.cells (Zb Ze v4) 58)]) (ob := [((IntKind.i64.wrap ((v5 : Int) + (1 : Int))) == (((v5 + 1) : Nat) : Int), true), ((!y2_0), false), ((!y3_0), false), (dP (Zc2 #[Value.agg #[vi (L1.getD v5 R_iiii.z).a0, vi (L1.getD v5 R_iiii.z).a1, vi (L1.getD v5 R_iiii.z).a2, vi (L1.getD v5 R_iiii.z).a3]] ((L1.getD v5 R_iiii.z).a0) ((L1.getD v5 R_iiii.z).a1) ((L1.getD v5 R_iiii.z).a2) ((L1.getD v5 R_iiii.z).a3)  y3_0  2), true), (Zz (ZC O0 (o0 + (v5 * 4)) 4) [.i (L1.getD v5 R_iiii.z).a0, .i (L1.getD v5 R_iiii.z).a1, .i (L1.getD v5 R_iiii.z).a2, .i (L1.getD v5 R_iiii.z).a3], true), (Nat.blt v5 n2, true), ((v5 : Int) == Int.ofNat v5, true), (dP (Zfq #[vs 1 0 v4.length v4.length, Value.agg #[vi (L1.getD v5 R_iiii.z).a0, vi (L1.getD v5 R_iiii.z).a1, vi (L1.getD v5 R_iiii.z).a2, vi (L1.getD v5 R_iiii.z).a3], vi (v5 : Int)] (v4) ((L1.getD v5 R_iiii.z).a0) ((L1.getD v5 R_iiii.z).a1) ((L1.getD v5 R_iiii.z).a2) ((L1.getD v5 R_iiii.z).a3) ((v5 : Int))  y2_0 1 2), true), (dS (Zb Ze v4), true), (Zz (ZC O0 (o0 + (v5 * 4)) 4) [.i (L1.getD v5 R_iiii.z).a0, .i (L1.getD v5 R_iiii.z).a1, .i (L1.getD v5 R_iiii.z).a2, .i (L1.getD v5 R_iiii.z).a3], true), (Nat.blt v5 n2, true), ((v5 : Int) == Int.ofNat v5, true), ((decide ((v5 : Int) < (n2 : Int))), true)]) rfl (show 1 ∈ Zx (Zdx 1) from by decide +kernel) (fun gv => by kernel_rfl) (Za (beq_iff_eq.2 ((wrap_i64 ltA).trans (by first | rfl | omega))) <| Za (ZfA (by first | assumption | simp_all)) <| Za (ZfA (by first | assumption | simp_all)) <| Za (Zf (ZcP #[Value.agg #[vi (L1.getD v5 R_iiii.z).a0, vi (L1.getD v5 R_iiii.z).a1, vi (L1.getD v5 R_iiii.z).a2, vi (L1.getD v5 R_iiii.z).a3]] ((L1.getD v5 R_iiii.z).a0) ((L1.getD v5 R_iiii.z).a1) ((L1.getD v5 R_iiii.z).a2) ((L1.getD v5 R_iiii.z).a3)  y3_0 N c3  2 rfl (by decide) (by decide))) <| Za ((show (o0 + v5 * 4 + 0) = (o0 + (v5 * 4)) from by omega) ▸ F0 v5 (by omega) 0 4 (show 0 + 4 ≤ 4 from by decide)) <| oB <| oI <| Za (Zf (Zgx #[vs 1 0 v4.length v4.length, Value.agg #[vi (L1.getD v5 R_iiii.z).a0, vi (L1.getD v5 R_iiii.z).a1, vi (L1.getD v5 R_iiii.z).a2, vi (L1.getD v5 R_iiii.z).a3], vi (v5 : Int)] (v4) ((L1.getD v5 R_iiii.z).a0) ((L1.getD v5 R_iiii.z).a1) ((L1.getD v5 R_iiii.z).a2) ((L1.getD v5 R_iiii.z).a3) ((v5 : Int))  y2_0 N c2 1 2 rfl (by decide) (by decide))) <| oR <| Za ((show (o0 + v5 * 4 + 0) = (o0 + (v5 * 4)) from by omega) ▸ F0 v5 (by omega) 0 4 (show 0 + 4 ≤ 4 from by decide)) <| oB <| oI <| oY Zd) rfl (by decide) (by rfl) (fun _ => ⟨rr, ⟨rr, ⟨rr, trivial⟩⟩⟩) ⟨rfl, ⟨(Zg (E := Ze) (α := R_ii) _ v4 _), trivial⟩⟩
       ·
        exact Mach.ok_none
   | r1 y2_0 =>
    refine Mach.ok_bind (fun z3 c3 => ?_)
    cases z3 with
    | r0 y3_0 =>
     refine Mach.ok_ite (fun g4 => ?_) (fun g4 => ?_)
     ·
      exact Mach.ok_fin (M := ZW o0 L1 n2 n3 O0 N) (cd := 1000000) (cm := 0) (r := (.r0 ((v5 : Int)) : ZJ)) (fu := 4000) (orc := (Zi [(0, true), (1, true)] [] [(0, v5), (1, v5)] [(0, [.i (L1.getD v5 R_iiii.z).a0, .i (L1.getD v5 R_iiii.z).a1, .i (L1.getD v5 R_iiii.z).a2, .i (L1.getD v5 R_iiii.z).a3]), (1, [.i (L1.getD v5 R_iiii.z).a0, .i (L1.getD v5 R_iiii.z).a1, .i (L1.getD v5 R_iiii.z).a2, .i (L1.getD v5 R_iiii.z).a3])] [(0, (ZhT (v4) ((L1.getD v5 R_iiii.z).a0) ((L1.getD v5 R_iiii.z).a1) ((L1.getD v5 R_iiii.z).a2) ((L1.getD v5 R_iiii.z).a3) ((v5 : Int))  y2_0 1 2)), (1, (ZcO ((L1.getD v5 R_iiii.z).a0) ((L1.getD v5 R_iiii.z).a1) ((L1.getD v5 R_iiii.z).a2) ((L1.getD v5 R_iiii.z).a3)  y3_0  3))])) (live := [0]) (u := vi (v5 : Int)) (bl := [some (.ro O0)]) (ob := [((!y3_0), true), (dP (Zc2 #[Value.agg #[vi (L1.getD v5 R_iiii.z).a0, vi (L1.getD v5 R_iiii.z).a1, vi (L1.getD v5 R_iiii.z).a2, vi (L1.getD v5 R_iiii.z).a3]] ((L1.getD v5 R_iiii.z).a0) ((L1.getD v5 R_iiii.z).a1) ((L1.getD v5 R_iiii.z).a2) ((L1.getD v5 R_iiii.z).a3)  y3_0  3), true), (Zz (ZC O0 (o0 + (v5 * 4)) 4) [.i (L1.getD v5 R_iiii.z).a0, .i (L1.getD v5 R_iiii.z).a1, .i (L1.getD v5 R_iiii.z).a2, .i (L1.getD v5 R_iiii.z).a3], true), (Nat.blt v5 n2, true), ((v5 : Int) == Int.ofNat v5, true), (dP (Zgy #[vs 1 0 v4.length v4.length, Value.agg #[vi (L1.getD v5 R_iiii.z).a0, vi (L1.getD v5 R_iiii.z).a1, vi (L1.getD v5 R_iiii.z).a2, vi (L1.getD v5 R_iiii.z).a3], vi (v5 : Int)] (v4) ((L1.getD v5 R_iiii.z).a0) ((L1.getD v5 R_iiii.z).a1) ((L1.getD v5 R_iiii.z).a2) ((L1.getD v5 R_iiii.z).a3) ((v5 : Int))  y2_0 1 2), true), (dS (Zb Ze v4), true), (Zz (ZC O0 (o0 + (v5 * 4)) 4) [.i (L1.getD v5 R_iiii.z).a0, .i (L1.getD v5 R_iiii.z).a1, .i (L1.getD v5 R_iiii.z).a2, .i (L1.getD v5 R_iiii.z).a3], true), (Nat.blt v5 n2, true), ((v5 : Int) == Int.ofNat v5, true), ((decide ((v5 : Int) < (n2 : Int))), true)]) (fun gv => by kernel_rfl) (Za (ZgK (by first | assumption | simp_all)) <| Za (Zf (ZcP #[Value.agg #[vi (L1.getD v5 R_iiii.z).a0, vi (L1.getD v5 R_iiii.z).a1, vi (L1.getD v5 R_iiii.z).a2, vi (L1.getD v5 R_iiii.z).a3]] ((L1.getD v5 R_iiii.z).a0) ((L1.getD v5 R_iiii.z).a1) ((L1.getD v5 R_iiii.z).a2) ((L1.getD v5 R_iiii.z).a3)  y3_0 N c3  3 rfl (by decide) (by decide))) <| Za ((show (o0 + v5 * 4 + 0) = (o0 + (v5 * 4)) from by omega) ▸ F0 v5 (by omega) 0 4 (show 0 + 4 ≤ 4 from by decide)) <| oB <| oI <| Za (Zf (ZhU #[vs 1 0 v4.length v4.length, Value.agg #[vi (L1.getD v5 R_iiii.z).a0, vi (L1.getD v5 R_iiii.z).a1, vi (L1.getD v5 R_iiii.z).a2, vi (L1.getD v5 R_iiii.z).a3], vi (v5 : Int)] (v4) ((L1.getD v5 R_iiii.z).a0) ((L1.getD v5 R_iiii.z).a1) ((L1.getD v5 R_iiii.z).a2) ((L1.getD v5 R_iiii.z).a3) ((v5 : Int))  y2_0 N c2 1 2 rfl (by decide) (by decide))) <| oR <| Za ((show (o0 + v5 * 4 + 0) = (o0 + (v5 * 4)) from by omega) ▸ F0 v5 (by omega) 0 4 (show 0 + 4 ≤ 4 from by decide)) <| oB <| oI <| oY Zd) rfl (by decide) (by rfl) rr ⟨rfl, trivial⟩
     ·
      refine Mach.ok_ite (fun g5 => ?_) (fun g5 => ?_)
      ·
       exact Mach.ok_next (M := ZW o0 L1 n2 n3 O0 N) (cd := 1000000) (cm := 0) (y := (.h1m1 (y2_0) ((v5 + 1)) : ZA)) (fu := 4000) (orc := (Zi [(0, true), (1, false)] [(0, (((v5 + 1) : Nat) : Int))] [(0, v5), (1, v5)] [(0, [.i (L1.getD v5 R_iiii.z).a0, .i (L1.getD v5 R_iiii.z).a1, .i (L1.getD v5 R_iiii.z).a2, .i (L1.getD v5 R_iiii.z).a3]), (1, [.i (L1.getD v5 R_iiii.z).a0, .i (L1.getD v5 R_iiii.z).a1, .i (L1.getD v5 R_iiii.z).a2, .i (L1.getD v5 R_iiii.z).a3])] [(0, (ZhT (v4) ((L1.getD v5 R_iiii.z).a0) ((L1.getD v5 R_iiii.z).a1) ((L1.getD v5 R_iiii.z).a2) ((L1.getD v5 R_iiii.z).a3) ((v5 : Int))  y2_0 1 2)), (1, (ZcO ((L1.getD v5 R_iiii.z).a0) ((L1.getD v5 R_iiii.z).a1) ((L1.getD v5 R_iiii.z).a2) ((L1.getD v5 R_iiii.z).a3)  y3_0  3))])) (live := [0, 2]) (tv := fun _ => [some (vs 0 o0 n2 n3), some (vs 2 0 y2_0.length y2_0.length), some (vi (((v5 + 1) : Nat) : Int))]) (bl := [some (.ro O0), some (.cells (Zb Ze y2_0) 58)]) (ob := [((IntKind.i64.wrap ((v5 : Int) + (1 : Int))) == (((v5 + 1) : Nat) : Int), true), ((!y3_0), false), (dP (Zc2 #[Value.agg #[vi (L1.getD v5 R_iiii.z).a0, vi (L1.getD v5 R_iiii.z).a1, vi (L1.getD v5 R_iiii.z).a2, vi (L1.getD v5 R_iiii.z).a3]] ((L1.getD v5 R_iiii.z).a0) ((L1.getD v5 R_iiii.z).a1) ((L1.getD v5 R_iiii.z).a2) ((L1.getD v5 R_iiii.z).a3)  y3_0  3), true), (Zz (ZC O0 (o0 + (v5 * 4)) 4) [.i (L1.getD v5 R_iiii.z).a0, .i (L1.getD v5 R_iiii.z).a1, .i (L1.getD v5 R_iiii.z).a2, .i (L1.getD v5 R_iiii.z).a3], true), (Nat.blt v5 n2, true), ((v5 : Int) == Int.ofNat v5, true), (dP (Zgy #[vs 1 0 v4.length v4.length, Value.agg #[vi (L1.getD v5 R_iiii.z).a0, vi (L1.getD v5 R_iiii.z).a1, vi (L1.getD v5 R_iiii.z).a2, vi (L1.getD v5 R_iiii.z).a3], vi (v5 : Int)] (v4) ((L1.getD v5 R_iiii.z).a0) ((L1.getD v5 R_iiii.z).a1) ((L1.getD v5 R_iiii.z).a2) ((L1.getD v5 R_iiii.z).a3) ((v5 : Int))  y2_0 1 2), true), (dS (Zb Ze v4), true), (Zz (ZC O0 (o0 + (v5 * 4)) 4) [.i (L1.getD v5 R_iiii.z).a0, .i (L1.getD v5 R_iiii.z).a1, .i (L1.getD v5 R_iiii.z).a2, .i (L1.getD v5 R_iiii.z).a3], true), (Nat.blt v5 n2, true), ((v5 : Int) == Int.ofNat v5, true), ((decide ((v5 : Int) < (n2 : Int))), true)]) rfl (show 1 ∈ Zx (Zdx 1) from by decide +kernel) (fun gv => by kernel_rfl) (Za (beq_iff_eq.2 ((wrap_i64 ltA).trans (by first | rfl | omega))) <| Za (ZfA (by first | assumption | simp_all)) <| Za (Zf (ZcP #[Value.agg #[vi (L1.getD v5 R_iiii.z).a0, vi (L1.getD v5 R_iiii.z).a1, vi (L1.getD v5 R_iiii.z).a2, vi (L1.getD v5 R_iiii.z).a3]] ((L1.getD v5 R_iiii.z).a0) ((L1.getD v5 R_iiii.z).a1) ((L1.getD v5 R_iiii.z).a2) ((L1.getD v5 R_iiii.z).a3)  y3_0 N c3  3 rfl (by decide) (by decide))) <| Za ((show (o0 + v5 * 4 + 0) = (o0 + (v5 * 4)) from by omega) ▸ F0 v5 (by omega) 0 4 (show 0 + 4 ≤ 4 from by decide)) <| oB <| oI <| Za (Zf (ZhU #[vs 1 0 v4.length v4.length, Value.agg #[vi (L1.getD v5 R_iiii.z).a0, vi (L1.getD v5 R_iiii.z).a1, vi (L1.getD v5 R_iiii.z).a2, vi (L1.getD v5 R_iiii.z).a3], vi (v5 : Int)] (v4) ((L1.getD v5 R_iiii.z).a0) ((L1.getD v5 R_iiii.z).a1) ((L1.getD v5 R_iiii.z).a2) ((L1.getD v5 R_iiii.z).a3) ((v5 : Int))  y2_0 N c2 1 2 rfl (by decide) (by decide))) <| oR <| Za ((show (o0 + v5 * 4 + 0) = (o0 + (v5 * 4)) from by omega) ▸ F0 v5 (by omega) 0 4 (show 0 + 4 ≤ 4 from by decide)) <| oB <| oI <| oY Zd) rfl (by decide) (by rfl) (fun _ => ⟨rr, ⟨rr, ⟨rr, trivial⟩⟩⟩) ⟨rfl, ⟨(Zg (E := Ze) (α := R_ii) _ y2_0 _), trivial⟩⟩
      ·
       exact Mach.ok_none
   | r2 =>
    refine Mach.ok_bind (fun z3 c3 => ?_)
    cases z3 with
    | r0 y3_0 =>
     refine Mach.ok_ite (fun g4 => ?_) (fun g4 => ?_)
     ·
      exact Mach.ok_fin (M := ZW o0 L1 n2 n3 O0 N) (cd := 1000000) (cm := 0) (r := (.r0 ((v5 : Int)) : ZJ)) (fu := 4000) (orc := (Zi [(0, true), (1, true)] [] [(0, v5), (1, v5)] [(0, [.i (L1.getD v5 R_iiii.z).a0, .i (L1.getD v5 R_iiii.z).a1, .i (L1.getD v5 R_iiii.z).a2, .i (L1.getD v5 R_iiii.z).a3]), (1, [.i (L1.getD v5 R_iiii.z).a0, .i (L1.getD v5 R_iiii.z).a1, .i (L1.getD v5 R_iiii.z).a2, .i (L1.getD v5 R_iiii.z).a3])] [(0, (ZhV (v4) ((L1.getD v5 R_iiii.z).a0) ((L1.getD v5 R_iiii.z).a1) ((L1.getD v5 R_iiii.z).a2) ((L1.getD v5 R_iiii.z).a3) ((v5 : Int))   1 2)), (1, (ZcO ((L1.getD v5 R_iiii.z).a0) ((L1.getD v5 R_iiii.z).a1) ((L1.getD v5 R_iiii.z).a2) ((L1.getD v5 R_iiii.z).a3)  y3_0  3))])) (live := [0]) (u := vi (v5 : Int)) (bl := [some (.ro O0)]) (ob := [((!y3_0), true), (dP (Zc2 #[Value.agg #[vi (L1.getD v5 R_iiii.z).a0, vi (L1.getD v5 R_iiii.z).a1, vi (L1.getD v5 R_iiii.z).a2, vi (L1.getD v5 R_iiii.z).a3]] ((L1.getD v5 R_iiii.z).a0) ((L1.getD v5 R_iiii.z).a1) ((L1.getD v5 R_iiii.z).a2) ((L1.getD v5 R_iiii.z).a3)  y3_0  3), true), (Zz (ZC O0 (o0 + (v5 * 4)) 4) [.i (L1.getD v5 R_iiii.z).a0, .i (L1.getD v5 R_iiii.z).a1, .i (L1.getD v5 R_iiii.z).a2, .i (L1.getD v5 R_iiii.z).a3], true), (Nat.blt v5 n2, true), ((v5 : Int) == Int.ofNat v5, true), (dP (Zgz #[vs 1 0 v4.length v4.length, Value.agg #[vi (L1.getD v5 R_iiii.z).a0, vi (L1.getD v5 R_iiii.z).a1, vi (L1.getD v5 R_iiii.z).a2, vi (L1.getD v5 R_iiii.z).a3], vi (v5 : Int)] (v4) ((L1.getD v5 R_iiii.z).a0) ((L1.getD v5 R_iiii.z).a1) ((L1.getD v5 R_iiii.z).a2) ((L1.getD v5 R_iiii.z).a3) ((v5 : Int))   1 2), true), (dS (Zb Ze v4), true), (Zz (ZC O0 (o0 + (v5 * 4)) 4) [.i (L1.getD v5 R_iiii.z).a0, .i (L1.getD v5 R_iiii.z).a1, .i (L1.getD v5 R_iiii.z).a2, .i (L1.getD v5 R_iiii.z).a3], true), (Nat.blt v5 n2, true), ((v5 : Int) == Int.ofNat v5, true), ((decide ((v5 : Int) < (n2 : Int))), true)]) (fun gv => by kernel_rfl) (Za (ZgK (by first | assumption | simp_all)) <| Za (Zf (ZcP #[Value.agg #[vi (L1.getD v5 R_iiii.z).a0, vi (L1.getD v5 R_iiii.z).a1, vi (L1.getD v5 R_iiii.z).a2, vi (L1.getD v5 R_iiii.z).a3]] ((L1.getD v5 R_iiii.z).a0) ((L1.getD v5 R_iiii.z).a1) ((L1.getD v5 R_iiii.z).a2) ((L1.getD v5 R_iiii.z).a3)  y3_0 N c3  3 rfl (by decide) (by decide))) <| Za ((show (o0 + v5 * 4 + 0) = (o0 + (v5 * 4)) from by omega) ▸ F0 v5 (by omega) 0 4 (show 0 + 4 ≤ 4 from by decide)) <| oB <| oI <| Za (Zf (ZhW #[vs 1 0 v4.length v4.length, Value.agg #[vi (L1.getD v5 R_iiii.z).a0, vi (L1.getD v5 R_iiii.z).a1, vi (L1.getD v5 R_iiii.z).a2, vi (L1.getD v5 R_iiii.z).a3], vi (v5 : Int)] (v4) ((L1.getD v5 R_iiii.z).a0) ((L1.getD v5 R_iiii.z).a1) ((L1.getD v5 R_iiii.z).a2) ((L1.getD v5 R_iiii.z).a3) ((v5 : Int))   N c2 1 2 rfl (by decide) (by decide))) <| oR <| Za ((show (o0 + v5 * 4 + 0) = (o0 + (v5 * 4)) from by omega) ▸ F0 v5 (by omega) 0 4 (show 0 + 4 ≤ 4 from by decide)) <| oB <| oI <| oY Zd) rfl (by decide) (by rfl) rr ⟨rfl, trivial⟩
     ·
      refine Mach.ok_ite (fun g5 => ?_) (fun g5 => ?_)
      ·
       exact Mach.ok_next (M := ZW o0 L1 n2 n3 O0 N) (cd := 1000000) (cm := 0) (y := (.h1m1 ((v4.take (v4.length - 1))) ((v5 + 1)) : ZA)) (fu := 4000) (orc := (Zi [(0, true), (1, false)] [(0, (((v5 + 1) : Nat) : Int))] [(0, v5), (1, v5)] [(0, [.i (L1.getD v5 R_iiii.z).a0, .i (L1.getD v5 R_iiii.z).a1, .i (L1.getD v5 R_iiii.z).a2, .i (L1.getD v5 R_iiii.z).a3]), (1, [.i (L1.getD v5 R_iiii.z).a0, .i (L1.getD v5 R_iiii.z).a1, .i (L1.getD v5 R_iiii.z).a2, .i (L1.getD v5 R_iiii.z).a3])] [(0, (ZhV (v4) ((L1.getD v5 R_iiii.z).a0) ((L1.getD v5 R_iiii.z).a1) ((L1.getD v5 R_iiii.z).a2) ((L1.getD v5 R_iiii.z).a3) ((v5 : Int))   1 2)), (1, (ZcO ((L1.getD v5 R_iiii.z).a0) ((L1.getD v5 R_iiii.z).a1) ((L1.getD v5 R_iiii.z).a2) ((L1.getD v5 R_iiii.z).a3)  y3_0  3))])) (live := [0, 2]) (tv := fun _ => [some (vs 0 o0 n2 n3), some (vs 2 0 (v4.take (v4.length - 1)).length (v4.take (v4.length - 1)).length), some (vi (((v5 + 1) : Nat) : Int))]) (bl := [some (.ro O0), some (.cells (Zb Ze (v4.take (v4.length - 1))) 58)]) (ob := [((IntKind.i64.wrap ((v5 : Int) + (1 : Int))) == (((v5 + 1) : Nat) : Int), true), ((!y3_0), false), (dP (Zc2 #[Value.agg #[vi (L1.getD v5 R_iiii.z).a0, vi (L1.getD v5 R_iiii.z).a1, vi (L1.getD v5 R_iiii.z).a2, vi (L1.getD v5 R_iiii.z).a3]] ((L1.getD v5 R_iiii.z).a0) ((L1.getD v5 R_iiii.z).a1) ((L1.getD v5 R_iiii.z).a2) ((L1.getD v5 R_iiii.z).a3)  y3_0  3), true), (Zz (ZC O0 (o0 + (v5 * 4)) 4) [.i (L1.getD v5 R_iiii.z).a0, .i (L1.getD v5 R_iiii.z).a1, .i (L1.getD v5 R_iiii.z).a2, .i (L1.getD v5 R_iiii.z).a3], true), (Nat.blt v5 n2, true), ((v5 : Int) == Int.ofNat v5, true), (dP (Zgz #[vs 1 0 v4.length v4.length, Value.agg #[vi (L1.getD v5 R_iiii.z).a0, vi (L1.getD v5 R_iiii.z).a1, vi (L1.getD v5 R_iiii.z).a2, vi (L1.getD v5 R_iiii.z).a3], vi (v5 : Int)] (v4) ((L1.getD v5 R_iiii.z).a0) ((L1.getD v5 R_iiii.z).a1) ((L1.getD v5 R_iiii.z).a2) ((L1.getD v5 R_iiii.z).a3) ((v5 : Int))   1 2), true), (dS (Zb Ze v4), true), (Zz (ZC O0 (o0 + (v5 * 4)) 4) [.i (L1.getD v5 R_iiii.z).a0, .i (L1.getD v5 R_iiii.z).a1, .i (L1.getD v5 R_iiii.z).a2, .i (L1.getD v5 R_iiii.z).a3], true), (Nat.blt v5 n2, true), ((v5 : Int) == Int.ofNat v5, true), ((decide ((v5 : Int) < (n2 : Int))), true)]) rfl (show 1 ∈ Zx (Zdx 1) from by decide +kernel) (fun gv => by kernel_rfl) (Za (beq_iff_eq.2 ((wrap_i64 ltA).trans (by first | rfl | omega))) <| Za (ZfA (by first | assumption | simp_all)) <| Za (Zf (ZcP #[Value.agg #[vi (L1.getD v5 R_iiii.z).a0, vi (L1.getD v5 R_iiii.z).a1, vi (L1.getD v5 R_iiii.z).a2, vi (L1.getD v5 R_iiii.z).a3]] ((L1.getD v5 R_iiii.z).a0) ((L1.getD v5 R_iiii.z).a1) ((L1.getD v5 R_iiii.z).a2) ((L1.getD v5 R_iiii.z).a3)  y3_0 N c3  3 rfl (by decide) (by decide))) <| Za ((show (o0 + v5 * 4 + 0) = (o0 + (v5 * 4)) from by omega) ▸ F0 v5 (by omega) 0 4 (show 0 + 4 ≤ 4 from by decide)) <| oB <| oI <| Za (Zf (ZhW #[vs 1 0 v4.length v4.length, Value.agg #[vi (L1.getD v5 R_iiii.z).a0, vi (L1.getD v5 R_iiii.z).a1, vi (L1.getD v5 R_iiii.z).a2, vi (L1.getD v5 R_iiii.z).a3], vi (v5 : Int)] (v4) ((L1.getD v5 R_iiii.z).a0) ((L1.getD v5 R_iiii.z).a1) ((L1.getD v5 R_iiii.z).a2) ((L1.getD v5 R_iiii.z).a3) ((v5 : Int))   N c2 1 2 rfl (by decide) (by decide))) <| oR <| Za ((show (o0 + v5 * 4 + 0) = (o0 + (v5 * 4)) from by omega) ▸ F0 v5 (by omega) 0 4 (show 0 + 4 ≤ 4 from by decide)) <| oB <| oI <| oY Zd) rfl (by decide) (by rfl) (fun _ => ⟨rr, ⟨rr, ⟨rr, trivial⟩⟩⟩) ⟨rfl, ⟨(Zg (E := Ze) (α := R_ii) _ (v4.take (v4.length - 1)) _), trivial⟩⟩
      ·
       exact Mach.ok_none
  ·
   exact Mach.ok_none
 ·
  refine Mach.ok_ite (fun g1 => ?_) (fun g1 => ?_)
  ·
   exact Mach.ok_fin (M := ZW o0 L1 n2 n3 O0 N) (cd := 1000000) (cm := 0) (r := (.r0 ((n2 : Int)) : ZJ)) (fu := 4000) (orc := (Zi [(0, false), (1, true)] [] [] [] [])) (live := [0]) (u := vi (n2 : Int)) (bl := [some (.ro O0)]) (ob := [((decide ((v4.length : Int) > (0 : Int))), true), ((decide ((v5 : Int) < (n2 : Int))), false)]) (fun gv => by kernel_rfl) (oY <| oN Zd) rfl (by decide) (by rfl) rr ⟨rfl, trivial⟩
  ·
   exact Mach.ok_head (bK := ZbV 2) (M := ZW o0 L1 n2 n3 O0 N) (cd := 1000000) (cm := 0) (y := (.h2m0 (0) : ZA)) (fu := 4000) (orc := (Zi [(0, false), (1, false)] [] [] [] [])) (live := [0]) (tv := fun _ => [some (vs 0 o0 n2 n3), some (v0)]) (bl := [some (.ro O0)]) (ob := [((decide ((v4.length : Int) > (0 : Int))), false), ((decide ((v5 : Int) < (n2 : Int))), false)]) rfl rfl (show ∀ j ∈ Zx (ZbV 2).2, j ∈ Zx (Zdx 1) from by decide +kernel) (fun gv => by kernel_rfl) (oN <| oN Zd) rfl (by decide) (by rfl) (fun _ => ⟨rr, ⟨⟨Eq.trans (show (vi ((0 : Nat) : Int) : Value) = v0 from (congrArg (Value.int .i64) (by first | rfl | omega))) (by rfl), by rfl⟩, trivial⟩⟩) ⟨rfl, trivial⟩

theorem ZoV (o0 : Nat) (L1 : List R_iiii) (n2 n3 : Nat) (O0 : Obj) (F0 : Zs O0 o0 L1) (v4 N : Nat) : (ZW o0 L1 n2 n3 O0 N).Ok Try.prog Zr (.h2m0 v4 : ZA) (Zbj L1 n2 n3 N (.h2m0 v4 : ZA)) := by
 show (ZW o0 L1 n2 n3 O0 N).Ok Try.prog Zr (.h2m0 v4 : ZA) (ZbR L1 n2 n3 N v4)
 unfold ZbR
 refine Mach.ok_ite (fun g0 => ?_) (fun g0 => ?_)
 ·
  refine Mach.ok_ite (fun g1 => ?_) (fun g1 => ?_)
  ·
   refine Mach.ok_bind (fun z2 c2 => ?_)
   cases z2 with
   | r0 y2_0 y2_1 =>
    refine Mach.ok_ite (fun g3 => ?_) (fun g3 => ?_)
    ·
     subst g3
     refine Mach.ok_ite (fun g4 => ?_) (fun g4 => ?_)
     ·
      exact Mach.ok_fin (M := ZW o0 L1 n2 n3 O0 N) (cd := 1000000) (cm := 0) (r := (.r0 ((v4 : Int)) : ZJ)) (fu := 4000) (orc := (Zi [(0, true), (1, true)] [] [(0, v4)] [(0, [.i (L1.getD v4 R_iiii.z).a0, .i (L1.getD v4 R_iiii.z).a1, .i (L1.getD v4 R_iiii.z).a2, .i (L1.getD v4 R_iiii.z).a3])] [(0, (Zg0 ((L1.getD v4 R_iiii.z).a0) ((L1.getD v4 R_iiii.z).a1) ((L1.getD v4 R_iiii.z).a2) ((L1.getD v4 R_iiii.z).a3)  y2_0 true  1))])) (live := [0]) (u := vi (v4 : Int)) (bl := [some (.ro O0)]) (ob := [((decide (y2_0 > (n2 : Int))), true), (dP (Zfr #[Value.agg #[vi (L1.getD v4 R_iiii.z).a0, vi (L1.getD v4 R_iiii.z).a1, vi (L1.getD v4 R_iiii.z).a2, vi (L1.getD v4 R_iiii.z).a3]] ((L1.getD v4 R_iiii.z).a0) ((L1.getD v4 R_iiii.z).a1) ((L1.getD v4 R_iiii.z).a2) ((L1.getD v4 R_iiii.z).a3)  y2_0 true  1), true), (Zz (ZC O0 (o0 + (v4 * 4)) 4) [.i (L1.getD v4 R_iiii.z).a0, .i (L1.getD v4 R_iiii.z).a1, .i (L1.getD v4 R_iiii.z).a2, .i (L1.getD v4 R_iiii.z).a3], true), (Nat.blt v4 n2, true), ((v4 : Int) == Int.ofNat v4, true), ((decide ((v4 : Int) < (n2 : Int))), true)]) (fun gv => by kernel_rfl) (oY <| Za (Zf (Zg1 #[Value.agg #[vi (L1.getD v4 R_iiii.z).a0, vi (L1.getD v4 R_iiii.z).a1, vi (L1.getD v4 R_iiii.z).a2, vi (L1.getD v4 R_iiii.z).a3]] ((L1.getD v4 R_iiii.z).a0) ((L1.getD v4 R_iiii.z).a1) ((L1.getD v4 R_iiii.z).a2) ((L1.getD v4 R_iiii.z).a3)  y2_0 true N c2  1 rfl (by decide) (by decide))) <| Za ((show (o0 + v4 * 4 + 0) = (o0 + (v4 * 4)) from by omega) ▸ F0 v4 (by omega) 0 4 (show 0 + 4 ≤ 4 from by decide)) <| oB <| oI <| oY Zd) rfl (by decide) (by rfl) rr ⟨rfl, trivial⟩
     ·
      refine Mach.ok_bind (fun z5 c5 => ?_)
      cases z5 with
      | r0 y5_0 y5_1 =>
       refine Mach.ok_bind (fun z6 c6 => ?_)
       cases z6 with
       | r0 y6_0 y6_1 =>
        refine Mach.ok_ite (fun g7 => ?_) (fun g7 => ?_)
        ·
         exact Mach.ok_fin (M := ZW o0 L1 n2 n3 O0 N) (cd := 1000000) (cm := 0) (r := (.r0 ((v4 : Int)) : ZJ)) (fu := 4000) (orc := (Zi [(0, true), (1, false), (2, true)] [] [(0, v4)] [(0, [.i (L1.getD v4 R_iiii.z).a0, .i (L1.getD v4 R_iiii.z).a1, .i (L1.getD v4 R_iiii.z).a2, .i (L1.getD v4 R_iiii.z).a3])] [(0, (Zg0 ((L1.getD v4 R_iiii.z).a0) ((L1.getD v4 R_iiii.z).a1) ((L1.getD v4 R_iiii.z).a2) ((L1.getD v4 R_iiii.z).a3)  y2_0 true  1)), (1, (Zey (o0) (L1) (n2) (n3) (y2_0) O0 y5_0 y5_1 0 1)), (2, (Zey (o0) (L1) (n2) (n3) ((v4 : Int)) O0 y6_0 y6_1 0 1))])) (live := [0]) (u := vi (v4 : Int)) (bl := [some (.ro O0)]) (ob := [((!((y5_0 == y6_0) && ((y5_1 == y6_1) && true))), true), (dP (ZdH #[vs 0 o0 n2 n3, vi (v4 : Int)] (o0) (L1) (n2) (n3) ((v4 : Int)) O0 y6_0 y6_1 0 1), true), (dS O0, true), (dP (ZdH #[vs 0 o0 n2 n3, vi y2_0] (o0) (L1) (n2) (n3) (y2_0) O0 y5_0 y5_1 0 1), true), (dS O0, true), ((decide (y2_0 > (n2 : Int))), false), (dP (Zfr #[Value.agg #[vi (L1.getD v4 R_iiii.z).a0, vi (L1.getD v4 R_iiii.z).a1, vi (L1.getD v4 R_iiii.z).a2, vi (L1.getD v4 R_iiii.z).a3]] ((L1.getD v4 R_iiii.z).a0) ((L1.getD v4 R_iiii.z).a1) ((L1.getD v4 R_iiii.z).a2) ((L1.getD v4 R_iiii.z).a3)  y2_0 true  1), true), (Zz (ZC O0 (o0 + (v4 * 4)) 4) [.i (L1.getD v4 R_iiii.z).a0, .i (L1.getD v4 R_iiii.z).a1, .i (L1.getD v4 R_iiii.z).a2, .i (L1.getD v4 R_iiii.z).a3], true), (Nat.blt v4 n2, true), ((v4 : Int) == Int.ofNat v4, true), ((decide ((v4 : Int) < (n2 : Int))), true)]) (fun gv => by kernel_rfl) (Za (by rw [Bool.not_eq_true']; exact Bool.eq_false_iff.2 (by simp only [ne_eq, Bool.and_true, Bool.and_eq_true, beq_iff_eq]; first | omega | (intro hh; simp_all; done))) <| Za (Zf (Zez #[vs 0 o0 n2 n3, vi (v4 : Int)] (o0) (L1) (n2) (n3) ((v4 : Int)) O0 F0 y6_0 y6_1 N c6 0 1 rfl (by decide) (by decide))) <| oR <| Za (Zf (Zez #[vs 0 o0 n2 n3, vi y2_0] (o0) (L1) (n2) (n3) (y2_0) O0 F0 y5_0 y5_1 N c5 0 1 rfl (by decide) (by decide))) <| oR <| oN <| Za (Zf (Zg1 #[Value.agg #[vi (L1.getD v4 R_iiii.z).a0, vi (L1.getD v4 R_iiii.z).a1, vi (L1.getD v4 R_iiii.z).a2, vi (L1.getD v4 R_iiii.z).a3]] ((L1.getD v4 R_iiii.z).a0) ((L1.getD v4 R_iiii.z).a1) ((L1.getD v4 R_iiii.z).a2) ((L1.getD v4 R_iiii.z).a3)  y2_0 true N c2  1 rfl (by decide) (by decide))) <| Za ((show (o0 + v4 * 4 + 0) = (o0 + (v4 * 4)) from by omega) ▸ F0 v4 (by omega) 0 4 (show 0 + 4 ≤ 4 from by decide)) <| oB <| oI <| oY Zd) rfl (by decide) (by rfl) rr ⟨rfl, trivial⟩
        ·
         refine Mach.ok_ite (fun g8 => ?_) (fun g8 => ?_)
         ·
          exact Mach.ok_next (M := ZW o0 L1 n2 n3 O0 N) (cd := 1000000) (cm := 0) (y := (.h2m0 ((v4 + 1)) : ZA)) (fu := 4000) (orc := (Zi [(0, true), (1, false), (2, false)] [(0, (((v4 + 1) : Nat) : Int))] [(0, v4)] [(0, [.i (L1.getD v4 R_iiii.z).a0, .i (L1.getD v4 R_iiii.z).a1, .i (L1.getD v4 R_iiii.z).a2, .i (L1.getD v4 R_iiii.z).a3])] [(0, (Zg0 ((L1.getD v4 R_iiii.z).a0) ((L1.getD v4 R_iiii.z).a1) ((L1.getD v4 R_iiii.z).a2) ((L1.getD v4 R_iiii.z).a3)  y2_0 true  1)), (1, (Zey (o0) (L1) (n2) (n3) (y2_0) O0 y5_0 y5_1 0 1)), (2, (Zey (o0) (L1) (n2) (n3) ((v4 : Int)) O0 y6_0 y6_1 0 1))])) (live := [0]) (tv := fun _ => [some (vs 0 o0 n2 n3), some (vi (((v4 + 1) : Nat) : Int))]) (bl := [some (.ro O0)]) (ob := [((IntKind.i64.wrap ((v4 : Int) + (1 : Int))) == (((v4 + 1) : Nat) : Int), true), ((!((y5_0 == y6_0) && ((y5_1 == y6_1) && true))), false), (dP (ZdH #[vs 0 o0 n2 n3, vi (v4 : Int)] (o0) (L1) (n2) (n3) ((v4 : Int)) O0 y6_0 y6_1 0 1), true), (dS O0, true), (dP (ZdH #[vs 0 o0 n2 n3, vi y2_0] (o0) (L1) (n2) (n3) (y2_0) O0 y5_0 y5_1 0 1), true), (dS O0, true), ((decide (y2_0 > (n2 : Int))), false), (dP (Zfr #[Value.agg #[vi (L1.getD v4 R_iiii.z).a0, vi (L1.getD v4 R_iiii.z).a1, vi (L1.getD v4 R_iiii.z).a2, vi (L1.getD v4 R_iiii.z).a3]] ((L1.getD v4 R_iiii.z).a0) ((L1.getD v4 R_iiii.z).a1) ((L1.getD v4 R_iiii.z).a2) ((L1.getD v4 R_iiii.z).a3)  y2_0 true  1), true), (Zz (ZC O0 (o0 + (v4 * 4)) 4) [.i (L1.getD v4 R_iiii.z).a0, .i (L1.getD v4 R_iiii.z).a1, .i (L1.getD v4 R_iiii.z).a2, .i (L1.getD v4 R_iiii.z).a3], true), (Nat.blt v4 n2, true), ((v4 : Int) == Int.ofNat v4, true), ((decide ((v4 : Int) < (n2 : Int))), true)]) rfl (show 2 ∈ Zx (Zdx 2) from by decide +kernel) (fun gv => by kernel_rfl) (Za (beq_iff_eq.2 ((wrap_i64 ltA).trans (by first | rfl | omega))) <| Za (by rw [Bool.not_eq_false']; first | (simp only [beq_self_eq_true, Bool.and_self]; done) | (simp only [Bool.and_true, Bool.and_eq_true, beq_iff_eq] <;> first | omega | (simp_all; done))) <| Za (Zf (Zez #[vs 0 o0 n2 n3, vi (v4 : Int)] (o0) (L1) (n2) (n3) ((v4 : Int)) O0 F0 y6_0 y6_1 N c6 0 1 rfl (by decide) (by decide))) <| oR <| Za (Zf (Zez #[vs 0 o0 n2 n3, vi y2_0] (o0) (L1) (n2) (n3) (y2_0) O0 F0 y5_0 y5_1 N c5 0 1 rfl (by decide) (by decide))) <| oR <| oN <| Za (Zf (Zg1 #[Value.agg #[vi (L1.getD v4 R_iiii.z).a0, vi (L1.getD v4 R_iiii.z).a1, vi (L1.getD v4 R_iiii.z).a2, vi (L1.getD v4 R_iiii.z).a3]] ((L1.getD v4 R_iiii.z).a0) ((L1.getD v4 R_iiii.z).a1) ((L1.getD v4 R_iiii.z).a2) ((L1.getD v4 R_iiii.z).a3)  y2_0 true N c2  1 rfl (by decide) (by decide))) <| Za ((show (o0 + v4 * 4 + 0) = (o0 + (v4 * 4)) from by omega) ▸ F0 v4 (by omega) 0 4 (show 0 + 4 ≤ 4 from by decide)) <| oB <| oI <| oY Zd) rfl (by decide) (by rfl) (fun _ => ⟨rr, ⟨rr, trivial⟩⟩) ⟨rfl, trivial⟩
         ·
          exact Mach.ok_none
    ·
     obtain rfl : y2_1 = false := by simpa using g3
     refine Mach.ok_ite (fun g4 => ?_) (fun g4 => ?_)
     ·
      exact Mach.ok_next (M := ZW o0 L1 n2 n3 O0 N) (cd := 1000000) (cm := 0) (y := (.h2m0 ((v4 + 1)) : ZA)) (fu := 4000) (orc := (Zi [(0, true)] [(0, (((v4 + 1) : Nat) : Int))] [(0, v4)] [(0, [.i (L1.getD v4 R_iiii.z).a0, .i (L1.getD v4 R_iiii.z).a1, .i (L1.getD v4 R_iiii.z).a2, .i (L1.getD v4 R_iiii.z).a3])] [(0, (Zg0 ((L1.getD v4 R_iiii.z).a0) ((L1.getD v4 R_iiii.z).a1) ((L1.getD v4 R_iiii.z).a2) ((L1.getD v4 R_iiii.z).a3)  y2_0 false  1))])) (live := [0]) (tv := fun _ => [some (vs 0 o0 n2 n3), some (vi (((v4 + 1) : Nat) : Int))]) (bl := [some (.ro O0)]) (ob := [((IntKind.i64.wrap ((v4 : Int) + (1 : Int))) == (((v4 + 1) : Nat) : Int), true), (dP (Zfr #[Value.agg #[vi (L1.getD v4 R_iiii.z).a0, vi (L1.getD v4 R_iiii.z).a1, vi (L1.getD v4 R_iiii.z).a2, vi (L1.getD v4 R_iiii.z).a3]] ((L1.getD v4 R_iiii.z).a0) ((L1.getD v4 R_iiii.z).a1) ((L1.getD v4 R_iiii.z).a2) ((L1.getD v4 R_iiii.z).a3)  y2_0 false  1), true), (Zz (ZC O0 (o0 + (v4 * 4)) 4) [.i (L1.getD v4 R_iiii.z).a0, .i (L1.getD v4 R_iiii.z).a1, .i (L1.getD v4 R_iiii.z).a2, .i (L1.getD v4 R_iiii.z).a3], true), (Nat.blt v4 n2, true), ((v4 : Int) == Int.ofNat v4, true), ((decide ((v4 : Int) < (n2 : Int))), true)]) rfl (show 2 ∈ Zx (Zdx 2) from by decide +kernel) (fun gv => by kernel_rfl) (Za (beq_iff_eq.2 ((wrap_i64 ltA).trans (by first | rfl | omega))) <| Za (Zf (Zg1 #[Value.agg #[vi (L1.getD v4 R_iiii.z).a0, vi (L1.getD v4 R_iiii.z).a1, vi (L1.getD v4 R_iiii.z).a2, vi (L1.getD v4 R_iiii.z).a3]] ((L1.getD v4 R_iiii.z).a0) ((L1.getD v4 R_iiii.z).a1) ((L1.getD v4 R_iiii.z).a2) ((L1.getD v4 R_iiii.z).a3)  y2_0 false N c2  1 rfl (by decide) (by decide))) <| Za ((show (o0 + v4 * 4 + 0) = (o0 + (v4 * 4)) from by omega) ▸ F0 v4 (by omega) 0 4 (show 0 + 4 ≤ 4 from by decide)) <| oB <| oI <| oY Zd) rfl (by decide) (by rfl) (fun _ => ⟨rr, ⟨rr, trivial⟩⟩) ⟨rfl, trivial⟩
     ·
      exact Mach.ok_none
  ·
   exact Mach.ok_none
 ·
  exact Mach.ok_fin (M := ZW o0 L1 n2 n3 O0 N) (cd := 1000000) (cm := 0) (r := (.r0 ((-1 : Int)) : ZJ)) (fu := 4000) (orc := (Zi [(0, false)] [] [] [] [])) (live := [0]) (u := vi (-1 : Int)) (bl := [some (.ro O0)]) (ob := [((decide ((v4 : Int) < (n2 : Int))), false)]) (fun gv => by kernel_rfl) (oN Zd) rfl (by decide) (by rfl) rr ⟨rfl, trivial⟩

theorem Zre (o0 : Nat) (L1 : List R_iiii) (n2 n3 : Nat) (O0 : Obj) (F0 : Zs O0 o0 L1) (N : Nat) : (ZW o0 L1 n2 n3 O0 N).Enter Try.prog Zr #[vs 0 o0 n2 n3] (ZeC L1 n2 n3 N) := by
 unfold ZeC
 refine Mach.en_ite (fun g0 => ?_) (fun g0 => ?_)
 ·
  exact Mach.en_fin (M := ZW o0 L1 n2 n3 O0 N) (cd := 1000000) (cm := 0) (r := (.r0 ((0 : Int)) : ZJ)) (fu := 4000) (orc := (Zi [(0, true)] [] [] [] [])) (live := [0]) (u := v0) (bl := [some (.ro O0)]) (ob := [((decide ((n2 : Int) < (1 : Int))), true)]) (by kernel_rfl) (oY Zd) rfl (by decide) (by rfl) rr ⟨rfl, trivial⟩
 ·
  refine Mach.en_ite (fun g1 => ?_) (fun g1 => ?_)
  ·
   exact Mach.en_fin (M := ZW o0 L1 n2 n3 O0 N) (cd := 1000000) (cm := 0) (r := (.r0 ((0 : Int)) : ZJ)) (fu := 4000) (orc := (Zi [(0, false), (1, true)] [] [] [] [])) (live := [0]) (u := v0) (bl := [some (.ro O0)]) (ob := [((decide ((n2 : Int) > (512 : Int))), true), ((decide ((n2 : Int) < (1 : Int))), false)]) (by kernel_rfl) (oY <| oN Zd) rfl (by decide) (by rfl) rr ⟨rfl, trivial⟩
  ·
   exact Mach.en_head (bK := ZbV 1) (M := ZW o0 L1 n2 n3 O0 N) (cd := 1000000) (cm := 0) (y := (.h1m0 (0) : ZA)) (fu := 4000) (orc := (Zi [(0, false), (1, false)] [] [] [] [])) (live := [0]) (tv := [some (vs 0 o0 n2 n3), some (vn), some (v0)]) (bl := [some (.ro O0)]) (ob := [((decide ((n2 : Int) > (512 : Int))), false), ((decide ((n2 : Int) < (1 : Int))), false)]) rfl rfl (show Zx (ZbV 1).2 = [] from rfl) (by kernel_rfl) (oN <| oN Zd) rfl (by decide) (by rfl) ⟨rr, ⟨rr, ⟨⟨Eq.trans (show (vi ((0 : Nat) : Int) : Value) = v0 from (congrArg (Value.int .i64) (by first | rfl | omega))) (by rfl), by rfl⟩, trivial⟩⟩⟩ ⟨rfl, trivial⟩

theorem ZpN (o0 : Nat) (L1 : List R_iiii) (n2 n3 : Nat) (O0 : Obj) (F0 : Zs O0 o0 L1) (N : Nat) (r : ZJ) (h : ZgL L1 n2 n3 N = some r) : LSpec Try.prog 11 #[vs 0 o0 n2 n3] [.ro O0] (ZnV o0 L1 n2 n3 O0 r) (Zmz o0 L1 n2 n3 O0 r) :=
 Mach.spec Zao (ZW o0 L1 n2 n3 O0 N) Try.func11 (by kernel_rfl) (by kernel_rfl) (fun x => by cases x <;> exact ZN _ rfl) (fun r => by cases r <;> exact ZN _ rfl) (fun x => by
  cases x with
  | h1m0 _ => exact fun _ => (show ¬ (1 ∈ Zx (ZbV 1).2) from by decide +kernel)
  | h1m1 _ _ => exact fun _ => (show ¬ (1 ∈ Zx (ZbV 1).2) from by decide +kernel)
  | h2m0 _ => exact fun _ => (show ¬ (2 ∈ Zx (ZbV 2).2) from by decide +kernel)
  ) (fun x => (show (ZW o0 L1 n2 n3 O0 N).Ok Try.prog Zr x (Zbj L1 n2 n3 N x) from by
  cases x with
  | h1m0 v4 => exact ZoT o0 L1 n2 n3 O0 F0 v4 N
  | h1m1 v4 v5 => exact ZoU o0 L1 n2 n3 O0 F0 v4 v5 N
  | h2m0 v4 => exact ZoV o0 L1 n2 n3 O0 F0 v4 N
  )) (Zre o0 L1 n2 n3 O0 F0 N) (n := N) h

noncomputable def ZfI (o0 : Nat) (L1 : List R_iiii) (n2 n3 : Nat) (O0 : Obj) (w2 : Int) (k0 n : Nat) : Zak := .call [(k0, .ro O0)] (vi w2) [] 0
def ZeF (A : Array Value) (o0 : Nat) (L1 : List R_iiii) (n2 n3 : Nat) (O0 : Obj) (w2 : Int) (k0 n : Nat) : Prop := Zw Try.prog 11 A [(k0, .ro O0)] (vi w2) [] n 0

theorem ZfJ (A : Array Value) (o0 : Nat) (L1 : List R_iiii) (n2 n3 : Nat) (O0 : Obj) (F0 : Zs O0 o0 L1) (w2 : Int) (N : Nat) (h : ZgL L1 n2 n3 N = some (.r0 w2)) (k0 n : Nat) (hA : A = #[vs k0 o0 n2 n3]) (hnd : ([k0] : List Nat).Nodup) (hlt : ∀ k ∈ ([k0] : List Nat), k < n) : ZeF A o0 L1 n2 n3 O0 w2 k0 n :=
 Z0 hA (LSpec.callL (show LSpec Try.prog 11 #[vs 0 o0 n2 n3] [.ro O0] (vi w2) [some (.ro O0)] from ZpN o0 L1 n2 n3 O0 F0 N _ h) [k0] n [] rfl hnd hlt (show 1 ≤ 1 from by decide) (show ∀ j ∈ ([] : List Nat), j < 1 from by decide) (by rfl) ⟨rfl, trivial⟩ (by rfl) ⟨rfl, trivial⟩ ⟨.inr rfl, trivial⟩ rfl rfl rfl (Zc (Zn rfl rfl) rfl) rfl)

noncomputable def ZnW (o0 : Nat) (L1 : List R_iiii) (n2 n3 : Nat) (O0 : Obj) : ref12_CheckR → Value
 | .r0 w2 => vi w2
noncomputable def Zm1 (o0 : Nat) (L1 : List R_iiii) (n2 n3 : Nat) (O0 : Obj) : ref12_CheckR → List (Option AObj)
 | .r0 w2 => [some (.ro O0)]

theorem Zrf (o0 : Nat) (L1 : List R_iiii) (n2 n3 : Nat) (O0 : Obj) (F0 : Zs O0 o0 L1) (N : Nat) : Fx Try.prog Zr Try.f13 [.ro O0] #[vs 0 o0 n2 n3] (ZnW o0 L1 n2 n3 O0) (Zm1 o0 L1 n2 n3 O0) (Zdk L1 n2 n3 N) := by
 unfold Zdk
 refine Za4 (fun z0 c0 => ?_)
 cases z0 with
 | r0 y0_0 =>
  refine Zm (fun g1 => ?_) (fun g1 => ?_)
  ·
   exact Zk (r := (.r0 ((0 : Int)) : ref12_CheckR)) (fu := 4000) (orc := (Zi [(0, true)] [] [] [] [(0, (ZfI (o0) (L1) (n2) (n3) O0 y0_0 0 1))])) (live := [0]) (u := v0) (bl := [some (.ro O0)]) (ob := [((decide (y0_0 < (0 : Int))), true), (dP (ZeF #[vs 0 o0 n2 n3] (o0) (L1) (n2) (n3) O0 y0_0 0 1), true), (dS O0, true)]) (by kernel_rfl) (oY <| Za (Zf (ZfJ #[vs 0 o0 n2 n3] (o0) (L1) (n2) (n3) O0 F0 y0_0 N c0 0 1 rfl (by decide) (by decide))) <| oR Zd) rfl (by decide) (by rfl) rr ⟨rfl, trivial⟩
  ·
   refine Zm (fun g2 => ?_) (fun g2 => ?_)
   ·
    refine Zm (fun g3 => ?_) (fun g3 => ?_)
    ·
     refine Zm (fun g4 => ?_) (fun g4 => ?_)
     ·
      refine Zm (fun g5 => ?_) (fun g5 => ?_)
      ·
       exact Zk (r := (.r0 ((140 : Int)) : ref12_CheckR)) (fu := 4000) (orc := (Zi [(0, false), (1, true), (2, true), (3, true)] [] [(0, (y0_0).toNat)] [(0, [.i (L1.getD (y0_0).toNat R_iiii.z).a0, .i (L1.getD (y0_0).toNat R_iiii.z).a1, .i (L1.getD (y0_0).toNat R_iiii.z).a2, .i (L1.getD (y0_0).toNat R_iiii.z).a3])] [(0, (ZfI (o0) (L1) (n2) (n3) O0 y0_0 0 1))])) (live := [0]) (u := vi (140 : Int)) (bl := [some (.ro O0)]) (ob := [((((L1.getD (y0_0).toNat R_iiii.z).a0 == (15 : Int)) && (((L1.getD (y0_0).toNat R_iiii.z).a1 == (0 : Int)) && (((L1.getD (y0_0).toNat R_iiii.z).a2 == (0 : Int)) && (((L1.getD (y0_0).toNat R_iiii.z).a3 == (0 : Int)) && true)))), true), (Zz (ZC O0 (o0 + ((y0_0).toNat * 4)) 4) [.i (L1.getD (y0_0).toNat R_iiii.z).a0, .i (L1.getD (y0_0).toNat R_iiii.z).a1, .i (L1.getD (y0_0).toNat R_iiii.z).a2, .i (L1.getD (y0_0).toNat R_iiii.z).a3], true), (Nat.blt (y0_0).toNat n2, true), (y0_0 == Int.ofNat (y0_0).toNat, true), ((decide ((n2 : Int) ≤ (512 : Int))), true), ((decide (y0_0 < (n2 : Int))), true), ((decide (y0_0 < (0 : Int))), false), (dP (ZeF #[vs 0 o0 n2 n3] (o0) (L1) (n2) (n3) O0 y0_0 0 1), true), (dS O0, true)]) (by kernel_rfl) (Za (by first | (simp only [beq_self_eq_true, Bool.and_self]; done) | (simp only [Bool.and_true, Bool.and_eq_true, beq_iff_eq] <;> first | omega | (simp_all; done))) <| Za ((show (o0 + (y0_0).toNat * 4 + 0) = (o0 + ((y0_0).toNat * 4)) from by omega) ▸ F0 (y0_0).toNat (by omega) 0 4 (show 0 + 4 ≤ 4 from by decide)) <| oB <| oI <| oY <| oY <| oN <| Za (Zf (ZfJ #[vs 0 o0 n2 n3] (o0) (L1) (n2) (n3) O0 F0 y0_0 N c0 0 1 rfl (by decide) (by decide))) <| oR Zd) rfl (by decide) (by rfl) rr ⟨rfl, trivial⟩
      ·
       exact Zk (r := (.r0 ((120 : Int)) : ref12_CheckR)) (fu := 4000) (orc := (Zi [(0, false), (1, true), (2, true), (3, false)] [] [(0, (y0_0).toNat)] [(0, [.i (L1.getD (y0_0).toNat R_iiii.z).a0, .i (L1.getD (y0_0).toNat R_iiii.z).a1, .i (L1.getD (y0_0).toNat R_iiii.z).a2, .i (L1.getD (y0_0).toNat R_iiii.z).a3])] [(0, (ZfI (o0) (L1) (n2) (n3) O0 y0_0 0 1))])) (live := [0]) (u := vi (120 : Int)) (bl := [some (.ro O0)]) (ob := [((((L1.getD (y0_0).toNat R_iiii.z).a0 == (15 : Int)) && (((L1.getD (y0_0).toNat R_iiii.z).a1 == (0 : Int)) && (((L1.getD (y0_0).toNat R_iiii.z).a2 == (0 : Int)) && (((L1.getD (y0_0).toNat R_iiii.z).a3 == (0 : Int)) && true)))), false), (Zz (ZC O0 (o0 + ((y0_0).toNat * 4)) 4) [.i (L1.getD (y0_0).toNat R_iiii.z).a0, .i (L1.getD (y0_0).toNat R_iiii.z).a1, .i (L1.getD (y0_0).toNat R_iiii.z).a2, .i (L1.getD (y0_0).toNat R_iiii.z).a3], true), (Nat.blt (y0_0).toNat n2, true), (y0_0 == Int.ofNat (y0_0).toNat, true), ((decide ((n2 : Int) ≤ (512 : Int))), true), ((decide (y0_0 < (n2 : Int))), true), ((decide (y0_0 < (0 : Int))), false), (dP (ZeF #[vs 0 o0 n2 n3] (o0) (L1) (n2) (n3) O0 y0_0 0 1), true), (dS O0, true)]) (by kernel_rfl) (Za (Bool.eq_false_iff.2 (by simp only [ne_eq, Bool.and_true, Bool.and_eq_true, beq_iff_eq]; first | omega | (intro hh; simp_all; done))) <| Za ((show (o0 + (y0_0).toNat * 4 + 0) = (o0 + ((y0_0).toNat * 4)) from by omega) ▸ F0 (y0_0).toNat (by omega) 0 4 (show 0 + 4 ≤ 4 from by decide)) <| oB <| oI <| oY <| oY <| oN <| Za (Zf (ZfJ #[vs 0 o0 n2 n3] (o0) (L1) (n2) (n3) O0 F0 y0_0 N c0 0 1 rfl (by decide) (by decide))) <| oR Zd) rfl (by decide) (by rfl) rr ⟨rfl, trivial⟩
     ·
      exact Za6
    ·
     exact Zk (r := (.r0 ((120 : Int)) : ref12_CheckR)) (fu := 4000) (orc := (Zi [(0, false), (1, true), (2, false)] [] [] [] [(0, (ZfI (o0) (L1) (n2) (n3) O0 y0_0 0 1))])) (live := [0]) (u := vi (120 : Int)) (bl := [some (.ro O0)]) (ob := [((decide ((n2 : Int) ≤ (512 : Int))), false), ((decide (y0_0 < (n2 : Int))), true), ((decide (y0_0 < (0 : Int))), false), (dP (ZeF #[vs 0 o0 n2 n3] (o0) (L1) (n2) (n3) O0 y0_0 0 1), true), (dS O0, true)]) (by kernel_rfl) (oN <| oY <| oN <| Za (Zf (ZfJ #[vs 0 o0 n2 n3] (o0) (L1) (n2) (n3) O0 F0 y0_0 N c0 0 1 rfl (by decide) (by decide))) <| oR Zd) rfl (by decide) (by rfl) rr ⟨rfl, trivial⟩
   ·
    exact Zk (r := (.r0 ((120 : Int)) : ref12_CheckR)) (fu := 4000) (orc := (Zi [(0, false), (1, false)] [] [] [] [(0, (ZfI (o0) (L1) (n2) (n3) O0 y0_0 0 1))])) (live := [0]) (u := vi (120 : Int)) (bl := [some (.ro O0)]) (ob := [((decide (y0_0 < (n2 : Int))), false), ((decide (y0_0 < (0 : Int))), false), (dP (ZeF #[vs 0 o0 n2 n3] (o0) (L1) (n2) (n3) O0 y0_0 0 1), true), (dS O0, true)]) (by kernel_rfl) (oN <| oN <| Za (Zf (ZfJ #[vs 0 o0 n2 n3] (o0) (L1) (n2) (n3) O0 F0 y0_0 N c0 0 1 rfl (by decide) (by decide))) <| oR Zd) rfl (by decide) (by rfl) rr ⟨rfl, trivial⟩

theorem ZpO (o0 : Nat) (L1 : List R_iiii) (n2 n3 : Nat) (O0 : Obj) (F0 : Zs O0 o0 L1) (N : Nat) (r : ref12_CheckR) (h : Zdk L1 n2 n3 N = some r) : LSpec Try.prog 13 #[vs 0 o0 n2 n3] [.ro O0] (ZnW o0 L1 n2 n3 O0 r) (Zm1 o0 L1 n2 n3 O0 r) :=
 ZaB Zao Try.func13 (by kernel_rfl) (by kernel_rfl) (fun r => by cases r <;> exact ZN _ rfl) (Zrf o0 L1 n2 n3 O0 F0 N) h

noncomputable def Zd8 (o0 : Nat) (L1 : List R_iiii) (n2 n3 : Nat) (O0 : Obj) (w2 : Int) (k0 n : Nat) : Zak := .call [(k0, .ro O0)] (vi w2) [] 0
def ZcQ (A : Array Value) (o0 : Nat) (L1 : List R_iiii) (n2 n3 : Nat) (O0 : Obj) (w2 : Int) (k0 n : Nat) : Prop := Zw Try.prog 13 A [(k0, .ro O0)] (vi w2) [] n 0

theorem Zd9 (A : Array Value) (o0 : Nat) (L1 : List R_iiii) (n2 n3 : Nat) (O0 : Obj) (F0 : Zs O0 o0 L1) (w2 : Int) (N : Nat) (h : Zdk L1 n2 n3 N = some (.r0 w2)) (k0 n : Nat) (hA : A = #[vs k0 o0 n2 n3]) (hnd : ([k0] : List Nat).Nodup) (hlt : ∀ k ∈ ([k0] : List Nat), k < n) : ZcQ A o0 L1 n2 n3 O0 w2 k0 n :=
 Z0 hA (LSpec.callL (show LSpec Try.prog 13 #[vs 0 o0 n2 n3] [.ro O0] (vi w2) [some (.ro O0)] from ZpO o0 L1 n2 n3 O0 F0 N _ h) [k0] n [] rfl hnd hlt (show 1 ≤ 1 from by decide) (show ∀ j ∈ ([] : List Nat), j < 1 from by decide) (by rfl) ⟨rfl, trivial⟩ (by rfl) ⟨rfl, trivial⟩ ⟨.inr rfl, trivial⟩ rfl rfl rfl (Zc (Zn rfl rfl) rfl) rfl)

noncomputable def Zp3 (o0 : Nat) (L1 : List R_iiii) (n2 n3 : Nat) (a4 : Int) (O0 : Obj) : Zbl → Value
 | .r0 w2 => vi w2
noncomputable def ZnX (o0 : Nat) (L1 : List R_iiii) (n2 n3 : Nat) (a4 : Int) (O0 : Obj) : Zbl → List (Option AObj)
 | .r0 w2 => [some (.ro O0)]

def Ztz : Za5 → Nat
 | .h1m0 v4 v5 => 1
noncomputable def ZtU (o0 : Nat) (L1 : List R_iiii) (n2 n3 : Nat) (a4 : Int) (O0 : Obj) : Za5 → List (Nat × Value)
 | .h1m0 v4 v5 => [(0, vs 0 o0 n2 n3), (5, vi (v4 : Int)), (6, vi v5)]
noncomputable def ZtV (o0 : Nat) (L1 : List R_iiii) (n2 n3 : Nat) (a4 : Int) (O0 : Obj) : Za5 → List (Option AObj)
 | .h1m0 v4 v5 => [some (.ro O0)]

noncomputable def Zeo : Nat → Code × List ZaO
 | 1 => Zcm [1, 1, 3, 1, 4, 1, 0, 1, 3] (Zc1 Try.f31) []
 | _ => (.skip, [])
def ZnY : Nat → Bool
 | 1 => true
 | _ => true
noncomputable def ZgT (i : Nat) : List ZaO := match ZnY i with | true => .rnd i :: (Zeo i).2 | false => (Zeo i).2

noncomputable def Zbo (o0 : Nat) (L1 : List R_iiii) (n2 n3 : Nat) (a4 : Int) (O0 : Obj) (N : Nat) : Mach := ⟨Try.f31, [.ro O0], Za5, Zbl, Zeq L1 n2 n3 a4 N, Ztz, Zeo, ZnY, ZtU o0 L1 n2 n3 a4 O0, ZtV o0 L1 n2 n3 a4 O0, Zp3 o0 L1 n2 n3 a4 O0, ZnX o0 L1 n2 n3 a4 O0⟩

theorem ZpP (o0 : Nat) (L1 : List R_iiii) (n2 n3 : Nat) (a4 : Int) (O0 : Obj) (F0 : Zs O0 o0 L1) (v4 : Nat) (v5 : Int) (N : Nat) : (Zbo o0 L1 n2 n3 a4 O0 N).Ok Try.prog Zr (.h1m0 v4 v5 : Za5) (Zeq L1 n2 n3 a4 N (.h1m0 v4 v5 : Za5)) := by
 show (Zbo o0 L1 n2 n3 a4 O0 N).Ok Try.prog Zr (.h1m0 v4 v5 : Za5) (Zdq L1 n2 n3 a4 N v4 v5)
 unfold Zdq
 refine Mach.ok_ite (fun g0 => ?_) (fun g0 => ?_)
 ·
  refine Mach.ok_ite (fun g1 => ?_) (fun g1 => ?_)
  ·
   refine Mach.ok_ite (fun g2 => ?_) (fun g2 => ?_)
   ·
    refine Mach.ok_ite (fun g3 => ?_) (fun g3 => ?_)
    ·
     refine Mach.ok_ite (fun g4 => ?_) (fun g4 => ?_)
     ·
      exact Mach.ok_fin (M := Zbo o0 L1 n2 n3 a4 O0 N) (cd := 1000000) (cm := 0) (r := (.r0 (v5) : Zbl)) (fu := 4000) (orc := (Zi [(0, true), (1, true), (2, true)] [] [(0, (v5).toNat)] [(0, [.i (L1.getD (v5).toNat R_iiii.z).a0])] [])) (live := [0]) (u := vi v5) (bl := [some (.ro O0)]) (ob := [(((L1.getD (v5).toNat R_iiii.z).a0 == (17 : Int)), true), (Zz (ZC O0 ((o0 + ((v5).toNat * 4)) + 0) 1) [.i (L1.getD (v5).toNat R_iiii.z).a0], true), (Nat.blt (v5).toNat n2, true), (v5 == Int.ofNat (v5).toNat, true), (((v4 : Int) == (0 : Int)), true), ((decide (v5 < (n2 : Int))), true)]) (fun gv => by kernel_rfl) (oT <| Za ((show (o0 + (v5).toNat * 4 + 0) = ((o0 + ((v5).toNat * 4)) + 0) from by omega) ▸ F0 (v5).toNat (by omega) 0 1 (show 0 + 1 ≤ 4 from by decide)) <| oB <| oI <| oT <| oY Zd) rfl (by decide) (by rfl) rr ⟨rfl, trivial⟩
     ·
      refine Mach.ok_ite (fun g5 => ?_) (fun g5 => ?_)
      ·
       exact Mach.ok_fin (M := Zbo o0 L1 n2 n3 a4 O0 N) (cd := 1000000) (cm := 0) (r := (.r0 (v5) : Zbl)) (fu := 4000) (orc := (Zi [(0, true), (1, true), (2, false), (3, true)] [] [(0, (v5).toNat), (1, (v5).toNat)] [(0, [.i (L1.getD (v5).toNat R_iiii.z).a0]), (1, [.i (L1.getD (v5).toNat R_iiii.z).a0])] [])) (live := [0]) (u := vi v5) (bl := [some (.ro O0)]) (ob := [(((L1.getD (v5).toNat R_iiii.z).a0 == (16 : Int)), true), (Zz (ZC O0 ((o0 + ((v5).toNat * 4)) + 0) 1) [.i (L1.getD (v5).toNat R_iiii.z).a0], true), (Nat.blt (v5).toNat n2, true), (v5 == Int.ofNat (v5).toNat, true), (((L1.getD (v5).toNat R_iiii.z).a0 == (17 : Int)), false), (Zz (ZC O0 ((o0 + ((v5).toNat * 4)) + 0) 1) [.i (L1.getD (v5).toNat R_iiii.z).a0], true), (Nat.blt (v5).toNat n2, true), (v5 == Int.ofNat (v5).toNat, true), (((v4 : Int) == (0 : Int)), true), ((decide (v5 < (n2 : Int))), true)]) (fun gv => by kernel_rfl) (oT <| Za ((show (o0 + (v5).toNat * 4 + 0) = ((o0 + ((v5).toNat * 4)) + 0) from by omega) ▸ F0 (v5).toNat (by omega) 0 1 (show 0 + 1 ≤ 4 from by decide)) <| oB <| oI <| oF <| Za ((show (o0 + (v5).toNat * 4 + 0) = ((o0 + ((v5).toNat * 4)) + 0) from by omega) ▸ F0 (v5).toNat (by omega) 0 1 (show 0 + 1 ≤ 4 from by decide)) <| oB <| oI <| oT <| oY Zd) rfl (by decide) (by rfl) rr ⟨rfl, trivial⟩
      ·
       refine Mach.ok_ite (fun g6 => ?_) (fun g6 => ?_)
       ·
        exact Mach.ok_next (M := Zbo o0 L1 n2 n3 a4 O0 N) (cd := 1000000) (cm := 0) (y := (.h1m0 ((v4 + 1)) ((IntKind.i64.wrap (v5 + (1 : Int)))) : Za5)) (fu := 4000) (orc := (Zi [(0, true), (1, true), (2, false), (3, false), (4, true), (5, false)] [(0, (((v4 + 1) : Nat) : Int))] [(0, (v5).toNat), (1, (v5).toNat), (2, (v5).toNat), (3, (v5).toNat)] [(0, [.i (L1.getD (v5).toNat R_iiii.z).a0]), (1, [.i (L1.getD (v5).toNat R_iiii.z).a0]), (2, [.i (L1.getD (v5).toNat R_iiii.z).a0]), (3, [.i (L1.getD (v5).toNat R_iiii.z).a0])] [])) (live := [0]) (tv := fun _ => [some (vs 0 o0 n2 n3), some (vi (((v4 + 1) : Nat) : Int)), some (vi (IntKind.i64.wrap (v5 + (1 : Int))))]) (bl := [some (.ro O0)]) (ob := [(((L1.getD (v5).toNat R_iiii.z).a0 == (17 : Int)), false), (Zz (ZC O0 ((o0 + ((v5).toNat * 4)) + 0) 1) [.i (L1.getD (v5).toNat R_iiii.z).a0], true), (Nat.blt (v5).toNat n2, true), (v5 == Int.ofNat (v5).toNat, true), ((IntKind.i64.wrap ((v4 : Int) + (1 : Int))) == (((v4 + 1) : Nat) : Int), true), (((L1.getD (v5).toNat R_iiii.z).a0 == (15 : Int)), true), (Zz (ZC O0 ((o0 + ((v5).toNat * 4)) + 0) 1) [.i (L1.getD (v5).toNat R_iiii.z).a0], true), (Nat.blt (v5).toNat n2, true), (v5 == Int.ofNat (v5).toNat, true), (((L1.getD (v5).toNat R_iiii.z).a0 == (16 : Int)), false), (Zz (ZC O0 ((o0 + ((v5).toNat * 4)) + 0) 1) [.i (L1.getD (v5).toNat R_iiii.z).a0], true), (Nat.blt (v5).toNat n2, true), (v5 == Int.ofNat (v5).toNat, true), (((L1.getD (v5).toNat R_iiii.z).a0 == (17 : Int)), false), (Zz (ZC O0 ((o0 + ((v5).toNat * 4)) + 0) 1) [.i (L1.getD (v5).toNat R_iiii.z).a0], true), (Nat.blt (v5).toNat n2, true), (v5 == Int.ofNat (v5).toNat, true), (((v4 : Int) == (0 : Int)), true), ((decide (v5 < (n2 : Int))), true)]) rfl (show 1 ∈ Zx (ZgT 1) from by decide +kernel) (fun gv => by kernel_rfl) (oF <| Za ((show (o0 + (v5).toNat * 4 + 0) = ((o0 + ((v5).toNat * 4)) + 0) from by omega) ▸ F0 (v5).toNat (by omega) 0 1 (show 0 + 1 ≤ 4 from by decide)) <| oB <| oI <| Za (beq_iff_eq.2 ((wrap_i64 ltA).trans (by first | rfl | omega))) <| oT <| Za ((show (o0 + (v5).toNat * 4 + 0) = ((o0 + ((v5).toNat * 4)) + 0) from by omega) ▸ F0 (v5).toNat (by omega) 0 1 (show 0 + 1 ≤ 4 from by decide)) <| oB <| oI <| oF <| Za ((show (o0 + (v5).toNat * 4 + 0) = ((o0 + ((v5).toNat * 4)) + 0) from by omega) ▸ F0 (v5).toNat (by omega) 0 1 (show 0 + 1 ≤ 4 from by decide)) <| oB <| oI <| oF <| Za ((show (o0 + (v5).toNat * 4 + 0) = ((o0 + ((v5).toNat * 4)) + 0) from by omega) ▸ F0 (v5).toNat (by omega) 0 1 (show 0 + 1 ≤ 4 from by decide)) <| oB <| oI <| oT <| oY Zd) rfl (by decide) (by rfl) (fun _ => ⟨rr, ⟨rr, ⟨rr, trivial⟩⟩⟩) ⟨rfl, trivial⟩
       ·
        exact Mach.ok_next (M := Zbo o0 L1 n2 n3 a4 O0 N) (cd := 1000000) (cm := 0) (y := (.h1m0 (v4) ((IntKind.i64.wrap (v5 + (1 : Int)))) : Za5)) (fu := 4000) (orc := (Zi [(0, true), (1, true), (2, false), (3, false), (4, false), (5, false)] [] [(0, (v5).toNat), (1, (v5).toNat), (2, (v5).toNat), (3, (v5).toNat)] [(0, [.i (L1.getD (v5).toNat R_iiii.z).a0]), (1, [.i (L1.getD (v5).toNat R_iiii.z).a0]), (2, [.i (L1.getD (v5).toNat R_iiii.z).a0]), (3, [.i (L1.getD (v5).toNat R_iiii.z).a0])] [])) (live := [0]) (tv := fun _ => [some (vs 0 o0 n2 n3), some (vi (v4 : Int)), some (vi (IntKind.i64.wrap (v5 + (1 : Int))))]) (bl := [some (.ro O0)]) (ob := [(((L1.getD (v5).toNat R_iiii.z).a0 == (17 : Int)), false), (Zz (ZC O0 ((o0 + ((v5).toNat * 4)) + 0) 1) [.i (L1.getD (v5).toNat R_iiii.z).a0], true), (Nat.blt (v5).toNat n2, true), (v5 == Int.ofNat (v5).toNat, true), (((L1.getD (v5).toNat R_iiii.z).a0 == (15 : Int)), false), (Zz (ZC O0 ((o0 + ((v5).toNat * 4)) + 0) 1) [.i (L1.getD (v5).toNat R_iiii.z).a0], true), (Nat.blt (v5).toNat n2, true), (v5 == Int.ofNat (v5).toNat, true), (((L1.getD (v5).toNat R_iiii.z).a0 == (16 : Int)), false), (Zz (ZC O0 ((o0 + ((v5).toNat * 4)) + 0) 1) [.i (L1.getD (v5).toNat R_iiii.z).a0], true), (Nat.blt (v5).toNat n2, true), (v5 == Int.ofNat (v5).toNat, true), (((L1.getD (v5).toNat R_iiii.z).a0 == (17 : Int)), false), (Zz (ZC O0 ((o0 + ((v5).toNat * 4)) + 0) 1) [.i (L1.getD (v5).toNat R_iiii.z).a0], true), (Nat.blt (v5).toNat n2, true), (v5 == Int.ofNat (v5).toNat, true), (((v4 : Int) == (0 : Int)), true), ((decide (v5 < (n2 : Int))), true)]) rfl (show 1 ∈ Zx (ZgT 1) from by decide +kernel) (fun gv => by kernel_rfl) (oF <| Za ((show (o0 + (v5).toNat * 4 + 0) = ((o0 + ((v5).toNat * 4)) + 0) from by omega) ▸ F0 (v5).toNat (by omega) 0 1 (show 0 + 1 ≤ 4 from by decide)) <| oB <| oI <| oF <| Za ((show (o0 + (v5).toNat * 4 + 0) = ((o0 + ((v5).toNat * 4)) + 0) from by omega) ▸ F0 (v5).toNat (by omega) 0 1 (show 0 + 1 ≤ 4 from by decide)) <| oB <| oI <| oF <| Za ((show (o0 + (v5).toNat * 4 + 0) = ((o0 + ((v5).toNat * 4)) + 0) from by omega) ▸ F0 (v5).toNat (by omega) 0 1 (show 0 + 1 ≤ 4 from by decide)) <| oB <| oI <| oF <| Za ((show (o0 + (v5).toNat * 4 + 0) = ((o0 + ((v5).toNat * 4)) + 0) from by omega) ▸ F0 (v5).toNat (by omega) 0 1 (show 0 + 1 ≤ 4 from by decide)) <| oB <| oI <| oT <| oY Zd) rfl (by decide) (by rfl) (fun _ => ⟨rr, ⟨rr, ⟨rr, trivial⟩⟩⟩) ⟨rfl, trivial⟩
    ·
     exact Mach.ok_none
   ·
    exact Mach.ok_none
  ·
   refine Mach.ok_ite (fun g2 => ?_) (fun g2 => ?_)
   ·
    refine Mach.ok_ite (fun g3 => ?_) (fun g3 => ?_)
    ·
     refine Mach.ok_ite (fun g4 => ?_) (fun g4 => ?_)
     ·
      refine Mach.ok_ite (fun g5 => ?_) (fun g5 => ?_)
      ·
       exact Mach.ok_next (M := Zbo o0 L1 n2 n3 a4 O0 N) (cd := 1000000) (cm := 0) (y := (.h1m0 ((v4 + 1)) ((IntKind.i64.wrap (v5 + (1 : Int)))) : Za5)) (fu := 4000) (orc := (Zi [(0, true), (1, false), (2, true), (3, false)] [(0, (((v4 + 1) : Nat) : Int))] [(0, (v5).toNat), (1, (v5).toNat)] [(0, [.i (L1.getD (v5).toNat R_iiii.z).a0]), (1, [.i (L1.getD (v5).toNat R_iiii.z).a0])] [])) (live := [0]) (tv := fun _ => [some (vs 0 o0 n2 n3), some (vi (((v4 + 1) : Nat) : Int)), some (vi (IntKind.i64.wrap (v5 + (1 : Int))))]) (bl := [some (.ro O0)]) (ob := [(((L1.getD (v5).toNat R_iiii.z).a0 == (17 : Int)), false), (Zz (ZC O0 ((o0 + ((v5).toNat * 4)) + 0) 1) [.i (L1.getD (v5).toNat R_iiii.z).a0], true), (Nat.blt (v5).toNat n2, true), (v5 == Int.ofNat (v5).toNat, true), ((IntKind.i64.wrap ((v4 : Int) + (1 : Int))) == (((v4 + 1) : Nat) : Int), true), (((L1.getD (v5).toNat R_iiii.z).a0 == (15 : Int)), true), (Zz (ZC O0 ((o0 + ((v5).toNat * 4)) + 0) 1) [.i (L1.getD (v5).toNat R_iiii.z).a0], true), (Nat.blt (v5).toNat n2, true), (v5 == Int.ofNat (v5).toNat, true), (((v4 : Int) == (0 : Int)), false), ((decide (v5 < (n2 : Int))), true)]) rfl (show 1 ∈ Zx (ZgT 1) from by decide +kernel) (fun gv => by kernel_rfl) (oF <| Za ((show (o0 + (v5).toNat * 4 + 0) = ((o0 + ((v5).toNat * 4)) + 0) from by omega) ▸ F0 (v5).toNat (by omega) 0 1 (show 0 + 1 ≤ 4 from by decide)) <| oB <| oI <| Za (beq_iff_eq.2 ((wrap_i64 ltA).trans (by first | rfl | omega))) <| oT <| Za ((show (o0 + (v5).toNat * 4 + 0) = ((o0 + ((v5).toNat * 4)) + 0) from by omega) ▸ F0 (v5).toNat (by omega) 0 1 (show 0 + 1 ≤ 4 from by decide)) <| oB <| oI <| oF <| oY Zd) rfl (by decide) (by rfl) (fun _ => ⟨rr, ⟨rr, ⟨rr, trivial⟩⟩⟩) ⟨rfl, trivial⟩
      ·
       exact Mach.ok_none
     ·
      refine Mach.ok_ite (fun g5 => ?_) (fun g5 => ?_)
      ·
       refine Mach.ok_ite (fun g6 => ?_) (fun g6 => ?_)
       ·
        exact Mach.ok_next (M := Zbo o0 L1 n2 n3 a4 O0 N) (cd := 1000000) (cm := 0) (y := (.h1m0 ((v4 - 1)) ((IntKind.i64.wrap (v5 + (1 : Int)))) : Za5)) (fu := 4000) (orc := (Zi [(0, true), (1, false), (2, false), (3, true)] [(0, (((v4 - 1) : Nat) : Int))] [(0, (v5).toNat), (1, (v5).toNat)] [(0, [.i (L1.getD (v5).toNat R_iiii.z).a0]), (1, [.i (L1.getD (v5).toNat R_iiii.z).a0])] [])) (live := [0]) (tv := fun _ => [some (vs 0 o0 n2 n3), some (vi (((v4 - 1) : Nat) : Int)), some (vi (IntKind.i64.wrap (v5 + (1 : Int))))]) (bl := [some (.ro O0)]) (ob := [((IntKind.i64.wrap ((v4 : Int) - (1 : Int))) == (((v4 - 1) : Nat) : Int), true), (((L1.getD (v5).toNat R_iiii.z).a0 == (17 : Int)), true), (Zz (ZC O0 ((o0 + ((v5).toNat * 4)) + 0) 1) [.i (L1.getD (v5).toNat R_iiii.z).a0], true), (Nat.blt (v5).toNat n2, true), (v5 == Int.ofNat (v5).toNat, true), (((L1.getD (v5).toNat R_iiii.z).a0 == (15 : Int)), false), (Zz (ZC O0 ((o0 + ((v5).toNat * 4)) + 0) 1) [.i (L1.getD (v5).toNat R_iiii.z).a0], true), (Nat.blt (v5).toNat n2, true), (v5 == Int.ofNat (v5).toNat, true), (((v4 : Int) == (0 : Int)), false), ((decide (v5 < (n2 : Int))), true)]) rfl (show 1 ∈ Zx (ZgT 1) from by decide +kernel) (fun gv => by kernel_rfl) (Za (beq_iff_eq.2 ((wrap_i64 ltA).trans (by first | rfl | omega))) <| oT <| Za ((show (o0 + (v5).toNat * 4 + 0) = ((o0 + ((v5).toNat * 4)) + 0) from by omega) ▸ F0 (v5).toNat (by omega) 0 1 (show 0 + 1 ≤ 4 from by decide)) <| oB <| oI <| oF <| Za ((show (o0 + (v5).toNat * 4 + 0) = ((o0 + ((v5).toNat * 4)) + 0) from by omega) ▸ F0 (v5).toNat (by omega) 0 1 (show 0 + 1 ≤ 4 from by decide)) <| oB <| oI <| oF <| oY Zd) rfl (by decide) (by rfl) (fun _ => ⟨rr, ⟨rr, ⟨rr, trivial⟩⟩⟩) ⟨rfl, trivial⟩
       ·
        exact Mach.ok_none
      ·
       exact Mach.ok_next (M := Zbo o0 L1 n2 n3 a4 O0 N) (cd := 1000000) (cm := 0) (y := (.h1m0 (v4) ((IntKind.i64.wrap (v5 + (1 : Int)))) : Za5)) (fu := 4000) (orc := (Zi [(0, true), (1, false), (2, false), (3, false)] [] [(0, (v5).toNat), (1, (v5).toNat)] [(0, [.i (L1.getD (v5).toNat R_iiii.z).a0]), (1, [.i (L1.getD (v5).toNat R_iiii.z).a0])] [])) (live := [0]) (tv := fun _ => [some (vs 0 o0 n2 n3), some (vi (v4 : Int)), some (vi (IntKind.i64.wrap (v5 + (1 : Int))))]) (bl := [some (.ro O0)]) (ob := [(((L1.getD (v5).toNat R_iiii.z).a0 == (17 : Int)), false), (Zz (ZC O0 ((o0 + ((v5).toNat * 4)) + 0) 1) [.i (L1.getD (v5).toNat R_iiii.z).a0], true), (Nat.blt (v5).toNat n2, true), (v5 == Int.ofNat (v5).toNat, true), (((L1.getD (v5).toNat R_iiii.z).a0 == (15 : Int)), false), (Zz (ZC O0 ((o0 + ((v5).toNat * 4)) + 0) 1) [.i (L1.getD (v5).toNat R_iiii.z).a0], true), (Nat.blt (v5).toNat n2, true), (v5 == Int.ofNat (v5).toNat, true), (((v4 : Int) == (0 : Int)), false), ((decide (v5 < (n2 : Int))), true)]) rfl (show 1 ∈ Zx (ZgT 1) from by decide +kernel) (fun gv => by kernel_rfl) (oF <| Za ((show (o0 + (v5).toNat * 4 + 0) = ((o0 + ((v5).toNat * 4)) + 0) from by omega) ▸ F0 (v5).toNat (by omega) 0 1 (show 0 + 1 ≤ 4 from by decide)) <| oB <| oI <| oF <| Za ((show (o0 + (v5).toNat * 4 + 0) = ((o0 + ((v5).toNat * 4)) + 0) from by omega) ▸ F0 (v5).toNat (by omega) 0 1 (show 0 + 1 ≤ 4 from by decide)) <| oB <| oI <| oF <| oY Zd) rfl (by decide) (by rfl) (fun _ => ⟨rr, ⟨rr, ⟨rr, trivial⟩⟩⟩) ⟨rfl, trivial⟩
    ·
     exact Mach.ok_none
   ·
    exact Mach.ok_none
 ·
  exact Mach.ok_fin (M := Zbo o0 L1 n2 n3 a4 O0 N) (cd := 1000000) (cm := 0) (r := (.r0 ((-1 : Int)) : Zbl)) (fu := 4000) (orc := (Zi [(0, false)] [] [] [] [])) (live := [0]) (u := vi (-1 : Int)) (bl := [some (.ro O0)]) (ob := [((decide (v5 < (n2 : Int))), false)]) (fun gv => by kernel_rfl) (oN Zd) rfl (by decide) (by rfl) rr ⟨rfl, trivial⟩

theorem Zsk (o0 : Nat) (L1 : List R_iiii) (n2 n3 : Nat) (a4 : Int) (O0 : Obj) (F0 : Zs O0 o0 L1) (N : Nat) : (Zbo o0 L1 n2 n3 a4 O0 N).Enter Try.prog Zr #[vs 0 o0 n2 n3, vi a4] (ZdM L1 n2 n3 a4 N) := by
 unfold ZdM
 refine Mach.en_ite (fun g0 => ?_) (fun g0 => ?_)
 ·
  refine Mach.en_ite (fun g1 => ?_) (fun g1 => ?_)
  ·
   refine Mach.en_ite (fun g2 => ?_) (fun g2 => ?_)
   ·
    refine Mach.en_ite (fun g3 => ?_) (fun g3 => ?_)
    ·
     exact Mach.en_head (bK := Zeo 1) (M := Zbo o0 L1 n2 n3 a4 O0 N) (cd := 1000000) (cm := 0) (y := (.h1m0 (0) ((IntKind.i64.wrap (a4 + (1 : Int)))) : Za5)) (fu := 4000) (orc := (Zi [(0, true)] [] [(0, (a4).toNat)] [(0, [.i (L1.getD (a4).toNat R_iiii.z).a0])] [])) (live := [0]) (tv := [some (vs 0 o0 n2 n3), some (v0), some (vi (IntKind.i64.wrap (a4 + (1 : Int))))]) (bl := [some (.ro O0)]) (ob := [(((L1.getD (a4).toNat R_iiii.z).a0 == (15 : Int)), true), (Zz (ZC O0 ((o0 + ((a4).toNat * 4)) + 0) 1) [.i (L1.getD (a4).toNat R_iiii.z).a0], true), (Nat.blt (a4).toNat n2, true), (a4 == Int.ofNat (a4).toNat, true)]) rfl rfl (show Zx (Zeo 1).2 = [] from rfl) (by kernel_rfl) (oT <| Za ((show (o0 + (a4).toNat * 4 + 0) = ((o0 + ((a4).toNat * 4)) + 0) from by omega) ▸ F0 (a4).toNat (by omega) 0 1 (show 0 + 1 ≤ 4 from by decide)) <| oB <| oI Zd) rfl (by decide) (by rfl) ⟨rr, ⟨⟨Eq.trans (show (vi ((0 : Nat) : Int) : Value) = v0 from (congrArg (Value.int .i64) (by first | rfl | omega))) (by rfl), by rfl⟩, ⟨rr, trivial⟩⟩⟩ ⟨rfl, trivial⟩
    ·
     refine Mach.en_ite (fun g4 => ?_) (fun g4 => ?_)
     ·
      exact Mach.en_head (bK := Zeo 1) (M := Zbo o0 L1 n2 n3 a4 O0 N) (cd := 1000000) (cm := 0) (y := (.h1m0 (0) ((IntKind.i64.wrap (a4 + (1 : Int)))) : Za5)) (fu := 4000) (orc := (Zi [(0, false), (1, true)] [] [(0, (a4).toNat)] [(0, [.i (L1.getD (a4).toNat R_iiii.z).a0])] [])) (live := [0]) (tv := [some (vs 0 o0 n2 n3), some (v0), some (vi (IntKind.i64.wrap (a4 + (1 : Int))))]) (bl := [some (.ro O0)]) (ob := [(((L1.getD (a4).toNat R_iiii.z).a0 == (16 : Int)), true), (((L1.getD (a4).toNat R_iiii.z).a0 == (15 : Int)), false), (Zz (ZC O0 ((o0 + ((a4).toNat * 4)) + 0) 1) [.i (L1.getD (a4).toNat R_iiii.z).a0], true), (Nat.blt (a4).toNat n2, true), (a4 == Int.ofNat (a4).toNat, true)]) rfl rfl (show Zx (Zeo 1).2 = [] from rfl) (by kernel_rfl) (oT <| oF <| Za ((show (o0 + (a4).toNat * 4 + 0) = ((o0 + ((a4).toNat * 4)) + 0) from by omega) ▸ F0 (a4).toNat (by omega) 0 1 (show 0 + 1 ≤ 4 from by decide)) <| oB <| oI Zd) rfl (by decide) (by rfl) ⟨rr, ⟨⟨Eq.trans (show (vi ((0 : Nat) : Int) : Value) = v0 from (congrArg (Value.int .i64) (by first | rfl | omega))) (by rfl), by rfl⟩, ⟨rr, trivial⟩⟩⟩ ⟨rfl, trivial⟩
     ·
      refine Mach.en_ite (fun g5 => ?_) (fun g5 => ?_)
      ·
       refine Mach.en_bind (fun z6 c6 => ?_)
       cases z6 with
       | r0 y6_0 y6_1 =>
        exact Mach.en_fin (M := Zbo o0 L1 n2 n3 a4 O0 N) (cd := 1000000) (cm := 0) (r := (.r0 (y6_0) : Zbl)) (fu := 4000) (orc := (Zi [(0, false), (1, false), (2, true)] [] [(0, (a4).toNat)] [(0, [.i (L1.getD (a4).toNat R_iiii.z).a0])] [(0, (Zey (o0) (L1) (n2) (n3) (a4) O0 y6_0 y6_1 0 1))])) (live := [0]) (u := vi y6_0) (bl := [some (.ro O0)]) (ob := [(dP (ZdH #[vs 0 o0 n2 n3, vi a4] (o0) (L1) (n2) (n3) (a4) O0 y6_0 y6_1 0 1), true), (dS O0, true), (((L1.getD (a4).toNat R_iiii.z).a0 == (17 : Int)), true), (((L1.getD (a4).toNat R_iiii.z).a0 == (16 : Int)), false), (((L1.getD (a4).toNat R_iiii.z).a0 == (15 : Int)), false), (Zz (ZC O0 ((o0 + ((a4).toNat * 4)) + 0) 1) [.i (L1.getD (a4).toNat R_iiii.z).a0], true), (Nat.blt (a4).toNat n2, true), (a4 == Int.ofNat (a4).toNat, true)]) (by kernel_rfl) (Za (Zf (Zez #[vs 0 o0 n2 n3, vi a4] (o0) (L1) (n2) (n3) (a4) O0 F0 y6_0 y6_1 N c6 0 1 rfl (by decide) (by decide))) <| oR <| oT <| oF <| oF <| Za ((show (o0 + (a4).toNat * 4 + 0) = ((o0 + ((a4).toNat * 4)) + 0) from by omega) ▸ F0 (a4).toNat (by omega) 0 1 (show 0 + 1 ≤ 4 from by decide)) <| oB <| oI Zd) rfl (by decide) (by rfl) rr ⟨rfl, trivial⟩
      ·
       exact Mach.en_fin (M := Zbo o0 L1 n2 n3 a4 O0 N) (cd := 1000000) (cm := 0) (r := (.r0 ((-1 : Int)) : Zbl)) (fu := 4000) (orc := (Zi [(0, false), (1, false), (2, false)] [] [(0, (a4).toNat)] [(0, [.i (L1.getD (a4).toNat R_iiii.z).a0])] [])) (live := [0]) (u := vi (-1 : Int)) (bl := [some (.ro O0)]) (ob := [(((L1.getD (a4).toNat R_iiii.z).a0 == (17 : Int)), false), (((L1.getD (a4).toNat R_iiii.z).a0 == (16 : Int)), false), (((L1.getD (a4).toNat R_iiii.z).a0 == (15 : Int)), false), (Zz (ZC O0 ((o0 + ((a4).toNat * 4)) + 0) 1) [.i (L1.getD (a4).toNat R_iiii.z).a0], true), (Nat.blt (a4).toNat n2, true), (a4 == Int.ofNat (a4).toNat, true)]) (by kernel_rfl) (oF <| oF <| oF <| Za ((show (o0 + (a4).toNat * 4 + 0) = ((o0 + ((a4).toNat * 4)) + 0) from by omega) ▸ F0 (a4).toNat (by omega) 0 1 (show 0 + 1 ≤ 4 from by decide)) <| oB <| oI Zd) rfl (by decide) (by rfl) rr ⟨rfl, trivial⟩
   ·
    exact Mach.en_none
  ·
   exact Mach.en_none
 ·
  exact Mach.en_none

theorem Zq8 (o0 : Nat) (L1 : List R_iiii) (n2 n3 : Nat) (a4 : Int) (O0 : Obj) (F0 : Zs O0 o0 L1) (N : Nat) (r : Zbl) (h : Zgu L1 n2 n3 a4 N = some r) : LSpec Try.prog 31 #[vs 0 o0 n2 n3, vi a4] [.ro O0] (Zp3 o0 L1 n2 n3 a4 O0 r) (ZnX o0 L1 n2 n3 a4 O0 r) :=
 Mach.spec Zao (Zbo o0 L1 n2 n3 a4 O0 N) Try.func31 (by kernel_rfl) (by kernel_rfl) (fun x => by cases x <;> exact ZN _ rfl) (fun r => by cases r <;> exact ZN _ rfl) (fun x => by
  cases x with
  | h1m0 _ _ => exact fun _ => (show ¬ (1 ∈ Zx (Zeo 1).2) from by decide +kernel)
  ) (fun x => (show (Zbo o0 L1 n2 n3 a4 O0 N).Ok Try.prog Zr x (Zeq L1 n2 n3 a4 N x) from by
  cases x with
  | h1m0 v4 v5 => exact ZpP o0 L1 n2 n3 a4 O0 F0 v4 v5 N
  )) (Zsk o0 L1 n2 n3 a4 O0 F0 N) (n := N) h

noncomputable def ZnZ (o0 : Nat) (L1 : List R_iiii) (n2 n3 : Nat) (a4 : Int) (O0 : Obj) (w2 : Int) (k0 n : Nat) : Zak := .call [(k0, .ro O0)] (vi w2) [] 0
def ZjE (A : Array Value) (o0 : Nat) (L1 : List R_iiii) (n2 n3 : Nat) (a4 : Int) (O0 : Obj) (w2 : Int) (k0 n : Nat) : Prop := Zw Try.prog 31 A [(k0, .ro O0)] (vi w2) [] n 0

theorem Zoa (A : Array Value) (o0 : Nat) (L1 : List R_iiii) (n2 n3 : Nat) (a4 : Int) (O0 : Obj) (F0 : Zs O0 o0 L1) (w2 : Int) (N : Nat) (h : Zgu L1 n2 n3 a4 N = some (.r0 w2)) (k0 n : Nat) (hA : A = #[vs k0 o0 n2 n3, vi a4]) (hnd : ([k0] : List Nat).Nodup) (hlt : ∀ k ∈ ([k0] : List Nat), k < n) : ZjE A o0 L1 n2 n3 a4 O0 w2 k0 n :=
 Z0 hA (LSpec.callL (show LSpec Try.prog 31 #[vs 0 o0 n2 n3, vi a4] [.ro O0] (vi w2) [some (.ro O0)] from Zq8 o0 L1 n2 n3 a4 O0 F0 N _ h) [k0] n [] rfl hnd hlt (show 1 ≤ 1 from by decide) (show ∀ j ∈ ([] : List Nat), j < 1 from by decide) (by rfl) ⟨rfl, trivial⟩ (by rfl) ⟨rfl, trivial⟩ ⟨.inr rfl, trivial⟩ rfl rfl rfl (Zc (Zn rfl rfl) rfl) rfl)

noncomputable def Zob (o0 : Nat) (L1 : List R_iiii) (n2 n3 : Nat) (O0 : Obj) : Zbs → Value
 | .r0 w2 => Value.tuple #[vn, vi w2]
 | .r1 w2 => Value.tuple #[vs 1 0 w2.length w2.length, v0]
noncomputable def Zm2 (o0 : Nat) (L1 : List R_iiii) (n2 n3 : Nat) (O0 : Obj) : Zbs → List (Option AObj)
 | .r0 w2 => [some (.ro O0)]
 | .r1 w2 => [some (.ro O0), some (.cells (Zb eI w2) 3)]

def Zsl : ZaE → Nat
 | .h1m0 => 1
 | .h1m1 v4 v5 => 1
noncomputable def Zt0 (o0 : Nat) (L1 : List R_iiii) (n2 n3 : Nat) (O0 : Obj) : ZaE → List (Nat × Value)
 | .h1m0 => [(0, vs 0 o0 n2 n3), (5, vn), (6, v0)]
 | .h1m1 v4 v5 => [(0, vs 0 o0 n2 n3), (5, vs 1 0 v4.length v4.length), (6, vi (v5 : Int))]
noncomputable def Zt1 (o0 : Nat) (L1 : List R_iiii) (n2 n3 : Nat) (O0 : Obj) : ZaE → List (Option AObj)
 | .h1m0 => [some (.ro O0)]
 | .h1m1 v4 v5 => [some (.ro O0), some (.cells (Zb eI v4) 3)]

noncomputable def Ze6 : Nat → Code × List ZaO
 | 1 => Zcm [1, 1, 1, 1, 0, 1, 3] (Zc1 Try.f16) []
 | _ => (.skip, [])
def Zm3 : Nat → Bool
 | 1 => true
 | _ => true
noncomputable def Zoc (i : Nat) : List ZaO := match Zm3 i with | true => .rnd i :: (Ze6 i).2 | false => (Ze6 i).2

noncomputable def ZbH (o0 : Nat) (L1 : List R_iiii) (n2 n3 : Nat) (O0 : Obj) (N : Nat) : Mach := ⟨Try.f16, [.ro O0], ZaE, Zbs, ZdR L1 n2 n3 N, Zsl, Ze6, Zm3, Zt0 o0 L1 n2 n3 O0, Zt1 o0 L1 n2 n3 O0, Zob o0 L1 n2 n3 O0, Zm2 o0 L1 n2 n3 O0⟩

theorem ZoW (o0 : Nat) (L1 : List R_iiii) (n2 n3 : Nat) (O0 : Obj) (F0 : Zs O0 o0 L1) (N : Nat) : (ZbH o0 L1 n2 n3 O0 N).Ok Try.prog Zr (.h1m0 : ZaE) (ZdR L1 n2 n3 N (.h1m0 : ZaE)) := by
 show (ZbH o0 L1 n2 n3 O0 N).Ok Try.prog Zr (.h1m0 : ZaE) (Ze4 L1 n2 n3 N)
 unfold Ze4
 refine Mach.ok_ite (fun g0 => ?_) (fun g0 => ?_)
 ·
  refine Mach.ok_bind (fun z1 c1 => ?_)
  cases z1 with
  | r0 y1_0 =>
   exact Mach.ok_next (M := ZbH o0 L1 n2 n3 O0 N) (cd := 1000000) (cm := 0) (y := (.h1m1 (([y1_0] : List Int)) (1) : ZaE)) (fu := 4000) (orc := (Zi [(0, true)] [] [] [] [(0, (ZnZ (o0) (L1) (n2) (n3) ((0 : Int)) O0 y1_0 0 1))])) (live := [0, 2]) (tv := fun _ => [some (vs 0 o0 n2 n3), some (vs 2 0 1 1), some (vi (1 : Int))]) (bl := [some (.ro O0), some (.cells [vi y1_0] 3)]) (ob := [(dP (ZjE #[vs 0 o0 n2 n3, v0] (o0) (L1) (n2) (n3) ((0 : Int)) O0 y1_0 0 1), true), (dS O0, true), ((decide ((0 : Int) < (n2 : Int))), true)]) rfl (show 1 ∈ Zx (Zoc 1) from by decide +kernel) (fun gv => by kernel_rfl) (Za (Zf (Zoa #[vs 0 o0 n2 n3, v0] (o0) (L1) (n2) (n3) ((0 : Int)) O0 F0 y1_0 N c1 0 1 rfl (by decide) (by decide))) <| oR <| oY Zd) rfl (by decide) (by rfl) (fun _ => ⟨rr, ⟨⟨Eq.trans (show (vs 1 0 ([y1_0] : List Int).length ([y1_0] : List Int).length : Value) = vs 1 0 1 1 from (Zad rfl eqA eqA)) (by rfl), by rfl⟩, ⟨⟨Eq.trans (show (vi ((1 : Nat) : Int) : Value) = vi (1 : Int) from (congrArg (Value.int .i64) (by first | rfl | omega))) (by rfl), by rfl⟩, trivial⟩⟩⟩) ⟨rfl, ⟨(ZbO (E := eI) _ (L := ([y1_0] : List Int)) _ (show ([vi y1_0] : List Value) = Zb eI ([y1_0] : List Int) from rfl)), trivial⟩⟩
 ·
  exact Mach.ok_fin (M := ZbH o0 L1 n2 n3 O0 N) (cd := 1000000) (cm := 0) (r := (.r0 ((0 : Int)) : Zbs)) (fu := 4000) (orc := (Zi [(0, false)] [] [] [] [])) (live := [0]) (u := Value.tuple #[vn, v0]) (bl := [some (.ro O0)]) (ob := [((decide ((0 : Int) < (n2 : Int))), false)]) (fun gv => by kernel_rfl) (oN Zd) rfl (by decide) (by rfl) rr ⟨rfl, trivial⟩

theorem ZoX (o0 : Nat) (L1 : List R_iiii) (n2 n3 : Nat) (O0 : Obj) (F0 : Zs O0 o0 L1) (v4 : List Int) (v5 N : Nat) : (ZbH o0 L1 n2 n3 O0 N).Ok Try.prog Zr (.h1m1 v4 v5 : ZaE) (ZdR L1 n2 n3 N (.h1m1 v4 v5 : ZaE)) := by
 show (ZbH o0 L1 n2 n3 O0 N).Ok Try.prog Zr (.h1m1 v4 v5 : ZaE) (ZcX L1 n2 n3 N v4 v5)
 unfold ZcX
 refine Mach.ok_ite (fun g0 => ?_) (fun g0 => ?_)
 ·
  refine Mach.ok_bind (fun z1 c1 => ?_)
  cases z1 with
  | r0 y1_0 =>
   refine Mach.ok_ite (fun g2 => ?_) (fun g2 => ?_)
   ·
    refine Mach.ok_ite (fun g3 => ?_) (fun g3 => ?_)
    ·
     exact Mach.ok_next (M := ZbH o0 L1 n2 n3 O0 N) (cd := 1000000) (cm := 0) (y := (.h1m1 ((v4 ++ ([y1_0] : List Int))) ((v5 + 1)) : ZaE)) (fu := 4000) (orc := (Zi [(0, true)] [(0, (((v5 + 1) : Nat) : Int))] [] [] [(0, (ZnZ (o0) (L1) (n2) (n3) ((v5 : Int)) O0 y1_0 0 2)), (1, .ap 1 [vi y1_0] (Zb eI (v4 ++ ([y1_0] : List Int))))])) (live := [0, 3]) (tv := fun _ => [some (vs 0 o0 n2 n3), some (vs 3 0 (v4.length + 1) (v4.length + 1)), some (vi (((v5 + 1) : Nat) : Int))]) (bl := [some (.ro O0), some (.cells (Zb eI (v4 ++ ([y1_0] : List Int))) 3)]) (ob := [((IntKind.i64.wrap ((v5 : Int) + (1 : Int))) == (((v5 + 1) : Nat) : Int), true), (dP ((1 = 1 ∧ Z7 (1 * 1) (List.drop 0 [vi y1_0]) = some [vi y1_0] ∧ ZH ZaG [vi y1_0] = true) ∧ 0 < 1 ∧ 1 ≤ 100000 ∧ v4.length < v4.length + 1 ∧ v4.length ≤ 100000 ∧ v4.length * 1 ≤ (List.length (Zb eI v4)) ∧ List.take (v4.length * 1) (Zb eI v4) ++ [vi y1_0] = (Zb eI (v4 ++ ([y1_0] : List Int)))), true), (dP (ZjE #[vs 0 o0 n2 n3, vi (v5 : Int)] (o0) (L1) (n2) (n3) ((v5 : Int)) O0 y1_0 0 2), true), (dS O0, true), ((decide ((v5 : Int) < (n2 : Int))), true)]) rfl (show 1 ∈ Zx (Zoc 1) from by decide +kernel) (fun gv => by kernel_rfl) (Za (beq_iff_eq.2 ((wrap_i64 ltA).trans (by first | rfl | omega))) <| Za (Zf ⟨⟨rfl, ⟨rfl, rfl⟩⟩, by omega, by omega, ltA, by omega, (ZaW (E := eI) (L := v4) (M := ([y1_0] : List Int)) (n := v4.length) (show _ = _ * 1 from rfl) (by omega) (R := (v4 ++ ([y1_0] : List Int))) (by rw [List.take_of_length_le (by omega)]))⟩) <| Za (Zf (Zoa #[vs 0 o0 n2 n3, vi (v5 : Int)] (o0) (L1) (n2) (n3) ((v5 : Int)) O0 F0 y1_0 N c1 0 2 rfl (by decide) (by decide))) <| oR <| oY Zd) rfl (by decide) (by rfl) (fun _ => ⟨rr, ⟨⟨Eq.trans (show (vs 1 0 (v4 ++ ([y1_0] : List Int)).length (v4 ++ ([y1_0] : List Int)).length : Value) = vs 1 0 (v4.length + 1) (v4.length + 1) from (Zad rfl eqA eqA)) (by rfl), by rfl⟩, ⟨rr, trivial⟩⟩⟩) ⟨rfl, ⟨(Zg (E := eI) (α := Int) _ (v4 ++ ([y1_0] : List Int)) _), trivial⟩⟩
    ·
     exact Mach.ok_none
   ·
    exact Mach.ok_none
 ·
  exact Mach.ok_fin (M := ZbH o0 L1 n2 n3 O0 N) (cd := 1000000) (cm := 0) (r := (.r1 (v4) : Zbs)) (fu := 4000) (orc := (Zi [(0, false)] [] [] [] [])) (live := [0, 1]) (u := Value.tuple #[vs 1 0 v4.length v4.length, v0]) (bl := [some (.ro O0), some (.cells (Zb eI v4) 3)]) (ob := [((decide ((v5 : Int) < (n2 : Int))), false)]) (fun gv => by kernel_rfl) (oN Zd) rfl (by decide) (by rfl) rr ⟨rfl, ⟨(Zg (E := eI) (α := Int) _ v4 _), trivial⟩⟩

theorem Zrg (o0 : Nat) (L1 : List R_iiii) (n2 n3 : Nat) (O0 : Obj) (F0 : Zs O0 o0 L1) (N : Nat) : (ZbH o0 L1 n2 n3 O0 N).Enter Try.prog Zr #[vs 0 o0 n2 n3] (ZeD L1 n2 n3 N) := by
 unfold ZeD
 refine Mach.en_bind (fun z0 c0 => ?_)
 cases z0 with
 | r0 y0_0 =>
  refine Mach.en_ite (fun g1 => ?_) (fun g1 => ?_)
  ·
   exact Mach.en_fin (M := ZbH o0 L1 n2 n3 O0 N) (cd := 1000000) (cm := 0) (r := (.r0 (y0_0) : Zbs)) (fu := 4000) (orc := (Zi [(0, true)] [] [] [] [(0, (Zd8 (o0) (L1) (n2) (n3) O0 y0_0 0 1))])) (live := [0]) (u := Value.tuple #[vn, vi y0_0]) (bl := [some (.ro O0)]) (ob := [((y0_0 != (0 : Int)), true), (dP (ZcQ #[vs 0 o0 n2 n3] (o0) (L1) (n2) (n3) O0 y0_0 0 1), true), (dS O0, true)]) (by kernel_rfl) (oD <| Za (Zf (Zd9 #[vs 0 o0 n2 n3] (o0) (L1) (n2) (n3) O0 F0 y0_0 N c0 0 1 rfl (by decide) (by decide))) <| oR Zd) rfl (by decide) (by rfl) rr ⟨rfl, trivial⟩
  ·
   exact Mach.en_head (bK := Ze6 1) (M := ZbH o0 L1 n2 n3 O0 N) (cd := 1000000) (cm := 0) (y := (.h1m0 : ZaE)) (fu := 4000) (orc := (Zi [(0, false)] [] [] [] [(0, (Zd8 (o0) (L1) (n2) (n3) O0 y0_0 0 1))])) (live := [0]) (tv := [some (vs 0 o0 n2 n3), some (vn), some (v0)]) (bl := [some (.ro O0)]) (ob := [((y0_0 != (0 : Int)), false), (dP (ZcQ #[vs 0 o0 n2 n3] (o0) (L1) (n2) (n3) O0 y0_0 0 1), true), (dS O0, true)]) rfl rfl (show Zx (Ze6 1).2 = [] from rfl) (by kernel_rfl) (oE <| Za (Zf (Zd9 #[vs 0 o0 n2 n3] (o0) (L1) (n2) (n3) O0 F0 y0_0 N c0 0 1 rfl (by decide) (by decide))) <| oR Zd) rfl (by decide) (by rfl) ⟨rr, ⟨rr, ⟨rr, trivial⟩⟩⟩ ⟨rfl, trivial⟩

theorem ZjF (o0 : Nat) (L1 : List R_iiii) (n2 n3 : Nat) (O0 : Obj) (F0 : Zs O0 o0 L1) (N : Nat) (r : Zbs) (h : ZeR L1 n2 n3 N = some r) : LSpec Try.prog 16 #[vs 0 o0 n2 n3] [.ro O0] (Zob o0 L1 n2 n3 O0 r) (Zm2 o0 L1 n2 n3 O0 r) :=
 Mach.spec Zao (ZbH o0 L1 n2 n3 O0 N) Try.func16 (by kernel_rfl) (by kernel_rfl) (fun x => by cases x <;> exact ZN _ rfl) (fun r => by cases r <;> exact ZN _ rfl) (fun x => by
  cases x with
  | h1m0 => exact fun _ => (show ¬ (1 ∈ Zx (Ze6 1).2) from by decide +kernel)
  | h1m1 _ _ => exact fun _ => (show ¬ (1 ∈ Zx (Ze6 1).2) from by decide +kernel)
  ) (fun x => (show (ZbH o0 L1 n2 n3 O0 N).Ok Try.prog Zr x (ZdR L1 n2 n3 N x) from by
  cases x with
  | h1m0 => exact ZoW o0 L1 n2 n3 O0 F0 N
  | h1m1 v4 v5 => exact ZoX o0 L1 n2 n3 O0 F0 v4 v5 N
  )) (Zrg o0 L1 n2 n3 O0 F0 N) (n := N) h

noncomputable def Zm4 (o0 : Nat) (L1 : List R_iiii) (n2 n3 : Nat) (O0 : Obj) (w2 : Int) (k0 n : Nat) : Zak := .call [(k0, .ro O0)] (Value.tuple #[vn, vi w2]) [] 0
def ZiB (A : Array Value) (o0 : Nat) (L1 : List R_iiii) (n2 n3 : Nat) (O0 : Obj) (w2 : Int) (k0 n : Nat) : Prop := Zw Try.prog 16 A [(k0, .ro O0)] (Value.tuple #[vn, vi w2]) [] n 0

theorem Zm5 (A : Array Value) (o0 : Nat) (L1 : List R_iiii) (n2 n3 : Nat) (O0 : Obj) (F0 : Zs O0 o0 L1) (w2 : Int) (N : Nat) (h : ZeR L1 n2 n3 N = some (.r0 w2)) (k0 n : Nat) (hA : A = #[vs k0 o0 n2 n3]) (hnd : ([k0] : List Nat).Nodup) (hlt : ∀ k ∈ ([k0] : List Nat), k < n) : ZiB A o0 L1 n2 n3 O0 w2 k0 n :=
 Z0 hA (LSpec.callL (show LSpec Try.prog 16 #[vs 0 o0 n2 n3] [.ro O0] (Value.tuple #[vn, vi w2]) [some (.ro O0)] from ZjF o0 L1 n2 n3 O0 F0 N _ h) [k0] n [] rfl hnd hlt (show 1 ≤ 1 from by decide) (show ∀ j ∈ ([] : List Nat), j < 1 from by decide) (by rfl) ⟨rfl, trivial⟩ (by rfl) ⟨rfl, trivial⟩ ⟨.inr rfl, trivial⟩ rfl rfl rfl (Zc (Zn rfl rfl) rfl) rfl)

noncomputable def Zm6 (o0 : Nat) (L1 : List R_iiii) (n2 n3 : Nat) (O0 : Obj) (w2 : List Int) (k0 n : Nat) : Zak := .call [(k0, .ro O0)] (Value.tuple #[vs n 0 w2.length w2.length, v0]) [(n, some (.cells (Zb eI w2) 3))] 1
def ZiC (A : Array Value) (o0 : Nat) (L1 : List R_iiii) (n2 n3 : Nat) (O0 : Obj) (w2 : List Int) (k0 n : Nat) : Prop := Zw Try.prog 16 A [(k0, .ro O0)] (Value.tuple #[vs n 0 w2.length w2.length, v0]) [(n, some (.cells (Zb eI w2) 3))] n 1

theorem Zm7 (A : Array Value) (o0 : Nat) (L1 : List R_iiii) (n2 n3 : Nat) (O0 : Obj) (F0 : Zs O0 o0 L1) (w2 : List Int) (N : Nat) (h : ZeR L1 n2 n3 N = some (.r1 w2)) (k0 n : Nat) (hA : A = #[vs k0 o0 n2 n3]) (hnd : ([k0] : List Nat).Nodup) (hlt : ∀ k ∈ ([k0] : List Nat), k < n) : ZiC A o0 L1 n2 n3 O0 w2 k0 n :=
 Z0 hA (LSpec.callL (show LSpec Try.prog 16 #[vs 0 o0 n2 n3] [.ro O0] (Value.tuple #[vs 1 0 w2.length w2.length, v0]) [some (.ro O0), some (.cells (Zb eI w2) 3)] from ZjF o0 L1 n2 n3 O0 F0 N _ h) [k0] n [1] rfl hnd hlt (show 1 ≤ 2 from by decide) (show ∀ j ∈ ([1] : List Nat), j < 2 from by decide) (by rfl) ⟨rfl, trivial⟩ (by rfl) ⟨rfl, ⟨(Zp _ _ _), trivial⟩⟩ ⟨.inr rfl, ⟨(by decide), trivial⟩⟩ rfl rfl rfl (Zc (Zn rfl rfl) rfl) (Zc (Zn rfl (Zac (Zy _ _ _))) rfl))

noncomputable def Zm8 (o0 : Nat) (L1 : List R_iiii) (n2 n3 : Nat) (a4 : Int) (O0 : Obj) : ZF → Value
 | .r0 w2 w3 => Value.tuple #[vi w2, vi w3]
noncomputable def Zlp (o0 : Nat) (L1 : List R_iiii) (n2 n3 : Nat) (a4 : Int) (O0 : Obj) : ZF → List (Option AObj)
 | .r0 w2 w3 => [some (.ro O0)]

end Ev
end Go.Proofs.Ytpgbennpiihajaa
