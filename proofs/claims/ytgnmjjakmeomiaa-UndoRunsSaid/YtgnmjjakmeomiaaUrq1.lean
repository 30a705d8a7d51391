/- Calls do what the plain functions say. -/
import Derived.Test.YtgnmjjakmeomiaaUra
import Derived.Test.YtgnmjjakmeomiaaEvRg
namespace Go.Proofs.Ytgnmjjakmeomiaa
open Go.RowKit
namespace Ev
set_option linter.unusedVariables false
set_option maxRecDepth 100000
noncomputable def Zl9 (a0 : Int) : ZcX → Value
 | .r0 => Value.tuple #[Value.pointer none, vi (1 : Int)]
 | .r1 => Value.tuple #[vp 0 0, vq]
noncomputable def ZkK (a0 : Int) : ZcX → List (Option AObj)
 | .r0 => []
 | .r1 => [some (.cells [vi a0, vn] 60)]

theorem ZmZ (a0 : Int) (N : Nat) : Fx Try.prog Zw Try.f6 [] #[vi a0] (Zl9 a0) (ZkK a0) (ZbI a0 N) := by
 unfold ZbI
 refine Za7 (fun g0 => ?_) (fun g0 => ?_)
 ·
  exact Zau (r := (.r0 : ZcX)) (fu := 4000) (orc := (Zm [(0, true)] [] [] [] [])) (live := []) (u := Value.tuple #[Value.pointer none, vi (1 : Int)]) (bl := []) (ob := [((decide (a0 < (1 : Int))), true)]) (by kernel_rfl) (oY Zj) rfl (by decide) (by rfl) rr trivial
 ·
  refine Za7 (fun g1 => ?_) (fun g1 => ?_)
  ·
   exact Zau (r := (.r0 : ZcX)) (fu := 4000) (orc := (Zm [(0, false), (1, true)] [] [] [] [])) (live := []) (u := Value.tuple #[Value.pointer none, vi (1 : Int)]) (bl := []) (ob := [((decide (a0 > (4096 : Int))), true), ((decide (a0 < (1 : Int))), false)]) (by kernel_rfl) (oY <| oN Zj) rfl (by decide) (by rfl) rr trivial
  ·
   exact Zau (r := (.r1 : ZcX)) (fu := 4000) (orc := (Zm [(0, false), (1, false)] [] [] [] [])) (live := [0]) (u := Value.tuple #[vp 0 0, vq]) (bl := [some (.cells [vi a0, vn] 60)]) (ob := [((decide (a0 > (4096 : Int))), false), ((decide (a0 < (1 : Int))), false)]) (by kernel_rfl) (oN <| oN Zj) rfl (by decide) (by rfl) rr ⟨⟨rfl, ⟨[], by rfl⟩, by rfl⟩, trivial⟩

theorem Ziv (a0 : Int) (N : Nat) (r : ZcX) (h : ZbI a0 N = some r) : LSpec Try.prog 6 #[vi a0] [] (Zl9 a0 r) (ZkK a0 r) :=
 Zdo ZbQ Try.func6 (by kernel_rfl) (by kernel_rfl) (fun r => by cases r <;> exact ZM _ rfl) (ZmZ a0 N) h

noncomputable def Zgc (a0 : Int) (n : Nat) : Zbi := .call [] (Value.tuple #[Value.pointer none, vi (1 : Int)]) [] 0
def ZeW (A : Array Value) (a0 : Int) (n : Nat) : Prop := Z9 Try.prog 6 A [] (Value.tuple #[Value.pointer none, vi (1 : Int)]) [] n 0

theorem Zgd (A : Array Value) (a0 : Int) (N : Nat) (h : ZbI a0 N = some (.r0)) (n : Nat) (hA : A = #[vi a0]) (hnd : ([] : List Nat).Nodup) (hlt : ∀ k ∈ ([] : List Nat), k < n) : ZeW A a0  n :=
 ZW hA (LSpec.callL (show LSpec Try.prog 6 #[vi a0] [] (Value.tuple #[Value.pointer none, vi (1 : Int)]) [] from Ziv a0 N _ h) [] n [] rfl hnd hlt (show 0 ≤ 0 from by decide) (show ∀ j ∈ ([] : List Nat), j < 0 from by decide) (by rfl) trivial (by rfl) trivial trivial rfl rfl rfl rfl rfl)

noncomputable def Zge (a0 : Int) (n : Nat) : Zbi := .call [] (Value.tuple #[vp n 0, vq]) [(n, some (.cells [vi a0, vn] 60))] 1
def ZeX (A : Array Value) (a0 : Int) (n : Nat) : Prop := Z9 Try.prog 6 A [] (Value.tuple #[vp n 0, vq]) [(n, some (.cells [vi a0, vn] 60))] n 1

theorem Zgf (A : Array Value) (a0 : Int) (N : Nat) (h : ZbI a0 N = some (.r1)) (n : Nat) (hA : A = #[vi a0]) (hnd : ([] : List Nat).Nodup) (hlt : ∀ k ∈ ([] : List Nat), k < n) : ZeX A a0  n :=
 ZW hA (LSpec.callL (show LSpec Try.prog 6 #[vi a0] [] (Value.tuple #[vp 0 0, vq]) [some (.cells [vi a0, vn] 60)] from Ziv a0 N _ h) [] n [0] rfl hnd hlt (show 0 ≤ 1 from by decide) (show ∀ j ∈ ([0] : List Nat), j < 1 from by decide) (by rfl) trivial (by rfl) ⟨rfl, trivial⟩ ⟨(by decide), trivial⟩ rfl rfl rfl rfl (Zh (Z3 rfl (ZbN rfl)) rfl))

noncomputable def ZkL (a0 : Int) : Zc6 → Value
 | .r0 w0 w1 => Value.tuple #[Value.agg #[vi w0, vn], vi w1]
noncomputable def ZjO (a0 : Int) : Zc6 → List (Option AObj)
 | .r0 w0 w1 => []

theorem Zm4 (a0 : Int) (N : Nat) : Fx Try.prog Zw Try.f7 [] #[vi a0] (ZkL a0) (ZjO a0) (Zbd a0 N) := by
 unfold Zbd
 refine Za7 (fun g0 => ?_) (fun g0 => ?_)
 ·
  exact Zau (r := (.r0 ((0 : Int)) ((1 : Int)) : Zc6)) (fu := 4000) (orc := (Zm [(0, true)] [] [] [] [])) (live := []) (u := Value.tuple #[Value.agg #[vq, vn], vi (1 : Int)]) (bl := []) (ob := [((decide (a0 < (1 : Int))), true)]) (by kernel_rfl) (oY Zj) rfl (by decide) (by rfl) rr trivial
 ·
  refine Za7 (fun g1 => ?_) (fun g1 => ?_)
  ·
   exact Zau (r := (.r0 ((0 : Int)) ((1 : Int)) : Zc6)) (fu := 4000) (orc := (Zm [(0, false), (1, true)] [] [] [] [])) (live := []) (u := Value.tuple #[Value.agg #[vq, vn], vi (1 : Int)]) (bl := []) (ob := [((decide (a0 > (4096 : Int))), true), ((decide (a0 < (1 : Int))), false)]) (by kernel_rfl) (oY <| oN Zj) rfl (by decide) (by rfl) rr trivial
  ·
   exact Zau (r := (.r0 (a0) ((0 : Int)) : Zc6)) (fu := 4000) (orc := (Zm [(0, false), (1, false)] [] [] [] [])) (live := []) (u := Value.tuple #[Value.agg #[vi a0, vn], vq]) (bl := []) (ob := [((decide (a0 > (4096 : Int))), false), ((decide (a0 < (1 : Int))), false)]) (by kernel_rfl) (oN <| oN Zj) rfl (by decide) (by rfl) rr trivial

theorem Zli (a0 : Int) (N : Nat) (r : Zc6) (h : Zbd a0 N = some r) : LSpec Try.prog 7 #[vi a0] [] (ZkL a0 r) (ZjO a0 r) :=
 Zdo ZbQ Try.func7 (by kernel_rfl) (by kernel_rfl) (fun r => by cases r <;> exact ZM _ rfl) (Zm4 a0 N) h

noncomputable def ZcZ (a0 w0 w1 : Int) (n : Nat) : Zbi := .call [] (Value.tuple #[Value.agg #[vi w0, vn], vi w1]) [] 0
def Zc7 (A : Array Value) (a0 w0 w1 : Int) (n : Nat) : Prop := Z9 Try.prog 7 A [] (Value.tuple #[Value.agg #[vi w0, vn], vi w1]) [] n 0

theorem Zda (A : Array Value) (a0 w0 w1 : Int) (N : Nat) (h : Zbd a0 N = some (.r0 w0 w1)) (n : Nat) (hA : A = #[vi a0]) (hnd : ([] : List Nat).Nodup) (hlt : ∀ k ∈ ([] : List Nat), k < n) : Zc7 A a0 w0 w1  n :=
 ZW hA (LSpec.callL (show LSpec Try.prog 7 #[vi a0] [] (Value.tuple #[Value.agg #[vi w0, vn], vi w1]) [] from Zli a0 N _ h) [] n [] rfl hnd hlt (show 0 ≤ 0 from by decide) (show ∀ j ∈ ([] : List Nat), j < 0 from by decide) (by rfl) trivial (by rfl) trivial trivial rfl rfl rfl rfl rfl)

noncomputable def Zhx (a0 a1 a2 a3 a4 : Int) (b5 : Bool) (a6 a7 : Int) : ZbO → Value
 | .r0 => vq
 | .r1 => vi (4 : Int)
noncomputable def ZgN (a0 a1 a2 a3 a4 : Int) (b5 : Bool) (a6 a7 : Int) : ZbO → List (Option AObj)
 | .r0 => [some (.cells [vi a7, vs 1 0 1 1] 60), some (.cells (Ze Za ([(⟨a0, a1, a2, a3, a4, b5, a6⟩ : RB)] : List RB)) 38)]
 | .r1 => [some (.cells [vi a7, vn] 60)]

theorem Zkj (a0 a1 a2 a3 a4 : Int) (b5 : Bool) (a6 a7 : Int) (N : Nat) : Fx Try.prog Zw Try.f9 [.cells [vi a7, vn] 60] #[vp 0 0, Value.agg #[vi a0, vi a1, vi a2, vi a3, vi a4, Value.bool b5, vi a6]] (Zhx a0 a1 a2 a3 a4 b5 a6 a7) (ZgN a0 a1 a2 a3 a4 b5 a6 a7) (ZaA a0 a1 a2 a3 a4 b5 a6 a7 N) := by
 unfold ZaA
 refine Za7 (fun g0 => ?_) (fun g0 => ?_)
 ·
  exact Zau (r := (.r0 : ZbO)) (fu := 4000) (orc := (Zm [(1, true), (3, false)] [] [] [] [])) (live := [0, 3]) (u := vq) (bl := [some (.cells [vi a7, vs 3 0 1 1] 60), some (.cells [vi a0, vi a1, vi a2, vi a3, vi a4, Value.bool b5, vi a6] 38)]) (ob := [((decide ((0 : Int) ≥ a7)), false), ((decide (a7 > (0 : Int))), true)]) (by kernel_rfl) (oN <| oY Zj) rfl (by decide) (by rfl) rr ⟨⟨rfl, ⟨[], by rfl⟩, by rfl⟩, ⟨(Zc5 (E := Za) _ (L := ([(⟨a0, a1, a2, a3, a4, b5, a6⟩ : RB)] : List RB)) _ (show ([vi a0, vi a1, vi a2, vi a3, vi a4, Value.bool b5, vi a6] : List Value) = Ze Za ([(⟨a0, a1, a2, a3, a4, b5, a6⟩ : RB)] : List RB) from rfl)), trivial⟩⟩
 ·
  exact Zau (r := (.r1 : ZbO)) (fu := 4000) (orc := (Zm [(1, false)] [] [] [] [])) (live := [0]) (u := vi (4 : Int)) (bl := [some (.cells [vi a7, vn] 60)]) (ob := [((decide (a7 > (0 : Int))), false)]) (by kernel_rfl) (oN Zj) rfl (by decide) (by rfl) rr ⟨⟨rfl, ⟨[], by rfl⟩, by rfl⟩, trivial⟩

theorem Zf7 (a0 a1 a2 a3 a4 : Int) (b5 : Bool) (a6 a7 : Int) (N : Nat) (r : ZbO) (h : ZaA a0 a1 a2 a3 a4 b5 a6 a7 N = some r) : LSpec Try.prog 9 #[vp 0 0, Value.agg #[vi a0, vi a1, vi a2, vi a3, vi a4, Value.bool b5, vi a6]] [.cells [vi a7, vn] 60] (Zhx a0 a1 a2 a3 a4 b5 a6 a7 r) (ZgN a0 a1 a2 a3 a4 b5 a6 a7 r) :=
 Zdo ZbQ Try.func9 (by kernel_rfl) (by kernel_rfl) (fun r => by cases r <;> exact ZM _ rfl) (Zkj a0 a1 a2 a3 a4 b5 a6 a7 N) h

noncomputable def Zb9 (a0 a1 a2 a3 a4 : Int) (b5 : Bool) (a6 a7 : Int) (k0 n : Nat) : Zbi := .call [(k0, .cells [vi a7, vn] 60)] (vq) [(k0, some (.cells [vi a7, vs n 0 1 1] 60)), (n, some (.cells (Ze Za ([(⟨a0, a1, a2, a3, a4, b5, a6⟩ : RB)] : List RB)) 38))] 1
def Zbs (A : Array Value) (a0 a1 a2 a3 a4 : Int) (b5 : Bool) (a6 a7 : Int) (k0 n : Nat) : Prop := Z9 Try.prog 9 A [(k0, .cells [vi a7, vn] 60)] (vq) [(k0, some (.cells [vi a7, vs n 0 1 1] 60)), (n, some (.cells (Ze Za ([(⟨a0, a1, a2, a3, a4, b5, a6⟩ : RB)] : List RB)) 38))] n 1

theorem ZbA (A : Array Value) (a0 a1 a2 a3 a4 : Int) (b5 : Bool) (a6 a7 : Int) (N : Nat) (h : ZaA a0 a1 a2 a3 a4 b5 a6 a7 N = some (.r0)) (k0 n : Nat) (hA : A = #[vp k0 0, Value.agg #[vi a0, vi a1, vi a2, vi a3, vi a4, Value.bool b5, vi a6]]) (hnd : ([k0] : List Nat).Nodup) (hlt : ∀ k ∈ ([k0] : List Nat), k < n) : Zbs A a0 a1 a2 a3 a4 b5 a6 a7 k0 n :=
 ZW hA (LSpec.callL (show LSpec Try.prog 9 #[vp 0 0, Value.agg #[vi a0, vi a1, vi a2, vi a3, vi a4, Value.bool b5, vi a6]] [.cells [vi a7, vn] 60] (vq) [some (.cells [vi a7, vs 1 0 1 1] 60), some (.cells (Ze Za ([(⟨a0, a1, a2, a3, a4, b5, a6⟩ : RB)] : List RB)) 38)] from Zf7 a0 a1 a2 a3 a4 b5 a6 a7 N _ h) [k0] n [0, 1] rfl hnd hlt (show 1 ≤ 2 from by decide) (show ∀ j ∈ ([0, 1] : List Nat), j < 2 from by decide) (by rfl) ⟨rfl, trivial⟩ (by rfl) ⟨rfl, ⟨(Zz _ _ _), trivial⟩⟩ ⟨.inl (by decide), ⟨(by decide), trivial⟩⟩ rfl rfl rfl (Zh (Z3 rfl rfl) rfl) (Zh (Z3 rfl (ZbN rfl)) (Zh (Z3 rfl (ZbN (ZU _ _ _))) rfl)))

noncomputable def ZcF (a0 a1 a2 a3 a4 : Int) (b5 : Bool) (a6 a7 : Int) (k0 n : Nat) : Zbi := .call [(k0, .cells [vi a7, vn] 60)] (vi (4 : Int)) [] 0
def Zch (A : Array Value) (a0 a1 a2 a3 a4 : Int) (b5 : Bool) (a6 a7 : Int) (k0 n : Nat) : Prop := Z9 Try.prog 9 A [(k0, .cells [vi a7, vn] 60)] (vi (4 : Int)) [] n 0

theorem ZcG (A : Array Value) (a0 a1 a2 a3 a4 : Int) (b5 : Bool) (a6 a7 : Int) (N : Nat) (h : ZaA a0 a1 a2 a3 a4 b5 a6 a7 N = some (.r1)) (k0 n : Nat) (hA : A = #[vp k0 0, Value.agg #[vi a0, vi a1, vi a2, vi a3, vi a4, Value.bool b5, vi a6]]) (hnd : ([k0] : List Nat).Nodup) (hlt : ∀ k ∈ ([k0] : List Nat), k < n) : Zch A a0 a1 a2 a3 a4 b5 a6 a7 k0 n :=
 ZW hA (LSpec.callL (show LSpec Try.prog 9 #[vp 0 0, Value.agg #[vi a0, vi a1, vi a2, vi a3, vi a4, Value.bool b5, vi a6]] [.cells [vi a7, vn] 60] (vi (4 : Int)) [some (.cells [vi a7, vn] 60)] from Zf7 a0 a1 a2 a3 a4 b5 a6 a7 N _ h) [k0] n [] rfl hnd hlt (show 1 ≤ 1 from by decide) (show ∀ j ∈ ([] : List Nat), j < 1 from by decide) (by rfl) ⟨rfl, trivial⟩ (by rfl) ⟨rfl, trivial⟩ ⟨.inr rfl, trivial⟩ rfl rfl rfl (Zh (Z3 rfl rfl) rfl) rfl)

noncomputable def ZjP (a0 a1 a2 a3 a4 a5 : Int) (b6 : Bool) (a7 : Int) : ZcY → Value
 | .r0 => Value.tuple #[Value.agg #[vi a0, vn], vi (70 : Int)]
 | .r1 => Value.tuple #[Value.agg #[vi a0, vs 0 0 1 1], vq]
noncomputable def ZiY (a0 a1 a2 a3 a4 a5 : Int) (b6 : Bool) (a7 : Int) : ZcY → List (Option AObj)
 | .r0 => []
 | .r1 => [some (.cells (Ze Za ([(⟨a1, a2, a3, a4, a5, b6, a7⟩ : RB)] : List RB)) 38)]

theorem ZlG (a0 a1 a2 a3 a4 a5 : Int) (b6 : Bool) (a7 : Int) (N : Nat) : Fx Try.prog Zw Try.f10 [] #[Value.agg #[vi a0, vn], Value.agg #[vi a1, vi a2, vi a3, vi a4, vi a5, Value.bool b6, vi a7]] (ZjP a0 a1 a2 a3 a4 a5 b6 a7) (ZiY a0 a1 a2 a3 a4 a5 b6 a7) (ZaM a0 a1 a2 a3 a4 a5 b6 a7 N) := by
 unfold ZaM
 refine Za7 (fun g0 => ?_) (fun g0 => ?_)
 ·
  exact Zau (r := (.r0 : ZcY)) (fu := 4000) (orc := (Zm [(0, true)] [] [] [] [])) (live := []) (u := Value.tuple #[Value.agg #[vi a0, vn], vi (70 : Int)]) (bl := []) (ob := [((decide ((0 : Int) ≥ a0)), true)]) (by kernel_rfl) (oY Zj) rfl (by decide) (by rfl) rr trivial
 ·
  exact Zau (r := (.r1 : ZcY)) (fu := 4000) (orc := (Zm [(0, false)] [] [] [] [])) (live := [5]) (u := Value.tuple #[Value.agg #[vi a0, vs 5 0 1 1], vq]) (bl := [some (.cells [vi a1, vi a2, vi a3, vi a4, vi a5, Value.bool b6, vi a7] 38)]) (ob := [((decide ((0 : Int) ≥ a0)), false)]) (by kernel_rfl) (oN Zj) rfl (by decide) (by rfl) rr ⟨(Zc5 (E := Za) _ (L := ([(⟨a1, a2, a3, a4, a5, b6, a7⟩ : RB)] : List RB)) _ (show ([vi a1, vi a2, vi a3, vi a4, vi a5, Value.bool b6, vi a7] : List Value) = Ze Za ([(⟨a1, a2, a3, a4, a5, b6, a7⟩ : RB)] : List RB) from rfl)), trivial⟩

theorem ZgO (a0 a1 a2 a3 a4 a5 : Int) (b6 : Bool) (a7 : Int) (N : Nat) (r : ZcY) (h : ZaM a0 a1 a2 a3 a4 a5 b6 a7 N = some r) : LSpec Try.prog 10 #[Value.agg #[vi a0, vn], Value.agg #[vi a1, vi a2, vi a3, vi a4, vi a5, Value.bool b6, vi a7]] [] (ZjP a0 a1 a2 a3 a4 a5 b6 a7 r) (ZiY a0 a1 a2 a3 a4 a5 b6 a7 r) :=
 Zdo ZbQ Try.func10 (by kernel_rfl) (by kernel_rfl) (fun r => by cases r <;> exact ZM _ rfl) (ZlG a0 a1 a2 a3 a4 a5 b6 a7 N) h

noncomputable def ZaZ (a0 a1 a2 a3 a4 a5 : Int) (b6 : Bool) (a7 : Int) (n : Nat) : Zbi := .call [] (Value.tuple #[Value.agg #[vi a0, vn], vi (70 : Int)]) [] 0
def ZaT (A : Array Value) (a0 a1 a2 a3 a4 a5 : Int) (b6 : Bool) (a7 : Int) (n : Nat) : Prop := Z9 Try.prog 10 A [] (Value.tuple #[Value.agg #[vi a0, vn], vi (70 : Int)]) [] n 0

theorem Zba (A : Array Value) (a0 a1 a2 a3 a4 a5 : Int) (b6 : Bool) (a7 : Int) (N : Nat) (h : ZaM a0 a1 a2 a3 a4 a5 b6 a7 N = some (.r0)) (n : Nat) (hA : A = #[Value.agg #[vi a0, vn], Value.agg #[vi a1, vi a2, vi a3, vi a4, vi a5, Value.bool b6, vi a7]]) (hnd : ([] : List Nat).Nodup) (hlt : ∀ k ∈ ([] : List Nat), k < n) : ZaT A a0 a1 a2 a3 a4 a5 b6 a7  n :=
 ZW hA (LSpec.callL (show LSpec Try.prog 10 #[Value.agg #[vi a0, vn], Value.agg #[vi a1, vi a2, vi a3, vi a4, vi a5, Value.bool b6, vi a7]] [] (Value.tuple #[Value.agg #[vi a0, vn], vi (70 : Int)]) [] from ZgO a0 a1 a2 a3 a4 a5 b6 a7 N _ h) [] n [] rfl hnd hlt (show 0 ≤ 0 from by decide) (show ∀ j ∈ ([] : List Nat), j < 0 from by decide) (by rfl) trivial (by rfl) trivial trivial rfl rfl rfl rfl rfl)

noncomputable def ZaE (a0 a1 a2 a3 a4 a5 : Int) (b6 : Bool) (a7 : Int) (n : Nat) : Zbi := .call [] (Value.tuple #[Value.agg #[vi a0, vs n 0 1 1], vq]) [(n, some (.cells (Ze Za ([(⟨a1, a2, a3, a4, a5, b6, a7⟩ : RB)] : List RB)) 38))] 1
def Zay (A : Array Value) (a0 a1 a2 a3 a4 a5 : Int) (b6 : Bool) (a7 : Int) (n : Nat) : Prop := Z9 Try.prog 10 A [] (Value.tuple #[Value.agg #[vi a0, vs n 0 1 1], vq]) [(n, some (.cells (Ze Za ([(⟨a1, a2, a3, a4, a5, b6, a7⟩ : RB)] : List RB)) 38))] n 1

theorem ZaF (A : Array Value) (a0 a1 a2 a3 a4 a5 : Int) (b6 : Bool) (a7 : Int) (N : Nat) (h : ZaM a0 a1 a2 a3 a4 a5 b6 a7 N = some (.r1)) (n : Nat) (hA : A = #[Value.agg #[vi a0, vn], Value.agg #[vi a1, vi a2, vi a3, vi a4, vi a5, Value.bool b6, vi a7]]) (hnd : ([] : List Nat).Nodup) (hlt : ∀ k ∈ ([] : List Nat), k < n) : Zay A a0 a1 a2 a3 a4 a5 b6 a7  n :=
 ZW hA (LSpec.callL (show LSpec Try.prog 10 #[Value.agg #[vi a0, vn], Value.agg #[vi a1, vi a2, vi a3, vi a4, vi a5, Value.bool b6, vi a7]] [] (Value.tuple #[Value.agg #[vi a0, vs 0 0 1 1], vq]) [some (.cells (Ze Za ([(⟨a1, a2, a3, a4, a5, b6, a7⟩ : RB)] : List RB)) 38)] from ZgO a0 a1 a2 a3 a4 a5 b6 a7 N _ h) [] n [0] rfl hnd hlt (show 0 ≤ 1 from by decide) (show ∀ j ∈ ([0] : List Nat), j < 1 from by decide) (by rfl) trivial (by rfl) ⟨(Zz _ _ _), trivial⟩ ⟨(by decide), trivial⟩ rfl rfl rfl rfl (Zh (Z3 rfl (ZbN (ZU _ _ _))) rfl))

noncomputable def ZkM (a0 : Int) : Zey → Value
 | .r0 => Value.tuple #[Value.agg #[vi a0, vn], Value.agg #[vq, vq, vq, vq, vq, vf, vq], vf]
noncomputable def ZjQ (a0 : Int) : Zey → List (Option AObj)
 | .r0 => []

theorem Zm5 (a0 : Int) (N : Nat) : Fx Try.prog Zw Try.f12 [] #[Value.agg #[vi a0, vn]] (ZkM a0) (ZjQ a0) (Zb8 a0 N) := by
 unfold Zb8
 exact Zau (r := (.r0 : Zey)) (fu := 4000) (orc := (Zm [] [] [] [] [])) (live := []) (u := Value.tuple #[Value.agg #[vi a0, vn], Value.agg #[vq, vq, vq, vq, vq, vf, vq], vf]) (bl := []) (ob := []) (by kernel_rfl) Zj rfl (by decide) (by rfl) rr trivial

theorem Zlj (a0 : Int) (N : Nat) (r : Zey) (h : Zb8 a0 N = some r) : LSpec Try.prog 12 #[Value.agg #[vi a0, vn]] [] (ZkM a0 r) (ZjQ a0 r) :=
 Zdo ZbQ Try.func12 (by kernel_rfl) (by kernel_rfl) (fun r => by cases r <;> exact ZM _ rfl) (Zm5 a0 N) h

noncomputable def Zcc (a0 : Int) (n : Nat) : Zbi := .call [] (Value.tuple #[Value.agg #[vi a0, vn], Value.agg #[vq, vq, vq, vq, vq, vf, vq], vf]) [] 0
def ZbF (A : Array Value) (a0 : Int) (n : Nat) : Prop := Z9 Try.prog 12 A [] (Value.tuple #[Value.agg #[vi a0, vn], Value.agg #[vq, vq, vq, vq, vq, vf, vq], vf]) [] n 0

theorem Zcd (A : Array Value) (a0 : Int) (N : Nat) (h : Zb8 a0 N = some (.r0)) (n : Nat) (hA : A = #[Value.agg #[vi a0, vn]]) (hnd : ([] : List Nat).Nodup) (hlt : ∀ k ∈ ([] : List Nat), k < n) : ZbF A a0  n :=
 ZW hA (LSpec.callL (show LSpec Try.prog 12 #[Value.agg #[vi a0, vn]] [] (Value.tuple #[Value.agg #[vi a0, vn], Value.agg #[vq, vq, vq, vq, vq, vf, vq], vf]) [] from Zlj a0 N _ h) [] n [] rfl hnd hlt (show 0 ≤ 0 from by decide) (show ∀ j ∈ ([] : List Nat), j < 0 from by decide) (by rfl) trivial (by rfl) trivial trivial rfl rfl rfl rfl rfl)

noncomputable def ZkN (a0 a1 a2 a3 : Int) : Zbp → Value
 | .r0 => Value.tuple #[Value.agg #[vq, vq], vf]
noncomputable def Zkk (a0 a1 a2 a3 : Int) : Zbp → List (Option AObj)
 | .r0 => [some (.cells [vi a3, vn] 60)]

noncomputable def outD (live : List Nat) (r : Out) : Option (Value × List (Option AObj) × List (Bool × Bool)) :=
 match r with
 | some (u, s) => bif Nat.ble s.n 1000000000 then some (u, live.map s.h.get, s.ob) else none
 | none => none
theorem Zgg {P : Program} {f : FuncId} {g : Array Value → St → Out} (hd : ZjX P f g) {A : Array Value} {pre : List AObj} {v u : Value} {post : List (Option AObj)} {orc : Orc} {live : List Nat} {bl : List (Option AObj)} {ob : List (Bool × Bool)} (hev : outD live (g A ⟨Zd2 0 pre, pre.length, [], orc, []⟩) = some (u, bl, ob)) (ho : ∀ p ∈ ob, p.1 = p.2) (hle : post.length ≤ far)
  (hl : live.length = post.length) (hn : live.Nodup) (hk : ZbZ pre.length live = true) (hv : v = ZaC (rho live far) 3 u ∧ Zaf 3 u = true) (hbl : Za9 (rho live far) bl post) : LSpec P f A pre v post := by
 intro ι w args' hdm ha he
 unfold outD at hev
 split at hev
 · rename_i u' s h1
   obtain ⟨hnn, hev⟩ := Zr hev
   injection hev with hev; simp only [Prod.mk.injEq] at hev; obtain ⟨rfl, rfl, rfl⟩ := hev
   refine (hd.does A _ u' s h1 ho ι w args' ha (by show Emb P ι (Zd2 0 pre).get w; rw [Zep]; exact he) ⟨Nat.le_of_ble_eq_true hnn, fun k k1 _ => by
    cases hk2 : ι k with
    | none => rfl
    | some b => exact absurd (hdm k (by rw [hk2]; simp)) (by have : pre.length ≤ k := k1; omega)⟩).mono ?_
   rintro e w' ⟨v', ι', rfl, g1, _, g3⟩
   exact ZkA hle hdm ⟨hl, hn, hk, hv, ZdD hbl⟩ (by have := g1; simp only [Zep] at this; exact this) g3
 · cases hev
noncomputable def ZdN : Nat × Code := match (Try.f21).body with
 | some (.seq _ (.block id (.loop cB))) => (id, cB)
 | _ => (0, .skip)
noncomputable def ZdO : Code × Code := match (Try.f13).body with
 | some (.seq _ (.seq _ (.seq _ (.seq _ (.seq (.seq _ (.block _ (.rangeFunc _ _ asg body))) _))))) => (asg, body)
 | _ => (.skip, .skip)
noncomputable def Zbu : List (Nat × Value) := [(4, vp 2 0), (5, vp 3 0), (6, vp 4 0), (7, vf), (8, vp 5 0), (9, vp 6 0), (18, .func (.func 21) #[vp 0 0] #[])]
theorem Zi0 (a0 a1 a2 a3 : Int) (N : Nat) (r : Zbp) (h : Zez a0 a1 a2 a3 N = some r) : LSpec Try.prog 13 #[vp 0 0, Value.agg #[vi a0, vi a1], vi a2] [.cells [vi a3, vn] 60] (ZkN a0 a1 a2 a3 r) (Zkk a0 a1 a2 a3 r) := by
 cases r with
 | r0 =>
 by_cases g0 : (0 : Int) < a3
 · exact Zgg (ZdI (fu := 4000) ZhL Try.func13 rfl) (orc := Zm [(1, true)] [] [] [] []) (live := [0]) (u := Value.tuple #[Value.agg #[vq, vq], vf]) (bl := [some (.cells [vi a3, vn] 60)]) (ob := [((decide (a3 > (0 : Int))), true)]) (by kernel_rfl) (oY Zj) (ZM _ rfl) rfl (by decide) (by rfl) rr ⟨⟨rfl, ⟨[], by rfl⟩, by rfl⟩, trivial⟩
 · exact Zgg (ZdI (fu := 4000) ZhL Try.func13 rfl) (orc := Zm [(1, false)] [] [] [] []) (live := [0]) (u := Value.tuple #[Value.agg #[vq, vq], vf]) (bl := [some (.cells [vi a3, vn] 60)]) (ob := [((decide (a3 > (0 : Int))), false)]) (by kernel_rfl) (oN Zj) (ZM _ rfl) rfl (by decide) (by rfl) rr ⟨⟨rfl, ⟨[], by rfl⟩, by rfl⟩, trivial⟩

noncomputable def Zkl (a0 a1 a2 a3 : Int) (k0 n : Nat) : Zbi := .call [(k0, .cells [vi a3, vn] 60)] (Value.tuple #[Value.agg #[vq, vq], vf]) [] 0
def Zg3 (A : Array Value) (a0 a1 a2 a3 : Int) (k0 n : Nat) : Prop := Z9 Try.prog 13 A [(k0, .cells [vi a3, vn] 60)] (Value.tuple #[Value.agg #[vq, vq], vf]) [] n 0

theorem Zkm (A : Array Value) (a0 a1 a2 a3 : Int) (N : Nat) (h : Zez a0 a1 a2 a3 N = some (.r0)) (k0 n : Nat) (hA : A = #[vp k0 0, Value.agg #[vi a0, vi a1], vi a2]) (hnd : ([k0] : List Nat).Nodup) (hlt : ∀ k ∈ ([k0] : List Nat), k < n) : Zg3 A a0 a1 a2 a3 k0 n :=
 ZW hA (LSpec.callL (show LSpec Try.prog 13 #[vp 0 0, Value.agg #[vi a0, vi a1], vi a2] [.cells [vi a3, vn] 60] (Value.tuple #[Value.agg #[vq, vq], vf]) [some (.cells [vi a3, vn] 60)] from Zi0 a0 a1 a2 a3 N _ h) [k0] n [] rfl hnd hlt (show 1 ≤ 1 from by decide) (show ∀ j ∈ ([] : List Nat), j < 1 from by decide) (by rfl) ⟨rfl, trivial⟩ (by rfl) ⟨rfl, trivial⟩ ⟨.inr rfl, trivial⟩ rfl rfl rfl (Zh (Z3 rfl rfl) rfl) rfl)

noncomputable def ZiZ (a0 a1 a2 a3 : Int) : ZbD → Value
 | .r0 => Value.tuple #[Value.agg #[vq, vq], vf]
noncomputable def Ziw (a0 a1 a2 a3 : Int) : ZbD → List (Option AObj)
 | .r0 => []

def ZlH : ZaS → Nat
 | .h1m0 => 1
noncomputable def Zm6 (a0 a1 a2 a3 : Int) : ZaS → List (Nat × Value)
 | .h1m0 => [(2, vi a3), (3, vp 0 0), (4, vp 1 0), (6, vp 2 0), (8, vq)]
noncomputable def Zm7 (a0 a1 a2 a3 : Int) : ZaS → List (Option AObj)
 | .h1m0 => [some (.cells [vi a0, vn] 29), some (.cells [vi a1, vi a2] 35), some (.cells [vq, vq] 35)]

noncomputable def ZeY : Nat → Code × List ZaY
 | 1 => ZcR [1, 0, 1, 3] (ZdJ Try.f14) []
 | _ => (.skip, [])
def ZlI : Nat → Bool
 | 1 => true
 | _ => true
noncomputable def Zdi (a0 a1 a2 a3 : Int) (N : Nat) : Mach := ⟨Try.f14, [], ZaS, ZbD, Zef a0 a1 a2 a3 N, ZlH, ZeY, ZlI, Zm6 a0 a1 a2 a3, Zm7 a0 a1 a2 a3, ZiZ a0 a1 a2 a3, Ziw a0 a1 a2 a3⟩

theorem Zj4 (a0 a1 a2 a3 : Int) (N : Nat) : (Zdi a0 a1 a2 a3 N).Ok Try.prog Zw (.h1m0 : ZaS) (Zef a0 a1 a2 a3 N (.h1m0 : ZaS)) := by
 show (Zdi a0 a1 a2 a3 N).Ok Try.prog Zw (.h1m0 : ZaS) (ZeJ a0 a1 a2 a3 N)
 unfold ZeJ
 exact Mach.ok_fin (M := Zdi a0 a1 a2 a3 N) (cd := 1000000) (cm := 0) (r := (.r0 : ZbD)) (fu := 4000) (orc := (Zm [] [] [] [] [])) (live := []) (u := Value.tuple #[Value.agg #[vq, vq], vf]) (bl := []) (ob := []) (fun gv => by kernel_rfl) Zj rfl (by decide) (by rfl) rr trivial

theorem Zlk (a0 a1 a2 a3 : Int) (N : Nat) : (Zdi a0 a1 a2 a3 N).Enter Try.prog Zw #[Value.agg #[vi a0, vn], Value.agg #[vi a1, vi a2], vi a3] (ZeE a0 a1 a2 a3 N) := by
 unfold ZeE
 exact Mach.en_head (bK := ZeY 1) (M := Zdi a0 a1 a2 a3 N) (cd := 1000000) (cm := 0) (y := (.h1m0 : ZaS)) (fu := 4000) (orc := (Zm [] [] [] [] [])) (live := [0, 1, 2]) (tv := [some (vi a3), some (vp 0 0), some (vp 1 0), some (vp 2 0), some (vq)]) (bl := [some (.cells [vi a0, vn] 29), some (.cells [vi a1, vi a2] 35), some (.cells [vq, vq] 35)]) (ob := []) rfl rfl (show Zn (ZeY 1).2 = [] from rfl) (by kernel_rfl) Zj rfl (by decide) (by rfl) ⟨rr, ⟨rr, ⟨rr, ⟨rr, ⟨rr, trivial⟩⟩⟩⟩⟩ ⟨⟨rfl, ⟨[], by rfl⟩, by rfl⟩, ⟨⟨rfl, ⟨[], by rfl⟩, by rfl⟩, ⟨⟨rfl, ⟨[], by rfl⟩, by rfl⟩, trivial⟩⟩⟩

theorem Zkn (a0 a1 a2 a3 : Int) (N : Nat) (r : ZbD) (h : ZdY a0 a1 a2 a3 N = some r) : LSpec Try.prog 14 #[Value.agg #[vi a0, vn], Value.agg #[vi a1, vi a2], vi a3] [] (ZiZ a0 a1 a2 a3 r) (Ziw a0 a1 a2 a3 r) :=
 Mach.spec ZbQ (Zdi a0 a1 a2 a3 N) Try.func14 (by kernel_rfl) (by kernel_rfl) (fun x => by cases x <;> exact ZM _ rfl) (fun r => by cases r <;> exact ZM _ rfl) (fun x => by
  cases x with
  | h1m0 => exact fun _ => (show ¬ (1 ∈ Zn (ZeY 1).2) from by decide +kernel)
  ) (fun x => (show (Zdi a0 a1 a2 a3 N).Ok Try.prog Zw x (Zef a0 a1 a2 a3 N x) from by
  cases x with
  | h1m0 => exact Zj4 a0 a1 a2 a3 N
  )) (Zlk a0 a1 a2 a3 N) (n := N) h

noncomputable def ZcO (a0 a1 a2 a3 : Int) (n : Nat) : Zbi := .call [] (Value.tuple #[Value.agg #[vq, vq], vf]) [] 0
def Zcn (A : Array Value) (a0 a1 a2 a3 : Int) (n : Nat) : Prop := Z9 Try.prog 14 A [] (Value.tuple #[Value.agg #[vq, vq], vf]) [] n 0

theorem ZcP (A : Array Value) (a0 a1 a2 a3 : Int) (N : Nat) (h : ZdY a0 a1 a2 a3 N = some (.r0)) (n : Nat) (hA : A = #[Value.agg #[vi a0, vn], Value.agg #[vi a1, vi a2], vi a3]) (hnd : ([] : List Nat).Nodup) (hlt : ∀ k ∈ ([] : List Nat), k < n) : Zcn A a0 a1 a2 a3  n :=
 ZW hA (LSpec.callL (show LSpec Try.prog 14 #[Value.agg #[vi a0, vn], Value.agg #[vi a1, vi a2], vi a3] [] (Value.tuple #[Value.agg #[vq, vq], vf]) [] from Zkn a0 a1 a2 a3 N _ h) [] n [] rfl hnd hlt (show 0 ≤ 0 from by decide) (show ∀ j ∈ ([] : List Nat), j < 0 from by decide) (by rfl) trivial (by rfl) trivial trivial rfl rfl rfl rfl rfl)

noncomputable def Zhy (a0 : Int) : ZbP → Value
 | .r0 => vp 1 0
 | .r1 => Value.pointer none
noncomputable def ZgP (a0 : Int) : ZbP → List (Option AObj)
 | .r0 => [some (.cells [vi a0, vn] 60), some (.cells [vi a0, vn] 60)]
 | .r1 => [some (.cells [vi a0, vn] 60)]

theorem Zko (a0 : Int) (N : Nat) : Fx Try.prog Zw Try.f16 [.cells [vi a0, vn] 60] #[vp 0 0] (Zhy a0) (ZgP a0) (ZcL a0 N) := by
 unfold ZcL
 refine Za7 (fun g0 => ?_) (fun g0 => ?_)
 ·
  exact Zau (r := (.r0 : ZbP)) (fu := 4000) (orc := (Zm [(1, true), (4, true)] [] [] [] [])) (live := [0, 1]) (u := vp 1 0) (bl := [some (.cells [vi a0, vn] 60), some (.cells [vi a0, vn] 60)]) (ob := [((decide (a0 > (0 : Int))), true), ((decide (a0 > (0 : Int))), true)]) (by kernel_rfl) (oY <| oY Zj) rfl (by decide) (by rfl) rr ⟨⟨rfl, ⟨[], by rfl⟩, by rfl⟩, ⟨⟨rfl, ⟨[], by rfl⟩, by rfl⟩, trivial⟩⟩
 ·
  exact Zau (r := (.r1 : ZbP)) (fu := 4000) (orc := (Zm [(1, false)] [] [] [] [])) (live := [0]) (u := Value.pointer none) (bl := [some (.cells [vi a0, vn] 60)]) (ob := [((decide (a0 > (0 : Int))), false)]) (by kernel_rfl) (oN Zj) rfl (by decide) (by rfl) rr ⟨⟨rfl, ⟨[], by rfl⟩, by rfl⟩, trivial⟩

theorem Zf8 (a0 : Int) (N : Nat) (r : ZbP) (h : ZcL a0 N = some r) : LSpec Try.prog 16 #[vp 0 0] [.cells [vi a0, vn] 60] (Zhy a0 r) (ZgP a0 r) :=
 Zdo ZbQ Try.func16 (by kernel_rfl) (by kernel_rfl) (fun r => by cases r <;> exact ZM _ rfl) (Zko a0 N) h

noncomputable def Zej (a0 : Int) (k0 n : Nat) : Zbi := .call [(k0, .cells [vi a0, vn] 60)] (vp n 0) [(n, some (.cells [vi a0, vn] 60))] 1
def Zdx (A : Array Value) (a0 : Int) (k0 n : Nat) : Prop := Z9 Try.prog 16 A [(k0, .cells [vi a0, vn] 60)] (vp n 0) [(n, some (.cells [vi a0, vn] 60))] n 1

theorem Zek (A : Array Value) (a0 : Int) (N : Nat) (h : ZcL a0 N = some (.r0)) (k0 n : Nat) (hA : A = #[vp k0 0]) (hnd : ([k0] : List Nat).Nodup) (hlt : ∀ k ∈ ([k0] : List Nat), k < n) : Zdx A a0 k0 n :=
 ZW hA (LSpec.callL (show LSpec Try.prog 16 #[vp 0 0] [.cells [vi a0, vn] 60] (vp 1 0) [some (.cells [vi a0, vn] 60), some (.cells [vi a0, vn] 60)] from Zf8 a0 N _ h) [k0] n [1] rfl hnd hlt (show 1 ≤ 2 from by decide) (show ∀ j ∈ ([1] : List Nat), j < 2 from by decide) (by rfl) ⟨rfl, trivial⟩ (by rfl) ⟨rfl, ⟨rfl, trivial⟩⟩ ⟨.inr rfl, ⟨(by decide), trivial⟩⟩ rfl rfl rfl (Zh (Z3 rfl rfl) rfl) (Zh (Z3 rfl (ZbN rfl)) rfl))

noncomputable def ZkO (a0 : Int) (k0 n : Nat) : Zbi := .call [(k0, .cells [vi a0, vn] 60)] (Value.pointer none) [] 0
def ZgQ (A : Array Value) (a0 : Int) (k0 n : Nat) : Prop := Z9 Try.prog 16 A [(k0, .cells [vi a0, vn] 60)] (Value.pointer none) [] n 0

theorem ZkP (A : Array Value) (a0 : Int) (N : Nat) (h : ZcL a0 N = some (.r1)) (k0 n : Nat) (hA : A = #[vp k0 0]) (hnd : ([k0] : List Nat).Nodup) (hlt : ∀ k ∈ ([k0] : List Nat), k < n) : ZgQ A a0 k0 n :=
 ZW hA (LSpec.callL (show LSpec Try.prog 16 #[vp 0 0] [.cells [vi a0, vn] 60] (Value.pointer none) [some (.cells [vi a0, vn] 60)] from Zf8 a0 N _ h) [k0] n [] rfl hnd hlt (show 1 ≤ 1 from by decide) (show ∀ j ∈ ([] : List Nat), j < 1 from by decide) (by rfl) ⟨rfl, trivial⟩ (by rfl) ⟨rfl, trivial⟩ ⟨.inr rfl, trivial⟩ rfl rfl rfl (Zh (Z3 rfl rfl) rfl) rfl)

noncomputable def Zhz (L0 L1 : List RB) : Zah → Value
 | .r0 w2 => Value.bool w2
noncomputable def ZgR (L0 L1 : List RB) : Zah → List (Option AObj)
 | .r0 w2 => [some (.cells (Ze Za L0) 38), some (.cells (Ze Za L1) 38)]

def ZkQ : ZX → Nat
 | .h1m0 v2 => 1
noncomputable def Zll (L0 L1 : List RB) : ZX → List (Nat × Value)
 | .h1m0 v2 => [(0, vs 0 0 L0.length L0.length), (1, vs 1 0 L1.length L1.length), (5, vi (v2 : Int))]
noncomputable def Zlm (L0 L1 : List RB) : ZX → List (Option AObj)
 | .h1m0 v2 => [some (.cells (Ze Za L0) 38), some (.cells (Ze Za L1) 38)]

noncomputable def Zdc : Nat → Code × List ZaY
 | 1 => ZcR [1, 1, 0, 1, 3] (ZdJ Try.f18) []
 | _ => (.skip, [])
def ZgS : Nat → Bool
 | 1 => true
 | _ => true
noncomputable def Zln (i : Nat) : List ZaY := match ZgS i with | true => .rnd i :: (Zdc i).2 | false => (Zdc i).2

noncomputable def Zbc (L0 L1 : List RB) (N : Nat) : Mach := ⟨Try.f18, [.cells (Ze Za L0) 38, .cells (Ze Za L1) 38], ZX, Zah, ZcS L0 L1 N, ZkQ, Zdc, ZgS, Zll L0 L1, Zlm L0 L1, Zhz L0 L1, ZgR L0 L1⟩

theorem Zi1 (L0 L1 : List RB) (v2 N : Nat) : (Zbc L0 L1 N).Ok Try.prog Zw (.h1m0 v2 : ZX) (ZcS L0 L1 N (.h1m0 v2 : ZX)) := by
 show (Zbc L0 L1 N).Ok Try.prog Zw (.h1m0 v2 : ZX) (Zbt L0 L1 N v2)
 unfold Zbt
 refine Mach.ok_ite (fun g0 => ?_) (fun g0 => ?_)
 ·
  refine Mach.ok_ite (fun g1 => ?_) (fun g1 => ?_)
  ·
   refine Mach.ok_ite (fun g2 => ?_) (fun g2 => ?_)
   ·
    exact Mach.ok_fin (M := Zbc L0 L1 N) (cd := 1000000) (cm := 0) (r := (.r0 (false) : Zah)) (fu := 4000) (orc := (Zm [(0, true), (1, true)] [] [(0, v2), (1, v2)] [(0, [.i (L0.getD v2 RB.z).a0, .i (L0.getD v2 RB.z).a1, .i (L0.getD v2 RB.z).a2, .i (L0.getD v2 RB.z).a3, .i (L0.getD v2 RB.z).a4, .b (L0.getD v2 RB.z).a5, .i (L0.getD v2 RB.z).a6]), (1, [.i (L1.getD v2 RB.z).a0, .i (L1.getD v2 RB.z).a1, .i (L1.getD v2 RB.z).a2, .i (L1.getD v2 RB.z).a3, .i (L1.getD v2 RB.z).a4, .b (L1.getD v2 RB.z).a5, .i (L1.getD v2 RB.z).a6])] [])) (live := [0, 1]) (u := vf) (bl := [some (.cells (Ze Za L0) 38), some (.cells (Ze Za L1) 38)]) (ob := [((!((((L0.getD v2 RB.z).a0 == (L1.getD v2 RB.z).a0) && (((L0.getD v2 RB.z).a1 == (L1.getD v2 RB.z).a1) && true)) && (((L0.getD v2 RB.z).a2 == (L1.getD v2 RB.z).a2) && ((((L0.getD v2 RB.z).a3 == (L1.getD v2 RB.z).a3) && (((L0.getD v2 RB.z).a4 == (L1.getD v2 RB.z).a4) && true)) && (((L0.getD v2 RB.z).a5 == (L1.getD v2 RB.z).a5) && (((L0.getD v2 RB.z).a6 == (L1.getD v2 RB.z).a6) && true)))))), true), (Zo (Zv 7 (List.drop (0 + (v2 * 7)) (Ze Za L1))) [.i (L1.getD v2 RB.z).a0, .i (L1.getD v2 RB.z).a1, .i (L1.getD v2 RB.z).a2, .i (L1.getD v2 RB.z).a3, .i (L1.getD v2 RB.z).a4, .b (L1.getD v2 RB.z).a5, .i (L1.getD v2 RB.z).a6], true), (Nat.blt v2 L1.length, true), ((v2 : Int) == Int.ofNat v2, true), (Zo (Zv 7 (List.drop (0 + (v2 * 7)) (Ze Za L0))) [.i (L0.getD v2 RB.z).a0, .i (L0.getD v2 RB.z).a1, .i (L0.getD v2 RB.z).a2, .i (L0.getD v2 RB.z).a3, .i (L0.getD v2 RB.z).a4, .b (L0.getD v2 RB.z).a5, .i (L0.getD v2 RB.z).a6], true), (Nat.blt v2 L0.length, true), ((v2 : Int) == Int.ofNat v2, true), ((decide ((v2 : Int) < (L0.length : Int))), true)]) (fun gv => by kernel_rfl) (Zb (by rw [Bool.not_eq_true']; exact Bool.eq_false_iff.2 (by simp only [ne_eq, Bool.and_true, Bool.and_eq_true, beq_iff_eq]; first | omega | (intro hh; simp_all; done) | (intro hh; grind))) <| Zb (Z8 (E := Za) (L := L1) (i := v2) (q := 0) (by omega) (show (0 + (v2 * 7)) = v2 * 7 + 0 from by omega) (show 0 + 7 ≤ 7 from by decide) rfl rfl) <| oB <| oI <| Zb (Z8 (E := Za) (L := L0) (i := v2) (q := 0) (by omega) (show (0 + (v2 * 7)) = v2 * 7 + 0 from by omega) (show 0 + 7 ≤ 7 from by decide) rfl rfl) <| oB <| oI <| oY Zj) rfl (by decide) (by rfl) rr ⟨(Zk (E := Za) (α := RB) _ L0 _), ⟨(Zk (E := Za) (α := RB) _ L1 _), trivial⟩⟩
   ·
    refine Mach.ok_ite (fun g3 => ?_) (fun g3 => ?_)
    ·
     exact Mach.ok_next (M := Zbc L0 L1 N) (cd := 1000000) (cm := 0) (y := (.h1m0 ((v2 + 1)) : ZX)) (fu := 4000) (orc := (Zm [(0, true), (1, false)] [(0, (((v2 + 1) : Nat) : Int))] [(0, v2), (1, v2)] [(0, [.i (L0.getD v2 RB.z).a0, .i (L0.getD v2 RB.z).a1, .i (L0.getD v2 RB.z).a2, .i (L0.getD v2 RB.z).a3, .i (L0.getD v2 RB.z).a4, .b (L0.getD v2 RB.z).a5, .i (L0.getD v2 RB.z).a6]), (1, [.i (L1.getD v2 RB.z).a0, .i (L1.getD v2 RB.z).a1, .i (L1.getD v2 RB.z).a2, .i (L1.getD v2 RB.z).a3, .i (L1.getD v2 RB.z).a4, .b (L1.getD v2 RB.z).a5, .i (L1.getD v2 RB.z).a6])] [])) (live := [0, 1]) (tv := fun _ => [some (vs 0 0 L0.length L0.length), some (vs 1 0 L1.length L1.length), some (vi (((v2 + 1) : Nat) : Int))]) (bl := [some (.cells (Ze Za L0) 38), some (.cells (Ze Za L1) 38)]) (ob := [((IntKind.i64.wrap ((v2 : Int) + (1 : Int))) == (((v2 + 1) : Nat) : Int), true), ((!((((L0.getD v2 RB.z).a0 == (L1.getD v2 RB.z).a0) && (((L0.getD v2 RB.z).a1 == (L1.getD v2 RB.z).a1) && true)) && (((L0.getD v2 RB.z).a2 == (L1.getD v2 RB.z).a2) && ((((L0.getD v2 RB.z).a3 == (L1.getD v2 RB.z).a3) && (((L0.getD v2 RB.z).a4 == (L1.getD v2 RB.z).a4) && true)) && (((L0.getD v2 RB.z).a5 == (L1.getD v2 RB.z).a5) && (((L0.getD v2 RB.z).a6 == (L1.getD v2 RB.z).a6) && true)))))), false), (Zo (Zv 7 (List.drop (0 + (v2 * 7)) (Ze Za L1))) [.i (L1.getD v2 RB.z).a0, .i (L1.getD v2 RB.z).a1, .i (L1.getD v2 RB.z).a2, .i (L1.getD v2 RB.z).a3, .i (L1.getD v2 RB.z).a4, .b (L1.getD v2 RB.z).a5, .i (L1.getD v2 RB.z).a6], true), (Nat.blt v2 L1.length, true), ((v2 : Int) == Int.ofNat v2, true), (Zo (Zv 7 (List.drop (0 + (v2 * 7)) (Ze Za L0))) [.i (L0.getD v2 RB.z).a0, .i (L0.getD v2 RB.z).a1, .i (L0.getD v2 RB.z).a2, .i (L0.getD v2 RB.z).a3, .i (L0.getD v2 RB.z).a4, .b (L0.getD v2 RB.z).a5, .i (L0.getD v2 RB.z).a6], true), (Nat.blt v2 L0.length, true), ((v2 : Int) == Int.ofNat v2, true), ((decide ((v2 : Int) < (L0.length : Int))), true)]) rfl (show 1 ∈ Zn (Zln 1) from by decide +kernel) (fun gv => by kernel_rfl) (Zb (beq_iff_eq.2 ((wrap_i64 ltA).trans (by first | rfl | omega))) <| Zb (by rw [Bool.not_eq_false']; first | (simp only [beq_self_eq_true, Bool.and_self]; done) | (simp only [Bool.and_true, Bool.and_eq_true, beq_iff_eq] <;> first | omega | (simp_all; done) | grind)) <| Zb (Z8 (E := Za) (L := L1) (i := v2) (q := 0) (by omega) (show (0 + (v2 * 7)) = v2 * 7 + 0 from by omega) (show 0 + 7 ≤ 7 from by decide) rfl rfl) <| oB <| oI <| Zb (Z8 (E := Za) (L := L0) (i := v2) (q := 0) (by omega) (show (0 + (v2 * 7)) = v2 * 7 + 0 from by omega) (show 0 + 7 ≤ 7 from by decide) rfl rfl) <| oB <| oI <| oY Zj) rfl (by decide) (by rfl) (fun _ => ⟨rr, ⟨rr, ⟨rr, trivial⟩⟩⟩) ⟨(Zk (E := Za) (α := RB) _ L0 _), ⟨(Zk (E := Za) (α := RB) _ L1 _), trivial⟩⟩
    ·
     exact Mach.ok_none
  ·
   exact Mach.ok_none
 ·
  exact Mach.ok_fin (M := Zbc L0 L1 N) (cd := 1000000) (cm := 0) (r := (.r0 (true) : Zah)) (fu := 4000) (orc := (Zm [(0, false)] [] [] [] [])) (live := [0, 1]) (u := vT) (bl := [some (.cells (Ze Za L0) 38), some (.cells (Ze Za L1) 38)]) (ob := [((decide ((v2 : Int) < (L0.length : Int))), false)]) (fun gv => by kernel_rfl) (oN Zj) rfl (by decide) (by rfl) rr ⟨(Zk (E := Za) (α := RB) _ L0 _), ⟨(Zk (E := Za) (α := RB) _ L1 _), trivial⟩⟩

theorem Zkp (L0 L1 : List RB) (N : Nat) : (Zbc L0 L1 N).Enter Try.prog Zw #[vs 0 0 L0.length L0.length, vs 1 0 L1.length L1.length] (Zeg L0 L1 N) := by
 unfold Zeg
 refine Mach.en_ite (fun g0 => ?_) (fun g0 => ?_)
 ·
  exact Mach.en_fin (M := Zbc L0 L1 N) (cd := 1000000) (cm := 0) (r := (.r0 (false) : Zah)) (fu := 4000) (orc := (Zm [(0, true)] [] [] [] [])) (live := [0, 1]) (u := vf) (bl := [some (.cells (Ze Za L0) 38), some (.cells (Ze Za L1) 38)]) (ob := [(((L0.length : Int) != (L1.length : Int)), true)]) (by kernel_rfl) (oD Zj) rfl (by decide) (by rfl) rr ⟨(Zk (E := Za) (α := RB) _ L0 _), ⟨(Zk (E := Za) (α := RB) _ L1 _), trivial⟩⟩
 ·
  exact Mach.en_head (bK := Zdc 1) (M := Zbc L0 L1 N) (cd := 1000000) (cm := 0) (y := (.h1m0 (0) : ZX)) (fu := 4000) (orc := (Zm [(0, false)] [] [] [] [])) (live := [0, 1]) (tv := [some (vs 0 0 L0.length L0.length), some (vs 1 0 L1.length L1.length), some (vq)]) (bl := [some (.cells (Ze Za L0) 38), some (.cells (Ze Za L1) 38)]) (ob := [(((L0.length : Int) != (L1.length : Int)), false)]) rfl rfl (show Zn (Zdc 1).2 = [] from rfl) (by kernel_rfl) (oE Zj) rfl (by decide) (by rfl) ⟨rr, ⟨rr, ⟨⟨Eq.trans (show (vi ((0 : Nat) : Int) : Value) = vq from (congrArg (Value.int .i64) (by first | rfl | omega))) (by rfl), by rfl⟩, trivial⟩⟩⟩ ⟨(Zk (E := Za) (α := RB) _ L0 _), ⟨(Zk (E := Za) (α := RB) _ L1 _), trivial⟩⟩

theorem Zja (L0 L1 : List RB) (N : Nat) (r : Zah) (h : ZcM L0 L1 N = some r) : LSpec Try.prog 18 #[vs 0 0 L0.length L0.length, vs 1 0 L1.length L1.length] [.cells (Ze Za L0) 38, .cells (Ze Za L1) 38] (Zhz L0 L1 r) (ZgR L0 L1 r) :=
 Mach.spec ZbQ (Zbc L0 L1 N) Try.func18 (by kernel_rfl) (by kernel_rfl) (fun x => by cases x <;> exact ZM _ rfl) (fun r => by cases r <;> exact ZM _ rfl) (fun x => by
  cases x with
  | h1m0 _ => exact fun _ => (show ¬ (1 ∈ Zn (Zdc 1).2) from by decide +kernel)
  ) (fun x => (show (Zbc L0 L1 N).Ok Try.prog Zw x (ZcS L0 L1 N x) from by
  cases x with
  | h1m0 v2 => exact Zi1 L0 L1 v2 N
  )) (Zkp L0 L1 N) (n := N) h

noncomputable def ZJ (L0 L1 : List RB) (w2 : Bool) (k0 k1 n : Nat) : Zbi := .call [(k0, .cells (Ze Za L0) 38), (k1, .cells (Ze Za L1) 38)] (Value.bool w2) [] 0
def ZG (A : Array Value) (L0 L1 : List RB) (w2 : Bool) (k0 k1 n : Nat) : Prop := Z9 Try.prog 18 A [(k0, .cells (Ze Za L0) 38), (k1, .cells (Ze Za L1) 38)] (Value.bool w2) [] n 0

theorem ZK (A : Array Value) (L0 L1 : List RB) (w2 : Bool) (N : Nat) (h : ZcM L0 L1 N = some (.r0 w2)) (k0 k1 n : Nat) (hA : A = #[vs k0 0 L0.length L0.length, vs k1 0 L1.length L1.length]) (hnd : ([k0, k1] : List Nat).Nodup) (hlt : ∀ k ∈ ([k0, k1] : List Nat), k < n) : ZG A L0 L1 w2 k0 k1 n :=
 ZW hA (LSpec.callL (show LSpec Try.prog 18 #[vs 0 0 L0.length L0.length, vs 1 0 L1.length L1.length] [.cells (Ze Za L0) 38, .cells (Ze Za L1) 38] (Value.bool w2) [some (.cells (Ze Za L0) 38), some (.cells (Ze Za L1) 38)] from Zja L0 L1 N _ h) [k0, k1] n [] rfl hnd hlt (show 2 ≤ 2 from by decide) (show ∀ j ∈ ([] : List Nat), j < 2 from by decide) (by rfl) ⟨(Zz _ _ _), ⟨(Zz _ _ _), trivial⟩⟩ (by rfl) ⟨(Zz _ _ _), ⟨(Zz _ _ _), trivial⟩⟩ ⟨.inr rfl, ⟨.inr rfl, trivial⟩⟩ rfl rfl rfl (Zh (Z3 rfl (ZU _ _ _)) (Zh (Z3 rfl (ZU _ _ _)) rfl)) rfl)

noncomputable def Zg4 (L0 : List RB) : Zak → Value
 | .r0 w1 => Value.bool w1
noncomputable def ZfF (L0 : List RB) : Zak → List (Option AObj)
 | .r0 w1 => [some (.cells (Ze Za L0) 38)]

def Zj5 : ZY → Nat
 | .h1m0 => 1
noncomputable def Zkq (L0 : List RB) : ZY → List (Nat × Value)
 | .h1m0 => [(0, vn), (1, vs 0 0 L0.length L0.length), (5, vq)]
noncomputable def Zkr (L0 : List RB) : ZY → List (Option AObj)
 | .h1m0 => [some (.cells (Ze Za L0) 38)]

noncomputable def ZdP : Nat → Code × List ZaY
 | 1 => ZcR [1, 1, 0, 1, 3] (ZdJ Try.f18) []
 | _ => (.skip, [])
def Zj6 : Nat → Bool
 | 1 => true
 | _ => true
noncomputable def Zbv (L0 : List RB) (N : Nat) : Mach := ⟨Try.f18, [.cells (Ze Za L0) 38], ZY, Zak, Zdj L0 N, Zj5, ZdP, Zj6, Zkq L0, Zkr L0, Zg4 L0, ZfF L0⟩

theorem Zh0 (L0 : List RB) (N : Nat) : (Zbv L0 N).Ok Try.prog Zw (.h1m0 : ZY) (Zdj L0 N (.h1m0 : ZY)) := by
 show (Zbv L0 N).Ok Try.prog Zw (.h1m0 : ZY) (ZdK L0 N)
 unfold ZdK
 exact Mach.ok_fin (M := Zbv L0 N) (cd := 1000000) (cm := 0) (r := (.r0 (true) : Zak)) (fu := 4000) (orc := (Zm [] [] [] [] [])) (live := [0]) (u := vT) (bl := [some (.cells (Ze Za L0) 38)]) (ob := []) (fun gv => by kernel_rfl) Zj rfl (by decide) (by rfl) rr ⟨(Zk (E := Za) (α := RB) _ L0 _), trivial⟩

theorem Zjb (L0 : List RB) (N : Nat) : (Zbv L0 N).Enter Try.prog Zw #[vn, vs 0 0 L0.length L0.length] (Ze3 L0 N) := by
 unfold Ze3
 refine Mach.en_ite (fun g0 => ?_) (fun g0 => ?_)
 ·
  exact Mach.en_fin (M := Zbv L0 N) (cd := 1000000) (cm := 0) (r := (.r0 (false) : Zak)) (fu := 4000) (orc := (Zm [(0, true)] [] [] [] [])) (live := [0]) (u := vf) (bl := [some (.cells (Ze Za L0) 38)]) (ob := [(((0 : Int) != (L0.length : Int)), true)]) (by kernel_rfl) (oD Zj) rfl (by decide) (by rfl) rr ⟨(Zk (E := Za) (α := RB) _ L0 _), trivial⟩
 ·
  exact Mach.en_head (bK := ZdP 1) (M := Zbv L0 N) (cd := 1000000) (cm := 0) (y := (.h1m0 : ZY)) (fu := 4000) (orc := (Zm [(0, false)] [] [] [] [])) (live := [0]) (tv := [some (vn), some (vs 0 0 L0.length L0.length), some (vq)]) (bl := [some (.cells (Ze Za L0) 38)]) (ob := [(((0 : Int) != (L0.length : Int)), false)]) rfl rfl (show Zn (ZdP 1).2 = [] from rfl) (by kernel_rfl) (oE Zj) rfl (by decide) (by rfl) ⟨rr, ⟨rr, ⟨rr, trivial⟩⟩⟩ ⟨(Zk (E := Za) (α := RB) _ L0 _), trivial⟩

theorem ZhS (L0 : List RB) (N : Nat) (r : Zak) (h : Zeh L0 N = some r) : LSpec Try.prog 18 #[vn, vs 0 0 L0.length L0.length] [.cells (Ze Za L0) 38] (Zg4 L0 r) (ZfF L0 r) :=
 Mach.spec ZbQ (Zbv L0 N) Try.func18 (by kernel_rfl) (by kernel_rfl) (fun x => by cases x <;> exact ZM _ rfl) (fun r => by cases r <;> exact ZM _ rfl) (fun x => by
  cases x with
  | h1m0 => exact fun _ => (show ¬ (1 ∈ Zn (ZdP 1).2) from by decide +kernel)
  ) (fun x => (show (Zbv L0 N).Ok Try.prog Zw x (Zdj L0 N x) from by
  cases x with
  | h1m0 => exact Zh0 L0 N
  )) (Zjb L0 N) (n := N) h

noncomputable def Zbe (L0 : List RB) (w1 : Bool) (k0 n : Nat) : Zbi := .call [(k0, .cells (Ze Za L0) 38)] (Value.bool w1) [] 0
def ZaN (A : Array Value) (L0 : List RB) (w1 : Bool) (k0 n : Nat) : Prop := Z9 Try.prog 18 A [(k0, .cells (Ze Za L0) 38)] (Value.bool w1) [] n 0

theorem Zbf (A : Array Value) (L0 : List RB) (w1 : Bool) (N : Nat) (h : Zeh L0 N = some (.r0 w1)) (k0 n : Nat) (hA : A = #[vn, vs k0 0 L0.length L0.length]) (hnd : ([k0] : List Nat).Nodup) (hlt : ∀ k ∈ ([k0] : List Nat), k < n) : ZaN A L0 w1 k0 n :=
 ZW hA (LSpec.callL (show LSpec Try.prog 18 #[vn, vs 0 0 L0.length L0.length] [.cells (Ze Za L0) 38] (Value.bool w1) [some (.cells (Ze Za L0) 38)] from ZhS L0 N _ h) [k0] n [] rfl hnd hlt (show 1 ≤ 1 from by decide) (show ∀ j ∈ ([] : List Nat), j < 1 from by decide) (by rfl) ⟨(Zz _ _ _), trivial⟩ (by rfl) ⟨(Zz _ _ _), trivial⟩ ⟨.inr rfl, trivial⟩ rfl rfl rfl (Zh (Z3 rfl (ZU _ _ _)) rfl) rfl)

noncomputable def Zg5  : ZaH → Value
 | .r0 => vT
noncomputable def ZfG  : ZaH → List (Option AObj)
 | .r0 => []

def Zj7 : ZZ → Nat
 | .h1m0 => 1
noncomputable def Zks  : ZZ → List (Nat × Value)
 | .h1m0 => [(0, vn), (1, vn), (5, vq)]
noncomputable def Zkt  : ZZ → List (Option AObj)
 | .h1m0 => []

noncomputable def ZdQ : Nat → Code × List ZaY
 | 1 => ZcR [1, 1, 0, 1, 3] (ZdJ Try.f18) []
 | _ => (.skip, [])
def Zj8 : Nat → Bool
 | 1 => true
 | _ => true
noncomputable def ZbL  (N : Nat) : Mach := ⟨Try.f18, [], ZZ, ZaH, Zdk  N, Zj7, ZdQ, Zj8, Zks , Zkt , Zg5 , ZfG ⟩

theorem Zh1  (N : Nat) : (ZbL  N).Ok Try.prog Zw (.h1m0 : ZZ) (Zdk  N (.h1m0 : ZZ)) := by
 show (ZbL  N).Ok Try.prog Zw (.h1m0 : ZZ) (ZdL  N)
 unfold ZdL
 exact Mach.ok_fin (M := ZbL  N) (cd := 1000000) (cm := 0) (r := (.r0 : ZaH)) (fu := 4000) (orc := (Zm [] [] [] [] [])) (live := []) (u := vT) (bl := []) (ob := []) (fun gv => by kernel_rfl) Zj rfl (by decide) (by rfl) rr trivial

theorem Zjc  (N : Nat) : (ZbL  N).Enter Try.prog Zw #[vn, vn] (Zd3  N) := by
 unfold Zd3
 exact Mach.en_head (bK := ZdQ 1) (M := ZbL  N) (cd := 1000000) (cm := 0) (y := (.h1m0 : ZZ)) (fu := 4000) (orc := (Zm [] [] [] [] [])) (live := []) (tv := [some (vn), some (vn), some (vq)]) (bl := []) (ob := []) rfl rfl (show Zn (ZdQ 1).2 = [] from rfl) (by kernel_rfl) Zj rfl (by decide) (by rfl) ⟨rr, ⟨rr, ⟨rr, trivial⟩⟩⟩ trivial

theorem ZhT  (N : Nat) (r : ZaH) (h : ZcE  N = some r) : LSpec Try.prog 18 #[vn, vn] [] (Zg5  r) (ZfG  r) :=
 Mach.spec ZbQ (ZbL  N) Try.func18 (by kernel_rfl) (by kernel_rfl) (fun x => by cases x <;> exact ZM _ rfl) (fun r => by cases r <;> exact ZM _ rfl) (fun x => by
  cases x with
  | h1m0 => exact fun _ => (show ¬ (1 ∈ Zn (ZdQ 1).2) from by decide +kernel)
  ) (fun x => (show (ZbL  N).Ok Try.prog Zw x (Zdk  N x) from by
  cases x with
  | h1m0 => exact Zh1  N
  )) (Zjc  N) (n := N) h

noncomputable def Zbg  (n : Nat) : Zbi := .call [] (vT) [] 0
def ZaO (A : Array Value)  (n : Nat) : Prop := Z9 Try.prog 18 A [] (vT) [] n 0

theorem Zbh (A : Array Value)  (N : Nat) (h : ZcE  N = some (.r0)) (n : Nat) (hA : A = #[vn, vn]) (hnd : ([] : List Nat).Nodup) (hlt : ∀ k ∈ ([] : List Nat), k < n) : ZaO A   n :=
 ZW hA (LSpec.callL (show LSpec Try.prog 18 #[vn, vn] [] (vT) [] from ZhT  N _ h) [] n [] rfl hnd hlt (show 0 ≤ 0 from by decide) (show ∀ j ∈ ([] : List Nat), j < 0 from by decide) (by rfl) trivial (by rfl) trivial trivial rfl rfl rfl rfl rfl)

noncomputable def Zg6 (a0 a1 a2 a3 a4 : Int) (b5 : Bool) (a6 a7 : Int) (L8 : List RB) : ZaI → Value
 | .r0 w1 => vi w1
 | .r1 => vq
noncomputable def ZfH (a0 a1 a2 a3 a4 : Int) (b5 : Bool) (a6 a7 : Int) (L8 : List RB) : ZaI → List (Option AObj)
 | .r0 w1 => [some (.cells [vi a7, vs 1 0 L8.length L8.length] 60), some (.cells (Ze Za L8) 38)]
 | .r1 => [some (.cells [vi a7, vs 2 0 (L8.length + 1) (L8.length + 1)] 60), none, some (.cells (Ze Za (L8 ++ ([(⟨a0, a1, a2, a3, a4, b5, a6⟩ : RB)] : List RB))) 38)]

theorem Zjd (a0 a1 a2 a3 a4 : Int) (b5 : Bool) (a6 a7 : Int) (L8 : List RB) (N : Nat) : Fx Try.prog Zw Try.f9 [.cells [vi a7, vs 1 0 L8.length L8.length] 60, .cells (Ze Za L8) 38] #[vp 0 0, Value.agg #[vi a0, vi a1, vi a2, vi a3, vi a4, Value.bool b5, vi a6]] (Zg6 a0 a1 a2 a3 a4 b5 a6 a7 L8) (ZfH a0 a1 a2 a3 a4 b5 a6 a7 L8) (ZN a0 a1 a2 a3 a4 b5 a6 a7 L8 N) := by
 unfold ZN
 refine Za7 (fun g0 => ?_) (fun g0 => ?_)
 ·
  refine Za7 (fun g1 => ?_) (fun g1 => ?_)
  ·
   exact Zau (r := (.r0 ((70 : Int)) : ZaI)) (fu := 4000) (orc := (Zm [(1, true), (3, true)] [] [] [] [])) (live := [0, 1]) (u := vi (70 : Int)) (bl := [some (.cells [vi a7, vs 1 0 L8.length L8.length] 60), some (.cells (Ze Za L8) 38)]) (ob := [((decide ((L8.length : Int) ≥ a7)), true), ((decide (a7 > (0 : Int))), true)]) (by kernel_rfl) (oY <| oY Zj) rfl (by decide) (by rfl) rr ⟨⟨rfl, ⟨[], by rfl⟩, by rfl⟩, ⟨(Zk (E := Za) (α := RB) _ L8 _), trivial⟩⟩
  ·
   refine Za7 (fun g2 => ?_) (fun g2 => ?_)
   ·
    exact Zau (r := (.r1 : ZaI)) (fu := 4000) (orc := (Zm [(1, true), (3, false)] [] [] [] [(0, .ap 1 [vi a0, vi a1, vi a2, vi a3, vi a4, Value.bool b5, vi a6] (Ze Za (L8 ++ ([(⟨a0, a1, a2, a3, a4, b5, a6⟩ : RB)] : List RB))))])) (live := [0, 1, 4]) (u := vq) (bl := [some (.cells [vi a7, vs 4 0 (L8.length + 1) (L8.length + 1)] 60), none, some (.cells (Ze Za (L8 ++ ([(⟨a0, a1, a2, a3, a4, b5, a6⟩ : RB)] : List RB))) 38)]) (ob := [(dP ((1 = 1 ∧ Zv (1 * 7) (List.drop 0 [vi a0, vi a1, vi a2, vi a3, vi a4, Value.bool b5, vi a6]) = some [vi a0, vi a1, vi a2, vi a3, vi a4, Value.bool b5, vi a6] ∧ Zu ZC [vi a0, vi a1, vi a2, vi a3, vi a4, Value.bool b5, vi a6] = true) ∧ 0 < 1 ∧ 1 ≤ 100000 ∧ L8.length < L8.length + 1 ∧ L8.length ≤ 100000 ∧ L8.length * 7 ≤ (List.length (Ze Za L8)) ∧ List.take (L8.length * 7) (Ze Za L8) ++ [vi a0, vi a1, vi a2, vi a3, vi a4, Value.bool b5, vi a6] = (Ze Za (L8 ++ ([(⟨a0, a1, a2, a3, a4, b5, a6⟩ : RB)] : List RB)))), true), ((decide ((L8.length : Int) ≥ a7)), false), ((decide (a7 > (0 : Int))), true)]) (by kernel_rfl) (Zb (Zi ⟨⟨rfl, ⟨rfl, rfl⟩⟩, by omega, by omega, ltA, by omega, (ZaX (E := Za) (L := L8) (M := ([(⟨a0, a1, a2, a3, a4, b5, a6⟩ : RB)] : List RB)) (n := L8.length) (show _ = _ * 7 from rfl) (by omega) (R := (L8 ++ ([(⟨a0, a1, a2, a3, a4, b5, a6⟩ : RB)] : List RB))) (by rw [List.take_of_length_le (by omega)]))⟩) <| oN <| oY Zj) rfl (by decide) (by rfl) rr ⟨⟨rfl, ⟨[], by rfl⟩, by rfl⟩, ⟨(Zk (E := Za) (α := RB) _ (L8 ++ ([(⟨a0, a1, a2, a3, a4, b5, a6⟩ : RB)] : List RB)) _), trivial⟩⟩
   ·
    exact ZdW
 ·
  exact Zau (r := (.r0 ((4 : Int)) : ZaI)) (fu := 4000) (orc := (Zm [(1, false)] [] [] [] [])) (live := [0, 1]) (u := vi (4 : Int)) (bl := [some (.cells [vi a7, vs 1 0 L8.length L8.length] 60), some (.cells (Ze Za L8) 38)]) (ob := [((decide (a7 > (0 : Int))), false)]) (by kernel_rfl) (oN Zj) rfl (by decide) (by rfl) rr ⟨⟨rfl, ⟨[], by rfl⟩, by rfl⟩, ⟨(Zk (E := Za) (α := RB) _ L8 _), trivial⟩⟩

theorem ZeZ (a0 a1 a2 a3 a4 : Int) (b5 : Bool) (a6 a7 : Int) (L8 : List RB) (N : Nat) (r : ZaI) (h : ZN a0 a1 a2 a3 a4 b5 a6 a7 L8 N = some r) : LSpec Try.prog 9 #[vp 0 0, Value.agg #[vi a0, vi a1, vi a2, vi a3, vi a4, Value.bool b5, vi a6]] [.cells [vi a7, vs 1 0 L8.length L8.length] 60, .cells (Ze Za L8) 38] (Zg6 a0 a1 a2 a3 a4 b5 a6 a7 L8 r) (ZfH a0 a1 a2 a3 a4 b5 a6 a7 L8 r) :=
 Zdo ZbQ Try.func9 (by kernel_rfl) (by kernel_rfl) (fun r => by cases r <;> exact ZM _ rfl) (Zjd a0 a1 a2 a3 a4 b5 a6 a7 L8 N) h

noncomputable def ZD (a0 a1 a2 a3 a4 : Int) (b5 : Bool) (a6 a7 : Int) (L8 : List RB) (w1 : Int) (k0 k1 n : Nat) : Zbi := .call [(k0, .cells [vi a7, vs k1 0 L8.length L8.length] 60), (k1, .cells (Ze Za L8) 38)] (vi w1) [] 0
def ZB (A : Array Value) (a0 a1 a2 a3 a4 : Int) (b5 : Bool) (a6 a7 : Int) (L8 : List RB) (w1 : Int) (k0 k1 n : Nat) : Prop := Z9 Try.prog 9 A [(k0, .cells [vi a7, vs k1 0 L8.length L8.length] 60), (k1, .cells (Ze Za L8) 38)] (vi w1) [] n 0

theorem ZE (A : Array Value) (a0 a1 a2 a3 a4 : Int) (b5 : Bool) (a6 a7 : Int) (L8 : List RB) (w1 : Int) (N : Nat) (h : ZN a0 a1 a2 a3 a4 b5 a6 a7 L8 N = some (.r0 w1)) (k0 k1 n : Nat) (hA : A = #[vp k0 0, Value.agg #[vi a0, vi a1, vi a2, vi a3, vi a4, Value.bool b5, vi a6]]) (hnd : ([k0, k1] : List Nat).Nodup) (hlt : ∀ k ∈ ([k0, k1] : List Nat), k < n) : ZB A a0 a1 a2 a3 a4 b5 a6 a7 L8 w1 k0 k1 n :=
 ZW hA (LSpec.callL (show LSpec Try.prog 9 #[vp 0 0, Value.agg #[vi a0, vi a1, vi a2, vi a3, vi a4, Value.bool b5, vi a6]] [.cells [vi a7, vs 1 0 L8.length L8.length] 60, .cells (Ze Za L8) 38] (vi w1) [some (.cells [vi a7, vs 1 0 L8.length L8.length] 60), some (.cells (Ze Za L8) 38)] from ZeZ a0 a1 a2 a3 a4 b5 a6 a7 L8 N _ h) [k0, k1] n [] rfl hnd hlt (show 2 ≤ 2 from by decide) (show ∀ j ∈ ([] : List Nat), j < 2 from by decide) (by rfl) ⟨rfl, ⟨(Zz _ _ _), trivial⟩⟩ (by rfl) ⟨rfl, ⟨(Zz _ _ _), trivial⟩⟩ ⟨.inr rfl, ⟨.inr rfl, trivial⟩⟩ rfl rfl rfl (Zh (Z3 rfl rfl) (Zh (Z3 rfl (ZU _ _ _)) rfl)) rfl)

noncomputable def Za1 (a0 a1 a2 a3 a4 : Int) (b5 : Bool) (a6 a7 : Int) (L8 : List RB) (k0 k1 n : Nat) : Zbi := .call [(k0, .cells [vi a7, vs k1 0 L8.length L8.length] 60), (k1, .cells (Ze Za L8) 38)] (vq) [(k0, some (.cells [vi a7, vs n 0 (L8.length + 1) (L8.length + 1)] 60)), (k1, none), (n, some (.cells (Ze Za (L8 ++ ([(⟨a0, a1, a2, a3, a4, b5, a6⟩ : RB)] : List RB))) 38))] 1
def Zap (A : Array Value) (a0 a1 a2 a3 a4 : Int) (b5 : Bool) (a6 a7 : Int) (L8 : List RB) (k0 k1 n : Nat) : Prop := Z9 Try.prog 9 A [(k0, .cells [vi a7, vs k1 0 L8.length L8.length] 60), (k1, .cells (Ze Za L8) 38)] (vq) [(k0, some (.cells [vi a7, vs n 0 (L8.length + 1) (L8.length + 1)] 60)), (k1, none), (n, some (.cells (Ze Za (L8 ++ ([(⟨a0, a1, a2, a3, a4, b5, a6⟩ : RB)] : List RB))) 38))] n 1

theorem Za2 (A : Array Value) (a0 a1 a2 a3 a4 : Int) (b5 : Bool) (a6 a7 : Int) (L8 : List RB) (N : Nat) (h : ZN a0 a1 a2 a3 a4 b5 a6 a7 L8 N = some (.r1)) (k0 k1 n : Nat) (hA : A = #[vp k0 0, Value.agg #[vi a0, vi a1, vi a2, vi a3, vi a4, Value.bool b5, vi a6]]) (hnd : ([k0, k1] : List Nat).Nodup) (hlt : ∀ k ∈ ([k0, k1] : List Nat), k < n) : Zap A a0 a1 a2 a3 a4 b5 a6 a7 L8 k0 k1 n :=
 ZW hA (LSpec.callL (show LSpec Try.prog 9 #[vp 0 0, Value.agg #[vi a0, vi a1, vi a2, vi a3, vi a4, Value.bool b5, vi a6]] [.cells [vi a7, vs 1 0 L8.length L8.length] 60, .cells (Ze Za L8) 38] (vq) [some (.cells [vi a7, vs 2 0 (L8.length + 1) (L8.length + 1)] 60), none, some (.cells (Ze Za (L8 ++ ([(⟨a0, a1, a2, a3, a4, b5, a6⟩ : RB)] : List RB))) 38)] from ZeZ a0 a1 a2 a3 a4 b5 a6 a7 L8 N _ h) [k0, k1] n [0, 1, 2] rfl hnd hlt (show 2 ≤ 3 from by decide) (show ∀ j ∈ ([0, 1, 2] : List Nat), j < 3 from by decide) (by rfl) ⟨rfl, ⟨(Zz _ _ _), trivial⟩⟩ (by rfl) ⟨rfl, ⟨(Zz _ _ _), trivial⟩⟩ ⟨.inl (by decide), ⟨.inl (by decide), ⟨(by decide), trivial⟩⟩⟩ rfl rfl rfl (Zh (Z3 rfl rfl) (Zh (Z3 rfl (ZU _ _ _)) rfl)) (Zh (Z3 rfl (ZbN rfl)) (Zh (Z3 rfl rfl) (Zh (Z3 rfl (ZbN (ZU _ _ _))) rfl))))

noncomputable def Zix (a0 : Int) (L1 : List RB) (a2 a3 a4 a5 a6 : Int) (b7 : Bool) (a8 : Int) : Zbz → Value
 | .r0 => Value.tuple #[Value.agg #[vi a0, vs 0 0 L1.length L1.length], vi (70 : Int)]
 | .r1 w2 => Value.tuple #[Value.agg #[vi a0, vs 1 0 w2.length w2.length], vq]
noncomputable def Zh2 (a0 : Int) (L1 : List RB) (a2 a3 a4 a5 a6 : Int) (b7 : Bool) (a8 : Int) : Zbz → List (Option AObj)
 | .r0 => [some (.cells (Ze Za L1) 38)]
 | .r1 w2 => [some (.cells (Ze Za L1) 38), some (.cells (Ze Za w2) 38)]

theorem ZkR (a0 : Int) (L1 : List RB) (a2 a3 a4 a5 a6 : Int) (b7 : Bool) (a8 : Int) (N : Nat) : Fx Try.prog Zw Try.f10 [.cells (Ze Za L1) 38] #[Value.agg #[vi a0, vs 0 0 L1.length L1.length], Value.agg #[vi a2, vi a3, vi a4, vi a5, vi a6, Value.bool b7, vi a8]] (Zix a0 L1 a2 a3 a4 a5 a6 b7 a8) (Zh2 a0 L1 a2 a3 a4 a5 a6 b7 a8) (Zao a0 L1 a2 a3 a4 a5 a6 b7 a8 N) := by
 unfold Zao
 refine Za7 (fun g0 => ?_) (fun g0 => ?_)
 ·
  exact Zau (r := (.r0 : Zbz)) (fu := 4000) (orc := (Zm [(0, true)] [] [] [] [])) (live := [0]) (u := Value.tuple #[Value.agg #[vi a0, vs 0 0 L1.length L1.length], vi (70 : Int)]) (bl := [some (.cells (Ze Za L1) 38)]) (ob := [((decide ((L1.length : Int) ≥ a0)), true)]) (by kernel_rfl) (oY Zj) rfl (by decide) (by rfl) rr ⟨(Zk (E := Za) (α := RB) _ L1 _), trivial⟩
 ·
  refine Za7 (fun g1 => ?_) (fun g1 => ?_)
  ·
   exact Zau (r := (.r1 (([(⟨a2, a3, a4, a5, a6, b7, a8⟩ : RB)] : List RB)) : Zbz)) (fu := 4000) (orc := (Zm [(0, false)] [] [] [] [(0, .ap0)])) (live := [0, 6]) (u := Value.tuple #[Value.agg #[vi a0, vs 6 0 1 1], vq]) (bl := [some (.cells (Ze Za L1) 38), some (.cells [vi a2, vi a3, vi a4, vi a5, vi a6, Value.bool b7, vi a8] 38)]) (ob := [(dP (0 = L1.length ∧ Zv (L1.length * 7) (List.drop 0 (Ze Za L1)) = some [] ∧ Zu ZC [] = true), true), ((decide ((L1.length : Int) ≥ a0)), false)]) (by kernel_rfl) (Zb (Zi ⟨by omega, by rw [show L1.length = 0 by omega]; rfl, rfl⟩) <| oN Zj) rfl (by decide) (by rfl) ⟨Eq.trans (show (Value.tuple #[Value.agg #[vi a0, vs 1 0 ([(⟨a2, a3, a4, a5, a6, b7, a8⟩ : RB)] : List RB).length ([(⟨a2, a3, a4, a5, a6, b7, a8⟩ : RB)] : List RB).length], vq] : Value) = Value.tuple #[Value.agg #[vi a0, vs 1 0 1 1], vq] from (ZhM (Zh (ZkH (Zh rfl (Zh (Zx rfl eqA eqA) rfl))) (Zh rfl rfl)))) (by rfl), by rfl⟩ ⟨(Zk (E := Za) (α := RB) _ L1 _), ⟨(Zc5 (E := Za) _ (L := ([(⟨a2, a3, a4, a5, a6, b7, a8⟩ : RB)] : List RB)) _ (show ([vi a2, vi a3, vi a4, vi a5, vi a6, Value.bool b7, vi a8] : List Value) = Ze Za ([(⟨a2, a3, a4, a5, a6, b7, a8⟩ : RB)] : List RB) from rfl)), trivial⟩⟩
  ·
   refine Za7 (fun g2 => ?_) (fun g2 => ?_)
   ·
    exact Zau (r := (.r1 ((L1 ++ ([(⟨a2, a3, a4, a5, a6, b7, a8⟩ : RB)] : List RB))) : Zbz)) (fu := 4000) (orc := (Zm [(0, false)] [] [] [] [(0, .ap L1.length (Ze Za L1) (Ze Za L1)), (1, .ap 1 [vi a2, vi a3, vi a4, vi a5, vi a6, Value.bool b7, vi a8] (Ze Za (L1 ++ ([(⟨a2, a3, a4, a5, a6, b7, a8⟩ : RB)] : List RB))))])) (live := [0, 7]) (u := Value.tuple #[Value.agg #[vi a0, vs 7 0 ((0 + L1.length) + 1) ((0 + L1.length) + 1)], vq]) (bl := [some (.cells (Ze Za L1) 38), some (.cells (Ze Za (L1 ++ ([(⟨a2, a3, a4, a5, a6, b7, a8⟩ : RB)] : List RB))) 38)]) (ob := [(dP ((1 = 1 ∧ Zv (1 * 7) (List.drop 0 [vi a2, vi a3, vi a4, vi a5, vi a6, Value.bool b7, vi a8]) = some [vi a2, vi a3, vi a4, vi a5, vi a6, Value.bool b7, vi a8] ∧ Zu ZC [vi a2, vi a3, vi a4, vi a5, vi a6, Value.bool b7, vi a8] = true) ∧ 0 < 1 ∧ 1 ≤ 100000 ∧ (0 + L1.length) < (0 + L1.length) + 1 ∧ (0 + L1.length) ≤ 100000 ∧ (0 + L1.length) * 7 ≤ (List.length (Ze Za L1)) ∧ List.take ((0 + L1.length) * 7) (Ze Za L1) ++ [vi a2, vi a3, vi a4, vi a5, vi a6, Value.bool b7, vi a8] = (Ze Za (L1 ++ ([(⟨a2, a3, a4, a5, a6, b7, a8⟩ : RB)] : List RB)))), true), (dP ((L1.length = L1.length ∧ Zv (L1.length * 7) (List.drop 0 (Ze Za L1)) = some (Ze Za L1) ∧ Zu ZC (Ze Za L1) = true) ∧ 0 < L1.length ∧ L1.length ≤ 100000 ∧ 0 < 0 + L1.length ∧ 0 ≤ 100000 ∧ 0 * 7 ≤ (List.length []) ∧ List.take (0 * 7) [] ++ (Ze Za L1) = (Ze Za L1)), true), ((decide ((L1.length : Int) ≥ a0)), false)]) (by kernel_rfl) (Zb (Zi ⟨⟨rfl, ⟨rfl, rfl⟩⟩, by omega, by omega, ltA, by omega, (ZaX (E := Za) (L := L1) (M := ([(⟨a2, a3, a4, a5, a6, b7, a8⟩ : RB)] : List RB)) (n := (0 + L1.length)) (show _ = _ * 7 from rfl) (by omega) (R := (L1 ++ ([(⟨a2, a3, a4, a5, a6, b7, a8⟩ : RB)] : List RB))) (by rw [List.take_of_length_le (by omega)]))⟩) <| Zb (Zi ⟨⟨rfl, (Zck (E := Za) (L := L1) (a := 0) (n := L1.length) (by omega) (by show _ = _ * 7; omega) (show _ = _ * 7 from rfl) (by rw [List.drop_zero, List.take_of_length_le (by omega)]))⟩, by omega, by omega, ltA, by omega, (ZaX (E := Za) (L := ([] : List RB)) (M := L1) (n := 0) (show _ = _ * 7 from rfl) ltA (R := L1) (by rw [List.take_of_length_le ltA]; rfl))⟩) <| oN Zj) rfl (by decide) (by rfl) ⟨Eq.trans (show (Value.tuple #[Value.agg #[vi a0, vs 1 0 (L1 ++ ([(⟨a2, a3, a4, a5, a6, b7, a8⟩ : RB)] : List RB)).length (L1 ++ ([(⟨a2, a3, a4, a5, a6, b7, a8⟩ : RB)] : List RB)).length], vq] : Value) = Value.tuple #[Value.agg #[vi a0, vs 1 0 ((0 + L1.length) + 1) ((0 + L1.length) + 1)], vq] from (ZhM (Zh (ZkH (Zh rfl (Zh (Zx rfl eqA eqA) rfl))) (Zh rfl rfl)))) (by rfl), by rfl⟩ ⟨(Zk (E := Za) (α := RB) _ L1 _), ⟨(Zk (E := Za) (α := RB) _ (L1 ++ ([(⟨a2, a3, a4, a5, a6, b7, a8⟩ : RB)] : List RB)) _), trivial⟩⟩
   ·
    exact ZdW

theorem ZfI (a0 : Int) (L1 : List RB) (a2 a3 a4 a5 a6 : Int) (b7 : Bool) (a8 : Int) (N : Nat) (r : Zbz) (h : Zao a0 L1 a2 a3 a4 a5 a6 b7 a8 N = some r) : LSpec Try.prog 10 #[Value.agg #[vi a0, vs 0 0 L1.length L1.length], Value.agg #[vi a2, vi a3, vi a4, vi a5, vi a6, Value.bool b7, vi a8]] [.cells (Ze Za L1) 38] (Zix a0 L1 a2 a3 a4 a5 a6 b7 a8 r) (Zh2 a0 L1 a2 a3 a4 a5 a6 b7 a8 r) :=
 Zdo ZbQ Try.func10 (by kernel_rfl) (by kernel_rfl) (fun r => by cases r <;> exact ZM _ rfl) (ZkR a0 L1 a2 a3 a4 a5 a6 b7 a8 N) h

noncomputable def ZbR (a0 : Int) (L1 : List RB) (a2 a3 a4 a5 a6 : Int) (b7 : Bool) (a8 : Int) (k0 n : Nat) : Zbi := .call [(k0, .cells (Ze Za L1) 38)] (Value.tuple #[Value.agg #[vi a0, vs k0 0 L1.length L1.length], vi (70 : Int)]) [] 0
def Zb4 (A : Array Value) (a0 : Int) (L1 : List RB) (a2 a3 a4 a5 a6 : Int) (b7 : Bool) (a8 : Int) (k0 n : Nat) : Prop := Z9 Try.prog 10 A [(k0, .cells (Ze Za L1) 38)] (Value.tuple #[Value.agg #[vi a0, vs k0 0 L1.length L1.length], vi (70 : Int)]) [] n 0

theorem ZbS (A : Array Value) (a0 : Int) (L1 : List RB) (a2 a3 a4 a5 a6 : Int) (b7 : Bool) (a8 : Int) (N : Nat) (h : Zao a0 L1 a2 a3 a4 a5 a6 b7 a8 N = some (.r0)) (k0 n : Nat) (hA : A = #[Value.agg #[vi a0, vs k0 0 L1.length L1.length], Value.agg #[vi a2, vi a3, vi a4, vi a5, vi a6, Value.bool b7, vi a8]]) (hnd : ([k0] : List Nat).Nodup) (hlt : ∀ k ∈ ([k0] : List Nat), k < n) : Zb4 A a0 L1 a2 a3 a4 a5 a6 b7 a8 k0 n :=
 ZW hA (LSpec.callL (show LSpec Try.prog 10 #[Value.agg #[vi a0, vs 0 0 L1.length L1.length], Value.agg #[vi a2, vi a3, vi a4, vi a5, vi a6, Value.bool b7, vi a8]] [.cells (Ze Za L1) 38] (Value.tuple #[Value.agg #[vi a0, vs 0 0 L1.length L1.length], vi (70 : Int)]) [some (.cells (Ze Za L1) 38)] from ZfI a0 L1 a2 a3 a4 a5 a6 b7 a8 N _ h) [k0] n [] rfl hnd hlt (show 1 ≤ 1 from by decide) (show ∀ j ∈ ([] : List Nat), j < 1 from by decide) (by rfl) ⟨(Zz _ _ _), trivial⟩ (by rfl) ⟨(Zz _ _ _), trivial⟩ ⟨.inr rfl, trivial⟩ rfl rfl rfl (Zh (Z3 rfl (ZU _ _ _)) rfl) rfl)

noncomputable def ZbT (a0 : Int) (L1 : List RB) (a2 a3 a4 a5 a6 : Int) (b7 : Bool) (a8 : Int) (w2 : List RB) (k0 n : Nat) : Zbi := .call [(k0, .cells (Ze Za L1) 38)] (Value.tuple #[Value.agg #[vi a0, vs n 0 w2.length w2.length], vq]) [(n, some (.cells (Ze Za w2) 38))] 1
def Zb5 (A : Array Value) (a0 : Int) (L1 : List RB) (a2 a3 a4 a5 a6 : Int) (b7 : Bool) (a8 : Int) (w2 : List RB) (k0 n : Nat) : Prop := Z9 Try.prog 10 A [(k0, .cells (Ze Za L1) 38)] (Value.tuple #[Value.agg #[vi a0, vs n 0 w2.length w2.length], vq]) [(n, some (.cells (Ze Za w2) 38))] n 1

theorem ZbU (A : Array Value) (a0 : Int) (L1 : List RB) (a2 a3 a4 a5 a6 : Int) (b7 : Bool) (a8 : Int) (w2 : List RB) (N : Nat) (h : Zao a0 L1 a2 a3 a4 a5 a6 b7 a8 N = some (.r1 w2)) (k0 n : Nat) (hA : A = #[Value.agg #[vi a0, vs k0 0 L1.length L1.length], Value.agg #[vi a2, vi a3, vi a4, vi a5, vi a6, Value.bool b7, vi a8]]) (hnd : ([k0] : List Nat).Nodup) (hlt : ∀ k ∈ ([k0] : List Nat), k < n) : Zb5 A a0 L1 a2 a3 a4 a5 a6 b7 a8 w2 k0 n :=
 ZW hA (LSpec.callL (show LSpec Try.prog 10 #[Value.agg #[vi a0, vs 0 0 L1.length L1.length], Value.agg #[vi a2, vi a3, vi a4, vi a5, vi a6, Value.bool b7, vi a8]] [.cells (Ze Za L1) 38] (Value.tuple #[Value.agg #[vi a0, vs 1 0 w2.length w2.length], vq]) [some (.cells (Ze Za L1) 38), some (.cells (Ze Za w2) 38)] from ZfI a0 L1 a2 a3 a4 a5 a6 b7 a8 N _ h) [k0] n [1] rfl hnd hlt (show 1 ≤ 2 from by decide) (show ∀ j ∈ ([1] : List Nat), j < 2 from by decide) (by rfl) ⟨(Zz _ _ _), trivial⟩ (by rfl) ⟨(Zz _ _ _), ⟨(Zz _ _ _), trivial⟩⟩ ⟨.inr rfl, ⟨(by decide), trivial⟩⟩ rfl rfl rfl (Zh (Z3 rfl (ZU _ _ _)) rfl) (Zh (Z3 rfl (ZbN (ZU _ _ _))) rfl))

noncomputable def Zje (a0 : Int) (L1 : List RB) : ZbE → Value
 | .r0 => Value.tuple #[Value.agg #[vi a0, vs 0 0 L1.length L1.length], Value.agg #[vq, vq, vq, vq, vq, vf, vq], vf]
 | .r1 w2 => Value.tuple #[Value.agg #[vi a0, vs 1 0 w2.length w2.length], Value.agg #[vi (L1.getD (L1.length - 1) RB.z).a0, vi (L1.getD (L1.length - 1) RB.z).a1, vi (L1.getD (L1.length - 1) RB.z).a2, vi (L1.getD (L1.length - 1) RB.z).a3, vi (L1.getD (L1.length - 1) RB.z).a4, Value.bool (L1.getD (L1.length - 1) RB.z).a5, vi (L1.getD (L1.length - 1) RB.z).a6], vT]
noncomputable def Ziy (a0 : Int) (L1 : List RB) : ZbE → List (Option AObj)
 | .r0 => [some (.cells (Ze Za L1) 38)]
 | .r1 w2 => [some (.cells (Ze Za L1) 38), some (.cells (Ze Za w2) 38)]

theorem Zlo (a0 : Int) (L1 : List RB) (N : Nat) : Fx Try.prog Zw Try.f12 [.cells (Ze Za L1) 38] #[Value.agg #[vi a0, vs 0 0 L1.length L1.length]] (Zje a0 L1) (Ziy a0 L1) (ZaV a0 L1 N) := by
 unfold ZaV
 refine Za7 (fun g0 => ?_) (fun g0 => ?_)
 ·
  exact Zau (r := (.r0 : ZbE)) (fu := 4000) (orc := (Zm [(0, true)] [] [] [] [])) (live := [0]) (u := Value.tuple #[Value.agg #[vi a0, vs 0 0 L1.length L1.length], Value.agg #[vq, vq, vq, vq, vq, vf, vq], vf]) (bl := [some (.cells (Ze Za L1) 38)]) (ob := [(((L1.length : Int) == (0 : Int)), true)]) (by kernel_rfl) (oT Zj) rfl (by decide) (by rfl) rr ⟨(Zk (E := Za) (α := RB) _ L1 _), trivial⟩
 ·
  refine Za7 (fun g1 => ?_) (fun g1 => ?_)
  ·
   refine Za7 (fun g2 => ?_) (fun g2 => ?_)
   ·
    exact Zau (r := (.r1 (([] : List RB)) : ZbE)) (fu := 4000) (orc := (Zm [(0, false)] [(0, (((L1.length - 1) : Nat) : Int)), (1, (((L1.length - 1) : Nat) : Int))] [(0, (L1.length - 1))] [(2, [.i (L1.getD (L1.length - 1) RB.z).a0, .i (L1.getD (L1.length - 1) RB.z).a1, .i (L1.getD (L1.length - 1) RB.z).a2, .i (L1.getD (L1.length - 1) RB.z).a3, .i (L1.getD (L1.length - 1) RB.z).a4, .b (L1.getD (L1.length - 1) RB.z).a5, .i (L1.getD (L1.length - 1) RB.z).a6])] [(1, .sl 0 (L1.length - 1)), (2, .ap0)])) (live := [0, 5]) (u := Value.tuple #[Value.agg #[vi a0, vs 5 0 0 0], Value.agg #[vi (L1.getD (L1.length - 1) RB.z).a0, vi (L1.getD (L1.length - 1) RB.z).a1, vi (L1.getD (L1.length - 1) RB.z).a2, vi (L1.getD (L1.length - 1) RB.z).a3, vi (L1.getD (L1.length - 1) RB.z).a4, Value.bool (L1.getD (L1.length - 1) RB.z).a5, vi (L1.getD (L1.length - 1) RB.z).a6], vT]) (bl := [some (.cells (Ze Za L1) 38), some (.cells [] 38)]) (ob := [(dP (0 = ((L1.length - 1) - 0) ∧ Zv (((L1.length - 1) - 0) * 7) (List.drop (0 + (0 * 7)) (Ze Za L1)) = some [] ∧ Zu ZC [] = true), true), (dP (0 ≤ (L1.length - 1) ∧ (L1.length - 1) ≤ L1.length), true), ((((L1.length - 1) : Nat) : Int) == Int.ofNat (L1.length - 1), true), (dS 0, true), ((IntKind.i64.wrap ((L1.length : Int) - (1 : Int))) == (((L1.length - 1) : Nat) : Int), true), (Zo (Zv 7 (List.drop (0 + ((L1.length - 1) * 7)) (Ze Za L1))) [.i (L1.getD (L1.length - 1) RB.z).a0, .i (L1.getD (L1.length - 1) RB.z).a1, .i (L1.getD (L1.length - 1) RB.z).a2, .i (L1.getD (L1.length - 1) RB.z).a3, .i (L1.getD (L1.length - 1) RB.z).a4, .b (L1.getD (L1.length - 1) RB.z).a5, .i (L1.getD (L1.length - 1) RB.z).a6], true), (Nat.blt (L1.length - 1) L1.length, true), ((((L1.length - 1) : Nat) : Int) == Int.ofNat (L1.length - 1), true), ((IntKind.i64.wrap ((L1.length : Int) - (1 : Int))) == (((L1.length - 1) : Nat) : Int), true), (((L1.length : Int) == (0 : Int)), false)]) (by kernel_rfl) (Zb (Zi ⟨by omega, by rw [show ((L1.length - 1) - 0) = 0 by omega]; rfl, rfl⟩) <| Zb (Zi ⟨ltA, ltA⟩) <| oI <| oR <| Zb (beq_iff_eq.2 ((wrap_i64 ltA).trans (by first | rfl | omega))) <| Zb (Z8 (E := Za) (L := L1) (i := (L1.length - 1)) (q := 0) (by omega) (show (0 + ((L1.length - 1) * 7)) = (L1.length - 1) * 7 + 0 from by omega) (show 0 + 7 ≤ 7 from by decide) rfl rfl) <| oB <| oI <| Zb (beq_iff_eq.2 ((wrap_i64 ltA).trans (by first | rfl | omega))) <| oF Zj) rfl (by decide) (by rfl) ⟨Eq.trans (show (Value.tuple #[Value.agg #[vi a0, vs 1 0 ([] : List RB).length ([] : List RB).length], Value.agg #[vi (L1.getD (L1.length - 1) RB.z).a0, vi (L1.getD (L1.length - 1) RB.z).a1, vi (L1.getD (L1.length - 1) RB.z).a2, vi (L1.getD (L1.length - 1) RB.z).a3, vi (L1.getD (L1.length - 1) RB.z).a4, Value.bool (L1.getD (L1.length - 1) RB.z).a5, vi (L1.getD (L1.length - 1) RB.z).a6], vT] : Value) = Value.tuple #[Value.agg #[vi a0, vs 1 0 0 0], Value.agg #[vi (L1.getD (L1.length - 1) RB.z).a0, vi (L1.getD (L1.length - 1) RB.z).a1, vi (L1.getD (L1.length - 1) RB.z).a2, vi (L1.getD (L1.length - 1) RB.z).a3, vi (L1.getD (L1.length - 1) RB.z).a4, Value.bool (L1.getD (L1.length - 1) RB.z).a5, vi (L1.getD (L1.length - 1) RB.z).a6], vT] from (ZhM (Zh (ZkH (Zh rfl (Zh (Zx rfl eqA eqA) rfl))) (Zh rfl (Zh rfl rfl))))) (by rfl), by rfl⟩ ⟨(Zk (E := Za) (α := RB) _ L1 _), ⟨(Zc5 (E := Za) _ (L := ([] : List RB)) _ (show ([] : List Value) = Ze Za ([] : List RB) from rfl)), trivial⟩⟩
   ·
    refine Za7 (fun g3 => ?_) (fun g3 => ?_)
    ·
     exact Zau (r := (.r1 ((L1.take ((L1.length - 1) - 0))) : ZbE)) (fu := 4000) (orc := (Zm [(0, false)] [(0, (((L1.length - 1) : Nat) : Int)), (1, (((L1.length - 1) : Nat) : Int))] [(0, (L1.length - 1))] [(2, [.i (L1.getD (L1.length - 1) RB.z).a0, .i (L1.getD (L1.length - 1) RB.z).a1, .i (L1.getD (L1.length - 1) RB.z).a2, .i (L1.getD (L1.length - 1) RB.z).a3, .i (L1.getD (L1.length - 1) RB.z).a4, .b (L1.getD (L1.length - 1) RB.z).a5, .i (L1.getD (L1.length - 1) RB.z).a6])] [(1, .sl 0 (L1.length - 1)), (2, .ap ((L1.length - 1) - 0) (Ze Za (L1.take ((L1.length - 1) - 0))) (Ze Za (L1.take ((L1.length - 1) - 0))))])) (live := [0, 6]) (u := Value.tuple #[Value.agg #[vi a0, vs 6 0 (0 + ((L1.length - 1) - 0)) (0 + ((L1.length - 1) - 0))], Value.agg #[vi (L1.getD (L1.length - 1) RB.z).a0, vi (L1.getD (L1.length - 1) RB.z).a1, vi (L1.getD (L1.length - 1) RB.z).a2, vi (L1.getD (L1.length - 1) RB.z).a3, vi (L1.getD (L1.length - 1) RB.z).a4, Value.bool (L1.getD (L1.length - 1) RB.z).a5, vi (L1.getD (L1.length - 1) RB.z).a6], vT]) (bl := [some (.cells (Ze Za L1) 38), some (.cells (Ze Za (L1.take ((L1.length - 1) - 0))) 38)]) (ob := [(dP ((((L1.length - 1) - 0) = ((L1.length - 1) - 0) ∧ Zv (((L1.length - 1) - 0) * 7) (List.drop (0 + (0 * 7)) (Ze Za L1)) = some (Ze Za (L1.take ((L1.length - 1) - 0))) ∧ Zu ZC (Ze Za (L1.take ((L1.length - 1) - 0))) = true) ∧ 0 < ((L1.length - 1) - 0) ∧ ((L1.length - 1) - 0) ≤ 100000 ∧ 0 < 0 + ((L1.length - 1) - 0) ∧ 0 ≤ 100000 ∧ 0 * 7 ≤ (List.length []) ∧ List.take (0 * 7) [] ++ (Ze Za (L1.take ((L1.length - 1) - 0))) = (Ze Za (L1.take ((L1.length - 1) - 0)))), true), (dP (0 ≤ (L1.length - 1) ∧ (L1.length - 1) ≤ L1.length), true), ((((L1.length - 1) : Nat) : Int) == Int.ofNat (L1.length - 1), true), (dS 0, true), ((IntKind.i64.wrap ((L1.length : Int) - (1 : Int))) == (((L1.length - 1) : Nat) : Int), true), (Zo (Zv 7 (List.drop (0 + ((L1.length - 1) * 7)) (Ze Za L1))) [.i (L1.getD (L1.length - 1) RB.z).a0, .i (L1.getD (L1.length - 1) RB.z).a1, .i (L1.getD (L1.length - 1) RB.z).a2, .i (L1.getD (L1.length - 1) RB.z).a3, .i (L1.getD (L1.length - 1) RB.z).a4, .b (L1.getD (L1.length - 1) RB.z).a5, .i (L1.getD (L1.length - 1) RB.z).a6], true), (Nat.blt (L1.length - 1) L1.length, true), ((((L1.length - 1) : Nat) : Int) == Int.ofNat (L1.length - 1), true), ((IntKind.i64.wrap ((L1.length : Int) - (1 : Int))) == (((L1.length - 1) : Nat) : Int), true), (((L1.length : Int) == (0 : Int)), false)]) (by kernel_rfl) (Zb (Zi ⟨⟨rfl, (Zck (E := Za) (L := L1) (a := 0) (n := ((L1.length - 1) - 0)) (by omega) (by show _ = _ * 7; omega) (show _ = _ * 7 from rfl) (by rw [List.drop_zero]))⟩, by omega, by omega, ltA, by omega, (ZaX (E := Za) (L := ([] : List RB)) (M := (L1.take ((L1.length - 1) - 0))) (n := 0) (show _ = _ * 7 from rfl) ltA (R := (L1.take ((L1.length - 1) - 0))) (by rw [List.take_of_length_le ltA]; rfl))⟩) <| Zb (Zi ⟨ltA, ltA⟩) <| oI <| oR <| Zb (beq_iff_eq.2 ((wrap_i64 ltA).trans (by first | rfl | omega))) <| Zb (Z8 (E := Za) (L := L1) (i := (L1.length - 1)) (q := 0) (by omega) (show (0 + ((L1.length - 1) * 7)) = (L1.length - 1) * 7 + 0 from by omega) (show 0 + 7 ≤ 7 from by decide) rfl rfl) <| oB <| oI <| Zb (beq_iff_eq.2 ((wrap_i64 ltA).trans (by first | rfl | omega))) <| oF Zj) rfl (by decide) (by rfl) ⟨Eq.trans (show (Value.tuple #[Value.agg #[vi a0, vs 1 0 (L1.take ((L1.length - 1) - 0)).length (L1.take ((L1.length - 1) - 0)).length], Value.agg #[vi (L1.getD (L1.length - 1) RB.z).a0, vi (L1.getD (L1.length - 1) RB.z).a1, vi (L1.getD (L1.length - 1) RB.z).a2, vi (L1.getD (L1.length - 1) RB.z).a3, vi (L1.getD (L1.length - 1) RB.z).a4, Value.bool (L1.getD (L1.length - 1) RB.z).a5, vi (L1.getD (L1.length - 1) RB.z).a6], vT] : Value) = Value.tuple #[Value.agg #[vi a0, vs 1 0 (0 + ((L1.length - 1) - 0)) (0 + ((L1.length - 1) - 0))], Value.agg #[vi (L1.getD (L1.length - 1) RB.z).a0, vi (L1.getD (L1.length - 1) RB.z).a1, vi (L1.getD (L1.length - 1) RB.z).a2, vi (L1.getD (L1.length - 1) RB.z).a3, vi (L1.getD (L1.length - 1) RB.z).a4, Value.bool (L1.getD (L1.length - 1) RB.z).a5, vi (L1.getD (L1.length - 1) RB.z).a6], vT] from (ZhM (Zh (ZkH (Zh rfl (Zh (Zx rfl eqA eqA) rfl))) (Zh rfl (Zh rfl rfl))))) (by rfl), by rfl⟩ ⟨(Zk (E := Za) (α := RB) _ L1 _), ⟨(Zk (E := Za) (α := RB) _ (L1.take ((L1.length - 1) - 0)) _), trivial⟩⟩
    ·
     exact ZdW
  ·
   exact ZdW

theorem Zg7 (a0 : Int) (L1 : List RB) (N : Nat) (r : ZbE) (h : ZaV a0 L1 N = some r) : LSpec Try.prog 12 #[Value.agg #[vi a0, vs 0 0 L1.length L1.length]] [.cells (Ze Za L1) 38] (Zje a0 L1 r) (Ziy a0 L1 r) :=
 Zdo ZbQ Try.func12 (by kernel_rfl) (by kernel_rfl) (fun r => by cases r <;> exact ZM _ rfl) (Zlo a0 L1 N) h

noncomputable def Zco (a0 : Int) (L1 : List RB) (k0 n : Nat) : Zbi := .call [(k0, .cells (Ze Za L1) 38)] (Value.tuple #[Value.agg #[vi a0, vs k0 0 L1.length L1.length], Value.agg #[vq, vq, vq, vq, vq, vf, vq], vf]) [] 0
def ZbG (A : Array Value) (a0 : Int) (L1 : List RB) (k0 n : Nat) : Prop := Z9 Try.prog 12 A [(k0, .cells (Ze Za L1) 38)] (Value.tuple #[Value.agg #[vi a0, vs k0 0 L1.length L1.length], Value.agg #[vq, vq, vq, vq, vq, vf, vq], vf]) [] n 0

theorem Zcp (A : Array Value) (a0 : Int) (L1 : List RB) (N : Nat) (h : ZaV a0 L1 N = some (.r0)) (k0 n : Nat) (hA : A = #[Value.agg #[vi a0, vs k0 0 L1.length L1.length]]) (hnd : ([k0] : List Nat).Nodup) (hlt : ∀ k ∈ ([k0] : List Nat), k < n) : ZbG A a0 L1 k0 n :=
 ZW hA (LSpec.callL (show LSpec Try.prog 12 #[Value.agg #[vi a0, vs 0 0 L1.length L1.length]] [.cells (Ze Za L1) 38] (Value.tuple #[Value.agg #[vi a0, vs 0 0 L1.length L1.length], Value.agg #[vq, vq, vq, vq, vq, vf, vq], vf]) [some (.cells (Ze Za L1) 38)] from Zg7 a0 L1 N _ h) [k0] n [] rfl hnd hlt (show 1 ≤ 1 from by decide) (show ∀ j ∈ ([] : List Nat), j < 1 from by decide) (by rfl) ⟨(Zz _ _ _), trivial⟩ (by rfl) ⟨(Zz _ _ _), trivial⟩ ⟨.inr rfl, trivial⟩ rfl rfl rfl (Zh (Z3 rfl (ZU _ _ _)) rfl) rfl)

noncomputable def ZaP (a0 : Int) (L1 w2 : List RB) (k0 n : Nat) : Zbi := .call [(k0, .cells (Ze Za L1) 38)] (Value.tuple #[Value.agg #[vi a0, vs n 0 w2.length w2.length], Value.agg #[vi (L1.getD (L1.length - 1) RB.z).a0, vi (L1.getD (L1.length - 1) RB.z).a1, vi (L1.getD (L1.length - 1) RB.z).a2, vi (L1.getD (L1.length - 1) RB.z).a3, vi (L1.getD (L1.length - 1) RB.z).a4, Value.bool (L1.getD (L1.length - 1) RB.z).a5, vi (L1.getD (L1.length - 1) RB.z).a6], vT]) [(n, some (.cells (Ze Za w2) 38))] 1
def ZaB (A : Array Value) (a0 : Int) (L1 w2 : List RB) (k0 n : Nat) : Prop := Z9 Try.prog 12 A [(k0, .cells (Ze Za L1) 38)] (Value.tuple #[Value.agg #[vi a0, vs n 0 w2.length w2.length], Value.agg #[vi (L1.getD (L1.length - 1) RB.z).a0, vi (L1.getD (L1.length - 1) RB.z).a1, vi (L1.getD (L1.length - 1) RB.z).a2, vi (L1.getD (L1.length - 1) RB.z).a3, vi (L1.getD (L1.length - 1) RB.z).a4, Value.bool (L1.getD (L1.length - 1) RB.z).a5, vi (L1.getD (L1.length - 1) RB.z).a6], vT]) [(n, some (.cells (Ze Za w2) 38))] n 1

theorem ZaQ (A : Array Value) (a0 : Int) (L1 w2 : List RB) (N : Nat) (h : ZaV a0 L1 N = some (.r1 w2)) (k0 n : Nat) (hA : A = #[Value.agg #[vi a0, vs k0 0 L1.length L1.length]]) (hnd : ([k0] : List Nat).Nodup) (hlt : ∀ k ∈ ([k0] : List Nat), k < n) : ZaB A a0 L1 w2 k0 n :=
 ZW hA (LSpec.callL (show LSpec Try.prog 12 #[Value.agg #[vi a0, vs 0 0 L1.length L1.length]] [.cells (Ze Za L1) 38] (Value.tuple #[Value.agg #[vi a0, vs 1 0 w2.length w2.length], Value.agg #[vi (L1.getD (L1.length - 1) RB.z).a0, vi (L1.getD (L1.length - 1) RB.z).a1, vi (L1.getD (L1.length - 1) RB.z).a2, vi (L1.getD (L1.length - 1) RB.z).a3, vi (L1.getD (L1.length - 1) RB.z).a4, Value.bool (L1.getD (L1.length - 1) RB.z).a5, vi (L1.getD (L1.length - 1) RB.z).a6], vT]) [some (.cells (Ze Za L1) 38), some (.cells (Ze Za w2) 38)] from Zg7 a0 L1 N _ h) [k0] n [1] rfl hnd hlt (show 1 ≤ 2 from by decide) (show ∀ j ∈ ([1] : List Nat), j < 2 from by decide) (by rfl) ⟨(Zz _ _ _), trivial⟩ (by rfl) ⟨(Zz _ _ _), ⟨(Zz _ _ _), trivial⟩⟩ ⟨.inr rfl, ⟨(by decide), trivial⟩⟩ rfl rfl rfl (Zh (Z3 rfl (ZU _ _ _)) rfl) (Zh (Z3 rfl (ZbN (ZU _ _ _))) rfl))

noncomputable def Zj9 (a0 a1 a2 a3 : Int) (L4 : List RB) : undo_Log_First_2R → Value
 | .r0 w1 w2 w3 => Value.tuple #[Value.agg #[vi w1, vi w2], Value.bool w3]
noncomputable def Zjf (a0 a1 a2 a3 : Int) (L4 : List RB) : undo_Log_First_2R → List (Option AObj)
 | .r0 w1 w2 w3 => [some (.cells [vi a3, vs 1 0 L4.length L4.length] 60), some (.cells (Ze Za L4) 38)]

noncomputable def ZcU (a0 a1 a2 a3 : Int) (L4 : List RB) : ZO → List (Option AObj)
 | .h1m0 v2 v9 v10 v11 => [some (.cells [vi a3, vs 1 0 L4.length L4.length] 60), some (.cells (Ze Za L4) 38), some (.cells [vi a0, vi a1] 35), some (.cells [vi a2] 3), some (.cells [vq, vq] 35), some (.cells [vi v9, vi v10] 35), some (.cells [Value.bool v11] 4)]

noncomputable def ZcB : ZO → List (Nat × Value)
 | .h1m0 v2 v9 v10 v11 => [(0, vp 0 0), (4, vi v2)]
noncomputable def Zf9 (a0 a1 a2 a3 : Int) (L4 : List RB) (w1 w2 : Int) (w3 : Bool) : List (Option AObj) := [some (.cells [vi a3, vs 1 0 L4.length L4.length] 60), some (.cells (Ze Za L4) 38), some (.cells [vi a0, vi a1] 35), some (.cells [vi a2] 3), some (.cells [vq, vq] 35), some (.cells [vi w1, vi w2] 35), some (.cells [Value.bool w3] 4)]
theorem Ze0 (a0 a1 a2 a3 : Int) (L4 : List RB) (N : Nat) (w1 w2 : Int) (w3 : Bool) (x : ZO) (o : ZO ⊕ undo_Log_First_2R) (hs : Zb2 a0 a1 a2 a3 L4 N x = some o) (gv gvc : Nat → Value) (ps : Array Tmp) (asg body : Code) (id : Nat) (cB : Code)
  (hps : ps = #[19, 20]) (hcode : (id, cB) = ZdN) (hab : (asg, body) = ZdO) : match o with
      | .inl y => ∃ fu orc live tv bl ob, ZhR live ((ZcB y).map (·.1)) [1] (evI Try.prog ZiP (Try.f21).ntmps ⟨(Try.f13).ntmps, tmps (Try.f13).ntmps (fun t => ZH t Zbu) gvc, ps, asg, body⟩ fu cB (tmps (Try.f21).ntmps (fun t => ZH t (ZcB x)) gv) ⟨Zb7 0 (ZcU a0 a1 a2 a3 L4 x), 7, [], orc, []⟩ [1] none) = some (.normal, tv, bl, ob) ∧ (∀ p ∈ ob, p.1 = p.2) ∧ live.length = 7 ∧ live.Nodup ∧ ZbZ 7 live = true ∧ Zdn (rho live far) tv (ZcB y) ∧ Za9 (rho live far) bl (ZcU a0 a1 a2 a3 L4 y)
      | .inr r' => r' = .r0 w1 w2 w3 → ∃ fu orc live bl ob, ZhR live [] [1] (evI Try.prog ZiP (Try.f21).ntmps ⟨(Try.f13).ntmps, tmps (Try.f13).ntmps (fun t => ZH t Zbu) gvc, ps, asg, body⟩ fu cB (tmps (Try.f21).ntmps (fun t => ZH t (ZcB x)) gv) ⟨Zb7 0 (ZcU a0 a1 a2 a3 L4 x), 7, [], orc, []⟩ [1] none) = some (.exit id, [], bl, ob) ∧ (∀ p ∈ ob, p.1 = p.2) ∧ live.length = 7 ∧ live.Nodup ∧ ZbZ 7 live = true ∧ Za9 (rho live far) bl (Zf9 a0 a1 a2 a3 L4 w1 w2 w3) := by
 subst hps
 simp only [ZdN, ZdO, Prod.mk.injEq] at hcode hab
 obtain ⟨rfl, rfl⟩ := hcode
 obtain ⟨rfl, rfl⟩ := hab
 cases x with
 | h1m0 v2 v9 v10 v11 =>
 have hs : Zai a0 a1 a2 a3 L4 N v2 v9 v10 v11 = some o := hs
 unfold Zai at hs
 by_cases g0 : (0 : Int) ≤ v2
 · rw [if_pos g0] at hs
   by_cases g1 : (v2).toNat < L4.length
   · rw [if_pos g1] at hs
     by_cases g2 : ((L4.getD (v2).toNat RB.z).a0 = a0 ∧ (L4.getD (v2).toNat RB.z).a1 = a1)
     · rw [if_pos g2] at hs
       by_cases g3 : (L4.getD (v2).toNat RB.z).a2 = a2
       · rw [if_pos g3] at hs
         by_cases g4 : (L4.getD (v2).toNat RB.z).a5 = true
         · rw [if_pos g4] at hs
           obtain rfl := Option.some.inj hs
           exact ⟨4000, (Zm [(0, true), (1, true), (2, true), (3, true)] [] [(0, (v2).toNat)] [(1, [.i (L4.getD (v2).toNat RB.z).a0, .i (L4.getD (v2).toNat RB.z).a1, .i (L4.getD (v2).toNat RB.z).a2, .i (L4.getD (v2).toNat RB.z).a3, .i (L4.getD (v2).toNat RB.z).a4, .b (L4.getD (v2).toNat RB.z).a5, .i (L4.getD (v2).toNat RB.z).a6])] []), [0, 1, 2, 3, 4, 5, 6], [some (vp 0 0), some (vi (IntKind.i64.wrap (v2 - (1 : Int))))], [some (.cells [vi a3, vs 1 0 L4.length L4.length] 60), some (.cells (Ze Za L4) 38), some (.cells [vi a0, vi a1] 35), some (.cells [vi a2] 3), some (.cells [vq, vq] 35), some (.cells [vi v9, vi v10] 35), some (.cells [Value.bool v11] 4)], [((L4.getD (v2).toNat RB.z).a5, true), (((L4.getD (v2).toNat RB.z).a2 == a2), true), ((((L4.getD (v2).toNat RB.z).a0 == a0) && (((L4.getD (v2).toNat RB.z).a1 == a1) && true)), true), (Zo (Zv 7 (List.drop (0 + ((v2).toNat * 7)) (Ze Za L4))) [.i (L4.getD (v2).toNat RB.z).a0, .i (L4.getD (v2).toNat RB.z).a1, .i (L4.getD (v2).toNat RB.z).a2, .i (L4.getD (v2).toNat RB.z).a3, .i (L4.getD (v2).toNat RB.z).a4, .b (L4.getD (v2).toNat RB.z).a5, .i (L4.getD (v2).toNat RB.z).a6], true), (Nat.blt (v2).toNat L4.length, true), (v2 == Int.ofNat (v2).toNat, true), ((decide (v2 ≥ (0 : Int))), true)], by kernel_rfl, (Zb (by assumption) <| oT <| Zb (by first | (simp only [beq_self_eq_true, Bool.and_self]; done) | (simp only [Bool.and_true, Bool.and_eq_true, beq_iff_eq] <;> first | omega | (simp_all; done) | grind)) <| Zb (Z8 (E := Za) (L := L4) (i := (v2).toNat) (q := 0) (by omega) (show (0 + ((v2).toNat * 7)) = (v2).toNat * 7 + 0 from by omega) (show 0 + 7 ≤ 7 from by decide) rfl rfl) <| oB <| oI <| oY Zj), rfl, by decide, by rfl, ⟨rr, ⟨rr, trivial⟩⟩, ⟨⟨rfl, ⟨[], by rfl⟩, by rfl⟩, ⟨(Zk (E := Za) (α := RB) _ L4 _), ⟨⟨rfl, ⟨[], by rfl⟩, by rfl⟩, ⟨⟨rfl, ⟨[], by rfl⟩, by rfl⟩, ⟨⟨rfl, ⟨[], by rfl⟩, by rfl⟩, ⟨⟨rfl, ⟨[], by rfl⟩, by rfl⟩, ⟨⟨rfl, ⟨[], by rfl⟩, by rfl⟩, trivial⟩⟩⟩⟩⟩⟩⟩⟩
         · rw [if_neg g4] at hs
           obtain rfl := Option.some.inj hs
           exact ⟨4000, (Zm [(0, true), (1, true), (2, true), (3, false)] [] [(0, (v2).toNat)] [(1, [.i (L4.getD (v2).toNat RB.z).a0, .i (L4.getD (v2).toNat RB.z).a1, .i (L4.getD (v2).toNat RB.z).a2, .i (L4.getD (v2).toNat RB.z).a3, .i (L4.getD (v2).toNat RB.z).a4, .b (L4.getD (v2).toNat RB.z).a5, .i (L4.getD (v2).toNat RB.z).a6])] []), [0, 1, 2, 3, 4, 5, 6], [some (vp 0 0), some (vi (IntKind.i64.wrap (v2 - (1 : Int))))], [some (.cells [vi a3, vs 1 0 L4.length L4.length] 60), some (.cells (Ze Za L4) 38), some (.cells [vi a0, vi a1] 35), some (.cells [vi a2] 3), some (.cells [vq, vq] 35), some (.cells [vi (L4.getD (v2).toNat RB.z).a3, vi (L4.getD (v2).toNat RB.z).a4] 35), some (.cells [vT] 4)], [((L4.getD (v2).toNat RB.z).a5, false), (((L4.getD (v2).toNat RB.z).a2 == a2), true), ((((L4.getD (v2).toNat RB.z).a0 == a0) && (((L4.getD (v2).toNat RB.z).a1 == a1) && true)), true), (Zo (Zv 7 (List.drop (0 + ((v2).toNat * 7)) (Ze Za L4))) [.i (L4.getD (v2).toNat RB.z).a0, .i (L4.getD (v2).toNat RB.z).a1, .i (L4.getD (v2).toNat RB.z).a2, .i (L4.getD (v2).toNat RB.z).a3, .i (L4.getD (v2).toNat RB.z).a4, .b (L4.getD (v2).toNat RB.z).a5, .i (L4.getD (v2).toNat RB.z).a6], true), (Nat.blt (v2).toNat L4.length, true), (v2 == Int.ofNat (v2).toNat, true), ((decide (v2 ≥ (0 : Int))), true)], by kernel_rfl, (Zb (Bool.eq_false_iff.2 (by assumption)) <| oT <| Zb (by first | (simp only [beq_self_eq_true, Bool.and_self]; done) | (simp only [Bool.and_true, Bool.and_eq_true, beq_iff_eq] <;> first | omega | (simp_all; done) | grind)) <| Zb (Z8 (E := Za) (L := L4) (i := (v2).toNat) (q := 0) (by omega) (show (0 + ((v2).toNat * 7)) = (v2).toNat * 7 + 0 from by omega) (show 0 + 7 ≤ 7 from by decide) rfl rfl) <| oB <| oI <| oY Zj), rfl, by decide, by rfl, ⟨rr, ⟨rr, trivial⟩⟩, ⟨⟨rfl, ⟨[], by rfl⟩, by rfl⟩, ⟨(Zk (E := Za) (α := RB) _ L4 _), ⟨⟨rfl, ⟨[], by rfl⟩, by rfl⟩, ⟨⟨rfl, ⟨[], by rfl⟩, by rfl⟩, ⟨⟨rfl, ⟨[], by rfl⟩, by rfl⟩, ⟨⟨rfl, ⟨[], by rfl⟩, by rfl⟩, ⟨⟨rfl, ⟨[], by rfl⟩, by rfl⟩, trivial⟩⟩⟩⟩⟩⟩⟩⟩
       · rw [if_neg g3] at hs
         obtain rfl := Option.some.inj hs
         exact ⟨4000, (Zm [(0, true), (1, true), (2, false)] [] [(0, (v2).toNat)] [(1, [.i (L4.getD (v2).toNat RB.z).a0, .i (L4.getD (v2).toNat RB.z).a1, .i (L4.getD (v2).toNat RB.z).a2, .i (L4.getD (v2).toNat RB.z).a3, .i (L4.getD (v2).toNat RB.z).a4, .b (L4.getD (v2).toNat RB.z).a5, .i (L4.getD (v2).toNat RB.z).a6])] []), [0, 1, 2, 3, 4, 5, 6], [some (vp 0 0), some (vi (IntKind.i64.wrap (v2 - (1 : Int))))], [some (.cells [vi a3, vs 1 0 L4.length L4.length] 60), some (.cells (Ze Za L4) 38), some (.cells [vi a0, vi a1] 35), some (.cells [vi a2] 3), some (.cells [vq, vq] 35), some (.cells [vi v9, vi v10] 35), some (.cells [Value.bool v11] 4)], [(((L4.getD (v2).toNat RB.z).a2 == a2), false), ((((L4.getD (v2).toNat RB.z).a0 == a0) && (((L4.getD (v2).toNat RB.z).a1 == a1) && true)), true), (Zo (Zv 7 (List.drop (0 + ((v2).toNat * 7)) (Ze Za L4))) [.i (L4.getD (v2).toNat RB.z).a0, .i (L4.getD (v2).toNat RB.z).a1, .i (L4.getD (v2).toNat RB.z).a2, .i (L4.getD (v2).toNat RB.z).a3, .i (L4.getD (v2).toNat RB.z).a4, .b (L4.getD (v2).toNat RB.z).a5, .i (L4.getD (v2).toNat RB.z).a6], true), (Nat.blt (v2).toNat L4.length, true), (v2 == Int.ofNat (v2).toNat, true), ((decide (v2 ≥ (0 : Int))), true)], by kernel_rfl, (oF <| Zb (by first | (simp only [beq_self_eq_true, Bool.and_self]; done) | (simp only [Bool.and_true, Bool.and_eq_true, beq_iff_eq] <;> first | omega | (simp_all; done) | grind)) <| Zb (Z8 (E := Za) (L := L4) (i := (v2).toNat) (q := 0) (by omega) (show (0 + ((v2).toNat * 7)) = (v2).toNat * 7 + 0 from by omega) (show 0 + 7 ≤ 7 from by decide) rfl rfl) <| oB <| oI <| oY Zj), rfl, by decide, by rfl, ⟨rr, ⟨rr, trivial⟩⟩, ⟨⟨rfl, ⟨[], by rfl⟩, by rfl⟩, ⟨(Zk (E := Za) (α := RB) _ L4 _), ⟨⟨rfl, ⟨[], by rfl⟩, by rfl⟩, ⟨⟨rfl, ⟨[], by rfl⟩, by rfl⟩, ⟨⟨rfl, ⟨[], by rfl⟩, by rfl⟩, ⟨⟨rfl, ⟨[], by rfl⟩, by rfl⟩, ⟨⟨rfl, ⟨[], by rfl⟩, by rfl⟩, trivial⟩⟩⟩⟩⟩⟩⟩⟩
     · rw [if_neg g2] at hs
       obtain rfl := Option.some.inj hs
       exact ⟨4000, (Zm [(0, true), (1, false)] [] [(0, (v2).toNat)] [(1, [.i (L4.getD (v2).toNat RB.z).a0, .i (L4.getD (v2).toNat RB.z).a1, .i (L4.getD (v2).toNat RB.z).a2, .i (L4.getD (v2).toNat RB.z).a3, .i (L4.getD (v2).toNat RB.z).a4, .b (L4.getD (v2).toNat RB.z).a5, .i (L4.getD (v2).toNat RB.z).a6])] []), [0, 1, 2, 3, 4, 5, 6], [some (vp 0 0), some (vi (IntKind.i64.wrap (v2 - (1 : Int))))], [some (.cells [vi a3, vs 1 0 L4.length L4.length] 60), some (.cells (Ze Za L4) 38), some (.cells [vi a0, vi a1] 35), some (.cells [vi a2] 3), some (.cells [vq, vq] 35), some (.cells [vi v9, vi v10] 35), some (.cells [Value.bool v11] 4)], [((((L4.getD (v2).toNat RB.z).a0 == a0) && (((L4.getD (v2).toNat RB.z).a1 == a1) && true)), false), (Zo (Zv 7 (List.drop (0 + ((v2).toNat * 7)) (Ze Za L4))) [.i (L4.getD (v2).toNat RB.z).a0, .i (L4.getD (v2).toNat RB.z).a1, .i (L4.getD (v2).toNat RB.z).a2, .i (L4.getD (v2).toNat RB.z).a3, .i (L4.getD (v2).toNat RB.z).a4, .b (L4.getD (v2).toNat RB.z).a5, .i (L4.getD (v2).toNat RB.z).a6], true), (Nat.blt (v2).toNat L4.length, true), (v2 == Int.ofNat (v2).toNat, true), ((decide (v2 ≥ (0 : Int))), true)], by kernel_rfl, (Zb (Bool.eq_false_iff.2 (by simp only [ne_eq, Bool.and_true, Bool.and_eq_true, beq_iff_eq]; first | omega | (intro hh; simp_all; done) | (intro hh; grind))) <| Zb (Z8 (E := Za) (L := L4) (i := (v2).toNat) (q := 0) (by omega) (show (0 + ((v2).toNat * 7)) = (v2).toNat * 7 + 0 from by omega) (show 0 + 7 ≤ 7 from by decide) rfl rfl) <| oB <| oI <| oY Zj), rfl, by decide, by rfl, ⟨rr, ⟨rr, trivial⟩⟩, ⟨⟨rfl, ⟨[], by rfl⟩, by rfl⟩, ⟨(Zk (E := Za) (α := RB) _ L4 _), ⟨⟨rfl, ⟨[], by rfl⟩, by rfl⟩, ⟨⟨rfl, ⟨[], by rfl⟩, by rfl⟩, ⟨⟨rfl, ⟨[], by rfl⟩, by rfl⟩, ⟨⟨rfl, ⟨[], by rfl⟩, by rfl⟩, ⟨⟨rfl, ⟨[], by rfl⟩, by rfl⟩, trivial⟩⟩⟩⟩⟩⟩⟩⟩
   · rw [if_neg g1] at hs
     cases hs
 · rw [if_neg g0] at hs
   have hr : o = .inr (.r0 v9 v10 v11) := by
     cases v11 with
     | true => exact (Option.some.inj hs).symm
     | false => exact (Option.some.inj hs).symm
   subst hr
   intro e
   injection e with e1 e2 e3
   subst e1 e2 e3
   exact ⟨4000, (Zm [(0, false)] [] [] [] []), [0, 1, 2, 3, 4, 5, 6], [some (.cells [vi a3, vs 1 0 L4.length L4.length] 60), some (.cells (Ze Za L4) 38), some (.cells [vi a0, vi a1] 35), some (.cells [vi a2] 3), some (.cells [vq, vq] 35), some (.cells [vi v9, vi v10] 35), some (.cells [Value.bool v11] 4)], [((decide (v2 ≥ (0 : Int))), false)], by kernel_rfl, (oN Zj), rfl, by decide, by rfl, ⟨⟨rfl, ⟨[], by rfl⟩, by rfl⟩, ⟨(Zk (E := Za) (α := RB) _ L4 _), ⟨⟨rfl, ⟨[], by rfl⟩, by rfl⟩, ⟨⟨rfl, ⟨[], by rfl⟩, by rfl⟩, ⟨⟨rfl, ⟨[], by rfl⟩, by rfl⟩, ⟨⟨rfl, ⟨[], by rfl⟩, by rfl⟩, ⟨⟨rfl, ⟨[], by rfl⟩, by rfl⟩, trivial⟩⟩⟩⟩⟩⟩⟩⟩
theorem ZhU (a0 a1 a2 a3 : Int) (L4 : List RB) (N : Nat) (w1 w2 : Int) (w3 : Bool) (g0 : (0 : Int) < a3) (g1 : ((L4.length : Int) - (1 : Int)) ≤ (9223372036854775807 : Int)) (h : Zb1 (Zb2 a0 a1 a2 a3 L4 N) N (.h1m0 ((L4.length : Int) - (1 : Int)) 0 0 false) = some (.r0 w1 w2 w3)) : LSpec Try.prog 13 #[vp 0 0, Value.agg #[vi a0, vi a1], vi a2] [.cells [vi a3, vs 1 0 L4.length L4.length] 60, .cells (Ze Za L4) 38] (Value.tuple #[Value.agg #[vi w1, vi w2], Value.bool w3]) [some (.cells [vi a3, vs 1 0 L4.length L4.length] 60), some (.cells (Ze Za L4) 38)] := by
 refine ZkJ (cs := [_, _, _, _]) ZhL Try.func13 rfl (by kernel_rfl) (ZM _ rfl)
  Zbu (ZcU a0 a1 a2 a3 L4 (.h1m0 ((L4.length : Int) - (1 : Int)) 0 0 false)) (fu1 := 4000) (orc1 := Zm [(1, true)] [] [] [] []) (live1 := [0, 1, 2, 3, 4, 5, 6]) (tv1 := [some (vp 2 0), some (vp 3 0), some (vp 4 0), some (vf), some (vp 5 0), some (vp 6 0), some (.func (.func 21) #[vp 0 0] #[])]) (bl1 := [some (.cells [vi a3, vs 1 0 L4.length L4.length] 60), some (.cells (Ze Za L4) 38), some (.cells [vi a0, vi a1] 35), some (.cells [vi a2] 3), some (.cells [vq, vq] 35), some (.cells [vq, vq] 35), some (.cells [vf] 4)]) (ob1 := [((decide (a3 > (0 : Int))), true)])
  (by kernel_rfl) (oY Zj) rfl (by decide) (by rfl) ⟨rr, ⟨rr, ⟨rr, ⟨rr, ⟨rr, ⟨rr, ⟨rr, trivial⟩⟩⟩⟩⟩⟩⟩ ⟨⟨rfl, ⟨[], by rfl⟩, by rfl⟩, ⟨(Zk (E := Za) (α := RB) _ L4 _), ⟨⟨rfl, ⟨[], by rfl⟩, by rfl⟩, ⟨⟨rfl, ⟨[], by rfl⟩, by rfl⟩, ⟨⟨rfl, ⟨[], by rfl⟩, by rfl⟩, ⟨⟨rfl, ⟨[], by rfl⟩, by rfl⟩, ⟨⟨rfl, ⟨[], by rfl⟩, by rfl⟩, trivial⟩⟩⟩⟩⟩⟩⟩
  (ZM _ rfl) (show 2 ≤ 7 from by decide) (fun x hx => ZT (p := fun x : Nat × Value => Zdw 7 3 x.2) (l := Zbu) (by kernel_rfl) x hx) ⟨rfl, (Zz _ _ _), rfl, rfl, rfl, rfl, rfl, trivial⟩
  (gf := 21) (av := #[vp 0 0]) (bv := #[]) (fun gv => by kernel_rfl) rfl Try.func21 rfl (by kernel_rfl) rfl
  (Zb2 a0 a1 a2 a3 L4 N) ZcB (ZcU a0 a1 a2 a3 L4) (m := 7) (fun x => by cases x; rfl) (ZM _ rfl) [1] (Zf9 a0 a1 a2 a3 L4 w1 w2 w3) (ZM _ rfl) (.r0 w1 w2 w3) _ N h
  (fun gv => ⟨4000, Zm [] [(0, ((L4.length : Int) - (1 : Int)))] [] [] [], [0, 1, 2, 3, 4, 5, 6], [some (vp 0 0), some (vi ((L4.length : Int) - (1 : Int)))], [some (.cells [vi a3, vs 1 0 L4.length L4.length] 60), some (.cells (Ze Za L4) 38), some (.cells [vi a0, vi a1] 35), some (.cells [vi a2] 3), some (.cells [vq, vq] 35), some (.cells [vq, vq] 35), some (.cells [vf] 4)], [((IntKind.i64.wrap ((L4.length : Int) - (1 : Int))) == ((L4.length : Int) - (1 : Int)), true)], by kernel_rfl, (Zb (beq_iff_eq.2 ((wrap_i64 ltA).trans (by first | rfl | omega))) <| Zj), rfl, by decide, by rfl, ⟨rr, ⟨rr, trivial⟩⟩, ⟨⟨rfl, ⟨[], by rfl⟩, by rfl⟩, ⟨(Zk (E := Za) (α := RB) _ L4 _), ⟨⟨rfl, ⟨[], by rfl⟩, by rfl⟩, ⟨⟨rfl, ⟨[], by rfl⟩, by rfl⟩, ⟨⟨rfl, ⟨[], by rfl⟩, by rfl⟩, ⟨⟨rfl, ⟨[], by rfl⟩, by rfl⟩, ⟨⟨rfl, ⟨[], by rfl⟩, by rfl⟩, trivial⟩⟩⟩⟩⟩⟩⟩⟩)
  (fun x o hs gv gvc => by
   cases o with
   | inl y => exact Ze0 a0 a1 a2 a3 L4 N w1 w2 w3 x (.inl y) hs gv gvc _ _ _ _ _ rfl rfl rfl
   | inr r' => exact Ze0 a0 a1 a2 a3 L4 N w1 w2 w3 x (.inr r') hs gv gvc _ _ _ _ _ rfl rfl rfl) ?_
 intro gv
 cases w3 with
 | true => exact ⟨4000, Zm [(0, true)] [] [] [] [], [0, 1], Value.tuple #[Value.agg #[vi w1, vi w2], vT], [some (.cells [vi a3, vs 1 0 L4.length L4.length] 60), some (.cells (Ze Za L4) 38)], [(true, true)], by kernel_rfl, (Zb rfl Zj), rfl, by decide, by rfl, rr, ⟨⟨rfl, ⟨[], by rfl⟩, by rfl⟩, ⟨(Zk (E := Za) (α := RB) _ L4 _), trivial⟩⟩⟩
 | false => exact ⟨4000, Zm [(0, false)] [] [] [] [], [0, 1], Value.tuple #[Value.agg #[vi w1, vi w2], vf], [some (.cells [vi a3, vs 1 0 L4.length L4.length] 60), some (.cells (Ze Za L4) 38)], [(false, false)], by kernel_rfl, (Zb rfl Zj), rfl, by decide, by rfl, rr, ⟨⟨rfl, ⟨[], by rfl⟩, by rfl⟩, ⟨(Zk (E := Za) (α := RB) _ L4 _), trivial⟩⟩⟩
theorem Zh3 (a0 a1 a2 a3 : Int) (L4 : List RB) (N : Nat) (r : undo_Log_First_2R) (h : ZbJ a0 a1 a2 a3 L4 N = some r) : LSpec Try.prog 13 #[vp 0 0, Value.agg #[vi a0, vi a1], vi a2] [.cells [vi a3, vs 1 0 L4.length L4.length] 60, .cells (Ze Za L4) 38] (Zj9 a0 a1 a2 a3 L4 r) (Zjf a0 a1 a2 a3 L4 r) := by
 unfold ZbJ Zer at h
 by_cases g0 : (0 : Int) < a3
 · rw [if_pos g0] at h
   by_cases g1 : ((L4.length : Int) - (1 : Int)) ≤ (9223372036854775807 : Int)
   · rw [if_pos g1] at h
     cases r with
     | r0 w1 w2 w3 => exact ZhU a0 a1 a2 a3 L4 N w1 w2 w3 g0 g1 h
   · rw [if_neg g1] at h; cases h
 · rw [if_neg g0] at h
   obtain rfl : undo_Log_First_2R.r0 0 0 false = r := Option.some.inj h
   exact Zgg (ZdI (fu := 4000) ZhL Try.func13 rfl) (orc := Zm [(1, false)] [] [] [] []) (live := [0, 1]) (u := Value.tuple #[Value.agg #[vq, vq], vf]) (bl := [some (.cells [vi a3, vs 1 0 L4.length L4.length] 60), some (.cells (Ze Za L4) 38)]) (ob := [((decide (a3 > (0 : Int))), false)]) (by kernel_rfl) (oN Zj) (ZM _ rfl) rfl (by decide) (by rfl) rr ⟨⟨rfl, ⟨[], by rfl⟩, by rfl⟩, ⟨(Zk (E := Za) (α := RB) _ L4 _), trivial⟩⟩

noncomputable def ZbV (a0 a1 a2 a3 : Int) (L4 : List RB) (w1 w2 : Int) (w3 : Bool) (k0 k1 n : Nat) : Zbi := .call [(k0, .cells [vi a3, vs k1 0 L4.length L4.length] 60), (k1, .cells (Ze Za L4) 38)] (Value.tuple #[Value.agg #[vi w1, vi w2], Value.bool w3]) [] 0
def Zbw (A : Array Value) (a0 a1 a2 a3 : Int) (L4 : List RB) (w1 w2 : Int) (w3 : Bool) (k0 k1 n : Nat) : Prop := Z9 Try.prog 13 A [(k0, .cells [vi a3, vs k1 0 L4.length L4.length] 60), (k1, .cells (Ze Za L4) 38)] (Value.tuple #[Value.agg #[vi w1, vi w2], Value.bool w3]) [] n 0

theorem ZbW (A : Array Value) (a0 a1 a2 a3 : Int) (L4 : List RB) (w1 w2 : Int) (w3 : Bool) (N : Nat) (h : ZbJ a0 a1 a2 a3 L4 N = some (.r0 w1 w2 w3)) (k0 k1 n : Nat) (hA : A = #[vp k0 0, Value.agg #[vi a0, vi a1], vi a2]) (hnd : ([k0, k1] : List Nat).Nodup) (hlt : ∀ k ∈ ([k0, k1] : List Nat), k < n) : Zbw A a0 a1 a2 a3 L4 w1 w2 w3 k0 k1 n :=
 ZW hA (LSpec.callL (show LSpec Try.prog 13 #[vp 0 0, Value.agg #[vi a0, vi a1], vi a2] [.cells [vi a3, vs 1 0 L4.length L4.length] 60, .cells (Ze Za L4) 38] (Value.tuple #[Value.agg #[vi w1, vi w2], Value.bool w3]) [some (.cells [vi a3, vs 1 0 L4.length L4.length] 60), some (.cells (Ze Za L4) 38)] from Zh3 a0 a1 a2 a3 L4 N _ h) [k0, k1] n [] rfl hnd hlt (show 2 ≤ 2 from by decide) (show ∀ j ∈ ([] : List Nat), j < 2 from by decide) (by rfl) ⟨rfl, ⟨(Zz _ _ _), trivial⟩⟩ (by rfl) ⟨rfl, ⟨(Zz _ _ _), trivial⟩⟩ ⟨.inr rfl, ⟨.inr rfl, trivial⟩⟩ rfl rfl rfl (Zh (Z3 rfl rfl) (Zh (Z3 rfl (ZU _ _ _)) rfl)) rfl)

noncomputable def Zh4 (a0 : Int) (L1 : List RB) (a2 a3 a4 : Int) : Zav → Value
 | .r0 w1 w2 w3 => Value.tuple #[Value.agg #[vi w1, vi w2], Value.bool w3]
noncomputable def ZgT (a0 : Int) (L1 : List RB) (a2 a3 a4 : Int) : Zav → List (Option AObj)
 | .r0 w1 w2 w3 => [some (.cells (Ze Za L1) 38)]

def ZkS : ZF → Nat
 | .h1m0 v2 => 1
noncomputable def Zlp (a0 : Int) (L1 : List RB) (a2 a3 a4 : Int) : ZF → List (Nat × Value)
 | .h1m0 v2 => [(2, vi a4), (3, vp 1 0), (4, vp 2 0), (6, vp 3 0), (8, vi (v2 : Int))]
noncomputable def Zlq (a0 : Int) (L1 : List RB) (a2 a3 a4 : Int) : ZF → List (Option AObj)
 | .h1m0 v2 => [some (.cells (Ze Za L1) 38), some (.cells [vi a0, vs 0 0 L1.length L1.length] 29), some (.cells [vi a2, vi a3] 35), some (.cells [vq, vq] 35)]

noncomputable def Zdd : Nat → Code × List ZaY
 | 1 => ZcR [1, 0, 1, 3] (ZdJ Try.f14) []
 | _ => (.skip, [])
def ZgU : Nat → Bool
 | 1 => true
 | _ => true
noncomputable def Zfp (i : Nat) : List ZaY := match ZgU i with | true => .rnd i :: (Zdd i).2 | false => (Zdd i).2

noncomputable def ZaU (a0 : Int) (L1 : List RB) (a2 a3 a4 : Int) (N : Nat) : Mach := ⟨Try.f14, [.cells (Ze Za L1) 38], ZF, Zav, ZcT a0 L1 a2 a3 a4 N, ZkS, Zdd, ZgU, Zlp a0 L1 a2 a3 a4, Zlq a0 L1 a2 a3 a4, Zh4 a0 L1 a2 a3 a4, ZgT a0 L1 a2 a3 a4⟩

theorem Zi2 (a0 : Int) (L1 : List RB) (a2 a3 a4 : Int) (v2 N : Nat) : (ZaU a0 L1 a2 a3 a4 N).Ok Try.prog Zw (.h1m0 v2 : ZF) (ZcT a0 L1 a2 a3 a4 N (.h1m0 v2 : ZF)) := by
 show (ZaU a0 L1 a2 a3 a4 N).Ok Try.prog Zw (.h1m0 v2 : ZF) (ZaD a0 L1 a2 a3 a4 N v2)
 unfold ZaD
 refine Mach.ok_ite (fun g0 => ?_) (fun g0 => ?_)
 ·
  refine Mach.ok_ite (fun g1 => ?_) (fun g1 => ?_)
  ·
   refine Mach.ok_ite (fun g2 => ?_) (fun g2 => ?_)
   ·
    refine Mach.ok_ite (fun g3 => ?_) (fun g3 => ?_)
    ·
     refine Mach.ok_ite (fun g4 => ?_) (fun g4 => ?_)
     ·
      exact Mach.ok_next (M := ZaU a0 L1 a2 a3 a4 N) (cd := 1000000) (cm := 0) (y := (.h1m0 ((v2 + 1)) : ZF)) (fu := 4000) (orc := (Zm [(0, true), (1, true), (2, true), (3, true)] [(0, (((v2 + 1) : Nat) : Int))] [(0, v2), (1, v2), (2, v2)] [(2, [.i (L1.getD v2 RB.z).a0, .i (L1.getD v2 RB.z).a1]), (5, [.i (L1.getD v2 RB.z).a2]), (7, [.b (L1.getD v2 RB.z).a5])] [])) (live := [0, 1, 2, 3]) (tv := fun _ => [some (vi a4), some (vp 1 0), some (vp 2 0), some (vp 3 0), some (vi (((v2 + 1) : Nat) : Int))]) (bl := [some (.cells (Ze Za L1) 38), some (.cells [vi a0, vs 0 0 L1.length L1.length] 29), some (.cells [vi a2, vi a3] 35), some (.cells [vq, vq] 35)]) (ob := [((IntKind.i64.wrap ((v2 : Int) + (1 : Int))) == (((v2 + 1) : Nat) : Int), true), ((L1.getD v2 RB.z).a5, true), (Zo (Zv 1 (List.drop ((0 + (v2 * 7)) + 5) (Ze Za L1))) [.b (L1.getD v2 RB.z).a5], true), (Nat.blt v2 L1.length, true), ((v2 : Int) == Int.ofNat v2, true), (((L1.getD v2 RB.z).a2 == a4), true), (Zo (Zv 1 (List.drop ((0 + (v2 * 7)) + 2) (Ze Za L1))) [.i (L1.getD v2 RB.z).a2], true), (Nat.blt v2 L1.length, true), ((v2 : Int) == Int.ofNat v2, true), ((((L1.getD v2 RB.z).a0 == a2) && (((L1.getD v2 RB.z).a1 == a3) && true)), true), (Zo (Zv 2 (List.drop ((0 + (v2 * 7)) + 0) (Ze Za L1))) [.i (L1.getD v2 RB.z).a0, .i (L1.getD v2 RB.z).a1], true), (Nat.blt v2 L1.length, true), ((v2 : Int) == Int.ofNat v2, true), ((decide ((v2 : Int) < (L1.length : Int))), true)]) rfl (show 1 ∈ Zn (Zfp 1) from by decide +kernel) (fun gv => by kernel_rfl) (Zb (beq_iff_eq.2 ((wrap_i64 ltA).trans (by first | rfl | omega))) <| Zb (by assumption) <| Zb (Z8 (E := Za) (L := L1) (i := v2) (q := 5) (by omega) (show ((0 + (v2 * 7)) + 5) = v2 * 7 + 5 from by omega) (show 5 + 1 ≤ 7 from by decide) rfl rfl) <| oB <| oI <| oT <| Zb (Z8 (E := Za) (L := L1) (i := v2) (q := 2) (by omega) (show ((0 + (v2 * 7)) + 2) = v2 * 7 + 2 from by omega) (show 2 + 1 ≤ 7 from by decide) rfl rfl) <| oB <| oI <| Zb (by first | (simp only [beq_self_eq_true, Bool.and_self]; done) | (simp only [Bool.and_true, Bool.and_eq_true, beq_iff_eq] <;> first | omega | (simp_all; done) | grind)) <| Zb (Z8 (E := Za) (L := L1) (i := v2) (q := 0) (by omega) (show ((0 + (v2 * 7)) + 0) = v2 * 7 + 0 from by omega) (show 0 + 2 ≤ 7 from by decide) rfl rfl) <| oB <| oI <| oY Zj) rfl (by decide) (by rfl) (fun _ => ⟨rr, ⟨rr, ⟨rr, ⟨rr, ⟨rr, trivial⟩⟩⟩⟩⟩) ⟨(Zk (E := Za) (α := RB) _ L1 _), ⟨⟨rfl, ⟨[], by rfl⟩, by rfl⟩, ⟨⟨rfl, ⟨[], by rfl⟩, by rfl⟩, ⟨⟨rfl, ⟨[], by rfl⟩, by rfl⟩, trivial⟩⟩⟩⟩
     ·
      exact Mach.ok_none
    ·
     exact Mach.ok_fin (M := ZaU a0 L1 a2 a3 a4 N) (cd := 1000000) (cm := 0) (r := (.r0 ((L1.getD v2 RB.z).a3) ((L1.getD v2 RB.z).a4) (true) : Zav)) (fu := 4000) (orc := (Zm [(0, true), (1, true), (2, true), (3, false)] [] [(0, v2), (1, v2), (2, v2), (3, v2)] [(2, [.i (L1.getD v2 RB.z).a0, .i (L1.getD v2 RB.z).a1]), (5, [.i (L1.getD v2 RB.z).a2]), (7, [.b (L1.getD v2 RB.z).a5]), (9, [.i (L1.getD v2 RB.z).a3, .i (L1.getD v2 RB.z).a4])] [])) (live := [0]) (u := Value.tuple #[Value.agg #[vi (L1.getD v2 RB.z).a3, vi (L1.getD v2 RB.z).a4], vT]) (bl := [some (.cells (Ze Za L1) 38)]) (ob := [(Zo (Zv 2 (List.drop ((0 + (v2 * 7)) + 3) (Ze Za L1))) [.i (L1.getD v2 RB.z).a3, .i (L1.getD v2 RB.z).a4], true), (Nat.blt v2 L1.length, true), ((v2 : Int) == Int.ofNat v2, true), ((L1.getD v2 RB.z).a5, false), (Zo (Zv 1 (List.drop ((0 + (v2 * 7)) + 5) (Ze Za L1))) [.b (L1.getD v2 RB.z).a5], true), (Nat.blt v2 L1.length, true), ((v2 : Int) == Int.ofNat v2, true), (((L1.getD v2 RB.z).a2 == a4), true), (Zo (Zv 1 (List.drop ((0 + (v2 * 7)) + 2) (Ze Za L1))) [.i (L1.getD v2 RB.z).a2], true), (Nat.blt v2 L1.length, true), ((v2 : Int) == Int.ofNat v2, true), ((((L1.getD v2 RB.z).a0 == a2) && (((L1.getD v2 RB.z).a1 == a3) && true)), true), (Zo (Zv 2 (List.drop ((0 + (v2 * 7)) + 0) (Ze Za L1))) [.i (L1.getD v2 RB.z).a0, .i (L1.getD v2 RB.z).a1], true), (Nat.blt v2 L1.length, true), ((v2 : Int) == Int.ofNat v2, true), ((decide ((v2 : Int) < (L1.length : Int))), true)]) (fun gv => by kernel_rfl) (Zb (Z8 (E := Za) (L := L1) (i := v2) (q := 3) (by omega) (show ((0 + (v2 * 7)) + 3) = v2 * 7 + 3 from by omega) (show 3 + 2 ≤ 7 from by decide) rfl rfl) <| oB <| oI <| Zb (Bool.eq_false_iff.2 (by assumption)) <| Zb (Z8 (E := Za) (L := L1) (i := v2) (q := 5) (by omega) (show ((0 + (v2 * 7)) + 5) = v2 * 7 + 5 from by omega) (show 5 + 1 ≤ 7 from by decide) rfl rfl) <| oB <| oI <| oT <| Zb (Z8 (E := Za) (L := L1) (i := v2) (q := 2) (by omega) (show ((0 + (v2 * 7)) + 2) = v2 * 7 + 2 from by omega) (show 2 + 1 ≤ 7 from by decide) rfl rfl) <| oB <| oI <| Zb (by first | (simp only [beq_self_eq_true, Bool.and_self]; done) | (simp only [Bool.and_true, Bool.and_eq_true, beq_iff_eq] <;> first | omega | (simp_all; done) | grind)) <| Zb (Z8 (E := Za) (L := L1) (i := v2) (q := 0) (by omega) (show ((0 + (v2 * 7)) + 0) = v2 * 7 + 0 from by omega) (show 0 + 2 ≤ 7 from by decide) rfl rfl) <| oB <| oI <| oY Zj) rfl (by decide) (by rfl) rr ⟨(Zk (E := Za) (α := RB) _ L1 _), trivial⟩
   ·
    refine Mach.ok_ite (fun g3 => ?_) (fun g3 => ?_)
    ·
     exact Mach.ok_next (M := ZaU a0 L1 a2 a3 a4 N) (cd := 1000000) (cm := 0) (y := (.h1m0 ((v2 + 1)) : ZF)) (fu := 4000) (orc := (Zm [(0, true), (1, true), (2, false)] [(0, (((v2 + 1) : Nat) : Int))] [(0, v2), (1, v2)] [(2, [.i (L1.getD v2 RB.z).a0, .i (L1.getD v2 RB.z).a1]), (5, [.i (L1.getD v2 RB.z).a2])] [])) (live := [0, 1, 2, 3]) (tv := fun _ => [some (vi a4), some (vp 1 0), some (vp 2 0), some (vp 3 0), some (vi (((v2 + 1) : Nat) : Int))]) (bl := [some (.cells (Ze Za L1) 38), some (.cells [vi a0, vs 0 0 L1.length L1.length] 29), some (.cells [vi a2, vi a3] 35), some (.cells [vq, vq] 35)]) (ob := [((IntKind.i64.wrap ((v2 : Int) + (1 : Int))) == (((v2 + 1) : Nat) : Int), true), (((L1.getD v2 RB.z).a2 == a4), false), (Zo (Zv 1 (List.drop ((0 + (v2 * 7)) + 2) (Ze Za L1))) [.i (L1.getD v2 RB.z).a2], true), (Nat.blt v2 L1.length, true), ((v2 : Int) == Int.ofNat v2, true), ((((L1.getD v2 RB.z).a0 == a2) && (((L1.getD v2 RB.z).a1 == a3) && true)), true), (Zo (Zv 2 (List.drop ((0 + (v2 * 7)) + 0) (Ze Za L1))) [.i (L1.getD v2 RB.z).a0, .i (L1.getD v2 RB.z).a1], true), (Nat.blt v2 L1.length, true), ((v2 : Int) == Int.ofNat v2, true), ((decide ((v2 : Int) < (L1.length : Int))), true)]) rfl (show 1 ∈ Zn (Zfp 1) from by decide +kernel) (fun gv => by kernel_rfl) (Zb (beq_iff_eq.2 ((wrap_i64 ltA).trans (by first | rfl | omega))) <| oF <| Zb (Z8 (E := Za) (L := L1) (i := v2) (q := 2) (by omega) (show ((0 + (v2 * 7)) + 2) = v2 * 7 + 2 from by omega) (show 2 + 1 ≤ 7 from by decide) rfl rfl) <| oB <| oI <| Zb (by first | (simp only [beq_self_eq_true, Bool.and_self]; done) | (simp only [Bool.and_true, Bool.and_eq_true, beq_iff_eq] <;> first | omega | (simp_all; done) | grind)) <| Zb (Z8 (E := Za) (L := L1) (i := v2) (q := 0) (by omega) (show ((0 + (v2 * 7)) + 0) = v2 * 7 + 0 from by omega) (show 0 + 2 ≤ 7 from by decide) rfl rfl) <| oB <| oI <| oY Zj) rfl (by decide) (by rfl) (fun _ => ⟨rr, ⟨rr, ⟨rr, ⟨rr, ⟨rr, trivial⟩⟩⟩⟩⟩) ⟨(Zk (E := Za) (α := RB) _ L1 _), ⟨⟨rfl, ⟨[], by rfl⟩, by rfl⟩, ⟨⟨rfl, ⟨[], by rfl⟩, by rfl⟩, ⟨⟨rfl, ⟨[], by rfl⟩, by rfl⟩, trivial⟩⟩⟩⟩
    ·
     exact Mach.ok_none
  ·
   refine Mach.ok_ite (fun g2 => ?_) (fun g2 => ?_)
   ·
    exact Mach.ok_next (M := ZaU a0 L1 a2 a3 a4 N) (cd := 1000000) (cm := 0) (y := (.h1m0 ((v2 + 1)) : ZF)) (fu := 4000) (orc := (Zm [(0, true), (1, false)] [(0, (((v2 + 1) : Nat) : Int))] [(0, v2)] [(2, [.i (L1.getD v2 RB.z).a0, .i (L1.getD v2 RB.z).a1])] [])) (live := [0, 1, 2, 3]) (tv := fun _ => [some (vi a4), some (vp 1 0), some (vp 2 0), some (vp 3 0), some (vi (((v2 + 1) : Nat) : Int))]) (bl := [some (.cells (Ze Za L1) 38), some (.cells [vi a0, vs 0 0 L1.length L1.length] 29), some (.cells [vi a2, vi a3] 35), some (.cells [vq, vq] 35)]) (ob := [((IntKind.i64.wrap ((v2 : Int) + (1 : Int))) == (((v2 + 1) : Nat) : Int), true), ((((L1.getD v2 RB.z).a0 == a2) && (((L1.getD v2 RB.z).a1 == a3) && true)), false), (Zo (Zv 2 (List.drop ((0 + (v2 * 7)) + 0) (Ze Za L1))) [.i (L1.getD v2 RB.z).a0, .i (L1.getD v2 RB.z).a1], true), (Nat.blt v2 L1.length, true), ((v2 : Int) == Int.ofNat v2, true), ((decide ((v2 : Int) < (L1.length : Int))), true)]) rfl (show 1 ∈ Zn (Zfp 1) from by decide +kernel) (fun gv => by kernel_rfl) (Zb (beq_iff_eq.2 ((wrap_i64 ltA).trans (by first | rfl | omega))) <| Zb (Bool.eq_false_iff.2 (by simp only [ne_eq, Bool.and_true, Bool.and_eq_true, beq_iff_eq]; first | omega | (intro hh; simp_all; done) | (intro hh; grind))) <| Zb (Z8 (E := Za) (L := L1) (i := v2) (q := 0) (by omega) (show ((0 + (v2 * 7)) + 0) = v2 * 7 + 0 from by omega) (show 0 + 2 ≤ 7 from by decide) rfl rfl) <| oB <| oI <| oY Zj) rfl (by decide) (by rfl) (fun _ => ⟨rr, ⟨rr, ⟨rr, ⟨rr, ⟨rr, trivial⟩⟩⟩⟩⟩) ⟨(Zk (E := Za) (α := RB) _ L1 _), ⟨⟨rfl, ⟨[], by rfl⟩, by rfl⟩, ⟨⟨rfl, ⟨[], by rfl⟩, by rfl⟩, ⟨⟨rfl, ⟨[], by rfl⟩, by rfl⟩, trivial⟩⟩⟩⟩
   ·
    exact Mach.ok_none
 ·
  exact Mach.ok_fin (M := ZaU a0 L1 a2 a3 a4 N) (cd := 1000000) (cm := 0) (r := (.r0 ((0 : Int)) ((0 : Int)) (false) : Zav)) (fu := 4000) (orc := (Zm [(0, false)] [] [] [] [])) (live := [0]) (u := Value.tuple #[Value.agg #[vq, vq], vf]) (bl := [some (.cells (Ze Za L1) 38)]) (ob := [((decide ((v2 : Int) < (L1.length : Int))), false)]) (fun gv => by kernel_rfl) (oN Zj) rfl (by decide) (by rfl) rr ⟨(Zk (E := Za) (α := RB) _ L1 _), trivial⟩

theorem Zku (a0 : Int) (L1 : List RB) (a2 a3 a4 : Int) (N : Nat) : (ZaU a0 L1 a2 a3 a4 N).Enter Try.prog Zw #[Value.agg #[vi a0, vs 0 0 L1.length L1.length], Value.agg #[vi a2, vi a3], vi a4] (Zei a0 L1 a2 a3 a4 N) := by
 unfold Zei
 exact Mach.en_head (bK := Zdd 1) (M := ZaU a0 L1 a2 a3 a4 N) (cd := 1000000) (cm := 0) (y := (.h1m0 (0) : ZF)) (fu := 4000) (orc := (Zm [] [] [] [] [])) (live := [0, 1, 2, 3]) (tv := [some (vi a4), some (vp 1 0), some (vp 2 0), some (vp 3 0), some (vq)]) (bl := [some (.cells (Ze Za L1) 38), some (.cells [vi a0, vs 0 0 L1.length L1.length] 29), some (.cells [vi a2, vi a3] 35), some (.cells [vq, vq] 35)]) (ob := []) rfl rfl (show Zn (Zdd 1).2 = [] from rfl) (by kernel_rfl) Zj rfl (by decide) (by rfl) ⟨rr, ⟨rr, ⟨rr, ⟨rr, ⟨⟨Eq.trans (show (vi ((0 : Nat) : Int) : Value) = vq from (congrArg (Value.int .i64) (by first | rfl | omega))) (by rfl), by rfl⟩, trivial⟩⟩⟩⟩⟩ ⟨(Zk (E := Za) (α := RB) _ L1 _), ⟨⟨rfl, ⟨[], by rfl⟩, by rfl⟩, ⟨⟨rfl, ⟨[], by rfl⟩, by rfl⟩, ⟨⟨rfl, ⟨[], by rfl⟩, by rfl⟩, trivial⟩⟩⟩⟩

theorem Zjg (a0 : Int) (L1 : List RB) (a2 a3 a4 : Int) (N : Nat) (r : Zav) (h : ZcN a0 L1 a2 a3 a4 N = some r) : LSpec Try.prog 14 #[Value.agg #[vi a0, vs 0 0 L1.length L1.length], Value.agg #[vi a2, vi a3], vi a4] [.cells (Ze Za L1) 38] (Zh4 a0 L1 a2 a3 a4 r) (ZgT a0 L1 a2 a3 a4 r) :=
 Mach.spec ZbQ (ZaU a0 L1 a2 a3 a4 N) Try.func14 (by kernel_rfl) (by kernel_rfl) (fun x => by cases x <;> exact ZM _ rfl) (fun r => by cases r <;> exact ZM _ rfl) (fun x => by
  cases x with
  | h1m0 _ => exact fun _ => (show ¬ (1 ∈ Zn (Zdd 1).2) from by decide +kernel)
  ) (fun x => (show (ZaU a0 L1 a2 a3 a4 N).Ok Try.prog Zw x (ZcT a0 L1 a2 a3 a4 N x) from by
  cases x with
  | h1m0 v2 => exact Zi2 a0 L1 a2 a3 a4 v2 N
  )) (Zku a0 L1 a2 a3 a4 N) (n := N) h

noncomputable def ZcH (a0 : Int) (L1 : List RB) (a2 a3 a4 w1 w2 : Int) (w3 : Bool) (k0 n : Nat) : Zbi := .call [(k0, .cells (Ze Za L1) 38)] (Value.tuple #[Value.agg #[vi w1, vi w2], Value.bool w3]) [] 0
def Zci (A : Array Value) (a0 : Int) (L1 : List RB) (a2 a3 a4 w1 w2 : Int) (w3 : Bool) (k0 n : Nat) : Prop := Z9 Try.prog 14 A [(k0, .cells (Ze Za L1) 38)] (Value.tuple #[Value.agg #[vi w1, vi w2], Value.bool w3]) [] n 0

theorem ZcI (A : Array Value) (a0 : Int) (L1 : List RB) (a2 a3 a4 w1 w2 : Int) (w3 : Bool) (N : Nat) (h : ZcN a0 L1 a2 a3 a4 N = some (.r0 w1 w2 w3)) (k0 n : Nat) (hA : A = #[Value.agg #[vi a0, vs k0 0 L1.length L1.length], Value.agg #[vi a2, vi a3], vi a4]) (hnd : ([k0] : List Nat).Nodup) (hlt : ∀ k ∈ ([k0] : List Nat), k < n) : Zci A a0 L1 a2 a3 a4 w1 w2 w3 k0 n :=
 ZW hA (LSpec.callL (show LSpec Try.prog 14 #[Value.agg #[vi a0, vs 0 0 L1.length L1.length], Value.agg #[vi a2, vi a3], vi a4] [.cells (Ze Za L1) 38] (Value.tuple #[Value.agg #[vi w1, vi w2], Value.bool w3]) [some (.cells (Ze Za L1) 38)] from Zjg a0 L1 a2 a3 a4 N _ h) [k0] n [] rfl hnd hlt (show 1 ≤ 1 from by decide) (show ∀ j ∈ ([] : List Nat), j < 1 from by decide) (by rfl) ⟨(Zz _ _ _), trivial⟩ (by rfl) ⟨(Zz _ _ _), trivial⟩ ⟨.inr rfl, trivial⟩ rfl rfl rfl (Zh (Z3 rfl (ZU _ _ _)) rfl) rfl)

noncomputable def Zg8 (a0 : Int) (L1 : List RB) : ZaJ → Value
 | .r0 w3 => vp 2 0
 | .r1 => Value.pointer none
noncomputable def ZfJ (a0 : Int) (L1 : List RB) : ZaJ → List (Option AObj)
 | .r0 w3 => [some (.cells [vi a0, vs 1 0 L1.length L1.length] 60), some (.cells (Ze Za L1) 38), some (.cells [vi a0, vs 3 0 w3.length w3.length] 60), some (.cells (Ze Za w3) 38)]
 | .r1 => [some (.cells [vi a0, vs 1 0 L1.length L1.length] 60), some (.cells (Ze Za L1) 38)]

theorem Zjh (a0 : Int) (L1 : List RB) (N : Nat) : Fx Try.prog Zw Try.f16 [.cells [vi a0, vs 1 0 L1.length L1.length] 60, .cells (Ze Za L1) 38] #[vp 0 0] (Zg8 a0 L1) (ZfJ a0 L1) (Zbq a0 L1 N) := by
 unfold Zbq
 refine Za7 (fun g0 => ?_) (fun g0 => ?_)
 ·
  refine Za7 (fun g1 => ?_) (fun g1 => ?_)
  ·
   exact Zau (r := (.r0 (([] : List RB)) : ZaJ)) (fu := 4000) (orc := (Zm [(1, true), (4, true)] [] [] [] [(0, .ap0)])) (live := [0, 1, 3, 2]) (u := vp 3 0) (bl := [some (.cells [vi a0, vs 1 0 L1.length L1.length] 60), some (.cells (Ze Za L1) 38), some (.cells [vi a0, vs 2 0 0 0] 60), some (.cells [] 38)]) (ob := [(dP (0 = L1.length ∧ Zv (L1.length * 7) (List.drop 0 (Ze Za L1)) = some [] ∧ Zu ZC [] = true), true), ((decide (a0 > (0 : Int))), true), ((decide (a0 > (0 : Int))), true)]) (by kernel_rfl) (Zb (Zi ⟨by omega, by rw [show L1.length = 0 by omega]; rfl, rfl⟩) <| oY <| oY Zj) rfl (by decide) (by rfl) rr ⟨⟨rfl, ⟨[], by rfl⟩, by rfl⟩, ⟨(Zk (E := Za) (α := RB) _ L1 _), ⟨⟨rfl, ⟨[], (show ([vi a0, vs 3 0 0 0] : List Value) = _ from (Zh rfl (Zh (Zx rfl eqA eqA) rfl)).symm)⟩, by rfl⟩, ⟨(Zc5 (E := Za) _ (L := ([] : List RB)) _ (show ([] : List Value) = Ze Za ([] : List RB) from rfl)), trivial⟩⟩⟩⟩
  ·
   refine Za7 (fun g2 => ?_) (fun g2 => ?_)
   ·
    exact Zau (r := (.r0 (L1) : ZaJ)) (fu := 4000) (orc := (Zm [(1, true), (4, true)] [] [] [] [(0, .ap L1.length (Ze Za L1) (Ze Za L1))])) (live := [0, 1, 4, 3]) (u := vp 4 0) (bl := [some (.cells [vi a0, vs 1 0 L1.length L1.length] 60), some (.cells (Ze Za L1) 38), some (.cells [vi a0, vs 3 0 (0 + L1.length) (0 + L1.length)] 60), some (.cells (Ze Za L1) 38)]) (ob := [(dP ((L1.length = L1.length ∧ Zv (L1.length * 7) (List.drop 0 (Ze Za L1)) = some (Ze Za L1) ∧ Zu ZC (Ze Za L1) = true) ∧ 0 < L1.length ∧ L1.length ≤ 100000 ∧ 0 < 0 + L1.length ∧ 0 ≤ 100000 ∧ 0 * 7 ≤ (List.length []) ∧ List.take (0 * 7) [] ++ (Ze Za L1) = (Ze Za L1)), true), ((decide (a0 > (0 : Int))), true), ((decide (a0 > (0 : Int))), true)]) (by kernel_rfl) (Zb (Zi ⟨⟨rfl, (Zck (E := Za) (L := L1) (a := 0) (n := L1.length) (by omega) (by show _ = _ * 7; omega) (show _ = _ * 7 from rfl) (by rw [List.drop_zero, List.take_of_length_le (by omega)]))⟩, by omega, by omega, ltA, by omega, (ZaX (E := Za) (L := ([] : List RB)) (M := L1) (n := 0) (show _ = _ * 7 from rfl) ltA (R := L1) (by rw [List.take_of_length_le ltA]; rfl))⟩) <| oY <| oY Zj) rfl (by decide) (by rfl) rr ⟨⟨rfl, ⟨[], by rfl⟩, by rfl⟩, ⟨(Zk (E := Za) (α := RB) _ L1 _), ⟨⟨rfl, ⟨[], (show ([vi a0, vs 3 0 (0 + L1.length) (0 + L1.length)] : List Value) = _ from (Zh rfl (Zh (Zx rfl eqA eqA) rfl)).symm)⟩, by rfl⟩, ⟨(Zk (E := Za) (α := RB) _ L1 _), trivial⟩⟩⟩⟩
   ·
    exact ZdW
 ·
  exact Zau (r := (.r1 : ZaJ)) (fu := 4000) (orc := (Zm [(1, false)] [] [] [] [])) (live := [0, 1]) (u := Value.pointer none) (bl := [some (.cells [vi a0, vs 1 0 L1.length L1.length] 60), some (.cells (Ze Za L1) 38)]) (ob := [((decide (a0 > (0 : Int))), false)]) (by kernel_rfl) (oN Zj) rfl (by decide) (by rfl) rr ⟨⟨rfl, ⟨[], by rfl⟩, by rfl⟩, ⟨(Zk (E := Za) (α := RB) _ L1 _), trivial⟩⟩

theorem Zfa (a0 : Int) (L1 : List RB) (N : Nat) (r : ZaJ) (h : Zbq a0 L1 N = some r) : LSpec Try.prog 16 #[vp 0 0] [.cells [vi a0, vs 1 0 L1.length L1.length] 60, .cells (Ze Za L1) 38] (Zg8 a0 L1 r) (ZfJ a0 L1 r) :=
 Zdo ZbQ Try.func16 (by kernel_rfl) (by kernel_rfl) (fun r => by cases r <;> exact ZM _ rfl) (Zjh a0 L1 N) h

noncomputable def Zab (a0 : Int) (L1 w3 : List RB) (k0 k1 n : Nat) : Zbi := .call [(k0, .cells [vi a0, vs k1 0 L1.length L1.length] 60), (k1, .cells (Ze Za L1) 38)] (vp n 0) [(n, some (.cells [vi a0, vs (n + 1) 0 w3.length w3.length] 60)), ((n + 1), some (.cells (Ze Za w3) 38))] 2
def ZQ (A : Array Value) (a0 : Int) (L1 w3 : List RB) (k0 k1 n : Nat) : Prop := Z9 Try.prog 16 A [(k0, .cells [vi a0, vs k1 0 L1.length L1.length] 60), (k1, .cells (Ze Za L1) 38)] (vp n 0) [(n, some (.cells [vi a0, vs (n + 1) 0 w3.length w3.length] 60)), ((n + 1), some (.cells (Ze Za w3) 38))] n 2

theorem Zac (A : Array Value) (a0 : Int) (L1 w3 : List RB) (N : Nat) (h : Zbq a0 L1 N = some (.r0 w3)) (k0 k1 n : Nat) (hA : A = #[vp k0 0]) (hnd : ([k0, k1] : List Nat).Nodup) (hlt : ∀ k ∈ ([k0, k1] : List Nat), k < n) : ZQ A a0 L1 w3 k0 k1 n :=
 ZW hA (LSpec.callL (show LSpec Try.prog 16 #[vp 0 0] [.cells [vi a0, vs 1 0 L1.length L1.length] 60, .cells (Ze Za L1) 38] (vp 2 0) [some (.cells [vi a0, vs 1 0 L1.length L1.length] 60), some (.cells (Ze Za L1) 38), some (.cells [vi a0, vs 3 0 w3.length w3.length] 60), some (.cells (Ze Za w3) 38)] from Zfa a0 L1 N _ h) [k0, k1] n [2, 3] rfl hnd hlt (show 2 ≤ 4 from by decide) (show ∀ j ∈ ([2, 3] : List Nat), j < 4 from by decide) (by rfl) ⟨rfl, ⟨(Zz _ _ _), trivial⟩⟩ (by rfl) ⟨rfl, ⟨(Zz _ _ _), ⟨rfl, ⟨(Zz _ _ _), trivial⟩⟩⟩⟩ ⟨.inr rfl, ⟨.inr rfl, ⟨(by decide), ⟨(by decide), trivial⟩⟩⟩⟩ rfl rfl rfl (Zh (Z3 rfl rfl) (Zh (Z3 rfl (ZU _ _ _)) rfl)) (Zh (Z3 rfl (ZbN rfl)) (Zh (Z3 rfl (ZbN (ZU _ _ _))) rfl)))

noncomputable def ZfK (a0 : Int) (L1 : List RB) (k0 k1 n : Nat) : Zbi := .call [(k0, .cells [vi a0, vs k1 0 L1.length L1.length] 60), (k1, .cells (Ze Za L1) 38)] (Value.pointer none) [] 0
def Ze4 (A : Array Value) (a0 : Int) (L1 : List RB) (k0 k1 n : Nat) : Prop := Z9 Try.prog 16 A [(k0, .cells [vi a0, vs k1 0 L1.length L1.length] 60), (k1, .cells (Ze Za L1) 38)] (Value.pointer none) [] n 0

theorem ZfL (A : Array Value) (a0 : Int) (L1 : List RB) (N : Nat) (h : Zbq a0 L1 N = some (.r1)) (k0 k1 n : Nat) (hA : A = #[vp k0 0]) (hnd : ([k0, k1] : List Nat).Nodup) (hlt : ∀ k ∈ ([k0, k1] : List Nat), k < n) : Ze4 A a0 L1 k0 k1 n :=
 ZW hA (LSpec.callL (show LSpec Try.prog 16 #[vp 0 0] [.cells [vi a0, vs 1 0 L1.length L1.length] 60, .cells (Ze Za L1) 38] (Value.pointer none) [some (.cells [vi a0, vs 1 0 L1.length L1.length] 60), some (.cells (Ze Za L1) 38)] from Zfa a0 L1 N _ h) [k0, k1] n [] rfl hnd hlt (show 2 ≤ 2 from by decide) (show ∀ j ∈ ([] : List Nat), j < 2 from by decide) (by rfl) ⟨rfl, ⟨(Zz _ _ _), trivial⟩⟩ (by rfl) ⟨rfl, ⟨(Zz _ _ _), trivial⟩⟩ ⟨.inr rfl, ⟨.inr rfl, trivial⟩⟩ rfl rfl rfl (Zh (Z3 rfl rfl) (Zh (Z3 rfl (ZU _ _ _)) rfl)) rfl)

noncomputable def Zg9 (a0 a1 a2 a3 a4 : Int) (b5 : Bool) (a6 a7 : Int) (L8 : List RB) (n9 n10 : Nat) : Zal → Value
 | .r0 w0 w1 w3 => vi w1
 | .r1 => vq
noncomputable def ZfM (a0 a1 a2 a3 a4 : Int) (b5 : Bool) (a6 a7 : Int) (L8 : List RB) (n9 n10 : Nat) : Zal → List (Option AObj)
 | .r0 w0 w1 w3 => [some (.cells [vi a7, vs 1 0 w3 n10] 60), some (.cells (Ze Za w0) 38)]
 | .r1 => [some (.cells [vi a7, vs 2 0 ((L8.take n9).length + 1) ((L8.take n9).length + 1)] 60), none, some (.cells (Ze Za ((L8.take n9) ++ ([(⟨a0, a1, a2, a3, a4, b5, a6⟩ : RB)] : List RB))) 38)]

theorem Zji (a0 a1 a2 a3 a4 : Int) (b5 : Bool) (a6 a7 : Int) (L8 : List RB) (n9 n10 N : Nat) : Fx Try.prog Zw Try.f9 [.cells [vi a7, vs 1 0 n9 n10] 60, .cells (Ze Za L8) 38] #[vp 0 0, Value.agg #[vi a0, vi a1, vi a2, vi a3, vi a4, Value.bool b5, vi a6]] (Zg9 a0 a1 a2 a3 a4 b5 a6 a7 L8 n9 n10) (ZfM a0 a1 a2 a3 a4 b5 a6 a7 L8 n9 n10) (Z0 a0 a1 a2 a3 a4 b5 a6 a7 L8 n9 n10 N) := by
 unfold Z0
 refine Za7 (fun g0 => ?_) (fun g0 => ?_)
 ·
  refine Za7 (fun g1 => ?_) (fun g1 => ?_)
  ·
   exact Zau (r := (.r0 (L8) ((70 : Int)) (n9) : Zal)) (fu := 4000) (orc := (Zm [(1, true), (3, true)] [] [] [] [])) (live := [0, 1]) (u := vi (70 : Int)) (bl := [some (.cells [vi a7, vs 1 0 n9 n10] 60), some (.cells (Ze Za L8) 38)]) (ob := [((decide ((n9 : Int) ≥ a7)), true), ((decide (a7 > (0 : Int))), true)]) (by kernel_rfl) (oY <| oY Zj) rfl (by decide) (by rfl) rr ⟨⟨rfl, ⟨[], by rfl⟩, by rfl⟩, ⟨(Zk (E := Za) (α := RB) _ L8 _), trivial⟩⟩
  ·
   refine Za7 (fun g2 => ?_) (fun g2 => ?_)
   ·
    refine Za7 (fun g3 => ?_) (fun g3 => ?_)
    ·
     exact Zau (r := (.r0 ((L8.set n9 (⟨a0, a1, a2, a3, a4, b5, a6⟩ : RB))) ((0 : Int)) ((n9 + 1)) : Zal)) (fu := 4000) (orc := (Zm [(1, true), (3, false)] [] [] [] [(0, .api 1 [vi a0, vi a1, vi a2, vi a3, vi a4, Value.bool b5, vi a6] (Ze Za (L8.set n9 (⟨a0, a1, a2, a3, a4, b5, a6⟩ : RB))))])) (live := [0, 1]) (u := vq) (bl := [some (.cells [vi a7, vs 1 0 (n9 + 1) n10] 60), some (.cells (Ze Za (L8.set n9 (⟨a0, a1, a2, a3, a4, b5, a6⟩ : RB))) 38)]) (ob := [(dP (((1 = 1 ∧ Zv (1 * 7) (List.drop 0 [vi a0, vi a1, vi a2, vi a3, vi a4, Value.bool b5, vi a6]) = some [vi a0, vi a1, vi a2, vi a3, vi a4, Value.bool b5, vi a6] ∧ Zu ZC [vi a0, vi a1, vi a2, vi a3, vi a4, Value.bool b5, vi a6] = true) ∧ Zu ZC [vi a0, vi a1, vi a2, vi a3, vi a4, Value.bool b5, vi a6] = true) ∧ 0 < 1 ∧ 1 ≤ 100000 ∧ n9 + 1 ≤ n10 ∧ (0 + n9 * 7 + ([vi a0, vi a1, vi a2, vi a3, vi a4, Value.bool b5, vi a6] : List Value).length ≤ ((Ze Za L8) : List Value).length ∧ Ze2 (Ze Za L8) (0 + n9 * 7) [vi a0, vi a1, vi a2, vi a3, vi a4, Value.bool b5, vi a6] = (Ze Za (L8.set n9 (⟨a0, a1, a2, a3, a4, b5, a6⟩ : RB))))), true), ((decide ((n9 : Int) ≥ a7)), false), ((decide (a7 > (0 : Int))), true)]) (by kernel_rfl) (Zb (Zi ⟨⟨⟨rfl, ⟨rfl, rfl⟩⟩, rfl⟩, by omega, by omega, by omega, (Zki (E := Za) (L := L8) (i := n9) (q := 0) (l := [vi a0, vi a1, vi a2, vi a3, vi a4, Value.bool b5, vi a6]) (⟨a0, a1, a2, a3, a4, b5, a6⟩ : RB) (by omega) (show 0 + n9 * 7 = n9 * 7 + 0 from by omega) (show 0 + 7 ≤ 7 from by decide) rfl)⟩) <| oN <| oY Zj) rfl (by decide) (by rfl) rr ⟨⟨rfl, ⟨[], by rfl⟩, by rfl⟩, ⟨(Zk (E := Za) (α := RB) _ (L8.set n9 (⟨a0, a1, a2, a3, a4, b5, a6⟩ : RB)) _), trivial⟩⟩
    ·
     exact ZdW
   ·
    refine Za7 (fun g3 => ?_) (fun g3 => ?_)
    ·
     refine Za7 (fun g4 => ?_) (fun g4 => ?_)
     ·
      exact Zau (r := (.r1 : Zal)) (fu := 4000) (orc := (Zm [(1, true), (3, false)] [] [] [] [(0, .ap 1 [vi a0, vi a1, vi a2, vi a3, vi a4, Value.bool b5, vi a6] (Ze Za ((L8.take n9) ++ ([(⟨a0, a1, a2, a3, a4, b5, a6⟩ : RB)] : List RB))))])) (live := [0, 1, 4]) (u := vq) (bl := [some (.cells [vi a7, vs 4 0 (n9 + 1) (n9 + 1)] 60), none, some (.cells (Ze Za ((L8.take n9) ++ ([(⟨a0, a1, a2, a3, a4, b5, a6⟩ : RB)] : List RB))) 38)]) (ob := [(dP ((1 = 1 ∧ Zv (1 * 7) (List.drop 0 [vi a0, vi a1, vi a2, vi a3, vi a4, Value.bool b5, vi a6]) = some [vi a0, vi a1, vi a2, vi a3, vi a4, Value.bool b5, vi a6] ∧ Zu ZC [vi a0, vi a1, vi a2, vi a3, vi a4, Value.bool b5, vi a6] = true) ∧ 0 < 1 ∧ 1 ≤ 100000 ∧ n10 < n9 + 1 ∧ n9 ≤ 100000 ∧ n9 * 7 ≤ (List.length (Ze Za L8)) ∧ List.take (n9 * 7) (Ze Za L8) ++ [vi a0, vi a1, vi a2, vi a3, vi a4, Value.bool b5, vi a6] = (Ze Za ((L8.take n9) ++ ([(⟨a0, a1, a2, a3, a4, b5, a6⟩ : RB)] : List RB)))), true), ((decide ((n9 : Int) ≥ a7)), false), ((decide (a7 > (0 : Int))), true)]) (by kernel_rfl) (Zb (Zi ⟨⟨rfl, ⟨rfl, rfl⟩⟩, by omega, by omega, ltA, by omega, (ZaX (E := Za) (L := L8) (M := ([(⟨a0, a1, a2, a3, a4, b5, a6⟩ : RB)] : List RB)) (n := n9) (show _ = _ * 7 from rfl) (by omega) (R := ((L8.take n9) ++ ([(⟨a0, a1, a2, a3, a4, b5, a6⟩ : RB)] : List RB))) rfl)⟩) <| oN <| oY Zj) rfl (by decide) (by rfl) rr ⟨⟨rfl, ⟨[], (show ([vi a7, vs 2 0 (n9 + 1) (n9 + 1)] : List Value) = _ from (Zh rfl (Zh (Zx rfl eqA eqA) rfl)).symm)⟩, by rfl⟩, ⟨(Zk (E := Za) (α := RB) _ ((L8.take n9) ++ ([(⟨a0, a1, a2, a3, a4, b5, a6⟩ : RB)] : List RB)) _), trivial⟩⟩
     ·
      exact ZdW
    ·
     exact ZdW
 ·
  exact Zau (r := (.r0 (L8) ((4 : Int)) (n9) : Zal)) (fu := 4000) (orc := (Zm [(1, false)] [] [] [] [])) (live := [0, 1]) (u := vi (4 : Int)) (bl := [some (.cells [vi a7, vs 1 0 n9 n10] 60), some (.cells (Ze Za L8) 38)]) (ob := [((decide (a7 > (0 : Int))), false)]) (by kernel_rfl) (oN Zj) rfl (by decide) (by rfl) rr ⟨⟨rfl, ⟨[], by rfl⟩, by rfl⟩, ⟨(Zk (E := Za) (α := RB) _ L8 _), trivial⟩⟩

theorem Zfb (a0 a1 a2 a3 a4 : Int) (b5 : Bool) (a6 a7 : Int) (L8 : List RB) (n9 n10 N : Nat) (r : Zal) (h : Z0 a0 a1 a2 a3 a4 b5 a6 a7 L8 n9 n10 N = some r) : LSpec Try.prog 9 #[vp 0 0, Value.agg #[vi a0, vi a1, vi a2, vi a3, vi a4, Value.bool b5, vi a6]] [.cells [vi a7, vs 1 0 n9 n10] 60, .cells (Ze Za L8) 38] (Zg9 a0 a1 a2 a3 a4 b5 a6 a7 L8 n9 n10 r) (ZfM a0 a1 a2 a3 a4 b5 a6 a7 L8 n9 n10 r) :=
 Zdo ZbQ Try.func9 (by kernel_rfl) (by kernel_rfl) (fun r => by cases r <;> exact ZM _ rfl) (Zji a0 a1 a2 a3 a4 b5 a6 a7 L8 n9 n10 N) h

noncomputable def Z5 (a0 a1 a2 a3 a4 : Int) (b5 : Bool) (a6 a7 : Int) (L8 : List RB) (n9 n10 : Nat) (w0 : List RB) (w1 : Int) (w3 k0 k1 n : Nat) : Zbi := .call [(k0, .cells [vi a7, vs k1 0 n9 n10] 60), (k1, .cells (Ze Za L8) 38)] (vi w1) [(k0, some (.cells [vi a7, vs k1 0 w3 n10] 60)), (k1, some (.cells (Ze Za w0) 38))] 0
def Z4 (A : Array Value) (a0 a1 a2 a3 a4 : Int) (b5 : Bool) (a6 a7 : Int) (L8 : List RB) (n9 n10 : Nat) (w0 : List RB) (w1 : Int) (w3 k0 k1 n : Nat) : Prop := Z9 Try.prog 9 A [(k0, .cells [vi a7, vs k1 0 n9 n10] 60), (k1, .cells (Ze Za L8) 38)] (vi w1) [(k0, some (.cells [vi a7, vs k1 0 w3 n10] 60)), (k1, some (.cells (Ze Za w0) 38))] n 0

theorem Z6 (A : Array Value) (a0 a1 a2 a3 a4 : Int) (b5 : Bool) (a6 a7 : Int) (L8 : List RB) (n9 n10 : Nat) (w0 : List RB) (w1 : Int) (w3 N : Nat) (h : Z0 a0 a1 a2 a3 a4 b5 a6 a7 L8 n9 n10 N = some (.r0 w0 w1 w3)) (k0 k1 n : Nat) (hA : A = #[vp k0 0, Value.agg #[vi a0, vi a1, vi a2, vi a3, vi a4, Value.bool b5, vi a6]]) (hnd : ([k0, k1] : List Nat).Nodup) (hlt : ∀ k ∈ ([k0, k1] : List Nat), k < n) : Z4 A a0 a1 a2 a3 a4 b5 a6 a7 L8 n9 n10 w0 w1 w3 k0 k1 n :=
 ZW hA (LSpec.callL (show LSpec Try.prog 9 #[vp 0 0, Value.agg #[vi a0, vi a1, vi a2, vi a3, vi a4, Value.bool b5, vi a6]] [.cells [vi a7, vs 1 0 n9 n10] 60, .cells (Ze Za L8) 38] (vi w1) [some (.cells [vi a7, vs 1 0 w3 n10] 60), some (.cells (Ze Za w0) 38)] from Zfb a0 a1 a2 a3 a4 b5 a6 a7 L8 n9 n10 N _ h) [k0, k1] n [0, 1] rfl hnd hlt (show 2 ≤ 2 from by decide) (show ∀ j ∈ ([0, 1] : List Nat), j < 2 from by decide) (by rfl) ⟨rfl, ⟨(Zz _ _ _), trivial⟩⟩ (by rfl) ⟨rfl, ⟨(Zz _ _ _), trivial⟩⟩ ⟨.inl (by decide), ⟨.inl (by decide), trivial⟩⟩ rfl rfl rfl (Zh (Z3 rfl rfl) (Zh (Z3 rfl (ZU _ _ _)) rfl)) (Zh (Z3 rfl (ZbN rfl)) (Zh (Z3 rfl (ZbN (ZU _ _ _))) rfl)))

noncomputable def Za3 (a0 a1 a2 a3 a4 : Int) (b5 : Bool) (a6 a7 : Int) (L8 : List RB) (n9 n10 k0 k1 n : Nat) : Zbi := .call [(k0, .cells [vi a7, vs k1 0 n9 n10] 60), (k1, .cells (Ze Za L8) 38)] (vq) [(k0, some (.cells [vi a7, vs n 0 ((L8.take n9).length + 1) ((L8.take n9).length + 1)] 60)), (k1, none), (n, some (.cells (Ze Za ((L8.take n9) ++ ([(⟨a0, a1, a2, a3, a4, b5, a6⟩ : RB)] : List RB))) 38))] 1
def Zaq (A : Array Value) (a0 a1 a2 a3 a4 : Int) (b5 : Bool) (a6 a7 : Int) (L8 : List RB) (n9 n10 k0 k1 n : Nat) : Prop := Z9 Try.prog 9 A [(k0, .cells [vi a7, vs k1 0 n9 n10] 60), (k1, .cells (Ze Za L8) 38)] (vq) [(k0, some (.cells [vi a7, vs n 0 ((L8.take n9).length + 1) ((L8.take n9).length + 1)] 60)), (k1, none), (n, some (.cells (Ze Za ((L8.take n9) ++ ([(⟨a0, a1, a2, a3, a4, b5, a6⟩ : RB)] : List RB))) 38))] n 1

theorem Za4 (A : Array Value) (a0 a1 a2 a3 a4 : Int) (b5 : Bool) (a6 a7 : Int) (L8 : List RB) (n9 n10 N : Nat) (h : Z0 a0 a1 a2 a3 a4 b5 a6 a7 L8 n9 n10 N = some (.r1)) (k0 k1 n : Nat) (hA : A = #[vp k0 0, Value.agg #[vi a0, vi a1, vi a2, vi a3, vi a4, Value.bool b5, vi a6]]) (hnd : ([k0, k1] : List Nat).Nodup) (hlt : ∀ k ∈ ([k0, k1] : List Nat), k < n) : Zaq A a0 a1 a2 a3 a4 b5 a6 a7 L8 n9 n10 k0 k1 n :=
 ZW hA (LSpec.callL (show LSpec Try.prog 9 #[vp 0 0, Value.agg #[vi a0, vi a1, vi a2, vi a3, vi a4, Value.bool b5, vi a6]] [.cells [vi a7, vs 1 0 n9 n10] 60, .cells (Ze Za L8) 38] (vq) [some (.cells [vi a7, vs 2 0 ((L8.take n9).length + 1) ((L8.take n9).length + 1)] 60), none, some (.cells (Ze Za ((L8.take n9) ++ ([(⟨a0, a1, a2, a3, a4, b5, a6⟩ : RB)] : List RB))) 38)] from Zfb a0 a1 a2 a3 a4 b5 a6 a7 L8 n9 n10 N _ h) [k0, k1] n [0, 1, 2] rfl hnd hlt (show 2 ≤ 3 from by decide) (show ∀ j ∈ ([0, 1, 2] : List Nat), j < 3 from by decide) (by rfl) ⟨rfl, ⟨(Zz _ _ _), trivial⟩⟩ (by rfl) ⟨rfl, ⟨(Zz _ _ _), trivial⟩⟩ ⟨.inl (by decide), ⟨.inl (by decide), ⟨(by decide), trivial⟩⟩⟩ rfl rfl rfl (Zh (Z3 rfl rfl) (Zh (Z3 rfl (ZU _ _ _)) rfl)) (Zh (Z3 rfl (ZbN rfl)) (Zh (Z3 rfl rfl) (Zh (Z3 rfl (ZbN (ZU _ _ _))) rfl))))

noncomputable def ZjA (a0 a1 a2 a3 : Int) (L4 : List RB) (n5 n6 : Nat) : undo_Log_First_3R → Value
 | .r0 w1 w2 w3 => Value.tuple #[Value.agg #[vi w1, vi w2], Value.bool w3]
noncomputable def Zjj (a0 a1 a2 a3 : Int) (L4 : List RB) (n5 n6 : Nat) : undo_Log_First_3R → List (Option AObj)
 | .r0 w1 w2 w3 => [some (.cells [vi a3, vs 1 0 n5 n6] 60), some (.cells (Ze Za L4) 38)]

noncomputable def ZcV (a0 a1 a2 a3 : Int) (L4 : List RB) (n5 n6 : Nat) : ZP → List (Option AObj)
 | .h1m0 v2 v11 v12 v13 => [some (.cells [vi a3, vs 1 0 n5 n6] 60), some (.cells (Ze Za L4) 38), some (.cells [vi a0, vi a1] 35), some (.cells [vi a2] 3), some (.cells [vq, vq] 35), some (.cells [vi v11, vi v12] 35), some (.cells [Value.bool v13] 4)]

noncomputable def ZcC : ZP → List (Nat × Value)
 | .h1m0 v2 v11 v12 v13 => [(0, vp 0 0), (4, vi v2)]
noncomputable def ZfA (a0 a1 a2 a3 : Int) (L4 : List RB) (n5 n6 : Nat) (w1 w2 : Int) (w3 : Bool) : List (Option AObj) := [some (.cells [vi a3, vs 1 0 n5 n6] 60), some (.cells (Ze Za L4) 38), some (.cells [vi a0, vi a1] 35), some (.cells [vi a2] 3), some (.cells [vq, vq] 35), some (.cells [vi w1, vi w2] 35), some (.cells [Value.bool w3] 4)]
theorem Ze1 (a0 a1 a2 a3 : Int) (L4 : List RB) (n5 n6 : Nat) (N : Nat) (w1 w2 : Int) (w3 : Bool) (x : ZP) (o : ZP ⊕ undo_Log_First_3R) (hs : Zb3 a0 a1 a2 a3 L4 n5 n6 N x = some o) (gv gvc : Nat → Value) (ps : Array Tmp) (asg body : Code) (id : Nat) (cB : Code)
  (hps : ps = #[19, 20]) (hcode : (id, cB) = ZdN) (hab : (asg, body) = ZdO) : match o with
      | .inl y => ∃ fu orc live tv bl ob, ZhR live ((ZcC y).map (·.1)) [1] (evI Try.prog ZiP (Try.f21).ntmps ⟨(Try.f13).ntmps, tmps (Try.f13).ntmps (fun t => ZH t Zbu) gvc, ps, asg, body⟩ fu cB (tmps (Try.f21).ntmps (fun t => ZH t (ZcC x)) gv) ⟨Zb7 0 (ZcV a0 a1 a2 a3 L4 n5 n6 x), 7, [], orc, []⟩ [1] none) = some (.normal, tv, bl, ob) ∧ (∀ p ∈ ob, p.1 = p.2) ∧ live.length = 7 ∧ live.Nodup ∧ ZbZ 7 live = true ∧ Zdn (rho live far) tv (ZcC y) ∧ Za9 (rho live far) bl (ZcV a0 a1 a2 a3 L4 n5 n6 y)
      | .inr r' => r' = .r0 w1 w2 w3 → ∃ fu orc live bl ob, ZhR live [] [1] (evI Try.prog ZiP (Try.f21).ntmps ⟨(Try.f13).ntmps, tmps (Try.f13).ntmps (fun t => ZH t Zbu) gvc, ps, asg, body⟩ fu cB (tmps (Try.f21).ntmps (fun t => ZH t (ZcC x)) gv) ⟨Zb7 0 (ZcV a0 a1 a2 a3 L4 n5 n6 x), 7, [], orc, []⟩ [1] none) = some (.exit id, [], bl, ob) ∧ (∀ p ∈ ob, p.1 = p.2) ∧ live.length = 7 ∧ live.Nodup ∧ ZbZ 7 live = true ∧ Za9 (rho live far) bl (ZfA a0 a1 a2 a3 L4 n5 n6 w1 w2 w3) := by
 subst hps
 simp only [ZdN, ZdO, Prod.mk.injEq] at hcode hab
 obtain ⟨rfl, rfl⟩ := hcode
 obtain ⟨rfl, rfl⟩ := hab
 cases x with
 | h1m0 v2 v11 v12 v13 =>
 have hs : Zaj a0 a1 a2 a3 L4 n5 n6 N v2 v11 v12 v13 = some o := hs
 unfold Zaj at hs
 by_cases g0 : (0 : Int) ≤ v2
 · rw [if_pos g0] at hs
   by_cases g1 : (v2).toNat < n5
   · rw [if_pos g1] at hs
     by_cases g2 : (v2).toNat < L4.length
     · rw [if_pos g2] at hs
       by_cases g3 : ((L4.getD (v2).toNat RB.z).a0 = a0 ∧ (L4.getD (v2).toNat RB.z).a1 = a1)
       · rw [if_pos g3] at hs
         by_cases g4 : (L4.getD (v2).toNat RB.z).a2 = a2
         · rw [if_pos g4] at hs
           by_cases g5 : (L4.getD (v2).toNat RB.z).a5 = true
           · rw [if_pos g5] at hs
             obtain rfl := Option.some.inj hs
             exact ⟨4000, (Zm [(0, true), (1, true), (2, true), (3, true)] [] [(0, (v2).toNat)] [(1, [.i (L4.getD (v2).toNat RB.z).a0, .i (L4.getD (v2).toNat RB.z).a1, .i (L4.getD (v2).toNat RB.z).a2, .i (L4.getD (v2).toNat RB.z).a3, .i (L4.getD (v2).toNat RB.z).a4, .b (L4.getD (v2).toNat RB.z).a5, .i (L4.getD (v2).toNat RB.z).a6])] []), [0, 1, 2, 3, 4, 5, 6], [some (vp 0 0), some (vi (IntKind.i64.wrap (v2 - (1 : Int))))], [some (.cells [vi a3, vs 1 0 n5 n6] 60), some (.cells (Ze Za L4) 38), some (.cells [vi a0, vi a1] 35), some (.cells [vi a2] 3), some (.cells [vq, vq] 35), some (.cells [vi v11, vi v12] 35), some (.cells [Value.bool v13] 4)], [((L4.getD (v2).toNat RB.z).a5, true), (((L4.getD (v2).toNat RB.z).a2 == a2), true), ((((L4.getD (v2).toNat RB.z).a0 == a0) && (((L4.getD (v2).toNat RB.z).a1 == a1) && true)), true), (Zo (Zv 7 (List.drop (0 + ((v2).toNat * 7)) (Ze Za L4))) [.i (L4.getD (v2).toNat RB.z).a0, .i (L4.getD (v2).toNat RB.z).a1, .i (L4.getD (v2).toNat RB.z).a2, .i (L4.getD (v2).toNat RB.z).a3, .i (L4.getD (v2).toNat RB.z).a4, .b (L4.getD (v2).toNat RB.z).a5, .i (L4.getD (v2).toNat RB.z).a6], true), (Nat.blt (v2).toNat n5, true), (v2 == Int.ofNat (v2).toNat, true), ((decide (v2 ≥ (0 : Int))), true)], by kernel_rfl, (Zb (by assumption) <| oT <| Zb (by first | (simp only [beq_self_eq_true, Bool.and_self]; done) | (simp only [Bool.and_true, Bool.and_eq_true, beq_iff_eq] <;> first | omega | (simp_all; done) | grind)) <| Zb (Z8 (E := Za) (L := L4) (i := (v2).toNat) (q := 0) (by omega) (show (0 + ((v2).toNat * 7)) = (v2).toNat * 7 + 0 from by omega) (show 0 + 7 ≤ 7 from by decide) rfl rfl) <| oB <| oI <| oY Zj), rfl, by decide, by rfl, ⟨rr, ⟨rr, trivial⟩⟩, ⟨⟨rfl, ⟨[], by rfl⟩, by rfl⟩, ⟨(Zk (E := Za) (α := RB) _ L4 _), ⟨⟨rfl, ⟨[], by rfl⟩, by rfl⟩, ⟨⟨rfl, ⟨[], by rfl⟩, by rfl⟩, ⟨⟨rfl, ⟨[], by rfl⟩, by rfl⟩, ⟨⟨rfl, ⟨[], by rfl⟩, by rfl⟩, ⟨⟨rfl, ⟨[], by rfl⟩, by rfl⟩, trivial⟩⟩⟩⟩⟩⟩⟩⟩
           · rw [if_neg g5] at hs
             obtain rfl := Option.some.inj hs
             exact ⟨4000, (Zm [(0, true), (1, true), (2, true), (3, false)] [] [(0, (v2).toNat)] [(1, [.i (L4.getD (v2).toNat RB.z).a0, .i (L4.getD (v2).toNat RB.z).a1, .i (L4.getD (v2).toNat RB.z).a2, .i (L4.getD (v2).toNat RB.z).a3, .i (L4.getD (v2).toNat RB.z).a4, .b (L4.getD (v2).toNat RB.z).a5, .i (L4.getD (v2).toNat RB.z).a6])] []), [0, 1, 2, 3, 4, 5, 6], [some (vp 0 0), some (vi (IntKind.i64.wrap (v2 - (1 : Int))))], [some (.cells [vi a3, vs 1 0 n5 n6] 60), some (.cells (Ze Za L4) 38), some (.cells [vi a0, vi a1] 35), some (.cells [vi a2] 3), some (.cells [vq, vq] 35), some (.cells [vi (L4.getD (v2).toNat RB.z).a3, vi (L4.getD (v2).toNat RB.z).a4] 35), some (.cells [vT] 4)], [((L4.getD (v2).toNat RB.z).a5, false), (((L4.getD (v2).toNat RB.z).a2 == a2), true), ((((L4.getD (v2).toNat RB.z).a0 == a0) && (((L4.getD (v2).toNat RB.z).a1 == a1) && true)), true), (Zo (Zv 7 (List.drop (0 + ((v2).toNat * 7)) (Ze Za L4))) [.i (L4.getD (v2).toNat RB.z).a0, .i (L4.getD (v2).toNat RB.z).a1, .i (L4.getD (v2).toNat RB.z).a2, .i (L4.getD (v2).toNat RB.z).a3, .i (L4.getD (v2).toNat RB.z).a4, .b (L4.getD (v2).toNat RB.z).a5, .i (L4.getD (v2).toNat RB.z).a6], true), (Nat.blt (v2).toNat n5, true), (v2 == Int.ofNat (v2).toNat, true), ((decide (v2 ≥ (0 : Int))), true)], by kernel_rfl, (Zb (Bool.eq_false_iff.2 (by assumption)) <| oT <| Zb (by first | (simp only [beq_self_eq_true, Bool.and_self]; done) | (simp only [Bool.and_true, Bool.and_eq_true, beq_iff_eq] <;> first | omega | (simp_all; done) | grind)) <| Zb (Z8 (E := Za) (L := L4) (i := (v2).toNat) (q := 0) (by omega) (show (0 + ((v2).toNat * 7)) = (v2).toNat * 7 + 0 from by omega) (show 0 + 7 ≤ 7 from by decide) rfl rfl) <| oB <| oI <| oY Zj), rfl, by decide, by rfl, ⟨rr, ⟨rr, trivial⟩⟩, ⟨⟨rfl, ⟨[], by rfl⟩, by rfl⟩, ⟨(Zk (E := Za) (α := RB) _ L4 _), ⟨⟨rfl, ⟨[], by rfl⟩, by rfl⟩, ⟨⟨rfl, ⟨[], by rfl⟩, by rfl⟩, ⟨⟨rfl, ⟨[], by rfl⟩, by rfl⟩, ⟨⟨rfl, ⟨[], by rfl⟩, by rfl⟩, ⟨⟨rfl, ⟨[], by rfl⟩, by rfl⟩, trivial⟩⟩⟩⟩⟩⟩⟩⟩
         · rw [if_neg g4] at hs
           obtain rfl := Option.some.inj hs
           exact ⟨4000, (Zm [(0, true), (1, true), (2, false)] [] [(0, (v2).toNat)] [(1, [.i (L4.getD (v2).toNat RB.z).a0, .i (L4.getD (v2).toNat RB.z).a1, .i (L4.getD (v2).toNat RB.z).a2, .i (L4.getD (v2).toNat RB.z).a3, .i (L4.getD (v2).toNat RB.z).a4, .b (L4.getD (v2).toNat RB.z).a5, .i (L4.getD (v2).toNat RB.z).a6])] []), [0, 1, 2, 3, 4, 5, 6], [some (vp 0 0), some (vi (IntKind.i64.wrap (v2 - (1 : Int))))], [some (.cells [vi a3, vs 1 0 n5 n6] 60), some (.cells (Ze Za L4) 38), some (.cells [vi a0, vi a1] 35), some (.cells [vi a2] 3), some (.cells [vq, vq] 35), some (.cells [vi v11, vi v12] 35), some (.cells [Value.bool v13] 4)], [(((L4.getD (v2).toNat RB.z).a2 == a2), false), ((((L4.getD (v2).toNat RB.z).a0 == a0) && (((L4.getD (v2).toNat RB.z).a1 == a1) && true)), true), (Zo (Zv 7 (List.drop (0 + ((v2).toNat * 7)) (Ze Za L4))) [.i (L4.getD (v2).toNat RB.z).a0, .i (L4.getD (v2).toNat RB.z).a1, .i (L4.getD (v2).toNat RB.z).a2, .i (L4.getD (v2).toNat RB.z).a3, .i (L4.getD (v2).toNat RB.z).a4, .b (L4.getD (v2).toNat RB.z).a5, .i (L4.getD (v2).toNat RB.z).a6], true), (Nat.blt (v2).toNat n5, true), (v2 == Int.ofNat (v2).toNat, true), ((decide (v2 ≥ (0 : Int))), true)], by kernel_rfl, (oF <| Zb (by first | (simp only [beq_self_eq_true, Bool.and_self]; done) | (simp only [Bool.and_true, Bool.and_eq_true, beq_iff_eq] <;> first | omega | (simp_all; done) | grind)) <| Zb (Z8 (E := Za) (L := L4) (i := (v2).toNat) (q := 0) (by omega) (show (0 + ((v2).toNat * 7)) = (v2).toNat * 7 + 0 from by omega) (show 0 + 7 ≤ 7 from by decide) rfl rfl) <| oB <| oI <| oY Zj), rfl, by decide, by rfl, ⟨rr, ⟨rr, trivial⟩⟩, ⟨⟨rfl, ⟨[], by rfl⟩, by rfl⟩, ⟨(Zk (E := Za) (α := RB) _ L4 _), ⟨⟨rfl, ⟨[], by rfl⟩, by rfl⟩, ⟨⟨rfl, ⟨[], by rfl⟩, by rfl⟩, ⟨⟨rfl, ⟨[], by rfl⟩, by rfl⟩, ⟨⟨rfl, ⟨[], by rfl⟩, by rfl⟩, ⟨⟨rfl, ⟨[], by rfl⟩, by rfl⟩, trivial⟩⟩⟩⟩⟩⟩⟩⟩
       · rw [if_neg g3] at hs
         obtain rfl := Option.some.inj hs
         exact ⟨4000, (Zm [(0, true), (1, false)] [] [(0, (v2).toNat)] [(1, [.i (L4.getD (v2).toNat RB.z).a0, .i (L4.getD (v2).toNat RB.z).a1, .i (L4.getD (v2).toNat RB.z).a2, .i (L4.getD (v2).toNat RB.z).a3, .i (L4.getD (v2).toNat RB.z).a4, .b (L4.getD (v2).toNat RB.z).a5, .i (L4.getD (v2).toNat RB.z).a6])] []), [0, 1, 2, 3, 4, 5, 6], [some (vp 0 0), some (vi (IntKind.i64.wrap (v2 - (1 : Int))))], [some (.cells [vi a3, vs 1 0 n5 n6] 60), some (.cells (Ze Za L4) 38), some (.cells [vi a0, vi a1] 35), some (.cells [vi a2] 3), some (.cells [vq, vq] 35), some (.cells [vi v11, vi v12] 35), some (.cells [Value.bool v13] 4)], [((((L4.getD (v2).toNat RB.z).a0 == a0) && (((L4.getD (v2).toNat RB.z).a1 == a1) && true)), false), (Zo (Zv 7 (List.drop (0 + ((v2).toNat * 7)) (Ze Za L4))) [.i (L4.getD (v2).toNat RB.z).a0, .i (L4.getD (v2).toNat RB.z).a1, .i (L4.getD (v2).toNat RB.z).a2, .i (L4.getD (v2).toNat RB.z).a3, .i (L4.getD (v2).toNat RB.z).a4, .b (L4.getD (v2).toNat RB.z).a5, .i (L4.getD (v2).toNat RB.z).a6], true), (Nat.blt (v2).toNat n5, true), (v2 == Int.ofNat (v2).toNat, true), ((decide (v2 ≥ (0 : Int))), true)], by kernel_rfl, (Zb (Bool.eq_false_iff.2 (by simp only [ne_eq, Bool.and_true, Bool.and_eq_true, beq_iff_eq]; first | omega | (intro hh; simp_all; done) | (intro hh; grind))) <| Zb (Z8 (E := Za) (L := L4) (i := (v2).toNat) (q := 0) (by omega) (show (0 + ((v2).toNat * 7)) = (v2).toNat * 7 + 0 from by omega) (show 0 + 7 ≤ 7 from by decide) rfl rfl) <| oB <| oI <| oY Zj), rfl, by decide, by rfl, ⟨rr, ⟨rr, trivial⟩⟩, ⟨⟨rfl, ⟨[], by rfl⟩, by rfl⟩, ⟨(Zk (E := Za) (α := RB) _ L4 _), ⟨⟨rfl, ⟨[], by rfl⟩, by rfl⟩, ⟨⟨rfl, ⟨[], by rfl⟩, by rfl⟩, ⟨⟨rfl, ⟨[], by rfl⟩, by rfl⟩, ⟨⟨rfl, ⟨[], by rfl⟩, by rfl⟩, ⟨⟨rfl, ⟨[], by rfl⟩, by rfl⟩, trivial⟩⟩⟩⟩⟩⟩⟩⟩
     · rw [if_neg g2] at hs
       cases hs
   · rw [if_neg g1] at hs
     cases hs
 · rw [if_neg g0] at hs
   have hr : o = .inr (.r0 v11 v12 v13) := by
     cases v13 with
     | true => exact (Option.some.inj hs).symm
     | false => exact (Option.some.inj hs).symm
   subst hr
   intro e
   injection e with e1 e2 e3
   subst e1 e2 e3
   exact ⟨4000, (Zm [(0, false)] [] [] [] []), [0, 1, 2, 3, 4, 5, 6], [some (.cells [vi a3, vs 1 0 n5 n6] 60), some (.cells (Ze Za L4) 38), some (.cells [vi a0, vi a1] 35), some (.cells [vi a2] 3), some (.cells [vq, vq] 35), some (.cells [vi v11, vi v12] 35), some (.cells [Value.bool v13] 4)], [((decide (v2 ≥ (0 : Int))), false)], by kernel_rfl, (oN Zj), rfl, by decide, by rfl, ⟨⟨rfl, ⟨[], by rfl⟩, by rfl⟩, ⟨(Zk (E := Za) (α := RB) _ L4 _), ⟨⟨rfl, ⟨[], by rfl⟩, by rfl⟩, ⟨⟨rfl, ⟨[], by rfl⟩, by rfl⟩, ⟨⟨rfl, ⟨[], by rfl⟩, by rfl⟩, ⟨⟨rfl, ⟨[], by rfl⟩, by rfl⟩, ⟨⟨rfl, ⟨[], by rfl⟩, by rfl⟩, trivial⟩⟩⟩⟩⟩⟩⟩⟩
theorem ZhV (a0 a1 a2 a3 : Int) (L4 : List RB) (n5 n6 : Nat) (N : Nat) (w1 w2 : Int) (w3 : Bool) (g0 : (0 : Int) < a3) (g1 : ((n5 : Int) - (1 : Int)) ≤ (9223372036854775807 : Int)) (h : Zb1 (Zb3 a0 a1 a2 a3 L4 n5 n6 N) N (.h1m0 ((n5 : Int) - (1 : Int)) 0 0 false) = some (.r0 w1 w2 w3)) : LSpec Try.prog 13 #[vp 0 0, Value.agg #[vi a0, vi a1], vi a2] [.cells [vi a3, vs 1 0 n5 n6] 60, .cells (Ze Za L4) 38] (Value.tuple #[Value.agg #[vi w1, vi w2], Value.bool w3]) [some (.cells [vi a3, vs 1 0 n5 n6] 60), some (.cells (Ze Za L4) 38)] := by
 refine ZkJ (cs := [_, _, _, _]) ZhL Try.func13 rfl (by kernel_rfl) (ZM _ rfl)
  Zbu (ZcV a0 a1 a2 a3 L4 n5 n6 (.h1m0 ((n5 : Int) - (1 : Int)) 0 0 false)) (fu1 := 4000) (orc1 := Zm [(1, true)] [] [] [] []) (live1 := [0, 1, 2, 3, 4, 5, 6]) (tv1 := [some (vp 2 0), some (vp 3 0), some (vp 4 0), some (vf), some (vp 5 0), some (vp 6 0), some (.func (.func 21) #[vp 0 0] #[])]) (bl1 := [some (.cells [vi a3, vs 1 0 n5 n6] 60), some (.cells (Ze Za L4) 38), some (.cells [vi a0, vi a1] 35), some (.cells [vi a2] 3), some (.cells [vq, vq] 35), some (.cells [vq, vq] 35), some (.cells [vf] 4)]) (ob1 := [((decide (a3 > (0 : Int))), true)])
  (by kernel_rfl) (oY Zj) rfl (by decide) (by rfl) ⟨rr, ⟨rr, ⟨rr, ⟨rr, ⟨rr, ⟨rr, ⟨rr, trivial⟩⟩⟩⟩⟩⟩⟩ ⟨⟨rfl, ⟨[], by rfl⟩, by rfl⟩, ⟨(Zk (E := Za) (α := RB) _ L4 _), ⟨⟨rfl, ⟨[], by rfl⟩, by rfl⟩, ⟨⟨rfl, ⟨[], by rfl⟩, by rfl⟩, ⟨⟨rfl, ⟨[], by rfl⟩, by rfl⟩, ⟨⟨rfl, ⟨[], by rfl⟩, by rfl⟩, ⟨⟨rfl, ⟨[], by rfl⟩, by rfl⟩, trivial⟩⟩⟩⟩⟩⟩⟩
  (ZM _ rfl) (show 2 ≤ 7 from by decide) (fun x hx => ZT (p := fun x : Nat × Value => Zdw 7 3 x.2) (l := Zbu) (by kernel_rfl) x hx) ⟨rfl, (Zz _ _ _), rfl, rfl, rfl, rfl, rfl, trivial⟩
  (gf := 21) (av := #[vp 0 0]) (bv := #[]) (fun gv => by kernel_rfl) rfl Try.func21 rfl (by kernel_rfl) rfl
  (Zb3 a0 a1 a2 a3 L4 n5 n6 N) ZcC (ZcV a0 a1 a2 a3 L4 n5 n6) (m := 7) (fun x => by cases x; rfl) (ZM _ rfl) [1] (ZfA a0 a1 a2 a3 L4 n5 n6 w1 w2 w3) (ZM _ rfl) (.r0 w1 w2 w3) _ N h
  (fun gv => ⟨4000, Zm [] [(0, ((n5 : Int) - (1 : Int)))] [] [] [], [0, 1, 2, 3, 4, 5, 6], [some (vp 0 0), some (vi ((n5 : Int) - (1 : Int)))], [some (.cells [vi a3, vs 1 0 n5 n6] 60), some (.cells (Ze Za L4) 38), some (.cells [vi a0, vi a1] 35), some (.cells [vi a2] 3), some (.cells [vq, vq] 35), some (.cells [vq, vq] 35), some (.cells [vf] 4)], [((IntKind.i64.wrap ((n5 : Int) - (1 : Int))) == ((n5 : Int) - (1 : Int)), true)], by kernel_rfl, (Zb (beq_iff_eq.2 ((wrap_i64 ltA).trans (by first | rfl | omega))) <| Zj), rfl, by decide, by rfl, ⟨rr, ⟨rr, trivial⟩⟩, ⟨⟨rfl, ⟨[], by rfl⟩, by rfl⟩, ⟨(Zk (E := Za) (α := RB) _ L4 _), ⟨⟨rfl, ⟨[], by rfl⟩, by rfl⟩, ⟨⟨rfl, ⟨[], by rfl⟩, by rfl⟩, ⟨⟨rfl, ⟨[], by rfl⟩, by rfl⟩, ⟨⟨rfl, ⟨[], by rfl⟩, by rfl⟩, ⟨⟨rfl, ⟨[], by rfl⟩, by rfl⟩, trivial⟩⟩⟩⟩⟩⟩⟩⟩)
  (fun x o hs gv gvc => by
   cases o with
   | inl y => exact Ze1 a0 a1 a2 a3 L4 n5 n6 N w1 w2 w3 x (.inl y) hs gv gvc _ _ _ _ _ rfl rfl rfl
   | inr r' => exact Ze1 a0 a1 a2 a3 L4 n5 n6 N w1 w2 w3 x (.inr r') hs gv gvc _ _ _ _ _ rfl rfl rfl) ?_
 intro gv
 cases w3 with
 | true => exact ⟨4000, Zm [(0, true)] [] [] [] [], [0, 1], Value.tuple #[Value.agg #[vi w1, vi w2], vT], [some (.cells [vi a3, vs 1 0 n5 n6] 60), some (.cells (Ze Za L4) 38)], [(true, true)], by kernel_rfl, (Zb rfl Zj), rfl, by decide, by rfl, rr, ⟨⟨rfl, ⟨[], by rfl⟩, by rfl⟩, ⟨(Zk (E := Za) (α := RB) _ L4 _), trivial⟩⟩⟩
 | false => exact ⟨4000, Zm [(0, false)] [] [] [] [], [0, 1], Value.tuple #[Value.agg #[vi w1, vi w2], vf], [some (.cells [vi a3, vs 1 0 n5 n6] 60), some (.cells (Ze Za L4) 38)], [(false, false)], by kernel_rfl, (Zb rfl Zj), rfl, by decide, by rfl, rr, ⟨⟨rfl, ⟨[], by rfl⟩, by rfl⟩, ⟨(Zk (E := Za) (α := RB) _ L4 _), trivial⟩⟩⟩
theorem Zh5 (a0 a1 a2 a3 : Int) (L4 : List RB) (n5 n6 N : Nat) (r : undo_Log_First_3R) (h : ZbK a0 a1 a2 a3 L4 n5 n6 N = some r) : LSpec Try.prog 13 #[vp 0 0, Value.agg #[vi a0, vi a1], vi a2] [.cells [vi a3, vs 1 0 n5 n6] 60, .cells (Ze Za L4) 38] (ZjA a0 a1 a2 a3 L4 n5 n6 r) (Zjj a0 a1 a2 a3 L4 n5 n6 r) := by
 unfold ZbK Zes at h
 by_cases g0 : (0 : Int) < a3
 · rw [if_pos g0] at h
   by_cases g1 : ((n5 : Int) - (1 : Int)) ≤ (9223372036854775807 : Int)
   · rw [if_pos g1] at h
     cases r with
     | r0 w1 w2 w3 => exact ZhV a0 a1 a2 a3 L4 n5 n6 N w1 w2 w3 g0 g1 h
   · rw [if_neg g1] at h; cases h
 · rw [if_neg g0] at h
   obtain rfl : undo_Log_First_3R.r0 0 0 false = r := Option.some.inj h
   exact Zgg (ZdI (fu := 4000) ZhL Try.func13 rfl) (orc := Zm [(1, false)] [] [] [] []) (live := [0, 1]) (u := Value.tuple #[Value.agg #[vq, vq], vf]) (bl := [some (.cells [vi a3, vs 1 0 n5 n6] 60), some (.cells (Ze Za L4) 38)]) (ob := [((decide (a3 > (0 : Int))), false)]) (by kernel_rfl) (oN Zj) (ZM _ rfl) rfl (by decide) (by rfl) rr ⟨⟨rfl, ⟨[], by rfl⟩, by rfl⟩, ⟨(Zk (E := Za) (α := RB) _ L4 _), trivial⟩⟩

noncomputable def ZbX (a0 a1 a2 a3 : Int) (L4 : List RB) (n5 n6 : Nat) (w1 w2 : Int) (w3 : Bool) (k0 k1 n : Nat) : Zbi := .call [(k0, .cells [vi a3, vs k1 0 n5 n6] 60), (k1, .cells (Ze Za L4) 38)] (Value.tuple #[Value.agg #[vi w1, vi w2], Value.bool w3]) [] 0
def Zbx (A : Array Value) (a0 a1 a2 a3 : Int) (L4 : List RB) (n5 n6 : Nat) (w1 w2 : Int) (w3 : Bool) (k0 k1 n : Nat) : Prop := Z9 Try.prog 13 A [(k0, .cells [vi a3, vs k1 0 n5 n6] 60), (k1, .cells (Ze Za L4) 38)] (Value.tuple #[Value.agg #[vi w1, vi w2], Value.bool w3]) [] n 0

theorem ZbY (A : Array Value) (a0 a1 a2 a3 : Int) (L4 : List RB) (n5 n6 : Nat) (w1 w2 : Int) (w3 : Bool) (N : Nat) (h : ZbK a0 a1 a2 a3 L4 n5 n6 N = some (.r0 w1 w2 w3)) (k0 k1 n : Nat) (hA : A = #[vp k0 0, Value.agg #[vi a0, vi a1], vi a2]) (hnd : ([k0, k1] : List Nat).Nodup) (hlt : ∀ k ∈ ([k0, k1] : List Nat), k < n) : Zbx A a0 a1 a2 a3 L4 n5 n6 w1 w2 w3 k0 k1 n :=
 ZW hA (LSpec.callL (show LSpec Try.prog 13 #[vp 0 0, Value.agg #[vi a0, vi a1], vi a2] [.cells [vi a3, vs 1 0 n5 n6] 60, .cells (Ze Za L4) 38] (Value.tuple #[Value.agg #[vi w1, vi w2], Value.bool w3]) [some (.cells [vi a3, vs 1 0 n5 n6] 60), some (.cells (Ze Za L4) 38)] from Zh5 a0 a1 a2 a3 L4 n5 n6 N _ h) [k0, k1] n [] rfl hnd hlt (show 2 ≤ 2 from by decide) (show ∀ j ∈ ([] : List Nat), j < 2 from by decide) (by rfl) ⟨rfl, ⟨(Zz _ _ _), trivial⟩⟩ (by rfl) ⟨rfl, ⟨(Zz _ _ _), trivial⟩⟩ ⟨.inr rfl, ⟨.inr rfl, trivial⟩⟩ rfl rfl rfl (Zh (Z3 rfl rfl) (Zh (Z3 rfl (ZU _ _ _)) rfl)) rfl)

noncomputable def ZgA (a0 : Int) (L1 : List RB) (n2 n3 : Nat) : ZaK → Value
 | .r0 w5 => vp 2 0
 | .r1 => Value.pointer none
noncomputable def ZfN (a0 : Int) (L1 : List RB) (n2 n3 : Nat) : ZaK → List (Option AObj)
 | .r0 w5 => [some (.cells [vi a0, vs 1 0 n2 n3] 60), some (.cells (Ze Za L1) 38), some (.cells [vi a0, vs 3 0 w5.length w5.length] 60), some (.cells (Ze Za w5) 38)]
 | .r1 => [some (.cells [vi a0, vs 1 0 n2 n3] 60), some (.cells (Ze Za L1) 38)]

theorem Zjk (a0 : Int) (L1 : List RB) (n2 n3 N : Nat) : Fx Try.prog Zw Try.f16 [.cells [vi a0, vs 1 0 n2 n3] 60, .cells (Ze Za L1) 38] #[vp 0 0] (ZgA a0 L1 n2 n3) (ZfN a0 L1 n2 n3) (Zbr a0 L1 n2 n3 N) := by
 unfold Zbr
 refine Za7 (fun g0 => ?_) (fun g0 => ?_)
 ·
  refine Za7 (fun g1 => ?_) (fun g1 => ?_)
  ·
   exact Zau (r := (.r0 (([] : List RB)) : ZaK)) (fu := 4000) (orc := (Zm [(1, true), (4, true)] [] [] [] [(0, .ap0)])) (live := [0, 1, 3, 2]) (u := vp 3 0) (bl := [some (.cells [vi a0, vs 1 0 n2 n3] 60), some (.cells (Ze Za L1) 38), some (.cells [vi a0, vs 2 0 0 0] 60), some (.cells [] 38)]) (ob := [(dP (0 = n2 ∧ Zv (n2 * 7) (List.drop 0 (Ze Za L1)) = some [] ∧ Zu ZC [] = true), true), ((decide (a0 > (0 : Int))), true), ((decide (a0 > (0 : Int))), true)]) (by kernel_rfl) (Zb (Zi ⟨by omega, by rw [show n2 = 0 by omega]; rfl, rfl⟩) <| oY <| oY Zj) rfl (by decide) (by rfl) rr ⟨⟨rfl, ⟨[], by rfl⟩, by rfl⟩, ⟨(Zk (E := Za) (α := RB) _ L1 _), ⟨⟨rfl, ⟨[], (show ([vi a0, vs 3 0 0 0] : List Value) = _ from (Zh rfl (Zh (Zx rfl eqA eqA) rfl)).symm)⟩, by rfl⟩, ⟨(Zc5 (E := Za) _ (L := ([] : List RB)) _ (show ([] : List Value) = Ze Za ([] : List RB) from rfl)), trivial⟩⟩⟩⟩
  ·
   refine Za7 (fun g2 => ?_) (fun g2 => ?_)
   ·
    refine Za7 (fun g3 => ?_) (fun g3 => ?_)
    ·
     exact Zau (r := (.r0 ((L1.take n2)) : ZaK)) (fu := 4000) (orc := (Zm [(1, true), (4, true)] [] [] [] [(0, .ap n2 (Ze Za (L1.take n2)) (Ze Za (L1.take n2)))])) (live := [0, 1, 4, 3]) (u := vp 4 0) (bl := [some (.cells [vi a0, vs 1 0 n2 n3] 60), some (.cells (Ze Za L1) 38), some (.cells [vi a0, vs 3 0 (0 + n2) (0 + n2)] 60), some (.cells (Ze Za (L1.take n2)) 38)]) (ob := [(dP ((n2 = n2 ∧ Zv (n2 * 7) (List.drop 0 (Ze Za L1)) = some (Ze Za (L1.take n2)) ∧ Zu ZC (Ze Za (L1.take n2)) = true) ∧ 0 < n2 ∧ n2 ≤ 100000 ∧ 0 < 0 + n2 ∧ 0 ≤ 100000 ∧ 0 * 7 ≤ (List.length []) ∧ List.take (0 * 7) [] ++ (Ze Za (L1.take n2)) = (Ze Za (L1.take n2))), true), ((decide (a0 > (0 : Int))), true), ((decide (a0 > (0 : Int))), true)]) (by kernel_rfl) (Zb (Zi ⟨⟨rfl, (Zck (E := Za) (L := L1) (a := 0) (n := n2) (by omega) (by show _ = _ * 7; omega) (show _ = _ * 7 from rfl) (by rw [List.drop_zero]))⟩, by omega, by omega, ltA, by omega, (ZaX (E := Za) (L := ([] : List RB)) (M := (L1.take n2)) (n := 0) (show _ = _ * 7 from rfl) ltA (R := (L1.take n2)) (by rw [List.take_of_length_le ltA]; rfl))⟩) <| oY <| oY Zj) rfl (by decide) (by rfl) rr ⟨⟨rfl, ⟨[], by rfl⟩, by rfl⟩, ⟨(Zk (E := Za) (α := RB) _ L1 _), ⟨⟨rfl, ⟨[], (show ([vi a0, vs 3 0 (0 + n2) (0 + n2)] : List Value) = _ from (Zh rfl (Zh (Zx rfl eqA eqA) rfl)).symm)⟩, by rfl⟩, ⟨(Zk (E := Za) (α := RB) _ (L1.take n2) _), trivial⟩⟩⟩⟩
    ·
     exact ZdW
   ·
    exact ZdW
 ·
  exact Zau (r := (.r1 : ZaK)) (fu := 4000) (orc := (Zm [(1, false)] [] [] [] [])) (live := [0, 1]) (u := Value.pointer none) (bl := [some (.cells [vi a0, vs 1 0 n2 n3] 60), some (.cells (Ze Za L1) 38)]) (ob := [((decide (a0 > (0 : Int))), false)]) (by kernel_rfl) (oN Zj) rfl (by decide) (by rfl) rr ⟨⟨rfl, ⟨[], by rfl⟩, by rfl⟩, ⟨(Zk (E := Za) (α := RB) _ L1 _), trivial⟩⟩

theorem Zfc (a0 : Int) (L1 : List RB) (n2 n3 N : Nat) (r : ZaK) (h : Zbr a0 L1 n2 n3 N = some r) : LSpec Try.prog 16 #[vp 0 0] [.cells [vi a0, vs 1 0 n2 n3] 60, .cells (Ze Za L1) 38] (ZgA a0 L1 n2 n3 r) (ZfN a0 L1 n2 n3 r) :=
 Zdo ZbQ Try.func16 (by kernel_rfl) (by kernel_rfl) (fun r => by cases r <;> exact ZM _ rfl) (Zjk a0 L1 n2 n3 N) h

noncomputable def Zad (a0 : Int) (L1 : List RB) (n2 n3 : Nat) (w5 : List RB) (k0 k1 n : Nat) : Zbi := .call [(k0, .cells [vi a0, vs k1 0 n2 n3] 60), (k1, .cells (Ze Za L1) 38)] (vp n 0) [(n, some (.cells [vi a0, vs (n + 1) 0 w5.length w5.length] 60)), ((n + 1), some (.cells (Ze Za w5) 38))] 2
def ZR (A : Array Value) (a0 : Int) (L1 : List RB) (n2 n3 : Nat) (w5 : List RB) (k0 k1 n : Nat) : Prop := Z9 Try.prog 16 A [(k0, .cells [vi a0, vs k1 0 n2 n3] 60), (k1, .cells (Ze Za L1) 38)] (vp n 0) [(n, some (.cells [vi a0, vs (n + 1) 0 w5.length w5.length] 60)), ((n + 1), some (.cells (Ze Za w5) 38))] n 2

theorem Zae (A : Array Value) (a0 : Int) (L1 : List RB) (n2 n3 : Nat) (w5 : List RB) (N : Nat) (h : Zbr a0 L1 n2 n3 N = some (.r0 w5)) (k0 k1 n : Nat) (hA : A = #[vp k0 0]) (hnd : ([k0, k1] : List Nat).Nodup) (hlt : ∀ k ∈ ([k0, k1] : List Nat), k < n) : ZR A a0 L1 n2 n3 w5 k0 k1 n :=
 ZW hA (LSpec.callL (show LSpec Try.prog 16 #[vp 0 0] [.cells [vi a0, vs 1 0 n2 n3] 60, .cells (Ze Za L1) 38] (vp 2 0) [some (.cells [vi a0, vs 1 0 n2 n3] 60), some (.cells (Ze Za L1) 38), some (.cells [vi a0, vs 3 0 w5.length w5.length] 60), some (.cells (Ze Za w5) 38)] from Zfc a0 L1 n2 n3 N _ h) [k0, k1] n [2, 3] rfl hnd hlt (show 2 ≤ 4 from by decide) (show ∀ j ∈ ([2, 3] : List Nat), j < 4 from by decide) (by rfl) ⟨rfl, ⟨(Zz _ _ _), trivial⟩⟩ (by rfl) ⟨rfl, ⟨(Zz _ _ _), ⟨rfl, ⟨(Zz _ _ _), trivial⟩⟩⟩⟩ ⟨.inr rfl, ⟨.inr rfl, ⟨(by decide), ⟨(by decide), trivial⟩⟩⟩⟩ rfl rfl rfl (Zh (Z3 rfl rfl) (Zh (Z3 rfl (ZU _ _ _)) rfl)) (Zh (Z3 rfl (ZbN rfl)) (Zh (Z3 rfl (ZbN (ZU _ _ _))) rfl)))

noncomputable def ZfO (a0 : Int) (L1 : List RB) (n2 n3 k0 k1 n : Nat) : Zbi := .call [(k0, .cells [vi a0, vs k1 0 n2 n3] 60), (k1, .cells (Ze Za L1) 38)] (Value.pointer none) [] 0
def Ze5 (A : Array Value) (a0 : Int) (L1 : List RB) (n2 n3 k0 k1 n : Nat) : Prop := Z9 Try.prog 16 A [(k0, .cells [vi a0, vs k1 0 n2 n3] 60), (k1, .cells (Ze Za L1) 38)] (Value.pointer none) [] n 0

theorem ZfP (A : Array Value) (a0 : Int) (L1 : List RB) (n2 n3 N : Nat) (h : Zbr a0 L1 n2 n3 N = some (.r1)) (k0 k1 n : Nat) (hA : A = #[vp k0 0]) (hnd : ([k0, k1] : List Nat).Nodup) (hlt : ∀ k ∈ ([k0, k1] : List Nat), k < n) : Ze5 A a0 L1 n2 n3 k0 k1 n :=
 ZW hA (LSpec.callL (show LSpec Try.prog 16 #[vp 0 0] [.cells [vi a0, vs 1 0 n2 n3] 60, .cells (Ze Za L1) 38] (Value.pointer none) [some (.cells [vi a0, vs 1 0 n2 n3] 60), some (.cells (Ze Za L1) 38)] from Zfc a0 L1 n2 n3 N _ h) [k0, k1] n [] rfl hnd hlt (show 2 ≤ 2 from by decide) (show ∀ j ∈ ([] : List Nat), j < 2 from by decide) (by rfl) ⟨rfl, ⟨(Zz _ _ _), trivial⟩⟩ (by rfl) ⟨rfl, ⟨(Zz _ _ _), trivial⟩⟩ ⟨.inr rfl, ⟨.inr rfl, trivial⟩⟩ rfl rfl rfl (Zh (Z3 rfl rfl) (Zh (Z3 rfl (ZU _ _ _)) rfl)) rfl)

noncomputable def ZgB (L0 : List RB) : Zam → Value
 | .r0 w1 => Value.bool w1
noncomputable def ZfQ (L0 : List RB) : Zam → List (Option AObj)
 | .r0 w1 => [some (.cells (Ze Za L0) 38)]

def ZjB : Zaa → Nat
 | .h1m0 => 1
noncomputable def Zkv (L0 : List RB) : Zaa → List (Nat × Value)
 | .h1m0 => [(0, vs 0 0 L0.length L0.length), (1, vn), (5, vq)]
noncomputable def Zkw (L0 : List RB) : Zaa → List (Option AObj)
 | .h1m0 => [some (.cells (Ze Za L0) 38)]

noncomputable def ZdR : Nat → Code × List ZaY
 | 1 => ZcR [1, 1, 0, 1, 3] (ZdJ Try.f18) []
 | _ => (.skip, [])
def ZjC : Nat → Bool
 | 1 => true
 | _ => true
noncomputable def Zby (L0 : List RB) (N : Nat) : Mach := ⟨Try.f18, [.cells (Ze Za L0) 38], Zaa, Zam, Zdl L0 N, ZjB, ZdR, ZjC, Zkv L0, Zkw L0, ZgB L0, ZfQ L0⟩

theorem Zh6 (L0 : List RB) (N : Nat) : (Zby L0 N).Ok Try.prog Zw (.h1m0 : Zaa) (Zdl L0 N (.h1m0 : Zaa)) := by
 show (Zby L0 N).Ok Try.prog Zw (.h1m0 : Zaa) (ZdM L0 N)
 unfold ZdM
 refine Mach.ok_ite (fun g0 => ?_) (fun g0 => ?_)
 ·
  exact Mach.ok_none
 ·
  exact Mach.ok_fin (M := Zby L0 N) (cd := 1000000) (cm := 0) (r := (.r0 (true) : Zam)) (fu := 4000) (orc := (Zm [(0, false)] [] [] [] [])) (live := [0]) (u := vT) (bl := [some (.cells (Ze Za L0) 38)]) (ob := [((decide ((0 : Int) < (L0.length : Int))), false)]) (fun gv => by kernel_rfl) (oN Zj) rfl (by decide) (by rfl) rr ⟨(Zk (E := Za) (α := RB) _ L0 _), trivial⟩

theorem Zjl (L0 : List RB) (N : Nat) : (Zby L0 N).Enter Try.prog Zw #[vs 0 0 L0.length L0.length, vn] (Zd4 L0 N) := by
 unfold Zd4
 refine Mach.en_ite (fun g0 => ?_) (fun g0 => ?_)
 ·
  exact Mach.en_fin (M := Zby L0 N) (cd := 1000000) (cm := 0) (r := (.r0 (false) : Zam)) (fu := 4000) (orc := (Zm [(0, true)] [] [] [] [])) (live := [0]) (u := vf) (bl := [some (.cells (Ze Za L0) 38)]) (ob := [(((L0.length : Int) != (0 : Int)), true)]) (by kernel_rfl) (oD Zj) rfl (by decide) (by rfl) rr ⟨(Zk (E := Za) (α := RB) _ L0 _), trivial⟩
 ·
  exact Mach.en_head (bK := ZdR 1) (M := Zby L0 N) (cd := 1000000) (cm := 0) (y := (.h1m0 : Zaa)) (fu := 4000) (orc := (Zm [(0, false)] [] [] [] [])) (live := [0]) (tv := [some (vs 0 0 L0.length L0.length), some (vn), some (vq)]) (bl := [some (.cells (Ze Za L0) 38)]) (ob := [(((L0.length : Int) != (0 : Int)), false)]) rfl rfl (show Zn (ZdR 1).2 = [] from rfl) (by kernel_rfl) (oE Zj) rfl (by decide) (by rfl) ⟨rr, ⟨rr, ⟨rr, trivial⟩⟩⟩ ⟨(Zk (E := Za) (α := RB) _ L0 _), trivial⟩

theorem ZhW (L0 : List RB) (N : Nat) (r : Zam) (h : Zcf L0 N = some r) : LSpec Try.prog 18 #[vs 0 0 L0.length L0.length, vn] [.cells (Ze Za L0) 38] (ZgB L0 r) (ZfQ L0 r) :=
 Mach.spec ZbQ (Zby L0 N) Try.func18 (by kernel_rfl) (by kernel_rfl) (fun x => by cases x <;> exact ZM _ rfl) (fun r => by cases r <;> exact ZM _ rfl) (fun x => by
  cases x with
  | h1m0 => exact fun _ => (show ¬ (1 ∈ Zn (ZdR 1).2) from by decide +kernel)
  ) (fun x => (show (Zby L0 N).Ok Try.prog Zw x (Zdl L0 N x) from by
  cases x with
  | h1m0 => exact Zh6 L0 N
  )) (Zjl L0 N) (n := N) h

noncomputable def Za5 (L0 : List RB) (w1 : Bool) (k0 n : Nat) : Zbi := .call [(k0, .cells (Ze Za L0) 38)] (Value.bool w1) [] 0
def Zar (A : Array Value) (L0 : List RB) (w1 : Bool) (k0 n : Nat) : Prop := Z9 Try.prog 18 A [(k0, .cells (Ze Za L0) 38)] (Value.bool w1) [] n 0

theorem Za6 (A : Array Value) (L0 : List RB) (w1 : Bool) (N : Nat) (h : Zcf L0 N = some (.r0 w1)) (k0 n : Nat) (hA : A = #[vs k0 0 L0.length L0.length, vn]) (hnd : ([k0] : List Nat).Nodup) (hlt : ∀ k ∈ ([k0] : List Nat), k < n) : Zar A L0 w1 k0 n :=
 ZW hA (LSpec.callL (show LSpec Try.prog 18 #[vs 0 0 L0.length L0.length, vn] [.cells (Ze Za L0) 38] (Value.bool w1) [some (.cells (Ze Za L0) 38)] from ZhW L0 N _ h) [k0] n [] rfl hnd hlt (show 1 ≤ 1 from by decide) (show ∀ j ∈ ([] : List Nat), j < 1 from by decide) (by rfl) ⟨(Zz _ _ _), trivial⟩ (by rfl) ⟨(Zz _ _ _), trivial⟩ ⟨.inr rfl, trivial⟩ rfl rfl rfl (Zh (Z3 rfl (ZU _ _ _)) rfl) rfl)

noncomputable def ZgV (a0 : Int) (o1 : Nat) (L2 : List RA) (n3 n4 : Nat) (O0 : Obj) : Zf → Value
 | .r0 w2 => Value.bool w2
noncomputable def ZgC (a0 : Int) (o1 : Nat) (L2 : List RA) (n3 n4 : Nat) (O0 : Obj) : Zf → List (Option AObj)
 | .r0 w2 => [some (.ro O0)]

def Zkx : Zc → Nat
 | .h1m0 v5 => 1
 | .h1m1 v4 v6 => 1
 | .h1m2 v4 v6 v7 v8 => 1
 | .h1m3 v4 v6 v7 v8 v9 v10 => 1
 | .h1m4 v4 v6 v7 => 1
 | .h1m5 v4 v6 v7 v8 v9 => 1
 | .h2m0 v4 v6 v7 v8 => 2
 | .h2m1 v4 v6 => 2
 | .h2m2 v4 v6 v7 v8 v9 v10 => 2
 | .h2m3 v4 v6 v7 => 2
 | .h2m4 v4 v6 v7 v8 v9 => 2
 | .h3m0 v4 v5 v6 v8 v9 v10 => 3
 | .h3m1 v4 v7 => 3
 | .h3m2 v4 v7 v8 v9 => 3
 | .h3m3 v4 v7 v8 v9 v10 v11 => 3
 | .h3m4 v4 v5 v6 v8 v9 v10 v11 v12 => 3
 | .h3m5 v4 v8 v9 => 3
 | .h3m6 v4 v7 v8 => 3
 | .h3m7 v4 v7 v8 v9 v10 => 3
 | .h3m8 v4 v8 v9 v10 v11 => 3
noncomputable def ZkT (a0 : Int) (o1 : Nat) (L2 : List RA) (n3 n4 : Nat) (O0 : Obj) : Zc → List (Nat × Value)
 | .h1m0 v5 => [(1, vs 0 o1 n3 n4), (5, Value.pointer none), (7, vp 1 0), (9, vq)]
 | .h1m1 v4 v6 => [(1, vs 0 o1 n3 n4), (5, vp 1 0), (7, vp 2 0), (9, vi (v4 : Int))]
 | .h1m2 v4 v6 v7 v8 => [(1, vs 0 o1 n3 n4), (5, vp 1 0), (7, vp 2 0), (9, vi (v4 : Int))]
 | .h1m3 v4 v6 v7 v8 v9 v10 => [(1, vs 0 o1 n3 n4), (5, vp 1 0), (7, vp 2 0), (9, vi (v4 : Int))]
 | .h1m4 v4 v6 v7 => [(1, vs 0 o1 n3 n4), (5, vp 1 0), (7, vp 2 0), (9, vi (v4 : Int))]
 | .h1m5 v4 v6 v7 v8 v9 => [(1, vs 0 o1 n3 n4), (5, vp 1 0), (7, vp 2 0), (9, vi (v4 : Int))]
 | .h2m0 v4 v6 v7 v8 => [(1, vs 0 o1 n3 n4), (5, vp 1 0), (7, vp 2 0), (9, vi (v4 : Int))]
 | .h2m1 v4 v6 => [(1, vs 0 o1 n3 n4), (5, vp 1 0), (7, vp 2 0), (9, vi (v4 : Int))]
 | .h2m2 v4 v6 v7 v8 v9 v10 => [(1, vs 0 o1 n3 n4), (5, vp 1 0), (7, vp 2 0), (9, vi (v4 : Int))]
 | .h2m3 v4 v6 v7 => [(1, vs 0 o1 n3 n4), (5, vp 1 0), (7, vp 2 0), (9, vi (v4 : Int))]
 | .h2m4 v4 v6 v7 v8 v9 => [(1, vs 0 o1 n3 n4), (5, vp 1 0), (7, vp 2 0), (9, vi (v4 : Int))]
 | .h3m0 v4 v5 v6 v8 v9 v10 => [(1, vs 0 o1 n3 n4), (5, vp 1 0), (7, vp 2 0), (9, vi (v4 : Int)), (24, vs 3 0 v5.length v5.length), (25, vi (v6 : Int))]
 | .h3m1 v4 v7 => [(1, vs 0 o1 n3 n4), (5, vp 1 0), (7, vp 2 0), (9, vi (v4 : Int)), (24, vn), (25, vq)]
 | .h3m2 v4 v7 v8 v9 => [(1, vs 0 o1 n3 n4), (5, vp 1 0), (7, vp 2 0), (9, vi (v4 : Int)), (24, vn), (25, vq)]
 | .h3m3 v4 v7 v8 v9 v10 v11 => [(1, vs 0 o1 n3 n4), (5, vp 1 0), (7, vp 2 0), (9, vi (v4 : Int)), (24, vn), (25, vq)]
 | .h3m4 v4 v5 v6 v8 v9 v10 v11 v12 => [(1, vs 0 o1 n3 n4), (5, vp 1 0), (7, vp 2 0), (9, vi (v4 : Int)), (24, vs 3 0 v5.length v5.length), (25, vi (v6 : Int))]
 | .h3m5 v4 v8 v9 => [(1, vs 0 o1 n3 n4), (5, vp 1 0), (7, vp 2 0), (9, vi (v4 : Int)), (24, vs 3 0 0 0), (25, vq)]
 | .h3m6 v4 v7 v8 => [(1, vs 0 o1 n3 n4), (5, vp 1 0), (7, vp 2 0), (9, vi (v4 : Int)), (24, vn), (25, vq)]
 | .h3m7 v4 v7 v8 v9 v10 => [(1, vs 0 o1 n3 n4), (5, vp 1 0), (7, vp 2 0), (9, vi (v4 : Int)), (24, vn), (25, vq)]
 | .h3m8 v4 v8 v9 v10 v11 => [(1, vs 0 o1 n3 n4), (5, vp 1 0), (7, vp 2 0), (9, vi (v4 : Int)), (24, vs 3 0 0 0), (25, vq)]
noncomputable def ZkU (a0 : Int) (o1 : Nat) (L2 : List RA) (n3 n4 : Nat) (O0 : Obj) : Zc → List (Option AObj)
 | .h1m0 v5 => [some (.ro O0), some (.cells [vi v5, vn] 29)]
 | .h1m1 v4 v6 => [some (.ro O0), some (.cells [vi a0, vn] 60), some (.cells [vi v6, vn] 29)]
 | .h1m2 v4 v6 v7 v8 => [some (.ro O0), some (.cells [vi a0, vs 3 0 v6.length v6.length] 60), some (.cells [vi v7, vs 4 0 v8.length v8.length] 29), some (.cells (Ze Za v6) 38), some (.cells (Ze Za v8) 38)]
 | .h1m3 v4 v6 v7 v8 v9 v10 => [some (.ro O0), some (.cells [vi a0, vs 3 0 v7 v8] 60), some (.cells [vi v9, vs 4 0 v10.length v10.length] 29), some (.cells (Ze Za v6) 38), some (.cells (Ze Za v10) 38)]
 | .h1m4 v4 v6 v7 => [some (.ro O0), some (.cells [vi a0, vs 3 0 v6.length v6.length] 60), some (.cells [vi v7, vn] 29), some (.cells (Ze Za v6) 38)]
 | .h1m5 v4 v6 v7 v8 v9 => [some (.ro O0), some (.cells [vi a0, vs 3 0 v7 v8] 60), some (.cells [vi v9, vn] 29), some (.cells (Ze Za v6) 38)]
 | .h2m0 v4 v6 v7 v8 => [some (.ro O0), some (.cells [vi a0, vs 3 0 v6.length v6.length] 60), some (.cells [vi v7, vs 4 0 v8.length v8.length] 29), some (.cells (Ze Za v6) 38), some (.cells (Ze Za v8) 38)]
 | .h2m1 v4 v6 => [some (.ro O0), some (.cells [vi a0, vn] 60), some (.cells [vi v6, vn] 29)]
 | .h2m2 v4 v6 v7 v8 v9 v10 => [some (.ro O0), some (.cells [vi a0, vs 3 0 v7 v8] 60), some (.cells [vi v9, vs 4 0 v10.length v10.length] 29), some (.cells (Ze Za v6) 38), some (.cells (Ze Za v10) 38)]
 | .h2m3 v4 v6 v7 => [some (.ro O0), some (.cells [vi a0, vs 3 0 v6.length v6.length] 60), some (.cells [vi v7, vn] 29), some (.cells (Ze Za v6) 38)]
 | .h2m4 v4 v6 v7 v8 v9 => [some (.ro O0), some (.cells [vi a0, vs 3 0 v7 v8] 60), some (.cells [vi v9, vn] 29), some (.cells (Ze Za v6) 38)]
 | .h3m0 v4 v5 v6 v8 v9 v10 => [some (.ro O0), some (.cells [vi a0, vs 4 0 v8.length v8.length] 60), some (.cells [vi v9, vs 5 0 v10.length v10.length] 29), some (.cells (Ze Za v5) 38), some (.cells (Ze Za v8) 38), some (.cells (Ze Za v10) 38)]
 | .h3m1 v4 v7 => [some (.ro O0), some (.cells [vi a0, vn] 60), some (.cells [vi v7, vn] 29)]
 | .h3m2 v4 v7 v8 v9 => [some (.ro O0), some (.cells [vi a0, vs 3 0 v7.length v7.length] 60), some (.cells [vi v8, vs 4 0 v9.length v9.length] 29), some (.cells (Ze Za v7) 38), some (.cells (Ze Za v9) 38)]
 | .h3m3 v4 v7 v8 v9 v10 v11 => [some (.ro O0), some (.cells [vi a0, vs 3 0 v8 v9] 60), some (.cells [vi v10, vs 4 0 v11.length v11.length] 29), some (.cells (Ze Za v7) 38), some (.cells (Ze Za v11) 38)]
 | .h3m4 v4 v5 v6 v8 v9 v10 v11 v12 => [some (.ro O0), some (.cells [vi a0, vs 4 0 v9 v10] 60), some (.cells [vi v11, vs 5 0 v12.length v12.length] 29), some (.cells (Ze Za v5) 38), some (.cells (Ze Za v8) 38), some (.cells (Ze Za v12) 38)]
 | .h3m5 v4 v8 v9 => [some (.ro O0), some (.cells [vi a0, vs 4 0 v8.length v8.length] 60), some (.cells [vi v9, vn] 29), some (.cells (Ze Za ([] : List RB)) 38), some (.cells (Ze Za v8) 38)]
 | .h3m6 v4 v7 v8 => [some (.ro O0), some (.cells [vi a0, vs 3 0 v7.length v7.length] 60), some (.cells [vi v8, vn] 29), some (.cells (Ze Za v7) 38)]
 | .h3m7 v4 v7 v8 v9 v10 => [some (.ro O0), some (.cells [vi a0, vs 3 0 v8 v9] 60), some (.cells [vi v10, vn] 29), some (.cells (Ze Za v7) 38)]
 | .h3m8 v4 v8 v9 v10 v11 => [some (.ro O0), some (.cells [vi a0, vs 4 0 v9 v10] 60), some (.cells [vi v11, vn] 29), some (.cells (Ze Za ([] : List RB)) 38), some (.cells (Ze Za v8) 38)]

noncomputable def Zg : Nat → Code × List ZaY
 | 1 => ZcR [1, 1, 1, 1, 0, 1, 3] (ZdJ Try.f3) []
 | 2 => ZiT [1, 1, 1, 1, 0, 1, 3, 7, 1, 0, 3, 1, 1] (ZdJ Try.f3) []
 | 3 => ZcR [1, 1, 1, 1, 0, 1, 3, 7, 1, 0, 3, 1, 1, 1, 1, 1, 3] (ZdJ Try.f3) []
 | _ => (.skip, [])
def ZgD : Nat → Bool
 | 1 => true
 | 2 => false
 | 3 => true
 | _ => true
noncomputable def Zl (i : Nat) : List ZaY := match ZgD i with | true => .rnd i :: (Zg i).2 | false => (Zg i).2

noncomputable def Zd (a0 : Int) (o1 : Nat) (L2 : List RA) (n3 n4 : Nat) (O0 : Obj) (N : Nat) : Mach := ⟨Try.f3, [.ro O0], Zc, Zf, Zt a0 L2 n3 n4 N, Zkx, Zg, ZgD, ZkT a0 o1 L2 n3 n4 O0, ZkU a0 o1 L2 n3 n4 O0, ZgV a0 o1 L2 n3 n4 O0, ZgC a0 o1 L2 n3 n4 O0⟩

theorem ZhX (a0 : Int) (o1 : Nat) (L2 : List RA) (n3 n4 : Nat) (O0 : Obj) (F0 : ZL O0 o1 L2) (v5 : Int) (N : Nat) : (Zd a0 o1 L2 n3 n4 O0 N).Ok Try.prog Zw (.h1m0 v5 : Zc) (Zt a0 L2 n3 n4 N (.h1m0 v5 : Zc)) := by
 show (Zd a0 o1 L2 n3 n4 O0 N).Ok Try.prog Zw (.h1m0 v5 : Zc) (ZdZ a0 L2 n3 n4 N v5)
 unfold ZdZ
 by_cases g0 : (0 : Int) < (n3 : Int)
 ·
  exact Mach.ok_fin (M := Zd a0 o1 L2 n3 n4 O0 N) (cd := 1000000) (cm := 0) (r := (.r0 (true) : Zf)) (fu := 4000) (orc := (Zm [(0, true)] [] [] [] [])) (live := [0]) (u := vT) (bl := [some (.ro O0)]) (ob := [((decide ((0 : Int) < (n3 : Int))), true)]) (fun gv => by kernel_rfl) (oY Zj) rfl (by decide) (by rfl) rr ⟨rfl, trivial⟩
 ·
  exact Mach.ok_fin (M := Zd a0 o1 L2 n3 n4 O0 N) (cd := 1000000) (cm := 0) (r := (.r0 (true) : Zf)) (fu := 4000) (orc := (Zm [(0, false)] [] [] [] [])) (live := [0]) (u := vT) (bl := [some (.ro O0)]) (ob := [((decide ((0 : Int) < (n3 : Int))), false)]) (fun gv => by kernel_rfl) (oN Zj) rfl (by decide) (by rfl) rr ⟨rfl, trivial⟩

end Ev
end Go.Proofs.Ytgnmjjakmeomiaa
