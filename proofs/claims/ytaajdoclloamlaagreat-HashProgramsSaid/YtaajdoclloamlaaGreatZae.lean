/- Part 5. -/
import Derived.Test.YtaajdoclloamlaaGreatZad
/- Calls do what the plain functions say. -/
namespace Go.Proofs.YtaajdoclloamlaaGreat
open Go.RowKit
namespace Ev
set_option linter.unusedVariables false
set_option maxRecDepth 100000
noncomputable def Zmz  : ZdS → Value
 | .r0 => vq
noncomputable def Zll  : ZdS → List (Option AObj)
 | .r0 => []

theorem Zry  (N : Nat) : Gx Tryz.prog 27 [] #[Value.agg #[vi 10, vq, vq, vq]] (Zmz ) (Zll ) (Zb6  N) := by
 unfold Zb6
 exact Zi Zj (r := (.r0 : ZdS)) (fu := 4000) (orc := (Zl [] [] [] [] [])) (live := []) (u := vq) (bl := []) (ob := []) (by kernel_rfl) Zf rfl (by decide) (by rfl) rr trivial (Zh _ rfl)

theorem Zpz  (N : Nat) (r : ZdS) (h : Zb6  N = some r) : LSpec Tryz.prog 27 #[Value.agg #[vi 10, vq, vq, vq]] [] (Zmz  r) (Zll  r) :=
 (Zry  N) r h

noncomputable def Zr  (n : Nat) : ZB := .call [] (vq) [] 0
def Zp (A : Array Value)  (n : Nat) : Prop := Zk Tryz.prog 27 A [] (vq) [] n 0

theorem Zs (A : Array Value)  (N : Nat) (h : Zb6  N = some (.r0)) (n : Nat) (hA : A = #[Value.agg #[vi 10, vq, vq, vq]]) (hnd : ([] : List Nat).Nodup) (hlt : ∀ k ∈ ([] : List Nat), k < n) : Zp A   n :=
 Zn hA (LSpec.callL (show LSpec Tryz.prog 27 #[Value.agg #[vi 10, vq, vq, vq]] [] (vq) [] from Zpz  N _ h) [] n [] rfl hnd hlt (show 0 ≤ 0 from by decide) (show ∀ j ∈ ([] : List Nat), j < 0 from by decide) (by rfl) trivial (by rfl) trivial trivial rfl rfl rfl rfl rfl)

noncomputable def Zks (a0 : Int) : Zbc → Value
 | .r0 => vq
 | .r1 => vi 100
noncomputable def Zj2 (a0 : Int) : Zbc → List (Option AObj)
 | .r0 => []
 | .r1 => []

theorem Zp0 (a0 : Int) (N : Nat) : Gx Tryz.prog 27 [] #[Value.agg #[vi 1, vi 1, vi a0, vq]] (Zks a0) (Zj2 a0) (ZaO a0 N) := by
 unfold ZaO
 refine ZR (fun g0 => ?_) (fun g0 => ?_)
 ·
  refine ZR (fun g1 => ?_) (fun g1 => ?_)
  ·
   exact Zi Zj (r := (.r0 : Zbc)) (fu := 4000) (orc := (Zl [(15, true), (16, true)] [] [] [] [])) (live := []) (u := vq) (bl := []) (ob := [((decide (a0 ≤ (1099511627776 : Int))), true), ((decide ((-1099511627776 : Int) ≤ a0)), true)]) (by kernel_rfl) (oY <| oY Zf) rfl (by decide) (by rfl) rr trivial (Zh _ rfl)
  ·
   exact Zi Zj (r := (.r1 : Zbc)) (fu := 4000) (orc := (Zl [(15, true), (16, false)] [] [] [] [])) (live := []) (u := vi 100) (bl := []) (ob := [((decide (a0 ≤ (1099511627776 : Int))), false), ((decide ((-1099511627776 : Int) ≤ a0)), true)]) (by kernel_rfl) (oN <| oY Zf) rfl (by decide) (by rfl) rr trivial (Zh _ rfl)
 ·
  exact Zi Zj (r := (.r1 : Zbc)) (fu := 4000) (orc := (Zl [(15, false)] [] [] [] [])) (live := []) (u := vi 100) (bl := []) (ob := [((decide ((-1099511627776 : Int) ≤ a0)), false)]) (by kernel_rfl) (oN Zf) rfl (by decide) (by rfl) rr trivial (Zh _ rfl)

theorem Zil (a0 : Int) (N : Nat) (r : Zbc) (h : ZaO a0 N = some r) : LSpec Tryz.prog 27 #[Value.agg #[vi 1, vi 1, vi a0, vq]] [] (Zks a0 r) (Zj2 a0 r) :=
 (Zp0 a0 N) r h

noncomputable def Zw (a0 : Int) (n : Nat) : ZB := .call [] (vq) [] 0
def Zt (A : Array Value) (a0 : Int) (n : Nat) : Prop := Zk Tryz.prog 27 A [] (vq) [] n 0

theorem Zx (A : Array Value) (a0 : Int) (N : Nat) (h : ZaO a0 N = some (.r0)) (n : Nat) (hA : A = #[Value.agg #[vi 1, vi 1, vi a0, vq]]) (hnd : ([] : List Nat).Nodup) (hlt : ∀ k ∈ ([] : List Nat), k < n) : Zt A a0  n :=
 Zn hA (LSpec.callL (show LSpec Tryz.prog 27 #[Value.agg #[vi 1, vi 1, vi a0, vq]] [] (vq) [] from Zil a0 N _ h) [] n [] rfl hnd hlt (show 0 ≤ 0 from by decide) (show ∀ j ∈ ([] : List Nat), j < 0 from by decide) (by rfl) trivial (by rfl) trivial trivial rfl rfl rfl rfl rfl)

noncomputable def ZcG (a0 : Int) (n : Nat) : ZB := .call [] (vi 100) [] 0
def ZbU (A : Array Value) (a0 : Int) (n : Nat) : Prop := Zk Tryz.prog 27 A [] (vi 100) [] n 0

theorem ZcH (A : Array Value) (a0 : Int) (N : Nat) (h : ZaO a0 N = some (.r1)) (n : Nat) (hA : A = #[Value.agg #[vi 1, vi 1, vi a0, vq]]) (hnd : ([] : List Nat).Nodup) (hlt : ∀ k ∈ ([] : List Nat), k < n) : ZbU A a0  n :=
 Zn hA (LSpec.callL (show LSpec Tryz.prog 27 #[Value.agg #[vi 1, vi 1, vi a0, vq]] [] (vi 100) [] from Zil a0 N _ h) [] n [] rfl hnd hlt (show 0 ≤ 0 from by decide) (show ∀ j ∈ ([] : List Nat), j < 0 from by decide) (by rfl) trivial (by rfl) trivial trivial rfl rfl rfl rfl rfl)

noncomputable def Zkt (a0 : Int) : Zbd → Value
 | .r0 => vq
 | .r1 => vi 100
noncomputable def Zj3 (a0 : Int) : Zbd → List (Option AObj)
 | .r0 => []
 | .r1 => []

theorem Zp1 (a0 : Int) (N : Nat) : Gx Tryz.prog 27 [] #[Value.agg #[vi 1, vi 6, vi a0, vq]] (Zkt a0) (Zj3 a0) (ZbQ a0 N) := by
 unfold ZbQ
 refine ZR (fun g0 => ?_) (fun g0 => ?_)
 ·
  refine ZR (fun g1 => ?_) (fun g1 => ?_)
  ·
   exact Zi Zj (r := (.r0 : Zbd)) (fu := 4000) (orc := (Zl [(15, true), (16, true)] [] [] [] [])) (live := []) (u := vq) (bl := []) (ob := [((decide (a0 ≤ (1099511627776 : Int))), true), ((decide ((-1099511627776 : Int) ≤ a0)), true)]) (by kernel_rfl) (oY <| oY Zf) rfl (by decide) (by rfl) rr trivial (Zh _ rfl)
  ·
   exact Zi Zj (r := (.r1 : Zbd)) (fu := 4000) (orc := (Zl [(15, true), (16, false)] [] [] [] [])) (live := []) (u := vi 100) (bl := []) (ob := [((decide (a0 ≤ (1099511627776 : Int))), false), ((decide ((-1099511627776 : Int) ≤ a0)), true)]) (by kernel_rfl) (oN <| oY Zf) rfl (by decide) (by rfl) rr trivial (Zh _ rfl)
 ·
  exact Zi Zj (r := (.r1 : Zbd)) (fu := 4000) (orc := (Zl [(15, false)] [] [] [] [])) (live := []) (u := vi 100) (bl := []) (ob := [((decide ((-1099511627776 : Int) ≤ a0)), false)]) (by kernel_rfl) (oN Zf) rfl (by decide) (by rfl) rr trivial (Zh _ rfl)

theorem Zim (a0 : Int) (N : Nat) (r : Zbd) (h : ZbQ a0 N = some r) : LSpec Tryz.prog 27 #[Value.agg #[vi 1, vi 6, vi a0, vq]] [] (Zkt a0 r) (Zj3 a0 r) :=
 (Zp1 a0 N) r h

noncomputable def Zac (a0 : Int) (n : Nat) : ZB := .call [] (vq) [] 0
def ZT (A : Array Value) (a0 : Int) (n : Nat) : Prop := Zk Tryz.prog 27 A [] (vq) [] n 0

theorem Zad (A : Array Value) (a0 : Int) (N : Nat) (h : ZbQ a0 N = some (.r0)) (n : Nat) (hA : A = #[Value.agg #[vi 1, vi 6, vi a0, vq]]) (hnd : ([] : List Nat).Nodup) (hlt : ∀ k ∈ ([] : List Nat), k < n) : ZT A a0  n :=
 Zn hA (LSpec.callL (show LSpec Tryz.prog 27 #[Value.agg #[vi 1, vi 6, vi a0, vq]] [] (vq) [] from Zim a0 N _ h) [] n [] rfl hnd hlt (show 0 ≤ 0 from by decide) (show ∀ j ∈ ([] : List Nat), j < 0 from by decide) (by rfl) trivial (by rfl) trivial trivial rfl rfl rfl rfl rfl)

noncomputable def Zj4 (a0 : Int) (n : Nat) : ZB := .call [] (vi 100) [] 0
def ZgE (A : Array Value) (a0 : Int) (n : Nat) : Prop := Zk Tryz.prog 27 A [] (vi 100) [] n 0

theorem Zj5 (A : Array Value) (a0 : Int) (N : Nat) (h : ZbQ a0 N = some (.r1)) (n : Nat) (hA : A = #[Value.agg #[vi 1, vi 6, vi a0, vq]]) (hnd : ([] : List Nat).Nodup) (hlt : ∀ k ∈ ([] : List Nat), k < n) : ZgE A a0  n :=
 Zn hA (LSpec.callL (show LSpec Tryz.prog 27 #[Value.agg #[vi 1, vi 6, vi a0, vq]] [] (vi 100) [] from Zim a0 N _ h) [] n [] rfl hnd hlt (show 0 ≤ 0 from by decide) (show ∀ j ∈ ([] : List Nat), j < 0 from by decide) (by rfl) trivial (by rfl) trivial trivial rfl rfl rfl rfl rfl)

noncomputable def Zku  : ZcT → Value
 | .r0 => vq
noncomputable def Zj6  : ZcT → List (Option AObj)
 | .r0 => []

theorem Zp2  (N : Nat) : Gx Tryz.prog 27 [] #[Value.agg #[vi 15, vq, vq, vq]] (Zku ) (Zj6 ) (Zbs  N) := by
 unfold Zbs
 exact Zi Zj (r := (.r0 : ZcT)) (fu := 4000) (orc := (Zl [] [] [] [] [])) (live := []) (u := vq) (bl := []) (ob := []) (by kernel_rfl) Zf rfl (by decide) (by rfl) rr trivial (Zh _ rfl)

theorem ZnZ  (N : Nat) (r : ZcT) (h : Zbs  N = some r) : LSpec Tryz.prog 27 #[Value.agg #[vi 15, vq, vq, vq]] [] (Zku  r) (Zj6  r) :=
 (Zp2  N) r h

noncomputable def Z0  (n : Nat) : ZB := .call [] (vq) [] 0
def Zy (A : Array Value)  (n : Nat) : Prop := Zk Tryz.prog 27 A [] (vq) [] n 0

theorem Z1 (A : Array Value)  (N : Nat) (h : Zbs  N = some (.r0)) (n : Nat) (hA : A = #[Value.agg #[vi 15, vq, vq, vq]]) (hnd : ([] : List Nat).Nodup) (hlt : ∀ k ∈ ([] : List Nat), k < n) : Zy A   n :=
 Zn hA (LSpec.callL (show LSpec Tryz.prog 27 #[Value.agg #[vi 15, vq, vq, vq]] [] (vq) [] from ZnZ  N _ h) [] n [] rfl hnd hlt (show 0 ≤ 0 from by decide) (show ∀ j ∈ ([] : List Nat), j < 0 from by decide) (by rfl) trivial (by rfl) trivial trivial rfl rfl rfl rfl rfl)

noncomputable def Zkv (a0 : Int) : Zbe → Value
 | .r0 => vq
 | .r1 => vi 100
noncomputable def Zj7 (a0 : Int) : Zbe → List (Option AObj)
 | .r0 => []
 | .r1 => []

theorem Zp3 (a0 : Int) (N : Nat) : Gx Tryz.prog 27 [] #[Value.agg #[vi 13, vi 3, vq, vi a0]] (Zkv a0) (Zj7 a0) (Zat a0 N) := by
 unfold Zat
 refine ZR (fun g0 => ?_) (fun g0 => ?_)
 ·
  refine ZR (fun g1 => ?_) (fun g1 => ?_)
  ·
   exact Zi Zj (r := (.r0 : Zbe)) (fu := 4000) (orc := (Zl [(16, true), (17, true)] [] [] [] [])) (live := []) (u := vq) (bl := []) (ob := [((decide (a0 ≤ (15 : Int))), true), ((decide ((0 : Int) ≤ a0)), true)]) (by kernel_rfl) (oY <| oY Zf) rfl (by decide) (by rfl) rr trivial (Zh _ rfl)
  ·
   exact Zi Zj (r := (.r1 : Zbe)) (fu := 4000) (orc := (Zl [(16, true), (17, false)] [] [] [] [])) (live := []) (u := vi 100) (bl := []) (ob := [((decide (a0 ≤ (15 : Int))), false), ((decide ((0 : Int) ≤ a0)), true)]) (by kernel_rfl) (oN <| oY Zf) rfl (by decide) (by rfl) rr trivial (Zh _ rfl)
 ·
  exact Zi Zj (r := (.r1 : Zbe)) (fu := 4000) (orc := (Zl [(16, false)] [] [] [] [])) (live := []) (u := vi 100) (bl := []) (ob := [((decide ((0 : Int) ≤ a0)), false)]) (by kernel_rfl) (oN Zf) rfl (by decide) (by rfl) rr trivial (Zh _ rfl)

theorem Zin (a0 : Int) (N : Nat) (r : Zbe) (h : Zat a0 N = some r) : LSpec Tryz.prog 27 #[Value.agg #[vi 13, vi 3, vq, vi a0]] [] (Zkv a0 r) (Zj7 a0 r) :=
 (Zp3 a0 N) r h

noncomputable def Zu (a0 : Int) (n : Nat) : ZB := .call [] (vq) [] 0
def Zq (A : Array Value) (a0 : Int) (n : Nat) : Prop := Zk Tryz.prog 27 A [] (vq) [] n 0

theorem Zv (A : Array Value) (a0 : Int) (N : Nat) (h : Zat a0 N = some (.r0)) (n : Nat) (hA : A = #[Value.agg #[vi 13, vi 3, vq, vi a0]]) (hnd : ([] : List Nat).Nodup) (hlt : ∀ k ∈ ([] : List Nat), k < n) : Zq A a0  n :=
 Zn hA (LSpec.callL (show LSpec Tryz.prog 27 #[Value.agg #[vi 13, vi 3, vq, vi a0]] [] (vq) [] from Zin a0 N _ h) [] n [] rfl hnd hlt (show 0 ≤ 0 from by decide) (show ∀ j ∈ ([] : List Nat), j < 0 from by decide) (by rfl) trivial (by rfl) trivial trivial rfl rfl rfl rfl rfl)

noncomputable def Zb2 (a0 : Int) (n : Nat) : ZB := .call [] (vi 100) [] 0
def Zbp (A : Array Value) (a0 : Int) (n : Nat) : Prop := Zk Tryz.prog 27 A [] (vi 100) [] n 0

theorem Zb3 (A : Array Value) (a0 : Int) (N : Nat) (h : Zat a0 N = some (.r1)) (n : Nat) (hA : A = #[Value.agg #[vi 13, vi 3, vq, vi a0]]) (hnd : ([] : List Nat).Nodup) (hlt : ∀ k ∈ ([] : List Nat), k < n) : Zbp A a0  n :=
 Zn hA (LSpec.callL (show LSpec Tryz.prog 27 #[Value.agg #[vi 13, vi 3, vq, vi a0]] [] (vi 100) [] from Zin a0 N _ h) [] n [] rfl hnd hlt (show 0 ≤ 0 from by decide) (show ∀ j ∈ ([] : List Nat), j < 0 from by decide) (by rfl) trivial (by rfl) trivial trivial rfl rfl rfl rfl rfl)

noncomputable def Zkw  : ZcU → Value
 | .r0 => vq
noncomputable def Zj8  : ZcU → List (Option AObj)
 | .r0 => []

theorem Zp4  (N : Nat) : Gx Tryz.prog 27 [] #[Value.agg #[vi 9, vi 3, vi 13, vq]] (Zkw ) (Zj8 ) (ZdI  N) := by
 unfold ZdI
 exact Zi Zj (r := (.r0 : ZcU)) (fu := 4000) (orc := (Zl [] [] [] [] [])) (live := []) (u := vq) (bl := []) (ob := []) (by kernel_rfl) Zf rfl (by decide) (by rfl) rr trivial (Zh _ rfl)

theorem Zoa  (N : Nat) (r : ZcU) (h : ZdI  N = some r) : LSpec Tryz.prog 27 #[Value.agg #[vi 9, vi 3, vi 13, vq]] [] (Zkw  r) (Zj8  r) :=
 (Zp4  N) r h

noncomputable def ZaH  (n : Nat) : ZB := .call [] (vq) [] 0
def Zaw (A : Array Value)  (n : Nat) : Prop := Zk Tryz.prog 27 A [] (vq) [] n 0

theorem ZaI (A : Array Value)  (N : Nat) (h : ZdI  N = some (.r0)) (n : Nat) (hA : A = #[Value.agg #[vi 9, vi 3, vi 13, vq]]) (hnd : ([] : List Nat).Nodup) (hlt : ∀ k ∈ ([] : List Nat), k < n) : Zaw A   n :=
 Zn hA (LSpec.callL (show LSpec Tryz.prog 27 #[Value.agg #[vi 9, vi 3, vi 13, vq]] [] (vq) [] from Zoa  N _ h) [] n [] rfl hnd hlt (show 0 ≤ 0 from by decide) (show ∀ j ∈ ([] : List Nat), j < 0 from by decide) (by rfl) trivial (by rfl) trivial trivial rfl rfl rfl rfl rfl)

noncomputable def Zkx  : ZcV → Value
 | .r0 => vq
noncomputable def Zj9  : ZcV → List (Option AObj)
 | .r0 => []

theorem Zp5  (N : Nat) : Gx Tryz.prog 27 [] #[Value.agg #[vi 13, vi 4, vi 3, vi 1]] (Zkx ) (Zj9 ) (ZaP  N) := by
 unfold ZaP
 exact Zi Zj (r := (.r0 : ZcV)) (fu := 4000) (orc := (Zl [] [] [] [] [])) (live := []) (u := vq) (bl := []) (ob := []) (by kernel_rfl) Zf rfl (by decide) (by rfl) rr trivial (Zh _ rfl)

theorem Zob  (N : Nat) (r : ZcV) (h : ZaP  N = some r) : LSpec Tryz.prog 27 #[Value.agg #[vi 13, vi 4, vi 3, vi 1]] [] (Zkx  r) (Zj9  r) :=
 (Zp5  N) r h

noncomputable def Z3  (n : Nat) : ZB := .call [] (vq) [] 0
def Z2 (A : Array Value)  (n : Nat) : Prop := Zk Tryz.prog 27 A [] (vq) [] n 0

theorem Z4 (A : Array Value)  (N : Nat) (h : ZaP  N = some (.r0)) (n : Nat) (hA : A = #[Value.agg #[vi 13, vi 4, vi 3, vi 1]]) (hnd : ([] : List Nat).Nodup) (hlt : ∀ k ∈ ([] : List Nat), k < n) : Z2 A   n :=
 Zn hA (LSpec.callL (show LSpec Tryz.prog 27 #[Value.agg #[vi 13, vi 4, vi 3, vi 1]] [] (vq) [] from Zob  N _ h) [] n [] rfl hnd hlt (show 0 ≤ 0 from by decide) (show ∀ j ∈ ([] : List Nat), j < 0 from by decide) (by rfl) trivial (by rfl) trivial trivial rfl rfl rfl rfl rfl)

noncomputable def Zky  : ZcW → Value
 | .r0 => vq
noncomputable def ZjA  : ZcW → List (Option AObj)
 | .r0 => []

theorem Zp6  (N : Nat) : Gx Tryz.prog 27 [] #[Value.agg #[vi 7, vi 5, vi 4, vi 1]] (Zky ) (ZjA ) (Zbt  N) := by
 unfold Zbt
 exact Zi Zj (r := (.r0 : ZcW)) (fu := 4000) (orc := (Zl [] [] [] [] [])) (live := []) (u := vq) (bl := []) (ob := []) (by kernel_rfl) Zf rfl (by decide) (by rfl) rr trivial (Zh _ rfl)

theorem Zoc  (N : Nat) (r : ZcW) (h : Zbt  N = some r) : LSpec Tryz.prog 27 #[Value.agg #[vi 7, vi 5, vi 4, vi 1]] [] (Zky  r) (ZjA  r) :=
 (Zp6  N) r h

noncomputable def Z9  (n : Nat) : ZB := .call [] (vq) [] 0
def Z7 (A : Array Value)  (n : Nat) : Prop := Zk Tryz.prog 27 A [] (vq) [] n 0

theorem ZA (A : Array Value)  (N : Nat) (h : Zbt  N = some (.r0)) (n : Nat) (hA : A = #[Value.agg #[vi 7, vi 5, vi 4, vi 1]]) (hnd : ([] : List Nat).Nodup) (hlt : ∀ k ∈ ([] : List Nat), k < n) : Z7 A   n :=
 Zn hA (LSpec.callL (show LSpec Tryz.prog 27 #[Value.agg #[vi 7, vi 5, vi 4, vi 1]] [] (vq) [] from Zoc  N _ h) [] n [] rfl hnd hlt (show 0 ≤ 0 from by decide) (show ∀ j ∈ ([] : List Nat), j < 0 from by decide) (by rfl) trivial (by rfl) trivial trivial rfl rfl rfl rfl rfl)

noncomputable def Zkz  : ZcX → Value
 | .r0 => vq
noncomputable def ZjB  : ZcX → List (Option AObj)
 | .r0 => []

theorem Zp7  (N : Nat) : Gx Tryz.prog 27 [] #[Value.agg #[vi 9, vi 5, vi 11, vq]] (Zkz ) (ZjB ) (ZdJ  N) := by
 unfold ZdJ
 exact Zi Zj (r := (.r0 : ZcX)) (fu := 4000) (orc := (Zl [] [] [] [] [])) (live := []) (u := vq) (bl := []) (ob := []) (by kernel_rfl) Zf rfl (by decide) (by rfl) rr trivial (Zh _ rfl)

theorem Zod  (N : Nat) (r : ZcX) (h : ZdJ  N = some r) : LSpec Tryz.prog 27 #[Value.agg #[vi 9, vi 5, vi 11, vq]] [] (Zkz  r) (ZjB  r) :=
 (Zp7  N) r h

noncomputable def ZaJ  (n : Nat) : ZB := .call [] (vq) [] 0
def Zax (A : Array Value)  (n : Nat) : Prop := Zk Tryz.prog 27 A [] (vq) [] n 0

theorem ZaK (A : Array Value)  (N : Nat) (h : ZdJ  N = some (.r0)) (n : Nat) (hA : A = #[Value.agg #[vi 9, vi 5, vi 11, vq]]) (hnd : ([] : List Nat).Nodup) (hlt : ∀ k ∈ ([] : List Nat), k < n) : Zax A   n :=
 Zn hA (LSpec.callL (show LSpec Tryz.prog 27 #[Value.agg #[vi 9, vi 5, vi 11, vq]] [] (vq) [] from Zod  N _ h) [] n [] rfl hnd hlt (show 0 ≤ 0 from by decide) (show ∀ j ∈ ([] : List Nat), j < 0 from by decide) (by rfl) trivial (by rfl) trivial trivial rfl rfl rfl rfl rfl)

noncomputable def ZjC  : Zcn → Value
 | .r0 => vq
noncomputable def Zi8  : Zcn → List (Option AObj)
 | .r0 => []

theorem ZoH  (N : Nat) : Gx Tryz.prog 27 [] #[Value.agg #[vi 14, vi 3, vi 2, vi 6]] (ZjC ) (Zi8 ) (ZcY  N) := by
 unfold ZcY
 exact Zi Zj (r := (.r0 : Zcn)) (fu := 4000) (orc := (Zl [] [] [] [] [])) (live := []) (u := vq) (bl := []) (ob := []) (by kernel_rfl) Zf rfl (by decide) (by rfl) rr trivial (Zh _ rfl)

theorem Znq  (N : Nat) (r : Zcn) (h : ZcY  N = some r) : LSpec Tryz.prog 27 #[Value.agg #[vi 14, vi 3, vi 2, vi 6]] [] (ZjC  r) (Zi8  r) :=
 (ZoH  N) r h

noncomputable def Za0  (n : Nat) : ZB := .call [] (vq) [] 0
def Zae (A : Array Value)  (n : Nat) : Prop := Zk Tryz.prog 27 A [] (vq) [] n 0

theorem Za1 (A : Array Value)  (N : Nat) (h : ZcY  N = some (.r0)) (n : Nat) (hA : A = #[Value.agg #[vi 14, vi 3, vi 2, vi 6]]) (hnd : ([] : List Nat).Nodup) (hlt : ∀ k ∈ ([] : List Nat), k < n) : Zae A   n :=
 Zn hA (LSpec.callL (show LSpec Tryz.prog 27 #[Value.agg #[vi 14, vi 3, vi 2, vi 6]] [] (vq) [] from Znq  N _ h) [] n [] rfl hnd hlt (show 0 ≤ 0 from by decide) (show ∀ j ∈ ([] : List Nat), j < 0 from by decide) (by rfl) trivial (by rfl) trivial trivial rfl rfl rfl rfl rfl)

noncomputable def ZjD  : Zco → Value
 | .r0 => vq
noncomputable def Zi9  : Zco → List (Option AObj)
 | .r0 => []

theorem ZoI  (N : Nat) : Gx Tryz.prog 27 [] #[Value.agg #[vi 8, vi 19, vq, vq]] (ZjD ) (Zi9 ) (ZcZ  N) := by
 unfold ZcZ
 exact Zi Zj (r := (.r0 : Zco)) (fu := 4000) (orc := (Zl [] [] [] [] [])) (live := []) (u := vq) (bl := []) (ob := []) (by kernel_rfl) Zf rfl (by decide) (by rfl) rr trivial (Zh _ rfl)

theorem Znr  (N : Nat) (r : Zco) (h : ZcZ  N = some r) : LSpec Tryz.prog 27 #[Value.agg #[vi 8, vi 19, vq, vq]] [] (ZjD  r) (Zi9  r) :=
 (ZoI  N) r h

noncomputable def Za2  (n : Nat) : ZB := .call [] (vq) [] 0
def Zaf (A : Array Value)  (n : Nat) : Prop := Zk Tryz.prog 27 A [] (vq) [] n 0

theorem Za3 (A : Array Value)  (N : Nat) (h : ZcZ  N = some (.r0)) (n : Nat) (hA : A = #[Value.agg #[vi 8, vi 19, vq, vq]]) (hnd : ([] : List Nat).Nodup) (hlt : ∀ k ∈ ([] : List Nat), k < n) : Zaf A   n :=
 Zn hA (LSpec.callL (show LSpec Tryz.prog 27 #[Value.agg #[vi 8, vi 19, vq, vq]] [] (vq) [] from Znr  N _ h) [] n [] rfl hnd hlt (show 0 ≤ 0 from by decide) (show ∀ j ∈ ([] : List Nat), j < 0 from by decide) (by rfl) trivial (by rfl) trivial trivial rfl rfl rfl rfl rfl)

noncomputable def ZjE  : Zcp → Value
 | .r0 => vq
noncomputable def ZiA  : Zcp → List (Option AObj)
 | .r0 => []

theorem ZoJ  (N : Nat) : Gx Tryz.prog 27 [] #[Value.agg #[vi 13, vi 3, vi 3, vq]] (ZjE ) (ZiA ) (ZbA  N) := by
 unfold ZbA
 exact Zi Zj (r := (.r0 : Zcp)) (fu := 4000) (orc := (Zl [] [] [] [] [])) (live := []) (u := vq) (bl := []) (ob := []) (by kernel_rfl) Zf rfl (by decide) (by rfl) rr trivial (Zh _ rfl)

theorem Zns  (N : Nat) (r : Zcp) (h : ZbA  N = some r) : LSpec Tryz.prog 27 #[Value.agg #[vi 13, vi 3, vi 3, vq]] [] (ZjE  r) (ZiA  r) :=
 (ZoJ  N) r h

noncomputable def ZP  (n : Nat) : ZB := .call [] (vq) [] 0
def ZK (A : Array Value)  (n : Nat) : Prop := Zk Tryz.prog 27 A [] (vq) [] n 0

theorem ZQ (A : Array Value)  (N : Nat) (h : ZbA  N = some (.r0)) (n : Nat) (hA : A = #[Value.agg #[vi 13, vi 3, vi 3, vq]]) (hnd : ([] : List Nat).Nodup) (hlt : ∀ k ∈ ([] : List Nat), k < n) : ZK A   n :=
 Zn hA (LSpec.callL (show LSpec Tryz.prog 27 #[Value.agg #[vi 13, vi 3, vi 3, vq]] [] (vq) [] from Zns  N _ h) [] n [] rfl hnd hlt (show 0 ≤ 0 from by decide) (show ∀ j ∈ ([] : List Nat), j < 0 from by decide) (by rfl) trivial (by rfl) trivial trivial rfl rfl rfl rfl rfl)

noncomputable def ZjF  : Zcq → Value
 | .r0 => vq
noncomputable def ZiB  : Zcq → List (Option AObj)
 | .r0 => []

theorem ZoK  (N : Nat) : Gx Tryz.prog 27 [] #[Value.agg #[vi 8, vi 5, vq, vq]] (ZjF ) (ZiB ) (Zda  N) := by
 unfold Zda
 exact Zi Zj (r := (.r0 : Zcq)) (fu := 4000) (orc := (Zl [] [] [] [] [])) (live := []) (u := vq) (bl := []) (ob := []) (by kernel_rfl) Zf rfl (by decide) (by rfl) rr trivial (Zh _ rfl)

theorem Znt  (N : Nat) (r : Zcq) (h : Zda  N = some r) : LSpec Tryz.prog 27 #[Value.agg #[vi 8, vi 5, vq, vq]] [] (ZjF  r) (ZiB  r) :=
 (ZoK  N) r h

noncomputable def Za4  (n : Nat) : ZB := .call [] (vq) [] 0
def Zag (A : Array Value)  (n : Nat) : Prop := Zk Tryz.prog 27 A [] (vq) [] n 0

theorem Za5 (A : Array Value)  (N : Nat) (h : Zda  N = some (.r0)) (n : Nat) (hA : A = #[Value.agg #[vi 8, vi 5, vq, vq]]) (hnd : ([] : List Nat).Nodup) (hlt : ∀ k ∈ ([] : List Nat), k < n) : Zag A   n :=
 Zn hA (LSpec.callL (show LSpec Tryz.prog 27 #[Value.agg #[vi 8, vi 5, vq, vq]] [] (vq) [] from Znt  N _ h) [] n [] rfl hnd hlt (show 0 ≤ 0 from by decide) (show ∀ j ∈ ([] : List Nat), j < 0 from by decide) (by rfl) trivial (by rfl) trivial trivial rfl rfl rfl rfl rfl)

noncomputable def ZjG  : Zcr → Value
 | .r0 => vq
noncomputable def ZiC  : Zcr → List (Option AObj)
 | .r0 => []

theorem ZoL  (N : Nat) : Gx Tryz.prog 27 [] #[Value.agg #[vi 11, vi 2, vi 3, vi 1]] (ZjG ) (ZiC ) (Zdb  N) := by
 unfold Zdb
 exact Zi Zj (r := (.r0 : Zcr)) (fu := 4000) (orc := (Zl [] [] [] [] [])) (live := []) (u := vq) (bl := []) (ob := []) (by kernel_rfl) Zf rfl (by decide) (by rfl) rr trivial (Zh _ rfl)

theorem Znu  (N : Nat) (r : Zcr) (h : Zdb  N = some r) : LSpec Tryz.prog 27 #[Value.agg #[vi 11, vi 2, vi 3, vi 1]] [] (ZjG  r) (ZiC  r) :=
 (ZoL  N) r h

noncomputable def Za6  (n : Nat) : ZB := .call [] (vq) [] 0
def Zah (A : Array Value)  (n : Nat) : Prop := Zk Tryz.prog 27 A [] (vq) [] n 0

theorem Za7 (A : Array Value)  (N : Nat) (h : Zdb  N = some (.r0)) (n : Nat) (hA : A = #[Value.agg #[vi 11, vi 2, vi 3, vi 1]]) (hnd : ([] : List Nat).Nodup) (hlt : ∀ k ∈ ([] : List Nat), k < n) : Zah A   n :=
 Zn hA (LSpec.callL (show LSpec Tryz.prog 27 #[Value.agg #[vi 11, vi 2, vi 3, vi 1]] [] (vq) [] from Znu  N _ h) [] n [] rfl hnd hlt (show 0 ≤ 0 from by decide) (show ∀ j ∈ ([] : List Nat), j < 0 from by decide) (by rfl) trivial (by rfl) trivial trivial rfl rfl rfl rfl rfl)

noncomputable def ZjH  : Zcs → Value
 | .r0 => vq
noncomputable def ZiD  : Zcs → List (Option AObj)
 | .r0 => []

theorem ZoM  (N : Nat) : Gx Tryz.prog 27 [] #[Value.agg #[vi 14, vi 2, vi 1, vi 1]] (ZjH ) (ZiD ) (Zdc  N) := by
 unfold Zdc
 exact Zi Zj (r := (.r0 : Zcs)) (fu := 4000) (orc := (Zl [] [] [] [] [])) (live := []) (u := vq) (bl := []) (ob := []) (by kernel_rfl) Zf rfl (by decide) (by rfl) rr trivial (Zh _ rfl)

theorem Znv  (N : Nat) (r : Zcs) (h : Zdc  N = some r) : LSpec Tryz.prog 27 #[Value.agg #[vi 14, vi 2, vi 1, vi 1]] [] (ZjH  r) (ZiD  r) :=
 (ZoM  N) r h

noncomputable def Za8  (n : Nat) : ZB := .call [] (vq) [] 0
def Zai (A : Array Value)  (n : Nat) : Prop := Zk Tryz.prog 27 A [] (vq) [] n 0

theorem Za9 (A : Array Value)  (N : Nat) (h : Zdc  N = some (.r0)) (n : Nat) (hA : A = #[Value.agg #[vi 14, vi 2, vi 1, vi 1]]) (hnd : ([] : List Nat).Nodup) (hlt : ∀ k ∈ ([] : List Nat), k < n) : Zai A   n :=
 Zn hA (LSpec.callL (show LSpec Tryz.prog 27 #[Value.agg #[vi 14, vi 2, vi 1, vi 1]] [] (vq) [] from Znv  N _ h) [] n [] rfl hnd hlt (show 0 ≤ 0 from by decide) (show ∀ j ∈ ([] : List Nat), j < 0 from by decide) (by rfl) trivial (by rfl) trivial trivial rfl rfl rfl rfl rfl)

noncomputable def ZjI  : Zct → Value
 | .r0 => vq
noncomputable def ZiE  : Zct → List (Option AObj)
 | .r0 => []

theorem ZoN  (N : Nat) : Gx Tryz.prog 27 [] #[Value.agg #[vi 14, vi 2, vi 2, vi 6]] (ZjI ) (ZiE ) (Zdd  N) := by
 unfold Zdd
 exact Zi Zj (r := (.r0 : Zct)) (fu := 4000) (orc := (Zl [] [] [] [] [])) (live := []) (u := vq) (bl := []) (ob := []) (by kernel_rfl) Zf rfl (by decide) (by rfl) rr trivial (Zh _ rfl)

theorem Znw  (N : Nat) (r : Zct) (h : Zdd  N = some r) : LSpec Tryz.prog 27 #[Value.agg #[vi 14, vi 2, vi 2, vi 6]] [] (ZjI  r) (ZiE  r) :=
 (ZoN  N) r h

noncomputable def ZaA  (n : Nat) : ZB := .call [] (vq) [] 0
def Zaj (A : Array Value)  (n : Nat) : Prop := Zk Tryz.prog 27 A [] (vq) [] n 0

theorem ZaB (A : Array Value)  (N : Nat) (h : Zdd  N = some (.r0)) (n : Nat) (hA : A = #[Value.agg #[vi 14, vi 2, vi 2, vi 6]]) (hnd : ([] : List Nat).Nodup) (hlt : ∀ k ∈ ([] : List Nat), k < n) : Zaj A   n :=
 Zn hA (LSpec.callL (show LSpec Tryz.prog 27 #[Value.agg #[vi 14, vi 2, vi 2, vi 6]] [] (vq) [] from Znw  N _ h) [] n [] rfl hnd hlt (show 0 ≤ 0 from by decide) (show ∀ j ∈ ([] : List Nat), j < 0 from by decide) (by rfl) trivial (by rfl) trivial trivial rfl rfl rfl rfl rfl)

noncomputable def ZjJ  : Zcu → Value
 | .r0 => vq
noncomputable def ZiF  : Zcu → List (Option AObj)
 | .r0 => []

theorem ZoO  (N : Nat) : Gx Tryz.prog 27 [] #[Value.agg #[vi 14, vi 2, vq, vi 3]] (ZjJ ) (ZiF ) (Zde  N) := by
 unfold Zde
 exact Zi Zj (r := (.r0 : Zcu)) (fu := 4000) (orc := (Zl [] [] [] [] [])) (live := []) (u := vq) (bl := []) (ob := []) (by kernel_rfl) Zf rfl (by decide) (by rfl) rr trivial (Zh _ rfl)

theorem Znx  (N : Nat) (r : Zcu) (h : Zde  N = some r) : LSpec Tryz.prog 27 #[Value.agg #[vi 14, vi 2, vq, vi 3]] [] (ZjJ  r) (ZiF  r) :=
 (ZoO  N) r h

noncomputable def ZaZ  (n : Nat) : ZB := .call [] (vq) [] 0
def ZaL (A : Array Value)  (n : Nat) : Prop := Zk Tryz.prog 27 A [] (vq) [] n 0

theorem Zba (A : Array Value)  (N : Nat) (h : Zde  N = some (.r0)) (n : Nat) (hA : A = #[Value.agg #[vi 14, vi 2, vq, vi 3]]) (hnd : ([] : List Nat).Nodup) (hlt : ∀ k ∈ ([] : List Nat), k < n) : ZaL A   n :=
 Zn hA (LSpec.callL (show LSpec Tryz.prog 27 #[Value.agg #[vi 14, vi 2, vq, vi 3]] [] (vq) [] from Znx  N _ h) [] n [] rfl hnd hlt (show 0 ≤ 0 from by decide) (show ∀ j ∈ ([] : List Nat), j < 0 from by decide) (by rfl) trivial (by rfl) trivial trivial rfl rfl rfl rfl rfl)

noncomputable def ZjK (a0 : Int) : ZaT → Value
 | .r0 => vq
 | .r1 => vi 100
noncomputable def ZiG (a0 : Int) : ZaT → List (Option AObj)
 | .r0 => []
 | .r1 => []

theorem ZoP (a0 : Int) (N : Nat) : Gx Tryz.prog 27 [] #[Value.agg #[vi 14, vq, vi a0, vi 2]] (ZjK a0) (ZiG a0) (Zbf a0 N) := by
 unfold Zbf
 refine ZR (fun g0 => ?_) (fun g0 => ?_)
 ·
  refine ZR (fun g1 => ?_) (fun g1 => ?_)
  ·
   exact Zi Zj (r := (.r0 : ZaT)) (fu := 4000) (orc := (Zl [(11, true), (12, true)] [] [] [] [])) (live := []) (u := vq) (bl := []) (ob := [((decide (a0 ≤ (15 : Int))), true), ((decide ((0 : Int) ≤ a0)), true)]) (by kernel_rfl) (oY <| oY Zf) rfl (by decide) (by rfl) rr trivial (Zh _ rfl)
  ·
   exact Zi Zj (r := (.r1 : ZaT)) (fu := 4000) (orc := (Zl [(11, true), (12, false)] [] [] [] [])) (live := []) (u := vi 100) (bl := []) (ob := [((decide (a0 ≤ (15 : Int))), false), ((decide ((0 : Int) ≤ a0)), true)]) (by kernel_rfl) (oN <| oY Zf) rfl (by decide) (by rfl) rr trivial (Zh _ rfl)
 ·
  exact Zi Zj (r := (.r1 : ZaT)) (fu := 4000) (orc := (Zl [(11, false)] [] [] [] [])) (live := []) (u := vi 100) (bl := []) (ob := [((decide ((0 : Int) ≤ a0)), false)]) (by kernel_rfl) (oN Zf) rfl (by decide) (by rfl) rr trivial (Zh _ rfl)

theorem Zht (a0 : Int) (N : Nat) (r : ZaT) (h : Zbf a0 N = some r) : LSpec Tryz.prog 27 #[Value.agg #[vi 14, vq, vi a0, vi 2]] [] (ZjK a0 r) (ZiG a0 r) :=
 (ZoP a0 N) r h

noncomputable def Zak (a0 : Int) (n : Nat) : ZB := .call [] (vq) [] 0
def ZU (A : Array Value) (a0 : Int) (n : Nat) : Prop := Zk Tryz.prog 27 A [] (vq) [] n 0

theorem Zal (A : Array Value) (a0 : Int) (N : Nat) (h : Zbf a0 N = some (.r0)) (n : Nat) (hA : A = #[Value.agg #[vi 14, vq, vi a0, vi 2]]) (hnd : ([] : List Nat).Nodup) (hlt : ∀ k ∈ ([] : List Nat), k < n) : ZU A a0  n :=
 Zn hA (LSpec.callL (show LSpec Tryz.prog 27 #[Value.agg #[vi 14, vq, vi a0, vi 2]] [] (vq) [] from Zht a0 N _ h) [] n [] rfl hnd hlt (show 0 ≤ 0 from by decide) (show ∀ j ∈ ([] : List Nat), j < 0 from by decide) (by rfl) trivial (by rfl) trivial trivial rfl rfl rfl rfl rfl)

noncomputable def ZeN (a0 : Int) (n : Nat) : ZB := .call [] (vi 100) [] 0
def Zdy (A : Array Value) (a0 : Int) (n : Nat) : Prop := Zk Tryz.prog 27 A [] (vi 100) [] n 0

theorem ZeO (A : Array Value) (a0 : Int) (N : Nat) (h : Zbf a0 N = some (.r1)) (n : Nat) (hA : A = #[Value.agg #[vi 14, vq, vi a0, vi 2]]) (hnd : ([] : List Nat).Nodup) (hlt : ∀ k ∈ ([] : List Nat), k < n) : Zdy A a0  n :=
 Zn hA (LSpec.callL (show LSpec Tryz.prog 27 #[Value.agg #[vi 14, vq, vi a0, vi 2]] [] (vi 100) [] from Zht a0 N _ h) [] n [] rfl hnd hlt (show 0 ≤ 0 from by decide) (show ∀ j ∈ ([] : List Nat), j < 0 from by decide) (by rfl) trivial (by rfl) trivial trivial rfl rfl rfl rfl rfl)

noncomputable def ZjL  : Zcv → Value
 | .r0 => vq
noncomputable def ZiH  : Zcv → List (Option AObj)
 | .r0 => []

theorem ZoQ  (N : Nat) : Gx Tryz.prog 27 [] #[Value.agg #[vi 17, vq, vq, vq]] (ZjL ) (ZiH ) (Zbg  N) := by
 unfold Zbg
 exact Zi Zj (r := (.r0 : Zcv)) (fu := 4000) (orc := (Zl [] [] [] [] [])) (live := []) (u := vq) (bl := []) (ob := []) (by kernel_rfl) Zf rfl (by decide) (by rfl) rr trivial (Zh _ rfl)

theorem Zny  (N : Nat) (r : Zcv) (h : Zbg  N = some r) : LSpec Tryz.prog 27 #[Value.agg #[vi 17, vq, vq, vq]] [] (ZjL  r) (ZiH  r) :=
 (ZoQ  N) r h

noncomputable def ZL  (n : Nat) : ZB := .call [] (vq) [] 0
def ZI (A : Array Value)  (n : Nat) : Prop := Zk Tryz.prog 27 A [] (vq) [] n 0

theorem ZM (A : Array Value)  (N : Nat) (h : Zbg  N = some (.r0)) (n : Nat) (hA : A = #[Value.agg #[vi 17, vq, vq, vq]]) (hnd : ([] : List Nat).Nodup) (hlt : ∀ k ∈ ([] : List Nat), k < n) : ZI A   n :=
 Zn hA (LSpec.callL (show LSpec Tryz.prog 27 #[Value.agg #[vi 17, vq, vq, vq]] [] (vq) [] from Zny  N _ h) [] n [] rfl hnd hlt (show 0 ≤ 0 from by decide) (show ∀ j ∈ ([] : List Nat), j < 0 from by decide) (by rfl) trivial (by rfl) trivial trivial rfl rfl rfl rfl rfl)

noncomputable def ZqP (a0 a1 : Int) : ZC → Value
 | .r0 => Value.tuple #[vs 0 0 20 20, vq]
 | .r1 => Value.tuple #[vn, vq]
 | .r2 => Value.tuple #[vn, vi 240]
noncomputable def Zpq (a0 a1 : Int) : ZC → List (Option AObj)
 | .r0 => [some (.cells [vi 10, vq, vq, vq, vi 1, vi 1, vi a0, vq, vi 1, vi 6, vi a1, vq, vi 15, vq, vq, vq, vi 13, vi 3, vq, vi (a0 % (8 : Int)), vi 9, vi 3, vi 13, vq, vi 13, vi 4, vi 3, vi 1, vi 7, vi 5, vi 4, vi 1, vi 9, vi 5, vi 11, vq, vi 14, vi 3, vi 2, vi 6, vi 8, vi 19, vq, vq, vi 13, vi 3, vi 3, vq, vi 8, vi 5, vq, vq, vi 11, vi 2, vi 3, vi 1, vi 14, vi 2, vi 1, vi 1, vi 14, vi 2, vi 2, vi 6, vi 13, vi 3, vq, vi (a0 % (8 : Int)), vi 14, vi 2, vq, vi 3, vi 14, vq, vi (a0 % (8 : Int)), vi 2, vi 17, vq, vq, vq] 43)]
 | .r1 => []
 | .r2 => []

theorem Zt5 (a0 a1 : Int) (N : Nat) : Gx Tryz.prog 4 [] #[vi a0, vi a1] (ZqP a0 a1) (Zpq a0 a1) (ZcI a0 a1 N) := by
 unfold ZcI
 refine ZR (fun g0 => ?_) (fun g0 => ?_)
 ·
  refine ZR (fun g1 => ?_) (fun g1 => ?_)
  ·
   refine ZR (fun g2 => ?_) (fun g2 => ?_)
   ·
    refine ZR (fun g3 => ?_) (fun g3 => ?_)
    ·
     refine Ze (fun z4 c4 => ?_)
     cases z4 with
     | r0 =>
      refine Ze (fun z5 c5 => ?_)
      cases z5 with
      | r0 =>
       refine Ze (fun z6 c6 => ?_)
       cases z6 with
       | r0 =>
        refine Ze (fun z7 c7 => ?_)
        cases z7 with
        | r0 =>
         refine Ze (fun z8 c8 => ?_)
         cases z8 with
         | r0 =>
          refine Ze (fun z9 c9 => ?_)
          cases z9 with
          | r0 =>
           refine Ze (fun z10 c10 => ?_)
           cases z10 with
           | r0 =>
            refine Ze (fun z11 c11 => ?_)
            cases z11 with
            | r0 =>
             refine Ze (fun z12 c12 => ?_)
             cases z12 with
             | r0 =>
              refine Ze (fun z13 c13 => ?_)
              cases z13 with
              | r0 =>
               refine Ze (fun z14 c14 => ?_)
               cases z14 with
               | r0 =>
                refine Ze (fun z15 c15 => ?_)
                cases z15 with
                | r0 =>
                 refine Ze (fun z16 c16 => ?_)
                 cases z16 with
                 | r0 =>
                  refine Ze (fun z17 c17 => ?_)
                  cases z17 with
                  | r0 =>
                   refine Ze (fun z18 c18 => ?_)
                   cases z18 with
                   | r0 =>
                    refine Ze (fun z19 c19 => ?_)
                    cases z19 with
                    | r0 =>
                     refine Ze (fun z20 c20 => ?_)
                     cases z20 with
                     | r0 =>
                      refine Ze (fun z21 c21 => ?_)
                      cases z21 with
                      | r0 =>
                       refine Ze (fun z22 c22 => ?_)
                       cases z22 with
                       | r0 =>
                        refine Ze (fun z23 c23 => ?_)
                        cases z23 with
                        | r0 =>
                         refine Ze (fun z24 c24 => ?_)
                         cases z24 with
                         | r0 =>
                          refine Ze (fun z25 c25 => ?_)
                          cases z25 with
                          | r0 =>
                           refine Ze (fun z26 c26 => ?_)
                           cases z26 with
                           | r0 =>
                            refine Ze (fun z27 c27 => ?_)
                            cases z27 with
                            | r0 =>
                             refine Ze (fun z28 c28 => ?_)
                             cases z28 with
                             | r0 =>
                              refine Ze (fun z29 c29 => ?_)
                              cases z29 with
                              | r0 =>
                               refine Ze (fun z30 c30 => ?_)
                               cases z30 with
                               | r0 =>
                                refine Ze (fun z31 c31 => ?_)
                                cases z31 with
                                | r0 =>
                                 refine Ze (fun z32 c32 => ?_)
                                 cases z32 with
                                 | r0 =>
                                  refine Ze (fun z33 c33 => ?_)
                                  cases z33 with
                                  | r0 =>
                                   refine Ze (fun z34 c34 => ?_)
                                   cases z34 with
                                   | r0 =>
                                    refine Ze (fun z35 c35 => ?_)
                                    cases z35 with
                                    | r0 =>
                                     refine Ze (fun z36 c36 => ?_)
                                     cases z36 with
                                     | r0 =>
                                      refine Ze (fun z37 c37 => ?_)
                                      cases z37 with
                                      | r0 =>
                                       refine Ze (fun z38 c38 => ?_)
                                       cases z38 with
                                       | r0 =>
                                        refine Ze (fun z39 c39 => ?_)
                                        cases z39 with
                                        | r0 =>
                                         refine Ze (fun z40 c40 => ?_)
                                         cases z40 with
                                         | r0 =>
                                          refine Ze (fun z41 c41 => ?_)
                                          cases z41 with
                                          | r0 =>
                                           refine Ze (fun z42 c42 => ?_)
                                           cases z42 with
                                           | r0 =>
                                            refine Ze (fun z43 c43 => ?_)
                                            cases z43 with
                                            | r0 =>
                                             exact Zi Zj (r := (.r0 : ZC)) (fu := 4000) (orc := (Zl [(0, true), (1, true), (3, true), (4, true)] [(0, (a0 % (8 : Int)))] [] [] [(4, (Zr     3)), (8, (Zw (a0)    7)), (12, (Zac (a1)    11)), (16, (Z0     15)), (20, (Zu ((a0 % (8 : Int)))    19)), (24, (ZaH     23)), (28, (Z3     27)), (32, (Z9     31)), (36, (ZaJ     35)), (40, (Za0     39)), (44, (Za2     43)), (48, (ZP     47)), (52, (Za4     51)), (56, (Za6     55)), (60, (Za8     59)), (64, (ZaA     63)), (68, (Zu ((a0 % (8 : Int)))    67)), (72, (ZaZ     71)), (76, (Zak ((a0 % (8 : Int)))    75)), (80, (ZL     79)), (83, (Zr     84)), (87, (Zw (a0)    90)), (91, (Zac (a1)    96)), (95, (Z0     102)), (99, (Zu ((a0 % (8 : Int)))    108)), (103, (ZaH     114)), (108, (Z3     120)), (112, (Z9     126)), (116, (ZaJ     132)), (121, (Za0     138)), (125, (Za2     144)), (130, (ZP     150)), (134, (Za4     156)), (139, (Za6     162)), (143, (Za8     168)), (147, (ZaA     174)), (151, (Zu ((a0 % (8 : Int)))    180)), (155, (ZaZ     186)), (159, (Zak ((a0 % (8 : Int)))    192)), (163, (ZL     198))])) (live := [201]) (u := Value.tuple #[vs 201 0 20 20, vq]) (bl := [some (.cells [vi 10, vq, vq, vq, vi 1, vi 1, vi a0, vq, vi 1, vi 6, vi a1, vq, vi 15, vq, vq, vq, vi 13, vi 3, vq, vi (a0 % (8 : Int)), vi 9, vi 3, vi 13, vq, vi 13, vi 4, vi 3, vi 1, vi 7, vi 5, vi 4, vi 1, vi 9, vi 5, vi 11, vq, vi 14, vi 3, vi 2, vi 6, vi 8, vi 19, vq, vq, vi 13, vi 3, vi 3, vq, vi 8, vi 5, vq, vq, vi 11, vi 2, vi 3, vi 1, vi 14, vi 2, vi 1, vi 1, vi 14, vi 2, vi 2, vi 6, vi 13, vi 3, vq, vi (a0 % (8 : Int)), vi 14, vi 2, vq, vi 3, vi 14, vq, vi (a0 % (8 : Int)), vi 2, vi 17, vq, vq, vq] 43)]) (ob := [(dP (ZI #[Value.agg #[vi 17, vq, vq, vq]]     198), true), (dP (ZU #[Value.agg #[vi 14, vq, vi (a0 % (8 : Int)), vi 2]] ((a0 % (8 : Int)))    192), true), (dP (ZaL #[Value.agg #[vi 14, vi 2, vq, vi 3]]     186), true), (dP (Zq #[Value.agg #[vi 13, vi 3, vq, vi (a0 % (8 : Int))]] ((a0 % (8 : Int)))    180), true), (dP (Zaj #[Value.agg #[vi 14, vi 2, vi 2, vi 6]]     174), true), (dP (Zai #[Value.agg #[vi 14, vi 2, vi 1, vi 1]]     168), true), (dP (Zah #[Value.agg #[vi 11, vi 2, vi 3, vi 1]]     162), true), (dP (Zag #[Value.agg #[vi 8, vi 5, vq, vq]]     156), true), (dP (ZK #[Value.agg #[vi 13, vi 3, vi 3, vq]]     150), true), (dP (Zaf #[Value.agg #[vi 8, vi 19, vq, vq]]     144), true), (dP (Zae #[Value.agg #[vi 14, vi 3, vi 2, vi 6]]     138), true), (dP (Zax #[Value.agg #[vi 9, vi 5, vi 11, vq]]     132), true), (dP (Z7 #[Value.agg #[vi 7, vi 5, vi 4, vi 1]]     126), true), (dP (Z2 #[Value.agg #[vi 13, vi 4, vi 3, vi 1]]     120), true), (dP (Zaw #[Value.agg #[vi 9, vi 3, vi 13, vq]]     114), true), (dP (Zq #[Value.agg #[vi 13, vi 3, vq, vi (a0 % (8 : Int))]] ((a0 % (8 : Int)))    108), true), (dP (Zy #[Value.agg #[vi 15, vq, vq, vq]]     102), true), (dP (ZT #[Value.agg #[vi 1, vi 6, vi a1, vq]] (a1)    96), true), (dP (Zt #[Value.agg #[vi 1, vi 1, vi a0, vq]] (a0)    90), true), (dP (Zp #[Value.agg #[vi 10, vq, vq, vq]]     84), true), (dP (ZI #[Value.agg #[vi 17, vq, vq, vq]]     79), true), (dP (ZU #[Value.agg #[vi 14, vq, vi (a0 % (8 : Int)), vi 2]] ((a0 % (8 : Int)))    75), true), (dP (ZaL #[Value.agg #[vi 14, vi 2, vq, vi 3]]     71), true), (dP (Zq #[Value.agg #[vi 13, vi 3, vq, vi (a0 % (8 : Int))]] ((a0 % (8 : Int)))    67), true), (dP (Zaj #[Value.agg #[vi 14, vi 2, vi 2, vi 6]]     63), true), (dP (Zai #[Value.agg #[vi 14, vi 2, vi 1, vi 1]]     59), true), (dP (Zah #[Value.agg #[vi 11, vi 2, vi 3, vi 1]]     55), true), (dP (Zag #[Value.agg #[vi 8, vi 5, vq, vq]]     51), true), (dP (ZK #[Value.agg #[vi 13, vi 3, vi 3, vq]]     47), true), (dP (Zaf #[Value.agg #[vi 8, vi 19, vq, vq]]     43), true), (dP (Zae #[Value.agg #[vi 14, vi 3, vi 2, vi 6]]     39), true), (dP (Zax #[Value.agg #[vi 9, vi 5, vi 11, vq]]     35), true), (dP (Z7 #[Value.agg #[vi 7, vi 5, vi 4, vi 1]]     31), true), (dP (Z2 #[Value.agg #[vi 13, vi 4, vi 3, vi 1]]     27), true), (dP (Zaw #[Value.agg #[vi 9, vi 3, vi 13, vq]]     23), true), (dP (Zq #[Value.agg #[vi 13, vi 3, vq, vi (a0 % (8 : Int))]] ((a0 % (8 : Int)))    19), true), (dP (Zy #[Value.agg #[vi 15, vq, vq, vq]]     15), true), (dP (ZT #[Value.agg #[vi 1, vi 6, vi a1, vq]] (a1)    11), true), (dP (Zt #[Value.agg #[vi 1, vi 1, vi a0, vq]] (a0)    7), true), (dP (Zp #[Value.agg #[vi 10, vq, vq, vq]]     3), true), ((IntKind.i64.wrap (((BitVec.ofInt IntKind.i64.bits a0 &&& BitVec.ofInt IntKind.i64.bits (7 : Int)).toNat : Nat) : Int)) == (a0 % (8 : Int)), true), ((decide (a1 ≤ (1099511627776 : Int))), true), ((decide (a1 ≥ (-1099511627776 : Int))), true), ((decide (a0 ≤ (1099511627776 : Int))), true), ((decide (a0 ≥ (-1099511627776 : Int))), true)]) (by kernel_rfl) (Zb (Zc (ZM #[Value.agg #[vi 17, vq, vq, vq]]    N c43  198 rfl (by decide) (by decide))) <| Zb (Zc (Zal #[Value.agg #[vi 14, vq, vi (a0 % (8 : Int)), vi 2]] ((a0 % (8 : Int)))   N c42  192 rfl (by decide) (by decide))) <| Zb (Zc (Zba #[Value.agg #[vi 14, vi 2, vq, vi 3]]    N c41  186 rfl (by decide) (by decide))) <| Zb (Zc (Zv #[Value.agg #[vi 13, vi 3, vq, vi (a0 % (8 : Int))]] ((a0 % (8 : Int)))   N c40  180 rfl (by decide) (by decide))) <| Zb (Zc (ZaB #[Value.agg #[vi 14, vi 2, vi 2, vi 6]]    N c39  174 rfl (by decide) (by decide))) <| Zb (Zc (Za9 #[Value.agg #[vi 14, vi 2, vi 1, vi 1]]    N c38  168 rfl (by decide) (by decide))) <| Zb (Zc (Za7 #[Value.agg #[vi 11, vi 2, vi 3, vi 1]]    N c37  162 rfl (by decide) (by decide))) <| Zb (Zc (Za5 #[Value.agg #[vi 8, vi 5, vq, vq]]    N c36  156 rfl (by decide) (by decide))) <| Zb (Zc (ZQ #[Value.agg #[vi 13, vi 3, vi 3, vq]]    N c35  150 rfl (by decide) (by decide))) <| Zb (Zc (Za3 #[Value.agg #[vi 8, vi 19, vq, vq]]    N c34  144 rfl (by decide) (by decide))) <| Zb (Zc (Za1 #[Value.agg #[vi 14, vi 3, vi 2, vi 6]]    N c33  138 rfl (by decide) (by decide))) <| Zb (Zc (ZaK #[Value.agg #[vi 9, vi 5, vi 11, vq]]    N c32  132 rfl (by decide) (by decide))) <| Zb (Zc (ZA #[Value.agg #[vi 7, vi 5, vi 4, vi 1]]    N c31  126 rfl (by decide) (by decide))) <| Zb (Zc (Z4 #[Value.agg #[vi 13, vi 4, vi 3, vi 1]]    N c30  120 rfl (by decide) (by decide))) <| Zb (Zc (ZaI #[Value.agg #[vi 9, vi 3, vi 13, vq]]    N c29  114 rfl (by decide) (by decide))) <| Zb (Zc (Zv #[Value.agg #[vi 13, vi 3, vq, vi (a0 % (8 : Int))]] ((a0 % (8 : Int)))   N c28  108 rfl (by decide) (by decide))) <| Zb (Zc (Z1 #[Value.agg #[vi 15, vq, vq, vq]]    N c27  102 rfl (by decide) (by decide))) <| Zb (Zc (Zad #[Value.agg #[vi 1, vi 6, vi a1, vq]] (a1)   N c26  96 rfl (by decide) (by decide))) <| Zb (Zc (Zx #[Value.agg #[vi 1, vi 1, vi a0, vq]] (a0)   N c25  90 rfl (by decide) (by decide))) <| Zb (Zc (Zs #[Value.agg #[vi 10, vq, vq, vq]]    N c24  84 rfl (by decide) (by decide))) <| Zb (Zc (ZM #[Value.agg #[vi 17, vq, vq, vq]]    N c23  79 rfl (by decide) (by decide))) <| Zb (Zc (Zal #[Value.agg #[vi 14, vq, vi (a0 % (8 : Int)), vi 2]] ((a0 % (8 : Int)))   N c22  75 rfl (by decide) (by decide))) <| Zb (Zc (Zba #[Value.agg #[vi 14, vi 2, vq, vi 3]]    N c21  71 rfl (by decide) (by decide))) <| Zb (Zc (Zv #[Value.agg #[vi 13, vi 3, vq, vi (a0 % (8 : Int))]] ((a0 % (8 : Int)))   N c20  67 rfl (by decide) (by decide))) <| Zb (Zc (ZaB #[Value.agg #[vi 14, vi 2, vi 2, vi 6]]    N c19  63 rfl (by decide) (by decide))) <| Zb (Zc (Za9 #[Value.agg #[vi 14, vi 2, vi 1, vi 1]]    N c18  59 rfl (by decide) (by decide))) <| Zb (Zc (Za7 #[Value.agg #[vi 11, vi 2, vi 3, vi 1]]    N c17  55 rfl (by decide) (by decide))) <| Zb (Zc (Za5 #[Value.agg #[vi 8, vi 5, vq, vq]]    N c16  51 rfl (by decide) (by decide))) <| Zb (Zc (ZQ #[Value.agg #[vi 13, vi 3, vi 3, vq]]    N c15  47 rfl (by decide) (by decide))) <| Zb (Zc (Za3 #[Value.agg #[vi 8, vi 19, vq, vq]]    N c14  43 rfl (by decide) (by decide))) <| Zb (Zc (Za1 #[Value.agg #[vi 14, vi 3, vi 2, vi 6]]    N c13  39 rfl (by decide) (by decide))) <| Zb (Zc (ZaK #[Value.agg #[vi 9, vi 5, vi 11, vq]]    N c12  35 rfl (by decide) (by decide))) <| Zb (Zc (ZA #[Value.agg #[vi 7, vi 5, vi 4, vi 1]]    N c11  31 rfl (by decide) (by decide))) <| Zb (Zc (Z4 #[Value.agg #[vi 13, vi 4, vi 3, vi 1]]    N c10  27 rfl (by decide) (by decide))) <| Zb (Zc (ZaI #[Value.agg #[vi 9, vi 3, vi 13, vq]]    N c9  23 rfl (by decide) (by decide))) <| Zb (Zc (Zv #[Value.agg #[vi 13, vi 3, vq, vi (a0 % (8 : Int))]] ((a0 % (8 : Int)))   N c8  19 rfl (by decide) (by decide))) <| Zb (Zc (Z1 #[Value.agg #[vi 15, vq, vq, vq]]    N c7  15 rfl (by decide) (by decide))) <| Zb (Zc (Zad #[Value.agg #[vi 1, vi 6, vi a1, vq]] (a1)   N c6  11 rfl (by decide) (by decide))) <| Zb (Zc (Zx #[Value.agg #[vi 1, vi 1, vi a0, vq]] (a0)   N c5  7 rfl (by decide) (by decide))) <| Zb (Zc (Zs #[Value.agg #[vi 10, vq, vq, vq]]    N c4  3 rfl (by decide) (by decide))) <| Zb (beq_iff_eq.2 (ZS _)) <| oY <| oY <| oY <| oY Zf) rfl (by decide) (by rfl) rr ⟨⟨rfl, ⟨[], by rfl⟩, by rfl⟩, trivial⟩ (Zh _ rfl)
                                           | r1 =>
                                            exact Zi Zj (r := (.r1 : ZC)) (fu := 4000) (orc := (Zl [(0, true), (1, true), (3, true), (4, true)] [(0, (a0 % (8 : Int)))] [] [] [(4, (Zr     3)), (8, (Zw (a0)    7)), (12, (Zac (a1)    11)), (16, (Z0     15)), (20, (Zu ((a0 % (8 : Int)))    19)), (24, (ZaH     23)), (28, (Z3     27)), (32, (Z9     31)), (36, (ZaJ     35)), (40, (Za0     39)), (44, (Za2     43)), (48, (ZP     47)), (52, (Za4     51)), (56, (Za6     55)), (60, (Za8     59)), (64, (ZaA     63)), (68, (Zu ((a0 % (8 : Int)))    67)), (72, (ZaZ     71)), (76, (Zak ((a0 % (8 : Int)))    75)), (80, (ZL     79)), (83, (Zr     84)), (87, (Zw (a0)    90)), (91, (Zac (a1)    96)), (95, (Z0     102)), (99, (Zu ((a0 % (8 : Int)))    108)), (103, (ZaH     114)), (108, (Z3     120)), (112, (Z9     126)), (116, (ZaJ     132)), (121, (Za0     138)), (125, (Za2     144)), (130, (ZP     150)), (134, (Za4     156)), (139, (Za6     162)), (143, (Za8     168)), (147, (ZaA     174)), (151, (Zu ((a0 % (8 : Int)))    180)), (155, (ZaZ     186)), (159, (ZeN ((a0 % (8 : Int)))    192))])) (live := []) (u := Value.tuple #[vn, vq]) (bl := []) (ob := [(dP (Zdy #[Value.agg #[vi 14, vq, vi (a0 % (8 : Int)), vi 2]] ((a0 % (8 : Int)))    192), true), (dP (ZaL #[Value.agg #[vi 14, vi 2, vq, vi 3]]     186), true), (dP (Zq #[Value.agg #[vi 13, vi 3, vq, vi (a0 % (8 : Int))]] ((a0 % (8 : Int)))    180), true), (dP (Zaj #[Value.agg #[vi 14, vi 2, vi 2, vi 6]]     174), true), (dP (Zai #[Value.agg #[vi 14, vi 2, vi 1, vi 1]]     168), true), (dP (Zah #[Value.agg #[vi 11, vi 2, vi 3, vi 1]]     162), true), (dP (Zag #[Value.agg #[vi 8, vi 5, vq, vq]]     156), true), (dP (ZK #[Value.agg #[vi 13, vi 3, vi 3, vq]]     150), true), (dP (Zaf #[Value.agg #[vi 8, vi 19, vq, vq]]     144), true), (dP (Zae #[Value.agg #[vi 14, vi 3, vi 2, vi 6]]     138), true), (dP (Zax #[Value.agg #[vi 9, vi 5, vi 11, vq]]     132), true), (dP (Z7 #[Value.agg #[vi 7, vi 5, vi 4, vi 1]]     126), true), (dP (Z2 #[Value.agg #[vi 13, vi 4, vi 3, vi 1]]     120), true), (dP (Zaw #[Value.agg #[vi 9, vi 3, vi 13, vq]]     114), true), (dP (Zq #[Value.agg #[vi 13, vi 3, vq, vi (a0 % (8 : Int))]] ((a0 % (8 : Int)))    108), true), (dP (Zy #[Value.agg #[vi 15, vq, vq, vq]]     102), true), (dP (ZT #[Value.agg #[vi 1, vi 6, vi a1, vq]] (a1)    96), true), (dP (Zt #[Value.agg #[vi 1, vi 1, vi a0, vq]] (a0)    90), true), (dP (Zp #[Value.agg #[vi 10, vq, vq, vq]]     84), true), (dP (ZI #[Value.agg #[vi 17, vq, vq, vq]]     79), true), (dP (ZU #[Value.agg #[vi 14, vq, vi (a0 % (8 : Int)), vi 2]] ((a0 % (8 : Int)))    75), true), (dP (ZaL #[Value.agg #[vi 14, vi 2, vq, vi 3]]     71), true), (dP (Zq #[Value.agg #[vi 13, vi 3, vq, vi (a0 % (8 : Int))]] ((a0 % (8 : Int)))    67), true), (dP (Zaj #[Value.agg #[vi 14, vi 2, vi 2, vi 6]]     63), true), (dP (Zai #[Value.agg #[vi 14, vi 2, vi 1, vi 1]]     59), true), (dP (Zah #[Value.agg #[vi 11, vi 2, vi 3, vi 1]]     55), true), (dP (Zag #[Value.agg #[vi 8, vi 5, vq, vq]]     51), true), (dP (ZK #[Value.agg #[vi 13, vi 3, vi 3, vq]]     47), true), (dP (Zaf #[Value.agg #[vi 8, vi 19, vq, vq]]     43), true), (dP (Zae #[Value.agg #[vi 14, vi 3, vi 2, vi 6]]     39), true), (dP (Zax #[Value.agg #[vi 9, vi 5, vi 11, vq]]     35), true), (dP (Z7 #[Value.agg #[vi 7, vi 5, vi 4, vi 1]]     31), true), (dP (Z2 #[Value.agg #[vi 13, vi 4, vi 3, vi 1]]     27), true), (dP (Zaw #[Value.agg #[vi 9, vi 3, vi 13, vq]]     23), true), (dP (Zq #[Value.agg #[vi 13, vi 3, vq, vi (a0 % (8 : Int))]] ((a0 % (8 : Int)))    19), true), (dP (Zy #[Value.agg #[vi 15, vq, vq, vq]]     15), true), (dP (ZT #[Value.agg #[vi 1, vi 6, vi a1, vq]] (a1)    11), true), (dP (Zt #[Value.agg #[vi 1, vi 1, vi a0, vq]] (a0)    7), true), (dP (Zp #[Value.agg #[vi 10, vq, vq, vq]]     3), true), ((IntKind.i64.wrap (((BitVec.ofInt IntKind.i64.bits a0 &&& BitVec.ofInt IntKind.i64.bits (7 : Int)).toNat : Nat) : Int)) == (a0 % (8 : Int)), true), ((decide (a1 ≤ (1099511627776 : Int))), true), ((decide (a1 ≥ (-1099511627776 : Int))), true), ((decide (a0 ≤ (1099511627776 : Int))), true), ((decide (a0 ≥ (-1099511627776 : Int))), true)]) (by kernel_rfl) (Zb (Zc (ZeO #[Value.agg #[vi 14, vq, vi (a0 % (8 : Int)), vi 2]] ((a0 % (8 : Int)))   N c42  192 rfl (by decide) (by decide))) <| Zb (Zc (Zba #[Value.agg #[vi 14, vi 2, vq, vi 3]]    N c41  186 rfl (by decide) (by decide))) <| Zb (Zc (Zv #[Value.agg #[vi 13, vi 3, vq, vi (a0 % (8 : Int))]] ((a0 % (8 : Int)))   N c40  180 rfl (by decide) (by decide))) <| Zb (Zc (ZaB #[Value.agg #[vi 14, vi 2, vi 2, vi 6]]    N c39  174 rfl (by decide) (by decide))) <| Zb (Zc (Za9 #[Value.agg #[vi 14, vi 2, vi 1, vi 1]]    N c38  168 rfl (by decide) (by decide))) <| Zb (Zc (Za7 #[Value.agg #[vi 11, vi 2, vi 3, vi 1]]    N c37  162 rfl (by decide) (by decide))) <| Zb (Zc (Za5 #[Value.agg #[vi 8, vi 5, vq, vq]]    N c36  156 rfl (by decide) (by decide))) <| Zb (Zc (ZQ #[Value.agg #[vi 13, vi 3, vi 3, vq]]    N c35  150 rfl (by decide) (by decide))) <| Zb (Zc (Za3 #[Value.agg #[vi 8, vi 19, vq, vq]]    N c34  144 rfl (by decide) (by decide))) <| Zb (Zc (Za1 #[Value.agg #[vi 14, vi 3, vi 2, vi 6]]    N c33  138 rfl (by decide) (by decide))) <| Zb (Zc (ZaK #[Value.agg #[vi 9, vi 5, vi 11, vq]]    N c32  132 rfl (by decide) (by decide))) <| Zb (Zc (ZA #[Value.agg #[vi 7, vi 5, vi 4, vi 1]]    N c31  126 rfl (by decide) (by decide))) <| Zb (Zc (Z4 #[Value.agg #[vi 13, vi 4, vi 3, vi 1]]    N c30  120 rfl (by decide) (by decide))) <| Zb (Zc (ZaI #[Value.agg #[vi 9, vi 3, vi 13, vq]]    N c29  114 rfl (by decide) (by decide))) <| Zb (Zc (Zv #[Value.agg #[vi 13, vi 3, vq, vi (a0 % (8 : Int))]] ((a0 % (8 : Int)))   N c28  108 rfl (by decide) (by decide))) <| Zb (Zc (Z1 #[Value.agg #[vi 15, vq, vq, vq]]    N c27  102 rfl (by decide) (by decide))) <| Zb (Zc (Zad #[Value.agg #[vi 1, vi 6, vi a1, vq]] (a1)   N c26  96 rfl (by decide) (by decide))) <| Zb (Zc (Zx #[Value.agg #[vi 1, vi 1, vi a0, vq]] (a0)   N c25  90 rfl (by decide) (by decide))) <| Zb (Zc (Zs #[Value.agg #[vi 10, vq, vq, vq]]    N c24  84 rfl (by decide) (by decide))) <| Zb (Zc (ZM #[Value.agg #[vi 17, vq, vq, vq]]    N c23  79 rfl (by decide) (by decide))) <| Zb (Zc (Zal #[Value.agg #[vi 14, vq, vi (a0 % (8 : Int)), vi 2]] ((a0 % (8 : Int)))   N c22  75 rfl (by decide) (by decide))) <| Zb (Zc (Zba #[Value.agg #[vi 14, vi 2, vq, vi 3]]    N c21  71 rfl (by decide) (by decide))) <| Zb (Zc (Zv #[Value.agg #[vi 13, vi 3, vq, vi (a0 % (8 : Int))]] ((a0 % (8 : Int)))   N c20  67 rfl (by decide) (by decide))) <| Zb (Zc (ZaB #[Value.agg #[vi 14, vi 2, vi 2, vi 6]]    N c19  63 rfl (by decide) (by decide))) <| Zb (Zc (Za9 #[Value.agg #[vi 14, vi 2, vi 1, vi 1]]    N c18  59 rfl (by decide) (by decide))) <| Zb (Zc (Za7 #[Value.agg #[vi 11, vi 2, vi 3, vi 1]]    N c17  55 rfl (by decide) (by decide))) <| Zb (Zc (Za5 #[Value.agg #[vi 8, vi 5, vq, vq]]    N c16  51 rfl (by decide) (by decide))) <| Zb (Zc (ZQ #[Value.agg #[vi 13, vi 3, vi 3, vq]]    N c15  47 rfl (by decide) (by decide))) <| Zb (Zc (Za3 #[Value.agg #[vi 8, vi 19, vq, vq]]    N c14  43 rfl (by decide) (by decide))) <| Zb (Zc (Za1 #[Value.agg #[vi 14, vi 3, vi 2, vi 6]]    N c13  39 rfl (by decide) (by decide))) <| Zb (Zc (ZaK #[Value.agg #[vi 9, vi 5, vi 11, vq]]    N c12  35 rfl (by decide) (by decide))) <| Zb (Zc (ZA #[Value.agg #[vi 7, vi 5, vi 4, vi 1]]    N c11  31 rfl (by decide) (by decide))) <| Zb (Zc (Z4 #[Value.agg #[vi 13, vi 4, vi 3, vi 1]]    N c10  27 rfl (by decide) (by decide))) <| Zb (Zc (ZaI #[Value.agg #[vi 9, vi 3, vi 13, vq]]    N c9  23 rfl (by decide) (by decide))) <| Zb (Zc (Zv #[Value.agg #[vi 13, vi 3, vq, vi (a0 % (8 : Int))]] ((a0 % (8 : Int)))   N c8  19 rfl (by decide) (by decide))) <| Zb (Zc (Z1 #[Value.agg #[vi 15, vq, vq, vq]]    N c7  15 rfl (by decide) (by decide))) <| Zb (Zc (Zad #[Value.agg #[vi 1, vi 6, vi a1, vq]] (a1)   N c6  11 rfl (by decide) (by decide))) <| Zb (Zc (Zx #[Value.agg #[vi 1, vi 1, vi a0, vq]] (a0)   N c5  7 rfl (by decide) (by decide))) <| Zb (Zc (Zs #[Value.agg #[vi 10, vq, vq, vq]]    N c4  3 rfl (by decide) (by decide))) <| Zb (beq_iff_eq.2 (ZS _)) <| oY <| oY <| oY <| oY Zf) rfl (by decide) (by rfl) rr trivial (Zh _ rfl)
                                         | r1 =>
                                          exact Zi Zj (r := (.r1 : ZC)) (fu := 4000) (orc := (Zl [(0, true), (1, true), (3, true), (4, true)] [(0, (a0 % (8 : Int)))] [] [] [(4, (Zr     3)), (8, (Zw (a0)    7)), (12, (Zac (a1)    11)), (16, (Z0     15)), (20, (Zu ((a0 % (8 : Int)))    19)), (24, (ZaH     23)), (28, (Z3     27)), (32, (Z9     31)), (36, (ZaJ     35)), (40, (Za0     39)), (44, (Za2     43)), (48, (ZP     47)), (52, (Za4     51)), (56, (Za6     55)), (60, (Za8     59)), (64, (ZaA     63)), (68, (Zu ((a0 % (8 : Int)))    67)), (72, (ZaZ     71)), (76, (Zak ((a0 % (8 : Int)))    75)), (80, (ZL     79)), (83, (Zr     84)), (87, (Zw (a0)    90)), (91, (Zac (a1)    96)), (95, (Z0     102)), (99, (Zu ((a0 % (8 : Int)))    108)), (103, (ZaH     114)), (108, (Z3     120)), (112, (Z9     126)), (116, (ZaJ     132)), (121, (Za0     138)), (125, (Za2     144)), (130, (ZP     150)), (134, (Za4     156)), (139, (Za6     162)), (143, (Za8     168)), (147, (ZaA     174)), (151, (Zb2 ((a0 % (8 : Int)))    180))])) (live := []) (u := Value.tuple #[vn, vq]) (bl := []) (ob := [(dP (Zbp #[Value.agg #[vi 13, vi 3, vq, vi (a0 % (8 : Int))]] ((a0 % (8 : Int)))    180), true), (dP (Zaj #[Value.agg #[vi 14, vi 2, vi 2, vi 6]]     174), true), (dP (Zai #[Value.agg #[vi 14, vi 2, vi 1, vi 1]]     168), true), (dP (Zah #[Value.agg #[vi 11, vi 2, vi 3, vi 1]]     162), true), (dP (Zag #[Value.agg #[vi 8, vi 5, vq, vq]]     156), true), (dP (ZK #[Value.agg #[vi 13, vi 3, vi 3, vq]]     150), true), (dP (Zaf #[Value.agg #[vi 8, vi 19, vq, vq]]     144), true), (dP (Zae #[Value.agg #[vi 14, vi 3, vi 2, vi 6]]     138), true), (dP (Zax #[Value.agg #[vi 9, vi 5, vi 11, vq]]     132), true), (dP (Z7 #[Value.agg #[vi 7, vi 5, vi 4, vi 1]]     126), true), (dP (Z2 #[Value.agg #[vi 13, vi 4, vi 3, vi 1]]     120), true), (dP (Zaw #[Value.agg #[vi 9, vi 3, vi 13, vq]]     114), true), (dP (Zq #[Value.agg #[vi 13, vi 3, vq, vi (a0 % (8 : Int))]] ((a0 % (8 : Int)))    108), true), (dP (Zy #[Value.agg #[vi 15, vq, vq, vq]]     102), true), (dP (ZT #[Value.agg #[vi 1, vi 6, vi a1, vq]] (a1)    96), true), (dP (Zt #[Value.agg #[vi 1, vi 1, vi a0, vq]] (a0)    90), true), (dP (Zp #[Value.agg #[vi 10, vq, vq, vq]]     84), true), (dP (ZI #[Value.agg #[vi 17, vq, vq, vq]]     79), true), (dP (ZU #[Value.agg #[vi 14, vq, vi (a0 % (8 : Int)), vi 2]] ((a0 % (8 : Int)))    75), true), (dP (ZaL #[Value.agg #[vi 14, vi 2, vq, vi 3]]     71), true), (dP (Zq #[Value.agg #[vi 13, vi 3, vq, vi (a0 % (8 : Int))]] ((a0 % (8 : Int)))    67), true), (dP (Zaj #[Value.agg #[vi 14, vi 2, vi 2, vi 6]]     63), true), (dP (Zai #[Value.agg #[vi 14, vi 2, vi 1, vi 1]]     59), true), (dP (Zah #[Value.agg #[vi 11, vi 2, vi 3, vi 1]]     55), true), (dP (Zag #[Value.agg #[vi 8, vi 5, vq, vq]]     51), true), (dP (ZK #[Value.agg #[vi 13, vi 3, vi 3, vq]]     47), true), (dP (Zaf #[Value.agg #[vi 8, vi 19, vq, vq]]     43), true), (dP (Zae #[Value.agg #[vi 14, vi 3, vi 2, vi 6]]     39), true), (dP (Zax #[Value.agg #[vi 9, vi 5, vi 11, vq]]     35), true), (dP (Z7 #[Value.agg #[vi 7, vi 5, vi 4, vi 1]]     31), true), (dP (Z2 #[Value.agg #[vi 13, vi 4, vi 3, vi 1]]     27), true), (dP (Zaw #[Value.agg #[vi 9, vi 3, vi 13, vq]]     23), true), (dP (Zq #[Value.agg #[vi 13, vi 3, vq, vi (a0 % (8 : Int))]] ((a0 % (8 : Int)))    19), true), (dP (Zy #[Value.agg #[vi 15, vq, vq, vq]]     15), true), (dP (ZT #[Value.agg #[vi 1, vi 6, vi a1, vq]] (a1)    11), true), (dP (Zt #[Value.agg #[vi 1, vi 1, vi a0, vq]] (a0)    7), true), (dP (Zp #[Value.agg #[vi 10, vq, vq, vq]]     3), true), ((IntKind.i64.wrap (((BitVec.ofInt IntKind.i64.bits a0 &&& BitVec.ofInt IntKind.i64.bits (7 : Int)).toNat : Nat) : Int)) == (a0 % (8 : Int)), true), ((decide (a1 ≤ (1099511627776 : Int))), true), ((decide (a1 ≥ (-1099511627776 : Int))), true), ((decide (a0 ≤ (1099511627776 : Int))), true), ((decide (a0 ≥ (-1099511627776 : Int))), true)]) (by kernel_rfl) (Zb (Zc (Zb3 #[Value.agg #[vi 13, vi 3, vq, vi (a0 % (8 : Int))]] ((a0 % (8 : Int)))   N c40  180 rfl (by decide) (by decide))) <| Zb (Zc (ZaB #[Value.agg #[vi 14, vi 2, vi 2, vi 6]]    N c39  174 rfl (by decide) (by decide))) <| Zb (Zc (Za9 #[Value.agg #[vi 14, vi 2, vi 1, vi 1]]    N c38  168 rfl (by decide) (by decide))) <| Zb (Zc (Za7 #[Value.agg #[vi 11, vi 2, vi 3, vi 1]]    N c37  162 rfl (by decide) (by decide))) <| Zb (Zc (Za5 #[Value.agg #[vi 8, vi 5, vq, vq]]    N c36  156 rfl (by decide) (by decide))) <| Zb (Zc (ZQ #[Value.agg #[vi 13, vi 3, vi 3, vq]]    N c35  150 rfl (by decide) (by decide))) <| Zb (Zc (Za3 #[Value.agg #[vi 8, vi 19, vq, vq]]    N c34  144 rfl (by decide) (by decide))) <| Zb (Zc (Za1 #[Value.agg #[vi 14, vi 3, vi 2, vi 6]]    N c33  138 rfl (by decide) (by decide))) <| Zb (Zc (ZaK #[Value.agg #[vi 9, vi 5, vi 11, vq]]    N c32  132 rfl (by decide) (by decide))) <| Zb (Zc (ZA #[Value.agg #[vi 7, vi 5, vi 4, vi 1]]    N c31  126 rfl (by decide) (by decide))) <| Zb (Zc (Z4 #[Value.agg #[vi 13, vi 4, vi 3, vi 1]]    N c30  120 rfl (by decide) (by decide))) <| Zb (Zc (ZaI #[Value.agg #[vi 9, vi 3, vi 13, vq]]    N c29  114 rfl (by decide) (by decide))) <| Zb (Zc (Zv #[Value.agg #[vi 13, vi 3, vq, vi (a0 % (8 : Int))]] ((a0 % (8 : Int)))   N c28  108 rfl (by decide) (by decide))) <| Zb (Zc (Z1 #[Value.agg #[vi 15, vq, vq, vq]]    N c27  102 rfl (by decide) (by decide))) <| Zb (Zc (Zad #[Value.agg #[vi 1, vi 6, vi a1, vq]] (a1)   N c26  96 rfl (by decide) (by decide))) <| Zb (Zc (Zx #[Value.agg #[vi 1, vi 1, vi a0, vq]] (a0)   N c25  90 rfl (by decide) (by decide))) <| Zb (Zc (Zs #[Value.agg #[vi 10, vq, vq, vq]]    N c24  84 rfl (by decide) (by decide))) <| Zb (Zc (ZM #[Value.agg #[vi 17, vq, vq, vq]]    N c23  79 rfl (by decide) (by decide))) <| Zb (Zc (Zal #[Value.agg #[vi 14, vq, vi (a0 % (8 : Int)), vi 2]] ((a0 % (8 : Int)))   N c22  75 rfl (by decide) (by decide))) <| Zb (Zc (Zba #[Value.agg #[vi 14, vi 2, vq, vi 3]]    N c21  71 rfl (by decide) (by decide))) <| Zb (Zc (Zv #[Value.agg #[vi 13, vi 3, vq, vi (a0 % (8 : Int))]] ((a0 % (8 : Int)))   N c20  67 rfl (by decide) (by decide))) <| Zb (Zc (ZaB #[Value.agg #[vi 14, vi 2, vi 2, vi 6]]    N c19  63 rfl (by decide) (by decide))) <| Zb (Zc (Za9 #[Value.agg #[vi 14, vi 2, vi 1, vi 1]]    N c18  59 rfl (by decide) (by decide))) <| Zb (Zc (Za7 #[Value.agg #[vi 11, vi 2, vi 3, vi 1]]    N c17  55 rfl (by decide) (by decide))) <| Zb (Zc (Za5 #[Value.agg #[vi 8, vi 5, vq, vq]]    N c16  51 rfl (by decide) (by decide))) <| Zb (Zc (ZQ #[Value.agg #[vi 13, vi 3, vi 3, vq]]    N c15  47 rfl (by decide) (by decide))) <| Zb (Zc (Za3 #[Value.agg #[vi 8, vi 19, vq, vq]]    N c14  43 rfl (by decide) (by decide))) <| Zb (Zc (Za1 #[Value.agg #[vi 14, vi 3, vi 2, vi 6]]    N c13  39 rfl (by decide) (by decide))) <| Zb (Zc (ZaK #[Value.agg #[vi 9, vi 5, vi 11, vq]]    N c12  35 rfl (by decide) (by decide))) <| Zb (Zc (ZA #[Value.agg #[vi 7, vi 5, vi 4, vi 1]]    N c11  31 rfl (by decide) (by decide))) <| Zb (Zc (Z4 #[Value.agg #[vi 13, vi 4, vi 3, vi 1]]    N c10  27 rfl (by decide) (by decide))) <| Zb (Zc (ZaI #[Value.agg #[vi 9, vi 3, vi 13, vq]]    N c9  23 rfl (by decide) (by decide))) <| Zb (Zc (Zv #[Value.agg #[vi 13, vi 3, vq, vi (a0 % (8 : Int))]] ((a0 % (8 : Int)))   N c8  19 rfl (by decide) (by decide))) <| Zb (Zc (Z1 #[Value.agg #[vi 15, vq, vq, vq]]    N c7  15 rfl (by decide) (by decide))) <| Zb (Zc (Zad #[Value.agg #[vi 1, vi 6, vi a1, vq]] (a1)   N c6  11 rfl (by decide) (by decide))) <| Zb (Zc (Zx #[Value.agg #[vi 1, vi 1, vi a0, vq]] (a0)   N c5  7 rfl (by decide) (by decide))) <| Zb (Zc (Zs #[Value.agg #[vi 10, vq, vq, vq]]    N c4  3 rfl (by decide) (by decide))) <| Zb (beq_iff_eq.2 (ZS _)) <| oY <| oY <| oY <| oY Zf) rfl (by decide) (by rfl) rr trivial (Zh _ rfl)
                             | r1 =>
                              exact Zi Zj (r := (.r1 : ZC)) (fu := 4000) (orc := (Zl [(0, true), (1, true), (3, true), (4, true)] [(0, (a0 % (8 : Int)))] [] [] [(4, (Zr     3)), (8, (Zw (a0)    7)), (12, (Zac (a1)    11)), (16, (Z0     15)), (20, (Zu ((a0 % (8 : Int)))    19)), (24, (ZaH     23)), (28, (Z3     27)), (32, (Z9     31)), (36, (ZaJ     35)), (40, (Za0     39)), (44, (Za2     43)), (48, (ZP     47)), (52, (Za4     51)), (56, (Za6     55)), (60, (Za8     59)), (64, (ZaA     63)), (68, (Zu ((a0 % (8 : Int)))    67)), (72, (ZaZ     71)), (76, (Zak ((a0 % (8 : Int)))    75)), (80, (ZL     79)), (83, (Zr     84)), (87, (Zw (a0)    90)), (91, (Zac (a1)    96)), (95, (Z0     102)), (99, (Zb2 ((a0 % (8 : Int)))    108))])) (live := []) (u := Value.tuple #[vn, vq]) (bl := []) (ob := [(dP (Zbp #[Value.agg #[vi 13, vi 3, vq, vi (a0 % (8 : Int))]] ((a0 % (8 : Int)))    108), true), (dP (Zy #[Value.agg #[vi 15, vq, vq, vq]]     102), true), (dP (ZT #[Value.agg #[vi 1, vi 6, vi a1, vq]] (a1)    96), true), (dP (Zt #[Value.agg #[vi 1, vi 1, vi a0, vq]] (a0)    90), true), (dP (Zp #[Value.agg #[vi 10, vq, vq, vq]]     84), true), (dP (ZI #[Value.agg #[vi 17, vq, vq, vq]]     79), true), (dP (ZU #[Value.agg #[vi 14, vq, vi (a0 % (8 : Int)), vi 2]] ((a0 % (8 : Int)))    75), true), (dP (ZaL #[Value.agg #[vi 14, vi 2, vq, vi 3]]     71), true), (dP (Zq #[Value.agg #[vi 13, vi 3, vq, vi (a0 % (8 : Int))]] ((a0 % (8 : Int)))    67), true), (dP (Zaj #[Value.agg #[vi 14, vi 2, vi 2, vi 6]]     63), true), (dP (Zai #[Value.agg #[vi 14, vi 2, vi 1, vi 1]]     59), true), (dP (Zah #[Value.agg #[vi 11, vi 2, vi 3, vi 1]]     55), true), (dP (Zag #[Value.agg #[vi 8, vi 5, vq, vq]]     51), true), (dP (ZK #[Value.agg #[vi 13, vi 3, vi 3, vq]]     47), true), (dP (Zaf #[Value.agg #[vi 8, vi 19, vq, vq]]     43), true), (dP (Zae #[Value.agg #[vi 14, vi 3, vi 2, vi 6]]     39), true), (dP (Zax #[Value.agg #[vi 9, vi 5, vi 11, vq]]     35), true), (dP (Z7 #[Value.agg #[vi 7, vi 5, vi 4, vi 1]]     31), true), (dP (Z2 #[Value.agg #[vi 13, vi 4, vi 3, vi 1]]     27), true), (dP (Zaw #[Value.agg #[vi 9, vi 3, vi 13, vq]]     23), true), (dP (Zq #[Value.agg #[vi 13, vi 3, vq, vi (a0 % (8 : Int))]] ((a0 % (8 : Int)))    19), true), (dP (Zy #[Value.agg #[vi 15, vq, vq, vq]]     15), true), (dP (ZT #[Value.agg #[vi 1, vi 6, vi a1, vq]] (a1)    11), true), (dP (Zt #[Value.agg #[vi 1, vi 1, vi a0, vq]] (a0)    7), true), (dP (Zp #[Value.agg #[vi 10, vq, vq, vq]]     3), true), ((IntKind.i64.wrap (((BitVec.ofInt IntKind.i64.bits a0 &&& BitVec.ofInt IntKind.i64.bits (7 : Int)).toNat : Nat) : Int)) == (a0 % (8 : Int)), true), ((decide (a1 ≤ (1099511627776 : Int))), true), ((decide (a1 ≥ (-1099511627776 : Int))), true), ((decide (a0 ≤ (1099511627776 : Int))), true), ((decide (a0 ≥ (-1099511627776 : Int))), true)]) (by kernel_rfl) (Zb (Zc (Zb3 #[Value.agg #[vi 13, vi 3, vq, vi (a0 % (8 : Int))]] ((a0 % (8 : Int)))   N c28  108 rfl (by decide) (by decide))) <| Zb (Zc (Z1 #[Value.agg #[vi 15, vq, vq, vq]]    N c27  102 rfl (by decide) (by decide))) <| Zb (Zc (Zad #[Value.agg #[vi 1, vi 6, vi a1, vq]] (a1)   N c26  96 rfl (by decide) (by decide))) <| Zb (Zc (Zx #[Value.agg #[vi 1, vi 1, vi a0, vq]] (a0)   N c25  90 rfl (by decide) (by decide))) <| Zb (Zc (Zs #[Value.agg #[vi 10, vq, vq, vq]]    N c24  84 rfl (by decide) (by decide))) <| Zb (Zc (ZM #[Value.agg #[vi 17, vq, vq, vq]]    N c23  79 rfl (by decide) (by decide))) <| Zb (Zc (Zal #[Value.agg #[vi 14, vq, vi (a0 % (8 : Int)), vi 2]] ((a0 % (8 : Int)))   N c22  75 rfl (by decide) (by decide))) <| Zb (Zc (Zba #[Value.agg #[vi 14, vi 2, vq, vi 3]]    N c21  71 rfl (by decide) (by decide))) <| Zb (Zc (Zv #[Value.agg #[vi 13, vi 3, vq, vi (a0 % (8 : Int))]] ((a0 % (8 : Int)))   N c20  67 rfl (by decide) (by decide))) <| Zb (Zc (ZaB #[Value.agg #[vi 14, vi 2, vi 2, vi 6]]    N c19  63 rfl (by decide) (by decide))) <| Zb (Zc (Za9 #[Value.agg #[vi 14, vi 2, vi 1, vi 1]]    N c18  59 rfl (by decide) (by decide))) <| Zb (Zc (Za7 #[Value.agg #[vi 11, vi 2, vi 3, vi 1]]    N c17  55 rfl (by decide) (by decide))) <| Zb (Zc (Za5 #[Value.agg #[vi 8, vi 5, vq, vq]]    N c16  51 rfl (by decide) (by decide))) <| Zb (Zc (ZQ #[Value.agg #[vi 13, vi 3, vi 3, vq]]    N c15  47 rfl (by decide) (by decide))) <| Zb (Zc (Za3 #[Value.agg #[vi 8, vi 19, vq, vq]]    N c14  43 rfl (by decide) (by decide))) <| Zb (Zc (Za1 #[Value.agg #[vi 14, vi 3, vi 2, vi 6]]    N c13  39 rfl (by decide) (by decide))) <| Zb (Zc (ZaK #[Value.agg #[vi 9, vi 5, vi 11, vq]]    N c12  35 rfl (by decide) (by decide))) <| Zb (Zc (ZA #[Value.agg #[vi 7, vi 5, vi 4, vi 1]]    N c11  31 rfl (by decide) (by decide))) <| Zb (Zc (Z4 #[Value.agg #[vi 13, vi 4, vi 3, vi 1]]    N c10  27 rfl (by decide) (by decide))) <| Zb (Zc (ZaI #[Value.agg #[vi 9, vi 3, vi 13, vq]]    N c9  23 rfl (by decide) (by decide))) <| Zb (Zc (Zv #[Value.agg #[vi 13, vi 3, vq, vi (a0 % (8 : Int))]] ((a0 % (8 : Int)))   N c8  19 rfl (by decide) (by decide))) <| Zb (Zc (Z1 #[Value.agg #[vi 15, vq, vq, vq]]    N c7  15 rfl (by decide) (by decide))) <| Zb (Zc (Zad #[Value.agg #[vi 1, vi 6, vi a1, vq]] (a1)   N c6  11 rfl (by decide) (by decide))) <| Zb (Zc (Zx #[Value.agg #[vi 1, vi 1, vi a0, vq]] (a0)   N c5  7 rfl (by decide) (by decide))) <| Zb (Zc (Zs #[Value.agg #[vi 10, vq, vq, vq]]    N c4  3 rfl (by decide) (by decide))) <| Zb (beq_iff_eq.2 (ZS _)) <| oY <| oY <| oY <| oY Zf) rfl (by decide) (by rfl) rr trivial (Zh _ rfl)
                           | r1 =>
                            exact Zi Zj (r := (.r1 : ZC)) (fu := 4000) (orc := (Zl [(0, true), (1, true), (3, true), (4, true)] [(0, (a0 % (8 : Int)))] [] [] [(4, (Zr     3)), (8, (Zw (a0)    7)), (12, (Zac (a1)    11)), (16, (Z0     15)), (20, (Zu ((a0 % (8 : Int)))    19)), (24, (ZaH     23)), (28, (Z3     27)), (32, (Z9     31)), (36, (ZaJ     35)), (40, (Za0     39)), (44, (Za2     43)), (48, (ZP     47)), (52, (Za4     51)), (56, (Za6     55)), (60, (Za8     59)), (64, (ZaA     63)), (68, (Zu ((a0 % (8 : Int)))    67)), (72, (ZaZ     71)), (76, (Zak ((a0 % (8 : Int)))    75)), (80, (ZL     79)), (83, (Zr     84)), (87, (Zw (a0)    90)), (91, (Zj4 (a1)    96))])) (live := []) (u := Value.tuple #[vn, vq]) (bl := []) (ob := [(dP (ZgE #[Value.agg #[vi 1, vi 6, vi a1, vq]] (a1)    96), true), (dP (Zt #[Value.agg #[vi 1, vi 1, vi a0, vq]] (a0)    90), true), (dP (Zp #[Value.agg #[vi 10, vq, vq, vq]]     84), true), (dP (ZI #[Value.agg #[vi 17, vq, vq, vq]]     79), true), (dP (ZU #[Value.agg #[vi 14, vq, vi (a0 % (8 : Int)), vi 2]] ((a0 % (8 : Int)))    75), true), (dP (ZaL #[Value.agg #[vi 14, vi 2, vq, vi 3]]     71), true), (dP (Zq #[Value.agg #[vi 13, vi 3, vq, vi (a0 % (8 : Int))]] ((a0 % (8 : Int)))    67), true), (dP (Zaj #[Value.agg #[vi 14, vi 2, vi 2, vi 6]]     63), true), (dP (Zai #[Value.agg #[vi 14, vi 2, vi 1, vi 1]]     59), true), (dP (Zah #[Value.agg #[vi 11, vi 2, vi 3, vi 1]]     55), true), (dP (Zag #[Value.agg #[vi 8, vi 5, vq, vq]]     51), true), (dP (ZK #[Value.agg #[vi 13, vi 3, vi 3, vq]]     47), true), (dP (Zaf #[Value.agg #[vi 8, vi 19, vq, vq]]     43), true), (dP (Zae #[Value.agg #[vi 14, vi 3, vi 2, vi 6]]     39), true), (dP (Zax #[Value.agg #[vi 9, vi 5, vi 11, vq]]     35), true), (dP (Z7 #[Value.agg #[vi 7, vi 5, vi 4, vi 1]]     31), true), (dP (Z2 #[Value.agg #[vi 13, vi 4, vi 3, vi 1]]     27), true), (dP (Zaw #[Value.agg #[vi 9, vi 3, vi 13, vq]]     23), true), (dP (Zq #[Value.agg #[vi 13, vi 3, vq, vi (a0 % (8 : Int))]] ((a0 % (8 : Int)))    19), true), (dP (Zy #[Value.agg #[vi 15, vq, vq, vq]]     15), true), (dP (ZT #[Value.agg #[vi 1, vi 6, vi a1, vq]] (a1)    11), true), (dP (Zt #[Value.agg #[vi 1, vi 1, vi a0, vq]] (a0)    7), true), (dP (Zp #[Value.agg #[vi 10, vq, vq, vq]]     3), true), ((IntKind.i64.wrap (((BitVec.ofInt IntKind.i64.bits a0 &&& BitVec.ofInt IntKind.i64.bits (7 : Int)).toNat : Nat) : Int)) == (a0 % (8 : Int)), true), ((decide (a1 ≤ (1099511627776 : Int))), true), ((decide (a1 ≥ (-1099511627776 : Int))), true), ((decide (a0 ≤ (1099511627776 : Int))), true), ((decide (a0 ≥ (-1099511627776 : Int))), true)]) (by kernel_rfl) (Zb (Zc (Zj5 #[Value.agg #[vi 1, vi 6, vi a1, vq]] (a1)   N c26  96 rfl (by decide) (by decide))) <| Zb (Zc (Zx #[Value.agg #[vi 1, vi 1, vi a0, vq]] (a0)   N c25  90 rfl (by decide) (by decide))) <| Zb (Zc (Zs #[Value.agg #[vi 10, vq, vq, vq]]    N c24  84 rfl (by decide) (by decide))) <| Zb (Zc (ZM #[Value.agg #[vi 17, vq, vq, vq]]    N c23  79 rfl (by decide) (by decide))) <| Zb (Zc (Zal #[Value.agg #[vi 14, vq, vi (a0 % (8 : Int)), vi 2]] ((a0 % (8 : Int)))   N c22  75 rfl (by decide) (by decide))) <| Zb (Zc (Zba #[Value.agg #[vi 14, vi 2, vq, vi 3]]    N c21  71 rfl (by decide) (by decide))) <| Zb (Zc (Zv #[Value.agg #[vi 13, vi 3, vq, vi (a0 % (8 : Int))]] ((a0 % (8 : Int)))   N c20  67 rfl (by decide) (by decide))) <| Zb (Zc (ZaB #[Value.agg #[vi 14, vi 2, vi 2, vi 6]]    N c19  63 rfl (by decide) (by decide))) <| Zb (Zc (Za9 #[Value.agg #[vi 14, vi 2, vi 1, vi 1]]    N c18  59 rfl (by decide) (by decide))) <| Zb (Zc (Za7 #[Value.agg #[vi 11, vi 2, vi 3, vi 1]]    N c17  55 rfl (by decide) (by decide))) <| Zb (Zc (Za5 #[Value.agg #[vi 8, vi 5, vq, vq]]    N c16  51 rfl (by decide) (by decide))) <| Zb (Zc (ZQ #[Value.agg #[vi 13, vi 3, vi 3, vq]]    N c15  47 rfl (by decide) (by decide))) <| Zb (Zc (Za3 #[Value.agg #[vi 8, vi 19, vq, vq]]    N c14  43 rfl (by decide) (by decide))) <| Zb (Zc (Za1 #[Value.agg #[vi 14, vi 3, vi 2, vi 6]]    N c13  39 rfl (by decide) (by decide))) <| Zb (Zc (ZaK #[Value.agg #[vi 9, vi 5, vi 11, vq]]    N c12  35 rfl (by decide) (by decide))) <| Zb (Zc (ZA #[Value.agg #[vi 7, vi 5, vi 4, vi 1]]    N c11  31 rfl (by decide) (by decide))) <| Zb (Zc (Z4 #[Value.agg #[vi 13, vi 4, vi 3, vi 1]]    N c10  27 rfl (by decide) (by decide))) <| Zb (Zc (ZaI #[Value.agg #[vi 9, vi 3, vi 13, vq]]    N c9  23 rfl (by decide) (by decide))) <| Zb (Zc (Zv #[Value.agg #[vi 13, vi 3, vq, vi (a0 % (8 : Int))]] ((a0 % (8 : Int)))   N c8  19 rfl (by decide) (by decide))) <| Zb (Zc (Z1 #[Value.agg #[vi 15, vq, vq, vq]]    N c7  15 rfl (by decide) (by decide))) <| Zb (Zc (Zad #[Value.agg #[vi 1, vi 6, vi a1, vq]] (a1)   N c6  11 rfl (by decide) (by decide))) <| Zb (Zc (Zx #[Value.agg #[vi 1, vi 1, vi a0, vq]] (a0)   N c5  7 rfl (by decide) (by decide))) <| Zb (Zc (Zs #[Value.agg #[vi 10, vq, vq, vq]]    N c4  3 rfl (by decide) (by decide))) <| Zb (beq_iff_eq.2 (ZS _)) <| oY <| oY <| oY <| oY Zf) rfl (by decide) (by rfl) rr trivial (Zh _ rfl)
                          | r1 =>
                           exact Zi Zj (r := (.r1 : ZC)) (fu := 4000) (orc := (Zl [(0, true), (1, true), (3, true), (4, true)] [(0, (a0 % (8 : Int)))] [] [] [(4, (Zr     3)), (8, (Zw (a0)    7)), (12, (Zac (a1)    11)), (16, (Z0     15)), (20, (Zu ((a0 % (8 : Int)))    19)), (24, (ZaH     23)), (28, (Z3     27)), (32, (Z9     31)), (36, (ZaJ     35)), (40, (Za0     39)), (44, (Za2     43)), (48, (ZP     47)), (52, (Za4     51)), (56, (Za6     55)), (60, (Za8     59)), (64, (ZaA     63)), (68, (Zu ((a0 % (8 : Int)))    67)), (72, (ZaZ     71)), (76, (Zak ((a0 % (8 : Int)))    75)), (80, (ZL     79)), (83, (Zr     84)), (87, (ZcG (a0)    90))])) (live := []) (u := Value.tuple #[vn, vq]) (bl := []) (ob := [(dP (ZbU #[Value.agg #[vi 1, vi 1, vi a0, vq]] (a0)    90), true), (dP (Zp #[Value.agg #[vi 10, vq, vq, vq]]     84), true), (dP (ZI #[Value.agg #[vi 17, vq, vq, vq]]     79), true), (dP (ZU #[Value.agg #[vi 14, vq, vi (a0 % (8 : Int)), vi 2]] ((a0 % (8 : Int)))    75), true), (dP (ZaL #[Value.agg #[vi 14, vi 2, vq, vi 3]]     71), true), (dP (Zq #[Value.agg #[vi 13, vi 3, vq, vi (a0 % (8 : Int))]] ((a0 % (8 : Int)))    67), true), (dP (Zaj #[Value.agg #[vi 14, vi 2, vi 2, vi 6]]     63), true), (dP (Zai #[Value.agg #[vi 14, vi 2, vi 1, vi 1]]     59), true), (dP (Zah #[Value.agg #[vi 11, vi 2, vi 3, vi 1]]     55), true), (dP (Zag #[Value.agg #[vi 8, vi 5, vq, vq]]     51), true), (dP (ZK #[Value.agg #[vi 13, vi 3, vi 3, vq]]     47), true), (dP (Zaf #[Value.agg #[vi 8, vi 19, vq, vq]]     43), true), (dP (Zae #[Value.agg #[vi 14, vi 3, vi 2, vi 6]]     39), true), (dP (Zax #[Value.agg #[vi 9, vi 5, vi 11, vq]]     35), true), (dP (Z7 #[Value.agg #[vi 7, vi 5, vi 4, vi 1]]     31), true), (dP (Z2 #[Value.agg #[vi 13, vi 4, vi 3, vi 1]]     27), true), (dP (Zaw #[Value.agg #[vi 9, vi 3, vi 13, vq]]     23), true), (dP (Zq #[Value.agg #[vi 13, vi 3, vq, vi (a0 % (8 : Int))]] ((a0 % (8 : Int)))    19), true), (dP (Zy #[Value.agg #[vi 15, vq, vq, vq]]     15), true), (dP (ZT #[Value.agg #[vi 1, vi 6, vi a1, vq]] (a1)    11), true), (dP (Zt #[Value.agg #[vi 1, vi 1, vi a0, vq]] (a0)    7), true), (dP (Zp #[Value.agg #[vi 10, vq, vq, vq]]     3), true), ((IntKind.i64.wrap (((BitVec.ofInt IntKind.i64.bits a0 &&& BitVec.ofInt IntKind.i64.bits (7 : Int)).toNat : Nat) : Int)) == (a0 % (8 : Int)), true), ((decide (a1 ≤ (1099511627776 : Int))), true), ((decide (a1 ≥ (-1099511627776 : Int))), true), ((decide (a0 ≤ (1099511627776 : Int))), true), ((decide (a0 ≥ (-1099511627776 : Int))), true)]) (by kernel_rfl) (Zb (Zc (ZcH #[Value.agg #[vi 1, vi 1, vi a0, vq]] (a0)   N c25  90 rfl (by decide) (by decide))) <| Zb (Zc (Zs #[Value.agg #[vi 10, vq, vq, vq]]    N c24  84 rfl (by decide) (by decide))) <| Zb (Zc (ZM #[Value.agg #[vi 17, vq, vq, vq]]    N c23  79 rfl (by decide) (by decide))) <| Zb (Zc (Zal #[Value.agg #[vi 14, vq, vi (a0 % (8 : Int)), vi 2]] ((a0 % (8 : Int)))   N c22  75 rfl (by decide) (by decide))) <| Zb (Zc (Zba #[Value.agg #[vi 14, vi 2, vq, vi 3]]    N c21  71 rfl (by decide) (by decide))) <| Zb (Zc (Zv #[Value.agg #[vi 13, vi 3, vq, vi (a0 % (8 : Int))]] ((a0 % (8 : Int)))   N c20  67 rfl (by decide) (by decide))) <| Zb (Zc (ZaB #[Value.agg #[vi 14, vi 2, vi 2, vi 6]]    N c19  63 rfl (by decide) (by decide))) <| Zb (Zc (Za9 #[Value.agg #[vi 14, vi 2, vi 1, vi 1]]    N c18  59 rfl (by decide) (by decide))) <| Zb (Zc (Za7 #[Value.agg #[vi 11, vi 2, vi 3, vi 1]]    N c17  55 rfl (by decide) (by decide))) <| Zb (Zc (Za5 #[Value.agg #[vi 8, vi 5, vq, vq]]    N c16  51 rfl (by decide) (by decide))) <| Zb (Zc (ZQ #[Value.agg #[vi 13, vi 3, vi 3, vq]]    N c15  47 rfl (by decide) (by decide))) <| Zb (Zc (Za3 #[Value.agg #[vi 8, vi 19, vq, vq]]    N c14  43 rfl (by decide) (by decide))) <| Zb (Zc (Za1 #[Value.agg #[vi 14, vi 3, vi 2, vi 6]]    N c13  39 rfl (by decide) (by decide))) <| Zb (Zc (ZaK #[Value.agg #[vi 9, vi 5, vi 11, vq]]    N c12  35 rfl (by decide) (by decide))) <| Zb (Zc (ZA #[Value.agg #[vi 7, vi 5, vi 4, vi 1]]    N c11  31 rfl (by decide) (by decide))) <| Zb (Zc (Z4 #[Value.agg #[vi 13, vi 4, vi 3, vi 1]]    N c10  27 rfl (by decide) (by decide))) <| Zb (Zc (ZaI #[Value.agg #[vi 9, vi 3, vi 13, vq]]    N c9  23 rfl (by decide) (by decide))) <| Zb (Zc (Zv #[Value.agg #[vi 13, vi 3, vq, vi (a0 % (8 : Int))]] ((a0 % (8 : Int)))   N c8  19 rfl (by decide) (by decide))) <| Zb (Zc (Z1 #[Value.agg #[vi 15, vq, vq, vq]]    N c7  15 rfl (by decide) (by decide))) <| Zb (Zc (Zad #[Value.agg #[vi 1, vi 6, vi a1, vq]] (a1)   N c6  11 rfl (by decide) (by decide))) <| Zb (Zc (Zx #[Value.agg #[vi 1, vi 1, vi a0, vq]] (a0)   N c5  7 rfl (by decide) (by decide))) <| Zb (Zc (Zs #[Value.agg #[vi 10, vq, vq, vq]]    N c4  3 rfl (by decide) (by decide))) <| Zb (beq_iff_eq.2 (ZS _)) <| oY <| oY <| oY <| oY Zf) rfl (by decide) (by rfl) rr trivial (Zh _ rfl)
                       | r1 =>
                        exact Zi Zj (r := (.r1 : ZC)) (fu := 4000) (orc := (Zl [(0, true), (1, true), (3, true), (4, true)] [(0, (a0 % (8 : Int)))] [] [] [(4, (Zr     3)), (8, (Zw (a0)    7)), (12, (Zac (a1)    11)), (16, (Z0     15)), (20, (Zu ((a0 % (8 : Int)))    19)), (24, (ZaH     23)), (28, (Z3     27)), (32, (Z9     31)), (36, (ZaJ     35)), (40, (Za0     39)), (44, (Za2     43)), (48, (ZP     47)), (52, (Za4     51)), (56, (Za6     55)), (60, (Za8     59)), (64, (ZaA     63)), (68, (Zu ((a0 % (8 : Int)))    67)), (72, (ZaZ     71)), (76, (ZeN ((a0 % (8 : Int)))    75))])) (live := []) (u := Value.tuple #[vn, vq]) (bl := []) (ob := [(dP (Zdy #[Value.agg #[vi 14, vq, vi (a0 % (8 : Int)), vi 2]] ((a0 % (8 : Int)))    75), true), (dP (ZaL #[Value.agg #[vi 14, vi 2, vq, vi 3]]     71), true), (dP (Zq #[Value.agg #[vi 13, vi 3, vq, vi (a0 % (8 : Int))]] ((a0 % (8 : Int)))    67), true), (dP (Zaj #[Value.agg #[vi 14, vi 2, vi 2, vi 6]]     63), true), (dP (Zai #[Value.agg #[vi 14, vi 2, vi 1, vi 1]]     59), true), (dP (Zah #[Value.agg #[vi 11, vi 2, vi 3, vi 1]]     55), true), (dP (Zag #[Value.agg #[vi 8, vi 5, vq, vq]]     51), true), (dP (ZK #[Value.agg #[vi 13, vi 3, vi 3, vq]]     47), true), (dP (Zaf #[Value.agg #[vi 8, vi 19, vq, vq]]     43), true), (dP (Zae #[Value.agg #[vi 14, vi 3, vi 2, vi 6]]     39), true), (dP (Zax #[Value.agg #[vi 9, vi 5, vi 11, vq]]     35), true), (dP (Z7 #[Value.agg #[vi 7, vi 5, vi 4, vi 1]]     31), true), (dP (Z2 #[Value.agg #[vi 13, vi 4, vi 3, vi 1]]     27), true), (dP (Zaw #[Value.agg #[vi 9, vi 3, vi 13, vq]]     23), true), (dP (Zq #[Value.agg #[vi 13, vi 3, vq, vi (a0 % (8 : Int))]] ((a0 % (8 : Int)))    19), true), (dP (Zy #[Value.agg #[vi 15, vq, vq, vq]]     15), true), (dP (ZT #[Value.agg #[vi 1, vi 6, vi a1, vq]] (a1)    11), true), (dP (Zt #[Value.agg #[vi 1, vi 1, vi a0, vq]] (a0)    7), true), (dP (Zp #[Value.agg #[vi 10, vq, vq, vq]]     3), true), ((IntKind.i64.wrap (((BitVec.ofInt IntKind.i64.bits a0 &&& BitVec.ofInt IntKind.i64.bits (7 : Int)).toNat : Nat) : Int)) == (a0 % (8 : Int)), true), ((decide (a1 ≤ (1099511627776 : Int))), true), ((decide (a1 ≥ (-1099511627776 : Int))), true), ((decide (a0 ≤ (1099511627776 : Int))), true), ((decide (a0 ≥ (-1099511627776 : Int))), true)]) (by kernel_rfl) (Zb (Zc (ZeO #[Value.agg #[vi 14, vq, vi (a0 % (8 : Int)), vi 2]] ((a0 % (8 : Int)))   N c22  75 rfl (by decide) (by decide))) <| Zb (Zc (Zba #[Value.agg #[vi 14, vi 2, vq, vi 3]]    N c21  71 rfl (by decide) (by decide))) <| Zb (Zc (Zv #[Value.agg #[vi 13, vi 3, vq, vi (a0 % (8 : Int))]] ((a0 % (8 : Int)))   N c20  67 rfl (by decide) (by decide))) <| Zb (Zc (ZaB #[Value.agg #[vi 14, vi 2, vi 2, vi 6]]    N c19  63 rfl (by decide) (by decide))) <| Zb (Zc (Za9 #[Value.agg #[vi 14, vi 2, vi 1, vi 1]]    N c18  59 rfl (by decide) (by decide))) <| Zb (Zc (Za7 #[Value.agg #[vi 11, vi 2, vi 3, vi 1]]    N c17  55 rfl (by decide) (by decide))) <| Zb (Zc (Za5 #[Value.agg #[vi 8, vi 5, vq, vq]]    N c16  51 rfl (by decide) (by decide))) <| Zb (Zc (ZQ #[Value.agg #[vi 13, vi 3, vi 3, vq]]    N c15  47 rfl (by decide) (by decide))) <| Zb (Zc (Za3 #[Value.agg #[vi 8, vi 19, vq, vq]]    N c14  43 rfl (by decide) (by decide))) <| Zb (Zc (Za1 #[Value.agg #[vi 14, vi 3, vi 2, vi 6]]    N c13  39 rfl (by decide) (by decide))) <| Zb (Zc (ZaK #[Value.agg #[vi 9, vi 5, vi 11, vq]]    N c12  35 rfl (by decide) (by decide))) <| Zb (Zc (ZA #[Value.agg #[vi 7, vi 5, vi 4, vi 1]]    N c11  31 rfl (by decide) (by decide))) <| Zb (Zc (Z4 #[Value.agg #[vi 13, vi 4, vi 3, vi 1]]    N c10  27 rfl (by decide) (by decide))) <| Zb (Zc (ZaI #[Value.agg #[vi 9, vi 3, vi 13, vq]]    N c9  23 rfl (by decide) (by decide))) <| Zb (Zc (Zv #[Value.agg #[vi 13, vi 3, vq, vi (a0 % (8 : Int))]] ((a0 % (8 : Int)))   N c8  19 rfl (by decide) (by decide))) <| Zb (Zc (Z1 #[Value.agg #[vi 15, vq, vq, vq]]    N c7  15 rfl (by decide) (by decide))) <| Zb (Zc (Zad #[Value.agg #[vi 1, vi 6, vi a1, vq]] (a1)   N c6  11 rfl (by decide) (by decide))) <| Zb (Zc (Zx #[Value.agg #[vi 1, vi 1, vi a0, vq]] (a0)   N c5  7 rfl (by decide) (by decide))) <| Zb (Zc (Zs #[Value.agg #[vi 10, vq, vq, vq]]    N c4  3 rfl (by decide) (by decide))) <| Zb (beq_iff_eq.2 (ZS _)) <| oY <| oY <| oY <| oY Zf) rfl (by decide) (by rfl) rr trivial (Zh _ rfl)
                     | r1 =>
                      exact Zi Zj (r := (.r1 : ZC)) (fu := 4000) (orc := (Zl [(0, true), (1, true), (3, true), (4, true)] [(0, (a0 % (8 : Int)))] [] [] [(4, (Zr     3)), (8, (Zw (a0)    7)), (12, (Zac (a1)    11)), (16, (Z0     15)), (20, (Zu ((a0 % (8 : Int)))    19)), (24, (ZaH     23)), (28, (Z3     27)), (32, (Z9     31)), (36, (ZaJ     35)), (40, (Za0     39)), (44, (Za2     43)), (48, (ZP     47)), (52, (Za4     51)), (56, (Za6     55)), (60, (Za8     59)), (64, (ZaA     63)), (68, (Zb2 ((a0 % (8 : Int)))    67))])) (live := []) (u := Value.tuple #[vn, vq]) (bl := []) (ob := [(dP (Zbp #[Value.agg #[vi 13, vi 3, vq, vi (a0 % (8 : Int))]] ((a0 % (8 : Int)))    67), true), (dP (Zaj #[Value.agg #[vi 14, vi 2, vi 2, vi 6]]     63), true), (dP (Zai #[Value.agg #[vi 14, vi 2, vi 1, vi 1]]     59), true), (dP (Zah #[Value.agg #[vi 11, vi 2, vi 3, vi 1]]     55), true), (dP (Zag #[Value.agg #[vi 8, vi 5, vq, vq]]     51), true), (dP (ZK #[Value.agg #[vi 13, vi 3, vi 3, vq]]     47), true), (dP (Zaf #[Value.agg #[vi 8, vi 19, vq, vq]]     43), true), (dP (Zae #[Value.agg #[vi 14, vi 3, vi 2, vi 6]]     39), true), (dP (Zax #[Value.agg #[vi 9, vi 5, vi 11, vq]]     35), true), (dP (Z7 #[Value.agg #[vi 7, vi 5, vi 4, vi 1]]     31), true), (dP (Z2 #[Value.agg #[vi 13, vi 4, vi 3, vi 1]]     27), true), (dP (Zaw #[Value.agg #[vi 9, vi 3, vi 13, vq]]     23), true), (dP (Zq #[Value.agg #[vi 13, vi 3, vq, vi (a0 % (8 : Int))]] ((a0 % (8 : Int)))    19), true), (dP (Zy #[Value.agg #[vi 15, vq, vq, vq]]     15), true), (dP (ZT #[Value.agg #[vi 1, vi 6, vi a1, vq]] (a1)    11), true), (dP (Zt #[Value.agg #[vi 1, vi 1, vi a0, vq]] (a0)    7), true), (dP (Zp #[Value.agg #[vi 10, vq, vq, vq]]     3), true), ((IntKind.i64.wrap (((BitVec.ofInt IntKind.i64.bits a0 &&& BitVec.ofInt IntKind.i64.bits (7 : Int)).toNat : Nat) : Int)) == (a0 % (8 : Int)), true), ((decide (a1 ≤ (1099511627776 : Int))), true), ((decide (a1 ≥ (-1099511627776 : Int))), true), ((decide (a0 ≤ (1099511627776 : Int))), true), ((decide (a0 ≥ (-1099511627776 : Int))), true)]) (by kernel_rfl) (Zb (Zc (Zb3 #[Value.agg #[vi 13, vi 3, vq, vi (a0 % (8 : Int))]] ((a0 % (8 : Int)))   N c20  67 rfl (by decide) (by decide))) <| Zb (Zc (ZaB #[Value.agg #[vi 14, vi 2, vi 2, vi 6]]    N c19  63 rfl (by decide) (by decide))) <| Zb (Zc (Za9 #[Value.agg #[vi 14, vi 2, vi 1, vi 1]]    N c18  59 rfl (by decide) (by decide))) <| Zb (Zc (Za7 #[Value.agg #[vi 11, vi 2, vi 3, vi 1]]    N c17  55 rfl (by decide) (by decide))) <| Zb (Zc (Za5 #[Value.agg #[vi 8, vi 5, vq, vq]]    N c16  51 rfl (by decide) (by decide))) <| Zb (Zc (ZQ #[Value.agg #[vi 13, vi 3, vi 3, vq]]    N c15  47 rfl (by decide) (by decide))) <| Zb (Zc (Za3 #[Value.agg #[vi 8, vi 19, vq, vq]]    N c14  43 rfl (by decide) (by decide))) <| Zb (Zc (Za1 #[Value.agg #[vi 14, vi 3, vi 2, vi 6]]    N c13  39 rfl (by decide) (by decide))) <| Zb (Zc (ZaK #[Value.agg #[vi 9, vi 5, vi 11, vq]]    N c12  35 rfl (by decide) (by decide))) <| Zb (Zc (ZA #[Value.agg #[vi 7, vi 5, vi 4, vi 1]]    N c11  31 rfl (by decide) (by decide))) <| Zb (Zc (Z4 #[Value.agg #[vi 13, vi 4, vi 3, vi 1]]    N c10  27 rfl (by decide) (by decide))) <| Zb (Zc (ZaI #[Value.agg #[vi 9, vi 3, vi 13, vq]]    N c9  23 rfl (by decide) (by decide))) <| Zb (Zc (Zv #[Value.agg #[vi 13, vi 3, vq, vi (a0 % (8 : Int))]] ((a0 % (8 : Int)))   N c8  19 rfl (by decide) (by decide))) <| Zb (Zc (Z1 #[Value.agg #[vi 15, vq, vq, vq]]    N c7  15 rfl (by decide) (by decide))) <| Zb (Zc (Zad #[Value.agg #[vi 1, vi 6, vi a1, vq]] (a1)   N c6  11 rfl (by decide) (by decide))) <| Zb (Zc (Zx #[Value.agg #[vi 1, vi 1, vi a0, vq]] (a0)   N c5  7 rfl (by decide) (by decide))) <| Zb (Zc (Zs #[Value.agg #[vi 10, vq, vq, vq]]    N c4  3 rfl (by decide) (by decide))) <| Zb (beq_iff_eq.2 (ZS _)) <| oY <| oY <| oY <| oY Zf) rfl (by decide) (by rfl) rr trivial (Zh _ rfl)
         | r1 =>
          exact Zi Zj (r := (.r1 : ZC)) (fu := 4000) (orc := (Zl [(0, true), (1, true), (3, true), (4, true)] [(0, (a0 % (8 : Int)))] [] [] [(4, (Zr     3)), (8, (Zw (a0)    7)), (12, (Zac (a1)    11)), (16, (Z0     15)), (20, (Zb2 ((a0 % (8 : Int)))    19))])) (live := []) (u := Value.tuple #[vn, vq]) (bl := []) (ob := [(dP (Zbp #[Value.agg #[vi 13, vi 3, vq, vi (a0 % (8 : Int))]] ((a0 % (8 : Int)))    19), true), (dP (Zy #[Value.agg #[vi 15, vq, vq, vq]]     15), true), (dP (ZT #[Value.agg #[vi 1, vi 6, vi a1, vq]] (a1)    11), true), (dP (Zt #[Value.agg #[vi 1, vi 1, vi a0, vq]] (a0)    7), true), (dP (Zp #[Value.agg #[vi 10, vq, vq, vq]]     3), true), ((IntKind.i64.wrap (((BitVec.ofInt IntKind.i64.bits a0 &&& BitVec.ofInt IntKind.i64.bits (7 : Int)).toNat : Nat) : Int)) == (a0 % (8 : Int)), true), ((decide (a1 ≤ (1099511627776 : Int))), true), ((decide (a1 ≥ (-1099511627776 : Int))), true), ((decide (a0 ≤ (1099511627776 : Int))), true), ((decide (a0 ≥ (-1099511627776 : Int))), true)]) (by kernel_rfl) (Zb (Zc (Zb3 #[Value.agg #[vi 13, vi 3, vq, vi (a0 % (8 : Int))]] ((a0 % (8 : Int)))   N c8  19 rfl (by decide) (by decide))) <| Zb (Zc (Z1 #[Value.agg #[vi 15, vq, vq, vq]]    N c7  15 rfl (by decide) (by decide))) <| Zb (Zc (Zad #[Value.agg #[vi 1, vi 6, vi a1, vq]] (a1)   N c6  11 rfl (by decide) (by decide))) <| Zb (Zc (Zx #[Value.agg #[vi 1, vi 1, vi a0, vq]] (a0)   N c5  7 rfl (by decide) (by decide))) <| Zb (Zc (Zs #[Value.agg #[vi 10, vq, vq, vq]]    N c4  3 rfl (by decide) (by decide))) <| Zb (beq_iff_eq.2 (ZS _)) <| oY <| oY <| oY <| oY Zf) rfl (by decide) (by rfl) rr trivial (Zh _ rfl)
       | r1 =>
        exact Zi Zj (r := (.r1 : ZC)) (fu := 4000) (orc := (Zl [(0, true), (1, true), (3, true), (4, true)] [(0, (a0 % (8 : Int)))] [] [] [(4, (Zr     3)), (8, (Zw (a0)    7)), (12, (Zj4 (a1)    11))])) (live := []) (u := Value.tuple #[vn, vq]) (bl := []) (ob := [(dP (ZgE #[Value.agg #[vi 1, vi 6, vi a1, vq]] (a1)    11), true), (dP (Zt #[Value.agg #[vi 1, vi 1, vi a0, vq]] (a0)    7), true), (dP (Zp #[Value.agg #[vi 10, vq, vq, vq]]     3), true), ((IntKind.i64.wrap (((BitVec.ofInt IntKind.i64.bits a0 &&& BitVec.ofInt IntKind.i64.bits (7 : Int)).toNat : Nat) : Int)) == (a0 % (8 : Int)), true), ((decide (a1 ≤ (1099511627776 : Int))), true), ((decide (a1 ≥ (-1099511627776 : Int))), true), ((decide (a0 ≤ (1099511627776 : Int))), true), ((decide (a0 ≥ (-1099511627776 : Int))), true)]) (by kernel_rfl) (Zb (Zc (Zj5 #[Value.agg #[vi 1, vi 6, vi a1, vq]] (a1)   N c6  11 rfl (by decide) (by decide))) <| Zb (Zc (Zx #[Value.agg #[vi 1, vi 1, vi a0, vq]] (a0)   N c5  7 rfl (by decide) (by decide))) <| Zb (Zc (Zs #[Value.agg #[vi 10, vq, vq, vq]]    N c4  3 rfl (by decide) (by decide))) <| Zb (beq_iff_eq.2 (ZS _)) <| oY <| oY <| oY <| oY Zf) rfl (by decide) (by rfl) rr trivial (Zh _ rfl)
      | r1 =>
       exact Zi Zj (r := (.r1 : ZC)) (fu := 4000) (orc := (Zl [(0, true), (1, true), (3, true), (4, true)] [(0, (a0 % (8 : Int)))] [] [] [(4, (Zr     3)), (8, (ZcG (a0)    7))])) (live := []) (u := Value.tuple #[vn, vq]) (bl := []) (ob := [(dP (ZbU #[Value.agg #[vi 1, vi 1, vi a0, vq]] (a0)    7), true), (dP (Zp #[Value.agg #[vi 10, vq, vq, vq]]     3), true), ((IntKind.i64.wrap (((BitVec.ofInt IntKind.i64.bits a0 &&& BitVec.ofInt IntKind.i64.bits (7 : Int)).toNat : Nat) : Int)) == (a0 % (8 : Int)), true), ((decide (a1 ≤ (1099511627776 : Int))), true), ((decide (a1 ≥ (-1099511627776 : Int))), true), ((decide (a0 ≤ (1099511627776 : Int))), true), ((decide (a0 ≥ (-1099511627776 : Int))), true)]) (by kernel_rfl) (Zb (Zc (ZcH #[Value.agg #[vi 1, vi 1, vi a0, vq]] (a0)   N c5  7 rfl (by decide) (by decide))) <| Zb (Zc (Zs #[Value.agg #[vi 10, vq, vq, vq]]    N c4  3 rfl (by decide) (by decide))) <| Zb (beq_iff_eq.2 (ZS _)) <| oY <| oY <| oY <| oY Zf) rfl (by decide) (by rfl) rr trivial (Zh _ rfl)
    ·
     exact Zi Zj (r := (.r2 : ZC)) (fu := 4000) (orc := (Zl [(0, true), (1, true), (3, true), (4, false)] [] [] [] [])) (live := []) (u := Value.tuple #[vn, vi 240]) (bl := []) (ob := [((decide (a1 ≤ (1099511627776 : Int))), false), ((decide (a1 ≥ (-1099511627776 : Int))), true), ((decide (a0 ≤ (1099511627776 : Int))), true), ((decide (a0 ≥ (-1099511627776 : Int))), true)]) (by kernel_rfl) (oN <| oY <| oY <| oY Zf) rfl (by decide) (by rfl) rr trivial (Zh _ rfl)
   ·
    exact Zi Zj (r := (.r2 : ZC)) (fu := 4000) (orc := (Zl [(0, true), (1, true), (3, false)] [] [] [] [])) (live := []) (u := Value.tuple #[vn, vi 240]) (bl := []) (ob := [((decide (a1 ≥ (-1099511627776 : Int))), false), ((decide (a0 ≤ (1099511627776 : Int))), true), ((decide (a0 ≥ (-1099511627776 : Int))), true)]) (by kernel_rfl) (oN <| oY <| oY Zf) rfl (by decide) (by rfl) rr trivial (Zh _ rfl)
  ·
   exact Zi Zj (r := (.r2 : ZC)) (fu := 4000) (orc := (Zl [(0, true), (1, false)] [] [] [] [])) (live := []) (u := Value.tuple #[vn, vi 240]) (bl := []) (ob := [((decide (a0 ≤ (1099511627776 : Int))), false), ((decide (a0 ≥ (-1099511627776 : Int))), true)]) (by kernel_rfl) (oN <| oY Zf) rfl (by decide) (by rfl) rr trivial (Zh _ rfl)
 ·
  exact Zi Zj (r := (.r2 : ZC)) (fu := 4000) (orc := (Zl [(0, false)] [] [] [] [])) (live := []) (u := Value.tuple #[vn, vi 240]) (bl := []) (ob := [((decide (a0 ≥ (-1099511627776 : Int))), false)]) (by kernel_rfl) (oN Zf) rfl (by decide) (by rfl) rr trivial (Zh _ rfl)

theorem Zlm (a0 a1 : Int) (N : Nat) (r : ZC) (h : ZcI a0 a1 N = some r) : LSpec Tryz.prog 4 #[vi a0, vi a1] [] (ZqP a0 a1 r) (Zpq a0 a1 r) :=
 (Zt5 a0 a1 N) r h

noncomputable def Zpr (a0 a1 : Int) (n : Nat) : ZB := .call [] (Value.tuple #[vs n 0 20 20, vq]) [(n, some (.cells [vi 10, vq, vq, vq, vi 1, vi 1, vi a0, vq, vi 1, vi 6, vi a1, vq, vi 15, vq, vq, vq, vi 13, vi 3, vq, vi (a0 % (8 : Int)), vi 9, vi 3, vi 13, vq, vi 13, vi 4, vi 3, vi 1, vi 7, vi 5, vi 4, vi 1, vi 9, vi 5, vi 11, vq, vi 14, vi 3, vi 2, vi 6, vi 8, vi 19, vq, vq, vi 13, vi 3, vi 3, vq, vi 8, vi 5, vq, vq, vi 11, vi 2, vi 3, vi 1, vi 14, vi 2, vi 1, vi 1, vi 14, vi 2, vi 2, vi 6, vi 13, vi 3, vq, vi (a0 % (8 : Int)), vi 14, vi 2, vq, vi 3, vi 14, vq, vi (a0 % (8 : Int)), vi 2, vi 17, vq, vq, vq] 43))] 1
def Zkp (A : Array Value) (a0 a1 : Int) (n : Nat) : Prop := Zk Tryz.prog 4 A [] (Value.tuple #[vs n 0 20 20, vq]) [(n, some (.cells [vi 10, vq, vq, vq, vi 1, vi 1, vi a0, vq, vi 1, vi 6, vi a1, vq, vi 15, vq, vq, vq, vi 13, vi 3, vq, vi (a0 % (8 : Int)), vi 9, vi 3, vi 13, vq, vi 13, vi 4, vi 3, vi 1, vi 7, vi 5, vi 4, vi 1, vi 9, vi 5, vi 11, vq, vi 14, vi 3, vi 2, vi 6, vi 8, vi 19, vq, vq, vi 13, vi 3, vi 3, vq, vi 8, vi 5, vq, vq, vi 11, vi 2, vi 3, vi 1, vi 14, vi 2, vi 1, vi 1, vi 14, vi 2, vi 2, vi 6, vi 13, vi 3, vq, vi (a0 % (8 : Int)), vi 14, vi 2, vq, vi 3, vi 14, vq, vi (a0 % (8 : Int)), vi 2, vi 17, vq, vq, vq] 43))] n 1

theorem Zps (A : Array Value) (a0 a1 : Int) (N : Nat) (h : ZcI a0 a1 N = some (.r0)) (n : Nat) (hA : A = #[vi a0, vi a1]) (hnd : ([] : List Nat).Nodup) (hlt : ∀ k ∈ ([] : List Nat), k < n) : Zkp A a0 a1  n :=
 Zn hA (LSpec.callL (show LSpec Tryz.prog 4 #[vi a0, vi a1] [] (Value.tuple #[vs 0 0 20 20, vq]) [some (.cells [vi 10, vq, vq, vq, vi 1, vi 1, vi a0, vq, vi 1, vi 6, vi a1, vq, vi 15, vq, vq, vq, vi 13, vi 3, vq, vi (a0 % (8 : Int)), vi 9, vi 3, vi 13, vq, vi 13, vi 4, vi 3, vi 1, vi 7, vi 5, vi 4, vi 1, vi 9, vi 5, vi 11, vq, vi 14, vi 3, vi 2, vi 6, vi 8, vi 19, vq, vq, vi 13, vi 3, vi 3, vq, vi 8, vi 5, vq, vq, vi 11, vi 2, vi 3, vi 1, vi 14, vi 2, vi 1, vi 1, vi 14, vi 2, vi 2, vi 6, vi 13, vi 3, vq, vi (a0 % (8 : Int)), vi 14, vi 2, vq, vi 3, vi 14, vq, vi (a0 % (8 : Int)), vi 2, vi 17, vq, vq, vq] 43)] from Zlm a0 a1 N _ h) [] n [0] rfl hnd hlt (show 0 ≤ 1 from by decide) (show ∀ j ∈ ([0] : List Nat), j < 1 from by decide) (by rfl) trivial (by rfl) ⟨rfl, trivial⟩ ⟨(by decide), trivial⟩ rfl rfl rfl rfl (Za (ZdH rfl (ZkT rfl)) rfl))

noncomputable def Zhw (a0 a1 : Int) (n : Nat) : ZB := .call [] (Value.tuple #[vn, vi 240]) [] 0
def Zgs (A : Array Value) (a0 a1 : Int) (n : Nat) : Prop := Zk Tryz.prog 4 A [] (Value.tuple #[vn, vi 240]) [] n 0

theorem Zhx (A : Array Value) (a0 a1 : Int) (N : Nat) (h : ZcI a0 a1 N = some (.r2)) (n : Nat) (hA : A = #[vi a0, vi a1]) (hnd : ([] : List Nat).Nodup) (hlt : ∀ k ∈ ([] : List Nat), k < n) : Zgs A a0 a1  n :=
 Zn hA (LSpec.callL (show LSpec Tryz.prog 4 #[vi a0, vi a1] [] (Value.tuple #[vn, vi 240]) [] from Zlm a0 a1 N _ h) [] n [] rfl hnd hlt (show 0 ≤ 0 from by decide) (show ∀ j ∈ ([] : List Nat), j < 0 from by decide) (by rfl) trivial (by rfl) trivial trivial rfl rfl rfl rfl rfl)

noncomputable def Zpt (a0 a1 : Int) : ZaD → Value
 | .r0 w2 w3 w4 => Value.tuple #[vs 0 0 20 20, vq]
 | .r1 => Value.tuple #[vn, vi 240]
noncomputable def Zoe (a0 a1 : Int) : ZaD → List (Option AObj)
 | .r0 w2 w3 w4 => [some (.cells [vi 10, vq, vq, vq, vi 1, vi 1, vi a0, vq, vi 1, vi 6, vi a1, vq, vi 15, vq, vq, vq, vi 13, vi 3, vq, vi w2, vi 9, vi 3, vi 13, vq, vi 13, vi 4, vi 3, vi 1, vi 7, vi 5, vi 4, vi 1, vi 9, vi 5, vi 11, vq, vi 14, vi 3, vi 2, vi 6, vi 8, vi 19, vq, vq, vi 13, vi 3, vi 3, vq, vi 8, vi 5, vq, vq, vi 11, vi 2, vi 3, vi 1, vi 14, vi 2, vi 1, vi 1, vi 14, vi 2, vi 2, vi 6, vi 13, vi 3, vq, vi w3, vi 14, vi 2, vq, vi 3, vi 14, vq, vi w4, vi 2, vi 17, vq, vq, vq] 43)]
 | .r1 => []

theorem Zth (a0 a1 : Int) (N : Nat) : Gx Tryz.prog 5 [] #[vi a0, vi a1] (Zpt a0 a1) (Zoe a0 a1) (Zcj a0 a1 N) := by
 unfold Zcj
 refine ZR (fun g0 => ?_) (fun g0 => ?_)
 ·
  refine ZR (fun g1 => ?_) (fun g1 => ?_)
  ·
   refine ZR (fun g2 => ?_) (fun g2 => ?_)
   ·
    refine ZR (fun g3 => ?_) (fun g3 => ?_)
    ·
     refine ZR (fun g4 => ?_) (fun g4 => ?_)
     ·
      exact Zi Zj (r := (.r0 ((((a0 % (8 : Int)) + (8 : Int)) % (8 : Int))) ((((a0 % (8 : Int)) + (8 : Int)) % (8 : Int))) ((((a0 % (8 : Int)) + (8 : Int)) % (8 : Int))) : ZaD)) (fu := 4000) (orc := (Zl [(0, true), (1, true), (3, true), (4, true)] [(0, (a0 % (8 : Int))), (1, ((a0 % (8 : Int)) + (8 : Int))), (2, (((a0 % (8 : Int)) + (8 : Int)) % (8 : Int)))] [] [] [])) (live := [20]) (u := Value.tuple #[vs 20 0 20 20, vq]) (bl := [some (.cells [vi 10, vq, vq, vq, vi 1, vi 1, vi a0, vq, vi 1, vi 6, vi a1, vq, vi 15, vq, vq, vq, vi 13, vi 3, vq, vi (((a0 % (8 : Int)) + (8 : Int)) % (8 : Int)), vi 9, vi 3, vi 13, vq, vi 13, vi 4, vi 3, vi 1, vi 7, vi 5, vi 4, vi 1, vi 9, vi 5, vi 11, vq, vi 14, vi 3, vi 2, vi 6, vi 8, vi 19, vq, vq, vi 13, vi 3, vi 3, vq, vi 8, vi 5, vq, vq, vi 11, vi 2, vi 3, vi 1, vi 14, vi 2, vi 1, vi 1, vi 14, vi 2, vi 2, vi 6, vi 13, vi 3, vq, vi (((a0 % (8 : Int)) + (8 : Int)) % (8 : Int)), vi 14, vi 2, vq, vi 3, vi 14, vq, vi (((a0 % (8 : Int)) + (8 : Int)) % (8 : Int)), vi 2, vi 17, vq, vq, vq] 43)]) (ob := [((Int.tmod ((a0 % (8 : Int)) + (8 : Int)) (8 : Int)) == (((a0 % (8 : Int)) + (8 : Int)) % (8 : Int)), true), ((IntKind.i64.wrap ((a0 % (8 : Int)) + (8 : Int))) == ((a0 % (8 : Int)) + (8 : Int)), true), ((Int.tmod a0 (8 : Int)) == (a0 % (8 : Int)), true), ((decide (a1 ≤ (1099511627776 : Int))), true), ((decide (a1 ≥ (-1099511627776 : Int))), true), ((decide (a0 ≤ (1099511627776 : Int))), true), ((decide (a0 ≥ (-1099511627776 : Int))), true)]) (by kernel_rfl) (Zb (beq_iff_eq.2 (ZbH (by omega))) <| Zb (beq_iff_eq.2 ((wrap_i64 ltA).trans (by first | rfl | omega))) <| Zb (beq_iff_eq.2 (ZbH (by omega))) <| oY <| oY <| oY <| oY Zf) rfl (by decide) (by rfl) rr ⟨⟨rfl, ⟨[], by rfl⟩, by rfl⟩, trivial⟩ (Zh _ rfl)
     ·
      exact Zi Zj (r := (.r0 (((((0 : Int) - (((0 : Int) - a0) % (8 : Int))) + (8 : Int)) % (8 : Int))) (((((0 : Int) - (((0 : Int) - a0) % (8 : Int))) + (8 : Int)) % (8 : Int))) (((((0 : Int) - (((0 : Int) - a0) % (8 : Int))) + (8 : Int)) % (8 : Int))) : ZaD)) (fu := 4000) (orc := (Zl [(0, true), (1, true), (3, true), (4, true)] [(0, ((0 : Int) - (((0 : Int) - a0) % (8 : Int)))), (1, (((0 : Int) - (((0 : Int) - a0) % (8 : Int))) + (8 : Int))), (2, ((((0 : Int) - (((0 : Int) - a0) % (8 : Int))) + (8 : Int)) % (8 : Int)))] [] [] [])) (live := [20]) (u := Value.tuple #[vs 20 0 20 20, vq]) (bl := [some (.cells [vi 10, vq, vq, vq, vi 1, vi 1, vi a0, vq, vi 1, vi 6, vi a1, vq, vi 15, vq, vq, vq, vi 13, vi 3, vq, vi ((((0 : Int) - (((0 : Int) - a0) % (8 : Int))) + (8 : Int)) % (8 : Int)), vi 9, vi 3, vi 13, vq, vi 13, vi 4, vi 3, vi 1, vi 7, vi 5, vi 4, vi 1, vi 9, vi 5, vi 11, vq, vi 14, vi 3, vi 2, vi 6, vi 8, vi 19, vq, vq, vi 13, vi 3, vi 3, vq, vi 8, vi 5, vq, vq, vi 11, vi 2, vi 3, vi 1, vi 14, vi 2, vi 1, vi 1, vi 14, vi 2, vi 2, vi 6, vi 13, vi 3, vq, vi ((((0 : Int) - (((0 : Int) - a0) % (8 : Int))) + (8 : Int)) % (8 : Int)), vi 14, vi 2, vq, vi 3, vi 14, vq, vi ((((0 : Int) - (((0 : Int) - a0) % (8 : Int))) + (8 : Int)) % (8 : Int)), vi 2, vi 17, vq, vq, vq] 43)]) (ob := [((Int.tmod (((0 : Int) - (((0 : Int) - a0) % (8 : Int))) + (8 : Int)) (8 : Int)) == ((((0 : Int) - (((0 : Int) - a0) % (8 : Int))) + (8 : Int)) % (8 : Int)), true), ((IntKind.i64.wrap (((0 : Int) - (((0 : Int) - a0) % (8 : Int))) + (8 : Int))) == (((0 : Int) - (((0 : Int) - a0) % (8 : Int))) + (8 : Int)), true), ((Int.tmod a0 (8 : Int)) == ((0 : Int) - (((0 : Int) - a0) % (8 : Int))), true), ((decide (a1 ≤ (1099511627776 : Int))), true), ((decide (a1 ≥ (-1099511627776 : Int))), true), ((decide (a0 ≤ (1099511627776 : Int))), true), ((decide (a0 ≥ (-1099511627776 : Int))), true)]) (by kernel_rfl) (Zb (beq_iff_eq.2 (ZbH (by omega))) <| Zb (beq_iff_eq.2 ((wrap_i64 ltA).trans (by first | rfl | omega))) <| Zb (beq_iff_eq.2 (Zik (by omega) (by decide))) <| oY <| oY <| oY <| oY Zf) rfl (by decide) (by rfl) rr ⟨⟨rfl, ⟨[], by rfl⟩, by rfl⟩, trivial⟩ (Zh _ rfl)
    ·
     exact Zi Zj (r := (.r1 : ZaD)) (fu := 4000) (orc := (Zl [(0, true), (1, true), (3, true), (4, false)] [] [] [] [])) (live := []) (u := Value.tuple #[vn, vi 240]) (bl := []) (ob := [((decide (a1 ≤ (1099511627776 : Int))), false), ((decide (a1 ≥ (-1099511627776 : Int))), true), ((decide (a0 ≤ (1099511627776 : Int))), true), ((decide (a0 ≥ (-1099511627776 : Int))), true)]) (by kernel_rfl) (oN <| oY <| oY <| oY Zf) rfl (by decide) (by rfl) rr trivial (Zh _ rfl)
   ·
    exact Zi Zj (r := (.r1 : ZaD)) (fu := 4000) (orc := (Zl [(0, true), (1, true), (3, false)] [] [] [] [])) (live := []) (u := Value.tuple #[vn, vi 240]) (bl := []) (ob := [((decide (a1 ≥ (-1099511627776 : Int))), false), ((decide (a0 ≤ (1099511627776 : Int))), true), ((decide (a0 ≥ (-1099511627776 : Int))), true)]) (by kernel_rfl) (oN <| oY <| oY Zf) rfl (by decide) (by rfl) rr trivial (Zh _ rfl)
  ·
   exact Zi Zj (r := (.r1 : ZaD)) (fu := 4000) (orc := (Zl [(0, true), (1, false)] [] [] [] [])) (live := []) (u := Value.tuple #[vn, vi 240]) (bl := []) (ob := [((decide (a0 ≤ (1099511627776 : Int))), false), ((decide (a0 ≥ (-1099511627776 : Int))), true)]) (by kernel_rfl) (oN <| oY Zf) rfl (by decide) (by rfl) rr trivial (Zh _ rfl)
 ·
  exact Zi Zj (r := (.r1 : ZaD)) (fu := 4000) (orc := (Zl [(0, false)] [] [] [] [])) (live := []) (u := Value.tuple #[vn, vi 240]) (bl := []) (ob := [((decide (a0 ≥ (-1099511627776 : Int))), false)]) (by kernel_rfl) (oN Zf) rfl (by decide) (by rfl) rr trivial (Zh _ rfl)

theorem Zk0 (a0 a1 : Int) (N : Nat) (r : ZaD) (h : Zcj a0 a1 N = some r) : LSpec Tryz.prog 5 #[vi a0, vi a1] [] (Zpt a0 a1 r) (Zoe a0 a1 r) :=
 (Zth a0 a1 N) r h

noncomputable def Zof (a0 a1 w2 w3 w4 : Int) (n : Nat) : ZB := .call [] (Value.tuple #[vs n 0 20 20, vq]) [(n, some (.cells [vi 10, vq, vq, vq, vi 1, vi 1, vi a0, vq, vi 1, vi 6, vi a1, vq, vi 15, vq, vq, vq, vi 13, vi 3, vq, vi w2, vi 9, vi 3, vi 13, vq, vi 13, vi 4, vi 3, vi 1, vi 7, vi 5, vi 4, vi 1, vi 9, vi 5, vi 11, vq, vi 14, vi 3, vi 2, vi 6, vi 8, vi 19, vq, vq, vi 13, vi 3, vi 3, vq, vi 8, vi 5, vq, vq, vi 11, vi 2, vi 3, vi 1, vi 14, vi 2, vi 1, vi 1, vi 14, vi 2, vi 2, vi 6, vi 13, vi 3, vq, vi w3, vi 14, vi 2, vq, vi 3, vi 14, vq, vi w4, vi 2, vi 17, vq, vq, vq] 43))] 1
def Zjk (A : Array Value) (a0 a1 w2 w3 w4 : Int) (n : Nat) : Prop := Zk Tryz.prog 5 A [] (Value.tuple #[vs n 0 20 20, vq]) [(n, some (.cells [vi 10, vq, vq, vq, vi 1, vi 1, vi a0, vq, vi 1, vi 6, vi a1, vq, vi 15, vq, vq, vq, vi 13, vi 3, vq, vi w2, vi 9, vi 3, vi 13, vq, vi 13, vi 4, vi 3, vi 1, vi 7, vi 5, vi 4, vi 1, vi 9, vi 5, vi 11, vq, vi 14, vi 3, vi 2, vi 6, vi 8, vi 19, vq, vq, vi 13, vi 3, vi 3, vq, vi 8, vi 5, vq, vq, vi 11, vi 2, vi 3, vi 1, vi 14, vi 2, vi 1, vi 1, vi 14, vi 2, vi 2, vi 6, vi 13, vi 3, vq, vi w3, vi 14, vi 2, vq, vi 3, vi 14, vq, vi w4, vi 2, vi 17, vq, vq, vq] 43))] n 1

theorem Zog (A : Array Value) (a0 a1 w2 w3 w4 : Int) (N : Nat) (h : Zcj a0 a1 N = some (.r0 w2 w3 w4)) (n : Nat) (hA : A = #[vi a0, vi a1]) (hnd : ([] : List Nat).Nodup) (hlt : ∀ k ∈ ([] : List Nat), k < n) : Zjk A a0 a1 w2 w3 w4  n :=
 Zn hA (LSpec.callL (show LSpec Tryz.prog 5 #[vi a0, vi a1] [] (Value.tuple #[vs 0 0 20 20, vq]) [some (.cells [vi 10, vq, vq, vq, vi 1, vi 1, vi a0, vq, vi 1, vi 6, vi a1, vq, vi 15, vq, vq, vq, vi 13, vi 3, vq, vi w2, vi 9, vi 3, vi 13, vq, vi 13, vi 4, vi 3, vi 1, vi 7, vi 5, vi 4, vi 1, vi 9, vi 5, vi 11, vq, vi 14, vi 3, vi 2, vi 6, vi 8, vi 19, vq, vq, vi 13, vi 3, vi 3, vq, vi 8, vi 5, vq, vq, vi 11, vi 2, vi 3, vi 1, vi 14, vi 2, vi 1, vi 1, vi 14, vi 2, vi 2, vi 6, vi 13, vi 3, vq, vi w3, vi 14, vi 2, vq, vi 3, vi 14, vq, vi w4, vi 2, vi 17, vq, vq, vq] 43)] from Zk0 a0 a1 N _ h) [] n [0] rfl hnd hlt (show 0 ≤ 1 from by decide) (show ∀ j ∈ ([0] : List Nat), j < 1 from by decide) (by rfl) trivial (by rfl) ⟨rfl, trivial⟩ ⟨(by decide), trivial⟩ rfl rfl rfl rfl (Za (ZdH rfl (ZkT rfl)) rfl))

noncomputable def ZgK (a0 a1 : Int) (n : Nat) : ZB := .call [] (Value.tuple #[vn, vi 240]) [] 0
def ZfW (A : Array Value) (a0 a1 : Int) (n : Nat) : Prop := Zk Tryz.prog 5 A [] (Value.tuple #[vn, vi 240]) [] n 0

theorem ZgL (A : Array Value) (a0 a1 : Int) (N : Nat) (h : Zcj a0 a1 N = some (.r1)) (n : Nat) (hA : A = #[vi a0, vi a1]) (hnd : ([] : List Nat).Nodup) (hlt : ∀ k ∈ ([] : List Nat), k < n) : ZfW A a0 a1  n :=
 Zn hA (LSpec.callL (show LSpec Tryz.prog 5 #[vi a0, vi a1] [] (Value.tuple #[vn, vi 240]) [] from Zk0 a0 a1 N _ h) [] n [] rfl hnd hlt (show 0 ≤ 0 from by decide) (show ∀ j ∈ ([] : List Nat), j < 0 from by decide) (by rfl) trivial (by rfl) trivial trivial rfl rfl rfl rfl rfl)

noncomputable def ZjM  : Zcw → Value
 | .r0 => vq
noncomputable def ZiI  : Zcw → List (Option AObj)
 | .r0 => []

theorem ZoR  (N : Nat) : Gx Tryz.prog 27 [] #[Value.agg #[vi 1, vi 7, vq, vq]] (ZjM ) (ZiI ) (Zdf  N) := by
 unfold Zdf
 exact Zi Zj (r := (.r0 : Zcw)) (fu := 4000) (orc := (Zl [] [] [] [] [])) (live := []) (u := vq) (bl := []) (ob := []) (by kernel_rfl) Zf rfl (by decide) (by rfl) rr trivial (Zh _ rfl)

theorem Znz  (N : Nat) (r : Zcw) (h : Zdf  N = some r) : LSpec Tryz.prog 27 #[Value.agg #[vi 1, vi 7, vq, vq]] [] (ZjM  r) (ZiI  r) :=
 (ZoR  N) r h

noncomputable def Zcb  (n : Nat) : ZB := .call [] (vq) [] 0
def ZbI (A : Array Value)  (n : Nat) : Prop := Zk Tryz.prog 27 A [] (vq) [] n 0

theorem Zcc (A : Array Value)  (N : Nat) (h : Zdf  N = some (.r0)) (n : Nat) (hA : A = #[Value.agg #[vi 1, vi 7, vq, vq]]) (hnd : ([] : List Nat).Nodup) (hlt : ∀ k ∈ ([] : List Nat), k < n) : ZbI A   n :=
 Zn hA (LSpec.callL (show LSpec Tryz.prog 27 #[Value.agg #[vi 1, vi 7, vq, vq]] [] (vq) [] from Znz  N _ h) [] n [] rfl hnd hlt (show 0 ≤ 0 from by decide) (show ∀ j ∈ ([] : List Nat), j < 0 from by decide) (by rfl) trivial (by rfl) trivial trivial rfl rfl rfl rfl rfl)

noncomputable def ZjN  : Zcx → Value
 | .r0 => vq
noncomputable def ZiJ  : Zcx → List (Option AObj)
 | .r0 => []

theorem ZoS  (N : Nat) : Gx Tryz.prog 27 [] #[Value.agg #[vi 1, vi 6, vq, vq]] (ZjN ) (ZiJ ) (Zdg  N) := by
 unfold Zdg
 exact Zi Zj (r := (.r0 : Zcx)) (fu := 4000) (orc := (Zl [] [] [] [] [])) (live := []) (u := vq) (bl := []) (ob := []) (by kernel_rfl) Zf rfl (by decide) (by rfl) rr trivial (Zh _ rfl)

theorem Zn0  (N : Nat) (r : Zcx) (h : Zdg  N = some r) : LSpec Tryz.prog 27 #[Value.agg #[vi 1, vi 6, vq, vq]] [] (ZjN  r) (ZiJ  r) :=
 (ZoS  N) r h

noncomputable def Zcd  (n : Nat) : ZB := .call [] (vq) [] 0
def ZbJ (A : Array Value)  (n : Nat) : Prop := Zk Tryz.prog 27 A [] (vq) [] n 0

theorem Zce (A : Array Value)  (N : Nat) (h : Zdg  N = some (.r0)) (n : Nat) (hA : A = #[Value.agg #[vi 1, vi 6, vq, vq]]) (hnd : ([] : List Nat).Nodup) (hlt : ∀ k ∈ ([] : List Nat), k < n) : ZbJ A   n :=
 Zn hA (LSpec.callL (show LSpec Tryz.prog 27 #[Value.agg #[vi 1, vi 6, vq, vq]] [] (vq) [] from Zn0  N _ h) [] n [] rfl hnd hlt (show 0 ≤ 0 from by decide) (show ∀ j ∈ ([] : List Nat), j < 0 from by decide) (by rfl) trivial (by rfl) trivial trivial rfl rfl rfl rfl rfl)

noncomputable def ZjO  : Zcy → Value
 | .r0 => vq
noncomputable def ZiK  : Zcy → List (Option AObj)
 | .r0 => []

theorem ZoT  (N : Nat) : Gx Tryz.prog 27 [] #[Value.agg #[vi 9, vi 3, vi 14, vq]] (ZjO ) (ZiK ) (Zdh  N) := by
 unfold Zdh
 exact Zi Zj (r := (.r0 : Zcy)) (fu := 4000) (orc := (Zl [] [] [] [] [])) (live := []) (u := vq) (bl := []) (ob := []) (by kernel_rfl) Zf rfl (by decide) (by rfl) rr trivial (Zh _ rfl)

theorem Zn1  (N : Nat) (r : Zcy) (h : Zdh  N = some r) : LSpec Tryz.prog 27 #[Value.agg #[vi 9, vi 3, vi 14, vq]] [] (ZjO  r) (ZiK  r) :=
 (ZoT  N) r h

noncomputable def ZeP  (n : Nat) : ZB := .call [] (vq) [] 0
def Zdz (A : Array Value)  (n : Nat) : Prop := Zk Tryz.prog 27 A [] (vq) [] n 0

theorem ZeQ (A : Array Value)  (N : Nat) (h : Zdh  N = some (.r0)) (n : Nat) (hA : A = #[Value.agg #[vi 9, vi 3, vi 14, vq]]) (hnd : ([] : List Nat).Nodup) (hlt : ∀ k ∈ ([] : List Nat), k < n) : Zdz A   n :=
 Zn hA (LSpec.callL (show LSpec Tryz.prog 27 #[Value.agg #[vi 9, vi 3, vi 14, vq]] [] (vq) [] from Zn1  N _ h) [] n [] rfl hnd hlt (show 0 ≤ 0 from by decide) (show ∀ j ∈ ([] : List Nat), j < 0 from by decide) (by rfl) trivial (by rfl) trivial trivial rfl rfl rfl rfl rfl)

noncomputable def ZjP  : Zcz → Value
 | .r0 => vq
noncomputable def ZiL  : Zcz → List (Option AObj)
 | .r0 => []

theorem ZoU  (N : Nat) : Gx Tryz.prog 27 [] #[Value.agg #[vi 7, vi 7, vi 4, vi 1]] (ZjP ) (ZiL ) (Zdi  N) := by
 unfold Zdi
 exact Zi Zj (r := (.r0 : Zcz)) (fu := 4000) (orc := (Zl [] [] [] [] [])) (live := []) (u := vq) (bl := []) (ob := []) (by kernel_rfl) Zf rfl (by decide) (by rfl) rr trivial (Zh _ rfl)

theorem Zn2  (N : Nat) (r : Zcz) (h : Zdi  N = some r) : LSpec Tryz.prog 27 #[Value.agg #[vi 7, vi 7, vi 4, vi 1]] [] (ZjP  r) (ZiL  r) :=
 (ZoU  N) r h

noncomputable def ZeR  (n : Nat) : ZB := .call [] (vq) [] 0
def Zd0 (A : Array Value)  (n : Nat) : Prop := Zk Tryz.prog 27 A [] (vq) [] n 0

theorem ZeS (A : Array Value)  (N : Nat) (h : Zdi  N = some (.r0)) (n : Nat) (hA : A = #[Value.agg #[vi 7, vi 7, vi 4, vi 1]]) (hnd : ([] : List Nat).Nodup) (hlt : ∀ k ∈ ([] : List Nat), k < n) : Zd0 A   n :=
 Zn hA (LSpec.callL (show LSpec Tryz.prog 27 #[Value.agg #[vi 7, vi 7, vi 4, vi 1]] [] (vq) [] from Zn2  N _ h) [] n [] rfl hnd hlt (show 0 ≤ 0 from by decide) (show ∀ j ∈ ([] : List Nat), j < 0 from by decide) (by rfl) trivial (by rfl) trivial trivial rfl rfl rfl rfl rfl)

noncomputable def ZjQ  : Zc0 → Value
 | .r0 => vq
noncomputable def ZiM  : Zc0 → List (Option AObj)
 | .r0 => []

theorem ZoV  (N : Nat) : Gx Tryz.prog 27 [] #[Value.agg #[vi 9, vi 7, vi 12, vq]] (ZjQ ) (ZiM ) (Zdj  N) := by
 unfold Zdj
 exact Zi Zj (r := (.r0 : Zc0)) (fu := 4000) (orc := (Zl [] [] [] [] [])) (live := []) (u := vq) (bl := []) (ob := []) (by kernel_rfl) Zf rfl (by decide) (by rfl) rr trivial (Zh _ rfl)

theorem Zn3  (N : Nat) (r : Zc0) (h : Zdj  N = some r) : LSpec Tryz.prog 27 #[Value.agg #[vi 9, vi 7, vi 12, vq]] [] (ZjQ  r) (ZiM  r) :=
 (ZoV  N) r h

noncomputable def ZeT  (n : Nat) : ZB := .call [] (vq) [] 0
def Zd1 (A : Array Value)  (n : Nat) : Prop := Zk Tryz.prog 27 A [] (vq) [] n 0

theorem ZeU (A : Array Value)  (N : Nat) (h : Zdj  N = some (.r0)) (n : Nat) (hA : A = #[Value.agg #[vi 9, vi 7, vi 12, vq]]) (hnd : ([] : List Nat).Nodup) (hlt : ∀ k ∈ ([] : List Nat), k < n) : Zd1 A   n :=
 Zn hA (LSpec.callL (show LSpec Tryz.prog 27 #[Value.agg #[vi 9, vi 7, vi 12, vq]] [] (vq) [] from Zn3  N _ h) [] n [] rfl hnd hlt (show 0 ≤ 0 from by decide) (show ∀ j ∈ ([] : List Nat), j < 0 from by decide) (by rfl) trivial (by rfl) trivial trivial rfl rfl rfl rfl rfl)

noncomputable def ZjR  : Zc1 → Value
 | .r0 => vq
noncomputable def ZiN  : Zc1 → List (Option AObj)
 | .r0 => []

theorem ZoW  (N : Nat) : Gx Tryz.prog 27 [] #[Value.agg #[vi 13, vi 6, vi 3, vi 2]] (ZjR ) (ZiN ) (Zdk  N) := by
 unfold Zdk
 exact Zi Zj (r := (.r0 : Zc1)) (fu := 4000) (orc := (Zl [] [] [] [] [])) (live := []) (u := vq) (bl := []) (ob := []) (by kernel_rfl) Zf rfl (by decide) (by rfl) rr trivial (Zh _ rfl)

theorem Zn4  (N : Nat) (r : Zc1) (h : Zdk  N = some r) : LSpec Tryz.prog 27 #[Value.agg #[vi 13, vi 6, vi 3, vi 2]] [] (ZjR  r) (ZiN  r) :=
 (ZoW  N) r h

noncomputable def ZeV  (n : Nat) : ZB := .call [] (vq) [] 0
def Zd2 (A : Array Value)  (n : Nat) : Prop := Zk Tryz.prog 27 A [] (vq) [] n 0

theorem ZeW (A : Array Value)  (N : Nat) (h : Zdk  N = some (.r0)) (n : Nat) (hA : A = #[Value.agg #[vi 13, vi 6, vi 3, vi 2]]) (hnd : ([] : List Nat).Nodup) (hlt : ∀ k ∈ ([] : List Nat), k < n) : Zd2 A   n :=
 Zn hA (LSpec.callL (show LSpec Tryz.prog 27 #[Value.agg #[vi 13, vi 6, vi 3, vi 2]] [] (vq) [] from Zn4  N _ h) [] n [] rfl hnd hlt (show 0 ≤ 0 from by decide) (show ∀ j ∈ ([] : List Nat), j < 0 from by decide) (by rfl) trivial (by rfl) trivial trivial rfl rfl rfl rfl rfl)

noncomputable def ZjS  : Zc2 → Value
 | .r0 => vq
noncomputable def ZiO  : Zc2 → List (Option AObj)
 | .r0 => []

theorem ZoX  (N : Nat) : Gx Tryz.prog 27 [] #[Value.agg #[vi 8, vi 14, vq, vq]] (ZjS ) (ZiO ) (Zdl  N) := by
 unfold Zdl
 exact Zi Zj (r := (.r0 : Zc2)) (fu := 4000) (orc := (Zl [] [] [] [] [])) (live := []) (u := vq) (bl := []) (ob := []) (by kernel_rfl) Zf rfl (by decide) (by rfl) rr trivial (Zh _ rfl)

theorem Zn5  (N : Nat) (r : Zc2) (h : Zdl  N = some r) : LSpec Tryz.prog 27 #[Value.agg #[vi 8, vi 14, vq, vq]] [] (ZjS  r) (ZiO  r) :=
 (ZoX  N) r h

noncomputable def ZeX  (n : Nat) : ZB := .call [] (vq) [] 0
def Zd3 (A : Array Value)  (n : Nat) : Prop := Zk Tryz.prog 27 A [] (vq) [] n 0

theorem ZeY (A : Array Value)  (N : Nat) (h : Zdl  N = some (.r0)) (n : Nat) (hA : A = #[Value.agg #[vi 8, vi 14, vq, vq]]) (hnd : ([] : List Nat).Nodup) (hlt : ∀ k ∈ ([] : List Nat), k < n) : Zd3 A   n :=
 Zn hA (LSpec.callL (show LSpec Tryz.prog 27 #[Value.agg #[vi 8, vi 14, vq, vq]] [] (vq) [] from Zn5  N _ h) [] n [] rfl hnd hlt (show 0 ≤ 0 from by decide) (show ∀ j ∈ ([] : List Nat), j < 0 from by decide) (by rfl) trivial (by rfl) trivial trivial rfl rfl rfl rfl rfl)

noncomputable def ZjT  : Zc3 → Value
 | .r0 => vq
noncomputable def ZiP  : Zc3 → List (Option AObj)
 | .r0 => []

theorem ZoY  (N : Nat) : Gx Tryz.prog 27 [] #[Value.agg #[vi 8, vi 6, vq, vq]] (ZjT ) (ZiP ) (Zdm  N) := by
 unfold Zdm
 exact Zi Zj (r := (.r0 : Zc3)) (fu := 4000) (orc := (Zl [] [] [] [] [])) (live := []) (u := vq) (bl := []) (ob := []) (by kernel_rfl) Zf rfl (by decide) (by rfl) rr trivial (Zh _ rfl)

theorem Zn6  (N : Nat) (r : Zc3) (h : Zdm  N = some r) : LSpec Tryz.prog 27 #[Value.agg #[vi 8, vi 6, vq, vq]] [] (ZjT  r) (ZiP  r) :=
 (ZoY  N) r h

noncomputable def ZeZ  (n : Nat) : ZB := .call [] (vq) [] 0
def Zd4 (A : Array Value)  (n : Nat) : Prop := Zk Tryz.prog 27 A [] (vq) [] n 0

theorem Zfa (A : Array Value)  (N : Nat) (h : Zdm  N = some (.r0)) (n : Nat) (hA : A = #[Value.agg #[vi 8, vi 6, vq, vq]]) (hnd : ([] : List Nat).Nodup) (hlt : ∀ k ∈ ([] : List Nat), k < n) : Zd4 A   n :=
 Zn hA (LSpec.callL (show LSpec Tryz.prog 27 #[Value.agg #[vi 8, vi 6, vq, vq]] [] (vq) [] from Zn6  N _ h) [] n [] rfl hnd hlt (show 0 ≤ 0 from by decide) (show ∀ j ∈ ([] : List Nat), j < 0 from by decide) (by rfl) trivial (by rfl) trivial trivial rfl rfl rfl rfl rfl)

noncomputable def ZjU  : Zc4 → Value
 | .r0 => vq
noncomputable def ZiQ  : Zc4 → List (Option AObj)
 | .r0 => []

theorem ZoZ  (N : Nat) : Gx Tryz.prog 27 [] #[Value.agg #[vi 19, vi 7, vq, vq]] (ZjU ) (ZiQ ) (Zdn  N) := by
 unfold Zdn
 exact Zi Zj (r := (.r0 : Zc4)) (fu := 4000) (orc := (Zl [] [] [] [] [])) (live := []) (u := vq) (bl := []) (ob := []) (by kernel_rfl) Zf rfl (by decide) (by rfl) rr trivial (Zh _ rfl)

theorem Zn7  (N : Nat) (r : Zc4) (h : Zdn  N = some r) : LSpec Tryz.prog 27 #[Value.agg #[vi 19, vi 7, vq, vq]] [] (ZjU  r) (ZiQ  r) :=
 (ZoZ  N) r h

noncomputable def Zfb  (n : Nat) : ZB := .call [] (vq) [] 0
def Zd5 (A : Array Value)  (n : Nat) : Prop := Zk Tryz.prog 27 A [] (vq) [] n 0

theorem Zfc (A : Array Value)  (N : Nat) (h : Zdn  N = some (.r0)) (n : Nat) (hA : A = #[Value.agg #[vi 19, vi 7, vq, vq]]) (hnd : ([] : List Nat).Nodup) (hlt : ∀ k ∈ ([] : List Nat), k < n) : Zd5 A   n :=
 Zn hA (LSpec.callL (show LSpec Tryz.prog 27 #[Value.agg #[vi 19, vi 7, vq, vq]] [] (vq) [] from Zn7  N _ h) [] n [] rfl hnd hlt (show 0 ≤ 0 from by decide) (show ∀ j ∈ ([] : List Nat), j < 0 from by decide) (by rfl) trivial (by rfl) trivial trivial rfl rfl rfl rfl rfl)

noncomputable def ZjV  : Zc5 → Value
 | .r0 => vq
noncomputable def ZiR  : Zc5 → List (Option AObj)
 | .r0 => []

theorem Zpa  (N : Nat) : Gx Tryz.prog 27 [] #[Value.agg #[vi 19, vi 6, vq, vq]] (ZjV ) (ZiR ) (Zdo  N) := by
 unfold Zdo
 exact Zi Zj (r := (.r0 : Zc5)) (fu := 4000) (orc := (Zl [] [] [] [] [])) (live := []) (u := vq) (bl := []) (ob := []) (by kernel_rfl) Zf rfl (by decide) (by rfl) rr trivial (Zh _ rfl)

theorem Zn8  (N : Nat) (r : Zc5) (h : Zdo  N = some r) : LSpec Tryz.prog 27 #[Value.agg #[vi 19, vi 6, vq, vq]] [] (ZjV  r) (ZiR  r) :=
 (Zpa  N) r h

noncomputable def Zfd  (n : Nat) : ZB := .call [] (vq) [] 0
def Zd6 (A : Array Value)  (n : Nat) : Prop := Zk Tryz.prog 27 A [] (vq) [] n 0

theorem Zfe (A : Array Value)  (N : Nat) (h : Zdo  N = some (.r0)) (n : Nat) (hA : A = #[Value.agg #[vi 19, vi 6, vq, vq]]) (hnd : ([] : List Nat).Nodup) (hlt : ∀ k ∈ ([] : List Nat), k < n) : Zd6 A   n :=
 Zn hA (LSpec.callL (show LSpec Tryz.prog 27 #[Value.agg #[vi 19, vi 6, vq, vq]] [] (vq) [] from Zn8  N _ h) [] n [] rfl hnd hlt (show 0 ≤ 0 from by decide) (show ∀ j ∈ ([] : List Nat), j < 0 from by decide) (by rfl) trivial (by rfl) trivial trivial rfl rfl rfl rfl rfl)

noncomputable def ZqQ (a0 : Int) : Zaz → Value
 | .r0 => Value.tuple #[vs 0 0 17 17, vq]
 | .r1 => Value.tuple #[vn, vq]
 | .r2 => Value.tuple #[vn, vi 240]
noncomputable def Zpu (a0 : Int) : Zaz → List (Option AObj)
 | .r0 => [some (.cells [vi 10, vq, vq, vq, vi 1, vi 1, vi a0, vq, vi 1, vi 7, vq, vq, vi 1, vi 6, vq, vq, vi 15, vq, vq, vq, vi 13, vi 3, vq, vi (a0 % (8 : Int)), vi 9, vi 3, vi 14, vq, vi 13, vi 4, vi 3, vi 1, vi 7, vi 7, vi 4, vi 1, vi 9, vi 7, vi 12, vq, vi 13, vi 6, vi 3, vi 2, vi 8, vi 14, vq, vq, vi 13, vi 3, vi 3, vq, vi 8, vi 6, vq, vq, vi 17, vq, vq, vq, vi 19, vi 7, vq, vq, vi 19, vi 6, vq, vq] 43)]
 | .r1 => []
 | .r2 => []

theorem Zt6 (a0 : Int) (N : Nat) : Gx Tryz.prog 6 [] #[vi a0] (ZqQ a0) (Zpu a0) (Zck a0 N) := by
 unfold Zck
 refine ZR (fun g0 => ?_) (fun g0 => ?_)
 ·
  refine ZR (fun g1 => ?_) (fun g1 => ?_)
  ·
   refine Ze (fun z2 c2 => ?_)
   cases z2 with
   | r0 =>
    refine Ze (fun z3 c3 => ?_)
    cases z3 with
    | r0 =>
     refine Ze (fun z4 c4 => ?_)
     cases z4 with
     | r0 =>
      refine Ze (fun z5 c5 => ?_)
      cases z5 with
      | r0 =>
       refine Ze (fun z6 c6 => ?_)
       cases z6 with
       | r0 =>
        refine Ze (fun z7 c7 => ?_)
        cases z7 with
        | r0 =>
         refine Ze (fun z8 c8 => ?_)
         cases z8 with
         | r0 =>
          refine Ze (fun z9 c9 => ?_)
          cases z9 with
          | r0 =>
           refine Ze (fun z10 c10 => ?_)
           cases z10 with
           | r0 =>
            refine Ze (fun z11 c11 => ?_)
            cases z11 with
            | r0 =>
             refine Ze (fun z12 c12 => ?_)
             cases z12 with
             | r0 =>
              refine Ze (fun z13 c13 => ?_)
              cases z13 with
              | r0 =>
               refine Ze (fun z14 c14 => ?_)
               cases z14 with
               | r0 =>
                refine Ze (fun z15 c15 => ?_)
                cases z15 with
                | r0 =>
                 refine Ze (fun z16 c16 => ?_)
                 cases z16 with
                 | r0 =>
                  refine Ze (fun z17 c17 => ?_)
                  cases z17 with
                  | r0 =>
                   refine Ze (fun z18 c18 => ?_)
                   cases z18 with
                   | r0 =>
                    refine Ze (fun z19 c19 => ?_)
                    cases z19 with
                    | r0 =>
                     refine Ze (fun z20 c20 => ?_)
                     cases z20 with
                     | r0 =>
                      refine Ze (fun z21 c21 => ?_)
                      cases z21 with
                      | r0 =>
                       refine Ze (fun z22 c22 => ?_)
                       cases z22 with
                       | r0 =>
                        refine Ze (fun z23 c23 => ?_)
                        cases z23 with
                        | r0 =>
                         refine Ze (fun z24 c24 => ?_)
                         cases z24 with
                         | r0 =>
                          refine Ze (fun z25 c25 => ?_)
                          cases z25 with
                          | r0 =>
                           refine Ze (fun z26 c26 => ?_)
                           cases z26 with
                           | r0 =>
                            refine Ze (fun z27 c27 => ?_)
                            cases z27 with
                            | r0 =>
                             refine Ze (fun z28 c28 => ?_)
                             cases z28 with
                             | r0 =>
                              refine Ze (fun z29 c29 => ?_)
                              cases z29 with
                              | r0 =>
                               refine Ze (fun z30 c30 => ?_)
                               cases z30 with
                               | r0 =>
                                refine Ze (fun z31 c31 => ?_)
                                cases z31 with
                                | r0 =>
                                 refine Ze (fun z32 c32 => ?_)
                                 cases z32 with
                                 | r0 =>
                                  refine Ze (fun z33 c33 => ?_)
                                  cases z33 with
                                  | r0 =>
                                   refine Ze (fun z34 c34 => ?_)
                                   cases z34 with
                                   | r0 =>
                                    refine Ze (fun z35 c35 => ?_)
                                    cases z35 with
                                    | r0 =>
                                     exact Zi Zj (r := (.r0 : Zaz)) (fu := 4000) (orc := (Zl [(0, true), (1, true)] [(0, (a0 % (8 : Int)))] [] [] [(4, (Zr     3)), (8, (Zw (a0)    7)), (12, (Zcb     11)), (16, (Zcd     15)), (20, (Z0     19)), (24, (Zu ((a0 % (8 : Int)))    23)), (28, (ZeP     27)), (32, (Z3     31)), (36, (ZeR     35)), (40, (ZeT     39)), (44, (ZeV     43)), (48, (ZeX     47)), (52, (ZP     51)), (56, (ZeZ     55)), (60, (ZL     59)), (64, (Zfb     63)), (68, (Zfd     67)), (71, (Zr     72)), (75, (Zw (a0)    78)), (79, (Zcb     84)), (83, (Zcd     90)), (87, (Z0     96)), (91, (Zu ((a0 % (8 : Int)))    102)), (95, (ZeP     108)), (100, (Z3     114)), (104, (ZeR     120)), (108, (ZeT     126)), (113, (ZeV     132)), (117, (ZeX     138)), (122, (ZP     144)), (126, (ZeZ     150)), (131, (ZL     156)), (135, (Zfb     162)), (139, (Zfd     168))])) (live := [171]) (u := Value.tuple #[vs 171 0 17 17, vq]) (bl := [some (.cells [vi 10, vq, vq, vq, vi 1, vi 1, vi a0, vq, vi 1, vi 7, vq, vq, vi 1, vi 6, vq, vq, vi 15, vq, vq, vq, vi 13, vi 3, vq, vi (a0 % (8 : Int)), vi 9, vi 3, vi 14, vq, vi 13, vi 4, vi 3, vi 1, vi 7, vi 7, vi 4, vi 1, vi 9, vi 7, vi 12, vq, vi 13, vi 6, vi 3, vi 2, vi 8, vi 14, vq, vq, vi 13, vi 3, vi 3, vq, vi 8, vi 6, vq, vq, vi 17, vq, vq, vq, vi 19, vi 7, vq, vq, vi 19, vi 6, vq, vq] 43)]) (ob := [(dP (Zd6 #[Value.agg #[vi 19, vi 6, vq, vq]]     168), true), (dP (Zd5 #[Value.agg #[vi 19, vi 7, vq, vq]]     162), true), (dP (ZI #[Value.agg #[vi 17, vq, vq, vq]]     156), true), (dP (Zd4 #[Value.agg #[vi 8, vi 6, vq, vq]]     150), true), (dP (ZK #[Value.agg #[vi 13, vi 3, vi 3, vq]]     144), true), (dP (Zd3 #[Value.agg #[vi 8, vi 14, vq, vq]]     138), true), (dP (Zd2 #[Value.agg #[vi 13, vi 6, vi 3, vi 2]]     132), true), (dP (Zd1 #[Value.agg #[vi 9, vi 7, vi 12, vq]]     126), true), (dP (Zd0 #[Value.agg #[vi 7, vi 7, vi 4, vi 1]]     120), true), (dP (Z2 #[Value.agg #[vi 13, vi 4, vi 3, vi 1]]     114), true), (dP (Zdz #[Value.agg #[vi 9, vi 3, vi 14, vq]]     108), true), (dP (Zq #[Value.agg #[vi 13, vi 3, vq, vi (a0 % (8 : Int))]] ((a0 % (8 : Int)))    102), true), (dP (Zy #[Value.agg #[vi 15, vq, vq, vq]]     96), true), (dP (ZbJ #[Value.agg #[vi 1, vi 6, vq, vq]]     90), true), (dP (ZbI #[Value.agg #[vi 1, vi 7, vq, vq]]     84), true), (dP (Zt #[Value.agg #[vi 1, vi 1, vi a0, vq]] (a0)    78), true), (dP (Zp #[Value.agg #[vi 10, vq, vq, vq]]     72), true), (dP (Zd6 #[Value.agg #[vi 19, vi 6, vq, vq]]     67), true), (dP (Zd5 #[Value.agg #[vi 19, vi 7, vq, vq]]     63), true), (dP (ZI #[Value.agg #[vi 17, vq, vq, vq]]     59), true), (dP (Zd4 #[Value.agg #[vi 8, vi 6, vq, vq]]     55), true), (dP (ZK #[Value.agg #[vi 13, vi 3, vi 3, vq]]     51), true), (dP (Zd3 #[Value.agg #[vi 8, vi 14, vq, vq]]     47), true), (dP (Zd2 #[Value.agg #[vi 13, vi 6, vi 3, vi 2]]     43), true), (dP (Zd1 #[Value.agg #[vi 9, vi 7, vi 12, vq]]     39), true), (dP (Zd0 #[Value.agg #[vi 7, vi 7, vi 4, vi 1]]     35), true), (dP (Z2 #[Value.agg #[vi 13, vi 4, vi 3, vi 1]]     31), true), (dP (Zdz #[Value.agg #[vi 9, vi 3, vi 14, vq]]     27), true), (dP (Zq #[Value.agg #[vi 13, vi 3, vq, vi (a0 % (8 : Int))]] ((a0 % (8 : Int)))    23), true), (dP (Zy #[Value.agg #[vi 15, vq, vq, vq]]     19), true), (dP (ZbJ #[Value.agg #[vi 1, vi 6, vq, vq]]     15), true), (dP (ZbI #[Value.agg #[vi 1, vi 7, vq, vq]]     11), true), (dP (Zt #[Value.agg #[vi 1, vi 1, vi a0, vq]] (a0)    7), true), (dP (Zp #[Value.agg #[vi 10, vq, vq, vq]]     3), true), ((IntKind.i64.wrap (((BitVec.ofInt IntKind.i64.bits a0 &&& BitVec.ofInt IntKind.i64.bits (7 : Int)).toNat : Nat) : Int)) == (a0 % (8 : Int)), true), ((decide (a0 ≤ (1099511627776 : Int))), true), ((decide (a0 ≥ (-1099511627776 : Int))), true)]) (by kernel_rfl) (Zb (Zc (Zfe #[Value.agg #[vi 19, vi 6, vq, vq]]    N c35  168 rfl (by decide) (by decide))) <| Zb (Zc (Zfc #[Value.agg #[vi 19, vi 7, vq, vq]]    N c34  162 rfl (by decide) (by decide))) <| Zb (Zc (ZM #[Value.agg #[vi 17, vq, vq, vq]]    N c33  156 rfl (by decide) (by decide))) <| Zb (Zc (Zfa #[Value.agg #[vi 8, vi 6, vq, vq]]    N c32  150 rfl (by decide) (by decide))) <| Zb (Zc (ZQ #[Value.agg #[vi 13, vi 3, vi 3, vq]]    N c31  144 rfl (by decide) (by decide))) <| Zb (Zc (ZeY #[Value.agg #[vi 8, vi 14, vq, vq]]    N c30  138 rfl (by decide) (by decide))) <| Zb (Zc (ZeW #[Value.agg #[vi 13, vi 6, vi 3, vi 2]]    N c29  132 rfl (by decide) (by decide))) <| Zb (Zc (ZeU #[Value.agg #[vi 9, vi 7, vi 12, vq]]    N c28  126 rfl (by decide) (by decide))) <| Zb (Zc (ZeS #[Value.agg #[vi 7, vi 7, vi 4, vi 1]]    N c27  120 rfl (by decide) (by decide))) <| Zb (Zc (Z4 #[Value.agg #[vi 13, vi 4, vi 3, vi 1]]    N c26  114 rfl (by decide) (by decide))) <| Zb (Zc (ZeQ #[Value.agg #[vi 9, vi 3, vi 14, vq]]    N c25  108 rfl (by decide) (by decide))) <| Zb (Zc (Zv #[Value.agg #[vi 13, vi 3, vq, vi (a0 % (8 : Int))]] ((a0 % (8 : Int)))   N c24  102 rfl (by decide) (by decide))) <| Zb (Zc (Z1 #[Value.agg #[vi 15, vq, vq, vq]]    N c23  96 rfl (by decide) (by decide))) <| Zb (Zc (Zce #[Value.agg #[vi 1, vi 6, vq, vq]]    N c22  90 rfl (by decide) (by decide))) <| Zb (Zc (Zcc #[Value.agg #[vi 1, vi 7, vq, vq]]    N c21  84 rfl (by decide) (by decide))) <| Zb (Zc (Zx #[Value.agg #[vi 1, vi 1, vi a0, vq]] (a0)   N c20  78 rfl (by decide) (by decide))) <| Zb (Zc (Zs #[Value.agg #[vi 10, vq, vq, vq]]    N c19  72 rfl (by decide) (by decide))) <| Zb (Zc (Zfe #[Value.agg #[vi 19, vi 6, vq, vq]]    N c18  67 rfl (by decide) (by decide))) <| Zb (Zc (Zfc #[Value.agg #[vi 19, vi 7, vq, vq]]    N c17  63 rfl (by decide) (by decide))) <| Zb (Zc (ZM #[Value.agg #[vi 17, vq, vq, vq]]    N c16  59 rfl (by decide) (by decide))) <| Zb (Zc (Zfa #[Value.agg #[vi 8, vi 6, vq, vq]]    N c15  55 rfl (by decide) (by decide))) <| Zb (Zc (ZQ #[Value.agg #[vi 13, vi 3, vi 3, vq]]    N c14  51 rfl (by decide) (by decide))) <| Zb (Zc (ZeY #[Value.agg #[vi 8, vi 14, vq, vq]]    N c13  47 rfl (by decide) (by decide))) <| Zb (Zc (ZeW #[Value.agg #[vi 13, vi 6, vi 3, vi 2]]    N c12  43 rfl (by decide) (by decide))) <| Zb (Zc (ZeU #[Value.agg #[vi 9, vi 7, vi 12, vq]]    N c11  39 rfl (by decide) (by decide))) <| Zb (Zc (ZeS #[Value.agg #[vi 7, vi 7, vi 4, vi 1]]    N c10  35 rfl (by decide) (by decide))) <| Zb (Zc (Z4 #[Value.agg #[vi 13, vi 4, vi 3, vi 1]]    N c9  31 rfl (by decide) (by decide))) <| Zb (Zc (ZeQ #[Value.agg #[vi 9, vi 3, vi 14, vq]]    N c8  27 rfl (by decide) (by decide))) <| Zb (Zc (Zv #[Value.agg #[vi 13, vi 3, vq, vi (a0 % (8 : Int))]] ((a0 % (8 : Int)))   N c7  23 rfl (by decide) (by decide))) <| Zb (Zc (Z1 #[Value.agg #[vi 15, vq, vq, vq]]    N c6  19 rfl (by decide) (by decide))) <| Zb (Zc (Zce #[Value.agg #[vi 1, vi 6, vq, vq]]    N c5  15 rfl (by decide) (by decide))) <| Zb (Zc (Zcc #[Value.agg #[vi 1, vi 7, vq, vq]]    N c4  11 rfl (by decide) (by decide))) <| Zb (Zc (Zx #[Value.agg #[vi 1, vi 1, vi a0, vq]] (a0)   N c3  7 rfl (by decide) (by decide))) <| Zb (Zc (Zs #[Value.agg #[vi 10, vq, vq, vq]]    N c2  3 rfl (by decide) (by decide))) <| Zb (beq_iff_eq.2 (ZS _)) <| oY <| oY Zf) rfl (by decide) (by rfl) rr ⟨⟨rfl, ⟨[], by rfl⟩, by rfl⟩, trivial⟩ (Zh _ rfl)
                         | r1 =>
                          exact Zi Zj (r := (.r1 : Zaz)) (fu := 4000) (orc := (Zl [(0, true), (1, true)] [(0, (a0 % (8 : Int)))] [] [] [(4, (Zr     3)), (8, (Zw (a0)    7)), (12, (Zcb     11)), (16, (Zcd     15)), (20, (Z0     19)), (24, (Zu ((a0 % (8 : Int)))    23)), (28, (ZeP     27)), (32, (Z3     31)), (36, (ZeR     35)), (40, (ZeT     39)), (44, (ZeV     43)), (48, (ZeX     47)), (52, (ZP     51)), (56, (ZeZ     55)), (60, (ZL     59)), (64, (Zfb     63)), (68, (Zfd     67)), (71, (Zr     72)), (75, (Zw (a0)    78)), (79, (Zcb     84)), (83, (Zcd     90)), (87, (Z0     96)), (91, (Zb2 ((a0 % (8 : Int)))    102))])) (live := []) (u := Value.tuple #[vn, vq]) (bl := []) (ob := [(dP (Zbp #[Value.agg #[vi 13, vi 3, vq, vi (a0 % (8 : Int))]] ((a0 % (8 : Int)))    102), true), (dP (Zy #[Value.agg #[vi 15, vq, vq, vq]]     96), true), (dP (ZbJ #[Value.agg #[vi 1, vi 6, vq, vq]]     90), true), (dP (ZbI #[Value.agg #[vi 1, vi 7, vq, vq]]     84), true), (dP (Zt #[Value.agg #[vi 1, vi 1, vi a0, vq]] (a0)    78), true), (dP (Zp #[Value.agg #[vi 10, vq, vq, vq]]     72), true), (dP (Zd6 #[Value.agg #[vi 19, vi 6, vq, vq]]     67), true), (dP (Zd5 #[Value.agg #[vi 19, vi 7, vq, vq]]     63), true), (dP (ZI #[Value.agg #[vi 17, vq, vq, vq]]     59), true), (dP (Zd4 #[Value.agg #[vi 8, vi 6, vq, vq]]     55), true), (dP (ZK #[Value.agg #[vi 13, vi 3, vi 3, vq]]     51), true), (dP (Zd3 #[Value.agg #[vi 8, vi 14, vq, vq]]     47), true), (dP (Zd2 #[Value.agg #[vi 13, vi 6, vi 3, vi 2]]     43), true), (dP (Zd1 #[Value.agg #[vi 9, vi 7, vi 12, vq]]     39), true), (dP (Zd0 #[Value.agg #[vi 7, vi 7, vi 4, vi 1]]     35), true), (dP (Z2 #[Value.agg #[vi 13, vi 4, vi 3, vi 1]]     31), true), (dP (Zdz #[Value.agg #[vi 9, vi 3, vi 14, vq]]     27), true), (dP (Zq #[Value.agg #[vi 13, vi 3, vq, vi (a0 % (8 : Int))]] ((a0 % (8 : Int)))    23), true), (dP (Zy #[Value.agg #[vi 15, vq, vq, vq]]     19), true), (dP (ZbJ #[Value.agg #[vi 1, vi 6, vq, vq]]     15), true), (dP (ZbI #[Value.agg #[vi 1, vi 7, vq, vq]]     11), true), (dP (Zt #[Value.agg #[vi 1, vi 1, vi a0, vq]] (a0)    7), true), (dP (Zp #[Value.agg #[vi 10, vq, vq, vq]]     3), true), ((IntKind.i64.wrap (((BitVec.ofInt IntKind.i64.bits a0 &&& BitVec.ofInt IntKind.i64.bits (7 : Int)).toNat : Nat) : Int)) == (a0 % (8 : Int)), true), ((decide (a0 ≤ (1099511627776 : Int))), true), ((decide (a0 ≥ (-1099511627776 : Int))), true)]) (by kernel_rfl) (Zb (Zc (Zb3 #[Value.agg #[vi 13, vi 3, vq, vi (a0 % (8 : Int))]] ((a0 % (8 : Int)))   N c24  102 rfl (by decide) (by decide))) <| Zb (Zc (Z1 #[Value.agg #[vi 15, vq, vq, vq]]    N c23  96 rfl (by decide) (by decide))) <| Zb (Zc (Zce #[Value.agg #[vi 1, vi 6, vq, vq]]    N c22  90 rfl (by decide) (by decide))) <| Zb (Zc (Zcc #[Value.agg #[vi 1, vi 7, vq, vq]]    N c21  84 rfl (by decide) (by decide))) <| Zb (Zc (Zx #[Value.agg #[vi 1, vi 1, vi a0, vq]] (a0)   N c20  78 rfl (by decide) (by decide))) <| Zb (Zc (Zs #[Value.agg #[vi 10, vq, vq, vq]]    N c19  72 rfl (by decide) (by decide))) <| Zb (Zc (Zfe #[Value.agg #[vi 19, vi 6, vq, vq]]    N c18  67 rfl (by decide) (by decide))) <| Zb (Zc (Zfc #[Value.agg #[vi 19, vi 7, vq, vq]]    N c17  63 rfl (by decide) (by decide))) <| Zb (Zc (ZM #[Value.agg #[vi 17, vq, vq, vq]]    N c16  59 rfl (by decide) (by decide))) <| Zb (Zc (Zfa #[Value.agg #[vi 8, vi 6, vq, vq]]    N c15  55 rfl (by decide) (by decide))) <| Zb (Zc (ZQ #[Value.agg #[vi 13, vi 3, vi 3, vq]]    N c14  51 rfl (by decide) (by decide))) <| Zb (Zc (ZeY #[Value.agg #[vi 8, vi 14, vq, vq]]    N c13  47 rfl (by decide) (by decide))) <| Zb (Zc (ZeW #[Value.agg #[vi 13, vi 6, vi 3, vi 2]]    N c12  43 rfl (by decide) (by decide))) <| Zb (Zc (ZeU #[Value.agg #[vi 9, vi 7, vi 12, vq]]    N c11  39 rfl (by decide) (by decide))) <| Zb (Zc (ZeS #[Value.agg #[vi 7, vi 7, vi 4, vi 1]]    N c10  35 rfl (by decide) (by decide))) <| Zb (Zc (Z4 #[Value.agg #[vi 13, vi 4, vi 3, vi 1]]    N c9  31 rfl (by decide) (by decide))) <| Zb (Zc (ZeQ #[Value.agg #[vi 9, vi 3, vi 14, vq]]    N c8  27 rfl (by decide) (by decide))) <| Zb (Zc (Zv #[Value.agg #[vi 13, vi 3, vq, vi (a0 % (8 : Int))]] ((a0 % (8 : Int)))   N c7  23 rfl (by decide) (by decide))) <| Zb (Zc (Z1 #[Value.agg #[vi 15, vq, vq, vq]]    N c6  19 rfl (by decide) (by decide))) <| Zb (Zc (Zce #[Value.agg #[vi 1, vi 6, vq, vq]]    N c5  15 rfl (by decide) (by decide))) <| Zb (Zc (Zcc #[Value.agg #[vi 1, vi 7, vq, vq]]    N c4  11 rfl (by decide) (by decide))) <| Zb (Zc (Zx #[Value.agg #[vi 1, vi 1, vi a0, vq]] (a0)   N c3  7 rfl (by decide) (by decide))) <| Zb (Zc (Zs #[Value.agg #[vi 10, vq, vq, vq]]    N c2  3 rfl (by decide) (by decide))) <| Zb (beq_iff_eq.2 (ZS _)) <| oY <| oY Zf) rfl (by decide) (by rfl) rr trivial (Zh _ rfl)
                     | r1 =>
                      exact Zi Zj (r := (.r1 : Zaz)) (fu := 4000) (orc := (Zl [(0, true), (1, true)] [(0, (a0 % (8 : Int)))] [] [] [(4, (Zr     3)), (8, (Zw (a0)    7)), (12, (Zcb     11)), (16, (Zcd     15)), (20, (Z0     19)), (24, (Zu ((a0 % (8 : Int)))    23)), (28, (ZeP     27)), (32, (Z3     31)), (36, (ZeR     35)), (40, (ZeT     39)), (44, (ZeV     43)), (48, (ZeX     47)), (52, (ZP     51)), (56, (ZeZ     55)), (60, (ZL     59)), (64, (Zfb     63)), (68, (Zfd     67)), (71, (Zr     72)), (75, (ZcG (a0)    78))])) (live := []) (u := Value.tuple #[vn, vq]) (bl := []) (ob := [(dP (ZbU #[Value.agg #[vi 1, vi 1, vi a0, vq]] (a0)    78), true), (dP (Zp #[Value.agg #[vi 10, vq, vq, vq]]     72), true), (dP (Zd6 #[Value.agg #[vi 19, vi 6, vq, vq]]     67), true), (dP (Zd5 #[Value.agg #[vi 19, vi 7, vq, vq]]     63), true), (dP (ZI #[Value.agg #[vi 17, vq, vq, vq]]     59), true), (dP (Zd4 #[Value.agg #[vi 8, vi 6, vq, vq]]     55), true), (dP (ZK #[Value.agg #[vi 13, vi 3, vi 3, vq]]     51), true), (dP (Zd3 #[Value.agg #[vi 8, vi 14, vq, vq]]     47), true), (dP (Zd2 #[Value.agg #[vi 13, vi 6, vi 3, vi 2]]     43), true), (dP (Zd1 #[Value.agg #[vi 9, vi 7, vi 12, vq]]     39), true), (dP (Zd0 #[Value.agg #[vi 7, vi 7, vi 4, vi 1]]     35), true), (dP (Z2 #[Value.agg #[vi 13, vi 4, vi 3, vi 1]]     31), true), (dP (Zdz #[Value.agg #[vi 9, vi 3, vi 14, vq]]     27), true), (dP (Zq #[Value.agg #[vi 13, vi 3, vq, vi (a0 % (8 : Int))]] ((a0 % (8 : Int)))    23), true), (dP (Zy #[Value.agg #[vi 15, vq, vq, vq]]     19), true), (dP (ZbJ #[Value.agg #[vi 1, vi 6, vq, vq]]     15), true), (dP (ZbI #[Value.agg #[vi 1, vi 7, vq, vq]]     11), true), (dP (Zt #[Value.agg #[vi 1, vi 1, vi a0, vq]] (a0)    7), true), (dP (Zp #[Value.agg #[vi 10, vq, vq, vq]]     3), true), ((IntKind.i64.wrap (((BitVec.ofInt IntKind.i64.bits a0 &&& BitVec.ofInt IntKind.i64.bits (7 : Int)).toNat : Nat) : Int)) == (a0 % (8 : Int)), true), ((decide (a0 ≤ (1099511627776 : Int))), true), ((decide (a0 ≥ (-1099511627776 : Int))), true)]) (by kernel_rfl) (Zb (Zc (ZcH #[Value.agg #[vi 1, vi 1, vi a0, vq]] (a0)   N c20  78 rfl (by decide) (by decide))) <| Zb (Zc (Zs #[Value.agg #[vi 10, vq, vq, vq]]    N c19  72 rfl (by decide) (by decide))) <| Zb (Zc (Zfe #[Value.agg #[vi 19, vi 6, vq, vq]]    N c18  67 rfl (by decide) (by decide))) <| Zb (Zc (Zfc #[Value.agg #[vi 19, vi 7, vq, vq]]    N c17  63 rfl (by decide) (by decide))) <| Zb (Zc (ZM #[Value.agg #[vi 17, vq, vq, vq]]    N c16  59 rfl (by decide) (by decide))) <| Zb (Zc (Zfa #[Value.agg #[vi 8, vi 6, vq, vq]]    N c15  55 rfl (by decide) (by decide))) <| Zb (Zc (ZQ #[Value.agg #[vi 13, vi 3, vi 3, vq]]    N c14  51 rfl (by decide) (by decide))) <| Zb (Zc (ZeY #[Value.agg #[vi 8, vi 14, vq, vq]]    N c13  47 rfl (by decide) (by decide))) <| Zb (Zc (ZeW #[Value.agg #[vi 13, vi 6, vi 3, vi 2]]    N c12  43 rfl (by decide) (by decide))) <| Zb (Zc (ZeU #[Value.agg #[vi 9, vi 7, vi 12, vq]]    N c11  39 rfl (by decide) (by decide))) <| Zb (Zc (ZeS #[Value.agg #[vi 7, vi 7, vi 4, vi 1]]    N c10  35 rfl (by decide) (by decide))) <| Zb (Zc (Z4 #[Value.agg #[vi 13, vi 4, vi 3, vi 1]]    N c9  31 rfl (by decide) (by decide))) <| Zb (Zc (ZeQ #[Value.agg #[vi 9, vi 3, vi 14, vq]]    N c8  27 rfl (by decide) (by decide))) <| Zb (Zc (Zv #[Value.agg #[vi 13, vi 3, vq, vi (a0 % (8 : Int))]] ((a0 % (8 : Int)))   N c7  23 rfl (by decide) (by decide))) <| Zb (Zc (Z1 #[Value.agg #[vi 15, vq, vq, vq]]    N c6  19 rfl (by decide) (by decide))) <| Zb (Zc (Zce #[Value.agg #[vi 1, vi 6, vq, vq]]    N c5  15 rfl (by decide) (by decide))) <| Zb (Zc (Zcc #[Value.agg #[vi 1, vi 7, vq, vq]]    N c4  11 rfl (by decide) (by decide))) <| Zb (Zc (Zx #[Value.agg #[vi 1, vi 1, vi a0, vq]] (a0)   N c3  7 rfl (by decide) (by decide))) <| Zb (Zc (Zs #[Value.agg #[vi 10, vq, vq, vq]]    N c2  3 rfl (by decide) (by decide))) <| Zb (beq_iff_eq.2 (ZS _)) <| oY <| oY Zf) rfl (by decide) (by rfl) rr trivial (Zh _ rfl)
        | r1 =>
         exact Zi Zj (r := (.r1 : Zaz)) (fu := 4000) (orc := (Zl [(0, true), (1, true)] [(0, (a0 % (8 : Int)))] [] [] [(4, (Zr     3)), (8, (Zw (a0)    7)), (12, (Zcb     11)), (16, (Zcd     15)), (20, (Z0     19)), (24, (Zb2 ((a0 % (8 : Int)))    23))])) (live := []) (u := Value.tuple #[vn, vq]) (bl := []) (ob := [(dP (Zbp #[Value.agg #[vi 13, vi 3, vq, vi (a0 % (8 : Int))]] ((a0 % (8 : Int)))    23), true), (dP (Zy #[Value.agg #[vi 15, vq, vq, vq]]     19), true), (dP (ZbJ #[Value.agg #[vi 1, vi 6, vq, vq]]     15), true), (dP (ZbI #[Value.agg #[vi 1, vi 7, vq, vq]]     11), true), (dP (Zt #[Value.agg #[vi 1, vi 1, vi a0, vq]] (a0)    7), true), (dP (Zp #[Value.agg #[vi 10, vq, vq, vq]]     3), true), ((IntKind.i64.wrap (((BitVec.ofInt IntKind.i64.bits a0 &&& BitVec.ofInt IntKind.i64.bits (7 : Int)).toNat : Nat) : Int)) == (a0 % (8 : Int)), true), ((decide (a0 ≤ (1099511627776 : Int))), true), ((decide (a0 ≥ (-1099511627776 : Int))), true)]) (by kernel_rfl) (Zb (Zc (Zb3 #[Value.agg #[vi 13, vi 3, vq, vi (a0 % (8 : Int))]] ((a0 % (8 : Int)))   N c7  23 rfl (by decide) (by decide))) <| Zb (Zc (Z1 #[Value.agg #[vi 15, vq, vq, vq]]    N c6  19 rfl (by decide) (by decide))) <| Zb (Zc (Zce #[Value.agg #[vi 1, vi 6, vq, vq]]    N c5  15 rfl (by decide) (by decide))) <| Zb (Zc (Zcc #[Value.agg #[vi 1, vi 7, vq, vq]]    N c4  11 rfl (by decide) (by decide))) <| Zb (Zc (Zx #[Value.agg #[vi 1, vi 1, vi a0, vq]] (a0)   N c3  7 rfl (by decide) (by decide))) <| Zb (Zc (Zs #[Value.agg #[vi 10, vq, vq, vq]]    N c2  3 rfl (by decide) (by decide))) <| Zb (beq_iff_eq.2 (ZS _)) <| oY <| oY Zf) rfl (by decide) (by rfl) rr trivial (Zh _ rfl)
    | r1 =>
     exact Zi Zj (r := (.r1 : Zaz)) (fu := 4000) (orc := (Zl [(0, true), (1, true)] [(0, (a0 % (8 : Int)))] [] [] [(4, (Zr     3)), (8, (ZcG (a0)    7))])) (live := []) (u := Value.tuple #[vn, vq]) (bl := []) (ob := [(dP (ZbU #[Value.agg #[vi 1, vi 1, vi a0, vq]] (a0)    7), true), (dP (Zp #[Value.agg #[vi 10, vq, vq, vq]]     3), true), ((IntKind.i64.wrap (((BitVec.ofInt IntKind.i64.bits a0 &&& BitVec.ofInt IntKind.i64.bits (7 : Int)).toNat : Nat) : Int)) == (a0 % (8 : Int)), true), ((decide (a0 ≤ (1099511627776 : Int))), true), ((decide (a0 ≥ (-1099511627776 : Int))), true)]) (by kernel_rfl) (Zb (Zc (ZcH #[Value.agg #[vi 1, vi 1, vi a0, vq]] (a0)   N c3  7 rfl (by decide) (by decide))) <| Zb (Zc (Zs #[Value.agg #[vi 10, vq, vq, vq]]    N c2  3 rfl (by decide) (by decide))) <| Zb (beq_iff_eq.2 (ZS _)) <| oY <| oY Zf) rfl (by decide) (by rfl) rr trivial (Zh _ rfl)
  ·
   exact Zi Zj (r := (.r2 : Zaz)) (fu := 4000) (orc := (Zl [(0, true), (1, false)] [] [] [] [])) (live := []) (u := Value.tuple #[vn, vi 240]) (bl := []) (ob := [((decide (a0 ≤ (1099511627776 : Int))), false), ((decide (a0 ≥ (-1099511627776 : Int))), true)]) (by kernel_rfl) (oN <| oY Zf) rfl (by decide) (by rfl) rr trivial (Zh _ rfl)
 ·
  exact Zi Zj (r := (.r2 : Zaz)) (fu := 4000) (orc := (Zl [(0, false)] [] [] [] [])) (live := []) (u := Value.tuple #[vn, vi 240]) (bl := []) (ob := [((decide (a0 ≥ (-1099511627776 : Int))), false)]) (by kernel_rfl) (oN Zf) rfl (by decide) (by rfl) rr trivial (Zh _ rfl)

theorem Zln (a0 : Int) (N : Nat) (r : Zaz) (h : Zck a0 N = some r) : LSpec Tryz.prog 6 #[vi a0] [] (ZqQ a0 r) (Zpu a0 r) :=
 (Zt6 a0 N) r h

noncomputable def Zhy (a0 : Int) (n : Nat) : ZB := .call [] (Value.tuple #[vs n 0 17 17, vq]) [(n, some (.cells [vi 10, vq, vq, vq, vi 1, vi 1, vi a0, vq, vi 1, vi 7, vq, vq, vi 1, vi 6, vq, vq, vi 15, vq, vq, vq, vi 13, vi 3, vq, vi (a0 % (8 : Int)), vi 9, vi 3, vi 14, vq, vi 13, vi 4, vi 3, vi 1, vi 7, vi 7, vi 4, vi 1, vi 9, vi 7, vi 12, vq, vi 13, vi 6, vi 3, vi 2, vi 8, vi 14, vq, vq, vi 13, vi 3, vi 3, vq, vi 8, vi 6, vq, vq, vi 17, vq, vq, vq, vi 19, vi 7, vq, vq, vi 19, vi 6, vq, vq] 43))] 1
def Zgt (A : Array Value) (a0 : Int) (n : Nat) : Prop := Zk Tryz.prog 6 A [] (Value.tuple #[vs n 0 17 17, vq]) [(n, some (.cells [vi 10, vq, vq, vq, vi 1, vi 1, vi a0, vq, vi 1, vi 7, vq, vq, vi 1, vi 6, vq, vq, vi 15, vq, vq, vq, vi 13, vi 3, vq, vi (a0 % (8 : Int)), vi 9, vi 3, vi 14, vq, vi 13, vi 4, vi 3, vi 1, vi 7, vi 7, vi 4, vi 1, vi 9, vi 7, vi 12, vq, vi 13, vi 6, vi 3, vi 2, vi 8, vi 14, vq, vq, vi 13, vi 3, vi 3, vq, vi 8, vi 6, vq, vq, vi 17, vq, vq, vq, vi 19, vi 7, vq, vq, vi 19, vi 6, vq, vq] 43))] n 1

theorem Zhz (A : Array Value) (a0 : Int) (N : Nat) (h : Zck a0 N = some (.r0)) (n : Nat) (hA : A = #[vi a0]) (hnd : ([] : List Nat).Nodup) (hlt : ∀ k ∈ ([] : List Nat), k < n) : Zgt A a0  n :=
 Zn hA (LSpec.callL (show LSpec Tryz.prog 6 #[vi a0] [] (Value.tuple #[vs 0 0 17 17, vq]) [some (.cells [vi 10, vq, vq, vq, vi 1, vi 1, vi a0, vq, vi 1, vi 7, vq, vq, vi 1, vi 6, vq, vq, vi 15, vq, vq, vq, vi 13, vi 3, vq, vi (a0 % (8 : Int)), vi 9, vi 3, vi 14, vq, vi 13, vi 4, vi 3, vi 1, vi 7, vi 7, vi 4, vi 1, vi 9, vi 7, vi 12, vq, vi 13, vi 6, vi 3, vi 2, vi 8, vi 14, vq, vq, vi 13, vi 3, vi 3, vq, vi 8, vi 6, vq, vq, vi 17, vq, vq, vq, vi 19, vi 7, vq, vq, vi 19, vi 6, vq, vq] 43)] from Zln a0 N _ h) [] n [0] rfl hnd hlt (show 0 ≤ 1 from by decide) (show ∀ j ∈ ([0] : List Nat), j < 1 from by decide) (by rfl) trivial (by rfl) ⟨rfl, trivial⟩ ⟨(by decide), trivial⟩ rfl rfl rfl rfl (Za (ZdH rfl (ZkT rfl)) rfl))

noncomputable def Zpv (a0 : Int) (n : Nat) : ZB := .call [] (Value.tuple #[vn, vi 240]) [] 0
def Zkq (A : Array Value) (a0 : Int) (n : Nat) : Prop := Zk Tryz.prog 6 A [] (Value.tuple #[vn, vi 240]) [] n 0

theorem Zpw (A : Array Value) (a0 : Int) (N : Nat) (h : Zck a0 N = some (.r2)) (n : Nat) (hA : A = #[vi a0]) (hnd : ([] : List Nat).Nodup) (hlt : ∀ k ∈ ([] : List Nat), k < n) : Zkq A a0  n :=
 Zn hA (LSpec.callL (show LSpec Tryz.prog 6 #[vi a0] [] (Value.tuple #[vn, vi 240]) [] from Zln a0 N _ h) [] n [] rfl hnd hlt (show 0 ≤ 0 from by decide) (show ∀ j ∈ ([] : List Nat), j < 0 from by decide) (by rfl) trivial (by rfl) trivial trivial rfl rfl rfl rfl rfl)

noncomputable def Zpx (a0 : Int) : Zbw → Value
 | .r0 w1 => Value.tuple #[vs 0 0 17 17, vq]
 | .r1 => Value.tuple #[vn, vi 240]
noncomputable def Zoh (a0 : Int) : Zbw → List (Option AObj)
 | .r0 w1 => [some (.cells [vi 10, vq, vq, vq, vi 1, vi 1, vi a0, vq, vi 1, vi 7, vq, vq, vi 1, vi 6, vq, vq, vi 15, vq, vq, vq, vi 13, vi 3, vq, vi w1, vi 9, vi 3, vi 14, vq, vi 13, vi 4, vi 3, vi 1, vi 7, vi 7, vi 4, vi 1, vi 9, vi 7, vi 12, vq, vi 13, vi 6, vi 3, vi 2, vi 8, vi 14, vq, vq, vi 13, vi 3, vi 3, vq, vi 8, vi 6, vq, vq, vi 17, vq, vq, vq, vi 19, vi 7, vq, vq, vi 19, vi 6, vq, vq] 43)]
 | .r1 => []

theorem Zti (a0 : Int) (N : Nat) : Gx Tryz.prog 7 [] #[vi a0] (Zpx a0) (Zoh a0) (ZbR a0 N) := by
 unfold ZbR
 refine ZR (fun g0 => ?_) (fun g0 => ?_)
 ·
  refine ZR (fun g1 => ?_) (fun g1 => ?_)
  ·
   refine ZR (fun g2 => ?_) (fun g2 => ?_)
   ·
    exact Zi Zj (r := (.r0 ((((a0 % (8 : Int)) + (8 : Int)) % (8 : Int))) : Zbw)) (fu := 4000) (orc := (Zl [(0, true), (1, true)] [(0, (a0 % (8 : Int))), (1, ((a0 % (8 : Int)) + (8 : Int))), (2, (((a0 % (8 : Int)) + (8 : Int)) % (8 : Int)))] [] [] [])) (live := [17]) (u := Value.tuple #[vs 17 0 17 17, vq]) (bl := [some (.cells [vi 10, vq, vq, vq, vi 1, vi 1, vi a0, vq, vi 1, vi 7, vq, vq, vi 1, vi 6, vq, vq, vi 15, vq, vq, vq, vi 13, vi 3, vq, vi (((a0 % (8 : Int)) + (8 : Int)) % (8 : Int)), vi 9, vi 3, vi 14, vq, vi 13, vi 4, vi 3, vi 1, vi 7, vi 7, vi 4, vi 1, vi 9, vi 7, vi 12, vq, vi 13, vi 6, vi 3, vi 2, vi 8, vi 14, vq, vq, vi 13, vi 3, vi 3, vq, vi 8, vi 6, vq, vq, vi 17, vq, vq, vq, vi 19, vi 7, vq, vq, vi 19, vi 6, vq, vq] 43)]) (ob := [((Int.tmod ((a0 % (8 : Int)) + (8 : Int)) (8 : Int)) == (((a0 % (8 : Int)) + (8 : Int)) % (8 : Int)), true), ((IntKind.i64.wrap ((a0 % (8 : Int)) + (8 : Int))) == ((a0 % (8 : Int)) + (8 : Int)), true), ((Int.tmod a0 (8 : Int)) == (a0 % (8 : Int)), true), ((decide (a0 ≤ (1099511627776 : Int))), true), ((decide (a0 ≥ (-1099511627776 : Int))), true)]) (by kernel_rfl) (Zb (beq_iff_eq.2 (ZbH (by omega))) <| Zb (beq_iff_eq.2 ((wrap_i64 ltA).trans (by first | rfl | omega))) <| Zb (beq_iff_eq.2 (ZbH (by omega))) <| oY <| oY Zf) rfl (by decide) (by rfl) rr ⟨⟨rfl, ⟨[], by rfl⟩, by rfl⟩, trivial⟩ (Zh _ rfl)
   ·
    exact Zi Zj (r := (.r0 (((((0 : Int) - (((0 : Int) - a0) % (8 : Int))) + (8 : Int)) % (8 : Int))) : Zbw)) (fu := 4000) (orc := (Zl [(0, true), (1, true)] [(0, ((0 : Int) - (((0 : Int) - a0) % (8 : Int)))), (1, (((0 : Int) - (((0 : Int) - a0) % (8 : Int))) + (8 : Int))), (2, ((((0 : Int) - (((0 : Int) - a0) % (8 : Int))) + (8 : Int)) % (8 : Int)))] [] [] [])) (live := [17]) (u := Value.tuple #[vs 17 0 17 17, vq]) (bl := [some (.cells [vi 10, vq, vq, vq, vi 1, vi 1, vi a0, vq, vi 1, vi 7, vq, vq, vi 1, vi 6, vq, vq, vi 15, vq, vq, vq, vi 13, vi 3, vq, vi ((((0 : Int) - (((0 : Int) - a0) % (8 : Int))) + (8 : Int)) % (8 : Int)), vi 9, vi 3, vi 14, vq, vi 13, vi 4, vi 3, vi 1, vi 7, vi 7, vi 4, vi 1, vi 9, vi 7, vi 12, vq, vi 13, vi 6, vi 3, vi 2, vi 8, vi 14, vq, vq, vi 13, vi 3, vi 3, vq, vi 8, vi 6, vq, vq, vi 17, vq, vq, vq, vi 19, vi 7, vq, vq, vi 19, vi 6, vq, vq] 43)]) (ob := [((Int.tmod (((0 : Int) - (((0 : Int) - a0) % (8 : Int))) + (8 : Int)) (8 : Int)) == ((((0 : Int) - (((0 : Int) - a0) % (8 : Int))) + (8 : Int)) % (8 : Int)), true), ((IntKind.i64.wrap (((0 : Int) - (((0 : Int) - a0) % (8 : Int))) + (8 : Int))) == (((0 : Int) - (((0 : Int) - a0) % (8 : Int))) + (8 : Int)), true), ((Int.tmod a0 (8 : Int)) == ((0 : Int) - (((0 : Int) - a0) % (8 : Int))), true), ((decide (a0 ≤ (1099511627776 : Int))), true), ((decide (a0 ≥ (-1099511627776 : Int))), true)]) (by kernel_rfl) (Zb (beq_iff_eq.2 (ZbH (by omega))) <| Zb (beq_iff_eq.2 ((wrap_i64 ltA).trans (by first | rfl | omega))) <| Zb (beq_iff_eq.2 (Zik (by omega) (by decide))) <| oY <| oY Zf) rfl (by decide) (by rfl) rr ⟨⟨rfl, ⟨[], by rfl⟩, by rfl⟩, trivial⟩ (Zh _ rfl)
  ·
   exact Zi Zj (r := (.r1 : Zbw)) (fu := 4000) (orc := (Zl [(0, true), (1, false)] [] [] [] [])) (live := []) (u := Value.tuple #[vn, vi 240]) (bl := []) (ob := [((decide (a0 ≤ (1099511627776 : Int))), false), ((decide (a0 ≥ (-1099511627776 : Int))), true)]) (by kernel_rfl) (oN <| oY Zf) rfl (by decide) (by rfl) rr trivial (Zh _ rfl)
 ·
  exact Zi Zj (r := (.r1 : Zbw)) (fu := 4000) (orc := (Zl [(0, false)] [] [] [] [])) (live := []) (u := Value.tuple #[vn, vi 240]) (bl := []) (ob := [((decide (a0 ≥ (-1099511627776 : Int))), false)]) (by kernel_rfl) (oN Zf) rfl (by decide) (by rfl) rr trivial (Zh _ rfl)

theorem Zk1 (a0 : Int) (N : Nat) (r : Zbw) (h : ZbR a0 N = some r) : LSpec Tryz.prog 7 #[vi a0] [] (Zpx a0 r) (Zoh a0 r) :=
 (Zti a0 N) r h

noncomputable def ZgM (a0 w1 : Int) (n : Nat) : ZB := .call [] (Value.tuple #[vs n 0 17 17, vq]) [(n, some (.cells [vi 10, vq, vq, vq, vi 1, vi 1, vi a0, vq, vi 1, vi 7, vq, vq, vi 1, vi 6, vq, vq, vi 15, vq, vq, vq, vi 13, vi 3, vq, vi w1, vi 9, vi 3, vi 14, vq, vi 13, vi 4, vi 3, vi 1, vi 7, vi 7, vi 4, vi 1, vi 9, vi 7, vi 12, vq, vi 13, vi 6, vi 3, vi 2, vi 8, vi 14, vq, vq, vi 13, vi 3, vi 3, vq, vi 8, vi 6, vq, vq, vi 17, vq, vq, vq, vi 19, vi 7, vq, vq, vi 19, vi 6, vq, vq] 43))] 1
def ZfX (A : Array Value) (a0 w1 : Int) (n : Nat) : Prop := Zk Tryz.prog 7 A [] (Value.tuple #[vs n 0 17 17, vq]) [(n, some (.cells [vi 10, vq, vq, vq, vi 1, vi 1, vi a0, vq, vi 1, vi 7, vq, vq, vi 1, vi 6, vq, vq, vi 15, vq, vq, vq, vi 13, vi 3, vq, vi w1, vi 9, vi 3, vi 14, vq, vi 13, vi 4, vi 3, vi 1, vi 7, vi 7, vi 4, vi 1, vi 9, vi 7, vi 12, vq, vi 13, vi 6, vi 3, vi 2, vi 8, vi 14, vq, vq, vi 13, vi 3, vi 3, vq, vi 8, vi 6, vq, vq, vi 17, vq, vq, vq, vi 19, vi 7, vq, vq, vi 19, vi 6, vq, vq] 43))] n 1

theorem ZgN (A : Array Value) (a0 w1 : Int) (N : Nat) (h : ZbR a0 N = some (.r0 w1)) (n : Nat) (hA : A = #[vi a0]) (hnd : ([] : List Nat).Nodup) (hlt : ∀ k ∈ ([] : List Nat), k < n) : ZfX A a0 w1  n :=
 Zn hA (LSpec.callL (show LSpec Tryz.prog 7 #[vi a0] [] (Value.tuple #[vs 0 0 17 17, vq]) [some (.cells [vi 10, vq, vq, vq, vi 1, vi 1, vi a0, vq, vi 1, vi 7, vq, vq, vi 1, vi 6, vq, vq, vi 15, vq, vq, vq, vi 13, vi 3, vq, vi w1, vi 9, vi 3, vi 14, vq, vi 13, vi 4, vi 3, vi 1, vi 7, vi 7, vi 4, vi 1, vi 9, vi 7, vi 12, vq, vi 13, vi 6, vi 3, vi 2, vi 8, vi 14, vq, vq, vi 13, vi 3, vi 3, vq, vi 8, vi 6, vq, vq, vi 17, vq, vq, vq, vi 19, vi 7, vq, vq, vi 19, vi 6, vq, vq] 43)] from Zk1 a0 N _ h) [] n [0] rfl hnd hlt (show 0 ≤ 1 from by decide) (show ∀ j ∈ ([0] : List Nat), j < 1 from by decide) (by rfl) trivial (by rfl) ⟨rfl, trivial⟩ ⟨(by decide), trivial⟩ rfl rfl rfl rfl (Za (ZdH rfl (ZkT rfl)) rfl))

noncomputable def Zoi (a0 : Int) (n : Nat) : ZB := .call [] (Value.tuple #[vn, vi 240]) [] 0
def Zjl (A : Array Value) (a0 : Int) (n : Nat) : Prop := Zk Tryz.prog 7 A [] (Value.tuple #[vn, vi 240]) [] n 0

theorem Zoj (A : Array Value) (a0 : Int) (N : Nat) (h : ZbR a0 N = some (.r1)) (n : Nat) (hA : A = #[vi a0]) (hnd : ([] : List Nat).Nodup) (hlt : ∀ k ∈ ([] : List Nat), k < n) : Zjl A a0  n :=
 Zn hA (LSpec.callL (show LSpec Tryz.prog 7 #[vi a0] [] (Value.tuple #[vn, vi 240]) [] from Zk1 a0 N _ h) [] n [] rfl hnd hlt (show 0 ≤ 0 from by decide) (show ∀ j ∈ ([] : List Nat), j < 0 from by decide) (by rfl) trivial (by rfl) trivial trivial rfl rfl rfl rfl rfl)

noncomputable def ZjW  : Zc6 → Value
 | .r0 => vq
noncomputable def ZiS  : Zc6 → List (Option AObj)
 | .r0 => []

theorem Zpb  (N : Nat) : Gx Tryz.prog 27 [] #[Value.agg #[vi 9, vi 3, vi 21, vq]] (ZjW ) (ZiS ) (ZbB  N) := by
 unfold ZbB
 exact Zi Zj (r := (.r0 : Zc6)) (fu := 4000) (orc := (Zl [] [] [] [] [])) (live := []) (u := vq) (bl := []) (ob := []) (by kernel_rfl) Zf rfl (by decide) (by rfl) rr trivial (Zh _ rfl)

theorem Zn9  (N : Nat) (r : Zc6) (h : ZbB  N = some r) : LSpec Tryz.prog 27 #[Value.agg #[vi 9, vi 3, vi 21, vq]] [] (ZjW  r) (ZiS  r) :=
 (Zpb  N) r h

noncomputable def Zam  (n : Nat) : ZB := .call [] (vq) [] 0
def ZV (A : Array Value)  (n : Nat) : Prop := Zk Tryz.prog 27 A [] (vq) [] n 0

theorem Zan (A : Array Value)  (N : Nat) (h : ZbB  N = some (.r0)) (n : Nat) (hA : A = #[Value.agg #[vi 9, vi 3, vi 21, vq]]) (hnd : ([] : List Nat).Nodup) (hlt : ∀ k ∈ ([] : List Nat), k < n) : ZV A   n :=
 Zn hA (LSpec.callL (show LSpec Tryz.prog 27 #[Value.agg #[vi 9, vi 3, vi 21, vq]] [] (vq) [] from Zn9  N _ h) [] n [] rfl hnd hlt (show 0 ≤ 0 from by decide) (show ∀ j ∈ ([] : List Nat), j < 0 from by decide) (by rfl) trivial (by rfl) trivial trivial rfl rfl rfl rfl rfl)

noncomputable def ZjX  : Zc7 → Value
 | .r0 => vq
noncomputable def ZiT  : Zc7 → List (Option AObj)
 | .r0 => []

theorem Zpc  (N : Nat) : Gx Tryz.prog 27 [] #[Value.agg #[vi 9, vi 5, vi 12, vq]] (ZjX ) (ZiT ) (ZbC  N) := by
 unfold ZbC
 exact Zi Zj (r := (.r0 : Zc7)) (fu := 4000) (orc := (Zl [] [] [] [] [])) (live := []) (u := vq) (bl := []) (ob := []) (by kernel_rfl) Zf rfl (by decide) (by rfl) rr trivial (Zh _ rfl)

theorem ZnA  (N : Nat) (r : Zc7) (h : ZbC  N = some r) : LSpec Tryz.prog 27 #[Value.agg #[vi 9, vi 5, vi 12, vq]] [] (ZjX  r) (ZiT  r) :=
 (Zpc  N) r h

noncomputable def Zao  (n : Nat) : ZB := .call [] (vq) [] 0
def ZW (A : Array Value)  (n : Nat) : Prop := Zk Tryz.prog 27 A [] (vq) [] n 0

theorem Zap (A : Array Value)  (N : Nat) (h : ZbC  N = some (.r0)) (n : Nat) (hA : A = #[Value.agg #[vi 9, vi 5, vi 12, vq]]) (hnd : ([] : List Nat).Nodup) (hlt : ∀ k ∈ ([] : List Nat), k < n) : ZW A   n :=
 Zn hA (LSpec.callL (show LSpec Tryz.prog 27 #[Value.agg #[vi 9, vi 5, vi 12, vq]] [] (vq) [] from ZnA  N _ h) [] n [] rfl hnd hlt (show 0 ≤ 0 from by decide) (show ∀ j ∈ ([] : List Nat), j < 0 from by decide) (by rfl) trivial (by rfl) trivial trivial rfl rfl rfl rfl rfl)

noncomputable def ZjY  : Zc8 → Value
 | .r0 => vq
noncomputable def ZiU  : Zc8 → List (Option AObj)
 | .r0 => []

theorem Zpd  (N : Nat) : Gx Tryz.prog 27 [] #[Value.agg #[vi 13, vi 2, vi 3, vq]] (ZjY ) (ZiU ) (ZbD  N) := by
 unfold ZbD
 exact Zi Zj (r := (.r0 : Zc8)) (fu := 4000) (orc := (Zl [] [] [] [] [])) (live := []) (u := vq) (bl := []) (ob := []) (by kernel_rfl) Zf rfl (by decide) (by rfl) rr trivial (Zh _ rfl)

theorem ZnB  (N : Nat) (r : Zc8) (h : ZbD  N = some r) : LSpec Tryz.prog 27 #[Value.agg #[vi 13, vi 2, vi 3, vq]] [] (ZjY  r) (ZiU  r) :=
 (Zpd  N) r h

noncomputable def Zaq  (n : Nat) : ZB := .call [] (vq) [] 0
def ZX (A : Array Value)  (n : Nat) : Prop := Zk Tryz.prog 27 A [] (vq) [] n 0

theorem Zar (A : Array Value)  (N : Nat) (h : ZbD  N = some (.r0)) (n : Nat) (hA : A = #[Value.agg #[vi 13, vi 2, vi 3, vq]]) (hnd : ([] : List Nat).Nodup) (hlt : ∀ k ∈ ([] : List Nat), k < n) : ZX A   n :=
 Zn hA (LSpec.callL (show LSpec Tryz.prog 27 #[Value.agg #[vi 13, vi 2, vi 3, vq]] [] (vq) [] from ZnB  N _ h) [] n [] rfl hnd hlt (show 0 ≤ 0 from by decide) (show ∀ j ∈ ([] : List Nat), j < 0 from by decide) (by rfl) trivial (by rfl) trivial trivial rfl rfl rfl rfl rfl)

noncomputable def ZjZ  : Zc9 → Value
 | .r0 => vq
noncomputable def ZiV  : Zc9 → List (Option AObj)
 | .r0 => []

theorem Zpe  (N : Nat) : Gx Tryz.prog 27 [] #[Value.agg #[vi 12, vi 3, vq, vq]] (ZjZ ) (ZiV ) (ZbE  N) := by
 unfold ZbE
 exact Zi Zj (r := (.r0 : Zc9)) (fu := 4000) (orc := (Zl [] [] [] [] [])) (live := []) (u := vq) (bl := []) (ob := []) (by kernel_rfl) Zf rfl (by decide) (by rfl) rr trivial (Zh _ rfl)

theorem ZnC  (N : Nat) (r : Zc9) (h : ZbE  N = some r) : LSpec Tryz.prog 27 #[Value.agg #[vi 12, vi 3, vq, vq]] [] (ZjZ  r) (ZiV  r) :=
 (Zpe  N) r h

noncomputable def ZaM  (n : Nat) : ZB := .call [] (vq) [] 0
def ZaC (A : Array Value)  (n : Nat) : Prop := Zk Tryz.prog 27 A [] (vq) [] n 0

theorem ZaN (A : Array Value)  (N : Nat) (h : ZbE  N = some (.r0)) (n : Nat) (hA : A = #[Value.agg #[vi 12, vi 3, vq, vq]]) (hnd : ([] : List Nat).Nodup) (hlt : ∀ k ∈ ([] : List Nat), k < n) : ZaC A   n :=
 Zn hA (LSpec.callL (show LSpec Tryz.prog 27 #[Value.agg #[vi 12, vi 3, vq, vq]] [] (vq) [] from ZnC  N _ h) [] n [] rfl hnd hlt (show 0 ≤ 0 from by decide) (show ∀ j ∈ ([] : List Nat), j < 0 from by decide) (by rfl) trivial (by rfl) trivial trivial rfl rfl rfl rfl rfl)

noncomputable def Zka  : ZcA → Value
 | .r0 => vq
noncomputable def ZiW  : ZcA → List (Option AObj)
 | .r0 => []

theorem Zpf  (N : Nat) : Gx Tryz.prog 27 [] #[Value.agg #[vi 8, vi 21, vq, vq]] (Zka ) (ZiW ) (Zdp  N) := by
 unfold Zdp
 exact Zi Zj (r := (.r0 : ZcA)) (fu := 4000) (orc := (Zl [] [] [] [] [])) (live := []) (u := vq) (bl := []) (ob := []) (by kernel_rfl) Zf rfl (by decide) (by rfl) rr trivial (Zh _ rfl)

theorem ZnD  (N : Nat) (r : ZcA) (h : Zdp  N = some r) : LSpec Tryz.prog 27 #[Value.agg #[vi 8, vi 21, vq, vq]] [] (Zka  r) (ZiW  r) :=
 (Zpf  N) r h

noncomputable def Zd7  (n : Nat) : ZB := .call [] (vq) [] 0
def Zcf (A : Array Value)  (n : Nat) : Prop := Zk Tryz.prog 27 A [] (vq) [] n 0

end Ev
end Go.Proofs.YtaajdoclloamlaaGreat
