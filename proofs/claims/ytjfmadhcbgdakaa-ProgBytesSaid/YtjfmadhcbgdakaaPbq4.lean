/- Calls do what the plain functions say. -/
import Derived.Test.YtjfmadhcbgdakaaPbq3
namespace Go.Proofs.Ytjfmadhcbgdakaa
open Go.RowKit
namespace Ev
set_option linter.unusedVariables false
set_option maxRecDepth 100000
theorem Zlt (o0 : Nat) (L1 : List R_iiii) (n2 n3 o4 : Nat) (L5 : List Int) (n6 n7 : Nat) (O0 : Obj) (F0 : Zbk O0 o0 L1) (O1 : Obj) (F1 : ∀ i, i < L5.length → Zat O1 (o4 + i * 1) [.k .u8 (L5.getD i 0)]) (N : Nat) (r : Z3) (h : Zj9 L1 n2 n3 L5 n6 n7 N = some r) : LSpec Try.prog 3 #[vs 0 o0 n2 n3, vs 1 o4 n6 n7] [.ro O0, .ro O1] (Zji o0 L1 n2 n3 o4 L5 n6 n7 O0 O1 r) (Zii o0 L1 n2 n3 o4 L5 n6 n7 O0 O1 r) :=
 Mach.spec ZaR (Z7 o0 L1 n2 n3 o4 L5 n6 n7 O0 O1 N) Try.func3 (by kernel_rfl) (by kernel_rfl) (fun x => by cases x <;> exact Zal _ rfl) (fun r => by cases r <;> exact Zal _ rfl) (fun x => by
  cases x with
  | h1m0 => exact fun _ => (show ¬ (1 ∈ Zq (ZX 1).2) from by decide +kernel)
  | h2m0 _ _ => exact fun _ => (show ¬ (2 ∈ Zq (ZX 2).2) from by decide +kernel)
  | h2m1 _ _ => exact fun _ => (show ¬ (2 ∈ Zq (ZX 2).2) from by decide +kernel)
  | h3m0 _ _ _ _ => exact fun _ => (show ¬ (3 ∈ Zq (ZX 3).2) from by decide +kernel)
  | h3m1 _ _ _ _ => exact fun _ => (show ¬ (3 ∈ Zq (ZX 3).2) from by decide +kernel)
  | h3m2 _ _ _ _ => exact fun _ => (show ¬ (3 ∈ Zq (ZX 3).2) from by decide +kernel)
  | h3m3 _ _ _ _ => exact fun _ => (show ¬ (3 ∈ Zq (ZX 3).2) from by decide +kernel)
  ) (fun x => (show (Z7 o0 L1 n2 n3 o4 L5 n6 n7 O0 O1 N).Ok Try.prog Zj x (ZaU L1 n2 n3 L5 n6 n7 N x) from by
  cases x with
  | h1m0 => exact ZkL o0 L1 n2 n3 o4 L5 n6 n7 O0 F0 O1 F1 N
  | h2m0 v6 v7 => exact ZkM o0 L1 n2 n3 o4 L5 n6 n7 O0 F0 O1 F1 v6 v7 N
  | h2m1 v6 v8 => exact ZkN o0 L1 n2 n3 o4 L5 n6 n7 O0 F0 O1 F1 v6 v8 N
  | h3m0 v4 v5 v6 v7 => exact ZkO o0 L1 n2 n3 o4 L5 n6 n7 O0 F0 O1 F1 v4 v5 v6 v7 N
  | h3m1 v4 v5 v6 v8 => exact ZkP o0 L1 n2 n3 o4 L5 n6 n7 O0 F0 O1 F1 v4 v5 v6 v8 N
  | h3m2 v4 v6 v8 v9 => exact ZkQ o0 L1 n2 n3 o4 L5 n6 n7 O0 F0 O1 F1 v4 v6 v8 v9 N
  | h3m3 v4 v6 v8 v10 => exact ZkR o0 L1 n2 n3 o4 L5 n6 n7 O0 F0 O1 F1 v4 v6 v8 v10 N
  )) (Znr o0 L1 n2 n3 o4 L5 n6 n7 O0 F0 O1 F1 N) (n := N) h

noncomputable def ZkS  : ZdZ → Value
 | .r0 => Value.tuple #[vn, vi (6 : Int)]
noncomputable def ZjG  : ZdZ → List (Option AObj)
 | .r0 => []

theorem ZoT  (N : Nat) : Fx Try.prog Zj Try.f9 [] #[vn] (ZkS ) (ZjG ) (ZdL  N) := by
 unfold ZdL
 exact Zk (r := (.r0 : ZdZ)) (fu := 4000) (orc := (Zh [] [] [] [] [])) (live := []) (u := Value.tuple #[vn, vi (6 : Int)]) (bl := []) (ob := []) (by kernel_rfl) Zb rfl (by decide) (by rfl) rr trivial

theorem Zns  (N : Nat) (r : ZdZ) (h : ZdL  N = some r) : LSpec Try.prog 9 #[vn] [] (ZkS  r) (ZjG  r) :=
 ZdD ZaR Try.func9 (by kernel_rfl) (by kernel_rfl) (fun r => by cases r <;> exact Zal _ rfl) (ZoT  N) h

noncomputable def ZgR  (n : Nat) : Za4 := .call [] (Value.tuple #[vn, vi (6 : Int)]) [] 0
def ZfB (A : Array Value)  (n : Nat) : Prop := ZB Try.prog 9 A [] (Value.tuple #[vn, vi (6 : Int)]) [] n 0

theorem ZgS (A : Array Value)  (N : Nat) (h : ZdL  N = some (.r0)) (n : Nat) (hA : A = #[vn]) (hnd : ([] : List Nat).Nodup) (hlt : ∀ k ∈ ([] : List Nat), k < n) : ZfB A   n :=
 ZQ hA (LSpec.callL (show LSpec Try.prog 9 #[vn] [] (Value.tuple #[vn, vi (6 : Int)]) [] from Zns  N _ h) [] n [] rfl hnd hlt (show 0 ≤ 0 from by decide) (show ∀ j ∈ ([] : List Nat), j < 0 from by decide) (by rfl) trivial (by rfl) trivial trivial rfl rfl rfl rfl rfl)

noncomputable def ZjH  : ZdG → Value
 | .r0 => Value.tuple #[vn, vi (6 : Int)]
noncomputable def Zjj  : ZdG → List (Option AObj)
 | .r0 => []

theorem Zoc  (N : Nat) : Fx Try.prog Zj Try.f10 [] #[vn] (ZjH ) (Zjj ) (Zdy  N) := by
 unfold Zdy
 exact Zk (r := (.r0 : ZdG)) (fu := 4000) (orc := (Zh [] [] [] [] [])) (live := []) (u := Value.tuple #[vn, vi (6 : Int)]) (bl := []) (ob := []) (by kernel_rfl) Zb rfl (by decide) (by rfl) rr trivial

theorem Zmd  (N : Nat) (r : ZdG) (h : Zdy  N = some r) : LSpec Try.prog 10 #[vn] [] (ZjH  r) (Zjj  r) :=
 ZdD ZaR Try.func10 (by kernel_rfl) (by kernel_rfl) (fun r => by cases r <;> exact Zal _ rfl) (Zoc  N) h

noncomputable def Zgx  (n : Nat) : Za4 := .call [] (Value.tuple #[vn, vi (6 : Int)]) [] 0
def Zfs (A : Array Value)  (n : Nat) : Prop := ZB Try.prog 10 A [] (Value.tuple #[vn, vi (6 : Int)]) [] n 0

theorem Zgy (A : Array Value)  (N : Nat) (h : Zdy  N = some (.r0)) (n : Nat) (hA : A = #[vn]) (hnd : ([] : List Nat).Nodup) (hlt : ∀ k ∈ ([] : List Nat), k < n) : Zfs A   n :=
 ZQ hA (LSpec.callL (show LSpec Try.prog 10 #[vn] [] (Value.tuple #[vn, vi (6 : Int)]) [] from Zmd  N _ h) [] n [] rfl hnd hlt (show 0 ≤ 0 from by decide) (show ∀ j ∈ ([] : List Nat), j < 0 from by decide) (by rfl) trivial (by rfl) trivial trivial rfl rfl rfl rfl rfl)

noncomputable def ZhI (o0 : Nat) (L1 : List R_iiii) (n2 n3 : Nat) (O0 : Obj) : Zae → Value
 | .r0 w2 => Value.bool w2
noncomputable def ZgY (o0 : Nat) (L1 : List R_iiii) (n2 n3 : Nat) (O0 : Obj) : Zae → List (Option AObj)
 | .r0 w2 => [some (.ro O0)]

def Zme : Zx → Nat
 | .h1m0 => 1
 | .h2m0 v2 v3 => 2
 | .h2m1 v2 v4 => 2
 | .h3m0 v2 v3 => 3
 | .h3m1 v2 v4 => 3
noncomputable def Znt (o0 : Nat) (L1 : List R_iiii) (n2 n3 : Nat) (O0 : Obj) : Zx → List (Nat × Value)
 | .h1m0 => [(0, vs 0 o0 (((if (520 : Int) < (n2 : Int) then (520 : Int) else (n2 : Int))).toNat - 0) (n3 - 0)), (1, vn)]
 | .h2m0 v2 v3 => [(1, vn), (5, vn), (6, vi v2), (7, vn), (8, vi v3)]
 | .h2m1 v2 v4 => [(1, vn), (5, vs 1 0 v2.length v2.length), (6, vq), (7, vs 2 0 v4.length v4.length), (8, vq)]
 | .h3m0 v2 v3 => [(5, vn), (6, vi v2), (7, vn), (8, vi v3), (9, vn), (10, vi (6 : Int)), (11, vn), (12, vi (6 : Int))]
 | .h3m1 v2 v4 => [(5, vs 1 0 v2.length v2.length), (6, vq), (7, vs 2 0 v4.length v4.length), (8, vq), (9, vn), (10, vi (6 : Int)), (11, vn), (12, vi (6 : Int))]
noncomputable def Znu (o0 : Nat) (L1 : List R_iiii) (n2 n3 : Nat) (O0 : Obj) : Zx → List (Option AObj)
 | .h1m0 => [some (.ro O0)]
 | .h2m0 v2 v3 => [some (.ro O0)]
 | .h2m1 v2 v4 => [some (.ro O0), some (.cells (Zc (Ze .u8) v2) 5), some (.cells (Zc (Ze .u8) v4) 5)]
 | .h3m0 v2 v3 => [some (.ro O0)]
 | .h3m1 v2 v4 => [some (.ro O0), some (.cells (Zc (Ze .u8) v2) 5), some (.cells (Zc (Ze .u8) v4) 5)]

noncomputable def Zap : Nat → Code × List Za2
 | 1 => Zff [1, 1] (Zbh Try.f3) []
 | 2 => Zff [1, 1, 1, 1] (Zbh Try.f3) []
 | 3 => Zff [1, 1, 1, 1, 1, 1] (Zbh Try.f3) []
 | _ => (.skip, [])
def ZgZ : Nat → Bool
 | 1 => false
 | 2 => false
 | 3 => false
 | _ => true
noncomputable def Ze0 (i : Nat) : List Za2 := match ZgZ i with | true => .rnd i :: (Zap i).2 | false => (Zap i).2

noncomputable def ZW (o0 : Nat) (L1 : List R_iiii) (n2 n3 : Nat) (O0 : Obj) (N : Nat) : Mach := ⟨Try.f3, [.ro O0], Zx, Zae, Zbu L1 n2 n3 N, Zme, Zap, ZgZ, Znt o0 L1 n2 n3 O0, Znu o0 L1 n2 n3 O0, ZhI o0 L1 n2 n3 O0, ZgY o0 L1 n2 n3 O0⟩

theorem Zjm (o0 : Nat) (L1 : List R_iiii) (n2 n3 : Nat) (O0 : Obj) (F0 : Zbk O0 o0 L1) (N : Nat) : (ZW o0 L1 n2 n3 O0 N).Ok Try.prog Zj (.h1m0 : Zx) (Zbu L1 n2 n3 N (.h1m0 : Zx)) := by
 show (ZW o0 L1 n2 n3 O0 N).Ok Try.prog Zj (.h1m0 : Zx) (Ze4 L1 n2 n3 N)
 unfold Ze4
 refine Mach.ok_bind (fun z0 c0 => ?_)
 cases z0 with
 | r0 y0_0 =>
  refine Mach.ok_bind (fun z1 c1 => ?_)
  cases z1 with
  | r0 y1_0 =>
   exact Mach.ok_cut (bK := Zap 2) (M := ZW o0 L1 n2 n3 O0 N) (cd := 0) (cm := 1) (y := (.h2m0 (y0_0) (y1_0) : Zx)) (fu := 4000) (orc := (Zh [] [] [] [] [(0, (ZlL (o0) (L1) ((((if (520 : Int) < (n2 : Int) then (520 : Int) else (n2 : Int))).toNat - 0)) ((n3 - 0)) O0 y0_0 0 1)), (1, (Zk3 (o0) (L1) ((((if (520 : Int) < (n2 : Int) then (520 : Int) else (n2 : Int))).toNat - 0)) ((n3 - 0)) O0 y1_0 0 1))])) (live := [0]) (tv := fun _ => [some (vn), some (vn), some (vi y0_0), some (vn), some (vi y1_0)]) (bl := [some (.ro O0)]) (ob := [(dP (Zho #[vs 0 o0 (((if (520 : Int) < (n2 : Int) then (520 : Int) else (n2 : Int))).toNat - 0) (n3 - 0)] (o0) (L1) ((((if (520 : Int) < (n2 : Int) then (520 : Int) else (n2 : Int))).toNat - 0)) ((n3 - 0)) O0 y1_0 0 1), true), (dS O0, true), (dP (ZhQ #[vs 0 o0 (((if (520 : Int) < (n2 : Int) then (520 : Int) else (n2 : Int))).toNat - 0) (n3 - 0)] (o0) (L1) ((((if (520 : Int) < (n2 : Int) then (520 : Int) else (n2 : Int))).toNat - 0)) ((n3 - 0)) O0 y0_0 0 1), true), (dS O0, true)]) rfl rfl (show ∀ j ∈ Zq (Zap 2).2, j ∈ Zq (Ze0 1) from by decide +kernel) (fun gv => by kernel_rfl) (Za (Zg (Zk4 #[vs 0 o0 (((if (520 : Int) < (n2 : Int) then (520 : Int) else (n2 : Int))).toNat - 0) (n3 - 0)] (o0) (L1) ((((if (520 : Int) < (n2 : Int) then (520 : Int) else (n2 : Int))).toNat - 0)) ((n3 - 0)) O0 F0 y1_0 N c1 0 1 rfl (by decide) (by decide))) <| oR <| Za (Zg (ZlM #[vs 0 o0 (((if (520 : Int) < (n2 : Int) then (520 : Int) else (n2 : Int))).toNat - 0) (n3 - 0)] (o0) (L1) ((((if (520 : Int) < (n2 : Int) then (520 : Int) else (n2 : Int))).toNat - 0)) ((n3 - 0)) O0 F0 y0_0 N c0 0 1 rfl (by decide) (by decide))) <| oR Zb) rfl (by decide) (by rfl) (fun _ => ⟨rr, ⟨rr, ⟨rr, ⟨rr, ⟨rr, trivial⟩⟩⟩⟩⟩) ⟨rfl, trivial⟩
  | r1 _ =>
   exact Mach.ok_none
 | r1 y0_0 =>
  refine Mach.ok_bind (fun z1 c1 => ?_)
  cases z1 with
  | r0 _ =>
   exact Mach.ok_none
  | r1 y1_0 =>
   exact Mach.ok_cut (bK := Zap 2) (M := ZW o0 L1 n2 n3 O0 N) (cd := 0) (cm := 1) (y := (.h2m1 (y0_0) (y1_0) : Zx)) (fu := 4000) (orc := (Zh [] [] [] [] [(0, (ZlN (o0) (L1) ((((if (520 : Int) < (n2 : Int) then (520 : Int) else (n2 : Int))).toNat - 0)) ((n3 - 0)) O0 y0_0 0 1)), (1, (Zk5 (o0) (L1) ((((if (520 : Int) < (n2 : Int) then (520 : Int) else (n2 : Int))).toNat - 0)) ((n3 - 0)) O0 y1_0 0 2))])) (live := [0, 1, 2]) (tv := fun _ => [some (vn), some (vs 1 0 y0_0.length y0_0.length), some (vq), some (vs 2 0 y1_0.length y1_0.length), some (vq)]) (bl := [some (.ro O0), some (.cells (Zc (Ze .u8) y0_0) 5), some (.cells (Zc (Ze .u8) y1_0) 5)]) (ob := [(dP (Zhp #[vs 0 o0 (((if (520 : Int) < (n2 : Int) then (520 : Int) else (n2 : Int))).toNat - 0) (n3 - 0)] (o0) (L1) ((((if (520 : Int) < (n2 : Int) then (520 : Int) else (n2 : Int))).toNat - 0)) ((n3 - 0)) O0 y1_0 0 2), true), (dS O0, true), (dP (ZhR #[vs 0 o0 (((if (520 : Int) < (n2 : Int) then (520 : Int) else (n2 : Int))).toNat - 0) (n3 - 0)] (o0) (L1) ((((if (520 : Int) < (n2 : Int) then (520 : Int) else (n2 : Int))).toNat - 0)) ((n3 - 0)) O0 y0_0 0 1), true), (dS O0, true)]) rfl rfl (show ∀ j ∈ Zq (Zap 2).2, j ∈ Zq (Ze0 1) from by decide +kernel) (fun gv => by kernel_rfl) (Za (Zg (Zk6 #[vs 0 o0 (((if (520 : Int) < (n2 : Int) then (520 : Int) else (n2 : Int))).toNat - 0) (n3 - 0)] (o0) (L1) ((((if (520 : Int) < (n2 : Int) then (520 : Int) else (n2 : Int))).toNat - 0)) ((n3 - 0)) O0 F0 y1_0 N c1 0 2 rfl (by decide) (by decide))) <| oR <| Za (Zg (ZlO #[vs 0 o0 (((if (520 : Int) < (n2 : Int) then (520 : Int) else (n2 : Int))).toNat - 0) (n3 - 0)] (o0) (L1) ((((if (520 : Int) < (n2 : Int) then (520 : Int) else (n2 : Int))).toNat - 0)) ((n3 - 0)) O0 F0 y0_0 N c0 0 1 rfl (by decide) (by decide))) <| oR Zb) rfl (by decide) (by rfl) (fun _ => ⟨rr, ⟨rr, ⟨rr, ⟨rr, ⟨rr, trivial⟩⟩⟩⟩⟩) ⟨rfl, ⟨(Zn (E := (Ze .u8)) (α := Int) _ y0_0 _), ⟨(Zn (E := (Ze .u8)) (α := Int) _ y1_0 _), trivial⟩⟩⟩

theorem Zjn (o0 : Nat) (L1 : List R_iiii) (n2 n3 : Nat) (O0 : Obj) (F0 : Zbk O0 o0 L1) (v2 v3 : Int) (N : Nat) : (ZW o0 L1 n2 n3 O0 N).Ok Try.prog Zj (.h2m0 v2 v3 : Zx) (Zbu L1 n2 n3 N (.h2m0 v2 v3 : Zx)) := by
 show (ZW o0 L1 n2 n3 O0 N).Ok Try.prog Zj (.h2m0 v2 v3 : Zx) (Ze5 L1 n2 n3 N v2 v3)
 unfold Ze5
 refine Mach.ok_bind (fun z0 c0 => ?_)
 cases z0 with
 | r0 =>
  refine Mach.ok_bind (fun z1 c1 => ?_)
  cases z1 with
  | r0 =>
   exact Mach.ok_cut (bK := Zap 3) (M := ZW o0 L1 n2 n3 O0 N) (cd := 0) (cm := 1) (y := (.h3m0 (v2) (v3) : Zx)) (fu := 4000) (orc := (Zh [] [] [] [] [(0, (ZgR     1)), (1, (Zgx     1))])) (live := [0]) (tv := fun _ => [some (vn), some (vi v2), some (vn), some (vi v3), some (vn), some (vi (6 : Int)), some (vn), some (vi (6 : Int))]) (bl := [some (.ro O0)]) (ob := [(dP (Zfs #[vn]     1), true), (dP (ZfB #[vn]     1), true)]) rfl rfl (show ∀ j ∈ Zq (Zap 3).2, j ∈ Zq (Ze0 2) from by decide +kernel) (fun gv => by kernel_rfl) (Za (Zg (Zgy #[vn]    N c1  1 rfl (by decide) (by decide))) <| Za (Zg (ZgS #[vn]    N c0  1 rfl (by decide) (by decide))) Zb) rfl (by decide) (by rfl) (fun _ => ⟨rr, ⟨rr, ⟨rr, ⟨rr, ⟨rr, ⟨rr, ⟨rr, ⟨rr, trivial⟩⟩⟩⟩⟩⟩⟩⟩) ⟨rfl, trivial⟩

theorem Zjo (o0 : Nat) (L1 : List R_iiii) (n2 n3 : Nat) (O0 : Obj) (F0 : Zbk O0 o0 L1) (v2 v4 : List Int) (N : Nat) : (ZW o0 L1 n2 n3 O0 N).Ok Try.prog Zj (.h2m1 v2 v4 : Zx) (Zbu L1 n2 n3 N (.h2m1 v2 v4 : Zx)) := by
 show (ZW o0 L1 n2 n3 O0 N).Ok Try.prog Zj (.h2m1 v2 v4 : Zx) (Ze6 L1 n2 n3 N v2 v4)
 unfold Ze6
 refine Mach.ok_bind (fun z0 c0 => ?_)
 cases z0 with
 | r0 =>
  refine Mach.ok_bind (fun z1 c1 => ?_)
  cases z1 with
  | r0 =>
   exact Mach.ok_cut (bK := Zap 3) (M := ZW o0 L1 n2 n3 O0 N) (cd := 0) (cm := 1) (y := (.h3m1 (v2) (v4) : Zx)) (fu := 4000) (orc := (Zh [] [] [] [] [(0, (ZgR     3)), (1, (Zgx     3))])) (live := [0, 1, 2]) (tv := fun _ => [some (vs 1 0 v2.length v2.length), some (vq), some (vs 2 0 v4.length v4.length), some (vq), some (vn), some (vi (6 : Int)), some (vn), some (vi (6 : Int))]) (bl := [some (.ro O0), some (.cells (Zc (Ze .u8) v2) 5), some (.cells (Zc (Ze .u8) v4) 5)]) (ob := [(dP (Zfs #[vn]     3), true), (dP (ZfB #[vn]     3), true)]) rfl rfl (show ∀ j ∈ Zq (Zap 3).2, j ∈ Zq (Ze0 2) from by decide +kernel) (fun gv => by kernel_rfl) (Za (Zg (Zgy #[vn]    N c1  3 rfl (by decide) (by decide))) <| Za (Zg (ZgS #[vn]    N c0  3 rfl (by decide) (by decide))) Zb) rfl (by decide) (by rfl) (fun _ => ⟨rr, ⟨rr, ⟨rr, ⟨rr, ⟨rr, ⟨rr, ⟨rr, ⟨rr, trivial⟩⟩⟩⟩⟩⟩⟩⟩) ⟨rfl, ⟨(Zn (E := (Ze .u8)) (α := Int) _ v2 _), ⟨(Zn (E := (Ze .u8)) (α := Int) _ v4 _), trivial⟩⟩⟩

theorem Zjp (o0 : Nat) (L1 : List R_iiii) (n2 n3 : Nat) (O0 : Obj) (F0 : Zbk O0 o0 L1) (v2 v3 : Int) (N : Nat) : (ZW o0 L1 n2 n3 O0 N).Ok Try.prog Zj (.h3m0 v2 v3 : Zx) (Zbu L1 n2 n3 N (.h3m0 v2 v3 : Zx)) := by
 show (ZW o0 L1 n2 n3 O0 N).Ok Try.prog Zj (.h3m0 v2 v3 : Zx) (Ze7 L1 n2 n3 N v2 v3)
 unfold Ze7
 refine Mach.ok_ite (fun g0 => ?_) (fun g0 => ?_)
 ·
  refine Mach.ok_bind (fun z1 c1 => ?_)
  cases z1 with
  | r0 =>
   exact Mach.ok_fin (M := ZW o0 L1 n2 n3 O0 N) (cd := 1000000) (cm := 0) (r := (.r0 (true) : Zae)) (fu := 4000) (orc := (Zh [(1, true)] [] [] [] [(0, (Zdg     1))])) (live := [0]) (u := vT) (bl := [some (.ro O0)]) (ob := [(dP (ZcF #[vn, vn]     1), true), ((v2 == v3), true)]) (fun gv => by kernel_rfl) (Za (Zg (Zdh #[vn, vn]    N c1  1 rfl (by decide) (by decide))) <| oT Zb) rfl (by decide) (by rfl) rr ⟨rfl, trivial⟩
 ·
  exact Mach.ok_fin (M := ZW o0 L1 n2 n3 O0 N) (cd := 1000000) (cm := 0) (r := (.r0 (false) : Zae)) (fu := 4000) (orc := (Zh [(1, false)] [] [] [] [])) (live := [0]) (u := vf) (bl := [some (.ro O0)]) (ob := [((v2 == v3), false)]) (fun gv => by kernel_rfl) (oF Zb) rfl (by decide) (by rfl) rr ⟨rfl, trivial⟩

theorem Zjq (o0 : Nat) (L1 : List R_iiii) (n2 n3 : Nat) (O0 : Obj) (F0 : Zbk O0 o0 L1) (v2 v4 : List Int) (N : Nat) : (ZW o0 L1 n2 n3 O0 N).Ok Try.prog Zj (.h3m1 v2 v4 : Zx) (Zbu L1 n2 n3 N (.h3m1 v2 v4 : Zx)) := by
 show (ZW o0 L1 n2 n3 O0 N).Ok Try.prog Zj (.h3m1 v2 v4 : Zx) (Ze8 L1 n2 n3 N v2 v4)
 unfold Ze8
 refine Mach.ok_ite (fun g0 => ?_) (fun g0 => ?_)
 ·
  refine Mach.ok_bind (fun z1 c1 => ?_)
  cases z1 with
  | r0 =>
   exact Mach.ok_fin (M := ZW o0 L1 n2 n3 O0 N) (cd := 1000000) (cm := 0) (r := (.r0 (true) : Zae)) (fu := 4000) (orc := (Zh [(0, true)] [] [] [] [(0, .bs v2), (1, .bs v4), (2, (Zdg     3))])) (live := [0]) (u := vT) (bl := [some (.ro O0)]) (ob := [(dP (ZcF #[vn, vn]     3), true), (((Z5 v2).toList == (Z5 v4).toList), true), (dP (Z4 v4.length (List.drop 0 (Zc (Ze .u8) v4)) = some (List.map (Value.int .u8) v4)), true), (dP (Z4 v2.length (List.drop 0 (Zc (Ze .u8) v2)) = some (List.map (Value.int .u8) v2)), true)]) (fun gv => by kernel_rfl) (Za (Zg (Zdh #[vn, vn]    N c1  3 rfl (by decide) (by decide))) <| Za (Zd9 (x := v2) (y := v4) (by assumption)) <| Za (Zg (ZaB (L := v4) (a := 0) (by omega) (by show _ = _ * 1; omega) (by first | rfl | simp))) <| Za (Zg (ZaB (L := v2) (a := 0) (by omega) (by show _ = _ * 1; omega) (by first | rfl | simp))) Zb) rfl (by decide) (by rfl) rr ⟨rfl, trivial⟩
 ·
  exact Mach.ok_fin (M := ZW o0 L1 n2 n3 O0 N) (cd := 1000000) (cm := 0) (r := (.r0 (false) : Zae)) (fu := 4000) (orc := (Zh [(0, false)] [] [] [] [(0, .bs v2), (1, .bs v4)])) (live := [0]) (u := vf) (bl := [some (.ro O0)]) (ob := [(((Z5 v2).toList == (Z5 v4).toList), false), (dP (Z4 v4.length (List.drop 0 (Zc (Ze .u8) v4)) = some (List.map (Value.int .u8) v4)), true), (dP (Z4 v2.length (List.drop 0 (Zc (Ze .u8) v2)) = some (List.map (Value.int .u8) v2)), true)]) (fun gv => by kernel_rfl) (Za (Zgm (x := v2) (y := v4) (by assumption)) <| Za (Zg (ZaB (L := v4) (a := 0) (by omega) (by show _ = _ * 1; omega) (by first | rfl | simp))) <| Za (Zg (ZaB (L := v2) (a := 0) (by omega) (by show _ = _ * 1; omega) (by first | rfl | simp))) Zb) rfl (by decide) (by rfl) rr ⟨rfl, trivial⟩

theorem Zlu (o0 : Nat) (L1 : List R_iiii) (n2 n3 : Nat) (O0 : Obj) (F0 : Zbk O0 o0 L1) (N : Nat) : (ZW o0 L1 n2 n3 O0 N).Enter Try.prog Zj #[vs 0 o0 n2 n3, vn] (Zem L1 n2 n3 N) := by
 unfold Zem
 refine Mach.en_ite (fun g0 => ?_) (fun g0 => ?_)
 ·
  exact Mach.en_cut (bK := Zap 1) (M := ZW o0 L1 n2 n3 O0 N) (cd := 0) (cm := 1) (y := (.h1m0 : Zx)) (fu := 4000) (orc := (Zh [] [] [] [] [(0, .sl 0 ((if (520 : Int) < (n2 : Int) then (520 : Int) else (n2 : Int))).toNat)])) (live := [0]) (tv := [some (Value.slice (some ⟨0, (o0 + (0 * 4)), none⟩) (((if (520 : Int) < (n2 : Int) then (520 : Int) else (n2 : Int))).toNat - 0) (n3 - 0)), some (vn)]) (bl := [some (.ro O0)]) (ob := [(dP (0 ≤ ((if (520 : Int) < (n2 : Int) then (520 : Int) else (n2 : Int))).toNat ∧ ((if (520 : Int) < (n2 : Int) then (520 : Int) else (n2 : Int))).toNat ≤ n3), true), ((if (520 : Int) < (n2 : Int) then (520 : Int) else (n2 : Int)) == Int.ofNat ((if (520 : Int) < (n2 : Int) then (520 : Int) else (n2 : Int))).toNat, true), (dS 0, true)]) rfl rfl (show Zq (Zap 1).2 = [] from rfl) (by kernel_rfl) (Za (Zg ⟨ltA, ltA⟩) <| oI <| oR Zb) rfl (by decide) (by rfl) ⟨⟨Eq.trans (show (vs 0 o0 (((if (520 : Int) < (n2 : Int) then (520 : Int) else (n2 : Int))).toNat - 0) (n3 - 0) : Value) = Value.slice (some ⟨0, (o0 + (0 * 4)), none⟩) (((if (520 : Int) < (n2 : Int) then (520 : Int) else (n2 : Int))).toNat - 0) (n3 - 0) from (Z2 eqA rfl rfl)) (by rfl), by rfl⟩, ⟨rr, trivial⟩⟩ ⟨rfl, trivial⟩
 ·
  exact Mach.en_none

theorem ZjV (o0 : Nat) (L1 : List R_iiii) (n2 n3 : Nat) (O0 : Obj) (F0 : Zbk O0 o0 L1) (N : Nat) (r : Zae) (h : ZhY L1 n2 n3 N = some r) : LSpec Try.prog 3 #[vs 0 o0 n2 n3, vn] [.ro O0] (ZhI o0 L1 n2 n3 O0 r) (ZgY o0 L1 n2 n3 O0 r) :=
 Mach.spec ZaR (ZW o0 L1 n2 n3 O0 N) Try.func3 (by kernel_rfl) (by kernel_rfl) (fun x => by cases x <;> exact Zal _ rfl) (fun r => by cases r <;> exact Zal _ rfl) (fun x => by
  cases x with
  | h1m0 => exact fun _ => (show ¬ (1 ∈ Zq (Zap 1).2) from by decide +kernel)
  | h2m0 _ _ => exact fun _ => (show ¬ (2 ∈ Zq (Zap 2).2) from by decide +kernel)
  | h2m1 _ _ => exact fun _ => (show ¬ (2 ∈ Zq (Zap 2).2) from by decide +kernel)
  | h3m0 _ _ => exact fun _ => (show ¬ (3 ∈ Zq (Zap 3).2) from by decide +kernel)
  | h3m1 _ _ => exact fun _ => (show ¬ (3 ∈ Zq (Zap 3).2) from by decide +kernel)
  ) (fun x => (show (ZW o0 L1 n2 n3 O0 N).Ok Try.prog Zj x (Zbu L1 n2 n3 N x) from by
  cases x with
  | h1m0 => exact Zjm o0 L1 n2 n3 O0 F0 N
  | h2m0 v2 v3 => exact Zjn o0 L1 n2 n3 O0 F0 v2 v3 N
  | h2m1 v2 v4 => exact Zjo o0 L1 n2 n3 O0 F0 v2 v4 N
  | h3m0 v2 v3 => exact Zjp o0 L1 n2 n3 O0 F0 v2 v3 N
  | h3m1 v2 v4 => exact Zjq o0 L1 n2 n3 O0 F0 v2 v4 N
  )) (Zlu o0 L1 n2 n3 O0 F0 N) (n := N) h

noncomputable def ZkT  : ZbU → Value
 | .r0 w0 => Value.tuple #[vs 0 0 w0.length w0.length, vq]
noncomputable def ZjI  : ZbU → List (Option AObj)
 | .r0 w0 => [some (.cells (Zc (Ze .u8) w0) 5)]

def ZpN : Zbj → Nat
 | .h1m0 => 1
noncomputable def Zqq  : Zbj → List (Nat × Value)
 | .h1m0 => [(4, vs 0 0 6 6), (22, vn), (23, vq), (24, vq)]
noncomputable def Zqr  : Zbj → List (Option AObj)
 | .h1m0 => [some (.cells (Zc (Ze .u8) ([(71 : Int), (78 : Int), (84 : Int), (1 : Int), (0 : Int), (0 : Int)] : List Int)) 5)]

noncomputable def Zgc : Nat → Code × List Za2
 | 1 => Zbz [1, 1, 1, 0, 1, 3] (Zbh Try.f7) []
 | _ => (.skip, [])
def ZpO : Nat → Bool
 | 1 => true
 | _ => true
noncomputable def Zd1  (N : Nat) : Mach := ⟨Try.f7, [], Zbj, ZbU, ZeH  N, ZpN, Zgc, ZpO, Zqq , Zqr , ZkT , ZjI ⟩

theorem Zmf  (N : Nat) : (Zd1  N).Ok Try.prog Zj (.h1m0 : Zbj) (ZeH  N (.h1m0 : Zbj)) := by
 show (Zd1  N).Ok Try.prog Zj (.h1m0 : Zbj) (Zd8  N)
 unfold Zd8
 refine Mach.ok_bind (fun z0 c0 => ?_)
 cases z0 with
 | r0 y0_0 =>
  exact Mach.ok_fin (M := Zd1  N) (cd := 1000000) (cm := 0) (r := (.r0 (([(71 : Int), (78 : Int), (84 : Int), (1 : Int), (0 : Int), (0 : Int), y0_0] : List Int)) : ZbU)) (fu := 4000) (orc := (Zh [] [] [] [] [(0, (Zpz (([(71 : Int), (78 : Int), (84 : Int), (1 : Int), (0 : Int), (0 : Int)] : List Int))  y0_0 0 1)), (1, .ap 1 [Value.int .u8 y0_0] (Zc (Ze .u8) ([(71 : Int), (78 : Int), (84 : Int), (1 : Int), (0 : Int), (0 : Int), y0_0] : List Int)))])) (live := [2]) (u := Value.tuple #[vs 2 0 (6 + 1) (6 + 1), vq]) (bl := [some (.cells (Zc (Ze .u8) ([(71 : Int), (78 : Int), (84 : Int), (1 : Int), (0 : Int), (0 : Int), y0_0] : List Int)) 5)]) (ob := [(dP ((1 = 1 ∧ Z4 (1 * 1) (List.drop 0 [Value.int .u8 y0_0]) = some [Value.int .u8 y0_0] ∧ ZV Zbd [Value.int .u8 y0_0] = true) ∧ 0 < 1 ∧ 1 ≤ 100000 ∧ 6 < 6 + 1 ∧ 6 ≤ 100000 ∧ 6 * 1 ≤ (List.length (Zc (Ze .u8) ([(71 : Int), (78 : Int), (84 : Int), (1 : Int), (0 : Int), (0 : Int)] : List Int))) ∧ List.take (6 * 1) (Zc (Ze .u8) ([(71 : Int), (78 : Int), (84 : Int), (1 : Int), (0 : Int), (0 : Int)] : List Int)) ++ [Value.int .u8 y0_0] = (Zc (Ze .u8) ([(71 : Int), (78 : Int), (84 : Int), (1 : Int), (0 : Int), (0 : Int), y0_0] : List Int))), true), (dP (Zlk #[vs 0 0 6 6] (([(71 : Int), (78 : Int), (84 : Int), (1 : Int), (0 : Int), (0 : Int)] : List Int))  y0_0 0 1), true), (dS (Zc (Ze .u8) ([(71 : Int), (78 : Int), (84 : Int), (1 : Int), (0 : Int), (0 : Int)] : List Int)), true)]) (fun gv => by kernel_rfl) (Za (Zg ⟨⟨rfl, ⟨rfl, rfl⟩⟩, by omega, by omega, ltA, by omega, (Zci (E := (Ze .u8)) (L := ([(71 : Int), (78 : Int), (84 : Int), (1 : Int), (0 : Int), (0 : Int)] : List Int)) (M := ([y0_0] : List Int)) (n := 6) (show _ = _ * 1 from rfl) ltA (R := ([(71 : Int), (78 : Int), (84 : Int), (1 : Int), (0 : Int), (0 : Int), y0_0] : List Int)) (by rw [List.take_of_length_le ltA]; rfl))⟩) <| Za (Zg (Zp0 #[vs 0 0 6 6] (([(71 : Int), (78 : Int), (84 : Int), (1 : Int), (0 : Int), (0 : Int)] : List Int))  y0_0 N c0 0 1 (ZcM (Zf (Z2 rfl eqA eqA) rfl)) (by decide) (by decide))) <| oR Zb) rfl (by decide) (by rfl) ⟨Eq.trans (show (Value.tuple #[vs 0 0 ([(71 : Int), (78 : Int), (84 : Int), (1 : Int), (0 : Int), (0 : Int), y0_0] : List Int).length ([(71 : Int), (78 : Int), (84 : Int), (1 : Int), (0 : Int), (0 : Int), y0_0] : List Int).length, vq] : Value) = Value.tuple #[vs 0 0 (6 + 1) (6 + 1), vq] from (ZaD (Zf (Z2 rfl eqA eqA) (Zf rfl rfl)))) (by rfl), by rfl⟩ ⟨(Zn (E := (Ze .u8)) (α := Int) _ ([(71 : Int), (78 : Int), (84 : Int), (1 : Int), (0 : Int), (0 : Int), y0_0] : List Int) _), trivial⟩

theorem ZoU  (N : Nat) : (Zd1  N).Enter Try.prog Zj #[vn] (Zf9  N) := by
 unfold Zf9
 exact Mach.en_head (bK := Zgc 1) (M := Zd1  N) (cd := 1000000) (cm := 0) (y := (.h1m0 : Zbj)) (fu := 4000) (orc := (Zh [] [] [] [] [])) (live := [2]) (tv := [some (vs 2 0 6 6), some (vn), some (vq), some (vq)]) (bl := [some (.cells [Value.int .u8 (71 : Int), Value.int .u8 (78 : Int), Value.int .u8 (84 : Int), Value.int .u8 (1 : Int), Value.int .u8 (0 : Int), Value.int .u8 (0 : Int)] 5)]) (ob := []) rfl rfl (show Zq (Zgc 1).2 = [] from rfl) (by kernel_rfl) Zb rfl (by decide) (by rfl) ⟨rr, ⟨rr, ⟨rr, ⟨rr, trivial⟩⟩⟩⟩ ⟨(Zaq (E := (Ze .u8)) _ (L := ([(71 : Int), (78 : Int), (84 : Int), (1 : Int), (0 : Int), (0 : Int)] : List Int)) _ (show ([Value.int .u8 (71 : Int), Value.int .u8 (78 : Int), Value.int .u8 (84 : Int), Value.int .u8 (1 : Int), Value.int .u8 (0 : Int), Value.int .u8 (0 : Int)] : List Value) = Zc (Ze .u8) ([(71 : Int), (78 : Int), (84 : Int), (1 : Int), (0 : Int), (0 : Int)] : List Int) from rfl)), trivial⟩

theorem Znv  (N : Nat) (r : ZbU) (h : Zfy  N = some r) : LSpec Try.prog 7 #[vn] [] (ZkT  r) (ZjI  r) :=
 Mach.spec ZaR (Zd1  N) Try.func7 (by kernel_rfl) (by kernel_rfl) (fun x => by cases x <;> exact Zal _ rfl) (fun r => by cases r <;> exact Zal _ rfl) (fun x => by
  cases x with
  | h1m0 => exact fun _ => (show ¬ (1 ∈ Zq (Zgc 1).2) from by decide +kernel)
  ) (fun x => (show (Zd1  N).Ok Try.prog Zj x (ZeH  N x) from by
  cases x with
  | h1m0 => exact Zmf  N
  )) (ZoU  N) (n := N) h

noncomputable def ZjJ  (w0 : List Int) (n : Nat) : Za4 := .call [] (Value.tuple #[vs n 0 w0.length w0.length, vq]) [(n, some (.cells (Zc (Ze .u8) w0) 5))] 1
def ZgT (A : Array Value)  (w0 : List Int) (n : Nat) : Prop := ZB Try.prog 7 A [] (Value.tuple #[vs n 0 w0.length w0.length, vq]) [(n, some (.cells (Zc (Ze .u8) w0) 5))] n 1

theorem ZjK (A : Array Value)  (w0 : List Int) (N : Nat) (h : Zfy  N = some (.r0 w0)) (n : Nat) (hA : A = #[vn]) (hnd : ([] : List Nat).Nodup) (hlt : ∀ k ∈ ([] : List Nat), k < n) : ZgT A  w0  n :=
 ZQ hA (LSpec.callL (show LSpec Try.prog 7 #[vn] [] (Value.tuple #[vs 0 0 w0.length w0.length, vq]) [some (.cells (Zc (Ze .u8) w0) 5)] from Znv  N _ h) [] n [0] rfl hnd hlt (show 0 ≤ 1 from by decide) (show ∀ j ∈ ([0] : List Nat), j < 1 from by decide) (by rfl) trivial (by rfl) ⟨(ZaE _ _ _), trivial⟩ ⟨(by decide), trivial⟩ rfl rfl rfl rfl (Zf (ZaJ rfl (ZeN (ZbJ _ _ _))) rfl))

noncomputable def ZhJ (o0 : Nat) (L1 : List Int) (n2 n3 : Nat) (O0 : Obj) : ZT → Value
 | .r0 w2 => Value.bool w2
noncomputable def Zha (o0 : Nat) (L1 : List Int) (n2 n3 : Nat) (O0 : Obj) : ZT → List (Option AObj)
 | .r0 w2 => [some (.ro O0)]

def Zmg : Z9 → Nat
 | .h1m0 => 1
 | .h2m0 v4 v6 => 2
 | .h3m0 v2 v4 v6 v7 => 3
 | .h3m1 v2 v4 v6 v8 => 3
noncomputable def Znw (o0 : Nat) (L1 : List Int) (n2 n3 : Nat) (O0 : Obj) : Z9 → List (Nat × Value)
 | .h1m0 => [(0, vn), (1, vs 0 o0 (((if (6000 : Int) < (n2 : Int) then (6000 : Int) else (n2 : Int))).toNat - 0) (n3 - 0))]
 | .h2m0 v4 v6 => [(1, vs 0 o0 (((if (6000 : Int) < (n2 : Int) then (6000 : Int) else (n2 : Int))).toNat - 0) (n3 - 0)), (5, vs 1 0 v4.length v4.length), (6, vq), (7, vs 2 0 v6.length v6.length), (8, vq)]
 | .h3m0 v2 v4 v6 v7 => [(5, vs 1 0 v2.length v2.length), (6, vq), (7, vs 2 0 v4.length v4.length), (8, vq), (9, vn), (10, vi v6), (11, vn), (12, vi v7)]
 | .h3m1 v2 v4 v6 v8 => [(5, vs 1 0 v2.length v2.length), (6, vq), (7, vs 2 0 v4.length v4.length), (8, vq), (9, vs 3 0 v6.length v6.length), (10, vq), (11, vs 4 0 v8.length v8.length), (12, vq)]
noncomputable def Znx (o0 : Nat) (L1 : List Int) (n2 n3 : Nat) (O0 : Obj) : Z9 → List (Option AObj)
 | .h1m0 => [some (.ro O0)]
 | .h2m0 v4 v6 => [some (.ro O0), some (.cells (Zc (Ze .u8) v4) 5), some (.cells (Zc (Ze .u8) v6) 5)]
 | .h3m0 v2 v4 v6 v7 => [some (.ro O0), some (.cells (Zc (Ze .u8) v2) 5), some (.cells (Zc (Ze .u8) v4) 5)]
 | .h3m1 v2 v4 v6 v8 => [some (.ro O0), some (.cells (Zc (Ze .u8) v2) 5), some (.cells (Zc (Ze .u8) v4) 5), some (.cells (Zc Zi v6) 44), some (.cells (Zc Zi v8) 44)]

noncomputable def Za0 : Nat → Code × List Za2
 | 1 => Zff [1, 1] (Zbh Try.f3) []
 | 2 => Zff [1, 1, 1, 1] (Zbh Try.f3) []
 | 3 => Zff [1, 1, 1, 1, 1, 1] (Zbh Try.f3) []
 | _ => (.skip, [])
def Zhb : Nat → Bool
 | 1 => false
 | 2 => false
 | 3 => false
 | _ => true
noncomputable def ZfK (i : Nat) : List Za2 := match Zhb i with | true => .rnd i :: (Za0 i).2 | false => (Za0 i).2

noncomputable def ZY (o0 : Nat) (L1 : List Int) (n2 n3 : Nat) (O0 : Obj) (N : Nat) : Mach := ⟨Try.f3, [.ro O0], Z9, ZT, ZbC L1 n2 n3 N, Zmg, Za0, Zhb, Znw o0 L1 n2 n3 O0, Znx o0 L1 n2 n3 O0, ZhJ o0 L1 n2 n3 O0, Zha o0 L1 n2 n3 O0⟩

theorem Zjr (o0 : Nat) (L1 : List Int) (n2 n3 : Nat) (O0 : Obj) (F0 : ∀ i, i < L1.length → Zat O0 (o0 + i * 1) [.k .u8 (L1.getD i 0)]) (N : Nat) : (ZY o0 L1 n2 n3 O0 N).Ok Try.prog Zj (.h1m0 : Z9) (ZbC L1 n2 n3 N (.h1m0 : Z9)) := by
 show (ZY o0 L1 n2 n3 O0 N).Ok Try.prog Zj (.h1m0 : Z9) (Ze9 L1 n2 n3 N)
 unfold Ze9
 refine Mach.ok_bind (fun z0 c0 => ?_)
 cases z0 with
 | r0 y0_0 =>
  refine Mach.ok_bind (fun z1 c1 => ?_)
  cases z1 with
  | r0 y1_0 =>
   exact Mach.ok_cut (bK := Za0 2) (M := ZY o0 L1 n2 n3 O0 N) (cd := 0) (cm := 1) (y := (.h2m0 (y0_0) (y1_0) : Z9)) (fu := 4000) (orc := (Zh [] [] [] [] [(0, (ZjJ   y0_0  1)), (1, (Zfq   y1_0  2))])) (live := [0, 1, 2]) (tv := fun _ => [some (vs 0 o0 (((if (6000 : Int) < (n2 : Int) then (6000 : Int) else (n2 : Int))).toNat - 0) (n3 - 0)), some (vs 1 0 y0_0.length y0_0.length), some (vq), some (vs 2 0 y1_0.length y1_0.length), some (vq)]) (bl := [some (.ro O0), some (.cells (Zc (Ze .u8) y0_0) 5), some (.cells (Zc (Ze .u8) y1_0) 5)]) (ob := [(dP (Zej #[vn]   y1_0  2), true), (dP (ZgT #[vn]   y0_0  1), true)]) rfl rfl (show ∀ j ∈ Zq (Za0 2).2, j ∈ Zq (ZfK 1) from by decide +kernel) (fun gv => by kernel_rfl) (Za (Zg (Zfr #[vn]   y1_0 N c1  2 rfl (by decide) (by decide))) <| Za (Zg (ZjK #[vn]   y0_0 N c0  1 rfl (by decide) (by decide))) Zb) rfl (by decide) (by rfl) (fun _ => ⟨rr, ⟨rr, ⟨rr, ⟨rr, ⟨rr, trivial⟩⟩⟩⟩⟩) ⟨rfl, ⟨(Zn (E := (Ze .u8)) (α := Int) _ y0_0 _), ⟨(Zn (E := (Ze .u8)) (α := Int) _ y1_0 _), trivial⟩⟩⟩

theorem Zjs (o0 : Nat) (L1 : List Int) (n2 n3 : Nat) (O0 : Obj) (F0 : ∀ i, i < L1.length → Zat O0 (o0 + i * 1) [.k .u8 (L1.getD i 0)]) (v4 v6 : List Int) (N : Nat) : (ZY o0 L1 n2 n3 O0 N).Ok Try.prog Zj (.h2m0 v4 v6 : Z9) (ZbC L1 n2 n3 N (.h2m0 v4 v6 : Z9)) := by
 show (ZY o0 L1 n2 n3 O0 N).Ok Try.prog Zj (.h2m0 v4 v6 : Z9) (ZeA L1 n2 n3 N v4 v6)
 unfold ZeA
 refine Mach.ok_bind (fun z0 c0 => ?_)
 cases z0 with
 | r0 y0_0 =>
  refine Mach.ok_bind (fun z1 c1 => ?_)
  cases z1 with
  | r0 y1_0 =>
   exact Mach.ok_cut (bK := Za0 3) (M := ZY o0 L1 n2 n3 O0 N) (cd := 0) (cm := 1) (y := (.h3m0 (v4) (v6) (y0_0) (y1_0) : Z9)) (fu := 4000) (orc := (Zh [] [] [] [] [(0, (ZhT (o0) (L1) ((((if (6000 : Int) < (n2 : Int) then (6000 : Int) else (n2 : Int))).toNat - 0)) ((n3 - 0)) O0 y0_0 0 3)), (1, (Zhu (o0) (L1) ((((if (6000 : Int) < (n2 : Int) then (6000 : Int) else (n2 : Int))).toNat - 0)) ((n3 - 0)) O0 y1_0 0 3))])) (live := [0, 1, 2]) (tv := fun _ => [some (vs 1 0 v4.length v4.length), some (vq), some (vs 2 0 v6.length v6.length), some (vq), some (vn), some (vi y0_0), some (vn), some (vi y1_0)]) (bl := [some (.ro O0), some (.cells (Zc (Ze .u8) v4) 5), some (.cells (Zc (Ze .u8) v6) 5)]) (ob := [(dP (Zga #[vs 0 o0 (((if (6000 : Int) < (n2 : Int) then (6000 : Int) else (n2 : Int))).toNat - 0) (n3 - 0)] (o0) (L1) ((((if (6000 : Int) < (n2 : Int) then (6000 : Int) else (n2 : Int))).toNat - 0)) ((n3 - 0)) O0 y1_0 0 3), true), (dS O0, true), (dP (Zgr #[vs 0 o0 (((if (6000 : Int) < (n2 : Int) then (6000 : Int) else (n2 : Int))).toNat - 0) (n3 - 0)] (o0) (L1) ((((if (6000 : Int) < (n2 : Int) then (6000 : Int) else (n2 : Int))).toNat - 0)) ((n3 - 0)) O0 y0_0 0 3), true), (dS O0, true)]) rfl rfl (show ∀ j ∈ Zq (Za0 3).2, j ∈ Zq (ZfK 2) from by decide +kernel) (fun gv => by kernel_rfl) (Za (Zg (Zhv #[vs 0 o0 (((if (6000 : Int) < (n2 : Int) then (6000 : Int) else (n2 : Int))).toNat - 0) (n3 - 0)] (o0) (L1) ((((if (6000 : Int) < (n2 : Int) then (6000 : Int) else (n2 : Int))).toNat - 0)) ((n3 - 0)) O0 F0 y1_0 N c1 0 3 rfl (by decide) (by decide))) <| oR <| Za (Zg (ZhU #[vs 0 o0 (((if (6000 : Int) < (n2 : Int) then (6000 : Int) else (n2 : Int))).toNat - 0) (n3 - 0)] (o0) (L1) ((((if (6000 : Int) < (n2 : Int) then (6000 : Int) else (n2 : Int))).toNat - 0)) ((n3 - 0)) O0 F0 y0_0 N c0 0 3 rfl (by decide) (by decide))) <| oR Zb) rfl (by decide) (by rfl) (fun _ => ⟨rr, ⟨rr, ⟨rr, ⟨rr, ⟨rr, ⟨rr, ⟨rr, ⟨rr, trivial⟩⟩⟩⟩⟩⟩⟩⟩) ⟨rfl, ⟨(Zn (E := (Ze .u8)) (α := Int) _ v4 _), ⟨(Zn (E := (Ze .u8)) (α := Int) _ v6 _), trivial⟩⟩⟩
  | r1 _ =>
   exact Mach.ok_none
 | r1 y0_0 =>
  refine Mach.ok_bind (fun z1 c1 => ?_)
  cases z1 with
  | r0 _ =>
   exact Mach.ok_none
  | r1 y1_0 =>
   exact Mach.ok_cut (bK := Za0 3) (M := ZY o0 L1 n2 n3 O0 N) (cd := 0) (cm := 1) (y := (.h3m1 (v4) (v6) (y0_0) (y1_0) : Z9)) (fu := 4000) (orc := (Zh [] [] [] [] [(0, (ZhV (o0) (L1) ((((if (6000 : Int) < (n2 : Int) then (6000 : Int) else (n2 : Int))).toNat - 0)) ((n3 - 0)) O0 y0_0 0 3)), (1, (Zhw (o0) (L1) ((((if (6000 : Int) < (n2 : Int) then (6000 : Int) else (n2 : Int))).toNat - 0)) ((n3 - 0)) O0 y1_0 0 4))])) (live := [0, 1, 2, 3, 4]) (tv := fun _ => [some (vs 1 0 v4.length v4.length), some (vq), some (vs 2 0 v6.length v6.length), some (vq), some (vs 3 0 y0_0.length y0_0.length), some (vq), some (vs 4 0 y1_0.length y1_0.length), some (vq)]) (bl := [some (.ro O0), some (.cells (Zc (Ze .u8) v4) 5), some (.cells (Zc (Ze .u8) v6) 5), some (.cells (Zc Zi y0_0) 44), some (.cells (Zc Zi y1_0) 44)]) (ob := [(dP (Zgb #[vs 0 o0 (((if (6000 : Int) < (n2 : Int) then (6000 : Int) else (n2 : Int))).toNat - 0) (n3 - 0)] (o0) (L1) ((((if (6000 : Int) < (n2 : Int) then (6000 : Int) else (n2 : Int))).toNat - 0)) ((n3 - 0)) O0 y1_0 0 4), true), (dS O0, true), (dP (Zgs #[vs 0 o0 (((if (6000 : Int) < (n2 : Int) then (6000 : Int) else (n2 : Int))).toNat - 0) (n3 - 0)] (o0) (L1) ((((if (6000 : Int) < (n2 : Int) then (6000 : Int) else (n2 : Int))).toNat - 0)) ((n3 - 0)) O0 y0_0 0 3), true), (dS O0, true)]) rfl rfl (show ∀ j ∈ Zq (Za0 3).2, j ∈ Zq (ZfK 2) from by decide +kernel) (fun gv => by kernel_rfl) (Za (Zg (Zhx #[vs 0 o0 (((if (6000 : Int) < (n2 : Int) then (6000 : Int) else (n2 : Int))).toNat - 0) (n3 - 0)] (o0) (L1) ((((if (6000 : Int) < (n2 : Int) then (6000 : Int) else (n2 : Int))).toNat - 0)) ((n3 - 0)) O0 F0 y1_0 N c1 0 4 rfl (by decide) (by decide))) <| oR <| Za (Zg (ZhW #[vs 0 o0 (((if (6000 : Int) < (n2 : Int) then (6000 : Int) else (n2 : Int))).toNat - 0) (n3 - 0)] (o0) (L1) ((((if (6000 : Int) < (n2 : Int) then (6000 : Int) else (n2 : Int))).toNat - 0)) ((n3 - 0)) O0 F0 y0_0 N c0 0 3 rfl (by decide) (by decide))) <| oR Zb) rfl (by decide) (by rfl) (fun _ => ⟨rr, ⟨rr, ⟨rr, ⟨rr, ⟨rr, ⟨rr, ⟨rr, ⟨rr, trivial⟩⟩⟩⟩⟩⟩⟩⟩) ⟨rfl, ⟨(Zn (E := (Ze .u8)) (α := Int) _ v4 _), ⟨(Zn (E := (Ze .u8)) (α := Int) _ v6 _), ⟨(Zn (E := Zi) (α := R_iiii) _ y0_0 _), ⟨(Zn (E := Zi) (α := R_iiii) _ y1_0 _), trivial⟩⟩⟩⟩⟩

theorem Zjt (o0 : Nat) (L1 : List Int) (n2 n3 : Nat) (O0 : Obj) (F0 : ∀ i, i < L1.length → Zat O0 (o0 + i * 1) [.k .u8 (L1.getD i 0)]) (v2 v4 : List Int) (v6 v7 : Int) (N : Nat) : (ZY o0 L1 n2 n3 O0 N).Ok Try.prog Zj (.h3m0 v2 v4 v6 v7 : Z9) (ZbC L1 n2 n3 N (.h3m0 v2 v4 v6 v7 : Z9)) := by
 show (ZY o0 L1 n2 n3 O0 N).Ok Try.prog Zj (.h3m0 v2 v4 v6 v7 : Z9) (ZcB L1 n2 n3 N v2 v4 v6 v7)
 unfold ZcB
 refine Mach.ok_ite (fun g0 => ?_) (fun g0 => ?_)
 ·
  refine Mach.ok_bind (fun z1 c1 => ?_)
  cases z1 with
  | r0 =>
   refine Mach.ok_ite (fun g2 => ?_) (fun g2 => ?_)
   ·
    exact Mach.ok_fin (M := ZY o0 L1 n2 n3 O0 N) (cd := 1000000) (cm := 0) (r := (.r0 (true) : ZT)) (fu := 4000) (orc := (Zh [(0, true), (2, true)] [] [] [] [(0, .bs v2), (1, .bs v4), (2, (Zdg     3))])) (live := [0]) (u := vT) (bl := [some (.ro O0)]) (ob := [((v6 == v7), true), (dP (ZcF #[vn, vn]     3), true), (((Z5 v2).toList == (Z5 v4).toList), true), (dP (Z4 v4.length (List.drop 0 (Zc (Ze .u8) v4)) = some (List.map (Value.int .u8) v4)), true), (dP (Z4 v2.length (List.drop 0 (Zc (Ze .u8) v2)) = some (List.map (Value.int .u8) v2)), true)]) (fun gv => by kernel_rfl) (oT <| Za (Zg (Zdh #[vn, vn]    N c1  3 rfl (by decide) (by decide))) <| Za (Zd9 (x := v2) (y := v4) (by assumption)) <| Za (Zg (ZaB (L := v4) (a := 0) (by omega) (by show _ = _ * 1; omega) (by first | rfl | simp))) <| Za (Zg (ZaB (L := v2) (a := 0) (by omega) (by show _ = _ * 1; omega) (by first | rfl | simp))) Zb) rfl (by decide) (by rfl) rr ⟨rfl, trivial⟩
   ·
    exact Mach.ok_fin (M := ZY o0 L1 n2 n3 O0 N) (cd := 1000000) (cm := 0) (r := (.r0 (false) : ZT)) (fu := 4000) (orc := (Zh [(0, true), (2, false)] [] [] [] [(0, .bs v2), (1, .bs v4), (2, (Zdg     3))])) (live := [0]) (u := vf) (bl := [some (.ro O0)]) (ob := [((v6 == v7), false), (dP (ZcF #[vn, vn]     3), true), (((Z5 v2).toList == (Z5 v4).toList), true), (dP (Z4 v4.length (List.drop 0 (Zc (Ze .u8) v4)) = some (List.map (Value.int .u8) v4)), true), (dP (Z4 v2.length (List.drop 0 (Zc (Ze .u8) v2)) = some (List.map (Value.int .u8) v2)), true)]) (fun gv => by kernel_rfl) (oF <| Za (Zg (Zdh #[vn, vn]    N c1  3 rfl (by decide) (by decide))) <| Za (Zd9 (x := v2) (y := v4) (by assumption)) <| Za (Zg (ZaB (L := v4) (a := 0) (by omega) (by show _ = _ * 1; omega) (by first | rfl | simp))) <| Za (Zg (ZaB (L := v2) (a := 0) (by omega) (by show _ = _ * 1; omega) (by first | rfl | simp))) Zb) rfl (by decide) (by rfl) rr ⟨rfl, trivial⟩
 ·
  exact Mach.ok_fin (M := ZY o0 L1 n2 n3 O0 N) (cd := 1000000) (cm := 0) (r := (.r0 (false) : ZT)) (fu := 4000) (orc := (Zh [(0, false)] [] [] [] [(0, .bs v2), (1, .bs v4)])) (live := [0]) (u := vf) (bl := [some (.ro O0)]) (ob := [(((Z5 v2).toList == (Z5 v4).toList), false), (dP (Z4 v4.length (List.drop 0 (Zc (Ze .u8) v4)) = some (List.map (Value.int .u8) v4)), true), (dP (Z4 v2.length (List.drop 0 (Zc (Ze .u8) v2)) = some (List.map (Value.int .u8) v2)), true)]) (fun gv => by kernel_rfl) (Za (Zgm (x := v2) (y := v4) (by assumption)) <| Za (Zg (ZaB (L := v4) (a := 0) (by omega) (by show _ = _ * 1; omega) (by first | rfl | simp))) <| Za (Zg (ZaB (L := v2) (a := 0) (by omega) (by show _ = _ * 1; omega) (by first | rfl | simp))) Zb) rfl (by decide) (by rfl) rr ⟨rfl, trivial⟩

theorem Zju (o0 : Nat) (L1 : List Int) (n2 n3 : Nat) (O0 : Obj) (F0 : ∀ i, i < L1.length → Zat O0 (o0 + i * 1) [.k .u8 (L1.getD i 0)]) (v2 v4 : List Int) (v6 v8 : List R_iiii) (N : Nat) : (ZY o0 L1 n2 n3 O0 N).Ok Try.prog Zj (.h3m1 v2 v4 v6 v8 : Z9) (ZbC L1 n2 n3 N (.h3m1 v2 v4 v6 v8 : Z9)) := by
 show (ZY o0 L1 n2 n3 O0 N).Ok Try.prog Zj (.h3m1 v2 v4 v6 v8 : Z9) (ZcC L1 n2 n3 N v2 v4 v6 v8)
 unfold ZcC
 refine Mach.ok_ite (fun g0 => ?_) (fun g0 => ?_)
 ·
  refine Mach.ok_bind (fun z1 c1 => ?_)
  cases z1 with
  | r0 y1_0 =>
   refine Mach.ok_ite (fun g2 => ?_) (fun g2 => ?_)
   ·
    subst g2
    exact Mach.ok_fin (M := ZY o0 L1 n2 n3 O0 N) (cd := 1000000) (cm := 0) (r := (.r0 (true) : ZT)) (fu := 4000) (orc := (Zh [(0, true)] [] [] [] [(0, .bs v2), (1, .bs v4), (2, (Zeb (v6) (v8)  true 3 4 5))])) (live := [0]) (u := vT) (bl := [some (.ro O0)]) (ob := [(dP (Zdz #[vs 3 0 v6.length v6.length, vs 4 0 v8.length v8.length] (v6) (v8)  true 3 4 5), true), (dS (Zc Zi v6), true), (dS (Zc Zi v8), true), (((Z5 v2).toList == (Z5 v4).toList), true), (dP (Z4 v4.length (List.drop 0 (Zc (Ze .u8) v4)) = some (List.map (Value.int .u8) v4)), true), (dP (Z4 v2.length (List.drop 0 (Zc (Ze .u8) v2)) = some (List.map (Value.int .u8) v2)), true)]) (fun gv => by kernel_rfl) (Za (Zg (Zec #[vs 3 0 v6.length v6.length, vs 4 0 v8.length v8.length] (v6) (v8)  true N c1 3 4 5 rfl (by decide) (by decide))) <| oR <| oR <| Za (Zd9 (x := v2) (y := v4) (by assumption)) <| Za (Zg (ZaB (L := v4) (a := 0) (by omega) (by show _ = _ * 1; omega) (by first | rfl | simp))) <| Za (Zg (ZaB (L := v2) (a := 0) (by omega) (by show _ = _ * 1; omega) (by first | rfl | simp))) Zb) rfl (by decide) (by rfl) rr ⟨rfl, trivial⟩
   ·
    obtain rfl : y1_0 = false := by simpa using g2
    exact Mach.ok_fin (M := ZY o0 L1 n2 n3 O0 N) (cd := 1000000) (cm := 0) (r := (.r0 (false) : ZT)) (fu := 4000) (orc := (Zh [(0, true)] [] [] [] [(0, .bs v2), (1, .bs v4), (2, (Zeb (v6) (v8)  false 3 4 5))])) (live := [0]) (u := vf) (bl := [some (.ro O0)]) (ob := [(dP (Zdz #[vs 3 0 v6.length v6.length, vs 4 0 v8.length v8.length] (v6) (v8)  false 3 4 5), true), (dS (Zc Zi v6), true), (dS (Zc Zi v8), true), (((Z5 v2).toList == (Z5 v4).toList), true), (dP (Z4 v4.length (List.drop 0 (Zc (Ze .u8) v4)) = some (List.map (Value.int .u8) v4)), true), (dP (Z4 v2.length (List.drop 0 (Zc (Ze .u8) v2)) = some (List.map (Value.int .u8) v2)), true)]) (fun gv => by kernel_rfl) (Za (Zg (Zec #[vs 3 0 v6.length v6.length, vs 4 0 v8.length v8.length] (v6) (v8)  false N c1 3 4 5 rfl (by decide) (by decide))) <| oR <| oR <| Za (Zd9 (x := v2) (y := v4) (by assumption)) <| Za (Zg (ZaB (L := v4) (a := 0) (by omega) (by show _ = _ * 1; omega) (by first | rfl | simp))) <| Za (Zg (ZaB (L := v2) (a := 0) (by omega) (by show _ = _ * 1; omega) (by first | rfl | simp))) Zb) rfl (by decide) (by rfl) rr ⟨rfl, trivial⟩
 ·
  exact Mach.ok_fin (M := ZY o0 L1 n2 n3 O0 N) (cd := 1000000) (cm := 0) (r := (.r0 (false) : ZT)) (fu := 4000) (orc := (Zh [(0, false)] [] [] [] [(0, .bs v2), (1, .bs v4)])) (live := [0]) (u := vf) (bl := [some (.ro O0)]) (ob := [(((Z5 v2).toList == (Z5 v4).toList), false), (dP (Z4 v4.length (List.drop 0 (Zc (Ze .u8) v4)) = some (List.map (Value.int .u8) v4)), true), (dP (Z4 v2.length (List.drop 0 (Zc (Ze .u8) v2)) = some (List.map (Value.int .u8) v2)), true)]) (fun gv => by kernel_rfl) (Za (Zgm (x := v2) (y := v4) (by assumption)) <| Za (Zg (ZaB (L := v4) (a := 0) (by omega) (by show _ = _ * 1; omega) (by first | rfl | simp))) <| Za (Zg (ZaB (L := v2) (a := 0) (by omega) (by show _ = _ * 1; omega) (by first | rfl | simp))) Zb) rfl (by decide) (by rfl) rr ⟨rfl, trivial⟩

theorem Zlv (o0 : Nat) (L1 : List Int) (n2 n3 : Nat) (O0 : Obj) (F0 : ∀ i, i < L1.length → Zat O0 (o0 + i * 1) [.k .u8 (L1.getD i 0)]) (N : Nat) : (ZY o0 L1 n2 n3 O0 N).Enter Try.prog Zj #[vn, vs 0 o0 n2 n3] (Zen L1 n2 n3 N) := by
 unfold Zen
 refine Mach.en_ite (fun g0 => ?_) (fun g0 => ?_)
 ·
  exact Mach.en_cut (bK := Za0 1) (M := ZY o0 L1 n2 n3 O0 N) (cd := 0) (cm := 1) (y := (.h1m0 : Z9)) (fu := 4000) (orc := (Zh [] [] [] [] [(1, .sl 0 ((if (6000 : Int) < (n2 : Int) then (6000 : Int) else (n2 : Int))).toNat)])) (live := [0]) (tv := [some (vn), some (Value.slice (some ⟨0, (o0 + (0 * 1)), none⟩) (((if (6000 : Int) < (n2 : Int) then (6000 : Int) else (n2 : Int))).toNat - 0) (n3 - 0))]) (bl := [some (.ro O0)]) (ob := [(dP (0 ≤ ((if (6000 : Int) < (n2 : Int) then (6000 : Int) else (n2 : Int))).toNat ∧ ((if (6000 : Int) < (n2 : Int) then (6000 : Int) else (n2 : Int))).toNat ≤ n3), true), ((if (6000 : Int) < (n2 : Int) then (6000 : Int) else (n2 : Int)) == Int.ofNat ((if (6000 : Int) < (n2 : Int) then (6000 : Int) else (n2 : Int))).toNat, true), (dS 0, true)]) rfl rfl (show Zq (Za0 1).2 = [] from rfl) (by kernel_rfl) (Za (Zg ⟨ltA, ltA⟩) <| oI <| oR Zb) rfl (by decide) (by rfl) ⟨rr, ⟨⟨Eq.trans (show (vs 0 o0 (((if (6000 : Int) < (n2 : Int) then (6000 : Int) else (n2 : Int))).toNat - 0) (n3 - 0) : Value) = Value.slice (some ⟨0, (o0 + (0 * 1)), none⟩) (((if (6000 : Int) < (n2 : Int) then (6000 : Int) else (n2 : Int))).toNat - 0) (n3 - 0) from (Z2 eqA rfl rfl)) (by rfl), by rfl⟩, trivial⟩⟩ ⟨rfl, trivial⟩
 ·
  exact Mach.en_none

theorem ZjW (o0 : Nat) (L1 : List Int) (n2 n3 : Nat) (O0 : Obj) (F0 : ∀ i, i < L1.length → Zat O0 (o0 + i * 1) [.k .u8 (L1.getD i 0)]) (N : Nat) (r : ZT) (h : ZhZ L1 n2 n3 N = some r) : LSpec Try.prog 3 #[vn, vs 0 o0 n2 n3] [.ro O0] (ZhJ o0 L1 n2 n3 O0 r) (Zha o0 L1 n2 n3 O0 r) :=
 Mach.spec ZaR (ZY o0 L1 n2 n3 O0 N) Try.func3 (by kernel_rfl) (by kernel_rfl) (fun x => by cases x <;> exact Zal _ rfl) (fun r => by cases r <;> exact Zal _ rfl) (fun x => by
  cases x with
  | h1m0 => exact fun _ => (show ¬ (1 ∈ Zq (Za0 1).2) from by decide +kernel)
  | h2m0 _ _ => exact fun _ => (show ¬ (2 ∈ Zq (Za0 2).2) from by decide +kernel)
  | h3m0 _ _ _ _ => exact fun _ => (show ¬ (3 ∈ Zq (Za0 3).2) from by decide +kernel)
  | h3m1 _ _ _ _ => exact fun _ => (show ¬ (3 ∈ Zq (Za0 3).2) from by decide +kernel)
  ) (fun x => (show (ZY o0 L1 n2 n3 O0 N).Ok Try.prog Zj x (ZbC L1 n2 n3 N x) from by
  cases x with
  | h1m0 => exact Zjr o0 L1 n2 n3 O0 F0 N
  | h2m0 v4 v6 => exact Zjs o0 L1 n2 n3 O0 F0 v4 v6 N
  | h3m0 v2 v4 v6 v7 => exact Zjt o0 L1 n2 n3 O0 F0 v2 v4 v6 v7 N
  | h3m1 v2 v4 v6 v8 => exact Zju o0 L1 n2 n3 O0 F0 v2 v4 v6 v8 N
  )) (Zlv o0 L1 n2 n3 O0 F0 N) (n := N) h

noncomputable def ZhK  : Za6 → Value
 | .r0 w0 => Value.bool w0
noncomputable def Zhc  : Za6 → List (Option AObj)
 | .r0 w0 => []

def Zmh : ZN → Nat
 | .h1m0 => 1
 | .h2m0 v0 v2 => 2
 | .h3m0 v0 v2 => 3
noncomputable def Zny  : ZN → List (Nat × Value)
 | .h1m0 => [(0, vn), (1, vn)]
 | .h2m0 v0 v2 => [(1, vn), (5, vs 0 0 v0.length v0.length), (6, vq), (7, vs 1 0 v2.length v2.length), (8, vq)]
 | .h3m0 v0 v2 => [(5, vs 0 0 v0.length v0.length), (6, vq), (7, vs 1 0 v2.length v2.length), (8, vq), (9, vn), (10, vi (6 : Int)), (11, vn), (12, vi (6 : Int))]
noncomputable def Znz  : ZN → List (Option AObj)
 | .h1m0 => []
 | .h2m0 v0 v2 => [some (.cells (Zc (Ze .u8) v0) 5), some (.cells (Zc (Ze .u8) v2) 5)]
 | .h3m0 v0 v2 => [some (.cells (Zc (Ze .u8) v0) 5), some (.cells (Zc (Ze .u8) v2) 5)]

noncomputable def ZaO : Nat → Code × List Za2
 | 1 => Zff [1, 1] (Zbh Try.f3) []
 | 2 => Zff [1, 1, 1, 1] (Zbh Try.f3) []
 | 3 => Zff [1, 1, 1, 1, 1, 1] (Zbh Try.f3) []
 | _ => (.skip, [])
def Zhd : Nat → Bool
 | 1 => false
 | 2 => false
 | 3 => false
 | _ => true
noncomputable def ZhL (i : Nat) : List Za2 := match Zhd i with | true => .rnd i :: (ZaO i).2 | false => (ZaO i).2

noncomputable def Za7  (N : Nat) : Mach := ⟨Try.f3, [], ZN, Za6, Zcf  N, Zmh, ZaO, Zhd, Zny , Znz , ZhK , Zhc ⟩

theorem Zjv  (N : Nat) : (Za7  N).Ok Try.prog Zj (.h1m0 : ZN) (Zcf  N (.h1m0 : ZN)) := by
 show (Za7  N).Ok Try.prog Zj (.h1m0 : ZN) (ZeB  N)
 unfold ZeB
 refine Mach.ok_bind (fun z0 c0 => ?_)
 cases z0 with
 | r0 y0_0 =>
  refine Mach.ok_bind (fun z1 c1 => ?_)
  cases z1 with
  | r0 y1_0 =>
   exact Mach.ok_cut (bK := ZaO 2) (M := Za7  N) (cd := 0) (cm := 1) (y := (.h2m0 (y0_0) (y1_0) : ZN)) (fu := 4000) (orc := (Zh [] [] [] [] [(0, (ZjJ   y0_0  0)), (1, (Zfq   y1_0  1))])) (live := [0, 1]) (tv := fun _ => [some (vn), some (vs 0 0 y0_0.length y0_0.length), some (vq), some (vs 1 0 y1_0.length y1_0.length), some (vq)]) (bl := [some (.cells (Zc (Ze .u8) y0_0) 5), some (.cells (Zc (Ze .u8) y1_0) 5)]) (ob := [(dP (Zej #[vn]   y1_0  1), true), (dP (ZgT #[vn]   y0_0  0), true)]) rfl rfl (show ∀ j ∈ Zq (ZaO 2).2, j ∈ Zq (ZhL 1) from by decide +kernel) (fun gv => by kernel_rfl) (Za (Zg (Zfr #[vn]   y1_0 N c1  1 rfl (by decide) (by decide))) <| Za (Zg (ZjK #[vn]   y0_0 N c0  0 rfl (by decide) (by decide))) Zb) rfl (by decide) (by rfl) (fun _ => ⟨rr, ⟨rr, ⟨rr, ⟨rr, ⟨rr, trivial⟩⟩⟩⟩⟩) ⟨(Zn (E := (Ze .u8)) (α := Int) _ y0_0 _), ⟨(Zn (E := (Ze .u8)) (α := Int) _ y1_0 _), trivial⟩⟩

theorem Zjw  (v0 v2 : List Int) (N : Nat) : (Za7  N).Ok Try.prog Zj (.h2m0 v0 v2 : ZN) (Zcf  N (.h2m0 v0 v2 : ZN)) := by
 show (Za7  N).Ok Try.prog Zj (.h2m0 v0 v2 : ZN) (ZeC  N v0 v2)
 unfold ZeC
 refine Mach.ok_bind (fun z0 c0 => ?_)
 cases z0 with
 | r0 =>
  refine Mach.ok_bind (fun z1 c1 => ?_)
  cases z1 with
  | r0 =>
   exact Mach.ok_cut (bK := ZaO 3) (M := Za7  N) (cd := 0) (cm := 1) (y := (.h3m0 (v0) (v2) : ZN)) (fu := 4000) (orc := (Zh [] [] [] [] [(0, (ZgR     2)), (1, (Zgx     2))])) (live := [0, 1]) (tv := fun _ => [some (vs 0 0 v0.length v0.length), some (vq), some (vs 1 0 v2.length v2.length), some (vq), some (vn), some (vi (6 : Int)), some (vn), some (vi (6 : Int))]) (bl := [some (.cells (Zc (Ze .u8) v0) 5), some (.cells (Zc (Ze .u8) v2) 5)]) (ob := [(dP (Zfs #[vn]     2), true), (dP (ZfB #[vn]     2), true)]) rfl rfl (show ∀ j ∈ Zq (ZaO 3).2, j ∈ Zq (ZhL 2) from by decide +kernel) (fun gv => by kernel_rfl) (Za (Zg (Zgy #[vn]    N c1  2 rfl (by decide) (by decide))) <| Za (Zg (ZgS #[vn]    N c0  2 rfl (by decide) (by decide))) Zb) rfl (by decide) (by rfl) (fun _ => ⟨rr, ⟨rr, ⟨rr, ⟨rr, ⟨rr, ⟨rr, ⟨rr, ⟨rr, trivial⟩⟩⟩⟩⟩⟩⟩⟩) ⟨(Zn (E := (Ze .u8)) (α := Int) _ v0 _), ⟨(Zn (E := (Ze .u8)) (α := Int) _ v2 _), trivial⟩⟩

theorem Zjx  (v0 v2 : List Int) (N : Nat) : (Za7  N).Ok Try.prog Zj (.h3m0 v0 v2 : ZN) (Zcf  N (.h3m0 v0 v2 : ZN)) := by
 show (Za7  N).Ok Try.prog Zj (.h3m0 v0 v2 : ZN) (ZcD  N v0 v2)
 unfold ZcD
 refine Mach.ok_ite (fun g0 => ?_) (fun g0 => ?_)
 ·
  refine Mach.ok_bind (fun z1 c1 => ?_)
  cases z1 with
  | r0 =>
   exact Mach.ok_fin (M := Za7  N) (cd := 1000000) (cm := 0) (r := (.r0 (true) : Za6)) (fu := 4000) (orc := (Zh [(0, true)] [] [] [] [(0, .bs v0), (1, .bs v2), (2, (Zdg     2))])) (live := []) (u := vT) (bl := []) (ob := [(dP (ZcF #[vn, vn]     2), true), (((Z5 v0).toList == (Z5 v2).toList), true), (dP (Z4 v2.length (List.drop 0 (Zc (Ze .u8) v2)) = some (List.map (Value.int .u8) v2)), true), (dP (Z4 v0.length (List.drop 0 (Zc (Ze .u8) v0)) = some (List.map (Value.int .u8) v0)), true)]) (fun gv => by kernel_rfl) (Za (Zg (Zdh #[vn, vn]    N c1  2 rfl (by decide) (by decide))) <| Za (Zd9 (x := v0) (y := v2) (by assumption)) <| Za (Zg (ZaB (L := v2) (a := 0) (by omega) (by show _ = _ * 1; omega) (by first | rfl | simp))) <| Za (Zg (ZaB (L := v0) (a := 0) (by omega) (by show _ = _ * 1; omega) (by first | rfl | simp))) Zb) rfl (by decide) (by rfl) rr trivial
 ·
  exact Mach.ok_fin (M := Za7  N) (cd := 1000000) (cm := 0) (r := (.r0 (false) : Za6)) (fu := 4000) (orc := (Zh [(0, false)] [] [] [] [(0, .bs v0), (1, .bs v2)])) (live := []) (u := vf) (bl := []) (ob := [(((Z5 v0).toList == (Z5 v2).toList), false), (dP (Z4 v2.length (List.drop 0 (Zc (Ze .u8) v2)) = some (List.map (Value.int .u8) v2)), true), (dP (Z4 v0.length (List.drop 0 (Zc (Ze .u8) v0)) = some (List.map (Value.int .u8) v0)), true)]) (fun gv => by kernel_rfl) (Za (Zgm (x := v0) (y := v2) (by assumption)) <| Za (Zg (ZaB (L := v2) (a := 0) (by omega) (by show _ = _ * 1; omega) (by first | rfl | simp))) <| Za (Zg (ZaB (L := v0) (a := 0) (by omega) (by show _ = _ * 1; omega) (by first | rfl | simp))) Zb) rfl (by decide) (by rfl) rr trivial

theorem Zlw  (N : Nat) : (Za7  N).Enter Try.prog Zj #[vn, vn] (Zeo  N) := by
 unfold Zeo
 exact Mach.en_cut (bK := ZaO 1) (M := Za7  N) (cd := 0) (cm := 1) (y := (.h1m0 : ZN)) (fu := 4000) (orc := (Zh [] [] [] [] [])) (live := []) (tv := [some (vn), some (vn)]) (bl := []) (ob := []) rfl rfl (show Zq (ZaO 1).2 = [] from rfl) (by kernel_rfl) Zb rfl (by decide) (by rfl) ⟨rr, ⟨rr, trivial⟩⟩ trivial

theorem ZjX  (N : Nat) (r : Za6) (h : Zia  N = some r) : LSpec Try.prog 3 #[vn, vn] [] (ZhK  r) (Zhc  r) :=
 Mach.spec ZaR (Za7  N) Try.func3 (by kernel_rfl) (by kernel_rfl) (fun x => by cases x <;> exact Zal _ rfl) (fun r => by cases r <;> exact Zal _ rfl) (fun x => by
  cases x with
  | h1m0 => exact fun _ => (show ¬ (1 ∈ Zq (ZaO 1).2) from by decide +kernel)
  | h2m0 _ _ => exact fun _ => (show ¬ (2 ∈ Zq (ZaO 2).2) from by decide +kernel)
  | h3m0 _ _ => exact fun _ => (show ¬ (3 ∈ Zq (ZaO 3).2) from by decide +kernel)
  ) (fun x => (show (Za7  N).Ok Try.prog Zj x (Zcf  N x) from by
  cases x with
  | h1m0 => exact Zjv  N
  | h2m0 v0 v2 => exact Zjw  v0 v2 N
  | h3m0 v0 v2 => exact Zjx  v0 v2 N
  )) (Zlw  N) (n := N) h

end Ev
end Go.Proofs.Ytjfmadhcbgdakaa
