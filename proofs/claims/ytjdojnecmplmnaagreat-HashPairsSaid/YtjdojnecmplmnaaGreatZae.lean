/- Part 5. -/
import Derived.Test.YtjdojnecmplmnaaGreatZad
set_option linter.unusedSimpArgs false
set_option linter.unusedVariables false
/- Calls do what the plain functions say. -/
namespace Go.Proofs.YtjdojnecmplmnaaGreat
open Go.RowKit
namespace Ev
set_option linter.unusedVariables false
set_option maxRecDepth 100000
theorem Zm3  (N : Nat) : (Zm  N).Ok Tryz.prog Zn (.h5m28 : Ze) (ZA  N (.h5m28 : Ze)) := by
 show (Zm  N).Ok Tryz.prog Zn (.h5m28 : Ze) (ZgH  N)
 unfold ZgH
 exact Mach.ok_next (M := Zm  N) (cd := 1000000) (cm := 0) (y := (.h5m29 : Ze)) (fu := 4000) (orc := (Zr [] [] [] [] [])) (live := [0, 50, 2, 3, 4, 5, 6, 7, 8, 9, 10, 11, 12, 13, 14, 15, 17, 18, 19, 20, 21, 22, 23, 24, 25, 26, 27, 28]) (tv := fun _ => [some (vp 0 0), some (vi (29 : Int))]) (bl := [some (.cells [vs 50 0 29 29, vs 2 0 1 1, vp 3 0, vs 4 0 1 1] 86), some cz1, some ZjC, some Zma, some (.cells [vp 10 0] 87), some (.cells [vi (2 : Int), vi (1048594 : Int)] 25), some ZjB, some (.cells [vs 13 0 16 16, vs 14 0 16 16] 182), some (.cells [vi (1073741824 : Int), vi (1 : Int), vi (1 : Int)] 187), some Zmd, some (.cells [vp 3 0, vq, vs 15 0 20 20, Value.int .u32 (0 : Int), Value.int .i32 (0 : Int), Value.int .u32 (0 : Int), vn, vi (2 : Int), vi (1048577 : Int), vi (1 : Int), vi (13 : Int), vi (2 : Int), vi (1048594 : Int), vi (2 : Int), vq, vi (1 : Int), vq, vi (1 : Int), vq, vi (1 : Int), vi (7 : Int), vi (1 : Int), vq, vi (20 : Int), vn, vq, vq, vn, vp 17 0, vp 18 0, vq, vf, vn] 154), some Zes, some ZgM, some Zkd, some ZdH, some ZaD, some (.cells [vf, vT, vq, vi (4 : Int), vi (5 : Int), vi (24 : Int), vs 19 0 2 2, vs 20 0 1 1, vn, vq, vq, vq, vq, vq, vq, vq, vq, vq, vq, Value.nilFunc, Value.nilFunc, Value.nilFunc, vq, vq, vq, vq, vf, vq, vq, vq, vn, vi (1 : Int), Value.func (.func 215) #[vp 17 0] #[], vq, vq, vi (1 : Int), vs 21 0 1 1, vq, vq, vq, vp 3 0, vq, Value.nilFunc, vq, vT, vq, vp 22 0, vp 23 0, vp 24 0, vn, vi (2 : Int), vq, vq] 213), some ZjA, some Zd1, some (.cells [vi (2 : Int), vi (1048594 : Int)] 25), some (.cells [vi (2 : Int)] 3), some (.cells [vi (64 : Int), vs 25 0 1 1, Value.int .u32 (1 : Int), Value.int .i32 (0 : Int), Value.int .u32 (0 : Int), Value.map (some 26)] 240), some (.cells [vi (64 : Int), vs 27 0 5 5] 243), some (.cells [vT, vs 28 0 0 1] 247), some (.cells [vi (1 : Int), vq] 254), some (.ro (Zaq ([(⟨(1 : Int), (0 : Int)⟩ : R_ii)] : List R_ii)) true), some ZgN, some (.cells [vi (1 : Int), vq] 254)]) (ob := []) rfl (show 5 ∈ Zq (Zaa 5) from by decide +kernel) (fun gv => by kernel_rfl) Zi rfl (by decide) (by rfl) (fun _ => ⟨rr, ⟨rr, trivial⟩⟩) ⟨sm, ⟨sm, ⟨sm, ⟨sm, ⟨sm, ⟨sm, ⟨sm, ⟨sm, ⟨sm, ⟨sm, ⟨sm, ⟨sm, ⟨sm, ⟨sm, ⟨sm, ⟨sm, ⟨sm, ⟨sm, ⟨sm, ⟨sm, ⟨sm, ⟨sm, ⟨sm, ⟨sm, ⟨sm, ⟨(show Zaq ([(⟨(1 : Int), (0 : Int)⟩ : R_ii)] : List R_ii) = Zaq ([(⟨(1 : Int), (0 : Int)⟩ : R_ii)] : List R_ii) from rfl), ⟨sm, ⟨sm, trivial⟩⟩⟩⟩⟩⟩⟩⟩⟩⟩⟩⟩⟩⟩⟩⟩⟩⟩⟩⟩⟩⟩⟩⟩⟩⟩⟩⟩

theorem Zm4  (N : Nat) : (Zm  N).Ok Tryz.prog Zn (.h5m29 : Ze) (ZA  N (.h5m29 : Ze)) := by
 show (Zm  N).Ok Tryz.prog Zn (.h5m29 : Ze) (ZgI  N)
 unfold ZgI
 exact Mach.ok_next (M := Zm  N) (cd := 1000000) (cm := 0) (y := (.h5m30 : Ze)) (fu := 4000) (orc := (Zr [] [] [] [] [])) (live := [0, 40, 2, 3, 4, 5, 6, 7, 8, 9, 10, 11, 12, 13, 14, 15, 16, 17, 18, 19, 20, 21, 22, 23, 24, 25, 26, 27]) (tv := fun _ => [some (vp 0 0), some (vi (30 : Int))]) (bl := [some (.cells [vs 40 0 30 30, vs 2 0 1 1, vp 3 0, vs 4 0 1 1] 86), some cz0, some ZjC, some Zma, some (.cells [vp 10 0] 87), some (.cells [vi (2 : Int), vi (1048594 : Int)] 25), some ZjB, some (.cells [vs 13 0 16 16, vs 14 0 16 16] 182), some (.cells [vi (1073741824 : Int), vi (1 : Int), vi (1 : Int)] 187), some Zmd, some cz58, some Zes, some ZgM, some Zkd, some ZdH, some ZaD, some Zu7, some ZjA, some Zd1, some (.cells [vi (2 : Int), vi (1048594 : Int)] 25), some (.cells [vi (2 : Int)] 3), some ZkZ, some (.cells [vi (64 : Int), vs 26 0 5 5] 243), some (.cells [vT, vs 27 0 0 1] 247), some (.cells [vi (1 : Int), vq] 254), some (.ro (Zaq ([(⟨(1 : Int), (0 : Int)⟩ : R_ii)] : List R_ii)) true), some ZgN, some (.cells [vi (1 : Int), vq] 254)]) (ob := []) rfl (show 5 ∈ Zq (Zaa 5) from by decide +kernel) (fun gv => by kernel_rfl) Zi rfl (by decide) (by rfl) (fun _ => ⟨rr, ⟨rr, trivial⟩⟩) ⟨sm, ⟨sm, ⟨sm, ⟨sm, ⟨sm, ⟨sm, ⟨sm, ⟨sm, ⟨sm, ⟨sm, ⟨sm, ⟨sm, ⟨sm, ⟨sm, ⟨sm, ⟨sm, ⟨sm, ⟨sm, ⟨sm, ⟨sm, ⟨sm, ⟨sm, ⟨sm, ⟨sm, ⟨sm, ⟨(show Zaq ([(⟨(1 : Int), (0 : Int)⟩ : R_ii)] : List R_ii) = Zaq ([(⟨(1 : Int), (0 : Int)⟩ : R_ii)] : List R_ii) from rfl), ⟨sm, ⟨sm, trivial⟩⟩⟩⟩⟩⟩⟩⟩⟩⟩⟩⟩⟩⟩⟩⟩⟩⟩⟩⟩⟩⟩⟩⟩⟩⟩⟩⟩

theorem Zm5  (N : Nat) : (Zm  N).Ok Tryz.prog Zn (.h5m30 : Ze) (ZA  N (.h5m30 : Ze)) := by
 show (Zm  N).Ok Tryz.prog Zn (.h5m30 : Ze) (ZgJ  N)
 unfold ZgJ
 exact Mach.ok_fin (M := Zm  N) (cd := 1000000) (cm := 0) (r := (.r0 : ZD)) (fu := 4000) (orc := (Zr [] [] [] [] [])) (live := []) (u := vT) (bl := []) (ob := []) (fun gv => by kernel_rfl) Zi rfl (by decide) (by rfl) rr trivial

theorem Zpb  (N : Nat) : (Zm  N).Enter Tryz.prog Zn #[] (ZiO  N) := by
 unfold ZiO
 exact Mach.en_cut (bK := Z8 1) (M := Zm  N) (cd := 0) (cm := 0) (y := (.h1m0 : Ze)) (fu := 4000) (orc := (Zr [] [] [] [] [])) (live := []) (tv := []) (bl := []) (ob := []) rfl rfl (show Zq (Z8 1).2 = [] from rfl) (by kernel_rfl) Zi rfl (by decide) (by rfl) trivial trivial

theorem ZnZ  (N : Nat) (r : ZD) (h : ZcE  N = some r) : LSpec Tryz.prog 7 #[] [] (Zmk  r) (Zlo  r) :=
 Mach.spec Zo5 (Zm  N) Tryz.func7 (by kernel_rfl) (by kernel_rfl) (fun x => by cases x <;> exact ZaI _ rfl) (fun r => by cases r <;> exact ZaI _ rfl) (fun x => by
  cases x with
  | h1m0 => exact fun _ => (show ¬ (1 ∈ Zq (Z8 1).2) from by decide +kernel)
  | h2m0 => exact fun _ => (show ¬ (2 ∈ Zq (Z8 2).2) from by decide +kernel)
  | h3m0 => exact fun _ => (show ¬ (3 ∈ Zq (Z8 3).2) from by decide +kernel)
  | h4m0 => exact fun _ => (show ¬ (4 ∈ Zq (Z8 4).2) from by decide +kernel)
  | h5m0 => exact fun _ => (show ¬ (5 ∈ Zq (Z8 5).2) from by decide +kernel)
  | h5m1 => exact fun _ => (show ¬ (5 ∈ Zq (Z8 5).2) from by decide +kernel)
  | h5m2 => exact fun _ => (show ¬ (5 ∈ Zq (Z8 5).2) from by decide +kernel)
  | h5m3 => exact fun _ => (show ¬ (5 ∈ Zq (Z8 5).2) from by decide +kernel)
  | h5m4 => exact fun _ => (show ¬ (5 ∈ Zq (Z8 5).2) from by decide +kernel)
  | h5m5 => exact fun _ => (show ¬ (5 ∈ Zq (Z8 5).2) from by decide +kernel)
  | h5m6 => exact fun _ => (show ¬ (5 ∈ Zq (Z8 5).2) from by decide +kernel)
  | h5m7 => exact fun _ => (show ¬ (5 ∈ Zq (Z8 5).2) from by decide +kernel)
  | h5m8 => exact fun _ => (show ¬ (5 ∈ Zq (Z8 5).2) from by decide +kernel)
  | h5m9 => exact fun _ => (show ¬ (5 ∈ Zq (Z8 5).2) from by decide +kernel)
  | h5m10 => exact fun _ => (show ¬ (5 ∈ Zq (Z8 5).2) from by decide +kernel)
  | h5m11 => exact fun _ => (show ¬ (5 ∈ Zq (Z8 5).2) from by decide +kernel)
  | h5m12 => exact fun _ => (show ¬ (5 ∈ Zq (Z8 5).2) from by decide +kernel)
  | h5m13 => exact fun _ => (show ¬ (5 ∈ Zq (Z8 5).2) from by decide +kernel)
  | h5m14 => exact fun _ => (show ¬ (5 ∈ Zq (Z8 5).2) from by decide +kernel)
  | h5m15 => exact fun _ => (show ¬ (5 ∈ Zq (Z8 5).2) from by decide +kernel)
  | h5m16 => exact fun _ => (show ¬ (5 ∈ Zq (Z8 5).2) from by decide +kernel)
  | h5m17 => exact fun _ => (show ¬ (5 ∈ Zq (Z8 5).2) from by decide +kernel)
  | h5m18 => exact fun _ => (show ¬ (5 ∈ Zq (Z8 5).2) from by decide +kernel)
  | h5m19 => exact fun _ => (show ¬ (5 ∈ Zq (Z8 5).2) from by decide +kernel)
  | h5m20 => exact fun _ => (show ¬ (5 ∈ Zq (Z8 5).2) from by decide +kernel)
  | h5m21 => exact fun _ => (show ¬ (5 ∈ Zq (Z8 5).2) from by decide +kernel)
  | h5m22 => exact fun _ => (show ¬ (5 ∈ Zq (Z8 5).2) from by decide +kernel)
  | h5m23 => exact fun _ => (show ¬ (5 ∈ Zq (Z8 5).2) from by decide +kernel)
  | h5m24 => exact fun _ => (show ¬ (5 ∈ Zq (Z8 5).2) from by decide +kernel)
  | h5m25 => exact fun _ => (show ¬ (5 ∈ Zq (Z8 5).2) from by decide +kernel)
  | h5m26 => exact fun _ => (show ¬ (5 ∈ Zq (Z8 5).2) from by decide +kernel)
  | h5m27 => exact fun _ => (show ¬ (5 ∈ Zq (Z8 5).2) from by decide +kernel)
  | h5m28 => exact fun _ => (show ¬ (5 ∈ Zq (Z8 5).2) from by decide +kernel)
  | h5m29 => exact fun _ => (show ¬ (5 ∈ Zq (Z8 5).2) from by decide +kernel)
  | h5m30 => exact fun _ => (show ¬ (5 ∈ Zq (Z8 5).2) from by decide +kernel)
  ) (fun x => (show (Zm  N).Ok Tryz.prog Zn x (ZA  N x) from by
  cases x with
  | h1m0 => exact Znl  N
  | h2m0 => exact Znm  N
  | h3m0 => exact Znn  N
  | h4m0 => exact Zno  N
  | h5m0 => exact Znp  N
  | h5m1 => exact Znq  N
  | h5m2 => exact Znr  N
  | h5m3 => exact Zns  N
  | h5m4 => exact Znt  N
  | h5m5 => exact Znu  N
  | h5m6 => exact Znv  N
  | h5m7 => exact Znw  N
  | h5m8 => exact Znx  N
  | h5m9 => exact Zny  N
  | h5m10 => exact Zml  N
  | h5m11 => exact Zmm  N
  | h5m12 => exact Zmn  N
  | h5m13 => exact Zmo  N
  | h5m14 => exact Zmp  N
  | h5m15 => exact Zmq  N
  | h5m16 => exact Zmr  N
  | h5m17 => exact Zms  N
  | h5m18 => exact Zmt  N
  | h5m19 => exact Zmu  N
  | h5m20 => exact Zmv  N
  | h5m21 => exact Zmw  N
  | h5m22 => exact Zmx  N
  | h5m23 => exact Zmy  N
  | h5m24 => exact Zmz  N
  | h5m25 => exact Zm0  N
  | h5m26 => exact Zm1  N
  | h5m27 => exact Zm2  N
  | h5m28 => exact Zm3  N
  | h5m29 => exact Zm4  N
  | h5m30 => exact Zm5  N
  )) (Zpb  N) (n := N) h

noncomputable def ZcT  (n : Nat) : ZcQ := .call [] (vT) [] 0
def ZcF (A : Array Value)  (n : Nat) : Prop := ZaB Tryz.prog 7 A [] (vT) [] n 0

theorem ZcU (A : Array Value)  (N : Nat) (h : ZcE  N = some (.r0)) (n : Nat) (hA : A = #[]) (hnd : ([] : List Nat).Nodup) (hlt : ∀ k ∈ ([] : List Nat), k < n) : ZcF A   n :=
 ZbB hA (LSpec.callL (show LSpec Tryz.prog 7 #[] [] (vT) [] from ZnZ  N _ h) [] n [] rfl hnd hlt (show 0 ≤ 0 from by decide) (show ∀ j ∈ ([] : List Nat), j < 0 from by decide) (by rfl) trivial (by rfl) trivial trivial rfl rfl rfl rfl rfl)

noncomputable def ZdB (a0 a1 : Int) : Zad → Value
 | .r0 => vtt
noncomputable def Zd5 (a0 a1 : Int) : Zad → List (Option AObj)
 | .r0 => []

def ZfA : ZG → Nat
 | .h1m0 => 1
noncomputable def ZfH (a0 a1 : Int) : ZG → List (Nat × Value)
 | .h1m0 => [(0, vn), (1, vi a0), (2, vi a1), (3, Value.func (.func 11) #[] #[]), (8, vi (a0 + (1 : Int)))]
noncomputable def ZfI (a0 a1 : Int) : ZG → List (Option AObj)
 | .h1m0 => []

noncomputable def ZbG : Nat → Code × List ZaO
 | 1 => ZaV [1, 3] (Zbr Tryz.f38) []
 | _ => (.skip, [])
def ZfB : Nat → Bool
 | 1 => true
 | _ => true
noncomputable def Za5 (a0 a1 : Int) (N : Nat) : Mach := ⟨Tryz.f38, [], ZG, Zad, Zb0 a0 a1 N, ZfA, ZbG, ZfB, ZfH a0 a1, ZfI a0 a1, ZdB a0 a1, Zd5 a0 a1⟩

theorem Zfd (a0 a1 : Int) (N : Nat) : (Za5 a0 a1 N).Ok Tryz.prog Zw (.h1m0 : ZG) (Zb0 a0 a1 N (.h1m0 : ZG)) := by
 show (Za5 a0 a1 N).Ok Tryz.prog Zw (.h1m0 : ZG) (Zcf a0 a1 N)
 unfold Zcf
 refine Mach.ok_ite (fun g0 => ?_) (fun _ => Mach.ok_none)
 refine Mach.ok_ite (fun g1 => ?_) (fun _ => Mach.ok_none)
 exact Mach.ok_fin (M := Za5 a0 a1 N) (cd := 1000000) (cm := 0) (r := (.r0 : Zad)) (fu := 4000) (orc := (Zr [(0, false)] [] [] [] [])) (live := []) (u := vtt) (bl := []) (ob := [((decide ((a0 + (1 : Int)) < a1)), false)]) (fun gv => by kernel_rfl) (oN Zi) rfl (by decide) (by rfl) rr trivial

theorem Zfv (a0 a1 : Int) (N : Nat) : (Za5 a0 a1 N).Enter Tryz.prog Zw #[vn, vi a0, vi a1, Value.func (.func 11) #[] #[]] (Zc0 a0 a1 N) := by
 unfold Zc0
 refine Mach.en_ite (fun g0 => ?_) (fun _ => Mach.en_none)
 refine Mach.en_ite (fun g1 => ?_) (fun _ => Mach.en_none)
 exact Mach.en_head (bK := ZbG 1) (M := Za5 a0 a1 N) (cd := 1000000) (cm := 0) (y := (.h1m0 : ZG)) (fu := 4000) (orc := (Zr [] [(0, (a0 + (1 : Int)))] [] [] [])) (live := []) (tv := [some (vn), some (vi a0), some (vi a1), some (Value.func (.func 11) #[] #[]), some (vi (a0 + (1 : Int)))]) (bl := []) (ob := [((IntKind.i64.wrap (a0 + (1 : Int))) == (a0 + (1 : Int)), true)]) rfl rfl (show Zq (ZbG 1).2 = [] from rfl) (by kernel_rfl) (Zc (beq_iff_eq.2 ((wrap_i64 ltA).trans (by first | rfl | omega))) Zi) rfl (by decide) (by rfl) ⟨rr, ⟨rr, ⟨rr, ⟨rr, ⟨rr, trivial⟩⟩⟩⟩⟩ trivial

theorem Zfg (a0 a1 : Int) (N : Nat) (r : Zad) (h : Zc6 a0 a1 N = some r) : LSpec Tryz.prog 38 #[vn, vi a0, vi a1, Value.func (.func 11) #[] #[]] [] (ZdB a0 a1 r) (Zd5 a0 a1 r) :=
 Mach.spec ZcD (Za5 a0 a1 N) Tryz.func38 (by kernel_rfl) (by kernel_rfl) (fun x => by cases x <;> exact ZaI _ rfl) (fun r => by cases r <;> exact ZaI _ rfl) (fun x => by
  cases x with
  | h1m0 => exact fun _ => (show ¬ (1 ∈ Zq (ZbG 1).2) from by decide +kernel)
  ) (fun x => (show (Za5 a0 a1 N).Ok Tryz.prog Zw x (Zb0 a0 a1 N x) from by
  cases x with
  | h1m0 => exact Zfd a0 a1 N
  )) (Zfv a0 a1 N) (n := N) h

noncomputable def ZfC (a0 a1 : Int) (n : Nat) : ZcQ := .call [] (vtt) [] 0
def Zd6 (A : Array Value) (a0 a1 : Int) (n : Nat) : Prop := ZaB Tryz.prog 38 A [] (vtt) [] n 0

theorem ZfD (A : Array Value) (a0 a1 : Int) (N : Nat) (h : Zc6 a0 a1 N = some (.r0)) (n : Nat) (hA : A = #[vn, vi a0, vi a1, Value.func (.func 11) #[] #[]]) (hnd : ([] : List Nat).Nodup) (hlt : ∀ k ∈ ([] : List Nat), k < n) : Zd6 A a0 a1  n :=
 ZbB hA (LSpec.callL (show LSpec Tryz.prog 38 #[vn, vi a0, vi a1, Value.func (.func 11) #[] #[]] [] (vtt) [] from Zfg a0 a1 N _ h) [] n [] rfl hnd hlt (show 0 ≤ 0 from by decide) (show ∀ j ∈ ([] : List Nat), j < 0 from by decide) (by rfl) trivial (by rfl) trivial trivial rfl rfl rfl rfl rfl)

noncomputable def Ze4 (a0 : Int) : Zal → Value
 | .r0 => vtt
noncomputable def Zem (a0 : Int) : Zal → List (Option AObj)
 | .r0 => []

def ZhD : Z7 → Nat
 | .h1m0 => 1
 | .h2m0 => 2
noncomputable def ZhW (a0 : Int) : Z7 → List (Nat × Value)
 | .h1m0 => [(0, vn), (1, vi a0), (2, Value.func (.func 11) #[] #[]), (6, vi (20 : Int)), (7, vq), (8, vi (20 : Int))]
 | .h2m0 => [(0, vn), (1, vi a0), (2, Value.func (.func 11) #[] #[]), (6, vi (20 : Int))]
noncomputable def ZhX (a0 : Int) : Z7 → List (Option AObj)
 | .h1m0 => []
 | .h2m0 => []

noncomputable def Za1 : Nat → Code × List ZaO
 | 1 => ZaV [1, 1, 0, 3] (Zbr Tryz.f23) []
 | 2 => ZaV [1, 1, 1, 1, 3] (Zbr Tryz.f23) []
 | _ => (.skip, [])
def Zen : Nat → Bool
 | 1 => true
 | 2 => true
 | _ => true
noncomputable def ZhY (i : Nat) : List ZaO := match Zen i with | true => .rnd i :: (Za1 i).2 | false => (Za1 i).2

noncomputable def Zat (a0 : Int) (N : Nat) : Mach := ⟨Tryz.f23, [], Z7, Zal, Zb4 a0 N, ZhD, Za1, Zen, ZhW a0, ZhX a0, Ze4 a0, Zem a0⟩

theorem Zgs (a0 : Int) (N : Nat) : (Zat a0 N).Ok Tryz.prog Zw (.h1m0 : Z7) (Zb4 a0 N (.h1m0 : Z7)) := by
 show (Zat a0 N).Ok Tryz.prog Zw (.h1m0 : Z7) (ZcG a0 N)
 unfold ZcG
 refine Mach.ok_ite (fun g0 => ?_) (fun _ => Mach.ok_none)
 refine Mach.ok_bind (fun z1 c1 => ?_)
 cases z1 with
 | r0 =>
  exact Mach.ok_head (bK := Za1 2) (M := Zat a0 N) (cd := 1000000) (cm := 0) (y := (.h2m0 : Z7)) (fu := 4000) (orc := (Zr [(0, false)] [] [] [] [(0, (ZfC ((0 : Int)) (a0)    0))])) (live := []) (tv := fun _ => [some (vn), some (vi a0), some (Value.func (.func 11) #[] #[]), some (vi (20 : Int))]) (bl := []) (ob := [(dP (Zd6 #[vn, vq, vi a0, Value.func (.func 11) #[] #[]] ((0 : Int)) (a0)    0), true), ((decide ((20 : Int) ≤ a0)), false)]) rfl rfl (show ∀ j ∈ Zq (Za1 2).2, j ∈ Zq (ZhY 1) from by decide +kernel) (fun gv => by kernel_rfl) (Zc (Zl (ZfD #[vn, vq, vi a0, Value.func (.func 11) #[] #[]] ((0 : Int)) (a0)   N c1  0 rfl (by decide) (by decide))) <| oN Zi) rfl (by decide) (by rfl) (fun _ => ⟨rr, ⟨rr, ⟨rr, ⟨rr, trivial⟩⟩⟩⟩) trivial

theorem Zgt (a0 : Int) (N : Nat) : (Zat a0 N).Ok Tryz.prog Zw (.h2m0 : Z7) (Zb4 a0 N (.h2m0 : Z7)) := by
 show (Zat a0 N).Ok Tryz.prog Zw (.h2m0 : Z7) (ZcH a0 N)
 unfold ZcH
 refine Mach.ok_ite (fun g0 => ?_) (fun _ => Mach.ok_none)
 exact Mach.ok_fin (M := Zat a0 N) (cd := 1000000) (cm := 0) (r := (.r0 : Zal)) (fu := 4000) (orc := (Zr [(0, false)] [] [] [] [])) (live := []) (u := vtt) (bl := []) (ob := [((decide ((20 : Int) < a0)), false)]) (fun gv => by kernel_rfl) (oN Zi) rfl (by decide) (by rfl) rr trivial

theorem Zh0 (a0 : Int) (N : Nat) : (Zat a0 N).Enter Tryz.prog Zw #[vn, vi a0, Value.func (.func 11) #[] #[]] (Zdg a0 N) := by
 unfold Zdg
 refine Mach.en_ite (fun g0 => ?_) (fun _ => Mach.en_none)
 exact Mach.en_head (bK := Za1 1) (M := Zat a0 N) (cd := 1000000) (cm := 0) (y := (.h1m0 : Z7)) (fu := 4000) (orc := (Zr [] [] [] [] [])) (live := []) (tv := [some (vn), some (vi a0), some (Value.func (.func 11) #[] #[]), some (vi (20 : Int)), some (vq), some (vi (20 : Int))]) (bl := []) (ob := []) rfl rfl (show Zq (Za1 1).2 = [] from rfl) (by kernel_rfl) Zi rfl (by decide) (by rfl) ⟨rr, ⟨rr, ⟨rr, ⟨rr, ⟨rr, ⟨rr, trivial⟩⟩⟩⟩⟩⟩ trivial

theorem ZgP (a0 : Int) (N : Nat) (r : Zal) (h : Zd0 a0 N = some r) : LSpec Tryz.prog 23 #[vn, vi a0, Value.func (.func 11) #[] #[]] [] (Ze4 a0 r) (Zem a0 r) :=
 Mach.spec ZcD (Zat a0 N) Tryz.func23 (by kernel_rfl) (by kernel_rfl) (fun x => by cases x <;> exact ZaI _ rfl) (fun r => by cases r <;> exact ZaI _ rfl) (fun x => by
  cases x with
  | h1m0 => exact fun _ => (show ¬ (1 ∈ Zq (Za1 1).2) from by decide +kernel)
  | h2m0 => exact fun _ => (show ¬ (2 ∈ Zq (Za1 2).2) from by decide +kernel)
  ) (fun x => (show (Zat a0 N).Ok Tryz.prog Zw x (Zb4 a0 N x) from by
  cases x with
  | h1m0 => exact Zgs a0 N
  | h2m0 => exact Zgt a0 N
  )) (Zh0 a0 N) (n := N) h

noncomputable def ZhE (a0 : Int) (n : Nat) : ZcQ := .call [] (vtt) [] 0
def Zeo (A : Array Value) (a0 : Int) (n : Nat) : Prop := ZaB Tryz.prog 23 A [] (vtt) [] n 0

theorem ZhF (A : Array Value) (a0 : Int) (N : Nat) (h : Zd0 a0 N = some (.r0)) (n : Nat) (hA : A = #[vn, vi a0, Value.func (.func 11) #[] #[]]) (hnd : ([] : List Nat).Nodup) (hlt : ∀ k ∈ ([] : List Nat), k < n) : Zeo A a0  n :=
 ZbB hA (LSpec.callL (show LSpec Tryz.prog 23 #[vn, vi a0, Value.func (.func 11) #[] #[]] [] (vtt) [] from ZgP a0 N _ h) [] n [] rfl hnd hlt (show 0 ≤ 0 from by decide) (show ∀ j ∈ ([] : List Nat), j < 0 from by decide) (by rfl) trivial (by rfl) trivial trivial rfl rfl rfl rfl rfl)

noncomputable def Zdh  : Za9 → Value
 | .r0 => vtt
noncomputable def Zdc  : Za9 → List (Option AObj)
 | .r0 => []

theorem ZeO  (N : Nat) : Fx Tryz.prog Zw Tryz.f10 [] #[vn, Value.func (.func 11) #[] #[]] (Zdh ) (Zdc ) (ZaC  N) := by
 unfold ZaC
 refine ZoT (fun z0 c0 => ?_)
 cases z0 with
 | r0 =>
  exact ZqR (r := (.r0 : Za9)) (fu := 4000) (orc := (Zr [] [] [] [] [(0, (ZhE ((0 : Int))    0))])) (live := []) (u := vtt) (bl := []) (ob := [(dP (Zeo #[vn, vq, Value.func (.func 11) #[] #[]] ((0 : Int))    0), true)]) (by kernel_rfl) (Zc (Zl (ZhF #[vn, vq, Value.func (.func 11) #[] #[]] ((0 : Int))   N c0  0 rfl (by decide) (by decide))) Zi) rfl (by decide) (by rfl) rr trivial

theorem Ze5  (N : Nat) (r : Za9) (h : ZaC  N = some r) : LSpec Tryz.prog 10 #[vn, Value.func (.func 11) #[] #[]] [] (Zdh  r) (Zdc  r) :=
 ZoU ZcD Tryz.func10 (by kernel_rfl) (by kernel_rfl) (fun r => by cases r <;> exact ZaI _ rfl) (ZeO  N) h

noncomputable def Zfe  (n : Nat) : ZcQ := .call [] (vtt) [] 0
def Zdd (A : Array Value)  (n : Nat) : Prop := ZaB Tryz.prog 10 A [] (vtt) [] n 0

theorem Zff (A : Array Value)  (N : Nat) (h : ZaC  N = some (.r0)) (n : Nat) (hA : A = #[vn, Value.func (.func 11) #[] #[]]) (hnd : ([] : List Nat).Nodup) (hlt : ∀ k ∈ ([] : List Nat), k < n) : Zdd A   n :=
 ZbB hA (LSpec.callL (show LSpec Tryz.prog 10 #[vn, Value.func (.func 11) #[] #[]] [] (vtt) [] from Ze5  N _ h) [] n [] rfl hnd hlt (show 0 ≤ 0 from by decide) (show ∀ j ∈ ([] : List Nat), j < 0 from by decide) (by rfl) trivial (by rfl) trivial trivial rfl rfl rfl rfl rfl)

noncomputable def Zdz (L0 : List R_ii) (n1 n2 : Nat) (a3 a4 : Int) : ZN → Value
 | .r0 w0 => vtt
noncomputable def Zdq (L0 : List R_ii) (n1 n2 : Nat) (a3 a4 : Int) : ZN → List (Option AObj)
 | .r0 w0 => [some (.cells (Zd E_ii w0) 43)]

def Zfu : Zo → Nat
 | .h1m0 v0 v3 => 1
 | .h2m0 v0 v3 v4 => 2
noncomputable def Zfw (L0 : List R_ii) (n1 n2 : Nat) (a3 a4 : Int) : Zo → List (Nat × Value)
 | .h1m0 v0 v3 => [(0, vs 0 0 v0.length v0.length), (1, vi a3), (2, vi a4), (3, Value.func (.func 11) #[] #[]), (8, vi v3)]
 | .h2m0 v0 v3 v4 => [(0, vs 0 0 v0.length v0.length), (1, vi a3), (2, vi a4), (3, Value.func (.func 11) #[] #[]), (8, vi v3), (9, vi v4)]
noncomputable def Zfx (L0 : List R_ii) (n1 n2 : Nat) (a3 a4 : Int) : Zo → List (Option AObj)
 | .h1m0 v0 v3 => [some (.cells (Zd E_ii v0) 43)]
 | .h2m0 v0 v3 v4 => [some (.cells (Zd E_ii v0) 43)]

noncomputable def Zae : Nat → Code × List ZaO
 | 1 => ZaV [1, 3] (Zbr Tryz.f38) []
 | 2 => ZaV [1, 3, 7, 1, 0, 3, 1, 3] (Zbr Tryz.f38) []
 | _ => (.skip, [])
def Zdr : Nat → Bool
 | 1 => true
 | 2 => true
 | _ => true
noncomputable def Zbf (i : Nat) : List ZaO := match Zdr i with | true => .rnd i :: (Zae i).2 | false => (Zae i).2

noncomputable def ZB (L0 : List R_ii) (n1 n2 : Nat) (a3 a4 : Int) (N : Nat) : Mach := ⟨Tryz.f38, [.cells (Zd E_ii L0) 43], Zo, ZN, Zag L0 n1 n2 a3 a4 N, Zfu, Zae, Zdr, Zfw L0 n1 n2 a3 a4, Zfx L0 n1 n2 a3 a4, Zdz L0 n1 n2 a3 a4, Zdq L0 n1 n2 a3 a4⟩

theorem ZeJ (L0 : List R_ii) (n1 n2 : Nat) (a3 a4 : Int) (v0 : List R_ii) (v3 : Int) (N : Nat) : (ZB L0 n1 n2 a3 a4 N).Ok Tryz.prog Zw (.h1m0 v0 v3 : Zo) (Zag L0 n1 n2 a3 a4 N (.h1m0 v0 v3 : Zo)) := by
 show (ZB L0 n1 n2 a3 a4 N).Ok Tryz.prog Zw (.h1m0 v0 v3 : Zo) (ZX L0 n1 n2 a3 a4 N v0 v3)
 unfold ZX
 refine Mach.ok_ite (fun g0 => ?_) (fun _ => Mach.ok_none)
 refine Mach.ok_ite (fun g1 => ?_) (fun _ => Mach.ok_none)
 refine Mach.ok_ite (fun g2 => ?_) (fun _ => Mach.ok_none)
 refine Mach.ok_ite (fun g3 => ?_) (fun _ => Mach.ok_none)
 refine Mach.ok_ite (fun g4 => ?_) (fun _ => Mach.ok_none)
 refine Mach.ok_ite (fun g5 => ?_) (fun _ => Mach.ok_none)
 refine Mach.ok_ite (fun g6 => ?_) (fun _ => Mach.ok_none)
 refine Mach.ok_ite (fun g7 => ?_) (fun _ => Mach.ok_none)
 refine Mach.ok_ite (fun g8 => ?_) (fun _ => Mach.ok_none)
 refine Mach.ok_ite (fun g9 => ?_) (fun _ => Mach.ok_none)
 refine Mach.ok_ite (fun g10 => ?_) (fun g10 => ?_)
 ·
  exact Mach.ok_head (bK := Zae 2) (M := ZB L0 n1 n2 a3 a4 N) (cd := 1000000) (cm := 0) (y := (.h2m0 (v0) (v3) (v3) : Zo)) (fu := 4000) (orc := (Zr [(0, true)] [] [] [] [])) (live := [0]) (tv := fun _ => [some (vs 0 0 v0.length v0.length), some (vi a3), some (vi a4), some (Value.func (.func 11) #[] #[]), some (vi v3), some (vi v3)]) (bl := [some (.cells (Zd E_ii v0) 43)]) (ob := [((decide (v3 < a4)), true)]) rfl rfl (show ∀ j ∈ Zq (Zae 2).2, j ∈ Zq (Zbf 1) from by decide +kernel) (fun gv => by kernel_rfl) (oY Zi) rfl (by decide) (by rfl) (fun _ => ⟨rr, ⟨rr, ⟨rr, ⟨rr, ⟨rr, ⟨rr, trivial⟩⟩⟩⟩⟩⟩) ⟨(Zj (E := E_ii) (α := R_ii) _ v0 _), trivial⟩
 ·
  exact Mach.ok_fin (M := ZB L0 n1 n2 a3 a4 N) (cd := 1000000) (cm := 0) (r := (.r0 (v0) : ZN)) (fu := 4000) (orc := (Zr [(0, false)] [] [] [] [])) (live := [0]) (u := vtt) (bl := [some (.cells (Zd E_ii v0) 43)]) (ob := [((decide (v3 < a4)), false)]) (fun gv => by kernel_rfl) (oN Zi) rfl (by decide) (by rfl) rr ⟨(Zj (E := E_ii) (α := R_ii) _ v0 _), trivial⟩

theorem ZeK (L0 : List R_ii) (n1 n2 : Nat) (a3 a4 : Int) (v0 : List R_ii) (v3 v4 : Int) (N : Nat) : (ZB L0 n1 n2 a3 a4 N).Ok Tryz.prog Zw (.h2m0 v0 v3 v4 : Zo) (Zag L0 n1 n2 a3 a4 N (.h2m0 v0 v3 v4 : Zo)) := by
 show (ZB L0 n1 n2 a3 a4 N).Ok Tryz.prog Zw (.h2m0 v0 v3 v4 : Zo) (ZH L0 n1 n2 a3 a4 N v0 v3 v4)
 unfold ZH
 refine Mach.ok_ite (fun g0 => ?_) (fun _ => Mach.ok_none)
 refine Mach.ok_ite (fun g1 => ?_) (fun _ => Mach.ok_none)
 refine Mach.ok_ite (fun g2 => ?_) (fun _ => Mach.ok_none)
 refine Mach.ok_ite (fun g3 => ?_) (fun _ => Mach.ok_none)
 refine Mach.ok_ite (fun g4 => ?_) (fun _ => Mach.ok_none)
 refine Mach.ok_ite (fun g5 => ?_) (fun _ => Mach.ok_none)
 refine Mach.ok_ite (fun g6 => ?_) (fun _ => Mach.ok_none)
 refine Mach.ok_ite (fun g7 => ?_) (fun _ => Mach.ok_none)
 refine Mach.ok_ite (fun g8 => ?_) (fun _ => Mach.ok_none)
 refine Mach.ok_ite (fun g9 => ?_) (fun _ => Mach.ok_none)
 refine Mach.ok_ite (fun g10 => ?_) (fun _ => Mach.ok_none)
 refine Mach.ok_ite (fun g11 => ?_) (fun _ => Mach.ok_none)
 refine Mach.ok_ite (fun g12 => ?_) (fun g12 => ?_)
 ·
  refine Mach.ok_ite (fun g13 => ?_) (fun _ => Mach.ok_none)
  refine Mach.ok_ite (fun g14 => ?_) (fun g14 => ?_)
  ·
   exact Mach.ok_next (M := ZB L0 n1 n2 a3 a4 N) (cd := 1000000) (cm := 0) (y := (.h2m0 (((v0.set (v4).toNat (⟨(v0.getD ((v4 - (1 : Int))).toNat R_ii.z).a0, (v0.getD ((v4 - (1 : Int))).toNat R_ii.z).a1⟩ : R_ii)).set ((v4 - (1 : Int))).toNat (⟨(v0.getD (v4).toNat R_ii.z).a0, (v0.getD (v4).toNat R_ii.z).a1⟩ : R_ii))) (v3) ((v4 - (1 : Int))) : Zo)) (fu := 4000) (orc := (Zr [(0, true), (1, false), (2, false), (3, true)] [(0, (v4 - (1 : Int))), (1, (v4 - (1 : Int))), (2, (v4 - (1 : Int))), (3, (v4 - (1 : Int)))] [(0, (v4).toNat), (1, ((v4 - (1 : Int))).toNat), (2, ((v4 - (1 : Int))).toNat), (3, (v4).toNat), (4, (v4).toNat), (5, ((v4 - (1 : Int))).toNat)] [(0, [.i (v0.getD (v4).toNat R_ii.z).a0, .i (v0.getD (v4).toNat R_ii.z).a1]), (1, [.i (v0.getD ((v4 - (1 : Int))).toNat R_ii.z).a0, .i (v0.getD ((v4 - (1 : Int))).toNat R_ii.z).a1]), (4, [.i (v0.getD ((v4 - (1 : Int))).toNat R_ii.z).a0, .i (v0.getD ((v4 - (1 : Int))).toNat R_ii.z).a1]), (5, [.i (v0.getD (v4).toNat R_ii.z).a0, .i (v0.getD (v4).toNat R_ii.z).a1])] [(0, .st (Zd E_ii (v0.set (v4).toNat (⟨(v0.getD ((v4 - (1 : Int))).toNat R_ii.z).a0, (v0.getD ((v4 - (1 : Int))).toNat R_ii.z).a1⟩ : R_ii)))), (1, .st (Zd E_ii ((v0.set (v4).toNat (⟨(v0.getD ((v4 - (1 : Int))).toNat R_ii.z).a0, (v0.getD ((v4 - (1 : Int))).toNat R_ii.z).a1⟩ : R_ii)).set ((v4 - (1 : Int))).toNat (⟨(v0.getD (v4).toNat R_ii.z).a0, (v0.getD (v4).toNat R_ii.z).a1⟩ : R_ii))))])) (live := [0]) (tv := fun _ => [some (vs 0 0 v0.length v0.length), some (vi a3), some (vi a4), some (Value.func (.func 11) #[] #[]), some (vi v3), some (vi (v4 - (1 : Int)))]) (bl := [some (.cells (Zd E_ii ((v0.set (v4).toNat (⟨(v0.getD ((v4 - (1 : Int))).toNat R_ii.z).a0, (v0.getD ((v4 - (1 : Int))).toNat R_ii.z).a1⟩ : R_ii)).set ((v4 - (1 : Int))).toNat (⟨(v0.getD (v4).toNat R_ii.z).a0, (v0.getD (v4).toNat R_ii.z).a1⟩ : R_ii))) 43)]) (ob := [((IntKind.i64.wrap (v4 - (1 : Int))) == (v4 - (1 : Int)), true), (dP ((0 + (((v4 - (1 : Int))).toNat * 2)) + ([vi (v0.getD (v4).toNat R_ii.z).a0, vi (v0.getD (v4).toNat R_ii.z).a1] : List Value).length ≤ ((Zd E_ii (v0.set (v4).toNat (⟨(v0.getD ((v4 - (1 : Int))).toNat R_ii.z).a0, (v0.getD ((v4 - (1 : Int))).toNat R_ii.z).a1⟩ : R_ii))) : List Value).length ∧ ZeB (Zd E_ii (v0.set (v4).toNat (⟨(v0.getD ((v4 - (1 : Int))).toNat R_ii.z).a0, (v0.getD ((v4 - (1 : Int))).toNat R_ii.z).a1⟩ : R_ii))) (0 + (((v4 - (1 : Int))).toNat * 2)) [vi (v0.getD (v4).toNat R_ii.z).a0, vi (v0.getD (v4).toNat R_ii.z).a1] = (Zd E_ii ((v0.set (v4).toNat (⟨(v0.getD ((v4 - (1 : Int))).toNat R_ii.z).a0, (v0.getD ((v4 - (1 : Int))).toNat R_ii.z).a1⟩ : R_ii)).set ((v4 - (1 : Int))).toNat (⟨(v0.getD (v4).toNat R_ii.z).a0, (v0.getD (v4).toNat R_ii.z).a1⟩ : R_ii)))), true), (Nat.blt ((v4 - (1 : Int))).toNat v0.length, true), ((v4 - (1 : Int)) == Int.ofNat ((v4 - (1 : Int))).toNat, true), (dP ((0 + ((v4).toNat * 2)) + ([vi (v0.getD ((v4 - (1 : Int))).toNat R_ii.z).a0, vi (v0.getD ((v4 - (1 : Int))).toNat R_ii.z).a1] : List Value).length ≤ ((Zd E_ii v0) : List Value).length ∧ ZeB (Zd E_ii v0) (0 + ((v4).toNat * 2)) [vi (v0.getD ((v4 - (1 : Int))).toNat R_ii.z).a0, vi (v0.getD ((v4 - (1 : Int))).toNat R_ii.z).a1] = (Zd E_ii (v0.set (v4).toNat (⟨(v0.getD ((v4 - (1 : Int))).toNat R_ii.z).a0, (v0.getD ((v4 - (1 : Int))).toNat R_ii.z).a1⟩ : R_ii)))), true), (Nat.blt (v4).toNat v0.length, true), (v4 == Int.ofNat (v4).toNat, true), (ZS (Z3 2 (List.drop (0 + ((v4).toNat * 2)) (Zd E_ii v0))) [.i (v0.getD (v4).toNat R_ii.z).a0, .i (v0.getD (v4).toNat R_ii.z).a1], true), (Nat.blt (v4).toNat v0.length, true), (v4 == Int.ofNat (v4).toNat, true), (ZS (Z3 2 (List.drop (0 + (((v4 - (1 : Int))).toNat * 2)) (Zd E_ii v0))) [.i (v0.getD ((v4 - (1 : Int))).toNat R_ii.z).a0, .i (v0.getD ((v4 - (1 : Int))).toNat R_ii.z).a1], true), (Nat.blt ((v4 - (1 : Int))).toNat v0.length, true), ((v4 - (1 : Int)) == Int.ofNat ((v4 - (1 : Int))).toNat, true), ((IntKind.i64.wrap (v4 - (1 : Int))) == (v4 - (1 : Int)), true), ((IntKind.i64.wrap (v4 - (1 : Int))) == (v4 - (1 : Int)), true), ((decide ((v0.getD (v4).toNat R_ii.z).a0 < (v0.getD ((v4 - (1 : Int))).toNat R_ii.z).a0)), true), (((v0.getD ((v4 - (1 : Int))).toNat R_ii.z).a0 != (v0.getD ((v4 - (1 : Int))).toNat R_ii.z).a0), false), (((v0.getD (v4).toNat R_ii.z).a0 != (v0.getD (v4).toNat R_ii.z).a0), false), (ZS (Z3 2 (List.drop (0 + (((v4 - (1 : Int))).toNat * 2)) (Zd E_ii v0))) [.i (v0.getD ((v4 - (1 : Int))).toNat R_ii.z).a0, .i (v0.getD ((v4 - (1 : Int))).toNat R_ii.z).a1], true), (Nat.blt ((v4 - (1 : Int))).toNat v0.length, true), ((v4 - (1 : Int)) == Int.ofNat ((v4 - (1 : Int))).toNat, true), ((IntKind.i64.wrap (v4 - (1 : Int))) == (v4 - (1 : Int)), true), (ZS (Z3 2 (List.drop (0 + ((v4).toNat * 2)) (Zd E_ii v0))) [.i (v0.getD (v4).toNat R_ii.z).a0, .i (v0.getD (v4).toNat R_ii.z).a1], true), (Nat.blt (v4).toNat v0.length, true), (v4 == Int.ofNat (v4).toNat, true), ((decide (v4 > a3)), true)]) rfl (show 2 ∈ Zq (Zbf 2) from by decide +kernel) (fun gv => by kernel_rfl) (Zc (beq_iff_eq.2 ((wrap_i64 ltA).trans (by first | rfl | omega))) <| Zc (Zl (Zge (E := E_ii) (L := (v0.set (v4).toNat (⟨(v0.getD ((v4 - (1 : Int))).toNat R_ii.z).a0, (v0.getD ((v4 - (1 : Int))).toNat R_ii.z).a1⟩ : R_ii))) (i := ((v4 - (1 : Int))).toNat) (q := 0) (l := [vi (v0.getD (v4).toNat R_ii.z).a0, vi (v0.getD (v4).toNat R_ii.z).a1]) (⟨(v0.getD (v4).toNat R_ii.z).a0, (v0.getD (v4).toNat R_ii.z).a1⟩ : R_ii) ltA (show (0 + (((v4 - (1 : Int))).toNat * 2)) = ((v4 - (1 : Int))).toNat * 2 + 0 from by omega) (show 0 + 2 ≤ 2 from by decide) rfl)) <| oB <| oI <| Zc (Zl (Zge (E := E_ii) (L := v0) (i := (v4).toNat) (q := 0) (l := [vi (v0.getD ((v4 - (1 : Int))).toNat R_ii.z).a0, vi (v0.getD ((v4 - (1 : Int))).toNat R_ii.z).a1]) (⟨(v0.getD ((v4 - (1 : Int))).toNat R_ii.z).a0, (v0.getD ((v4 - (1 : Int))).toNat R_ii.z).a1⟩ : R_ii) (by omega) (show (0 + ((v4).toNat * 2)) = (v4).toNat * 2 + 0 from by omega) (show 0 + 2 ≤ 2 from by decide) rfl)) <| oB <| oI <| Zc (Zy (E := E_ii) (L := v0) (i := (v4).toNat) (q := 0) (by omega) (show (0 + ((v4).toNat * 2)) = (v4).toNat * 2 + 0 from by omega) (show 0 + 2 ≤ 2 from by decide) rfl rfl) <| oB <| oI <| Zc (Zy (E := E_ii) (L := v0) (i := ((v4 - (1 : Int))).toNat) (q := 0) (by omega) (show (0 + (((v4 - (1 : Int))).toNat * 2)) = ((v4 - (1 : Int))).toNat * 2 + 0 from by omega) (show 0 + 2 ≤ 2 from by decide) rfl rfl) <| oB <| oI <| Zc (beq_iff_eq.2 ((wrap_i64 ltA).trans (by first | rfl | omega))) <| Zc (beq_iff_eq.2 ((wrap_i64 ltA).trans (by first | rfl | omega))) <| oY <| oE <| oE <| Zc (Zy (E := E_ii) (L := v0) (i := ((v4 - (1 : Int))).toNat) (q := 0) (by omega) (show (0 + (((v4 - (1 : Int))).toNat * 2)) = ((v4 - (1 : Int))).toNat * 2 + 0 from by omega) (show 0 + 2 ≤ 2 from by decide) rfl rfl) <| oB <| oI <| Zc (beq_iff_eq.2 ((wrap_i64 ltA).trans (by first | rfl | omega))) <| Zc (Zy (E := E_ii) (L := v0) (i := (v4).toNat) (q := 0) (by omega) (show (0 + ((v4).toNat * 2)) = (v4).toNat * 2 + 0 from by omega) (show 0 + 2 ≤ 2 from by decide) rfl rfl) <| oB <| oI <| oY Zi) rfl (by decide) (by rfl) (fun _ => ⟨⟨Eq.trans (show (vs 0 0 ((v0.set (v4).toNat (⟨(v0.getD ((v4 - (1 : Int))).toNat R_ii.z).a0, (v0.getD ((v4 - (1 : Int))).toNat R_ii.z).a1⟩ : R_ii)).set ((v4 - (1 : Int))).toNat (⟨(v0.getD (v4).toNat R_ii.z).a0, (v0.getD (v4).toNat R_ii.z).a1⟩ : R_ii)).length ((v0.set (v4).toNat (⟨(v0.getD ((v4 - (1 : Int))).toNat R_ii.z).a0, (v0.getD ((v4 - (1 : Int))).toNat R_ii.z).a1⟩ : R_ii)).set ((v4 - (1 : Int))).toNat (⟨(v0.getD (v4).toNat R_ii.z).a0, (v0.getD (v4).toNat R_ii.z).a1⟩ : R_ii)).length : Value) = vs 0 0 v0.length v0.length from (ZbN rfl eqA eqA)) (by rfl), by rfl⟩, ⟨rr, ⟨rr, ⟨rr, ⟨rr, ⟨rr, trivial⟩⟩⟩⟩⟩⟩) ⟨(Zj (E := E_ii) (α := R_ii) _ ((v0.set (v4).toNat (⟨(v0.getD ((v4 - (1 : Int))).toNat R_ii.z).a0, (v0.getD ((v4 - (1 : Int))).toNat R_ii.z).a1⟩ : R_ii)).set ((v4 - (1 : Int))).toNat (⟨(v0.getD (v4).toNat R_ii.z).a0, (v0.getD (v4).toNat R_ii.z).a1⟩ : R_ii)) _), trivial⟩
  ·
   by_cases g15 : (v0.getD ((v4 - (1 : Int))).toNat R_ii.z).a0 < (v0.getD (v4).toNat R_ii.z).a0
   ·
    exact Mach.ok_next (M := ZB L0 n1 n2 a3 a4 N) (cd := 1000000) (cm := 0) (y := (.h1m0 (v0) ((v3 + (1 : Int))) : Zo)) (fu := 4000) (orc := (Zr [(0, true), (1, false), (2, false), (3, false), (4, true)] [(0, (v4 - (1 : Int))), (1, (v3 + (1 : Int)))] [(0, (v4).toNat), (1, ((v4 - (1 : Int))).toNat)] [(0, [.i (v0.getD (v4).toNat R_ii.z).a0, .i (v0.getD (v4).toNat R_ii.z).a1]), (1, [.i (v0.getD ((v4 - (1 : Int))).toNat R_ii.z).a0, .i (v0.getD ((v4 - (1 : Int))).toNat R_ii.z).a1])] [])) (live := [0]) (tv := fun _ => [some (vs 0 0 v0.length v0.length), some (vi a3), some (vi a4), some (Value.func (.func 11) #[] #[]), some (vi (v3 + (1 : Int)))]) (bl := [some (.cells (Zd E_ii v0) 43)]) (ob := [((IntKind.i64.wrap (v3 + (1 : Int))) == (v3 + (1 : Int)), true), ((decide ((v0.getD (v4).toNat R_ii.z).a0 > (v0.getD ((v4 - (1 : Int))).toNat R_ii.z).a0)), true), ((decide ((v0.getD (v4).toNat R_ii.z).a0 < (v0.getD ((v4 - (1 : Int))).toNat R_ii.z).a0)), false), (((v0.getD ((v4 - (1 : Int))).toNat R_ii.z).a0 != (v0.getD ((v4 - (1 : Int))).toNat R_ii.z).a0), false), (((v0.getD (v4).toNat R_ii.z).a0 != (v0.getD (v4).toNat R_ii.z).a0), false), (ZS (Z3 2 (List.drop (0 + (((v4 - (1 : Int))).toNat * 2)) (Zd E_ii v0))) [.i (v0.getD ((v4 - (1 : Int))).toNat R_ii.z).a0, .i (v0.getD ((v4 - (1 : Int))).toNat R_ii.z).a1], true), (Nat.blt ((v4 - (1 : Int))).toNat v0.length, true), ((v4 - (1 : Int)) == Int.ofNat ((v4 - (1 : Int))).toNat, true), ((IntKind.i64.wrap (v4 - (1 : Int))) == (v4 - (1 : Int)), true), (ZS (Z3 2 (List.drop (0 + ((v4).toNat * 2)) (Zd E_ii v0))) [.i (v0.getD (v4).toNat R_ii.z).a0, .i (v0.getD (v4).toNat R_ii.z).a1], true), (Nat.blt (v4).toNat v0.length, true), (v4 == Int.ofNat (v4).toNat, true), ((decide (v4 > a3)), true)]) rfl (show 1 ∈ Zq (Zbf 2) from by decide +kernel) (fun gv => by kernel_rfl) (Zc (beq_iff_eq.2 ((wrap_i64 ltA).trans (by first | rfl | omega))) <| oY <| oN <| oE <| oE <| Zc (Zy (E := E_ii) (L := v0) (i := ((v4 - (1 : Int))).toNat) (q := 0) (by omega) (show (0 + (((v4 - (1 : Int))).toNat * 2)) = ((v4 - (1 : Int))).toNat * 2 + 0 from by omega) (show 0 + 2 ≤ 2 from by decide) rfl rfl) <| oB <| oI <| Zc (beq_iff_eq.2 ((wrap_i64 ltA).trans (by first | rfl | omega))) <| Zc (Zy (E := E_ii) (L := v0) (i := (v4).toNat) (q := 0) (by omega) (show (0 + ((v4).toNat * 2)) = (v4).toNat * 2 + 0 from by omega) (show 0 + 2 ≤ 2 from by decide) rfl rfl) <| oB <| oI <| oY Zi) rfl (by decide) (by rfl) (fun _ => ⟨rr, ⟨rr, ⟨rr, ⟨rr, ⟨rr, trivial⟩⟩⟩⟩⟩) ⟨(Zj (E := E_ii) (α := R_ii) _ v0 _), trivial⟩
   ·
    exact Mach.ok_next (M := ZB L0 n1 n2 a3 a4 N) (cd := 1000000) (cm := 0) (y := (.h1m0 (v0) ((v3 + (1 : Int))) : Zo)) (fu := 4000) (orc := (Zr [(0, true), (1, false), (2, false), (3, false), (4, false)] [(0, (v4 - (1 : Int))), (1, (v3 + (1 : Int)))] [(0, (v4).toNat), (1, ((v4 - (1 : Int))).toNat)] [(0, [.i (v0.getD (v4).toNat R_ii.z).a0, .i (v0.getD (v4).toNat R_ii.z).a1]), (1, [.i (v0.getD ((v4 - (1 : Int))).toNat R_ii.z).a0, .i (v0.getD ((v4 - (1 : Int))).toNat R_ii.z).a1])] [])) (live := [0]) (tv := fun _ => [some (vs 0 0 v0.length v0.length), some (vi a3), some (vi a4), some (Value.func (.func 11) #[] #[]), some (vi (v3 + (1 : Int)))]) (bl := [some (.cells (Zd E_ii v0) 43)]) (ob := [((IntKind.i64.wrap (v3 + (1 : Int))) == (v3 + (1 : Int)), true), ((decide ((v0.getD (v4).toNat R_ii.z).a0 > (v0.getD ((v4 - (1 : Int))).toNat R_ii.z).a0)), false), ((decide ((v0.getD (v4).toNat R_ii.z).a0 < (v0.getD ((v4 - (1 : Int))).toNat R_ii.z).a0)), false), (((v0.getD ((v4 - (1 : Int))).toNat R_ii.z).a0 != (v0.getD ((v4 - (1 : Int))).toNat R_ii.z).a0), false), (((v0.getD (v4).toNat R_ii.z).a0 != (v0.getD (v4).toNat R_ii.z).a0), false), (ZS (Z3 2 (List.drop (0 + (((v4 - (1 : Int))).toNat * 2)) (Zd E_ii v0))) [.i (v0.getD ((v4 - (1 : Int))).toNat R_ii.z).a0, .i (v0.getD ((v4 - (1 : Int))).toNat R_ii.z).a1], true), (Nat.blt ((v4 - (1 : Int))).toNat v0.length, true), ((v4 - (1 : Int)) == Int.ofNat ((v4 - (1 : Int))).toNat, true), ((IntKind.i64.wrap (v4 - (1 : Int))) == (v4 - (1 : Int)), true), (ZS (Z3 2 (List.drop (0 + ((v4).toNat * 2)) (Zd E_ii v0))) [.i (v0.getD (v4).toNat R_ii.z).a0, .i (v0.getD (v4).toNat R_ii.z).a1], true), (Nat.blt (v4).toNat v0.length, true), (v4 == Int.ofNat (v4).toNat, true), ((decide (v4 > a3)), true)]) rfl (show 1 ∈ Zq (Zbf 2) from by decide +kernel) (fun gv => by kernel_rfl) (Zc (beq_iff_eq.2 ((wrap_i64 ltA).trans (by first | rfl | omega))) <| oN <| oN <| oE <| oE <| Zc (Zy (E := E_ii) (L := v0) (i := ((v4 - (1 : Int))).toNat) (q := 0) (by omega) (show (0 + (((v4 - (1 : Int))).toNat * 2)) = ((v4 - (1 : Int))).toNat * 2 + 0 from by omega) (show 0 + 2 ≤ 2 from by decide) rfl rfl) <| oB <| oI <| Zc (beq_iff_eq.2 ((wrap_i64 ltA).trans (by first | rfl | omega))) <| Zc (Zy (E := E_ii) (L := v0) (i := (v4).toNat) (q := 0) (by omega) (show (0 + ((v4).toNat * 2)) = (v4).toNat * 2 + 0 from by omega) (show 0 + 2 ≤ 2 from by decide) rfl rfl) <| oB <| oI <| oY Zi) rfl (by decide) (by rfl) (fun _ => ⟨rr, ⟨rr, ⟨rr, ⟨rr, ⟨rr, trivial⟩⟩⟩⟩⟩) ⟨(Zj (E := E_ii) (α := R_ii) _ v0 _), trivial⟩
 ·
  exact Mach.ok_next (M := ZB L0 n1 n2 a3 a4 N) (cd := 1000000) (cm := 0) (y := (.h1m0 (v0) ((v3 + (1 : Int))) : Zo)) (fu := 4000) (orc := (Zr [(0, false)] [(0, (v3 + (1 : Int)))] [] [] [])) (live := [0]) (tv := fun _ => [some (vs 0 0 v0.length v0.length), some (vi a3), some (vi a4), some (Value.func (.func 11) #[] #[]), some (vi (v3 + (1 : Int)))]) (bl := [some (.cells (Zd E_ii v0) 43)]) (ob := [((IntKind.i64.wrap (v3 + (1 : Int))) == (v3 + (1 : Int)), true), ((decide (v4 > a3)), false)]) rfl (show 1 ∈ Zq (Zbf 2) from by decide +kernel) (fun gv => by kernel_rfl) (Zc (beq_iff_eq.2 ((wrap_i64 ltA).trans (by first | rfl | omega))) <| oN Zi) rfl (by decide) (by rfl) (fun _ => ⟨rr, ⟨rr, ⟨rr, ⟨rr, ⟨rr, trivial⟩⟩⟩⟩⟩) ⟨(Zj (E := E_ii) (α := R_ii) _ v0 _), trivial⟩

theorem Zfh (L0 : List R_ii) (n1 n2 : Nat) (a3 a4 : Int) (N : Nat) : (ZB L0 n1 n2 a3 a4 N).Enter Tryz.prog Zw #[vs 0 0 n1 n2, vi a3, vi a4, Value.func (.func 11) #[] #[]] (Zb1 L0 n1 n2 a3 a4 N) := by
 unfold Zb1
 refine Mach.en_ite (fun g0 => ?_) (fun _ => Mach.en_none)
 refine Mach.en_ite (fun g1 => ?_) (fun _ => Mach.en_none)
 refine Mach.en_ite (fun g2 => ?_) (fun _ => Mach.en_none)
 refine Mach.en_ite (fun g3 => ?_) (fun _ => Mach.en_none)
 refine Mach.en_ite (fun g4 => ?_) (fun _ => Mach.en_none)
 refine Mach.en_ite (fun g5 => ?_) (fun _ => Mach.en_none)
 refine Mach.en_ite (fun g6 => ?_) (fun _ => Mach.en_none)
 exact Mach.en_head (bK := Zae 1) (M := ZB L0 n1 n2 a3 a4 N) (cd := 1000000) (cm := 0) (y := (.h1m0 (L0) ((a3 + (1 : Int))) : Zo)) (fu := 4000) (orc := (Zr [] [(0, (a3 + (1 : Int)))] [] [] [])) (live := [0]) (tv := [some (vs 0 0 n1 n2), some (vi a3), some (vi a4), some (Value.func (.func 11) #[] #[]), some (vi (a3 + (1 : Int)))]) (bl := [some (.cells (Zd E_ii L0) 43)]) (ob := [((IntKind.i64.wrap (a3 + (1 : Int))) == (a3 + (1 : Int)), true)]) rfl rfl (show Zq (Zae 1).2 = [] from rfl) (by kernel_rfl) (Zc (beq_iff_eq.2 ((wrap_i64 ltA).trans (by first | rfl | omega))) Zi) rfl (by decide) (by rfl) ⟨⟨Eq.trans (show (vs 0 0 L0.length L0.length : Value) = vs 0 0 n1 n2 from (ZbN rfl eqA eqA)) (by rfl), by rfl⟩, ⟨rr, ⟨rr, ⟨rr, ⟨rr, trivial⟩⟩⟩⟩⟩ ⟨(Zj (E := E_ii) (α := R_ii) _ L0 _), trivial⟩

theorem ZeP (L0 : List R_ii) (n1 n2 : Nat) (a3 a4 : Int) (N : Nat) (r : ZN) (h : Zas L0 n1 n2 a3 a4 N = some r) : LSpec Tryz.prog 38 #[vs 0 0 n1 n2, vi a3, vi a4, Value.func (.func 11) #[] #[]] [.cells (Zd E_ii L0) 43] (Zdz L0 n1 n2 a3 a4 r) (Zdq L0 n1 n2 a3 a4 r) :=
 Mach.spec ZcD (ZB L0 n1 n2 a3 a4 N) Tryz.func38 (by kernel_rfl) (by kernel_rfl) (fun x => by cases x <;> exact ZaI _ rfl) (fun r => by cases r <;> exact ZaI _ rfl) (fun x => by
  cases x with
  | h1m0 _ _ => exact fun _ => (show ¬ (1 ∈ Zq (Zae 1).2) from by decide +kernel)
  | h2m0 _ _ _ => exact fun _ => (show ¬ (2 ∈ Zq (Zae 2).2) from by decide +kernel)
  ) (fun x => (show (ZB L0 n1 n2 a3 a4 N).Ok Tryz.prog Zw x (Zag L0 n1 n2 a3 a4 N x) from by
  cases x with
  | h1m0 v0 v3 => exact ZeJ L0 n1 n2 a3 a4 v0 v3 N
  | h2m0 v0 v3 v4 => exact ZeK L0 n1 n2 a3 a4 v0 v3 v4 N
  )) (Zfh L0 n1 n2 a3 a4 N) (n := N) h

noncomputable def Zb2 (L0 : List R_ii) (n1 n2 : Nat) (a3 a4 : Int) (w0 : List R_ii) (k0 n : Nat) : ZcQ := .call [(k0, .cells (Zd E_ii L0) 43)] (vtt) [(k0, some (.cells (Zd E_ii w0) 43))] 0
def ZaW (A : Array Value) (L0 : List R_ii) (n1 n2 : Nat) (a3 a4 : Int) (w0 : List R_ii) (k0 n : Nat) : Prop := ZaB Tryz.prog 38 A [(k0, .cells (Zd E_ii L0) 43)] (vtt) [(k0, some (.cells (Zd E_ii w0) 43))] n 0

theorem Zb3 (A : Array Value) (L0 : List R_ii) (n1 n2 : Nat) (a3 a4 : Int) (w0 : List R_ii) (N : Nat) (h : Zas L0 n1 n2 a3 a4 N = some (.r0 w0)) (k0 n : Nat) (hA : A = #[vs k0 0 n1 n2, vi a3, vi a4, Value.func (.func 11) #[] #[]]) (hnd : ([k0] : List Nat).Nodup) (hlt : ∀ k ∈ ([k0] : List Nat), k < n) : ZaW A L0 n1 n2 a3 a4 w0 k0 n :=
 ZbB hA (LSpec.callL (show LSpec Tryz.prog 38 #[vs 0 0 n1 n2, vi a3, vi a4, Value.func (.func 11) #[] #[]] [.cells (Zd E_ii L0) 43] (vtt) [some (.cells (Zd E_ii w0) 43)] from ZeP L0 n1 n2 a3 a4 N _ h) [k0] n [0] rfl hnd hlt (show 1 ≤ 1 from by decide) (show ∀ j ∈ ([0] : List Nat), j < 1 from by decide) (by rfl) ⟨(Zah _ _ _), trivial⟩ (by rfl) ⟨(Zah _ _ _), trivial⟩ ⟨.inl (by decide), trivial⟩ rfl rfl rfl (ZaK (Zbz rfl (Zbg _ _ _)) rfl) (ZaK (Zbz rfl (Zf1 (Zbg _ _ _))) rfl))

noncomputable def ZdW (L0 : List R_ii) (n1 n2 : Nat) (a3 a4 a5 : Int) : Zai → Value
 | .r0 w0 => vtt
noncomputable def ZdQ (L0 : List R_ii) (n1 n2 : Nat) (a3 a4 a5 : Int) : Zai → List (Option AObj)
 | .r0 w0 => [some (.cells (Zd E_ii w0) 43)]

def ZgQ : ZE → Nat
 | .h1m0 v0 v4 => 1
noncomputable def ZgZ (L0 : List R_ii) (n1 n2 : Nat) (a3 a4 a5 : Int) : ZE → List (Nat × Value)
 | .h1m0 v0 v4 => [(0, vs 0 0 v0.length v0.length), (1, vi a3), (2, vi a4), (3, vi a5), (10, vi (v4 : Int))]
noncomputable def Zha (L0 : List R_ii) (n1 n2 : Nat) (a3 a4 a5 : Int) : ZE → List (Option AObj)
 | .h1m0 v0 v4 => [some (.cells (Zd E_ii v0) 43)]

noncomputable def Zbh : Nat → Code × List ZaO
 | 1 => ZaV [1, 3] (Zbr Tryz.f82) []
 | _ => (.skip, [])
def ZdR : Nat → Bool
 | 1 => true
 | _ => true
noncomputable def Zhb (i : Nat) : List ZaO := match ZdR i with | true => .rnd i :: (Zbh i).2 | false => (Zbh i).2

noncomputable def Za3 (L0 : List R_ii) (n1 n2 : Nat) (a3 a4 a5 : Int) (N : Nat) : Mach := ⟨Tryz.f82, [.cells (Zd E_ii L0) 43], ZE, Zai, Zbm L0 n1 n2 a3 a4 a5 N, ZgQ, Zbh, ZdR, ZgZ L0 n1 n2 a3 a4 a5, Zha L0 n1 n2 a3 a4 a5, ZdW L0 n1 n2 a3 a4 a5, ZdQ L0 n1 n2 a3 a4 a5⟩

theorem ZfE (L0 : List R_ii) (n1 n2 : Nat) (a3 a4 a5 : Int) (v0 : List R_ii) (v4 N : Nat) : (Za3 L0 n1 n2 a3 a4 a5 N).Ok Tryz.prog Zw (.h1m0 v0 v4 : ZE) (Zbm L0 n1 n2 a3 a4 a5 N (.h1m0 v0 v4 : ZE)) := by
 show (Za3 L0 n1 n2 a3 a4 a5 N).Ok Tryz.prog Zw (.h1m0 v0 v4 : ZE) (Za4 L0 n1 n2 a3 a4 a5 N v0 v4)
 unfold Za4
 refine Mach.ok_ite (fun g0 => ?_) (fun _ => Mach.ok_none)
 refine Mach.ok_ite (fun g1 => ?_) (fun _ => Mach.ok_none)
 refine Mach.ok_ite (fun g2 => ?_) (fun _ => Mach.ok_none)
 refine Mach.ok_ite (fun g3 => ?_) (fun _ => Mach.ok_none)
 refine Mach.ok_ite (fun g4 => ?_) (fun _ => Mach.ok_none)
 refine Mach.ok_ite (fun g5 => ?_) (fun _ => Mach.ok_none)
 refine Mach.ok_ite (fun g6 => ?_) (fun _ => Mach.ok_none)
 refine Mach.ok_ite (fun g7 => ?_) (fun _ => Mach.ok_none)
 refine Mach.ok_ite (fun g8 => ?_) (fun _ => Mach.ok_none)
 refine Mach.ok_ite (fun g9 => ?_) (fun _ => Mach.ok_none)
 refine Mach.ok_ite (fun g10 => ?_) (fun g10 => ?_)
 ·
  refine Mach.ok_ite (fun g11 => ?_) (fun _ => Mach.ok_none)
  refine Mach.ok_ite (fun g12 => ?_) (fun _ => Mach.ok_none)
  exact Mach.ok_next (M := Za3 L0 n1 n2 a3 a4 a5 N) (cd := 1000000) (cm := 0) (y := (.h1m0 (((v0.set ((a3 + (v4 : Int))).toNat (⟨(v0.getD ((a4 + (v4 : Int))).toNat R_ii.z).a0, (v0.getD ((a4 + (v4 : Int))).toNat R_ii.z).a1⟩ : R_ii)).set ((a4 + (v4 : Int))).toNat (⟨(v0.getD ((a3 + (v4 : Int))).toNat R_ii.z).a0, (v0.getD ((a3 + (v4 : Int))).toNat R_ii.z).a1⟩ : R_ii))) ((v4 + 1)) : ZE)) (fu := 4000) (orc := (Zr [(0, true)] [(0, (a3 + (v4 : Int))), (1, (a4 + (v4 : Int))), (2, (a4 + (v4 : Int))), (3, (a3 + (v4 : Int))), (4, (((v4 + 1) : Nat) : Int))] [(0, ((a4 + (v4 : Int))).toNat), (1, ((a3 + (v4 : Int))).toNat), (2, ((a3 + (v4 : Int))).toNat), (3, ((a4 + (v4 : Int))).toNat)] [(0, [.i (v0.getD ((a4 + (v4 : Int))).toNat R_ii.z).a0, .i (v0.getD ((a4 + (v4 : Int))).toNat R_ii.z).a1]), (1, [.i (v0.getD ((a3 + (v4 : Int))).toNat R_ii.z).a0, .i (v0.getD ((a3 + (v4 : Int))).toNat R_ii.z).a1])] [(0, .st (Zd E_ii (v0.set ((a3 + (v4 : Int))).toNat (⟨(v0.getD ((a4 + (v4 : Int))).toNat R_ii.z).a0, (v0.getD ((a4 + (v4 : Int))).toNat R_ii.z).a1⟩ : R_ii)))), (1, .st (Zd E_ii ((v0.set ((a3 + (v4 : Int))).toNat (⟨(v0.getD ((a4 + (v4 : Int))).toNat R_ii.z).a0, (v0.getD ((a4 + (v4 : Int))).toNat R_ii.z).a1⟩ : R_ii)).set ((a4 + (v4 : Int))).toNat (⟨(v0.getD ((a3 + (v4 : Int))).toNat R_ii.z).a0, (v0.getD ((a3 + (v4 : Int))).toNat R_ii.z).a1⟩ : R_ii))))])) (live := [0]) (tv := fun _ => [some (vs 0 0 v0.length v0.length), some (vi a3), some (vi a4), some (vi a5), some (vi (((v4 + 1) : Nat) : Int))]) (bl := [some (.cells (Zd E_ii ((v0.set ((a3 + (v4 : Int))).toNat (⟨(v0.getD ((a4 + (v4 : Int))).toNat R_ii.z).a0, (v0.getD ((a4 + (v4 : Int))).toNat R_ii.z).a1⟩ : R_ii)).set ((a4 + (v4 : Int))).toNat (⟨(v0.getD ((a3 + (v4 : Int))).toNat R_ii.z).a0, (v0.getD ((a3 + (v4 : Int))).toNat R_ii.z).a1⟩ : R_ii))) 43)]) (ob := [((IntKind.i64.wrap ((v4 : Int) + (1 : Int))) == (((v4 + 1) : Nat) : Int), true), (dP ((0 + (((a4 + (v4 : Int))).toNat * 2)) + ([vi (v0.getD ((a3 + (v4 : Int))).toNat R_ii.z).a0, vi (v0.getD ((a3 + (v4 : Int))).toNat R_ii.z).a1] : List Value).length ≤ ((Zd E_ii (v0.set ((a3 + (v4 : Int))).toNat (⟨(v0.getD ((a4 + (v4 : Int))).toNat R_ii.z).a0, (v0.getD ((a4 + (v4 : Int))).toNat R_ii.z).a1⟩ : R_ii))) : List Value).length ∧ ZeB (Zd E_ii (v0.set ((a3 + (v4 : Int))).toNat (⟨(v0.getD ((a4 + (v4 : Int))).toNat R_ii.z).a0, (v0.getD ((a4 + (v4 : Int))).toNat R_ii.z).a1⟩ : R_ii))) (0 + (((a4 + (v4 : Int))).toNat * 2)) [vi (v0.getD ((a3 + (v4 : Int))).toNat R_ii.z).a0, vi (v0.getD ((a3 + (v4 : Int))).toNat R_ii.z).a1] = (Zd E_ii ((v0.set ((a3 + (v4 : Int))).toNat (⟨(v0.getD ((a4 + (v4 : Int))).toNat R_ii.z).a0, (v0.getD ((a4 + (v4 : Int))).toNat R_ii.z).a1⟩ : R_ii)).set ((a4 + (v4 : Int))).toNat (⟨(v0.getD ((a3 + (v4 : Int))).toNat R_ii.z).a0, (v0.getD ((a3 + (v4 : Int))).toNat R_ii.z).a1⟩ : R_ii)))), true), (Nat.blt ((a4 + (v4 : Int))).toNat v0.length, true), ((a4 + (v4 : Int)) == Int.ofNat ((a4 + (v4 : Int))).toNat, true), (dP ((0 + (((a3 + (v4 : Int))).toNat * 2)) + ([vi (v0.getD ((a4 + (v4 : Int))).toNat R_ii.z).a0, vi (v0.getD ((a4 + (v4 : Int))).toNat R_ii.z).a1] : List Value).length ≤ ((Zd E_ii v0) : List Value).length ∧ ZeB (Zd E_ii v0) (0 + (((a3 + (v4 : Int))).toNat * 2)) [vi (v0.getD ((a4 + (v4 : Int))).toNat R_ii.z).a0, vi (v0.getD ((a4 + (v4 : Int))).toNat R_ii.z).a1] = (Zd E_ii (v0.set ((a3 + (v4 : Int))).toNat (⟨(v0.getD ((a4 + (v4 : Int))).toNat R_ii.z).a0, (v0.getD ((a4 + (v4 : Int))).toNat R_ii.z).a1⟩ : R_ii)))), true), (Nat.blt ((a3 + (v4 : Int))).toNat v0.length, true), ((a3 + (v4 : Int)) == Int.ofNat ((a3 + (v4 : Int))).toNat, true), (ZS (Z3 2 (List.drop (0 + (((a3 + (v4 : Int))).toNat * 2)) (Zd E_ii v0))) [.i (v0.getD ((a3 + (v4 : Int))).toNat R_ii.z).a0, .i (v0.getD ((a3 + (v4 : Int))).toNat R_ii.z).a1], true), (Nat.blt ((a3 + (v4 : Int))).toNat v0.length, true), ((a3 + (v4 : Int)) == Int.ofNat ((a3 + (v4 : Int))).toNat, true), ((IntKind.i64.wrap (a3 + (v4 : Int))) == (a3 + (v4 : Int)), true), (ZS (Z3 2 (List.drop (0 + (((a4 + (v4 : Int))).toNat * 2)) (Zd E_ii v0))) [.i (v0.getD ((a4 + (v4 : Int))).toNat R_ii.z).a0, .i (v0.getD ((a4 + (v4 : Int))).toNat R_ii.z).a1], true), (Nat.blt ((a4 + (v4 : Int))).toNat v0.length, true), ((a4 + (v4 : Int)) == Int.ofNat ((a4 + (v4 : Int))).toNat, true), ((IntKind.i64.wrap (a4 + (v4 : Int))) == (a4 + (v4 : Int)), true), ((IntKind.i64.wrap (a4 + (v4 : Int))) == (a4 + (v4 : Int)), true), ((IntKind.i64.wrap (a3 + (v4 : Int))) == (a3 + (v4 : Int)), true), ((decide ((v4 : Int) < a5)), true)]) rfl (show 1 ∈ Zq (Zhb 1) from by decide +kernel) (fun gv => by kernel_rfl) (Zc (beq_iff_eq.2 ((wrap_i64 ltA).trans (by first | rfl | omega))) <| Zc (Zl (Zge (E := E_ii) (L := (v0.set ((a3 + (v4 : Int))).toNat (⟨(v0.getD ((a4 + (v4 : Int))).toNat R_ii.z).a0, (v0.getD ((a4 + (v4 : Int))).toNat R_ii.z).a1⟩ : R_ii))) (i := ((a4 + (v4 : Int))).toNat) (q := 0) (l := [vi (v0.getD ((a3 + (v4 : Int))).toNat R_ii.z).a0, vi (v0.getD ((a3 + (v4 : Int))).toNat R_ii.z).a1]) (⟨(v0.getD ((a3 + (v4 : Int))).toNat R_ii.z).a0, (v0.getD ((a3 + (v4 : Int))).toNat R_ii.z).a1⟩ : R_ii) ltA (show (0 + (((a4 + (v4 : Int))).toNat * 2)) = ((a4 + (v4 : Int))).toNat * 2 + 0 from by omega) (show 0 + 2 ≤ 2 from by decide) rfl)) <| oB <| oI <| Zc (Zl (Zge (E := E_ii) (L := v0) (i := ((a3 + (v4 : Int))).toNat) (q := 0) (l := [vi (v0.getD ((a4 + (v4 : Int))).toNat R_ii.z).a0, vi (v0.getD ((a4 + (v4 : Int))).toNat R_ii.z).a1]) (⟨(v0.getD ((a4 + (v4 : Int))).toNat R_ii.z).a0, (v0.getD ((a4 + (v4 : Int))).toNat R_ii.z).a1⟩ : R_ii) (by omega) (show (0 + (((a3 + (v4 : Int))).toNat * 2)) = ((a3 + (v4 : Int))).toNat * 2 + 0 from by omega) (show 0 + 2 ≤ 2 from by decide) rfl)) <| oB <| oI <| Zc (Zy (E := E_ii) (L := v0) (i := ((a3 + (v4 : Int))).toNat) (q := 0) (by omega) (show (0 + (((a3 + (v4 : Int))).toNat * 2)) = ((a3 + (v4 : Int))).toNat * 2 + 0 from by omega) (show 0 + 2 ≤ 2 from by decide) rfl rfl) <| oB <| oI <| Zc (beq_iff_eq.2 ((wrap_i64 ltA).trans (by first | rfl | omega))) <| Zc (Zy (E := E_ii) (L := v0) (i := ((a4 + (v4 : Int))).toNat) (q := 0) (by omega) (show (0 + (((a4 + (v4 : Int))).toNat * 2)) = ((a4 + (v4 : Int))).toNat * 2 + 0 from by omega) (show 0 + 2 ≤ 2 from by decide) rfl rfl) <| oB <| oI <| Zc (beq_iff_eq.2 ((wrap_i64 ltA).trans (by first | rfl | omega))) <| Zc (beq_iff_eq.2 ((wrap_i64 ltA).trans (by first | rfl | omega))) <| Zc (beq_iff_eq.2 ((wrap_i64 ltA).trans (by first | rfl | omega))) <| oY Zi) rfl (by decide) (by rfl) (fun _ => ⟨⟨Eq.trans (show (vs 0 0 ((v0.set ((a3 + (v4 : Int))).toNat (⟨(v0.getD ((a4 + (v4 : Int))).toNat R_ii.z).a0, (v0.getD ((a4 + (v4 : Int))).toNat R_ii.z).a1⟩ : R_ii)).set ((a4 + (v4 : Int))).toNat (⟨(v0.getD ((a3 + (v4 : Int))).toNat R_ii.z).a0, (v0.getD ((a3 + (v4 : Int))).toNat R_ii.z).a1⟩ : R_ii)).length ((v0.set ((a3 + (v4 : Int))).toNat (⟨(v0.getD ((a4 + (v4 : Int))).toNat R_ii.z).a0, (v0.getD ((a4 + (v4 : Int))).toNat R_ii.z).a1⟩ : R_ii)).set ((a4 + (v4 : Int))).toNat (⟨(v0.getD ((a3 + (v4 : Int))).toNat R_ii.z).a0, (v0.getD ((a3 + (v4 : Int))).toNat R_ii.z).a1⟩ : R_ii)).length : Value) = vs 0 0 v0.length v0.length from (ZbN rfl eqA eqA)) (by rfl), by rfl⟩, ⟨rr, ⟨rr, ⟨rr, ⟨rr, trivial⟩⟩⟩⟩⟩) ⟨(Zj (E := E_ii) (α := R_ii) _ ((v0.set ((a3 + (v4 : Int))).toNat (⟨(v0.getD ((a4 + (v4 : Int))).toNat R_ii.z).a0, (v0.getD ((a4 + (v4 : Int))).toNat R_ii.z).a1⟩ : R_ii)).set ((a4 + (v4 : Int))).toNat (⟨(v0.getD ((a3 + (v4 : Int))).toNat R_ii.z).a0, (v0.getD ((a3 + (v4 : Int))).toNat R_ii.z).a1⟩ : R_ii)) _), trivial⟩
 ·
  exact Mach.ok_fin (M := Za3 L0 n1 n2 a3 a4 a5 N) (cd := 1000000) (cm := 0) (r := (.r0 (v0) : Zai)) (fu := 4000) (orc := (Zr [(0, false)] [] [] [] [])) (live := [0]) (u := vtt) (bl := [some (.cells (Zd E_ii v0) 43)]) (ob := [((decide ((v4 : Int) < a5)), false)]) (fun gv => by kernel_rfl) (oN Zi) rfl (by decide) (by rfl) rr ⟨(Zj (E := E_ii) (α := R_ii) _ v0 _), trivial⟩

theorem Zgu (L0 : List R_ii) (n1 n2 : Nat) (a3 a4 a5 : Int) (N : Nat) : (Za3 L0 n1 n2 a3 a4 a5 N).Enter Tryz.prog Zw #[vs 0 0 n1 n2, vi a3, vi a4, vi a5, Value.func (.func 11) #[] #[]] (ZbS L0 n1 n2 a3 a4 a5 N) := by
 unfold ZbS
 refine Mach.en_ite (fun g0 => ?_) (fun _ => Mach.en_none)
 refine Mach.en_ite (fun g1 => ?_) (fun _ => Mach.en_none)
 refine Mach.en_ite (fun g2 => ?_) (fun _ => Mach.en_none)
 refine Mach.en_ite (fun g3 => ?_) (fun _ => Mach.en_none)
 refine Mach.en_ite (fun g4 => ?_) (fun _ => Mach.en_none)
 refine Mach.en_ite (fun g5 => ?_) (fun _ => Mach.en_none)
 refine Mach.en_ite (fun g6 => ?_) (fun _ => Mach.en_none)
 refine Mach.en_ite (fun g7 => ?_) (fun _ => Mach.en_none)
 refine Mach.en_ite (fun g8 => ?_) (fun _ => Mach.en_none)
 exact Mach.en_head (bK := Zbh 1) (M := Za3 L0 n1 n2 a3 a4 a5 N) (cd := 1000000) (cm := 0) (y := (.h1m0 (L0) (0) : ZE)) (fu := 4000) (orc := (Zr [] [] [] [] [])) (live := [0]) (tv := [some (vs 0 0 n1 n2), some (vi a3), some (vi a4), some (vi a5), some (vq)]) (bl := [some (.cells (Zd E_ii L0) 43)]) (ob := []) rfl rfl (show Zq (Zbh 1).2 = [] from rfl) (by kernel_rfl) Zi rfl (by decide) (by rfl) ⟨⟨Eq.trans (show (vs 0 0 L0.length L0.length : Value) = vs 0 0 n1 n2 from (ZbN rfl eqA eqA)) (by rfl), by rfl⟩, ⟨rr, ⟨rr, ⟨rr, ⟨⟨Eq.trans (show (vi ((0 : Nat) : Int) : Value) = vq from (congrArg (Value.int .i64) (by first | rfl | omega))) (by rfl), by rfl⟩, trivial⟩⟩⟩⟩⟩ ⟨(Zj (E := E_ii) (α := R_ii) _ L0 _), trivial⟩

theorem ZfJ (L0 : List R_ii) (n1 n2 : Nat) (a3 a4 a5 : Int) (N : Nat) (r : Zai) (h : Zar L0 n1 n2 a3 a4 a5 N = some r) : LSpec Tryz.prog 82 #[vs 0 0 n1 n2, vi a3, vi a4, vi a5, Value.func (.func 11) #[] #[]] [.cells (Zd E_ii L0) 43] (ZdW L0 n1 n2 a3 a4 a5 r) (ZdQ L0 n1 n2 a3 a4 a5 r) :=
 Mach.spec ZcD (Za3 L0 n1 n2 a3 a4 a5 N) Tryz.func82 (by kernel_rfl) (by kernel_rfl) (fun x => by cases x <;> exact ZaI _ rfl) (fun r => by cases r <;> exact ZaI _ rfl) (fun x => by
  cases x with
  | h1m0 _ _ => exact fun _ => (show ¬ (1 ∈ Zq (Zbh 1).2) from by decide +kernel)
  ) (fun x => (show (Za3 L0 n1 n2 a3 a4 a5 N).Ok Tryz.prog Zw x (Zbm L0 n1 n2 a3 a4 a5 N x) from by
  cases x with
  | h1m0 v0 v4 => exact ZfE L0 n1 n2 a3 a4 a5 v0 v4 N
  )) (Zgu L0 n1 n2 a3 a4 a5 N) (n := N) h

noncomputable def Zba (L0 : List R_ii) (n1 n2 : Nat) (a3 a4 a5 : Int) (w0 : List R_ii) (k0 n : Nat) : ZcQ := .call [(k0, .cells (Zd E_ii L0) 43)] (vtt) [(k0, some (.cells (Zd E_ii w0) 43))] 0
def ZaE (A : Array Value) (L0 : List R_ii) (n1 n2 : Nat) (a3 a4 a5 : Int) (w0 : List R_ii) (k0 n : Nat) : Prop := ZaB Tryz.prog 82 A [(k0, .cells (Zd E_ii L0) 43)] (vtt) [(k0, some (.cells (Zd E_ii w0) 43))] n 0

theorem Zbb (A : Array Value) (L0 : List R_ii) (n1 n2 : Nat) (a3 a4 a5 : Int) (w0 : List R_ii) (N : Nat) (h : Zar L0 n1 n2 a3 a4 a5 N = some (.r0 w0)) (k0 n : Nat) (hA : A = #[vs k0 0 n1 n2, vi a3, vi a4, vi a5, Value.func (.func 11) #[] #[]]) (hnd : ([k0] : List Nat).Nodup) (hlt : ∀ k ∈ ([k0] : List Nat), k < n) : ZaE A L0 n1 n2 a3 a4 a5 w0 k0 n :=
 ZbB hA (LSpec.callL (show LSpec Tryz.prog 82 #[vs 0 0 n1 n2, vi a3, vi a4, vi a5, Value.func (.func 11) #[] #[]] [.cells (Zd E_ii L0) 43] (vtt) [some (.cells (Zd E_ii w0) 43)] from ZfJ L0 n1 n2 a3 a4 a5 N _ h) [k0] n [0] rfl hnd hlt (show 1 ≤ 1 from by decide) (show ∀ j ∈ ([0] : List Nat), j < 1 from by decide) (by rfl) ⟨(Zah _ _ _), trivial⟩ (by rfl) ⟨(Zah _ _ _), trivial⟩ ⟨.inl (by decide), trivial⟩ rfl rfl rfl (ZaK (Zbz rfl (Zbg _ _ _)) rfl) (ZaK (Zbz rfl (Zf1 (Zbg _ _ _))) rfl))

noncomputable def Ze6 (L0 : List R_ii) (n1 n2 : Nat) (a3 a4 a5 : Int) : ZP → Value
 | .r0 w0 => vtt
noncomputable def Zep (L0 : List R_ii) (n1 n2 : Nat) (a3 a4 a5 : Int) : ZP → List (Option AObj)
 | .r0 w0 => [some (.cells (Zd E_ii w0) 43)]

def ZhG : slices_rotateCmpFunc_api_PairX → Nat
 | .h1m0 => 1
 | .h1m1 v0 v3 v4 => 1
noncomputable def ZhZ (L0 : List R_ii) (n1 n2 : Nat) (a3 a4 a5 : Int) : slices_rotateCmpFunc_api_PairX → List (Nat × Value)
 | .h1m0 => [(0, vs 0 0 L0.length L0.length), (2, vi a4), (4, Value.func (.func 11) #[] #[]), (10, vi (a4 - a3)), (11, vi (a5 - a4))]
 | .h1m1 v0 v3 v4 => [(0, vs 0 0 L0.length L0.length), (2, vi a4), (4, Value.func (.func 11) #[] #[]), (10, vi v3), (11, vi v4)]
noncomputable def Zia (L0 : List R_ii) (n1 n2 : Nat) (a3 a4 a5 : Int) : slices_rotateCmpFunc_api_PairX → List (Option AObj)
 | .h1m0 => [some (.cells (Zd E_ii L0) 43)]
 | .h1m1 v0 v3 v4 => [some (.cells (Zd E_ii v0) 43)]

noncomputable def ZaX : Nat → Code × List ZaO
 | 1 => ZaV [1, 1, 0, 3] (Zbr Tryz.f60) []
 | _ => (.skip, [])
def Zeq : Nat → Bool
 | 1 => true
 | _ => true
noncomputable def Zc4 (i : Nat) : List ZaO := match Zeq i with | true => .rnd i :: (ZaX i).2 | false => (ZaX i).2

noncomputable def ZQ (L0 : List R_ii) (n1 n2 : Nat) (a3 a4 a5 : Int) (N : Nat) : Mach := ⟨Tryz.f60, [.cells (Zd E_ii L0) 43], slices_rotateCmpFunc_api_PairX, ZP, Zaj L0 n1 n2 a3 a4 a5 N, ZhG, ZaX, Zeq, ZhZ L0 n1 n2 a3 a4 a5, Zia L0 n1 n2 a3 a4 a5, Ze6 L0 n1 n2 a3 a4 a5, Zep L0 n1 n2 a3 a4 a5⟩

theorem Zgv (L0 : List R_ii) (n1 n2 : Nat) (a3 a4 a5 : Int) (N : Nat) : (ZQ L0 n1 n2 a3 a4 a5 N).Ok Tryz.prog Zw (.h1m0 : slices_rotateCmpFunc_api_PairX) (Zaj L0 n1 n2 a3 a4 a5 N (.h1m0 : slices_rotateCmpFunc_api_PairX)) := by
 show (ZQ L0 n1 n2 a3 a4 a5 N).Ok Tryz.prog Zw (.h1m0 : slices_rotateCmpFunc_api_PairX) (Zbu L0 n1 n2 a3 a4 a5 N)
 unfold Zbu
 refine Mach.ok_ite (fun g0 => ?_) (fun _ => Mach.ok_none)
 refine Mach.ok_ite (fun g1 => ?_) (fun _ => Mach.ok_none)
 refine Mach.ok_ite (fun g2 => ?_) (fun _ => Mach.ok_none)
 refine Mach.ok_ite (fun g3 => ?_) (fun _ => Mach.ok_none)
 refine Mach.ok_ite (fun g4 => ?_) (fun _ => Mach.ok_none)
 refine Mach.ok_ite (fun g5 => ?_) (fun _ => Mach.ok_none)
 refine Mach.ok_ite (fun g6 => ?_) (fun _ => Mach.ok_none)
 refine Mach.ok_ite (fun g7 => ?_) (fun _ => Mach.ok_none)
 refine Mach.ok_ite (fun g8 => ?_) (fun _ => Mach.ok_none)
 refine Mach.ok_ite (fun g9 => ?_) (fun g9 => ?_)
 ·
  refine Mach.ok_ite (fun g10 => ?_) (fun g10 => ?_)
  ·
   refine Mach.ok_bind (fun z11 c11 => ?_)
   cases z11 with
   | r0 y11_0 =>
    exact Mach.ok_next (M := ZQ L0 n1 n2 a3 a4 a5 N) (cd := 1000000) (cm := 0) (y := (.h1m1 (y11_0) (((a4 - a3) - (a5 - a4))) ((a5 - a4)) : slices_rotateCmpFunc_api_PairX)) (fu := 4000) (orc := (Zr [(0, true), (1, true)] [(0, (a4 - (a4 - a3))), (1, ((a4 - a3) - (a5 - a4)))] [] [] [(0, (Zba (L0) (L0.length) (L0.length) ((a4 - (a4 - a3))) (a4) ((a5 - a4))  y11_0 0 1))])) (live := [0]) (tv := fun _ => [some (vs 0 0 L0.length L0.length), some (vi a4), some (Value.func (.func 11) #[] #[]), some (vi ((a4 - a3) - (a5 - a4))), some (vi (a5 - a4))]) (bl := [some (.cells (Zd E_ii y11_0) 43)]) (ob := [((IntKind.i64.wrap ((a4 - a3) - (a5 - a4))) == ((a4 - a3) - (a5 - a4)), true), (dP (ZaE #[vs 0 0 L0.length L0.length, vi (a4 - (a4 - a3)), vi a4, vi (a5 - a4), Value.func (.func 11) #[] #[]] (L0) (L0.length) (L0.length) ((a4 - (a4 - a3))) (a4) ((a5 - a4))  y11_0 0 1), true), (dS (Zd E_ii L0), true), ((IntKind.i64.wrap (a4 - (a4 - a3))) == (a4 - (a4 - a3)), true), ((decide ((a4 - a3) > (a5 - a4))), true), (((a4 - a3) != (a5 - a4)), true)]) rfl (show 1 ∈ Zq (Zc4 1) from by decide +kernel) (fun gv => by kernel_rfl) (Zc (beq_iff_eq.2 ((wrap_i64 ltA).trans (by first | rfl | omega))) <| Zc (Zl (Zbb #[vs 0 0 L0.length L0.length, vi (a4 - (a4 - a3)), vi a4, vi (a5 - a4), Value.func (.func 11) #[] #[]] (L0) (L0.length) (L0.length) ((a4 - (a4 - a3))) (a4) ((a5 - a4))  y11_0 N c11 0 1 rfl (by decide) (by decide))) <| oR <| Zc (beq_iff_eq.2 ((wrap_i64 ltA).trans (by first | rfl | omega))) <| oY <| oD Zi) rfl (by decide) (by rfl) (fun _ => ⟨rr, ⟨rr, ⟨rr, ⟨rr, ⟨rr, trivial⟩⟩⟩⟩⟩) ⟨(Zj (E := E_ii) (α := R_ii) _ y11_0 _), trivial⟩
  ·
   refine Mach.ok_bind (fun z11 c11 => ?_)
   cases z11 with
   | r0 y11_0 =>
    exact Mach.ok_next (M := ZQ L0 n1 n2 a3 a4 a5 N) (cd := 1000000) (cm := 0) (y := (.h1m1 (y11_0) ((a4 - a3)) (((a5 - a4) - (a4 - a3))) : slices_rotateCmpFunc_api_PairX)) (fu := 4000) (orc := (Zr [(0, true), (1, false)] [(0, (a4 - (a4 - a3))), (1, (a4 + (a5 - a4))), (2, ((a4 + (a5 - a4)) - (a4 - a3))), (3, ((a5 - a4) - (a4 - a3)))] [] [] [(0, (Zba (L0) (L0.length) (L0.length) ((a4 - (a4 - a3))) (((a4 + (a5 - a4)) - (a4 - a3))) ((a4 - a3))  y11_0 0 1))])) (live := [0]) (tv := fun _ => [some (vs 0 0 L0.length L0.length), some (vi a4), some (Value.func (.func 11) #[] #[]), some (vi (a4 - a3)), some (vi ((a5 - a4) - (a4 - a3)))]) (bl := [some (.cells (Zd E_ii y11_0) 43)]) (ob := [((IntKind.i64.wrap ((a5 - a4) - (a4 - a3))) == ((a5 - a4) - (a4 - a3)), true), (dP (ZaE #[vs 0 0 L0.length L0.length, vi (a4 - (a4 - a3)), vi ((a4 + (a5 - a4)) - (a4 - a3)), vi (a4 - a3), Value.func (.func 11) #[] #[]] (L0) (L0.length) (L0.length) ((a4 - (a4 - a3))) (((a4 + (a5 - a4)) - (a4 - a3))) ((a4 - a3))  y11_0 0 1), true), (dS (Zd E_ii L0), true), ((IntKind.i64.wrap ((a4 + (a5 - a4)) - (a4 - a3))) == ((a4 + (a5 - a4)) - (a4 - a3)), true), ((IntKind.i64.wrap (a4 + (a5 - a4))) == (a4 + (a5 - a4)), true), ((IntKind.i64.wrap (a4 - (a4 - a3))) == (a4 - (a4 - a3)), true), ((decide ((a4 - a3) > (a5 - a4))), false), (((a4 - a3) != (a5 - a4)), true)]) rfl (show 1 ∈ Zq (Zc4 1) from by decide +kernel) (fun gv => by kernel_rfl) (Zc (beq_iff_eq.2 ((wrap_i64 ltA).trans (by first | rfl | omega))) <| Zc (Zl (Zbb #[vs 0 0 L0.length L0.length, vi (a4 - (a4 - a3)), vi ((a4 + (a5 - a4)) - (a4 - a3)), vi (a4 - a3), Value.func (.func 11) #[] #[]] (L0) (L0.length) (L0.length) ((a4 - (a4 - a3))) (((a4 + (a5 - a4)) - (a4 - a3))) ((a4 - a3))  y11_0 N c11 0 1 rfl (by decide) (by decide))) <| oR <| Zc (beq_iff_eq.2 ((wrap_i64 ltA).trans (by first | rfl | omega))) <| Zc (beq_iff_eq.2 ((wrap_i64 ltA).trans (by first | rfl | omega))) <| Zc (beq_iff_eq.2 ((wrap_i64 ltA).trans (by first | rfl | omega))) <| oN <| oD Zi) rfl (by decide) (by rfl) (fun _ => ⟨rr, ⟨rr, ⟨rr, ⟨rr, ⟨rr, trivial⟩⟩⟩⟩⟩) ⟨(Zj (E := E_ii) (α := R_ii) _ y11_0 _), trivial⟩
 ·
  refine Mach.ok_bind (fun z10 c10 => ?_)
  cases z10 with
  | r0 y10_0 =>
   exact Mach.ok_fin (M := ZQ L0 n1 n2 a3 a4 a5 N) (cd := 1000000) (cm := 0) (r := (.r0 (y10_0) : ZP)) (fu := 4000) (orc := (Zr [(0, false)] [(0, (a4 - (a4 - a3)))] [] [] [(0, (Zba (L0) (L0.length) (L0.length) ((a4 - (a4 - a3))) (a4) ((a4 - a3))  y10_0 0 1))])) (live := [0]) (u := vtt) (bl := [some (.cells (Zd E_ii y10_0) 43)]) (ob := [(dP (ZaE #[vs 0 0 L0.length L0.length, vi (a4 - (a4 - a3)), vi a4, vi (a4 - a3), Value.func (.func 11) #[] #[]] (L0) (L0.length) (L0.length) ((a4 - (a4 - a3))) (a4) ((a4 - a3))  y10_0 0 1), true), (dS (Zd E_ii L0), true), ((IntKind.i64.wrap (a4 - (a4 - a3))) == (a4 - (a4 - a3)), true), (((a4 - a3) != (a5 - a4)), false)]) (fun gv => by kernel_rfl) (Zc (Zl (Zbb #[vs 0 0 L0.length L0.length, vi (a4 - (a4 - a3)), vi a4, vi (a4 - a3), Value.func (.func 11) #[] #[]] (L0) (L0.length) (L0.length) ((a4 - (a4 - a3))) (a4) ((a4 - a3))  y10_0 N c10 0 1 rfl (by decide) (by decide))) <| oR <| Zc (beq_iff_eq.2 ((wrap_i64 ltA).trans (by first | rfl | omega))) <| oE Zi) rfl (by decide) (by rfl) rr ⟨(Zj (E := E_ii) (α := R_ii) _ y10_0 _), trivial⟩

theorem Zgw (L0 : List R_ii) (n1 n2 : Nat) (a3 a4 a5 : Int) (v0 : List R_ii) (v3 v4 : Int) (N : Nat) : (ZQ L0 n1 n2 a3 a4 a5 N).Ok Tryz.prog Zw (.h1m1 v0 v3 v4 : slices_rotateCmpFunc_api_PairX) (Zaj L0 n1 n2 a3 a4 a5 N (.h1m1 v0 v3 v4 : slices_rotateCmpFunc_api_PairX)) := by
 show (ZQ L0 n1 n2 a3 a4 a5 N).Ok Tryz.prog Zw (.h1m1 v0 v3 v4 : slices_rotateCmpFunc_api_PairX) (Zac L0 n1 n2 a3 a4 a5 N v0 v3 v4)
 unfold Zac
 refine Mach.ok_ite (fun g0 => ?_) (fun _ => Mach.ok_none)
 refine Mach.ok_ite (fun g1 => ?_) (fun _ => Mach.ok_none)
 refine Mach.ok_ite (fun g2 => ?_) (fun _ => Mach.ok_none)
 refine Mach.ok_ite (fun g3 => ?_) (fun _ => Mach.ok_none)
 refine Mach.ok_ite (fun g4 => ?_) (fun _ => Mach.ok_none)
 refine Mach.ok_ite (fun g5 => ?_) (fun _ => Mach.ok_none)
 refine Mach.ok_ite (fun g6 => ?_) (fun _ => Mach.ok_none)
 refine Mach.ok_ite (fun g7 => ?_) (fun _ => Mach.ok_none)
 refine Mach.ok_ite (fun g8 => ?_) (fun _ => Mach.ok_none)
 refine Mach.ok_ite (fun g9 => ?_) (fun _ => Mach.ok_none)
 refine Mach.ok_ite (fun g10 => ?_) (fun _ => Mach.ok_none)
 refine Mach.ok_ite (fun g11 => ?_) (fun _ => Mach.ok_none)
 refine Mach.ok_ite (fun g12 => ?_) (fun _ => Mach.ok_none)
 refine Mach.ok_ite (fun g13 => ?_) (fun _ => Mach.ok_none)
 refine Mach.ok_ite (fun g14 => ?_) (fun g14 => ?_)
 ·
  refine Mach.ok_ite (fun g15 => ?_) (fun g15 => ?_)
  ·
   refine Mach.ok_bind (fun z16 c16 => ?_)
   cases z16 with
   | r0 y16_0 =>
    exact Mach.ok_next (M := ZQ L0 n1 n2 a3 a4 a5 N) (cd := 1000000) (cm := 0) (y := (.h1m1 (y16_0) ((v3 - v4)) (v4) : slices_rotateCmpFunc_api_PairX)) (fu := 4000) (orc := (Zr [(0, true), (1, true)] [(0, (a4 - v3)), (1, (v3 - v4))] [] [] [(0, (Zba (v0) (L0.length) (L0.length) ((a4 - v3)) (a4) (v4)  y16_0 0 1))])) (live := [0]) (tv := fun _ => [some (vs 0 0 L0.length L0.length), some (vi a4), some (Value.func (.func 11) #[] #[]), some (vi (v3 - v4)), some (vi v4)]) (bl := [some (.cells (Zd E_ii y16_0) 43)]) (ob := [((IntKind.i64.wrap (v3 - v4)) == (v3 - v4), true), (dP (ZaE #[vs 0 0 L0.length L0.length, vi (a4 - v3), vi a4, vi v4, Value.func (.func 11) #[] #[]] (v0) (L0.length) (L0.length) ((a4 - v3)) (a4) (v4)  y16_0 0 1), true), (dS (Zd E_ii v0), true), ((IntKind.i64.wrap (a4 - v3)) == (a4 - v3), true), ((decide (v3 > v4)), true), ((v3 != v4), true)]) rfl (show 1 ∈ Zq (Zc4 1) from by decide +kernel) (fun gv => by kernel_rfl) (Zc (beq_iff_eq.2 ((wrap_i64 ltA).trans (by first | rfl | omega))) <| Zc (Zl (Zbb #[vs 0 0 L0.length L0.length, vi (a4 - v3), vi a4, vi v4, Value.func (.func 11) #[] #[]] (v0) (L0.length) (L0.length) ((a4 - v3)) (a4) (v4)  y16_0 N c16 0 1 rfl (by decide) (by decide))) <| oR <| Zc (beq_iff_eq.2 ((wrap_i64 ltA).trans (by first | rfl | omega))) <| oY <| oD Zi) rfl (by decide) (by rfl) (fun _ => ⟨rr, ⟨rr, ⟨rr, ⟨rr, ⟨rr, trivial⟩⟩⟩⟩⟩) ⟨(Zj (E := E_ii) (α := R_ii) _ y16_0 _), trivial⟩
  ·
   refine Mach.ok_bind (fun z16 c16 => ?_)
   cases z16 with
   | r0 y16_0 =>
    exact Mach.ok_next (M := ZQ L0 n1 n2 a3 a4 a5 N) (cd := 1000000) (cm := 0) (y := (.h1m1 (y16_0) (v3) ((v4 - v3)) : slices_rotateCmpFunc_api_PairX)) (fu := 4000) (orc := (Zr [(0, true), (1, false)] [(0, (a4 - v3)), (1, (a4 + v4)), (2, ((a4 + v4) - v3)), (3, (v4 - v3))] [] [] [(0, (Zba (v0) (L0.length) (L0.length) ((a4 - v3)) (((a4 + v4) - v3)) (v3)  y16_0 0 1))])) (live := [0]) (tv := fun _ => [some (vs 0 0 L0.length L0.length), some (vi a4), some (Value.func (.func 11) #[] #[]), some (vi v3), some (vi (v4 - v3))]) (bl := [some (.cells (Zd E_ii y16_0) 43)]) (ob := [((IntKind.i64.wrap (v4 - v3)) == (v4 - v3), true), (dP (ZaE #[vs 0 0 L0.length L0.length, vi (a4 - v3), vi ((a4 + v4) - v3), vi v3, Value.func (.func 11) #[] #[]] (v0) (L0.length) (L0.length) ((a4 - v3)) (((a4 + v4) - v3)) (v3)  y16_0 0 1), true), (dS (Zd E_ii v0), true), ((IntKind.i64.wrap ((a4 + v4) - v3)) == ((a4 + v4) - v3), true), ((IntKind.i64.wrap (a4 + v4)) == (a4 + v4), true), ((IntKind.i64.wrap (a4 - v3)) == (a4 - v3), true), ((decide (v3 > v4)), false), ((v3 != v4), true)]) rfl (show 1 ∈ Zq (Zc4 1) from by decide +kernel) (fun gv => by kernel_rfl) (Zc (beq_iff_eq.2 ((wrap_i64 ltA).trans (by first | rfl | omega))) <| Zc (Zl (Zbb #[vs 0 0 L0.length L0.length, vi (a4 - v3), vi ((a4 + v4) - v3), vi v3, Value.func (.func 11) #[] #[]] (v0) (L0.length) (L0.length) ((a4 - v3)) (((a4 + v4) - v3)) (v3)  y16_0 N c16 0 1 rfl (by decide) (by decide))) <| oR <| Zc (beq_iff_eq.2 ((wrap_i64 ltA).trans (by first | rfl | omega))) <| Zc (beq_iff_eq.2 ((wrap_i64 ltA).trans (by first | rfl | omega))) <| Zc (beq_iff_eq.2 ((wrap_i64 ltA).trans (by first | rfl | omega))) <| oN <| oD Zi) rfl (by decide) (by rfl) (fun _ => ⟨rr, ⟨rr, ⟨rr, ⟨rr, ⟨rr, trivial⟩⟩⟩⟩⟩) ⟨(Zj (E := E_ii) (α := R_ii) _ y16_0 _), trivial⟩
 ·
  refine Mach.ok_bind (fun z15 c15 => ?_)
  cases z15 with
  | r0 y15_0 =>
   exact Mach.ok_fin (M := ZQ L0 n1 n2 a3 a4 a5 N) (cd := 1000000) (cm := 0) (r := (.r0 (y15_0) : ZP)) (fu := 4000) (orc := (Zr [(0, false)] [(0, (a4 - v3))] [] [] [(0, (Zba (v0) (L0.length) (L0.length) ((a4 - v3)) (a4) (v3)  y15_0 0 1))])) (live := [0]) (u := vtt) (bl := [some (.cells (Zd E_ii y15_0) 43)]) (ob := [(dP (ZaE #[vs 0 0 L0.length L0.length, vi (a4 - v3), vi a4, vi v3, Value.func (.func 11) #[] #[]] (v0) (L0.length) (L0.length) ((a4 - v3)) (a4) (v3)  y15_0 0 1), true), (dS (Zd E_ii v0), true), ((IntKind.i64.wrap (a4 - v3)) == (a4 - v3), true), ((v3 != v4), false)]) (fun gv => by kernel_rfl) (Zc (Zl (Zbb #[vs 0 0 L0.length L0.length, vi (a4 - v3), vi a4, vi v3, Value.func (.func 11) #[] #[]] (v0) (L0.length) (L0.length) ((a4 - v3)) (a4) (v3)  y15_0 N c15 0 1 rfl (by decide) (by decide))) <| oR <| Zc (beq_iff_eq.2 ((wrap_i64 ltA).trans (by first | rfl | omega))) <| oE Zi) rfl (by decide) (by rfl) rr ⟨(Zj (E := E_ii) (α := R_ii) _ y15_0 _), trivial⟩

theorem Zh1 (L0 : List R_ii) (n1 n2 : Nat) (a3 a4 a5 : Int) (N : Nat) : (ZQ L0 n1 n2 a3 a4 a5 N).Enter Tryz.prog Zw #[vs 0 0 n1 n2, vi a3, vi a4, vi a5, Value.func (.func 11) #[] #[]] (Zco L0 n1 n2 a3 a4 a5 N) := by
 unfold Zco
 refine Mach.en_ite (fun g0 => ?_) (fun _ => Mach.en_none)
 refine Mach.en_ite (fun g1 => ?_) (fun _ => Mach.en_none)
 refine Mach.en_ite (fun g2 => ?_) (fun _ => Mach.en_none)
 refine Mach.en_ite (fun g3 => ?_) (fun _ => Mach.en_none)
 refine Mach.en_ite (fun g4 => ?_) (fun _ => Mach.en_none)
 refine Mach.en_ite (fun g5 => ?_) (fun _ => Mach.en_none)
 refine Mach.en_ite (fun g6 => ?_) (fun _ => Mach.en_none)
 refine Mach.en_ite (fun g7 => ?_) (fun _ => Mach.en_none)
 refine Mach.en_ite (fun g8 => ?_) (fun _ => Mach.en_none)
 exact Mach.en_head (bK := ZaX 1) (M := ZQ L0 n1 n2 a3 a4 a5 N) (cd := 1000000) (cm := 0) (y := (.h1m0 : slices_rotateCmpFunc_api_PairX)) (fu := 4000) (orc := (Zr [] [(0, (a4 - a3)), (1, (a5 - a4))] [] [] [])) (live := [0]) (tv := [some (vs 0 0 n1 n2), some (vi a4), some (Value.func (.func 11) #[] #[]), some (vi (a4 - a3)), some (vi (a5 - a4))]) (bl := [some (.cells (Zd E_ii L0) 43)]) (ob := [((IntKind.i64.wrap (a5 - a4)) == (a5 - a4), true), ((IntKind.i64.wrap (a4 - a3)) == (a4 - a3), true)]) rfl rfl (show Zq (ZaX 1).2 = [] from rfl) (by kernel_rfl) (Zc (beq_iff_eq.2 ((wrap_i64 ltA).trans (by first | rfl | omega))) <| Zc (beq_iff_eq.2 ((wrap_i64 ltA).trans (by first | rfl | omega))) Zi) rfl (by decide) (by rfl) ⟨⟨Eq.trans (show (vs 0 0 L0.length L0.length : Value) = vs 0 0 n1 n2 from (ZbN rfl eqA eqA)) (by rfl), by rfl⟩, ⟨rr, ⟨rr, ⟨rr, ⟨rr, trivial⟩⟩⟩⟩⟩ ⟨(Zj (E := E_ii) (α := R_ii) _ L0 _), trivial⟩

theorem ZgR (L0 : List R_ii) (n1 n2 : Nat) (a3 a4 a5 : Int) (N : Nat) (r : ZP) (h : ZbQ L0 n1 n2 a3 a4 a5 N = some r) : LSpec Tryz.prog 60 #[vs 0 0 n1 n2, vi a3, vi a4, vi a5, Value.func (.func 11) #[] #[]] [.cells (Zd E_ii L0) 43] (Ze6 L0 n1 n2 a3 a4 a5 r) (Zep L0 n1 n2 a3 a4 a5 r) :=
 Mach.spec ZcD (ZQ L0 n1 n2 a3 a4 a5 N) Tryz.func60 (by kernel_rfl) (by kernel_rfl) (fun x => by cases x <;> exact ZaI _ rfl) (fun r => by cases r <;> exact ZaI _ rfl) (fun x => by
  cases x with
  | h1m0 => exact fun _ => (show ¬ (1 ∈ Zq (ZaX 1).2) from by decide +kernel)
  | h1m1 _ _ _ => exact fun _ => (show ¬ (1 ∈ Zq (ZaX 1).2) from by decide +kernel)
  ) (fun x => (show (ZQ L0 n1 n2 a3 a4 a5 N).Ok Tryz.prog Zw x (Zaj L0 n1 n2 a3 a4 a5 N x) from by
  cases x with
  | h1m0 => exact Zgv L0 n1 n2 a3 a4 a5 N
  | h1m1 v0 v3 v4 => exact Zgw L0 n1 n2 a3 a4 a5 v0 v3 v4 N
  )) (Zh1 L0 n1 n2 a3 a4 a5 N) (n := N) h

noncomputable def Zcp (L0 : List R_ii) (n1 n2 : Nat) (a3 a4 a5 : Int) (w0 : List R_ii) (k0 n : Nat) : ZcQ := .call [(k0, .cells (Zd E_ii L0) 43)] (vtt) [(k0, some (.cells (Zd E_ii w0) 43))] 0
def ZbE (A : Array Value) (L0 : List R_ii) (n1 n2 : Nat) (a3 a4 a5 : Int) (w0 : List R_ii) (k0 n : Nat) : Prop := ZaB Tryz.prog 60 A [(k0, .cells (Zd E_ii L0) 43)] (vtt) [(k0, some (.cells (Zd E_ii w0) 43))] n 0

theorem Zcq (A : Array Value) (L0 : List R_ii) (n1 n2 : Nat) (a3 a4 a5 : Int) (w0 : List R_ii) (N : Nat) (h : ZbQ L0 n1 n2 a3 a4 a5 N = some (.r0 w0)) (k0 n : Nat) (hA : A = #[vs k0 0 n1 n2, vi a3, vi a4, vi a5, Value.func (.func 11) #[] #[]]) (hnd : ([k0] : List Nat).Nodup) (hlt : ∀ k ∈ ([k0] : List Nat), k < n) : ZbE A L0 n1 n2 a3 a4 a5 w0 k0 n :=
 ZbB hA (LSpec.callL (show LSpec Tryz.prog 60 #[vs 0 0 n1 n2, vi a3, vi a4, vi a5, Value.func (.func 11) #[] #[]] [.cells (Zd E_ii L0) 43] (vtt) [some (.cells (Zd E_ii w0) 43)] from ZgR L0 n1 n2 a3 a4 a5 N _ h) [k0] n [0] rfl hnd hlt (show 1 ≤ 1 from by decide) (show ∀ j ∈ ([0] : List Nat), j < 1 from by decide) (by rfl) ⟨(Zah _ _ _), trivial⟩ (by rfl) ⟨(Zah _ _ _), trivial⟩ ⟨.inl (by decide), trivial⟩ rfl rfl rfl (ZaK (Zbz rfl (Zbg _ _ _)) rfl) (ZaK (Zbz rfl (Zf1 (Zbg _ _ _))) rfl))

noncomputable def Zax (L0 : List R_ii) (n1 n2 : Nat) (a3 a4 a5 : Int) : Zf → Value
 | .r0 w0 => vtt
noncomputable def Zau (L0 : List R_ii) (n1 n2 : Nat) (a3 a4 a5 : Int) : Zf → List (Option AObj)
 | .r0 w0 => [some (.cells (Zd E_ii w0) 43)]

def Zhc : Zg → Nat
 | .h1m0 v2 v3 => 1
 | .h2m0 v2 v3 => 2
 | .h3m0 v6 v7 => 3
 | .h4m0 v0 v1 v2 => 4
 | .h5m0 v0 v1 v2 => 5
noncomputable def Zh2 (L0 : List R_ii) (n1 n2 : Nat) (a3 a4 a5 : Int) : Zg → List (Nat × Value)
 | .h1m0 v2 v3 => [(0, vs 0 0 L0.length L0.length), (1, vi a3), (4, Value.func (.func 11) #[] #[]), (10, vi v2), (11, vi v3)]
 | .h2m0 v2 v3 => [(0, vs 0 0 L0.length L0.length), (2, vi a4), (4, Value.func (.func 11) #[] #[]), (14, vi v2), (15, vi v3)]
 | .h3m0 v6 v7 => [(0, vs 0 0 L0.length L0.length), (1, vi a3), (2, vi a4), (3, vi a5), (4, Value.func (.func 11) #[] #[]), (18, vi ((a3 + a5) / (2 : Int))), (19, vi (((a3 + a5) / (2 : Int)) + a4)), (20, vi v6), (21, vi v7), (22, vi ((((a3 + a5) / (2 : Int)) + a4) - (1 : Int)))]
 | .h4m0 v0 v1 v2 => [(0, vs 0 0 v0.length v0.length), (10, vi v1), (13, vi v2)]
 | .h5m0 v0 v1 v2 => [(0, vs 0 0 v0.length v0.length), (14, vi v1), (17, vi v2)]
noncomputable def Zh3 (L0 : List R_ii) (n1 n2 : Nat) (a3 a4 a5 : Int) : Zg → List (Option AObj)
 | .h1m0 v2 v3 => [some (.cells (Zd E_ii L0) 43)]
 | .h2m0 v2 v3 => [some (.cells (Zd E_ii L0) 43)]
 | .h3m0 v6 v7 => [some (.cells (Zd E_ii L0) 43)]
 | .h4m0 v0 v1 v2 => [some (.cells (Zd E_ii v0) 43)]
 | .h5m0 v0 v1 v2 => [some (.cells (Zd E_ii v0) 43)]

noncomputable def Z1 : Nat → Code × List ZaO
 | 1 => ZaV [0, 1, 4, 1, 1, 0, 3] (Zbr Tryz.f39) []
 | 2 => ZaV [1, 0, 1, 4, 1, 1, 0, 3] (Zbr Tryz.f39) []
 | 3 => ZaV [1, 1, 1, 1, 1, 1, 1, 0, 3] (Zbr Tryz.f39) []
 | 4 => ZaV [0, 1, 4, 1, 1, 1, 0, 1, 3] (Zbr Tryz.f39) []
 | 5 => ZaV [1, 0, 1, 4, 1, 1, 1, 0, 1, 3] (Zbr Tryz.f39) []
 | _ => (.skip, [])
def ZdX : Nat → Bool
 | 1 => true
 | 2 => true
 | 3 => true
 | 4 => true
 | 5 => true
 | _ => true
noncomputable def ZR (i : Nat) : List ZaO := match ZdX i with | true => .rnd i :: (Z1 i).2 | false => (Z1 i).2

noncomputable def Zak (L0 : List R_ii) (n1 n2 : Nat) (a3 a4 a5 : Int) (w0 : List R_ii) (k0 n : Nat) : ZcQ := .call [(k0, .cells (Zd E_ii L0) 43)] (vtt) [(k0, some (.cells (Zd E_ii w0) 43))] 0
def ZY (A : Array Value) (L0 : List R_ii) (n1 n2 : Nat) (a3 a4 a5 : Int) (w0 : List R_ii) (k0 n : Nat) : Prop := ZaB Tryz.prog 39 A [(k0, .cells (Zd E_ii L0) 43)] (vtt) [(k0, some (.cells (Zd E_ii w0) 43))] n 0

theorem ZaF (A : Array Value) (L0 : List R_ii) (n1 n2 : Nat) (a3 a4 a5 : Int) (w0 : List R_ii) (hL : LSpec Tryz.prog 39 #[vs 0 0 n1 n2, vi a3, vi a4, vi a5, Value.func (.func 11) #[] #[]] [.cells (Zd E_ii L0) 43] (vtt) [some (.cells (Zd E_ii w0) 43)]) (k0 n : Nat) (hA : A = #[vs k0 0 n1 n2, vi a3, vi a4, vi a5, Value.func (.func 11) #[] #[]]) (hnd : ([k0] : List Nat).Nodup) (hlt : ∀ k ∈ ([k0] : List Nat), k < n) : ZY A L0 n1 n2 a3 a4 a5 w0 k0 n :=
 ZbB hA (LSpec.callL (show LSpec Tryz.prog 39 #[vs 0 0 n1 n2, vi a3, vi a4, vi a5, Value.func (.func 11) #[] #[]] [.cells (Zd E_ii L0) 43] (vtt) [some (.cells (Zd E_ii w0) 43)] from hL) [k0] n [0] rfl hnd hlt (show 1 ≤ 1 from by decide) (show ∀ j ∈ ([0] : List Nat), j < 1 from by decide) (by rfl) ⟨(Zah _ _ _), trivial⟩ (by rfl) ⟨(Zah _ _ _), trivial⟩ ⟨.inl (by decide), trivial⟩ rfl rfl rfl (ZaK (Zbz rfl (Zbg _ _ _)) rfl) (ZaK (Zbz rfl (Zf1 (Zbg _ _ _))) rfl))

noncomputable def Zk (rec : List R_ii → Nat → Nat → Int → Int → Int → Option Zf) (L0 : List R_ii) (n1 n2 : Nat) (a3 a4 a5 : Int) (N : Nat) : Mach := ⟨Tryz.f39, [.cells (Zd E_ii L0) 43], Zg, Zf, ZF rec L0 n1 n2 a3 a4 a5 N, Zhc, Z1, ZdX, Zh2 L0 n1 n2 a3 a4 a5, Zh3 L0 n1 n2 a3 a4 a5, Zax L0 n1 n2 a3 a4 a5, Zau L0 n1 n2 a3 a4 a5⟩

theorem ZfK (rec : List R_ii → Nat → Nat → Int → Int → Int → Option Zf) (hrec : ∀ (L0 : List R_ii) (n1 n2 : Nat) (a3 a4 a5 : Int) (r : Zf), rec L0 n1 n2 a3 a4 a5 = some r → LSpec Tryz.prog 39 #[vs 0 0 n1 n2, vi a3, vi a4, vi a5, Value.func (.func 11) #[] #[]] [.cells (Zd E_ii L0) 43] (Zax L0 n1 n2 a3 a4 a5 r) (Zau L0 n1 n2 a3 a4 a5 r)) (L0 : List R_ii) (n1 n2 : Nat) (a3 a4 a5 v2 v3 : Int) (N : Nat) : (Zk rec L0 n1 n2 a3 a4 a5 N).Ok Tryz.prog Zw (.h1m0 v2 v3 : Zg) (ZF rec L0 n1 n2 a3 a4 a5 N (.h1m0 v2 v3 : Zg)) := by
 show (Zk rec L0 n1 n2 a3 a4 a5 N).Ok Tryz.prog Zw (.h1m0 v2 v3 : Zg) (ZV rec L0 n1 n2 a3 a4 a5 N v2 v3)
 unfold ZV
 refine Mach.ok_ite (fun g0 => ?_) (fun _ => Mach.ok_none)
 refine Mach.ok_ite (fun g1 => ?_) (fun _ => Mach.ok_none)
 refine Mach.ok_ite (fun g2 => ?_) (fun _ => Mach.ok_none)
 refine Mach.ok_ite (fun g3 => ?_) (fun _ => Mach.ok_none)
 refine Mach.ok_ite (fun g4 => ?_) (fun _ => Mach.ok_none)
 refine Mach.ok_ite (fun g5 => ?_) (fun _ => Mach.ok_none)
 refine Mach.ok_ite (fun g6 => ?_) (fun _ => Mach.ok_none)
 refine Mach.ok_ite (fun g7 => ?_) (fun _ => Mach.ok_none)
 refine Mach.ok_ite (fun g8 => ?_) (fun _ => Mach.ok_none)
 refine Mach.ok_ite (fun g9 => ?_) (fun _ => Mach.ok_none)
 refine Mach.ok_ite (fun g10 => ?_) (fun _ => Mach.ok_none)
 refine Mach.ok_ite (fun g11 => ?_) (fun _ => Mach.ok_none)
 refine Mach.ok_ite (fun g12 => ?_) (fun _ => Mach.ok_none)
 refine Mach.ok_ite (fun g13 => ?_) (fun g13 => ?_)
 ·
  refine Mach.ok_ite (fun g14 => ?_) (fun _ => Mach.ok_none)
  refine Mach.ok_ite (fun g15 => ?_) (fun _ => Mach.ok_none)
  refine Mach.ok_ite (fun g16 => ?_) (fun g16 => ?_)
  ·
   exact Mach.ok_next (M := Zk rec L0 n1 n2 a3 a4 a5 N) (cd := 1000000) (cm := 0) (y := (.h1m0 ((((v2 + v3) / (2 : Int)) + (1 : Int))) (v3) : Zg)) (fu := 4000) (orc := (Zr [(0, true), (1, false), (2, false), (3, true)] [(0, (v2 + v3)), (1, (v2 + v3)), (2, ((v2 + v3) / (2 : Int))), (3, ((v2 + v3) / (2 : Int))), (4, (((v2 + v3) / (2 : Int)) + (1 : Int)))] [(0, (((v2 + v3) / (2 : Int))).toNat), (1, (a3).toNat)] [(0, [.i (L0.getD (((v2 + v3) / (2 : Int))).toNat R_ii.z).a0, .i (L0.getD (((v2 + v3) / (2 : Int))).toNat R_ii.z).a1]), (1, [.i (L0.getD (a3).toNat R_ii.z).a0, .i (L0.getD (a3).toNat R_ii.z).a1])] [])) (live := [0]) (tv := fun _ => [some (vs 0 0 L0.length L0.length), some (vi a3), some (Value.func (.func 11) #[] #[]), some (vi (((v2 + v3) / (2 : Int)) + (1 : Int))), some (vi v3)]) (bl := [some (.cells (Zd E_ii L0) 43)]) (ob := [((IntKind.i64.wrap (((v2 + v3) / (2 : Int)) + (1 : Int))) == (((v2 + v3) / (2 : Int)) + (1 : Int)), true), ((decide ((L0.getD (((v2 + v3) / (2 : Int))).toNat R_ii.z).a0 < (L0.getD (a3).toNat R_ii.z).a0)), true), (((L0.getD (a3).toNat R_ii.z).a0 != (L0.getD (a3).toNat R_ii.z).a0), false), (((L0.getD (((v2 + v3) / (2 : Int))).toNat R_ii.z).a0 != (L0.getD (((v2 + v3) / (2 : Int))).toNat R_ii.z).a0), false), (ZS (Z3 2 (List.drop (0 + ((a3).toNat * 2)) (Zd E_ii L0))) [.i (L0.getD (a3).toNat R_ii.z).a0, .i (L0.getD (a3).toNat R_ii.z).a1], true), (Nat.blt (a3).toNat L0.length, true), (a3 == Int.ofNat (a3).toNat, true), (ZS (Z3 2 (List.drop (0 + ((((v2 + v3) / (2 : Int))).toNat * 2)) (Zd E_ii L0))) [.i (L0.getD (((v2 + v3) / (2 : Int))).toNat R_ii.z).a0, .i (L0.getD (((v2 + v3) / (2 : Int))).toNat R_ii.z).a1], true), (Nat.blt (((v2 + v3) / (2 : Int))).toNat L0.length, true), (((v2 + v3) / (2 : Int)) == Int.ofNat (((v2 + v3) / (2 : Int))).toNat, true), ((IntKind.i64.wrap ((v2 + v3) / (2 : Int))) == ((v2 + v3) / (2 : Int)), true), ((Int.fdiv (v2 + v3) (2 ^ 1 : Int)) == ((v2 + v3) / (2 : Int)), true), ((IntKind.u64.wrap (v2 + v3)) == (v2 + v3), true), ((IntKind.i64.wrap (v2 + v3)) == (v2 + v3), true), ((decide (v2 < v3)), true)]) rfl (show 1 ∈ Zq (ZR 1) from by decide +kernel) (fun gv => by kernel_rfl) (Zc (beq_iff_eq.2 ((wrap_i64 ltA).trans (by first | rfl | omega))) <| oY <| oE <| oE <| Zc (Zy (E := E_ii) (L := L0) (i := (a3).toNat) (q := 0) (by omega) (show (0 + ((a3).toNat * 2)) = (a3).toNat * 2 + 0 from by omega) (show 0 + 2 ≤ 2 from by decide) rfl rfl) <| oB <| oI <| Zc (Zy (E := E_ii) (L := L0) (i := (((v2 + v3) / (2 : Int))).toNat) (q := 0) (by omega) (show (0 + ((((v2 + v3) / (2 : Int))).toNat * 2)) = (((v2 + v3) / (2 : Int))).toNat * 2 + 0 from by omega) (show 0 + 2 ≤ 2 from by decide) rfl rfl) <| oB <| oI <| Zc (beq_iff_eq.2 (wrap_i64 ltA)) <| Zc (beq_iff_eq.2 (Int.fdiv_eq_ediv_of_nonneg _ (by decide))) <| Zc (beq_iff_eq.2 (Zef ltA)) <| Zc (beq_iff_eq.2 ((wrap_i64 ltA).trans (by first | rfl | omega))) <| oY Zi) rfl (by decide) (by rfl) (fun _ => ⟨rr, ⟨rr, ⟨rr, ⟨rr, ⟨rr, trivial⟩⟩⟩⟩⟩) ⟨(Zj (E := E_ii) (α := R_ii) _ L0 _), trivial⟩
  ·
   by_cases g17 : (L0.getD (a3).toNat R_ii.z).a0 < (L0.getD (((v2 + v3) / (2 : Int))).toNat R_ii.z).a0
   ·
    exact Mach.ok_next (M := Zk rec L0 n1 n2 a3 a4 a5 N) (cd := 1000000) (cm := 0) (y := (.h1m0 (v2) (((v2 + v3) / (2 : Int))) : Zg)) (fu := 4000) (orc := (Zr [(0, true), (1, false), (2, false), (3, false), (4, true)] [(0, (v2 + v3)), (1, (v2 + v3)), (2, ((v2 + v3) / (2 : Int))), (3, ((v2 + v3) / (2 : Int)))] [(0, (((v2 + v3) / (2 : Int))).toNat), (1, (a3).toNat)] [(0, [.i (L0.getD (((v2 + v3) / (2 : Int))).toNat R_ii.z).a0, .i (L0.getD (((v2 + v3) / (2 : Int))).toNat R_ii.z).a1]), (1, [.i (L0.getD (a3).toNat R_ii.z).a0, .i (L0.getD (a3).toNat R_ii.z).a1])] [])) (live := [0]) (tv := fun _ => [some (vs 0 0 L0.length L0.length), some (vi a3), some (Value.func (.func 11) #[] #[]), some (vi v2), some (vi ((v2 + v3) / (2 : Int)))]) (bl := [some (.cells (Zd E_ii L0) 43)]) (ob := [((decide ((L0.getD (((v2 + v3) / (2 : Int))).toNat R_ii.z).a0 > (L0.getD (a3).toNat R_ii.z).a0)), true), ((decide ((L0.getD (((v2 + v3) / (2 : Int))).toNat R_ii.z).a0 < (L0.getD (a3).toNat R_ii.z).a0)), false), (((L0.getD (a3).toNat R_ii.z).a0 != (L0.getD (a3).toNat R_ii.z).a0), false), (((L0.getD (((v2 + v3) / (2 : Int))).toNat R_ii.z).a0 != (L0.getD (((v2 + v3) / (2 : Int))).toNat R_ii.z).a0), false), (ZS (Z3 2 (List.drop (0 + ((a3).toNat * 2)) (Zd E_ii L0))) [.i (L0.getD (a3).toNat R_ii.z).a0, .i (L0.getD (a3).toNat R_ii.z).a1], true), (Nat.blt (a3).toNat L0.length, true), (a3 == Int.ofNat (a3).toNat, true), (ZS (Z3 2 (List.drop (0 + ((((v2 + v3) / (2 : Int))).toNat * 2)) (Zd E_ii L0))) [.i (L0.getD (((v2 + v3) / (2 : Int))).toNat R_ii.z).a0, .i (L0.getD (((v2 + v3) / (2 : Int))).toNat R_ii.z).a1], true), (Nat.blt (((v2 + v3) / (2 : Int))).toNat L0.length, true), (((v2 + v3) / (2 : Int)) == Int.ofNat (((v2 + v3) / (2 : Int))).toNat, true), ((IntKind.i64.wrap ((v2 + v3) / (2 : Int))) == ((v2 + v3) / (2 : Int)), true), ((Int.fdiv (v2 + v3) (2 ^ 1 : Int)) == ((v2 + v3) / (2 : Int)), true), ((IntKind.u64.wrap (v2 + v3)) == (v2 + v3), true), ((IntKind.i64.wrap (v2 + v3)) == (v2 + v3), true), ((decide (v2 < v3)), true)]) rfl (show 1 ∈ Zq (ZR 1) from by decide +kernel) (fun gv => by kernel_rfl) (oY <| oN <| oE <| oE <| Zc (Zy (E := E_ii) (L := L0) (i := (a3).toNat) (q := 0) (by omega) (show (0 + ((a3).toNat * 2)) = (a3).toNat * 2 + 0 from by omega) (show 0 + 2 ≤ 2 from by decide) rfl rfl) <| oB <| oI <| Zc (Zy (E := E_ii) (L := L0) (i := (((v2 + v3) / (2 : Int))).toNat) (q := 0) (by omega) (show (0 + ((((v2 + v3) / (2 : Int))).toNat * 2)) = (((v2 + v3) / (2 : Int))).toNat * 2 + 0 from by omega) (show 0 + 2 ≤ 2 from by decide) rfl rfl) <| oB <| oI <| Zc (beq_iff_eq.2 (wrap_i64 ltA)) <| Zc (beq_iff_eq.2 (Int.fdiv_eq_ediv_of_nonneg _ (by decide))) <| Zc (beq_iff_eq.2 (Zef ltA)) <| Zc (beq_iff_eq.2 ((wrap_i64 ltA).trans (by first | rfl | omega))) <| oY Zi) rfl (by decide) (by rfl) (fun _ => ⟨rr, ⟨rr, ⟨rr, ⟨rr, ⟨rr, trivial⟩⟩⟩⟩⟩) ⟨(Zj (E := E_ii) (α := R_ii) _ L0 _), trivial⟩
   ·
    exact Mach.ok_next (M := Zk rec L0 n1 n2 a3 a4 a5 N) (cd := 1000000) (cm := 0) (y := (.h1m0 (v2) (((v2 + v3) / (2 : Int))) : Zg)) (fu := 4000) (orc := (Zr [(0, true), (1, false), (2, false), (3, false), (4, false)] [(0, (v2 + v3)), (1, (v2 + v3)), (2, ((v2 + v3) / (2 : Int))), (3, ((v2 + v3) / (2 : Int)))] [(0, (((v2 + v3) / (2 : Int))).toNat), (1, (a3).toNat)] [(0, [.i (L0.getD (((v2 + v3) / (2 : Int))).toNat R_ii.z).a0, .i (L0.getD (((v2 + v3) / (2 : Int))).toNat R_ii.z).a1]), (1, [.i (L0.getD (a3).toNat R_ii.z).a0, .i (L0.getD (a3).toNat R_ii.z).a1])] [])) (live := [0]) (tv := fun _ => [some (vs 0 0 L0.length L0.length), some (vi a3), some (Value.func (.func 11) #[] #[]), some (vi v2), some (vi ((v2 + v3) / (2 : Int)))]) (bl := [some (.cells (Zd E_ii L0) 43)]) (ob := [((decide ((L0.getD (((v2 + v3) / (2 : Int))).toNat R_ii.z).a0 > (L0.getD (a3).toNat R_ii.z).a0)), false), ((decide ((L0.getD (((v2 + v3) / (2 : Int))).toNat R_ii.z).a0 < (L0.getD (a3).toNat R_ii.z).a0)), false), (((L0.getD (a3).toNat R_ii.z).a0 != (L0.getD (a3).toNat R_ii.z).a0), false), (((L0.getD (((v2 + v3) / (2 : Int))).toNat R_ii.z).a0 != (L0.getD (((v2 + v3) / (2 : Int))).toNat R_ii.z).a0), false), (ZS (Z3 2 (List.drop (0 + ((a3).toNat * 2)) (Zd E_ii L0))) [.i (L0.getD (a3).toNat R_ii.z).a0, .i (L0.getD (a3).toNat R_ii.z).a1], true), (Nat.blt (a3).toNat L0.length, true), (a3 == Int.ofNat (a3).toNat, true), (ZS (Z3 2 (List.drop (0 + ((((v2 + v3) / (2 : Int))).toNat * 2)) (Zd E_ii L0))) [.i (L0.getD (((v2 + v3) / (2 : Int))).toNat R_ii.z).a0, .i (L0.getD (((v2 + v3) / (2 : Int))).toNat R_ii.z).a1], true), (Nat.blt (((v2 + v3) / (2 : Int))).toNat L0.length, true), (((v2 + v3) / (2 : Int)) == Int.ofNat (((v2 + v3) / (2 : Int))).toNat, true), ((IntKind.i64.wrap ((v2 + v3) / (2 : Int))) == ((v2 + v3) / (2 : Int)), true), ((Int.fdiv (v2 + v3) (2 ^ 1 : Int)) == ((v2 + v3) / (2 : Int)), true), ((IntKind.u64.wrap (v2 + v3)) == (v2 + v3), true), ((IntKind.i64.wrap (v2 + v3)) == (v2 + v3), true), ((decide (v2 < v3)), true)]) rfl (show 1 ∈ Zq (ZR 1) from by decide +kernel) (fun gv => by kernel_rfl) (oN <| oN <| oE <| oE <| Zc (Zy (E := E_ii) (L := L0) (i := (a3).toNat) (q := 0) (by omega) (show (0 + ((a3).toNat * 2)) = (a3).toNat * 2 + 0 from by omega) (show 0 + 2 ≤ 2 from by decide) rfl rfl) <| oB <| oI <| Zc (Zy (E := E_ii) (L := L0) (i := (((v2 + v3) / (2 : Int))).toNat) (q := 0) (by omega) (show (0 + ((((v2 + v3) / (2 : Int))).toNat * 2)) = (((v2 + v3) / (2 : Int))).toNat * 2 + 0 from by omega) (show 0 + 2 ≤ 2 from by decide) rfl rfl) <| oB <| oI <| Zc (beq_iff_eq.2 (wrap_i64 ltA)) <| Zc (beq_iff_eq.2 (Int.fdiv_eq_ediv_of_nonneg _ (by decide))) <| Zc (beq_iff_eq.2 (Zef ltA)) <| Zc (beq_iff_eq.2 ((wrap_i64 ltA).trans (by first | rfl | omega))) <| oY Zi) rfl (by decide) (by rfl) (fun _ => ⟨rr, ⟨rr, ⟨rr, ⟨rr, ⟨rr, trivial⟩⟩⟩⟩⟩) ⟨(Zj (E := E_ii) (α := R_ii) _ L0 _), trivial⟩
 ·
  exact Mach.ok_head (bK := Z1 4) (M := Zk rec L0 n1 n2 a3 a4 a5 N) (cd := 1000000) (cm := 0) (y := (.h4m0 (L0) (v2) (a3) : Zg)) (fu := 4000) (orc := (Zr [(0, false)] [] [] [] [])) (live := [0]) (tv := fun _ => [some (vs 0 0 L0.length L0.length), some (vi v2), some (vi a3)]) (bl := [some (.cells (Zd E_ii L0) 43)]) (ob := [((decide (v2 < v3)), false)]) rfl rfl (show ∀ j ∈ Zq (Z1 4).2, j ∈ Zq (ZR 1) from by decide +kernel) (fun gv => by kernel_rfl) (oN Zi) rfl (by decide) (by rfl) (fun _ => ⟨rr, ⟨rr, ⟨rr, trivial⟩⟩⟩) ⟨(Zj (E := E_ii) (α := R_ii) _ L0 _), trivial⟩

theorem ZfL (rec : List R_ii → Nat → Nat → Int → Int → Int → Option Zf) (hrec : ∀ (L0 : List R_ii) (n1 n2 : Nat) (a3 a4 a5 : Int) (r : Zf), rec L0 n1 n2 a3 a4 a5 = some r → LSpec Tryz.prog 39 #[vs 0 0 n1 n2, vi a3, vi a4, vi a5, Value.func (.func 11) #[] #[]] [.cells (Zd E_ii L0) 43] (Zax L0 n1 n2 a3 a4 a5 r) (Zau L0 n1 n2 a3 a4 a5 r)) (L0 : List R_ii) (n1 n2 : Nat) (a3 a4 a5 v2 v3 : Int) (N : Nat) : (Zk rec L0 n1 n2 a3 a4 a5 N).Ok Tryz.prog Zw (.h2m0 v2 v3 : Zg) (ZF rec L0 n1 n2 a3 a4 a5 N (.h2m0 v2 v3 : Zg)) := by
 show (Zk rec L0 n1 n2 a3 a4 a5 N).Ok Tryz.prog Zw (.h2m0 v2 v3 : Zg) (ZW rec L0 n1 n2 a3 a4 a5 N v2 v3)
 unfold ZW
 refine Mach.ok_ite (fun g0 => ?_) (fun _ => Mach.ok_none)
 refine Mach.ok_ite (fun g1 => ?_) (fun _ => Mach.ok_none)
 refine Mach.ok_ite (fun g2 => ?_) (fun _ => Mach.ok_none)
 refine Mach.ok_ite (fun g3 => ?_) (fun _ => Mach.ok_none)
 refine Mach.ok_ite (fun g4 => ?_) (fun _ => Mach.ok_none)
 refine Mach.ok_ite (fun g5 => ?_) (fun _ => Mach.ok_none)
 refine Mach.ok_ite (fun g6 => ?_) (fun _ => Mach.ok_none)
 refine Mach.ok_ite (fun g7 => ?_) (fun _ => Mach.ok_none)
 refine Mach.ok_ite (fun g8 => ?_) (fun _ => Mach.ok_none)
 refine Mach.ok_ite (fun g9 => ?_) (fun _ => Mach.ok_none)
 refine Mach.ok_ite (fun g10 => ?_) (fun _ => Mach.ok_none)
 refine Mach.ok_ite (fun g11 => ?_) (fun _ => Mach.ok_none)
 refine Mach.ok_ite (fun g12 => ?_) (fun _ => Mach.ok_none)
 refine Mach.ok_ite (fun g13 => ?_) (fun g13 => ?_)
 ·
  refine Mach.ok_ite (fun g14 => ?_) (fun _ => Mach.ok_none)
  refine Mach.ok_ite (fun g15 => ?_) (fun _ => Mach.ok_none)
  refine Mach.ok_ite (fun g16 => ?_) (fun g16 => ?_)
  ·
   exact Mach.ok_next (M := Zk rec L0 n1 n2 a3 a4 a5 N) (cd := 1000000) (cm := 0) (y := (.h2m0 (v2) (((v2 + v3) / (2 : Int))) : Zg)) (fu := 4000) (orc := (Zr [(0, true), (1, false), (2, false), (3, true)] [(0, (v2 + v3)), (1, (v2 + v3)), (2, ((v2 + v3) / (2 : Int))), (3, ((v2 + v3) / (2 : Int)))] [(0, (a4).toNat), (1, (((v2 + v3) / (2 : Int))).toNat)] [(0, [.i (L0.getD (a4).toNat R_ii.z).a0, .i (L0.getD (a4).toNat R_ii.z).a1]), (1, [.i (L0.getD (((v2 + v3) / (2 : Int))).toNat R_ii.z).a0, .i (L0.getD (((v2 + v3) / (2 : Int))).toNat R_ii.z).a1])] [])) (live := [0]) (tv := fun _ => [some (vs 0 0 L0.length L0.length), some (vi a4), some (Value.func (.func 11) #[] #[]), some (vi v2), some (vi ((v2 + v3) / (2 : Int)))]) (bl := [some (.cells (Zd E_ii L0) 43)]) (ob := [((decide ((L0.getD (a4).toNat R_ii.z).a0 < (L0.getD (((v2 + v3) / (2 : Int))).toNat R_ii.z).a0)), true), (((L0.getD (((v2 + v3) / (2 : Int))).toNat R_ii.z).a0 != (L0.getD (((v2 + v3) / (2 : Int))).toNat R_ii.z).a0), false), (((L0.getD (a4).toNat R_ii.z).a0 != (L0.getD (a4).toNat R_ii.z).a0), false), (ZS (Z3 2 (List.drop (0 + ((((v2 + v3) / (2 : Int))).toNat * 2)) (Zd E_ii L0))) [.i (L0.getD (((v2 + v3) / (2 : Int))).toNat R_ii.z).a0, .i (L0.getD (((v2 + v3) / (2 : Int))).toNat R_ii.z).a1], true), (Nat.blt (((v2 + v3) / (2 : Int))).toNat L0.length, true), (((v2 + v3) / (2 : Int)) == Int.ofNat (((v2 + v3) / (2 : Int))).toNat, true), (ZS (Z3 2 (List.drop (0 + ((a4).toNat * 2)) (Zd E_ii L0))) [.i (L0.getD (a4).toNat R_ii.z).a0, .i (L0.getD (a4).toNat R_ii.z).a1], true), (Nat.blt (a4).toNat L0.length, true), (a4 == Int.ofNat (a4).toNat, true), ((IntKind.i64.wrap ((v2 + v3) / (2 : Int))) == ((v2 + v3) / (2 : Int)), true), ((Int.fdiv (v2 + v3) (2 ^ 1 : Int)) == ((v2 + v3) / (2 : Int)), true), ((IntKind.u64.wrap (v2 + v3)) == (v2 + v3), true), ((IntKind.i64.wrap (v2 + v3)) == (v2 + v3), true), ((decide (v2 < v3)), true)]) rfl (show 2 ∈ Zq (ZR 2) from by decide +kernel) (fun gv => by kernel_rfl) (oY <| oE <| oE <| Zc (Zy (E := E_ii) (L := L0) (i := (((v2 + v3) / (2 : Int))).toNat) (q := 0) (by omega) (show (0 + ((((v2 + v3) / (2 : Int))).toNat * 2)) = (((v2 + v3) / (2 : Int))).toNat * 2 + 0 from by omega) (show 0 + 2 ≤ 2 from by decide) rfl rfl) <| oB <| oI <| Zc (Zy (E := E_ii) (L := L0) (i := (a4).toNat) (q := 0) (by omega) (show (0 + ((a4).toNat * 2)) = (a4).toNat * 2 + 0 from by omega) (show 0 + 2 ≤ 2 from by decide) rfl rfl) <| oB <| oI <| Zc (beq_iff_eq.2 (wrap_i64 ltA)) <| Zc (beq_iff_eq.2 (Int.fdiv_eq_ediv_of_nonneg _ (by decide))) <| Zc (beq_iff_eq.2 (Zef ltA)) <| Zc (beq_iff_eq.2 ((wrap_i64 ltA).trans (by first | rfl | omega))) <| oY Zi) rfl (by decide) (by rfl) (fun _ => ⟨rr, ⟨rr, ⟨rr, ⟨rr, ⟨rr, trivial⟩⟩⟩⟩⟩) ⟨(Zj (E := E_ii) (α := R_ii) _ L0 _), trivial⟩
  ·
   by_cases g17 : (L0.getD (((v2 + v3) / (2 : Int))).toNat R_ii.z).a0 < (L0.getD (a4).toNat R_ii.z).a0
   ·
    exact Mach.ok_next (M := Zk rec L0 n1 n2 a3 a4 a5 N) (cd := 1000000) (cm := 0) (y := (.h2m0 ((((v2 + v3) / (2 : Int)) + (1 : Int))) (v3) : Zg)) (fu := 4000) (orc := (Zr [(0, true), (1, false), (2, false), (3, false), (4, true)] [(0, (v2 + v3)), (1, (v2 + v3)), (2, ((v2 + v3) / (2 : Int))), (3, ((v2 + v3) / (2 : Int))), (4, (((v2 + v3) / (2 : Int)) + (1 : Int)))] [(0, (a4).toNat), (1, (((v2 + v3) / (2 : Int))).toNat)] [(0, [.i (L0.getD (a4).toNat R_ii.z).a0, .i (L0.getD (a4).toNat R_ii.z).a1]), (1, [.i (L0.getD (((v2 + v3) / (2 : Int))).toNat R_ii.z).a0, .i (L0.getD (((v2 + v3) / (2 : Int))).toNat R_ii.z).a1])] [])) (live := [0]) (tv := fun _ => [some (vs 0 0 L0.length L0.length), some (vi a4), some (Value.func (.func 11) #[] #[]), some (vi (((v2 + v3) / (2 : Int)) + (1 : Int))), some (vi v3)]) (bl := [some (.cells (Zd E_ii L0) 43)]) (ob := [((IntKind.i64.wrap (((v2 + v3) / (2 : Int)) + (1 : Int))) == (((v2 + v3) / (2 : Int)) + (1 : Int)), true), ((decide ((L0.getD (a4).toNat R_ii.z).a0 > (L0.getD (((v2 + v3) / (2 : Int))).toNat R_ii.z).a0)), true), ((decide ((L0.getD (a4).toNat R_ii.z).a0 < (L0.getD (((v2 + v3) / (2 : Int))).toNat R_ii.z).a0)), false), (((L0.getD (((v2 + v3) / (2 : Int))).toNat R_ii.z).a0 != (L0.getD (((v2 + v3) / (2 : Int))).toNat R_ii.z).a0), false), (((L0.getD (a4).toNat R_ii.z).a0 != (L0.getD (a4).toNat R_ii.z).a0), false), (ZS (Z3 2 (List.drop (0 + ((((v2 + v3) / (2 : Int))).toNat * 2)) (Zd E_ii L0))) [.i (L0.getD (((v2 + v3) / (2 : Int))).toNat R_ii.z).a0, .i (L0.getD (((v2 + v3) / (2 : Int))).toNat R_ii.z).a1], true), (Nat.blt (((v2 + v3) / (2 : Int))).toNat L0.length, true), (((v2 + v3) / (2 : Int)) == Int.ofNat (((v2 + v3) / (2 : Int))).toNat, true), (ZS (Z3 2 (List.drop (0 + ((a4).toNat * 2)) (Zd E_ii L0))) [.i (L0.getD (a4).toNat R_ii.z).a0, .i (L0.getD (a4).toNat R_ii.z).a1], true), (Nat.blt (a4).toNat L0.length, true), (a4 == Int.ofNat (a4).toNat, true), ((IntKind.i64.wrap ((v2 + v3) / (2 : Int))) == ((v2 + v3) / (2 : Int)), true), ((Int.fdiv (v2 + v3) (2 ^ 1 : Int)) == ((v2 + v3) / (2 : Int)), true), ((IntKind.u64.wrap (v2 + v3)) == (v2 + v3), true), ((IntKind.i64.wrap (v2 + v3)) == (v2 + v3), true), ((decide (v2 < v3)), true)]) rfl (show 2 ∈ Zq (ZR 2) from by decide +kernel) (fun gv => by kernel_rfl) (Zc (beq_iff_eq.2 ((wrap_i64 ltA).trans (by first | rfl | omega))) <| oY <| oN <| oE <| oE <| Zc (Zy (E := E_ii) (L := L0) (i := (((v2 + v3) / (2 : Int))).toNat) (q := 0) (by omega) (show (0 + ((((v2 + v3) / (2 : Int))).toNat * 2)) = (((v2 + v3) / (2 : Int))).toNat * 2 + 0 from by omega) (show 0 + 2 ≤ 2 from by decide) rfl rfl) <| oB <| oI <| Zc (Zy (E := E_ii) (L := L0) (i := (a4).toNat) (q := 0) (by omega) (show (0 + ((a4).toNat * 2)) = (a4).toNat * 2 + 0 from by omega) (show 0 + 2 ≤ 2 from by decide) rfl rfl) <| oB <| oI <| Zc (beq_iff_eq.2 (wrap_i64 ltA)) <| Zc (beq_iff_eq.2 (Int.fdiv_eq_ediv_of_nonneg _ (by decide))) <| Zc (beq_iff_eq.2 (Zef ltA)) <| Zc (beq_iff_eq.2 ((wrap_i64 ltA).trans (by first | rfl | omega))) <| oY Zi) rfl (by decide) (by rfl) (fun _ => ⟨rr, ⟨rr, ⟨rr, ⟨rr, ⟨rr, trivial⟩⟩⟩⟩⟩) ⟨(Zj (E := E_ii) (α := R_ii) _ L0 _), trivial⟩
   ·
    exact Mach.ok_next (M := Zk rec L0 n1 n2 a3 a4 a5 N) (cd := 1000000) (cm := 0) (y := (.h2m0 ((((v2 + v3) / (2 : Int)) + (1 : Int))) (v3) : Zg)) (fu := 4000) (orc := (Zr [(0, true), (1, false), (2, false), (3, false), (4, false)] [(0, (v2 + v3)), (1, (v2 + v3)), (2, ((v2 + v3) / (2 : Int))), (3, ((v2 + v3) / (2 : Int))), (4, (((v2 + v3) / (2 : Int)) + (1 : Int)))] [(0, (a4).toNat), (1, (((v2 + v3) / (2 : Int))).toNat)] [(0, [.i (L0.getD (a4).toNat R_ii.z).a0, .i (L0.getD (a4).toNat R_ii.z).a1]), (1, [.i (L0.getD (((v2 + v3) / (2 : Int))).toNat R_ii.z).a0, .i (L0.getD (((v2 + v3) / (2 : Int))).toNat R_ii.z).a1])] [])) (live := [0]) (tv := fun _ => [some (vs 0 0 L0.length L0.length), some (vi a4), some (Value.func (.func 11) #[] #[]), some (vi (((v2 + v3) / (2 : Int)) + (1 : Int))), some (vi v3)]) (bl := [some (.cells (Zd E_ii L0) 43)]) (ob := [((IntKind.i64.wrap (((v2 + v3) / (2 : Int)) + (1 : Int))) == (((v2 + v3) / (2 : Int)) + (1 : Int)), true), ((decide ((L0.getD (a4).toNat R_ii.z).a0 > (L0.getD (((v2 + v3) / (2 : Int))).toNat R_ii.z).a0)), false), ((decide ((L0.getD (a4).toNat R_ii.z).a0 < (L0.getD (((v2 + v3) / (2 : Int))).toNat R_ii.z).a0)), false), (((L0.getD (((v2 + v3) / (2 : Int))).toNat R_ii.z).a0 != (L0.getD (((v2 + v3) / (2 : Int))).toNat R_ii.z).a0), false), (((L0.getD (a4).toNat R_ii.z).a0 != (L0.getD (a4).toNat R_ii.z).a0), false), (ZS (Z3 2 (List.drop (0 + ((((v2 + v3) / (2 : Int))).toNat * 2)) (Zd E_ii L0))) [.i (L0.getD (((v2 + v3) / (2 : Int))).toNat R_ii.z).a0, .i (L0.getD (((v2 + v3) / (2 : Int))).toNat R_ii.z).a1], true), (Nat.blt (((v2 + v3) / (2 : Int))).toNat L0.length, true), (((v2 + v3) / (2 : Int)) == Int.ofNat (((v2 + v3) / (2 : Int))).toNat, true), (ZS (Z3 2 (List.drop (0 + ((a4).toNat * 2)) (Zd E_ii L0))) [.i (L0.getD (a4).toNat R_ii.z).a0, .i (L0.getD (a4).toNat R_ii.z).a1], true), (Nat.blt (a4).toNat L0.length, true), (a4 == Int.ofNat (a4).toNat, true), ((IntKind.i64.wrap ((v2 + v3) / (2 : Int))) == ((v2 + v3) / (2 : Int)), true), ((Int.fdiv (v2 + v3) (2 ^ 1 : Int)) == ((v2 + v3) / (2 : Int)), true), ((IntKind.u64.wrap (v2 + v3)) == (v2 + v3), true), ((IntKind.i64.wrap (v2 + v3)) == (v2 + v3), true), ((decide (v2 < v3)), true)]) rfl (show 2 ∈ Zq (ZR 2) from by decide +kernel) (fun gv => by kernel_rfl) (Zc (beq_iff_eq.2 ((wrap_i64 ltA).trans (by first | rfl | omega))) <| oN <| oN <| oE <| oE <| Zc (Zy (E := E_ii) (L := L0) (i := (((v2 + v3) / (2 : Int))).toNat) (q := 0) (by omega) (show (0 + ((((v2 + v3) / (2 : Int))).toNat * 2)) = (((v2 + v3) / (2 : Int))).toNat * 2 + 0 from by omega) (show 0 + 2 ≤ 2 from by decide) rfl rfl) <| oB <| oI <| Zc (Zy (E := E_ii) (L := L0) (i := (a4).toNat) (q := 0) (by omega) (show (0 + ((a4).toNat * 2)) = (a4).toNat * 2 + 0 from by omega) (show 0 + 2 ≤ 2 from by decide) rfl rfl) <| oB <| oI <| Zc (beq_iff_eq.2 (wrap_i64 ltA)) <| Zc (beq_iff_eq.2 (Int.fdiv_eq_ediv_of_nonneg _ (by decide))) <| Zc (beq_iff_eq.2 (Zef ltA)) <| Zc (beq_iff_eq.2 ((wrap_i64 ltA).trans (by first | rfl | omega))) <| oY Zi) rfl (by decide) (by rfl) (fun _ => ⟨rr, ⟨rr, ⟨rr, ⟨rr, ⟨rr, trivial⟩⟩⟩⟩⟩) ⟨(Zj (E := E_ii) (α := R_ii) _ L0 _), trivial⟩
 ·
  exact Mach.ok_head (bK := Z1 5) (M := Zk rec L0 n1 n2 a3 a4 a5 N) (cd := 1000000) (cm := 0) (y := (.h5m0 (L0) (v2) (a4) : Zg)) (fu := 4000) (orc := (Zr [(0, false)] [] [] [] [])) (live := [0]) (tv := fun _ => [some (vs 0 0 L0.length L0.length), some (vi v2), some (vi a4)]) (bl := [some (.cells (Zd E_ii L0) 43)]) (ob := [((decide (v2 < v3)), false)]) rfl rfl (show ∀ j ∈ Zq (Z1 5).2, j ∈ Zq (ZR 2) from by decide +kernel) (fun gv => by kernel_rfl) (oN Zi) rfl (by decide) (by rfl) (fun _ => ⟨rr, ⟨rr, ⟨rr, trivial⟩⟩⟩) ⟨(Zj (E := E_ii) (α := R_ii) _ L0 _), trivial⟩

theorem ZfM (rec : List R_ii → Nat → Nat → Int → Int → Int → Option Zf) (hrec : ∀ (L0 : List R_ii) (n1 n2 : Nat) (a3 a4 a5 : Int) (r : Zf), rec L0 n1 n2 a3 a4 a5 = some r → LSpec Tryz.prog 39 #[vs 0 0 n1 n2, vi a3, vi a4, vi a5, Value.func (.func 11) #[] #[]] [.cells (Zd E_ii L0) 43] (Zax L0 n1 n2 a3 a4 a5 r) (Zau L0 n1 n2 a3 a4 a5 r)) (L0 : List R_ii) (n1 n2 : Nat) (a3 a4 a5 v6 v7 : Int) (N : Nat) : (Zk rec L0 n1 n2 a3 a4 a5 N).Ok Tryz.prog Zw (.h3m0 v6 v7 : Zg) (ZF rec L0 n1 n2 a3 a4 a5 N (.h3m0 v6 v7 : Zg)) := by
 show (Zk rec L0 n1 n2 a3 a4 a5 N).Ok Tryz.prog Zw (.h3m0 v6 v7 : Zg) (Z6 rec L0 n1 n2 a3 a4 a5 N v6 v7)
 unfold Z6
 refine Mach.ok_ite (fun g0 => ?_) (fun _ => Mach.ok_none)
 refine Mach.ok_ite (fun g1 => ?_) (fun _ => Mach.ok_none)
 refine Mach.ok_ite (fun g2 => ?_) (fun _ => Mach.ok_none)
 refine Mach.ok_ite (fun g3 => ?_) (fun _ => Mach.ok_none)
 refine Mach.ok_ite (fun g4 => ?_) (fun _ => Mach.ok_none)
 refine Mach.ok_ite (fun g5 => ?_) (fun _ => Mach.ok_none)
 refine Mach.ok_ite (fun g6 => ?_) (fun _ => Mach.ok_none)
 refine Mach.ok_ite (fun g7 => ?_) (fun _ => Mach.ok_none)
 refine Mach.ok_ite (fun g8 => ?_) (fun _ => Mach.ok_none)
 refine Mach.ok_ite (fun g9 => ?_) (fun _ => Mach.ok_none)
 refine Mach.ok_ite (fun g10 => ?_) (fun _ => Mach.ok_none)
 refine Mach.ok_ite (fun g11 => ?_) (fun _ => Mach.ok_none)
 refine Mach.ok_ite (fun g12 => ?_) (fun _ => Mach.ok_none)
 refine Mach.ok_ite (fun g13 => ?_) (fun g13 => ?_)
 ·
  refine Mach.ok_ite (fun g14 => ?_) (fun _ => Mach.ok_none)
  refine Mach.ok_ite (fun g15 => ?_) (fun _ => Mach.ok_none)
  refine Mach.ok_ite (fun g16 => ?_) (fun _ => Mach.ok_none)
  refine Mach.ok_ite (fun g17 => ?_) (fun g17 => ?_)
  ·
   exact Mach.ok_next (M := Zk rec L0 n1 n2 a3 a4 a5 N) (cd := 1000000) (cm := 0) (y := (.h3m0 (v6) (((v6 + v7) / (2 : Int))) : Zg)) (fu := 4000) (orc := (Zr [(0, true), (1, false), (2, false), (3, true)] [(0, (v6 + v7)), (1, (v6 + v7)), (2, ((v6 + v7) / (2 : Int))), (3, ((v6 + v7) / (2 : Int))), (4, (((((a3 + a5) / (2 : Int)) + a4) - (1 : Int)) - ((v6 + v7) / (2 : Int))))] [(0, ((((((a3 + a5) / (2 : Int)) + a4) - (1 : Int)) - ((v6 + v7) / (2 : Int)))).toNat), (1, (((v6 + v7) / (2 : Int))).toNat)] [(0, [.i (L0.getD ((((((a3 + a5) / (2 : Int)) + a4) - (1 : Int)) - ((v6 + v7) / (2 : Int)))).toNat R_ii.z).a0, .i (L0.getD ((((((a3 + a5) / (2 : Int)) + a4) - (1 : Int)) - ((v6 + v7) / (2 : Int)))).toNat R_ii.z).a1]), (1, [.i (L0.getD (((v6 + v7) / (2 : Int))).toNat R_ii.z).a0, .i (L0.getD (((v6 + v7) / (2 : Int))).toNat R_ii.z).a1])] [])) (live := [0]) (tv := fun _ => [some (vs 0 0 L0.length L0.length), some (vi a3), some (vi a4), some (vi a5), some (Value.func (.func 11) #[] #[]), some (vi ((a3 + a5) / (2 : Int))), some (vi (((a3 + a5) / (2 : Int)) + a4)), some (vi v6), some (vi ((v6 + v7) / (2 : Int))), some (vi ((((a3 + a5) / (2 : Int)) + a4) - (1 : Int)))]) (bl := [some (.cells (Zd E_ii L0) 43)]) (ob := [((decide ((L0.getD ((((((a3 + a5) / (2 : Int)) + a4) - (1 : Int)) - ((v6 + v7) / (2 : Int)))).toNat R_ii.z).a0 < (L0.getD (((v6 + v7) / (2 : Int))).toNat R_ii.z).a0)), true), (((L0.getD (((v6 + v7) / (2 : Int))).toNat R_ii.z).a0 != (L0.getD (((v6 + v7) / (2 : Int))).toNat R_ii.z).a0), false), (((L0.getD ((((((a3 + a5) / (2 : Int)) + a4) - (1 : Int)) - ((v6 + v7) / (2 : Int)))).toNat R_ii.z).a0 != (L0.getD ((((((a3 + a5) / (2 : Int)) + a4) - (1 : Int)) - ((v6 + v7) / (2 : Int)))).toNat R_ii.z).a0), false), (ZS (Z3 2 (List.drop (0 + ((((v6 + v7) / (2 : Int))).toNat * 2)) (Zd E_ii L0))) [.i (L0.getD (((v6 + v7) / (2 : Int))).toNat R_ii.z).a0, .i (L0.getD (((v6 + v7) / (2 : Int))).toNat R_ii.z).a1], true), (Nat.blt (((v6 + v7) / (2 : Int))).toNat L0.length, true), (((v6 + v7) / (2 : Int)) == Int.ofNat (((v6 + v7) / (2 : Int))).toNat, true), (ZS (Z3 2 (List.drop (0 + (((((((a3 + a5) / (2 : Int)) + a4) - (1 : Int)) - ((v6 + v7) / (2 : Int)))).toNat * 2)) (Zd E_ii L0))) [.i (L0.getD ((((((a3 + a5) / (2 : Int)) + a4) - (1 : Int)) - ((v6 + v7) / (2 : Int)))).toNat R_ii.z).a0, .i (L0.getD ((((((a3 + a5) / (2 : Int)) + a4) - (1 : Int)) - ((v6 + v7) / (2 : Int)))).toNat R_ii.z).a1], true), (Nat.blt ((((((a3 + a5) / (2 : Int)) + a4) - (1 : Int)) - ((v6 + v7) / (2 : Int)))).toNat L0.length, true), ((((((a3 + a5) / (2 : Int)) + a4) - (1 : Int)) - ((v6 + v7) / (2 : Int))) == Int.ofNat ((((((a3 + a5) / (2 : Int)) + a4) - (1 : Int)) - ((v6 + v7) / (2 : Int)))).toNat, true), ((IntKind.i64.wrap (((((a3 + a5) / (2 : Int)) + a4) - (1 : Int)) - ((v6 + v7) / (2 : Int)))) == (((((a3 + a5) / (2 : Int)) + a4) - (1 : Int)) - ((v6 + v7) / (2 : Int))), true), ((IntKind.i64.wrap ((v6 + v7) / (2 : Int))) == ((v6 + v7) / (2 : Int)), true), ((Int.fdiv (v6 + v7) (2 ^ 1 : Int)) == ((v6 + v7) / (2 : Int)), true), ((IntKind.u64.wrap (v6 + v7)) == (v6 + v7), true), ((IntKind.i64.wrap (v6 + v7)) == (v6 + v7), true), ((decide (v6 < v7)), true)]) rfl (show 3 ∈ Zq (ZR 3) from by decide +kernel) (fun gv => by kernel_rfl) (oY <| oE <| oE <| Zc (Zy (E := E_ii) (L := L0) (i := (((v6 + v7) / (2 : Int))).toNat) (q := 0) (by omega) (show (0 + ((((v6 + v7) / (2 : Int))).toNat * 2)) = (((v6 + v7) / (2 : Int))).toNat * 2 + 0 from by omega) (show 0 + 2 ≤ 2 from by decide) rfl rfl) <| oB <| oI <| Zc (Zy (E := E_ii) (L := L0) (i := ((((((a3 + a5) / (2 : Int)) + a4) - (1 : Int)) - ((v6 + v7) / (2 : Int)))).toNat) (q := 0) (by omega) (show (0 + (((((((a3 + a5) / (2 : Int)) + a4) - (1 : Int)) - ((v6 + v7) / (2 : Int)))).toNat * 2)) = ((((((a3 + a5) / (2 : Int)) + a4) - (1 : Int)) - ((v6 + v7) / (2 : Int)))).toNat * 2 + 0 from by omega) (show 0 + 2 ≤ 2 from by decide) rfl rfl) <| oB <| oI <| Zc (beq_iff_eq.2 ((wrap_i64 ltA).trans (by first | rfl | omega))) <| Zc (beq_iff_eq.2 (wrap_i64 ltA)) <| Zc (beq_iff_eq.2 (Int.fdiv_eq_ediv_of_nonneg _ (by decide))) <| Zc (beq_iff_eq.2 (Zef ltA)) <| Zc (beq_iff_eq.2 ((wrap_i64 ltA).trans (by first | rfl | omega))) <| oY Zi) rfl (by decide) (by rfl) (fun _ => ⟨rr, ⟨rr, ⟨rr, ⟨rr, ⟨rr, ⟨rr, ⟨rr, ⟨rr, ⟨rr, ⟨rr, trivial⟩⟩⟩⟩⟩⟩⟩⟩⟩⟩) ⟨(Zj (E := E_ii) (α := R_ii) _ L0 _), trivial⟩
  ·
   by_cases g18 : (L0.getD (((v6 + v7) / (2 : Int))).toNat R_ii.z).a0 < (L0.getD ((((((a3 + a5) / (2 : Int)) + a4) - (1 : Int)) - ((v6 + v7) / (2 : Int)))).toNat R_ii.z).a0
   ·
    exact Mach.ok_next (M := Zk rec L0 n1 n2 a3 a4 a5 N) (cd := 1000000) (cm := 0) (y := (.h3m0 ((((v6 + v7) / (2 : Int)) + (1 : Int))) (v7) : Zg)) (fu := 4000) (orc := (Zr [(0, true), (1, false), (2, false), (3, false), (4, true)] [(0, (v6 + v7)), (1, (v6 + v7)), (2, ((v6 + v7) / (2 : Int))), (3, ((v6 + v7) / (2 : Int))), (4, (((((a3 + a5) / (2 : Int)) + a4) - (1 : Int)) - ((v6 + v7) / (2 : Int)))), (5, (((v6 + v7) / (2 : Int)) + (1 : Int)))] [(0, ((((((a3 + a5) / (2 : Int)) + a4) - (1 : Int)) - ((v6 + v7) / (2 : Int)))).toNat), (1, (((v6 + v7) / (2 : Int))).toNat)] [(0, [.i (L0.getD ((((((a3 + a5) / (2 : Int)) + a4) - (1 : Int)) - ((v6 + v7) / (2 : Int)))).toNat R_ii.z).a0, .i (L0.getD ((((((a3 + a5) / (2 : Int)) + a4) - (1 : Int)) - ((v6 + v7) / (2 : Int)))).toNat R_ii.z).a1]), (1, [.i (L0.getD (((v6 + v7) / (2 : Int))).toNat R_ii.z).a0, .i (L0.getD (((v6 + v7) / (2 : Int))).toNat R_ii.z).a1])] [])) (live := [0]) (tv := fun _ => [some (vs 0 0 L0.length L0.length), some (vi a3), some (vi a4), some (vi a5), some (Value.func (.func 11) #[] #[]), some (vi ((a3 + a5) / (2 : Int))), some (vi (((a3 + a5) / (2 : Int)) + a4)), some (vi (((v6 + v7) / (2 : Int)) + (1 : Int))), some (vi v7), some (vi ((((a3 + a5) / (2 : Int)) + a4) - (1 : Int)))]) (bl := [some (.cells (Zd E_ii L0) 43)]) (ob := [((IntKind.i64.wrap (((v6 + v7) / (2 : Int)) + (1 : Int))) == (((v6 + v7) / (2 : Int)) + (1 : Int)), true), ((decide ((L0.getD ((((((a3 + a5) / (2 : Int)) + a4) - (1 : Int)) - ((v6 + v7) / (2 : Int)))).toNat R_ii.z).a0 > (L0.getD (((v6 + v7) / (2 : Int))).toNat R_ii.z).a0)), true), ((decide ((L0.getD ((((((a3 + a5) / (2 : Int)) + a4) - (1 : Int)) - ((v6 + v7) / (2 : Int)))).toNat R_ii.z).a0 < (L0.getD (((v6 + v7) / (2 : Int))).toNat R_ii.z).a0)), false), (((L0.getD (((v6 + v7) / (2 : Int))).toNat R_ii.z).a0 != (L0.getD (((v6 + v7) / (2 : Int))).toNat R_ii.z).a0), false), (((L0.getD ((((((a3 + a5) / (2 : Int)) + a4) - (1 : Int)) - ((v6 + v7) / (2 : Int)))).toNat R_ii.z).a0 != (L0.getD ((((((a3 + a5) / (2 : Int)) + a4) - (1 : Int)) - ((v6 + v7) / (2 : Int)))).toNat R_ii.z).a0), false), (ZS (Z3 2 (List.drop (0 + ((((v6 + v7) / (2 : Int))).toNat * 2)) (Zd E_ii L0))) [.i (L0.getD (((v6 + v7) / (2 : Int))).toNat R_ii.z).a0, .i (L0.getD (((v6 + v7) / (2 : Int))).toNat R_ii.z).a1], true), (Nat.blt (((v6 + v7) / (2 : Int))).toNat L0.length, true), (((v6 + v7) / (2 : Int)) == Int.ofNat (((v6 + v7) / (2 : Int))).toNat, true), (ZS (Z3 2 (List.drop (0 + (((((((a3 + a5) / (2 : Int)) + a4) - (1 : Int)) - ((v6 + v7) / (2 : Int)))).toNat * 2)) (Zd E_ii L0))) [.i (L0.getD ((((((a3 + a5) / (2 : Int)) + a4) - (1 : Int)) - ((v6 + v7) / (2 : Int)))).toNat R_ii.z).a0, .i (L0.getD ((((((a3 + a5) / (2 : Int)) + a4) - (1 : Int)) - ((v6 + v7) / (2 : Int)))).toNat R_ii.z).a1], true), (Nat.blt ((((((a3 + a5) / (2 : Int)) + a4) - (1 : Int)) - ((v6 + v7) / (2 : Int)))).toNat L0.length, true), ((((((a3 + a5) / (2 : Int)) + a4) - (1 : Int)) - ((v6 + v7) / (2 : Int))) == Int.ofNat ((((((a3 + a5) / (2 : Int)) + a4) - (1 : Int)) - ((v6 + v7) / (2 : Int)))).toNat, true), ((IntKind.i64.wrap (((((a3 + a5) / (2 : Int)) + a4) - (1 : Int)) - ((v6 + v7) / (2 : Int)))) == (((((a3 + a5) / (2 : Int)) + a4) - (1 : Int)) - ((v6 + v7) / (2 : Int))), true), ((IntKind.i64.wrap ((v6 + v7) / (2 : Int))) == ((v6 + v7) / (2 : Int)), true), ((Int.fdiv (v6 + v7) (2 ^ 1 : Int)) == ((v6 + v7) / (2 : Int)), true), ((IntKind.u64.wrap (v6 + v7)) == (v6 + v7), true), ((IntKind.i64.wrap (v6 + v7)) == (v6 + v7), true), ((decide (v6 < v7)), true)]) rfl (show 3 ∈ Zq (ZR 3) from by decide +kernel) (fun gv => by kernel_rfl) (Zc (beq_iff_eq.2 ((wrap_i64 ltA).trans (by first | rfl | omega))) <| oY <| oN <| oE <| oE <| Zc (Zy (E := E_ii) (L := L0) (i := (((v6 + v7) / (2 : Int))).toNat) (q := 0) (by omega) (show (0 + ((((v6 + v7) / (2 : Int))).toNat * 2)) = (((v6 + v7) / (2 : Int))).toNat * 2 + 0 from by omega) (show 0 + 2 ≤ 2 from by decide) rfl rfl) <| oB <| oI <| Zc (Zy (E := E_ii) (L := L0) (i := ((((((a3 + a5) / (2 : Int)) + a4) - (1 : Int)) - ((v6 + v7) / (2 : Int)))).toNat) (q := 0) (by omega) (show (0 + (((((((a3 + a5) / (2 : Int)) + a4) - (1 : Int)) - ((v6 + v7) / (2 : Int)))).toNat * 2)) = ((((((a3 + a5) / (2 : Int)) + a4) - (1 : Int)) - ((v6 + v7) / (2 : Int)))).toNat * 2 + 0 from by omega) (show 0 + 2 ≤ 2 from by decide) rfl rfl) <| oB <| oI <| Zc (beq_iff_eq.2 ((wrap_i64 ltA).trans (by first | rfl | omega))) <| Zc (beq_iff_eq.2 (wrap_i64 ltA)) <| Zc (beq_iff_eq.2 (Int.fdiv_eq_ediv_of_nonneg _ (by decide))) <| Zc (beq_iff_eq.2 (Zef ltA)) <| Zc (beq_iff_eq.2 ((wrap_i64 ltA).trans (by first | rfl | omega))) <| oY Zi) rfl (by decide) (by rfl) (fun _ => ⟨rr, ⟨rr, ⟨rr, ⟨rr, ⟨rr, ⟨rr, ⟨rr, ⟨rr, ⟨rr, ⟨rr, trivial⟩⟩⟩⟩⟩⟩⟩⟩⟩⟩) ⟨(Zj (E := E_ii) (α := R_ii) _ L0 _), trivial⟩
   ·
    exact Mach.ok_next (M := Zk rec L0 n1 n2 a3 a4 a5 N) (cd := 1000000) (cm := 0) (y := (.h3m0 ((((v6 + v7) / (2 : Int)) + (1 : Int))) (v7) : Zg)) (fu := 4000) (orc := (Zr [(0, true), (1, false), (2, false), (3, false), (4, false)] [(0, (v6 + v7)), (1, (v6 + v7)), (2, ((v6 + v7) / (2 : Int))), (3, ((v6 + v7) / (2 : Int))), (4, (((((a3 + a5) / (2 : Int)) + a4) - (1 : Int)) - ((v6 + v7) / (2 : Int)))), (5, (((v6 + v7) / (2 : Int)) + (1 : Int)))] [(0, ((((((a3 + a5) / (2 : Int)) + a4) - (1 : Int)) - ((v6 + v7) / (2 : Int)))).toNat), (1, (((v6 + v7) / (2 : Int))).toNat)] [(0, [.i (L0.getD ((((((a3 + a5) / (2 : Int)) + a4) - (1 : Int)) - ((v6 + v7) / (2 : Int)))).toNat R_ii.z).a0, .i (L0.getD ((((((a3 + a5) / (2 : Int)) + a4) - (1 : Int)) - ((v6 + v7) / (2 : Int)))).toNat R_ii.z).a1]), (1, [.i (L0.getD (((v6 + v7) / (2 : Int))).toNat R_ii.z).a0, .i (L0.getD (((v6 + v7) / (2 : Int))).toNat R_ii.z).a1])] [])) (live := [0]) (tv := fun _ => [some (vs 0 0 L0.length L0.length), some (vi a3), some (vi a4), some (vi a5), some (Value.func (.func 11) #[] #[]), some (vi ((a3 + a5) / (2 : Int))), some (vi (((a3 + a5) / (2 : Int)) + a4)), some (vi (((v6 + v7) / (2 : Int)) + (1 : Int))), some (vi v7), some (vi ((((a3 + a5) / (2 : Int)) + a4) - (1 : Int)))]) (bl := [some (.cells (Zd E_ii L0) 43)]) (ob := [((IntKind.i64.wrap (((v6 + v7) / (2 : Int)) + (1 : Int))) == (((v6 + v7) / (2 : Int)) + (1 : Int)), true), ((decide ((L0.getD ((((((a3 + a5) / (2 : Int)) + a4) - (1 : Int)) - ((v6 + v7) / (2 : Int)))).toNat R_ii.z).a0 > (L0.getD (((v6 + v7) / (2 : Int))).toNat R_ii.z).a0)), false), ((decide ((L0.getD ((((((a3 + a5) / (2 : Int)) + a4) - (1 : Int)) - ((v6 + v7) / (2 : Int)))).toNat R_ii.z).a0 < (L0.getD (((v6 + v7) / (2 : Int))).toNat R_ii.z).a0)), false), (((L0.getD (((v6 + v7) / (2 : Int))).toNat R_ii.z).a0 != (L0.getD (((v6 + v7) / (2 : Int))).toNat R_ii.z).a0), false), (((L0.getD ((((((a3 + a5) / (2 : Int)) + a4) - (1 : Int)) - ((v6 + v7) / (2 : Int)))).toNat R_ii.z).a0 != (L0.getD ((((((a3 + a5) / (2 : Int)) + a4) - (1 : Int)) - ((v6 + v7) / (2 : Int)))).toNat R_ii.z).a0), false), (ZS (Z3 2 (List.drop (0 + ((((v6 + v7) / (2 : Int))).toNat * 2)) (Zd E_ii L0))) [.i (L0.getD (((v6 + v7) / (2 : Int))).toNat R_ii.z).a0, .i (L0.getD (((v6 + v7) / (2 : Int))).toNat R_ii.z).a1], true), (Nat.blt (((v6 + v7) / (2 : Int))).toNat L0.length, true), (((v6 + v7) / (2 : Int)) == Int.ofNat (((v6 + v7) / (2 : Int))).toNat, true), (ZS (Z3 2 (List.drop (0 + (((((((a3 + a5) / (2 : Int)) + a4) - (1 : Int)) - ((v6 + v7) / (2 : Int)))).toNat * 2)) (Zd E_ii L0))) [.i (L0.getD ((((((a3 + a5) / (2 : Int)) + a4) - (1 : Int)) - ((v6 + v7) / (2 : Int)))).toNat R_ii.z).a0, .i (L0.getD ((((((a3 + a5) / (2 : Int)) + a4) - (1 : Int)) - ((v6 + v7) / (2 : Int)))).toNat R_ii.z).a1], true), (Nat.blt ((((((a3 + a5) / (2 : Int)) + a4) - (1 : Int)) - ((v6 + v7) / (2 : Int)))).toNat L0.length, true), ((((((a3 + a5) / (2 : Int)) + a4) - (1 : Int)) - ((v6 + v7) / (2 : Int))) == Int.ofNat ((((((a3 + a5) / (2 : Int)) + a4) - (1 : Int)) - ((v6 + v7) / (2 : Int)))).toNat, true), ((IntKind.i64.wrap (((((a3 + a5) / (2 : Int)) + a4) - (1 : Int)) - ((v6 + v7) / (2 : Int)))) == (((((a3 + a5) / (2 : Int)) + a4) - (1 : Int)) - ((v6 + v7) / (2 : Int))), true), ((IntKind.i64.wrap ((v6 + v7) / (2 : Int))) == ((v6 + v7) / (2 : Int)), true), ((Int.fdiv (v6 + v7) (2 ^ 1 : Int)) == ((v6 + v7) / (2 : Int)), true), ((IntKind.u64.wrap (v6 + v7)) == (v6 + v7), true), ((IntKind.i64.wrap (v6 + v7)) == (v6 + v7), true), ((decide (v6 < v7)), true)]) rfl (show 3 ∈ Zq (ZR 3) from by decide +kernel) (fun gv => by kernel_rfl) (Zc (beq_iff_eq.2 ((wrap_i64 ltA).trans (by first | rfl | omega))) <| oN <| oN <| oE <| oE <| Zc (Zy (E := E_ii) (L := L0) (i := (((v6 + v7) / (2 : Int))).toNat) (q := 0) (by omega) (show (0 + ((((v6 + v7) / (2 : Int))).toNat * 2)) = (((v6 + v7) / (2 : Int))).toNat * 2 + 0 from by omega) (show 0 + 2 ≤ 2 from by decide) rfl rfl) <| oB <| oI <| Zc (Zy (E := E_ii) (L := L0) (i := ((((((a3 + a5) / (2 : Int)) + a4) - (1 : Int)) - ((v6 + v7) / (2 : Int)))).toNat) (q := 0) (by omega) (show (0 + (((((((a3 + a5) / (2 : Int)) + a4) - (1 : Int)) - ((v6 + v7) / (2 : Int)))).toNat * 2)) = ((((((a3 + a5) / (2 : Int)) + a4) - (1 : Int)) - ((v6 + v7) / (2 : Int)))).toNat * 2 + 0 from by omega) (show 0 + 2 ≤ 2 from by decide) rfl rfl) <| oB <| oI <| Zc (beq_iff_eq.2 ((wrap_i64 ltA).trans (by first | rfl | omega))) <| Zc (beq_iff_eq.2 (wrap_i64 ltA)) <| Zc (beq_iff_eq.2 (Int.fdiv_eq_ediv_of_nonneg _ (by decide))) <| Zc (beq_iff_eq.2 (Zef ltA)) <| Zc (beq_iff_eq.2 ((wrap_i64 ltA).trans (by first | rfl | omega))) <| oY Zi) rfl (by decide) (by rfl) (fun _ => ⟨rr, ⟨rr, ⟨rr, ⟨rr, ⟨rr, ⟨rr, ⟨rr, ⟨rr, ⟨rr, ⟨rr, trivial⟩⟩⟩⟩⟩⟩⟩⟩⟩⟩) ⟨(Zj (E := E_ii) (α := R_ii) _ L0 _), trivial⟩
 ·
  refine Mach.ok_ite (fun g14 => ?_) (fun g14 => ?_)
  ·
   refine Mach.ok_ite (fun g15 => ?_) (fun g15 => ?_)
   ·
    refine Mach.ok_bind (fun z16 c16 => ?_)
    cases z16 with
    | r0 y16_0 =>
     refine Mach.ok_ite (fun g17 => ?_) (fun g17 => ?_)
     ·
      refine Mach.ok_bind (fun z18 c18 => ?_)
      cases z18 with
      | r0 y18_0 =>
       refine Mach.ok_ite (fun g19 => ?_) (fun g19 => ?_)
       ·
        refine Mach.ok_bind (fun z20 c20 => ?_)
        cases z20 with
        | r0 y20_0 =>
         exact Mach.ok_fin (M := Zk rec L0 n1 n2 a3 a4 a5 N) (cd := 1000000) (cm := 0) (r := (.r0 (y20_0) : Zf)) (fu := 4000) (orc := (Zr [(0, false), (1, true), (2, true), (3, true), (4, true), (5, true), (6, true)] [(0, ((((a3 + a5) / (2 : Int)) + a4) - v6))] [] [] [(0, (Zcp (L0) (L0.length) (L0.length) (v6) (a4) (((((a3 + a5) / (2 : Int)) + a4) - v6))  y16_0 0 1)), (1, (Zak (y16_0) (L0.length) (L0.length) (a3) (v6) (((a3 + a5) / (2 : Int)))  y18_0 0 1)), (2, (Zak (y18_0) (L0.length) (L0.length) (((a3 + a5) / (2 : Int))) (((((a3 + a5) / (2 : Int)) + a4) - v6)) (a5)  y20_0 0 1))])) (live := [0]) (u := vtt) (bl := [some (.cells (Zd E_ii y20_0) 43)]) (ob := [(dP (ZY #[vs 0 0 L0.length L0.length, vi ((a3 + a5) / (2 : Int)), vi ((((a3 + a5) / (2 : Int)) + a4) - v6), vi a5, Value.func (.func 11) #[] #[]] (y18_0) (L0.length) (L0.length) (((a3 + a5) / (2 : Int))) (((((a3 + a5) / (2 : Int)) + a4) - v6)) (a5)  y20_0 0 1), true), (dS (Zd E_ii y18_0), true), ((decide (((((a3 + a5) / (2 : Int)) + a4) - v6) < a5)), true), ((decide (((a3 + a5) / (2 : Int)) < ((((a3 + a5) / (2 : Int)) + a4) - v6))), true), (dP (ZY #[vs 0 0 L0.length L0.length, vi a3, vi v6, vi ((a3 + a5) / (2 : Int)), Value.func (.func 11) #[] #[]] (y16_0) (L0.length) (L0.length) (a3) (v6) (((a3 + a5) / (2 : Int)))  y18_0 0 1), true), (dS (Zd E_ii y16_0), true), ((decide (v6 < ((a3 + a5) / (2 : Int)))), true), ((decide (a3 < v6)), true), (dP (ZbE #[vs 0 0 L0.length L0.length, vi v6, vi a4, vi ((((a3 + a5) / (2 : Int)) + a4) - v6), Value.func (.func 11) #[] #[]] (L0) (L0.length) (L0.length) (v6) (a4) (((((a3 + a5) / (2 : Int)) + a4) - v6))  y16_0 0 1), true), (dS (Zd E_ii L0), true), ((decide (a4 < ((((a3 + a5) / (2 : Int)) + a4) - v6))), true), ((decide (v6 < a4)), true), ((IntKind.i64.wrap ((((a3 + a5) / (2 : Int)) + a4) - v6)) == ((((a3 + a5) / (2 : Int)) + a4) - v6), true), ((decide (v6 < v7)), false)]) (fun gv => by kernel_rfl) (Zc (Zl (ZaF #[vs 0 0 L0.length L0.length, vi ((a3 + a5) / (2 : Int)), vi ((((a3 + a5) / (2 : Int)) + a4) - v6), vi a5, Value.func (.func 11) #[] #[]] (y18_0) (L0.length) (L0.length) (((a3 + a5) / (2 : Int))) (((((a3 + a5) / (2 : Int)) + a4) - v6)) (a5)  y20_0 (hrec (y18_0) (L0.length) (L0.length) (((a3 + a5) / (2 : Int))) (((((a3 + a5) / (2 : Int)) + a4) - v6)) (a5)  _ c20) 0 1 rfl (by decide) (by decide))) <| oR <| oY <| oY <| Zc (Zl (ZaF #[vs 0 0 L0.length L0.length, vi a3, vi v6, vi ((a3 + a5) / (2 : Int)), Value.func (.func 11) #[] #[]] (y16_0) (L0.length) (L0.length) (a3) (v6) (((a3 + a5) / (2 : Int)))  y18_0 (hrec (y16_0) (L0.length) (L0.length) (a3) (v6) (((a3 + a5) / (2 : Int)))  _ c18) 0 1 rfl (by decide) (by decide))) <| oR <| oY <| oY <| Zc (Zl (Zcq #[vs 0 0 L0.length L0.length, vi v6, vi a4, vi ((((a3 + a5) / (2 : Int)) + a4) - v6), Value.func (.func 11) #[] #[]] (L0) (L0.length) (L0.length) (v6) (a4) (((((a3 + a5) / (2 : Int)) + a4) - v6))  y16_0 N c16 0 1 rfl (by decide) (by decide))) <| oR <| oY <| oY <| Zc (beq_iff_eq.2 ((wrap_i64 ltA).trans (by first | rfl | omega))) <| oN Zi) rfl (by decide) (by rfl) rr ⟨(Zj (E := E_ii) (α := R_ii) _ y20_0 _), trivial⟩
       ·
        exact Mach.ok_fin (M := Zk rec L0 n1 n2 a3 a4 a5 N) (cd := 1000000) (cm := 0) (r := (.r0 (y18_0) : Zf)) (fu := 4000) (orc := (Zr [(0, false), (1, true), (2, true), (3, true), (4, true), (5, true), (6, false)] [(0, ((((a3 + a5) / (2 : Int)) + a4) - v6))] [] [] [(0, (Zcp (L0) (L0.length) (L0.length) (v6) (a4) (((((a3 + a5) / (2 : Int)) + a4) - v6))  y16_0 0 1)), (1, (Zak (y16_0) (L0.length) (L0.length) (a3) (v6) (((a3 + a5) / (2 : Int)))  y18_0 0 1))])) (live := [0]) (u := vtt) (bl := [some (.cells (Zd E_ii y18_0) 43)]) (ob := [((decide (((((a3 + a5) / (2 : Int)) + a4) - v6) < a5)), false), ((decide (((a3 + a5) / (2 : Int)) < ((((a3 + a5) / (2 : Int)) + a4) - v6))), true), (dP (ZY #[vs 0 0 L0.length L0.length, vi a3, vi v6, vi ((a3 + a5) / (2 : Int)), Value.func (.func 11) #[] #[]] (y16_0) (L0.length) (L0.length) (a3) (v6) (((a3 + a5) / (2 : Int)))  y18_0 0 1), true), (dS (Zd E_ii y16_0), true), ((decide (v6 < ((a3 + a5) / (2 : Int)))), true), ((decide (a3 < v6)), true), (dP (ZbE #[vs 0 0 L0.length L0.length, vi v6, vi a4, vi ((((a3 + a5) / (2 : Int)) + a4) - v6), Value.func (.func 11) #[] #[]] (L0) (L0.length) (L0.length) (v6) (a4) (((((a3 + a5) / (2 : Int)) + a4) - v6))  y16_0 0 1), true), (dS (Zd E_ii L0), true), ((decide (a4 < ((((a3 + a5) / (2 : Int)) + a4) - v6))), true), ((decide (v6 < a4)), true), ((IntKind.i64.wrap ((((a3 + a5) / (2 : Int)) + a4) - v6)) == ((((a3 + a5) / (2 : Int)) + a4) - v6), true), ((decide (v6 < v7)), false)]) (fun gv => by kernel_rfl) (oN <| oY <| Zc (Zl (ZaF #[vs 0 0 L0.length L0.length, vi a3, vi v6, vi ((a3 + a5) / (2 : Int)), Value.func (.func 11) #[] #[]] (y16_0) (L0.length) (L0.length) (a3) (v6) (((a3 + a5) / (2 : Int)))  y18_0 (hrec (y16_0) (L0.length) (L0.length) (a3) (v6) (((a3 + a5) / (2 : Int)))  _ c18) 0 1 rfl (by decide) (by decide))) <| oR <| oY <| oY <| Zc (Zl (Zcq #[vs 0 0 L0.length L0.length, vi v6, vi a4, vi ((((a3 + a5) / (2 : Int)) + a4) - v6), Value.func (.func 11) #[] #[]] (L0) (L0.length) (L0.length) (v6) (a4) (((((a3 + a5) / (2 : Int)) + a4) - v6))  y16_0 N c16 0 1 rfl (by decide) (by decide))) <| oR <| oY <| oY <| Zc (beq_iff_eq.2 ((wrap_i64 ltA).trans (by first | rfl | omega))) <| oN Zi) rfl (by decide) (by rfl) rr ⟨(Zj (E := E_ii) (α := R_ii) _ y18_0 _), trivial⟩
     ·
      refine Mach.ok_ite (fun g18 => ?_) (fun g18 => ?_)
      ·
       refine Mach.ok_bind (fun z19 c19 => ?_)
       cases z19 with
       | r0 y19_0 =>
        exact Mach.ok_fin (M := Zk rec L0 n1 n2 a3 a4 a5 N) (cd := 1000000) (cm := 0) (r := (.r0 (y19_0) : Zf)) (fu := 4000) (orc := (Zr [(0, false), (1, true), (2, true), (3, false), (4, true), (5, true)] [(0, ((((a3 + a5) / (2 : Int)) + a4) - v6))] [] [] [(0, (Zcp (L0) (L0.length) (L0.length) (v6) (a4) (((((a3 + a5) / (2 : Int)) + a4) - v6))  y16_0 0 1)), (1, (Zak (y16_0) (L0.length) (L0.length) (((a3 + a5) / (2 : Int))) (((((a3 + a5) / (2 : Int)) + a4) - v6)) (a5)  y19_0 0 1))])) (live := [0]) (u := vtt) (bl := [some (.cells (Zd E_ii y19_0) 43)]) (ob := [(dP (ZY #[vs 0 0 L0.length L0.length, vi ((a3 + a5) / (2 : Int)), vi ((((a3 + a5) / (2 : Int)) + a4) - v6), vi a5, Value.func (.func 11) #[] #[]] (y16_0) (L0.length) (L0.length) (((a3 + a5) / (2 : Int))) (((((a3 + a5) / (2 : Int)) + a4) - v6)) (a5)  y19_0 0 1), true), (dS (Zd E_ii y16_0), true), ((decide (((((a3 + a5) / (2 : Int)) + a4) - v6) < a5)), true), ((decide (((a3 + a5) / (2 : Int)) < ((((a3 + a5) / (2 : Int)) + a4) - v6))), true), ((decide (a3 < v6)), false), (dP (ZbE #[vs 0 0 L0.length L0.length, vi v6, vi a4, vi ((((a3 + a5) / (2 : Int)) + a4) - v6), Value.func (.func 11) #[] #[]] (L0) (L0.length) (L0.length) (v6) (a4) (((((a3 + a5) / (2 : Int)) + a4) - v6))  y16_0 0 1), true), (dS (Zd E_ii L0), true), ((decide (a4 < ((((a3 + a5) / (2 : Int)) + a4) - v6))), true), ((decide (v6 < a4)), true), ((IntKind.i64.wrap ((((a3 + a5) / (2 : Int)) + a4) - v6)) == ((((a3 + a5) / (2 : Int)) + a4) - v6), true), ((decide (v6 < v7)), false)]) (fun gv => by kernel_rfl) (Zc (Zl (ZaF #[vs 0 0 L0.length L0.length, vi ((a3 + a5) / (2 : Int)), vi ((((a3 + a5) / (2 : Int)) + a4) - v6), vi a5, Value.func (.func 11) #[] #[]] (y16_0) (L0.length) (L0.length) (((a3 + a5) / (2 : Int))) (((((a3 + a5) / (2 : Int)) + a4) - v6)) (a5)  y19_0 (hrec (y16_0) (L0.length) (L0.length) (((a3 + a5) / (2 : Int))) (((((a3 + a5) / (2 : Int)) + a4) - v6)) (a5)  _ c19) 0 1 rfl (by decide) (by decide))) <| oR <| oY <| oY <| oN <| Zc (Zl (Zcq #[vs 0 0 L0.length L0.length, vi v6, vi a4, vi ((((a3 + a5) / (2 : Int)) + a4) - v6), Value.func (.func 11) #[] #[]] (L0) (L0.length) (L0.length) (v6) (a4) (((((a3 + a5) / (2 : Int)) + a4) - v6))  y16_0 N c16 0 1 rfl (by decide) (by decide))) <| oR <| oY <| oY <| Zc (beq_iff_eq.2 ((wrap_i64 ltA).trans (by first | rfl | omega))) <| oN Zi) rfl (by decide) (by rfl) rr ⟨(Zj (E := E_ii) (α := R_ii) _ y19_0 _), trivial⟩
      ·
       exact Mach.ok_fin (M := Zk rec L0 n1 n2 a3 a4 a5 N) (cd := 1000000) (cm := 0) (r := (.r0 (y16_0) : Zf)) (fu := 4000) (orc := (Zr [(0, false), (1, true), (2, true), (3, false), (4, true), (5, false)] [(0, ((((a3 + a5) / (2 : Int)) + a4) - v6))] [] [] [(0, (Zcp (L0) (L0.length) (L0.length) (v6) (a4) (((((a3 + a5) / (2 : Int)) + a4) - v6))  y16_0 0 1))])) (live := [0]) (u := vtt) (bl := [some (.cells (Zd E_ii y16_0) 43)]) (ob := [((decide (((((a3 + a5) / (2 : Int)) + a4) - v6) < a5)), false), ((decide (((a3 + a5) / (2 : Int)) < ((((a3 + a5) / (2 : Int)) + a4) - v6))), true), ((decide (a3 < v6)), false), (dP (ZbE #[vs 0 0 L0.length L0.length, vi v6, vi a4, vi ((((a3 + a5) / (2 : Int)) + a4) - v6), Value.func (.func 11) #[] #[]] (L0) (L0.length) (L0.length) (v6) (a4) (((((a3 + a5) / (2 : Int)) + a4) - v6))  y16_0 0 1), true), (dS (Zd E_ii L0), true), ((decide (a4 < ((((a3 + a5) / (2 : Int)) + a4) - v6))), true), ((decide (v6 < a4)), true), ((IntKind.i64.wrap ((((a3 + a5) / (2 : Int)) + a4) - v6)) == ((((a3 + a5) / (2 : Int)) + a4) - v6), true), ((decide (v6 < v7)), false)]) (fun gv => by kernel_rfl) (oN <| oY <| oN <| Zc (Zl (Zcq #[vs 0 0 L0.length L0.length, vi v6, vi a4, vi ((((a3 + a5) / (2 : Int)) + a4) - v6), Value.func (.func 11) #[] #[]] (L0) (L0.length) (L0.length) (v6) (a4) (((((a3 + a5) / (2 : Int)) + a4) - v6))  y16_0 N c16 0 1 rfl (by decide) (by decide))) <| oR <| oY <| oY <| Zc (beq_iff_eq.2 ((wrap_i64 ltA).trans (by first | rfl | omega))) <| oN Zi) rfl (by decide) (by rfl) rr ⟨(Zj (E := E_ii) (α := R_ii) _ y16_0 _), trivial⟩
   ·
    refine Mach.ok_ite (fun g16 => ?_) (fun g16 => ?_)
    ·
     refine Mach.ok_ite (fun g17 => ?_) (fun g17 => ?_)
     ·
      refine Mach.ok_bind (fun z18 c18 => ?_)
      cases z18 with
      | r0 y18_0 =>
       exact Mach.ok_fin (M := Zk rec L0 n1 n2 a3 a4 a5 N) (cd := 1000000) (cm := 0) (r := (.r0 (y18_0) : Zf)) (fu := 4000) (orc := (Zr [(0, false), (1, true), (2, false), (3, true), (4, false), (5, true), (6, true)] [(0, ((((a3 + a5) / (2 : Int)) + a4) - v6))] [] [] [(0, (Zak (L0) (L0.length) (L0.length) (((a3 + a5) / (2 : Int))) (((((a3 + a5) / (2 : Int)) + a4) - v6)) (a5)  y18_0 0 1))])) (live := [0]) (u := vtt) (bl := [some (.cells (Zd E_ii y18_0) 43)]) (ob := [(dP (ZY #[vs 0 0 L0.length L0.length, vi ((a3 + a5) / (2 : Int)), vi ((((a3 + a5) / (2 : Int)) + a4) - v6), vi a5, Value.func (.func 11) #[] #[]] (L0) (L0.length) (L0.length) (((a3 + a5) / (2 : Int))) (((((a3 + a5) / (2 : Int)) + a4) - v6)) (a5)  y18_0 0 1), true), (dS (Zd E_ii L0), true), ((decide (((((a3 + a5) / (2 : Int)) + a4) - v6) < a5)), true), ((decide (((a3 + a5) / (2 : Int)) < ((((a3 + a5) / (2 : Int)) + a4) - v6))), true), ((decide (v6 < ((a3 + a5) / (2 : Int)))), false), ((decide (a3 < v6)), true), ((decide (a4 < ((((a3 + a5) / (2 : Int)) + a4) - v6))), false), ((decide (v6 < a4)), true), ((IntKind.i64.wrap ((((a3 + a5) / (2 : Int)) + a4) - v6)) == ((((a3 + a5) / (2 : Int)) + a4) - v6), true), ((decide (v6 < v7)), false)]) (fun gv => by kernel_rfl) (Zc (Zl (ZaF #[vs 0 0 L0.length L0.length, vi ((a3 + a5) / (2 : Int)), vi ((((a3 + a5) / (2 : Int)) + a4) - v6), vi a5, Value.func (.func 11) #[] #[]] (L0) (L0.length) (L0.length) (((a3 + a5) / (2 : Int))) (((((a3 + a5) / (2 : Int)) + a4) - v6)) (a5)  y18_0 (hrec (L0) (L0.length) (L0.length) (((a3 + a5) / (2 : Int))) (((((a3 + a5) / (2 : Int)) + a4) - v6)) (a5)  _ c18) 0 1 rfl (by decide) (by decide))) <| oR <| oY <| oY <| oN <| oY <| oN <| oY <| Zc (beq_iff_eq.2 ((wrap_i64 ltA).trans (by first | rfl | omega))) <| oN Zi) rfl (by decide) (by rfl) rr ⟨(Zj (E := E_ii) (α := R_ii) _ y18_0 _), trivial⟩
     ·
      exact Mach.ok_fin (M := Zk rec L0 n1 n2 a3 a4 a5 N) (cd := 1000000) (cm := 0) (r := (.r0 (L0) : Zf)) (fu := 4000) (orc := (Zr [(0, false), (1, true), (2, false), (3, true), (4, false), (5, true), (6, false)] [(0, ((((a3 + a5) / (2 : Int)) + a4) - v6))] [] [] [])) (live := [0]) (u := vtt) (bl := [some (.cells (Zd E_ii L0) 43)]) (ob := [((decide (((((a3 + a5) / (2 : Int)) + a4) - v6) < a5)), false), ((decide (((a3 + a5) / (2 : Int)) < ((((a3 + a5) / (2 : Int)) + a4) - v6))), true), ((decide (v6 < ((a3 + a5) / (2 : Int)))), false), ((decide (a3 < v6)), true), ((decide (a4 < ((((a3 + a5) / (2 : Int)) + a4) - v6))), false), ((decide (v6 < a4)), true), ((IntKind.i64.wrap ((((a3 + a5) / (2 : Int)) + a4) - v6)) == ((((a3 + a5) / (2 : Int)) + a4) - v6), true), ((decide (v6 < v7)), false)]) (fun gv => by kernel_rfl) (oN <| oY <| oN <| oY <| oN <| oY <| Zc (beq_iff_eq.2 ((wrap_i64 ltA).trans (by first | rfl | omega))) <| oN Zi) rfl (by decide) (by rfl) rr ⟨(Zj (E := E_ii) (α := R_ii) _ L0 _), trivial⟩
    ·
     exact Mach.ok_fin (M := Zk rec L0 n1 n2 a3 a4 a5 N) (cd := 1000000) (cm := 0) (r := (.r0 (L0) : Zf)) (fu := 4000) (orc := (Zr [(0, false), (1, true), (2, false), (3, false), (4, true), (5, false)] [(0, ((((a3 + a5) / (2 : Int)) + a4) - v6))] [] [] [])) (live := [0]) (u := vtt) (bl := [some (.cells (Zd E_ii L0) 43)]) (ob := [((decide (((((a3 + a5) / (2 : Int)) + a4) - v6) < a5)), false), ((decide (((a3 + a5) / (2 : Int)) < ((((a3 + a5) / (2 : Int)) + a4) - v6))), true), ((decide (a3 < v6)), false), ((decide (a4 < ((((a3 + a5) / (2 : Int)) + a4) - v6))), false), ((decide (v6 < a4)), true), ((IntKind.i64.wrap ((((a3 + a5) / (2 : Int)) + a4) - v6)) == ((((a3 + a5) / (2 : Int)) + a4) - v6), true), ((decide (v6 < v7)), false)]) (fun gv => by kernel_rfl) (oN <| oY <| oN <| oN <| oY <| Zc (beq_iff_eq.2 ((wrap_i64 ltA).trans (by first | rfl | omega))) <| oN Zi) rfl (by decide) (by rfl) rr ⟨(Zj (E := E_ii) (α := R_ii) _ L0 _), trivial⟩
  ·
   refine Mach.ok_ite (fun g15 => ?_) (fun g15 => ?_)
   ·
    refine Mach.ok_ite (fun g16 => ?_) (fun g16 => ?_)
    ·
     refine Mach.ok_bind (fun z17 c17 => ?_)
     cases z17 with
     | r0 y17_0 =>
      exact Mach.ok_fin (M := Zk rec L0 n1 n2 a3 a4 a5 N) (cd := 1000000) (cm := 0) (r := (.r0 (y17_0) : Zf)) (fu := 4000) (orc := (Zr [(0, false), (1, false), (2, true), (3, true), (4, false)] [(0, ((((a3 + a5) / (2 : Int)) + a4) - v6))] [] [] [(0, (Zak (L0) (L0.length) (L0.length) (a3) (v6) (((a3 + a5) / (2 : Int)))  y17_0 0 1))])) (live := [0]) (u := vtt) (bl := [some (.cells (Zd E_ii y17_0) 43)]) (ob := [((decide (((a3 + a5) / (2 : Int)) < ((((a3 + a5) / (2 : Int)) + a4) - v6))), false), (dP (ZY #[vs 0 0 L0.length L0.length, vi a3, vi v6, vi ((a3 + a5) / (2 : Int)), Value.func (.func 11) #[] #[]] (L0) (L0.length) (L0.length) (a3) (v6) (((a3 + a5) / (2 : Int)))  y17_0 0 1), true), (dS (Zd E_ii L0), true), ((decide (v6 < ((a3 + a5) / (2 : Int)))), true), ((decide (a3 < v6)), true), ((decide (v6 < a4)), false), ((IntKind.i64.wrap ((((a3 + a5) / (2 : Int)) + a4) - v6)) == ((((a3 + a5) / (2 : Int)) + a4) - v6), true), ((decide (v6 < v7)), false)]) (fun gv => by kernel_rfl) (oN <| Zc (Zl (ZaF #[vs 0 0 L0.length L0.length, vi a3, vi v6, vi ((a3 + a5) / (2 : Int)), Value.func (.func 11) #[] #[]] (L0) (L0.length) (L0.length) (a3) (v6) (((a3 + a5) / (2 : Int)))  y17_0 (hrec (L0) (L0.length) (L0.length) (a3) (v6) (((a3 + a5) / (2 : Int)))  _ c17) 0 1 rfl (by decide) (by decide))) <| oR <| oY <| oY <| oN <| Zc (beq_iff_eq.2 ((wrap_i64 ltA).trans (by first | rfl | omega))) <| oN Zi) rfl (by decide) (by rfl) rr ⟨(Zj (E := E_ii) (α := R_ii) _ y17_0 _), trivial⟩
    ·
     exact Mach.ok_fin (M := Zk rec L0 n1 n2 a3 a4 a5 N) (cd := 1000000) (cm := 0) (r := (.r0 (L0) : Zf)) (fu := 4000) (orc := (Zr [(0, false), (1, false), (2, true), (3, false), (4, false)] [(0, ((((a3 + a5) / (2 : Int)) + a4) - v6))] [] [] [])) (live := [0]) (u := vtt) (bl := [some (.cells (Zd E_ii L0) 43)]) (ob := [((decide (((a3 + a5) / (2 : Int)) < ((((a3 + a5) / (2 : Int)) + a4) - v6))), false), ((decide (v6 < ((a3 + a5) / (2 : Int)))), false), ((decide (a3 < v6)), true), ((decide (v6 < a4)), false), ((IntKind.i64.wrap ((((a3 + a5) / (2 : Int)) + a4) - v6)) == ((((a3 + a5) / (2 : Int)) + a4) - v6), true), ((decide (v6 < v7)), false)]) (fun gv => by kernel_rfl) (oN <| oN <| oY <| oN <| Zc (beq_iff_eq.2 ((wrap_i64 ltA).trans (by first | rfl | omega))) <| oN Zi) rfl (by decide) (by rfl) rr ⟨(Zj (E := E_ii) (α := R_ii) _ L0 _), trivial⟩
   ·
    exact Mach.ok_fin (M := Zk rec L0 n1 n2 a3 a4 a5 N) (cd := 1000000) (cm := 0) (r := (.r0 (L0) : Zf)) (fu := 4000) (orc := (Zr [(0, false), (1, false), (2, false), (3, false)] [(0, ((((a3 + a5) / (2 : Int)) + a4) - v6))] [] [] [])) (live := [0]) (u := vtt) (bl := [some (.cells (Zd E_ii L0) 43)]) (ob := [((decide (((a3 + a5) / (2 : Int)) < ((((a3 + a5) / (2 : Int)) + a4) - v6))), false), ((decide (a3 < v6)), false), ((decide (v6 < a4)), false), ((IntKind.i64.wrap ((((a3 + a5) / (2 : Int)) + a4) - v6)) == ((((a3 + a5) / (2 : Int)) + a4) - v6), true), ((decide (v6 < v7)), false)]) (fun gv => by kernel_rfl) (oN <| oN <| oN <| Zc (beq_iff_eq.2 ((wrap_i64 ltA).trans (by first | rfl | omega))) <| oN Zi) rfl (by decide) (by rfl) rr ⟨(Zj (E := E_ii) (α := R_ii) _ L0 _), trivial⟩

theorem ZfN (rec : List R_ii → Nat → Nat → Int → Int → Int → Option Zf) (hrec : ∀ (L0 : List R_ii) (n1 n2 : Nat) (a3 a4 a5 : Int) (r : Zf), rec L0 n1 n2 a3 a4 a5 = some r → LSpec Tryz.prog 39 #[vs 0 0 n1 n2, vi a3, vi a4, vi a5, Value.func (.func 11) #[] #[]] [.cells (Zd E_ii L0) 43] (Zax L0 n1 n2 a3 a4 a5 r) (Zau L0 n1 n2 a3 a4 a5 r)) (L0 : List R_ii) (n1 n2 : Nat) (a3 a4 a5 : Int) (v0 : List R_ii) (v1 v2 : Int) (N : Nat) : (Zk rec L0 n1 n2 a3 a4 a5 N).Ok Tryz.prog Zw (.h4m0 v0 v1 v2 : Zg) (ZF rec L0 n1 n2 a3 a4 a5 N (.h4m0 v0 v1 v2 : Zg)) := by
 show (Zk rec L0 n1 n2 a3 a4 a5 N).Ok Tryz.prog Zw (.h4m0 v0 v1 v2 : Zg) (Zam rec L0 n1 n2 a3 a4 a5 N v0 v1 v2)
 unfold Zam
 refine Mach.ok_ite (fun g0 => ?_) (fun _ => Mach.ok_none)
 refine Mach.ok_ite (fun g1 => ?_) (fun _ => Mach.ok_none)
 refine Mach.ok_ite (fun g2 => ?_) (fun _ => Mach.ok_none)
 refine Mach.ok_ite (fun g3 => ?_) (fun _ => Mach.ok_none)
 refine Mach.ok_ite (fun g4 => ?_) (fun _ => Mach.ok_none)
 refine Mach.ok_ite (fun g5 => ?_) (fun _ => Mach.ok_none)
 refine Mach.ok_ite (fun g6 => ?_) (fun _ => Mach.ok_none)
 refine Mach.ok_ite (fun g7 => ?_) (fun _ => Mach.ok_none)
 refine Mach.ok_ite (fun g8 => ?_) (fun _ => Mach.ok_none)
 refine Mach.ok_ite (fun g9 => ?_) (fun _ => Mach.ok_none)
 refine Mach.ok_ite (fun g10 => ?_) (fun _ => Mach.ok_none)
 refine Mach.ok_ite (fun g11 => ?_) (fun _ => Mach.ok_none)
 refine Mach.ok_ite (fun g12 => ?_) (fun _ => Mach.ok_none)
 refine Mach.ok_ite (fun g13 => ?_) (fun _ => Mach.ok_none)
 refine Mach.ok_ite (fun g14 => ?_) (fun g14 => ?_)
 ·
  refine Mach.ok_ite (fun g15 => ?_) (fun _ => Mach.ok_none)
  exact Mach.ok_next (M := Zk rec L0 n1 n2 a3 a4 a5 N) (cd := 1000000) (cm := 0) (y := (.h4m0 (((v0.set (v2).toNat (⟨(v0.getD ((v2 + (1 : Int))).toNat R_ii.z).a0, (v0.getD ((v2 + (1 : Int))).toNat R_ii.z).a1⟩ : R_ii)).set ((v2 + (1 : Int))).toNat (⟨(v0.getD (v2).toNat R_ii.z).a0, (v0.getD (v2).toNat R_ii.z).a1⟩ : R_ii))) (v1) ((v2 + (1 : Int))) : Zg)) (fu := 4000) (orc := (Zr [(0, true)] [(0, (v1 - (1 : Int))), (1, (v2 + (1 : Int))), (2, (v2 + (1 : Int))), (3, (v2 + (1 : Int)))] [(0, ((v2 + (1 : Int))).toNat), (1, (v2).toNat), (2, (v2).toNat), (3, ((v2 + (1 : Int))).toNat)] [(0, [.i (v0.getD ((v2 + (1 : Int))).toNat R_ii.z).a0, .i (v0.getD ((v2 + (1 : Int))).toNat R_ii.z).a1]), (1, [.i (v0.getD (v2).toNat R_ii.z).a0, .i (v0.getD (v2).toNat R_ii.z).a1])] [(0, .st (Zd E_ii (v0.set (v2).toNat (⟨(v0.getD ((v2 + (1 : Int))).toNat R_ii.z).a0, (v0.getD ((v2 + (1 : Int))).toNat R_ii.z).a1⟩ : R_ii)))), (1, .st (Zd E_ii ((v0.set (v2).toNat (⟨(v0.getD ((v2 + (1 : Int))).toNat R_ii.z).a0, (v0.getD ((v2 + (1 : Int))).toNat R_ii.z).a1⟩ : R_ii)).set ((v2 + (1 : Int))).toNat (⟨(v0.getD (v2).toNat R_ii.z).a0, (v0.getD (v2).toNat R_ii.z).a1⟩ : R_ii))))])) (live := [0]) (tv := fun _ => [some (vs 0 0 v0.length v0.length), some (vi v1), some (vi (v2 + (1 : Int)))]) (bl := [some (.cells (Zd E_ii ((v0.set (v2).toNat (⟨(v0.getD ((v2 + (1 : Int))).toNat R_ii.z).a0, (v0.getD ((v2 + (1 : Int))).toNat R_ii.z).a1⟩ : R_ii)).set ((v2 + (1 : Int))).toNat (⟨(v0.getD (v2).toNat R_ii.z).a0, (v0.getD (v2).toNat R_ii.z).a1⟩ : R_ii))) 43)]) (ob := [((IntKind.i64.wrap (v2 + (1 : Int))) == (v2 + (1 : Int)), true), (dP ((0 + (((v2 + (1 : Int))).toNat * 2)) + ([vi (v0.getD (v2).toNat R_ii.z).a0, vi (v0.getD (v2).toNat R_ii.z).a1] : List Value).length ≤ ((Zd E_ii (v0.set (v2).toNat (⟨(v0.getD ((v2 + (1 : Int))).toNat R_ii.z).a0, (v0.getD ((v2 + (1 : Int))).toNat R_ii.z).a1⟩ : R_ii))) : List Value).length ∧ ZeB (Zd E_ii (v0.set (v2).toNat (⟨(v0.getD ((v2 + (1 : Int))).toNat R_ii.z).a0, (v0.getD ((v2 + (1 : Int))).toNat R_ii.z).a1⟩ : R_ii))) (0 + (((v2 + (1 : Int))).toNat * 2)) [vi (v0.getD (v2).toNat R_ii.z).a0, vi (v0.getD (v2).toNat R_ii.z).a1] = (Zd E_ii ((v0.set (v2).toNat (⟨(v0.getD ((v2 + (1 : Int))).toNat R_ii.z).a0, (v0.getD ((v2 + (1 : Int))).toNat R_ii.z).a1⟩ : R_ii)).set ((v2 + (1 : Int))).toNat (⟨(v0.getD (v2).toNat R_ii.z).a0, (v0.getD (v2).toNat R_ii.z).a1⟩ : R_ii)))), true), (Nat.blt ((v2 + (1 : Int))).toNat v0.length, true), ((v2 + (1 : Int)) == Int.ofNat ((v2 + (1 : Int))).toNat, true), (dP ((0 + ((v2).toNat * 2)) + ([vi (v0.getD ((v2 + (1 : Int))).toNat R_ii.z).a0, vi (v0.getD ((v2 + (1 : Int))).toNat R_ii.z).a1] : List Value).length ≤ ((Zd E_ii v0) : List Value).length ∧ ZeB (Zd E_ii v0) (0 + ((v2).toNat * 2)) [vi (v0.getD ((v2 + (1 : Int))).toNat R_ii.z).a0, vi (v0.getD ((v2 + (1 : Int))).toNat R_ii.z).a1] = (Zd E_ii (v0.set (v2).toNat (⟨(v0.getD ((v2 + (1 : Int))).toNat R_ii.z).a0, (v0.getD ((v2 + (1 : Int))).toNat R_ii.z).a1⟩ : R_ii)))), true), (Nat.blt (v2).toNat v0.length, true), (v2 == Int.ofNat (v2).toNat, true), (ZS (Z3 2 (List.drop (0 + ((v2).toNat * 2)) (Zd E_ii v0))) [.i (v0.getD (v2).toNat R_ii.z).a0, .i (v0.getD (v2).toNat R_ii.z).a1], true), (Nat.blt (v2).toNat v0.length, true), (v2 == Int.ofNat (v2).toNat, true), (ZS (Z3 2 (List.drop (0 + (((v2 + (1 : Int))).toNat * 2)) (Zd E_ii v0))) [.i (v0.getD ((v2 + (1 : Int))).toNat R_ii.z).a0, .i (v0.getD ((v2 + (1 : Int))).toNat R_ii.z).a1], true), (Nat.blt ((v2 + (1 : Int))).toNat v0.length, true), ((v2 + (1 : Int)) == Int.ofNat ((v2 + (1 : Int))).toNat, true), ((IntKind.i64.wrap (v2 + (1 : Int))) == (v2 + (1 : Int)), true), ((IntKind.i64.wrap (v2 + (1 : Int))) == (v2 + (1 : Int)), true), ((decide (v2 < (v1 - (1 : Int)))), true), ((IntKind.i64.wrap (v1 - (1 : Int))) == (v1 - (1 : Int)), true)]) rfl (show 4 ∈ Zq (ZR 4) from by decide +kernel) (fun gv => by kernel_rfl) (Zc (beq_iff_eq.2 ((wrap_i64 ltA).trans (by first | rfl | omega))) <| Zc (Zl (Zge (E := E_ii) (L := (v0.set (v2).toNat (⟨(v0.getD ((v2 + (1 : Int))).toNat R_ii.z).a0, (v0.getD ((v2 + (1 : Int))).toNat R_ii.z).a1⟩ : R_ii))) (i := ((v2 + (1 : Int))).toNat) (q := 0) (l := [vi (v0.getD (v2).toNat R_ii.z).a0, vi (v0.getD (v2).toNat R_ii.z).a1]) (⟨(v0.getD (v2).toNat R_ii.z).a0, (v0.getD (v2).toNat R_ii.z).a1⟩ : R_ii) ltA (show (0 + (((v2 + (1 : Int))).toNat * 2)) = ((v2 + (1 : Int))).toNat * 2 + 0 from by omega) (show 0 + 2 ≤ 2 from by decide) rfl)) <| oB <| oI <| Zc (Zl (Zge (E := E_ii) (L := v0) (i := (v2).toNat) (q := 0) (l := [vi (v0.getD ((v2 + (1 : Int))).toNat R_ii.z).a0, vi (v0.getD ((v2 + (1 : Int))).toNat R_ii.z).a1]) (⟨(v0.getD ((v2 + (1 : Int))).toNat R_ii.z).a0, (v0.getD ((v2 + (1 : Int))).toNat R_ii.z).a1⟩ : R_ii) (by omega) (show (0 + ((v2).toNat * 2)) = (v2).toNat * 2 + 0 from by omega) (show 0 + 2 ≤ 2 from by decide) rfl)) <| oB <| oI <| Zc (Zy (E := E_ii) (L := v0) (i := (v2).toNat) (q := 0) (by omega) (show (0 + ((v2).toNat * 2)) = (v2).toNat * 2 + 0 from by omega) (show 0 + 2 ≤ 2 from by decide) rfl rfl) <| oB <| oI <| Zc (Zy (E := E_ii) (L := v0) (i := ((v2 + (1 : Int))).toNat) (q := 0) (by omega) (show (0 + (((v2 + (1 : Int))).toNat * 2)) = ((v2 + (1 : Int))).toNat * 2 + 0 from by omega) (show 0 + 2 ≤ 2 from by decide) rfl rfl) <| oB <| oI <| Zc (beq_iff_eq.2 ((wrap_i64 ltA).trans (by first | rfl | omega))) <| Zc (beq_iff_eq.2 ((wrap_i64 ltA).trans (by first | rfl | omega))) <| oY <| Zc (beq_iff_eq.2 ((wrap_i64 ltA).trans (by first | rfl | omega))) Zi) rfl (by decide) (by rfl) (fun _ => ⟨⟨Eq.trans (show (vs 0 0 ((v0.set (v2).toNat (⟨(v0.getD ((v2 + (1 : Int))).toNat R_ii.z).a0, (v0.getD ((v2 + (1 : Int))).toNat R_ii.z).a1⟩ : R_ii)).set ((v2 + (1 : Int))).toNat (⟨(v0.getD (v2).toNat R_ii.z).a0, (v0.getD (v2).toNat R_ii.z).a1⟩ : R_ii)).length ((v0.set (v2).toNat (⟨(v0.getD ((v2 + (1 : Int))).toNat R_ii.z).a0, (v0.getD ((v2 + (1 : Int))).toNat R_ii.z).a1⟩ : R_ii)).set ((v2 + (1 : Int))).toNat (⟨(v0.getD (v2).toNat R_ii.z).a0, (v0.getD (v2).toNat R_ii.z).a1⟩ : R_ii)).length : Value) = vs 0 0 v0.length v0.length from (ZbN rfl eqA eqA)) (by rfl), by rfl⟩, ⟨rr, ⟨rr, trivial⟩⟩⟩) ⟨(Zj (E := E_ii) (α := R_ii) _ ((v0.set (v2).toNat (⟨(v0.getD ((v2 + (1 : Int))).toNat R_ii.z).a0, (v0.getD ((v2 + (1 : Int))).toNat R_ii.z).a1⟩ : R_ii)).set ((v2 + (1 : Int))).toNat (⟨(v0.getD (v2).toNat R_ii.z).a0, (v0.getD (v2).toNat R_ii.z).a1⟩ : R_ii)) _), trivial⟩
 ·
  exact Mach.ok_fin (M := Zk rec L0 n1 n2 a3 a4 a5 N) (cd := 1000000) (cm := 0) (r := (.r0 (v0) : Zf)) (fu := 4000) (orc := (Zr [(0, false)] [(0, (v1 - (1 : Int)))] [] [] [])) (live := [0]) (u := vtt) (bl := [some (.cells (Zd E_ii v0) 43)]) (ob := [((decide (v2 < (v1 - (1 : Int)))), false), ((IntKind.i64.wrap (v1 - (1 : Int))) == (v1 - (1 : Int)), true)]) (fun gv => by kernel_rfl) (oN <| Zc (beq_iff_eq.2 ((wrap_i64 ltA).trans (by first | rfl | omega))) Zi) rfl (by decide) (by rfl) rr ⟨(Zj (E := E_ii) (α := R_ii) _ v0 _), trivial⟩

theorem ZfO (rec : List R_ii → Nat → Nat → Int → Int → Int → Option Zf) (hrec : ∀ (L0 : List R_ii) (n1 n2 : Nat) (a3 a4 a5 : Int) (r : Zf), rec L0 n1 n2 a3 a4 a5 = some r → LSpec Tryz.prog 39 #[vs 0 0 n1 n2, vi a3, vi a4, vi a5, Value.func (.func 11) #[] #[]] [.cells (Zd E_ii L0) 43] (Zax L0 n1 n2 a3 a4 a5 r) (Zau L0 n1 n2 a3 a4 a5 r)) (L0 : List R_ii) (n1 n2 : Nat) (a3 a4 a5 : Int) (v0 : List R_ii) (v1 v2 : Int) (N : Nat) : (Zk rec L0 n1 n2 a3 a4 a5 N).Ok Tryz.prog Zw (.h5m0 v0 v1 v2 : Zg) (ZF rec L0 n1 n2 a3 a4 a5 N (.h5m0 v0 v1 v2 : Zg)) := by
 show (Zk rec L0 n1 n2 a3 a4 a5 N).Ok Tryz.prog Zw (.h5m0 v0 v1 v2 : Zg) (Zan rec L0 n1 n2 a3 a4 a5 N v0 v1 v2)
 unfold Zan
 refine Mach.ok_ite (fun g0 => ?_) (fun _ => Mach.ok_none)
 refine Mach.ok_ite (fun g1 => ?_) (fun _ => Mach.ok_none)
 refine Mach.ok_ite (fun g2 => ?_) (fun _ => Mach.ok_none)
 refine Mach.ok_ite (fun g3 => ?_) (fun _ => Mach.ok_none)
 refine Mach.ok_ite (fun g4 => ?_) (fun _ => Mach.ok_none)
 refine Mach.ok_ite (fun g5 => ?_) (fun _ => Mach.ok_none)
 refine Mach.ok_ite (fun g6 => ?_) (fun _ => Mach.ok_none)
 refine Mach.ok_ite (fun g7 => ?_) (fun _ => Mach.ok_none)
 refine Mach.ok_ite (fun g8 => ?_) (fun _ => Mach.ok_none)
 refine Mach.ok_ite (fun g9 => ?_) (fun _ => Mach.ok_none)
 refine Mach.ok_ite (fun g10 => ?_) (fun _ => Mach.ok_none)
 refine Mach.ok_ite (fun g11 => ?_) (fun _ => Mach.ok_none)
 refine Mach.ok_ite (fun g12 => ?_) (fun _ => Mach.ok_none)
 refine Mach.ok_ite (fun g13 => ?_) (fun _ => Mach.ok_none)
 refine Mach.ok_ite (fun g14 => ?_) (fun g14 => ?_)
 ·
  refine Mach.ok_ite (fun g15 => ?_) (fun _ => Mach.ok_none)
  refine Mach.ok_ite (fun g16 => ?_) (fun _ => Mach.ok_none)
  exact Mach.ok_next (M := Zk rec L0 n1 n2 a3 a4 a5 N) (cd := 1000000) (cm := 0) (y := (.h5m0 (((v0.set (v2).toNat (⟨(v0.getD ((v2 - (1 : Int))).toNat R_ii.z).a0, (v0.getD ((v2 - (1 : Int))).toNat R_ii.z).a1⟩ : R_ii)).set ((v2 - (1 : Int))).toNat (⟨(v0.getD (v2).toNat R_ii.z).a0, (v0.getD (v2).toNat R_ii.z).a1⟩ : R_ii))) (v1) ((v2 - (1 : Int))) : Zg)) (fu := 4000) (orc := (Zr [(0, true)] [(0, (v2 - (1 : Int))), (1, (v2 - (1 : Int))), (2, (v2 - (1 : Int)))] [(0, ((v2 - (1 : Int))).toNat), (1, (v2).toNat), (2, (v2).toNat), (3, ((v2 - (1 : Int))).toNat)] [(0, [.i (v0.getD ((v2 - (1 : Int))).toNat R_ii.z).a0, .i (v0.getD ((v2 - (1 : Int))).toNat R_ii.z).a1]), (1, [.i (v0.getD (v2).toNat R_ii.z).a0, .i (v0.getD (v2).toNat R_ii.z).a1])] [(0, .st (Zd E_ii (v0.set (v2).toNat (⟨(v0.getD ((v2 - (1 : Int))).toNat R_ii.z).a0, (v0.getD ((v2 - (1 : Int))).toNat R_ii.z).a1⟩ : R_ii)))), (1, .st (Zd E_ii ((v0.set (v2).toNat (⟨(v0.getD ((v2 - (1 : Int))).toNat R_ii.z).a0, (v0.getD ((v2 - (1 : Int))).toNat R_ii.z).a1⟩ : R_ii)).set ((v2 - (1 : Int))).toNat (⟨(v0.getD (v2).toNat R_ii.z).a0, (v0.getD (v2).toNat R_ii.z).a1⟩ : R_ii))))])) (live := [0]) (tv := fun _ => [some (vs 0 0 v0.length v0.length), some (vi v1), some (vi (v2 - (1 : Int)))]) (bl := [some (.cells (Zd E_ii ((v0.set (v2).toNat (⟨(v0.getD ((v2 - (1 : Int))).toNat R_ii.z).a0, (v0.getD ((v2 - (1 : Int))).toNat R_ii.z).a1⟩ : R_ii)).set ((v2 - (1 : Int))).toNat (⟨(v0.getD (v2).toNat R_ii.z).a0, (v0.getD (v2).toNat R_ii.z).a1⟩ : R_ii))) 43)]) (ob := [((IntKind.i64.wrap (v2 - (1 : Int))) == (v2 - (1 : Int)), true), (dP ((0 + (((v2 - (1 : Int))).toNat * 2)) + ([vi (v0.getD (v2).toNat R_ii.z).a0, vi (v0.getD (v2).toNat R_ii.z).a1] : List Value).length ≤ ((Zd E_ii (v0.set (v2).toNat (⟨(v0.getD ((v2 - (1 : Int))).toNat R_ii.z).a0, (v0.getD ((v2 - (1 : Int))).toNat R_ii.z).a1⟩ : R_ii))) : List Value).length ∧ ZeB (Zd E_ii (v0.set (v2).toNat (⟨(v0.getD ((v2 - (1 : Int))).toNat R_ii.z).a0, (v0.getD ((v2 - (1 : Int))).toNat R_ii.z).a1⟩ : R_ii))) (0 + (((v2 - (1 : Int))).toNat * 2)) [vi (v0.getD (v2).toNat R_ii.z).a0, vi (v0.getD (v2).toNat R_ii.z).a1] = (Zd E_ii ((v0.set (v2).toNat (⟨(v0.getD ((v2 - (1 : Int))).toNat R_ii.z).a0, (v0.getD ((v2 - (1 : Int))).toNat R_ii.z).a1⟩ : R_ii)).set ((v2 - (1 : Int))).toNat (⟨(v0.getD (v2).toNat R_ii.z).a0, (v0.getD (v2).toNat R_ii.z).a1⟩ : R_ii)))), true), (Nat.blt ((v2 - (1 : Int))).toNat v0.length, true), ((v2 - (1 : Int)) == Int.ofNat ((v2 - (1 : Int))).toNat, true), (dP ((0 + ((v2).toNat * 2)) + ([vi (v0.getD ((v2 - (1 : Int))).toNat R_ii.z).a0, vi (v0.getD ((v2 - (1 : Int))).toNat R_ii.z).a1] : List Value).length ≤ ((Zd E_ii v0) : List Value).length ∧ ZeB (Zd E_ii v0) (0 + ((v2).toNat * 2)) [vi (v0.getD ((v2 - (1 : Int))).toNat R_ii.z).a0, vi (v0.getD ((v2 - (1 : Int))).toNat R_ii.z).a1] = (Zd E_ii (v0.set (v2).toNat (⟨(v0.getD ((v2 - (1 : Int))).toNat R_ii.z).a0, (v0.getD ((v2 - (1 : Int))).toNat R_ii.z).a1⟩ : R_ii)))), true), (Nat.blt (v2).toNat v0.length, true), (v2 == Int.ofNat (v2).toNat, true), (ZS (Z3 2 (List.drop (0 + ((v2).toNat * 2)) (Zd E_ii v0))) [.i (v0.getD (v2).toNat R_ii.z).a0, .i (v0.getD (v2).toNat R_ii.z).a1], true), (Nat.blt (v2).toNat v0.length, true), (v2 == Int.ofNat (v2).toNat, true), (ZS (Z3 2 (List.drop (0 + (((v2 - (1 : Int))).toNat * 2)) (Zd E_ii v0))) [.i (v0.getD ((v2 - (1 : Int))).toNat R_ii.z).a0, .i (v0.getD ((v2 - (1 : Int))).toNat R_ii.z).a1], true), (Nat.blt ((v2 - (1 : Int))).toNat v0.length, true), ((v2 - (1 : Int)) == Int.ofNat ((v2 - (1 : Int))).toNat, true), ((IntKind.i64.wrap (v2 - (1 : Int))) == (v2 - (1 : Int)), true), ((IntKind.i64.wrap (v2 - (1 : Int))) == (v2 - (1 : Int)), true), ((decide (v2 > v1)), true)]) rfl (show 5 ∈ Zq (ZR 5) from by decide +kernel) (fun gv => by kernel_rfl) (Zc (beq_iff_eq.2 ((wrap_i64 ltA).trans (by first | rfl | omega))) <| Zc (Zl (Zge (E := E_ii) (L := (v0.set (v2).toNat (⟨(v0.getD ((v2 - (1 : Int))).toNat R_ii.z).a0, (v0.getD ((v2 - (1 : Int))).toNat R_ii.z).a1⟩ : R_ii))) (i := ((v2 - (1 : Int))).toNat) (q := 0) (l := [vi (v0.getD (v2).toNat R_ii.z).a0, vi (v0.getD (v2).toNat R_ii.z).a1]) (⟨(v0.getD (v2).toNat R_ii.z).a0, (v0.getD (v2).toNat R_ii.z).a1⟩ : R_ii) ltA (show (0 + (((v2 - (1 : Int))).toNat * 2)) = ((v2 - (1 : Int))).toNat * 2 + 0 from by omega) (show 0 + 2 ≤ 2 from by decide) rfl)) <| oB <| oI <| Zc (Zl (Zge (E := E_ii) (L := v0) (i := (v2).toNat) (q := 0) (l := [vi (v0.getD ((v2 - (1 : Int))).toNat R_ii.z).a0, vi (v0.getD ((v2 - (1 : Int))).toNat R_ii.z).a1]) (⟨(v0.getD ((v2 - (1 : Int))).toNat R_ii.z).a0, (v0.getD ((v2 - (1 : Int))).toNat R_ii.z).a1⟩ : R_ii) (by omega) (show (0 + ((v2).toNat * 2)) = (v2).toNat * 2 + 0 from by omega) (show 0 + 2 ≤ 2 from by decide) rfl)) <| oB <| oI <| Zc (Zy (E := E_ii) (L := v0) (i := (v2).toNat) (q := 0) (by omega) (show (0 + ((v2).toNat * 2)) = (v2).toNat * 2 + 0 from by omega) (show 0 + 2 ≤ 2 from by decide) rfl rfl) <| oB <| oI <| Zc (Zy (E := E_ii) (L := v0) (i := ((v2 - (1 : Int))).toNat) (q := 0) (by omega) (show (0 + (((v2 - (1 : Int))).toNat * 2)) = ((v2 - (1 : Int))).toNat * 2 + 0 from by omega) (show 0 + 2 ≤ 2 from by decide) rfl rfl) <| oB <| oI <| Zc (beq_iff_eq.2 ((wrap_i64 ltA).trans (by first | rfl | omega))) <| Zc (beq_iff_eq.2 ((wrap_i64 ltA).trans (by first | rfl | omega))) <| oY Zi) rfl (by decide) (by rfl) (fun _ => ⟨⟨Eq.trans (show (vs 0 0 ((v0.set (v2).toNat (⟨(v0.getD ((v2 - (1 : Int))).toNat R_ii.z).a0, (v0.getD ((v2 - (1 : Int))).toNat R_ii.z).a1⟩ : R_ii)).set ((v2 - (1 : Int))).toNat (⟨(v0.getD (v2).toNat R_ii.z).a0, (v0.getD (v2).toNat R_ii.z).a1⟩ : R_ii)).length ((v0.set (v2).toNat (⟨(v0.getD ((v2 - (1 : Int))).toNat R_ii.z).a0, (v0.getD ((v2 - (1 : Int))).toNat R_ii.z).a1⟩ : R_ii)).set ((v2 - (1 : Int))).toNat (⟨(v0.getD (v2).toNat R_ii.z).a0, (v0.getD (v2).toNat R_ii.z).a1⟩ : R_ii)).length : Value) = vs 0 0 v0.length v0.length from (ZbN rfl eqA eqA)) (by rfl), by rfl⟩, ⟨rr, ⟨rr, trivial⟩⟩⟩) ⟨(Zj (E := E_ii) (α := R_ii) _ ((v0.set (v2).toNat (⟨(v0.getD ((v2 - (1 : Int))).toNat R_ii.z).a0, (v0.getD ((v2 - (1 : Int))).toNat R_ii.z).a1⟩ : R_ii)).set ((v2 - (1 : Int))).toNat (⟨(v0.getD (v2).toNat R_ii.z).a0, (v0.getD (v2).toNat R_ii.z).a1⟩ : R_ii)) _), trivial⟩
 ·
  exact Mach.ok_fin (M := Zk rec L0 n1 n2 a3 a4 a5 N) (cd := 1000000) (cm := 0) (r := (.r0 (v0) : Zf)) (fu := 4000) (orc := (Zr [(0, false)] [] [] [] [])) (live := [0]) (u := vtt) (bl := [some (.cells (Zd E_ii v0) 43)]) (ob := [((decide (v2 > v1)), false)]) (fun gv => by kernel_rfl) (oN Zi) rfl (by decide) (by rfl) rr ⟨(Zj (E := E_ii) (α := R_ii) _ v0 _), trivial⟩

theorem ZgS (rec : List R_ii → Nat → Nat → Int → Int → Int → Option Zf) (hrec : ∀ (L0 : List R_ii) (n1 n2 : Nat) (a3 a4 a5 : Int) (r : Zf), rec L0 n1 n2 a3 a4 a5 = some r → LSpec Tryz.prog 39 #[vs 0 0 n1 n2, vi a3, vi a4, vi a5, Value.func (.func 11) #[] #[]] [.cells (Zd E_ii L0) 43] (Zax L0 n1 n2 a3 a4 a5 r) (Zau L0 n1 n2 a3 a4 a5 r)) (L0 : List R_ii) (n1 n2 : Nat) (a3 a4 a5 : Int) (N : Nat) : (Zk rec L0 n1 n2 a3 a4 a5 N).Enter Tryz.prog Zw #[vs 0 0 n1 n2, vi a3, vi a4, vi a5, Value.func (.func 11) #[] #[]] (ZaJ rec L0 n1 n2 a3 a4 a5 N) := by
 unfold ZaJ
 refine Mach.en_ite (fun g0 => ?_) (fun _ => Mach.en_none)
 refine Mach.en_ite (fun g1 => ?_) (fun _ => Mach.en_none)
 refine Mach.en_ite (fun g2 => ?_) (fun _ => Mach.en_none)
 refine Mach.en_ite (fun g3 => ?_) (fun _ => Mach.en_none)
 refine Mach.en_ite (fun g4 => ?_) (fun _ => Mach.en_none)
 refine Mach.en_ite (fun g5 => ?_) (fun _ => Mach.en_none)
 refine Mach.en_ite (fun g6 => ?_) (fun _ => Mach.en_none)
 refine Mach.en_ite (fun g7 => ?_) (fun _ => Mach.en_none)
 refine Mach.en_ite (fun g8 => ?_) (fun _ => Mach.en_none)
 refine Mach.en_ite (fun g9 => ?_) (fun g9 => ?_)
 ·
  exact Mach.en_head (bK := Z1 1) (M := Zk rec L0 n1 n2 a3 a4 a5 N) (cd := 1000000) (cm := 0) (y := (.h1m0 (a4) (a5) : Zg)) (fu := 4000) (orc := (Zr [(0, true)] [(0, (a4 - a3))] [] [] [])) (live := [0]) (tv := [some (vs 0 0 n1 n2), some (vi a3), some (Value.func (.func 11) #[] #[]), some (vi a4), some (vi a5)]) (bl := [some (.cells (Zd E_ii L0) 43)]) (ob := [(((a4 - a3) == (1 : Int)), true), ((IntKind.i64.wrap (a4 - a3)) == (a4 - a3), true)]) rfl rfl (show Zq (Z1 1).2 = [] from rfl) (by kernel_rfl) (oT <| Zc (beq_iff_eq.2 ((wrap_i64 ltA).trans (by first | rfl | omega))) Zi) rfl (by decide) (by rfl) ⟨⟨Eq.trans (show (vs 0 0 L0.length L0.length : Value) = vs 0 0 n1 n2 from (ZbN rfl eqA eqA)) (by rfl), by rfl⟩, ⟨rr, ⟨rr, ⟨rr, ⟨rr, trivial⟩⟩⟩⟩⟩ ⟨(Zj (E := E_ii) (α := R_ii) _ L0 _), trivial⟩
 ·
  refine Mach.en_ite (fun g10 => ?_) (fun g10 => ?_)
  ·
   exact Mach.en_head (bK := Z1 2) (M := Zk rec L0 n1 n2 a3 a4 a5 N) (cd := 1000000) (cm := 0) (y := (.h2m0 (a3) (a4) : Zg)) (fu := 4000) (orc := (Zr [(0, false), (1, true)] [(0, (a4 - a3)), (1, (a5 - a4))] [] [] [])) (live := [0]) (tv := [some (vs 0 0 n1 n2), some (vi a4), some (Value.func (.func 11) #[] #[]), some (vi a3), some (vi a4)]) (bl := [some (.cells (Zd E_ii L0) 43)]) (ob := [(((a5 - a4) == (1 : Int)), true), ((IntKind.i64.wrap (a5 - a4)) == (a5 - a4), true), (((a4 - a3) == (1 : Int)), false), ((IntKind.i64.wrap (a4 - a3)) == (a4 - a3), true)]) rfl rfl (show Zq (Z1 2).2 = [] from rfl) (by kernel_rfl) (oT <| Zc (beq_iff_eq.2 ((wrap_i64 ltA).trans (by first | rfl | omega))) <| oF <| Zc (beq_iff_eq.2 ((wrap_i64 ltA).trans (by first | rfl | omega))) Zi) rfl (by decide) (by rfl) ⟨⟨Eq.trans (show (vs 0 0 L0.length L0.length : Value) = vs 0 0 n1 n2 from (ZbN rfl eqA eqA)) (by rfl), by rfl⟩, ⟨rr, ⟨rr, ⟨rr, ⟨rr, trivial⟩⟩⟩⟩⟩ ⟨(Zj (E := E_ii) (α := R_ii) _ L0 _), trivial⟩
  ·
   refine Mach.en_ite (fun g11 => ?_) (fun g11 => ?_)
   ·
    exact Mach.en_head (bK := Z1 3) (M := Zk rec L0 n1 n2 a3 a4 a5 N) (cd := 1000000) (cm := 0) (y := (.h3m0 (((((a3 + a5) / (2 : Int)) + a4) - a5)) (((a3 + a5) / (2 : Int))) : Zg)) (fu := 4000) (orc := (Zr [(0, false), (1, false), (2, true)] [(0, (a4 - a3)), (1, (a5 - a4)), (2, (a3 + a5)), (3, (a3 + a5)), (4, ((a3 + a5) / (2 : Int))), (5, ((a3 + a5) / (2 : Int))), (6, (((a3 + a5) / (2 : Int)) + a4)), (7, ((((a3 + a5) / (2 : Int)) + a4) - a5)), (8, ((((a3 + a5) / (2 : Int)) + a4) - (1 : Int)))] [] [] [])) (live := [0]) (tv := [some (vs 0 0 n1 n2), some (vi a3), some (vi a4), some (vi a5), some (Value.func (.func 11) #[] #[]), some (vi ((a3 + a5) / (2 : Int))), some (vi (((a3 + a5) / (2 : Int)) + a4)), some (vi ((((a3 + a5) / (2 : Int)) + a4) - a5)), some (vi ((a3 + a5) / (2 : Int))), some (vi ((((a3 + a5) / (2 : Int)) + a4) - (1 : Int)))]) (bl := [some (.cells (Zd E_ii L0) 43)]) (ob := [((IntKind.i64.wrap ((((a3 + a5) / (2 : Int)) + a4) - (1 : Int))) == ((((a3 + a5) / (2 : Int)) + a4) - (1 : Int)), true), ((IntKind.i64.wrap ((((a3 + a5) / (2 : Int)) + a4) - a5)) == ((((a3 + a5) / (2 : Int)) + a4) - a5), true), ((decide (a4 > ((a3 + a5) / (2 : Int)))), true), ((IntKind.i64.wrap (((a3 + a5) / (2 : Int)) + a4)) == (((a3 + a5) / (2 : Int)) + a4), true), ((IntKind.i64.wrap ((a3 + a5) / (2 : Int))) == ((a3 + a5) / (2 : Int)), true), ((Int.fdiv (a3 + a5) (2 ^ 1 : Int)) == ((a3 + a5) / (2 : Int)), true), ((IntKind.u64.wrap (a3 + a5)) == (a3 + a5), true), ((IntKind.i64.wrap (a3 + a5)) == (a3 + a5), true), (((a5 - a4) == (1 : Int)), false), ((IntKind.i64.wrap (a5 - a4)) == (a5 - a4), true), (((a4 - a3) == (1 : Int)), false), ((IntKind.i64.wrap (a4 - a3)) == (a4 - a3), true)]) rfl rfl (show Zq (Z1 3).2 = [] from rfl) (by kernel_rfl) (Zc (beq_iff_eq.2 ((wrap_i64 ltA).trans (by first | rfl | omega))) <| Zc (beq_iff_eq.2 ((wrap_i64 ltA).trans (by first | rfl | omega))) <| oY <| Zc (beq_iff_eq.2 ((wrap_i64 ltA).trans (by first | rfl | omega))) <| Zc (beq_iff_eq.2 (wrap_i64 ltA)) <| Zc (beq_iff_eq.2 (Int.fdiv_eq_ediv_of_nonneg _ (by decide))) <| Zc (beq_iff_eq.2 (Zef ltA)) <| Zc (beq_iff_eq.2 ((wrap_i64 ltA).trans (by first | rfl | omega))) <| oF <| Zc (beq_iff_eq.2 ((wrap_i64 ltA).trans (by first | rfl | omega))) <| oF <| Zc (beq_iff_eq.2 ((wrap_i64 ltA).trans (by first | rfl | omega))) Zi) rfl (by decide) (by rfl) ⟨⟨Eq.trans (show (vs 0 0 L0.length L0.length : Value) = vs 0 0 n1 n2 from (ZbN rfl eqA eqA)) (by rfl), by rfl⟩, ⟨rr, ⟨rr, ⟨rr, ⟨rr, ⟨rr, ⟨rr, ⟨rr, ⟨rr, ⟨rr, trivial⟩⟩⟩⟩⟩⟩⟩⟩⟩⟩ ⟨(Zj (E := E_ii) (α := R_ii) _ L0 _), trivial⟩
   ·
    exact Mach.en_head (bK := Z1 3) (M := Zk rec L0 n1 n2 a3 a4 a5 N) (cd := 1000000) (cm := 0) (y := (.h3m0 (a3) (a4) : Zg)) (fu := 4000) (orc := (Zr [(0, false), (1, false), (2, false)] [(0, (a4 - a3)), (1, (a5 - a4)), (2, (a3 + a5)), (3, (a3 + a5)), (4, ((a3 + a5) / (2 : Int))), (5, ((a3 + a5) / (2 : Int))), (6, (((a3 + a5) / (2 : Int)) + a4)), (7, ((((a3 + a5) / (2 : Int)) + a4) - (1 : Int)))] [] [] [])) (live := [0]) (tv := [some (vs 0 0 n1 n2), some (vi a3), some (vi a4), some (vi a5), some (Value.func (.func 11) #[] #[]), some (vi ((a3 + a5) / (2 : Int))), some (vi (((a3 + a5) / (2 : Int)) + a4)), some (vi a3), some (vi a4), some (vi ((((a3 + a5) / (2 : Int)) + a4) - (1 : Int)))]) (bl := [some (.cells (Zd E_ii L0) 43)]) (ob := [((IntKind.i64.wrap ((((a3 + a5) / (2 : Int)) + a4) - (1 : Int))) == ((((a3 + a5) / (2 : Int)) + a4) - (1 : Int)), true), ((decide (a4 > ((a3 + a5) / (2 : Int)))), false), ((IntKind.i64.wrap (((a3 + a5) / (2 : Int)) + a4)) == (((a3 + a5) / (2 : Int)) + a4), true), ((IntKind.i64.wrap ((a3 + a5) / (2 : Int))) == ((a3 + a5) / (2 : Int)), true), ((Int.fdiv (a3 + a5) (2 ^ 1 : Int)) == ((a3 + a5) / (2 : Int)), true), ((IntKind.u64.wrap (a3 + a5)) == (a3 + a5), true), ((IntKind.i64.wrap (a3 + a5)) == (a3 + a5), true), (((a5 - a4) == (1 : Int)), false), ((IntKind.i64.wrap (a5 - a4)) == (a5 - a4), true), (((a4 - a3) == (1 : Int)), false), ((IntKind.i64.wrap (a4 - a3)) == (a4 - a3), true)]) rfl rfl (show Zq (Z1 3).2 = [] from rfl) (by kernel_rfl) (Zc (beq_iff_eq.2 ((wrap_i64 ltA).trans (by first | rfl | omega))) <| oN <| Zc (beq_iff_eq.2 ((wrap_i64 ltA).trans (by first | rfl | omega))) <| Zc (beq_iff_eq.2 (wrap_i64 ltA)) <| Zc (beq_iff_eq.2 (Int.fdiv_eq_ediv_of_nonneg _ (by decide))) <| Zc (beq_iff_eq.2 (Zef ltA)) <| Zc (beq_iff_eq.2 ((wrap_i64 ltA).trans (by first | rfl | omega))) <| oF <| Zc (beq_iff_eq.2 ((wrap_i64 ltA).trans (by first | rfl | omega))) <| oF <| Zc (beq_iff_eq.2 ((wrap_i64 ltA).trans (by first | rfl | omega))) Zi) rfl (by decide) (by rfl) ⟨⟨Eq.trans (show (vs 0 0 L0.length L0.length : Value) = vs 0 0 n1 n2 from (ZbN rfl eqA eqA)) (by rfl), by rfl⟩, ⟨rr, ⟨rr, ⟨rr, ⟨rr, ⟨rr, ⟨rr, ⟨rr, ⟨rr, ⟨rr, trivial⟩⟩⟩⟩⟩⟩⟩⟩⟩⟩ ⟨(Zj (E := E_ii) (α := R_ii) _ L0 _), trivial⟩

theorem ZfP (N : Nat) : ∀ (n : Nat) (L0 : List R_ii) (n1 n2 : Nat) (a3 a4 a5 : Int) (r : Zf), Z4 N n L0 n1 n2 a3 a4 a5 = some r → LSpec Tryz.prog 39 #[vs 0 0 n1 n2, vi a3, vi a4, vi a5, Value.func (.func 11) #[] #[]] [.cells (Zd E_ii L0) 43] (Zax L0 n1 n2 a3 a4 a5 r) (Zau L0 n1 n2 a3 a4 a5 r) := by
 intro n
 induction n with
 | zero => intro L0 n1 n2 a3 a4 a5 r h; cases h
 | succ n ih =>
  intro L0 n1 n2 a3 a4 a5 r h
  exact Mach.spec ZcD (Zk (Z4 N n) L0 n1 n2 a3 a4 a5 N) Tryz.func39 (by kernel_rfl) (by kernel_rfl) (fun x => by cases x <;> exact ZaI _ rfl) (fun r => by cases r <;> exact ZaI _ rfl) (fun x => by
   cases x with
   | h1m0 _ _ => exact fun _ => (show ¬ (1 ∈ Zq (Z1 1).2) from by decide +kernel)
   | h2m0 _ _ => exact fun _ => (show ¬ (2 ∈ Zq (Z1 2).2) from by decide +kernel)
   | h3m0 _ _ => exact fun _ => (show ¬ (3 ∈ Zq (Z1 3).2) from by decide +kernel)
   | h4m0 _ _ _ => exact fun _ => (show ¬ (4 ∈ Zq (Z1 4).2) from by decide +kernel)
   | h5m0 _ _ _ => exact fun _ => (show ¬ (5 ∈ Zq (Z1 5).2) from by decide +kernel)
   ) (fun x => (show (Zk (Z4 N n) L0 n1 n2 a3 a4 a5 N).Ok Tryz.prog Zw x (ZF (Z4 N n) L0 n1 n2 a3 a4 a5 N x) from by
   cases x with
   | h1m0 v2 v3 => exact ZfK (Z4 N n) ih L0 n1 n2 a3 a4 a5 v2 v3 N
   | h2m0 v2 v3 => exact ZfL (Z4 N n) ih L0 n1 n2 a3 a4 a5 v2 v3 N
   | h3m0 v6 v7 => exact ZfM (Z4 N n) ih L0 n1 n2 a3 a4 a5 v6 v7 N
   | h4m0 v0 v1 v2 => exact ZfN (Z4 N n) ih L0 n1 n2 a3 a4 a5 v0 v1 v2 N
   | h5m0 v0 v1 v2 => exact ZfO (Z4 N n) ih L0 n1 n2 a3 a4 a5 v0 v1 v2 N
   )) (ZgS (Z4 N n) ih L0 n1 n2 a3 a4 a5 N) (n := N) h

theorem Zgg (L0 : List R_ii) (n1 n2 : Nat) (a3 a4 a5 : Int) (N : Nat) (r : Zf) (h : ZaP L0 n1 n2 a3 a4 a5 N = some r) : LSpec Tryz.prog 39 #[vs 0 0 n1 n2, vi a3, vi a4, vi a5, Value.func (.func 11) #[] #[]] [.cells (Zd E_ii L0) 43] (Zax L0 n1 n2 a3 a4 a5 r) (Zau L0 n1 n2 a3 a4 a5 r) :=
 ZfP N N L0 n1 n2 a3 a4 a5 r h

theorem Zca (A : Array Value) (L0 : List R_ii) (n1 n2 : Nat) (a3 a4 a5 : Int) (w0 : List R_ii) (N : Nat) (h : ZaP L0 n1 n2 a3 a4 a5 N = some (.r0 w0)) (k0 n : Nat) (hA : A = #[vs k0 0 n1 n2, vi a3, vi a4, vi a5, Value.func (.func 11) #[] #[]]) (hnd : ([k0] : List Nat).Nodup) (hlt : ∀ k ∈ ([k0] : List Nat), k < n) : ZY A L0 n1 n2 a3 a4 a5 w0 k0 n :=
 ZaF A L0 n1 n2 a3 a4 a5 w0 (Zgg L0 n1 n2 a3 a4 a5 N _ h) k0 n hA hnd hlt

noncomputable def Zeg (L0 : List R_ii) (n1 n2 : Nat) (a3 : Int) : ZC → Value
 | .r0 w0 => vtt
noncomputable def ZdY (L0 : List R_ii) (n1 n2 : Nat) (a3 : Int) : ZC → List (Option AObj)
 | .r0 w0 => [some (.cells (Zd E_ii w0) 43)]

def Zhd : Zh → Nat
 | .h1m0 => 1
 | .h1m1 v0 v4 v5 => 1
 | .h2m0 v0 v1 v3 => 2
 | .h2m1 v0 v2 => 2
 | .h3m0 v0 v2 v4 => 3
 | .h3m1 v0 v1 v3 v4 v5 => 3
noncomputable def Zh4 (L0 : List R_ii) (n1 n2 : Nat) (a3 : Int) : Zh → List (Nat × Value)
 | .h1m0 => [(0, vs 0 0 L0.length L0.length), (1, vi a3), (2, Value.func (.func 11) #[] #[]), (6, vi (20 : Int)), (7, vq), (8, vi (20 : Int))]
 | .h1m1 v0 v4 v5 => [(0, vs 0 0 L0.length L0.length), (1, vi a3), (2, Value.func (.func 11) #[] #[]), (6, vi (20 : Int)), (7, vi (v4 : Int)), (8, vi (v5 : Int))]
 | .h2m0 v0 v1 v3 => [(0, vs 0 0 v1 v1), (1, vi a3), (2, Value.func (.func 11) #[] #[]), (6, vi v3)]
 | .h2m1 v0 v2 => [(0, vs 0 0 v0.length v0.length), (1, vi a3), (2, Value.func (.func 11) #[] #[]), (6, vi v2)]
 | .h3m0 v0 v2 v4 => [(0, vs 0 0 v0.length v0.length), (1, vi a3), (2, Value.func (.func 11) #[] #[]), (6, vi v2), (7, vq), (8, vi v4)]
 | .h3m1 v0 v1 v3 v4 v5 => [(0, vs 0 0 v1 v1), (1, vi a3), (2, Value.func (.func 11) #[] #[]), (6, vi v3), (7, vi v4), (8, vi v5)]
noncomputable def Zh5 (L0 : List R_ii) (n1 n2 : Nat) (a3 : Int) : Zh → List (Option AObj)
 | .h1m0 => [some (.cells (Zd E_ii L0) 43)]
 | .h1m1 v0 v4 v5 => [some (.cells (Zd E_ii v0) 43)]
 | .h2m0 v0 v1 v3 => [some (.cells (Zd E_ii v0) 43)]
 | .h2m1 v0 v2 => [some (.cells (Zd E_ii v0) 43)]
 | .h3m0 v0 v2 v4 => [some (.cells (Zd E_ii v0) 43)]
 | .h3m1 v0 v1 v3 v4 v5 => [some (.cells (Zd E_ii v0) 43)]

noncomputable def Z5 : Nat → Code × List ZaO
 | 1 => ZaV [1, 1, 0, 3] (Zbr Tryz.f23) []
 | 2 => ZaV [1, 1, 1, 1, 3] (Zbr Tryz.f23) []
 | 3 => ZaV [1, 1, 1, 1, 3, 8, 1, 3, 1, 0, 3] (Zbr Tryz.f23) []
 | _ => (.skip, [])
def ZdZ : Nat → Bool
 | 1 => true
 | 2 => true
 | 3 => true
 | _ => true
noncomputable def Zab (i : Nat) : List ZaO := match ZdZ i with | true => .rnd i :: (Z5 i).2 | false => (Z5 i).2

noncomputable def Zp (L0 : List R_ii) (n1 n2 : Nat) (a3 : Int) (N : Nat) : Mach := ⟨Tryz.f23, [.cells (Zd E_ii L0) 43], Zh, ZC, ZO L0 n1 n2 a3 N, Zhd, Z5, ZdZ, Zh4 L0 n1 n2 a3, Zh5 L0 n1 n2 a3, Zeg L0 n1 n2 a3, ZdY L0 n1 n2 a3⟩

theorem ZfQ (L0 : List R_ii) (n1 n2 : Nat) (a3 : Int) (N : Nat) : (Zp L0 n1 n2 a3 N).Ok Tryz.prog Zw (.h1m0 : Zh) (ZO L0 n1 n2 a3 N (.h1m0 : Zh)) := by
 show (Zp L0 n1 n2 a3 N).Ok Tryz.prog Zw (.h1m0 : Zh) (Za6 L0 n1 n2 a3 N)
 unfold Za6
 refine Mach.ok_ite (fun g0 => ?_) (fun _ => Mach.ok_none)
 refine Mach.ok_ite (fun g1 => ?_) (fun _ => Mach.ok_none)
 refine Mach.ok_ite (fun g2 => ?_) (fun _ => Mach.ok_none)
 refine Mach.ok_ite (fun g3 => ?_) (fun _ => Mach.ok_none)
 refine Mach.ok_ite (fun g4 => ?_) (fun _ => Mach.ok_none)
 refine Mach.ok_ite (fun g5 => ?_) (fun g5 => ?_)
 ·
  refine Mach.ok_bind (fun z6 c6 => ?_)
  cases z6 with
  | r0 y6_0 =>
   exact Mach.ok_next (M := Zp L0 n1 n2 a3 N) (cd := 1000000) (cm := 0) (y := (.h1m1 (y6_0) (20) (40) : Zh)) (fu := 4000) (orc := (Zr [(0, true)] [] [] [] [(0, (Zb2 (L0) (L0.length) (L0.length) ((0 : Int)) ((20 : Int))  y6_0 0 1))])) (live := [0]) (tv := fun _ => [some (vs 0 0 L0.length L0.length), some (vi a3), some (Value.func (.func 11) #[] #[]), some (vi (20 : Int)), some (vi (20 : Int)), some (vi (40 : Int))]) (bl := [some (.cells (Zd E_ii y6_0) 43)]) (ob := [(dP (ZaW #[vs 0 0 L0.length L0.length, vq, vi (20 : Int), Value.func (.func 11) #[] #[]] (L0) (L0.length) (L0.length) ((0 : Int)) ((20 : Int))  y6_0 0 1), true), (dS (Zd E_ii L0), true), ((decide ((20 : Int) ≤ a3)), true)]) rfl (show 1 ∈ Zq (Zab 1) from by decide +kernel) (fun gv => by kernel_rfl) (Zc (Zl (Zb3 #[vs 0 0 L0.length L0.length, vq, vi (20 : Int), Value.func (.func 11) #[] #[]] (L0) (L0.length) (L0.length) ((0 : Int)) ((20 : Int))  y6_0 N c6 0 1 rfl (by decide) (by decide))) <| oR <| oY Zi) rfl (by decide) (by rfl) (fun _ => ⟨rr, ⟨rr, ⟨rr, ⟨rr, ⟨⟨Eq.trans (show (vi ((20 : Nat) : Int) : Value) = vi (20 : Int) from (congrArg (Value.int .i64) (by first | rfl | omega))) (by rfl), by rfl⟩, ⟨⟨Eq.trans (show (vi ((40 : Nat) : Int) : Value) = vi (40 : Int) from (congrArg (Value.int .i64) (by first | rfl | omega))) (by rfl), by rfl⟩, trivial⟩⟩⟩⟩⟩⟩) ⟨(Zj (E := E_ii) (α := R_ii) _ y6_0 _), trivial⟩
 ·
  refine Mach.ok_bind (fun z6 c6 => ?_)
  cases z6 with
  | r0 y6_0 =>
   exact Mach.ok_head (bK := Z5 2) (M := Zp L0 n1 n2 a3 N) (cd := 1000000) (cm := 0) (y := (.h2m0 (y6_0) (L0.length) ((20 : Int)) : Zh)) (fu := 4000) (orc := (Zr [(0, false)] [] [] [] [(0, (Zb2 (L0) (L0.length) (L0.length) ((0 : Int)) (a3)  y6_0 0 1))])) (live := [0]) (tv := fun _ => [some (vs 0 0 L0.length L0.length), some (vi a3), some (Value.func (.func 11) #[] #[]), some (vi (20 : Int))]) (bl := [some (.cells (Zd E_ii y6_0) 43)]) (ob := [(dP (ZaW #[vs 0 0 L0.length L0.length, vq, vi a3, Value.func (.func 11) #[] #[]] (L0) (L0.length) (L0.length) ((0 : Int)) (a3)  y6_0 0 1), true), (dS (Zd E_ii L0), true), ((decide ((20 : Int) ≤ a3)), false)]) rfl rfl (show ∀ j ∈ Zq (Z5 2).2, j ∈ Zq (Zab 1) from by decide +kernel) (fun gv => by kernel_rfl) (Zc (Zl (Zb3 #[vs 0 0 L0.length L0.length, vq, vi a3, Value.func (.func 11) #[] #[]] (L0) (L0.length) (L0.length) ((0 : Int)) (a3)  y6_0 N c6 0 1 rfl (by decide) (by decide))) <| oR <| oN Zi) rfl (by decide) (by rfl) (fun _ => ⟨rr, ⟨rr, ⟨rr, ⟨rr, trivial⟩⟩⟩⟩) ⟨(Zj (E := E_ii) (α := R_ii) _ y6_0 _), trivial⟩

theorem ZfR (L0 : List R_ii) (n1 n2 : Nat) (a3 : Int) (v0 : List R_ii) (v4 v5 N : Nat) : (Zp L0 n1 n2 a3 N).Ok Tryz.prog Zw (.h1m1 v0 v4 v5 : Zh) (ZO L0 n1 n2 a3 N (.h1m1 v0 v4 v5 : Zh)) := by
 show (Zp L0 n1 n2 a3 N).Ok Tryz.prog Zw (.h1m1 v0 v4 v5 : Zh) (Zao L0 n1 n2 a3 N v0 v4 v5)
 unfold Zao
 refine Mach.ok_ite (fun g0 => ?_) (fun _ => Mach.ok_none)
 refine Mach.ok_ite (fun g1 => ?_) (fun _ => Mach.ok_none)
 refine Mach.ok_ite (fun g2 => ?_) (fun _ => Mach.ok_none)
 refine Mach.ok_ite (fun g3 => ?_) (fun _ => Mach.ok_none)
 refine Mach.ok_ite (fun g4 => ?_) (fun _ => Mach.ok_none)
 refine Mach.ok_ite (fun g5 => ?_) (fun _ => Mach.ok_none)
 refine Mach.ok_ite (fun g6 => ?_) (fun g6 => ?_)
 ·
  refine Mach.ok_bind (fun z7 c7 => ?_)
  cases z7 with
  | r0 y7_0 =>
   exact Mach.ok_next (M := Zp L0 n1 n2 a3 N) (cd := 1000000) (cm := 0) (y := (.h1m1 (y7_0) (v5) ((v5 + 20)) : Zh)) (fu := 4000) (orc := (Zr [(0, true)] [(0, (((v5 + 20) : Nat) : Int))] [] [] [(0, (Zb2 (v0) (L0.length) (L0.length) ((v4 : Int)) ((v5 : Int))  y7_0 0 1))])) (live := [0]) (tv := fun _ => [some (vs 0 0 L0.length L0.length), some (vi a3), some (Value.func (.func 11) #[] #[]), some (vi (20 : Int)), some (vi (v5 : Int)), some (vi (((v5 + 20) : Nat) : Int))]) (bl := [some (.cells (Zd E_ii y7_0) 43)]) (ob := [((IntKind.i64.wrap ((v5 : Int) + (20 : Int))) == (((v5 + 20) : Nat) : Int), true), (dP (ZaW #[vs 0 0 L0.length L0.length, vi (v4 : Int), vi (v5 : Int), Value.func (.func 11) #[] #[]] (v0) (L0.length) (L0.length) ((v4 : Int)) ((v5 : Int))  y7_0 0 1), true), (dS (Zd E_ii v0), true), ((decide ((v5 : Int) ≤ a3)), true)]) rfl (show 1 ∈ Zq (Zab 1) from by decide +kernel) (fun gv => by kernel_rfl) (Zc (beq_iff_eq.2 ((wrap_i64 ltA).trans (by first | rfl | omega))) <| Zc (Zl (Zb3 #[vs 0 0 L0.length L0.length, vi (v4 : Int), vi (v5 : Int), Value.func (.func 11) #[] #[]] (v0) (L0.length) (L0.length) ((v4 : Int)) ((v5 : Int))  y7_0 N c7 0 1 rfl (by decide) (by decide))) <| oR <| oY Zi) rfl (by decide) (by rfl) (fun _ => ⟨rr, ⟨rr, ⟨rr, ⟨rr, ⟨rr, ⟨rr, trivial⟩⟩⟩⟩⟩⟩) ⟨(Zj (E := E_ii) (α := R_ii) _ y7_0 _), trivial⟩
 ·
  refine Mach.ok_bind (fun z7 c7 => ?_)
  cases z7 with
  | r0 y7_0 =>
   exact Mach.ok_head (bK := Z5 2) (M := Zp L0 n1 n2 a3 N) (cd := 1000000) (cm := 0) (y := (.h2m0 (y7_0) (L0.length) ((20 : Int)) : Zh)) (fu := 4000) (orc := (Zr [(0, false)] [] [] [] [(0, (Zb2 (v0) (L0.length) (L0.length) ((v4 : Int)) (a3)  y7_0 0 1))])) (live := [0]) (tv := fun _ => [some (vs 0 0 L0.length L0.length), some (vi a3), some (Value.func (.func 11) #[] #[]), some (vi (20 : Int))]) (bl := [some (.cells (Zd E_ii y7_0) 43)]) (ob := [(dP (ZaW #[vs 0 0 L0.length L0.length, vi (v4 : Int), vi a3, Value.func (.func 11) #[] #[]] (v0) (L0.length) (L0.length) ((v4 : Int)) (a3)  y7_0 0 1), true), (dS (Zd E_ii v0), true), ((decide ((v5 : Int) ≤ a3)), false)]) rfl rfl (show ∀ j ∈ Zq (Z5 2).2, j ∈ Zq (Zab 1) from by decide +kernel) (fun gv => by kernel_rfl) (Zc (Zl (Zb3 #[vs 0 0 L0.length L0.length, vi (v4 : Int), vi a3, Value.func (.func 11) #[] #[]] (v0) (L0.length) (L0.length) ((v4 : Int)) (a3)  y7_0 N c7 0 1 rfl (by decide) (by decide))) <| oR <| oN Zi) rfl (by decide) (by rfl) (fun _ => ⟨rr, ⟨rr, ⟨rr, ⟨rr, trivial⟩⟩⟩⟩) ⟨(Zj (E := E_ii) (α := R_ii) _ y7_0 _), trivial⟩

theorem ZfS (L0 : List R_ii) (n1 n2 : Nat) (a3 : Int) (v0 : List R_ii) (v1 : Nat) (v3 : Int) (N : Nat) : (Zp L0 n1 n2 a3 N).Ok Tryz.prog Zw (.h2m0 v0 v1 v3 : Zh) (ZO L0 n1 n2 a3 N (.h2m0 v0 v1 v3 : Zh)) := by
 show (Zp L0 n1 n2 a3 N).Ok Tryz.prog Zw (.h2m0 v0 v1 v3 : Zh) (Za7 L0 n1 n2 a3 N v0 v1 v3)
 unfold Za7
 refine Mach.ok_ite (fun g0 => ?_) (fun _ => Mach.ok_none)
 refine Mach.ok_ite (fun g1 => ?_) (fun _ => Mach.ok_none)
 refine Mach.ok_ite (fun g2 => ?_) (fun _ => Mach.ok_none)
 refine Mach.ok_ite (fun g3 => ?_) (fun _ => Mach.ok_none)
 refine Mach.ok_ite (fun g4 => ?_) (fun _ => Mach.ok_none)
 refine Mach.ok_ite (fun g5 => ?_) (fun _ => Mach.ok_none)
 refine Mach.ok_ite (fun g6 => ?_) (fun _ => Mach.ok_none)
 refine Mach.ok_ite (fun g7 => ?_) (fun _ => Mach.ok_none)
 refine Mach.ok_ite (fun g8 => ?_) (fun g8 => ?_)
 ·
  exact Mach.ok_head (bK := Z5 3) (M := Zp L0 n1 n2 a3 N) (cd := 1000000) (cm := 0) (y := (.h3m1 (v0) (v1) (v3) ((0 : Int)) (((2 : Int) * v3)) : Zh)) (fu := 4000) (orc := (Zr [(0, true)] [(0, ((2 : Int) * v3))] [] [] [])) (live := [0]) (tv := fun _ => [some (vs 0 0 v1 v1), some (vi a3), some (Value.func (.func 11) #[] #[]), some (vi v3), some (vq), some (vi ((2 : Int) * v3))]) (bl := [some (.cells (Zd E_ii v0) 43)]) (ob := [((IntKind.i64.wrap ((2 : Int) * v3)) == ((2 : Int) * v3), true), ((decide (v3 < a3)), true)]) rfl rfl (show ∀ j ∈ Zq (Z5 3).2, j ∈ Zq (Zab 2) from by decide +kernel) (fun gv => by kernel_rfl) (Zc (beq_iff_eq.2 ((wrap_i64 ltA).trans (by first | rfl | omega))) <| oY Zi) rfl (by decide) (by rfl) (fun _ => ⟨rr, ⟨rr, ⟨rr, ⟨rr, ⟨rr, ⟨rr, trivial⟩⟩⟩⟩⟩⟩) ⟨(Zj (E := E_ii) (α := R_ii) _ v0 _), trivial⟩
 ·
  exact Mach.ok_fin (M := Zp L0 n1 n2 a3 N) (cd := 1000000) (cm := 0) (r := (.r0 (v0) : ZC)) (fu := 4000) (orc := (Zr [(0, false)] [] [] [] [])) (live := [0]) (u := vtt) (bl := [some (.cells (Zd E_ii v0) 43)]) (ob := [((decide (v3 < a3)), false)]) (fun gv => by kernel_rfl) (oN Zi) rfl (by decide) (by rfl) rr ⟨(Zj (E := E_ii) (α := R_ii) _ v0 _), trivial⟩

theorem ZfT (L0 : List R_ii) (n1 n2 : Nat) (a3 : Int) (v0 : List R_ii) (v2 : Int) (N : Nat) : (Zp L0 n1 n2 a3 N).Ok Tryz.prog Zw (.h2m1 v0 v2 : Zh) (ZO L0 n1 n2 a3 N (.h2m1 v0 v2 : Zh)) := by
 show (Zp L0 n1 n2 a3 N).Ok Tryz.prog Zw (.h2m1 v0 v2 : Zh) (Zc7 L0 n1 n2 a3 N v0 v2)
 unfold Zc7
 refine Mach.ok_ite (fun g0 => ?_) (fun _ => Mach.ok_none)
 refine Mach.ok_ite (fun g1 => ?_) (fun _ => Mach.ok_none)
 refine Mach.ok_ite (fun g2 => ?_) (fun _ => Mach.ok_none)
 refine Mach.ok_ite (fun g3 => ?_) (fun _ => Mach.ok_none)
 refine Mach.ok_ite (fun g4 => ?_) (fun _ => Mach.ok_none)
 refine Mach.ok_ite (fun g5 => ?_) (fun _ => Mach.ok_none)
 refine Mach.ok_ite (fun g6 => ?_) (fun _ => Mach.ok_none)
 refine Mach.ok_ite (fun g7 => ?_) (fun _ => Mach.ok_none)
 refine Mach.ok_ite (fun g8 => ?_) (fun g8 => ?_)
 ·
  exact Mach.ok_head (bK := Z5 3) (M := Zp L0 n1 n2 a3 N) (cd := 1000000) (cm := 0) (y := (.h3m0 (v0) (v2) (((2 : Int) * v2)) : Zh)) (fu := 4000) (orc := (Zr [(0, true)] [(0, ((2 : Int) * v2))] [] [] [])) (live := [0]) (tv := fun _ => [some (vs 0 0 v0.length v0.length), some (vi a3), some (Value.func (.func 11) #[] #[]), some (vi v2), some (vq), some (vi ((2 : Int) * v2))]) (bl := [some (.cells (Zd E_ii v0) 43)]) (ob := [((IntKind.i64.wrap ((2 : Int) * v2)) == ((2 : Int) * v2), true), ((decide (v2 < a3)), true)]) rfl rfl (show ∀ j ∈ Zq (Z5 3).2, j ∈ Zq (Zab 2) from by decide +kernel) (fun gv => by kernel_rfl) (Zc (beq_iff_eq.2 ((wrap_i64 ltA).trans (by first | rfl | omega))) <| oY Zi) rfl (by decide) (by rfl) (fun _ => ⟨rr, ⟨rr, ⟨rr, ⟨rr, ⟨rr, ⟨rr, trivial⟩⟩⟩⟩⟩⟩) ⟨(Zj (E := E_ii) (α := R_ii) _ v0 _), trivial⟩
 ·
  exact Mach.ok_fin (M := Zp L0 n1 n2 a3 N) (cd := 1000000) (cm := 0) (r := (.r0 (v0) : ZC)) (fu := 4000) (orc := (Zr [(0, false)] [] [] [] [])) (live := [0]) (u := vtt) (bl := [some (.cells (Zd E_ii v0) 43)]) (ob := [((decide (v2 < a3)), false)]) (fun gv => by kernel_rfl) (oN Zi) rfl (by decide) (by rfl) rr ⟨(Zj (E := E_ii) (α := R_ii) _ v0 _), trivial⟩

end Ev
end Go.Proofs.YtjdojnecmplmnaaGreat
