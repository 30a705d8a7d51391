/- Part 5. -/
import Derived.Test.YtlbbiflodemagaaDoorZad
set_option linter.unusedSimpArgs false
set_option linter.unusedVariables false
/- Calls do what the plain functions say. -/
namespace Go.Proofs.YtlbbiflodemagaaDoor
open Go.RowKit
namespace Ev
set_option linter.unusedVariables false
set_option maxRecDepth 100000
set_option maxHeartbeats 4000000 in
theorem ZnZ (a0 : Int) (N : Nat) : Fx Tryd.prog ZJ Tryd.f16 [] #[vi a0] (ZkP a0) (ZjT a0) (ZI a0 N) := by
 unfold ZI
 refine Zat (fun g0 => ?_) (fun g0 => ?_)
 ·
  exact Zal (r := (.r0 : Zw)) (fu := 4000) (orc := (Zz [o1] [] [] [] [])) (live := []) (u := Value.string ⟨#[114, 35]⟩) (bl := []) (ob := (((a0 == (1 : Int)), true) :: [])) (by as_aux_lemma => kernel_rfl) (oT <| ZL) rfl (by decide) (by rfl) rr trivial
 ·
  refine Zat (fun g1 => ?_) (fun g1 => ?_)
  ·
   exact Zal (r := (.r1 : Zw)) (fu := 4000) (orc := (Zz [o0, o1] [] [] [] [])) (live := []) (u := Value.string ⟨#[64]⟩) (bl := []) (ob := (((a0 == (8 : Int)), true) :: ((a0 == (1 : Int)), false) :: [])) (by as_aux_lemma => kernel_rfl) (oT <| oF <| ZL) rfl (by decide) (by rfl) rr trivial
  ·
   have w2 : OkL (ZeU a0) :=
    oF <| oF <| ZL
   refine Zat (fun g2 => ?_) (fun g2 => ?_)
   ·
    exact Zal (r := (.r2 : Zw)) (fu := 4000) (orc := (Zz [o0, o0, o1] [] [] [] [])) (live := []) (u := Value.string ⟨#[114, 64]⟩) (bl := []) (ob := (((a0 == (9 : Int)), true) :: ZeU a0)) (by as_aux_lemma => kernel_rfl) (oT <| w2) rfl (by decide) (by rfl) rr trivial
   ·
    refine Zat (fun g3 => ?_) (fun g3 => ?_)
    ·
     exact Zal (r := (.r3 : Zw)) (fu := 4000) (orc := (Zz [o0, o0, o0, o1] [] [] [] [])) (live := []) (u := Value.string ⟨#[114, 35, 35]⟩) (bl := []) (ob := (((a0 == (11 : Int)), true) :: ((a0 == (9 : Int)), false) :: ZeU a0)) (by as_aux_lemma => kernel_rfl) (oT <| oF <| w2) rfl (by decide) (by rfl) rr trivial
    ·
     have w4 : OkL (ZeV a0) :=
      oF <| oF <| w2
     refine Zat (fun g4 => ?_) (fun g4 => ?_)
     ·
      exact Zal (r := (.r4 : Zw)) (fu := 4000) (orc := (Zz [o0, o0, o0, o0, o1] [] [] [] [])) (live := []) (u := Value.string ⟨#[114, 114, 35]⟩) (bl := []) (ob := (((a0 == (13 : Int)), true) :: ZeV a0)) (by as_aux_lemma => kernel_rfl) (oT <| w4) rfl (by decide) (by rfl) rr trivial
     ·
      refine Zat (fun g5 => ?_) (fun g5 => ?_)
      ·
       exact Zal (r := (.r5 : Zw)) (fu := 4000) (orc := (Zz [o0, o0, o0, o0, o0, o1] [] [] [] [])) (live := []) (u := Value.string ⟨#[114, 35, 114]⟩) (bl := []) (ob := (((a0 == (14 : Int)), true) :: ((a0 == (13 : Int)), false) :: ZeV a0)) (by as_aux_lemma => kernel_rfl) (oT <| oF <| w4) rfl (by decide) (by rfl) rr trivial
      ·
       have w6 : OkL (ZeW a0) :=
        oF <| oF <| w4
       refine Zat (fun g6 => ?_) (fun g6 => ?_)
       ·
        exact Zal (r := (.r6 : Zw)) (fu := 4000) (orc := (Zz [o0, o0, o0, o0, o0, o0, o1] [] [] [] [])) (live := []) (u := Value.string ⟨#[]⟩) (bl := []) (ob := (((decide (a0 < (0 : Int))), true) :: ZeW a0)) (by as_aux_lemma => kernel_rfl) (oY <| w6) rfl (by decide) (by rfl) rr trivial
       ·
        refine Zat (fun g7 => ?_) (fun g7 => ?_)
        ·
         exact Zal (r := (.r6 : Zw)) (fu := 4000) (orc := (Zz [o0, o0, o0, o0, o0, o0, o0, o1] [] [] [] [])) (live := []) (u := Value.string ⟨#[]⟩) (bl := []) (ob := (((decide (a0 ≥ (21 : Int))), true) :: ((decide (a0 < (0 : Int))), false) :: ZeW a0)) (by as_aux_lemma => kernel_rfl) (oY <| oN <| w6) rfl (by decide) (by rfl) rr trivial
        ·
         have w8 : OkL (Zap a0) :=
          oN <| oN <| w6
         refine Zat (fun g8 => ?_) (fun g8 => ?_)
         ·
          exact Zal (r := (.r6 : Zw)) (fu := 4000) (orc := (Zz [o0, o0, o0, o0, o0, o0, o0, o0] [] [(0, 0)] [] [])) (live := []) (u := Value.string ⟨#[]⟩) (bl := []) (ob := ((Nat.blt 0 21, true) :: (a0 == Int.ofNat 0, true) :: Zap a0)) (by as_aux_lemma => kernel_rfl) (oB <| oK <| w8) rfl (by decide) (by rfl) rr trivial
         ·
          refine Zat (fun g9 => ?_) (fun g9 => ?_)
          ·
           exact Zal (r := (.r7 : Zw)) (fu := 4000) (orc := (Zz [o0, o0, o0, o0, o0, o0, o0, o0] [] [(0, 2)] [] [])) (live := []) (u := Value.string ⟨#[114]⟩) (bl := []) (ob := ((Nat.blt 2 21, true) :: (a0 == Int.ofNat 2, true) :: Zap a0)) (by as_aux_lemma => kernel_rfl) (oB <| oK <| w8) rfl (by decide) (by rfl) rr trivial
          ·
           refine Zat (fun g10 => ?_) (fun g10 => ?_)
           ·
            exact Zal (r := (.r8 : Zw)) (fu := 4000) (orc := (Zz [o0, o0, o0, o0, o0, o0, o0, o0] [] [(0, 3)] [] [])) (live := []) (u := Value.string ⟨#[114, 114]⟩) (bl := []) (ob := ((Nat.blt 3 21, true) :: (a0 == Int.ofNat 3, true) :: Zap a0)) (by as_aux_lemma => kernel_rfl) (oB <| oK <| w8) rfl (by decide) (by rfl) rr trivial
           ·
            refine Zat (fun g11 => ?_) (fun g11 => ?_)
            ·
             exact Zal (r := (.r9 : Zw)) (fu := 4000) (orc := (Zz [o0, o0, o0, o0, o0, o0, o0, o0] [] [(0, 4)] [] [])) (live := []) (u := Value.string ⟨#[114, 114, 114]⟩) (bl := []) (ob := ((Nat.blt 4 21, true) :: (a0 == Int.ofNat 4, true) :: Zap a0)) (by as_aux_lemma => kernel_rfl) (oB <| oK <| w8) rfl (by decide) (by rfl) rr trivial
            ·
             refine Zat (fun g12 => ?_) (fun g12 => ?_)
             ·
              exact Zal (r := (.r9 : Zw)) (fu := 4000) (orc := (Zz [o0, o0, o0, o0, o0, o0, o0, o0] [] [(0, 5)] [] [])) (live := []) (u := Value.string ⟨#[114, 114, 114]⟩) (bl := []) (ob := ((Nat.blt 5 21, true) :: (a0 == Int.ofNat 5, true) :: Zap a0)) (by as_aux_lemma => kernel_rfl) (oB <| oK <| w8) rfl (by decide) (by rfl) rr trivial
             ·
              refine Zat (fun g13 => ?_) (fun g13 => ?_)
              ·
               exact Zal (r := (.r9 : Zw)) (fu := 4000) (orc := (Zz [o0, o0, o0, o0, o0, o0, o0, o0] [] [(0, 6)] [] [])) (live := []) (u := Value.string ⟨#[114, 114, 114]⟩) (bl := []) (ob := ((Nat.blt 6 21, true) :: (a0 == Int.ofNat 6, true) :: Zap a0)) (by as_aux_lemma => kernel_rfl) (oB <| oK <| w8) rfl (by decide) (by rfl) rr trivial
              ·
               refine Zat (fun g14 => ?_) (fun g14 => ?_)
               ·
                exact Zal (r := (.r9 : Zw)) (fu := 4000) (orc := (Zz [o0, o0, o0, o0, o0, o0, o0, o0] [] [(0, 7)] [] [])) (live := []) (u := Value.string ⟨#[114, 114, 114]⟩) (bl := []) (ob := ((Nat.blt 7 21, true) :: (a0 == Int.ofNat 7, true) :: Zap a0)) (by as_aux_lemma => kernel_rfl) (oB <| oK <| w8) rfl (by decide) (by rfl) rr trivial
               ·
                refine Zat (fun g15 => ?_) (fun g15 => ?_)
                ·
                 exact Zal (r := (.r7 : Zw)) (fu := 4000) (orc := (Zz [o0, o0, o0, o0, o0, o0, o0, o0] [] [(0, 10)] [] [])) (live := []) (u := Value.string ⟨#[114]⟩) (bl := []) (ob := ((Nat.blt 10 21, true) :: (a0 == Int.ofNat 10, true) :: Zap a0)) (by as_aux_lemma => kernel_rfl) (oB <| oK <| w8) rfl (by decide) (by rfl) rr trivial
                ·
                 refine Zat (fun g16 => ?_) (fun g16 => ?_)
                 ·
                  exact Zal (r := (.r7 : Zw)) (fu := 4000) (orc := (Zz [o0, o0, o0, o0, o0, o0, o0, o0] [] [(0, 12)] [] [])) (live := []) (u := Value.string ⟨#[114]⟩) (bl := []) (ob := ((Nat.blt 12 21, true) :: (a0 == Int.ofNat 12, true) :: Zap a0)) (by as_aux_lemma => kernel_rfl) (oB <| oK <| w8) rfl (by decide) (by rfl) rr trivial
                 ·
                  refine Zat (fun g17 => ?_) (fun g17 => ?_)
                  ·
                   exact Zal (r := (.r6 : Zw)) (fu := 4000) (orc := (Zz [o0, o0, o0, o0, o0, o0, o0, o0] [] [(0, 15)] [] [])) (live := []) (u := Value.string ⟨#[]⟩) (bl := []) (ob := ((Nat.blt 15 21, true) :: (a0 == Int.ofNat 15, true) :: Zap a0)) (by as_aux_lemma => kernel_rfl) (oB <| oK <| w8) rfl (by decide) (by rfl) rr trivial
                  ·
                   refine Zat (fun g18 => ?_) (fun g18 => ?_)
                   ·
                    exact Zal (r := (.r6 : Zw)) (fu := 4000) (orc := (Zz [o0, o0, o0, o0, o0, o0, o0, o0] [] [(0, 16)] [] [])) (live := []) (u := Value.string ⟨#[]⟩) (bl := []) (ob := ((Nat.blt 16 21, true) :: (a0 == Int.ofNat 16, true) :: Zap a0)) (by as_aux_lemma => kernel_rfl) (oB <| oK <| w8) rfl (by decide) (by rfl) rr trivial
                   ·
                    refine Zat (fun g19 => ?_) (fun g19 => ?_)
                    ·
                     exact Zal (r := (.r6 : Zw)) (fu := 4000) (orc := (Zz [o0, o0, o0, o0, o0, o0, o0, o0] [] [(0, 17)] [] [])) (live := []) (u := Value.string ⟨#[]⟩) (bl := []) (ob := ((Nat.blt 17 21, true) :: (a0 == Int.ofNat 17, true) :: Zap a0)) (by as_aux_lemma => kernel_rfl) (oB <| oK <| w8) rfl (by decide) (by rfl) rr trivial
                    ·
                     refine Zat (fun g20 => ?_) (fun g20 => ?_)
                     ·
                      exact Zal (r := (.r6 : Zw)) (fu := 4000) (orc := (Zz [o0, o0, o0, o0, o0, o0, o0, o0] [] [(0, 18)] [] [])) (live := []) (u := Value.string ⟨#[]⟩) (bl := []) (ob := ((Nat.blt 18 21, true) :: (a0 == Int.ofNat 18, true) :: Zap a0)) (by as_aux_lemma => kernel_rfl) (oB <| oK <| w8) rfl (by decide) (by rfl) rr trivial
                     ·
                      refine Zat (fun g21 => ?_) (fun g21 => ?_)
                      ·
                       exact Zal (r := (.r7 : Zw)) (fu := 4000) (orc := (Zz [o0, o0, o0, o0, o0, o0, o0, o0] [] [(0, 19)] [] [])) (live := []) (u := Value.string ⟨#[114]⟩) (bl := []) (ob := ((Nat.blt 19 21, true) :: (a0 == Int.ofNat 19, true) :: Zap a0)) (by as_aux_lemma => kernel_rfl) (oB <| oK <| w8) rfl (by decide) (by rfl) rr trivial
                      ·
                       exact Zal (r := (.r6 : Zw)) (fu := 4000) (orc := (Zz [o0, o0, o0, o0, o0, o0, o0, o0] [] [(0, 20)] [] [])) (live := []) (u := Value.string ⟨#[]⟩) (bl := []) (ob := ((Nat.blt 20 21, true) :: (a0 == Int.ofNat 20, true) :: Zap a0)) (by as_aux_lemma => kernel_rfl) (oB <| oK <| w8) rfl (by decide) (by rfl) rr trivial

theorem ZaJ (a0 : Int) (N : Nat) (r : Zw) (h : ZI a0 N = some r) : LSpec Tryd.prog 16 #[vi a0] [] (ZkP a0 r) (ZjT a0 r) :=
 ZlY ZdC Tryd.func16 (by kernel_rfl) (by kernel_rfl) (fun r => by cases r <;> exact Zay _ rfl) (ZnZ a0 N) h

noncomputable def Zdv (a0 : Int) (n : Nat) : ZaG := .call [] (Value.string ⟨#[114, 35]⟩) [] 0
def ZjU (A : Array Value) (a0 : Int) (n : Nat) : Prop := ZB Tryd.prog 16 A [] (Value.string ⟨#[114, 35]⟩) [] n 0

theorem ZoE (A : Array Value) (a0 : Int) (N : Nat) (h : ZI a0 N = some (.r0)) (n : Nat) (hA : A = #[vi a0]) (hnd : ([] : List Nat).Nodup) (hlt : ∀ k ∈ ([] : List Nat), k < n) : ZjU A a0  n :=
 Zaq hA (LSpec.callL (show LSpec Tryd.prog 16 #[vi a0] [] (Value.string ⟨#[114, 35]⟩) [] from ZaJ a0 N _ h) [] n [] rfl hnd hlt (show 0 ≤ 0 from by decide) (show ∀ j ∈ ([] : List Nat), j < 0 from by decide) (by rfl) trivial (by rfl) trivial trivial rfl rfl rfl rfl rfl)

noncomputable def Zej (a0 : Int) (n : Nat) : ZaG := .call [] (Value.string ⟨#[64]⟩) [] 0
def ZjV (A : Array Value) (a0 : Int) (n : Nat) : Prop := ZB Tryd.prog 16 A [] (Value.string ⟨#[64]⟩) [] n 0

theorem ZoF (A : Array Value) (a0 : Int) (N : Nat) (h : ZI a0 N = some (.r1)) (n : Nat) (hA : A = #[vi a0]) (hnd : ([] : List Nat).Nodup) (hlt : ∀ k ∈ ([] : List Nat), k < n) : ZjV A a0  n :=
 Zaq hA (LSpec.callL (show LSpec Tryd.prog 16 #[vi a0] [] (Value.string ⟨#[64]⟩) [] from ZaJ a0 N _ h) [] n [] rfl hnd hlt (show 0 ≤ 0 from by decide) (show ∀ j ∈ ([] : List Nat), j < 0 from by decide) (by rfl) trivial (by rfl) trivial trivial rfl rfl rfl rfl rfl)

noncomputable def Zdw (a0 : Int) (n : Nat) : ZaG := .call [] (Value.string ⟨#[114, 64]⟩) [] 0
def ZjW (A : Array Value) (a0 : Int) (n : Nat) : Prop := ZB Tryd.prog 16 A [] (Value.string ⟨#[114, 64]⟩) [] n 0

theorem ZoG (A : Array Value) (a0 : Int) (N : Nat) (h : ZI a0 N = some (.r2)) (n : Nat) (hA : A = #[vi a0]) (hnd : ([] : List Nat).Nodup) (hlt : ∀ k ∈ ([] : List Nat), k < n) : ZjW A a0  n :=
 Zaq hA (LSpec.callL (show LSpec Tryd.prog 16 #[vi a0] [] (Value.string ⟨#[114, 64]⟩) [] from ZaJ a0 N _ h) [] n [] rfl hnd hlt (show 0 ≤ 0 from by decide) (show ∀ j ∈ ([] : List Nat), j < 0 from by decide) (by rfl) trivial (by rfl) trivial trivial rfl rfl rfl rfl rfl)

noncomputable def Zcv (a0 : Int) (n : Nat) : ZaG := .call [] (Value.string ⟨#[114, 35, 35]⟩) [] 0
def ZjX (A : Array Value) (a0 : Int) (n : Nat) : Prop := ZB Tryd.prog 16 A [] (Value.string ⟨#[114, 35, 35]⟩) [] n 0

theorem ZoH (A : Array Value) (a0 : Int) (N : Nat) (h : ZI a0 N = some (.r3)) (n : Nat) (hA : A = #[vi a0]) (hnd : ([] : List Nat).Nodup) (hlt : ∀ k ∈ ([] : List Nat), k < n) : ZjX A a0  n :=
 Zaq hA (LSpec.callL (show LSpec Tryd.prog 16 #[vi a0] [] (Value.string ⟨#[114, 35, 35]⟩) [] from ZaJ a0 N _ h) [] n [] rfl hnd hlt (show 0 ≤ 0 from by decide) (show ∀ j ∈ ([] : List Nat), j < 0 from by decide) (by rfl) trivial (by rfl) trivial trivial rfl rfl rfl rfl rfl)

noncomputable def Zcw (a0 : Int) (n : Nat) : ZaG := .call [] (Value.string ⟨#[114, 114, 35]⟩) [] 0
def ZjY (A : Array Value) (a0 : Int) (n : Nat) : Prop := ZB Tryd.prog 16 A [] (Value.string ⟨#[114, 114, 35]⟩) [] n 0

theorem ZoI (A : Array Value) (a0 : Int) (N : Nat) (h : ZI a0 N = some (.r4)) (n : Nat) (hA : A = #[vi a0]) (hnd : ([] : List Nat).Nodup) (hlt : ∀ k ∈ ([] : List Nat), k < n) : ZjY A a0  n :=
 Zaq hA (LSpec.callL (show LSpec Tryd.prog 16 #[vi a0] [] (Value.string ⟨#[114, 114, 35]⟩) [] from ZaJ a0 N _ h) [] n [] rfl hnd hlt (show 0 ≤ 0 from by decide) (show ∀ j ∈ ([] : List Nat), j < 0 from by decide) (by rfl) trivial (by rfl) trivial trivial rfl rfl rfl rfl rfl)

noncomputable def Zcx (a0 : Int) (n : Nat) : ZaG := .call [] (Value.string ⟨#[114, 35, 114]⟩) [] 0
def ZjZ (A : Array Value) (a0 : Int) (n : Nat) : Prop := ZB Tryd.prog 16 A [] (Value.string ⟨#[114, 35, 114]⟩) [] n 0

theorem ZoJ (A : Array Value) (a0 : Int) (N : Nat) (h : ZI a0 N = some (.r5)) (n : Nat) (hA : A = #[vi a0]) (hnd : ([] : List Nat).Nodup) (hlt : ∀ k ∈ ([] : List Nat), k < n) : ZjZ A a0  n :=
 Zaq hA (LSpec.callL (show LSpec Tryd.prog 16 #[vi a0] [] (Value.string ⟨#[114, 35, 114]⟩) [] from ZaJ a0 N _ h) [] n [] rfl hnd hlt (show 0 ≤ 0 from by decide) (show ∀ j ∈ ([] : List Nat), j < 0 from by decide) (by rfl) trivial (by rfl) trivial trivial rfl rfl rfl rfl rfl)

noncomputable def ZfH (a0 : Int) (n : Nat) : ZaG := .call [] (Value.string ⟨#[]⟩) [] 0
def Zhm (A : Array Value) (a0 : Int) (n : Nat) : Prop := ZB Tryd.prog 16 A [] (Value.string ⟨#[]⟩) [] n 0

theorem Zka (A : Array Value) (a0 : Int) (N : Nat) (h : ZI a0 N = some (.r6)) (n : Nat) (hA : A = #[vi a0]) (hnd : ([] : List Nat).Nodup) (hlt : ∀ k ∈ ([] : List Nat), k < n) : Zhm A a0  n :=
 Zaq hA (LSpec.callL (show LSpec Tryd.prog 16 #[vi a0] [] (Value.string ⟨#[]⟩) [] from ZaJ a0 N _ h) [] n [] rfl hnd hlt (show 0 ≤ 0 from by decide) (show ∀ j ∈ ([] : List Nat), j < 0 from by decide) (by rfl) trivial (by rfl) trivial trivial rfl rfl rfl rfl rfl)

noncomputable def Zek (a0 : Int) (n : Nat) : ZaG := .call [] (Value.string ⟨#[114]⟩) [] 0
def Zkb (A : Array Value) (a0 : Int) (n : Nat) : Prop := ZB Tryd.prog 16 A [] (Value.string ⟨#[114]⟩) [] n 0

theorem ZoK (A : Array Value) (a0 : Int) (N : Nat) (h : ZI a0 N = some (.r7)) (n : Nat) (hA : A = #[vi a0]) (hnd : ([] : List Nat).Nodup) (hlt : ∀ k ∈ ([] : List Nat), k < n) : Zkb A a0  n :=
 Zaq hA (LSpec.callL (show LSpec Tryd.prog 16 #[vi a0] [] (Value.string ⟨#[114]⟩) [] from ZaJ a0 N _ h) [] n [] rfl hnd hlt (show 0 ≤ 0 from by decide) (show ∀ j ∈ ([] : List Nat), j < 0 from by decide) (by rfl) trivial (by rfl) trivial trivial rfl rfl rfl rfl rfl)

noncomputable def Zdx (a0 : Int) (n : Nat) : ZaG := .call [] (Value.string ⟨#[114, 114]⟩) [] 0
def Zkc (A : Array Value) (a0 : Int) (n : Nat) : Prop := ZB Tryd.prog 16 A [] (Value.string ⟨#[114, 114]⟩) [] n 0

theorem ZoL (A : Array Value) (a0 : Int) (N : Nat) (h : ZI a0 N = some (.r8)) (n : Nat) (hA : A = #[vi a0]) (hnd : ([] : List Nat).Nodup) (hlt : ∀ k ∈ ([] : List Nat), k < n) : Zkc A a0  n :=
 Zaq hA (LSpec.callL (show LSpec Tryd.prog 16 #[vi a0] [] (Value.string ⟨#[114, 114]⟩) [] from ZaJ a0 N _ h) [] n [] rfl hnd hlt (show 0 ≤ 0 from by decide) (show ∀ j ∈ ([] : List Nat), j < 0 from by decide) (by rfl) trivial (by rfl) trivial trivial rfl rfl rfl rfl rfl)

noncomputable def Zcy (a0 : Int) (n : Nat) : ZaG := .call [] (Value.string ⟨#[114, 114, 114]⟩) [] 0
def Zkd (A : Array Value) (a0 : Int) (n : Nat) : Prop := ZB Tryd.prog 16 A [] (Value.string ⟨#[114, 114, 114]⟩) [] n 0

theorem ZoM (A : Array Value) (a0 : Int) (N : Nat) (h : ZI a0 N = some (.r9)) (n : Nat) (hA : A = #[vi a0]) (hnd : ([] : List Nat).Nodup) (hlt : ∀ k ∈ ([] : List Nat), k < n) : Zkd A a0  n :=
 Zaq hA (LSpec.callL (show LSpec Tryd.prog 16 #[vi a0] [] (Value.string ⟨#[114, 114, 114]⟩) [] from ZaJ a0 N _ h) [] n [] rfl hnd hlt (show 0 ≤ 0 from by decide) (show ∀ j ∈ ([] : List Nat), j < 0 from by decide) (by rfl) trivial (by rfl) trivial trivial rfl rfl rfl rfl rfl)

noncomputable def ZeQ (L0 L1 : List Int) (a2 : Int) (L3 : List RA) (L4 : List Int) (L5 : List R_is) (L6 : List (List Int)) (L7 : List R_si) : Zar → Value
 | .r0 => vi ((bAt L0 1) - (48 : Int))
 | .r1 => Value.iface 88 (Value.agg #[vi a2])
noncomputable def Ze9 (L0 L1 : List Int) (a2 : Int) (L3 : List RA) (L4 : List Int) (L5 : List R_is) (L6 : List (List Int)) (L7 : List R_si) : Zar → List (Option AObj)
 | .r0 => [some (.cells (rdc L1 a2 L3 L4 L5 L6) 57), some (.cells (Zb E_iiii L3) 24 true), some (.cells (Zb eI L4) 3 true), some (.cells (Zb Zu L5) 122 true), some (.cells (Zb Zs L6) 9 true), some (.ro (Zj L7) true)]
 | .r1 => [none, none, none, none, none, none]

noncomputable def ZfZ : FuncId → Option Ext := fun f => bif Nat.beq f 62 then none else ZJ f
theorem Zga : Fit Tryd.prog ZfZ := Zhl ZdC _

noncomputable def Zel (L0 L1 : List Int) (a2 : Int) (L3 : List RA) (L4 : List Int) (L5 : List R_is) (L6 : List (List Int)) (L7 : List R_si) : List (Bool × Bool) := (dP (∃ y, 0 ≤ (0 : Int) ∧ ((Za L0))[((0 : Int)).toNat]? = some y ∧ (bAt L0 0) = (y.toNat : Int)), true) :: (((((Za L0).size : Nat) : Int) == (2 : Int)), true) :: []

noncomputable def ZcD (L0 L1 : List Int) (a2 : Int) (L3 : List RA) (L4 : List Int) (L5 : List R_is) (L6 : List (List Int)) (L7 : List R_si) : List (Bool × Bool) := (dP (∃ y, 0 ≤ (1 : Int) ∧ ((Za L0))[((1 : Int)).toNat]? = some y ∧ (bAt L0 1) = (y.toNat : Int)), true) :: (((bAt L0 0) == (114 : Int)), true) :: Zel L0 L1 a2 L3 L4 L5 L6 L7

theorem ZcE {L0 : List Int} {L1 : List Int} {a2 : Int} {L3 : List RA} {L4 : List Int} {L5 : List R_is} {L6 : List (List Int)} {L7 : List R_si} (orc : Orc) (ob : List (Bool × Bool)) (ho : ∀ p ∈ ob, p.1 = p.2) (hev : ZiF Tryd.prog ZfZ 62 (rpr L1 a2 L3 L4 L5 L6 L7) #[vp 0 0, Value.int .i32 (114 : Int), Value.string (Za L0)] 4000 orc = some (Value.iface 88 (Value.agg #[vi a2]), ob) := by as_aux_lemma => kernel_rfl) : Gx Tryd.prog 62 (rpr L1 a2 L3 L4 L5 L6 L7) #[vp 0 0, Value.int .i32 (114 : Int), Value.string (Za L0)] (ZeQ L0 L1 a2 L3 L4 L5 L6 L7) (Ze9 L0 L1 a2 L3 L4 L5 L6 L7) (some (.r1 : Zar)) := Zl4 Zga hev ho rfl (by rfl) (by rfl) (Zay _ rfl)

set_option maxHeartbeats 4000000 in
theorem Zke (L0 L1 : List Int) (a2 : Int) (L3 : List RA) (L4 : List Int) (L5 : List R_is) (L6 : List (List Int)) (L7 : List R_si) (N : Nat) : Gx Tryd.prog 62 (rpr L1 a2 L3 L4 L5 L6 L7) #[vp 0 0, Value.int .i32 (114 : Int), Value.string (Za L0)] (ZeQ L0 L1 a2 L3 L4 L5 L6 L7) (Ze9 L0 L1 a2 L3 L4 L5 L6 L7) (ZA L0 L1 a2 L3 L4 L5 L6 L7 N) := by
 unfold ZA
 refine Zf (fun g0 => ?_) (fun g0 => ?_)
 ·
  have w1 : OkL (Zel L0 L1 a2 L3 L4 L5 L6 L7) :=
   Zc (Zn (Zl5 (M := L0) (i := 0) rfl (by first | rfl | exact ZfX (by omega)) (by (try simp only [ZT] at *); omega))) <| oT <| ZL
  refine Zf (fun g1 => ?_) (fun g1 => ?_)
  ·
   have w2 : OkL (ZcD L0 L1 a2 L3 L4 L5 L6 L7) :=
    Zc (Zn (Zl5 (M := L0) (i := 1) rfl (by first | rfl | exact ZfX (by omega)) (by (try simp only [ZT] at *); omega))) <| oT <| w1
   refine Zf (fun g2 => ?_) (fun g2 => ?_)
   ·
    refine Zf (fun g3 => ?_) (fun g3 => ?_)
    ·
     exact Zcl Zga (fu := 4000) (orc := (Zr [(1, true), (2, true), (3, true), (4, true)] [(0, ((bAt L0 1) - (48 : Int))), (1, ((bAt L0 1) - (48 : Int)))] [] [] [(0, .bs [(bAt L0 0)]), (1, .bs [(bAt L0 1)]), (2, .bs [(bAt L0 1)]), (3, .bs [(bAt L0 1)])])) (live := [0, 1, 2, 3, 4, 5]) (u := vi ((bAt L0 1) - (48 : Int))) (bl := [some (.cells (rdc L1 a2 L3 L4 L5 L6) 57), some (.cells (Zb E_iiii L3) 24 true), some (.cells (Zb eI L4) 3 true), some (.cells (Zb Zu L5) 122 true), some (.cells (Zb Zs L6) 9 true), some (.ro (Zj L7) true)]) (ob := (((IntKind.i64.wrap ((bAt L0 1) - (48 : Int))) == ((bAt L0 1) - (48 : Int)), true) :: ((IntKind.u8.wrap ((bAt L0 1) - (48 : Int))) == ((bAt L0 1) - (48 : Int)), true) :: (dP (∃ y, 0 ≤ (1 : Int) ∧ ((Za L0))[((1 : Int)).toNat]? = some y ∧ (bAt L0 1) = (y.toNat : Int)), true) :: ((decide ((bAt L0 1) < (56 : Int))), true) :: (dP (∃ y, 0 ≤ (1 : Int) ∧ ((Za L0))[((1 : Int)).toNat]? = some y ∧ (bAt L0 1) = (y.toNat : Int)), true) :: ((decide ((bAt L0 1) ≥ (48 : Int))), true) :: ZcD L0 L1 a2 L3 L4 L5 L6 L7)) (by as_aux_lemma => kernel_rfl) (Zc (beq_iff_eq.2 (wrap_i64 ltA)) <| Zc (beq_iff_eq.2 ((Zwb ltA).trans (by first | rfl | omega))) <| Zc (Zn (Zl5 (M := L0) (i := 1) rfl (by first | rfl | exact ZfX (by omega)) (by (try simp only [ZT] at *); omega))) <| oY <| Zc (Zn (Zl5 (M := L0) (i := 1) rfl (by first | rfl | exact ZfX (by omega)) (by (try simp only [ZT] at *); omega))) <| oY <| w2) rfl (by decide) (by rfl) rr ⟨sm, ⟨(Zm (E := E_iiii) (α := RA) _ L3 _), ⟨(Zm (E := eI) (α := Int) _ L4 _), ⟨(Zm (E := Zu) (α := R_is) _ L5 _), ⟨(Zm (E := Zs) (α := List Int) _ L6 _), ⟨(show Zj L7 = Zj L7 from rfl), trivial⟩⟩⟩⟩⟩⟩ (Zay _ rfl)
    ·
     exact ZcE (Zr [(1, true), (2, true), (3, true), (4, false)] [] [] [] [(0, .bs [(bAt L0 0)]), (1, .bs [(bAt L0 1)]), (2, .bs [(bAt L0 1)])]) (((decide ((bAt L0 1) < (56 : Int))), false) :: (dP (∃ y, 0 ≤ (1 : Int) ∧ ((Za L0))[((1 : Int)).toNat]? = some y ∧ (bAt L0 1) = (y.toNat : Int)), true) :: ((decide ((bAt L0 1) ≥ (48 : Int))), true) :: ZcD L0 L1 a2 L3 L4 L5 L6 L7) (oN <| Zc (Zn (Zl5 (M := L0) (i := 1) rfl (by first | rfl | exact ZfX (by omega)) (by (try simp only [ZT] at *); omega))) <| oY <| w2)
   ·
    exact ZcE (Zr [(1, true), (2, true), (3, false)] [] [] [] [(0, .bs [(bAt L0 0)]), (1, .bs [(bAt L0 1)])]) (((decide ((bAt L0 1) ≥ (48 : Int))), false) :: ZcD L0 L1 a2 L3 L4 L5 L6 L7) (oN <| w2)
  ·
   exact ZcE (Zr [(1, true), (2, false)] [] [] [] [(0, .bs [(bAt L0 0)])]) ((((bAt L0 0) == (114 : Int)), false) :: Zel L0 L1 a2 L3 L4 L5 L6 L7) (oF <| w1)
 ·
  exact ZcE (Zr [(1, false)] [] [] [] []) ((((((Za L0).size : Nat) : Int) == (2 : Int)), false) :: []) (oF <| ZL)

theorem ZfK (L0 L1 : List Int) (a2 : Int) (L3 : List RA) (L4 : List Int) (L5 : List R_is) (L6 : List (List Int)) (L7 : List R_si) (N : Nat) (r : Zar) (h : ZA L0 L1 a2 L3 L4 L5 L6 L7 N = some r) : LSpec Tryd.prog 62 #[vp 0 0, Value.int .i32 (114 : Int), Value.string (Za L0)] (rpr L1 a2 L3 L4 L5 L6 L7) (ZeQ L0 L1 a2 L3 L4 L5 L6 L7 r) (Ze9 L0 L1 a2 L3 L4 L5 L6 L7 r) :=
 Zke L0 L1 a2 L3 L4 L5 L6 L7 N r h

noncomputable def Z3 (L0 L1 : List Int) (a2 : Int) (L3 : List RA) (L4 : List Int) (L5 : List R_is) (L6 : List (List Int)) (L7 : List R_si) (k0 k1 k2 k3 k4 k5 n : Nat) : ZaG := .call [(k0, .cells [Value.string (Za L1), vi a2, vs k1 0 L3.length L3.length, vs k2 0 L4.length L4.length, vs k3 0 L5.length L5.length, vs k4 0 L6.length L6.length, Value.map (some k5)] 57), (k1, .cells (Zb E_iiii L3) 24 true), (k2, .cells (Zb eI L4) 3 true), (k3, .cells (Zb Zu L5) 122 true), (k4, .cells (Zb Zs L6) 9 true), (k5, .ro (Zj L7) true)] (vi ((bAt L0 1) - (48 : Int))) [] 0
def ZV (A : Array Value) (L0 L1 : List Int) (a2 : Int) (L3 : List RA) (L4 : List Int) (L5 : List R_is) (L6 : List (List Int)) (L7 : List R_si) (k0 k1 k2 k3 k4 k5 n : Nat) : Prop := ZB Tryd.prog 62 A [(k0, .cells [Value.string (Za L1), vi a2, vs k1 0 L3.length L3.length, vs k2 0 L4.length L4.length, vs k3 0 L5.length L5.length, vs k4 0 L6.length L6.length, Value.map (some k5)] 57), (k1, .cells (Zb E_iiii L3) 24 true), (k2, .cells (Zb eI L4) 3 true), (k3, .cells (Zb Zu L5) 122 true), (k4, .cells (Zb Zs L6) 9 true), (k5, .ro (Zj L7) true)] (vi ((bAt L0 1) - (48 : Int))) [] n 0

theorem Zae (A : Array Value) (L0 L1 : List Int) (a2 : Int) (L3 : List RA) (L4 : List Int) (L5 : List R_is) (L6 : List (List Int)) (L7 : List R_si) (N : Nat) (h : ZA L0 L1 a2 L3 L4 L5 L6 L7 N = some (.r0)) (k0 k1 k2 k3 k4 k5 n : Nat) (hA : A = #[vp k0 0, Value.int .i32 (114 : Int), Value.string (Za L0)]) (hnd : ([k0, k1, k2, k3, k4, k5] : List Nat).Nodup) (hlt : ∀ k ∈ ([k0, k1, k2, k3, k4, k5] : List Nat), k < n) : ZV A L0 L1 a2 L3 L4 L5 L6 L7 k0 k1 k2 k3 k4 k5 n :=
 Zaq hA (LSpec.callL (show LSpec Tryd.prog 62 #[vp 0 0, Value.int .i32 (114 : Int), Value.string (Za L0)] (rpr L1 a2 L3 L4 L5 L6 L7) (vi ((bAt L0 1) - (48 : Int))) [some (.cells (rdc L1 a2 L3 L4 L5 L6) 57), some (.cells (Zb E_iiii L3) 24 true), some (.cells (Zb eI L4) 3 true), some (.cells (Zb Zu L5) 122 true), some (.cells (Zb Zs L6) 9 true), some (.ro (Zj L7) true)] from ZfK L0 L1 a2 L3 L4 L5 L6 L7 N _ h) [k0, k1, k2, k3, k4, k5] n [] rfl hnd hlt (show 6 ≤ 6 from by decide) (show ∀ j ∈ ([] : List Nat), j < 6 from by decide) (by rfl) ⟨rfl, ⟨(Zp _ _ _), ⟨(Zp _ _ _), ⟨(Zp _ _ _), ⟨(Zp _ _ _), ⟨rfl, trivial⟩⟩⟩⟩⟩⟩ (by rfl) ⟨rfl, ⟨(Zp _ _ _), ⟨(Zp _ _ _), ⟨(Zp _ _ _), ⟨(Zp _ _ _), ⟨rfl, trivial⟩⟩⟩⟩⟩⟩ ⟨.inr rfl, ⟨.inr rfl, ⟨.inr rfl, ⟨.inr rfl, ⟨.inr rfl, ⟨.inr rfl, trivial⟩⟩⟩⟩⟩⟩ rfl rfl rfl (Zd (Zk rfl rfl) (Zd (Zk rfl (Z0 _ _ _)) (Zd (Zk rfl (Z0 _ _ _)) (Zd (Zk rfl (Z0 _ _ _)) (Zd (Zk rfl (Z0 _ _ _)) (Zd (Zk rfl rfl) rfl)))))) rfl)

noncomputable def Zaf (L0 L1 : List Int) (a2 : Int) (L3 : List RA) (L4 : List Int) (L5 : List R_is) (L6 : List (List Int)) (L7 : List R_si) (k0 k1 k2 k3 k4 k5 n : Nat) : ZaG := .call [(k0, .cells [Value.string (Za L1), vi a2, vs k1 0 L3.length L3.length, vs k2 0 L4.length L4.length, vs k3 0 L5.length L5.length, vs k4 0 L6.length L6.length, Value.map (some k5)] 57), (k1, .cells (Zb E_iiii L3) 24 true), (k2, .cells (Zb eI L4) 3 true), (k3, .cells (Zb Zu L5) 122 true), (k4, .cells (Zb Zs L6) 9 true), (k5, .ro (Zj L7) true)] (Value.iface 88 (Value.agg #[vi a2])) [(k0, none), (k1, none), (k2, none), (k3, none), (k4, none), (k5, none)] 0
def ZW (A : Array Value) (L0 L1 : List Int) (a2 : Int) (L3 : List RA) (L4 : List Int) (L5 : List R_is) (L6 : List (List Int)) (L7 : List R_si) (k0 k1 k2 k3 k4 k5 n : Nat) : Prop := ZB Tryd.prog 62 A [(k0, .cells [Value.string (Za L1), vi a2, vs k1 0 L3.length L3.length, vs k2 0 L4.length L4.length, vs k3 0 L5.length L5.length, vs k4 0 L6.length L6.length, Value.map (some k5)] 57), (k1, .cells (Zb E_iiii L3) 24 true), (k2, .cells (Zb eI L4) 3 true), (k3, .cells (Zb Zu L5) 122 true), (k4, .cells (Zb Zs L6) 9 true), (k5, .ro (Zj L7) true)] (Value.iface 88 (Value.agg #[vi a2])) [(k0, none), (k1, none), (k2, none), (k3, none), (k4, none), (k5, none)] n 0

theorem Zag (A : Array Value) (L0 L1 : List Int) (a2 : Int) (L3 : List RA) (L4 : List Int) (L5 : List R_is) (L6 : List (List Int)) (L7 : List R_si) (N : Nat) (h : ZA L0 L1 a2 L3 L4 L5 L6 L7 N = some (.r1)) (k0 k1 k2 k3 k4 k5 n : Nat) (hA : A = #[vp k0 0, Value.int .i32 (114 : Int), Value.string (Za L0)]) (hnd : ([k0, k1, k2, k3, k4, k5] : List Nat).Nodup) (hlt : ∀ k ∈ ([k0, k1, k2, k3, k4, k5] : List Nat), k < n) : ZW A L0 L1 a2 L3 L4 L5 L6 L7 k0 k1 k2 k3 k4 k5 n :=
 Zaq hA (LSpec.callL (show LSpec Tryd.prog 62 #[vp 0 0, Value.int .i32 (114 : Int), Value.string (Za L0)] (rpr L1 a2 L3 L4 L5 L6 L7) (Value.iface 88 (Value.agg #[vi a2])) [none, none, none, none, none, none] from ZfK L0 L1 a2 L3 L4 L5 L6 L7 N _ h) [k0, k1, k2, k3, k4, k5] n [0, 1, 2, 3, 4, 5] rfl hnd hlt (show 6 ≤ 6 from by decide) (show ∀ j ∈ ([0, 1, 2, 3, 4, 5] : List Nat), j < 6 from by decide) (by rfl) ⟨rfl, ⟨(Zp _ _ _), ⟨(Zp _ _ _), ⟨(Zp _ _ _), ⟨(Zp _ _ _), ⟨rfl, trivial⟩⟩⟩⟩⟩⟩ (by rfl) trivial ⟨.inl (by decide), ⟨.inl (by decide), ⟨.inl (by decide), ⟨.inl (by decide), ⟨.inl (by decide), ⟨.inl (by decide), trivial⟩⟩⟩⟩⟩⟩ rfl rfl rfl (Zd (Zk rfl rfl) (Zd (Zk rfl (Z0 _ _ _)) (Zd (Zk rfl (Z0 _ _ _)) (Zd (Zk rfl (Z0 _ _ _)) (Zd (Zk rfl (Z0 _ _ _)) (Zd (Zk rfl rfl) rfl)))))) (Zd (Zk rfl rfl) (Zd (Zk rfl rfl) (Zd (Zk rfl rfl) (Zd (Zk rfl rfl) (Zd (Zk rfl rfl) (Zd (Zk rfl rfl) rfl)))))))

noncomputable def Zem (L0 L1 : List Int) (a2 : Int) (L3 : List RA) (L4 : List Int) (L5 : List R_is) (L6 : List (List Int)) (L7 : List R_si) : ZaX → Value
 | .r0 => vi (ZK L0)
 | .r1 => Value.iface 88 (Value.agg #[vi a2])
noncomputable def ZdP (L0 L1 : List Int) (a2 : Int) (L3 : List RA) (L4 : List Int) (L5 : List R_is) (L6 : List (List Int)) (L7 : List R_si) : ZaX → List (Option AObj)
 | .r0 => [some (.cells (rdc L1 a2 L3 L4 L5 L6) 57), some (.cells (Zb E_iiii L3) 24 true), some (.cells (Zb eI L4) 3 true), some (.cells (Zb Zu L5) 122 true), some (.cells (Zb Zs L6) 9 true), some (.ro (Zj L7) true)]
 | .r1 => [none, none, none, none, none, none]

noncomputable def Zfp : FuncId → Option Ext := fun f => bif Nat.beq f 62 then none else ZJ f
theorem Zfq : Fit Tryd.prog Zfp := Zhl ZdC _

theorem ZiY {L0 : List Int} {L1 : List Int} {a2 : Int} {L3 : List RA} {L4 : List Int} {L5 : List R_is} {L6 : List (List Int)} {L7 : List R_si} (orc : Orc) (ob : List (Bool × Bool)) (ho : ∀ p ∈ ob, p.1 = p.2) (hev : ZiF Tryd.prog Zfp 62 (rpr L1 a2 L3 L4 L5 L6 L7) #[vp 0 0, Value.int .i32 (35 : Int), Value.string (Za L0)] 4000 orc = some (Value.iface 88 (Value.agg #[vi a2]), ob) := by as_aux_lemma => kernel_rfl) : Gx Tryd.prog 62 (rpr L1 a2 L3 L4 L5 L6 L7) #[vp 0 0, Value.int .i32 (35 : Int), Value.string (Za L0)] (Zem L0 L1 a2 L3 L4 L5 L6 L7) (ZdP L0 L1 a2 L3 L4 L5 L6 L7) (some (.r1 : ZaX)) := Zl4 Zfq hev ho rfl (by rfl) (by rfl) (Zay _ rfl)

set_option maxHeartbeats 4000000 in
theorem ZiZ (L0 L1 : List Int) (a2 : Int) (L3 : List RA) (L4 : List Int) (L5 : List R_is) (L6 : List (List Int)) (L7 : List R_si) (N : Nat) : Gx Tryd.prog 62 (rpr L1 a2 L3 L4 L5 L6 L7) #[vp 0 0, Value.int .i32 (35 : Int), Value.string (Za L0)] (Zem L0 L1 a2 L3 L4 L5 L6 L7) (ZdP L0 L1 a2 L3 L4 L5 L6 L7) (Zao L0 L1 a2 L3 L4 L5 L6 L7 N) := by
 unfold Zao
 refine Zf (fun g0 => ?_) (fun _ => Zt)
 refine Zf (fun g1 => ?_) (fun _ => Zt)
 refine Zf (fun g2 => ?_) (fun g2 => ?_)
 ·
  exact Zcl Zfq (fu := 4000) (orc := (Zr [(3, true)] [] [] [] [(0, .bs L0)])) (live := [0, 1, 2, 3, 4, 5]) (u := vi (ZK L0)) (bl := [some (.cells (rdc L1 a2 L3 L4 L5 L6) 57), some (.cells (Zb E_iiii L3) 24 true), some (.cells (Zb eI L4) 3 true), some (.cells (Zb Zu L5) 122 true), some (.cells (Zb Zs L6) 9 true), some (.ro (Zj L7) true)]) (ob := (((Zbw L0), true) :: (dP ((Za L0) = Za L0 ∧ ZP L0 = true ∧ L0.length ≤ 1000000), true) :: [])) (by as_aux_lemma => kernel_rfl) (Zc (by assumption) <| Zc (Zn ⟨rfl, by assumption, ltA⟩) <| ZL) rfl (by decide) (by rfl) rr ⟨sm, ⟨(Zm (E := E_iiii) (α := RA) _ L3 _), ⟨(Zm (E := eI) (α := Int) _ L4 _), ⟨(Zm (E := Zu) (α := R_is) _ L5 _), ⟨(Zm (E := Zs) (α := List Int) _ L6 _), ⟨(show Zj L7 = Zj L7 from rfl), trivial⟩⟩⟩⟩⟩⟩ (Zay _ rfl)
 ·
  exact ZiY (Zr [(3, false)] [] [] [] [(0, .bs L0)]) (((Zbw L0), false) :: (dP ((Za L0) = Za L0 ∧ ZP L0 = true ∧ L0.length ≤ 1000000), true) :: []) (Zc (Bool.eq_false_iff.2 (by assumption)) <| Zc (Zn ⟨rfl, by assumption, ltA⟩) <| ZL)

theorem ZeX (L0 L1 : List Int) (a2 : Int) (L3 : List RA) (L4 : List Int) (L5 : List R_is) (L6 : List (List Int)) (L7 : List R_si) (N : Nat) (r : ZaX) (h : Zao L0 L1 a2 L3 L4 L5 L6 L7 N = some r) : LSpec Tryd.prog 62 #[vp 0 0, Value.int .i32 (35 : Int), Value.string (Za L0)] (rpr L1 a2 L3 L4 L5 L6 L7) (Zem L0 L1 a2 L3 L4 L5 L6 L7 r) (ZdP L0 L1 a2 L3 L4 L5 L6 L7 r) :=
 ZiZ L0 L1 a2 L3 L4 L5 L6 L7 N r h

noncomputable def ZaR (L0 L1 : List Int) (a2 : Int) (L3 : List RA) (L4 : List Int) (L5 : List R_is) (L6 : List (List Int)) (L7 : List R_si) (k0 k1 k2 k3 k4 k5 n : Nat) : ZaG := .call [(k0, .cells [Value.string (Za L1), vi a2, vs k1 0 L3.length L3.length, vs k2 0 L4.length L4.length, vs k3 0 L5.length L5.length, vs k4 0 L6.length L6.length, Value.map (some k5)] 57), (k1, .cells (Zb E_iiii L3) 24 true), (k2, .cells (Zb eI L4) 3 true), (k3, .cells (Zb Zu L5) 122 true), (k4, .cells (Zb Zs L6) 9 true), (k5, .ro (Zj L7) true)] (vi (ZK L0)) [] 0
def Zbg (A : Array Value) (L0 L1 : List Int) (a2 : Int) (L3 : List RA) (L4 : List Int) (L5 : List R_is) (L6 : List (List Int)) (L7 : List R_si) (k0 k1 k2 k3 k4 k5 n : Nat) : Prop := ZB Tryd.prog 62 A [(k0, .cells [Value.string (Za L1), vi a2, vs k1 0 L3.length L3.length, vs k2 0 L4.length L4.length, vs k3 0 L5.length L5.length, vs k4 0 L6.length L6.length, Value.map (some k5)] 57), (k1, .cells (Zb E_iiii L3) 24 true), (k2, .cells (Zb eI L4) 3 true), (k3, .cells (Zb Zu L5) 122 true), (k4, .cells (Zb Zs L6) 9 true), (k5, .ro (Zj L7) true)] (vi (ZK L0)) [] n 0

theorem ZbG (A : Array Value) (L0 L1 : List Int) (a2 : Int) (L3 : List RA) (L4 : List Int) (L5 : List R_is) (L6 : List (List Int)) (L7 : List R_si) (N : Nat) (h : Zao L0 L1 a2 L3 L4 L5 L6 L7 N = some (.r0)) (k0 k1 k2 k3 k4 k5 n : Nat) (hA : A = #[vp k0 0, Value.int .i32 (35 : Int), Value.string (Za L0)]) (hnd : ([k0, k1, k2, k3, k4, k5] : List Nat).Nodup) (hlt : ∀ k ∈ ([k0, k1, k2, k3, k4, k5] : List Nat), k < n) : Zbg A L0 L1 a2 L3 L4 L5 L6 L7 k0 k1 k2 k3 k4 k5 n :=
 Zaq hA (LSpec.callL (show LSpec Tryd.prog 62 #[vp 0 0, Value.int .i32 (35 : Int), Value.string (Za L0)] (rpr L1 a2 L3 L4 L5 L6 L7) (vi (ZK L0)) [some (.cells (rdc L1 a2 L3 L4 L5 L6) 57), some (.cells (Zb E_iiii L3) 24 true), some (.cells (Zb eI L4) 3 true), some (.cells (Zb Zu L5) 122 true), some (.cells (Zb Zs L6) 9 true), some (.ro (Zj L7) true)] from ZeX L0 L1 a2 L3 L4 L5 L6 L7 N _ h) [k0, k1, k2, k3, k4, k5] n [] rfl hnd hlt (show 6 ≤ 6 from by decide) (show ∀ j ∈ ([] : List Nat), j < 6 from by decide) (by rfl) ⟨rfl, ⟨(Zp _ _ _), ⟨(Zp _ _ _), ⟨(Zp _ _ _), ⟨(Zp _ _ _), ⟨rfl, trivial⟩⟩⟩⟩⟩⟩ (by rfl) ⟨rfl, ⟨(Zp _ _ _), ⟨(Zp _ _ _), ⟨(Zp _ _ _), ⟨(Zp _ _ _), ⟨rfl, trivial⟩⟩⟩⟩⟩⟩ ⟨.inr rfl, ⟨.inr rfl, ⟨.inr rfl, ⟨.inr rfl, ⟨.inr rfl, ⟨.inr rfl, trivial⟩⟩⟩⟩⟩⟩ rfl rfl rfl (Zd (Zk rfl rfl) (Zd (Zk rfl (Z0 _ _ _)) (Zd (Zk rfl (Z0 _ _ _)) (Zd (Zk rfl (Z0 _ _ _)) (Zd (Zk rfl (Z0 _ _ _)) (Zd (Zk rfl rfl) rfl)))))) rfl)

noncomputable def ZbH (L0 L1 : List Int) (a2 : Int) (L3 : List RA) (L4 : List Int) (L5 : List R_is) (L6 : List (List Int)) (L7 : List R_si) (k0 k1 k2 k3 k4 k5 n : Nat) : ZaG := .call [(k0, .cells [Value.string (Za L1), vi a2, vs k1 0 L3.length L3.length, vs k2 0 L4.length L4.length, vs k3 0 L5.length L5.length, vs k4 0 L6.length L6.length, Value.map (some k5)] 57), (k1, .cells (Zb E_iiii L3) 24 true), (k2, .cells (Zb eI L4) 3 true), (k3, .cells (Zb Zu L5) 122 true), (k4, .cells (Zb Zs L6) 9 true), (k5, .ro (Zj L7) true)] (Value.iface 88 (Value.agg #[vi a2])) [(k0, none), (k1, none), (k2, none), (k3, none), (k4, none), (k5, none)] 0
def Zbh (A : Array Value) (L0 L1 : List Int) (a2 : Int) (L3 : List RA) (L4 : List Int) (L5 : List R_is) (L6 : List (List Int)) (L7 : List R_si) (k0 k1 k2 k3 k4 k5 n : Nat) : Prop := ZB Tryd.prog 62 A [(k0, .cells [Value.string (Za L1), vi a2, vs k1 0 L3.length L3.length, vs k2 0 L4.length L4.length, vs k3 0 L5.length L5.length, vs k4 0 L6.length L6.length, Value.map (some k5)] 57), (k1, .cells (Zb E_iiii L3) 24 true), (k2, .cells (Zb eI L4) 3 true), (k3, .cells (Zb Zu L5) 122 true), (k4, .cells (Zb Zs L6) 9 true), (k5, .ro (Zj L7) true)] (Value.iface 88 (Value.agg #[vi a2])) [(k0, none), (k1, none), (k2, none), (k3, none), (k4, none), (k5, none)] n 0

theorem ZbI (A : Array Value) (L0 L1 : List Int) (a2 : Int) (L3 : List RA) (L4 : List Int) (L5 : List R_is) (L6 : List (List Int)) (L7 : List R_si) (N : Nat) (h : Zao L0 L1 a2 L3 L4 L5 L6 L7 N = some (.r1)) (k0 k1 k2 k3 k4 k5 n : Nat) (hA : A = #[vp k0 0, Value.int .i32 (35 : Int), Value.string (Za L0)]) (hnd : ([k0, k1, k2, k3, k4, k5] : List Nat).Nodup) (hlt : ∀ k ∈ ([k0, k1, k2, k3, k4, k5] : List Nat), k < n) : Zbh A L0 L1 a2 L3 L4 L5 L6 L7 k0 k1 k2 k3 k4 k5 n :=
 Zaq hA (LSpec.callL (show LSpec Tryd.prog 62 #[vp 0 0, Value.int .i32 (35 : Int), Value.string (Za L0)] (rpr L1 a2 L3 L4 L5 L6 L7) (Value.iface 88 (Value.agg #[vi a2])) [none, none, none, none, none, none] from ZeX L0 L1 a2 L3 L4 L5 L6 L7 N _ h) [k0, k1, k2, k3, k4, k5] n [0, 1, 2, 3, 4, 5] rfl hnd hlt (show 6 ≤ 6 from by decide) (show ∀ j ∈ ([0, 1, 2, 3, 4, 5] : List Nat), j < 6 from by decide) (by rfl) ⟨rfl, ⟨(Zp _ _ _), ⟨(Zp _ _ _), ⟨(Zp _ _ _), ⟨(Zp _ _ _), ⟨rfl, trivial⟩⟩⟩⟩⟩⟩ (by rfl) trivial ⟨.inl (by decide), ⟨.inl (by decide), ⟨.inl (by decide), ⟨.inl (by decide), ⟨.inl (by decide), ⟨.inl (by decide), trivial⟩⟩⟩⟩⟩⟩ rfl rfl rfl (Zd (Zk rfl rfl) (Zd (Zk rfl (Z0 _ _ _)) (Zd (Zk rfl (Z0 _ _ _)) (Zd (Zk rfl (Z0 _ _ _)) (Zd (Zk rfl (Z0 _ _ _)) (Zd (Zk rfl rfl) rfl)))))) (Zd (Zk rfl rfl) (Zd (Zk rfl rfl) (Zd (Zk rfl rfl) (Zd (Zk rfl rfl) (Zd (Zk rfl rfl) (Zd (Zk rfl rfl) rfl)))))))

noncomputable def Zen (L0 L1 : List Int) (a2 : Int) (L3 : List RA) (L4 : List Int) (L5 : List R_is) (L6 : List (List Int)) (L7 : List R_si) : Za2 → Value
 | .r0 => vq
 | .r1 => Value.iface 88 (Value.agg #[vi a2])
noncomputable def ZdQ (L0 L1 : List Int) (a2 : Int) (L3 : List RA) (L4 : List Int) (L5 : List R_is) (L6 : List (List Int)) (L7 : List R_si) : Za2 → List (Option AObj)
 | .r0 => [some (.cells [Value.string (Za L1), vi a2, vs 1 0 L3.length L3.length, vs 2 0 L4.length L4.length, vs 6 0 (L5.length + 1) (L5.length + 1), vs 4 0 L6.length L6.length, Value.map (some 5)] 57), some (.cells (Zb E_iiii L3) 24 true), some (.cells (Zb eI L4) 3 true), none, some (.cells (Zb Zs L6) 9 true), some (.ro (Zj L7) true), some (.cells (Zb Zu (L5 ++ ([(⟨(L3.length : Int), (L0.drop 1)⟩ : R_is)] : List R_is))) 122)]
 | .r1 => [none, none, none, none, none, none]

noncomputable def Zfr : FuncId → Option Ext := fun f => bif Nat.beq f 62 then none else ZJ f
theorem Zfs : Fit Tryd.prog Zfr := Zhl ZdC _

noncomputable def Zd7 (L0 L1 : List Int) (a2 : Int) (L3 : List RA) (L4 : List Int) (L5 : List R_is) (L6 : List (List Int)) (L7 : List R_si) : List (Bool × Bool) := (dP (∃ y, 0 ≤ (0 : Int) ∧ ((Za L0))[((0 : Int)).toNat]? = some y ∧ (bAt L0 0) = (y.toNat : Int)), true) :: ((decide ((((Za L0).size : Nat) : Int) > (1 : Int))), true) :: []

noncomputable def Zd8 (L0 L1 : List Int) (a2 : Int) (L3 : List RA) (L4 : List Int) (L5 : List R_is) (L6 : List (List Int)) (L7 : List R_si) : List (Bool × Bool) := (dP (0 ≤ (1 : Int) ∧ (1 : Int) ≤ ((((Za L0)).size : Nat) : Int) ∧ ((((Za L0)).size : Nat) : Int) ≤ ((((Za L0)).size : Nat) : Int) ∧ ((Za L0)).extract ((1 : Int)).toNat (((((Za L0)).size : Nat) : Int)).toNat = Za (L0.drop 1)), true) :: (((bAt L0 0) == (64 : Int)), true) :: Zd7 L0 L1 a2 L3 L4 L5 L6 L7

theorem Zd9 {L0 : List Int} {L1 : List Int} {a2 : Int} {L3 : List RA} {L4 : List Int} {L5 : List R_is} {L6 : List (List Int)} {L7 : List R_si} (orc : Orc) (ob : List (Bool × Bool)) (ho : ∀ p ∈ ob, p.1 = p.2) (hev : ZiF Tryd.prog Zfr 62 (rpr L1 a2 L3 L4 L5 L6 L7) #[vp 0 0, Value.int .i32 (64 : Int), Value.string (Za L0)] 4000 orc = some (Value.iface 88 (Value.agg #[vi a2]), ob) := by as_aux_lemma => kernel_rfl) : Gx Tryd.prog 62 (rpr L1 a2 L3 L4 L5 L6 L7) #[vp 0 0, Value.int .i32 (64 : Int), Value.string (Za L0)] (Zen L0 L1 a2 L3 L4 L5 L6 L7) (ZdQ L0 L1 a2 L3 L4 L5 L6 L7) (some (.r1 : Za2)) := Zl4 Zfs hev ho rfl (by rfl) (by rfl) (Zay _ rfl)

set_option maxHeartbeats 4000000 in
theorem Zja (L0 L1 : List Int) (a2 : Int) (L3 : List RA) (L4 : List Int) (L5 : List R_is) (L6 : List (List Int)) (L7 : List R_si) (N : Nat) : Gx Tryd.prog 62 (rpr L1 a2 L3 L4 L5 L6 L7) #[vp 0 0, Value.int .i32 (64 : Int), Value.string (Za L0)] (Zen L0 L1 a2 L3 L4 L5 L6 L7) (ZdQ L0 L1 a2 L3 L4 L5 L6 L7) (ZaB L0 L1 a2 L3 L4 L5 L6 L7 N) := by
 unfold ZaB
 refine Zf (fun g0 => ?_) (fun g0 => ?_)
 ·
  have w1 : OkL (Zd7 L0 L1 a2 L3 L4 L5 L6 L7) :=
   Zc (Zn (Zl5 (M := L0) (i := 0) rfl (by first | rfl | exact ZfX (by omega)) (by (try simp only [ZT] at *); omega))) <| oY <| ZL
  refine Zf (fun g1 => ?_) (fun g1 => ?_)
  ·
   have w2 : OkL (Zd8 L0 L1 a2 L3 L4 L5 L6 L7) :=
    Zc (Zn (Zvl (M := L0) (R := (L0.drop 1)) rfl (by (try simp only [ZT] at *); omega) (by (try simp only [ZT] at *); omega) (by first | rfl | simp))) <| oT <| w1
   refine ZaO (fun z2 c2 => ?_)
   cases z2 with
   | r0 y2_0 =>
    refine Zf (fun g3 => ?_) (fun g3 => ?_)
    ·
     subst g3
     refine Zf (fun g4 => ?_) (fun _ => Zt)
     exact Zcl Zfs (fu := 4000) (orc := (Zr [(2, true), (3, true)] [] [] [] [(0, .bs [(bAt L0 0)]), (1, .bs (L0.drop 1)), (2, (Zgf ((L0.drop 1))  true  6)), (3, .bs (L0.drop 1)), (4, .ap 1 [vi (L3.length : Int), Value.string (Za (L0.drop 1))] (Zb Zu (L5 ++ ([(⟨(L3.length : Int), (L0.drop 1)⟩ : R_is)] : List R_is))))])) (live := [0, 1, 2, 3, 4, 5, 7]) (u := vq) (bl := [some (.cells [Value.string (Za L1), vi a2, vs 1 0 L3.length L3.length, vs 2 0 L4.length L4.length, vs 7 0 (L5.length + 1) (L5.length + 1), vs 4 0 L6.length L6.length, Value.map (some 5)] 57), some (.cells (Zb E_iiii L3) 24 true), some (.cells (Zb eI L4) 3 true), none, some (.cells (Zb Zs L6) 9 true), some (.ro (Zj L7) true), some (.cells (Zb Zu (L5 ++ ([(⟨(L3.length : Int), (L0.drop 1)⟩ : R_is)] : List R_is))) 122)]) (ob := ((dP ((1 = 1 ∧ Z8 (1 * 2) (List.drop 0 [vi (L3.length : Int), Value.string (Za (L0.drop 1))]) = some [vi (L3.length : Int), Value.string (Za (L0.drop 1))] ∧ Z7 Za8 [vi (L3.length : Int), Value.string (Za (L0.drop 1))] = true) ∧ 0 < 1 ∧ 1 ≤ 100000 ∧ L5.length < L5.length + 1 ∧ L5.length ≤ 100000 ∧ L5.length * 2 ≤ (List.length (Zb Zu L5)) ∧ List.take (L5.length * 2) (Zb Zu L5) ++ [vi (L3.length : Int), Value.string (Za (L0.drop 1))] = (Zb Zu (L5 ++ ([(⟨(L3.length : Int), (L0.drop 1)⟩ : R_is)] : List R_is)))), true) :: (dP (0 ≤ (1 : Int) ∧ (1 : Int) ≤ ((((Za L0)).size : Nat) : Int) ∧ ((((Za L0)).size : Nat) : Int) ≤ ((((Za L0)).size : Nat) : Int) ∧ ((Za L0)).extract ((1 : Int)).toNat (((((Za L0)).size : Nat) : Int)).toNat = Za (L0.drop 1)), true) :: (dP (ZeF #[Value.string (Za (L0.drop 1))] ((L0.drop 1))  true  6), true) :: Zd8 L0 L1 a2 L3 L4 L5 L6 L7)) (by as_aux_lemma => kernel_rfl) (Zc (Zn ⟨⟨rfl, ⟨rfl, rfl⟩⟩, by omega, by omega, ltA, by omega, (ZaN (E := Zu) (L := L5) (M := ([(⟨(L3.length : Int), (L0.drop 1)⟩ : R_is)] : List R_is)) (n := L5.length) (show _ = _ * 2 from rfl) (by omega) (R := (L5 ++ ([(⟨(L3.length : Int), (L0.drop 1)⟩ : R_is)] : List R_is))) (by rw [List.take_of_length_le (by omega)]))⟩) <| Zc (Zn (Zvl (M := L0) (R := (L0.drop 1)) rfl (by (try simp only [ZT] at *); omega) (by (try simp only [ZT] at *); omega) (by first | rfl | simp))) <| Zc (Zn (Zgg #[Value.string (Za (L0.drop 1))] ((L0.drop 1))  true N c2  6 rfl dcd dcd)) <| w2) rfl (by decide) (by rfl) rr ⟨sm, ⟨(Zm (E := E_iiii) (α := RA) _ L3 _), ⟨(Zm (E := eI) (α := Int) _ L4 _), ⟨(Zm (E := Zs) (α := List Int) _ L6 _), ⟨(show Zj L7 = Zj L7 from rfl), ⟨(ZE (E := Zu) (α := R_is) _ (L5 ++ ([(⟨(L3.length : Int), (L0.drop 1)⟩ : R_is)] : List R_is)) _), trivial⟩⟩⟩⟩⟩⟩ (Zay _ rfl)
    ·
     obtain rfl : y2_0 = false := by simpa using g3
     exact Zd9 (Zr [(2, true), (3, true)] [] [] [] [(0, .bs [(bAt L0 0)]), (1, .bs (L0.drop 1)), (2, (Zgf ((L0.drop 1))  false  6))]) ((dP (ZeF #[Value.string (Za (L0.drop 1))] ((L0.drop 1))  false  6), true) :: Zd8 L0 L1 a2 L3 L4 L5 L6 L7) (Zc (Zn (Zgg #[Value.string (Za (L0.drop 1))] ((L0.drop 1))  false N c2  6 rfl dcd dcd)) <| w2)
  ·
   exact Zd9 (Zr [(2, true), (3, false)] [] [] [] [(0, .bs [(bAt L0 0)])]) ((((bAt L0 0) == (64 : Int)), false) :: Zd7 L0 L1 a2 L3 L4 L5 L6 L7) (oF <| w1)
 ·
  exact Zd9 (Zr [(2, false)] [] [] [] []) (((decide ((((Za L0).size : Nat) : Int) > (1 : Int))), false) :: []) (oN <| ZL)

theorem ZeY (L0 L1 : List Int) (a2 : Int) (L3 : List RA) (L4 : List Int) (L5 : List R_is) (L6 : List (List Int)) (L7 : List R_si) (N : Nat) (r : Za2) (h : ZaB L0 L1 a2 L3 L4 L5 L6 L7 N = some r) : LSpec Tryd.prog 62 #[vp 0 0, Value.int .i32 (64 : Int), Value.string (Za L0)] (rpr L1 a2 L3 L4 L5 L6 L7) (Zen L0 L1 a2 L3 L4 L5 L6 L7 r) (ZdQ L0 L1 a2 L3 L4 L5 L6 L7 r) :=
 Zja L0 L1 a2 L3 L4 L5 L6 L7 N r h

noncomputable def Zgb (L0 L1 : List Int) (a2 : Int) (L3 : List RA) (L4 : List Int) (L5 : List R_is) (L6 : List (List Int)) (L7 : List R_si) (k0 k1 k2 k3 k4 k5 n : Nat) : ZaG := .call [(k0, .cells [Value.string (Za L1), vi a2, vs k1 0 L3.length L3.length, vs k2 0 L4.length L4.length, vs k3 0 L5.length L5.length, vs k4 0 L6.length L6.length, Value.map (some k5)] 57), (k1, .cells (Zb E_iiii L3) 24 true), (k2, .cells (Zb eI L4) 3 true), (k3, .cells (Zb Zu L5) 122 true), (k4, .cells (Zb Zs L6) 9 true), (k5, .ro (Zj L7) true)] (vq) [(k0, some (.cells [Value.string (Za L1), vi a2, vs k1 0 L3.length L3.length, vs k2 0 L4.length L4.length, vs n 0 (L5.length + 1) (L5.length + 1), vs k4 0 L6.length L6.length, Value.map (some k5)] 57)), (k3, none), (n, some (.cells (Zb Zu (L5 ++ ([(⟨(L3.length : Int), (L0.drop 1)⟩ : R_is)] : List R_is))) 122))] 1
def ZdR (A : Array Value) (L0 L1 : List Int) (a2 : Int) (L3 : List RA) (L4 : List Int) (L5 : List R_is) (L6 : List (List Int)) (L7 : List R_si) (k0 k1 k2 k3 k4 k5 n : Nat) : Prop := ZB Tryd.prog 62 A [(k0, .cells [Value.string (Za L1), vi a2, vs k1 0 L3.length L3.length, vs k2 0 L4.length L4.length, vs k3 0 L5.length L5.length, vs k4 0 L6.length L6.length, Value.map (some k5)] 57), (k1, .cells (Zb E_iiii L3) 24 true), (k2, .cells (Zb eI L4) 3 true), (k3, .cells (Zb Zu L5) 122 true), (k4, .cells (Zb Zs L6) 9 true), (k5, .ro (Zj L7) true)] (vq) [(k0, some (.cells [Value.string (Za L1), vi a2, vs k1 0 L3.length L3.length, vs k2 0 L4.length L4.length, vs n 0 (L5.length + 1) (L5.length + 1), vs k4 0 L6.length L6.length, Value.map (some k5)] 57)), (k3, none), (n, some (.cells (Zb Zu (L5 ++ ([(⟨(L3.length : Int), (L0.drop 1)⟩ : R_is)] : List R_is))) 122))] n 1

theorem Zgc (A : Array Value) (L0 L1 : List Int) (a2 : Int) (L3 : List RA) (L4 : List Int) (L5 : List R_is) (L6 : List (List Int)) (L7 : List R_si) (N : Nat) (h : ZaB L0 L1 a2 L3 L4 L5 L6 L7 N = some (.r0)) (k0 k1 k2 k3 k4 k5 n : Nat) (hA : A = #[vp k0 0, Value.int .i32 (64 : Int), Value.string (Za L0)]) (hnd : ([k0, k1, k2, k3, k4, k5] : List Nat).Nodup) (hlt : ∀ k ∈ ([k0, k1, k2, k3, k4, k5] : List Nat), k < n) : ZdR A L0 L1 a2 L3 L4 L5 L6 L7 k0 k1 k2 k3 k4 k5 n :=
 Zaq hA (LSpec.callL (show LSpec Tryd.prog 62 #[vp 0 0, Value.int .i32 (64 : Int), Value.string (Za L0)] (rpr L1 a2 L3 L4 L5 L6 L7) (vq) [some (.cells [Value.string (Za L1), vi a2, vs 1 0 L3.length L3.length, vs 2 0 L4.length L4.length, vs 6 0 (L5.length + 1) (L5.length + 1), vs 4 0 L6.length L6.length, Value.map (some 5)] 57), some (.cells (Zb E_iiii L3) 24 true), some (.cells (Zb eI L4) 3 true), none, some (.cells (Zb Zs L6) 9 true), some (.ro (Zj L7) true), some (.cells (Zb Zu (L5 ++ ([(⟨(L3.length : Int), (L0.drop 1)⟩ : R_is)] : List R_is))) 122)] from ZeY L0 L1 a2 L3 L4 L5 L6 L7 N _ h) [k0, k1, k2, k3, k4, k5] n [0, 3, 6] rfl hnd hlt (show 6 ≤ 7 from by decide) (show ∀ j ∈ ([0, 3, 6] : List Nat), j < 7 from by decide) (by rfl) ⟨rfl, ⟨(Zp _ _ _), ⟨(Zp _ _ _), ⟨(Zp _ _ _), ⟨(Zp _ _ _), ⟨rfl, trivial⟩⟩⟩⟩⟩⟩ (by rfl) ⟨rfl, ⟨(Zp _ _ _), ⟨(Zp _ _ _), ⟨(Zp _ _ _), ⟨rfl, ⟨(Zp _ _ _), trivial⟩⟩⟩⟩⟩⟩ ⟨.inl (by decide), ⟨.inr rfl, ⟨.inr rfl, ⟨.inl (by decide), ⟨.inr rfl, ⟨.inr rfl, ⟨(by decide), trivial⟩⟩⟩⟩⟩⟩⟩ rfl rfl rfl (Zd (Zk rfl rfl) (Zd (Zk rfl (Z0 _ _ _)) (Zd (Zk rfl (Z0 _ _ _)) (Zd (Zk rfl (Z0 _ _ _)) (Zd (Zk rfl (Z0 _ _ _)) (Zd (Zk rfl rfl) rfl)))))) (Zd (Zk rfl (ZaE rfl)) (Zd (Zk rfl rfl) (Zd (Zk rfl (ZaE (Ze5 _ _ _))) rfl))))

noncomputable def Zgd (L0 L1 : List Int) (a2 : Int) (L3 : List RA) (L4 : List Int) (L5 : List R_is) (L6 : List (List Int)) (L7 : List R_si) (k0 k1 k2 k3 k4 k5 n : Nat) : ZaG := .call [(k0, .cells [Value.string (Za L1), vi a2, vs k1 0 L3.length L3.length, vs k2 0 L4.length L4.length, vs k3 0 L5.length L5.length, vs k4 0 L6.length L6.length, Value.map (some k5)] 57), (k1, .cells (Zb E_iiii L3) 24 true), (k2, .cells (Zb eI L4) 3 true), (k3, .cells (Zb Zu L5) 122 true), (k4, .cells (Zb Zs L6) 9 true), (k5, .ro (Zj L7) true)] (Value.iface 88 (Value.agg #[vi a2])) [(k0, none), (k1, none), (k2, none), (k3, none), (k4, none), (k5, none)] 0
def ZdS (A : Array Value) (L0 L1 : List Int) (a2 : Int) (L3 : List RA) (L4 : List Int) (L5 : List R_is) (L6 : List (List Int)) (L7 : List R_si) (k0 k1 k2 k3 k4 k5 n : Nat) : Prop := ZB Tryd.prog 62 A [(k0, .cells [Value.string (Za L1), vi a2, vs k1 0 L3.length L3.length, vs k2 0 L4.length L4.length, vs k3 0 L5.length L5.length, vs k4 0 L6.length L6.length, Value.map (some k5)] 57), (k1, .cells (Zb E_iiii L3) 24 true), (k2, .cells (Zb eI L4) 3 true), (k3, .cells (Zb Zu L5) 122 true), (k4, .cells (Zb Zs L6) 9 true), (k5, .ro (Zj L7) true)] (Value.iface 88 (Value.agg #[vi a2])) [(k0, none), (k1, none), (k2, none), (k3, none), (k4, none), (k5, none)] n 0

theorem Zge (A : Array Value) (L0 L1 : List Int) (a2 : Int) (L3 : List RA) (L4 : List Int) (L5 : List R_is) (L6 : List (List Int)) (L7 : List R_si) (N : Nat) (h : ZaB L0 L1 a2 L3 L4 L5 L6 L7 N = some (.r1)) (k0 k1 k2 k3 k4 k5 n : Nat) (hA : A = #[vp k0 0, Value.int .i32 (64 : Int), Value.string (Za L0)]) (hnd : ([k0, k1, k2, k3, k4, k5] : List Nat).Nodup) (hlt : ∀ k ∈ ([k0, k1, k2, k3, k4, k5] : List Nat), k < n) : ZdS A L0 L1 a2 L3 L4 L5 L6 L7 k0 k1 k2 k3 k4 k5 n :=
 Zaq hA (LSpec.callL (show LSpec Tryd.prog 62 #[vp 0 0, Value.int .i32 (64 : Int), Value.string (Za L0)] (rpr L1 a2 L3 L4 L5 L6 L7) (Value.iface 88 (Value.agg #[vi a2])) [none, none, none, none, none, none] from ZeY L0 L1 a2 L3 L4 L5 L6 L7 N _ h) [k0, k1, k2, k3, k4, k5] n [0, 1, 2, 3, 4, 5] rfl hnd hlt (show 6 ≤ 6 from by decide) (show ∀ j ∈ ([0, 1, 2, 3, 4, 5] : List Nat), j < 6 from by decide) (by rfl) ⟨rfl, ⟨(Zp _ _ _), ⟨(Zp _ _ _), ⟨(Zp _ _ _), ⟨(Zp _ _ _), ⟨rfl, trivial⟩⟩⟩⟩⟩⟩ (by rfl) trivial ⟨.inl (by decide), ⟨.inl (by decide), ⟨.inl (by decide), ⟨.inl (by decide), ⟨.inl (by decide), ⟨.inl (by decide), trivial⟩⟩⟩⟩⟩⟩ rfl rfl rfl (Zd (Zk rfl rfl) (Zd (Zk rfl (Z0 _ _ _)) (Zd (Zk rfl (Z0 _ _ _)) (Zd (Zk rfl (Z0 _ _ _)) (Zd (Zk rfl (Z0 _ _ _)) (Zd (Zk rfl rfl) rfl)))))) (Zd (Zk rfl rfl) (Zd (Zk rfl rfl) (Zd (Zk rfl rfl) (Zd (Zk rfl rfl) (Zd (Zk rfl rfl) (Zd (Zk rfl rfl) rfl)))))))

noncomputable def ZdA (L0 L1 : List Int) (a2 : Int) (L3 : List RA) (L4 : List Int) (L5 : List R_is) (L6 : List (List Int)) (L7 : List R_si) : Zh → Value
 | .r0 => Value.iface 88 (Value.agg #[vi a2])
 | .r1 w5 => vtt
 | .r2 w4 w6 => vtt
noncomputable def Zd3 (L0 L1 : List Int) (a2 : Int) (L3 : List RA) (L4 : List Int) (L5 : List R_is) (L6 : List (List Int)) (L7 : List R_si) : Zh → List (Option AObj)
 | .r0 => [none, none, none, none, none, none]
 | .r1 w5 => [some (.cells [Value.string (Za L1), vi a2, vs 6 0 w5.length w5.length, vs 7 0 (L4.length + 1) (L4.length + 1), vs 3 0 L5.length L5.length, vs 4 0 L6.length L6.length, Value.map (some 5)] 57), none, none, some (.cells (Zb Zu L5) 122 true), some (.cells (Zb Zs L6) 9 true), some (.ro (Zj L7) true), some (.cells (Zb E_iiii w5) 24), some (.cells (Zb eI (L4 ++ ([a2] : List Int))) 3)]
 | .r2 w4 w6 => [some (.cells [Value.string (Za L1), vi a2, vs 6 0 w4.length w4.length, vs 7 0 (L4.length + 1) (L4.length + 1), vs 8 0 w6.length w6.length, vs 4 0 L6.length L6.length, Value.map (some 5)] 57), none, none, none, some (.cells (Zb Zs L6) 9 true), some (.ro (Zj L7) true), some (.cells (Zb E_iiii w4) 24), some (.cells (Zb eI (L4 ++ ([a2] : List Int))) 3), some (.cells (Zb Zu w6) 122)]

noncomputable def ZeG : FuncId → Option Ext := fun f => bif Nat.beq f 51 then none else ZJ f
theorem ZO : Fit Tryd.prog ZeG := Zhl ZdC _

noncomputable def ZeZ (L0 L1 : List Int) (a2 : Int) (L3 : List RA) (L4 : List Int) (L5 : List R_is) (L6 : List (List Int)) (L7 : List R_si) : List (Bool × Bool) := (dP ((Za L0) = Za L0 ∧ ZP L0 = true ∧ L0.length ≤ 1000000), true) :: []

end Ev
end Go.Proofs.YtlbbiflodemagaaDoor
/- Calls do what the plain functions say. -/
namespace Go.Proofs.YtlbbiflodemagaaDoor
open Go.RowKit
namespace Ev
set_option linter.unusedVariables false
set_option maxRecDepth 100000
noncomputable def Zfa (L0 L1 : List Int) (a2 : Int) (L3 : List RA) (L4 : List Int) (L5 : List R_is) (L6 : List (List Int)) (L7 : List R_si) : List (Bool × Bool) := (ZaA (Z8 1 (List.drop (0 + (0 * 1)) (Zb Zs (wds L0)))) (wsl L0 0), true) :: (Nat.blt 0 (wds L0).length, true) :: ((0 : Int) == Int.ofNat 0, true) :: ZeZ L0 L1 a2 L3 L4 L5 L6 L7

noncomputable def ZM (L0 L1 : List Int) (a2 : Int) (L3 : List RA) (L4 : List Int) (L5 : List R_is) (L6 : List (List Int)) (L7 : List R_si) (y3_0 : Int) (y3_1 : Bool) : List (Bool × Bool) := (dP (ZjS #[Value.string (Za (wd L0 0))] ((wd L0 0))  y3_0 y3_1  7), true) :: Zfa L0 L1 a2 L3 L4 L5 L6 L7

noncomputable def Zcg (L0 L1 : List Int) (a2 : Int) (L3 : List RA) (L4 : List Int) (L5 : List R_is) (L6 : List (List Int)) (L7 : List R_si) (y3_0 : Int) (y3_1 : Bool) : List (Bool × Bool) := (dP (ZjU #[vi y3_0] (y3_0)    7), true) :: ZM L0 L1 a2 L3 L4 L5 L6 L7 y3_0 y3_1

theorem Zi {L0 : List Int} {L1 : List Int} {a2 : Int} {L3 : List RA} {L4 : List Int} {L5 : List R_is} {L6 : List (List Int)} {L7 : List R_si} (orc : Orc) (ob : List (Bool × Bool)) (ho : ∀ p ∈ ob, p.1 = p.2) (hev : ZiF Tryd.prog ZeG 51 (rpr L1 a2 L3 L4 L5 L6 L7) #[vp 0 0, Value.string (Za L0)] 4000 orc = some (Value.iface 88 (Value.agg #[vi a2]), ob) := by as_aux_lemma => kernel_rfl) : Gx Tryd.prog 51 (rpr L1 a2 L3 L4 L5 L6 L7) #[vp 0 0, Value.string (Za L0)] (ZdA L0 L1 a2 L3 L4 L5 L6 L7) (Zd3 L0 L1 a2 L3 L4 L5 L6 L7) (some (.r0 : Zh)) := Zl4 ZO hev ho rfl (by rfl) (by rfl) (Zay _ rfl)

noncomputable def Zdh (L0 L1 : List Int) (a2 : Int) (L3 : List RA) (L4 : List Int) (L5 : List R_is) (L6 : List (List Int)) (L7 : List R_si) (y3_0 : Int) (y3_1 : Bool) : List (Bool × Bool) := (((((wds L0).length : Nat) : Int) != (3 : Int)), false) :: ((!y3_1), false) :: Zcg L0 L1 a2 L3 L4 L5 L6 L7 y3_0 y3_1

noncomputable def Zdi (L0 L1 : List Int) (a2 : Int) (L3 : List RA) (L4 : List Int) (L5 : List R_is) (L6 : List (List Int)) (L7 : List R_si) (y3_0 : Int) (y3_1 : Bool) : List (Bool × Bool) := (ZaA (Z8 1 (List.drop (0 + (1 * 1)) (Zb Zs (wds L0)))) (wsl L0 1), true) :: (Nat.blt 1 (wds L0).length, true) :: ((1 : Int) == Int.ofNat 1, true) :: ((decide ((L3.length : Int) ≥ (512 : Int))), false) :: Zdh L0 L1 a2 L3 L4 L5 L6 L7 y3_0 y3_1

noncomputable def Zdj (L0 L1 : List Int) (a2 : Int) (L3 : List RA) (L4 : List Int) (L5 : List R_is) (L6 : List (List Int)) (L7 : List R_si) (y3_0 : Int) (y3_1 : Bool) : List (Bool × Bool) := (ZaA (Z8 1 (List.drop (0 + (2 * 1)) (Zb Zs (wds L0)))) (wsl L0 2), true) :: (Nat.blt 2 (wds L0).length, true) :: ((2 : Int) == Int.ofNat 2, true) :: (dP (ZV #[vp 0 0, Value.int .i32 (114 : Int), Value.string (Za (wd L0 1))] ((wd L0 1)) L1 a2 L3 L4 L5 L6 L7   0 1 2 3 4 5 9), true) :: (dS (rdc L1 a2 L3 L4 L5 L6), true) :: (dS (Zb E_iiii L3), true) :: (dS (Zb eI L4), true) :: (dS (Zb Zu L5), true) :: (dS (Zb Zs L6), true) :: (dS (Zj L7), true) :: Zdi L0 L1 a2 L3 L4 L5 L6 L7 y3_0 y3_1

noncomputable def Zbn (L0 L1 : List Int) (a2 : Int) (L3 : List RA) (L4 : List Int) (L5 : List R_is) (L6 : List (List Int)) (L7 : List R_si) (y3_0 : Int) (y3_1 : Bool) : List (Bool × Bool) := (dP (ZjV #[vi y3_0] (y3_0)    7), true) :: ZM L0 L1 a2 L3 L4 L5 L6 L7 y3_0 y3_1

noncomputable def Zdk (L0 L1 : List Int) (a2 : Int) (L3 : List RA) (L4 : List Int) (L5 : List R_is) (L6 : List (List Int)) (L7 : List R_si) (y3_0 : Int) (y3_1 : Bool) : List (Bool × Bool) := (ZaA (Z8 1 (List.drop (0 + (1 * 1)) (Zb Zs (wds L0)))) (wsl L0 1), true) :: (Nat.blt 1 (wds L0).length, true) :: ((1 : Int) == Int.ofNat 1, true) :: ((decide ((L3.length : Int) ≥ (512 : Int))), false) :: (((((wds L0).length : Nat) : Int) != (2 : Int)), false) :: ((!y3_1), false) :: Zbn L0 L1 a2 L3 L4 L5 L6 L7 y3_0 y3_1

noncomputable def Zch (L0 L1 : List Int) (a2 : Int) (L3 : List RA) (L4 : List Int) (L5 : List R_is) (L6 : List (List Int)) (L7 : List R_si) (y3_0 : Int) (y3_1 : Bool) : List (Bool × Bool) := (dP (ZjW #[vi y3_0] (y3_0)    7), true) :: ZM L0 L1 a2 L3 L4 L5 L6 L7 y3_0 y3_1

noncomputable def ZcH (L0 L1 : List Int) (a2 : Int) (L3 : List RA) (L4 : List Int) (L5 : List R_is) (L6 : List (List Int)) (L7 : List R_si) (y3_0 : Int) (y3_1 : Bool) : List (Bool × Bool) := (((((wds L0).length : Nat) : Int) != (3 : Int)), false) :: ((!y3_1), false) :: Zch L0 L1 a2 L3 L4 L5 L6 L7 y3_0 y3_1

noncomputable def ZcI (L0 L1 : List Int) (a2 : Int) (L3 : List RA) (L4 : List Int) (L5 : List R_is) (L6 : List (List Int)) (L7 : List R_si) (y3_0 : Int) (y3_1 : Bool) : List (Bool × Bool) := (ZaA (Z8 1 (List.drop (0 + (1 * 1)) (Zb Zs (wds L0)))) (wsl L0 1), true) :: (Nat.blt 1 (wds L0).length, true) :: ((1 : Int) == Int.ofNat 1, true) :: ((decide ((L3.length : Int) ≥ (512 : Int))), false) :: ZcH L0 L1 a2 L3 L4 L5 L6 L7 y3_0 y3_1

noncomputable def ZcJ (L0 L1 : List Int) (a2 : Int) (L3 : List RA) (L4 : List Int) (L5 : List R_is) (L6 : List (List Int)) (L7 : List R_si) (y3_0 : Int) (y3_1 : Bool) : List (Bool × Bool) := (ZaA (Z8 1 (List.drop (0 + (2 * 1)) (Zb Zs (wds L0)))) (wsl L0 2), true) :: (Nat.blt 2 (wds L0).length, true) :: ((2 : Int) == Int.ofNat 2, true) :: (dP (ZV #[vp 0 0, Value.int .i32 (114 : Int), Value.string (Za (wd L0 1))] ((wd L0 1)) L1 a2 L3 L4 L5 L6 L7   0 1 2 3 4 5 9), true) :: (dS (rdc L1 a2 L3 L4 L5 L6), true) :: (dS (Zb E_iiii L3), true) :: (dS (Zb eI L4), true) :: (dS (Zb Zu L5), true) :: (dS (Zb Zs L6), true) :: (dS (Zj L7), true) :: ZcI L0 L1 a2 L3 L4 L5 L6 L7 y3_0 y3_1

noncomputable def ZcK (L0 L1 : List Int) (a2 : Int) (L3 : List RA) (L4 : List Int) (L5 : List R_is) (L6 : List (List Int)) (L7 : List R_si) (y3_0 : Int) (y3_1 : Bool) : List (Bool × Bool) := (dP (ZjX #[vi y3_0] (y3_0)    7), true) :: ZM L0 L1 a2 L3 L4 L5 L6 L7 y3_0 y3_1

noncomputable def ZbJ (L0 L1 : List Int) (a2 : Int) (L3 : List RA) (L4 : List Int) (L5 : List R_is) (L6 : List (List Int)) (L7 : List R_si) (y3_0 : Int) (y3_1 : Bool) : List (Bool × Bool) := ((!y3_1), false) :: ZcK L0 L1 a2 L3 L4 L5 L6 L7 y3_0 y3_1

noncomputable def ZcL (L0 L1 : List Int) (a2 : Int) (L3 : List RA) (L4 : List Int) (L5 : List R_is) (L6 : List (List Int)) (L7 : List R_si) (y3_0 : Int) (y3_1 : Bool) : List (Bool × Bool) := (ZaA (Z8 1 (List.drop (0 + (1 * 1)) (Zb Zs (wds L0)))) (wsl L0 1), true) :: (Nat.blt 1 (wds L0).length, true) :: ((1 : Int) == Int.ofNat 1, true) :: ((decide ((L3.length : Int) ≥ (512 : Int))), false) :: (((((wds L0).length : Nat) : Int) != (4 : Int)), false) :: ZbJ L0 L1 a2 L3 L4 L5 L6 L7 y3_0 y3_1

noncomputable def ZcM (L0 L1 : List Int) (a2 : Int) (L3 : List RA) (L4 : List Int) (L5 : List R_is) (L6 : List (List Int)) (L7 : List R_si) (y3_0 : Int) (y3_1 : Bool) : List (Bool × Bool) := (ZaA (Z8 1 (List.drop (0 + (2 * 1)) (Zb Zs (wds L0)))) (wsl L0 2), true) :: (Nat.blt 2 (wds L0).length, true) :: ((2 : Int) == Int.ofNat 2, true) :: (dP (ZV #[vp 0 0, Value.int .i32 (114 : Int), Value.string (Za (wd L0 1))] ((wd L0 1)) L1 a2 L3 L4 L5 L6 L7   0 1 2 3 4 5 9), true) :: (dS (rdc L1 a2 L3 L4 L5 L6), true) :: (dS (Zb E_iiii L3), true) :: (dS (Zb eI L4), true) :: (dS (Zb Zu L5), true) :: (dS (Zb Zs L6), true) :: (dS (Zj L7), true) :: ZcL L0 L1 a2 L3 L4 L5 L6 L7 y3_0 y3_1

noncomputable def ZcN (L0 L1 : List Int) (a2 : Int) (L3 : List RA) (L4 : List Int) (L5 : List R_is) (L6 : List (List Int)) (L7 : List R_si) (y3_0 : Int) (y3_1 : Bool) : List (Bool × Bool) := (ZaA (Z8 1 (List.drop (0 + (3 * 1)) (Zb Zs (wds L0)))) (wsl L0 3), true) :: (Nat.blt 3 (wds L0).length, true) :: ((3 : Int) == Int.ofNat 3, true) :: (dP (Zbg #[vp 0 0, Value.int .i32 (35 : Int), Value.string (Za (wd L0 2))] ((wd L0 2)) L1 a2 L3 L4 L5 L6 L7   0 1 2 3 4 5 9), true) :: (dS (rdc L1 a2 L3 L4 L5 L6), true) :: (dS (Zb E_iiii L3), true) :: (dS (Zb eI L4), true) :: (dS (Zb Zu L5), true) :: (dS (Zb Zs L6), true) :: (dS (Zj L7), true) :: ZcM L0 L1 a2 L3 L4 L5 L6 L7 y3_0 y3_1

noncomputable def ZcO (L0 L1 : List Int) (a2 : Int) (L3 : List RA) (L4 : List Int) (L5 : List R_is) (L6 : List (List Int)) (L7 : List R_si) (y3_0 : Int) (y3_1 : Bool) : List (Bool × Bool) := (dP (ZjY #[vi y3_0] (y3_0)    7), true) :: ZM L0 L1 a2 L3 L4 L5 L6 L7 y3_0 y3_1

noncomputable def ZbK (L0 L1 : List Int) (a2 : Int) (L3 : List RA) (L4 : List Int) (L5 : List R_is) (L6 : List (List Int)) (L7 : List R_si) (y3_0 : Int) (y3_1 : Bool) : List (Bool × Bool) := ((!y3_1), false) :: ZcO L0 L1 a2 L3 L4 L5 L6 L7 y3_0 y3_1

noncomputable def ZcP (L0 L1 : List Int) (a2 : Int) (L3 : List RA) (L4 : List Int) (L5 : List R_is) (L6 : List (List Int)) (L7 : List R_si) (y3_0 : Int) (y3_1 : Bool) : List (Bool × Bool) := (ZaA (Z8 1 (List.drop (0 + (1 * 1)) (Zb Zs (wds L0)))) (wsl L0 1), true) :: (Nat.blt 1 (wds L0).length, true) :: ((1 : Int) == Int.ofNat 1, true) :: ((decide ((L3.length : Int) ≥ (512 : Int))), false) :: (((((wds L0).length : Nat) : Int) != (4 : Int)), false) :: ZbK L0 L1 a2 L3 L4 L5 L6 L7 y3_0 y3_1

noncomputable def ZcQ (L0 L1 : List Int) (a2 : Int) (L3 : List RA) (L4 : List Int) (L5 : List R_is) (L6 : List (List Int)) (L7 : List R_si) (y3_0 : Int) (y3_1 : Bool) : List (Bool × Bool) := (ZaA (Z8 1 (List.drop (0 + (2 * 1)) (Zb Zs (wds L0)))) (wsl L0 2), true) :: (Nat.blt 2 (wds L0).length, true) :: ((2 : Int) == Int.ofNat 2, true) :: (dP (ZV #[vp 0 0, Value.int .i32 (114 : Int), Value.string (Za (wd L0 1))] ((wd L0 1)) L1 a2 L3 L4 L5 L6 L7   0 1 2 3 4 5 9), true) :: (dS (rdc L1 a2 L3 L4 L5 L6), true) :: (dS (Zb E_iiii L3), true) :: (dS (Zb eI L4), true) :: (dS (Zb Zu L5), true) :: (dS (Zb Zs L6), true) :: (dS (Zj L7), true) :: ZcP L0 L1 a2 L3 L4 L5 L6 L7 y3_0 y3_1

noncomputable def ZcR (L0 L1 : List Int) (a2 : Int) (L3 : List RA) (L4 : List Int) (L5 : List R_is) (L6 : List (List Int)) (L7 : List R_si) (y3_0 : Int) (y3_1 : Bool) : List (Bool × Bool) := (ZaA (Z8 1 (List.drop (0 + (3 * 1)) (Zb Zs (wds L0)))) (wsl L0 3), true) :: (Nat.blt 3 (wds L0).length, true) :: ((3 : Int) == Int.ofNat 3, true) :: (dP (ZV #[vp 0 0, Value.int .i32 (114 : Int), Value.string (Za (wd L0 2))] ((wd L0 2)) L1 a2 L3 L4 L5 L6 L7   0 1 2 3 4 5 9), true) :: (dS (rdc L1 a2 L3 L4 L5 L6), true) :: (dS (Zb E_iiii L3), true) :: (dS (Zb eI L4), true) :: (dS (Zb Zu L5), true) :: (dS (Zb Zs L6), true) :: (dS (Zj L7), true) :: ZcQ L0 L1 a2 L3 L4 L5 L6 L7 y3_0 y3_1

noncomputable def ZcS (L0 L1 : List Int) (a2 : Int) (L3 : List RA) (L4 : List Int) (L5 : List R_is) (L6 : List (List Int)) (L7 : List R_si) (y3_0 : Int) (y3_1 : Bool) : List (Bool × Bool) := (dP (ZjZ #[vi y3_0] (y3_0)    7), true) :: ZM L0 L1 a2 L3 L4 L5 L6 L7 y3_0 y3_1

noncomputable def ZbL (L0 L1 : List Int) (a2 : Int) (L3 : List RA) (L4 : List Int) (L5 : List R_is) (L6 : List (List Int)) (L7 : List R_si) (y3_0 : Int) (y3_1 : Bool) : List (Bool × Bool) := ((!y3_1), false) :: ZcS L0 L1 a2 L3 L4 L5 L6 L7 y3_0 y3_1

noncomputable def ZcT (L0 L1 : List Int) (a2 : Int) (L3 : List RA) (L4 : List Int) (L5 : List R_is) (L6 : List (List Int)) (L7 : List R_si) (y3_0 : Int) (y3_1 : Bool) : List (Bool × Bool) := (ZaA (Z8 1 (List.drop (0 + (1 * 1)) (Zb Zs (wds L0)))) (wsl L0 1), true) :: (Nat.blt 1 (wds L0).length, true) :: ((1 : Int) == Int.ofNat 1, true) :: ((decide ((L3.length : Int) ≥ (512 : Int))), false) :: (((((wds L0).length : Nat) : Int) != (4 : Int)), false) :: ZbL L0 L1 a2 L3 L4 L5 L6 L7 y3_0 y3_1

noncomputable def ZcU (L0 L1 : List Int) (a2 : Int) (L3 : List RA) (L4 : List Int) (L5 : List R_is) (L6 : List (List Int)) (L7 : List R_si) (y3_0 : Int) (y3_1 : Bool) : List (Bool × Bool) := (ZaA (Z8 1 (List.drop (0 + (2 * 1)) (Zb Zs (wds L0)))) (wsl L0 2), true) :: (Nat.blt 2 (wds L0).length, true) :: ((2 : Int) == Int.ofNat 2, true) :: (dP (ZV #[vp 0 0, Value.int .i32 (114 : Int), Value.string (Za (wd L0 1))] ((wd L0 1)) L1 a2 L3 L4 L5 L6 L7   0 1 2 3 4 5 9), true) :: (dS (rdc L1 a2 L3 L4 L5 L6), true) :: (dS (Zb E_iiii L3), true) :: (dS (Zb eI L4), true) :: (dS (Zb Zu L5), true) :: (dS (Zb Zs L6), true) :: (dS (Zj L7), true) :: ZcT L0 L1 a2 L3 L4 L5 L6 L7 y3_0 y3_1

noncomputable def ZcV (L0 L1 : List Int) (a2 : Int) (L3 : List RA) (L4 : List Int) (L5 : List R_is) (L6 : List (List Int)) (L7 : List R_si) (y3_0 : Int) (y3_1 : Bool) : List (Bool × Bool) := (ZaA (Z8 1 (List.drop (0 + (3 * 1)) (Zb Zs (wds L0)))) (wsl L0 3), true) :: (Nat.blt 3 (wds L0).length, true) :: ((3 : Int) == Int.ofNat 3, true) :: (dP (Zbg #[vp 0 0, Value.int .i32 (35 : Int), Value.string (Za (wd L0 2))] ((wd L0 2)) L1 a2 L3 L4 L5 L6 L7   0 1 2 3 4 5 9), true) :: (dS (rdc L1 a2 L3 L4 L5 L6), true) :: (dS (Zb E_iiii L3), true) :: (dS (Zb eI L4), true) :: (dS (Zb Zu L5), true) :: (dS (Zb Zs L6), true) :: (dS (Zj L7), true) :: ZcU L0 L1 a2 L3 L4 L5 L6 L7 y3_0 y3_1

noncomputable def ZbM (L0 L1 : List Int) (a2 : Int) (L3 : List RA) (L4 : List Int) (L5 : List R_is) (L6 : List (List Int)) (L7 : List R_si) (y3_0 : Int) (y3_1 : Bool) : List (Bool × Bool) := ((!y3_1), false) :: (dP (Zhm #[vi y3_0] (y3_0)    7), true) :: ZM L0 L1 a2 L3 L4 L5 L6 L7 y3_0 y3_1

noncomputable def Zbd (L0 L1 : List Int) (a2 : Int) (L3 : List RA) (L4 : List Int) (L5 : List R_is) (L6 : List (List Int)) (L7 : List R_si) (y3_0 : Int) (y3_1 : Bool) : List (Bool × Bool) := (dP (Zkb #[vi y3_0] (y3_0)    7), true) :: ZM L0 L1 a2 L3 L4 L5 L6 L7 y3_0 y3_1

noncomputable def ZcW (L0 L1 : List Int) (a2 : Int) (L3 : List RA) (L4 : List Int) (L5 : List R_is) (L6 : List (List Int)) (L7 : List R_si) (y3_0 : Int) (y3_1 : Bool) : List (Bool × Bool) := (ZaA (Z8 1 (List.drop (0 + (1 * 1)) (Zb Zs (wds L0)))) (wsl L0 1), true) :: (Nat.blt 1 (wds L0).length, true) :: ((1 : Int) == Int.ofNat 1, true) :: ((decide ((L3.length : Int) ≥ (512 : Int))), false) :: (((((wds L0).length : Nat) : Int) != (2 : Int)), false) :: ((!y3_1), false) :: Zbd L0 L1 a2 L3 L4 L5 L6 L7 y3_0 y3_1

noncomputable def ZbN (L0 L1 : List Int) (a2 : Int) (L3 : List RA) (L4 : List Int) (L5 : List R_is) (L6 : List (List Int)) (L7 : List R_si) (y3_0 : Int) (y3_1 : Bool) : List (Bool × Bool) := (dP (Zkc #[vi y3_0] (y3_0)    7), true) :: ZM L0 L1 a2 L3 L4 L5 L6 L7 y3_0 y3_1

noncomputable def ZcX (L0 L1 : List Int) (a2 : Int) (L3 : List RA) (L4 : List Int) (L5 : List R_is) (L6 : List (List Int)) (L7 : List R_si) (y3_0 : Int) (y3_1 : Bool) : List (Bool × Bool) := (((((wds L0).length : Nat) : Int) != (3 : Int)), false) :: ((!y3_1), false) :: ZbN L0 L1 a2 L3 L4 L5 L6 L7 y3_0 y3_1

noncomputable def ZcY (L0 L1 : List Int) (a2 : Int) (L3 : List RA) (L4 : List Int) (L5 : List R_is) (L6 : List (List Int)) (L7 : List R_si) (y3_0 : Int) (y3_1 : Bool) : List (Bool × Bool) := (ZaA (Z8 1 (List.drop (0 + (1 * 1)) (Zb Zs (wds L0)))) (wsl L0 1), true) :: (Nat.blt 1 (wds L0).length, true) :: ((1 : Int) == Int.ofNat 1, true) :: ((decide ((L3.length : Int) ≥ (512 : Int))), false) :: ZcX L0 L1 a2 L3 L4 L5 L6 L7 y3_0 y3_1

noncomputable def ZcZ (L0 L1 : List Int) (a2 : Int) (L3 : List RA) (L4 : List Int) (L5 : List R_is) (L6 : List (List Int)) (L7 : List R_si) (y3_0 : Int) (y3_1 : Bool) : List (Bool × Bool) := (ZaA (Z8 1 (List.drop (0 + (2 * 1)) (Zb Zs (wds L0)))) (wsl L0 2), true) :: (Nat.blt 2 (wds L0).length, true) :: ((2 : Int) == Int.ofNat 2, true) :: (dP (ZV #[vp 0 0, Value.int .i32 (114 : Int), Value.string (Za (wd L0 1))] ((wd L0 1)) L1 a2 L3 L4 L5 L6 L7   0 1 2 3 4 5 9), true) :: (dS (rdc L1 a2 L3 L4 L5 L6), true) :: (dS (Zb E_iiii L3), true) :: (dS (Zb eI L4), true) :: (dS (Zb Zu L5), true) :: (dS (Zb Zs L6), true) :: (dS (Zj L7), true) :: ZcY L0 L1 a2 L3 L4 L5 L6 L7 y3_0 y3_1

noncomputable def Zda (L0 L1 : List Int) (a2 : Int) (L3 : List RA) (L4 : List Int) (L5 : List R_is) (L6 : List (List Int)) (L7 : List R_si) (y3_0 : Int) (y3_1 : Bool) : List (Bool × Bool) := (dP (Zkd #[vi y3_0] (y3_0)    7), true) :: ZM L0 L1 a2 L3 L4 L5 L6 L7 y3_0 y3_1

noncomputable def ZbO (L0 L1 : List Int) (a2 : Int) (L3 : List RA) (L4 : List Int) (L5 : List R_is) (L6 : List (List Int)) (L7 : List R_si) (y3_0 : Int) (y3_1 : Bool) : List (Bool × Bool) := ((!y3_1), false) :: Zda L0 L1 a2 L3 L4 L5 L6 L7 y3_0 y3_1

noncomputable def Zdb (L0 L1 : List Int) (a2 : Int) (L3 : List RA) (L4 : List Int) (L5 : List R_is) (L6 : List (List Int)) (L7 : List R_si) (y3_0 : Int) (y3_1 : Bool) : List (Bool × Bool) := (ZaA (Z8 1 (List.drop (0 + (1 * 1)) (Zb Zs (wds L0)))) (wsl L0 1), true) :: (Nat.blt 1 (wds L0).length, true) :: ((1 : Int) == Int.ofNat 1, true) :: ((decide ((L3.length : Int) ≥ (512 : Int))), false) :: (((((wds L0).length : Nat) : Int) != (4 : Int)), false) :: ZbO L0 L1 a2 L3 L4 L5 L6 L7 y3_0 y3_1

noncomputable def Zdc (L0 L1 : List Int) (a2 : Int) (L3 : List RA) (L4 : List Int) (L5 : List R_is) (L6 : List (List Int)) (L7 : List R_si) (y3_0 : Int) (y3_1 : Bool) : List (Bool × Bool) := (ZaA (Z8 1 (List.drop (0 + (2 * 1)) (Zb Zs (wds L0)))) (wsl L0 2), true) :: (Nat.blt 2 (wds L0).length, true) :: ((2 : Int) == Int.ofNat 2, true) :: (dP (ZV #[vp 0 0, Value.int .i32 (114 : Int), Value.string (Za (wd L0 1))] ((wd L0 1)) L1 a2 L3 L4 L5 L6 L7   0 1 2 3 4 5 9), true) :: (dS (rdc L1 a2 L3 L4 L5 L6), true) :: (dS (Zb E_iiii L3), true) :: (dS (Zb eI L4), true) :: (dS (Zb Zu L5), true) :: (dS (Zb Zs L6), true) :: (dS (Zj L7), true) :: Zdb L0 L1 a2 L3 L4 L5 L6 L7 y3_0 y3_1

noncomputable def Zdd (L0 L1 : List Int) (a2 : Int) (L3 : List RA) (L4 : List Int) (L5 : List R_is) (L6 : List (List Int)) (L7 : List R_si) (y3_0 : Int) (y3_1 : Bool) : List (Bool × Bool) := (ZaA (Z8 1 (List.drop (0 + (3 * 1)) (Zb Zs (wds L0)))) (wsl L0 3), true) :: (Nat.blt 3 (wds L0).length, true) :: ((3 : Int) == Int.ofNat 3, true) :: (dP (ZV #[vp 0 0, Value.int .i32 (114 : Int), Value.string (Za (wd L0 2))] ((wd L0 2)) L1 a2 L3 L4 L5 L6 L7   0 1 2 3 4 5 9), true) :: (dS (rdc L1 a2 L3 L4 L5 L6), true) :: (dS (Zb E_iiii L3), true) :: (dS (Zb eI L4), true) :: (dS (Zb Zu L5), true) :: (dS (Zb Zs L6), true) :: (dS (Zj L7), true) :: Zdc L0 L1 a2 L3 L4 L5 L6 L7 y3_0 y3_1

end Ev
end Go.Proofs.YtlbbiflodemagaaDoor
/- Calls do what the plain functions say. -/
namespace Go.Proofs.YtlbbiflodemagaaDoor
open Go.RowKit
namespace Ev
set_option linter.unusedVariables false
set_option maxRecDepth 100000
set_option maxHeartbeats 4000000 in
theorem Zik (L0 L1 : List Int) (a2 : Int) (L3 : List RA) (L4 : List Int) (L5 : List R_is) (L6 : List (List Int)) (L7 : List R_si) (N : Nat) : Gx Tryd.prog 51 (rpr L1 a2 L3 L4 L5 L6 L7) #[vp 0 0, Value.string (Za L0)] (ZdA L0 L1 a2 L3 L4 L5 L6 L7) (Zd3 L0 L1 a2 L3 L4 L5 L6 L7) (Zaz L0 L1 a2 L3 L4 L5 L6 L7 N) := by
 unfold Zaz
 refine Zf (fun g0 => ?_) (fun _ => Zt)
 refine Zf (fun g1 => ?_) (fun _ => Zt)
 have w2 : OkL (ZeZ L0 L1 a2 L3 L4 L5 L6 L7) :=
  Zc (Zn ⟨rfl, by assumption, ltA⟩) <| ZL
 refine Zf (fun g2 => ?_) (fun _ => Zt)
 have w3 : OkL (Zfa L0 L1 a2 L3 L4 L5 L6 L7) :=
  Zc (ZbF 0 ltA) <| oL <| oI <| w2
 refine ZaO (fun z3 c3 => ?_)
 cases z3 with
 | r0 y3_0 y3_1 =>
  have w4 : OkL (ZM L0 L1 a2 L3 L4 L5 L6 L7 y3_0 y3_1) :=
   Zc (Zn (ZoD #[Value.string (Za (wd L0 0))] ((wd L0 0))  y3_0 y3_1 N c3  7 rfl dcd dcd)) <| w3
  refine ZaO (fun z4 c4 => ?_)
  cases z4 with
  | r0 =>
   have w5 : OkL (Zcg L0 L1 a2 L3 L4 L5 L6 L7 y3_0 y3_1) :=
    Zc (Zn (ZoE #[vi y3_0] (y3_0)   N c4  7 rfl dcd dcd)) <| w4
   refine Zf (fun g5 => ?_) (fun g5 => ?_)
   ·
    exact Zi (Zz [o1] [] [(0, 0)] [(0, (wsl L0 0))] [(0, .bs L0), (1, (Zq ((wd L0 0))  y3_0 y3_1  7)), (2, (Zdv (y3_0)    7))]) (((!y3_1), true) :: Zcg L0 L1 a2 L3 L4 L5 L6 L7 y3_0 y3_1) (Zc nBt <| w5)
   ·
    refine Zf (fun g6 => ?_) (fun g6 => ?_)
    ·
     exact Zi (Zz [o0, o1] [] [(0, 0)] [(0, (wsl L0 0))] [(0, .bs L0), (1, (Zq ((wd L0 0))  y3_0 y3_1  7)), (2, (Zdv (y3_0)    7))]) ((((((wds L0).length : Nat) : Int) != (3 : Int)), true) :: ((!y3_1), false) :: Zcg L0 L1 a2 L3 L4 L5 L6 L7 y3_0 y3_1) (oD <| Zc nBf <| w5)
    ·
     have w7 : OkL (Zdh L0 L1 a2 L3 L4 L5 L6 L7 y3_0 y3_1) :=
      oE <| Zc nBf <| w5
     refine Zf (fun g7 => ?_) (fun g7 => ?_)
     ·
      exact Zi (Zz [o0, o0, o1] [] [(0, 0)] [(0, (wsl L0 0))] [(0, .bs L0), (1, (Zq ((wd L0 0))  y3_0 y3_1  7)), (2, (Zdv (y3_0)    7))]) (((decide ((L3.length : Int) ≥ (512 : Int))), true) :: Zdh L0 L1 a2 L3 L4 L5 L6 L7 y3_0 y3_1) (oY <| w7)
     ·
      have w8 : OkL (Zdi L0 L1 a2 L3 L4 L5 L6 L7 y3_0 y3_1) :=
       Zc (ZbF 1 ltA) <| oL <| oI <| oN <| w7
      refine ZaO (fun z8 c8 => ?_)
      cases z8 with
      | r0 =>
       have w9 : OkL (Zdj L0 L1 a2 L3 L4 L5 L6 L7 y3_0 y3_1) :=
        Zc (ZbF 2 ltA) <| oL <| oI <| Zc (Zn (Zae #[vp 0 0, Value.int .i32 (114 : Int), Value.string (Za (wd L0 1))] ((wd L0 1)) L1 a2 L3 L4 L5 L6 L7   N c8 0 1 2 3 4 5 9 rfl dcd dcd)) <| oR <| oR <| oR <| oR <| oR <| oR <| w8
       refine ZaO (fun z9 c9 => ?_)
       cases z9 with
       | r0 =>
        refine Zf (fun g10 => ?_) (fun _ => Zt)
        exact Zcl ZO (fu := 4000) (orc := (Zz [o0, o0, o0] [] [(0, 0), (1, 1), (3, 2)] [(0, (wsl L0 0)), (2, (wsl L0 1)), (3, (wsl L0 2))] [(0, .bs L0), (1, (Zq ((wd L0 0))  y3_0 y3_1  7)), (2, (Zdv (y3_0)    7)), (3, (Z3 ((wd L0 1)) L1 a2 L3 L4 L5 L6 L7   0 1 2 3 4 5 9)), (5, (ZaR ((wd L0 2)) L1 a2 L3 L4 L5 L6 L7   0 1 2 3 4 5 9)), (7, .ap 1 [vi y3_0, vi ((bAt (wd L0 1) 1) - (48 : Int)), vi (ZK (wd L0 2)), vq] (Zb E_iiii (L3 ++ ([(⟨y3_0, ((bAt (wd L0 1) 1) - (48 : Int)), (ZK (wd L0 2)), (0 : Int)⟩ : RA)] : List RA)))), (9, .ap 1 [vi a2] (Zb eI (L4 ++ ([a2] : List Int))))])) (live := [0, 1, 2, 3, 4, 5, 10, 12]) (u := vtt) (bl := [some (.cells [Value.string (Za L1), vi a2, vs 10 0 (L3.length + 1) (L3.length + 1), vs 12 0 (L4.length + 1) (L4.length + 1), vs 3 0 L5.length L5.length, vs 4 0 L6.length L6.length, Value.map (some 5)] 57), none, none, some (.cells (Zb Zu L5) 122 true), some (.cells (Zb Zs L6) 9 true), some (.ro (Zj L7) true), some (.cells (Zb E_iiii (L3 ++ ([(⟨y3_0, ((bAt (wd L0 1) 1) - (48 : Int)), (ZK (wd L0 2)), (0 : Int)⟩ : RA)] : List RA))) 24), some (.cells (Zb eI (L4 ++ ([a2] : List Int))) 3)]) (ob := ((dP ((1 = 1 ∧ Z8 (1 * 1) (List.drop 0 [vi a2]) = some [vi a2] ∧ Z7 Za8 [vi a2] = true) ∧ 0 < 1 ∧ 1 ≤ 100000 ∧ L4.length < L4.length + 1 ∧ L4.length ≤ 100000 ∧ L4.length * 1 ≤ (List.length (Zb eI L4)) ∧ List.take (L4.length * 1) (Zb eI L4) ++ [vi a2] = (Zb eI (L4 ++ ([a2] : List Int)))), true) :: (dP ((1 = 1 ∧ Z8 (1 * 4) (List.drop 0 [vi y3_0, vi ((bAt (wd L0 1) 1) - (48 : Int)), vi (ZK (wd L0 2)), vq]) = some [vi y3_0, vi ((bAt (wd L0 1) 1) - (48 : Int)), vi (ZK (wd L0 2)), vq] ∧ Z7 Za8 [vi y3_0, vi ((bAt (wd L0 1) 1) - (48 : Int)), vi (ZK (wd L0 2)), vq] = true) ∧ 0 < 1 ∧ 1 ≤ 100000 ∧ L3.length < L3.length + 1 ∧ L3.length ≤ 100000 ∧ L3.length * 4 ≤ (List.length (Zb E_iiii L3)) ∧ List.take (L3.length * 4) (Zb E_iiii L3) ++ [vi y3_0, vi ((bAt (wd L0 1) 1) - (48 : Int)), vi (ZK (wd L0 2)), vq] = (Zb E_iiii (L3 ++ ([(⟨y3_0, ((bAt (wd L0 1) 1) - (48 : Int)), (ZK (wd L0 2)), (0 : Int)⟩ : RA)] : List RA)))), true) :: (dP (Zbg #[vp 0 0, Value.int .i32 (35 : Int), Value.string (Za (wd L0 2))] ((wd L0 2)) L1 a2 L3 L4 L5 L6 L7   0 1 2 3 4 5 9), true) :: (dS (rdc L1 a2 L3 L4 L5 L6), true) :: (dS (Zb E_iiii L3), true) :: (dS (Zb eI L4), true) :: (dS (Zb Zu L5), true) :: (dS (Zb Zs L6), true) :: (dS (Zj L7), true) :: Zdj L0 L1 a2 L3 L4 L5 L6 L7 y3_0 y3_1)) (by as_aux_lemma => kernel_rfl) (Zc (Zn ⟨⟨rfl, ⟨rfl, rfl⟩⟩, by omega, by omega, ltA, by omega, (ZaN (E := eI) (L := L4) (M := ([a2] : List Int)) (n := L4.length) (show _ = _ * 1 from rfl) (by omega) (R := (L4 ++ ([a2] : List Int))) (by rw [List.take_of_length_le (by omega)]))⟩) <| Zc (Zn ⟨⟨rfl, ⟨rfl, rfl⟩⟩, by omega, by omega, ltA, by omega, (ZaN (E := E_iiii) (L := L3) (M := ([(⟨y3_0, ((bAt (wd L0 1) 1) - (48 : Int)), (ZK (wd L0 2)), (0 : Int)⟩ : RA)] : List RA)) (n := L3.length) (show _ = _ * 4 from rfl) (by omega) (R := (L3 ++ ([(⟨y3_0, ((bAt (wd L0 1) 1) - (48 : Int)), (ZK (wd L0 2)), (0 : Int)⟩ : RA)] : List RA))) (by rw [List.take_of_length_le (by omega)]))⟩) <| Zc (Zn (ZbG #[vp 0 0, Value.int .i32 (35 : Int), Value.string (Za (wd L0 2))] ((wd L0 2)) L1 a2 L3 L4 L5 L6 L7   N c9 0 1 2 3 4 5 9 rfl dcd dcd)) <| oR <| oR <| oR <| oR <| oR <| oR <| w9) rfl (by decide) (by rfl) rr ⟨⟨rfl, ⟨[], (show ([Value.string (Za L1), vi a2, vs 6 0 (L3.length + 1) (L3.length + 1), vs 7 0 (L4.length + 1) (L4.length + 1), vs 3 0 L5.length L5.length, vs 4 0 L6.length L6.length, Value.map (some 5)] : List Value) = _ from (Zd rfl (Zd rfl (Zd (ZS rfl eqA eqA) (Zd rfl (Zd rfl (Zd rfl (Zd rfl rfl))))))).symm)⟩, by rfl⟩, ⟨(Zm (E := Zu) (α := R_is) _ L5 _), ⟨(Zm (E := Zs) (α := List Int) _ L6 _), ⟨(show Zj L7 = Zj L7 from rfl), ⟨(ZE (E := E_iiii) (α := RA) _ (L3 ++ ([(⟨y3_0, ((bAt (wd L0 1) 1) - (48 : Int)), (ZK (wd L0 2)), (0 : Int)⟩ : RA)] : List RA)) _), ⟨(ZE (E := eI) (α := Int) _ (L4 ++ ([a2] : List Int)) _), trivial⟩⟩⟩⟩⟩⟩ (Zay _ rfl)
       | r1 =>
        exact Zi (Zz [o0, o0, o0] [] [(0, 0), (1, 1), (3, 2)] [(0, (wsl L0 0)), (2, (wsl L0 1)), (3, (wsl L0 2))] [(0, .bs L0), (1, (Zq ((wd L0 0))  y3_0 y3_1  7)), (2, (Zdv (y3_0)    7)), (3, (Z3 ((wd L0 1)) L1 a2 L3 L4 L5 L6 L7   0 1 2 3 4 5 9)), (5, (ZbH ((wd L0 2)) L1 a2 L3 L4 L5 L6 L7   0 1 2 3 4 5 9))]) ((dP (Zbh #[vp 0 0, Value.int .i32 (35 : Int), Value.string (Za (wd L0 2))] ((wd L0 2)) L1 a2 L3 L4 L5 L6 L7   0 1 2 3 4 5 9), true) :: (dS (rdc L1 a2 L3 L4 L5 L6), true) :: (dS (Zb E_iiii L3), true) :: (dS (Zb eI L4), true) :: (dS (Zb Zu L5), true) :: (dS (Zb Zs L6), true) :: (dS (Zj L7), true) :: Zdj L0 L1 a2 L3 L4 L5 L6 L7 y3_0 y3_1) (Zc (Zn (ZbI #[vp 0 0, Value.int .i32 (35 : Int), Value.string (Za (wd L0 2))] ((wd L0 2)) L1 a2 L3 L4 L5 L6 L7   N c9 0 1 2 3 4 5 9 rfl dcd dcd)) <| oR <| oR <| oR <| oR <| oR <| oR <| w9)
      | r1 =>
       exact Zi (Zz [o0, o0, o0] [] [(0, 0), (1, 1)] [(0, (wsl L0 0)), (2, (wsl L0 1))] [(0, .bs L0), (1, (Zq ((wd L0 0))  y3_0 y3_1  7)), (2, (Zdv (y3_0)    7)), (3, (Zaf ((wd L0 1)) L1 a2 L3 L4 L5 L6 L7   0 1 2 3 4 5 9))]) ((dP (ZW #[vp 0 0, Value.int .i32 (114 : Int), Value.string (Za (wd L0 1))] ((wd L0 1)) L1 a2 L3 L4 L5 L6 L7   0 1 2 3 4 5 9), true) :: (dS (rdc L1 a2 L3 L4 L5 L6), true) :: (dS (Zb E_iiii L3), true) :: (dS (Zb eI L4), true) :: (dS (Zb Zu L5), true) :: (dS (Zb Zs L6), true) :: (dS (Zj L7), true) :: Zdi L0 L1 a2 L3 L4 L5 L6 L7 y3_0 y3_1) (Zc (Zn (Zag #[vp 0 0, Value.int .i32 (114 : Int), Value.string (Za (wd L0 1))] ((wd L0 1)) L1 a2 L3 L4 L5 L6 L7   N c8 0 1 2 3 4 5 9 rfl dcd dcd)) <| oR <| oR <| oR <| oR <| oR <| oR <| w8)
  | r1 =>
   have w5 : OkL (Zbn L0 L1 a2 L3 L4 L5 L6 L7 y3_0 y3_1) :=
    Zc (Zn (ZoF #[vi y3_0] (y3_0)   N c4  7 rfl dcd dcd)) <| w4
   refine Zf (fun g5 => ?_) (fun g5 => ?_)
   ·
    exact Zi (Zz [o1] [] [(0, 0)] [(0, (wsl L0 0))] [(0, .bs L0), (1, (Zq ((wd L0 0))  y3_0 y3_1  7)), (2, (Zej (y3_0)    7))]) (((!y3_1), true) :: Zbn L0 L1 a2 L3 L4 L5 L6 L7 y3_0 y3_1) (Zc nBt <| w5)
   ·
    refine Zf (fun g6 => ?_) (fun g6 => ?_)
    ·
     exact Zi (Zz [o0, o1] [] [(0, 0)] [(0, (wsl L0 0))] [(0, .bs L0), (1, (Zq ((wd L0 0))  y3_0 y3_1  7)), (2, (Zej (y3_0)    7))]) ((((((wds L0).length : Nat) : Int) != (2 : Int)), true) :: ((!y3_1), false) :: Zbn L0 L1 a2 L3 L4 L5 L6 L7 y3_0 y3_1) (oD <| Zc nBf <| w5)
    ·
     refine Zf (fun g7 => ?_) (fun g7 => ?_)
     ·
      exact Zi (Zz [o0, o0, o1] [] [(0, 0)] [(0, (wsl L0 0))] [(0, .bs L0), (1, (Zq ((wd L0 0))  y3_0 y3_1  7)), (2, (Zej (y3_0)    7))]) (((decide ((L3.length : Int) ≥ (512 : Int))), true) :: (((((wds L0).length : Nat) : Int) != (2 : Int)), false) :: ((!y3_1), false) :: Zbn L0 L1 a2 L3 L4 L5 L6 L7 y3_0 y3_1) (oY <| oE <| Zc nBf <| w5)
     ·
      have w8 : OkL (Zdk L0 L1 a2 L3 L4 L5 L6 L7 y3_0 y3_1) :=
       Zc (ZbF 1 ltA) <| oL <| oI <| oN <| oE <| Zc nBf <| w5
      refine ZaO (fun z8 c8 => ?_)
      cases z8 with
      | r0 =>
       refine Zf (fun g9 => ?_) (fun _ => Zt)
       exact Zcl ZO (fu := 4000) (orc := (Zz [o0, o0, o0] [] [(0, 0), (1, 1)] [(0, (wsl L0 0)), (2, (wsl L0 1))] [(0, .bs L0), (1, (Zq ((wd L0 0))  y3_0 y3_1  7)), (2, (Zej (y3_0)    7)), (3, (Zgb ((wd L0 1)) L1 a2 L3 L4 L5 L6 L7   0 1 2 3 4 5 9)), (5, .ap 1 [vi y3_0, vq, vq, vq] (Zb E_iiii (L3 ++ ([(⟨y3_0, (0 : Int), (0 : Int), (0 : Int)⟩ : RA)] : List RA)))), (7, .ap 1 [vi a2] (Zb eI (L4 ++ ([a2] : List Int))))])) (live := [0, 1, 2, 3, 4, 5, 11, 13, 9]) (u := vtt) (bl := [some (.cells [Value.string (Za L1), vi a2, vs 11 0 (L3.length + 1) (L3.length + 1), vs 13 0 (L4.length + 1) (L4.length + 1), vs 9 0 (L5.length + 1) (L5.length + 1), vs 4 0 L6.length L6.length, Value.map (some 5)] 57), none, none, none, some (.cells (Zb Zs L6) 9 true), some (.ro (Zj L7) true), some (.cells (Zb E_iiii (L3 ++ ([(⟨y3_0, (0 : Int), (0 : Int), (0 : Int)⟩ : RA)] : List RA))) 24), some (.cells (Zb eI (L4 ++ ([a2] : List Int))) 3), some (.cells (Zb Zu (L5 ++ ([(⟨(L3.length : Int), ((wd L0 1).drop 1)⟩ : R_is)] : List R_is))) 122)]) (ob := ((dP ((1 = 1 ∧ Z8 (1 * 1) (List.drop 0 [vi a2]) = some [vi a2] ∧ Z7 Za8 [vi a2] = true) ∧ 0 < 1 ∧ 1 ≤ 100000 ∧ L4.length < L4.length + 1 ∧ L4.length ≤ 100000 ∧ L4.length * 1 ≤ (List.length (Zb eI L4)) ∧ List.take (L4.length * 1) (Zb eI L4) ++ [vi a2] = (Zb eI (L4 ++ ([a2] : List Int)))), true) :: (dP ((1 = 1 ∧ Z8 (1 * 4) (List.drop 0 [vi y3_0, vq, vq, vq]) = some [vi y3_0, vq, vq, vq] ∧ Z7 Za8 [vi y3_0, vq, vq, vq] = true) ∧ 0 < 1 ∧ 1 ≤ 100000 ∧ L3.length < L3.length + 1 ∧ L3.length ≤ 100000 ∧ L3.length * 4 ≤ (List.length (Zb E_iiii L3)) ∧ List.take (L3.length * 4) (Zb E_iiii L3) ++ [vi y3_0, vq, vq, vq] = (Zb E_iiii (L3 ++ ([(⟨y3_0, (0 : Int), (0 : Int), (0 : Int)⟩ : RA)] : List RA)))), true) :: (dP (ZdR #[vp 0 0, Value.int .i32 (64 : Int), Value.string (Za (wd L0 1))] ((wd L0 1)) L1 a2 L3 L4 L5 L6 L7   0 1 2 3 4 5 9), true) :: (dS (rdc L1 a2 L3 L4 L5 L6), true) :: (dS (Zb E_iiii L3), true) :: (dS (Zb eI L4), true) :: (dS (Zb Zu L5), true) :: (dS (Zb Zs L6), true) :: (dS (Zj L7), true) :: Zdk L0 L1 a2 L3 L4 L5 L6 L7 y3_0 y3_1)) (by as_aux_lemma => kernel_rfl) (Zc (Zn ⟨⟨rfl, ⟨rfl, rfl⟩⟩, by omega, by omega, ltA, by omega, (ZaN (E := eI) (L := L4) (M := ([a2] : List Int)) (n := L4.length) (show _ = _ * 1 from rfl) (by omega) (R := (L4 ++ ([a2] : List Int))) (by rw [List.take_of_length_le (by omega)]))⟩) <| Zc (Zn ⟨⟨rfl, ⟨rfl, rfl⟩⟩, by omega, by omega, ltA, by omega, (ZaN (E := E_iiii) (L := L3) (M := ([(⟨y3_0, (0 : Int), (0 : Int), (0 : Int)⟩ : RA)] : List RA)) (n := L3.length) (show _ = _ * 4 from rfl) (by omega) (R := (L3 ++ ([(⟨y3_0, (0 : Int), (0 : Int), (0 : Int)⟩ : RA)] : List RA))) (by rw [List.take_of_length_le (by omega)]))⟩) <| Zc (Zn (Zgc #[vp 0 0, Value.int .i32 (64 : Int), Value.string (Za (wd L0 1))] ((wd L0 1)) L1 a2 L3 L4 L5 L6 L7   N c8 0 1 2 3 4 5 9 rfl dcd dcd)) <| oR <| oR <| oR <| oR <| oR <| oR <| w8) rfl (by decide) (by rfl) rr ⟨⟨rfl, ⟨[], (show ([Value.string (Za L1), vi a2, vs 6 0 (L3.length + 1) (L3.length + 1), vs 7 0 (L4.length + 1) (L4.length + 1), vs 8 0 (L5.length + 1) (L5.length + 1), vs 4 0 L6.length L6.length, Value.map (some 5)] : List Value) = _ from (Zd rfl (Zd rfl (Zd (ZS rfl eqA eqA) (Zd rfl (Zd (ZS rfl eqA eqA) (Zd rfl (Zd rfl rfl))))))).symm)⟩, by rfl⟩, ⟨(Zm (E := Zs) (α := List Int) _ L6 _), ⟨(show Zj L7 = Zj L7 from rfl), ⟨(ZE (E := E_iiii) (α := RA) _ (L3 ++ ([(⟨y3_0, (0 : Int), (0 : Int), (0 : Int)⟩ : RA)] : List RA)) _), ⟨(ZE (E := eI) (α := Int) _ (L4 ++ ([a2] : List Int)) _), ⟨(ZE (E := Zu) (α := R_is) _ (L5 ++ ([(⟨(L3.length : Int), ((wd L0 1).drop 1)⟩ : R_is)] : List R_is)) _), trivial⟩⟩⟩⟩⟩⟩ (Zay _ rfl)
      | r1 =>
       exact Zi (Zz [o0, o0, o0] [] [(0, 0), (1, 1)] [(0, (wsl L0 0)), (2, (wsl L0 1))] [(0, .bs L0), (1, (Zq ((wd L0 0))  y3_0 y3_1  7)), (2, (Zej (y3_0)    7)), (3, (Zgd ((wd L0 1)) L1 a2 L3 L4 L5 L6 L7   0 1 2 3 4 5 9))]) ((dP (ZdS #[vp 0 0, Value.int .i32 (64 : Int), Value.string (Za (wd L0 1))] ((wd L0 1)) L1 a2 L3 L4 L5 L6 L7   0 1 2 3 4 5 9), true) :: (dS (rdc L1 a2 L3 L4 L5 L6), true) :: (dS (Zb E_iiii L3), true) :: (dS (Zb eI L4), true) :: (dS (Zb Zu L5), true) :: (dS (Zb Zs L6), true) :: (dS (Zj L7), true) :: Zdk L0 L1 a2 L3 L4 L5 L6 L7 y3_0 y3_1) (Zc (Zn (Zge #[vp 0 0, Value.int .i32 (64 : Int), Value.string (Za (wd L0 1))] ((wd L0 1)) L1 a2 L3 L4 L5 L6 L7   N c8 0 1 2 3 4 5 9 rfl dcd dcd)) <| oR <| oR <| oR <| oR <| oR <| oR <| w8)
  | r2 =>
   have w5 : OkL (Zch L0 L1 a2 L3 L4 L5 L6 L7 y3_0 y3_1) :=
    Zc (Zn (ZoG #[vi y3_0] (y3_0)   N c4  7 rfl dcd dcd)) <| w4
   refine Zf (fun g5 => ?_) (fun g5 => ?_)
   ·
    exact Zi (Zz [o1] [] [(0, 0)] [(0, (wsl L0 0))] [(0, .bs L0), (1, (Zq ((wd L0 0))  y3_0 y3_1  7)), (2, (Zdw (y3_0)    7))]) (((!y3_1), true) :: Zch L0 L1 a2 L3 L4 L5 L6 L7 y3_0 y3_1) (Zc nBt <| w5)
   ·
    refine Zf (fun g6 => ?_) (fun g6 => ?_)
    ·
     exact Zi (Zz [o0, o1] [] [(0, 0)] [(0, (wsl L0 0))] [(0, .bs L0), (1, (Zq ((wd L0 0))  y3_0 y3_1  7)), (2, (Zdw (y3_0)    7))]) ((((((wds L0).length : Nat) : Int) != (3 : Int)), true) :: ((!y3_1), false) :: Zch L0 L1 a2 L3 L4 L5 L6 L7 y3_0 y3_1) (oD <| Zc nBf <| w5)
    ·
     have w7 : OkL (ZcH L0 L1 a2 L3 L4 L5 L6 L7 y3_0 y3_1) :=
      oE <| Zc nBf <| w5
     refine Zf (fun g7 => ?_) (fun g7 => ?_)
     ·
      exact Zi (Zz [o0, o0, o1] [] [(0, 0)] [(0, (wsl L0 0))] [(0, .bs L0), (1, (Zq ((wd L0 0))  y3_0 y3_1  7)), (2, (Zdw (y3_0)    7))]) (((decide ((L3.length : Int) ≥ (512 : Int))), true) :: ZcH L0 L1 a2 L3 L4 L5 L6 L7 y3_0 y3_1) (oY <| w7)
     ·
      have w8 : OkL (ZcI L0 L1 a2 L3 L4 L5 L6 L7 y3_0 y3_1) :=
       Zc (ZbF 1 ltA) <| oL <| oI <| oN <| w7
      refine ZaO (fun z8 c8 => ?_)
      cases z8 with
      | r0 =>
       have w9 : OkL (ZcJ L0 L1 a2 L3 L4 L5 L6 L7 y3_0 y3_1) :=
        Zc (ZbF 2 ltA) <| oL <| oI <| Zc (Zn (Zae #[vp 0 0, Value.int .i32 (114 : Int), Value.string (Za (wd L0 1))] ((wd L0 1)) L1 a2 L3 L4 L5 L6 L7   N c8 0 1 2 3 4 5 9 rfl dcd dcd)) <| oR <| oR <| oR <| oR <| oR <| oR <| w8
       refine ZaO (fun z9 c9 => ?_)
       cases z9 with
       | r0 =>
        refine Zf (fun g10 => ?_) (fun _ => Zt)
        exact Zcl ZO (fu := 4000) (orc := (Zz [o0, o0, o0] [] [(0, 0), (1, 1), (3, 2)] [(0, (wsl L0 0)), (2, (wsl L0 1)), (3, (wsl L0 2))] [(0, .bs L0), (1, (Zq ((wd L0 0))  y3_0 y3_1  7)), (2, (Zdw (y3_0)    7)), (3, (Z3 ((wd L0 1)) L1 a2 L3 L4 L5 L6 L7   0 1 2 3 4 5 9)), (5, (Zgb ((wd L0 2)) L1 a2 L3 L4 L5 L6 L7   0 1 2 3 4 5 9)), (7, .ap 1 [vi y3_0, vi ((bAt (wd L0 1) 1) - (48 : Int)), vq, vq] (Zb E_iiii (L3 ++ ([(⟨y3_0, ((bAt (wd L0 1) 1) - (48 : Int)), (0 : Int), (0 : Int)⟩ : RA)] : List RA)))), (9, .ap 1 [vi a2] (Zb eI (L4 ++ ([a2] : List Int))))])) (live := [0, 1, 2, 3, 4, 5, 11, 13, 9]) (u := vtt) (bl := [some (.cells [Value.string (Za L1), vi a2, vs 11 0 (L3.length + 1) (L3.length + 1), vs 13 0 (L4.length + 1) (L4.length + 1), vs 9 0 (L5.length + 1) (L5.length + 1), vs 4 0 L6.length L6.length, Value.map (some 5)] 57), none, none, none, some (.cells (Zb Zs L6) 9 true), some (.ro (Zj L7) true), some (.cells (Zb E_iiii (L3 ++ ([(⟨y3_0, ((bAt (wd L0 1) 1) - (48 : Int)), (0 : Int), (0 : Int)⟩ : RA)] : List RA))) 24), some (.cells (Zb eI (L4 ++ ([a2] : List Int))) 3), some (.cells (Zb Zu (L5 ++ ([(⟨(L3.length : Int), ((wd L0 2).drop 1)⟩ : R_is)] : List R_is))) 122)]) (ob := ((dP ((1 = 1 ∧ Z8 (1 * 1) (List.drop 0 [vi a2]) = some [vi a2] ∧ Z7 Za8 [vi a2] = true) ∧ 0 < 1 ∧ 1 ≤ 100000 ∧ L4.length < L4.length + 1 ∧ L4.length ≤ 100000 ∧ L4.length * 1 ≤ (List.length (Zb eI L4)) ∧ List.take (L4.length * 1) (Zb eI L4) ++ [vi a2] = (Zb eI (L4 ++ ([a2] : List Int)))), true) :: (dP ((1 = 1 ∧ Z8 (1 * 4) (List.drop 0 [vi y3_0, vi ((bAt (wd L0 1) 1) - (48 : Int)), vq, vq]) = some [vi y3_0, vi ((bAt (wd L0 1) 1) - (48 : Int)), vq, vq] ∧ Z7 Za8 [vi y3_0, vi ((bAt (wd L0 1) 1) - (48 : Int)), vq, vq] = true) ∧ 0 < 1 ∧ 1 ≤ 100000 ∧ L3.length < L3.length + 1 ∧ L3.length ≤ 100000 ∧ L3.length * 4 ≤ (List.length (Zb E_iiii L3)) ∧ List.take (L3.length * 4) (Zb E_iiii L3) ++ [vi y3_0, vi ((bAt (wd L0 1) 1) - (48 : Int)), vq, vq] = (Zb E_iiii (L3 ++ ([(⟨y3_0, ((bAt (wd L0 1) 1) - (48 : Int)), (0 : Int), (0 : Int)⟩ : RA)] : List RA)))), true) :: (dP (ZdR #[vp 0 0, Value.int .i32 (64 : Int), Value.string (Za (wd L0 2))] ((wd L0 2)) L1 a2 L3 L4 L5 L6 L7   0 1 2 3 4 5 9), true) :: (dS (rdc L1 a2 L3 L4 L5 L6), true) :: (dS (Zb E_iiii L3), true) :: (dS (Zb eI L4), true) :: (dS (Zb Zu L5), true) :: (dS (Zb Zs L6), true) :: (dS (Zj L7), true) :: ZcJ L0 L1 a2 L3 L4 L5 L6 L7 y3_0 y3_1)) (by as_aux_lemma => kernel_rfl) (Zc (Zn ⟨⟨rfl, ⟨rfl, rfl⟩⟩, by omega, by omega, ltA, by omega, (ZaN (E := eI) (L := L4) (M := ([a2] : List Int)) (n := L4.length) (show _ = _ * 1 from rfl) (by omega) (R := (L4 ++ ([a2] : List Int))) (by rw [List.take_of_length_le (by omega)]))⟩) <| Zc (Zn ⟨⟨rfl, ⟨rfl, rfl⟩⟩, by omega, by omega, ltA, by omega, (ZaN (E := E_iiii) (L := L3) (M := ([(⟨y3_0, ((bAt (wd L0 1) 1) - (48 : Int)), (0 : Int), (0 : Int)⟩ : RA)] : List RA)) (n := L3.length) (show _ = _ * 4 from rfl) (by omega) (R := (L3 ++ ([(⟨y3_0, ((bAt (wd L0 1) 1) - (48 : Int)), (0 : Int), (0 : Int)⟩ : RA)] : List RA))) (by rw [List.take_of_length_le (by omega)]))⟩) <| Zc (Zn (Zgc #[vp 0 0, Value.int .i32 (64 : Int), Value.string (Za (wd L0 2))] ((wd L0 2)) L1 a2 L3 L4 L5 L6 L7   N c9 0 1 2 3 4 5 9 rfl dcd dcd)) <| oR <| oR <| oR <| oR <| oR <| oR <| w9) rfl (by decide) (by rfl) rr ⟨⟨rfl, ⟨[], (show ([Value.string (Za L1), vi a2, vs 6 0 (L3.length + 1) (L3.length + 1), vs 7 0 (L4.length + 1) (L4.length + 1), vs 8 0 (L5.length + 1) (L5.length + 1), vs 4 0 L6.length L6.length, Value.map (some 5)] : List Value) = _ from (Zd rfl (Zd rfl (Zd (ZS rfl eqA eqA) (Zd rfl (Zd (ZS rfl eqA eqA) (Zd rfl (Zd rfl rfl))))))).symm)⟩, by rfl⟩, ⟨(Zm (E := Zs) (α := List Int) _ L6 _), ⟨(show Zj L7 = Zj L7 from rfl), ⟨(ZE (E := E_iiii) (α := RA) _ (L3 ++ ([(⟨y3_0, ((bAt (wd L0 1) 1) - (48 : Int)), (0 : Int), (0 : Int)⟩ : RA)] : List RA)) _), ⟨(ZE (E := eI) (α := Int) _ (L4 ++ ([a2] : List Int)) _), ⟨(ZE (E := Zu) (α := R_is) _ (L5 ++ ([(⟨(L3.length : Int), ((wd L0 2).drop 1)⟩ : R_is)] : List R_is)) _), trivial⟩⟩⟩⟩⟩⟩ (Zay _ rfl)
       | r1 =>
        exact Zi (Zz [o0, o0, o0] [] [(0, 0), (1, 1), (3, 2)] [(0, (wsl L0 0)), (2, (wsl L0 1)), (3, (wsl L0 2))] [(0, .bs L0), (1, (Zq ((wd L0 0))  y3_0 y3_1  7)), (2, (Zdw (y3_0)    7)), (3, (Z3 ((wd L0 1)) L1 a2 L3 L4 L5 L6 L7   0 1 2 3 4 5 9)), (5, (Zgd ((wd L0 2)) L1 a2 L3 L4 L5 L6 L7   0 1 2 3 4 5 9))]) ((dP (ZdS #[vp 0 0, Value.int .i32 (64 : Int), Value.string (Za (wd L0 2))] ((wd L0 2)) L1 a2 L3 L4 L5 L6 L7   0 1 2 3 4 5 9), true) :: (dS (rdc L1 a2 L3 L4 L5 L6), true) :: (dS (Zb E_iiii L3), true) :: (dS (Zb eI L4), true) :: (dS (Zb Zu L5), true) :: (dS (Zb Zs L6), true) :: (dS (Zj L7), true) :: ZcJ L0 L1 a2 L3 L4 L5 L6 L7 y3_0 y3_1) (Zc (Zn (Zge #[vp 0 0, Value.int .i32 (64 : Int), Value.string (Za (wd L0 2))] ((wd L0 2)) L1 a2 L3 L4 L5 L6 L7   N c9 0 1 2 3 4 5 9 rfl dcd dcd)) <| oR <| oR <| oR <| oR <| oR <| oR <| w9)
      | r1 =>
       exact Zi (Zz [o0, o0, o0] [] [(0, 0), (1, 1)] [(0, (wsl L0 0)), (2, (wsl L0 1))] [(0, .bs L0), (1, (Zq ((wd L0 0))  y3_0 y3_1  7)), (2, (Zdw (y3_0)    7)), (3, (Zaf ((wd L0 1)) L1 a2 L3 L4 L5 L6 L7   0 1 2 3 4 5 9))]) ((dP (ZW #[vp 0 0, Value.int .i32 (114 : Int), Value.string (Za (wd L0 1))] ((wd L0 1)) L1 a2 L3 L4 L5 L6 L7   0 1 2 3 4 5 9), true) :: (dS (rdc L1 a2 L3 L4 L5 L6), true) :: (dS (Zb E_iiii L3), true) :: (dS (Zb eI L4), true) :: (dS (Zb Zu L5), true) :: (dS (Zb Zs L6), true) :: (dS (Zj L7), true) :: ZcI L0 L1 a2 L3 L4 L5 L6 L7 y3_0 y3_1) (Zc (Zn (Zag #[vp 0 0, Value.int .i32 (114 : Int), Value.string (Za (wd L0 1))] ((wd L0 1)) L1 a2 L3 L4 L5 L6 L7   N c8 0 1 2 3 4 5 9 rfl dcd dcd)) <| oR <| oR <| oR <| oR <| oR <| oR <| w8)
  | r3 =>
   have w5 : OkL (ZcK L0 L1 a2 L3 L4 L5 L6 L7 y3_0 y3_1) :=
    Zc (Zn (ZoH #[vi y3_0] (y3_0)   N c4  7 rfl dcd dcd)) <| w4
   refine Zf (fun g5 => ?_) (fun g5 => ?_)
   ·
    exact Zi (Zz [o1] [] [(0, 0)] [(0, (wsl L0 0))] [(0, .bs L0), (1, (Zq ((wd L0 0))  y3_0 y3_1  7)), (2, (Zcv (y3_0)    7))]) (((!y3_1), true) :: ZcK L0 L1 a2 L3 L4 L5 L6 L7 y3_0 y3_1) (Zc nBt <| w5)
   ·
    have w6 : OkL (ZbJ L0 L1 a2 L3 L4 L5 L6 L7 y3_0 y3_1) :=
     Zc nBf <| w5
    refine Zf (fun g6 => ?_) (fun g6 => ?_)
    ·
     exact Zi (Zz [o0, o1] [] [(0, 0)] [(0, (wsl L0 0))] [(0, .bs L0), (1, (Zq ((wd L0 0))  y3_0 y3_1  7)), (2, (Zcv (y3_0)    7))]) ((((((wds L0).length : Nat) : Int) != (4 : Int)), true) :: ZbJ L0 L1 a2 L3 L4 L5 L6 L7 y3_0 y3_1) (oD <| w6)
    ·
     refine Zf (fun g7 => ?_) (fun g7 => ?_)
     ·
      exact Zi (Zz [o0, o0, o1] [] [(0, 0)] [(0, (wsl L0 0))] [(0, .bs L0), (1, (Zq ((wd L0 0))  y3_0 y3_1  7)), (2, (Zcv (y3_0)    7))]) (((decide ((L3.length : Int) ≥ (512 : Int))), true) :: (((((wds L0).length : Nat) : Int) != (4 : Int)), false) :: ZbJ L0 L1 a2 L3 L4 L5 L6 L7 y3_0 y3_1) (oY <| oE <| w6)
     ·
      have w8 : OkL (ZcL L0 L1 a2 L3 L4 L5 L6 L7 y3_0 y3_1) :=
       Zc (ZbF 1 ltA) <| oL <| oI <| oN <| oE <| w6
      refine ZaO (fun z8 c8 => ?_)
      cases z8 with
      | r0 =>
       have w9 : OkL (ZcM L0 L1 a2 L3 L4 L5 L6 L7 y3_0 y3_1) :=
        Zc (ZbF 2 ltA) <| oL <| oI <| Zc (Zn (Zae #[vp 0 0, Value.int .i32 (114 : Int), Value.string (Za (wd L0 1))] ((wd L0 1)) L1 a2 L3 L4 L5 L6 L7   N c8 0 1 2 3 4 5 9 rfl dcd dcd)) <| oR <| oR <| oR <| oR <| oR <| oR <| w8
       refine ZaO (fun z9 c9 => ?_)
       cases z9 with
       | r0 =>
        have w10 : OkL (ZcN L0 L1 a2 L3 L4 L5 L6 L7 y3_0 y3_1) :=
         Zc (ZbF 3 ltA) <| oL <| oI <| Zc (Zn (ZbG #[vp 0 0, Value.int .i32 (35 : Int), Value.string (Za (wd L0 2))] ((wd L0 2)) L1 a2 L3 L4 L5 L6 L7   N c9 0 1 2 3 4 5 9 rfl dcd dcd)) <| oR <| oR <| oR <| oR <| oR <| oR <| w9
        refine ZaO (fun z10 c10 => ?_)
        cases z10 with
        | r0 =>
         refine Zf (fun g11 => ?_) (fun _ => Zt)
         exact Zcl ZO (fu := 4000) (orc := (Zz [o0, o0, o0] [] [(0, 0), (1, 1), (3, 2), (5, 3)] [(0, (wsl L0 0)), (2, (wsl L0 1)), (3, (wsl L0 2)), (4, (wsl L0 3))] [(0, .bs L0), (1, (Zq ((wd L0 0))  y3_0 y3_1  7)), (2, (Zcv (y3_0)    7)), (3, (Z3 ((wd L0 1)) L1 a2 L3 L4 L5 L6 L7   0 1 2 3 4 5 9)), (5, (ZaR ((wd L0 2)) L1 a2 L3 L4 L5 L6 L7   0 1 2 3 4 5 9)), (7, (ZaR ((wd L0 3)) L1 a2 L3 L4 L5 L6 L7   0 1 2 3 4 5 9)), (9, .ap 1 [vi y3_0, vi ((bAt (wd L0 1) 1) - (48 : Int)), vi (ZK (wd L0 2)), vi (ZK (wd L0 3))] (Zb E_iiii (L3 ++ ([(⟨y3_0, ((bAt (wd L0 1) 1) - (48 : Int)), (ZK (wd L0 2)), (ZK (wd L0 3))⟩ : RA)] : List RA)))), (11, .ap 1 [vi a2] (Zb eI (L4 ++ ([a2] : List Int))))])) (live := [0, 1, 2, 3, 4, 5, 10, 12]) (u := vtt) (bl := [some (.cells [Value.string (Za L1), vi a2, vs 10 0 (L3.length + 1) (L3.length + 1), vs 12 0 (L4.length + 1) (L4.length + 1), vs 3 0 L5.length L5.length, vs 4 0 L6.length L6.length, Value.map (some 5)] 57), none, none, some (.cells (Zb Zu L5) 122 true), some (.cells (Zb Zs L6) 9 true), some (.ro (Zj L7) true), some (.cells (Zb E_iiii (L3 ++ ([(⟨y3_0, ((bAt (wd L0 1) 1) - (48 : Int)), (ZK (wd L0 2)), (ZK (wd L0 3))⟩ : RA)] : List RA))) 24), some (.cells (Zb eI (L4 ++ ([a2] : List Int))) 3)]) (ob := ((dP ((1 = 1 ∧ Z8 (1 * 1) (List.drop 0 [vi a2]) = some [vi a2] ∧ Z7 Za8 [vi a2] = true) ∧ 0 < 1 ∧ 1 ≤ 100000 ∧ L4.length < L4.length + 1 ∧ L4.length ≤ 100000 ∧ L4.length * 1 ≤ (List.length (Zb eI L4)) ∧ List.take (L4.length * 1) (Zb eI L4) ++ [vi a2] = (Zb eI (L4 ++ ([a2] : List Int)))), true) :: (dP ((1 = 1 ∧ Z8 (1 * 4) (List.drop 0 [vi y3_0, vi ((bAt (wd L0 1) 1) - (48 : Int)), vi (ZK (wd L0 2)), vi (ZK (wd L0 3))]) = some [vi y3_0, vi ((bAt (wd L0 1) 1) - (48 : Int)), vi (ZK (wd L0 2)), vi (ZK (wd L0 3))] ∧ Z7 Za8 [vi y3_0, vi ((bAt (wd L0 1) 1) - (48 : Int)), vi (ZK (wd L0 2)), vi (ZK (wd L0 3))] = true) ∧ 0 < 1 ∧ 1 ≤ 100000 ∧ L3.length < L3.length + 1 ∧ L3.length ≤ 100000 ∧ L3.length * 4 ≤ (List.length (Zb E_iiii L3)) ∧ List.take (L3.length * 4) (Zb E_iiii L3) ++ [vi y3_0, vi ((bAt (wd L0 1) 1) - (48 : Int)), vi (ZK (wd L0 2)), vi (ZK (wd L0 3))] = (Zb E_iiii (L3 ++ ([(⟨y3_0, ((bAt (wd L0 1) 1) - (48 : Int)), (ZK (wd L0 2)), (ZK (wd L0 3))⟩ : RA)] : List RA)))), true) :: (dP (Zbg #[vp 0 0, Value.int .i32 (35 : Int), Value.string (Za (wd L0 3))] ((wd L0 3)) L1 a2 L3 L4 L5 L6 L7   0 1 2 3 4 5 9), true) :: (dS (rdc L1 a2 L3 L4 L5 L6), true) :: (dS (Zb E_iiii L3), true) :: (dS (Zb eI L4), true) :: (dS (Zb Zu L5), true) :: (dS (Zb Zs L6), true) :: (dS (Zj L7), true) :: ZcN L0 L1 a2 L3 L4 L5 L6 L7 y3_0 y3_1)) (by as_aux_lemma => kernel_rfl) (Zc (Zn ⟨⟨rfl, ⟨rfl, rfl⟩⟩, by omega, by omega, ltA, by omega, (ZaN (E := eI) (L := L4) (M := ([a2] : List Int)) (n := L4.length) (show _ = _ * 1 from rfl) (by omega) (R := (L4 ++ ([a2] : List Int))) (by rw [List.take_of_length_le (by omega)]))⟩) <| Zc (Zn ⟨⟨rfl, ⟨rfl, rfl⟩⟩, by omega, by omega, ltA, by omega, (ZaN (E := E_iiii) (L := L3) (M := ([(⟨y3_0, ((bAt (wd L0 1) 1) - (48 : Int)), (ZK (wd L0 2)), (ZK (wd L0 3))⟩ : RA)] : List RA)) (n := L3.length) (show _ = _ * 4 from rfl) (by omega) (R := (L3 ++ ([(⟨y3_0, ((bAt (wd L0 1) 1) - (48 : Int)), (ZK (wd L0 2)), (ZK (wd L0 3))⟩ : RA)] : List RA))) (by rw [List.take_of_length_le (by omega)]))⟩) <| Zc (Zn (ZbG #[vp 0 0, Value.int .i32 (35 : Int), Value.string (Za (wd L0 3))] ((wd L0 3)) L1 a2 L3 L4 L5 L6 L7   N c10 0 1 2 3 4 5 9 rfl dcd dcd)) <| oR <| oR <| oR <| oR <| oR <| oR <| w10) rfl (by decide) (by rfl) rr ⟨⟨rfl, ⟨[], (show ([Value.string (Za L1), vi a2, vs 6 0 (L3.length + 1) (L3.length + 1), vs 7 0 (L4.length + 1) (L4.length + 1), vs 3 0 L5.length L5.length, vs 4 0 L6.length L6.length, Value.map (some 5)] : List Value) = _ from (Zd rfl (Zd rfl (Zd (ZS rfl eqA eqA) (Zd rfl (Zd rfl (Zd rfl (Zd rfl rfl))))))).symm)⟩, by rfl⟩, ⟨(Zm (E := Zu) (α := R_is) _ L5 _), ⟨(Zm (E := Zs) (α := List Int) _ L6 _), ⟨(show Zj L7 = Zj L7 from rfl), ⟨(ZE (E := E_iiii) (α := RA) _ (L3 ++ ([(⟨y3_0, ((bAt (wd L0 1) 1) - (48 : Int)), (ZK (wd L0 2)), (ZK (wd L0 3))⟩ : RA)] : List RA)) _), ⟨(ZE (E := eI) (α := Int) _ (L4 ++ ([a2] : List Int)) _), trivial⟩⟩⟩⟩⟩⟩ (Zay _ rfl)
        | r1 =>
         exact Zi (Zz [o0, o0, o0] [] [(0, 0), (1, 1), (3, 2), (5, 3)] [(0, (wsl L0 0)), (2, (wsl L0 1)), (3, (wsl L0 2)), (4, (wsl L0 3))] [(0, .bs L0), (1, (Zq ((wd L0 0))  y3_0 y3_1  7)), (2, (Zcv (y3_0)    7)), (3, (Z3 ((wd L0 1)) L1 a2 L3 L4 L5 L6 L7   0 1 2 3 4 5 9)), (5, (ZaR ((wd L0 2)) L1 a2 L3 L4 L5 L6 L7   0 1 2 3 4 5 9)), (7, (ZbH ((wd L0 3)) L1 a2 L3 L4 L5 L6 L7   0 1 2 3 4 5 9))]) ((dP (Zbh #[vp 0 0, Value.int .i32 (35 : Int), Value.string (Za (wd L0 3))] ((wd L0 3)) L1 a2 L3 L4 L5 L6 L7   0 1 2 3 4 5 9), true) :: (dS (rdc L1 a2 L3 L4 L5 L6), true) :: (dS (Zb E_iiii L3), true) :: (dS (Zb eI L4), true) :: (dS (Zb Zu L5), true) :: (dS (Zb Zs L6), true) :: (dS (Zj L7), true) :: ZcN L0 L1 a2 L3 L4 L5 L6 L7 y3_0 y3_1) (Zc (Zn (ZbI #[vp 0 0, Value.int .i32 (35 : Int), Value.string (Za (wd L0 3))] ((wd L0 3)) L1 a2 L3 L4 L5 L6 L7   N c10 0 1 2 3 4 5 9 rfl dcd dcd)) <| oR <| oR <| oR <| oR <| oR <| oR <| w10)
       | r1 =>
        exact Zi (Zz [o0, o0, o0] [] [(0, 0), (1, 1), (3, 2)] [(0, (wsl L0 0)), (2, (wsl L0 1)), (3, (wsl L0 2))] [(0, .bs L0), (1, (Zq ((wd L0 0))  y3_0 y3_1  7)), (2, (Zcv (y3_0)    7)), (3, (Z3 ((wd L0 1)) L1 a2 L3 L4 L5 L6 L7   0 1 2 3 4 5 9)), (5, (ZbH ((wd L0 2)) L1 a2 L3 L4 L5 L6 L7   0 1 2 3 4 5 9))]) ((dP (Zbh #[vp 0 0, Value.int .i32 (35 : Int), Value.string (Za (wd L0 2))] ((wd L0 2)) L1 a2 L3 L4 L5 L6 L7   0 1 2 3 4 5 9), true) :: (dS (rdc L1 a2 L3 L4 L5 L6), true) :: (dS (Zb E_iiii L3), true) :: (dS (Zb eI L4), true) :: (dS (Zb Zu L5), true) :: (dS (Zb Zs L6), true) :: (dS (Zj L7), true) :: ZcM L0 L1 a2 L3 L4 L5 L6 L7 y3_0 y3_1) (Zc (Zn (ZbI #[vp 0 0, Value.int .i32 (35 : Int), Value.string (Za (wd L0 2))] ((wd L0 2)) L1 a2 L3 L4 L5 L6 L7   N c9 0 1 2 3 4 5 9 rfl dcd dcd)) <| oR <| oR <| oR <| oR <| oR <| oR <| w9)
      | r1 =>
       exact Zi (Zz [o0, o0, o0] [] [(0, 0), (1, 1)] [(0, (wsl L0 0)), (2, (wsl L0 1))] [(0, .bs L0), (1, (Zq ((wd L0 0))  y3_0 y3_1  7)), (2, (Zcv (y3_0)    7)), (3, (Zaf ((wd L0 1)) L1 a2 L3 L4 L5 L6 L7   0 1 2 3 4 5 9))]) ((dP (ZW #[vp 0 0, Value.int .i32 (114 : Int), Value.string (Za (wd L0 1))] ((wd L0 1)) L1 a2 L3 L4 L5 L6 L7   0 1 2 3 4 5 9), true) :: (dS (rdc L1 a2 L3 L4 L5 L6), true) :: (dS (Zb E_iiii L3), true) :: (dS (Zb eI L4), true) :: (dS (Zb Zu L5), true) :: (dS (Zb Zs L6), true) :: (dS (Zj L7), true) :: ZcL L0 L1 a2 L3 L4 L5 L6 L7 y3_0 y3_1) (Zc (Zn (Zag #[vp 0 0, Value.int .i32 (114 : Int), Value.string (Za (wd L0 1))] ((wd L0 1)) L1 a2 L3 L4 L5 L6 L7   N c8 0 1 2 3 4 5 9 rfl dcd dcd)) <| oR <| oR <| oR <| oR <| oR <| oR <| w8)
  | r4 =>
   have w5 : OkL (ZcO L0 L1 a2 L3 L4 L5 L6 L7 y3_0 y3_1) :=
    Zc (Zn (ZoI #[vi y3_0] (y3_0)   N c4  7 rfl dcd dcd)) <| w4
   refine Zf (fun g5 => ?_) (fun g5 => ?_)
   ·
    exact Zi (Zz [o1] [] [(0, 0)] [(0, (wsl L0 0))] [(0, .bs L0), (1, (Zq ((wd L0 0))  y3_0 y3_1  7)), (2, (Zcw (y3_0)    7))]) (((!y3_1), true) :: ZcO L0 L1 a2 L3 L4 L5 L6 L7 y3_0 y3_1) (Zc nBt <| w5)
   ·
    have w6 : OkL (ZbK L0 L1 a2 L3 L4 L5 L6 L7 y3_0 y3_1) :=
     Zc nBf <| w5
    refine Zf (fun g6 => ?_) (fun g6 => ?_)
    ·
     exact Zi (Zz [o0, o1] [] [(0, 0)] [(0, (wsl L0 0))] [(0, .bs L0), (1, (Zq ((wd L0 0))  y3_0 y3_1  7)), (2, (Zcw (y3_0)    7))]) ((((((wds L0).length : Nat) : Int) != (4 : Int)), true) :: ZbK L0 L1 a2 L3 L4 L5 L6 L7 y3_0 y3_1) (oD <| w6)
    ·
     refine Zf (fun g7 => ?_) (fun g7 => ?_)
     ·
      exact Zi (Zz [o0, o0, o1] [] [(0, 0)] [(0, (wsl L0 0))] [(0, .bs L0), (1, (Zq ((wd L0 0))  y3_0 y3_1  7)), (2, (Zcw (y3_0)    7))]) (((decide ((L3.length : Int) ≥ (512 : Int))), true) :: (((((wds L0).length : Nat) : Int) != (4 : Int)), false) :: ZbK L0 L1 a2 L3 L4 L5 L6 L7 y3_0 y3_1) (oY <| oE <| w6)
     ·
      have w8 : OkL (ZcP L0 L1 a2 L3 L4 L5 L6 L7 y3_0 y3_1) :=
       Zc (ZbF 1 ltA) <| oL <| oI <| oN <| oE <| w6
      refine ZaO (fun z8 c8 => ?_)
      cases z8 with
      | r0 =>
       have w9 : OkL (ZcQ L0 L1 a2 L3 L4 L5 L6 L7 y3_0 y3_1) :=
        Zc (ZbF 2 ltA) <| oL <| oI <| Zc (Zn (Zae #[vp 0 0, Value.int .i32 (114 : Int), Value.string (Za (wd L0 1))] ((wd L0 1)) L1 a2 L3 L4 L5 L6 L7   N c8 0 1 2 3 4 5 9 rfl dcd dcd)) <| oR <| oR <| oR <| oR <| oR <| oR <| w8
       refine ZaO (fun z9 c9 => ?_)
       cases z9 with
       | r0 =>
        have w10 : OkL (ZcR L0 L1 a2 L3 L4 L5 L6 L7 y3_0 y3_1) :=
         Zc (ZbF 3 ltA) <| oL <| oI <| Zc (Zn (Zae #[vp 0 0, Value.int .i32 (114 : Int), Value.string (Za (wd L0 2))] ((wd L0 2)) L1 a2 L3 L4 L5 L6 L7   N c9 0 1 2 3 4 5 9 rfl dcd dcd)) <| oR <| oR <| oR <| oR <| oR <| oR <| w9
        refine ZaO (fun z10 c10 => ?_)
        cases z10 with
        | r0 =>
         refine Zf (fun g11 => ?_) (fun _ => Zt)
         exact Zcl ZO (fu := 4000) (orc := (Zz [o0, o0, o0] [] [(0, 0), (1, 1), (3, 2), (5, 3)] [(0, (wsl L0 0)), (2, (wsl L0 1)), (3, (wsl L0 2)), (4, (wsl L0 3))] [(0, .bs L0), (1, (Zq ((wd L0 0))  y3_0 y3_1  7)), (2, (Zcw (y3_0)    7)), (3, (Z3 ((wd L0 1)) L1 a2 L3 L4 L5 L6 L7   0 1 2 3 4 5 9)), (5, (Z3 ((wd L0 2)) L1 a2 L3 L4 L5 L6 L7   0 1 2 3 4 5 9)), (7, (ZaR ((wd L0 3)) L1 a2 L3 L4 L5 L6 L7   0 1 2 3 4 5 9)), (9, .ap 1 [vi y3_0, vi ((bAt (wd L0 1) 1) - (48 : Int)), vi ((bAt (wd L0 2) 1) - (48 : Int)), vi (ZK (wd L0 3))] (Zb E_iiii (L3 ++ ([(⟨y3_0, ((bAt (wd L0 1) 1) - (48 : Int)), ((bAt (wd L0 2) 1) - (48 : Int)), (ZK (wd L0 3))⟩ : RA)] : List RA)))), (11, .ap 1 [vi a2] (Zb eI (L4 ++ ([a2] : List Int))))])) (live := [0, 1, 2, 3, 4, 5, 10, 12]) (u := vtt) (bl := [some (.cells [Value.string (Za L1), vi a2, vs 10 0 (L3.length + 1) (L3.length + 1), vs 12 0 (L4.length + 1) (L4.length + 1), vs 3 0 L5.length L5.length, vs 4 0 L6.length L6.length, Value.map (some 5)] 57), none, none, some (.cells (Zb Zu L5) 122 true), some (.cells (Zb Zs L6) 9 true), some (.ro (Zj L7) true), some (.cells (Zb E_iiii (L3 ++ ([(⟨y3_0, ((bAt (wd L0 1) 1) - (48 : Int)), ((bAt (wd L0 2) 1) - (48 : Int)), (ZK (wd L0 3))⟩ : RA)] : List RA))) 24), some (.cells (Zb eI (L4 ++ ([a2] : List Int))) 3)]) (ob := ((dP ((1 = 1 ∧ Z8 (1 * 1) (List.drop 0 [vi a2]) = some [vi a2] ∧ Z7 Za8 [vi a2] = true) ∧ 0 < 1 ∧ 1 ≤ 100000 ∧ L4.length < L4.length + 1 ∧ L4.length ≤ 100000 ∧ L4.length * 1 ≤ (List.length (Zb eI L4)) ∧ List.take (L4.length * 1) (Zb eI L4) ++ [vi a2] = (Zb eI (L4 ++ ([a2] : List Int)))), true) :: (dP ((1 = 1 ∧ Z8 (1 * 4) (List.drop 0 [vi y3_0, vi ((bAt (wd L0 1) 1) - (48 : Int)), vi ((bAt (wd L0 2) 1) - (48 : Int)), vi (ZK (wd L0 3))]) = some [vi y3_0, vi ((bAt (wd L0 1) 1) - (48 : Int)), vi ((bAt (wd L0 2) 1) - (48 : Int)), vi (ZK (wd L0 3))] ∧ Z7 Za8 [vi y3_0, vi ((bAt (wd L0 1) 1) - (48 : Int)), vi ((bAt (wd L0 2) 1) - (48 : Int)), vi (ZK (wd L0 3))] = true) ∧ 0 < 1 ∧ 1 ≤ 100000 ∧ L3.length < L3.length + 1 ∧ L3.length ≤ 100000 ∧ L3.length * 4 ≤ (List.length (Zb E_iiii L3)) ∧ List.take (L3.length * 4) (Zb E_iiii L3) ++ [vi y3_0, vi ((bAt (wd L0 1) 1) - (48 : Int)), vi ((bAt (wd L0 2) 1) - (48 : Int)), vi (ZK (wd L0 3))] = (Zb E_iiii (L3 ++ ([(⟨y3_0, ((bAt (wd L0 1) 1) - (48 : Int)), ((bAt (wd L0 2) 1) - (48 : Int)), (ZK (wd L0 3))⟩ : RA)] : List RA)))), true) :: (dP (Zbg #[vp 0 0, Value.int .i32 (35 : Int), Value.string (Za (wd L0 3))] ((wd L0 3)) L1 a2 L3 L4 L5 L6 L7   0 1 2 3 4 5 9), true) :: (dS (rdc L1 a2 L3 L4 L5 L6), true) :: (dS (Zb E_iiii L3), true) :: (dS (Zb eI L4), true) :: (dS (Zb Zu L5), true) :: (dS (Zb Zs L6), true) :: (dS (Zj L7), true) :: ZcR L0 L1 a2 L3 L4 L5 L6 L7 y3_0 y3_1)) (by as_aux_lemma => kernel_rfl) (Zc (Zn ⟨⟨rfl, ⟨rfl, rfl⟩⟩, by omega, by omega, ltA, by omega, (ZaN (E := eI) (L := L4) (M := ([a2] : List Int)) (n := L4.length) (show _ = _ * 1 from rfl) (by omega) (R := (L4 ++ ([a2] : List Int))) (by rw [List.take_of_length_le (by omega)]))⟩) <| Zc (Zn ⟨⟨rfl, ⟨rfl, rfl⟩⟩, by omega, by omega, ltA, by omega, (ZaN (E := E_iiii) (L := L3) (M := ([(⟨y3_0, ((bAt (wd L0 1) 1) - (48 : Int)), ((bAt (wd L0 2) 1) - (48 : Int)), (ZK (wd L0 3))⟩ : RA)] : List RA)) (n := L3.length) (show _ = _ * 4 from rfl) (by omega) (R := (L3 ++ ([(⟨y3_0, ((bAt (wd L0 1) 1) - (48 : Int)), ((bAt (wd L0 2) 1) - (48 : Int)), (ZK (wd L0 3))⟩ : RA)] : List RA))) (by rw [List.take_of_length_le (by omega)]))⟩) <| Zc (Zn (ZbG #[vp 0 0, Value.int .i32 (35 : Int), Value.string (Za (wd L0 3))] ((wd L0 3)) L1 a2 L3 L4 L5 L6 L7   N c10 0 1 2 3 4 5 9 rfl dcd dcd)) <| oR <| oR <| oR <| oR <| oR <| oR <| w10) rfl (by decide) (by rfl) rr ⟨⟨rfl, ⟨[], (show ([Value.string (Za L1), vi a2, vs 6 0 (L3.length + 1) (L3.length + 1), vs 7 0 (L4.length + 1) (L4.length + 1), vs 3 0 L5.length L5.length, vs 4 0 L6.length L6.length, Value.map (some 5)] : List Value) = _ from (Zd rfl (Zd rfl (Zd (ZS rfl eqA eqA) (Zd rfl (Zd rfl (Zd rfl (Zd rfl rfl))))))).symm)⟩, by rfl⟩, ⟨(Zm (E := Zu) (α := R_is) _ L5 _), ⟨(Zm (E := Zs) (α := List Int) _ L6 _), ⟨(show Zj L7 = Zj L7 from rfl), ⟨(ZE (E := E_iiii) (α := RA) _ (L3 ++ ([(⟨y3_0, ((bAt (wd L0 1) 1) - (48 : Int)), ((bAt (wd L0 2) 1) - (48 : Int)), (ZK (wd L0 3))⟩ : RA)] : List RA)) _), ⟨(ZE (E := eI) (α := Int) _ (L4 ++ ([a2] : List Int)) _), trivial⟩⟩⟩⟩⟩⟩ (Zay _ rfl)
        | r1 =>
         exact Zi (Zz [o0, o0, o0] [] [(0, 0), (1, 1), (3, 2), (5, 3)] [(0, (wsl L0 0)), (2, (wsl L0 1)), (3, (wsl L0 2)), (4, (wsl L0 3))] [(0, .bs L0), (1, (Zq ((wd L0 0))  y3_0 y3_1  7)), (2, (Zcw (y3_0)    7)), (3, (Z3 ((wd L0 1)) L1 a2 L3 L4 L5 L6 L7   0 1 2 3 4 5 9)), (5, (Z3 ((wd L0 2)) L1 a2 L3 L4 L5 L6 L7   0 1 2 3 4 5 9)), (7, (ZbH ((wd L0 3)) L1 a2 L3 L4 L5 L6 L7   0 1 2 3 4 5 9))]) ((dP (Zbh #[vp 0 0, Value.int .i32 (35 : Int), Value.string (Za (wd L0 3))] ((wd L0 3)) L1 a2 L3 L4 L5 L6 L7   0 1 2 3 4 5 9), true) :: (dS (rdc L1 a2 L3 L4 L5 L6), true) :: (dS (Zb E_iiii L3), true) :: (dS (Zb eI L4), true) :: (dS (Zb Zu L5), true) :: (dS (Zb Zs L6), true) :: (dS (Zj L7), true) :: ZcR L0 L1 a2 L3 L4 L5 L6 L7 y3_0 y3_1) (Zc (Zn (ZbI #[vp 0 0, Value.int .i32 (35 : Int), Value.string (Za (wd L0 3))] ((wd L0 3)) L1 a2 L3 L4 L5 L6 L7   N c10 0 1 2 3 4 5 9 rfl dcd dcd)) <| oR <| oR <| oR <| oR <| oR <| oR <| w10)
       | r1 =>
        exact Zi (Zz [o0, o0, o0] [] [(0, 0), (1, 1), (3, 2)] [(0, (wsl L0 0)), (2, (wsl L0 1)), (3, (wsl L0 2))] [(0, .bs L0), (1, (Zq ((wd L0 0))  y3_0 y3_1  7)), (2, (Zcw (y3_0)    7)), (3, (Z3 ((wd L0 1)) L1 a2 L3 L4 L5 L6 L7   0 1 2 3 4 5 9)), (5, (Zaf ((wd L0 2)) L1 a2 L3 L4 L5 L6 L7   0 1 2 3 4 5 9))]) ((dP (ZW #[vp 0 0, Value.int .i32 (114 : Int), Value.string (Za (wd L0 2))] ((wd L0 2)) L1 a2 L3 L4 L5 L6 L7   0 1 2 3 4 5 9), true) :: (dS (rdc L1 a2 L3 L4 L5 L6), true) :: (dS (Zb E_iiii L3), true) :: (dS (Zb eI L4), true) :: (dS (Zb Zu L5), true) :: (dS (Zb Zs L6), true) :: (dS (Zj L7), true) :: ZcQ L0 L1 a2 L3 L4 L5 L6 L7 y3_0 y3_1) (Zc (Zn (Zag #[vp 0 0, Value.int .i32 (114 : Int), Value.string (Za (wd L0 2))] ((wd L0 2)) L1 a2 L3 L4 L5 L6 L7   N c9 0 1 2 3 4 5 9 rfl dcd dcd)) <| oR <| oR <| oR <| oR <| oR <| oR <| w9)
      | r1 =>
       exact Zi (Zz [o0, o0, o0] [] [(0, 0), (1, 1)] [(0, (wsl L0 0)), (2, (wsl L0 1))] [(0, .bs L0), (1, (Zq ((wd L0 0))  y3_0 y3_1  7)), (2, (Zcw (y3_0)    7)), (3, (Zaf ((wd L0 1)) L1 a2 L3 L4 L5 L6 L7   0 1 2 3 4 5 9))]) ((dP (ZW #[vp 0 0, Value.int .i32 (114 : Int), Value.string (Za (wd L0 1))] ((wd L0 1)) L1 a2 L3 L4 L5 L6 L7   0 1 2 3 4 5 9), true) :: (dS (rdc L1 a2 L3 L4 L5 L6), true) :: (dS (Zb E_iiii L3), true) :: (dS (Zb eI L4), true) :: (dS (Zb Zu L5), true) :: (dS (Zb Zs L6), true) :: (dS (Zj L7), true) :: ZcP L0 L1 a2 L3 L4 L5 L6 L7 y3_0 y3_1) (Zc (Zn (Zag #[vp 0 0, Value.int .i32 (114 : Int), Value.string (Za (wd L0 1))] ((wd L0 1)) L1 a2 L3 L4 L5 L6 L7   N c8 0 1 2 3 4 5 9 rfl dcd dcd)) <| oR <| oR <| oR <| oR <| oR <| oR <| w8)
  | r5 =>
   have w5 : OkL (ZcS L0 L1 a2 L3 L4 L5 L6 L7 y3_0 y3_1) :=
    Zc (Zn (ZoJ #[vi y3_0] (y3_0)   N c4  7 rfl dcd dcd)) <| w4
   refine Zf (fun g5 => ?_) (fun g5 => ?_)
   ·
    exact Zi (Zz [o1] [] [(0, 0)] [(0, (wsl L0 0))] [(0, .bs L0), (1, (Zq ((wd L0 0))  y3_0 y3_1  7)), (2, (Zcx (y3_0)    7))]) (((!y3_1), true) :: ZcS L0 L1 a2 L3 L4 L5 L6 L7 y3_0 y3_1) (Zc nBt <| w5)
   ·
    have w6 : OkL (ZbL L0 L1 a2 L3 L4 L5 L6 L7 y3_0 y3_1) :=
     Zc nBf <| w5
    refine Zf (fun g6 => ?_) (fun g6 => ?_)
    ·
     exact Zi (Zz [o0, o1] [] [(0, 0)] [(0, (wsl L0 0))] [(0, .bs L0), (1, (Zq ((wd L0 0))  y3_0 y3_1  7)), (2, (Zcx (y3_0)    7))]) ((((((wds L0).length : Nat) : Int) != (4 : Int)), true) :: ZbL L0 L1 a2 L3 L4 L5 L6 L7 y3_0 y3_1) (oD <| w6)
    ·
     refine Zf (fun g7 => ?_) (fun g7 => ?_)
     ·
      exact Zi (Zz [o0, o0, o1] [] [(0, 0)] [(0, (wsl L0 0))] [(0, .bs L0), (1, (Zq ((wd L0 0))  y3_0 y3_1  7)), (2, (Zcx (y3_0)    7))]) (((decide ((L3.length : Int) ≥ (512 : Int))), true) :: (((((wds L0).length : Nat) : Int) != (4 : Int)), false) :: ZbL L0 L1 a2 L3 L4 L5 L6 L7 y3_0 y3_1) (oY <| oE <| w6)
     ·
      have w8 : OkL (ZcT L0 L1 a2 L3 L4 L5 L6 L7 y3_0 y3_1) :=
       Zc (ZbF 1 ltA) <| oL <| oI <| oN <| oE <| w6
      refine ZaO (fun z8 c8 => ?_)
      cases z8 with
      | r0 =>
       have w9 : OkL (ZcU L0 L1 a2 L3 L4 L5 L6 L7 y3_0 y3_1) :=
        Zc (ZbF 2 ltA) <| oL <| oI <| Zc (Zn (Zae #[vp 0 0, Value.int .i32 (114 : Int), Value.string (Za (wd L0 1))] ((wd L0 1)) L1 a2 L3 L4 L5 L6 L7   N c8 0 1 2 3 4 5 9 rfl dcd dcd)) <| oR <| oR <| oR <| oR <| oR <| oR <| w8
       refine ZaO (fun z9 c9 => ?_)
       cases z9 with
       | r0 =>
        have w10 : OkL (ZcV L0 L1 a2 L3 L4 L5 L6 L7 y3_0 y3_1) :=
         Zc (ZbF 3 ltA) <| oL <| oI <| Zc (Zn (ZbG #[vp 0 0, Value.int .i32 (35 : Int), Value.string (Za (wd L0 2))] ((wd L0 2)) L1 a2 L3 L4 L5 L6 L7   N c9 0 1 2 3 4 5 9 rfl dcd dcd)) <| oR <| oR <| oR <| oR <| oR <| oR <| w9
        refine ZaO (fun z10 c10 => ?_)
        cases z10 with
        | r0 =>
         refine Zf (fun g11 => ?_) (fun _ => Zt)
         exact Zcl ZO (fu := 4000) (orc := (Zz [o0, o0, o0] [] [(0, 0), (1, 1), (3, 2), (5, 3)] [(0, (wsl L0 0)), (2, (wsl L0 1)), (3, (wsl L0 2)), (4, (wsl L0 3))] [(0, .bs L0), (1, (Zq ((wd L0 0))  y3_0 y3_1  7)), (2, (Zcx (y3_0)    7)), (3, (Z3 ((wd L0 1)) L1 a2 L3 L4 L5 L6 L7   0 1 2 3 4 5 9)), (5, (ZaR ((wd L0 2)) L1 a2 L3 L4 L5 L6 L7   0 1 2 3 4 5 9)), (7, (Z3 ((wd L0 3)) L1 a2 L3 L4 L5 L6 L7   0 1 2 3 4 5 9)), (9, .ap 1 [vi y3_0, vi ((bAt (wd L0 1) 1) - (48 : Int)), vi (ZK (wd L0 2)), vi ((bAt (wd L0 3) 1) - (48 : Int))] (Zb E_iiii (L3 ++ ([(⟨y3_0, ((bAt (wd L0 1) 1) - (48 : Int)), (ZK (wd L0 2)), ((bAt (wd L0 3) 1) - (48 : Int))⟩ : RA)] : List RA)))), (11, .ap 1 [vi a2] (Zb eI (L4 ++ ([a2] : List Int))))])) (live := [0, 1, 2, 3, 4, 5, 10, 12]) (u := vtt) (bl := [some (.cells [Value.string (Za L1), vi a2, vs 10 0 (L3.length + 1) (L3.length + 1), vs 12 0 (L4.length + 1) (L4.length + 1), vs 3 0 L5.length L5.length, vs 4 0 L6.length L6.length, Value.map (some 5)] 57), none, none, some (.cells (Zb Zu L5) 122 true), some (.cells (Zb Zs L6) 9 true), some (.ro (Zj L7) true), some (.cells (Zb E_iiii (L3 ++ ([(⟨y3_0, ((bAt (wd L0 1) 1) - (48 : Int)), (ZK (wd L0 2)), ((bAt (wd L0 3) 1) - (48 : Int))⟩ : RA)] : List RA))) 24), some (.cells (Zb eI (L4 ++ ([a2] : List Int))) 3)]) (ob := ((dP ((1 = 1 ∧ Z8 (1 * 1) (List.drop 0 [vi a2]) = some [vi a2] ∧ Z7 Za8 [vi a2] = true) ∧ 0 < 1 ∧ 1 ≤ 100000 ∧ L4.length < L4.length + 1 ∧ L4.length ≤ 100000 ∧ L4.length * 1 ≤ (List.length (Zb eI L4)) ∧ List.take (L4.length * 1) (Zb eI L4) ++ [vi a2] = (Zb eI (L4 ++ ([a2] : List Int)))), true) :: (dP ((1 = 1 ∧ Z8 (1 * 4) (List.drop 0 [vi y3_0, vi ((bAt (wd L0 1) 1) - (48 : Int)), vi (ZK (wd L0 2)), vi ((bAt (wd L0 3) 1) - (48 : Int))]) = some [vi y3_0, vi ((bAt (wd L0 1) 1) - (48 : Int)), vi (ZK (wd L0 2)), vi ((bAt (wd L0 3) 1) - (48 : Int))] ∧ Z7 Za8 [vi y3_0, vi ((bAt (wd L0 1) 1) - (48 : Int)), vi (ZK (wd L0 2)), vi ((bAt (wd L0 3) 1) - (48 : Int))] = true) ∧ 0 < 1 ∧ 1 ≤ 100000 ∧ L3.length < L3.length + 1 ∧ L3.length ≤ 100000 ∧ L3.length * 4 ≤ (List.length (Zb E_iiii L3)) ∧ List.take (L3.length * 4) (Zb E_iiii L3) ++ [vi y3_0, vi ((bAt (wd L0 1) 1) - (48 : Int)), vi (ZK (wd L0 2)), vi ((bAt (wd L0 3) 1) - (48 : Int))] = (Zb E_iiii (L3 ++ ([(⟨y3_0, ((bAt (wd L0 1) 1) - (48 : Int)), (ZK (wd L0 2)), ((bAt (wd L0 3) 1) - (48 : Int))⟩ : RA)] : List RA)))), true) :: (dP (ZV #[vp 0 0, Value.int .i32 (114 : Int), Value.string (Za (wd L0 3))] ((wd L0 3)) L1 a2 L3 L4 L5 L6 L7   0 1 2 3 4 5 9), true) :: (dS (rdc L1 a2 L3 L4 L5 L6), true) :: (dS (Zb E_iiii L3), true) :: (dS (Zb eI L4), true) :: (dS (Zb Zu L5), true) :: (dS (Zb Zs L6), true) :: (dS (Zj L7), true) :: ZcV L0 L1 a2 L3 L4 L5 L6 L7 y3_0 y3_1)) (by as_aux_lemma => kernel_rfl) (Zc (Zn ⟨⟨rfl, ⟨rfl, rfl⟩⟩, by omega, by omega, ltA, by omega, (ZaN (E := eI) (L := L4) (M := ([a2] : List Int)) (n := L4.length) (show _ = _ * 1 from rfl) (by omega) (R := (L4 ++ ([a2] : List Int))) (by rw [List.take_of_length_le (by omega)]))⟩) <| Zc (Zn ⟨⟨rfl, ⟨rfl, rfl⟩⟩, by omega, by omega, ltA, by omega, (ZaN (E := E_iiii) (L := L3) (M := ([(⟨y3_0, ((bAt (wd L0 1) 1) - (48 : Int)), (ZK (wd L0 2)), ((bAt (wd L0 3) 1) - (48 : Int))⟩ : RA)] : List RA)) (n := L3.length) (show _ = _ * 4 from rfl) (by omega) (R := (L3 ++ ([(⟨y3_0, ((bAt (wd L0 1) 1) - (48 : Int)), (ZK (wd L0 2)), ((bAt (wd L0 3) 1) - (48 : Int))⟩ : RA)] : List RA))) (by rw [List.take_of_length_le (by omega)]))⟩) <| Zc (Zn (Zae #[vp 0 0, Value.int .i32 (114 : Int), Value.string (Za (wd L0 3))] ((wd L0 3)) L1 a2 L3 L4 L5 L6 L7   N c10 0 1 2 3 4 5 9 rfl dcd dcd)) <| oR <| oR <| oR <| oR <| oR <| oR <| w10) rfl (by decide) (by rfl) rr ⟨⟨rfl, ⟨[], (show ([Value.string (Za L1), vi a2, vs 6 0 (L3.length + 1) (L3.length + 1), vs 7 0 (L4.length + 1) (L4.length + 1), vs 3 0 L5.length L5.length, vs 4 0 L6.length L6.length, Value.map (some 5)] : List Value) = _ from (Zd rfl (Zd rfl (Zd (ZS rfl eqA eqA) (Zd rfl (Zd rfl (Zd rfl (Zd rfl rfl))))))).symm)⟩, by rfl⟩, ⟨(Zm (E := Zu) (α := R_is) _ L5 _), ⟨(Zm (E := Zs) (α := List Int) _ L6 _), ⟨(show Zj L7 = Zj L7 from rfl), ⟨(ZE (E := E_iiii) (α := RA) _ (L3 ++ ([(⟨y3_0, ((bAt (wd L0 1) 1) - (48 : Int)), (ZK (wd L0 2)), ((bAt (wd L0 3) 1) - (48 : Int))⟩ : RA)] : List RA)) _), ⟨(ZE (E := eI) (α := Int) _ (L4 ++ ([a2] : List Int)) _), trivial⟩⟩⟩⟩⟩⟩ (Zay _ rfl)
        | r1 =>
         exact Zi (Zz [o0, o0, o0] [] [(0, 0), (1, 1), (3, 2), (5, 3)] [(0, (wsl L0 0)), (2, (wsl L0 1)), (3, (wsl L0 2)), (4, (wsl L0 3))] [(0, .bs L0), (1, (Zq ((wd L0 0))  y3_0 y3_1  7)), (2, (Zcx (y3_0)    7)), (3, (Z3 ((wd L0 1)) L1 a2 L3 L4 L5 L6 L7   0 1 2 3 4 5 9)), (5, (ZaR ((wd L0 2)) L1 a2 L3 L4 L5 L6 L7   0 1 2 3 4 5 9)), (7, (Zaf ((wd L0 3)) L1 a2 L3 L4 L5 L6 L7   0 1 2 3 4 5 9))]) ((dP (ZW #[vp 0 0, Value.int .i32 (114 : Int), Value.string (Za (wd L0 3))] ((wd L0 3)) L1 a2 L3 L4 L5 L6 L7   0 1 2 3 4 5 9), true) :: (dS (rdc L1 a2 L3 L4 L5 L6), true) :: (dS (Zb E_iiii L3), true) :: (dS (Zb eI L4), true) :: (dS (Zb Zu L5), true) :: (dS (Zb Zs L6), true) :: (dS (Zj L7), true) :: ZcV L0 L1 a2 L3 L4 L5 L6 L7 y3_0 y3_1) (Zc (Zn (Zag #[vp 0 0, Value.int .i32 (114 : Int), Value.string (Za (wd L0 3))] ((wd L0 3)) L1 a2 L3 L4 L5 L6 L7   N c10 0 1 2 3 4 5 9 rfl dcd dcd)) <| oR <| oR <| oR <| oR <| oR <| oR <| w10)
       | r1 =>
        exact Zi (Zz [o0, o0, o0] [] [(0, 0), (1, 1), (3, 2)] [(0, (wsl L0 0)), (2, (wsl L0 1)), (3, (wsl L0 2))] [(0, .bs L0), (1, (Zq ((wd L0 0))  y3_0 y3_1  7)), (2, (Zcx (y3_0)    7)), (3, (Z3 ((wd L0 1)) L1 a2 L3 L4 L5 L6 L7   0 1 2 3 4 5 9)), (5, (ZbH ((wd L0 2)) L1 a2 L3 L4 L5 L6 L7   0 1 2 3 4 5 9))]) ((dP (Zbh #[vp 0 0, Value.int .i32 (35 : Int), Value.string (Za (wd L0 2))] ((wd L0 2)) L1 a2 L3 L4 L5 L6 L7   0 1 2 3 4 5 9), true) :: (dS (rdc L1 a2 L3 L4 L5 L6), true) :: (dS (Zb E_iiii L3), true) :: (dS (Zb eI L4), true) :: (dS (Zb Zu L5), true) :: (dS (Zb Zs L6), true) :: (dS (Zj L7), true) :: ZcU L0 L1 a2 L3 L4 L5 L6 L7 y3_0 y3_1) (Zc (Zn (ZbI #[vp 0 0, Value.int .i32 (35 : Int), Value.string (Za (wd L0 2))] ((wd L0 2)) L1 a2 L3 L4 L5 L6 L7   N c9 0 1 2 3 4 5 9 rfl dcd dcd)) <| oR <| oR <| oR <| oR <| oR <| oR <| w9)
      | r1 =>
       exact Zi (Zz [o0, o0, o0] [] [(0, 0), (1, 1)] [(0, (wsl L0 0)), (2, (wsl L0 1))] [(0, .bs L0), (1, (Zq ((wd L0 0))  y3_0 y3_1  7)), (2, (Zcx (y3_0)    7)), (3, (Zaf ((wd L0 1)) L1 a2 L3 L4 L5 L6 L7   0 1 2 3 4 5 9))]) ((dP (ZW #[vp 0 0, Value.int .i32 (114 : Int), Value.string (Za (wd L0 1))] ((wd L0 1)) L1 a2 L3 L4 L5 L6 L7   0 1 2 3 4 5 9), true) :: (dS (rdc L1 a2 L3 L4 L5 L6), true) :: (dS (Zb E_iiii L3), true) :: (dS (Zb eI L4), true) :: (dS (Zb Zu L5), true) :: (dS (Zb Zs L6), true) :: (dS (Zj L7), true) :: ZcT L0 L1 a2 L3 L4 L5 L6 L7 y3_0 y3_1) (Zc (Zn (Zag #[vp 0 0, Value.int .i32 (114 : Int), Value.string (Za (wd L0 1))] ((wd L0 1)) L1 a2 L3 L4 L5 L6 L7   N c8 0 1 2 3 4 5 9 rfl dcd dcd)) <| oR <| oR <| oR <| oR <| oR <| oR <| w8)
  | r6 =>
   refine Zf (fun g5 => ?_) (fun g5 => ?_)
   ·
    exact Zi (Zz [o1] [] [(0, 0)] [(0, (wsl L0 0))] [(0, .bs L0), (1, (Zq ((wd L0 0))  y3_0 y3_1  7)), (2, (ZfH (y3_0)    7))]) (((!y3_1), true) :: (dP (Zhm #[vi y3_0] (y3_0)    7), true) :: ZM L0 L1 a2 L3 L4 L5 L6 L7 y3_0 y3_1) (Zc nBt <| Zc (Zn (Zka #[vi y3_0] (y3_0)   N c4  7 rfl dcd dcd)) <| w4)
   ·
    have w6 : OkL (ZbM L0 L1 a2 L3 L4 L5 L6 L7 y3_0 y3_1) :=
     Zc nBf <| Zc (Zn (Zka #[vi y3_0] (y3_0)   N c4  7 rfl dcd dcd)) <| w4
    refine Zf (fun g6 => ?_) (fun g6 => ?_)
    ·
     exact Zi (Zz [o0, o1] [] [(0, 0)] [(0, (wsl L0 0))] [(0, .bs L0), (1, (Zq ((wd L0 0))  y3_0 y3_1  7)), (2, (ZfH (y3_0)    7))]) ((((((wds L0).length : Nat) : Int) != (1 : Int)), true) :: ZbM L0 L1 a2 L3 L4 L5 L6 L7 y3_0 y3_1) (oD <| w6)
    ·
     refine Zf (fun g7 => ?_) (fun g7 => ?_)
     ·
      exact Zi (Zz [o0, o0, o1] [] [(0, 0)] [(0, (wsl L0 0))] [(0, .bs L0), (1, (Zq ((wd L0 0))  y3_0 y3_1  7)), (2, (ZfH (y3_0)    7))]) (((decide ((L3.length : Int) ≥ (512 : Int))), true) :: (((((wds L0).length : Nat) : Int) != (1 : Int)), false) :: ZbM L0 L1 a2 L3 L4 L5 L6 L7 y3_0 y3_1) (oY <| oE <| w6)
     ·
      refine Zf (fun g8 => ?_) (fun _ => Zt)
      exact Zcl ZO (fu := 4000) (orc := (Zz [o0, o0, o0] [] [(0, 0)] [(0, (wsl L0 0))] [(0, .bs L0), (1, (Zq ((wd L0 0))  y3_0 y3_1  7)), (2, (ZfH (y3_0)    7)), (3, .ap 1 [vi y3_0, vq, vq, vq] (Zb E_iiii (L3 ++ ([(⟨y3_0, (0 : Int), (0 : Int), (0 : Int)⟩ : RA)] : List RA)))), (5, .ap 1 [vi a2] (Zb eI (L4 ++ ([a2] : List Int))))])) (live := [0, 1, 2, 3, 4, 5, 10, 12]) (u := vtt) (bl := [some (.cells [Value.string (Za L1), vi a2, vs 10 0 (L3.length + 1) (L3.length + 1), vs 12 0 (L4.length + 1) (L4.length + 1), vs 3 0 L5.length L5.length, vs 4 0 L6.length L6.length, Value.map (some 5)] 57), none, none, some (.cells (Zb Zu L5) 122 true), some (.cells (Zb Zs L6) 9 true), some (.ro (Zj L7) true), some (.cells (Zb E_iiii (L3 ++ ([(⟨y3_0, (0 : Int), (0 : Int), (0 : Int)⟩ : RA)] : List RA))) 24), some (.cells (Zb eI (L4 ++ ([a2] : List Int))) 3)]) (ob := ((dP ((1 = 1 ∧ Z8 (1 * 1) (List.drop 0 [vi a2]) = some [vi a2] ∧ Z7 Za8 [vi a2] = true) ∧ 0 < 1 ∧ 1 ≤ 100000 ∧ L4.length < L4.length + 1 ∧ L4.length ≤ 100000 ∧ L4.length * 1 ≤ (List.length (Zb eI L4)) ∧ List.take (L4.length * 1) (Zb eI L4) ++ [vi a2] = (Zb eI (L4 ++ ([a2] : List Int)))), true) :: (dP ((1 = 1 ∧ Z8 (1 * 4) (List.drop 0 [vi y3_0, vq, vq, vq]) = some [vi y3_0, vq, vq, vq] ∧ Z7 Za8 [vi y3_0, vq, vq, vq] = true) ∧ 0 < 1 ∧ 1 ≤ 100000 ∧ L3.length < L3.length + 1 ∧ L3.length ≤ 100000 ∧ L3.length * 4 ≤ (List.length (Zb E_iiii L3)) ∧ List.take (L3.length * 4) (Zb E_iiii L3) ++ [vi y3_0, vq, vq, vq] = (Zb E_iiii (L3 ++ ([(⟨y3_0, (0 : Int), (0 : Int), (0 : Int)⟩ : RA)] : List RA)))), true) :: ((decide ((L3.length : Int) ≥ (512 : Int))), false) :: (((((wds L0).length : Nat) : Int) != (1 : Int)), false) :: ZbM L0 L1 a2 L3 L4 L5 L6 L7 y3_0 y3_1)) (by as_aux_lemma => kernel_rfl) (Zc (Zn ⟨⟨rfl, ⟨rfl, rfl⟩⟩, by omega, by omega, ltA, by omega, (ZaN (E := eI) (L := L4) (M := ([a2] : List Int)) (n := L4.length) (show _ = _ * 1 from rfl) (by omega) (R := (L4 ++ ([a2] : List Int))) (by rw [List.take_of_length_le (by omega)]))⟩) <| Zc (Zn ⟨⟨rfl, ⟨rfl, rfl⟩⟩, by omega, by omega, ltA, by omega, (ZaN (E := E_iiii) (L := L3) (M := ([(⟨y3_0, (0 : Int), (0 : Int), (0 : Int)⟩ : RA)] : List RA)) (n := L3.length) (show _ = _ * 4 from rfl) (by omega) (R := (L3 ++ ([(⟨y3_0, (0 : Int), (0 : Int), (0 : Int)⟩ : RA)] : List RA))) (by rw [List.take_of_length_le (by omega)]))⟩) <| oN <| oE <| w6) rfl (by decide) (by rfl) rr ⟨⟨rfl, ⟨[], (show ([Value.string (Za L1), vi a2, vs 6 0 (L3.length + 1) (L3.length + 1), vs 7 0 (L4.length + 1) (L4.length + 1), vs 3 0 L5.length L5.length, vs 4 0 L6.length L6.length, Value.map (some 5)] : List Value) = _ from (Zd rfl (Zd rfl (Zd (ZS rfl eqA eqA) (Zd rfl (Zd rfl (Zd rfl (Zd rfl rfl))))))).symm)⟩, by rfl⟩, ⟨(Zm (E := Zu) (α := R_is) _ L5 _), ⟨(Zm (E := Zs) (α := List Int) _ L6 _), ⟨(show Zj L7 = Zj L7 from rfl), ⟨(ZE (E := E_iiii) (α := RA) _ (L3 ++ ([(⟨y3_0, (0 : Int), (0 : Int), (0 : Int)⟩ : RA)] : List RA)) _), ⟨(ZE (E := eI) (α := Int) _ (L4 ++ ([a2] : List Int)) _), trivial⟩⟩⟩⟩⟩⟩ (Zay _ rfl)
  | r7 =>
   have w5 : OkL (Zbd L0 L1 a2 L3 L4 L5 L6 L7 y3_0 y3_1) :=
    Zc (Zn (ZoK #[vi y3_0] (y3_0)   N c4  7 rfl dcd dcd)) <| w4
   refine Zf (fun g5 => ?_) (fun g5 => ?_)
   ·
    exact Zi (Zz [o1] [] [(0, 0)] [(0, (wsl L0 0))] [(0, .bs L0), (1, (Zq ((wd L0 0))  y3_0 y3_1  7)), (2, (Zek (y3_0)    7))]) (((!y3_1), true) :: Zbd L0 L1 a2 L3 L4 L5 L6 L7 y3_0 y3_1) (Zc nBt <| w5)
   ·
    refine Zf (fun g6 => ?_) (fun g6 => ?_)
    ·
     exact Zi (Zz [o0, o1] [] [(0, 0)] [(0, (wsl L0 0))] [(0, .bs L0), (1, (Zq ((wd L0 0))  y3_0 y3_1  7)), (2, (Zek (y3_0)    7))]) ((((((wds L0).length : Nat) : Int) != (2 : Int)), true) :: ((!y3_1), false) :: Zbd L0 L1 a2 L3 L4 L5 L6 L7 y3_0 y3_1) (oD <| Zc nBf <| w5)
    ·
     refine Zf (fun g7 => ?_) (fun g7 => ?_)
     ·
      exact Zi (Zz [o0, o0, o1] [] [(0, 0)] [(0, (wsl L0 0))] [(0, .bs L0), (1, (Zq ((wd L0 0))  y3_0 y3_1  7)), (2, (Zek (y3_0)    7))]) (((decide ((L3.length : Int) ≥ (512 : Int))), true) :: (((((wds L0).length : Nat) : Int) != (2 : Int)), false) :: ((!y3_1), false) :: Zbd L0 L1 a2 L3 L4 L5 L6 L7 y3_0 y3_1) (oY <| oE <| Zc nBf <| w5)
     ·
      have w8 : OkL (ZcW L0 L1 a2 L3 L4 L5 L6 L7 y3_0 y3_1) :=
       Zc (ZbF 1 ltA) <| oL <| oI <| oN <| oE <| Zc nBf <| w5
      refine ZaO (fun z8 c8 => ?_)
      cases z8 with
      | r0 =>
       refine Zf (fun g9 => ?_) (fun _ => Zt)
       exact Zcl ZO (fu := 4000) (orc := (Zz [o0, o0, o0] [] [(0, 0), (1, 1)] [(0, (wsl L0 0)), (2, (wsl L0 1))] [(0, .bs L0), (1, (Zq ((wd L0 0))  y3_0 y3_1  7)), (2, (Zek (y3_0)    7)), (3, (Z3 ((wd L0 1)) L1 a2 L3 L4 L5 L6 L7   0 1 2 3 4 5 9)), (5, .ap 1 [vi y3_0, vi ((bAt (wd L0 1) 1) - (48 : Int)), vq, vq] (Zb E_iiii (L3 ++ ([(⟨y3_0, ((bAt (wd L0 1) 1) - (48 : Int)), (0 : Int), (0 : Int)⟩ : RA)] : List RA)))), (7, .ap 1 [vi a2] (Zb eI (L4 ++ ([a2] : List Int))))])) (live := [0, 1, 2, 3, 4, 5, 10, 12]) (u := vtt) (bl := [some (.cells [Value.string (Za L1), vi a2, vs 10 0 (L3.length + 1) (L3.length + 1), vs 12 0 (L4.length + 1) (L4.length + 1), vs 3 0 L5.length L5.length, vs 4 0 L6.length L6.length, Value.map (some 5)] 57), none, none, some (.cells (Zb Zu L5) 122 true), some (.cells (Zb Zs L6) 9 true), some (.ro (Zj L7) true), some (.cells (Zb E_iiii (L3 ++ ([(⟨y3_0, ((bAt (wd L0 1) 1) - (48 : Int)), (0 : Int), (0 : Int)⟩ : RA)] : List RA))) 24), some (.cells (Zb eI (L4 ++ ([a2] : List Int))) 3)]) (ob := ((dP ((1 = 1 ∧ Z8 (1 * 1) (List.drop 0 [vi a2]) = some [vi a2] ∧ Z7 Za8 [vi a2] = true) ∧ 0 < 1 ∧ 1 ≤ 100000 ∧ L4.length < L4.length + 1 ∧ L4.length ≤ 100000 ∧ L4.length * 1 ≤ (List.length (Zb eI L4)) ∧ List.take (L4.length * 1) (Zb eI L4) ++ [vi a2] = (Zb eI (L4 ++ ([a2] : List Int)))), true) :: (dP ((1 = 1 ∧ Z8 (1 * 4) (List.drop 0 [vi y3_0, vi ((bAt (wd L0 1) 1) - (48 : Int)), vq, vq]) = some [vi y3_0, vi ((bAt (wd L0 1) 1) - (48 : Int)), vq, vq] ∧ Z7 Za8 [vi y3_0, vi ((bAt (wd L0 1) 1) - (48 : Int)), vq, vq] = true) ∧ 0 < 1 ∧ 1 ≤ 100000 ∧ L3.length < L3.length + 1 ∧ L3.length ≤ 100000 ∧ L3.length * 4 ≤ (List.length (Zb E_iiii L3)) ∧ List.take (L3.length * 4) (Zb E_iiii L3) ++ [vi y3_0, vi ((bAt (wd L0 1) 1) - (48 : Int)), vq, vq] = (Zb E_iiii (L3 ++ ([(⟨y3_0, ((bAt (wd L0 1) 1) - (48 : Int)), (0 : Int), (0 : Int)⟩ : RA)] : List RA)))), true) :: (dP (ZV #[vp 0 0, Value.int .i32 (114 : Int), Value.string (Za (wd L0 1))] ((wd L0 1)) L1 a2 L3 L4 L5 L6 L7   0 1 2 3 4 5 9), true) :: (dS (rdc L1 a2 L3 L4 L5 L6), true) :: (dS (Zb E_iiii L3), true) :: (dS (Zb eI L4), true) :: (dS (Zb Zu L5), true) :: (dS (Zb Zs L6), true) :: (dS (Zj L7), true) :: ZcW L0 L1 a2 L3 L4 L5 L6 L7 y3_0 y3_1)) (by as_aux_lemma => kernel_rfl) (Zc (Zn ⟨⟨rfl, ⟨rfl, rfl⟩⟩, by omega, by omega, ltA, by omega, (ZaN (E := eI) (L := L4) (M := ([a2] : List Int)) (n := L4.length) (show _ = _ * 1 from rfl) (by omega) (R := (L4 ++ ([a2] : List Int))) (by rw [List.take_of_length_le (by omega)]))⟩) <| Zc (Zn ⟨⟨rfl, ⟨rfl, rfl⟩⟩, by omega, by omega, ltA, by omega, (ZaN (E := E_iiii) (L := L3) (M := ([(⟨y3_0, ((bAt (wd L0 1) 1) - (48 : Int)), (0 : Int), (0 : Int)⟩ : RA)] : List RA)) (n := L3.length) (show _ = _ * 4 from rfl) (by omega) (R := (L3 ++ ([(⟨y3_0, ((bAt (wd L0 1) 1) - (48 : Int)), (0 : Int), (0 : Int)⟩ : RA)] : List RA))) (by rw [List.take_of_length_le (by omega)]))⟩) <| Zc (Zn (Zae #[vp 0 0, Value.int .i32 (114 : Int), Value.string (Za (wd L0 1))] ((wd L0 1)) L1 a2 L3 L4 L5 L6 L7   N c8 0 1 2 3 4 5 9 rfl dcd dcd)) <| oR <| oR <| oR <| oR <| oR <| oR <| w8) rfl (by decide) (by rfl) rr ⟨⟨rfl, ⟨[], (show ([Value.string (Za L1), vi a2, vs 6 0 (L3.length + 1) (L3.length + 1), vs 7 0 (L4.length + 1) (L4.length + 1), vs 3 0 L5.length L5.length, vs 4 0 L6.length L6.length, Value.map (some 5)] : List Value) = _ from (Zd rfl (Zd rfl (Zd (ZS rfl eqA eqA) (Zd rfl (Zd rfl (Zd rfl (Zd rfl rfl))))))).symm)⟩, by rfl⟩, ⟨(Zm (E := Zu) (α := R_is) _ L5 _), ⟨(Zm (E := Zs) (α := List Int) _ L6 _), ⟨(show Zj L7 = Zj L7 from rfl), ⟨(ZE (E := E_iiii) (α := RA) _ (L3 ++ ([(⟨y3_0, ((bAt (wd L0 1) 1) - (48 : Int)), (0 : Int), (0 : Int)⟩ : RA)] : List RA)) _), ⟨(ZE (E := eI) (α := Int) _ (L4 ++ ([a2] : List Int)) _), trivial⟩⟩⟩⟩⟩⟩ (Zay _ rfl)
      | r1 =>
       exact Zi (Zz [o0, o0, o0] [] [(0, 0), (1, 1)] [(0, (wsl L0 0)), (2, (wsl L0 1))] [(0, .bs L0), (1, (Zq ((wd L0 0))  y3_0 y3_1  7)), (2, (Zek (y3_0)    7)), (3, (Zaf ((wd L0 1)) L1 a2 L3 L4 L5 L6 L7   0 1 2 3 4 5 9))]) ((dP (ZW #[vp 0 0, Value.int .i32 (114 : Int), Value.string (Za (wd L0 1))] ((wd L0 1)) L1 a2 L3 L4 L5 L6 L7   0 1 2 3 4 5 9), true) :: (dS (rdc L1 a2 L3 L4 L5 L6), true) :: (dS (Zb E_iiii L3), true) :: (dS (Zb eI L4), true) :: (dS (Zb Zu L5), true) :: (dS (Zb Zs L6), true) :: (dS (Zj L7), true) :: ZcW L0 L1 a2 L3 L4 L5 L6 L7 y3_0 y3_1) (Zc (Zn (Zag #[vp 0 0, Value.int .i32 (114 : Int), Value.string (Za (wd L0 1))] ((wd L0 1)) L1 a2 L3 L4 L5 L6 L7   N c8 0 1 2 3 4 5 9 rfl dcd dcd)) <| oR <| oR <| oR <| oR <| oR <| oR <| w8)
  | r8 =>
   have w5 : OkL (ZbN L0 L1 a2 L3 L4 L5 L6 L7 y3_0 y3_1) :=
    Zc (Zn (ZoL #[vi y3_0] (y3_0)   N c4  7 rfl dcd dcd)) <| w4
   refine Zf (fun g5 => ?_) (fun g5 => ?_)
   ·
    exact Zi (Zz [o1] [] [(0, 0)] [(0, (wsl L0 0))] [(0, .bs L0), (1, (Zq ((wd L0 0))  y3_0 y3_1  7)), (2, (Zdx (y3_0)    7))]) (((!y3_1), true) :: ZbN L0 L1 a2 L3 L4 L5 L6 L7 y3_0 y3_1) (Zc nBt <| w5)
   ·
    refine Zf (fun g6 => ?_) (fun g6 => ?_)
    ·
     exact Zi (Zz [o0, o1] [] [(0, 0)] [(0, (wsl L0 0))] [(0, .bs L0), (1, (Zq ((wd L0 0))  y3_0 y3_1  7)), (2, (Zdx (y3_0)    7))]) ((((((wds L0).length : Nat) : Int) != (3 : Int)), true) :: ((!y3_1), false) :: ZbN L0 L1 a2 L3 L4 L5 L6 L7 y3_0 y3_1) (oD <| Zc nBf <| w5)
    ·
     have w7 : OkL (ZcX L0 L1 a2 L3 L4 L5 L6 L7 y3_0 y3_1) :=
      oE <| Zc nBf <| w5
     refine Zf (fun g7 => ?_) (fun g7 => ?_)
     ·
      exact Zi (Zz [o0, o0, o1] [] [(0, 0)] [(0, (wsl L0 0))] [(0, .bs L0), (1, (Zq ((wd L0 0))  y3_0 y3_1  7)), (2, (Zdx (y3_0)    7))]) (((decide ((L3.length : Int) ≥ (512 : Int))), true) :: ZcX L0 L1 a2 L3 L4 L5 L6 L7 y3_0 y3_1) (oY <| w7)
     ·
      have w8 : OkL (ZcY L0 L1 a2 L3 L4 L5 L6 L7 y3_0 y3_1) :=
       Zc (ZbF 1 ltA) <| oL <| oI <| oN <| w7
      refine ZaO (fun z8 c8 => ?_)
      cases z8 with
      | r0 =>
       have w9 : OkL (ZcZ L0 L1 a2 L3 L4 L5 L6 L7 y3_0 y3_1) :=
        Zc (ZbF 2 ltA) <| oL <| oI <| Zc (Zn (Zae #[vp 0 0, Value.int .i32 (114 : Int), Value.string (Za (wd L0 1))] ((wd L0 1)) L1 a2 L3 L4 L5 L6 L7   N c8 0 1 2 3 4 5 9 rfl dcd dcd)) <| oR <| oR <| oR <| oR <| oR <| oR <| w8
       refine ZaO (fun z9 c9 => ?_)
       cases z9 with
       | r0 =>
        refine Zf (fun g10 => ?_) (fun _ => Zt)
        exact Zcl ZO (fu := 4000) (orc := (Zz [o0, o0, o0] [] [(0, 0), (1, 1), (3, 2)] [(0, (wsl L0 0)), (2, (wsl L0 1)), (3, (wsl L0 2))] [(0, .bs L0), (1, (Zq ((wd L0 0))  y3_0 y3_1  7)), (2, (Zdx (y3_0)    7)), (3, (Z3 ((wd L0 1)) L1 a2 L3 L4 L5 L6 L7   0 1 2 3 4 5 9)), (5, (Z3 ((wd L0 2)) L1 a2 L3 L4 L5 L6 L7   0 1 2 3 4 5 9)), (7, .ap 1 [vi y3_0, vi ((bAt (wd L0 1) 1) - (48 : Int)), vi ((bAt (wd L0 2) 1) - (48 : Int)), vq] (Zb E_iiii (L3 ++ ([(⟨y3_0, ((bAt (wd L0 1) 1) - (48 : Int)), ((bAt (wd L0 2) 1) - (48 : Int)), (0 : Int)⟩ : RA)] : List RA)))), (9, .ap 1 [vi a2] (Zb eI (L4 ++ ([a2] : List Int))))])) (live := [0, 1, 2, 3, 4, 5, 10, 12]) (u := vtt) (bl := [some (.cells [Value.string (Za L1), vi a2, vs 10 0 (L3.length + 1) (L3.length + 1), vs 12 0 (L4.length + 1) (L4.length + 1), vs 3 0 L5.length L5.length, vs 4 0 L6.length L6.length, Value.map (some 5)] 57), none, none, some (.cells (Zb Zu L5) 122 true), some (.cells (Zb Zs L6) 9 true), some (.ro (Zj L7) true), some (.cells (Zb E_iiii (L3 ++ ([(⟨y3_0, ((bAt (wd L0 1) 1) - (48 : Int)), ((bAt (wd L0 2) 1) - (48 : Int)), (0 : Int)⟩ : RA)] : List RA))) 24), some (.cells (Zb eI (L4 ++ ([a2] : List Int))) 3)]) (ob := ((dP ((1 = 1 ∧ Z8 (1 * 1) (List.drop 0 [vi a2]) = some [vi a2] ∧ Z7 Za8 [vi a2] = true) ∧ 0 < 1 ∧ 1 ≤ 100000 ∧ L4.length < L4.length + 1 ∧ L4.length ≤ 100000 ∧ L4.length * 1 ≤ (List.length (Zb eI L4)) ∧ List.take (L4.length * 1) (Zb eI L4) ++ [vi a2] = (Zb eI (L4 ++ ([a2] : List Int)))), true) :: (dP ((1 = 1 ∧ Z8 (1 * 4) (List.drop 0 [vi y3_0, vi ((bAt (wd L0 1) 1) - (48 : Int)), vi ((bAt (wd L0 2) 1) - (48 : Int)), vq]) = some [vi y3_0, vi ((bAt (wd L0 1) 1) - (48 : Int)), vi ((bAt (wd L0 2) 1) - (48 : Int)), vq] ∧ Z7 Za8 [vi y3_0, vi ((bAt (wd L0 1) 1) - (48 : Int)), vi ((bAt (wd L0 2) 1) - (48 : Int)), vq] = true) ∧ 0 < 1 ∧ 1 ≤ 100000 ∧ L3.length < L3.length + 1 ∧ L3.length ≤ 100000 ∧ L3.length * 4 ≤ (List.length (Zb E_iiii L3)) ∧ List.take (L3.length * 4) (Zb E_iiii L3) ++ [vi y3_0, vi ((bAt (wd L0 1) 1) - (48 : Int)), vi ((bAt (wd L0 2) 1) - (48 : Int)), vq] = (Zb E_iiii (L3 ++ ([(⟨y3_0, ((bAt (wd L0 1) 1) - (48 : Int)), ((bAt (wd L0 2) 1) - (48 : Int)), (0 : Int)⟩ : RA)] : List RA)))), true) :: (dP (ZV #[vp 0 0, Value.int .i32 (114 : Int), Value.string (Za (wd L0 2))] ((wd L0 2)) L1 a2 L3 L4 L5 L6 L7   0 1 2 3 4 5 9), true) :: (dS (rdc L1 a2 L3 L4 L5 L6), true) :: (dS (Zb E_iiii L3), true) :: (dS (Zb eI L4), true) :: (dS (Zb Zu L5), true) :: (dS (Zb Zs L6), true) :: (dS (Zj L7), true) :: ZcZ L0 L1 a2 L3 L4 L5 L6 L7 y3_0 y3_1)) (by as_aux_lemma => kernel_rfl) (Zc (Zn ⟨⟨rfl, ⟨rfl, rfl⟩⟩, by omega, by omega, ltA, by omega, (ZaN (E := eI) (L := L4) (M := ([a2] : List Int)) (n := L4.length) (show _ = _ * 1 from rfl) (by omega) (R := (L4 ++ ([a2] : List Int))) (by rw [List.take_of_length_le (by omega)]))⟩) <| Zc (Zn ⟨⟨rfl, ⟨rfl, rfl⟩⟩, by omega, by omega, ltA, by omega, (ZaN (E := E_iiii) (L := L3) (M := ([(⟨y3_0, ((bAt (wd L0 1) 1) - (48 : Int)), ((bAt (wd L0 2) 1) - (48 : Int)), (0 : Int)⟩ : RA)] : List RA)) (n := L3.length) (show _ = _ * 4 from rfl) (by omega) (R := (L3 ++ ([(⟨y3_0, ((bAt (wd L0 1) 1) - (48 : Int)), ((bAt (wd L0 2) 1) - (48 : Int)), (0 : Int)⟩ : RA)] : List RA))) (by rw [List.take_of_length_le (by omega)]))⟩) <| Zc (Zn (Zae #[vp 0 0, Value.int .i32 (114 : Int), Value.string (Za (wd L0 2))] ((wd L0 2)) L1 a2 L3 L4 L5 L6 L7   N c9 0 1 2 3 4 5 9 rfl dcd dcd)) <| oR <| oR <| oR <| oR <| oR <| oR <| w9) rfl (by decide) (by rfl) rr ⟨⟨rfl, ⟨[], (show ([Value.string (Za L1), vi a2, vs 6 0 (L3.length + 1) (L3.length + 1), vs 7 0 (L4.length + 1) (L4.length + 1), vs 3 0 L5.length L5.length, vs 4 0 L6.length L6.length, Value.map (some 5)] : List Value) = _ from (Zd rfl (Zd rfl (Zd (ZS rfl eqA eqA) (Zd rfl (Zd rfl (Zd rfl (Zd rfl rfl))))))).symm)⟩, by rfl⟩, ⟨(Zm (E := Zu) (α := R_is) _ L5 _), ⟨(Zm (E := Zs) (α := List Int) _ L6 _), ⟨(show Zj L7 = Zj L7 from rfl), ⟨(ZE (E := E_iiii) (α := RA) _ (L3 ++ ([(⟨y3_0, ((bAt (wd L0 1) 1) - (48 : Int)), ((bAt (wd L0 2) 1) - (48 : Int)), (0 : Int)⟩ : RA)] : List RA)) _), ⟨(ZE (E := eI) (α := Int) _ (L4 ++ ([a2] : List Int)) _), trivial⟩⟩⟩⟩⟩⟩ (Zay _ rfl)
       | r1 =>
        exact Zi (Zz [o0, o0, o0] [] [(0, 0), (1, 1), (3, 2)] [(0, (wsl L0 0)), (2, (wsl L0 1)), (3, (wsl L0 2))] [(0, .bs L0), (1, (Zq ((wd L0 0))  y3_0 y3_1  7)), (2, (Zdx (y3_0)    7)), (3, (Z3 ((wd L0 1)) L1 a2 L3 L4 L5 L6 L7   0 1 2 3 4 5 9)), (5, (Zaf ((wd L0 2)) L1 a2 L3 L4 L5 L6 L7   0 1 2 3 4 5 9))]) ((dP (ZW #[vp 0 0, Value.int .i32 (114 : Int), Value.string (Za (wd L0 2))] ((wd L0 2)) L1 a2 L3 L4 L5 L6 L7   0 1 2 3 4 5 9), true) :: (dS (rdc L1 a2 L3 L4 L5 L6), true) :: (dS (Zb E_iiii L3), true) :: (dS (Zb eI L4), true) :: (dS (Zb Zu L5), true) :: (dS (Zb Zs L6), true) :: (dS (Zj L7), true) :: ZcZ L0 L1 a2 L3 L4 L5 L6 L7 y3_0 y3_1) (Zc (Zn (Zag #[vp 0 0, Value.int .i32 (114 : Int), Value.string (Za (wd L0 2))] ((wd L0 2)) L1 a2 L3 L4 L5 L6 L7   N c9 0 1 2 3 4 5 9 rfl dcd dcd)) <| oR <| oR <| oR <| oR <| oR <| oR <| w9)
      | r1 =>
       exact Zi (Zz [o0, o0, o0] [] [(0, 0), (1, 1)] [(0, (wsl L0 0)), (2, (wsl L0 1))] [(0, .bs L0), (1, (Zq ((wd L0 0))  y3_0 y3_1  7)), (2, (Zdx (y3_0)    7)), (3, (Zaf ((wd L0 1)) L1 a2 L3 L4 L5 L6 L7   0 1 2 3 4 5 9))]) ((dP (ZW #[vp 0 0, Value.int .i32 (114 : Int), Value.string (Za (wd L0 1))] ((wd L0 1)) L1 a2 L3 L4 L5 L6 L7   0 1 2 3 4 5 9), true) :: (dS (rdc L1 a2 L3 L4 L5 L6), true) :: (dS (Zb E_iiii L3), true) :: (dS (Zb eI L4), true) :: (dS (Zb Zu L5), true) :: (dS (Zb Zs L6), true) :: (dS (Zj L7), true) :: ZcY L0 L1 a2 L3 L4 L5 L6 L7 y3_0 y3_1) (Zc (Zn (Zag #[vp 0 0, Value.int .i32 (114 : Int), Value.string (Za (wd L0 1))] ((wd L0 1)) L1 a2 L3 L4 L5 L6 L7   N c8 0 1 2 3 4 5 9 rfl dcd dcd)) <| oR <| oR <| oR <| oR <| oR <| oR <| w8)
  | r9 =>
   have w5 : OkL (Zda L0 L1 a2 L3 L4 L5 L6 L7 y3_0 y3_1) :=
    Zc (Zn (ZoM #[vi y3_0] (y3_0)   N c4  7 rfl dcd dcd)) <| w4
   refine Zf (fun g5 => ?_) (fun g5 => ?_)
   ·
    exact Zi (Zz [o1] [] [(0, 0)] [(0, (wsl L0 0))] [(0, .bs L0), (1, (Zq ((wd L0 0))  y3_0 y3_1  7)), (2, (Zcy (y3_0)    7))]) (((!y3_1), true) :: Zda L0 L1 a2 L3 L4 L5 L6 L7 y3_0 y3_1) (Zc nBt <| w5)
   ·
    have w6 : OkL (ZbO L0 L1 a2 L3 L4 L5 L6 L7 y3_0 y3_1) :=
     Zc nBf <| w5
    refine Zf (fun g6 => ?_) (fun g6 => ?_)
    ·
     exact Zi (Zz [o0, o1] [] [(0, 0)] [(0, (wsl L0 0))] [(0, .bs L0), (1, (Zq ((wd L0 0))  y3_0 y3_1  7)), (2, (Zcy (y3_0)    7))]) ((((((wds L0).length : Nat) : Int) != (4 : Int)), true) :: ZbO L0 L1 a2 L3 L4 L5 L6 L7 y3_0 y3_1) (oD <| w6)
    ·
     refine Zf (fun g7 => ?_) (fun g7 => ?_)
     ·
      exact Zi (Zz [o0, o0, o1] [] [(0, 0)] [(0, (wsl L0 0))] [(0, .bs L0), (1, (Zq ((wd L0 0))  y3_0 y3_1  7)), (2, (Zcy (y3_0)    7))]) (((decide ((L3.length : Int) ≥ (512 : Int))), true) :: (((((wds L0).length : Nat) : Int) != (4 : Int)), false) :: ZbO L0 L1 a2 L3 L4 L5 L6 L7 y3_0 y3_1) (oY <| oE <| w6)
     ·
      have w8 : OkL (Zdb L0 L1 a2 L3 L4 L5 L6 L7 y3_0 y3_1) :=
       Zc (ZbF 1 ltA) <| oL <| oI <| oN <| oE <| w6
      refine ZaO (fun z8 c8 => ?_)
      cases z8 with
      | r0 =>
       have w9 : OkL (Zdc L0 L1 a2 L3 L4 L5 L6 L7 y3_0 y3_1) :=
        Zc (ZbF 2 ltA) <| oL <| oI <| Zc (Zn (Zae #[vp 0 0, Value.int .i32 (114 : Int), Value.string (Za (wd L0 1))] ((wd L0 1)) L1 a2 L3 L4 L5 L6 L7   N c8 0 1 2 3 4 5 9 rfl dcd dcd)) <| oR <| oR <| oR <| oR <| oR <| oR <| w8
       refine ZaO (fun z9 c9 => ?_)
       cases z9 with
       | r0 =>
        have w10 : OkL (Zdd L0 L1 a2 L3 L4 L5 L6 L7 y3_0 y3_1) :=
         Zc (ZbF 3 ltA) <| oL <| oI <| Zc (Zn (Zae #[vp 0 0, Value.int .i32 (114 : Int), Value.string (Za (wd L0 2))] ((wd L0 2)) L1 a2 L3 L4 L5 L6 L7   N c9 0 1 2 3 4 5 9 rfl dcd dcd)) <| oR <| oR <| oR <| oR <| oR <| oR <| w9
        refine ZaO (fun z10 c10 => ?_)
        cases z10 with
        | r0 =>
         refine Zf (fun g11 => ?_) (fun _ => Zt)
         exact Zcl ZO (fu := 4000) (orc := (Zz [o0, o0, o0] [] [(0, 0), (1, 1), (3, 2), (5, 3)] [(0, (wsl L0 0)), (2, (wsl L0 1)), (3, (wsl L0 2)), (4, (wsl L0 3))] [(0, .bs L0), (1, (Zq ((wd L0 0))  y3_0 y3_1  7)), (2, (Zcy (y3_0)    7)), (3, (Z3 ((wd L0 1)) L1 a2 L3 L4 L5 L6 L7   0 1 2 3 4 5 9)), (5, (Z3 ((wd L0 2)) L1 a2 L3 L4 L5 L6 L7   0 1 2 3 4 5 9)), (7, (Z3 ((wd L0 3)) L1 a2 L3 L4 L5 L6 L7   0 1 2 3 4 5 9)), (9, .ap 1 [vi y3_0, vi ((bAt (wd L0 1) 1) - (48 : Int)), vi ((bAt (wd L0 2) 1) - (48 : Int)), vi ((bAt (wd L0 3) 1) - (48 : Int))] (Zb E_iiii (L3 ++ ([(⟨y3_0, ((bAt (wd L0 1) 1) - (48 : Int)), ((bAt (wd L0 2) 1) - (48 : Int)), ((bAt (wd L0 3) 1) - (48 : Int))⟩ : RA)] : List RA)))), (11, .ap 1 [vi a2] (Zb eI (L4 ++ ([a2] : List Int))))])) (live := [0, 1, 2, 3, 4, 5, 10, 12]) (u := vtt) (bl := [some (.cells [Value.string (Za L1), vi a2, vs 10 0 (L3.length + 1) (L3.length + 1), vs 12 0 (L4.length + 1) (L4.length + 1), vs 3 0 L5.length L5.length, vs 4 0 L6.length L6.length, Value.map (some 5)] 57), none, none, some (.cells (Zb Zu L5) 122 true), some (.cells (Zb Zs L6) 9 true), some (.ro (Zj L7) true), some (.cells (Zb E_iiii (L3 ++ ([(⟨y3_0, ((bAt (wd L0 1) 1) - (48 : Int)), ((bAt (wd L0 2) 1) - (48 : Int)), ((bAt (wd L0 3) 1) - (48 : Int))⟩ : RA)] : List RA))) 24), some (.cells (Zb eI (L4 ++ ([a2] : List Int))) 3)]) (ob := ((dP ((1 = 1 ∧ Z8 (1 * 1) (List.drop 0 [vi a2]) = some [vi a2] ∧ Z7 Za8 [vi a2] = true) ∧ 0 < 1 ∧ 1 ≤ 100000 ∧ L4.length < L4.length + 1 ∧ L4.length ≤ 100000 ∧ L4.length * 1 ≤ (List.length (Zb eI L4)) ∧ List.take (L4.length * 1) (Zb eI L4) ++ [vi a2] = (Zb eI (L4 ++ ([a2] : List Int)))), true) :: (dP ((1 = 1 ∧ Z8 (1 * 4) (List.drop 0 [vi y3_0, vi ((bAt (wd L0 1) 1) - (48 : Int)), vi ((bAt (wd L0 2) 1) - (48 : Int)), vi ((bAt (wd L0 3) 1) - (48 : Int))]) = some [vi y3_0, vi ((bAt (wd L0 1) 1) - (48 : Int)), vi ((bAt (wd L0 2) 1) - (48 : Int)), vi ((bAt (wd L0 3) 1) - (48 : Int))] ∧ Z7 Za8 [vi y3_0, vi ((bAt (wd L0 1) 1) - (48 : Int)), vi ((bAt (wd L0 2) 1) - (48 : Int)), vi ((bAt (wd L0 3) 1) - (48 : Int))] = true) ∧ 0 < 1 ∧ 1 ≤ 100000 ∧ L3.length < L3.length + 1 ∧ L3.length ≤ 100000 ∧ L3.length * 4 ≤ (List.length (Zb E_iiii L3)) ∧ List.take (L3.length * 4) (Zb E_iiii L3) ++ [vi y3_0, vi ((bAt (wd L0 1) 1) - (48 : Int)), vi ((bAt (wd L0 2) 1) - (48 : Int)), vi ((bAt (wd L0 3) 1) - (48 : Int))] = (Zb E_iiii (L3 ++ ([(⟨y3_0, ((bAt (wd L0 1) 1) - (48 : Int)), ((bAt (wd L0 2) 1) - (48 : Int)), ((bAt (wd L0 3) 1) - (48 : Int))⟩ : RA)] : List RA)))), true) :: (dP (ZV #[vp 0 0, Value.int .i32 (114 : Int), Value.string (Za (wd L0 3))] ((wd L0 3)) L1 a2 L3 L4 L5 L6 L7   0 1 2 3 4 5 9), true) :: (dS (rdc L1 a2 L3 L4 L5 L6), true) :: (dS (Zb E_iiii L3), true) :: (dS (Zb eI L4), true) :: (dS (Zb Zu L5), true) :: (dS (Zb Zs L6), true) :: (dS (Zj L7), true) :: Zdd L0 L1 a2 L3 L4 L5 L6 L7 y3_0 y3_1)) (by as_aux_lemma => kernel_rfl) (Zc (Zn ⟨⟨rfl, ⟨rfl, rfl⟩⟩, by omega, by omega, ltA, by omega, (ZaN (E := eI) (L := L4) (M := ([a2] : List Int)) (n := L4.length) (show _ = _ * 1 from rfl) (by omega) (R := (L4 ++ ([a2] : List Int))) (by rw [List.take_of_length_le (by omega)]))⟩) <| Zc (Zn ⟨⟨rfl, ⟨rfl, rfl⟩⟩, by omega, by omega, ltA, by omega, (ZaN (E := E_iiii) (L := L3) (M := ([(⟨y3_0, ((bAt (wd L0 1) 1) - (48 : Int)), ((bAt (wd L0 2) 1) - (48 : Int)), ((bAt (wd L0 3) 1) - (48 : Int))⟩ : RA)] : List RA)) (n := L3.length) (show _ = _ * 4 from rfl) (by omega) (R := (L3 ++ ([(⟨y3_0, ((bAt (wd L0 1) 1) - (48 : Int)), ((bAt (wd L0 2) 1) - (48 : Int)), ((bAt (wd L0 3) 1) - (48 : Int))⟩ : RA)] : List RA))) (by rw [List.take_of_length_le (by omega)]))⟩) <| Zc (Zn (Zae #[vp 0 0, Value.int .i32 (114 : Int), Value.string (Za (wd L0 3))] ((wd L0 3)) L1 a2 L3 L4 L5 L6 L7   N c10 0 1 2 3 4 5 9 rfl dcd dcd)) <| oR <| oR <| oR <| oR <| oR <| oR <| w10) rfl (by decide) (by rfl) rr ⟨⟨rfl, ⟨[], (show ([Value.string (Za L1), vi a2, vs 6 0 (L3.length + 1) (L3.length + 1), vs 7 0 (L4.length + 1) (L4.length + 1), vs 3 0 L5.length L5.length, vs 4 0 L6.length L6.length, Value.map (some 5)] : List Value) = _ from (Zd rfl (Zd rfl (Zd (ZS rfl eqA eqA) (Zd rfl (Zd rfl (Zd rfl (Zd rfl rfl))))))).symm)⟩, by rfl⟩, ⟨(Zm (E := Zu) (α := R_is) _ L5 _), ⟨(Zm (E := Zs) (α := List Int) _ L6 _), ⟨(show Zj L7 = Zj L7 from rfl), ⟨(ZE (E := E_iiii) (α := RA) _ (L3 ++ ([(⟨y3_0, ((bAt (wd L0 1) 1) - (48 : Int)), ((bAt (wd L0 2) 1) - (48 : Int)), ((bAt (wd L0 3) 1) - (48 : Int))⟩ : RA)] : List RA)) _), ⟨(ZE (E := eI) (α := Int) _ (L4 ++ ([a2] : List Int)) _), trivial⟩⟩⟩⟩⟩⟩ (Zay _ rfl)
        | r1 =>
         exact Zi (Zz [o0, o0, o0] [] [(0, 0), (1, 1), (3, 2), (5, 3)] [(0, (wsl L0 0)), (2, (wsl L0 1)), (3, (wsl L0 2)), (4, (wsl L0 3))] [(0, .bs L0), (1, (Zq ((wd L0 0))  y3_0 y3_1  7)), (2, (Zcy (y3_0)    7)), (3, (Z3 ((wd L0 1)) L1 a2 L3 L4 L5 L6 L7   0 1 2 3 4 5 9)), (5, (Z3 ((wd L0 2)) L1 a2 L3 L4 L5 L6 L7   0 1 2 3 4 5 9)), (7, (Zaf ((wd L0 3)) L1 a2 L3 L4 L5 L6 L7   0 1 2 3 4 5 9))]) ((dP (ZW #[vp 0 0, Value.int .i32 (114 : Int), Value.string (Za (wd L0 3))] ((wd L0 3)) L1 a2 L3 L4 L5 L6 L7   0 1 2 3 4 5 9), true) :: (dS (rdc L1 a2 L3 L4 L5 L6), true) :: (dS (Zb E_iiii L3), true) :: (dS (Zb eI L4), true) :: (dS (Zb Zu L5), true) :: (dS (Zb Zs L6), true) :: (dS (Zj L7), true) :: Zdd L0 L1 a2 L3 L4 L5 L6 L7 y3_0 y3_1) (Zc (Zn (Zag #[vp 0 0, Value.int .i32 (114 : Int), Value.string (Za (wd L0 3))] ((wd L0 3)) L1 a2 L3 L4 L5 L6 L7   N c10 0 1 2 3 4 5 9 rfl dcd dcd)) <| oR <| oR <| oR <| oR <| oR <| oR <| w10)
       | r1 =>
        exact Zi (Zz [o0, o0, o0] [] [(0, 0), (1, 1), (3, 2)] [(0, (wsl L0 0)), (2, (wsl L0 1)), (3, (wsl L0 2))] [(0, .bs L0), (1, (Zq ((wd L0 0))  y3_0 y3_1  7)), (2, (Zcy (y3_0)    7)), (3, (Z3 ((wd L0 1)) L1 a2 L3 L4 L5 L6 L7   0 1 2 3 4 5 9)), (5, (Zaf ((wd L0 2)) L1 a2 L3 L4 L5 L6 L7   0 1 2 3 4 5 9))]) ((dP (ZW #[vp 0 0, Value.int .i32 (114 : Int), Value.string (Za (wd L0 2))] ((wd L0 2)) L1 a2 L3 L4 L5 L6 L7   0 1 2 3 4 5 9), true) :: (dS (rdc L1 a2 L3 L4 L5 L6), true) :: (dS (Zb E_iiii L3), true) :: (dS (Zb eI L4), true) :: (dS (Zb Zu L5), true) :: (dS (Zb Zs L6), true) :: (dS (Zj L7), true) :: Zdc L0 L1 a2 L3 L4 L5 L6 L7 y3_0 y3_1) (Zc (Zn (Zag #[vp 0 0, Value.int .i32 (114 : Int), Value.string (Za (wd L0 2))] ((wd L0 2)) L1 a2 L3 L4 L5 L6 L7   N c9 0 1 2 3 4 5 9 rfl dcd dcd)) <| oR <| oR <| oR <| oR <| oR <| oR <| w9)
      | r1 =>
       exact Zi (Zz [o0, o0, o0] [] [(0, 0), (1, 1)] [(0, (wsl L0 0)), (2, (wsl L0 1))] [(0, .bs L0), (1, (Zq ((wd L0 0))  y3_0 y3_1  7)), (2, (Zcy (y3_0)    7)), (3, (Zaf ((wd L0 1)) L1 a2 L3 L4 L5 L6 L7   0 1 2 3 4 5 9))]) ((dP (ZW #[vp 0 0, Value.int .i32 (114 : Int), Value.string (Za (wd L0 1))] ((wd L0 1)) L1 a2 L3 L4 L5 L6 L7   0 1 2 3 4 5 9), true) :: (dS (rdc L1 a2 L3 L4 L5 L6), true) :: (dS (Zb E_iiii L3), true) :: (dS (Zb eI L4), true) :: (dS (Zb Zu L5), true) :: (dS (Zb Zs L6), true) :: (dS (Zj L7), true) :: Zdb L0 L1 a2 L3 L4 L5 L6 L7 y3_0 y3_1) (Zc (Zn (Zag #[vp 0 0, Value.int .i32 (114 : Int), Value.string (Za (wd L0 1))] ((wd L0 1)) L1 a2 L3 L4 L5 L6 L7   N c8 0 1 2 3 4 5 9 rfl dcd dcd)) <| oR <| oR <| oR <| oR <| oR <| oR <| w8)

end Ev
end Go.Proofs.YtlbbiflodemagaaDoor
/- Calls do what the plain functions say. -/
namespace Go.Proofs.YtlbbiflodemagaaDoor
open Go.RowKit
namespace Ev
set_option linter.unusedVariables false
set_option maxRecDepth 100000
theorem Zc5 (L0 L1 : List Int) (a2 : Int) (L3 : List RA) (L4 : List Int) (L5 : List R_is) (L6 : List (List Int)) (L7 : List R_si) (N : Nat) (r : Zh) (h : Zaz L0 L1 a2 L3 L4 L5 L6 L7 N = some r) : LSpec Tryd.prog 51 #[vp 0 0, Value.string (Za L0)] (rpr L1 a2 L3 L4 L5 L6 L7) (ZdA L0 L1 a2 L3 L4 L5 L6 L7 r) (Zd3 L0 L1 a2 L3 L4 L5 L6 L7 r) :=
 Zik L0 L1 a2 L3 L4 L5 L6 L7 N r h

noncomputable def ZiG (L0 L1 : List Int) (a2 : Int) (L3 : List RA) (L4 : List Int) (L5 : List R_is) (L6 : List (List Int)) (L7 : List R_si) (k0 k1 k2 k3 k4 k5 n : Nat) : ZaG := .call [(k0, .cells [Value.string (Za L1), vi a2, vs k1 0 L3.length L3.length, vs k2 0 L4.length L4.length, vs k3 0 L5.length L5.length, vs k4 0 L6.length L6.length, Value.map (some k5)] 57), (k1, .cells (Zb E_iiii L3) 24 true), (k2, .cells (Zb eI L4) 3 true), (k3, .cells (Zb Zu L5) 122 true), (k4, .cells (Zb Zs L6) 9 true), (k5, .ro (Zj L7) true)] (Value.iface 88 (Value.agg #[vi a2])) [(k0, none), (k1, none), (k2, none), (k3, none), (k4, none), (k5, none)] 0
def Zft (A : Array Value) (L0 L1 : List Int) (a2 : Int) (L3 : List RA) (L4 : List Int) (L5 : List R_is) (L6 : List (List Int)) (L7 : List R_si) (k0 k1 k2 k3 k4 k5 n : Nat) : Prop := ZB Tryd.prog 51 A [(k0, .cells [Value.string (Za L1), vi a2, vs k1 0 L3.length L3.length, vs k2 0 L4.length L4.length, vs k3 0 L5.length L5.length, vs k4 0 L6.length L6.length, Value.map (some k5)] 57), (k1, .cells (Zb E_iiii L3) 24 true), (k2, .cells (Zb eI L4) 3 true), (k3, .cells (Zb Zu L5) 122 true), (k4, .cells (Zb Zs L6) 9 true), (k5, .ro (Zj L7) true)] (Value.iface 88 (Value.agg #[vi a2])) [(k0, none), (k1, none), (k2, none), (k3, none), (k4, none), (k5, none)] n 0

theorem ZiH (A : Array Value) (L0 L1 : List Int) (a2 : Int) (L3 : List RA) (L4 : List Int) (L5 : List R_is) (L6 : List (List Int)) (L7 : List R_si) (N : Nat) (h : Zaz L0 L1 a2 L3 L4 L5 L6 L7 N = some (.r0)) (k0 k1 k2 k3 k4 k5 n : Nat) (hA : A = #[vp k0 0, Value.string (Za L0)]) (hnd : ([k0, k1, k2, k3, k4, k5] : List Nat).Nodup) (hlt : ∀ k ∈ ([k0, k1, k2, k3, k4, k5] : List Nat), k < n) : Zft A L0 L1 a2 L3 L4 L5 L6 L7 k0 k1 k2 k3 k4 k5 n :=
 Zaq hA (LSpec.callL (show LSpec Tryd.prog 51 #[vp 0 0, Value.string (Za L0)] (rpr L1 a2 L3 L4 L5 L6 L7) (Value.iface 88 (Value.agg #[vi a2])) [none, none, none, none, none, none] from Zc5 L0 L1 a2 L3 L4 L5 L6 L7 N _ h) [k0, k1, k2, k3, k4, k5] n [0, 1, 2, 3, 4, 5] rfl hnd hlt (show 6 ≤ 6 from by decide) (show ∀ j ∈ ([0, 1, 2, 3, 4, 5] : List Nat), j < 6 from by decide) (by rfl) ⟨rfl, ⟨(Zp _ _ _), ⟨(Zp _ _ _), ⟨(Zp _ _ _), ⟨(Zp _ _ _), ⟨rfl, trivial⟩⟩⟩⟩⟩⟩ (by rfl) trivial ⟨.inl (by decide), ⟨.inl (by decide), ⟨.inl (by decide), ⟨.inl (by decide), ⟨.inl (by decide), ⟨.inl (by decide), trivial⟩⟩⟩⟩⟩⟩ rfl rfl rfl (Zd (Zk rfl rfl) (Zd (Zk rfl (Z0 _ _ _)) (Zd (Zk rfl (Z0 _ _ _)) (Zd (Zk rfl (Z0 _ _ _)) (Zd (Zk rfl (Z0 _ _ _)) (Zd (Zk rfl rfl) rfl)))))) (Zd (Zk rfl rfl) (Zd (Zk rfl rfl) (Zd (Zk rfl rfl) (Zd (Zk rfl rfl) (Zd (Zk rfl rfl) (Zd (Zk rfl rfl) rfl)))))))

noncomputable def ZiI (L0 L1 : List Int) (a2 : Int) (L3 : List RA) (L4 : List Int) (L5 : List R_is) (L6 : List (List Int)) (L7 : List R_si) (w5 : List RA) (k0 k1 k2 k3 k4 k5 n : Nat) : ZaG := .call [(k0, .cells [Value.string (Za L1), vi a2, vs k1 0 L3.length L3.length, vs k2 0 L4.length L4.length, vs k3 0 L5.length L5.length, vs k4 0 L6.length L6.length, Value.map (some k5)] 57), (k1, .cells (Zb E_iiii L3) 24 true), (k2, .cells (Zb eI L4) 3 true), (k3, .cells (Zb Zu L5) 122 true), (k4, .cells (Zb Zs L6) 9 true), (k5, .ro (Zj L7) true)] (vtt) [(k0, some (.cells [Value.string (Za L1), vi a2, vs n 0 w5.length w5.length, vs (n + 1) 0 (L4.length + 1) (L4.length + 1), vs k3 0 L5.length L5.length, vs k4 0 L6.length L6.length, Value.map (some k5)] 57)), (k1, none), (k2, none), (n, some (.cells (Zb E_iiii w5) 24)), ((n + 1), some (.cells (Zb eI (L4 ++ ([a2] : List Int))) 3))] 2
def Zfu (A : Array Value) (L0 L1 : List Int) (a2 : Int) (L3 : List RA) (L4 : List Int) (L5 : List R_is) (L6 : List (List Int)) (L7 : List R_si) (w5 : List RA) (k0 k1 k2 k3 k4 k5 n : Nat) : Prop := ZB Tryd.prog 51 A [(k0, .cells [Value.string (Za L1), vi a2, vs k1 0 L3.length L3.length, vs k2 0 L4.length L4.length, vs k3 0 L5.length L5.length, vs k4 0 L6.length L6.length, Value.map (some k5)] 57), (k1, .cells (Zb E_iiii L3) 24 true), (k2, .cells (Zb eI L4) 3 true), (k3, .cells (Zb Zu L5) 122 true), (k4, .cells (Zb Zs L6) 9 true), (k5, .ro (Zj L7) true)] (vtt) [(k0, some (.cells [Value.string (Za L1), vi a2, vs n 0 w5.length w5.length, vs (n + 1) 0 (L4.length + 1) (L4.length + 1), vs k3 0 L5.length L5.length, vs k4 0 L6.length L6.length, Value.map (some k5)] 57)), (k1, none), (k2, none), (n, some (.cells (Zb E_iiii w5) 24)), ((n + 1), some (.cells (Zb eI (L4 ++ ([a2] : List Int))) 3))] n 2

theorem ZiJ (A : Array Value) (L0 L1 : List Int) (a2 : Int) (L3 : List RA) (L4 : List Int) (L5 : List R_is) (L6 : List (List Int)) (L7 : List R_si) (w5 : List RA) (N : Nat) (h : Zaz L0 L1 a2 L3 L4 L5 L6 L7 N = some (.r1 w5)) (k0 k1 k2 k3 k4 k5 n : Nat) (hA : A = #[vp k0 0, Value.string (Za L0)]) (hnd : ([k0, k1, k2, k3, k4, k5] : List Nat).Nodup) (hlt : ∀ k ∈ ([k0, k1, k2, k3, k4, k5] : List Nat), k < n) : Zfu A L0 L1 a2 L3 L4 L5 L6 L7 w5 k0 k1 k2 k3 k4 k5 n :=
 Zaq hA (LSpec.callL (show LSpec Tryd.prog 51 #[vp 0 0, Value.string (Za L0)] (rpr L1 a2 L3 L4 L5 L6 L7) (vtt) [some (.cells [Value.string (Za L1), vi a2, vs 6 0 w5.length w5.length, vs 7 0 (L4.length + 1) (L4.length + 1), vs 3 0 L5.length L5.length, vs 4 0 L6.length L6.length, Value.map (some 5)] 57), none, none, some (.cells (Zb Zu L5) 122 true), some (.cells (Zb Zs L6) 9 true), some (.ro (Zj L7) true), some (.cells (Zb E_iiii w5) 24), some (.cells (Zb eI (L4 ++ ([a2] : List Int))) 3)] from Zc5 L0 L1 a2 L3 L4 L5 L6 L7 N _ h) [k0, k1, k2, k3, k4, k5] n [0, 1, 2, 6, 7] rfl hnd hlt (show 6 ≤ 8 from by decide) (show ∀ j ∈ ([0, 1, 2, 6, 7] : List Nat), j < 8 from by decide) (by rfl) ⟨rfl, ⟨(Zp _ _ _), ⟨(Zp _ _ _), ⟨(Zp _ _ _), ⟨(Zp _ _ _), ⟨rfl, trivial⟩⟩⟩⟩⟩⟩ (by rfl) ⟨rfl, ⟨(Zp _ _ _), ⟨(Zp _ _ _), ⟨rfl, ⟨(Zp _ _ _), ⟨(Zp _ _ _), trivial⟩⟩⟩⟩⟩⟩ ⟨.inl (by decide), ⟨.inl (by decide), ⟨.inl (by decide), ⟨.inr rfl, ⟨.inr rfl, ⟨.inr rfl, ⟨(by decide), ⟨(by decide), trivial⟩⟩⟩⟩⟩⟩⟩⟩ rfl rfl rfl (Zd (Zk rfl rfl) (Zd (Zk rfl (Z0 _ _ _)) (Zd (Zk rfl (Z0 _ _ _)) (Zd (Zk rfl (Z0 _ _ _)) (Zd (Zk rfl (Z0 _ _ _)) (Zd (Zk rfl rfl) rfl)))))) (Zd (Zk rfl (ZaE rfl)) (Zd (Zk rfl rfl) (Zd (Zk rfl rfl) (Zd (Zk rfl (ZaE (Ze5 _ _ _))) (Zd (Zk rfl (ZaE (Ze5 _ _ _))) rfl))))))

noncomputable def ZiK (L0 L1 : List Int) (a2 : Int) (L3 : List RA) (L4 : List Int) (L5 : List R_is) (L6 : List (List Int)) (L7 : List R_si) (w4 : List RA) (w6 : List R_is) (k0 k1 k2 k3 k4 k5 n : Nat) : ZaG := .call [(k0, .cells [Value.string (Za L1), vi a2, vs k1 0 L3.length L3.length, vs k2 0 L4.length L4.length, vs k3 0 L5.length L5.length, vs k4 0 L6.length L6.length, Value.map (some k5)] 57), (k1, .cells (Zb E_iiii L3) 24 true), (k2, .cells (Zb eI L4) 3 true), (k3, .cells (Zb Zu L5) 122 true), (k4, .cells (Zb Zs L6) 9 true), (k5, .ro (Zj L7) true)] (vtt) [(k0, some (.cells [Value.string (Za L1), vi a2, vs n 0 w4.length w4.length, vs (n + 1) 0 (L4.length + 1) (L4.length + 1), vs (n + 2) 0 w6.length w6.length, vs k4 0 L6.length L6.length, Value.map (some k5)] 57)), (k1, none), (k2, none), (k3, none), (n, some (.cells (Zb E_iiii w4) 24)), ((n + 1), some (.cells (Zb eI (L4 ++ ([a2] : List Int))) 3)), ((n + 2), some (.cells (Zb Zu w6) 122))] 3
def Zfv (A : Array Value) (L0 L1 : List Int) (a2 : Int) (L3 : List RA) (L4 : List Int) (L5 : List R_is) (L6 : List (List Int)) (L7 : List R_si) (w4 : List RA) (w6 : List R_is) (k0 k1 k2 k3 k4 k5 n : Nat) : Prop := ZB Tryd.prog 51 A [(k0, .cells [Value.string (Za L1), vi a2, vs k1 0 L3.length L3.length, vs k2 0 L4.length L4.length, vs k3 0 L5.length L5.length, vs k4 0 L6.length L6.length, Value.map (some k5)] 57), (k1, .cells (Zb E_iiii L3) 24 true), (k2, .cells (Zb eI L4) 3 true), (k3, .cells (Zb Zu L5) 122 true), (k4, .cells (Zb Zs L6) 9 true), (k5, .ro (Zj L7) true)] (vtt) [(k0, some (.cells [Value.string (Za L1), vi a2, vs n 0 w4.length w4.length, vs (n + 1) 0 (L4.length + 1) (L4.length + 1), vs (n + 2) 0 w6.length w6.length, vs k4 0 L6.length L6.length, Value.map (some k5)] 57)), (k1, none), (k2, none), (k3, none), (n, some (.cells (Zb E_iiii w4) 24)), ((n + 1), some (.cells (Zb eI (L4 ++ ([a2] : List Int))) 3)), ((n + 2), some (.cells (Zb Zu w6) 122))] n 3

theorem ZiL (A : Array Value) (L0 L1 : List Int) (a2 : Int) (L3 : List RA) (L4 : List Int) (L5 : List R_is) (L6 : List (List Int)) (L7 : List R_si) (w4 : List RA) (w6 : List R_is) (N : Nat) (h : Zaz L0 L1 a2 L3 L4 L5 L6 L7 N = some (.r2 w4 w6)) (k0 k1 k2 k3 k4 k5 n : Nat) (hA : A = #[vp k0 0, Value.string (Za L0)]) (hnd : ([k0, k1, k2, k3, k4, k5] : List Nat).Nodup) (hlt : ∀ k ∈ ([k0, k1, k2, k3, k4, k5] : List Nat), k < n) : Zfv A L0 L1 a2 L3 L4 L5 L6 L7 w4 w6 k0 k1 k2 k3 k4 k5 n :=
 Zaq hA (LSpec.callL (show LSpec Tryd.prog 51 #[vp 0 0, Value.string (Za L0)] (rpr L1 a2 L3 L4 L5 L6 L7) (vtt) [some (.cells [Value.string (Za L1), vi a2, vs 6 0 w4.length w4.length, vs 7 0 (L4.length + 1) (L4.length + 1), vs 8 0 w6.length w6.length, vs 4 0 L6.length L6.length, Value.map (some 5)] 57), none, none, none, some (.cells (Zb Zs L6) 9 true), some (.ro (Zj L7) true), some (.cells (Zb E_iiii w4) 24), some (.cells (Zb eI (L4 ++ ([a2] : List Int))) 3), some (.cells (Zb Zu w6) 122)] from Zc5 L0 L1 a2 L3 L4 L5 L6 L7 N _ h) [k0, k1, k2, k3, k4, k5] n [0, 1, 2, 3, 6, 7, 8] rfl hnd hlt (show 6 ≤ 9 from by decide) (show ∀ j ∈ ([0, 1, 2, 3, 6, 7, 8] : List Nat), j < 9 from by decide) (by rfl) ⟨rfl, ⟨(Zp _ _ _), ⟨(Zp _ _ _), ⟨(Zp _ _ _), ⟨(Zp _ _ _), ⟨rfl, trivial⟩⟩⟩⟩⟩⟩ (by rfl) ⟨rfl, ⟨(Zp _ _ _), ⟨rfl, ⟨(Zp _ _ _), ⟨(Zp _ _ _), ⟨(Zp _ _ _), trivial⟩⟩⟩⟩⟩⟩ ⟨.inl (by decide), ⟨.inl (by decide), ⟨.inl (by decide), ⟨.inl (by decide), ⟨.inr rfl, ⟨.inr rfl, ⟨(by decide), ⟨(by decide), ⟨(by decide), trivial⟩⟩⟩⟩⟩⟩⟩⟩⟩ rfl rfl rfl (Zd (Zk rfl rfl) (Zd (Zk rfl (Z0 _ _ _)) (Zd (Zk rfl (Z0 _ _ _)) (Zd (Zk rfl (Z0 _ _ _)) (Zd (Zk rfl (Z0 _ _ _)) (Zd (Zk rfl rfl) rfl)))))) (Zd (Zk rfl (ZaE rfl)) (Zd (Zk rfl rfl) (Zd (Zk rfl rfl) (Zd (Zk rfl rfl) (Zd (Zk rfl (ZaE (Ze5 _ _ _))) (Zd (Zk rfl (ZaE (Ze5 _ _ _))) (Zd (Zk rfl (ZaE (Ze5 _ _ _))) rfl))))))))

noncomputable def ZgQ (a0 a1 a2 a3 : Int) : ZaQ → Value
 | .r0 w0 => vi w0
noncomputable def Zgi (a0 a1 a2 a3 : Int) : ZaQ → List (Option AObj)
 | .r0 w0 => []

abbrev ZiM (a0 a1 a2 a3 : Int) (r : ZaQ) : Prop := Gx Tryd.prog 14 [] #[Value.agg #[vi a0, vi a1, vi a2, vi a3]] (ZgQ a0 a1 a2 a3) (Zgi a0 a1 a2 a3) (some r)
theorem Zl9 {a0 : Int} {a1 : Int} {a2 : Int} {a3 : Int} {r : ZaQ} {orc : Orc} {u : Value} {ob : List (Bool × Bool)} (hev : Zax [] (Za0 Tryd.prog ZJ 14 [] #[Value.agg #[vi a0, vi a1, vi a2, vi a3]] 4000 orc) = some (u, [], ob)) (ho : ∀ p ∈ ob, p.1 = p.2) (hv : ZgQ a0 a1 a2 a3 r = Za6 (rho [] far) 3 u ∧ Zas 3 u = true) (hp : Zgi a0 a1 a2 a3 r = [] := by rfl) : ZiM a0 a1 a2 a3 r :=
 Zcl ZdC (live := []) (bl := []) hev ho (by rw [hp]; rfl) (by decide) (by rfl) hv (by rw [hp]; trivial) (by rw [hp]; exact Zay _ rfl)

theorem Zg {a0 : Int} {a1 : Int} {a2 : Int} {a3 : Int} (orc : Orc) (ob : List (Bool × Bool)) (ho : ∀ p ∈ ob, p.1 = p.2) (hev : Zax [] (Za0 Tryd.prog ZJ 14 [] #[Value.agg #[vi a0, vi a1, vi a2, vi a3]] 4000 orc) = some (vi (100 : Int), [], ob) := by as_aux_lemma => kernel_rfl) : ZiM a0 a1 a2 a3 (.r0 (100) : ZaQ) := Zl9 hev ho rr

noncomputable def Zhn (a0 a1 a2 a3 : Int) : List (Bool × Bool) := ((decide (a0 < (0 : Int))), false) :: []

noncomputable def ZN (a0 a1 a2 a3 : Int) : List (Bool × Bool) := ((decide (a0 ≥ (21 : Int))), false) :: Zhn a0 a1 a2 a3

noncomputable def ZbX (a0 a1 a2 a3 : Int) : List (Bool × Bool) := (Nat.blt 1 21, true) :: (a0 == Int.ofNat 1, true) :: ZN a0 a1 a2 a3

theorem Zak {a0 : Int} {a1 : Int} {a2 : Int} {a3 : Int} (orc : Orc) (ob : List (Bool × Bool)) (ho : ∀ p ∈ ob, p.1 = p.2) (hev : Zax [] (Za0 Tryd.prog ZJ 14 [] #[Value.agg #[vi a0, vi a1, vi a2, vi a3]] 4000 orc) = some (vq, [], ob) := by as_aux_lemma => kernel_rfl) : ZiM a0 a1 a2 a3 (.r0 (0) : ZaQ) := Zl9 hev ho rr

noncomputable def ZbY (a0 a1 a2 a3 : Int) : List (Bool × Bool) := (Nat.blt 2 21, true) :: (a0 == Int.ofNat 2, true) :: ZN a0 a1 a2 a3

noncomputable def ZbZ (a0 a1 a2 a3 : Int) : List (Bool × Bool) := (Nat.blt 3 21, true) :: (a0 == Int.ofNat 3, true) :: ZN a0 a1 a2 a3

noncomputable def Zca (a0 a1 a2 a3 : Int) : List (Bool × Bool) := (Nat.blt 4 21, true) :: (a0 == Int.ofNat 4, true) :: ZN a0 a1 a2 a3

noncomputable def Zcb (a0 a1 a2 a3 : Int) : List (Bool × Bool) := (Nat.blt 5 21, true) :: (a0 == Int.ofNat 5, true) :: ZN a0 a1 a2 a3

noncomputable def Zcc (a0 a1 a2 a3 : Int) : List (Bool × Bool) := (Nat.blt 6 21, true) :: (a0 == Int.ofNat 6, true) :: ZN a0 a1 a2 a3

noncomputable def Zcd (a0 a1 a2 a3 : Int) : List (Bool × Bool) := (Nat.blt 7 21, true) :: (a0 == Int.ofNat 7, true) :: ZN a0 a1 a2 a3

noncomputable def Zce (a0 a1 a2 a3 : Int) : List (Bool × Bool) := (Nat.blt 8 21, true) :: (a0 == Int.ofNat 8, true) :: ZN a0 a1 a2 a3

noncomputable def Zb2 (a0 a1 a2 a3 : Int) : List (Bool × Bool) := (Nat.blt 9 21, true) :: (a0 == Int.ofNat 9, true) :: ZN a0 a1 a2 a3

noncomputable def Zb3 (a0 a1 a2 a3 : Int) : List (Bool × Bool) := (Nat.blt 10 21, true) :: (a0 == Int.ofNat 10, true) :: ZN a0 a1 a2 a3

noncomputable def ZcF (a0 a1 a2 a3 : Int) : List (Bool × Bool) := (Nat.blt 11 21, true) :: (a0 == Int.ofNat 11, true) :: ZN a0 a1 a2 a3

noncomputable def Zfb (a0 a1 a2 a3 : Int) : List (Bool × Bool) := (dP (a2 = Int.ofNat (a2).toNat ∧ (a2).toNat ≤ IntKind.i64.bits), true) :: ((decide (a2 ≤ (16 : Int))), true) :: ((decide ((1 : Int) ≤ a2)), true) :: ((decide (a1 ≤ (7 : Int))), true) :: ((decide ((0 : Int) ≤ a1)), true) :: ZcF a0 a1 a2 a3

noncomputable def Zb4 (a0 a1 a2 a3 : Int) : List (Bool × Bool) := (Nat.blt 12 21, true) :: (a0 == Int.ofNat 12, true) :: ZN a0 a1 a2 a3

noncomputable def Zb5 (a0 a1 a2 a3 : Int) : List (Bool × Bool) := (Nat.blt 13 21, true) :: (a0 == Int.ofNat 13, true) :: ZN a0 a1 a2 a3

noncomputable def Zb6 (a0 a1 a2 a3 : Int) : List (Bool × Bool) := (Nat.blt 14 21, true) :: (a0 == Int.ofNat 14, true) :: ZN a0 a1 a2 a3

noncomputable def Zb7 (a0 a1 a2 a3 : Int) : List (Bool × Bool) := (Nat.blt 15 21, true) :: (a0 == Int.ofNat 15, true) :: ZN a0 a1 a2 a3

noncomputable def Zb8 (a0 a1 a2 a3 : Int) : List (Bool × Bool) := (Nat.blt 16 21, true) :: (a0 == Int.ofNat 16, true) :: ZN a0 a1 a2 a3

noncomputable def Zb9 (a0 a1 a2 a3 : Int) : List (Bool × Bool) := (Nat.blt 17 21, true) :: (a0 == Int.ofNat 17, true) :: ZN a0 a1 a2 a3

noncomputable def ZbA (a0 a1 a2 a3 : Int) : List (Bool × Bool) := (Nat.blt 18 21, true) :: (a0 == Int.ofNat 18, true) :: ZN a0 a1 a2 a3

noncomputable def ZbB (a0 a1 a2 a3 : Int) : List (Bool × Bool) := (Nat.blt 19 21, true) :: (a0 == Int.ofNat 19, true) :: ZN a0 a1 a2 a3

noncomputable def ZbC (a0 a1 a2 a3 : Int) : List (Bool × Bool) := (Nat.blt 20 21, true) :: (a0 == Int.ofNat 20, true) :: ZN a0 a1 a2 a3

end Ev
end Go.Proofs.YtlbbiflodemagaaDoor
/- Calls do what the plain functions say. -/
namespace Go.Proofs.YtlbbiflodemagaaDoor
open Go.RowKit
namespace Ev
set_option linter.unusedVariables false
set_option maxRecDepth 100000
set_option maxHeartbeats 4000000 in
theorem ZoN (a0 a1 a2 a3 : Int) (N : Nat) : Gx Tryd.prog 14 [] #[Value.agg #[vi a0, vi a1, vi a2, vi a3]] (ZgQ a0 a1 a2 a3) (Zgi a0 a1 a2 a3) (ZG a0 a1 a2 a3 N) := by
 unfold ZG
 refine Zf (fun g0 => ?_) (fun g0 => ?_)
 ·
  exact Zg (Zz [o1] [] [] [] []) (((decide (a0 < (0 : Int))), true) :: []) (oY <| ZL)
 ·
  have w1 : OkL (Zhn a0 a1 a2 a3) :=
   oN <| ZL
  refine Zf (fun g1 => ?_) (fun g1 => ?_)
  ·
   exact Zg (Zz [o0, o1] [] [] [] []) (((decide (a0 ≥ (21 : Int))), true) :: Zhn a0 a1 a2 a3) (oY <| w1)
  ·
   have w2 : OkL (ZN a0 a1 a2 a3) :=
    oN <| w1
   refine Zf (fun g2 => ?_) (fun g2 => ?_)
   ·
    exact Zg (Zz [o0, o0] [] [(0, 0)] [] []) ((Nat.blt 0 21, true) :: (a0 == Int.ofNat 0, true) :: ZN a0 a1 a2 a3) (oB <| oK <| w2)
   ·
    refine Zf (fun g3 => ?_) (fun g3 => ?_)
    ·
     have w4 : OkL (ZbX a0 a1 a2 a3) :=
      oB <| oK <| w2
     refine Zf (fun g4 => ?_) (fun g4 => ?_)
     ·
      refine Zf (fun g5 => ?_) (fun g5 => ?_)
      ·
       refine Zf (fun g6 => ?_) (fun g6 => ?_)
       ·
        refine Zf (fun g7 => ?_) (fun g7 => ?_)
        ·
         refine Zf (fun g8 => ?_) (fun g8 => ?_)
         ·
          refine Zf (fun g9 => ?_) (fun g9 => ?_)
          ·
           exact Zak (Zr [(0, false), (1, false), (5, true), (6, true), (15, true), (16, true), (25, true), (26, true)] [] [(0, 1)] [] []) (((decide (a3 ≤ (0 : Int))), true) :: ((decide ((0 : Int) ≤ a3)), true) :: ((decide (a2 ≤ (1099511627776 : Int))), true) :: ((decide ((-1099511627776 : Int) ≤ a2)), true) :: ((decide (a1 ≤ (7 : Int))), true) :: ((decide ((0 : Int) ≤ a1)), true) :: ZbX a0 a1 a2 a3) (oY <| oY <| oY <| oY <| oY <| oY <| w4)
          ·
           exact Zg (Zr [(0, false), (1, false), (5, true), (6, true), (15, true), (16, true), (25, true), (26, false)] [] [(0, 1)] [] []) (((decide (a3 ≤ (0 : Int))), false) :: ((decide ((0 : Int) ≤ a3)), true) :: ((decide (a2 ≤ (1099511627776 : Int))), true) :: ((decide ((-1099511627776 : Int) ≤ a2)), true) :: ((decide (a1 ≤ (7 : Int))), true) :: ((decide ((0 : Int) ≤ a1)), true) :: ZbX a0 a1 a2 a3) (oN <| oY <| oY <| oY <| oY <| oY <| w4)
         ·
          exact Zg (Zr [(0, false), (1, false), (5, true), (6, true), (15, true), (16, true), (25, false)] [] [(0, 1)] [] []) (((decide ((0 : Int) ≤ a3)), false) :: ((decide (a2 ≤ (1099511627776 : Int))), true) :: ((decide ((-1099511627776 : Int) ≤ a2)), true) :: ((decide (a1 ≤ (7 : Int))), true) :: ((decide ((0 : Int) ≤ a1)), true) :: ZbX a0 a1 a2 a3) (oN <| oY <| oY <| oY <| oY <| w4)
        ·
         exact Zg (Zr [(0, false), (1, false), (5, true), (6, true), (15, true), (16, false)] [] [(0, 1)] [] []) (((decide (a2 ≤ (1099511627776 : Int))), false) :: ((decide ((-1099511627776 : Int) ≤ a2)), true) :: ((decide (a1 ≤ (7 : Int))), true) :: ((decide ((0 : Int) ≤ a1)), true) :: ZbX a0 a1 a2 a3) (oN <| oY <| oY <| oY <| w4)
       ·
        exact Zg (Zr [(0, false), (1, false), (5, true), (6, true), (15, false)] [] [(0, 1)] [] []) (((decide ((-1099511627776 : Int) ≤ a2)), false) :: ((decide (a1 ≤ (7 : Int))), true) :: ((decide ((0 : Int) ≤ a1)), true) :: ZbX a0 a1 a2 a3) (oN <| oY <| oY <| w4)
      ·
       exact Zg (Zr [(0, false), (1, false), (5, true), (6, false)] [] [(0, 1)] [] []) (((decide (a1 ≤ (7 : Int))), false) :: ((decide ((0 : Int) ≤ a1)), true) :: ZbX a0 a1 a2 a3) (oN <| oY <| w4)
     ·
      exact Zg (Zr [(0, false), (1, false), (5, false)] [] [(0, 1)] [] []) (((decide ((0 : Int) ≤ a1)), false) :: ZbX a0 a1 a2 a3) (oN <| w4)
    ·
     refine Zf (fun g4 => ?_) (fun g4 => ?_)
     ·
      have w5 : OkL (ZbY a0 a1 a2 a3) :=
       oB <| oK <| w2
      refine Zf (fun g5 => ?_) (fun g5 => ?_)
      ·
       refine Zf (fun g6 => ?_) (fun g6 => ?_)
       ·
        refine Zf (fun g7 => ?_) (fun g7 => ?_)
        ·
         refine Zf (fun g8 => ?_) (fun g8 => ?_)
         ·
          refine Zf (fun g9 => ?_) (fun g9 => ?_)
          ·
           refine Zf (fun g10 => ?_) (fun g10 => ?_)
           ·
            exact Zak (Zr [(0, false), (1, false), (5, true), (6, true), (15, true), (16, true), (25, true), (26, true)] [] [(0, 2)] [] []) (((decide (a3 ≤ (0 : Int))), true) :: ((decide ((0 : Int) ≤ a3)), true) :: ((decide (a2 ≤ (0 : Int))), true) :: ((decide ((0 : Int) ≤ a2)), true) :: ((decide (a1 ≤ (7 : Int))), true) :: ((decide ((0 : Int) ≤ a1)), true) :: ZbY a0 a1 a2 a3) (oY <| oY <| oY <| oY <| oY <| oY <| w5)
           ·
            exact Zg (Zr [(0, false), (1, false), (5, true), (6, true), (15, true), (16, true), (25, true), (26, false)] [] [(0, 2)] [] []) (((decide (a3 ≤ (0 : Int))), false) :: ((decide ((0 : Int) ≤ a3)), true) :: ((decide (a2 ≤ (0 : Int))), true) :: ((decide ((0 : Int) ≤ a2)), true) :: ((decide (a1 ≤ (7 : Int))), true) :: ((decide ((0 : Int) ≤ a1)), true) :: ZbY a0 a1 a2 a3) (oN <| oY <| oY <| oY <| oY <| oY <| w5)
          ·
           exact Zg (Zr [(0, false), (1, false), (5, true), (6, true), (15, true), (16, true), (25, false)] [] [(0, 2)] [] []) (((decide ((0 : Int) ≤ a3)), false) :: ((decide (a2 ≤ (0 : Int))), true) :: ((decide ((0 : Int) ≤ a2)), true) :: ((decide (a1 ≤ (7 : Int))), true) :: ((decide ((0 : Int) ≤ a1)), true) :: ZbY a0 a1 a2 a3) (oN <| oY <| oY <| oY <| oY <| w5)
         ·
          exact Zg (Zr [(0, false), (1, false), (5, true), (6, true), (15, true), (16, false)] [] [(0, 2)] [] []) (((decide (a2 ≤ (0 : Int))), false) :: ((decide ((0 : Int) ≤ a2)), true) :: ((decide (a1 ≤ (7 : Int))), true) :: ((decide ((0 : Int) ≤ a1)), true) :: ZbY a0 a1 a2 a3) (oN <| oY <| oY <| oY <| w5)
        ·
         exact Zg (Zr [(0, false), (1, false), (5, true), (6, true), (15, false)] [] [(0, 2)] [] []) (((decide ((0 : Int) ≤ a2)), false) :: ((decide (a1 ≤ (7 : Int))), true) :: ((decide ((0 : Int) ≤ a1)), true) :: ZbY a0 a1 a2 a3) (oN <| oY <| oY <| w5)
       ·
        exact Zg (Zr [(0, false), (1, false), (5, true), (6, false)] [] [(0, 2)] [] []) (((decide (a1 ≤ (7 : Int))), false) :: ((decide ((0 : Int) ≤ a1)), true) :: ZbY a0 a1 a2 a3) (oN <| oY <| w5)
      ·
       exact Zg (Zr [(0, false), (1, false), (5, false)] [] [(0, 2)] [] []) (((decide ((0 : Int) ≤ a1)), false) :: ZbY a0 a1 a2 a3) (oN <| w5)
     ·
      refine Zf (fun g5 => ?_) (fun g5 => ?_)
      ·
       have w6 : OkL (ZbZ a0 a1 a2 a3) :=
        oB <| oK <| w2
       refine Zf (fun g6 => ?_) (fun g6 => ?_)
       ·
        refine Zf (fun g7 => ?_) (fun g7 => ?_)
        ·
         refine Zf (fun g8 => ?_) (fun g8 => ?_)
         ·
          refine Zf (fun g9 => ?_) (fun g9 => ?_)
          ·
           refine Zf (fun g10 => ?_) (fun g10 => ?_)
           ·
            refine Zf (fun g11 => ?_) (fun g11 => ?_)
            ·
             exact Zak (Zr [(0, false), (1, false), (5, true), (6, true), (10, true), (11, true), (20, true), (21, true)] [] [(0, 3)] [] []) (((decide (a3 ≤ (0 : Int))), true) :: ((decide ((0 : Int) ≤ a3)), true) :: ((decide (a2 ≤ (7 : Int))), true) :: ((decide ((0 : Int) ≤ a2)), true) :: ((decide (a1 ≤ (7 : Int))), true) :: ((decide ((0 : Int) ≤ a1)), true) :: ZbZ a0 a1 a2 a3) (oY <| oY <| oY <| oY <| oY <| oY <| w6)
            ·
             exact Zg (Zr [(0, false), (1, false), (5, true), (6, true), (10, true), (11, true), (20, true), (21, false)] [] [(0, 3)] [] []) (((decide (a3 ≤ (0 : Int))), false) :: ((decide ((0 : Int) ≤ a3)), true) :: ((decide (a2 ≤ (7 : Int))), true) :: ((decide ((0 : Int) ≤ a2)), true) :: ((decide (a1 ≤ (7 : Int))), true) :: ((decide ((0 : Int) ≤ a1)), true) :: ZbZ a0 a1 a2 a3) (oN <| oY <| oY <| oY <| oY <| oY <| w6)
           ·
            exact Zg (Zr [(0, false), (1, false), (5, true), (6, true), (10, true), (11, true), (20, false)] [] [(0, 3)] [] []) (((decide ((0 : Int) ≤ a3)), false) :: ((decide (a2 ≤ (7 : Int))), true) :: ((decide ((0 : Int) ≤ a2)), true) :: ((decide (a1 ≤ (7 : Int))), true) :: ((decide ((0 : Int) ≤ a1)), true) :: ZbZ a0 a1 a2 a3) (oN <| oY <| oY <| oY <| oY <| w6)
          ·
           exact Zg (Zr [(0, false), (1, false), (5, true), (6, true), (10, true), (11, false)] [] [(0, 3)] [] []) (((decide (a2 ≤ (7 : Int))), false) :: ((decide ((0 : Int) ≤ a2)), true) :: ((decide (a1 ≤ (7 : Int))), true) :: ((decide ((0 : Int) ≤ a1)), true) :: ZbZ a0 a1 a2 a3) (oN <| oY <| oY <| oY <| w6)
         ·
          exact Zg (Zr [(0, false), (1, false), (5, true), (6, true), (10, false)] [] [(0, 3)] [] []) (((decide ((0 : Int) ≤ a2)), false) :: ((decide (a1 ≤ (7 : Int))), true) :: ((decide ((0 : Int) ≤ a1)), true) :: ZbZ a0 a1 a2 a3) (oN <| oY <| oY <| w6)
        ·
         exact Zg (Zr [(0, false), (1, false), (5, true), (6, false)] [] [(0, 3)] [] []) (((decide (a1 ≤ (7 : Int))), false) :: ((decide ((0 : Int) ≤ a1)), true) :: ZbZ a0 a1 a2 a3) (oN <| oY <| w6)
       ·
        exact Zg (Zr [(0, false), (1, false), (5, false)] [] [(0, 3)] [] []) (((decide ((0 : Int) ≤ a1)), false) :: ZbZ a0 a1 a2 a3) (oN <| w6)
      ·
       refine Zf (fun g6 => ?_) (fun g6 => ?_)
       ·
        have w7 : OkL (Zca a0 a1 a2 a3) :=
         oB <| oK <| w2
        refine Zf (fun g7 => ?_) (fun g7 => ?_)
        ·
         refine Zf (fun g8 => ?_) (fun g8 => ?_)
         ·
          refine Zf (fun g9 => ?_) (fun g9 => ?_)
          ·
           refine Zf (fun g10 => ?_) (fun g10 => ?_)
           ·
            refine Zf (fun g11 => ?_) (fun g11 => ?_)
            ·
             refine Zf (fun g12 => ?_) (fun g12 => ?_)
             ·
              exact Zak (Zr [(0, false), (1, false), (5, true), (6, true), (10, true), (11, true), (15, true), (16, true)] [] [(0, 4)] [] []) (((decide (a3 ≤ (7 : Int))), true) :: ((decide ((0 : Int) ≤ a3)), true) :: ((decide (a2 ≤ (7 : Int))), true) :: ((decide ((0 : Int) ≤ a2)), true) :: ((decide (a1 ≤ (7 : Int))), true) :: ((decide ((0 : Int) ≤ a1)), true) :: Zca a0 a1 a2 a3) (oY <| oY <| oY <| oY <| oY <| oY <| w7)
             ·
              exact Zg (Zr [(0, false), (1, false), (5, true), (6, true), (10, true), (11, true), (15, true), (16, false)] [] [(0, 4)] [] []) (((decide (a3 ≤ (7 : Int))), false) :: ((decide ((0 : Int) ≤ a3)), true) :: ((decide (a2 ≤ (7 : Int))), true) :: ((decide ((0 : Int) ≤ a2)), true) :: ((decide (a1 ≤ (7 : Int))), true) :: ((decide ((0 : Int) ≤ a1)), true) :: Zca a0 a1 a2 a3) (oN <| oY <| oY <| oY <| oY <| oY <| w7)
            ·
             exact Zg (Zr [(0, false), (1, false), (5, true), (6, true), (10, true), (11, true), (15, false)] [] [(0, 4)] [] []) (((decide ((0 : Int) ≤ a3)), false) :: ((decide (a2 ≤ (7 : Int))), true) :: ((decide ((0 : Int) ≤ a2)), true) :: ((decide (a1 ≤ (7 : Int))), true) :: ((decide ((0 : Int) ≤ a1)), true) :: Zca a0 a1 a2 a3) (oN <| oY <| oY <| oY <| oY <| w7)
           ·
            exact Zg (Zr [(0, false), (1, false), (5, true), (6, true), (10, true), (11, false)] [] [(0, 4)] [] []) (((decide (a2 ≤ (7 : Int))), false) :: ((decide ((0 : Int) ≤ a2)), true) :: ((decide (a1 ≤ (7 : Int))), true) :: ((decide ((0 : Int) ≤ a1)), true) :: Zca a0 a1 a2 a3) (oN <| oY <| oY <| oY <| w7)
          ·
           exact Zg (Zr [(0, false), (1, false), (5, true), (6, true), (10, false)] [] [(0, 4)] [] []) (((decide ((0 : Int) ≤ a2)), false) :: ((decide (a1 ≤ (7 : Int))), true) :: ((decide ((0 : Int) ≤ a1)), true) :: Zca a0 a1 a2 a3) (oN <| oY <| oY <| w7)
         ·
          exact Zg (Zr [(0, false), (1, false), (5, true), (6, false)] [] [(0, 4)] [] []) (((decide (a1 ≤ (7 : Int))), false) :: ((decide ((0 : Int) ≤ a1)), true) :: Zca a0 a1 a2 a3) (oN <| oY <| w7)
        ·
         exact Zg (Zr [(0, false), (1, false), (5, false)] [] [(0, 4)] [] []) (((decide ((0 : Int) ≤ a1)), false) :: Zca a0 a1 a2 a3) (oN <| w7)
       ·
        refine Zf (fun g7 => ?_) (fun g7 => ?_)
        ·
         have w8 : OkL (Zcb a0 a1 a2 a3) :=
          oB <| oK <| w2
         refine Zf (fun g8 => ?_) (fun g8 => ?_)
         ·
          refine Zf (fun g9 => ?_) (fun g9 => ?_)
          ·
           refine Zf (fun g10 => ?_) (fun g10 => ?_)
           ·
            refine Zf (fun g11 => ?_) (fun g11 => ?_)
            ·
             refine Zf (fun g12 => ?_) (fun g12 => ?_)
             ·
              refine Zf (fun g13 => ?_) (fun g13 => ?_)
              ·
               exact Zak (Zr [(0, false), (1, false), (5, true), (6, true), (10, true), (11, true), (15, true), (16, true)] [] [(0, 5)] [] []) (((decide (a3 ≤ (7 : Int))), true) :: ((decide ((0 : Int) ≤ a3)), true) :: ((decide (a2 ≤ (7 : Int))), true) :: ((decide ((0 : Int) ≤ a2)), true) :: ((decide (a1 ≤ (7 : Int))), true) :: ((decide ((0 : Int) ≤ a1)), true) :: Zcb a0 a1 a2 a3) (oY <| oY <| oY <| oY <| oY <| oY <| w8)
              ·
               exact Zg (Zr [(0, false), (1, false), (5, true), (6, true), (10, true), (11, true), (15, true), (16, false)] [] [(0, 5)] [] []) (((decide (a3 ≤ (7 : Int))), false) :: ((decide ((0 : Int) ≤ a3)), true) :: ((decide (a2 ≤ (7 : Int))), true) :: ((decide ((0 : Int) ≤ a2)), true) :: ((decide (a1 ≤ (7 : Int))), true) :: ((decide ((0 : Int) ≤ a1)), true) :: Zcb a0 a1 a2 a3) (oN <| oY <| oY <| oY <| oY <| oY <| w8)
             ·
              exact Zg (Zr [(0, false), (1, false), (5, true), (6, true), (10, true), (11, true), (15, false)] [] [(0, 5)] [] []) (((decide ((0 : Int) ≤ a3)), false) :: ((decide (a2 ≤ (7 : Int))), true) :: ((decide ((0 : Int) ≤ a2)), true) :: ((decide (a1 ≤ (7 : Int))), true) :: ((decide ((0 : Int) ≤ a1)), true) :: Zcb a0 a1 a2 a3) (oN <| oY <| oY <| oY <| oY <| w8)
            ·
             exact Zg (Zr [(0, false), (1, false), (5, true), (6, true), (10, true), (11, false)] [] [(0, 5)] [] []) (((decide (a2 ≤ (7 : Int))), false) :: ((decide ((0 : Int) ≤ a2)), true) :: ((decide (a1 ≤ (7 : Int))), true) :: ((decide ((0 : Int) ≤ a1)), true) :: Zcb a0 a1 a2 a3) (oN <| oY <| oY <| oY <| w8)
           ·
            exact Zg (Zr [(0, false), (1, false), (5, true), (6, true), (10, false)] [] [(0, 5)] [] []) (((decide ((0 : Int) ≤ a2)), false) :: ((decide (a1 ≤ (7 : Int))), true) :: ((decide ((0 : Int) ≤ a1)), true) :: Zcb a0 a1 a2 a3) (oN <| oY <| oY <| w8)
          ·
           exact Zg (Zr [(0, false), (1, false), (5, true), (6, false)] [] [(0, 5)] [] []) (((decide (a1 ≤ (7 : Int))), false) :: ((decide ((0 : Int) ≤ a1)), true) :: Zcb a0 a1 a2 a3) (oN <| oY <| w8)
         ·
          exact Zg (Zr [(0, false), (1, false), (5, false)] [] [(0, 5)] [] []) (((decide ((0 : Int) ≤ a1)), false) :: Zcb a0 a1 a2 a3) (oN <| w8)
        ·
         refine Zf (fun g8 => ?_) (fun g8 => ?_)
         ·
          have w9 : OkL (Zcc a0 a1 a2 a3) :=
           oB <| oK <| w2
          refine Zf (fun g9 => ?_) (fun g9 => ?_)
          ·
           refine Zf (fun g10 => ?_) (fun g10 => ?_)
           ·
            refine Zf (fun g11 => ?_) (fun g11 => ?_)
            ·
             refine Zf (fun g12 => ?_) (fun g12 => ?_)
             ·
              refine Zf (fun g13 => ?_) (fun g13 => ?_)
              ·
               refine Zf (fun g14 => ?_) (fun g14 => ?_)
               ·
                exact Zak (Zr [(0, false), (1, false), (5, true), (6, true), (10, true), (11, true), (15, true), (16, true)] [] [(0, 6)] [] []) (((decide (a3 ≤ (7 : Int))), true) :: ((decide ((0 : Int) ≤ a3)), true) :: ((decide (a2 ≤ (7 : Int))), true) :: ((decide ((0 : Int) ≤ a2)), true) :: ((decide (a1 ≤ (7 : Int))), true) :: ((decide ((0 : Int) ≤ a1)), true) :: Zcc a0 a1 a2 a3) (oY <| oY <| oY <| oY <| oY <| oY <| w9)
               ·
                exact Zg (Zr [(0, false), (1, false), (5, true), (6, true), (10, true), (11, true), (15, true), (16, false)] [] [(0, 6)] [] []) (((decide (a3 ≤ (7 : Int))), false) :: ((decide ((0 : Int) ≤ a3)), true) :: ((decide (a2 ≤ (7 : Int))), true) :: ((decide ((0 : Int) ≤ a2)), true) :: ((decide (a1 ≤ (7 : Int))), true) :: ((decide ((0 : Int) ≤ a1)), true) :: Zcc a0 a1 a2 a3) (oN <| oY <| oY <| oY <| oY <| oY <| w9)
              ·
               exact Zg (Zr [(0, false), (1, false), (5, true), (6, true), (10, true), (11, true), (15, false)] [] [(0, 6)] [] []) (((decide ((0 : Int) ≤ a3)), false) :: ((decide (a2 ≤ (7 : Int))), true) :: ((decide ((0 : Int) ≤ a2)), true) :: ((decide (a1 ≤ (7 : Int))), true) :: ((decide ((0 : Int) ≤ a1)), true) :: Zcc a0 a1 a2 a3) (oN <| oY <| oY <| oY <| oY <| w9)
             ·
              exact Zg (Zr [(0, false), (1, false), (5, true), (6, true), (10, true), (11, false)] [] [(0, 6)] [] []) (((decide (a2 ≤ (7 : Int))), false) :: ((decide ((0 : Int) ≤ a2)), true) :: ((decide (a1 ≤ (7 : Int))), true) :: ((decide ((0 : Int) ≤ a1)), true) :: Zcc a0 a1 a2 a3) (oN <| oY <| oY <| oY <| w9)
            ·
             exact Zg (Zr [(0, false), (1, false), (5, true), (6, true), (10, false)] [] [(0, 6)] [] []) (((decide ((0 : Int) ≤ a2)), false) :: ((decide (a1 ≤ (7 : Int))), true) :: ((decide ((0 : Int) ≤ a1)), true) :: Zcc a0 a1 a2 a3) (oN <| oY <| oY <| w9)
           ·
            exact Zg (Zr [(0, false), (1, false), (5, true), (6, false)] [] [(0, 6)] [] []) (((decide (a1 ≤ (7 : Int))), false) :: ((decide ((0 : Int) ≤ a1)), true) :: Zcc a0 a1 a2 a3) (oN <| oY <| w9)
          ·
           exact Zg (Zr [(0, false), (1, false), (5, false)] [] [(0, 6)] [] []) (((decide ((0 : Int) ≤ a1)), false) :: Zcc a0 a1 a2 a3) (oN <| w9)
         ·
          refine Zf (fun g9 => ?_) (fun g9 => ?_)
          ·
           have w10 : OkL (Zcd a0 a1 a2 a3) :=
            oB <| oK <| w2
           refine Zf (fun g10 => ?_) (fun g10 => ?_)
           ·
            refine Zf (fun g11 => ?_) (fun g11 => ?_)
            ·
             refine Zf (fun g12 => ?_) (fun g12 => ?_)
             ·
              refine Zf (fun g13 => ?_) (fun g13 => ?_)
              ·
               refine Zf (fun g14 => ?_) (fun g14 => ?_)
               ·
                refine Zf (fun g15 => ?_) (fun g15 => ?_)
                ·
                 exact Zak (Zr [(0, false), (1, false), (5, true), (6, true), (10, true), (11, true), (15, true), (16, true)] [] [(0, 7)] [] []) (((decide (a3 ≤ (7 : Int))), true) :: ((decide ((0 : Int) ≤ a3)), true) :: ((decide (a2 ≤ (7 : Int))), true) :: ((decide ((0 : Int) ≤ a2)), true) :: ((decide (a1 ≤ (7 : Int))), true) :: ((decide ((0 : Int) ≤ a1)), true) :: Zcd a0 a1 a2 a3) (oY <| oY <| oY <| oY <| oY <| oY <| w10)
                ·
                 exact Zg (Zr [(0, false), (1, false), (5, true), (6, true), (10, true), (11, true), (15, true), (16, false)] [] [(0, 7)] [] []) (((decide (a3 ≤ (7 : Int))), false) :: ((decide ((0 : Int) ≤ a3)), true) :: ((decide (a2 ≤ (7 : Int))), true) :: ((decide ((0 : Int) ≤ a2)), true) :: ((decide (a1 ≤ (7 : Int))), true) :: ((decide ((0 : Int) ≤ a1)), true) :: Zcd a0 a1 a2 a3) (oN <| oY <| oY <| oY <| oY <| oY <| w10)
               ·
                exact Zg (Zr [(0, false), (1, false), (5, true), (6, true), (10, true), (11, true), (15, false)] [] [(0, 7)] [] []) (((decide ((0 : Int) ≤ a3)), false) :: ((decide (a2 ≤ (7 : Int))), true) :: ((decide ((0 : Int) ≤ a2)), true) :: ((decide (a1 ≤ (7 : Int))), true) :: ((decide ((0 : Int) ≤ a1)), true) :: Zcd a0 a1 a2 a3) (oN <| oY <| oY <| oY <| oY <| w10)
              ·
               exact Zg (Zr [(0, false), (1, false), (5, true), (6, true), (10, true), (11, false)] [] [(0, 7)] [] []) (((decide (a2 ≤ (7 : Int))), false) :: ((decide ((0 : Int) ≤ a2)), true) :: ((decide (a1 ≤ (7 : Int))), true) :: ((decide ((0 : Int) ≤ a1)), true) :: Zcd a0 a1 a2 a3) (oN <| oY <| oY <| oY <| w10)
             ·
              exact Zg (Zr [(0, false), (1, false), (5, true), (6, true), (10, false)] [] [(0, 7)] [] []) (((decide ((0 : Int) ≤ a2)), false) :: ((decide (a1 ≤ (7 : Int))), true) :: ((decide ((0 : Int) ≤ a1)), true) :: Zcd a0 a1 a2 a3) (oN <| oY <| oY <| w10)
            ·
             exact Zg (Zr [(0, false), (1, false), (5, true), (6, false)] [] [(0, 7)] [] []) (((decide (a1 ≤ (7 : Int))), false) :: ((decide ((0 : Int) ≤ a1)), true) :: Zcd a0 a1 a2 a3) (oN <| oY <| w10)
           ·
            exact Zg (Zr [(0, false), (1, false), (5, false)] [] [(0, 7)] [] []) (((decide ((0 : Int) ≤ a1)), false) :: Zcd a0 a1 a2 a3) (oN <| w10)
          ·
           refine Zf (fun g10 => ?_) (fun g10 => ?_)
           ·
            have w11 : OkL (Zce a0 a1 a2 a3) :=
             oB <| oK <| w2
            refine Zf (fun g11 => ?_) (fun g11 => ?_)
            ·
             refine Zf (fun g12 => ?_) (fun g12 => ?_)
             ·
              refine Zf (fun g13 => ?_) (fun g13 => ?_)
              ·
               refine Zf (fun g14 => ?_) (fun g14 => ?_)
               ·
                refine Zf (fun g15 => ?_) (fun g15 => ?_)
                ·
                 refine Zf (fun g16 => ?_) (fun g16 => ?_)
                 ·
                  exact Zak (Zr [(0, false), (1, false), (8, true), (9, true), (18, true), (19, true), (28, true), (29, true)] [] [(0, 8)] [] []) (((decide (a3 ≤ (0 : Int))), true) :: ((decide ((0 : Int) ≤ a3)), true) :: ((decide (a2 ≤ (0 : Int))), true) :: ((decide ((0 : Int) ≤ a2)), true) :: ((decide (a1 ≤ (512 : Int))), true) :: ((decide ((0 : Int) ≤ a1)), true) :: Zce a0 a1 a2 a3) (oY <| oY <| oY <| oY <| oY <| oY <| w11)
                 ·
                  exact Zg (Zr [(0, false), (1, false), (8, true), (9, true), (18, true), (19, true), (28, true), (29, false)] [] [(0, 8)] [] []) (((decide (a3 ≤ (0 : Int))), false) :: ((decide ((0 : Int) ≤ a3)), true) :: ((decide (a2 ≤ (0 : Int))), true) :: ((decide ((0 : Int) ≤ a2)), true) :: ((decide (a1 ≤ (512 : Int))), true) :: ((decide ((0 : Int) ≤ a1)), true) :: Zce a0 a1 a2 a3) (oN <| oY <| oY <| oY <| oY <| oY <| w11)
                ·
                 exact Zg (Zr [(0, false), (1, false), (8, true), (9, true), (18, true), (19, true), (28, false)] [] [(0, 8)] [] []) (((decide ((0 : Int) ≤ a3)), false) :: ((decide (a2 ≤ (0 : Int))), true) :: ((decide ((0 : Int) ≤ a2)), true) :: ((decide (a1 ≤ (512 : Int))), true) :: ((decide ((0 : Int) ≤ a1)), true) :: Zce a0 a1 a2 a3) (oN <| oY <| oY <| oY <| oY <| w11)
               ·
                exact Zg (Zr [(0, false), (1, false), (8, true), (9, true), (18, true), (19, false)] [] [(0, 8)] [] []) (((decide (a2 ≤ (0 : Int))), false) :: ((decide ((0 : Int) ≤ a2)), true) :: ((decide (a1 ≤ (512 : Int))), true) :: ((decide ((0 : Int) ≤ a1)), true) :: Zce a0 a1 a2 a3) (oN <| oY <| oY <| oY <| w11)
              ·
               exact Zg (Zr [(0, false), (1, false), (8, true), (9, true), (18, false)] [] [(0, 8)] [] []) (((decide ((0 : Int) ≤ a2)), false) :: ((decide (a1 ≤ (512 : Int))), true) :: ((decide ((0 : Int) ≤ a1)), true) :: Zce a0 a1 a2 a3) (oN <| oY <| oY <| w11)
             ·
              exact Zg (Zr [(0, false), (1, false), (8, true), (9, false)] [] [(0, 8)] [] []) (((decide (a1 ≤ (512 : Int))), false) :: ((decide ((0 : Int) ≤ a1)), true) :: Zce a0 a1 a2 a3) (oN <| oY <| w11)
            ·
             exact Zg (Zr [(0, false), (1, false), (8, false)] [] [(0, 8)] [] []) (((decide ((0 : Int) ≤ a1)), false) :: Zce a0 a1 a2 a3) (oN <| w11)
           ·
            refine Zf (fun g11 => ?_) (fun g11 => ?_)
            ·
             have w12 : OkL (Zb2 a0 a1 a2 a3) :=
              oB <| oK <| w2
             refine Zf (fun g12 => ?_) (fun g12 => ?_)
             ·
              refine Zf (fun g13 => ?_) (fun g13 => ?_)
              ·
               refine Zf (fun g14 => ?_) (fun g14 => ?_)
               ·
                refine Zf (fun g15 => ?_) (fun g15 => ?_)
                ·
                 refine Zf (fun g16 => ?_) (fun g16 => ?_)
                 ·
                  refine Zf (fun g17 => ?_) (fun g17 => ?_)
                  ·
                   exact Zak (Zr [(0, false), (1, false), (5, true), (6, true), (13, true), (14, true), (23, true), (24, true)] [] [(0, 9)] [] []) (((decide (a3 ≤ (0 : Int))), true) :: ((decide ((0 : Int) ≤ a3)), true) :: ((decide (a2 ≤ (512 : Int))), true) :: ((decide ((0 : Int) ≤ a2)), true) :: ((decide (a1 ≤ (7 : Int))), true) :: ((decide ((0 : Int) ≤ a1)), true) :: Zb2 a0 a1 a2 a3) (oY <| oY <| oY <| oY <| oY <| oY <| w12)
                  ·
                   exact Zg (Zr [(0, false), (1, false), (5, true), (6, true), (13, true), (14, true), (23, true), (24, false)] [] [(0, 9)] [] []) (((decide (a3 ≤ (0 : Int))), false) :: ((decide ((0 : Int) ≤ a3)), true) :: ((decide (a2 ≤ (512 : Int))), true) :: ((decide ((0 : Int) ≤ a2)), true) :: ((decide (a1 ≤ (7 : Int))), true) :: ((decide ((0 : Int) ≤ a1)), true) :: Zb2 a0 a1 a2 a3) (oN <| oY <| oY <| oY <| oY <| oY <| w12)
                 ·
                  exact Zg (Zr [(0, false), (1, false), (5, true), (6, true), (13, true), (14, true), (23, false)] [] [(0, 9)] [] []) (((decide ((0 : Int) ≤ a3)), false) :: ((decide (a2 ≤ (512 : Int))), true) :: ((decide ((0 : Int) ≤ a2)), true) :: ((decide (a1 ≤ (7 : Int))), true) :: ((decide ((0 : Int) ≤ a1)), true) :: Zb2 a0 a1 a2 a3) (oN <| oY <| oY <| oY <| oY <| w12)
                ·
                 exact Zg (Zr [(0, false), (1, false), (5, true), (6, true), (13, true), (14, false)] [] [(0, 9)] [] []) (((decide (a2 ≤ (512 : Int))), false) :: ((decide ((0 : Int) ≤ a2)), true) :: ((decide (a1 ≤ (7 : Int))), true) :: ((decide ((0 : Int) ≤ a1)), true) :: Zb2 a0 a1 a2 a3) (oN <| oY <| oY <| oY <| w12)
               ·
                exact Zg (Zr [(0, false), (1, false), (5, true), (6, true), (13, false)] [] [(0, 9)] [] []) (((decide ((0 : Int) ≤ a2)), false) :: ((decide (a1 ≤ (7 : Int))), true) :: ((decide ((0 : Int) ≤ a1)), true) :: Zb2 a0 a1 a2 a3) (oN <| oY <| oY <| w12)
              ·
               exact Zg (Zr [(0, false), (1, false), (5, true), (6, false)] [] [(0, 9)] [] []) (((decide (a1 ≤ (7 : Int))), false) :: ((decide ((0 : Int) ≤ a1)), true) :: Zb2 a0 a1 a2 a3) (oN <| oY <| w12)
             ·
              exact Zg (Zr [(0, false), (1, false), (5, false)] [] [(0, 9)] [] []) (((decide ((0 : Int) ≤ a1)), false) :: Zb2 a0 a1 a2 a3) (oN <| w12)
            ·
             refine Zf (fun g12 => ?_) (fun g12 => ?_)
             ·
              have w13 : OkL (Zb3 a0 a1 a2 a3) :=
               oB <| oK <| w2
              refine Zf (fun g13 => ?_) (fun g13 => ?_)
              ·
               refine Zf (fun g14 => ?_) (fun g14 => ?_)
               ·
                refine Zf (fun g15 => ?_) (fun g15 => ?_)
                ·
                 refine Zf (fun g16 => ?_) (fun g16 => ?_)
                 ·
                  refine Zf (fun g17 => ?_) (fun g17 => ?_)
                  ·
                   refine Zf (fun g18 => ?_) (fun g18 => ?_)
                   ·
                    exact Zak (Zr [(0, false), (1, false), (5, true), (6, true), (15, true), (16, true), (25, true), (26, true)] [] [(0, 10)] [] []) (((decide (a3 ≤ (0 : Int))), true) :: ((decide ((0 : Int) ≤ a3)), true) :: ((decide (a2 ≤ (0 : Int))), true) :: ((decide ((0 : Int) ≤ a2)), true) :: ((decide (a1 ≤ (7 : Int))), true) :: ((decide ((0 : Int) ≤ a1)), true) :: Zb3 a0 a1 a2 a3) (oY <| oY <| oY <| oY <| oY <| oY <| w13)
                   ·
                    exact Zg (Zr [(0, false), (1, false), (5, true), (6, true), (15, true), (16, true), (25, true), (26, false)] [] [(0, 10)] [] []) (((decide (a3 ≤ (0 : Int))), false) :: ((decide ((0 : Int) ≤ a3)), true) :: ((decide (a2 ≤ (0 : Int))), true) :: ((decide ((0 : Int) ≤ a2)), true) :: ((decide (a1 ≤ (7 : Int))), true) :: ((decide ((0 : Int) ≤ a1)), true) :: Zb3 a0 a1 a2 a3) (oN <| oY <| oY <| oY <| oY <| oY <| w13)
                  ·
                   exact Zg (Zr [(0, false), (1, false), (5, true), (6, true), (15, true), (16, true), (25, false)] [] [(0, 10)] [] []) (((decide ((0 : Int) ≤ a3)), false) :: ((decide (a2 ≤ (0 : Int))), true) :: ((decide ((0 : Int) ≤ a2)), true) :: ((decide (a1 ≤ (7 : Int))), true) :: ((decide ((0 : Int) ≤ a1)), true) :: Zb3 a0 a1 a2 a3) (oN <| oY <| oY <| oY <| oY <| w13)
                 ·
                  exact Zg (Zr [(0, false), (1, false), (5, true), (6, true), (15, true), (16, false)] [] [(0, 10)] [] []) (((decide (a2 ≤ (0 : Int))), false) :: ((decide ((0 : Int) ≤ a2)), true) :: ((decide (a1 ≤ (7 : Int))), true) :: ((decide ((0 : Int) ≤ a1)), true) :: Zb3 a0 a1 a2 a3) (oN <| oY <| oY <| oY <| w13)
                ·
                 exact Zg (Zr [(0, false), (1, false), (5, true), (6, true), (15, false)] [] [(0, 10)] [] []) (((decide ((0 : Int) ≤ a2)), false) :: ((decide (a1 ≤ (7 : Int))), true) :: ((decide ((0 : Int) ≤ a1)), true) :: Zb3 a0 a1 a2 a3) (oN <| oY <| oY <| w13)
               ·
                exact Zg (Zr [(0, false), (1, false), (5, true), (6, false)] [] [(0, 10)] [] []) (((decide (a1 ≤ (7 : Int))), false) :: ((decide ((0 : Int) ≤ a1)), true) :: Zb3 a0 a1 a2 a3) (oN <| oY <| w13)
              ·
               exact Zg (Zr [(0, false), (1, false), (5, false)] [] [(0, 10)] [] []) (((decide ((0 : Int) ≤ a1)), false) :: Zb3 a0 a1 a2 a3) (oN <| w13)
             ·
              refine Zf (fun g13 => ?_) (fun g13 => ?_)
              ·
               have w14 : OkL (ZcF a0 a1 a2 a3) :=
                oB <| oK <| w2
               refine Zf (fun g14 => ?_) (fun g14 => ?_)
               ·
                refine Zf (fun g15 => ?_) (fun g15 => ?_)
                ·
                 refine Zf (fun g16 => ?_) (fun g16 => ?_)
                 ·
                  refine Zf (fun g17 => ?_) (fun g17 => ?_)
                  ·
                   have w18 : OkL (Zfb a0 a1 a2 a3) :=
                    Zc (Zn ⟨by first | rfl | exact ZfX (by omega), show _ ≤ 64 from by omega⟩) <| oY <| oY <| oY <| oY <| w14
                   refine Zf (fun g18 => ?_) (fun g18 => ?_)
                   ·
                    refine Zf (fun g19 => ?_) (fun g19 => ?_)
                    ·
                     exact Zak (Zr [(0, false), (1, false), (5, true), (6, true), (12, true), (13, true), (21, true), (22, true)] [] [(0, 11)] [] [(4, .sh (a2).toNat)]) (((decide (a3 ≤ (IntKind.i64.wrap ((IntKind.i64.wrap ((1 : Int) * (2 ^ (a2).toNat : Int))) - (1 : Int))))), true) :: ((decide ((0 : Int) ≤ a3)), true) :: Zfb a0 a1 a2 a3) (oY <| oY <| w18)
                    ·
                     exact Zg (Zr [(0, false), (1, false), (5, true), (6, true), (12, true), (13, true), (21, true), (22, false)] [] [(0, 11)] [] [(4, .sh (a2).toNat)]) (((decide (a3 ≤ (IntKind.i64.wrap ((IntKind.i64.wrap ((1 : Int) * (2 ^ (a2).toNat : Int))) - (1 : Int))))), false) :: ((decide ((0 : Int) ≤ a3)), true) :: Zfb a0 a1 a2 a3) (oN <| oY <| w18)
                   ·
                    exact Zg (Zr [(0, false), (1, false), (5, true), (6, true), (12, true), (13, true), (21, false)] [] [(0, 11)] [] [(4, .sh (a2).toNat)]) (((decide ((0 : Int) ≤ a3)), false) :: Zfb a0 a1 a2 a3) (oN <| w18)
                  ·
                   exact Zg (Zr [(0, false), (1, false), (5, true), (6, true), (12, true), (13, false)] [] [(0, 11)] [] []) (((decide (a2 ≤ (16 : Int))), false) :: ((decide ((1 : Int) ≤ a2)), true) :: ((decide (a1 ≤ (7 : Int))), true) :: ((decide ((0 : Int) ≤ a1)), true) :: ZcF a0 a1 a2 a3) (oN <| oY <| oY <| oY <| w14)
                 ·
                  exact Zg (Zr [(0, false), (1, false), (5, true), (6, true), (12, false)] [] [(0, 11)] [] []) (((decide ((1 : Int) ≤ a2)), false) :: ((decide (a1 ≤ (7 : Int))), true) :: ((decide ((0 : Int) ≤ a1)), true) :: ZcF a0 a1 a2 a3) (oN <| oY <| oY <| w14)
                ·
                 exact Zg (Zr [(0, false), (1, false), (5, true), (6, false)] [] [(0, 11)] [] []) (((decide (a1 ≤ (7 : Int))), false) :: ((decide ((0 : Int) ≤ a1)), true) :: ZcF a0 a1 a2 a3) (oN <| oY <| w14)
               ·
                exact Zg (Zr [(0, false), (1, false), (5, false)] [] [(0, 11)] [] []) (((decide ((0 : Int) ≤ a1)), false) :: ZcF a0 a1 a2 a3) (oN <| w14)
              ·
               refine Zf (fun g14 => ?_) (fun g14 => ?_)
               ·
                have w15 : OkL (Zb4 a0 a1 a2 a3) :=
                 oB <| oK <| w2
                refine Zf (fun g15 => ?_) (fun g15 => ?_)
                ·
                 refine Zf (fun g16 => ?_) (fun g16 => ?_)
                 ·
                  refine Zf (fun g17 => ?_) (fun g17 => ?_)
                  ·
                   refine Zf (fun g18 => ?_) (fun g18 => ?_)
                   ·
                    refine Zf (fun g19 => ?_) (fun g19 => ?_)
                    ·
                     refine Zf (fun g20 => ?_) (fun g20 => ?_)
                     ·
                      exact Zak (Zr [(0, false), (1, false), (5, true), (6, true), (15, true), (16, true), (25, true), (26, true)] [] [(0, 12)] [] []) (((decide (a3 ≤ (0 : Int))), true) :: ((decide ((0 : Int) ≤ a3)), true) :: ((decide (a2 ≤ (0 : Int))), true) :: ((decide ((0 : Int) ≤ a2)), true) :: ((decide (a1 ≤ (7 : Int))), true) :: ((decide ((0 : Int) ≤ a1)), true) :: Zb4 a0 a1 a2 a3) (oY <| oY <| oY <| oY <| oY <| oY <| w15)
                     ·
                      exact Zg (Zr [(0, false), (1, false), (5, true), (6, true), (15, true), (16, true), (25, true), (26, false)] [] [(0, 12)] [] []) (((decide (a3 ≤ (0 : Int))), false) :: ((decide ((0 : Int) ≤ a3)), true) :: ((decide (a2 ≤ (0 : Int))), true) :: ((decide ((0 : Int) ≤ a2)), true) :: ((decide (a1 ≤ (7 : Int))), true) :: ((decide ((0 : Int) ≤ a1)), true) :: Zb4 a0 a1 a2 a3) (oN <| oY <| oY <| oY <| oY <| oY <| w15)
                    ·
                     exact Zg (Zr [(0, false), (1, false), (5, true), (6, true), (15, true), (16, true), (25, false)] [] [(0, 12)] [] []) (((decide ((0 : Int) ≤ a3)), false) :: ((decide (a2 ≤ (0 : Int))), true) :: ((decide ((0 : Int) ≤ a2)), true) :: ((decide (a1 ≤ (7 : Int))), true) :: ((decide ((0 : Int) ≤ a1)), true) :: Zb4 a0 a1 a2 a3) (oN <| oY <| oY <| oY <| oY <| w15)
                   ·
                    exact Zg (Zr [(0, false), (1, false), (5, true), (6, true), (15, true), (16, false)] [] [(0, 12)] [] []) (((decide (a2 ≤ (0 : Int))), false) :: ((decide ((0 : Int) ≤ a2)), true) :: ((decide (a1 ≤ (7 : Int))), true) :: ((decide ((0 : Int) ≤ a1)), true) :: Zb4 a0 a1 a2 a3) (oN <| oY <| oY <| oY <| w15)
                  ·
                   exact Zg (Zr [(0, false), (1, false), (5, true), (6, true), (15, false)] [] [(0, 12)] [] []) (((decide ((0 : Int) ≤ a2)), false) :: ((decide (a1 ≤ (7 : Int))), true) :: ((decide ((0 : Int) ≤ a1)), true) :: Zb4 a0 a1 a2 a3) (oN <| oY <| oY <| w15)
                 ·
                  exact Zg (Zr [(0, false), (1, false), (5, true), (6, false)] [] [(0, 12)] [] []) (((decide (a1 ≤ (7 : Int))), false) :: ((decide ((0 : Int) ≤ a1)), true) :: Zb4 a0 a1 a2 a3) (oN <| oY <| w15)
                ·
                 exact Zg (Zr [(0, false), (1, false), (5, false)] [] [(0, 12)] [] []) (((decide ((0 : Int) ≤ a1)), false) :: Zb4 a0 a1 a2 a3) (oN <| w15)
               ·
                refine Zf (fun g15 => ?_) (fun g15 => ?_)
                ·
                 have w16 : OkL (Zb5 a0 a1 a2 a3) :=
                  oB <| oK <| w2
                 refine Zf (fun g16 => ?_) (fun g16 => ?_)
                 ·
                  refine Zf (fun g17 => ?_) (fun g17 => ?_)
                  ·
                   refine Zf (fun g18 => ?_) (fun g18 => ?_)
                   ·
                    refine Zf (fun g19 => ?_) (fun g19 => ?_)
                    ·
                     refine Zf (fun g20 => ?_) (fun g20 => ?_)
                     ·
                      refine Zf (fun g21 => ?_) (fun g21 => ?_)
                      ·
                       exact Zak (Zr [(0, false), (1, false), (5, true), (6, true), (10, true), (11, true), (16, true), (17, true)] [] [(0, 13)] [] []) (((decide (a3 ≤ (15 : Int))), true) :: ((decide ((0 : Int) ≤ a3)), true) :: ((decide (a2 ≤ (7 : Int))), true) :: ((decide ((0 : Int) ≤ a2)), true) :: ((decide (a1 ≤ (7 : Int))), true) :: ((decide ((0 : Int) ≤ a1)), true) :: Zb5 a0 a1 a2 a3) (oY <| oY <| oY <| oY <| oY <| oY <| w16)
                      ·
                       exact Zg (Zr [(0, false), (1, false), (5, true), (6, true), (10, true), (11, true), (16, true), (17, false)] [] [(0, 13)] [] []) (((decide (a3 ≤ (15 : Int))), false) :: ((decide ((0 : Int) ≤ a3)), true) :: ((decide (a2 ≤ (7 : Int))), true) :: ((decide ((0 : Int) ≤ a2)), true) :: ((decide (a1 ≤ (7 : Int))), true) :: ((decide ((0 : Int) ≤ a1)), true) :: Zb5 a0 a1 a2 a3) (oN <| oY <| oY <| oY <| oY <| oY <| w16)
                     ·
                      exact Zg (Zr [(0, false), (1, false), (5, true), (6, true), (10, true), (11, true), (16, false)] [] [(0, 13)] [] []) (((decide ((0 : Int) ≤ a3)), false) :: ((decide (a2 ≤ (7 : Int))), true) :: ((decide ((0 : Int) ≤ a2)), true) :: ((decide (a1 ≤ (7 : Int))), true) :: ((decide ((0 : Int) ≤ a1)), true) :: Zb5 a0 a1 a2 a3) (oN <| oY <| oY <| oY <| oY <| w16)
                    ·
                     exact Zg (Zr [(0, false), (1, false), (5, true), (6, true), (10, true), (11, false)] [] [(0, 13)] [] []) (((decide (a2 ≤ (7 : Int))), false) :: ((decide ((0 : Int) ≤ a2)), true) :: ((decide (a1 ≤ (7 : Int))), true) :: ((decide ((0 : Int) ≤ a1)), true) :: Zb5 a0 a1 a2 a3) (oN <| oY <| oY <| oY <| w16)
                   ·
                    exact Zg (Zr [(0, false), (1, false), (5, true), (6, true), (10, false)] [] [(0, 13)] [] []) (((decide ((0 : Int) ≤ a2)), false) :: ((decide (a1 ≤ (7 : Int))), true) :: ((decide ((0 : Int) ≤ a1)), true) :: Zb5 a0 a1 a2 a3) (oN <| oY <| oY <| w16)
                  ·
                   exact Zg (Zr [(0, false), (1, false), (5, true), (6, false)] [] [(0, 13)] [] []) (((decide (a1 ≤ (7 : Int))), false) :: ((decide ((0 : Int) ≤ a1)), true) :: Zb5 a0 a1 a2 a3) (oN <| oY <| w16)
                 ·
                  exact Zg (Zr [(0, false), (1, false), (5, false)] [] [(0, 13)] [] []) (((decide ((0 : Int) ≤ a1)), false) :: Zb5 a0 a1 a2 a3) (oN <| w16)
                ·
                 refine Zf (fun g16 => ?_) (fun g16 => ?_)
                 ·
                  have w17 : OkL (Zb6 a0 a1 a2 a3) :=
                   oB <| oK <| w2
                  refine Zf (fun g17 => ?_) (fun g17 => ?_)
                  ·
                   refine Zf (fun g18 => ?_) (fun g18 => ?_)
                   ·
                    refine Zf (fun g19 => ?_) (fun g19 => ?_)
                    ·
                     refine Zf (fun g20 => ?_) (fun g20 => ?_)
                     ·
                      refine Zf (fun g21 => ?_) (fun g21 => ?_)
                      ·
                       refine Zf (fun g22 => ?_) (fun g22 => ?_)
                       ·
                        exact Zak (Zr [(0, false), (1, false), (5, true), (6, true), (11, true), (12, true), (16, true), (17, true)] [] [(0, 14)] [] []) (((decide (a3 ≤ (7 : Int))), true) :: ((decide ((0 : Int) ≤ a3)), true) :: ((decide (a2 ≤ (15 : Int))), true) :: ((decide ((0 : Int) ≤ a2)), true) :: ((decide (a1 ≤ (7 : Int))), true) :: ((decide ((0 : Int) ≤ a1)), true) :: Zb6 a0 a1 a2 a3) (oY <| oY <| oY <| oY <| oY <| oY <| w17)
                       ·
                        exact Zg (Zr [(0, false), (1, false), (5, true), (6, true), (11, true), (12, true), (16, true), (17, false)] [] [(0, 14)] [] []) (((decide (a3 ≤ (7 : Int))), false) :: ((decide ((0 : Int) ≤ a3)), true) :: ((decide (a2 ≤ (15 : Int))), true) :: ((decide ((0 : Int) ≤ a2)), true) :: ((decide (a1 ≤ (7 : Int))), true) :: ((decide ((0 : Int) ≤ a1)), true) :: Zb6 a0 a1 a2 a3) (oN <| oY <| oY <| oY <| oY <| oY <| w17)
                      ·
                       exact Zg (Zr [(0, false), (1, false), (5, true), (6, true), (11, true), (12, true), (16, false)] [] [(0, 14)] [] []) (((decide ((0 : Int) ≤ a3)), false) :: ((decide (a2 ≤ (15 : Int))), true) :: ((decide ((0 : Int) ≤ a2)), true) :: ((decide (a1 ≤ (7 : Int))), true) :: ((decide ((0 : Int) ≤ a1)), true) :: Zb6 a0 a1 a2 a3) (oN <| oY <| oY <| oY <| oY <| w17)
                     ·
                      exact Zg (Zr [(0, false), (1, false), (5, true), (6, true), (11, true), (12, false)] [] [(0, 14)] [] []) (((decide (a2 ≤ (15 : Int))), false) :: ((decide ((0 : Int) ≤ a2)), true) :: ((decide (a1 ≤ (7 : Int))), true) :: ((decide ((0 : Int) ≤ a1)), true) :: Zb6 a0 a1 a2 a3) (oN <| oY <| oY <| oY <| w17)
                    ·
                     exact Zg (Zr [(0, false), (1, false), (5, true), (6, true), (11, false)] [] [(0, 14)] [] []) (((decide ((0 : Int) ≤ a2)), false) :: ((decide (a1 ≤ (7 : Int))), true) :: ((decide ((0 : Int) ≤ a1)), true) :: Zb6 a0 a1 a2 a3) (oN <| oY <| oY <| w17)
                   ·
                    exact Zg (Zr [(0, false), (1, false), (5, true), (6, false)] [] [(0, 14)] [] []) (((decide (a1 ≤ (7 : Int))), false) :: ((decide ((0 : Int) ≤ a1)), true) :: Zb6 a0 a1 a2 a3) (oN <| oY <| w17)
                  ·
                   exact Zg (Zr [(0, false), (1, false), (5, false)] [] [(0, 14)] [] []) (((decide ((0 : Int) ≤ a1)), false) :: Zb6 a0 a1 a2 a3) (oN <| w17)
                 ·
                  refine Zf (fun g17 => ?_) (fun g17 => ?_)
                  ·
                   have w18 : OkL (Zb7 a0 a1 a2 a3) :=
                    oB <| oK <| w2
                   refine Zf (fun g18 => ?_) (fun g18 => ?_)
                   ·
                    refine Zf (fun g19 => ?_) (fun g19 => ?_)
                    ·
                     refine Zf (fun g20 => ?_) (fun g20 => ?_)
                     ·
                      refine Zf (fun g21 => ?_) (fun g21 => ?_)
                      ·
                       refine Zf (fun g22 => ?_) (fun g22 => ?_)
                       ·
                        refine Zf (fun g23 => ?_) (fun g23 => ?_)
                        ·
                         exact Zak (Zr [(0, false), (1, false), (10, true), (11, true), (20, true), (21, true), (30, true), (31, true)] [] [(0, 15)] [] []) (((decide (a3 ≤ (0 : Int))), true) :: ((decide ((0 : Int) ≤ a3)), true) :: ((decide (a2 ≤ (0 : Int))), true) :: ((decide ((0 : Int) ≤ a2)), true) :: ((decide (a1 ≤ (0 : Int))), true) :: ((decide ((0 : Int) ≤ a1)), true) :: Zb7 a0 a1 a2 a3) (oY <| oY <| oY <| oY <| oY <| oY <| w18)
                        ·
                         exact Zg (Zr [(0, false), (1, false), (10, true), (11, true), (20, true), (21, true), (30, true), (31, false)] [] [(0, 15)] [] []) (((decide (a3 ≤ (0 : Int))), false) :: ((decide ((0 : Int) ≤ a3)), true) :: ((decide (a2 ≤ (0 : Int))), true) :: ((decide ((0 : Int) ≤ a2)), true) :: ((decide (a1 ≤ (0 : Int))), true) :: ((decide ((0 : Int) ≤ a1)), true) :: Zb7 a0 a1 a2 a3) (oN <| oY <| oY <| oY <| oY <| oY <| w18)
                       ·
                        exact Zg (Zr [(0, false), (1, false), (10, true), (11, true), (20, true), (21, true), (30, false)] [] [(0, 15)] [] []) (((decide ((0 : Int) ≤ a3)), false) :: ((decide (a2 ≤ (0 : Int))), true) :: ((decide ((0 : Int) ≤ a2)), true) :: ((decide (a1 ≤ (0 : Int))), true) :: ((decide ((0 : Int) ≤ a1)), true) :: Zb7 a0 a1 a2 a3) (oN <| oY <| oY <| oY <| oY <| w18)
                      ·
                       exact Zg (Zr [(0, false), (1, false), (10, true), (11, true), (20, true), (21, false)] [] [(0, 15)] [] []) (((decide (a2 ≤ (0 : Int))), false) :: ((decide ((0 : Int) ≤ a2)), true) :: ((decide (a1 ≤ (0 : Int))), true) :: ((decide ((0 : Int) ≤ a1)), true) :: Zb7 a0 a1 a2 a3) (oN <| oY <| oY <| oY <| w18)
                     ·
                      exact Zg (Zr [(0, false), (1, false), (10, true), (11, true), (20, false)] [] [(0, 15)] [] []) (((decide ((0 : Int) ≤ a2)), false) :: ((decide (a1 ≤ (0 : Int))), true) :: ((decide ((0 : Int) ≤ a1)), true) :: Zb7 a0 a1 a2 a3) (oN <| oY <| oY <| w18)
                    ·
                     exact Zg (Zr [(0, false), (1, false), (10, true), (11, false)] [] [(0, 15)] [] []) (((decide (a1 ≤ (0 : Int))), false) :: ((decide ((0 : Int) ≤ a1)), true) :: Zb7 a0 a1 a2 a3) (oN <| oY <| w18)
                   ·
                    exact Zg (Zr [(0, false), (1, false), (10, false)] [] [(0, 15)] [] []) (((decide ((0 : Int) ≤ a1)), false) :: Zb7 a0 a1 a2 a3) (oN <| w18)
                  ·
                   refine Zf (fun g18 => ?_) (fun g18 => ?_)
                   ·
                    have w19 : OkL (Zb8 a0 a1 a2 a3) :=
                     oB <| oK <| w2
                    refine Zf (fun g19 => ?_) (fun g19 => ?_)
                    ·
                     refine Zf (fun g20 => ?_) (fun g20 => ?_)
                     ·
                      refine Zf (fun g21 => ?_) (fun g21 => ?_)
                      ·
                       refine Zf (fun g22 => ?_) (fun g22 => ?_)
                       ·
                        refine Zf (fun g23 => ?_) (fun g23 => ?_)
                        ·
                         refine Zf (fun g24 => ?_) (fun g24 => ?_)
                         ·
                          exact Zak (Zr [(0, false), (1, false), (10, true), (11, true), (20, true), (21, true), (30, true), (31, true)] [] [(0, 16)] [] []) (((decide (a3 ≤ (0 : Int))), true) :: ((decide ((0 : Int) ≤ a3)), true) :: ((decide (a2 ≤ (0 : Int))), true) :: ((decide ((0 : Int) ≤ a2)), true) :: ((decide (a1 ≤ (0 : Int))), true) :: ((decide ((0 : Int) ≤ a1)), true) :: Zb8 a0 a1 a2 a3) (oY <| oY <| oY <| oY <| oY <| oY <| w19)
                         ·
                          exact Zg (Zr [(0, false), (1, false), (10, true), (11, true), (20, true), (21, true), (30, true), (31, false)] [] [(0, 16)] [] []) (((decide (a3 ≤ (0 : Int))), false) :: ((decide ((0 : Int) ≤ a3)), true) :: ((decide (a2 ≤ (0 : Int))), true) :: ((decide ((0 : Int) ≤ a2)), true) :: ((decide (a1 ≤ (0 : Int))), true) :: ((decide ((0 : Int) ≤ a1)), true) :: Zb8 a0 a1 a2 a3) (oN <| oY <| oY <| oY <| oY <| oY <| w19)
                        ·
                         exact Zg (Zr [(0, false), (1, false), (10, true), (11, true), (20, true), (21, true), (30, false)] [] [(0, 16)] [] []) (((decide ((0 : Int) ≤ a3)), false) :: ((decide (a2 ≤ (0 : Int))), true) :: ((decide ((0 : Int) ≤ a2)), true) :: ((decide (a1 ≤ (0 : Int))), true) :: ((decide ((0 : Int) ≤ a1)), true) :: Zb8 a0 a1 a2 a3) (oN <| oY <| oY <| oY <| oY <| w19)
                       ·
                        exact Zg (Zr [(0, false), (1, false), (10, true), (11, true), (20, true), (21, false)] [] [(0, 16)] [] []) (((decide (a2 ≤ (0 : Int))), false) :: ((decide ((0 : Int) ≤ a2)), true) :: ((decide (a1 ≤ (0 : Int))), true) :: ((decide ((0 : Int) ≤ a1)), true) :: Zb8 a0 a1 a2 a3) (oN <| oY <| oY <| oY <| w19)
                      ·
                       exact Zg (Zr [(0, false), (1, false), (10, true), (11, true), (20, false)] [] [(0, 16)] [] []) (((decide ((0 : Int) ≤ a2)), false) :: ((decide (a1 ≤ (0 : Int))), true) :: ((decide ((0 : Int) ≤ a1)), true) :: Zb8 a0 a1 a2 a3) (oN <| oY <| oY <| w19)
                     ·
                      exact Zg (Zr [(0, false), (1, false), (10, true), (11, false)] [] [(0, 16)] [] []) (((decide (a1 ≤ (0 : Int))), false) :: ((decide ((0 : Int) ≤ a1)), true) :: Zb8 a0 a1 a2 a3) (oN <| oY <| w19)
                    ·
                     exact Zg (Zr [(0, false), (1, false), (10, false)] [] [(0, 16)] [] []) (((decide ((0 : Int) ≤ a1)), false) :: Zb8 a0 a1 a2 a3) (oN <| w19)
                   ·
                    refine Zf (fun g19 => ?_) (fun g19 => ?_)
                    ·
                     have w20 : OkL (Zb9 a0 a1 a2 a3) :=
                      oB <| oK <| w2
                     refine Zf (fun g20 => ?_) (fun g20 => ?_)
                     ·
                      refine Zf (fun g21 => ?_) (fun g21 => ?_)
                      ·
                       refine Zf (fun g22 => ?_) (fun g22 => ?_)
                       ·
                        refine Zf (fun g23 => ?_) (fun g23 => ?_)
                        ·
                         refine Zf (fun g24 => ?_) (fun g24 => ?_)
                         ·
                          refine Zf (fun g25 => ?_) (fun g25 => ?_)
                          ·
                           exact Zak (Zr [(0, false), (1, false), (10, true), (11, true), (20, true), (21, true), (30, true), (31, true)] [] [(0, 17)] [] []) (((decide (a3 ≤ (0 : Int))), true) :: ((decide ((0 : Int) ≤ a3)), true) :: ((decide (a2 ≤ (0 : Int))), true) :: ((decide ((0 : Int) ≤ a2)), true) :: ((decide (a1 ≤ (0 : Int))), true) :: ((decide ((0 : Int) ≤ a1)), true) :: Zb9 a0 a1 a2 a3) (oY <| oY <| oY <| oY <| oY <| oY <| w20)
                          ·
                           exact Zg (Zr [(0, false), (1, false), (10, true), (11, true), (20, true), (21, true), (30, true), (31, false)] [] [(0, 17)] [] []) (((decide (a3 ≤ (0 : Int))), false) :: ((decide ((0 : Int) ≤ a3)), true) :: ((decide (a2 ≤ (0 : Int))), true) :: ((decide ((0 : Int) ≤ a2)), true) :: ((decide (a1 ≤ (0 : Int))), true) :: ((decide ((0 : Int) ≤ a1)), true) :: Zb9 a0 a1 a2 a3) (oN <| oY <| oY <| oY <| oY <| oY <| w20)
                         ·
                          exact Zg (Zr [(0, false), (1, false), (10, true), (11, true), (20, true), (21, true), (30, false)] [] [(0, 17)] [] []) (((decide ((0 : Int) ≤ a3)), false) :: ((decide (a2 ≤ (0 : Int))), true) :: ((decide ((0 : Int) ≤ a2)), true) :: ((decide (a1 ≤ (0 : Int))), true) :: ((decide ((0 : Int) ≤ a1)), true) :: Zb9 a0 a1 a2 a3) (oN <| oY <| oY <| oY <| oY <| w20)
                        ·
                         exact Zg (Zr [(0, false), (1, false), (10, true), (11, true), (20, true), (21, false)] [] [(0, 17)] [] []) (((decide (a2 ≤ (0 : Int))), false) :: ((decide ((0 : Int) ≤ a2)), true) :: ((decide (a1 ≤ (0 : Int))), true) :: ((decide ((0 : Int) ≤ a1)), true) :: Zb9 a0 a1 a2 a3) (oN <| oY <| oY <| oY <| w20)
                       ·
                        exact Zg (Zr [(0, false), (1, false), (10, true), (11, true), (20, false)] [] [(0, 17)] [] []) (((decide ((0 : Int) ≤ a2)), false) :: ((decide (a1 ≤ (0 : Int))), true) :: ((decide ((0 : Int) ≤ a1)), true) :: Zb9 a0 a1 a2 a3) (oN <| oY <| oY <| w20)
                      ·
                       exact Zg (Zr [(0, false), (1, false), (10, true), (11, false)] [] [(0, 17)] [] []) (((decide (a1 ≤ (0 : Int))), false) :: ((decide ((0 : Int) ≤ a1)), true) :: Zb9 a0 a1 a2 a3) (oN <| oY <| w20)
                     ·
                      exact Zg (Zr [(0, false), (1, false), (10, false)] [] [(0, 17)] [] []) (((decide ((0 : Int) ≤ a1)), false) :: Zb9 a0 a1 a2 a3) (oN <| w20)
                    ·
                     refine Zf (fun g20 => ?_) (fun g20 => ?_)
                     ·
                      have w21 : OkL (ZbA a0 a1 a2 a3) :=
                       oB <| oK <| w2
                      refine Zf (fun g21 => ?_) (fun g21 => ?_)
                      ·
                       refine Zf (fun g22 => ?_) (fun g22 => ?_)
                       ·
                        refine Zf (fun g23 => ?_) (fun g23 => ?_)
                        ·
                         refine Zf (fun g24 => ?_) (fun g24 => ?_)
                         ·
                          refine Zf (fun g25 => ?_) (fun g25 => ?_)
                          ·
                           refine Zf (fun g26 => ?_) (fun g26 => ?_)
                           ·
                            exact Zak (Zr [(0, false), (1, false), (10, true), (11, true), (20, true), (21, true), (30, true), (31, true)] [] [(0, 18)] [] []) (((decide (a3 ≤ (0 : Int))), true) :: ((decide ((0 : Int) ≤ a3)), true) :: ((decide (a2 ≤ (0 : Int))), true) :: ((decide ((0 : Int) ≤ a2)), true) :: ((decide (a1 ≤ (0 : Int))), true) :: ((decide ((0 : Int) ≤ a1)), true) :: ZbA a0 a1 a2 a3) (oY <| oY <| oY <| oY <| oY <| oY <| w21)
                           ·
                            exact Zg (Zr [(0, false), (1, false), (10, true), (11, true), (20, true), (21, true), (30, true), (31, false)] [] [(0, 18)] [] []) (((decide (a3 ≤ (0 : Int))), false) :: ((decide ((0 : Int) ≤ a3)), true) :: ((decide (a2 ≤ (0 : Int))), true) :: ((decide ((0 : Int) ≤ a2)), true) :: ((decide (a1 ≤ (0 : Int))), true) :: ((decide ((0 : Int) ≤ a1)), true) :: ZbA a0 a1 a2 a3) (oN <| oY <| oY <| oY <| oY <| oY <| w21)
                          ·
                           exact Zg (Zr [(0, false), (1, false), (10, true), (11, true), (20, true), (21, true), (30, false)] [] [(0, 18)] [] []) (((decide ((0 : Int) ≤ a3)), false) :: ((decide (a2 ≤ (0 : Int))), true) :: ((decide ((0 : Int) ≤ a2)), true) :: ((decide (a1 ≤ (0 : Int))), true) :: ((decide ((0 : Int) ≤ a1)), true) :: ZbA a0 a1 a2 a3) (oN <| oY <| oY <| oY <| oY <| w21)
                         ·
                          exact Zg (Zr [(0, false), (1, false), (10, true), (11, true), (20, true), (21, false)] [] [(0, 18)] [] []) (((decide (a2 ≤ (0 : Int))), false) :: ((decide ((0 : Int) ≤ a2)), true) :: ((decide (a1 ≤ (0 : Int))), true) :: ((decide ((0 : Int) ≤ a1)), true) :: ZbA a0 a1 a2 a3) (oN <| oY <| oY <| oY <| w21)
                        ·
                         exact Zg (Zr [(0, false), (1, false), (10, true), (11, true), (20, false)] [] [(0, 18)] [] []) (((decide ((0 : Int) ≤ a2)), false) :: ((decide (a1 ≤ (0 : Int))), true) :: ((decide ((0 : Int) ≤ a1)), true) :: ZbA a0 a1 a2 a3) (oN <| oY <| oY <| w21)
                       ·
                        exact Zg (Zr [(0, false), (1, false), (10, true), (11, false)] [] [(0, 18)] [] []) (((decide (a1 ≤ (0 : Int))), false) :: ((decide ((0 : Int) ≤ a1)), true) :: ZbA a0 a1 a2 a3) (oN <| oY <| w21)
                      ·
                       exact Zg (Zr [(0, false), (1, false), (10, false)] [] [(0, 18)] [] []) (((decide ((0 : Int) ≤ a1)), false) :: ZbA a0 a1 a2 a3) (oN <| w21)
                     ·
                      refine Zf (fun g21 => ?_) (fun g21 => ?_)
                      ·
                       have w22 : OkL (ZbB a0 a1 a2 a3) :=
                        oB <| oK <| w2
                       refine Zf (fun g22 => ?_) (fun g22 => ?_)
                       ·
                        refine Zf (fun g23 => ?_) (fun g23 => ?_)
                        ·
                         refine Zf (fun g24 => ?_) (fun g24 => ?_)
                         ·
                          refine Zf (fun g25 => ?_) (fun g25 => ?_)
                          ·
                           refine Zf (fun g26 => ?_) (fun g26 => ?_)
                           ·
                            refine Zf (fun g27 => ?_) (fun g27 => ?_)
                            ·
                             exact Zak (Zr [(0, false), (1, false), (5, true), (6, true), (15, true), (16, true), (25, true), (26, true)] [] [(0, 19)] [] []) (((decide (a3 ≤ (0 : Int))), true) :: ((decide ((0 : Int) ≤ a3)), true) :: ((decide (a2 ≤ (0 : Int))), true) :: ((decide ((0 : Int) ≤ a2)), true) :: ((decide (a1 ≤ (7 : Int))), true) :: ((decide ((0 : Int) ≤ a1)), true) :: ZbB a0 a1 a2 a3) (oY <| oY <| oY <| oY <| oY <| oY <| w22)
                            ·
                             exact Zg (Zr [(0, false), (1, false), (5, true), (6, true), (15, true), (16, true), (25, true), (26, false)] [] [(0, 19)] [] []) (((decide (a3 ≤ (0 : Int))), false) :: ((decide ((0 : Int) ≤ a3)), true) :: ((decide (a2 ≤ (0 : Int))), true) :: ((decide ((0 : Int) ≤ a2)), true) :: ((decide (a1 ≤ (7 : Int))), true) :: ((decide ((0 : Int) ≤ a1)), true) :: ZbB a0 a1 a2 a3) (oN <| oY <| oY <| oY <| oY <| oY <| w22)
                           ·
                            exact Zg (Zr [(0, false), (1, false), (5, true), (6, true), (15, true), (16, true), (25, false)] [] [(0, 19)] [] []) (((decide ((0 : Int) ≤ a3)), false) :: ((decide (a2 ≤ (0 : Int))), true) :: ((decide ((0 : Int) ≤ a2)), true) :: ((decide (a1 ≤ (7 : Int))), true) :: ((decide ((0 : Int) ≤ a1)), true) :: ZbB a0 a1 a2 a3) (oN <| oY <| oY <| oY <| oY <| w22)
                          ·
                           exact Zg (Zr [(0, false), (1, false), (5, true), (6, true), (15, true), (16, false)] [] [(0, 19)] [] []) (((decide (a2 ≤ (0 : Int))), false) :: ((decide ((0 : Int) ≤ a2)), true) :: ((decide (a1 ≤ (7 : Int))), true) :: ((decide ((0 : Int) ≤ a1)), true) :: ZbB a0 a1 a2 a3) (oN <| oY <| oY <| oY <| w22)
                         ·
                          exact Zg (Zr [(0, false), (1, false), (5, true), (6, true), (15, false)] [] [(0, 19)] [] []) (((decide ((0 : Int) ≤ a2)), false) :: ((decide (a1 ≤ (7 : Int))), true) :: ((decide ((0 : Int) ≤ a1)), true) :: ZbB a0 a1 a2 a3) (oN <| oY <| oY <| w22)
                        ·
                         exact Zg (Zr [(0, false), (1, false), (5, true), (6, false)] [] [(0, 19)] [] []) (((decide (a1 ≤ (7 : Int))), false) :: ((decide ((0 : Int) ≤ a1)), true) :: ZbB a0 a1 a2 a3) (oN <| oY <| w22)
                       ·
                        exact Zg (Zr [(0, false), (1, false), (5, false)] [] [(0, 19)] [] []) (((decide ((0 : Int) ≤ a1)), false) :: ZbB a0 a1 a2 a3) (oN <| w22)
                      ·
                       have w22 : OkL (ZbC a0 a1 a2 a3) :=
                        oB <| oK <| w2
                       refine Zf (fun g22 => ?_) (fun g22 => ?_)
                       ·
                        refine Zf (fun g23 => ?_) (fun g23 => ?_)
                        ·
                         refine Zf (fun g24 => ?_) (fun g24 => ?_)
                         ·
                          refine Zf (fun g25 => ?_) (fun g25 => ?_)
                          ·
                           refine Zf (fun g26 => ?_) (fun g26 => ?_)
                           ·
                            refine Zf (fun g27 => ?_) (fun g27 => ?_)
                            ·
                             exact Zak (Zr [(0, false), (1, false), (10, true), (11, true), (20, true), (21, true), (30, true), (31, true)] [] [(0, 20)] [] []) (((decide (a3 ≤ (0 : Int))), true) :: ((decide ((0 : Int) ≤ a3)), true) :: ((decide (a2 ≤ (0 : Int))), true) :: ((decide ((0 : Int) ≤ a2)), true) :: ((decide (a1 ≤ (0 : Int))), true) :: ((decide ((0 : Int) ≤ a1)), true) :: ZbC a0 a1 a2 a3) (oY <| oY <| oY <| oY <| oY <| oY <| w22)
                            ·
                             exact Zg (Zr [(0, false), (1, false), (10, true), (11, true), (20, true), (21, true), (30, true), (31, false)] [] [(0, 20)] [] []) (((decide (a3 ≤ (0 : Int))), false) :: ((decide ((0 : Int) ≤ a3)), true) :: ((decide (a2 ≤ (0 : Int))), true) :: ((decide ((0 : Int) ≤ a2)), true) :: ((decide (a1 ≤ (0 : Int))), true) :: ((decide ((0 : Int) ≤ a1)), true) :: ZbC a0 a1 a2 a3) (oN <| oY <| oY <| oY <| oY <| oY <| w22)
                           ·
                            exact Zg (Zr [(0, false), (1, false), (10, true), (11, true), (20, true), (21, true), (30, false)] [] [(0, 20)] [] []) (((decide ((0 : Int) ≤ a3)), false) :: ((decide (a2 ≤ (0 : Int))), true) :: ((decide ((0 : Int) ≤ a2)), true) :: ((decide (a1 ≤ (0 : Int))), true) :: ((decide ((0 : Int) ≤ a1)), true) :: ZbC a0 a1 a2 a3) (oN <| oY <| oY <| oY <| oY <| w22)
                          ·
                           exact Zg (Zr [(0, false), (1, false), (10, true), (11, true), (20, true), (21, false)] [] [(0, 20)] [] []) (((decide (a2 ≤ (0 : Int))), false) :: ((decide ((0 : Int) ≤ a2)), true) :: ((decide (a1 ≤ (0 : Int))), true) :: ((decide ((0 : Int) ≤ a1)), true) :: ZbC a0 a1 a2 a3) (oN <| oY <| oY <| oY <| w22)
                         ·
                          exact Zg (Zr [(0, false), (1, false), (10, true), (11, true), (20, false)] [] [(0, 20)] [] []) (((decide ((0 : Int) ≤ a2)), false) :: ((decide (a1 ≤ (0 : Int))), true) :: ((decide ((0 : Int) ≤ a1)), true) :: ZbC a0 a1 a2 a3) (oN <| oY <| oY <| w22)
                        ·
                         exact Zg (Zr [(0, false), (1, false), (10, true), (11, false)] [] [(0, 20)] [] []) (((decide (a1 ≤ (0 : Int))), false) :: ((decide ((0 : Int) ≤ a1)), true) :: ZbC a0 a1 a2 a3) (oN <| oY <| w22)
                       ·
                        exact Zg (Zr [(0, false), (1, false), (10, false)] [] [(0, 20)] [] []) (((decide ((0 : Int) ≤ a1)), false) :: ZbC a0 a1 a2 a3) (oN <| w22)

end Ev
end Go.Proofs.YtlbbiflodemagaaDoor
