/- Part 5. -/
import Derived.Test.YtlbbiflodemagaaDoorZad
set_option linter.unusedSimpArgs false
set_option linter.unusedVariables false
/- Calls do what the plain functions say. -/
namespace Go.Proofs.YtlbbiflodemagaaDoor
open Go.RowKit
namespace Ev
set_option linter.unusedVariables false
set_option maxRecDepth 100000
noncomputable abbrev κdq (a0 : Int) := ((decide (a0 < (0 : Int))), true)
noncomputable abbrev κdm (a0 : Int) := ((decide (a0 ≥ (21 : Int))), true)
set_option maxHeartbeats 4000000 in
theorem Zo4 (a0 : Int) (N : Nat) : Fx Tryd.prog ZG Tryd.f16 [] #[vi a0] (Zlo a0) (Zkw a0) (Z0 a0 N) := by
 unfold Z0
 refine Zbm (fun g0 => ?_) (fun g0 => ?_)
 ·
  exact fxF (orc := (Zs [o1] [] [] [] [])) (live := []) (u := Value.string ⟨#[114, 35]⟩) (bl := []) (ob := (((a0 == (1 : Int)), true) :: [])) (oT <| Z6) rr trivial
 ·
  refine Zbm (fun g1 => ?_) (fun g1 => ?_)
  ·
   exact fxF (orc := (Zs [o0, o1] [] [] [] [])) (live := []) (u := Value.string ⟨#[64]⟩) (bl := []) (ob := (((a0 == (8 : Int)), true) :: (κS a0) :: [])) (oT <| oF <| Z6) rr trivial
  ·
   have w2 : OkL (ZeT a0) :=
    oF <| oF <| Z6
   refine Zbm (fun g2 => ?_) (fun g2 => ?_)
   ·
    exact fxF (orc := (Zs [o0, o0, o1] [] [] [] [])) (live := []) (u := Value.string ⟨#[114, 64]⟩) (bl := []) (ob := (((a0 == (9 : Int)), true) :: ZeT a0)) (oT <| w2) rr trivial
   ·
    refine Zbm (fun g3 => ?_) (fun g3 => ?_)
    ·
     exact fxF (orc := (Zs [o0, o0, o0, o1] [] [] [] [])) (live := []) (u := Value.string ⟨#[114, 35, 35]⟩) (bl := []) (ob := (((a0 == (11 : Int)), true) :: (κ3 a0) :: ZeT a0)) (oT <| oF <| w2) rr trivial
    ·
     have w4 : OkL (ZeU a0) :=
      oF <| oF <| w2
     refine Zbm (fun g4 => ?_) (fun g4 => ?_)
     ·
      exact fxF (orc := (Zs [o0, o0, o0, o0, o1] [] [] [] [])) (live := []) (u := Value.string ⟨#[114, 114, 35]⟩) (bl := []) (ob := (((a0 == (13 : Int)), true) :: ZeU a0)) (oT <| w4) rr trivial
     ·
      refine Zbm (fun g5 => ?_) (fun g5 => ?_)
      ·
       exact fxF (orc := (Zs [o0, o0, o0, o0, o0, o1] [] [] [] [])) (live := []) (u := Value.string ⟨#[114, 35, 114]⟩) (bl := []) (ob := (((a0 == (14 : Int)), true) :: (κbc a0) :: ZeU a0)) (oT <| oF <| w4) rr trivial
      ·
       have w6 : OkL (ZeV a0) :=
        oF <| oF <| w4
       refine Zbm (fun g6 => ?_) (fun g6 => ?_)
       ·
        exact fxF (orc := (Zs [o0, o0, o0, o0, o0, o0, o1] [] [] [] [])) (live := []) (u := Value.string ⟨#[]⟩) (bl := []) (ob := ((κdq a0) :: ZeV a0)) (oY <| w6) rr trivial
       ·
        refine Zbm (fun g7 => ?_) (fun g7 => ?_)
        ·
         exact fxF (orc := (Zs [o0, o0, o0, o0, o0, o0, o0, o1] [] [] [] [])) (live := []) (u := Value.string ⟨#[]⟩) (bl := []) (ob := ((κdm a0) :: (κM a0) :: ZeV a0)) (oY <| oN <| w6) rr trivial
        ·
         have w8 : OkL (Zaf a0) :=
          oN <| oN <| w6
         refine Zbm (fun g8 => ?_) (fun g8 => ?_)
         ·
          exact fxF (orc := (Zs [o0, o0, o0, o0, o0, o0, o0, o0] [] [(0, 0)] [] [])) (live := []) (u := Value.string ⟨#[]⟩) (bl := []) (ob := ((Nat.blt 0 21, true) :: (a0 == Int.ofNat 0, true) :: Zaf a0)) (oB <| oK <| w8) rr trivial
         ·
          refine Zbm (fun g9 => ?_) (fun g9 => ?_)
          ·
           exact fxF (orc := (Zs [o0, o0, o0, o0, o0, o0, o0, o0] [] [(0, 2)] [] [])) (live := []) (u := Value.string ⟨#[114]⟩) (bl := []) (ob := ((Nat.blt 2 21, true) :: (a0 == Int.ofNat 2, true) :: Zaf a0)) (oB <| oK <| w8) rr trivial
          ·
           refine Zbm (fun g10 => ?_) (fun g10 => ?_)
           ·
            exact fxF (orc := (Zs [o0, o0, o0, o0, o0, o0, o0, o0] [] [(0, 3)] [] [])) (live := []) (u := Value.string ⟨#[114, 114]⟩) (bl := []) (ob := ((Nat.blt 3 21, true) :: (a0 == Int.ofNat 3, true) :: Zaf a0)) (oB <| oK <| w8) rr trivial
           ·
            refine Zbm (fun g11 => ?_) (fun g11 => ?_)
            ·
             exact fxF (orc := (Zs [o0, o0, o0, o0, o0, o0, o0, o0] [] [(0, 4)] [] [])) (live := []) (u := Value.string ⟨#[114, 114, 114]⟩) (bl := []) (ob := ((Nat.blt 4 21, true) :: (a0 == Int.ofNat 4, true) :: Zaf a0)) (oB <| oK <| w8) rr trivial
            ·
             refine Zbm (fun g12 => ?_) (fun g12 => ?_)
             ·
              exact fxF (orc := (Zs [o0, o0, o0, o0, o0, o0, o0, o0] [] [(0, 5)] [] [])) (live := []) (u := Value.string ⟨#[114, 114, 114]⟩) (bl := []) (ob := ((Nat.blt 5 21, true) :: (a0 == Int.ofNat 5, true) :: Zaf a0)) (oB <| oK <| w8) rr trivial
             ·
              refine Zbm (fun g13 => ?_) (fun g13 => ?_)
              ·
               exact fxF (orc := (Zs [o0, o0, o0, o0, o0, o0, o0, o0] [] [(0, 6)] [] [])) (live := []) (u := Value.string ⟨#[114, 114, 114]⟩) (bl := []) (ob := ((Nat.blt 6 21, true) :: (a0 == Int.ofNat 6, true) :: Zaf a0)) (oB <| oK <| w8) rr trivial
              ·
               refine Zbm (fun g14 => ?_) (fun g14 => ?_)
               ·
                exact fxF (orc := (Zs [o0, o0, o0, o0, o0, o0, o0, o0] [] [(0, 7)] [] [])) (live := []) (u := Value.string ⟨#[114, 114, 114]⟩) (bl := []) (ob := ((Nat.blt 7 21, true) :: (a0 == Int.ofNat 7, true) :: Zaf a0)) (oB <| oK <| w8) rr trivial
               ·
                refine Zbm (fun g15 => ?_) (fun g15 => ?_)
                ·
                 exact fxF (orc := (Zs [o0, o0, o0, o0, o0, o0, o0, o0] [] [(0, 10)] [] [])) (live := []) (u := Value.string ⟨#[114]⟩) (bl := []) (ob := ((Nat.blt 10 21, true) :: (a0 == Int.ofNat 10, true) :: Zaf a0)) (oB <| oK <| w8) rr trivial
                ·
                 refine Zbm (fun g16 => ?_) (fun g16 => ?_)
                 ·
                  exact fxF (orc := (Zs [o0, o0, o0, o0, o0, o0, o0, o0] [] [(0, 12)] [] [])) (live := []) (u := Value.string ⟨#[114]⟩) (bl := []) (ob := ((Nat.blt 12 21, true) :: (a0 == Int.ofNat 12, true) :: Zaf a0)) (oB <| oK <| w8) rr trivial
                 ·
                  refine Zbm (fun g17 => ?_) (fun g17 => ?_)
                  ·
                   exact fxF (orc := (Zs [o0, o0, o0, o0, o0, o0, o0, o0] [] [(0, 15)] [] [])) (live := []) (u := Value.string ⟨#[]⟩) (bl := []) (ob := ((Nat.blt 15 21, true) :: (a0 == Int.ofNat 15, true) :: Zaf a0)) (oB <| oK <| w8) rr trivial
                  ·
                   refine Zbm (fun g18 => ?_) (fun g18 => ?_)
                   ·
                    exact fxF (orc := (Zs [o0, o0, o0, o0, o0, o0, o0, o0] [] [(0, 16)] [] [])) (live := []) (u := Value.string ⟨#[]⟩) (bl := []) (ob := ((Nat.blt 16 21, true) :: (a0 == Int.ofNat 16, true) :: Zaf a0)) (oB <| oK <| w8) rr trivial
                   ·
                    refine Zbm (fun g19 => ?_) (fun g19 => ?_)
                    ·
                     exact fxF (orc := (Zs [o0, o0, o0, o0, o0, o0, o0, o0] [] [(0, 17)] [] [])) (live := []) (u := Value.string ⟨#[]⟩) (bl := []) (ob := ((Nat.blt 17 21, true) :: (a0 == Int.ofNat 17, true) :: Zaf a0)) (oB <| oK <| w8) rr trivial
                    ·
                     refine Zbm (fun g20 => ?_) (fun g20 => ?_)
                     ·
                      exact fxF (orc := (Zs [o0, o0, o0, o0, o0, o0, o0, o0] [] [(0, 18)] [] [])) (live := []) (u := Value.string ⟨#[]⟩) (bl := []) (ob := ((Nat.blt 18 21, true) :: (a0 == Int.ofNat 18, true) :: Zaf a0)) (oB <| oK <| w8) rr trivial
                     ·
                      refine Zbm (fun g21 => ?_) (fun g21 => ?_)
                      ·
                       exact fxF (orc := (Zs [o0, o0, o0, o0, o0, o0, o0, o0] [] [(0, 19)] [] [])) (live := []) (u := Value.string ⟨#[114]⟩) (bl := []) (ob := ((Nat.blt 19 21, true) :: (a0 == Int.ofNat 19, true) :: Zaf a0)) (oB <| oK <| w8) rr trivial
                      ·
                       exact fxF (orc := (Zs [o0, o0, o0, o0, o0, o0, o0, o0] [] [(0, 20)] [] [])) (live := []) (u := Value.string ⟨#[]⟩) (bl := []) (ob := ((Nat.blt 20 21, true) :: (a0 == Int.ofNat 20, true) :: Zaf a0)) (oB <| oK <| w8) rr trivial

theorem ZaD (a0 : Int) (N : Nat) (r : Zy) (h : Z0 a0 N = some r) : LSpec Tryd.prog 16 #[vi a0] [] (Zlo a0 r) (Zkw a0 r) :=
 Zm1 ZdD Tryd.func16 (by kernel_rfl) (by kernel_rfl) (fun r => by cases r <;> exact ZaV _ rfl) (Zo4 a0 N) h

noncomputable def Zps (a0 : Int) (n : Nat) : Za5 := .call [] (Value.string ⟨#[114, 35]⟩) [] 0
def Zkx (A : Array Value) (a0 : Int) (n : Nat) : Prop := Z3 Tryd.prog 16 A [] (Value.string ⟨#[114, 35]⟩) [] n 0

theorem Zpt (A : Array Value) (a0 : Int) (N : Nat) (h : Z0 a0 N = some (.r0)) (n : Nat) (hA : A = #[vi a0]) (hnd : ([] : List Nat).Nodup) (hlt : ∀ k ∈ ([] : List Nat), k < n) : Zkx A a0  n :=
 Zae hA (cX0 (show LSpec Tryd.prog 16 #[vi a0] [] (Value.string ⟨#[114, 35]⟩) [] from ZaD a0 N _ h) [] n [] hnd hlt)

noncomputable def Zpu (a0 : Int) (n : Nat) : Za5 := .call [] (Value.string ⟨#[64]⟩) [] 0
def Zky (A : Array Value) (a0 : Int) (n : Nat) : Prop := Z3 Tryd.prog 16 A [] (Value.string ⟨#[64]⟩) [] n 0

theorem Zpv (A : Array Value) (a0 : Int) (N : Nat) (h : Z0 a0 N = some (.r1)) (n : Nat) (hA : A = #[vi a0]) (hnd : ([] : List Nat).Nodup) (hlt : ∀ k ∈ ([] : List Nat), k < n) : Zky A a0  n :=
 Zae hA (cX0 (show LSpec Tryd.prog 16 #[vi a0] [] (Value.string ⟨#[64]⟩) [] from ZaD a0 N _ h) [] n [] hnd hlt)

noncomputable def Zpw (a0 : Int) (n : Nat) : Za5 := .call [] (Value.string ⟨#[114, 64]⟩) [] 0
def Zkz (A : Array Value) (a0 : Int) (n : Nat) : Prop := Z3 Tryd.prog 16 A [] (Value.string ⟨#[114, 64]⟩) [] n 0

theorem Zpx (A : Array Value) (a0 : Int) (N : Nat) (h : Z0 a0 N = some (.r2)) (n : Nat) (hA : A = #[vi a0]) (hnd : ([] : List Nat).Nodup) (hlt : ∀ k ∈ ([] : List Nat), k < n) : Zkz A a0  n :=
 Zae hA (cX0 (show LSpec Tryd.prog 16 #[vi a0] [] (Value.string ⟨#[114, 64]⟩) [] from ZaD a0 N _ h) [] n [] hnd hlt)

noncomputable def Zpy (a0 : Int) (n : Nat) : Za5 := .call [] (Value.string ⟨#[114, 35, 35]⟩) [] 0
def Zk0 (A : Array Value) (a0 : Int) (n : Nat) : Prop := Z3 Tryd.prog 16 A [] (Value.string ⟨#[114, 35, 35]⟩) [] n 0

theorem Zpz (A : Array Value) (a0 : Int) (N : Nat) (h : Z0 a0 N = some (.r3)) (n : Nat) (hA : A = #[vi a0]) (hnd : ([] : List Nat).Nodup) (hlt : ∀ k ∈ ([] : List Nat), k < n) : Zk0 A a0  n :=
 Zae hA (cX0 (show LSpec Tryd.prog 16 #[vi a0] [] (Value.string ⟨#[114, 35, 35]⟩) [] from ZaD a0 N _ h) [] n [] hnd hlt)

noncomputable def Zp0 (a0 : Int) (n : Nat) : Za5 := .call [] (Value.string ⟨#[114, 114, 35]⟩) [] 0
def Zk1 (A : Array Value) (a0 : Int) (n : Nat) : Prop := Z3 Tryd.prog 16 A [] (Value.string ⟨#[114, 114, 35]⟩) [] n 0

theorem Zp1 (A : Array Value) (a0 : Int) (N : Nat) (h : Z0 a0 N = some (.r4)) (n : Nat) (hA : A = #[vi a0]) (hnd : ([] : List Nat).Nodup) (hlt : ∀ k ∈ ([] : List Nat), k < n) : Zk1 A a0  n :=
 Zae hA (cX0 (show LSpec Tryd.prog 16 #[vi a0] [] (Value.string ⟨#[114, 114, 35]⟩) [] from ZaD a0 N _ h) [] n [] hnd hlt)

noncomputable def Zp2 (a0 : Int) (n : Nat) : Za5 := .call [] (Value.string ⟨#[114, 35, 114]⟩) [] 0
def Zk2 (A : Array Value) (a0 : Int) (n : Nat) : Prop := Z3 Tryd.prog 16 A [] (Value.string ⟨#[114, 35, 114]⟩) [] n 0

theorem Zp3 (A : Array Value) (a0 : Int) (N : Nat) (h : Z0 a0 N = some (.r5)) (n : Nat) (hA : A = #[vi a0]) (hnd : ([] : List Nat).Nodup) (hlt : ∀ k ∈ ([] : List Nat), k < n) : Zk2 A a0  n :=
 Zae hA (cX0 (show LSpec Tryd.prog 16 #[vi a0] [] (Value.string ⟨#[114, 35, 114]⟩) [] from ZaD a0 N _ h) [] n [] hnd hlt)

noncomputable def ZfK (a0 : Int) (n : Nat) : Za5 := .call [] (Value.string ⟨#[]⟩) [] 0
def Zh3 (A : Array Value) (a0 : Int) (n : Nat) : Prop := Z3 Tryd.prog 16 A [] (Value.string ⟨#[]⟩) [] n 0

theorem Zk3 (A : Array Value) (a0 : Int) (N : Nat) (h : Z0 a0 N = some (.r6)) (n : Nat) (hA : A = #[vi a0]) (hnd : ([] : List Nat).Nodup) (hlt : ∀ k ∈ ([] : List Nat), k < n) : Zh3 A a0  n :=
 Zae hA (cX0 (show LSpec Tryd.prog 16 #[vi a0] [] (Value.string ⟨#[]⟩) [] from ZaD a0 N _ h) [] n [] hnd hlt)

noncomputable def Zp4 (a0 : Int) (n : Nat) : Za5 := .call [] (Value.string ⟨#[114]⟩) [] 0
def Zk4 (A : Array Value) (a0 : Int) (n : Nat) : Prop := Z3 Tryd.prog 16 A [] (Value.string ⟨#[114]⟩) [] n 0

theorem Zp5 (A : Array Value) (a0 : Int) (N : Nat) (h : Z0 a0 N = some (.r7)) (n : Nat) (hA : A = #[vi a0]) (hnd : ([] : List Nat).Nodup) (hlt : ∀ k ∈ ([] : List Nat), k < n) : Zk4 A a0  n :=
 Zae hA (cX0 (show LSpec Tryd.prog 16 #[vi a0] [] (Value.string ⟨#[114]⟩) [] from ZaD a0 N _ h) [] n [] hnd hlt)

noncomputable def Zp6 (a0 : Int) (n : Nat) : Za5 := .call [] (Value.string ⟨#[114, 114]⟩) [] 0
def Zk5 (A : Array Value) (a0 : Int) (n : Nat) : Prop := Z3 Tryd.prog 16 A [] (Value.string ⟨#[114, 114]⟩) [] n 0

theorem Zp7 (A : Array Value) (a0 : Int) (N : Nat) (h : Z0 a0 N = some (.r8)) (n : Nat) (hA : A = #[vi a0]) (hnd : ([] : List Nat).Nodup) (hlt : ∀ k ∈ ([] : List Nat), k < n) : Zk5 A a0  n :=
 Zae hA (cX0 (show LSpec Tryd.prog 16 #[vi a0] [] (Value.string ⟨#[114, 114]⟩) [] from ZaD a0 N _ h) [] n [] hnd hlt)

noncomputable def Zp8 (a0 : Int) (n : Nat) : Za5 := .call [] (Value.string ⟨#[114, 114, 114]⟩) [] 0
def Zk6 (A : Array Value) (a0 : Int) (n : Nat) : Prop := Z3 Tryd.prog 16 A [] (Value.string ⟨#[114, 114, 114]⟩) [] n 0

theorem Zp9 (A : Array Value) (a0 : Int) (N : Nat) (h : Z0 a0 N = some (.r9)) (n : Nat) (hA : A = #[vi a0]) (hnd : ([] : List Nat).Nodup) (hlt : ∀ k ∈ ([] : List Nat), k < n) : Zk6 A a0  n :=
 Zae hA (cX0 (show LSpec Tryd.prog 16 #[vi a0] [] (Value.string ⟨#[114, 114, 114]⟩) [] from ZaD a0 N _ h) [] n [] hnd hlt)

noncomputable def ZeP (L0 L1 : List Int) (a2 : Int) (L3 : List RA) (L4 : List Int) (L5 : List R_is) (L6 : List (List Int)) (L7 : List R_si) : Zah → Value
 | .r0 => vi ((bAt L0 1) - (48 : Int))
 | .r1 => Value.iface 88 (Value.agg #[vi a2])
noncomputable abbrev κK (L6 : List (List Int)) := (AObj.cells (Zg Zag L6) 9 true)
noncomputable abbrev κw (L1 : List Int) (a2 : Int) (L3 : List RA) (L4 : List Int) (L5 : List R_is) (L6 : List (List Int)) (L7 : List R_si) := [some (AObj.cells (rdc L1 a2 L3 L4 L5 L6) 57), some (κbK L3), some (κbU L4), some (κW L5), some (κK L6), some (AObj.ro (Zm L7) true)]
noncomputable def Ze9 (L0 L1 : List Int) (a2 : Int) (L3 : List RA) (L4 : List Int) (L5 : List R_is) (L6 : List (List Int)) (L7 : List R_si) : Zah → List (Option AObj)
 | .r0 => (κw L1 a2 L3 L4 L5 L6 L7)
 | .r1 => [none, none, none, none, none, none]

noncomputable def Zge : FuncId → Option Ext := fun f => bif Nat.beq f 62 then none else ZG f
theorem Zgf : Fit Tryd.prog Zge := Zh2 ZdD _

noncomputable def Zep (L0 L1 : List Int) (a2 : Int) (L3 : List RA) (L4 : List Int) (L5 : List R_is) (L6 : List (List Int)) (L7 : List R_si) : OB := (dP (∃ y, 0 ≤ (0 : Int) ∧ ((Zb L0))[((0 : Int)).toNat]? = some y ∧ (bAt L0 0) = (y.toNat : Int)), true) :: (((((Zb L0).size : Nat) : Int) == (2 : Int)), true) :: []

noncomputable def ZcJ (L0 L1 : List Int) (a2 : Int) (L3 : List RA) (L4 : List Int) (L5 : List R_is) (L6 : List (List Int)) (L7 : List R_si) : OB := (dP (∃ y, 0 ≤ (1 : Int) ∧ ((Zb L0))[((1 : Int)).toNat]? = some y ∧ (bAt L0 1) = (y.toNat : Int)), true) :: (((bAt L0 0) == (114 : Int)), true) :: Zep L0 L1 a2 L3 L4 L5 L6 L7

theorem ZcK {L0 : List Int} {L1 : List Int} {a2 : Int} {L3 : List RA} {L4 : List Int} {L5 : List R_is} {L6 : List (List Int)} {L7 : List R_si} (orc : Orc) (ob : OB) (ho : ∀ p ∈ ob, p.1 = p.2) (hev : Zje Tryd.prog Zge 62 (rpr L1 a2 L3 L4 L5 L6 L7) #[vp 0 0, Value.int .i32 (114 : Int), Value.string (Zb L0)] 4000 orc = some (Value.iface 88 (Value.agg #[vi a2]), ob) := by as_aux_lemma => kernel_rfl) : Gx Tryd.prog 62 (rpr L1 a2 L3 L4 L5 L6 L7) #[vp 0 0, Value.int .i32 (114 : Int), Value.string (Zb L0)] (ZeP L0 L1 a2 L3 L4 L5 L6 L7) (Ze9 L0 L1 a2 L3 L4 L5 L6 L7) (some (.r1 : Zah)) := ZlY Zgf hev ho rfl (by rfl) (by rfl) (ZaV _ rfl)

set_option maxHeartbeats 4000000 in
theorem Zk7 (L0 L1 : List Int) (a2 : Int) (L3 : List RA) (L4 : List Int) (L5 : List R_is) (L6 : List (List Int)) (L7 : List R_si) (N : Nat) : Gx Tryd.prog 62 (rpr L1 a2 L3 L4 L5 L6 L7) #[vp 0 0, Value.int .i32 (114 : Int), Value.string (Zb L0)] (ZeP L0 L1 a2 L3 L4 L5 L6 L7) (Ze9 L0 L1 a2 L3 L4 L5 L6 L7) (Z9 L0 L1 a2 L3 L4 L5 L6 L7 N) := by
 unfold Z9
 refine Zc (fun g0 => ?_) (fun g0 => ?_)
 ·
  have w1 : OkL (Zep L0 L1 a2 L3 L4 L5 L6 L7) :=
   Za (Zj (ZlX (M := L0) (i := 0) rfl (by first | rfl | exact Zgc (by omega)) (by (try simp only [ZH] at *); omega))) <| oT <| Z6
  refine Zc (fun g1 => ?_) (fun g1 => ?_)
  ·
   have w2 : OkL (ZcJ L0 L1 a2 L3 L4 L5 L6 L7) :=
    Za (Zj (ZlX (M := L0) (i := 1) rfl (by first | rfl | exact Zgc (by omega)) (by (try simp only [ZH] at *); omega))) <| oT <| w1
   refine Zc (fun g2 => ?_) (fun g2 => ?_)
   ·
    refine Zc (fun g3 => ?_) (fun g3 => ?_)
    ·
     exact gxF Zgf (orc := (Zp [(1, true), (2, true), (3, true), (4, true)] [(0, ((bAt L0 1) - (48 : Int))), (1, ((bAt L0 1) - (48 : Int)))] [] [] [(0, .bs [(bAt L0 0)]), (1, .bs [(bAt L0 1)]), (2, .bs [(bAt L0 1)]), (3, .bs [(bAt L0 1)])])) (live := [0, 1, 2, 3, 4, 5]) (u := vi ((bAt L0 1) - (48 : Int))) (bl := (κw L1 a2 L3 L4 L5 L6 L7)) (ob := (((IntKind.i64.wrap ((bAt L0 1) - (48 : Int))) == ((bAt L0 1) - (48 : Int)), true) :: ((IntKind.u8.wrap ((bAt L0 1) - (48 : Int))) == ((bAt L0 1) - (48 : Int)), true) :: (dP (∃ y, 0 ≤ (1 : Int) ∧ ((Zb L0))[((1 : Int)).toNat]? = some y ∧ (bAt L0 1) = (y.toNat : Int)), true) :: ((decide ((bAt L0 1) < (56 : Int))), true) :: (dP (∃ y, 0 ≤ (1 : Int) ∧ ((Zb L0))[((1 : Int)).toNat]? = some y ∧ (bAt L0 1) = (y.toNat : Int)), true) :: ((decide ((bAt L0 1) ≥ (48 : Int))), true) :: ZcJ L0 L1 a2 L3 L4 L5 L6 L7)) (Za (beq_iff_eq.2 (wrap_i64 ltA)) <| Za (beq_iff_eq.2 ((ZxG ltA).trans (by first | rfl | omega))) <| Za (Zj (ZlX (M := L0) (i := 1) rfl (by first | rfl | exact Zgc (by omega)) (by (try simp only [ZH] at *); omega))) <| oY <| Za (Zj (ZlX (M := L0) (i := 1) rfl (by first | rfl | exact Zgc (by omega)) (by (try simp only [ZH] at *); omega))) <| oY <| w2) rr ⟨sm, ⟨(Zl (E := E_iiii) _ L3 _), ⟨(Zl (E := eI) _ L4 _), ⟨(Zl (E := ZM) _ L5 _), ⟨(Zl (E := Zag) _ L6 _), ⟨(show Zm L7 = Zm L7 from rfl), trivial⟩⟩⟩⟩⟩⟩
    ·
     exact ZcK (Zp [(1, true), (2, true), (3, true), (4, false)] [] [] [] [(0, .bs [(bAt L0 0)]), (1, .bs [(bAt L0 1)]), (2, .bs [(bAt L0 1)])]) (((decide ((bAt L0 1) < (56 : Int))), false) :: (dP (∃ y, 0 ≤ (1 : Int) ∧ ((Zb L0))[((1 : Int)).toNat]? = some y ∧ (bAt L0 1) = (y.toNat : Int)), true) :: ((decide ((bAt L0 1) ≥ (48 : Int))), true) :: ZcJ L0 L1 a2 L3 L4 L5 L6 L7) (oN <| Za (Zj (ZlX (M := L0) (i := 1) rfl (by first | rfl | exact Zgc (by omega)) (by (try simp only [ZH] at *); omega))) <| oY <| w2)
   ·
    exact ZcK (Zp [(1, true), (2, true), (3, false)] [] [] [] [(0, .bs [(bAt L0 0)]), (1, .bs [(bAt L0 1)])]) (((decide ((bAt L0 1) ≥ (48 : Int))), false) :: ZcJ L0 L1 a2 L3 L4 L5 L6 L7) (oN <| w2)
  ·
   exact ZcK (Zp [(1, true), (2, false)] [] [] [] [(0, .bs [(bAt L0 0)])]) ((((bAt L0 0) == (114 : Int)), false) :: Zep L0 L1 a2 L3 L4 L5 L6 L7) (oF <| w1)
 ·
  exact ZcK (Zp [(1, false)] [] [] [] []) ((((((Zb L0).size : Nat) : Int) == (2 : Int)), false) :: []) (oF <| Z6)

theorem ZfO (L0 L1 : List Int) (a2 : Int) (L3 : List RA) (L4 : List Int) (L5 : List R_is) (L6 : List (List Int)) (L7 : List R_si) (N : Nat) (r : Zah) (h : Z9 L0 L1 a2 L3 L4 L5 L6 L7 N = some r) : LSpec Tryd.prog 62 #[vp 0 0, Value.int .i32 (114 : Int), Value.string (Zb L0)] (rpr L1 a2 L3 L4 L5 L6 L7) (ZeP L0 L1 a2 L3 L4 L5 L6 L7 r) (Ze9 L0 L1 a2 L3 L4 L5 L6 L7 r) :=
 Zk7 L0 L1 a2 L3 L4 L5 L6 L7 N r h

noncomputable def ZaI (L0 L1 : List Int) (a2 : Int) (L3 : List RA) (L4 : List Int) (L5 : List R_is) (L6 : List (List Int)) (L7 : List R_si) (k0 k1 k2 k3 k4 k5 n : Nat) : Za5 := .call (κa k0 L1 a2 k1 L3 k2 L4 k3 L5 k4 L6 k5 L7) (vi ((bAt L0 1) - (48 : Int))) [] 0
def ZO (A : Array Value) (L0 L1 : List Int) (a2 : Int) (L3 : List RA) (L4 : List Int) (L5 : List R_is) (L6 : List (List Int)) (L7 : List R_si) (k0 k1 k2 k3 k4 k5 n : Nat) : Prop := Z3 Tryd.prog 62 A (κa k0 L1 a2 k1 L3 k2 L4 k3 L5 k4 L6 k5 L7) (vi ((bAt L0 1) - (48 : Int))) [] n 0

theorem ZV (A : Array Value) (L0 L1 : List Int) (a2 : Int) (L3 : List RA) (L4 : List Int) (L5 : List R_is) (L6 : List (List Int)) (L7 : List R_si) (N : Nat) (h : Z9 L0 L1 a2 L3 L4 L5 L6 L7 N = some (.r0)) (k0 k1 k2 k3 k4 k5 n : Nat) (hA : A = #[vp k0 0, Value.int .i32 (114 : Int), Value.string (Zb L0)]) (hnd : ([k0, k1, k2, k3, k4, k5] : List Nat).Nodup) (hlt : ∀ k ∈ ([k0, k1, k2, k3, k4, k5] : List Nat), k < n) : ZO A L0 L1 a2 L3 L4 L5 L6 L7 k0 k1 k2 k3 k4 k5 n :=
 Zae hA (cX0 (show LSpec Tryd.prog 62 #[vp 0 0, Value.int .i32 (114 : Int), Value.string (Zb L0)] (rpr L1 a2 L3 L4 L5 L6 L7) (vi ((bAt L0 1) - (48 : Int))) (κw L1 a2 L3 L4 L5 L6 L7) from ZfO L0 L1 a2 L3 L4 L5 L6 L7 N _ h) [k0, k1, k2, k3, k4, k5] n [] hnd hlt)

noncomputable def Zbt (L0 L1 : List Int) (a2 : Int) (L3 : List RA) (L4 : List Int) (L5 : List R_is) (L6 : List (List Int)) (L7 : List R_si) (k0 k1 k2 k3 k4 k5 n : Nat) : Za5 := .call (κa k0 L1 a2 k1 L3 k2 L4 k3 L5 k4 L6 k5 L7) (κba a2) [(k0, none), (k1, none), (k2, none), (k3, none), (k4, none), (k5, none)] 0
def ZP (A : Array Value) (L0 L1 : List Int) (a2 : Int) (L3 : List RA) (L4 : List Int) (L5 : List R_is) (L6 : List (List Int)) (L7 : List R_si) (k0 k1 k2 k3 k4 k5 n : Nat) : Prop := Z3 Tryd.prog 62 A (κa k0 L1 a2 k1 L3 k2 L4 k3 L5 k4 L6 k5 L7) (κba a2) [(k0, none), (k1, none), (k2, none), (k3, none), (k4, none), (k5, none)] n 0

theorem ZW (A : Array Value) (L0 L1 : List Int) (a2 : Int) (L3 : List RA) (L4 : List Int) (L5 : List R_is) (L6 : List (List Int)) (L7 : List R_si) (N : Nat) (h : Z9 L0 L1 a2 L3 L4 L5 L6 L7 N = some (.r1)) (k0 k1 k2 k3 k4 k5 n : Nat) (hA : A = #[vp k0 0, Value.int .i32 (114 : Int), Value.string (Zb L0)]) (hnd : ([k0, k1, k2, k3, k4, k5] : List Nat).Nodup) (hlt : ∀ k ∈ ([k0, k1, k2, k3, k4, k5] : List Nat), k < n) : ZP A L0 L1 a2 L3 L4 L5 L6 L7 k0 k1 k2 k3 k4 k5 n :=
 Zae hA (cX0 (show LSpec Tryd.prog 62 #[vp 0 0, Value.int .i32 (114 : Int), Value.string (Zb L0)] (rpr L1 a2 L3 L4 L5 L6 L7) (κba a2) [none, none, none, none, none, none] from ZfO L0 L1 a2 L3 L4 L5 L6 L7 N _ h) [k0, k1, k2, k3, k4, k5] n [0, 1, 2, 3, 4, 5] hnd hlt)

noncomputable def Zeq (L0 L1 : List Int) (a2 : Int) (L3 : List RA) (L4 : List Int) (L5 : List R_is) (L6 : List (List Int)) (L7 : List R_si) : ZaR → Value
 | .r0 => vi (Zbf L0)
 | .r1 => Value.iface 88 (Value.agg #[vi a2])
noncomputable def ZdV (L0 L1 : List Int) (a2 : Int) (L3 : List RA) (L4 : List Int) (L5 : List R_is) (L6 : List (List Int)) (L7 : List R_si) : ZaR → List (Option AObj)
 | .r0 => (κw L1 a2 L3 L4 L5 L6 L7)
 | .r1 => [none, none, none, none, none, none]

noncomputable def Zfq : FuncId → Option Ext := fun f => bif Nat.beq f 62 then none else ZG f
theorem Zfr : Fit Tryd.prog Zfq := Zh2 ZdD _

theorem Zjz {L0 : List Int} {L1 : List Int} {a2 : Int} {L3 : List RA} {L4 : List Int} {L5 : List R_is} {L6 : List (List Int)} {L7 : List R_si} (orc : Orc) (ob : OB) (ho : ∀ p ∈ ob, p.1 = p.2) (hev : Zje Tryd.prog Zfq 62 (rpr L1 a2 L3 L4 L5 L6 L7) #[vp 0 0, Value.int .i32 (35 : Int), Value.string (Zb L0)] 4000 orc = some (Value.iface 88 (Value.agg #[vi a2]), ob) := by as_aux_lemma => kernel_rfl) : Gx Tryd.prog 62 (rpr L1 a2 L3 L4 L5 L6 L7) #[vp 0 0, Value.int .i32 (35 : Int), Value.string (Zb L0)] (Zeq L0 L1 a2 L3 L4 L5 L6 L7) (ZdV L0 L1 a2 L3 L4 L5 L6 L7) (some (.r1 : ZaR)) := ZlY Zfr hev ho rfl (by rfl) (by rfl) (ZaV _ rfl)

noncomputable abbrev κcR (L0 : List Int) := (dP ((Zb L0) = Zb L0 ∧ Z1 L0 = true ∧ L0.length ≤ 1000000), true)
set_option maxHeartbeats 4000000 in
theorem Zj0 (L0 L1 : List Int) (a2 : Int) (L3 : List RA) (L4 : List Int) (L5 : List R_is) (L6 : List (List Int)) (L7 : List R_si) (N : Nat) : Gx Tryd.prog 62 (rpr L1 a2 L3 L4 L5 L6 L7) #[vp 0 0, Value.int .i32 (35 : Int), Value.string (Zb L0)] (Zeq L0 L1 a2 L3 L4 L5 L6 L7) (ZdV L0 L1 a2 L3 L4 L5 L6 L7) (Zad L0 L1 a2 L3 L4 L5 L6 L7 N) := by
 unfold Zad
 refine Zc (fun g0 => ?_) (fun _ => Zq)
 refine Zc (fun g1 => ?_) (fun _ => Zq)
 refine Zc (fun g2 => ?_) (fun g2 => ?_)
 ·
  exact gxF Zfr (orc := (Zp [(3, true)] [] [] [] [(0, .bs L0)])) (live := [0, 1, 2, 3, 4, 5]) (u := vi (Zbf L0)) (bl := (κw L1 a2 L3 L4 L5 L6 L7)) (ob := (((Zbq L0), true) :: (κcR L0) :: [])) (Za (by assumption) <| Za (Zj ⟨rfl, by assumption, ltA⟩) <| Z6) rr ⟨sm, ⟨(Zl (E := E_iiii) _ L3 _), ⟨(Zl (E := eI) _ L4 _), ⟨(Zl (E := ZM) _ L5 _), ⟨(Zl (E := Zag) _ L6 _), ⟨(show Zm L7 = Zm L7 from rfl), trivial⟩⟩⟩⟩⟩⟩
 ·
  exact Zjz (Zp [(3, false)] [] [] [] [(0, .bs L0)]) (((Zbq L0), false) :: (κcR L0) :: []) (Za (Bool.eq_false_iff.2 (by assumption)) <| Za (Zj ⟨rfl, by assumption, ltA⟩) <| Z6)

theorem ZeW (L0 L1 : List Int) (a2 : Int) (L3 : List RA) (L4 : List Int) (L5 : List R_is) (L6 : List (List Int)) (L7 : List R_si) (N : Nat) (r : ZaR) (h : Zad L0 L1 a2 L3 L4 L5 L6 L7 N = some r) : LSpec Tryd.prog 62 #[vp 0 0, Value.int .i32 (35 : Int), Value.string (Zb L0)] (rpr L1 a2 L3 L4 L5 L6 L7) (Zeq L0 L1 a2 L3 L4 L5 L6 L7 r) (ZdV L0 L1 a2 L3 L4 L5 L6 L7 r) :=
 Zj0 L0 L1 a2 L3 L4 L5 L6 L7 N r h

noncomputable def ZaK (L0 L1 : List Int) (a2 : Int) (L3 : List RA) (L4 : List Int) (L5 : List R_is) (L6 : List (List Int)) (L7 : List R_si) (k0 k1 k2 k3 k4 k5 n : Nat) : Za5 := .call (κa k0 L1 a2 k1 L3 k2 L4 k3 L5 k4 L6 k5 L7) (vi (Zbf L0)) [] 0
def Zbd (A : Array Value) (L0 L1 : List Int) (a2 : Int) (L3 : List RA) (L4 : List Int) (L5 : List R_is) (L6 : List (List Int)) (L7 : List R_si) (k0 k1 k2 k3 k4 k5 n : Nat) : Prop := Z3 Tryd.prog 62 A (κa k0 L1 a2 k1 L3 k2 L4 k3 L5 k4 L6 k5 L7) (vi (Zbf L0)) [] n 0

theorem ZbH (A : Array Value) (L0 L1 : List Int) (a2 : Int) (L3 : List RA) (L4 : List Int) (L5 : List R_is) (L6 : List (List Int)) (L7 : List R_si) (N : Nat) (h : Zad L0 L1 a2 L3 L4 L5 L6 L7 N = some (.r0)) (k0 k1 k2 k3 k4 k5 n : Nat) (hA : A = #[vp k0 0, Value.int .i32 (35 : Int), Value.string (Zb L0)]) (hnd : ([k0, k1, k2, k3, k4, k5] : List Nat).Nodup) (hlt : ∀ k ∈ ([k0, k1, k2, k3, k4, k5] : List Nat), k < n) : Zbd A L0 L1 a2 L3 L4 L5 L6 L7 k0 k1 k2 k3 k4 k5 n :=
 Zae hA (cX0 (show LSpec Tryd.prog 62 #[vp 0 0, Value.int .i32 (35 : Int), Value.string (Zb L0)] (rpr L1 a2 L3 L4 L5 L6 L7) (vi (Zbf L0)) (κw L1 a2 L3 L4 L5 L6 L7) from ZeW L0 L1 a2 L3 L4 L5 L6 L7 N _ h) [k0, k1, k2, k3, k4, k5] n [] hnd hlt)

noncomputable def ZbI (L0 L1 : List Int) (a2 : Int) (L3 : List RA) (L4 : List Int) (L5 : List R_is) (L6 : List (List Int)) (L7 : List R_si) (k0 k1 k2 k3 k4 k5 n : Nat) : Za5 := .call (κa k0 L1 a2 k1 L3 k2 L4 k3 L5 k4 L6 k5 L7) (κba a2) [(k0, none), (k1, none), (k2, none), (k3, none), (k4, none), (k5, none)] 0
def Zbe (A : Array Value) (L0 L1 : List Int) (a2 : Int) (L3 : List RA) (L4 : List Int) (L5 : List R_is) (L6 : List (List Int)) (L7 : List R_si) (k0 k1 k2 k3 k4 k5 n : Nat) : Prop := Z3 Tryd.prog 62 A (κa k0 L1 a2 k1 L3 k2 L4 k3 L5 k4 L6 k5 L7) (κba a2) [(k0, none), (k1, none), (k2, none), (k3, none), (k4, none), (k5, none)] n 0

theorem ZbJ (A : Array Value) (L0 L1 : List Int) (a2 : Int) (L3 : List RA) (L4 : List Int) (L5 : List R_is) (L6 : List (List Int)) (L7 : List R_si) (N : Nat) (h : Zad L0 L1 a2 L3 L4 L5 L6 L7 N = some (.r1)) (k0 k1 k2 k3 k4 k5 n : Nat) (hA : A = #[vp k0 0, Value.int .i32 (35 : Int), Value.string (Zb L0)]) (hnd : ([k0, k1, k2, k3, k4, k5] : List Nat).Nodup) (hlt : ∀ k ∈ ([k0, k1, k2, k3, k4, k5] : List Nat), k < n) : Zbe A L0 L1 a2 L3 L4 L5 L6 L7 k0 k1 k2 k3 k4 k5 n :=
 Zae hA (cX0 (show LSpec Tryd.prog 62 #[vp 0 0, Value.int .i32 (35 : Int), Value.string (Zb L0)] (rpr L1 a2 L3 L4 L5 L6 L7) (κba a2) [none, none, none, none, none, none] from ZeW L0 L1 a2 L3 L4 L5 L6 L7 N _ h) [k0, k1, k2, k3, k4, k5] n [0, 1, 2, 3, 4, 5] hnd hlt)

noncomputable def Zer (L0 L1 : List Int) (a2 : Int) (L3 : List RA) (L4 : List Int) (L5 : List R_is) (L6 : List (List Int)) (L7 : List R_si) : Zav → Value
 | .r0 => vq
 | .r1 => Value.iface 88 (Value.agg #[vi a2])
noncomputable abbrev κT (L3 : List RA) (L0 : List Int) := ([(⟨(L3.length : Int), (L0.drop 1)⟩ : R_is)] : List R_is)
noncomputable def ZdW (L0 L1 : List Int) (a2 : Int) (L3 : List RA) (L4 : List Int) (L5 : List R_is) (L6 : List (List Int)) (L7 : List R_si) : Zav → List (Option AObj)
 | .r0 => [some (.cells [Value.string (Zb L1), vi a2, vs 1 0 L3.length L3.length, vs 2 0 L4.length L4.length, vs 6 0 (L5.length + 1) (L5.length + 1), vs 4 0 L6.length L6.length, Value.map (some 5)] 57), some (κbK L3), some (κbU L4), none, some (κK L6), some (.ro (Zm L7) true), some (.cells (Zg ZM (L5 ++ (κT L3 L0))) 122)]
 | .r1 => [none, none, none, none, none, none]

noncomputable def Zfs : FuncId → Option Ext := fun f => bif Nat.beq f 62 then none else ZG f
theorem Zft : Fit Tryd.prog Zfs := Zh2 ZdD _

noncomputable def Zd7 (L0 L1 : List Int) (a2 : Int) (L3 : List RA) (L4 : List Int) (L5 : List R_is) (L6 : List (List Int)) (L7 : List R_si) : OB := (dP (∃ y, 0 ≤ (0 : Int) ∧ ((Zb L0))[((0 : Int)).toNat]? = some y ∧ (bAt L0 0) = (y.toNat : Int)), true) :: ((decide ((((Zb L0).size : Nat) : Int) > (1 : Int))), true) :: []

noncomputable abbrev κca (L0 : List Int) := (dP (0 ≤ (1 : Int) ∧ (1 : Int) ≤ ((((Zb L0)).size : Nat) : Int) ∧ ((((Zb L0)).size : Nat) : Int) ≤ ((((Zb L0)).size : Nat) : Int) ∧ ((Zb L0)).extract ((1 : Int)).toNat (((((Zb L0)).size : Nat) : Int)).toNat = Zb (L0.drop 1)), true)
noncomputable def Zd8 (L0 L1 : List Int) (a2 : Int) (L3 : List RA) (L4 : List Int) (L5 : List R_is) (L6 : List (List Int)) (L7 : List R_si) : OB := (κca L0) :: (((bAt L0 0) == (64 : Int)), true) :: Zd7 L0 L1 a2 L3 L4 L5 L6 L7

theorem Zd9 {L0 : List Int} {L1 : List Int} {a2 : Int} {L3 : List RA} {L4 : List Int} {L5 : List R_is} {L6 : List (List Int)} {L7 : List R_si} (orc : Orc) (ob : OB) (ho : ∀ p ∈ ob, p.1 = p.2) (hev : Zje Tryd.prog Zfs 62 (rpr L1 a2 L3 L4 L5 L6 L7) #[vp 0 0, Value.int .i32 (64 : Int), Value.string (Zb L0)] 4000 orc = some (Value.iface 88 (Value.agg #[vi a2]), ob) := by as_aux_lemma => kernel_rfl) : Gx Tryd.prog 62 (rpr L1 a2 L3 L4 L5 L6 L7) #[vp 0 0, Value.int .i32 (64 : Int), Value.string (Zb L0)] (Zer L0 L1 a2 L3 L4 L5 L6 L7) (ZdW L0 L1 a2 L3 L4 L5 L6 L7) (some (.r1 : Zav)) := ZlY Zft hev ho rfl (by rfl) (by rfl) (ZaV _ rfl)

noncomputable abbrev κdj (L0 : List Int) := #[Value.string (Zb (L0.drop 1))]
noncomputable abbrev κb8 (L3 : List RA) (L0 : List Int) := [vi (L3.length : Int), Value.string (Zb (L0.drop 1))]
set_option maxHeartbeats 4000000 in
theorem Zj1 (L0 L1 : List Int) (a2 : Int) (L3 : List RA) (L4 : List Int) (L5 : List R_is) (L6 : List (List Int)) (L7 : List R_si) (N : Nat) : Gx Tryd.prog 62 (rpr L1 a2 L3 L4 L5 L6 L7) #[vp 0 0, Value.int .i32 (64 : Int), Value.string (Zb L0)] (Zer L0 L1 a2 L3 L4 L5 L6 L7) (ZdW L0 L1 a2 L3 L4 L5 L6 L7) (Za1 L0 L1 a2 L3 L4 L5 L6 L7 N) := by
 unfold Za1
 refine Zc (fun g0 => ?_) (fun g0 => ?_)
 ·
  have w1 : OkL (Zd7 L0 L1 a2 L3 L4 L5 L6 L7) :=
   Za (Zj (ZlX (M := L0) (i := 0) rfl (by first | rfl | exact Zgc (by omega)) (by (try simp only [ZH] at *); omega))) <| oY <| Z6
  refine Zc (fun g1 => ?_) (fun g1 => ?_)
  ·
   have w2 : OkL (Zd8 L0 L1 a2 L3 L4 L5 L6 L7) :=
    Za (Zj (ZwM (M := L0) (R := (L0.drop 1)) rfl (by (try simp only [ZH] at *); omega) (by (try simp only [ZH] at *); omega) (by first | rfl | simp))) <| oT <| w1
   refine ZaF (fun z2 c2 => ?_)
   cases z2 with
   | r0 y2_0 =>
    refine Zc (fun g3 => ?_) (fun g3 => ?_)
    ·
     subst g3
     refine Zc (fun g4 => ?_) (fun _ => Zq)
     exact gxF Zft (orc := (Zp [(2, true), (3, true)] [] [] [] [(0, .bs [(bAt L0 0)]), (1, .bs (L0.drop 1)), (2, (Zgo ((L0.drop 1))  true  6)), (3, .bs (L0.drop 1)), (4, .ap 1 (κb8 L3 L0) (Zg ZM (L5 ++ (κT L3 L0))))])) (live := [0, 1, 2, 3, 4, 5, 7]) (u := vq) (bl := [some (.cells [Value.string (Zb L1), vi a2, vs 1 0 L3.length L3.length, vs 2 0 L4.length L4.length, vs 7 0 (L5.length + 1) (L5.length + 1), vs 4 0 L6.length L6.length, Value.map (some 5)] 57), some (κbK L3), some (κbU L4), none, some (κK L6), some (.ro (Zm L7) true), some (.cells (Zg ZM (L5 ++ (κT L3 L0))) 122)]) (ob := ((dP ((1 = 1 ∧ Z8 (1 * 2) (List.drop 0 (κb8 L3 L0)) = some (κb8 L3 L0) ∧ Zw ZaZ (κb8 L3 L0) = true) ∧ 0 < 1 ∧ 1 ≤ 100000 ∧ L5.length < L5.length + 1 ∧ L5.length ≤ 100000 ∧ L5.length * 2 ≤ (List.length (Zg ZM L5)) ∧ List.take (L5.length * 2) (Zg ZM L5) ++ (κb8 L3 L0) = (Zg ZM (L5 ++ (κT L3 L0)))), true) :: (κca L0) :: (dP (ZeE (κdj L0) ((L0.drop 1))  true  6), true) :: Zd8 L0 L1 a2 L3 L4 L5 L6 L7)) (Za (Zj ⟨⟨rfl, ⟨rfl, rfl⟩⟩, by omega, by omega, ltA, by omega, (Zat (E := ZM) (L := L5) (M := (κT L3 L0)) (n := L5.length) (show _ = _ * 2 from rfl) (by omega) (R := (L5 ++ (κT L3 L0))) (by rw [List.take_of_length_le (by omega)]))⟩) <| Za (Zj (ZwM (M := L0) (R := (L0.drop 1)) rfl (by (try simp only [ZH] at *); omega) (by (try simp only [ZH] at *); omega) (by first | rfl | simp))) <| Za (Zj (Zgp (κdj L0) ((L0.drop 1))  true N c2  6 rfl dcd dcd)) <| w2) rr ⟨sm, ⟨(Zl (E := E_iiii) _ L3 _), ⟨(Zl (E := eI) _ L4 _), ⟨(Zl (E := Zag) _ L6 _), ⟨(show Zm L7 = Zm L7 from rfl), ⟨(Zx (E := ZM) _ (L5 ++ (κT L3 L0)) _), trivial⟩⟩⟩⟩⟩⟩
    ·
     obtain rfl : y2_0 = false := by simpa using g3
     exact Zd9 (Zp [(2, true), (3, true)] [] [] [] [(0, .bs [(bAt L0 0)]), (1, .bs (L0.drop 1)), (2, (Zgo ((L0.drop 1))  false  6))]) ((dP (ZeE (κdj L0) ((L0.drop 1))  false  6), true) :: Zd8 L0 L1 a2 L3 L4 L5 L6 L7) (Za (Zj (Zgp (κdj L0) ((L0.drop 1))  false N c2  6 rfl dcd dcd)) <| w2)
  ·
   exact Zd9 (Zp [(2, true), (3, false)] [] [] [] [(0, .bs [(bAt L0 0)])]) ((((bAt L0 0) == (64 : Int)), false) :: Zd7 L0 L1 a2 L3 L4 L5 L6 L7) (oF <| w1)
 ·
  exact Zd9 (Zp [(2, false)] [] [] [] []) (((decide ((((Zb L0).size : Nat) : Int) > (1 : Int))), false) :: []) (oN <| Z6)

theorem ZeX (L0 L1 : List Int) (a2 : Int) (L3 : List RA) (L4 : List Int) (L5 : List R_is) (L6 : List (List Int)) (L7 : List R_si) (N : Nat) (r : Zav) (h : Za1 L0 L1 a2 L3 L4 L5 L6 L7 N = some r) : LSpec Tryd.prog 62 #[vp 0 0, Value.int .i32 (64 : Int), Value.string (Zb L0)] (rpr L1 a2 L3 L4 L5 L6 L7) (Zer L0 L1 a2 L3 L4 L5 L6 L7 r) (ZdW L0 L1 a2 L3 L4 L5 L6 L7 r) :=
 Zj1 L0 L1 a2 L3 L4 L5 L6 L7 N r h

noncomputable def Zgg (L0 L1 : List Int) (a2 : Int) (L3 : List RA) (L4 : List Int) (L5 : List R_is) (L6 : List (List Int)) (L7 : List R_si) (k0 k1 k2 k3 k4 k5 n : Nat) : Za5 := .call (κa k0 L1 a2 k1 L3 k2 L4 k3 L5 k4 L6 k5 L7) (vq) [(k0, some (.cells [Value.string (Zb L1), vi a2, vs k1 0 L3.length L3.length, vs k2 0 L4.length L4.length, vs n 0 (L5.length + 1) (L5.length + 1), vs k4 0 L6.length L6.length, Value.map (some k5)] 57)), (k3, none), (n, some (.cells (Zg ZM (L5 ++ (κT L3 L0))) 122))] 1
def ZdX (A : Array Value) (L0 L1 : List Int) (a2 : Int) (L3 : List RA) (L4 : List Int) (L5 : List R_is) (L6 : List (List Int)) (L7 : List R_si) (k0 k1 k2 k3 k4 k5 n : Nat) : Prop := Z3 Tryd.prog 62 A (κa k0 L1 a2 k1 L3 k2 L4 k3 L5 k4 L6 k5 L7) (vq) [(k0, some (.cells [Value.string (Zb L1), vi a2, vs k1 0 L3.length L3.length, vs k2 0 L4.length L4.length, vs n 0 (L5.length + 1) (L5.length + 1), vs k4 0 L6.length L6.length, Value.map (some k5)] 57)), (k3, none), (n, some (.cells (Zg ZM (L5 ++ (κT L3 L0))) 122))] n 1

theorem Zgh (A : Array Value) (L0 L1 : List Int) (a2 : Int) (L3 : List RA) (L4 : List Int) (L5 : List R_is) (L6 : List (List Int)) (L7 : List R_si) (N : Nat) (h : Za1 L0 L1 a2 L3 L4 L5 L6 L7 N = some (.r0)) (k0 k1 k2 k3 k4 k5 n : Nat) (hA : A = #[vp k0 0, Value.int .i32 (64 : Int), Value.string (Zb L0)]) (hnd : ([k0, k1, k2, k3, k4, k5] : List Nat).Nodup) (hlt : ∀ k ∈ ([k0, k1, k2, k3, k4, k5] : List Nat), k < n) : ZdX A L0 L1 a2 L3 L4 L5 L6 L7 k0 k1 k2 k3 k4 k5 n :=
 Zae hA (cX0 (show LSpec Tryd.prog 62 #[vp 0 0, Value.int .i32 (64 : Int), Value.string (Zb L0)] (rpr L1 a2 L3 L4 L5 L6 L7) (vq) [some (.cells [Value.string (Zb L1), vi a2, vs 1 0 L3.length L3.length, vs 2 0 L4.length L4.length, vs 6 0 (L5.length + 1) (L5.length + 1), vs 4 0 L6.length L6.length, Value.map (some 5)] 57), some (κbK L3), some (κbU L4), none, some (κK L6), some (.ro (Zm L7) true), some (.cells (Zg ZM (L5 ++ (κT L3 L0))) 122)] from ZeX L0 L1 a2 L3 L4 L5 L6 L7 N _ h) [k0, k1, k2, k3, k4, k5] n [0, 3, 6] hnd hlt)

noncomputable def Zgi (L0 L1 : List Int) (a2 : Int) (L3 : List RA) (L4 : List Int) (L5 : List R_is) (L6 : List (List Int)) (L7 : List R_si) (k0 k1 k2 k3 k4 k5 n : Nat) : Za5 := .call (κa k0 L1 a2 k1 L3 k2 L4 k3 L5 k4 L6 k5 L7) (κba a2) [(k0, none), (k1, none), (k2, none), (k3, none), (k4, none), (k5, none)] 0
def ZdY (A : Array Value) (L0 L1 : List Int) (a2 : Int) (L3 : List RA) (L4 : List Int) (L5 : List R_is) (L6 : List (List Int)) (L7 : List R_si) (k0 k1 k2 k3 k4 k5 n : Nat) : Prop := Z3 Tryd.prog 62 A (κa k0 L1 a2 k1 L3 k2 L4 k3 L5 k4 L6 k5 L7) (κba a2) [(k0, none), (k1, none), (k2, none), (k3, none), (k4, none), (k5, none)] n 0

theorem Zgj (A : Array Value) (L0 L1 : List Int) (a2 : Int) (L3 : List RA) (L4 : List Int) (L5 : List R_is) (L6 : List (List Int)) (L7 : List R_si) (N : Nat) (h : Za1 L0 L1 a2 L3 L4 L5 L6 L7 N = some (.r1)) (k0 k1 k2 k3 k4 k5 n : Nat) (hA : A = #[vp k0 0, Value.int .i32 (64 : Int), Value.string (Zb L0)]) (hnd : ([k0, k1, k2, k3, k4, k5] : List Nat).Nodup) (hlt : ∀ k ∈ ([k0, k1, k2, k3, k4, k5] : List Nat), k < n) : ZdY A L0 L1 a2 L3 L4 L5 L6 L7 k0 k1 k2 k3 k4 k5 n :=
 Zae hA (cX0 (show LSpec Tryd.prog 62 #[vp 0 0, Value.int .i32 (64 : Int), Value.string (Zb L0)] (rpr L1 a2 L3 L4 L5 L6 L7) (κba a2) [none, none, none, none, none, none] from ZeX L0 L1 a2 L3 L4 L5 L6 L7 N _ h) [k0, k1, k2, k3, k4, k5] n [0, 1, 2, 3, 4, 5] hnd hlt)

noncomputable def ZdA (L0 L1 : List Int) (a2 : Int) (L3 : List RA) (L4 : List Int) (L5 : List R_is) (L6 : List (List Int)) (L7 : List R_si) : Zf → Value
 | .r0 => Value.iface 88 (Value.agg #[vi a2])
 | .r1 w5 => vtt
 | .r2 w4 w6 => vtt
noncomputable abbrev κo (L4 : List Int) (a2 : Int) := (Zg eI (L4 ++ ([a2] : List Int)))
noncomputable def Zd3 (L0 L1 : List Int) (a2 : Int) (L3 : List RA) (L4 : List Int) (L5 : List R_is) (L6 : List (List Int)) (L7 : List R_si) : Zf → List (Option AObj)
 | .r0 => [none, none, none, none, none, none]
 | .r1 w5 => [some (.cells [Value.string (Zb L1), vi a2, vs 6 0 w5.length w5.length, vs 7 0 (L4.length + 1) (L4.length + 1), vs 3 0 L5.length L5.length, vs 4 0 L6.length L6.length, Value.map (some 5)] 57), none, none, some (κW L5), some (κK L6), some (.ro (Zm L7) true), some (.cells (Zg E_iiii w5) 24), some (.cells (κo L4 a2) 3)]
 | .r2 w4 w6 => [some (.cells [Value.string (Zb L1), vi a2, vs 6 0 w4.length w4.length, vs 7 0 (L4.length + 1) (L4.length + 1), vs 8 0 w6.length w6.length, vs 4 0 L6.length L6.length, Value.map (some 5)] 57), none, none, none, some (κK L6), some (.ro (Zm L7) true), some (.cells (Zg E_iiii w4) 24), some (.cells (κo L4 a2) 3), some (.cells (Zg ZM w6) 122)]

noncomputable def ZeF : FuncId → Option Ext := fun f => bif Nat.beq f 51 then none else ZG f
theorem ZL : Fit Tryd.prog ZeF := Zh2 ZdD _

noncomputable def ZeY (L0 L1 : List Int) (a2 : Int) (L3 : List RA) (L4 : List Int) (L5 : List R_is) (L6 : List (List Int)) (L7 : List R_si) : OB := (κcR L0) :: []

end Ev
end Go.Proofs.YtlbbiflodemagaaDoor
/- Calls do what the plain functions say. -/
namespace Go.Proofs.YtlbbiflodemagaaDoor
open Go.RowKit
namespace Ev
set_option linter.unusedVariables false
set_option maxRecDepth 100000
noncomputable abbrev κc8 := ((0 : Int) == Int.ofNat 0, true)
noncomputable def ZeZ (L0 L1 : List Int) (a2 : Int) (L3 : List RA) (L4 : List Int) (L5 : List R_is) (L6 : List (List Int)) (L7 : List R_si) : OB := (ZbK (Z8 1 (List.drop (0 + (0 * 1)) (Zg Zag (wds L0)))) (wsl L0 0), true) :: (Nat.blt 0 (wds L0).length, true) :: κc8 :: ZeY L0 L1 a2 L3 L4 L5 L6 L7

noncomputable def ZI (L0 L1 : List Int) (a2 : Int) (L3 : List RA) (L4 : List Int) (L5 : List R_is) (L6 : List (List Int)) (L7 : List R_si) (y3_0 : Int) (y3_1 : Bool) : OB := (dP (Zkv #[Value.string (Zb (wd L0 0))] ((wd L0 0))  y3_0 y3_1  7), true) :: ZeZ L0 L1 a2 L3 L4 L5 L6 L7

noncomputable def Zck (L0 L1 : List Int) (a2 : Int) (L3 : List RA) (L4 : List Int) (L5 : List R_is) (L6 : List (List Int)) (L7 : List R_si) (y3_0 : Int) (y3_1 : Bool) : OB := (dP (Zkx #[vi y3_0] (y3_0)    7), true) :: ZI L0 L1 a2 L3 L4 L5 L6 L7 y3_0 y3_1

theorem Zi {L0 : List Int} {L1 : List Int} {a2 : Int} {L3 : List RA} {L4 : List Int} {L5 : List R_is} {L6 : List (List Int)} {L7 : List R_si} (orc : Orc) (ob : OB) (ho : ∀ p ∈ ob, p.1 = p.2) (hev : Zje Tryd.prog ZeF 51 (rpr L1 a2 L3 L4 L5 L6 L7) (κby L0) 4000 orc = some (Value.iface 88 (Value.agg #[vi a2]), ob) := by as_aux_lemma => kernel_rfl) : Gx Tryd.prog 51 (rpr L1 a2 L3 L4 L5 L6 L7) (κby L0) (ZdA L0 L1 a2 L3 L4 L5 L6 L7) (Zd3 L0 L1 a2 L3 L4 L5 L6 L7) (some (.r0 : Zf)) := ZlY ZL hev ho rfl (by rfl) (by rfl) (ZaV _ rfl)

noncomputable abbrev κdd (L0 : List Int) := (((((wds L0).length : Nat) : Int) != (3 : Int)), false)
noncomputable def Zdn (L0 L1 : List Int) (a2 : Int) (L3 : List RA) (L4 : List Int) (L5 : List R_is) (L6 : List (List Int)) (L7 : List R_si) (y3_0 : Int) (y3_1 : Bool) : OB := (κdd L0) :: ((!y3_1), false) :: Zck L0 L1 a2 L3 L4 L5 L6 L7 y3_0 y3_1

noncomputable abbrev κb7 (L0 : List Int) := (Nat.blt 1 (wds L0).length, true)
noncomputable abbrev κbq := ((1 : Int) == Int.ofNat 1, true)
noncomputable abbrev κ7 (L3 : List RA) := ((decide ((L3.length : Int) ≥ (512 : Int))), false)
noncomputable abbrev κL (L0 : List Int) := (ZbK (Z8 1 (List.drop (0 + (1 * 1)) (Zg Zag (wds L0)))) (wsl L0 1), true)
noncomputable def Zdo (L0 L1 : List Int) (a2 : Int) (L3 : List RA) (L4 : List Int) (L5 : List R_is) (L6 : List (List Int)) (L7 : List R_si) (y3_0 : Int) (y3_1 : Bool) : OB := (κL L0) :: (κb7 L0) :: κbq :: (κ7 L3) :: Zdn L0 L1 a2 L3 L4 L5 L6 L7 y3_0 y3_1

noncomputable abbrev κct := ((2 : Int) == Int.ofNat 2, true)
noncomputable abbrev κcm (L0 : List Int) := (Nat.blt 2 (wds L0).length, true)
noncomputable abbrev κbj (L0 : List Int) := (ZbK (Z8 1 (List.drop (0 + (2 * 1)) (Zg Zag (wds L0)))) (wsl L0 2), true)
noncomputable abbrev κC (L6 : List (List Int)) := (dS (Zg Zag L6), true)
noncomputable abbrev κB (L5 : List R_is) := (dS (Zg ZM L5), true)
noncomputable abbrev κy (L3 : List RA) := (dS (Zg E_iiii L3), true)
noncomputable abbrev κl (L1 : List Int) (a2 : Int) (L3 : List RA) (L4 : List Int) (L5 : List R_is) (L6 : List (List Int)) := (dS (rdc L1 a2 L3 L4 L5 L6), true)
noncomputable def Zdp (L0 L1 : List Int) (a2 : Int) (L3 : List RA) (L4 : List Int) (L5 : List R_is) (L6 : List (List Int)) (L7 : List R_si) (y3_0 : Int) (y3_1 : Bool) : OB := (κbj L0) :: (κcm L0) :: κct :: (dP (ZO #[vp 0 0, Value.int .i32 (114 : Int), Value.string (Zb (wd L0 1))] ((wd L0 1)) L1 a2 L3 L4 L5 L6 L7   0 1 2 3 4 5 9), true) :: (κl L1 a2 L3 L4 L5 L6) :: (κy L3) :: (dS (Zg eI L4), true) :: (κB L5) :: (κC L6) :: (dS (Zm L7), true) :: Zdo L0 L1 a2 L3 L4 L5 L6 L7 y3_0 y3_1

noncomputable def Zbj (L0 L1 : List Int) (a2 : Int) (L3 : List RA) (L4 : List Int) (L5 : List R_is) (L6 : List (List Int)) (L7 : List R_si) (y3_0 : Int) (y3_1 : Bool) : OB := (dP (Zky #[vi y3_0] (y3_0)    7), true) :: ZI L0 L1 a2 L3 L4 L5 L6 L7 y3_0 y3_1

noncomputable abbrev κcJ (L0 : List Int) := (((((wds L0).length : Nat) : Int) != (2 : Int)), false)
noncomputable def Zdq (L0 L1 : List Int) (a2 : Int) (L3 : List RA) (L4 : List Int) (L5 : List R_is) (L6 : List (List Int)) (L7 : List R_si) (y3_0 : Int) (y3_1 : Bool) : OB := (κL L0) :: (κb7 L0) :: κbq :: (κ7 L3) :: (κcJ L0) :: ((!y3_1), false) :: Zbj L0 L1 a2 L3 L4 L5 L6 L7 y3_0 y3_1

noncomputable def Zcl (L0 L1 : List Int) (a2 : Int) (L3 : List RA) (L4 : List Int) (L5 : List R_is) (L6 : List (List Int)) (L7 : List R_si) (y3_0 : Int) (y3_1 : Bool) : OB := (dP (Zkz #[vi y3_0] (y3_0)    7), true) :: ZI L0 L1 a2 L3 L4 L5 L6 L7 y3_0 y3_1

noncomputable def ZcN (L0 L1 : List Int) (a2 : Int) (L3 : List RA) (L4 : List Int) (L5 : List R_is) (L6 : List (List Int)) (L7 : List R_si) (y3_0 : Int) (y3_1 : Bool) : OB := (κdd L0) :: ((!y3_1), false) :: Zcl L0 L1 a2 L3 L4 L5 L6 L7 y3_0 y3_1

noncomputable def ZcO (L0 L1 : List Int) (a2 : Int) (L3 : List RA) (L4 : List Int) (L5 : List R_is) (L6 : List (List Int)) (L7 : List R_si) (y3_0 : Int) (y3_1 : Bool) : OB := (κL L0) :: (κb7 L0) :: κbq :: (κ7 L3) :: ZcN L0 L1 a2 L3 L4 L5 L6 L7 y3_0 y3_1

noncomputable def ZcP (L0 L1 : List Int) (a2 : Int) (L3 : List RA) (L4 : List Int) (L5 : List R_is) (L6 : List (List Int)) (L7 : List R_si) (y3_0 : Int) (y3_1 : Bool) : OB := (κbj L0) :: (κcm L0) :: κct :: (dP (ZO #[vp 0 0, Value.int .i32 (114 : Int), Value.string (Zb (wd L0 1))] ((wd L0 1)) L1 a2 L3 L4 L5 L6 L7   0 1 2 3 4 5 9), true) :: (κl L1 a2 L3 L4 L5 L6) :: (κy L3) :: (dS (Zg eI L4), true) :: (κB L5) :: (κC L6) :: (dS (Zm L7), true) :: ZcO L0 L1 a2 L3 L4 L5 L6 L7 y3_0 y3_1

noncomputable def ZcQ (L0 L1 : List Int) (a2 : Int) (L3 : List RA) (L4 : List Int) (L5 : List R_is) (L6 : List (List Int)) (L7 : List R_si) (y3_0 : Int) (y3_1 : Bool) : OB := (dP (Zk0 #[vi y3_0] (y3_0)    7), true) :: ZI L0 L1 a2 L3 L4 L5 L6 L7 y3_0 y3_1

noncomputable def ZbM (L0 L1 : List Int) (a2 : Int) (L3 : List RA) (L4 : List Int) (L5 : List R_is) (L6 : List (List Int)) (L7 : List R_si) (y3_0 : Int) (y3_1 : Bool) : OB := ((!y3_1), false) :: ZcQ L0 L1 a2 L3 L4 L5 L6 L7 y3_0 y3_1

noncomputable abbrev κbF (L0 : List Int) := (((((wds L0).length : Nat) : Int) != (4 : Int)), false)
noncomputable def ZcR (L0 L1 : List Int) (a2 : Int) (L3 : List RA) (L4 : List Int) (L5 : List R_is) (L6 : List (List Int)) (L7 : List R_si) (y3_0 : Int) (y3_1 : Bool) : OB := (κL L0) :: (κb7 L0) :: κbq :: (κ7 L3) :: (κbF L0) :: ZbM L0 L1 a2 L3 L4 L5 L6 L7 y3_0 y3_1

noncomputable def ZcS (L0 L1 : List Int) (a2 : Int) (L3 : List RA) (L4 : List Int) (L5 : List R_is) (L6 : List (List Int)) (L7 : List R_si) (y3_0 : Int) (y3_1 : Bool) : OB := (κbj L0) :: (κcm L0) :: κct :: (dP (ZO #[vp 0 0, Value.int .i32 (114 : Int), Value.string (Zb (wd L0 1))] ((wd L0 1)) L1 a2 L3 L4 L5 L6 L7   0 1 2 3 4 5 9), true) :: (κl L1 a2 L3 L4 L5 L6) :: (κy L3) :: (dS (Zg eI L4), true) :: (κB L5) :: (κC L6) :: (dS (Zm L7), true) :: ZcR L0 L1 a2 L3 L4 L5 L6 L7 y3_0 y3_1

noncomputable abbrev κds := ((3 : Int) == Int.ofNat 3, true)
noncomputable abbrev κdr (L0 : List Int) := (Nat.blt 3 (wds L0).length, true)
noncomputable abbrev κcd (L0 : List Int) := (ZbK (Z8 1 (List.drop (0 + (3 * 1)) (Zg Zag (wds L0)))) (wsl L0 3), true)
noncomputable def ZcT (L0 L1 : List Int) (a2 : Int) (L3 : List RA) (L4 : List Int) (L5 : List R_is) (L6 : List (List Int)) (L7 : List R_si) (y3_0 : Int) (y3_1 : Bool) : OB := (κcd L0) :: (κdr L0) :: κds :: (dP (Zbd #[vp 0 0, Value.int .i32 (35 : Int), Value.string (Zb (wd L0 2))] ((wd L0 2)) L1 a2 L3 L4 L5 L6 L7   0 1 2 3 4 5 9), true) :: (κl L1 a2 L3 L4 L5 L6) :: (κy L3) :: (dS (Zg eI L4), true) :: (κB L5) :: (κC L6) :: (dS (Zm L7), true) :: ZcS L0 L1 a2 L3 L4 L5 L6 L7 y3_0 y3_1

noncomputable def ZcU (L0 L1 : List Int) (a2 : Int) (L3 : List RA) (L4 : List Int) (L5 : List R_is) (L6 : List (List Int)) (L7 : List R_si) (y3_0 : Int) (y3_1 : Bool) : OB := (dP (Zk1 #[vi y3_0] (y3_0)    7), true) :: ZI L0 L1 a2 L3 L4 L5 L6 L7 y3_0 y3_1

noncomputable def ZbN (L0 L1 : List Int) (a2 : Int) (L3 : List RA) (L4 : List Int) (L5 : List R_is) (L6 : List (List Int)) (L7 : List R_si) (y3_0 : Int) (y3_1 : Bool) : OB := ((!y3_1), false) :: ZcU L0 L1 a2 L3 L4 L5 L6 L7 y3_0 y3_1

noncomputable def ZcV (L0 L1 : List Int) (a2 : Int) (L3 : List RA) (L4 : List Int) (L5 : List R_is) (L6 : List (List Int)) (L7 : List R_si) (y3_0 : Int) (y3_1 : Bool) : OB := (κL L0) :: (κb7 L0) :: κbq :: (κ7 L3) :: (κbF L0) :: ZbN L0 L1 a2 L3 L4 L5 L6 L7 y3_0 y3_1

noncomputable def ZcW (L0 L1 : List Int) (a2 : Int) (L3 : List RA) (L4 : List Int) (L5 : List R_is) (L6 : List (List Int)) (L7 : List R_si) (y3_0 : Int) (y3_1 : Bool) : OB := (κbj L0) :: (κcm L0) :: κct :: (dP (ZO #[vp 0 0, Value.int .i32 (114 : Int), Value.string (Zb (wd L0 1))] ((wd L0 1)) L1 a2 L3 L4 L5 L6 L7   0 1 2 3 4 5 9), true) :: (κl L1 a2 L3 L4 L5 L6) :: (κy L3) :: (dS (Zg eI L4), true) :: (κB L5) :: (κC L6) :: (dS (Zm L7), true) :: ZcV L0 L1 a2 L3 L4 L5 L6 L7 y3_0 y3_1

noncomputable def ZcX (L0 L1 : List Int) (a2 : Int) (L3 : List RA) (L4 : List Int) (L5 : List R_is) (L6 : List (List Int)) (L7 : List R_si) (y3_0 : Int) (y3_1 : Bool) : OB := (κcd L0) :: (κdr L0) :: κds :: (dP (ZO #[vp 0 0, Value.int .i32 (114 : Int), Value.string (Zb (wd L0 2))] ((wd L0 2)) L1 a2 L3 L4 L5 L6 L7   0 1 2 3 4 5 9), true) :: (κl L1 a2 L3 L4 L5 L6) :: (κy L3) :: (dS (Zg eI L4), true) :: (κB L5) :: (κC L6) :: (dS (Zm L7), true) :: ZcW L0 L1 a2 L3 L4 L5 L6 L7 y3_0 y3_1

noncomputable def ZcY (L0 L1 : List Int) (a2 : Int) (L3 : List RA) (L4 : List Int) (L5 : List R_is) (L6 : List (List Int)) (L7 : List R_si) (y3_0 : Int) (y3_1 : Bool) : OB := (dP (Zk2 #[vi y3_0] (y3_0)    7), true) :: ZI L0 L1 a2 L3 L4 L5 L6 L7 y3_0 y3_1

noncomputable def ZbO (L0 L1 : List Int) (a2 : Int) (L3 : List RA) (L4 : List Int) (L5 : List R_is) (L6 : List (List Int)) (L7 : List R_si) (y3_0 : Int) (y3_1 : Bool) : OB := ((!y3_1), false) :: ZcY L0 L1 a2 L3 L4 L5 L6 L7 y3_0 y3_1

noncomputable def ZcZ (L0 L1 : List Int) (a2 : Int) (L3 : List RA) (L4 : List Int) (L5 : List R_is) (L6 : List (List Int)) (L7 : List R_si) (y3_0 : Int) (y3_1 : Bool) : OB := (κL L0) :: (κb7 L0) :: κbq :: (κ7 L3) :: (κbF L0) :: ZbO L0 L1 a2 L3 L4 L5 L6 L7 y3_0 y3_1

noncomputable def Zda (L0 L1 : List Int) (a2 : Int) (L3 : List RA) (L4 : List Int) (L5 : List R_is) (L6 : List (List Int)) (L7 : List R_si) (y3_0 : Int) (y3_1 : Bool) : OB := (κbj L0) :: (κcm L0) :: κct :: (dP (ZO #[vp 0 0, Value.int .i32 (114 : Int), Value.string (Zb (wd L0 1))] ((wd L0 1)) L1 a2 L3 L4 L5 L6 L7   0 1 2 3 4 5 9), true) :: (κl L1 a2 L3 L4 L5 L6) :: (κy L3) :: (dS (Zg eI L4), true) :: (κB L5) :: (κC L6) :: (dS (Zm L7), true) :: ZcZ L0 L1 a2 L3 L4 L5 L6 L7 y3_0 y3_1

noncomputable def Zdb (L0 L1 : List Int) (a2 : Int) (L3 : List RA) (L4 : List Int) (L5 : List R_is) (L6 : List (List Int)) (L7 : List R_si) (y3_0 : Int) (y3_1 : Bool) : OB := (κcd L0) :: (κdr L0) :: κds :: (dP (Zbd #[vp 0 0, Value.int .i32 (35 : Int), Value.string (Zb (wd L0 2))] ((wd L0 2)) L1 a2 L3 L4 L5 L6 L7   0 1 2 3 4 5 9), true) :: (κl L1 a2 L3 L4 L5 L6) :: (κy L3) :: (dS (Zg eI L4), true) :: (κB L5) :: (κC L6) :: (dS (Zm L7), true) :: Zda L0 L1 a2 L3 L4 L5 L6 L7 y3_0 y3_1

noncomputable def ZbP (L0 L1 : List Int) (a2 : Int) (L3 : List RA) (L4 : List Int) (L5 : List R_is) (L6 : List (List Int)) (L7 : List R_si) (y3_0 : Int) (y3_1 : Bool) : OB := ((!y3_1), false) :: (dP (Zh3 #[vi y3_0] (y3_0)    7), true) :: ZI L0 L1 a2 L3 L4 L5 L6 L7 y3_0 y3_1

noncomputable def ZaY (L0 L1 : List Int) (a2 : Int) (L3 : List RA) (L4 : List Int) (L5 : List R_is) (L6 : List (List Int)) (L7 : List R_si) (y3_0 : Int) (y3_1 : Bool) : OB := (dP (Zk4 #[vi y3_0] (y3_0)    7), true) :: ZI L0 L1 a2 L3 L4 L5 L6 L7 y3_0 y3_1

noncomputable def Zdc (L0 L1 : List Int) (a2 : Int) (L3 : List RA) (L4 : List Int) (L5 : List R_is) (L6 : List (List Int)) (L7 : List R_si) (y3_0 : Int) (y3_1 : Bool) : OB := (κL L0) :: (κb7 L0) :: κbq :: (κ7 L3) :: (κcJ L0) :: ((!y3_1), false) :: ZaY L0 L1 a2 L3 L4 L5 L6 L7 y3_0 y3_1

noncomputable def ZbQ (L0 L1 : List Int) (a2 : Int) (L3 : List RA) (L4 : List Int) (L5 : List R_is) (L6 : List (List Int)) (L7 : List R_si) (y3_0 : Int) (y3_1 : Bool) : OB := (dP (Zk5 #[vi y3_0] (y3_0)    7), true) :: ZI L0 L1 a2 L3 L4 L5 L6 L7 y3_0 y3_1

noncomputable def Zdd (L0 L1 : List Int) (a2 : Int) (L3 : List RA) (L4 : List Int) (L5 : List R_is) (L6 : List (List Int)) (L7 : List R_si) (y3_0 : Int) (y3_1 : Bool) : OB := (κdd L0) :: ((!y3_1), false) :: ZbQ L0 L1 a2 L3 L4 L5 L6 L7 y3_0 y3_1

noncomputable def Zde (L0 L1 : List Int) (a2 : Int) (L3 : List RA) (L4 : List Int) (L5 : List R_is) (L6 : List (List Int)) (L7 : List R_si) (y3_0 : Int) (y3_1 : Bool) : OB := (κL L0) :: (κb7 L0) :: κbq :: (κ7 L3) :: Zdd L0 L1 a2 L3 L4 L5 L6 L7 y3_0 y3_1

noncomputable def Zdf (L0 L1 : List Int) (a2 : Int) (L3 : List RA) (L4 : List Int) (L5 : List R_is) (L6 : List (List Int)) (L7 : List R_si) (y3_0 : Int) (y3_1 : Bool) : OB := (κbj L0) :: (κcm L0) :: κct :: (dP (ZO #[vp 0 0, Value.int .i32 (114 : Int), Value.string (Zb (wd L0 1))] ((wd L0 1)) L1 a2 L3 L4 L5 L6 L7   0 1 2 3 4 5 9), true) :: (κl L1 a2 L3 L4 L5 L6) :: (κy L3) :: (dS (Zg eI L4), true) :: (κB L5) :: (κC L6) :: (dS (Zm L7), true) :: Zde L0 L1 a2 L3 L4 L5 L6 L7 y3_0 y3_1

noncomputable def Zdg (L0 L1 : List Int) (a2 : Int) (L3 : List RA) (L4 : List Int) (L5 : List R_is) (L6 : List (List Int)) (L7 : List R_si) (y3_0 : Int) (y3_1 : Bool) : OB := (dP (Zk6 #[vi y3_0] (y3_0)    7), true) :: ZI L0 L1 a2 L3 L4 L5 L6 L7 y3_0 y3_1

noncomputable def ZbR (L0 L1 : List Int) (a2 : Int) (L3 : List RA) (L4 : List Int) (L5 : List R_is) (L6 : List (List Int)) (L7 : List R_si) (y3_0 : Int) (y3_1 : Bool) : OB := ((!y3_1), false) :: Zdg L0 L1 a2 L3 L4 L5 L6 L7 y3_0 y3_1

noncomputable def Zdh (L0 L1 : List Int) (a2 : Int) (L3 : List RA) (L4 : List Int) (L5 : List R_is) (L6 : List (List Int)) (L7 : List R_si) (y3_0 : Int) (y3_1 : Bool) : OB := (κL L0) :: (κb7 L0) :: κbq :: (κ7 L3) :: (κbF L0) :: ZbR L0 L1 a2 L3 L4 L5 L6 L7 y3_0 y3_1

noncomputable def Zdi (L0 L1 : List Int) (a2 : Int) (L3 : List RA) (L4 : List Int) (L5 : List R_is) (L6 : List (List Int)) (L7 : List R_si) (y3_0 : Int) (y3_1 : Bool) : OB := (κbj L0) :: (κcm L0) :: κct :: (dP (ZO #[vp 0 0, Value.int .i32 (114 : Int), Value.string (Zb (wd L0 1))] ((wd L0 1)) L1 a2 L3 L4 L5 L6 L7   0 1 2 3 4 5 9), true) :: (κl L1 a2 L3 L4 L5 L6) :: (κy L3) :: (dS (Zg eI L4), true) :: (κB L5) :: (κC L6) :: (dS (Zm L7), true) :: Zdh L0 L1 a2 L3 L4 L5 L6 L7 y3_0 y3_1

noncomputable def Zdj (L0 L1 : List Int) (a2 : Int) (L3 : List RA) (L4 : List Int) (L5 : List R_is) (L6 : List (List Int)) (L7 : List R_si) (y3_0 : Int) (y3_1 : Bool) : OB := (κcd L0) :: (κdr L0) :: κds :: (dP (ZO #[vp 0 0, Value.int .i32 (114 : Int), Value.string (Zb (wd L0 2))] ((wd L0 2)) L1 a2 L3 L4 L5 L6 L7   0 1 2 3 4 5 9), true) :: (κl L1 a2 L3 L4 L5 L6) :: (κy L3) :: (dS (Zg eI L4), true) :: (κB L5) :: (κC L6) :: (dS (Zm L7), true) :: Zdi L0 L1 a2 L3 L4 L5 L6 L7 y3_0 y3_1

end Ev
end Go.Proofs.YtlbbiflodemagaaDoor
/- Calls do what the plain functions say. -/
namespace Go.Proofs.YtlbbiflodemagaaDoor
open Go.RowKit
namespace Ev
set_option linter.unusedVariables false
set_option maxRecDepth 100000
noncomputable abbrev κdf (L0 : List Int) := (((((wds L0).length : Nat) : Int) != (3 : Int)), true)
noncomputable abbrev κc7 (y3_0 : Int) := (1 = 1 ∧ Z8 (1 * 4) (List.drop 0 [vi y3_0, vq, vq, vq]) = some [vi y3_0, vq, vq, vq] ∧ Zw ZaZ [vi y3_0, vq, vq, vq] = true)
noncomputable abbrev κc4 (y3_0 : Int) := (2, (Zp4 (y3_0)    7))
noncomputable abbrev κc3 (y3_0 : Int) := (2, (Zpu (y3_0)    7))
noncomputable abbrev κcO (L0 : List Int) := (((((wds L0).length : Nat) : Int) != (4 : Int)), true)
noncomputable abbrev κcM (y3_0 : Int) := (2, (Zp6 (y3_0)    7))
noncomputable abbrev κcL (y3_0 : Int) := (2, (Zpw (y3_0)    7))
noncomputable abbrev κcK (y3_0 : Int) := (2, (Zps (y3_0)    7))
noncomputable abbrev κcq (y3_0 : Int) := (2, (Zp8 (y3_0)    7))
noncomputable abbrev κcp (y3_0 : Int) := (2, (Zp2 (y3_0)    7))
noncomputable abbrev κco (y3_0 : Int) := (2, (Zp0 (y3_0)    7))
noncomputable abbrev κcn (y3_0 : Int) := (2, (Zpy (y3_0)    7))
noncomputable abbrev κck (L1 : List Int) (a2 : Int) (L3 : List RA) (L4 : List Int) (L5 : List R_is) (L6 : List (List Int)) := (AObj.cells [Value.string (Zb L1), vi a2, vs 11 0 (L3.length + 1) (L3.length + 1), vs 13 0 (L4.length + 1) (L4.length + 1), vs 9 0 (L5.length + 1) (L5.length + 1), vs 4 0 L6.length L6.length, Value.map (some 5)] 57)
noncomputable abbrev κcj (L1 : List Int) (a2 : Int) (L3 : List RA) (L4 : List Int) (L5 : List R_is) (L6 : List (List Int)) := ([Value.string (Zb L1), vi a2, vs 6 0 (L3.length + 1) (L3.length + 1), vs 7 0 (L4.length + 1) (L4.length + 1), vs 8 0 (L5.length + 1) (L5.length + 1), vs 4 0 L6.length L6.length, Value.map (some 5)] : List Value)
noncomputable abbrev κb5 (L3 : List RA) := (List.length (Zg E_iiii L3))
noncomputable abbrev κb2 (y3_0 : Int) (L0 : List Int) := [vi y3_0, vi ((bAt (wd L0 1) 1) - (48 : Int)), vi (Zbf (wd L0 2)), vq]
noncomputable abbrev κbO (y3_0 : Int) (L0 : List Int) := [vi y3_0, vi ((bAt (wd L0 1) 1) - (48 : Int)), vi ((bAt (wd L0 2) 1) - (48 : Int)), vq]
noncomputable abbrev κbM (y3_0 : Int) (L0 : List Int) := [vi y3_0, vi ((bAt (wd L0 1) 1) - (48 : Int)), vi (Zbf (wd L0 2)), vi (Zbf (wd L0 3))]
noncomputable abbrev κbx (y3_0 : Int) (L0 : List Int) := [vi y3_0, vi ((bAt (wd L0 1) 1) - (48 : Int)), vi (Zbf (wd L0 2)), vi ((bAt (wd L0 3) 1) - (48 : Int))]
noncomputable abbrev κbw (y3_0 : Int) (L0 : List Int) := [vi y3_0, vi ((bAt (wd L0 1) 1) - (48 : Int)), vi ((bAt (wd L0 2) 1) - (48 : Int)), vi (Zbf (wd L0 3))]
noncomputable abbrev κbl (y3_0 : Int) (L0 : List Int) := [vi y3_0, vi ((bAt (wd L0 1) 1) - (48 : Int)), vi ((bAt (wd L0 2) 1) - (48 : Int)), vi ((bAt (wd L0 3) 1) - (48 : Int))]
noncomputable abbrev κbk (y3_0 : Int) (L0 : List Int) := [vi y3_0, vi ((bAt (wd L0 1) 1) - (48 : Int)), vq, vq]
noncomputable abbrev κbi (y3_0 : Int) (L0 : List Int) := ([(⟨y3_0, ((bAt (wd L0 1) 1) - (48 : Int)), (Zbf (wd L0 2)), (0 : Int)⟩ : RA)] : List RA)
noncomputable abbrev κ9 (L3 : List RA) := ((decide ((L3.length : Int) ≥ (512 : Int))), true)
noncomputable abbrev κ8 (y3_0 : Int) (L0 : List Int) := ([(⟨y3_0, ((bAt (wd L0 1) 1) - (48 : Int)), (Zbf (wd L0 2)), (Zbf (wd L0 3))⟩ : RA)] : List RA)
noncomputable abbrev κ6 (L0 : List Int) (L1 : List Int) (a2 : Int) (L3 : List RA) (L4 : List Int) (L5 : List R_is) (L6 : List (List Int)) (L7 : List R_si) := (3, (Zbt ((wd L0 1)) L1 a2 L3 L4 L5 L6 L7   0 1 2 3 4 5 9))
noncomputable abbrev κY (y3_0 : Int) (L0 : List Int) := ([(⟨y3_0, ((bAt (wd L0 1) 1) - (48 : Int)), ((bAt (wd L0 2) 1) - (48 : Int)), (0 : Int)⟩ : RA)] : List RA)
noncomputable abbrev κR (y3_0 : Int) (L0 : List Int) := ([(⟨y3_0, ((bAt (wd L0 1) 1) - (48 : Int)), (Zbf (wd L0 2)), ((bAt (wd L0 3) 1) - (48 : Int))⟩ : RA)] : List RA)
noncomputable abbrev κQ (y3_0 : Int) (L0 : List Int) := ([(⟨y3_0, ((bAt (wd L0 1) 1) - (48 : Int)), ((bAt (wd L0 2) 1) - (48 : Int)), (Zbf (wd L0 3))⟩ : RA)] : List RA)
noncomputable abbrev κJ (y3_0 : Int) (L0 : List Int) := ([(⟨y3_0, ((bAt (wd L0 1) 1) - (48 : Int)), ((bAt (wd L0 2) 1) - (48 : Int)), ((bAt (wd L0 3) 1) - (48 : Int))⟩ : RA)] : List RA)
noncomputable abbrev κH (y3_0 : Int) := ([(⟨y3_0, (0 : Int), (0 : Int), (0 : Int)⟩ : RA)] : List RA)
noncomputable abbrev κA (y3_0 : Int) (L0 : List Int) := ([(⟨y3_0, ((bAt (wd L0 1) 1) - (48 : Int)), (0 : Int), (0 : Int)⟩ : RA)] : List RA)
noncomputable abbrev κj (L0 : List Int) (L1 : List Int) (a2 : Int) (L3 : List RA) (L4 : List Int) (L5 : List R_is) (L6 : List (List Int)) (L7 : List R_si) := (3, (ZaI ((wd L0 1)) L1 a2 L3 L4 L5 L6 L7   0 1 2 3 4 5 9))
noncomputable abbrev κi (L1 : List Int) (a2 : Int) (L3 : List RA) (L4 : List Int) (L5 : List R_is) (L6 : List (List Int)) := (AObj.cells [Value.string (Zb L1), vi a2, vs 10 0 (L3.length + 1) (L3.length + 1), vs 12 0 (L4.length + 1) (L4.length + 1), vs 3 0 L5.length L5.length, vs 4 0 L6.length L6.length, Value.map (some 5)] 57)
noncomputable abbrev κh (L1 : List Int) (a2 : Int) (L3 : List RA) (L4 : List Int) (L5 : List R_is) (L6 : List (List Int)) := ([Value.string (Zb L1), vi a2, vs 6 0 (L3.length + 1) (L3.length + 1), vs 7 0 (L4.length + 1) (L4.length + 1), vs 3 0 L5.length L5.length, vs 4 0 L6.length L6.length, Value.map (some 5)] : List Value)
noncomputable abbrev κd (a2 : Int) (L4 : List Int) := (dP ((1 = 1 ∧ Z8 (1 * 1) (List.drop 0 [vi a2]) = some [vi a2] ∧ Zw ZaZ [vi a2] = true) ∧ 0 < 1 ∧ 1 ≤ 100000 ∧ L4.length < L4.length + 1 ∧ L4.length ≤ 100000 ∧ L4.length * 1 ≤ (List.length (Zg eI L4)) ∧ List.take (L4.length * 1) (Zg eI L4) ++ [vi a2] = (κo L4 a2)), true)
noncomputable abbrev κc (L0 : List Int) (y3_0 : Int) (y3_1 : Bool) := (1, (Zpq ((wd L0 0))  y3_0 y3_1  7))
set_option maxHeartbeats 4000000 in
theorem Zi5 (L0 L1 : List Int) (a2 : Int) (L3 : List RA) (L4 : List Int) (L5 : List R_is) (L6 : List (List Int)) (L7 : List R_si) (N : Nat) : Gx Tryd.prog 51 (rpr L1 a2 L3 L4 L5 L6 L7) (κby L0) (ZdA L0 L1 a2 L3 L4 L5 L6 L7) (Zd3 L0 L1 a2 L3 L4 L5 L6 L7) (Zas L0 L1 a2 L3 L4 L5 L6 L7 N) := by
 unfold Zas
 refine Zc (fun g0 => ?_) (fun _ => Zq)
 refine Zc (fun g1 => ?_) (fun _ => Zq)
 have w2 : OkL (ZeY L0 L1 a2 L3 L4 L5 L6 L7) :=
  Za (Zj ⟨rfl, by assumption, ltA⟩) <| Z6
 refine Zc (fun g2 => ?_) (fun _ => Zq)
 have w3 : OkL (ZeZ L0 L1 a2 L3 L4 L5 L6 L7) :=
  Za (ZbG 0 ltA) <| oL <| oI <| w2
 refine ZaF (fun z3 c3 => ?_)
 cases z3 with
 | r0 y3_0 y3_1 =>
  have w4 : OkL (ZI L0 L1 a2 L3 L4 L5 L6 L7 y3_0 y3_1) :=
   Za (Zj (Zpr #[Value.string (Zb (wd L0 0))] ((wd L0 0))  y3_0 y3_1 N c3  7 rfl dcd dcd)) <| w3
  refine ZaF (fun z4 c4 => ?_)
  cases z4 with
  | r0 =>
   have w5 : OkL (Zck L0 L1 a2 L3 L4 L5 L6 L7 y3_0 y3_1) :=
    Za (Zj (Zpt #[vi y3_0] (y3_0)   N c4  7 rfl dcd dcd)) <| w4
   refine Zc (fun g5 => ?_) (fun g5 => ?_)
   ·
    exact Zi (Zs [o1] [] [(0, 0)] [(0, (wsl L0 0))] [(0, .bs L0), (κc L0 y3_0 y3_1), (κcK y3_0)]) (((!y3_1), true) :: Zck L0 L1 a2 L3 L4 L5 L6 L7 y3_0 y3_1) (Za nBt <| w5)
   ·
    refine Zc (fun g6 => ?_) (fun g6 => ?_)
    ·
     exact Zi (Zs [o0, o1] [] [(0, 0)] [(0, (wsl L0 0))] [(0, .bs L0), (κc L0 y3_0 y3_1), (κcK y3_0)]) ((κdf L0) :: ((!y3_1), false) :: Zck L0 L1 a2 L3 L4 L5 L6 L7 y3_0 y3_1) (oD <| Za nBf <| w5)
    ·
     have w7 : OkL (Zdn L0 L1 a2 L3 L4 L5 L6 L7 y3_0 y3_1) :=
      oE <| Za nBf <| w5
     refine Zc (fun g7 => ?_) (fun g7 => ?_)
     ·
      exact Zi (Zs [o0, o0, o1] [] [(0, 0)] [(0, (wsl L0 0))] [(0, .bs L0), (κc L0 y3_0 y3_1), (κcK y3_0)]) ((κ9 L3) :: Zdn L0 L1 a2 L3 L4 L5 L6 L7 y3_0 y3_1) (oY <| w7)
     ·
      have w8 : OkL (Zdo L0 L1 a2 L3 L4 L5 L6 L7 y3_0 y3_1) :=
       Za (ZbG 1 ltA) <| oL <| oI <| oN <| w7
      refine ZaF (fun z8 c8 => ?_)
      cases z8 with
      | r0 =>
       have w9 : OkL (Zdp L0 L1 a2 L3 L4 L5 L6 L7 y3_0 y3_1) :=
        Za (ZbG 2 ltA) <| oL <| oI <| Za (Zj (ZV #[vp 0 0, Value.int .i32 (114 : Int), Value.string (Zb (wd L0 1))] ((wd L0 1)) L1 a2 L3 L4 L5 L6 L7   N c8 0 1 2 3 4 5 9 rfl dcd dcd)) <| oR <| oR <| oR <| oR <| oR <| oR <| w8
       refine ZaF (fun z9 c9 => ?_)
       cases z9 with
       | r0 =>
        refine Zc (fun g10 => ?_) (fun _ => Zq)
        exact gxF ZL (orc := (Zs [o0, o0, o0] [] [(0, 0), (1, 1), (3, 2)] [(0, (wsl L0 0)), (2, (wsl L0 1)), (3, (wsl L0 2))] [(0, .bs L0), (κc L0 y3_0 y3_1), (κcK y3_0), (κj L0 L1 a2 L3 L4 L5 L6 L7), (5, (ZaK ((wd L0 2)) L1 a2 L3 L4 L5 L6 L7   0 1 2 3 4 5 9)), (7, .ap 1 (κb2 y3_0 L0) (Zg E_iiii (L3 ++ (κbi y3_0 L0)))), (9, .ap 1 [vi a2] (κo L4 a2))])) (live := [0, 1, 2, 3, 4, 5, 10, 12]) (u := vtt) (bl := [some (κi L1 a2 L3 L4 L5 L6), none, none, some (κW L5), some (κK L6), some (.ro (Zm L7) true), some (.cells (Zg E_iiii (L3 ++ (κbi y3_0 L0))) 24), some (.cells (κo L4 a2) 3)]) (ob := ((κd a2 L4) :: (dP ((1 = 1 ∧ Z8 (1 * 4) (List.drop 0 (κb2 y3_0 L0)) = some (κb2 y3_0 L0) ∧ Zw ZaZ (κb2 y3_0 L0) = true) ∧ 0 < 1 ∧ 1 ≤ 100000 ∧ L3.length < L3.length + 1 ∧ L3.length ≤ 100000 ∧ L3.length * 4 ≤ (κb5 L3) ∧ List.take (L3.length * 4) (Zg E_iiii L3) ++ (κb2 y3_0 L0) = (Zg E_iiii (L3 ++ (κbi y3_0 L0)))), true) :: (dP (Zbd #[vp 0 0, Value.int .i32 (35 : Int), Value.string (Zb (wd L0 2))] ((wd L0 2)) L1 a2 L3 L4 L5 L6 L7   0 1 2 3 4 5 9), true) :: (κl L1 a2 L3 L4 L5 L6) :: (κy L3) :: (dS (Zg eI L4), true) :: (κB L5) :: (κC L6) :: (dS (Zm L7), true) :: Zdp L0 L1 a2 L3 L4 L5 L6 L7 y3_0 y3_1)) (Za (Zj ⟨⟨rfl, ⟨rfl, rfl⟩⟩, by omega, by omega, ltA, by omega, (Zat (E := eI) (L := L4) (M := ([a2] : List Int)) (n := L4.length) (show _ = _ * 1 from rfl) (by omega) (R := (L4 ++ ([a2] : List Int))) (by rw [List.take_of_length_le (by omega)]))⟩) <| Za (Zj ⟨⟨rfl, ⟨rfl, rfl⟩⟩, by omega, by omega, ltA, by omega, (Zat (E := E_iiii) (L := L3) (M := (κbi y3_0 L0)) (n := L3.length) (show _ = _ * 4 from rfl) (by omega) (R := (L3 ++ (κbi y3_0 L0))) (by rw [List.take_of_length_le (by omega)]))⟩) <| Za (Zj (ZbH #[vp 0 0, Value.int .i32 (35 : Int), Value.string (Zb (wd L0 2))] ((wd L0 2)) L1 a2 L3 L4 L5 L6 L7   N c9 0 1 2 3 4 5 9 rfl dcd dcd)) <| oR <| oR <| oR <| oR <| oR <| oR <| w9) rr ⟨⟨rfl, ⟨[], (show (κh L1 a2 L3 L4 L5 L6) = _ from (Zh rfl (Zh rfl (Zh (ZC rfl eqA eqA) (Zh rfl (Zh rfl (Zh rfl (Zh rfl rfl))))))).symm)⟩, by rfl⟩, ⟨(Zl (E := ZM) _ L5 _), ⟨(Zl (E := Zag) _ L6 _), ⟨(show Zm L7 = Zm L7 from rfl), ⟨(Zx (E := E_iiii) _ (L3 ++ (κbi y3_0 L0)) _), ⟨(Zx (E := eI) _ (L4 ++ ([a2] : List Int)) _), trivial⟩⟩⟩⟩⟩⟩
       | r1 =>
        exact Zi (Zs [o0, o0, o0] [] [(0, 0), (1, 1), (3, 2)] [(0, (wsl L0 0)), (2, (wsl L0 1)), (3, (wsl L0 2))] [(0, .bs L0), (κc L0 y3_0 y3_1), (κcK y3_0), (κj L0 L1 a2 L3 L4 L5 L6 L7), (5, (ZbI ((wd L0 2)) L1 a2 L3 L4 L5 L6 L7   0 1 2 3 4 5 9))]) ((dP (Zbe #[vp 0 0, Value.int .i32 (35 : Int), Value.string (Zb (wd L0 2))] ((wd L0 2)) L1 a2 L3 L4 L5 L6 L7   0 1 2 3 4 5 9), true) :: (κl L1 a2 L3 L4 L5 L6) :: (κy L3) :: (dS (Zg eI L4), true) :: (κB L5) :: (κC L6) :: (dS (Zm L7), true) :: Zdp L0 L1 a2 L3 L4 L5 L6 L7 y3_0 y3_1) (Za (Zj (ZbJ #[vp 0 0, Value.int .i32 (35 : Int), Value.string (Zb (wd L0 2))] ((wd L0 2)) L1 a2 L3 L4 L5 L6 L7   N c9 0 1 2 3 4 5 9 rfl dcd dcd)) <| oR <| oR <| oR <| oR <| oR <| oR <| w9)
      | r1 =>
       exact Zi (Zs [o0, o0, o0] [] [(0, 0), (1, 1)] [(0, (wsl L0 0)), (2, (wsl L0 1))] [(0, .bs L0), (κc L0 y3_0 y3_1), (κcK y3_0), (κ6 L0 L1 a2 L3 L4 L5 L6 L7)]) ((dP (ZP #[vp 0 0, Value.int .i32 (114 : Int), Value.string (Zb (wd L0 1))] ((wd L0 1)) L1 a2 L3 L4 L5 L6 L7   0 1 2 3 4 5 9), true) :: (κl L1 a2 L3 L4 L5 L6) :: (κy L3) :: (dS (Zg eI L4), true) :: (κB L5) :: (κC L6) :: (dS (Zm L7), true) :: Zdo L0 L1 a2 L3 L4 L5 L6 L7 y3_0 y3_1) (Za (Zj (ZW #[vp 0 0, Value.int .i32 (114 : Int), Value.string (Zb (wd L0 1))] ((wd L0 1)) L1 a2 L3 L4 L5 L6 L7   N c8 0 1 2 3 4 5 9 rfl dcd dcd)) <| oR <| oR <| oR <| oR <| oR <| oR <| w8)
  | r1 =>
   have w5 : OkL (Zbj L0 L1 a2 L3 L4 L5 L6 L7 y3_0 y3_1) :=
    Za (Zj (Zpv #[vi y3_0] (y3_0)   N c4  7 rfl dcd dcd)) <| w4
   refine Zc (fun g5 => ?_) (fun g5 => ?_)
   ·
    exact Zi (Zs [o1] [] [(0, 0)] [(0, (wsl L0 0))] [(0, .bs L0), (κc L0 y3_0 y3_1), (κc3 y3_0)]) (((!y3_1), true) :: Zbj L0 L1 a2 L3 L4 L5 L6 L7 y3_0 y3_1) (Za nBt <| w5)
   ·
    refine Zc (fun g6 => ?_) (fun g6 => ?_)
    ·
     exact Zi (Zs [o0, o1] [] [(0, 0)] [(0, (wsl L0 0))] [(0, .bs L0), (κc L0 y3_0 y3_1), (κc3 y3_0)]) ((((((wds L0).length : Nat) : Int) != (2 : Int)), true) :: ((!y3_1), false) :: Zbj L0 L1 a2 L3 L4 L5 L6 L7 y3_0 y3_1) (oD <| Za nBf <| w5)
    ·
     refine Zc (fun g7 => ?_) (fun g7 => ?_)
     ·
      exact Zi (Zs [o0, o0, o1] [] [(0, 0)] [(0, (wsl L0 0))] [(0, .bs L0), (κc L0 y3_0 y3_1), (κc3 y3_0)]) ((κ9 L3) :: (κcJ L0) :: ((!y3_1), false) :: Zbj L0 L1 a2 L3 L4 L5 L6 L7 y3_0 y3_1) (oY <| oE <| Za nBf <| w5)
     ·
      have w8 : OkL (Zdq L0 L1 a2 L3 L4 L5 L6 L7 y3_0 y3_1) :=
       Za (ZbG 1 ltA) <| oL <| oI <| oN <| oE <| Za nBf <| w5
      refine ZaF (fun z8 c8 => ?_)
      cases z8 with
      | r0 =>
       refine Zc (fun g9 => ?_) (fun _ => Zq)
       exact gxF ZL (orc := (Zs [o0, o0, o0] [] [(0, 0), (1, 1)] [(0, (wsl L0 0)), (2, (wsl L0 1))] [(0, .bs L0), (κc L0 y3_0 y3_1), (κc3 y3_0), (3, (Zgg ((wd L0 1)) L1 a2 L3 L4 L5 L6 L7   0 1 2 3 4 5 9)), (5, .ap 1 [vi y3_0, vq, vq, vq] (Zg E_iiii (L3 ++ (κH y3_0)))), (7, .ap 1 [vi a2] (κo L4 a2))])) (live := [0, 1, 2, 3, 4, 5, 11, 13, 9]) (u := vtt) (bl := [some (κck L1 a2 L3 L4 L5 L6), none, none, none, some (κK L6), some (.ro (Zm L7) true), some (.cells (Zg E_iiii (L3 ++ (κH y3_0))) 24), some (.cells (κo L4 a2) 3), some (.cells (Zg ZM (L5 ++ ([(⟨(L3.length : Int), ((wd L0 1).drop 1)⟩ : R_is)] : List R_is))) 122)]) (ob := ((κd a2 L4) :: (dP ((κc7 y3_0) ∧ 0 < 1 ∧ 1 ≤ 100000 ∧ L3.length < L3.length + 1 ∧ L3.length ≤ 100000 ∧ L3.length * 4 ≤ (κb5 L3) ∧ List.take (L3.length * 4) (Zg E_iiii L3) ++ [vi y3_0, vq, vq, vq] = (Zg E_iiii (L3 ++ (κH y3_0)))), true) :: (dP (ZdX #[vp 0 0, Value.int .i32 (64 : Int), Value.string (Zb (wd L0 1))] ((wd L0 1)) L1 a2 L3 L4 L5 L6 L7   0 1 2 3 4 5 9), true) :: (κl L1 a2 L3 L4 L5 L6) :: (κy L3) :: (dS (Zg eI L4), true) :: (κB L5) :: (κC L6) :: (dS (Zm L7), true) :: Zdq L0 L1 a2 L3 L4 L5 L6 L7 y3_0 y3_1)) (Za (Zj ⟨⟨rfl, ⟨rfl, rfl⟩⟩, by omega, by omega, ltA, by omega, (Zat (E := eI) (L := L4) (M := ([a2] : List Int)) (n := L4.length) (show _ = _ * 1 from rfl) (by omega) (R := (L4 ++ ([a2] : List Int))) (by rw [List.take_of_length_le (by omega)]))⟩) <| Za (Zj ⟨⟨rfl, ⟨rfl, rfl⟩⟩, by omega, by omega, ltA, by omega, (Zat (E := E_iiii) (L := L3) (M := (κH y3_0)) (n := L3.length) (show _ = _ * 4 from rfl) (by omega) (R := (L3 ++ (κH y3_0))) (by rw [List.take_of_length_le (by omega)]))⟩) <| Za (Zj (Zgh #[vp 0 0, Value.int .i32 (64 : Int), Value.string (Zb (wd L0 1))] ((wd L0 1)) L1 a2 L3 L4 L5 L6 L7   N c8 0 1 2 3 4 5 9 rfl dcd dcd)) <| oR <| oR <| oR <| oR <| oR <| oR <| w8) rr ⟨⟨rfl, ⟨[], (show (κcj L1 a2 L3 L4 L5 L6) = _ from (Zh rfl (Zh rfl (Zh (ZC rfl eqA eqA) (Zh rfl (Zh (ZC rfl eqA eqA) (Zh rfl (Zh rfl rfl))))))).symm)⟩, by rfl⟩, ⟨(Zl (E := Zag) _ L6 _), ⟨(show Zm L7 = Zm L7 from rfl), ⟨(Zx (E := E_iiii) _ (L3 ++ (κH y3_0)) _), ⟨(Zx (E := eI) _ (L4 ++ ([a2] : List Int)) _), ⟨(Zx (E := ZM) _ (L5 ++ ([(⟨(L3.length : Int), ((wd L0 1).drop 1)⟩ : R_is)] : List R_is)) _), trivial⟩⟩⟩⟩⟩⟩
      | r1 =>
       exact Zi (Zs [o0, o0, o0] [] [(0, 0), (1, 1)] [(0, (wsl L0 0)), (2, (wsl L0 1))] [(0, .bs L0), (κc L0 y3_0 y3_1), (κc3 y3_0), (3, (Zgi ((wd L0 1)) L1 a2 L3 L4 L5 L6 L7   0 1 2 3 4 5 9))]) ((dP (ZdY #[vp 0 0, Value.int .i32 (64 : Int), Value.string (Zb (wd L0 1))] ((wd L0 1)) L1 a2 L3 L4 L5 L6 L7   0 1 2 3 4 5 9), true) :: (κl L1 a2 L3 L4 L5 L6) :: (κy L3) :: (dS (Zg eI L4), true) :: (κB L5) :: (κC L6) :: (dS (Zm L7), true) :: Zdq L0 L1 a2 L3 L4 L5 L6 L7 y3_0 y3_1) (Za (Zj (Zgj #[vp 0 0, Value.int .i32 (64 : Int), Value.string (Zb (wd L0 1))] ((wd L0 1)) L1 a2 L3 L4 L5 L6 L7   N c8 0 1 2 3 4 5 9 rfl dcd dcd)) <| oR <| oR <| oR <| oR <| oR <| oR <| w8)
  | r2 =>
   have w5 : OkL (Zcl L0 L1 a2 L3 L4 L5 L6 L7 y3_0 y3_1) :=
    Za (Zj (Zpx #[vi y3_0] (y3_0)   N c4  7 rfl dcd dcd)) <| w4
   refine Zc (fun g5 => ?_) (fun g5 => ?_)
   ·
    exact Zi (Zs [o1] [] [(0, 0)] [(0, (wsl L0 0))] [(0, .bs L0), (κc L0 y3_0 y3_1), (κcL y3_0)]) (((!y3_1), true) :: Zcl L0 L1 a2 L3 L4 L5 L6 L7 y3_0 y3_1) (Za nBt <| w5)
   ·
    refine Zc (fun g6 => ?_) (fun g6 => ?_)
    ·
     exact Zi (Zs [o0, o1] [] [(0, 0)] [(0, (wsl L0 0))] [(0, .bs L0), (κc L0 y3_0 y3_1), (κcL y3_0)]) ((κdf L0) :: ((!y3_1), false) :: Zcl L0 L1 a2 L3 L4 L5 L6 L7 y3_0 y3_1) (oD <| Za nBf <| w5)
    ·
     have w7 : OkL (ZcN L0 L1 a2 L3 L4 L5 L6 L7 y3_0 y3_1) :=
      oE <| Za nBf <| w5
     refine Zc (fun g7 => ?_) (fun g7 => ?_)
     ·
      exact Zi (Zs [o0, o0, o1] [] [(0, 0)] [(0, (wsl L0 0))] [(0, .bs L0), (κc L0 y3_0 y3_1), (κcL y3_0)]) ((κ9 L3) :: ZcN L0 L1 a2 L3 L4 L5 L6 L7 y3_0 y3_1) (oY <| w7)
     ·
      have w8 : OkL (ZcO L0 L1 a2 L3 L4 L5 L6 L7 y3_0 y3_1) :=
       Za (ZbG 1 ltA) <| oL <| oI <| oN <| w7
      refine ZaF (fun z8 c8 => ?_)
      cases z8 with
      | r0 =>
       have w9 : OkL (ZcP L0 L1 a2 L3 L4 L5 L6 L7 y3_0 y3_1) :=
        Za (ZbG 2 ltA) <| oL <| oI <| Za (Zj (ZV #[vp 0 0, Value.int .i32 (114 : Int), Value.string (Zb (wd L0 1))] ((wd L0 1)) L1 a2 L3 L4 L5 L6 L7   N c8 0 1 2 3 4 5 9 rfl dcd dcd)) <| oR <| oR <| oR <| oR <| oR <| oR <| w8
       refine ZaF (fun z9 c9 => ?_)
       cases z9 with
       | r0 =>
        refine Zc (fun g10 => ?_) (fun _ => Zq)
        exact gxF ZL (orc := (Zs [o0, o0, o0] [] [(0, 0), (1, 1), (3, 2)] [(0, (wsl L0 0)), (2, (wsl L0 1)), (3, (wsl L0 2))] [(0, .bs L0), (κc L0 y3_0 y3_1), (κcL y3_0), (κj L0 L1 a2 L3 L4 L5 L6 L7), (5, (Zgg ((wd L0 2)) L1 a2 L3 L4 L5 L6 L7   0 1 2 3 4 5 9)), (7, .ap 1 (κbk y3_0 L0) (Zg E_iiii (L3 ++ (κA y3_0 L0)))), (9, .ap 1 [vi a2] (κo L4 a2))])) (live := [0, 1, 2, 3, 4, 5, 11, 13, 9]) (u := vtt) (bl := [some (κck L1 a2 L3 L4 L5 L6), none, none, none, some (κK L6), some (.ro (Zm L7) true), some (.cells (Zg E_iiii (L3 ++ (κA y3_0 L0))) 24), some (.cells (κo L4 a2) 3), some (.cells (Zg ZM (L5 ++ ([(⟨(L3.length : Int), ((wd L0 2).drop 1)⟩ : R_is)] : List R_is))) 122)]) (ob := ((κd a2 L4) :: (dP ((1 = 1 ∧ Z8 (1 * 4) (List.drop 0 (κbk y3_0 L0)) = some (κbk y3_0 L0) ∧ Zw ZaZ (κbk y3_0 L0) = true) ∧ 0 < 1 ∧ 1 ≤ 100000 ∧ L3.length < L3.length + 1 ∧ L3.length ≤ 100000 ∧ L3.length * 4 ≤ (κb5 L3) ∧ List.take (L3.length * 4) (Zg E_iiii L3) ++ (κbk y3_0 L0) = (Zg E_iiii (L3 ++ (κA y3_0 L0)))), true) :: (dP (ZdX #[vp 0 0, Value.int .i32 (64 : Int), Value.string (Zb (wd L0 2))] ((wd L0 2)) L1 a2 L3 L4 L5 L6 L7   0 1 2 3 4 5 9), true) :: (κl L1 a2 L3 L4 L5 L6) :: (κy L3) :: (dS (Zg eI L4), true) :: (κB L5) :: (κC L6) :: (dS (Zm L7), true) :: ZcP L0 L1 a2 L3 L4 L5 L6 L7 y3_0 y3_1)) (Za (Zj ⟨⟨rfl, ⟨rfl, rfl⟩⟩, by omega, by omega, ltA, by omega, (Zat (E := eI) (L := L4) (M := ([a2] : List Int)) (n := L4.length) (show _ = _ * 1 from rfl) (by omega) (R := (L4 ++ ([a2] : List Int))) (by rw [List.take_of_length_le (by omega)]))⟩) <| Za (Zj ⟨⟨rfl, ⟨rfl, rfl⟩⟩, by omega, by omega, ltA, by omega, (Zat (E := E_iiii) (L := L3) (M := (κA y3_0 L0)) (n := L3.length) (show _ = _ * 4 from rfl) (by omega) (R := (L3 ++ (κA y3_0 L0))) (by rw [List.take_of_length_le (by omega)]))⟩) <| Za (Zj (Zgh #[vp 0 0, Value.int .i32 (64 : Int), Value.string (Zb (wd L0 2))] ((wd L0 2)) L1 a2 L3 L4 L5 L6 L7   N c9 0 1 2 3 4 5 9 rfl dcd dcd)) <| oR <| oR <| oR <| oR <| oR <| oR <| w9) rr ⟨⟨rfl, ⟨[], (show (κcj L1 a2 L3 L4 L5 L6) = _ from (Zh rfl (Zh rfl (Zh (ZC rfl eqA eqA) (Zh rfl (Zh (ZC rfl eqA eqA) (Zh rfl (Zh rfl rfl))))))).symm)⟩, by rfl⟩, ⟨(Zl (E := Zag) _ L6 _), ⟨(show Zm L7 = Zm L7 from rfl), ⟨(Zx (E := E_iiii) _ (L3 ++ (κA y3_0 L0)) _), ⟨(Zx (E := eI) _ (L4 ++ ([a2] : List Int)) _), ⟨(Zx (E := ZM) _ (L5 ++ ([(⟨(L3.length : Int), ((wd L0 2).drop 1)⟩ : R_is)] : List R_is)) _), trivial⟩⟩⟩⟩⟩⟩
       | r1 =>
        exact Zi (Zs [o0, o0, o0] [] [(0, 0), (1, 1), (3, 2)] [(0, (wsl L0 0)), (2, (wsl L0 1)), (3, (wsl L0 2))] [(0, .bs L0), (κc L0 y3_0 y3_1), (κcL y3_0), (κj L0 L1 a2 L3 L4 L5 L6 L7), (5, (Zgi ((wd L0 2)) L1 a2 L3 L4 L5 L6 L7   0 1 2 3 4 5 9))]) ((dP (ZdY #[vp 0 0, Value.int .i32 (64 : Int), Value.string (Zb (wd L0 2))] ((wd L0 2)) L1 a2 L3 L4 L5 L6 L7   0 1 2 3 4 5 9), true) :: (κl L1 a2 L3 L4 L5 L6) :: (κy L3) :: (dS (Zg eI L4), true) :: (κB L5) :: (κC L6) :: (dS (Zm L7), true) :: ZcP L0 L1 a2 L3 L4 L5 L6 L7 y3_0 y3_1) (Za (Zj (Zgj #[vp 0 0, Value.int .i32 (64 : Int), Value.string (Zb (wd L0 2))] ((wd L0 2)) L1 a2 L3 L4 L5 L6 L7   N c9 0 1 2 3 4 5 9 rfl dcd dcd)) <| oR <| oR <| oR <| oR <| oR <| oR <| w9)
      | r1 =>
       exact Zi (Zs [o0, o0, o0] [] [(0, 0), (1, 1)] [(0, (wsl L0 0)), (2, (wsl L0 1))] [(0, .bs L0), (κc L0 y3_0 y3_1), (κcL y3_0), (κ6 L0 L1 a2 L3 L4 L5 L6 L7)]) ((dP (ZP #[vp 0 0, Value.int .i32 (114 : Int), Value.string (Zb (wd L0 1))] ((wd L0 1)) L1 a2 L3 L4 L5 L6 L7   0 1 2 3 4 5 9), true) :: (κl L1 a2 L3 L4 L5 L6) :: (κy L3) :: (dS (Zg eI L4), true) :: (κB L5) :: (κC L6) :: (dS (Zm L7), true) :: ZcO L0 L1 a2 L3 L4 L5 L6 L7 y3_0 y3_1) (Za (Zj (ZW #[vp 0 0, Value.int .i32 (114 : Int), Value.string (Zb (wd L0 1))] ((wd L0 1)) L1 a2 L3 L4 L5 L6 L7   N c8 0 1 2 3 4 5 9 rfl dcd dcd)) <| oR <| oR <| oR <| oR <| oR <| oR <| w8)
  | r3 =>
   have w5 : OkL (ZcQ L0 L1 a2 L3 L4 L5 L6 L7 y3_0 y3_1) :=
    Za (Zj (Zpz #[vi y3_0] (y3_0)   N c4  7 rfl dcd dcd)) <| w4
   refine Zc (fun g5 => ?_) (fun g5 => ?_)
   ·
    exact Zi (Zs [o1] [] [(0, 0)] [(0, (wsl L0 0))] [(0, .bs L0), (κc L0 y3_0 y3_1), (κcn y3_0)]) (((!y3_1), true) :: ZcQ L0 L1 a2 L3 L4 L5 L6 L7 y3_0 y3_1) (Za nBt <| w5)
   ·
    have w6 : OkL (ZbM L0 L1 a2 L3 L4 L5 L6 L7 y3_0 y3_1) :=
     Za nBf <| w5
    refine Zc (fun g6 => ?_) (fun g6 => ?_)
    ·
     exact Zi (Zs [o0, o1] [] [(0, 0)] [(0, (wsl L0 0))] [(0, .bs L0), (κc L0 y3_0 y3_1), (κcn y3_0)]) ((κcO L0) :: ZbM L0 L1 a2 L3 L4 L5 L6 L7 y3_0 y3_1) (oD <| w6)
    ·
     refine Zc (fun g7 => ?_) (fun g7 => ?_)
     ·
      exact Zi (Zs [o0, o0, o1] [] [(0, 0)] [(0, (wsl L0 0))] [(0, .bs L0), (κc L0 y3_0 y3_1), (κcn y3_0)]) ((κ9 L3) :: (κbF L0) :: ZbM L0 L1 a2 L3 L4 L5 L6 L7 y3_0 y3_1) (oY <| oE <| w6)
     ·
      have w8 : OkL (ZcR L0 L1 a2 L3 L4 L5 L6 L7 y3_0 y3_1) :=
       Za (ZbG 1 ltA) <| oL <| oI <| oN <| oE <| w6
      refine ZaF (fun z8 c8 => ?_)
      cases z8 with
      | r0 =>
       have w9 : OkL (ZcS L0 L1 a2 L3 L4 L5 L6 L7 y3_0 y3_1) :=
        Za (ZbG 2 ltA) <| oL <| oI <| Za (Zj (ZV #[vp 0 0, Value.int .i32 (114 : Int), Value.string (Zb (wd L0 1))] ((wd L0 1)) L1 a2 L3 L4 L5 L6 L7   N c8 0 1 2 3 4 5 9 rfl dcd dcd)) <| oR <| oR <| oR <| oR <| oR <| oR <| w8
       refine ZaF (fun z9 c9 => ?_)
       cases z9 with
       | r0 =>
        have w10 : OkL (ZcT L0 L1 a2 L3 L4 L5 L6 L7 y3_0 y3_1) :=
         Za (ZbG 3 ltA) <| oL <| oI <| Za (Zj (ZbH #[vp 0 0, Value.int .i32 (35 : Int), Value.string (Zb (wd L0 2))] ((wd L0 2)) L1 a2 L3 L4 L5 L6 L7   N c9 0 1 2 3 4 5 9 rfl dcd dcd)) <| oR <| oR <| oR <| oR <| oR <| oR <| w9
        refine ZaF (fun z10 c10 => ?_)
        cases z10 with
        | r0 =>
         refine Zc (fun g11 => ?_) (fun _ => Zq)
         exact gxF ZL (orc := (Zs [o0, o0, o0] [] [(0, 0), (1, 1), (3, 2), (5, 3)] [(0, (wsl L0 0)), (2, (wsl L0 1)), (3, (wsl L0 2)), (4, (wsl L0 3))] [(0, .bs L0), (κc L0 y3_0 y3_1), (κcn y3_0), (κj L0 L1 a2 L3 L4 L5 L6 L7), (5, (ZaK ((wd L0 2)) L1 a2 L3 L4 L5 L6 L7   0 1 2 3 4 5 9)), (7, (ZaK ((wd L0 3)) L1 a2 L3 L4 L5 L6 L7   0 1 2 3 4 5 9)), (9, .ap 1 (κbM y3_0 L0) (Zg E_iiii (L3 ++ (κ8 y3_0 L0)))), (11, .ap 1 [vi a2] (κo L4 a2))])) (live := [0, 1, 2, 3, 4, 5, 10, 12]) (u := vtt) (bl := [some (κi L1 a2 L3 L4 L5 L6), none, none, some (κW L5), some (κK L6), some (.ro (Zm L7) true), some (.cells (Zg E_iiii (L3 ++ (κ8 y3_0 L0))) 24), some (.cells (κo L4 a2) 3)]) (ob := ((κd a2 L4) :: (dP ((1 = 1 ∧ Z8 (1 * 4) (List.drop 0 (κbM y3_0 L0)) = some (κbM y3_0 L0) ∧ Zw ZaZ (κbM y3_0 L0) = true) ∧ 0 < 1 ∧ 1 ≤ 100000 ∧ L3.length < L3.length + 1 ∧ L3.length ≤ 100000 ∧ L3.length * 4 ≤ (κb5 L3) ∧ List.take (L3.length * 4) (Zg E_iiii L3) ++ (κbM y3_0 L0) = (Zg E_iiii (L3 ++ (κ8 y3_0 L0)))), true) :: (dP (Zbd #[vp 0 0, Value.int .i32 (35 : Int), Value.string (Zb (wd L0 3))] ((wd L0 3)) L1 a2 L3 L4 L5 L6 L7   0 1 2 3 4 5 9), true) :: (κl L1 a2 L3 L4 L5 L6) :: (κy L3) :: (dS (Zg eI L4), true) :: (κB L5) :: (κC L6) :: (dS (Zm L7), true) :: ZcT L0 L1 a2 L3 L4 L5 L6 L7 y3_0 y3_1)) (Za (Zj ⟨⟨rfl, ⟨rfl, rfl⟩⟩, by omega, by omega, ltA, by omega, (Zat (E := eI) (L := L4) (M := ([a2] : List Int)) (n := L4.length) (show _ = _ * 1 from rfl) (by omega) (R := (L4 ++ ([a2] : List Int))) (by rw [List.take_of_length_le (by omega)]))⟩) <| Za (Zj ⟨⟨rfl, ⟨rfl, rfl⟩⟩, by omega, by omega, ltA, by omega, (Zat (E := E_iiii) (L := L3) (M := (κ8 y3_0 L0)) (n := L3.length) (show _ = _ * 4 from rfl) (by omega) (R := (L3 ++ (κ8 y3_0 L0))) (by rw [List.take_of_length_le (by omega)]))⟩) <| Za (Zj (ZbH #[vp 0 0, Value.int .i32 (35 : Int), Value.string (Zb (wd L0 3))] ((wd L0 3)) L1 a2 L3 L4 L5 L6 L7   N c10 0 1 2 3 4 5 9 rfl dcd dcd)) <| oR <| oR <| oR <| oR <| oR <| oR <| w10) rr ⟨⟨rfl, ⟨[], (show (κh L1 a2 L3 L4 L5 L6) = _ from (Zh rfl (Zh rfl (Zh (ZC rfl eqA eqA) (Zh rfl (Zh rfl (Zh rfl (Zh rfl rfl))))))).symm)⟩, by rfl⟩, ⟨(Zl (E := ZM) _ L5 _), ⟨(Zl (E := Zag) _ L6 _), ⟨(show Zm L7 = Zm L7 from rfl), ⟨(Zx (E := E_iiii) _ (L3 ++ (κ8 y3_0 L0)) _), ⟨(Zx (E := eI) _ (L4 ++ ([a2] : List Int)) _), trivial⟩⟩⟩⟩⟩⟩
        | r1 =>
         exact Zi (Zs [o0, o0, o0] [] [(0, 0), (1, 1), (3, 2), (5, 3)] [(0, (wsl L0 0)), (2, (wsl L0 1)), (3, (wsl L0 2)), (4, (wsl L0 3))] [(0, .bs L0), (κc L0 y3_0 y3_1), (κcn y3_0), (κj L0 L1 a2 L3 L4 L5 L6 L7), (5, (ZaK ((wd L0 2)) L1 a2 L3 L4 L5 L6 L7   0 1 2 3 4 5 9)), (7, (ZbI ((wd L0 3)) L1 a2 L3 L4 L5 L6 L7   0 1 2 3 4 5 9))]) ((dP (Zbe #[vp 0 0, Value.int .i32 (35 : Int), Value.string (Zb (wd L0 3))] ((wd L0 3)) L1 a2 L3 L4 L5 L6 L7   0 1 2 3 4 5 9), true) :: (κl L1 a2 L3 L4 L5 L6) :: (κy L3) :: (dS (Zg eI L4), true) :: (κB L5) :: (κC L6) :: (dS (Zm L7), true) :: ZcT L0 L1 a2 L3 L4 L5 L6 L7 y3_0 y3_1) (Za (Zj (ZbJ #[vp 0 0, Value.int .i32 (35 : Int), Value.string (Zb (wd L0 3))] ((wd L0 3)) L1 a2 L3 L4 L5 L6 L7   N c10 0 1 2 3 4 5 9 rfl dcd dcd)) <| oR <| oR <| oR <| oR <| oR <| oR <| w10)
       | r1 =>
        exact Zi (Zs [o0, o0, o0] [] [(0, 0), (1, 1), (3, 2)] [(0, (wsl L0 0)), (2, (wsl L0 1)), (3, (wsl L0 2))] [(0, .bs L0), (κc L0 y3_0 y3_1), (κcn y3_0), (κj L0 L1 a2 L3 L4 L5 L6 L7), (5, (ZbI ((wd L0 2)) L1 a2 L3 L4 L5 L6 L7   0 1 2 3 4 5 9))]) ((dP (Zbe #[vp 0 0, Value.int .i32 (35 : Int), Value.string (Zb (wd L0 2))] ((wd L0 2)) L1 a2 L3 L4 L5 L6 L7   0 1 2 3 4 5 9), true) :: (κl L1 a2 L3 L4 L5 L6) :: (κy L3) :: (dS (Zg eI L4), true) :: (κB L5) :: (κC L6) :: (dS (Zm L7), true) :: ZcS L0 L1 a2 L3 L4 L5 L6 L7 y3_0 y3_1) (Za (Zj (ZbJ #[vp 0 0, Value.int .i32 (35 : Int), Value.string (Zb (wd L0 2))] ((wd L0 2)) L1 a2 L3 L4 L5 L6 L7   N c9 0 1 2 3 4 5 9 rfl dcd dcd)) <| oR <| oR <| oR <| oR <| oR <| oR <| w9)
      | r1 =>
       exact Zi (Zs [o0, o0, o0] [] [(0, 0), (1, 1)] [(0, (wsl L0 0)), (2, (wsl L0 1))] [(0, .bs L0), (κc L0 y3_0 y3_1), (κcn y3_0), (κ6 L0 L1 a2 L3 L4 L5 L6 L7)]) ((dP (ZP #[vp 0 0, Value.int .i32 (114 : Int), Value.string (Zb (wd L0 1))] ((wd L0 1)) L1 a2 L3 L4 L5 L6 L7   0 1 2 3 4 5 9), true) :: (κl L1 a2 L3 L4 L5 L6) :: (κy L3) :: (dS (Zg eI L4), true) :: (κB L5) :: (κC L6) :: (dS (Zm L7), true) :: ZcR L0 L1 a2 L3 L4 L5 L6 L7 y3_0 y3_1) (Za (Zj (ZW #[vp 0 0, Value.int .i32 (114 : Int), Value.string (Zb (wd L0 1))] ((wd L0 1)) L1 a2 L3 L4 L5 L6 L7   N c8 0 1 2 3 4 5 9 rfl dcd dcd)) <| oR <| oR <| oR <| oR <| oR <| oR <| w8)
  | r4 =>
   have w5 : OkL (ZcU L0 L1 a2 L3 L4 L5 L6 L7 y3_0 y3_1) :=
    Za (Zj (Zp1 #[vi y3_0] (y3_0)   N c4  7 rfl dcd dcd)) <| w4
   refine Zc (fun g5 => ?_) (fun g5 => ?_)
   ·
    exact Zi (Zs [o1] [] [(0, 0)] [(0, (wsl L0 0))] [(0, .bs L0), (κc L0 y3_0 y3_1), (κco y3_0)]) (((!y3_1), true) :: ZcU L0 L1 a2 L3 L4 L5 L6 L7 y3_0 y3_1) (Za nBt <| w5)
   ·
    have w6 : OkL (ZbN L0 L1 a2 L3 L4 L5 L6 L7 y3_0 y3_1) :=
     Za nBf <| w5
    refine Zc (fun g6 => ?_) (fun g6 => ?_)
    ·
     exact Zi (Zs [o0, o1] [] [(0, 0)] [(0, (wsl L0 0))] [(0, .bs L0), (κc L0 y3_0 y3_1), (κco y3_0)]) ((κcO L0) :: ZbN L0 L1 a2 L3 L4 L5 L6 L7 y3_0 y3_1) (oD <| w6)
    ·
     refine Zc (fun g7 => ?_) (fun g7 => ?_)
     ·
      exact Zi (Zs [o0, o0, o1] [] [(0, 0)] [(0, (wsl L0 0))] [(0, .bs L0), (κc L0 y3_0 y3_1), (κco y3_0)]) ((κ9 L3) :: (κbF L0) :: ZbN L0 L1 a2 L3 L4 L5 L6 L7 y3_0 y3_1) (oY <| oE <| w6)
     ·
      have w8 : OkL (ZcV L0 L1 a2 L3 L4 L5 L6 L7 y3_0 y3_1) :=
       Za (ZbG 1 ltA) <| oL <| oI <| oN <| oE <| w6
      refine ZaF (fun z8 c8 => ?_)
      cases z8 with
      | r0 =>
       have w9 : OkL (ZcW L0 L1 a2 L3 L4 L5 L6 L7 y3_0 y3_1) :=
        Za (ZbG 2 ltA) <| oL <| oI <| Za (Zj (ZV #[vp 0 0, Value.int .i32 (114 : Int), Value.string (Zb (wd L0 1))] ((wd L0 1)) L1 a2 L3 L4 L5 L6 L7   N c8 0 1 2 3 4 5 9 rfl dcd dcd)) <| oR <| oR <| oR <| oR <| oR <| oR <| w8
       refine ZaF (fun z9 c9 => ?_)
       cases z9 with
       | r0 =>
        have w10 : OkL (ZcX L0 L1 a2 L3 L4 L5 L6 L7 y3_0 y3_1) :=
         Za (ZbG 3 ltA) <| oL <| oI <| Za (Zj (ZV #[vp 0 0, Value.int .i32 (114 : Int), Value.string (Zb (wd L0 2))] ((wd L0 2)) L1 a2 L3 L4 L5 L6 L7   N c9 0 1 2 3 4 5 9 rfl dcd dcd)) <| oR <| oR <| oR <| oR <| oR <| oR <| w9
        refine ZaF (fun z10 c10 => ?_)
        cases z10 with
        | r0 =>
         refine Zc (fun g11 => ?_) (fun _ => Zq)
         exact gxF ZL (orc := (Zs [o0, o0, o0] [] [(0, 0), (1, 1), (3, 2), (5, 3)] [(0, (wsl L0 0)), (2, (wsl L0 1)), (3, (wsl L0 2)), (4, (wsl L0 3))] [(0, .bs L0), (κc L0 y3_0 y3_1), (κco y3_0), (κj L0 L1 a2 L3 L4 L5 L6 L7), (5, (ZaI ((wd L0 2)) L1 a2 L3 L4 L5 L6 L7   0 1 2 3 4 5 9)), (7, (ZaK ((wd L0 3)) L1 a2 L3 L4 L5 L6 L7   0 1 2 3 4 5 9)), (9, .ap 1 (κbw y3_0 L0) (Zg E_iiii (L3 ++ (κQ y3_0 L0)))), (11, .ap 1 [vi a2] (κo L4 a2))])) (live := [0, 1, 2, 3, 4, 5, 10, 12]) (u := vtt) (bl := [some (κi L1 a2 L3 L4 L5 L6), none, none, some (κW L5), some (κK L6), some (.ro (Zm L7) true), some (.cells (Zg E_iiii (L3 ++ (κQ y3_0 L0))) 24), some (.cells (κo L4 a2) 3)]) (ob := ((κd a2 L4) :: (dP ((1 = 1 ∧ Z8 (1 * 4) (List.drop 0 (κbw y3_0 L0)) = some (κbw y3_0 L0) ∧ Zw ZaZ (κbw y3_0 L0) = true) ∧ 0 < 1 ∧ 1 ≤ 100000 ∧ L3.length < L3.length + 1 ∧ L3.length ≤ 100000 ∧ L3.length * 4 ≤ (κb5 L3) ∧ List.take (L3.length * 4) (Zg E_iiii L3) ++ (κbw y3_0 L0) = (Zg E_iiii (L3 ++ (κQ y3_0 L0)))), true) :: (dP (Zbd #[vp 0 0, Value.int .i32 (35 : Int), Value.string (Zb (wd L0 3))] ((wd L0 3)) L1 a2 L3 L4 L5 L6 L7   0 1 2 3 4 5 9), true) :: (κl L1 a2 L3 L4 L5 L6) :: (κy L3) :: (dS (Zg eI L4), true) :: (κB L5) :: (κC L6) :: (dS (Zm L7), true) :: ZcX L0 L1 a2 L3 L4 L5 L6 L7 y3_0 y3_1)) (Za (Zj ⟨⟨rfl, ⟨rfl, rfl⟩⟩, by omega, by omega, ltA, by omega, (Zat (E := eI) (L := L4) (M := ([a2] : List Int)) (n := L4.length) (show _ = _ * 1 from rfl) (by omega) (R := (L4 ++ ([a2] : List Int))) (by rw [List.take_of_length_le (by omega)]))⟩) <| Za (Zj ⟨⟨rfl, ⟨rfl, rfl⟩⟩, by omega, by omega, ltA, by omega, (Zat (E := E_iiii) (L := L3) (M := (κQ y3_0 L0)) (n := L3.length) (show _ = _ * 4 from rfl) (by omega) (R := (L3 ++ (κQ y3_0 L0))) (by rw [List.take_of_length_le (by omega)]))⟩) <| Za (Zj (ZbH #[vp 0 0, Value.int .i32 (35 : Int), Value.string (Zb (wd L0 3))] ((wd L0 3)) L1 a2 L3 L4 L5 L6 L7   N c10 0 1 2 3 4 5 9 rfl dcd dcd)) <| oR <| oR <| oR <| oR <| oR <| oR <| w10) rr ⟨⟨rfl, ⟨[], (show (κh L1 a2 L3 L4 L5 L6) = _ from (Zh rfl (Zh rfl (Zh (ZC rfl eqA eqA) (Zh rfl (Zh rfl (Zh rfl (Zh rfl rfl))))))).symm)⟩, by rfl⟩, ⟨(Zl (E := ZM) _ L5 _), ⟨(Zl (E := Zag) _ L6 _), ⟨(show Zm L7 = Zm L7 from rfl), ⟨(Zx (E := E_iiii) _ (L3 ++ (κQ y3_0 L0)) _), ⟨(Zx (E := eI) _ (L4 ++ ([a2] : List Int)) _), trivial⟩⟩⟩⟩⟩⟩
        | r1 =>
         exact Zi (Zs [o0, o0, o0] [] [(0, 0), (1, 1), (3, 2), (5, 3)] [(0, (wsl L0 0)), (2, (wsl L0 1)), (3, (wsl L0 2)), (4, (wsl L0 3))] [(0, .bs L0), (κc L0 y3_0 y3_1), (κco y3_0), (κj L0 L1 a2 L3 L4 L5 L6 L7), (5, (ZaI ((wd L0 2)) L1 a2 L3 L4 L5 L6 L7   0 1 2 3 4 5 9)), (7, (ZbI ((wd L0 3)) L1 a2 L3 L4 L5 L6 L7   0 1 2 3 4 5 9))]) ((dP (Zbe #[vp 0 0, Value.int .i32 (35 : Int), Value.string (Zb (wd L0 3))] ((wd L0 3)) L1 a2 L3 L4 L5 L6 L7   0 1 2 3 4 5 9), true) :: (κl L1 a2 L3 L4 L5 L6) :: (κy L3) :: (dS (Zg eI L4), true) :: (κB L5) :: (κC L6) :: (dS (Zm L7), true) :: ZcX L0 L1 a2 L3 L4 L5 L6 L7 y3_0 y3_1) (Za (Zj (ZbJ #[vp 0 0, Value.int .i32 (35 : Int), Value.string (Zb (wd L0 3))] ((wd L0 3)) L1 a2 L3 L4 L5 L6 L7   N c10 0 1 2 3 4 5 9 rfl dcd dcd)) <| oR <| oR <| oR <| oR <| oR <| oR <| w10)
       | r1 =>
        exact Zi (Zs [o0, o0, o0] [] [(0, 0), (1, 1), (3, 2)] [(0, (wsl L0 0)), (2, (wsl L0 1)), (3, (wsl L0 2))] [(0, .bs L0), (κc L0 y3_0 y3_1), (κco y3_0), (κj L0 L1 a2 L3 L4 L5 L6 L7), (5, (Zbt ((wd L0 2)) L1 a2 L3 L4 L5 L6 L7   0 1 2 3 4 5 9))]) ((dP (ZP #[vp 0 0, Value.int .i32 (114 : Int), Value.string (Zb (wd L0 2))] ((wd L0 2)) L1 a2 L3 L4 L5 L6 L7   0 1 2 3 4 5 9), true) :: (κl L1 a2 L3 L4 L5 L6) :: (κy L3) :: (dS (Zg eI L4), true) :: (κB L5) :: (κC L6) :: (dS (Zm L7), true) :: ZcW L0 L1 a2 L3 L4 L5 L6 L7 y3_0 y3_1) (Za (Zj (ZW #[vp 0 0, Value.int .i32 (114 : Int), Value.string (Zb (wd L0 2))] ((wd L0 2)) L1 a2 L3 L4 L5 L6 L7   N c9 0 1 2 3 4 5 9 rfl dcd dcd)) <| oR <| oR <| oR <| oR <| oR <| oR <| w9)
      | r1 =>
       exact Zi (Zs [o0, o0, o0] [] [(0, 0), (1, 1)] [(0, (wsl L0 0)), (2, (wsl L0 1))] [(0, .bs L0), (κc L0 y3_0 y3_1), (κco y3_0), (κ6 L0 L1 a2 L3 L4 L5 L6 L7)]) ((dP (ZP #[vp 0 0, Value.int .i32 (114 : Int), Value.string (Zb (wd L0 1))] ((wd L0 1)) L1 a2 L3 L4 L5 L6 L7   0 1 2 3 4 5 9), true) :: (κl L1 a2 L3 L4 L5 L6) :: (κy L3) :: (dS (Zg eI L4), true) :: (κB L5) :: (κC L6) :: (dS (Zm L7), true) :: ZcV L0 L1 a2 L3 L4 L5 L6 L7 y3_0 y3_1) (Za (Zj (ZW #[vp 0 0, Value.int .i32 (114 : Int), Value.string (Zb (wd L0 1))] ((wd L0 1)) L1 a2 L3 L4 L5 L6 L7   N c8 0 1 2 3 4 5 9 rfl dcd dcd)) <| oR <| oR <| oR <| oR <| oR <| oR <| w8)
  | r5 =>
   have w5 : OkL (ZcY L0 L1 a2 L3 L4 L5 L6 L7 y3_0 y3_1) :=
    Za (Zj (Zp3 #[vi y3_0] (y3_0)   N c4  7 rfl dcd dcd)) <| w4
   refine Zc (fun g5 => ?_) (fun g5 => ?_)
   ·
    exact Zi (Zs [o1] [] [(0, 0)] [(0, (wsl L0 0))] [(0, .bs L0), (κc L0 y3_0 y3_1), (κcp y3_0)]) (((!y3_1), true) :: ZcY L0 L1 a2 L3 L4 L5 L6 L7 y3_0 y3_1) (Za nBt <| w5)
   ·
    have w6 : OkL (ZbO L0 L1 a2 L3 L4 L5 L6 L7 y3_0 y3_1) :=
     Za nBf <| w5
    refine Zc (fun g6 => ?_) (fun g6 => ?_)
    ·
     exact Zi (Zs [o0, o1] [] [(0, 0)] [(0, (wsl L0 0))] [(0, .bs L0), (κc L0 y3_0 y3_1), (κcp y3_0)]) ((κcO L0) :: ZbO L0 L1 a2 L3 L4 L5 L6 L7 y3_0 y3_1) (oD <| w6)
    ·
     refine Zc (fun g7 => ?_) (fun g7 => ?_)
     ·
      exact Zi (Zs [o0, o0, o1] [] [(0, 0)] [(0, (wsl L0 0))] [(0, .bs L0), (κc L0 y3_0 y3_1), (κcp y3_0)]) ((κ9 L3) :: (κbF L0) :: ZbO L0 L1 a2 L3 L4 L5 L6 L7 y3_0 y3_1) (oY <| oE <| w6)
     ·
      have w8 : OkL (ZcZ L0 L1 a2 L3 L4 L5 L6 L7 y3_0 y3_1) :=
       Za (ZbG 1 ltA) <| oL <| oI <| oN <| oE <| w6
      refine ZaF (fun z8 c8 => ?_)
      cases z8 with
      | r0 =>
       have w9 : OkL (Zda L0 L1 a2 L3 L4 L5 L6 L7 y3_0 y3_1) :=
        Za (ZbG 2 ltA) <| oL <| oI <| Za (Zj (ZV #[vp 0 0, Value.int .i32 (114 : Int), Value.string (Zb (wd L0 1))] ((wd L0 1)) L1 a2 L3 L4 L5 L6 L7   N c8 0 1 2 3 4 5 9 rfl dcd dcd)) <| oR <| oR <| oR <| oR <| oR <| oR <| w8
       refine ZaF (fun z9 c9 => ?_)
       cases z9 with
       | r0 =>
        have w10 : OkL (Zdb L0 L1 a2 L3 L4 L5 L6 L7 y3_0 y3_1) :=
         Za (ZbG 3 ltA) <| oL <| oI <| Za (Zj (ZbH #[vp 0 0, Value.int .i32 (35 : Int), Value.string (Zb (wd L0 2))] ((wd L0 2)) L1 a2 L3 L4 L5 L6 L7   N c9 0 1 2 3 4 5 9 rfl dcd dcd)) <| oR <| oR <| oR <| oR <| oR <| oR <| w9
        refine ZaF (fun z10 c10 => ?_)
        cases z10 with
        | r0 =>
         refine Zc (fun g11 => ?_) (fun _ => Zq)
         exact gxF ZL (orc := (Zs [o0, o0, o0] [] [(0, 0), (1, 1), (3, 2), (5, 3)] [(0, (wsl L0 0)), (2, (wsl L0 1)), (3, (wsl L0 2)), (4, (wsl L0 3))] [(0, .bs L0), (κc L0 y3_0 y3_1), (κcp y3_0), (κj L0 L1 a2 L3 L4 L5 L6 L7), (5, (ZaK ((wd L0 2)) L1 a2 L3 L4 L5 L6 L7   0 1 2 3 4 5 9)), (7, (ZaI ((wd L0 3)) L1 a2 L3 L4 L5 L6 L7   0 1 2 3 4 5 9)), (9, .ap 1 (κbx y3_0 L0) (Zg E_iiii (L3 ++ (κR y3_0 L0)))), (11, .ap 1 [vi a2] (κo L4 a2))])) (live := [0, 1, 2, 3, 4, 5, 10, 12]) (u := vtt) (bl := [some (κi L1 a2 L3 L4 L5 L6), none, none, some (κW L5), some (κK L6), some (.ro (Zm L7) true), some (.cells (Zg E_iiii (L3 ++ (κR y3_0 L0))) 24), some (.cells (κo L4 a2) 3)]) (ob := ((κd a2 L4) :: (dP ((1 = 1 ∧ Z8 (1 * 4) (List.drop 0 (κbx y3_0 L0)) = some (κbx y3_0 L0) ∧ Zw ZaZ (κbx y3_0 L0) = true) ∧ 0 < 1 ∧ 1 ≤ 100000 ∧ L3.length < L3.length + 1 ∧ L3.length ≤ 100000 ∧ L3.length * 4 ≤ (κb5 L3) ∧ List.take (L3.length * 4) (Zg E_iiii L3) ++ (κbx y3_0 L0) = (Zg E_iiii (L3 ++ (κR y3_0 L0)))), true) :: (dP (ZO #[vp 0 0, Value.int .i32 (114 : Int), Value.string (Zb (wd L0 3))] ((wd L0 3)) L1 a2 L3 L4 L5 L6 L7   0 1 2 3 4 5 9), true) :: (κl L1 a2 L3 L4 L5 L6) :: (κy L3) :: (dS (Zg eI L4), true) :: (κB L5) :: (κC L6) :: (dS (Zm L7), true) :: Zdb L0 L1 a2 L3 L4 L5 L6 L7 y3_0 y3_1)) (Za (Zj ⟨⟨rfl, ⟨rfl, rfl⟩⟩, by omega, by omega, ltA, by omega, (Zat (E := eI) (L := L4) (M := ([a2] : List Int)) (n := L4.length) (show _ = _ * 1 from rfl) (by omega) (R := (L4 ++ ([a2] : List Int))) (by rw [List.take_of_length_le (by omega)]))⟩) <| Za (Zj ⟨⟨rfl, ⟨rfl, rfl⟩⟩, by omega, by omega, ltA, by omega, (Zat (E := E_iiii) (L := L3) (M := (κR y3_0 L0)) (n := L3.length) (show _ = _ * 4 from rfl) (by omega) (R := (L3 ++ (κR y3_0 L0))) (by rw [List.take_of_length_le (by omega)]))⟩) <| Za (Zj (ZV #[vp 0 0, Value.int .i32 (114 : Int), Value.string (Zb (wd L0 3))] ((wd L0 3)) L1 a2 L3 L4 L5 L6 L7   N c10 0 1 2 3 4 5 9 rfl dcd dcd)) <| oR <| oR <| oR <| oR <| oR <| oR <| w10) rr ⟨⟨rfl, ⟨[], (show (κh L1 a2 L3 L4 L5 L6) = _ from (Zh rfl (Zh rfl (Zh (ZC rfl eqA eqA) (Zh rfl (Zh rfl (Zh rfl (Zh rfl rfl))))))).symm)⟩, by rfl⟩, ⟨(Zl (E := ZM) _ L5 _), ⟨(Zl (E := Zag) _ L6 _), ⟨(show Zm L7 = Zm L7 from rfl), ⟨(Zx (E := E_iiii) _ (L3 ++ (κR y3_0 L0)) _), ⟨(Zx (E := eI) _ (L4 ++ ([a2] : List Int)) _), trivial⟩⟩⟩⟩⟩⟩
        | r1 =>
         exact Zi (Zs [o0, o0, o0] [] [(0, 0), (1, 1), (3, 2), (5, 3)] [(0, (wsl L0 0)), (2, (wsl L0 1)), (3, (wsl L0 2)), (4, (wsl L0 3))] [(0, .bs L0), (κc L0 y3_0 y3_1), (κcp y3_0), (κj L0 L1 a2 L3 L4 L5 L6 L7), (5, (ZaK ((wd L0 2)) L1 a2 L3 L4 L5 L6 L7   0 1 2 3 4 5 9)), (7, (Zbt ((wd L0 3)) L1 a2 L3 L4 L5 L6 L7   0 1 2 3 4 5 9))]) ((dP (ZP #[vp 0 0, Value.int .i32 (114 : Int), Value.string (Zb (wd L0 3))] ((wd L0 3)) L1 a2 L3 L4 L5 L6 L7   0 1 2 3 4 5 9), true) :: (κl L1 a2 L3 L4 L5 L6) :: (κy L3) :: (dS (Zg eI L4), true) :: (κB L5) :: (κC L6) :: (dS (Zm L7), true) :: Zdb L0 L1 a2 L3 L4 L5 L6 L7 y3_0 y3_1) (Za (Zj (ZW #[vp 0 0, Value.int .i32 (114 : Int), Value.string (Zb (wd L0 3))] ((wd L0 3)) L1 a2 L3 L4 L5 L6 L7   N c10 0 1 2 3 4 5 9 rfl dcd dcd)) <| oR <| oR <| oR <| oR <| oR <| oR <| w10)
       | r1 =>
        exact Zi (Zs [o0, o0, o0] [] [(0, 0), (1, 1), (3, 2)] [(0, (wsl L0 0)), (2, (wsl L0 1)), (3, (wsl L0 2))] [(0, .bs L0), (κc L0 y3_0 y3_1), (κcp y3_0), (κj L0 L1 a2 L3 L4 L5 L6 L7), (5, (ZbI ((wd L0 2)) L1 a2 L3 L4 L5 L6 L7   0 1 2 3 4 5 9))]) ((dP (Zbe #[vp 0 0, Value.int .i32 (35 : Int), Value.string (Zb (wd L0 2))] ((wd L0 2)) L1 a2 L3 L4 L5 L6 L7   0 1 2 3 4 5 9), true) :: (κl L1 a2 L3 L4 L5 L6) :: (κy L3) :: (dS (Zg eI L4), true) :: (κB L5) :: (κC L6) :: (dS (Zm L7), true) :: Zda L0 L1 a2 L3 L4 L5 L6 L7 y3_0 y3_1) (Za (Zj (ZbJ #[vp 0 0, Value.int .i32 (35 : Int), Value.string (Zb (wd L0 2))] ((wd L0 2)) L1 a2 L3 L4 L5 L6 L7   N c9 0 1 2 3 4 5 9 rfl dcd dcd)) <| oR <| oR <| oR <| oR <| oR <| oR <| w9)
      | r1 =>
       exact Zi (Zs [o0, o0, o0] [] [(0, 0), (1, 1)] [(0, (wsl L0 0)), (2, (wsl L0 1))] [(0, .bs L0), (κc L0 y3_0 y3_1), (κcp y3_0), (κ6 L0 L1 a2 L3 L4 L5 L6 L7)]) ((dP (ZP #[vp 0 0, Value.int .i32 (114 : Int), Value.string (Zb (wd L0 1))] ((wd L0 1)) L1 a2 L3 L4 L5 L6 L7   0 1 2 3 4 5 9), true) :: (κl L1 a2 L3 L4 L5 L6) :: (κy L3) :: (dS (Zg eI L4), true) :: (κB L5) :: (κC L6) :: (dS (Zm L7), true) :: ZcZ L0 L1 a2 L3 L4 L5 L6 L7 y3_0 y3_1) (Za (Zj (ZW #[vp 0 0, Value.int .i32 (114 : Int), Value.string (Zb (wd L0 1))] ((wd L0 1)) L1 a2 L3 L4 L5 L6 L7   N c8 0 1 2 3 4 5 9 rfl dcd dcd)) <| oR <| oR <| oR <| oR <| oR <| oR <| w8)
  | r6 =>
   refine Zc (fun g5 => ?_) (fun g5 => ?_)
   ·
    exact Zi (Zs [o1] [] [(0, 0)] [(0, (wsl L0 0))] [(0, .bs L0), (κc L0 y3_0 y3_1), (2, (ZfK (y3_0)    7))]) (((!y3_1), true) :: (dP (Zh3 #[vi y3_0] (y3_0)    7), true) :: ZI L0 L1 a2 L3 L4 L5 L6 L7 y3_0 y3_1) (Za nBt <| Za (Zj (Zk3 #[vi y3_0] (y3_0)   N c4  7 rfl dcd dcd)) <| w4)
   ·
    have w6 : OkL (ZbP L0 L1 a2 L3 L4 L5 L6 L7 y3_0 y3_1) :=
     Za nBf <| Za (Zj (Zk3 #[vi y3_0] (y3_0)   N c4  7 rfl dcd dcd)) <| w4
    refine Zc (fun g6 => ?_) (fun g6 => ?_)
    ·
     exact Zi (Zs [o0, o1] [] [(0, 0)] [(0, (wsl L0 0))] [(0, .bs L0), (κc L0 y3_0 y3_1), (2, (ZfK (y3_0)    7))]) ((((((wds L0).length : Nat) : Int) != (1 : Int)), true) :: ZbP L0 L1 a2 L3 L4 L5 L6 L7 y3_0 y3_1) (oD <| w6)
    ·
     refine Zc (fun g7 => ?_) (fun g7 => ?_)
     ·
      exact Zi (Zs [o0, o0, o1] [] [(0, 0)] [(0, (wsl L0 0))] [(0, .bs L0), (κc L0 y3_0 y3_1), (2, (ZfK (y3_0)    7))]) ((κ9 L3) :: (((((wds L0).length : Nat) : Int) != (1 : Int)), false) :: ZbP L0 L1 a2 L3 L4 L5 L6 L7 y3_0 y3_1) (oY <| oE <| w6)
     ·
      refine Zc (fun g8 => ?_) (fun _ => Zq)
      exact gxF ZL (orc := (Zs [o0, o0, o0] [] [(0, 0)] [(0, (wsl L0 0))] [(0, .bs L0), (κc L0 y3_0 y3_1), (2, (ZfK (y3_0)    7)), (3, .ap 1 [vi y3_0, vq, vq, vq] (Zg E_iiii (L3 ++ (κH y3_0)))), (5, .ap 1 [vi a2] (κo L4 a2))])) (live := [0, 1, 2, 3, 4, 5, 10, 12]) (u := vtt) (bl := [some (κi L1 a2 L3 L4 L5 L6), none, none, some (κW L5), some (κK L6), some (.ro (Zm L7) true), some (.cells (Zg E_iiii (L3 ++ (κH y3_0))) 24), some (.cells (κo L4 a2) 3)]) (ob := ((κd a2 L4) :: (dP ((κc7 y3_0) ∧ 0 < 1 ∧ 1 ≤ 100000 ∧ L3.length < L3.length + 1 ∧ L3.length ≤ 100000 ∧ L3.length * 4 ≤ (κb5 L3) ∧ List.take (L3.length * 4) (Zg E_iiii L3) ++ [vi y3_0, vq, vq, vq] = (Zg E_iiii (L3 ++ (κH y3_0)))), true) :: (κ7 L3) :: (((((wds L0).length : Nat) : Int) != (1 : Int)), false) :: ZbP L0 L1 a2 L3 L4 L5 L6 L7 y3_0 y3_1)) (Za (Zj ⟨⟨rfl, ⟨rfl, rfl⟩⟩, by omega, by omega, ltA, by omega, (Zat (E := eI) (L := L4) (M := ([a2] : List Int)) (n := L4.length) (show _ = _ * 1 from rfl) (by omega) (R := (L4 ++ ([a2] : List Int))) (by rw [List.take_of_length_le (by omega)]))⟩) <| Za (Zj ⟨⟨rfl, ⟨rfl, rfl⟩⟩, by omega, by omega, ltA, by omega, (Zat (E := E_iiii) (L := L3) (M := (κH y3_0)) (n := L3.length) (show _ = _ * 4 from rfl) (by omega) (R := (L3 ++ (κH y3_0))) (by rw [List.take_of_length_le (by omega)]))⟩) <| oN <| oE <| w6) rr ⟨⟨rfl, ⟨[], (show (κh L1 a2 L3 L4 L5 L6) = _ from (Zh rfl (Zh rfl (Zh (ZC rfl eqA eqA) (Zh rfl (Zh rfl (Zh rfl (Zh rfl rfl))))))).symm)⟩, by rfl⟩, ⟨(Zl (E := ZM) _ L5 _), ⟨(Zl (E := Zag) _ L6 _), ⟨(show Zm L7 = Zm L7 from rfl), ⟨(Zx (E := E_iiii) _ (L3 ++ (κH y3_0)) _), ⟨(Zx (E := eI) _ (L4 ++ ([a2] : List Int)) _), trivial⟩⟩⟩⟩⟩⟩
  | r7 =>
   have w5 : OkL (ZaY L0 L1 a2 L3 L4 L5 L6 L7 y3_0 y3_1) :=
    Za (Zj (Zp5 #[vi y3_0] (y3_0)   N c4  7 rfl dcd dcd)) <| w4
   refine Zc (fun g5 => ?_) (fun g5 => ?_)
   ·
    exact Zi (Zs [o1] [] [(0, 0)] [(0, (wsl L0 0))] [(0, .bs L0), (κc L0 y3_0 y3_1), (κc4 y3_0)]) (((!y3_1), true) :: ZaY L0 L1 a2 L3 L4 L5 L6 L7 y3_0 y3_1) (Za nBt <| w5)
   ·
    refine Zc (fun g6 => ?_) (fun g6 => ?_)
    ·
     exact Zi (Zs [o0, o1] [] [(0, 0)] [(0, (wsl L0 0))] [(0, .bs L0), (κc L0 y3_0 y3_1), (κc4 y3_0)]) ((((((wds L0).length : Nat) : Int) != (2 : Int)), true) :: ((!y3_1), false) :: ZaY L0 L1 a2 L3 L4 L5 L6 L7 y3_0 y3_1) (oD <| Za nBf <| w5)
    ·
     refine Zc (fun g7 => ?_) (fun g7 => ?_)
     ·
      exact Zi (Zs [o0, o0, o1] [] [(0, 0)] [(0, (wsl L0 0))] [(0, .bs L0), (κc L0 y3_0 y3_1), (κc4 y3_0)]) ((κ9 L3) :: (κcJ L0) :: ((!y3_1), false) :: ZaY L0 L1 a2 L3 L4 L5 L6 L7 y3_0 y3_1) (oY <| oE <| Za nBf <| w5)
     ·
      have w8 : OkL (Zdc L0 L1 a2 L3 L4 L5 L6 L7 y3_0 y3_1) :=
       Za (ZbG 1 ltA) <| oL <| oI <| oN <| oE <| Za nBf <| w5
      refine ZaF (fun z8 c8 => ?_)
      cases z8 with
      | r0 =>
       refine Zc (fun g9 => ?_) (fun _ => Zq)
       exact gxF ZL (orc := (Zs [o0, o0, o0] [] [(0, 0), (1, 1)] [(0, (wsl L0 0)), (2, (wsl L0 1))] [(0, .bs L0), (κc L0 y3_0 y3_1), (κc4 y3_0), (κj L0 L1 a2 L3 L4 L5 L6 L7), (5, .ap 1 (κbk y3_0 L0) (Zg E_iiii (L3 ++ (κA y3_0 L0)))), (7, .ap 1 [vi a2] (κo L4 a2))])) (live := [0, 1, 2, 3, 4, 5, 10, 12]) (u := vtt) (bl := [some (κi L1 a2 L3 L4 L5 L6), none, none, some (κW L5), some (κK L6), some (.ro (Zm L7) true), some (.cells (Zg E_iiii (L3 ++ (κA y3_0 L0))) 24), some (.cells (κo L4 a2) 3)]) (ob := ((κd a2 L4) :: (dP ((1 = 1 ∧ Z8 (1 * 4) (List.drop 0 (κbk y3_0 L0)) = some (κbk y3_0 L0) ∧ Zw ZaZ (κbk y3_0 L0) = true) ∧ 0 < 1 ∧ 1 ≤ 100000 ∧ L3.length < L3.length + 1 ∧ L3.length ≤ 100000 ∧ L3.length * 4 ≤ (κb5 L3) ∧ List.take (L3.length * 4) (Zg E_iiii L3) ++ (κbk y3_0 L0) = (Zg E_iiii (L3 ++ (κA y3_0 L0)))), true) :: (dP (ZO #[vp 0 0, Value.int .i32 (114 : Int), Value.string (Zb (wd L0 1))] ((wd L0 1)) L1 a2 L3 L4 L5 L6 L7   0 1 2 3 4 5 9), true) :: (κl L1 a2 L3 L4 L5 L6) :: (κy L3) :: (dS (Zg eI L4), true) :: (κB L5) :: (κC L6) :: (dS (Zm L7), true) :: Zdc L0 L1 a2 L3 L4 L5 L6 L7 y3_0 y3_1)) (Za (Zj ⟨⟨rfl, ⟨rfl, rfl⟩⟩, by omega, by omega, ltA, by omega, (Zat (E := eI) (L := L4) (M := ([a2] : List Int)) (n := L4.length) (show _ = _ * 1 from rfl) (by omega) (R := (L4 ++ ([a2] : List Int))) (by rw [List.take_of_length_le (by omega)]))⟩) <| Za (Zj ⟨⟨rfl, ⟨rfl, rfl⟩⟩, by omega, by omega, ltA, by omega, (Zat (E := E_iiii) (L := L3) (M := (κA y3_0 L0)) (n := L3.length) (show _ = _ * 4 from rfl) (by omega) (R := (L3 ++ (κA y3_0 L0))) (by rw [List.take_of_length_le (by omega)]))⟩) <| Za (Zj (ZV #[vp 0 0, Value.int .i32 (114 : Int), Value.string (Zb (wd L0 1))] ((wd L0 1)) L1 a2 L3 L4 L5 L6 L7   N c8 0 1 2 3 4 5 9 rfl dcd dcd)) <| oR <| oR <| oR <| oR <| oR <| oR <| w8) rr ⟨⟨rfl, ⟨[], (show (κh L1 a2 L3 L4 L5 L6) = _ from (Zh rfl (Zh rfl (Zh (ZC rfl eqA eqA) (Zh rfl (Zh rfl (Zh rfl (Zh rfl rfl))))))).symm)⟩, by rfl⟩, ⟨(Zl (E := ZM) _ L5 _), ⟨(Zl (E := Zag) _ L6 _), ⟨(show Zm L7 = Zm L7 from rfl), ⟨(Zx (E := E_iiii) _ (L3 ++ (κA y3_0 L0)) _), ⟨(Zx (E := eI) _ (L4 ++ ([a2] : List Int)) _), trivial⟩⟩⟩⟩⟩⟩
      | r1 =>
       exact Zi (Zs [o0, o0, o0] [] [(0, 0), (1, 1)] [(0, (wsl L0 0)), (2, (wsl L0 1))] [(0, .bs L0), (κc L0 y3_0 y3_1), (κc4 y3_0), (κ6 L0 L1 a2 L3 L4 L5 L6 L7)]) ((dP (ZP #[vp 0 0, Value.int .i32 (114 : Int), Value.string (Zb (wd L0 1))] ((wd L0 1)) L1 a2 L3 L4 L5 L6 L7   0 1 2 3 4 5 9), true) :: (κl L1 a2 L3 L4 L5 L6) :: (κy L3) :: (dS (Zg eI L4), true) :: (κB L5) :: (κC L6) :: (dS (Zm L7), true) :: Zdc L0 L1 a2 L3 L4 L5 L6 L7 y3_0 y3_1) (Za (Zj (ZW #[vp 0 0, Value.int .i32 (114 : Int), Value.string (Zb (wd L0 1))] ((wd L0 1)) L1 a2 L3 L4 L5 L6 L7   N c8 0 1 2 3 4 5 9 rfl dcd dcd)) <| oR <| oR <| oR <| oR <| oR <| oR <| w8)
  | r8 =>
   have w5 : OkL (ZbQ L0 L1 a2 L3 L4 L5 L6 L7 y3_0 y3_1) :=
    Za (Zj (Zp7 #[vi y3_0] (y3_0)   N c4  7 rfl dcd dcd)) <| w4
   refine Zc (fun g5 => ?_) (fun g5 => ?_)
   ·
    exact Zi (Zs [o1] [] [(0, 0)] [(0, (wsl L0 0))] [(0, .bs L0), (κc L0 y3_0 y3_1), (κcM y3_0)]) (((!y3_1), true) :: ZbQ L0 L1 a2 L3 L4 L5 L6 L7 y3_0 y3_1) (Za nBt <| w5)
   ·
    refine Zc (fun g6 => ?_) (fun g6 => ?_)
    ·
     exact Zi (Zs [o0, o1] [] [(0, 0)] [(0, (wsl L0 0))] [(0, .bs L0), (κc L0 y3_0 y3_1), (κcM y3_0)]) ((κdf L0) :: ((!y3_1), false) :: ZbQ L0 L1 a2 L3 L4 L5 L6 L7 y3_0 y3_1) (oD <| Za nBf <| w5)
    ·
     have w7 : OkL (Zdd L0 L1 a2 L3 L4 L5 L6 L7 y3_0 y3_1) :=
      oE <| Za nBf <| w5
     refine Zc (fun g7 => ?_) (fun g7 => ?_)
     ·
      exact Zi (Zs [o0, o0, o1] [] [(0, 0)] [(0, (wsl L0 0))] [(0, .bs L0), (κc L0 y3_0 y3_1), (κcM y3_0)]) ((κ9 L3) :: Zdd L0 L1 a2 L3 L4 L5 L6 L7 y3_0 y3_1) (oY <| w7)
     ·
      have w8 : OkL (Zde L0 L1 a2 L3 L4 L5 L6 L7 y3_0 y3_1) :=
       Za (ZbG 1 ltA) <| oL <| oI <| oN <| w7
      refine ZaF (fun z8 c8 => ?_)
      cases z8 with
      | r0 =>
       have w9 : OkL (Zdf L0 L1 a2 L3 L4 L5 L6 L7 y3_0 y3_1) :=
        Za (ZbG 2 ltA) <| oL <| oI <| Za (Zj (ZV #[vp 0 0, Value.int .i32 (114 : Int), Value.string (Zb (wd L0 1))] ((wd L0 1)) L1 a2 L3 L4 L5 L6 L7   N c8 0 1 2 3 4 5 9 rfl dcd dcd)) <| oR <| oR <| oR <| oR <| oR <| oR <| w8
       refine ZaF (fun z9 c9 => ?_)
       cases z9 with
       | r0 =>
        refine Zc (fun g10 => ?_) (fun _ => Zq)
        exact gxF ZL (orc := (Zs [o0, o0, o0] [] [(0, 0), (1, 1), (3, 2)] [(0, (wsl L0 0)), (2, (wsl L0 1)), (3, (wsl L0 2))] [(0, .bs L0), (κc L0 y3_0 y3_1), (κcM y3_0), (κj L0 L1 a2 L3 L4 L5 L6 L7), (5, (ZaI ((wd L0 2)) L1 a2 L3 L4 L5 L6 L7   0 1 2 3 4 5 9)), (7, .ap 1 (κbO y3_0 L0) (Zg E_iiii (L3 ++ (κY y3_0 L0)))), (9, .ap 1 [vi a2] (κo L4 a2))])) (live := [0, 1, 2, 3, 4, 5, 10, 12]) (u := vtt) (bl := [some (κi L1 a2 L3 L4 L5 L6), none, none, some (κW L5), some (κK L6), some (.ro (Zm L7) true), some (.cells (Zg E_iiii (L3 ++ (κY y3_0 L0))) 24), some (.cells (κo L4 a2) 3)]) (ob := ((κd a2 L4) :: (dP ((1 = 1 ∧ Z8 (1 * 4) (List.drop 0 (κbO y3_0 L0)) = some (κbO y3_0 L0) ∧ Zw ZaZ (κbO y3_0 L0) = true) ∧ 0 < 1 ∧ 1 ≤ 100000 ∧ L3.length < L3.length + 1 ∧ L3.length ≤ 100000 ∧ L3.length * 4 ≤ (κb5 L3) ∧ List.take (L3.length * 4) (Zg E_iiii L3) ++ (κbO y3_0 L0) = (Zg E_iiii (L3 ++ (κY y3_0 L0)))), true) :: (dP (ZO #[vp 0 0, Value.int .i32 (114 : Int), Value.string (Zb (wd L0 2))] ((wd L0 2)) L1 a2 L3 L4 L5 L6 L7   0 1 2 3 4 5 9), true) :: (κl L1 a2 L3 L4 L5 L6) :: (κy L3) :: (dS (Zg eI L4), true) :: (κB L5) :: (κC L6) :: (dS (Zm L7), true) :: Zdf L0 L1 a2 L3 L4 L5 L6 L7 y3_0 y3_1)) (Za (Zj ⟨⟨rfl, ⟨rfl, rfl⟩⟩, by omega, by omega, ltA, by omega, (Zat (E := eI) (L := L4) (M := ([a2] : List Int)) (n := L4.length) (show _ = _ * 1 from rfl) (by omega) (R := (L4 ++ ([a2] : List Int))) (by rw [List.take_of_length_le (by omega)]))⟩) <| Za (Zj ⟨⟨rfl, ⟨rfl, rfl⟩⟩, by omega, by omega, ltA, by omega, (Zat (E := E_iiii) (L := L3) (M := (κY y3_0 L0)) (n := L3.length) (show _ = _ * 4 from rfl) (by omega) (R := (L3 ++ (κY y3_0 L0))) (by rw [List.take_of_length_le (by omega)]))⟩) <| Za (Zj (ZV #[vp 0 0, Value.int .i32 (114 : Int), Value.string (Zb (wd L0 2))] ((wd L0 2)) L1 a2 L3 L4 L5 L6 L7   N c9 0 1 2 3 4 5 9 rfl dcd dcd)) <| oR <| oR <| oR <| oR <| oR <| oR <| w9) rr ⟨⟨rfl, ⟨[], (show (κh L1 a2 L3 L4 L5 L6) = _ from (Zh rfl (Zh rfl (Zh (ZC rfl eqA eqA) (Zh rfl (Zh rfl (Zh rfl (Zh rfl rfl))))))).symm)⟩, by rfl⟩, ⟨(Zl (E := ZM) _ L5 _), ⟨(Zl (E := Zag) _ L6 _), ⟨(show Zm L7 = Zm L7 from rfl), ⟨(Zx (E := E_iiii) _ (L3 ++ (κY y3_0 L0)) _), ⟨(Zx (E := eI) _ (L4 ++ ([a2] : List Int)) _), trivial⟩⟩⟩⟩⟩⟩
       | r1 =>
        exact Zi (Zs [o0, o0, o0] [] [(0, 0), (1, 1), (3, 2)] [(0, (wsl L0 0)), (2, (wsl L0 1)), (3, (wsl L0 2))] [(0, .bs L0), (κc L0 y3_0 y3_1), (κcM y3_0), (κj L0 L1 a2 L3 L4 L5 L6 L7), (5, (Zbt ((wd L0 2)) L1 a2 L3 L4 L5 L6 L7   0 1 2 3 4 5 9))]) ((dP (ZP #[vp 0 0, Value.int .i32 (114 : Int), Value.string (Zb (wd L0 2))] ((wd L0 2)) L1 a2 L3 L4 L5 L6 L7   0 1 2 3 4 5 9), true) :: (κl L1 a2 L3 L4 L5 L6) :: (κy L3) :: (dS (Zg eI L4), true) :: (κB L5) :: (κC L6) :: (dS (Zm L7), true) :: Zdf L0 L1 a2 L3 L4 L5 L6 L7 y3_0 y3_1) (Za (Zj (ZW #[vp 0 0, Value.int .i32 (114 : Int), Value.string (Zb (wd L0 2))] ((wd L0 2)) L1 a2 L3 L4 L5 L6 L7   N c9 0 1 2 3 4 5 9 rfl dcd dcd)) <| oR <| oR <| oR <| oR <| oR <| oR <| w9)
      | r1 =>
       exact Zi (Zs [o0, o0, o0] [] [(0, 0), (1, 1)] [(0, (wsl L0 0)), (2, (wsl L0 1))] [(0, .bs L0), (κc L0 y3_0 y3_1), (κcM y3_0), (κ6 L0 L1 a2 L3 L4 L5 L6 L7)]) ((dP (ZP #[vp 0 0, Value.int .i32 (114 : Int), Value.string (Zb (wd L0 1))] ((wd L0 1)) L1 a2 L3 L4 L5 L6 L7   0 1 2 3 4 5 9), true) :: (κl L1 a2 L3 L4 L5 L6) :: (κy L3) :: (dS (Zg eI L4), true) :: (κB L5) :: (κC L6) :: (dS (Zm L7), true) :: Zde L0 L1 a2 L3 L4 L5 L6 L7 y3_0 y3_1) (Za (Zj (ZW #[vp 0 0, Value.int .i32 (114 : Int), Value.string (Zb (wd L0 1))] ((wd L0 1)) L1 a2 L3 L4 L5 L6 L7   N c8 0 1 2 3 4 5 9 rfl dcd dcd)) <| oR <| oR <| oR <| oR <| oR <| oR <| w8)
  | r9 =>
   have w5 : OkL (Zdg L0 L1 a2 L3 L4 L5 L6 L7 y3_0 y3_1) :=
    Za (Zj (Zp9 #[vi y3_0] (y3_0)   N c4  7 rfl dcd dcd)) <| w4
   refine Zc (fun g5 => ?_) (fun g5 => ?_)
   ·
    exact Zi (Zs [o1] [] [(0, 0)] [(0, (wsl L0 0))] [(0, .bs L0), (κc L0 y3_0 y3_1), (κcq y3_0)]) (((!y3_1), true) :: Zdg L0 L1 a2 L3 L4 L5 L6 L7 y3_0 y3_1) (Za nBt <| w5)
   ·
    have w6 : OkL (ZbR L0 L1 a2 L3 L4 L5 L6 L7 y3_0 y3_1) :=
     Za nBf <| w5
    refine Zc (fun g6 => ?_) (fun g6 => ?_)
    ·
     exact Zi (Zs [o0, o1] [] [(0, 0)] [(0, (wsl L0 0))] [(0, .bs L0), (κc L0 y3_0 y3_1), (κcq y3_0)]) ((κcO L0) :: ZbR L0 L1 a2 L3 L4 L5 L6 L7 y3_0 y3_1) (oD <| w6)
    ·
     refine Zc (fun g7 => ?_) (fun g7 => ?_)
     ·
      exact Zi (Zs [o0, o0, o1] [] [(0, 0)] [(0, (wsl L0 0))] [(0, .bs L0), (κc L0 y3_0 y3_1), (κcq y3_0)]) ((κ9 L3) :: (κbF L0) :: ZbR L0 L1 a2 L3 L4 L5 L6 L7 y3_0 y3_1) (oY <| oE <| w6)
     ·
      have w8 : OkL (Zdh L0 L1 a2 L3 L4 L5 L6 L7 y3_0 y3_1) :=
       Za (ZbG 1 ltA) <| oL <| oI <| oN <| oE <| w6
      refine ZaF (fun z8 c8 => ?_)
      cases z8 with
      | r0 =>
       have w9 : OkL (Zdi L0 L1 a2 L3 L4 L5 L6 L7 y3_0 y3_1) :=
        Za (ZbG 2 ltA) <| oL <| oI <| Za (Zj (ZV #[vp 0 0, Value.int .i32 (114 : Int), Value.string (Zb (wd L0 1))] ((wd L0 1)) L1 a2 L3 L4 L5 L6 L7   N c8 0 1 2 3 4 5 9 rfl dcd dcd)) <| oR <| oR <| oR <| oR <| oR <| oR <| w8
       refine ZaF (fun z9 c9 => ?_)
       cases z9 with
       | r0 =>
        have w10 : OkL (Zdj L0 L1 a2 L3 L4 L5 L6 L7 y3_0 y3_1) :=
         Za (ZbG 3 ltA) <| oL <| oI <| Za (Zj (ZV #[vp 0 0, Value.int .i32 (114 : Int), Value.string (Zb (wd L0 2))] ((wd L0 2)) L1 a2 L3 L4 L5 L6 L7   N c9 0 1 2 3 4 5 9 rfl dcd dcd)) <| oR <| oR <| oR <| oR <| oR <| oR <| w9
        refine ZaF (fun z10 c10 => ?_)
        cases z10 with
        | r0 =>
         refine Zc (fun g11 => ?_) (fun _ => Zq)
         exact gxF ZL (orc := (Zs [o0, o0, o0] [] [(0, 0), (1, 1), (3, 2), (5, 3)] [(0, (wsl L0 0)), (2, (wsl L0 1)), (3, (wsl L0 2)), (4, (wsl L0 3))] [(0, .bs L0), (κc L0 y3_0 y3_1), (κcq y3_0), (κj L0 L1 a2 L3 L4 L5 L6 L7), (5, (ZaI ((wd L0 2)) L1 a2 L3 L4 L5 L6 L7   0 1 2 3 4 5 9)), (7, (ZaI ((wd L0 3)) L1 a2 L3 L4 L5 L6 L7   0 1 2 3 4 5 9)), (9, .ap 1 (κbl y3_0 L0) (Zg E_iiii (L3 ++ (κJ y3_0 L0)))), (11, .ap 1 [vi a2] (κo L4 a2))])) (live := [0, 1, 2, 3, 4, 5, 10, 12]) (u := vtt) (bl := [some (κi L1 a2 L3 L4 L5 L6), none, none, some (κW L5), some (κK L6), some (.ro (Zm L7) true), some (.cells (Zg E_iiii (L3 ++ (κJ y3_0 L0))) 24), some (.cells (κo L4 a2) 3)]) (ob := ((κd a2 L4) :: (dP ((1 = 1 ∧ Z8 (1 * 4) (List.drop 0 (κbl y3_0 L0)) = some (κbl y3_0 L0) ∧ Zw ZaZ (κbl y3_0 L0) = true) ∧ 0 < 1 ∧ 1 ≤ 100000 ∧ L3.length < L3.length + 1 ∧ L3.length ≤ 100000 ∧ L3.length * 4 ≤ (κb5 L3) ∧ List.take (L3.length * 4) (Zg E_iiii L3) ++ (κbl y3_0 L0) = (Zg E_iiii (L3 ++ (κJ y3_0 L0)))), true) :: (dP (ZO #[vp 0 0, Value.int .i32 (114 : Int), Value.string (Zb (wd L0 3))] ((wd L0 3)) L1 a2 L3 L4 L5 L6 L7   0 1 2 3 4 5 9), true) :: (κl L1 a2 L3 L4 L5 L6) :: (κy L3) :: (dS (Zg eI L4), true) :: (κB L5) :: (κC L6) :: (dS (Zm L7), true) :: Zdj L0 L1 a2 L3 L4 L5 L6 L7 y3_0 y3_1)) (Za (Zj ⟨⟨rfl, ⟨rfl, rfl⟩⟩, by omega, by omega, ltA, by omega, (Zat (E := eI) (L := L4) (M := ([a2] : List Int)) (n := L4.length) (show _ = _ * 1 from rfl) (by omega) (R := (L4 ++ ([a2] : List Int))) (by rw [List.take_of_length_le (by omega)]))⟩) <| Za (Zj ⟨⟨rfl, ⟨rfl, rfl⟩⟩, by omega, by omega, ltA, by omega, (Zat (E := E_iiii) (L := L3) (M := (κJ y3_0 L0)) (n := L3.length) (show _ = _ * 4 from rfl) (by omega) (R := (L3 ++ (κJ y3_0 L0))) (by rw [List.take_of_length_le (by omega)]))⟩) <| Za (Zj (ZV #[vp 0 0, Value.int .i32 (114 : Int), Value.string (Zb (wd L0 3))] ((wd L0 3)) L1 a2 L3 L4 L5 L6 L7   N c10 0 1 2 3 4 5 9 rfl dcd dcd)) <| oR <| oR <| oR <| oR <| oR <| oR <| w10) rr ⟨⟨rfl, ⟨[], (show (κh L1 a2 L3 L4 L5 L6) = _ from (Zh rfl (Zh rfl (Zh (ZC rfl eqA eqA) (Zh rfl (Zh rfl (Zh rfl (Zh rfl rfl))))))).symm)⟩, by rfl⟩, ⟨(Zl (E := ZM) _ L5 _), ⟨(Zl (E := Zag) _ L6 _), ⟨(show Zm L7 = Zm L7 from rfl), ⟨(Zx (E := E_iiii) _ (L3 ++ (κJ y3_0 L0)) _), ⟨(Zx (E := eI) _ (L4 ++ ([a2] : List Int)) _), trivial⟩⟩⟩⟩⟩⟩
        | r1 =>
         exact Zi (Zs [o0, o0, o0] [] [(0, 0), (1, 1), (3, 2), (5, 3)] [(0, (wsl L0 0)), (2, (wsl L0 1)), (3, (wsl L0 2)), (4, (wsl L0 3))] [(0, .bs L0), (κc L0 y3_0 y3_1), (κcq y3_0), (κj L0 L1 a2 L3 L4 L5 L6 L7), (5, (ZaI ((wd L0 2)) L1 a2 L3 L4 L5 L6 L7   0 1 2 3 4 5 9)), (7, (Zbt ((wd L0 3)) L1 a2 L3 L4 L5 L6 L7   0 1 2 3 4 5 9))]) ((dP (ZP #[vp 0 0, Value.int .i32 (114 : Int), Value.string (Zb (wd L0 3))] ((wd L0 3)) L1 a2 L3 L4 L5 L6 L7   0 1 2 3 4 5 9), true) :: (κl L1 a2 L3 L4 L5 L6) :: (κy L3) :: (dS (Zg eI L4), true) :: (κB L5) :: (κC L6) :: (dS (Zm L7), true) :: Zdj L0 L1 a2 L3 L4 L5 L6 L7 y3_0 y3_1) (Za (Zj (ZW #[vp 0 0, Value.int .i32 (114 : Int), Value.string (Zb (wd L0 3))] ((wd L0 3)) L1 a2 L3 L4 L5 L6 L7   N c10 0 1 2 3 4 5 9 rfl dcd dcd)) <| oR <| oR <| oR <| oR <| oR <| oR <| w10)
       | r1 =>
        exact Zi (Zs [o0, o0, o0] [] [(0, 0), (1, 1), (3, 2)] [(0, (wsl L0 0)), (2, (wsl L0 1)), (3, (wsl L0 2))] [(0, .bs L0), (κc L0 y3_0 y3_1), (κcq y3_0), (κj L0 L1 a2 L3 L4 L5 L6 L7), (5, (Zbt ((wd L0 2)) L1 a2 L3 L4 L5 L6 L7   0 1 2 3 4 5 9))]) ((dP (ZP #[vp 0 0, Value.int .i32 (114 : Int), Value.string (Zb (wd L0 2))] ((wd L0 2)) L1 a2 L3 L4 L5 L6 L7   0 1 2 3 4 5 9), true) :: (κl L1 a2 L3 L4 L5 L6) :: (κy L3) :: (dS (Zg eI L4), true) :: (κB L5) :: (κC L6) :: (dS (Zm L7), true) :: Zdi L0 L1 a2 L3 L4 L5 L6 L7 y3_0 y3_1) (Za (Zj (ZW #[vp 0 0, Value.int .i32 (114 : Int), Value.string (Zb (wd L0 2))] ((wd L0 2)) L1 a2 L3 L4 L5 L6 L7   N c9 0 1 2 3 4 5 9 rfl dcd dcd)) <| oR <| oR <| oR <| oR <| oR <| oR <| w9)
      | r1 =>
       exact Zi (Zs [o0, o0, o0] [] [(0, 0), (1, 1)] [(0, (wsl L0 0)), (2, (wsl L0 1))] [(0, .bs L0), (κc L0 y3_0 y3_1), (κcq y3_0), (κ6 L0 L1 a2 L3 L4 L5 L6 L7)]) ((dP (ZP #[vp 0 0, Value.int .i32 (114 : Int), Value.string (Zb (wd L0 1))] ((wd L0 1)) L1 a2 L3 L4 L5 L6 L7   0 1 2 3 4 5 9), true) :: (κl L1 a2 L3 L4 L5 L6) :: (κy L3) :: (dS (Zg eI L4), true) :: (κB L5) :: (κC L6) :: (dS (Zm L7), true) :: Zdh L0 L1 a2 L3 L4 L5 L6 L7 y3_0 y3_1) (Za (Zj (ZW #[vp 0 0, Value.int .i32 (114 : Int), Value.string (Zb (wd L0 1))] ((wd L0 1)) L1 a2 L3 L4 L5 L6 L7   N c8 0 1 2 3 4 5 9 rfl dcd dcd)) <| oR <| oR <| oR <| oR <| oR <| oR <| w8)

end Ev
end Go.Proofs.YtlbbiflodemagaaDoor
/- Calls do what the plain functions say. -/
namespace Go.Proofs.YtlbbiflodemagaaDoor
open Go.RowKit
namespace Ev
set_option linter.unusedVariables false
set_option maxRecDepth 100000
theorem Zc9 (L0 L1 : List Int) (a2 : Int) (L3 : List RA) (L4 : List Int) (L5 : List R_is) (L6 : List (List Int)) (L7 : List R_si) (N : Nat) (r : Zf) (h : Zas L0 L1 a2 L3 L4 L5 L6 L7 N = some r) : LSpec Tryd.prog 51 (κby L0) (rpr L1 a2 L3 L4 L5 L6 L7) (ZdA L0 L1 a2 L3 L4 L5 L6 L7 r) (Zd3 L0 L1 a2 L3 L4 L5 L6 L7 r) :=
 Zi5 L0 L1 a2 L3 L4 L5 L6 L7 N r h

noncomputable def Zjf (L0 L1 : List Int) (a2 : Int) (L3 : List RA) (L4 : List Int) (L5 : List R_is) (L6 : List (List Int)) (L7 : List R_si) (k0 k1 k2 k3 k4 k5 n : Nat) : Za5 := .call (κa k0 L1 a2 k1 L3 k2 L4 k3 L5 k4 L6 k5 L7) (κba a2) [(k0, none), (k1, none), (k2, none), (k3, none), (k4, none), (k5, none)] 0
def Zfu (A : Array Value) (L0 L1 : List Int) (a2 : Int) (L3 : List RA) (L4 : List Int) (L5 : List R_is) (L6 : List (List Int)) (L7 : List R_si) (k0 k1 k2 k3 k4 k5 n : Nat) : Prop := Z3 Tryd.prog 51 A (κa k0 L1 a2 k1 L3 k2 L4 k3 L5 k4 L6 k5 L7) (κba a2) [(k0, none), (k1, none), (k2, none), (k3, none), (k4, none), (k5, none)] n 0

theorem Zjg (A : Array Value) (L0 L1 : List Int) (a2 : Int) (L3 : List RA) (L4 : List Int) (L5 : List R_is) (L6 : List (List Int)) (L7 : List R_si) (N : Nat) (h : Zas L0 L1 a2 L3 L4 L5 L6 L7 N = some (.r0)) (k0 k1 k2 k3 k4 k5 n : Nat) (hA : A = (κcV k0 L0)) (hnd : ([k0, k1, k2, k3, k4, k5] : List Nat).Nodup) (hlt : ∀ k ∈ ([k0, k1, k2, k3, k4, k5] : List Nat), k < n) : Zfu A L0 L1 a2 L3 L4 L5 L6 L7 k0 k1 k2 k3 k4 k5 n :=
 Zae hA (cX0 (show LSpec Tryd.prog 51 (κby L0) (rpr L1 a2 L3 L4 L5 L6 L7) (κba a2) [none, none, none, none, none, none] from Zc9 L0 L1 a2 L3 L4 L5 L6 L7 N _ h) [k0, k1, k2, k3, k4, k5] n [0, 1, 2, 3, 4, 5] hnd hlt)

noncomputable def Zjh (L0 L1 : List Int) (a2 : Int) (L3 : List RA) (L4 : List Int) (L5 : List R_is) (L6 : List (List Int)) (L7 : List R_si) (w5 : List RA) (k0 k1 k2 k3 k4 k5 n : Nat) : Za5 := .call (κa k0 L1 a2 k1 L3 k2 L4 k3 L5 k4 L6 k5 L7) (vtt) [(k0, some (.cells [Value.string (Zb L1), vi a2, vs n 0 w5.length w5.length, vs (n + 1) 0 (L4.length + 1) (L4.length + 1), vs k3 0 L5.length L5.length, vs k4 0 L6.length L6.length, Value.map (some k5)] 57)), (k1, none), (k2, none), (n, some (.cells (Zg E_iiii w5) 24)), ((n + 1), some (.cells (κo L4 a2) 3))] 2
def Zfv (A : Array Value) (L0 L1 : List Int) (a2 : Int) (L3 : List RA) (L4 : List Int) (L5 : List R_is) (L6 : List (List Int)) (L7 : List R_si) (w5 : List RA) (k0 k1 k2 k3 k4 k5 n : Nat) : Prop := Z3 Tryd.prog 51 A (κa k0 L1 a2 k1 L3 k2 L4 k3 L5 k4 L6 k5 L7) (vtt) [(k0, some (.cells [Value.string (Zb L1), vi a2, vs n 0 w5.length w5.length, vs (n + 1) 0 (L4.length + 1) (L4.length + 1), vs k3 0 L5.length L5.length, vs k4 0 L6.length L6.length, Value.map (some k5)] 57)), (k1, none), (k2, none), (n, some (.cells (Zg E_iiii w5) 24)), ((n + 1), some (.cells (κo L4 a2) 3))] n 2

theorem Zji (A : Array Value) (L0 L1 : List Int) (a2 : Int) (L3 : List RA) (L4 : List Int) (L5 : List R_is) (L6 : List (List Int)) (L7 : List R_si) (w5 : List RA) (N : Nat) (h : Zas L0 L1 a2 L3 L4 L5 L6 L7 N = some (.r1 w5)) (k0 k1 k2 k3 k4 k5 n : Nat) (hA : A = (κcV k0 L0)) (hnd : ([k0, k1, k2, k3, k4, k5] : List Nat).Nodup) (hlt : ∀ k ∈ ([k0, k1, k2, k3, k4, k5] : List Nat), k < n) : Zfv A L0 L1 a2 L3 L4 L5 L6 L7 w5 k0 k1 k2 k3 k4 k5 n :=
 Zae hA (cX0 (show LSpec Tryd.prog 51 (κby L0) (rpr L1 a2 L3 L4 L5 L6 L7) (vtt) [some (.cells [Value.string (Zb L1), vi a2, vs 6 0 w5.length w5.length, vs 7 0 (L4.length + 1) (L4.length + 1), vs 3 0 L5.length L5.length, vs 4 0 L6.length L6.length, Value.map (some 5)] 57), none, none, some (κW L5), some (κK L6), some (.ro (Zm L7) true), some (.cells (Zg E_iiii w5) 24), some (.cells (κo L4 a2) 3)] from Zc9 L0 L1 a2 L3 L4 L5 L6 L7 N _ h) [k0, k1, k2, k3, k4, k5] n [0, 1, 2, 6, 7] hnd hlt)

noncomputable def Zjj (L0 L1 : List Int) (a2 : Int) (L3 : List RA) (L4 : List Int) (L5 : List R_is) (L6 : List (List Int)) (L7 : List R_si) (w4 : List RA) (w6 : List R_is) (k0 k1 k2 k3 k4 k5 n : Nat) : Za5 := .call (κa k0 L1 a2 k1 L3 k2 L4 k3 L5 k4 L6 k5 L7) (vtt) [(k0, some (.cells [Value.string (Zb L1), vi a2, vs n 0 w4.length w4.length, vs (n + 1) 0 (L4.length + 1) (L4.length + 1), vs (n + 2) 0 w6.length w6.length, vs k4 0 L6.length L6.length, Value.map (some k5)] 57)), (k1, none), (k2, none), (k3, none), (n, some (.cells (Zg E_iiii w4) 24)), ((n + 1), some (.cells (κo L4 a2) 3)), ((n + 2), some (.cells (Zg ZM w6) 122))] 3
def Zfw (A : Array Value) (L0 L1 : List Int) (a2 : Int) (L3 : List RA) (L4 : List Int) (L5 : List R_is) (L6 : List (List Int)) (L7 : List R_si) (w4 : List RA) (w6 : List R_is) (k0 k1 k2 k3 k4 k5 n : Nat) : Prop := Z3 Tryd.prog 51 A (κa k0 L1 a2 k1 L3 k2 L4 k3 L5 k4 L6 k5 L7) (vtt) [(k0, some (.cells [Value.string (Zb L1), vi a2, vs n 0 w4.length w4.length, vs (n + 1) 0 (L4.length + 1) (L4.length + 1), vs (n + 2) 0 w6.length w6.length, vs k4 0 L6.length L6.length, Value.map (some k5)] 57)), (k1, none), (k2, none), (k3, none), (n, some (.cells (Zg E_iiii w4) 24)), ((n + 1), some (.cells (κo L4 a2) 3)), ((n + 2), some (.cells (Zg ZM w6) 122))] n 3

theorem Zjk (A : Array Value) (L0 L1 : List Int) (a2 : Int) (L3 : List RA) (L4 : List Int) (L5 : List R_is) (L6 : List (List Int)) (L7 : List R_si) (w4 : List RA) (w6 : List R_is) (N : Nat) (h : Zas L0 L1 a2 L3 L4 L5 L6 L7 N = some (.r2 w4 w6)) (k0 k1 k2 k3 k4 k5 n : Nat) (hA : A = (κcV k0 L0)) (hnd : ([k0, k1, k2, k3, k4, k5] : List Nat).Nodup) (hlt : ∀ k ∈ ([k0, k1, k2, k3, k4, k5] : List Nat), k < n) : Zfw A L0 L1 a2 L3 L4 L5 L6 L7 w4 w6 k0 k1 k2 k3 k4 k5 n :=
 Zae hA (cX0 (show LSpec Tryd.prog 51 (κby L0) (rpr L1 a2 L3 L4 L5 L6 L7) (vtt) [some (.cells [Value.string (Zb L1), vi a2, vs 6 0 w4.length w4.length, vs 7 0 (L4.length + 1) (L4.length + 1), vs 8 0 w6.length w6.length, vs 4 0 L6.length L6.length, Value.map (some 5)] 57), none, none, none, some (κK L6), some (.ro (Zm L7) true), some (.cells (Zg E_iiii w4) 24), some (.cells (κo L4 a2) 3), some (.cells (Zg ZM w6) 122)] from Zc9 L0 L1 a2 L3 L4 L5 L6 L7 N _ h) [k0, k1, k2, k3, k4, k5] n [0, 1, 2, 3, 6, 7, 8] hnd hlt)

noncomputable def Zha (a0 a1 a2 a3 : Int) : ZaH → Value
 | .r0 w0 => vi w0
noncomputable def Zgr (a0 a1 a2 a3 : Int) : ZaH → List (Option AObj)
 | .r0 w0 => []

noncomputable abbrev κE (a0 : Int) (a1 : Int) (a2 : Int) (a3 : Int) := #[Value.agg #[vi a0, vi a1, vi a2, vi a3]]
abbrev Zjl (a0 a1 a2 a3 : Int) (r : ZaH) : Prop := Gx Tryd.prog 14 [] (κE a0 a1 a2 a3) (Zha a0 a1 a2 a3) (Zgr a0 a1 a2 a3) (some r)
theorem Zmc {a0 : Int} {a1 : Int} {a2 : Int} {a3 : Int} {r : ZaH} {orc : Orc} {u : Value} {ob : OB} (hev : Zan [] (Zar Tryd.prog ZG 14 [] (κE a0 a1 a2 a3) 4000 orc) = some (u, [], ob)) (ho : ∀ p ∈ ob, p.1 = p.2) (hv : Zha a0 a1 a2 a3 r = Zam (rho [] far) 3 u ∧ ZY 3 u = true) (hp : Zgr a0 a1 a2 a3 r = [] := by rfl) : Zjl a0 a1 a2 a3 r :=
 Zku ZdD (live := []) (bl := []) hev ho (by rw [hp]; rfl) (by decide) (by rfl) hv (by rw [hp]; trivial) (by rw [hp]; exact ZaV _ rfl)

theorem Ze {a0 : Int} {a1 : Int} {a2 : Int} {a3 : Int} (orc : Orc) (ob : OB) (ho : ∀ p ∈ ob, p.1 = p.2) (hev : Zan [] (Zar Tryd.prog ZG 14 [] (κE a0 a1 a2 a3) 4000 orc) = some (vi (100 : Int), [], ob) := by as_aux_lemma => kernel_rfl) : Zjl a0 a1 a2 a3 (.r0 (100) : ZaH) := Zmc hev ho rr

noncomputable def Zh4 (a0 a1 a2 a3 : Int) : OB := (κM a0) :: []

noncomputable def ZJ (a0 a1 a2 a3 : Int) : OB := (κn a0) :: Zh4 a0 a1 a2 a3

noncomputable def ZbZ (a0 a1 a2 a3 : Int) : OB := (Nat.blt 1 21, true) :: (a0 == Int.ofNat 1, true) :: ZJ a0 a1 a2 a3

theorem ZZ {a0 : Int} {a1 : Int} {a2 : Int} {a3 : Int} (orc : Orc) (ob : OB) (ho : ∀ p ∈ ob, p.1 = p.2) (hev : Zan [] (Zar Tryd.prog ZG 14 [] (κE a0 a1 a2 a3) 4000 orc) = some (vq, [], ob) := by as_aux_lemma => kernel_rfl) : Zjl a0 a1 a2 a3 (.r0 (0) : ZaH) := Zmc hev ho rr

noncomputable def Zca (a0 a1 a2 a3 : Int) : OB := (Nat.blt 2 21, true) :: (a0 == Int.ofNat 2, true) :: ZJ a0 a1 a2 a3

noncomputable def Zcb (a0 a1 a2 a3 : Int) : OB := (Nat.blt 3 21, true) :: (a0 == Int.ofNat 3, true) :: ZJ a0 a1 a2 a3

noncomputable def Zcc (a0 a1 a2 a3 : Int) : OB := (Nat.blt 4 21, true) :: (a0 == Int.ofNat 4, true) :: ZJ a0 a1 a2 a3

noncomputable def Zcd (a0 a1 a2 a3 : Int) : OB := (Nat.blt 5 21, true) :: (a0 == Int.ofNat 5, true) :: ZJ a0 a1 a2 a3

noncomputable def Zce (a0 a1 a2 a3 : Int) : OB := (Nat.blt 6 21, true) :: (a0 == Int.ofNat 6, true) :: ZJ a0 a1 a2 a3

noncomputable def Zcf (a0 a1 a2 a3 : Int) : OB := (Nat.blt 7 21, true) :: (a0 == Int.ofNat 7, true) :: ZJ a0 a1 a2 a3

noncomputable def Zcg (a0 a1 a2 a3 : Int) : OB := (Nat.blt 8 21, true) :: (a0 == Int.ofNat 8, true) :: ZJ a0 a1 a2 a3

noncomputable def Zb3 (a0 a1 a2 a3 : Int) : OB := (Nat.blt 9 21, true) :: (a0 == Int.ofNat 9, true) :: ZJ a0 a1 a2 a3

noncomputable def Zb4 (a0 a1 a2 a3 : Int) : OB := (Nat.blt 10 21, true) :: (a0 == Int.ofNat 10, true) :: ZJ a0 a1 a2 a3

noncomputable def ZcL (a0 a1 a2 a3 : Int) : OB := (Nat.blt 11 21, true) :: (a0 == Int.ofNat 11, true) :: ZJ a0 a1 a2 a3

noncomputable abbrev κf (a1 : Int) := ((decide (a1 ≤ (7 : Int))), true)
noncomputable abbrev κb (a1 : Int) := ((decide ((0 : Int) ≤ a1)), true)
noncomputable def Zfa (a0 a1 a2 a3 : Int) : OB := (dP (a2 = Int.ofNat (a2).toNat ∧ (a2).toNat ≤ IntKind.i64.bits), true) :: ((decide (a2 ≤ (16 : Int))), true) :: ((decide ((1 : Int) ≤ a2)), true) :: (κf a1) :: (κb a1) :: ZcL a0 a1 a2 a3

noncomputable def Zb5 (a0 a1 a2 a3 : Int) : OB := (Nat.blt 12 21, true) :: (a0 == Int.ofNat 12, true) :: ZJ a0 a1 a2 a3

noncomputable def Zb6 (a0 a1 a2 a3 : Int) : OB := (Nat.blt 13 21, true) :: (a0 == Int.ofNat 13, true) :: ZJ a0 a1 a2 a3

noncomputable def Zb7 (a0 a1 a2 a3 : Int) : OB := (Nat.blt 14 21, true) :: (a0 == Int.ofNat 14, true) :: ZJ a0 a1 a2 a3

noncomputable def Zb8 (a0 a1 a2 a3 : Int) : OB := (Nat.blt 15 21, true) :: (a0 == Int.ofNat 15, true) :: ZJ a0 a1 a2 a3

noncomputable def Zb9 (a0 a1 a2 a3 : Int) : OB := (Nat.blt 16 21, true) :: (a0 == Int.ofNat 16, true) :: ZJ a0 a1 a2 a3

noncomputable def ZbA (a0 a1 a2 a3 : Int) : OB := (Nat.blt 17 21, true) :: (a0 == Int.ofNat 17, true) :: ZJ a0 a1 a2 a3

noncomputable def ZbB (a0 a1 a2 a3 : Int) : OB := (Nat.blt 18 21, true) :: (a0 == Int.ofNat 18, true) :: ZJ a0 a1 a2 a3

noncomputable def ZbC (a0 a1 a2 a3 : Int) : OB := (Nat.blt 19 21, true) :: (a0 == Int.ofNat 19, true) :: ZJ a0 a1 a2 a3

noncomputable def ZbD (a0 a1 a2 a3 : Int) : OB := (Nat.blt 20 21, true) :: (a0 == Int.ofNat 20, true) :: ZJ a0 a1 a2 a3

end Ev
end Go.Proofs.YtlbbiflodemagaaDoor
/- Calls do what the plain functions say. -/
namespace Go.Proofs.YtlbbiflodemagaaDoor
open Go.RowKit
namespace Ev
set_option linter.unusedVariables false
set_option maxRecDepth 100000
noncomputable abbrev κdu (a2 : Int) := ((decide (a2 ≤ (1099511627776 : Int))), true)
noncomputable abbrev κc5 (a3 : Int) := ((decide (a3 ≤ (7 : Int))), true)
noncomputable abbrev κc2 (a1 : Int) := ((decide (a1 ≤ (0 : Int))), false)
noncomputable abbrev κc1 (a3 : Int) := ((decide (a3 ≤ (7 : Int))), false)
noncomputable abbrev κcZ (a2 : Int) := ((decide ((-1099511627776 : Int) ≤ a2)), true)
noncomputable abbrev κcW (a1 : Int) := ((decide (a1 ≤ (512 : Int))), true)
noncomputable abbrev κcS := [(0, false), (1, false), (10, false)]
noncomputable abbrev κcF (a2 : Int) := ((decide (a2 ≤ (7 : Int))), false)
noncomputable abbrev κcs := [(0, false), (1, false), (10, true), (11, false)]
noncomputable abbrev κcg := [(0, false), (1, false), (5, true), (6, true), (15, false)]
noncomputable abbrev κcc := [(0, false), (1, false), (10, true), (11, true), (20, false)]
noncomputable abbrev κcb := [(0, false), (1, false), (5, true), (6, true), (10, true), (11, true), (15, false)]
noncomputable abbrev κb4 := [(0, false), (1, false), (5, true), (6, true), (10, true), (11, true), (15, true), (16, true)]
noncomputable abbrev κb3 := [(0, false), (1, false), (5, true), (6, true), (15, true), (16, false)]
noncomputable abbrev κb1 := [(0, false), (1, false), (5, true), (6, true), (10, true), (11, true), (15, true), (16, false)]
noncomputable abbrev κb0 := [(0, false), (1, false), (10, true), (11, true), (20, true), (21, false)]
noncomputable abbrev κbZ := [(0, false), (1, false), (5, true), (6, true), (10, false)]
noncomputable abbrev κbW (a2 : Int) := ((decide (a2 ≤ (0 : Int))), false)
noncomputable abbrev κbR := [(0, false), (1, false), (5, true), (6, true), (15, true), (16, true), (25, false)]
noncomputable abbrev κbP := [(0, false), (1, false), (10, true), (11, true), (20, true), (21, true), (30, false)]
noncomputable abbrev κbL := [(0, false), (1, false), (5, true), (6, true), (10, true), (11, false)]
noncomputable abbrev κbJ := [(0, false), (1, false), (5, true), (6, true), (15, true), (16, true), (25, true), (26, true)]
noncomputable abbrev κbH := [(0, false), (1, false), (5, true), (6, true), (15, true), (16, true), (25, true), (26, false)]
noncomputable abbrev κbG := [(0, false), (1, false), (10, true), (11, true), (20, true), (21, true), (30, true), (31, true)]
noncomputable abbrev κbE := [(0, false), (1, false), (10, true), (11, true), (20, true), (21, true), (30, true), (31, false)]
noncomputable abbrev κbC (a3 : Int) := ((decide (a3 ≤ (0 : Int))), true)
noncomputable abbrev κbz (a3 : Int) := ((decide (a3 ≤ (0 : Int))), false)
noncomputable abbrev κbr (a1 : Int) := ((decide (a1 ≤ (7 : Int))), false)
noncomputable abbrev κbn := [(0, false), (1, false), (5, false)]
noncomputable abbrev κ0 (a2 : Int) := ((decide (a2 ≤ (7 : Int))), true)
noncomputable abbrev κV (a2 : Int) := ((decide ((0 : Int) ≤ a2)), false)
noncomputable abbrev κP := [(0, false), (1, false), (5, true), (6, false)]
noncomputable abbrev κO (a1 : Int) := ((decide ((0 : Int) ≤ a1)), false)
noncomputable abbrev κN (a3 : Int) := ((decide ((0 : Int) ≤ a3)), false)
noncomputable abbrev κG (a1 : Int) := ((decide (a1 ≤ (0 : Int))), true)
noncomputable abbrev κD (a2 : Int) := ((decide (a2 ≤ (0 : Int))), true)
noncomputable abbrev κq (a3 : Int) := ((decide ((0 : Int) ≤ a3)), true)
noncomputable abbrev κe (a2 : Int) := ((decide ((0 : Int) ≤ a2)), true)
set_option maxHeartbeats 4000000 in
theorem ZpA (a0 a1 a2 a3 : Int) (N : Nat) : Gx Tryd.prog 14 [] (κE a0 a1 a2 a3) (Zha a0 a1 a2 a3) (Zgr a0 a1 a2 a3) (Z7 a0 a1 a2 a3 N) := by
 unfold Z7
 refine Zc (fun g0 => ?_) (fun g0 => ?_)
 ·
  exact Ze (Zs [o1] [] [] [] []) ((κdq a0) :: []) (oY <| Z6)
 ·
  have w1 : OkL (Zh4 a0 a1 a2 a3) :=
   oN <| Z6
  refine Zc (fun g1 => ?_) (fun g1 => ?_)
  ·
   exact Ze (Zs [o0, o1] [] [] [] []) ((κdm a0) :: Zh4 a0 a1 a2 a3) (oY <| w1)
  ·
   have w2 : OkL (ZJ a0 a1 a2 a3) :=
    oN <| w1
   refine Zc (fun g2 => ?_) (fun g2 => ?_)
   ·
    exact Ze (Zs [o0, o0] [] [(0, 0)] [] []) ((Nat.blt 0 21, true) :: (a0 == Int.ofNat 0, true) :: ZJ a0 a1 a2 a3) (oB <| oK <| w2)
   ·
    refine Zc (fun g3 => ?_) (fun g3 => ?_)
    ·
     have w4 : OkL (ZbZ a0 a1 a2 a3) :=
      oB <| oK <| w2
     refine Zc (fun g4 => ?_) (fun g4 => ?_)
     ·
      refine Zc (fun g5 => ?_) (fun g5 => ?_)
      ·
       refine Zc (fun g6 => ?_) (fun g6 => ?_)
       ·
        refine Zc (fun g7 => ?_) (fun g7 => ?_)
        ·
         refine Zc (fun g8 => ?_) (fun g8 => ?_)
         ·
          refine Zc (fun g9 => ?_) (fun g9 => ?_)
          ·
           exact ZZ (Zp κbJ [] [(0, 1)] [] []) ((κbC a3) :: (κq a3) :: (κdu a2) :: (κcZ a2) :: (κf a1) :: (κb a1) :: ZbZ a0 a1 a2 a3) (oY <| oY <| oY <| oY <| oY <| oY <| w4)
          ·
           exact Ze (Zp κbH [] [(0, 1)] [] []) ((κbz a3) :: (κq a3) :: (κdu a2) :: (κcZ a2) :: (κf a1) :: (κb a1) :: ZbZ a0 a1 a2 a3) (oN <| oY <| oY <| oY <| oY <| oY <| w4)
         ·
          exact Ze (Zp κbR [] [(0, 1)] [] []) ((κN a3) :: (κdu a2) :: (κcZ a2) :: (κf a1) :: (κb a1) :: ZbZ a0 a1 a2 a3) (oN <| oY <| oY <| oY <| oY <| w4)
        ·
         exact Ze (Zp κb3 [] [(0, 1)] [] []) (((decide (a2 ≤ (1099511627776 : Int))), false) :: (κcZ a2) :: (κf a1) :: (κb a1) :: ZbZ a0 a1 a2 a3) (oN <| oY <| oY <| oY <| w4)
       ·
        exact Ze (Zp κcg [] [(0, 1)] [] []) (((decide ((-1099511627776 : Int) ≤ a2)), false) :: (κf a1) :: (κb a1) :: ZbZ a0 a1 a2 a3) (oN <| oY <| oY <| w4)
      ·
       exact Ze (Zp κP [] [(0, 1)] [] []) ((κbr a1) :: (κb a1) :: ZbZ a0 a1 a2 a3) (oN <| oY <| w4)
     ·
      exact Ze (Zp κbn [] [(0, 1)] [] []) ((κO a1) :: ZbZ a0 a1 a2 a3) (oN <| w4)
    ·
     refine Zc (fun g4 => ?_) (fun g4 => ?_)
     ·
      have w5 : OkL (Zca a0 a1 a2 a3) :=
       oB <| oK <| w2
      refine Zc (fun g5 => ?_) (fun g5 => ?_)
      ·
       refine Zc (fun g6 => ?_) (fun g6 => ?_)
       ·
        refine Zc (fun g7 => ?_) (fun g7 => ?_)
        ·
         refine Zc (fun g8 => ?_) (fun g8 => ?_)
         ·
          refine Zc (fun g9 => ?_) (fun g9 => ?_)
          ·
           refine Zc (fun g10 => ?_) (fun g10 => ?_)
           ·
            exact ZZ (Zp κbJ [] [(0, 2)] [] []) ((κbC a3) :: (κq a3) :: (κD a2) :: (κe a2) :: (κf a1) :: (κb a1) :: Zca a0 a1 a2 a3) (oY <| oY <| oY <| oY <| oY <| oY <| w5)
           ·
            exact Ze (Zp κbH [] [(0, 2)] [] []) ((κbz a3) :: (κq a3) :: (κD a2) :: (κe a2) :: (κf a1) :: (κb a1) :: Zca a0 a1 a2 a3) (oN <| oY <| oY <| oY <| oY <| oY <| w5)
          ·
           exact Ze (Zp κbR [] [(0, 2)] [] []) ((κN a3) :: (κD a2) :: (κe a2) :: (κf a1) :: (κb a1) :: Zca a0 a1 a2 a3) (oN <| oY <| oY <| oY <| oY <| w5)
         ·
          exact Ze (Zp κb3 [] [(0, 2)] [] []) ((κbW a2) :: (κe a2) :: (κf a1) :: (κb a1) :: Zca a0 a1 a2 a3) (oN <| oY <| oY <| oY <| w5)
        ·
         exact Ze (Zp κcg [] [(0, 2)] [] []) ((κV a2) :: (κf a1) :: (κb a1) :: Zca a0 a1 a2 a3) (oN <| oY <| oY <| w5)
       ·
        exact Ze (Zp κP [] [(0, 2)] [] []) ((κbr a1) :: (κb a1) :: Zca a0 a1 a2 a3) (oN <| oY <| w5)
      ·
       exact Ze (Zp κbn [] [(0, 2)] [] []) ((κO a1) :: Zca a0 a1 a2 a3) (oN <| w5)
     ·
      refine Zc (fun g5 => ?_) (fun g5 => ?_)
      ·
       have w6 : OkL (Zcb a0 a1 a2 a3) :=
        oB <| oK <| w2
       refine Zc (fun g6 => ?_) (fun g6 => ?_)
       ·
        refine Zc (fun g7 => ?_) (fun g7 => ?_)
        ·
         refine Zc (fun g8 => ?_) (fun g8 => ?_)
         ·
          refine Zc (fun g9 => ?_) (fun g9 => ?_)
          ·
           refine Zc (fun g10 => ?_) (fun g10 => ?_)
           ·
            refine Zc (fun g11 => ?_) (fun g11 => ?_)
            ·
             exact ZZ (Zp [(0, false), (1, false), (5, true), (6, true), (10, true), (11, true), (20, true), (21, true)] [] [(0, 3)] [] []) ((κbC a3) :: (κq a3) :: (κ0 a2) :: (κe a2) :: (κf a1) :: (κb a1) :: Zcb a0 a1 a2 a3) (oY <| oY <| oY <| oY <| oY <| oY <| w6)
            ·
             exact Ze (Zp [(0, false), (1, false), (5, true), (6, true), (10, true), (11, true), (20, true), (21, false)] [] [(0, 3)] [] []) ((κbz a3) :: (κq a3) :: (κ0 a2) :: (κe a2) :: (κf a1) :: (κb a1) :: Zcb a0 a1 a2 a3) (oN <| oY <| oY <| oY <| oY <| oY <| w6)
           ·
            exact Ze (Zp [(0, false), (1, false), (5, true), (6, true), (10, true), (11, true), (20, false)] [] [(0, 3)] [] []) ((κN a3) :: (κ0 a2) :: (κe a2) :: (κf a1) :: (κb a1) :: Zcb a0 a1 a2 a3) (oN <| oY <| oY <| oY <| oY <| w6)
          ·
           exact Ze (Zp κbL [] [(0, 3)] [] []) ((κcF a2) :: (κe a2) :: (κf a1) :: (κb a1) :: Zcb a0 a1 a2 a3) (oN <| oY <| oY <| oY <| w6)
         ·
          exact Ze (Zp κbZ [] [(0, 3)] [] []) ((κV a2) :: (κf a1) :: (κb a1) :: Zcb a0 a1 a2 a3) (oN <| oY <| oY <| w6)
        ·
         exact Ze (Zp κP [] [(0, 3)] [] []) ((κbr a1) :: (κb a1) :: Zcb a0 a1 a2 a3) (oN <| oY <| w6)
       ·
        exact Ze (Zp κbn [] [(0, 3)] [] []) ((κO a1) :: Zcb a0 a1 a2 a3) (oN <| w6)
      ·
       refine Zc (fun g6 => ?_) (fun g6 => ?_)
       ·
        have w7 : OkL (Zcc a0 a1 a2 a3) :=
         oB <| oK <| w2
        refine Zc (fun g7 => ?_) (fun g7 => ?_)
        ·
         refine Zc (fun g8 => ?_) (fun g8 => ?_)
         ·
          refine Zc (fun g9 => ?_) (fun g9 => ?_)
          ·
           refine Zc (fun g10 => ?_) (fun g10 => ?_)
           ·
            refine Zc (fun g11 => ?_) (fun g11 => ?_)
            ·
             refine Zc (fun g12 => ?_) (fun g12 => ?_)
             ·
              exact ZZ (Zp κb4 [] [(0, 4)] [] []) ((κc5 a3) :: (κq a3) :: (κ0 a2) :: (κe a2) :: (κf a1) :: (κb a1) :: Zcc a0 a1 a2 a3) (oY <| oY <| oY <| oY <| oY <| oY <| w7)
             ·
              exact Ze (Zp κb1 [] [(0, 4)] [] []) ((κc1 a3) :: (κq a3) :: (κ0 a2) :: (κe a2) :: (κf a1) :: (κb a1) :: Zcc a0 a1 a2 a3) (oN <| oY <| oY <| oY <| oY <| oY <| w7)
            ·
             exact Ze (Zp κcb [] [(0, 4)] [] []) ((κN a3) :: (κ0 a2) :: (κe a2) :: (κf a1) :: (κb a1) :: Zcc a0 a1 a2 a3) (oN <| oY <| oY <| oY <| oY <| w7)
           ·
            exact Ze (Zp κbL [] [(0, 4)] [] []) ((κcF a2) :: (κe a2) :: (κf a1) :: (κb a1) :: Zcc a0 a1 a2 a3) (oN <| oY <| oY <| oY <| w7)
          ·
           exact Ze (Zp κbZ [] [(0, 4)] [] []) ((κV a2) :: (κf a1) :: (κb a1) :: Zcc a0 a1 a2 a3) (oN <| oY <| oY <| w7)
         ·
          exact Ze (Zp κP [] [(0, 4)] [] []) ((κbr a1) :: (κb a1) :: Zcc a0 a1 a2 a3) (oN <| oY <| w7)
        ·
         exact Ze (Zp κbn [] [(0, 4)] [] []) ((κO a1) :: Zcc a0 a1 a2 a3) (oN <| w7)
       ·
        refine Zc (fun g7 => ?_) (fun g7 => ?_)
        ·
         have w8 : OkL (Zcd a0 a1 a2 a3) :=
          oB <| oK <| w2
         refine Zc (fun g8 => ?_) (fun g8 => ?_)
         ·
          refine Zc (fun g9 => ?_) (fun g9 => ?_)
          ·
           refine Zc (fun g10 => ?_) (fun g10 => ?_)
           ·
            refine Zc (fun g11 => ?_) (fun g11 => ?_)
            ·
             refine Zc (fun g12 => ?_) (fun g12 => ?_)
             ·
              refine Zc (fun g13 => ?_) (fun g13 => ?_)
              ·
               exact ZZ (Zp κb4 [] [(0, 5)] [] []) ((κc5 a3) :: (κq a3) :: (κ0 a2) :: (κe a2) :: (κf a1) :: (κb a1) :: Zcd a0 a1 a2 a3) (oY <| oY <| oY <| oY <| oY <| oY <| w8)
              ·
               exact Ze (Zp κb1 [] [(0, 5)] [] []) ((κc1 a3) :: (κq a3) :: (κ0 a2) :: (κe a2) :: (κf a1) :: (κb a1) :: Zcd a0 a1 a2 a3) (oN <| oY <| oY <| oY <| oY <| oY <| w8)
             ·
              exact Ze (Zp κcb [] [(0, 5)] [] []) ((κN a3) :: (κ0 a2) :: (κe a2) :: (κf a1) :: (κb a1) :: Zcd a0 a1 a2 a3) (oN <| oY <| oY <| oY <| oY <| w8)
            ·
             exact Ze (Zp κbL [] [(0, 5)] [] []) ((κcF a2) :: (κe a2) :: (κf a1) :: (κb a1) :: Zcd a0 a1 a2 a3) (oN <| oY <| oY <| oY <| w8)
           ·
            exact Ze (Zp κbZ [] [(0, 5)] [] []) ((κV a2) :: (κf a1) :: (κb a1) :: Zcd a0 a1 a2 a3) (oN <| oY <| oY <| w8)
          ·
           exact Ze (Zp κP [] [(0, 5)] [] []) ((κbr a1) :: (κb a1) :: Zcd a0 a1 a2 a3) (oN <| oY <| w8)
         ·
          exact Ze (Zp κbn [] [(0, 5)] [] []) ((κO a1) :: Zcd a0 a1 a2 a3) (oN <| w8)
        ·
         refine Zc (fun g8 => ?_) (fun g8 => ?_)
         ·
          have w9 : OkL (Zce a0 a1 a2 a3) :=
           oB <| oK <| w2
          refine Zc (fun g9 => ?_) (fun g9 => ?_)
          ·
           refine Zc (fun g10 => ?_) (fun g10 => ?_)
           ·
            refine Zc (fun g11 => ?_) (fun g11 => ?_)
            ·
             refine Zc (fun g12 => ?_) (fun g12 => ?_)
             ·
              refine Zc (fun g13 => ?_) (fun g13 => ?_)
              ·
               refine Zc (fun g14 => ?_) (fun g14 => ?_)
               ·
                exact ZZ (Zp κb4 [] [(0, 6)] [] []) ((κc5 a3) :: (κq a3) :: (κ0 a2) :: (κe a2) :: (κf a1) :: (κb a1) :: Zce a0 a1 a2 a3) (oY <| oY <| oY <| oY <| oY <| oY <| w9)
               ·
                exact Ze (Zp κb1 [] [(0, 6)] [] []) ((κc1 a3) :: (κq a3) :: (κ0 a2) :: (κe a2) :: (κf a1) :: (κb a1) :: Zce a0 a1 a2 a3) (oN <| oY <| oY <| oY <| oY <| oY <| w9)
              ·
               exact Ze (Zp κcb [] [(0, 6)] [] []) ((κN a3) :: (κ0 a2) :: (κe a2) :: (κf a1) :: (κb a1) :: Zce a0 a1 a2 a3) (oN <| oY <| oY <| oY <| oY <| w9)
             ·
              exact Ze (Zp κbL [] [(0, 6)] [] []) ((κcF a2) :: (κe a2) :: (κf a1) :: (κb a1) :: Zce a0 a1 a2 a3) (oN <| oY <| oY <| oY <| w9)
            ·
             exact Ze (Zp κbZ [] [(0, 6)] [] []) ((κV a2) :: (κf a1) :: (κb a1) :: Zce a0 a1 a2 a3) (oN <| oY <| oY <| w9)
           ·
            exact Ze (Zp κP [] [(0, 6)] [] []) ((κbr a1) :: (κb a1) :: Zce a0 a1 a2 a3) (oN <| oY <| w9)
          ·
           exact Ze (Zp κbn [] [(0, 6)] [] []) ((κO a1) :: Zce a0 a1 a2 a3) (oN <| w9)
         ·
          refine Zc (fun g9 => ?_) (fun g9 => ?_)
          ·
           have w10 : OkL (Zcf a0 a1 a2 a3) :=
            oB <| oK <| w2
           refine Zc (fun g10 => ?_) (fun g10 => ?_)
           ·
            refine Zc (fun g11 => ?_) (fun g11 => ?_)
            ·
             refine Zc (fun g12 => ?_) (fun g12 => ?_)
             ·
              refine Zc (fun g13 => ?_) (fun g13 => ?_)
              ·
               refine Zc (fun g14 => ?_) (fun g14 => ?_)
               ·
                refine Zc (fun g15 => ?_) (fun g15 => ?_)
                ·
                 exact ZZ (Zp κb4 [] [(0, 7)] [] []) ((κc5 a3) :: (κq a3) :: (κ0 a2) :: (κe a2) :: (κf a1) :: (κb a1) :: Zcf a0 a1 a2 a3) (oY <| oY <| oY <| oY <| oY <| oY <| w10)
                ·
                 exact Ze (Zp κb1 [] [(0, 7)] [] []) ((κc1 a3) :: (κq a3) :: (κ0 a2) :: (κe a2) :: (κf a1) :: (κb a1) :: Zcf a0 a1 a2 a3) (oN <| oY <| oY <| oY <| oY <| oY <| w10)
               ·
                exact Ze (Zp κcb [] [(0, 7)] [] []) ((κN a3) :: (κ0 a2) :: (κe a2) :: (κf a1) :: (κb a1) :: Zcf a0 a1 a2 a3) (oN <| oY <| oY <| oY <| oY <| w10)
              ·
               exact Ze (Zp κbL [] [(0, 7)] [] []) ((κcF a2) :: (κe a2) :: (κf a1) :: (κb a1) :: Zcf a0 a1 a2 a3) (oN <| oY <| oY <| oY <| w10)
             ·
              exact Ze (Zp κbZ [] [(0, 7)] [] []) ((κV a2) :: (κf a1) :: (κb a1) :: Zcf a0 a1 a2 a3) (oN <| oY <| oY <| w10)
            ·
             exact Ze (Zp κP [] [(0, 7)] [] []) ((κbr a1) :: (κb a1) :: Zcf a0 a1 a2 a3) (oN <| oY <| w10)
           ·
            exact Ze (Zp κbn [] [(0, 7)] [] []) ((κO a1) :: Zcf a0 a1 a2 a3) (oN <| w10)
          ·
           refine Zc (fun g10 => ?_) (fun g10 => ?_)
           ·
            have w11 : OkL (Zcg a0 a1 a2 a3) :=
             oB <| oK <| w2
            refine Zc (fun g11 => ?_) (fun g11 => ?_)
            ·
             refine Zc (fun g12 => ?_) (fun g12 => ?_)
             ·
              refine Zc (fun g13 => ?_) (fun g13 => ?_)
              ·
               refine Zc (fun g14 => ?_) (fun g14 => ?_)
               ·
                refine Zc (fun g15 => ?_) (fun g15 => ?_)
                ·
                 refine Zc (fun g16 => ?_) (fun g16 => ?_)
                 ·
                  exact ZZ (Zp [(0, false), (1, false), (8, true), (9, true), (18, true), (19, true), (28, true), (29, true)] [] [(0, 8)] [] []) ((κbC a3) :: (κq a3) :: (κD a2) :: (κe a2) :: (κcW a1) :: (κb a1) :: Zcg a0 a1 a2 a3) (oY <| oY <| oY <| oY <| oY <| oY <| w11)
                 ·
                  exact Ze (Zp [(0, false), (1, false), (8, true), (9, true), (18, true), (19, true), (28, true), (29, false)] [] [(0, 8)] [] []) ((κbz a3) :: (κq a3) :: (κD a2) :: (κe a2) :: (κcW a1) :: (κb a1) :: Zcg a0 a1 a2 a3) (oN <| oY <| oY <| oY <| oY <| oY <| w11)
                ·
                 exact Ze (Zp [(0, false), (1, false), (8, true), (9, true), (18, true), (19, true), (28, false)] [] [(0, 8)] [] []) ((κN a3) :: (κD a2) :: (κe a2) :: (κcW a1) :: (κb a1) :: Zcg a0 a1 a2 a3) (oN <| oY <| oY <| oY <| oY <| w11)
               ·
                exact Ze (Zp [(0, false), (1, false), (8, true), (9, true), (18, true), (19, false)] [] [(0, 8)] [] []) ((κbW a2) :: (κe a2) :: (κcW a1) :: (κb a1) :: Zcg a0 a1 a2 a3) (oN <| oY <| oY <| oY <| w11)
              ·
               exact Ze (Zp [(0, false), (1, false), (8, true), (9, true), (18, false)] [] [(0, 8)] [] []) ((κV a2) :: (κcW a1) :: (κb a1) :: Zcg a0 a1 a2 a3) (oN <| oY <| oY <| w11)
             ·
              exact Ze (Zp [(0, false), (1, false), (8, true), (9, false)] [] [(0, 8)] [] []) (((decide (a1 ≤ (512 : Int))), false) :: (κb a1) :: Zcg a0 a1 a2 a3) (oN <| oY <| w11)
            ·
             exact Ze (Zp [(0, false), (1, false), (8, false)] [] [(0, 8)] [] []) ((κO a1) :: Zcg a0 a1 a2 a3) (oN <| w11)
           ·
            refine Zc (fun g11 => ?_) (fun g11 => ?_)
            ·
             have w12 : OkL (Zb3 a0 a1 a2 a3) :=
              oB <| oK <| w2
             refine Zc (fun g12 => ?_) (fun g12 => ?_)
             ·
              refine Zc (fun g13 => ?_) (fun g13 => ?_)
              ·
               refine Zc (fun g14 => ?_) (fun g14 => ?_)
               ·
                refine Zc (fun g15 => ?_) (fun g15 => ?_)
                ·
                 refine Zc (fun g16 => ?_) (fun g16 => ?_)
                 ·
                  refine Zc (fun g17 => ?_) (fun g17 => ?_)
                  ·
                   exact ZZ (Zp [(0, false), (1, false), (5, true), (6, true), (13, true), (14, true), (23, true), (24, true)] [] [(0, 9)] [] []) ((κbC a3) :: (κq a3) :: ((decide (a2 ≤ (512 : Int))), true) :: (κe a2) :: (κf a1) :: (κb a1) :: Zb3 a0 a1 a2 a3) (oY <| oY <| oY <| oY <| oY <| oY <| w12)
                  ·
                   exact Ze (Zp [(0, false), (1, false), (5, true), (6, true), (13, true), (14, true), (23, true), (24, false)] [] [(0, 9)] [] []) ((κbz a3) :: (κq a3) :: ((decide (a2 ≤ (512 : Int))), true) :: (κe a2) :: (κf a1) :: (κb a1) :: Zb3 a0 a1 a2 a3) (oN <| oY <| oY <| oY <| oY <| oY <| w12)
                 ·
                  exact Ze (Zp [(0, false), (1, false), (5, true), (6, true), (13, true), (14, true), (23, false)] [] [(0, 9)] [] []) ((κN a3) :: ((decide (a2 ≤ (512 : Int))), true) :: (κe a2) :: (κf a1) :: (κb a1) :: Zb3 a0 a1 a2 a3) (oN <| oY <| oY <| oY <| oY <| w12)
                ·
                 exact Ze (Zp [(0, false), (1, false), (5, true), (6, true), (13, true), (14, false)] [] [(0, 9)] [] []) (((decide (a2 ≤ (512 : Int))), false) :: (κe a2) :: (κf a1) :: (κb a1) :: Zb3 a0 a1 a2 a3) (oN <| oY <| oY <| oY <| w12)
               ·
                exact Ze (Zp [(0, false), (1, false), (5, true), (6, true), (13, false)] [] [(0, 9)] [] []) ((κV a2) :: (κf a1) :: (κb a1) :: Zb3 a0 a1 a2 a3) (oN <| oY <| oY <| w12)
              ·
               exact Ze (Zp κP [] [(0, 9)] [] []) ((κbr a1) :: (κb a1) :: Zb3 a0 a1 a2 a3) (oN <| oY <| w12)
             ·
              exact Ze (Zp κbn [] [(0, 9)] [] []) ((κO a1) :: Zb3 a0 a1 a2 a3) (oN <| w12)
            ·
             refine Zc (fun g12 => ?_) (fun g12 => ?_)
             ·
              have w13 : OkL (Zb4 a0 a1 a2 a3) :=
               oB <| oK <| w2
              refine Zc (fun g13 => ?_) (fun g13 => ?_)
              ·
               refine Zc (fun g14 => ?_) (fun g14 => ?_)
               ·
                refine Zc (fun g15 => ?_) (fun g15 => ?_)
                ·
                 refine Zc (fun g16 => ?_) (fun g16 => ?_)
                 ·
                  refine Zc (fun g17 => ?_) (fun g17 => ?_)
                  ·
                   refine Zc (fun g18 => ?_) (fun g18 => ?_)
                   ·
                    exact ZZ (Zp κbJ [] [(0, 10)] [] []) ((κbC a3) :: (κq a3) :: (κD a2) :: (κe a2) :: (κf a1) :: (κb a1) :: Zb4 a0 a1 a2 a3) (oY <| oY <| oY <| oY <| oY <| oY <| w13)
                   ·
                    exact Ze (Zp κbH [] [(0, 10)] [] []) ((κbz a3) :: (κq a3) :: (κD a2) :: (κe a2) :: (κf a1) :: (κb a1) :: Zb4 a0 a1 a2 a3) (oN <| oY <| oY <| oY <| oY <| oY <| w13)
                  ·
                   exact Ze (Zp κbR [] [(0, 10)] [] []) ((κN a3) :: (κD a2) :: (κe a2) :: (κf a1) :: (κb a1) :: Zb4 a0 a1 a2 a3) (oN <| oY <| oY <| oY <| oY <| w13)
                 ·
                  exact Ze (Zp κb3 [] [(0, 10)] [] []) ((κbW a2) :: (κe a2) :: (κf a1) :: (κb a1) :: Zb4 a0 a1 a2 a3) (oN <| oY <| oY <| oY <| w13)
                ·
                 exact Ze (Zp κcg [] [(0, 10)] [] []) ((κV a2) :: (κf a1) :: (κb a1) :: Zb4 a0 a1 a2 a3) (oN <| oY <| oY <| w13)
               ·
                exact Ze (Zp κP [] [(0, 10)] [] []) ((κbr a1) :: (κb a1) :: Zb4 a0 a1 a2 a3) (oN <| oY <| w13)
              ·
               exact Ze (Zp κbn [] [(0, 10)] [] []) ((κO a1) :: Zb4 a0 a1 a2 a3) (oN <| w13)
             ·
              refine Zc (fun g13 => ?_) (fun g13 => ?_)
              ·
               have w14 : OkL (ZcL a0 a1 a2 a3) :=
                oB <| oK <| w2
               refine Zc (fun g14 => ?_) (fun g14 => ?_)
               ·
                refine Zc (fun g15 => ?_) (fun g15 => ?_)
                ·
                 refine Zc (fun g16 => ?_) (fun g16 => ?_)
                 ·
                  refine Zc (fun g17 => ?_) (fun g17 => ?_)
                  ·
                   have w18 : OkL (Zfa a0 a1 a2 a3) :=
                    Za (Zj ⟨by first | rfl | exact Zgc (by omega), show _ ≤ 64 from by omega⟩) <| oY <| oY <| oY <| oY <| w14
                   refine Zc (fun g18 => ?_) (fun g18 => ?_)
                   ·
                    refine Zc (fun g19 => ?_) (fun g19 => ?_)
                    ·
                     exact ZZ (Zp [(0, false), (1, false), (5, true), (6, true), (12, true), (13, true), (21, true), (22, true)] [] [(0, 11)] [] [(4, .sh (a2).toNat)]) (((decide (a3 ≤ (IntKind.i64.wrap ((IntKind.i64.wrap ((1 : Int) * (2 ^ (a2).toNat : Int))) - (1 : Int))))), true) :: (κq a3) :: Zfa a0 a1 a2 a3) (oY <| oY <| w18)
                    ·
                     exact Ze (Zp [(0, false), (1, false), (5, true), (6, true), (12, true), (13, true), (21, true), (22, false)] [] [(0, 11)] [] [(4, .sh (a2).toNat)]) (((decide (a3 ≤ (IntKind.i64.wrap ((IntKind.i64.wrap ((1 : Int) * (2 ^ (a2).toNat : Int))) - (1 : Int))))), false) :: (κq a3) :: Zfa a0 a1 a2 a3) (oN <| oY <| w18)
                   ·
                    exact Ze (Zp [(0, false), (1, false), (5, true), (6, true), (12, true), (13, true), (21, false)] [] [(0, 11)] [] [(4, .sh (a2).toNat)]) ((κN a3) :: Zfa a0 a1 a2 a3) (oN <| w18)
                  ·
                   exact Ze (Zp [(0, false), (1, false), (5, true), (6, true), (12, true), (13, false)] [] [(0, 11)] [] []) (((decide (a2 ≤ (16 : Int))), false) :: ((decide ((1 : Int) ≤ a2)), true) :: (κf a1) :: (κb a1) :: ZcL a0 a1 a2 a3) (oN <| oY <| oY <| oY <| w14)
                 ·
                  exact Ze (Zp [(0, false), (1, false), (5, true), (6, true), (12, false)] [] [(0, 11)] [] []) (((decide ((1 : Int) ≤ a2)), false) :: (κf a1) :: (κb a1) :: ZcL a0 a1 a2 a3) (oN <| oY <| oY <| w14)
                ·
                 exact Ze (Zp κP [] [(0, 11)] [] []) ((κbr a1) :: (κb a1) :: ZcL a0 a1 a2 a3) (oN <| oY <| w14)
               ·
                exact Ze (Zp κbn [] [(0, 11)] [] []) ((κO a1) :: ZcL a0 a1 a2 a3) (oN <| w14)
              ·
               refine Zc (fun g14 => ?_) (fun g14 => ?_)
               ·
                have w15 : OkL (Zb5 a0 a1 a2 a3) :=
                 oB <| oK <| w2
                refine Zc (fun g15 => ?_) (fun g15 => ?_)
                ·
                 refine Zc (fun g16 => ?_) (fun g16 => ?_)
                 ·
                  refine Zc (fun g17 => ?_) (fun g17 => ?_)
                  ·
                   refine Zc (fun g18 => ?_) (fun g18 => ?_)
                   ·
                    refine Zc (fun g19 => ?_) (fun g19 => ?_)
                    ·
                     refine Zc (fun g20 => ?_) (fun g20 => ?_)
                     ·
                      exact ZZ (Zp κbJ [] [(0, 12)] [] []) ((κbC a3) :: (κq a3) :: (κD a2) :: (κe a2) :: (κf a1) :: (κb a1) :: Zb5 a0 a1 a2 a3) (oY <| oY <| oY <| oY <| oY <| oY <| w15)
                     ·
                      exact Ze (Zp κbH [] [(0, 12)] [] []) ((κbz a3) :: (κq a3) :: (κD a2) :: (κe a2) :: (κf a1) :: (κb a1) :: Zb5 a0 a1 a2 a3) (oN <| oY <| oY <| oY <| oY <| oY <| w15)
                    ·
                     exact Ze (Zp κbR [] [(0, 12)] [] []) ((κN a3) :: (κD a2) :: (κe a2) :: (κf a1) :: (κb a1) :: Zb5 a0 a1 a2 a3) (oN <| oY <| oY <| oY <| oY <| w15)
                   ·
                    exact Ze (Zp κb3 [] [(0, 12)] [] []) ((κbW a2) :: (κe a2) :: (κf a1) :: (κb a1) :: Zb5 a0 a1 a2 a3) (oN <| oY <| oY <| oY <| w15)
                  ·
                   exact Ze (Zp κcg [] [(0, 12)] [] []) ((κV a2) :: (κf a1) :: (κb a1) :: Zb5 a0 a1 a2 a3) (oN <| oY <| oY <| w15)
                 ·
                  exact Ze (Zp κP [] [(0, 12)] [] []) ((κbr a1) :: (κb a1) :: Zb5 a0 a1 a2 a3) (oN <| oY <| w15)
                ·
                 exact Ze (Zp κbn [] [(0, 12)] [] []) ((κO a1) :: Zb5 a0 a1 a2 a3) (oN <| w15)
               ·
                refine Zc (fun g15 => ?_) (fun g15 => ?_)
                ·
                 have w16 : OkL (Zb6 a0 a1 a2 a3) :=
                  oB <| oK <| w2
                 refine Zc (fun g16 => ?_) (fun g16 => ?_)
                 ·
                  refine Zc (fun g17 => ?_) (fun g17 => ?_)
                  ·
                   refine Zc (fun g18 => ?_) (fun g18 => ?_)
                   ·
                    refine Zc (fun g19 => ?_) (fun g19 => ?_)
                    ·
                     refine Zc (fun g20 => ?_) (fun g20 => ?_)
                     ·
                      refine Zc (fun g21 => ?_) (fun g21 => ?_)
                      ·
                       exact ZZ (Zp [(0, false), (1, false), (5, true), (6, true), (10, true), (11, true), (16, true), (17, true)] [] [(0, 13)] [] []) (((decide (a3 ≤ (15 : Int))), true) :: (κq a3) :: (κ0 a2) :: (κe a2) :: (κf a1) :: (κb a1) :: Zb6 a0 a1 a2 a3) (oY <| oY <| oY <| oY <| oY <| oY <| w16)
                      ·
                       exact Ze (Zp [(0, false), (1, false), (5, true), (6, true), (10, true), (11, true), (16, true), (17, false)] [] [(0, 13)] [] []) (((decide (a3 ≤ (15 : Int))), false) :: (κq a3) :: (κ0 a2) :: (κe a2) :: (κf a1) :: (κb a1) :: Zb6 a0 a1 a2 a3) (oN <| oY <| oY <| oY <| oY <| oY <| w16)
                     ·
                      exact Ze (Zp [(0, false), (1, false), (5, true), (6, true), (10, true), (11, true), (16, false)] [] [(0, 13)] [] []) ((κN a3) :: (κ0 a2) :: (κe a2) :: (κf a1) :: (κb a1) :: Zb6 a0 a1 a2 a3) (oN <| oY <| oY <| oY <| oY <| w16)
                    ·
                     exact Ze (Zp κbL [] [(0, 13)] [] []) ((κcF a2) :: (κe a2) :: (κf a1) :: (κb a1) :: Zb6 a0 a1 a2 a3) (oN <| oY <| oY <| oY <| w16)
                   ·
                    exact Ze (Zp κbZ [] [(0, 13)] [] []) ((κV a2) :: (κf a1) :: (κb a1) :: Zb6 a0 a1 a2 a3) (oN <| oY <| oY <| w16)
                  ·
                   exact Ze (Zp κP [] [(0, 13)] [] []) ((κbr a1) :: (κb a1) :: Zb6 a0 a1 a2 a3) (oN <| oY <| w16)
                 ·
                  exact Ze (Zp κbn [] [(0, 13)] [] []) ((κO a1) :: Zb6 a0 a1 a2 a3) (oN <| w16)
                ·
                 refine Zc (fun g16 => ?_) (fun g16 => ?_)
                 ·
                  have w17 : OkL (Zb7 a0 a1 a2 a3) :=
                   oB <| oK <| w2
                  refine Zc (fun g17 => ?_) (fun g17 => ?_)
                  ·
                   refine Zc (fun g18 => ?_) (fun g18 => ?_)
                   ·
                    refine Zc (fun g19 => ?_) (fun g19 => ?_)
                    ·
                     refine Zc (fun g20 => ?_) (fun g20 => ?_)
                     ·
                      refine Zc (fun g21 => ?_) (fun g21 => ?_)
                      ·
                       refine Zc (fun g22 => ?_) (fun g22 => ?_)
                       ·
                        exact ZZ (Zp [(0, false), (1, false), (5, true), (6, true), (11, true), (12, true), (16, true), (17, true)] [] [(0, 14)] [] []) ((κc5 a3) :: (κq a3) :: ((decide (a2 ≤ (15 : Int))), true) :: (κe a2) :: (κf a1) :: (κb a1) :: Zb7 a0 a1 a2 a3) (oY <| oY <| oY <| oY <| oY <| oY <| w17)
                       ·
                        exact Ze (Zp [(0, false), (1, false), (5, true), (6, true), (11, true), (12, true), (16, true), (17, false)] [] [(0, 14)] [] []) ((κc1 a3) :: (κq a3) :: ((decide (a2 ≤ (15 : Int))), true) :: (κe a2) :: (κf a1) :: (κb a1) :: Zb7 a0 a1 a2 a3) (oN <| oY <| oY <| oY <| oY <| oY <| w17)
                      ·
                       exact Ze (Zp [(0, false), (1, false), (5, true), (6, true), (11, true), (12, true), (16, false)] [] [(0, 14)] [] []) ((κN a3) :: ((decide (a2 ≤ (15 : Int))), true) :: (κe a2) :: (κf a1) :: (κb a1) :: Zb7 a0 a1 a2 a3) (oN <| oY <| oY <| oY <| oY <| w17)
                     ·
                      exact Ze (Zp [(0, false), (1, false), (5, true), (6, true), (11, true), (12, false)] [] [(0, 14)] [] []) (((decide (a2 ≤ (15 : Int))), false) :: (κe a2) :: (κf a1) :: (κb a1) :: Zb7 a0 a1 a2 a3) (oN <| oY <| oY <| oY <| w17)
                    ·
                     exact Ze (Zp [(0, false), (1, false), (5, true), (6, true), (11, false)] [] [(0, 14)] [] []) ((κV a2) :: (κf a1) :: (κb a1) :: Zb7 a0 a1 a2 a3) (oN <| oY <| oY <| w17)
                   ·
                    exact Ze (Zp κP [] [(0, 14)] [] []) ((κbr a1) :: (κb a1) :: Zb7 a0 a1 a2 a3) (oN <| oY <| w17)
                  ·
                   exact Ze (Zp κbn [] [(0, 14)] [] []) ((κO a1) :: Zb7 a0 a1 a2 a3) (oN <| w17)
                 ·
                  refine Zc (fun g17 => ?_) (fun g17 => ?_)
                  ·
                   have w18 : OkL (Zb8 a0 a1 a2 a3) :=
                    oB <| oK <| w2
                   refine Zc (fun g18 => ?_) (fun g18 => ?_)
                   ·
                    refine Zc (fun g19 => ?_) (fun g19 => ?_)
                    ·
                     refine Zc (fun g20 => ?_) (fun g20 => ?_)
                     ·
                      refine Zc (fun g21 => ?_) (fun g21 => ?_)
                      ·
                       refine Zc (fun g22 => ?_) (fun g22 => ?_)
                       ·
                        refine Zc (fun g23 => ?_) (fun g23 => ?_)
                        ·
                         exact ZZ (Zp κbG [] [(0, 15)] [] []) ((κbC a3) :: (κq a3) :: (κD a2) :: (κe a2) :: (κG a1) :: (κb a1) :: Zb8 a0 a1 a2 a3) (oY <| oY <| oY <| oY <| oY <| oY <| w18)
                        ·
                         exact Ze (Zp κbE [] [(0, 15)] [] []) ((κbz a3) :: (κq a3) :: (κD a2) :: (κe a2) :: (κG a1) :: (κb a1) :: Zb8 a0 a1 a2 a3) (oN <| oY <| oY <| oY <| oY <| oY <| w18)
                       ·
                        exact Ze (Zp κbP [] [(0, 15)] [] []) ((κN a3) :: (κD a2) :: (κe a2) :: (κG a1) :: (κb a1) :: Zb8 a0 a1 a2 a3) (oN <| oY <| oY <| oY <| oY <| w18)
                      ·
                       exact Ze (Zp κb0 [] [(0, 15)] [] []) ((κbW a2) :: (κe a2) :: (κG a1) :: (κb a1) :: Zb8 a0 a1 a2 a3) (oN <| oY <| oY <| oY <| w18)
                     ·
                      exact Ze (Zp κcc [] [(0, 15)] [] []) ((κV a2) :: (κG a1) :: (κb a1) :: Zb8 a0 a1 a2 a3) (oN <| oY <| oY <| w18)
                    ·
                     exact Ze (Zp κcs [] [(0, 15)] [] []) ((κc2 a1) :: (κb a1) :: Zb8 a0 a1 a2 a3) (oN <| oY <| w18)
                   ·
                    exact Ze (Zp κcS [] [(0, 15)] [] []) ((κO a1) :: Zb8 a0 a1 a2 a3) (oN <| w18)
                  ·
                   refine Zc (fun g18 => ?_) (fun g18 => ?_)
                   ·
                    have w19 : OkL (Zb9 a0 a1 a2 a3) :=
                     oB <| oK <| w2
                    refine Zc (fun g19 => ?_) (fun g19 => ?_)
                    ·
                     refine Zc (fun g20 => ?_) (fun g20 => ?_)
                     ·
                      refine Zc (fun g21 => ?_) (fun g21 => ?_)
                      ·
                       refine Zc (fun g22 => ?_) (fun g22 => ?_)
                       ·
                        refine Zc (fun g23 => ?_) (fun g23 => ?_)
                        ·
                         refine Zc (fun g24 => ?_) (fun g24 => ?_)
                         ·
                          exact ZZ (Zp κbG [] [(0, 16)] [] []) ((κbC a3) :: (κq a3) :: (κD a2) :: (κe a2) :: (κG a1) :: (κb a1) :: Zb9 a0 a1 a2 a3) (oY <| oY <| oY <| oY <| oY <| oY <| w19)
                         ·
                          exact Ze (Zp κbE [] [(0, 16)] [] []) ((κbz a3) :: (κq a3) :: (κD a2) :: (κe a2) :: (κG a1) :: (κb a1) :: Zb9 a0 a1 a2 a3) (oN <| oY <| oY <| oY <| oY <| oY <| w19)
                        ·
                         exact Ze (Zp κbP [] [(0, 16)] [] []) ((κN a3) :: (κD a2) :: (κe a2) :: (κG a1) :: (κb a1) :: Zb9 a0 a1 a2 a3) (oN <| oY <| oY <| oY <| oY <| w19)
                       ·
                        exact Ze (Zp κb0 [] [(0, 16)] [] []) ((κbW a2) :: (κe a2) :: (κG a1) :: (κb a1) :: Zb9 a0 a1 a2 a3) (oN <| oY <| oY <| oY <| w19)
                      ·
                       exact Ze (Zp κcc [] [(0, 16)] [] []) ((κV a2) :: (κG a1) :: (κb a1) :: Zb9 a0 a1 a2 a3) (oN <| oY <| oY <| w19)
                     ·
                      exact Ze (Zp κcs [] [(0, 16)] [] []) ((κc2 a1) :: (κb a1) :: Zb9 a0 a1 a2 a3) (oN <| oY <| w19)
                    ·
                     exact Ze (Zp κcS [] [(0, 16)] [] []) ((κO a1) :: Zb9 a0 a1 a2 a3) (oN <| w19)
                   ·
                    refine Zc (fun g19 => ?_) (fun g19 => ?_)
                    ·
                     have w20 : OkL (ZbA a0 a1 a2 a3) :=
                      oB <| oK <| w2
                     refine Zc (fun g20 => ?_) (fun g20 => ?_)
                     ·
                      refine Zc (fun g21 => ?_) (fun g21 => ?_)
                      ·
                       refine Zc (fun g22 => ?_) (fun g22 => ?_)
                       ·
                        refine Zc (fun g23 => ?_) (fun g23 => ?_)
                        ·
                         refine Zc (fun g24 => ?_) (fun g24 => ?_)
                         ·
                          refine Zc (fun g25 => ?_) (fun g25 => ?_)
                          ·
                           exact ZZ (Zp κbG [] [(0, 17)] [] []) ((κbC a3) :: (κq a3) :: (κD a2) :: (κe a2) :: (κG a1) :: (κb a1) :: ZbA a0 a1 a2 a3) (oY <| oY <| oY <| oY <| oY <| oY <| w20)
                          ·
                           exact Ze (Zp κbE [] [(0, 17)] [] []) ((κbz a3) :: (κq a3) :: (κD a2) :: (κe a2) :: (κG a1) :: (κb a1) :: ZbA a0 a1 a2 a3) (oN <| oY <| oY <| oY <| oY <| oY <| w20)
                         ·
                          exact Ze (Zp κbP [] [(0, 17)] [] []) ((κN a3) :: (κD a2) :: (κe a2) :: (κG a1) :: (κb a1) :: ZbA a0 a1 a2 a3) (oN <| oY <| oY <| oY <| oY <| w20)
                        ·
                         exact Ze (Zp κb0 [] [(0, 17)] [] []) ((κbW a2) :: (κe a2) :: (κG a1) :: (κb a1) :: ZbA a0 a1 a2 a3) (oN <| oY <| oY <| oY <| w20)
                       ·
                        exact Ze (Zp κcc [] [(0, 17)] [] []) ((κV a2) :: (κG a1) :: (κb a1) :: ZbA a0 a1 a2 a3) (oN <| oY <| oY <| w20)
                      ·
                       exact Ze (Zp κcs [] [(0, 17)] [] []) ((κc2 a1) :: (κb a1) :: ZbA a0 a1 a2 a3) (oN <| oY <| w20)
                     ·
                      exact Ze (Zp κcS [] [(0, 17)] [] []) ((κO a1) :: ZbA a0 a1 a2 a3) (oN <| w20)
                    ·
                     refine Zc (fun g20 => ?_) (fun g20 => ?_)
                     ·
                      have w21 : OkL (ZbB a0 a1 a2 a3) :=
                       oB <| oK <| w2
                      refine Zc (fun g21 => ?_) (fun g21 => ?_)
                      ·
                       refine Zc (fun g22 => ?_) (fun g22 => ?_)
                       ·
                        refine Zc (fun g23 => ?_) (fun g23 => ?_)
                        ·
                         refine Zc (fun g24 => ?_) (fun g24 => ?_)
                         ·
                          refine Zc (fun g25 => ?_) (fun g25 => ?_)
                          ·
                           refine Zc (fun g26 => ?_) (fun g26 => ?_)
                           ·
                            exact ZZ (Zp κbG [] [(0, 18)] [] []) ((κbC a3) :: (κq a3) :: (κD a2) :: (κe a2) :: (κG a1) :: (κb a1) :: ZbB a0 a1 a2 a3) (oY <| oY <| oY <| oY <| oY <| oY <| w21)
                           ·
                            exact Ze (Zp κbE [] [(0, 18)] [] []) ((κbz a3) :: (κq a3) :: (κD a2) :: (κe a2) :: (κG a1) :: (κb a1) :: ZbB a0 a1 a2 a3) (oN <| oY <| oY <| oY <| oY <| oY <| w21)
                          ·
                           exact Ze (Zp κbP [] [(0, 18)] [] []) ((κN a3) :: (κD a2) :: (κe a2) :: (κG a1) :: (κb a1) :: ZbB a0 a1 a2 a3) (oN <| oY <| oY <| oY <| oY <| w21)
                         ·
                          exact Ze (Zp κb0 [] [(0, 18)] [] []) ((κbW a2) :: (κe a2) :: (κG a1) :: (κb a1) :: ZbB a0 a1 a2 a3) (oN <| oY <| oY <| oY <| w21)
                        ·
                         exact Ze (Zp κcc [] [(0, 18)] [] []) ((κV a2) :: (κG a1) :: (κb a1) :: ZbB a0 a1 a2 a3) (oN <| oY <| oY <| w21)
                       ·
                        exact Ze (Zp κcs [] [(0, 18)] [] []) ((κc2 a1) :: (κb a1) :: ZbB a0 a1 a2 a3) (oN <| oY <| w21)
                      ·
                       exact Ze (Zp κcS [] [(0, 18)] [] []) ((κO a1) :: ZbB a0 a1 a2 a3) (oN <| w21)
                     ·
                      refine Zc (fun g21 => ?_) (fun g21 => ?_)
                      ·
                       have w22 : OkL (ZbC a0 a1 a2 a3) :=
                        oB <| oK <| w2
                       refine Zc (fun g22 => ?_) (fun g22 => ?_)
                       ·
                        refine Zc (fun g23 => ?_) (fun g23 => ?_)
                        ·
                         refine Zc (fun g24 => ?_) (fun g24 => ?_)
                         ·
                          refine Zc (fun g25 => ?_) (fun g25 => ?_)
                          ·
                           refine Zc (fun g26 => ?_) (fun g26 => ?_)
                           ·
                            refine Zc (fun g27 => ?_) (fun g27 => ?_)
                            ·
                             exact ZZ (Zp κbJ [] [(0, 19)] [] []) ((κbC a3) :: (κq a3) :: (κD a2) :: (κe a2) :: (κf a1) :: (κb a1) :: ZbC a0 a1 a2 a3) (oY <| oY <| oY <| oY <| oY <| oY <| w22)
                            ·
                             exact Ze (Zp κbH [] [(0, 19)] [] []) ((κbz a3) :: (κq a3) :: (κD a2) :: (κe a2) :: (κf a1) :: (κb a1) :: ZbC a0 a1 a2 a3) (oN <| oY <| oY <| oY <| oY <| oY <| w22)
                           ·
                            exact Ze (Zp κbR [] [(0, 19)] [] []) ((κN a3) :: (κD a2) :: (κe a2) :: (κf a1) :: (κb a1) :: ZbC a0 a1 a2 a3) (oN <| oY <| oY <| oY <| oY <| w22)
                          ·
                           exact Ze (Zp κb3 [] [(0, 19)] [] []) ((κbW a2) :: (κe a2) :: (κf a1) :: (κb a1) :: ZbC a0 a1 a2 a3) (oN <| oY <| oY <| oY <| w22)
                         ·
                          exact Ze (Zp κcg [] [(0, 19)] [] []) ((κV a2) :: (κf a1) :: (κb a1) :: ZbC a0 a1 a2 a3) (oN <| oY <| oY <| w22)
                        ·
                         exact Ze (Zp κP [] [(0, 19)] [] []) ((κbr a1) :: (κb a1) :: ZbC a0 a1 a2 a3) (oN <| oY <| w22)
                       ·
                        exact Ze (Zp κbn [] [(0, 19)] [] []) ((κO a1) :: ZbC a0 a1 a2 a3) (oN <| w22)
                      ·
                       have w22 : OkL (ZbD a0 a1 a2 a3) :=
                        oB <| oK <| w2
                       refine Zc (fun g22 => ?_) (fun g22 => ?_)
                       ·
                        refine Zc (fun g23 => ?_) (fun g23 => ?_)
                        ·
                         refine Zc (fun g24 => ?_) (fun g24 => ?_)
                         ·
                          refine Zc (fun g25 => ?_) (fun g25 => ?_)
                          ·
                           refine Zc (fun g26 => ?_) (fun g26 => ?_)
                           ·
                            refine Zc (fun g27 => ?_) (fun g27 => ?_)
                            ·
                             exact ZZ (Zp κbG [] [(0, 20)] [] []) ((κbC a3) :: (κq a3) :: (κD a2) :: (κe a2) :: (κG a1) :: (κb a1) :: ZbD a0 a1 a2 a3) (oY <| oY <| oY <| oY <| oY <| oY <| w22)
                            ·
                             exact Ze (Zp κbE [] [(0, 20)] [] []) ((κbz a3) :: (κq a3) :: (κD a2) :: (κe a2) :: (κG a1) :: (κb a1) :: ZbD a0 a1 a2 a3) (oN <| oY <| oY <| oY <| oY <| oY <| w22)
                           ·
                            exact Ze (Zp κbP [] [(0, 20)] [] []) ((κN a3) :: (κD a2) :: (κe a2) :: (κG a1) :: (κb a1) :: ZbD a0 a1 a2 a3) (oN <| oY <| oY <| oY <| oY <| w22)
                          ·
                           exact Ze (Zp κb0 [] [(0, 20)] [] []) ((κbW a2) :: (κe a2) :: (κG a1) :: (κb a1) :: ZbD a0 a1 a2 a3) (oN <| oY <| oY <| oY <| w22)
                         ·
                          exact Ze (Zp κcc [] [(0, 20)] [] []) ((κV a2) :: (κG a1) :: (κb a1) :: ZbD a0 a1 a2 a3) (oN <| oY <| oY <| w22)
                        ·
                         exact Ze (Zp κcs [] [(0, 20)] [] []) ((κc2 a1) :: (κb a1) :: ZbD a0 a1 a2 a3) (oN <| oY <| w22)
                       ·
                        exact Ze (Zp κcS [] [(0, 20)] [] []) ((κO a1) :: ZbD a0 a1 a2 a3) (oN <| w22)

end Ev
end Go.Proofs.YtlbbiflodemagaaDoor
/- Calls do what the plain functions say. -/
namespace Go.Proofs.YtlbbiflodemagaaDoor
open Go.RowKit
namespace Ev
set_option linter.unusedVariables false
set_option maxRecDepth 100000
theorem Zn6 (a0 a1 a2 a3 : Int) (N : Nat) (r : ZaH) (h : Z7 a0 a1 a2 a3 N = some r) : LSpec Tryd.prog 14 (κE a0 a1 a2 a3) [] (Zha a0 a1 a2 a3 r) (Zgr a0 a1 a2 a3 r) :=
 ZpA a0 a1 a2 a3 N r h

noncomputable def Z5 (a0 a1 a2 a3 w0 : Int) (n : Nat) : Za5 := .call [] (vi w0) [] 0
def Zaz (A : Array Value) (a0 a1 a2 a3 w0 : Int) (n : Nat) : Prop := Z3 Tryd.prog 14 A [] (vi w0) [] n 0

theorem Za7 (A : Array Value) (a0 a1 a2 a3 w0 : Int) (N : Nat) (h : Z7 a0 a1 a2 a3 N = some (.r0 w0)) (n : Nat) (hA : A = (κE a0 a1 a2 a3)) (hnd : ([] : List Nat).Nodup) (hlt : ∀ k ∈ ([] : List Nat), k < n) : Zaz A a0 a1 a2 a3 w0  n :=
 Zae hA (cX0 (show LSpec Tryd.prog 14 (κE a0 a1 a2 a3) [] (vi w0) [] from Zn6 a0 a1 a2 a3 N _ h) [] n [] hnd hlt)

noncomputable def ZjH (L0 : List Int) (a1 : Int) (L2 : List RA) (L3 : List Int) (L4 : List R_is) (L5 : List (List Int)) (L6 : List R_si) : Zt → Value
 | .r0 w0 => Value.iface 88 (Value.agg #[vi w0])
 | .r1 w6 => vtt
 | .r2 w0 w6 w7 w8 => vtt
noncomputable abbrev κcr (L2 : List RA) := (AObj.cells (Zg E_iiii L2) 24 true)
noncomputable abbrev κbd (L3 : List Int) := (AObj.cells (Zg eI L3) 3 true)
noncomputable abbrev κ5 (L5 : List (List Int)) := (AObj.cells (Zg Zag L5) 9 true)
noncomputable abbrev κX (L4 : List R_is) := (AObj.cells (Zg ZM L4) 122 true)
noncomputable def Zjm (L0 : List Int) (a1 : Int) (L2 : List RA) (L3 : List Int) (L4 : List R_is) (L5 : List (List Int)) (L6 : List R_si) : Zt → List (Option AObj)
 | .r0 w0 => [none, none, none, none, none, none]
 | .r1 w6 => [some (.cells [Value.string (Zb L0), vi w6, vs 1 0 L2.length L2.length, vs 2 0 L3.length L3.length, vs 3 0 L4.length L4.length, vs 4 0 L5.length L5.length, Value.map (some 5)] 57), some (κcr L2), some (κbd L3), some (κX L4), some (κ5 L5), some (.ro (Zm L6) true)]
 | .r2 w0 w6 w7 w8 => [some (.cells [Value.string (Zb L0), vi w6, vs 1 0 w0.length w0.length, vs 2 0 L3.length L3.length, vs 3 (w7 * 2) w8 w8, vs 4 0 L5.length L5.length, Value.map (some 5)] 57), some (.cells (Zg E_iiii w0) 24 true), some (κbd L3), some (κX L4), some (κ5 L5), some (.ro (Zm L6) true)]

def Zn7 : asm_reader_aimX → Nat
 | .h1m0 v6 v8 => 1
 | .h1m1 v0 v6 v8 v9 v10 => 1
noncomputable def Zo5 (L0 : List Int) (a1 : Int) (L2 : List RA) (L3 : List Int) (L4 : List R_is) (L5 : List (List Int)) (L6 : List R_si) : asm_reader_aimX → List (Nat × Value)
 | .h1m0 v6 v8 => [(0, vp 0 0), (9, vs 1 0 L2.length L2.length), (10, vi (L2.length : Int)), (11, vi (v6 : Int))]
 | .h1m1 v0 v6 v8 v9 v10 => [(0, vp 0 0), (9, vs 1 0 v0.length v0.length), (10, vi (L2.length : Int)), (11, vi (v6 : Int))]
noncomputable def Zo6 (L0 : List Int) (a1 : Int) (L2 : List RA) (L3 : List Int) (L4 : List R_is) (L5 : List (List Int)) (L6 : List R_si) : asm_reader_aimX → List (Option AObj)
 | .h1m0 v6 v8 => [some (.cells [Value.string (Zb L0), vi v8, vs 1 0 L2.length L2.length, vs 2 0 L3.length L3.length, vs 3 0 L4.length L4.length, vs 4 0 L5.length L5.length, Value.map (some 5)] 57), some (κcr L2), some (κbd L3), some (κX L4), some (κ5 L5), some (.ro (Zm L6) true)]
 | .h1m1 v0 v6 v8 v9 v10 => [some (.cells [Value.string (Zb L0), vi v8, vs 1 0 v0.length v0.length, vs 2 0 L3.length L3.length, vs 3 (v9 * 2) v10 v10, vs 4 0 L5.length L5.length, Value.map (some 5)] 57), some (.cells (Zg E_iiii v0) 24 true), some (κbd L3), some (κX L4), some (κ5 L5), some (.ro (Zm L6) true)]

noncomputable def ZdL : Nat → Code × List Zbk
 | 1 => Zem [1, 3] (Zgn Tryd.f52) []
 | _ => (.skip, [])
def Zn8 : Nat → Bool
 | 1 => true
 | _ => true
noncomputable abbrev κr (L0 : List Int) (a1 : Int) (L2 : List RA) (L3 : List Int) (L4 : List R_is) (L5 : List (List Int)) (L6 : List R_si) := [AObj.cells [Value.string (Zb L0), vi a1, vs 1 0 L2.length L2.length, vs 2 0 L3.length L3.length, vs 3 0 L4.length L4.length, vs 4 0 L5.length L5.length, Value.map (some 5)] 57, AObj.cells (Zg E_iiii L2) 24 true, AObj.cells (Zg eI L3) 3 true, AObj.cells (Zg ZM L4) 122 true, AObj.cells (Zg Zag L5) 9 true, AObj.ro (Zm L6) true]
noncomputable def ZK (L0 : List Int) (a1 : Int) (L2 : List RA) (L3 : List Int) (L4 : List R_is) (L5 : List (List Int)) (L6 : List R_si) (N : Nat) : Mach := ⟨Tryd.f52, (κr L0 a1 L2 L3 L4 L5 L6), asm_reader_aimX, Zt, ZaU L0 a1 L2 L3 L4 L5 L6 N, Zn7, ZdL, Zn8, Zo5 L0 a1 L2 L3 L4 L5 L6, Zo6 L0 a1 L2 L3 L4 L5 L6, ZjH L0 a1 L2 L3 L4 L5 L6, Zjm L0 a1 L2 L3 L4 L5 L6⟩

noncomputable abbrev κbX (v6 : Nat) := ((v6 : Int) == Int.ofNat v6, true)
noncomputable def Zip (L0 : List Int) (a1 : Int) (L2 : List RA) (L3 : List Int) (L4 : List R_is) (L5 : List (List Int)) (L6 : List R_si) (v6 : Nat) (v8 : Int) : OB := (ZbK (Z8 4 (List.drop (0 + (v6 * 4)) (Zg E_iiii L2))) (aic L2 v6), true) :: (Nat.blt v6 L2.length, true) :: (κbX v6) :: ((decide ((v6 : Int) < (L2.length : Int))), true) :: []

noncomputable def ZfR (L0 : List Int) (a1 : Int) (L2 : List RA) (L3 : List Int) (L4 : List R_is) (L5 : List (List Int)) (L6 : List R_si) (v6 : Nat) (v8 : Int) : OB := (ZbK (Z8 1 (List.drop (0 + (v6 * 1)) (Zg eI L3))) [.i (L3.getD v6 0)], true) :: (Nat.blt v6 L3.length, true) :: (κbX v6) :: Zip L0 a1 L2 L3 L4 L5 L6 v6 v8

noncomputable def ZfS (L0 : List Int) (a1 : Int) (L2 : List RA) (L3 : List Int) (L4 : List R_is) (L5 : List (List Int)) (L6 : List R_si) (v6 : Nat) (v8 : Int) : OB := (ZbK (Z8 1 (List.drop ((0 + (0 * 2)) + 0) (Zg ZM L4))) [.i (aj L4 0).a0], true) :: (Nat.blt 0 L4.length, true) :: κc8 :: ((decide ((L4.length : Int) > (0 : Int))), true) :: ZfR L0 a1 L2 L3 L4 L5 L6 v6 v8

noncomputable def ZfT (L0 : List Int) (a1 : Int) (L2 : List RA) (L3 : List Int) (L4 : List R_is) (L5 : List (List Int)) (L6 : List R_si) (v6 : Nat) (v8 : Int) : OB := (ZbK (Z8 1 (List.drop ((0 + (0 * 2)) + 1) (Zg ZM L4))) [.s (Zb (aj L4 0).a1)], true) :: (Nat.blt 0 L4.length, true) :: κc8 :: (((aj L4 0).a0 == (v6 : Int)), true) :: ZfS L0 a1 L2 L3 L4 L5 L6 v6 v8

noncomputable abbrev κcl (L6 : List R_si) (L4 : List R_is) (a1 : Int) := (some (vi (Z2 L6 (aj L4 0).a1)))
noncomputable def Zef (L0 : List Int) (a1 : Int) (L2 : List RA) (L3 : List Int) (L4 : List R_is) (L5 : List (List Int)) (L6 : List R_si) (v6 : Nat) (v8 : Int) : OB := (dP ((Zby Tryd.prog 9 (Value.string (Zb (aj L4 0).a1)) (Zbb L6)).map (Option.map Prod.snd) = some (κcl L6 L4 a1)), true) :: ZfT L0 a1 L2 L3 L4 L5 L6 v6 v8

noncomputable abbrev κdp (L4 : List R_is) := (dP (1 ≤ L4.length ∧ L4.length ≤ L4.length), true)
noncomputable def Ziq (L0 : List Int) (a1 : Int) (L2 : List RA) (L3 : List Int) (L4 : List R_is) (L5 : List (List Int)) (L6 : List R_si) (v6 : Nat) (v8 : Int) : OB := (dP ((0 + (v6 * 4)) + ([vi (ai L2 v6).a0, vi (Z2 L6 (aj L4 0).a1), vi (ai L2 v6).a2, vi (ai L2 v6).a3] : List Value).length ≤ ((Zg E_iiii L2) : List Value).length ∧ Zd6 (Zg E_iiii L2) (0 + (v6 * 4)) [vi (ai L2 v6).a0, vi (Z2 L6 (aj L4 0).a1), vi (ai L2 v6).a2, vi (ai L2 v6).a3] = (Zg E_iiii (L2.set v6 (aiA L2 v6 L6 L4 0)))), true) :: (Nat.blt v6 L2.length, true) :: (κbX v6) :: (κdp L4) :: (dS L4.length, true) :: κbq :: (((ai L2 v6).a0 == (8 : Int)), true) :: Zef L0 a1 L2 L3 L4 L5 L6 v6 v8

noncomputable def ZfU (L0 : List Int) (a1 : Int) (L2 : List RA) (L3 : List Int) (L4 : List R_is) (L5 : List (List Int)) (L6 : List R_si) (v6 : Nat) (v8 y6_0 : Int) : OB := (dP (Zaz #[Value.agg #[vi (ai L2 v6).a0, vi (Z2 L6 (aj L4 0).a1), vi (ai L2 v6).a2, vi (ai L2 v6).a3]] ((ai L2 v6).a0) ((Z2 L6 (aj L4 0).a1)) ((ai L2 v6).a2) ((ai L2 v6).a3)  y6_0  9), true) :: Ziq L0 a1 L2 L3 L4 L5 L6 v6 v8

noncomputable def Zir (L0 : List Int) (a1 : Int) (L2 : List RA) (L3 : List Int) (L4 : List R_is) (L5 : List (List Int)) (L6 : List R_si) (v6 : Nat) (v8 : Int) : OB := (dP ((0 + (v6 * 4)) + ([vi (ai L2 v6).a0, vi (ai L2 v6).a1, vi (Z2 L6 (aj L4 0).a1), vi (ai L2 v6).a3] : List Value).length ≤ ((Zg E_iiii L2) : List Value).length ∧ Zd6 (Zg E_iiii L2) (0 + (v6 * 4)) [vi (ai L2 v6).a0, vi (ai L2 v6).a1, vi (Z2 L6 (aj L4 0).a1), vi (ai L2 v6).a3] = (Zg E_iiii (L2.set v6 (aiB L2 v6 L6 L4 0)))), true) :: (Nat.blt v6 L2.length, true) :: (κbX v6) :: (κdp L4) :: (dS L4.length, true) :: κbq :: (((ai L2 v6).a0 == (9 : Int)), true) :: (((ai L2 v6).a0 == (8 : Int)), false) :: Zef L0 a1 L2 L3 L4 L5 L6 v6 v8

noncomputable def ZfV (L0 : List Int) (a1 : Int) (L2 : List RA) (L3 : List Int) (L4 : List R_is) (L5 : List (List Int)) (L6 : List R_si) (v6 : Nat) (v8 y7_0 : Int) : OB := (dP (Zaz #[Value.agg #[vi (ai L2 v6).a0, vi (ai L2 v6).a1, vi (Z2 L6 (aj L4 0).a1), vi (ai L2 v6).a3]] ((ai L2 v6).a0) ((ai L2 v6).a1) ((Z2 L6 (aj L4 0).a1)) ((ai L2 v6).a3)  y7_0  9), true) :: Zir L0 a1 L2 L3 L4 L5 L6 v6 v8

noncomputable def Zis (L0 : List Int) (a1 : Int) (L2 : List RA) (L3 : List Int) (L4 : List R_is) (L5 : List (List Int)) (L6 : List R_si) (v6 : Nat) (v8 : Int) : OB := (dP ((0 + (v6 * 4)) + ([vi (ai L2 v6).a0, vi (ai L2 v6).a1, vi (ai L2 v6).a2, vi (ai L2 v6).a3] : List Value).length ≤ ((Zg E_iiii L2) : List Value).length ∧ Zd6 (Zg E_iiii L2) (0 + (v6 * 4)) [vi (ai L2 v6).a0, vi (ai L2 v6).a1, vi (ai L2 v6).a2, vi (ai L2 v6).a3] = (Zg E_iiii (L2.set v6 (aiC L2 v6)))), true) :: (Nat.blt v6 L2.length, true) :: (κbX v6) :: (κdp L4) :: (dS L4.length, true) :: κbq :: (((ai L2 v6).a0 == (9 : Int)), false) :: (((ai L2 v6).a0 == (8 : Int)), false) :: Zef L0 a1 L2 L3 L4 L5 L6 v6 v8

noncomputable def Zfx (L0 : List Int) (a1 : Int) (L2 : List RA) (L3 : List Int) (L4 : List R_is) (L5 : List (List Int)) (L6 : List R_si) (v6 : Nat) (v8 y7_0 : Int) : OB := (dP (Zaz #[Value.agg #[vi (ai L2 v6).a0, vi (ai L2 v6).a1, vi (ai L2 v6).a2, vi (ai L2 v6).a3]] ((ai L2 v6).a0) ((ai L2 v6).a1) ((ai L2 v6).a2) ((ai L2 v6).a3)  y7_0  9), true) :: Zis L0 a1 L2 L3 L4 L5 L6 v6 v8

noncomputable def Zfy (L0 : List Int) (a1 : Int) (L2 : List RA) (L3 : List Int) (L4 : List R_is) (L5 : List (List Int)) (L6 : List R_si) (v6 : Nat) (v8 y4_0 : Int) : OB := (dP (Zaz #[Value.agg #[vi (ai L2 v6).a0, vi (ai L2 v6).a1, vi (ai L2 v6).a2, vi (ai L2 v6).a3]] ((ai L2 v6).a0) ((ai L2 v6).a1) ((ai L2 v6).a2) ((ai L2 v6).a3)  y4_0  7), true) :: (((aj L4 0).a0 == (v6 : Int)), false) :: ZfS L0 a1 L2 L3 L4 L5 L6 v6 v8

noncomputable def Zfz (L0 : List Int) (a1 : Int) (L2 : List RA) (L3 : List Int) (L4 : List R_is) (L5 : List (List Int)) (L6 : List R_si) (v6 : Nat) (v8 y3_0 : Int) : OB := (dP (Zaz #[Value.agg #[vi (ai L2 v6).a0, vi (ai L2 v6).a1, vi (ai L2 v6).a2, vi (ai L2 v6).a3]] ((ai L2 v6).a0) ((ai L2 v6).a1) ((ai L2 v6).a2) ((ai L2 v6).a3)  y3_0  7), true) :: ((decide ((L4.length : Int) > (0 : Int))), false) :: ZfR L0 a1 L2 L3 L4 L5 L6 v6 v8

noncomputable abbrev κdC := [(0, true), (1, true), (2, true), (4, true), (5, true)]
noncomputable abbrev κdB := [(0, true), (1, true), (2, true), (4, true), (5, false)]
noncomputable abbrev κdz := [(0, true), (1, true), (2, true), (4, false), (5, true), (6, true)]
noncomputable abbrev κdy := [(0, true), (1, true), (2, true), (4, false), (5, false), (6, true)]
noncomputable abbrev κdx := [(0, true), (1, true), (2, true), (4, false), (5, true), (6, false)]
noncomputable abbrev κdw := [(0, true), (1, true), (2, true), (4, false), (5, false), (6, false)]
noncomputable abbrev κbN (L3 : List Int) (v6 : Nat) := (Value.agg #[vi (L3.getD v6 0)])
noncomputable abbrev κbf (L2 : List RA) (v6 : Nat) := [some (vp 0 0), some (vs 1 0 L2.length L2.length), some (vi (L2.length : Int)), some (vi (((v6 + 1) : Nat) : Int))]
noncomputable abbrev κI (v6 : Nat) := ((IntKind.i64.wrap ((v6 : Int) + (1 : Int))) == (((v6 + 1) : Nat) : Int), true)
noncomputable abbrev κv (L0 : List Int) (L3 : List Int) (v6 : Nat) (L2 : List RA) (L4 : List R_is) (L5 : List (List Int)) := [Value.string (Zb L0), vi (L3.getD v6 0), vs 1 0 L2.length L2.length, vs 2 0 L3.length L3.length, Value.slice (some ⟨3, (0 + (1 * 2)), none⟩) (L4.length - 1) (L4.length - 1), vs 4 0 L5.length L5.length, Value.map (some 5)]
set_option maxHeartbeats 4000000 in
theorem Zla (L0 : List Int) (a1 : Int) (L2 : List RA) (L3 : List Int) (L4 : List R_is) (L5 : List (List Int)) (L6 : List R_si) (v6 : Nat) (v8 : Int) (N : Nat) : (ZK L0 a1 L2 L3 L4 L5 L6 N).Ok Tryd.prog ZG (.h1m0 v6 v8 : asm_reader_aimX) (ZaU L0 a1 L2 L3 L4 L5 L6 N (.h1m0 v6 v8 : asm_reader_aimX)) := by
 show (ZK L0 a1 L2 L3 L4 L5 L6 N).Ok Tryd.prog ZG (.h1m0 v6 v8 : asm_reader_aimX) (Zbg L0 a1 L2 L3 L4 L5 L6 N v6 v8)
 unfold Zbg
 refine Mach.ok_ite (fun g0 => ?_) (fun g0 => ?_)
 ·
  have w1 : OkL (Zip L0 a1 L2 L3 L4 L5 L6 v6 v8) :=
   Za (Zb1 (E := E_iiii) (L := L2) (i := v6) (q := 0) (by omega) (show (0 + (v6 * 4)) = v6 * 4 + 0 from by omega) (show 0 + 4 ≤ 4 from by decide) rfl rfl) <| oB <| oI <| oY <| Z6
  refine Mach.ok_ite (fun g1 => ?_) (fun _ => Mach.ok_none)
  have w2 : OkL (ZfR L0 a1 L2 L3 L4 L5 L6 v6 v8) :=
   Za (Zb1 (E := eI) (L := L3) (i := v6) (q := 0) (by omega) (show (0 + (v6 * 1)) = v6 * 1 + 0 from by omega) (show 0 + 1 ≤ 1 from by decide) rfl rfl) <| oB <| oI <| w1
  refine Mach.ok_ite (fun g2 => ?_) (fun g2 => ?_)
  ·
   have w3 : OkL (ZfS L0 a1 L2 L3 L4 L5 L6 v6 v8) :=
    Za (Zb1 (E := ZM) (L := L4) (i := 0) (q := 0) (by omega) (show ((0 + (0 * 2)) + 0) = 0 * 2 + 0 from by omega) (show 0 + 1 ≤ 2 from by decide) rfl rfl) <| oB <| oI <| oY <| w2
   refine Mach.ok_ite (fun g3 => ?_) (fun g3 => ?_)
   ·
    have w4 : OkL (ZfT L0 a1 L2 L3 L4 L5 L6 v6 v8) :=
     Za (Zb1 (E := ZM) (L := L4) (i := 0) (q := 1) (by omega) (show ((0 + (0 * 2)) + 1) = 0 * 2 + 1 from by omega) (show 1 + 1 ≤ 2 from by decide) rfl rfl) <| oB <| oI <| oT <| w3
    refine Mach.ok_ite (fun g4 => ?_) (fun g4 => ?_)
    ·
     have w5 : OkL (Zef L0 a1 L2 L3 L4 L5 L6 v6 v8) :=
      Za (Zj (Zpe rfl (by assumption))) <| w4
     refine Mach.ok_ite (fun g5 => ?_) (fun g5 => ?_)
     ·
      have w6 : OkL (Ziq L0 a1 L2 L3 L4 L5 L6 v6 v8) :=
       Za (Zj (Zfp (E := E_iiii) (L := L2) (i := v6) (q := 0) (l := [vi (ai L2 v6).a0, vi (Z2 L6 (aj L4 0).a1), vi (ai L2 v6).a2, vi (ai L2 v6).a3]) (aiA L2 v6 L6 L4 0) (by omega) (show (0 + (v6 * 4)) = v6 * 4 + 0 from by omega) (show 0 + 4 ≤ 4 from by decide) rfl)) <| oB <| oI <| Za (Zj ⟨ltA, ltA⟩) <| oR <| oI <| oT <| w5
      refine Mach.ok_bind (fun z6 c6 => ?_)
      cases z6 with
      | r0 y6_0 =>
       have w7 : OkL (ZfU L0 a1 L2 L3 L4 L5 L6 v6 v8 y6_0) :=
        Za (Zj (Za7 #[Value.agg #[vi (ai L2 v6).a0, vi (Z2 L6 (aj L4 0).a1), vi (ai L2 v6).a2, vi (ai L2 v6).a3]] ((ai L2 v6).a0) ((Z2 L6 (aj L4 0).a1)) ((ai L2 v6).a2) ((ai L2 v6).a3)  y6_0 N c6  9 rfl dcd dcd)) <| w6
       refine Mach.ok_ite (fun g7 => ?_) (fun g7 => ?_)
       ·
        exact Mach.ok_thr (M := ZK L0 a1 L2 L3 L4 L5 L6 N) (cd := 1000000) (cm := 0) (r := (.r0 ((L3.getD v6 0)) : Zt)) (fu := 4000) (orc := (Zp κdC [] [(0, v6), (1, v6), (2, 0), (3, 0), (4, v6)] [(0, (aic L2 v6)), (2, [.i (L3.getD v6 0)]), (5, [.i (aj L4 0).a0]), (8, [.s (Zb (aj L4 0).a1)])] [(2, .lk (κcl L6 L4 a1)), (6, .sl 1 L4.length), (7, .st (Zg E_iiii (L2.set v6 (aiA L2 v6 L6 L4 0)))), (9, (Z5 ((ai L2 v6).a0) ((Z2 L6 (aj L4 0).a1)) ((ai L2 v6).a2) ((ai L2 v6).a3)  y6_0  9))])) (u := Value.iface 88 (κbN L3 v6)) (ob := (((y6_0 != (0 : Int)), true) :: ZfU L0 a1 L2 L3 L4 L5 L6 v6 v8 y6_0)) (fun gv => by as_aux_lemma => kernel_rfl) (oD <| w7) rfl (by rfl) (by rfl)
       ·
        refine Mach.ok_ite (fun g8 => ?_) (fun _ => Mach.ok_none)
        exact Mach.oN (orc := (Zp κdB [(0, (((v6 + 1) : Nat) : Int))] [(0, v6), (1, v6), (2, 0), (3, 0), (4, v6)] [(0, (aic L2 v6)), (2, [.i (L3.getD v6 0)]), (5, [.i (aj L4 0).a0]), (8, [.s (Zb (aj L4 0).a1)])] [(2, .lk (κcl L6 L4 a1)), (6, .sl 1 L4.length), (7, .st (Zg E_iiii (L2.set v6 (aiA L2 v6 L6 L4 0)))), (9, (Z5 ((ai L2 v6).a0) ((Z2 L6 (aj L4 0).a1)) ((ai L2 v6).a2) ((ai L2 v6).a3)  y6_0  9))])) (live := [0, 1, 2, 3, 4, 5]) (tv := fun _ => (κbf L2 v6)) (bl := [some (.cells (κv L0 L3 v6 L2 L4 L5) 57), some (.cells (Zg E_iiii (L2.set v6 (aiA L2 v6 L6 L4 0))) 24 true), some (κbd L3), some (κX L4), some (κ5 L5), some (.ro (Zm L6) true)]) (ob := ((κI v6) :: ((y6_0 != (0 : Int)), false) :: ZfU L0 a1 L2 L3 L4 L5 L6 v6 v8 y6_0)) (Za (beq_iff_eq.2 ((wrap_i64 ltA).trans (by first | rfl | omega))) <| oE <| w7) (fun _ => ⟨rr, ⟨⟨Eq.trans (show (vs 1 0 (L2.set v6 (aiA L2 v6 L6 L4 0)).length (L2.set v6 (aiA L2 v6 L6 L4 0)).length : Value) = vs 1 0 L2.length L2.length from (ZC rfl eqA eqA)) (by rfl), by rfl⟩, ⟨rr, ⟨rr, trivial⟩⟩⟩⟩) ⟨⟨rfl, ⟨[], (show ((κv L0 L3 v6 L2 L4 L5) : List Value) = _ from (Zh rfl (Zh rfl (Zh (ZC rfl eqA eqA) (Zh rfl (Zh (ZC eqA rfl rfl) (Zh rfl (Zh rfl rfl))))))).symm)⟩, by rfl⟩, ⟨(Zl (E := E_iiii) _ (L2.set v6 (aiA L2 v6 L6 L4 0)) _), ⟨(Zl (E := eI) _ L3 _), ⟨(Zl (E := ZM) _ L4 _), ⟨(Zl (E := Zag) _ L5 _), ⟨(show Zm L6 = Zm L6 from rfl), trivial⟩⟩⟩⟩⟩⟩
     ·
      refine Mach.ok_ite (fun g6 => ?_) (fun g6 => ?_)
      ·
       have w7 : OkL (Zir L0 a1 L2 L3 L4 L5 L6 v6 v8) :=
        Za (Zj (Zfp (E := E_iiii) (L := L2) (i := v6) (q := 0) (l := [vi (ai L2 v6).a0, vi (ai L2 v6).a1, vi (Z2 L6 (aj L4 0).a1), vi (ai L2 v6).a3]) (aiB L2 v6 L6 L4 0) (by omega) (show (0 + (v6 * 4)) = v6 * 4 + 0 from by omega) (show 0 + 4 ≤ 4 from by decide) rfl)) <| oB <| oI <| Za (Zj ⟨ltA, ltA⟩) <| oR <| oI <| oT <| oF <| w5
       refine Mach.ok_bind (fun z7 c7 => ?_)
       cases z7 with
       | r0 y7_0 =>
        have w8 : OkL (ZfV L0 a1 L2 L3 L4 L5 L6 v6 v8 y7_0) :=
         Za (Zj (Za7 #[Value.agg #[vi (ai L2 v6).a0, vi (ai L2 v6).a1, vi (Z2 L6 (aj L4 0).a1), vi (ai L2 v6).a3]] ((ai L2 v6).a0) ((ai L2 v6).a1) ((Z2 L6 (aj L4 0).a1)) ((ai L2 v6).a3)  y7_0 N c7  9 rfl dcd dcd)) <| w7
        refine Mach.ok_ite (fun g8 => ?_) (fun g8 => ?_)
        ·
         exact Mach.ok_thr (M := ZK L0 a1 L2 L3 L4 L5 L6 N) (cd := 1000000) (cm := 0) (r := (.r0 ((L3.getD v6 0)) : Zt)) (fu := 4000) (orc := (Zp κdz [] [(0, v6), (1, v6), (2, 0), (3, 0), (4, v6)] [(0, (aic L2 v6)), (2, [.i (L3.getD v6 0)]), (5, [.i (aj L4 0).a0]), (8, [.s (Zb (aj L4 0).a1)])] [(2, .lk (κcl L6 L4 a1)), (6, .sl 1 L4.length), (7, .st (Zg E_iiii (L2.set v6 (aiB L2 v6 L6 L4 0)))), (9, (Z5 ((ai L2 v6).a0) ((ai L2 v6).a1) ((Z2 L6 (aj L4 0).a1)) ((ai L2 v6).a3)  y7_0  9))])) (u := Value.iface 88 (κbN L3 v6)) (ob := (((y7_0 != (0 : Int)), true) :: ZfV L0 a1 L2 L3 L4 L5 L6 v6 v8 y7_0)) (fun gv => by as_aux_lemma => kernel_rfl) (oD <| w8) rfl (by rfl) (by rfl)
        ·
         refine Mach.ok_ite (fun g9 => ?_) (fun _ => Mach.ok_none)
         exact Mach.oN (orc := (Zp κdx [(0, (((v6 + 1) : Nat) : Int))] [(0, v6), (1, v6), (2, 0), (3, 0), (4, v6)] [(0, (aic L2 v6)), (2, [.i (L3.getD v6 0)]), (5, [.i (aj L4 0).a0]), (8, [.s (Zb (aj L4 0).a1)])] [(2, .lk (κcl L6 L4 a1)), (6, .sl 1 L4.length), (7, .st (Zg E_iiii (L2.set v6 (aiB L2 v6 L6 L4 0)))), (9, (Z5 ((ai L2 v6).a0) ((ai L2 v6).a1) ((Z2 L6 (aj L4 0).a1)) ((ai L2 v6).a3)  y7_0  9))])) (live := [0, 1, 2, 3, 4, 5]) (tv := fun _ => (κbf L2 v6)) (bl := [some (.cells (κv L0 L3 v6 L2 L4 L5) 57), some (.cells (Zg E_iiii (L2.set v6 (aiB L2 v6 L6 L4 0))) 24 true), some (κbd L3), some (κX L4), some (κ5 L5), some (.ro (Zm L6) true)]) (ob := ((κI v6) :: ((y7_0 != (0 : Int)), false) :: ZfV L0 a1 L2 L3 L4 L5 L6 v6 v8 y7_0)) (Za (beq_iff_eq.2 ((wrap_i64 ltA).trans (by first | rfl | omega))) <| oE <| w8) (fun _ => ⟨rr, ⟨⟨Eq.trans (show (vs 1 0 (L2.set v6 (aiB L2 v6 L6 L4 0)).length (L2.set v6 (aiB L2 v6 L6 L4 0)).length : Value) = vs 1 0 L2.length L2.length from (ZC rfl eqA eqA)) (by rfl), by rfl⟩, ⟨rr, ⟨rr, trivial⟩⟩⟩⟩) ⟨⟨rfl, ⟨[], (show ((κv L0 L3 v6 L2 L4 L5) : List Value) = _ from (Zh rfl (Zh rfl (Zh (ZC rfl eqA eqA) (Zh rfl (Zh (ZC eqA rfl rfl) (Zh rfl (Zh rfl rfl))))))).symm)⟩, by rfl⟩, ⟨(Zl (E := E_iiii) _ (L2.set v6 (aiB L2 v6 L6 L4 0)) _), ⟨(Zl (E := eI) _ L3 _), ⟨(Zl (E := ZM) _ L4 _), ⟨(Zl (E := Zag) _ L5 _), ⟨(show Zm L6 = Zm L6 from rfl), trivial⟩⟩⟩⟩⟩⟩
      ·
       have w7 : OkL (Zis L0 a1 L2 L3 L4 L5 L6 v6 v8) :=
        Za (Zj (Zfp (E := E_iiii) (L := L2) (i := v6) (q := 0) (l := [vi (ai L2 v6).a0, vi (ai L2 v6).a1, vi (ai L2 v6).a2, vi (ai L2 v6).a3]) (aiC L2 v6) (by omega) (show (0 + (v6 * 4)) = v6 * 4 + 0 from by omega) (show 0 + 4 ≤ 4 from by decide) rfl)) <| oB <| oI <| Za (Zj ⟨ltA, ltA⟩) <| oR <| oI <| oF <| oF <| w5
       refine Mach.ok_bind (fun z7 c7 => ?_)
       cases z7 with
       | r0 y7_0 =>
        have w8 : OkL (Zfx L0 a1 L2 L3 L4 L5 L6 v6 v8 y7_0) :=
         Za (Zj (Za7 #[Value.agg #[vi (ai L2 v6).a0, vi (ai L2 v6).a1, vi (ai L2 v6).a2, vi (ai L2 v6).a3]] ((ai L2 v6).a0) ((ai L2 v6).a1) ((ai L2 v6).a2) ((ai L2 v6).a3)  y7_0 N c7  9 rfl dcd dcd)) <| w7
        refine Mach.ok_ite (fun g8 => ?_) (fun g8 => ?_)
        ·
         exact Mach.ok_thr (M := ZK L0 a1 L2 L3 L4 L5 L6 N) (cd := 1000000) (cm := 0) (r := (.r0 ((L3.getD v6 0)) : Zt)) (fu := 4000) (orc := (Zp κdy [] [(0, v6), (1, v6), (2, 0), (3, 0), (4, v6)] [(0, (aic L2 v6)), (2, [.i (L3.getD v6 0)]), (5, [.i (aj L4 0).a0]), (8, [.s (Zb (aj L4 0).a1)])] [(2, .lk (κcl L6 L4 a1)), (5, .sl 1 L4.length), (6, .st (Zg E_iiii (L2.set v6 (aiC L2 v6)))), (8, (Z5 ((ai L2 v6).a0) ((ai L2 v6).a1) ((ai L2 v6).a2) ((ai L2 v6).a3)  y7_0  9))])) (u := Value.iface 88 (κbN L3 v6)) (ob := (((y7_0 != (0 : Int)), true) :: Zfx L0 a1 L2 L3 L4 L5 L6 v6 v8 y7_0)) (fun gv => by as_aux_lemma => kernel_rfl) (oD <| w8) rfl (by rfl) (by rfl)
        ·
         refine Mach.ok_ite (fun g9 => ?_) (fun _ => Mach.ok_none)
         exact Mach.oN (orc := (Zp κdw [(0, (((v6 + 1) : Nat) : Int))] [(0, v6), (1, v6), (2, 0), (3, 0), (4, v6)] [(0, (aic L2 v6)), (2, [.i (L3.getD v6 0)]), (5, [.i (aj L4 0).a0]), (8, [.s (Zb (aj L4 0).a1)])] [(2, .lk (κcl L6 L4 a1)), (5, .sl 1 L4.length), (6, .st (Zg E_iiii (L2.set v6 (aiC L2 v6)))), (8, (Z5 ((ai L2 v6).a0) ((ai L2 v6).a1) ((ai L2 v6).a2) ((ai L2 v6).a3)  y7_0  9))])) (live := [0, 1, 2, 3, 4, 5]) (tv := fun _ => (κbf L2 v6)) (bl := [some (.cells (κv L0 L3 v6 L2 L4 L5) 57), some (.cells (Zg E_iiii (L2.set v6 (aiC L2 v6))) 24 true), some (κbd L3), some (κX L4), some (κ5 L5), some (.ro (Zm L6) true)]) (ob := ((κI v6) :: ((y7_0 != (0 : Int)), false) :: Zfx L0 a1 L2 L3 L4 L5 L6 v6 v8 y7_0)) (Za (beq_iff_eq.2 ((wrap_i64 ltA).trans (by first | rfl | omega))) <| oE <| w8) (fun _ => ⟨rr, ⟨⟨Eq.trans (show (vs 1 0 (L2.set v6 (aiC L2 v6)).length (L2.set v6 (aiC L2 v6)).length : Value) = vs 1 0 L2.length L2.length from (ZC rfl eqA eqA)) (by rfl), by rfl⟩, ⟨rr, ⟨rr, trivial⟩⟩⟩⟩) ⟨⟨rfl, ⟨[], (show ((κv L0 L3 v6 L2 L4 L5) : List Value) = _ from (Zh rfl (Zh rfl (Zh (ZC rfl eqA eqA) (Zh rfl (Zh (ZC eqA rfl rfl) (Zh rfl (Zh rfl rfl))))))).symm)⟩, by rfl⟩, ⟨(Zl (E := E_iiii) _ (L2.set v6 (aiC L2 v6)) _), ⟨(Zl (E := eI) _ L3 _), ⟨(Zl (E := ZM) _ L4 _), ⟨(Zl (E := Zag) _ L5 _), ⟨(show Zm L6 = Zm L6 from rfl), trivial⟩⟩⟩⟩⟩⟩
    ·
     exact Mach.ok_thr (M := ZK L0 a1 L2 L3 L4 L5 L6 N) (cd := 1000000) (cm := 0) (r := (.r0 ((L3.getD v6 0)) : Zt)) (fu := 4000) (orc := (Zs [o1, o1, o1] [] [(0, v6), (1, v6), (2, 0), (3, 0)] [(0, (aic L2 v6)), (2, [.i (L3.getD v6 0)]), (5, [.i (aj L4 0).a0]), (8, [.s (Zb (aj L4 0).a1)])] [(2, .lk (none))])) (u := Value.iface 88 (κbN L3 v6)) (ob := ((dP ((Zby Tryd.prog 9 (Value.string (Zb (aj L4 0).a1)) (Zbb L6)).map (Option.map Prod.snd) = some (none)), true) :: ZfT L0 a1 L2 L3 L4 L5 L6 v6 v8)) (fun gv => by as_aux_lemma => kernel_rfl) (Za (Zj (Zm5 rfl (by assumption))) <| w4) rfl (by rfl) (by rfl)
   ·
    refine Mach.ok_bind (fun z4 c4 => ?_)
    cases z4 with
    | r0 y4_0 =>
     have w5 : OkL (Zfy L0 a1 L2 L3 L4 L5 L6 v6 v8 y4_0) :=
      Za (Zj (Za7 #[Value.agg #[vi (ai L2 v6).a0, vi (ai L2 v6).a1, vi (ai L2 v6).a2, vi (ai L2 v6).a3]] ((ai L2 v6).a0) ((ai L2 v6).a1) ((ai L2 v6).a2) ((ai L2 v6).a3)  y4_0 N c4  7 rfl dcd dcd)) <| oF <| w3
     refine Mach.ok_ite (fun g5 => ?_) (fun g5 => ?_)
     ·
      exact Mach.ok_thr (M := ZK L0 a1 L2 L3 L4 L5 L6 N) (cd := 1000000) (cm := 0) (r := (.r0 ((L3.getD v6 0)) : Zt)) (fu := 4000) (orc := (Zs [o1, o1, o0, o1] [] [(0, v6), (1, v6), (2, 0)] [(0, (aic L2 v6)), (2, [.i (L3.getD v6 0)]), (5, [.i (aj L4 0).a0])] [(2, (Z5 ((ai L2 v6).a0) ((ai L2 v6).a1) ((ai L2 v6).a2) ((ai L2 v6).a3)  y4_0  7))])) (u := Value.iface 88 (κbN L3 v6)) (ob := (((y4_0 != (0 : Int)), true) :: Zfy L0 a1 L2 L3 L4 L5 L6 v6 v8 y4_0)) (fun gv => by as_aux_lemma => kernel_rfl) (oD <| w5) rfl (by rfl) (by rfl)
     ·
      refine Mach.ok_ite (fun g6 => ?_) (fun _ => Mach.ok_none)
      exact Mach.oN (orc := (Zs [o1, o1, o0, o0] [(0, (((v6 + 1) : Nat) : Int))] [(0, v6), (1, v6), (2, 0)] [(0, (aic L2 v6)), (2, [.i (L3.getD v6 0)]), (5, [.i (aj L4 0).a0])] [(2, (Z5 ((ai L2 v6).a0) ((ai L2 v6).a1) ((ai L2 v6).a2) ((ai L2 v6).a3)  y4_0  7))])) (live := [0, 1, 2, 3, 4, 5]) (tv := fun _ => (κbf L2 v6)) (bl := [some (.cells [Value.string (Zb L0), vi (L3.getD v6 0), vs 1 0 L2.length L2.length, vs 2 0 L3.length L3.length, vs 3 0 L4.length L4.length, vs 4 0 L5.length L5.length, Value.map (some 5)] 57), some (κcr L2), some (κbd L3), some (κX L4), some (κ5 L5), some (.ro (Zm L6) true)]) (ob := ((κI v6) :: ((y4_0 != (0 : Int)), false) :: Zfy L0 a1 L2 L3 L4 L5 L6 v6 v8 y4_0)) (Za (beq_iff_eq.2 ((wrap_i64 ltA).trans (by first | rfl | omega))) <| oE <| w5) (fun _ => ⟨rr, ⟨rr, ⟨rr, ⟨rr, trivial⟩⟩⟩⟩) ⟨sm, ⟨(Zl (E := E_iiii) _ L2 _), ⟨(Zl (E := eI) _ L3 _), ⟨(Zl (E := ZM) _ L4 _), ⟨(Zl (E := Zag) _ L5 _), ⟨(show Zm L6 = Zm L6 from rfl), trivial⟩⟩⟩⟩⟩⟩
  ·
   refine Mach.ok_bind (fun z3 c3 => ?_)
   cases z3 with
   | r0 y3_0 =>
    have w4 : OkL (Zfz L0 a1 L2 L3 L4 L5 L6 v6 v8 y3_0) :=
     Za (Zj (Za7 #[Value.agg #[vi (ai L2 v6).a0, vi (ai L2 v6).a1, vi (ai L2 v6).a2, vi (ai L2 v6).a3]] ((ai L2 v6).a0) ((ai L2 v6).a1) ((ai L2 v6).a2) ((ai L2 v6).a3)  y3_0 N c3  7 rfl dcd dcd)) <| oN <| w2
    refine Mach.ok_ite (fun g4 => ?_) (fun g4 => ?_)
    ·
     exact Mach.ok_thr (M := ZK L0 a1 L2 L3 L4 L5 L6 N) (cd := 1000000) (cm := 0) (r := (.r0 ((L3.getD v6 0)) : Zt)) (fu := 4000) (orc := (Zs [o1, o0, o1] [] [(0, v6), (1, v6)] [(0, (aic L2 v6)), (2, [.i (L3.getD v6 0)])] [(2, (Z5 ((ai L2 v6).a0) ((ai L2 v6).a1) ((ai L2 v6).a2) ((ai L2 v6).a3)  y3_0  7))])) (u := Value.iface 88 (κbN L3 v6)) (ob := (((y3_0 != (0 : Int)), true) :: Zfz L0 a1 L2 L3 L4 L5 L6 v6 v8 y3_0)) (fun gv => by as_aux_lemma => kernel_rfl) (oD <| w4) rfl (by rfl) (by rfl)
    ·
     refine Mach.ok_ite (fun g5 => ?_) (fun _ => Mach.ok_none)
     exact Mach.oN (orc := (Zs [o1, o0, o0] [(0, (((v6 + 1) : Nat) : Int))] [(0, v6), (1, v6)] [(0, (aic L2 v6)), (2, [.i (L3.getD v6 0)])] [(2, (Z5 ((ai L2 v6).a0) ((ai L2 v6).a1) ((ai L2 v6).a2) ((ai L2 v6).a3)  y3_0  7))])) (live := [0, 1, 2, 3, 4, 5]) (tv := fun _ => (κbf L2 v6)) (bl := [some (.cells [Value.string (Zb L0), vi (L3.getD v6 0), vs 1 0 L2.length L2.length, vs 2 0 L3.length L3.length, vs 3 0 L4.length L4.length, vs 4 0 L5.length L5.length, Value.map (some 5)] 57), some (κcr L2), some (κbd L3), some (κX L4), some (κ5 L5), some (.ro (Zm L6) true)]) (ob := ((κI v6) :: ((y3_0 != (0 : Int)), false) :: Zfz L0 a1 L2 L3 L4 L5 L6 v6 v8 y3_0)) (Za (beq_iff_eq.2 ((wrap_i64 ltA).trans (by first | rfl | omega))) <| oE <| w4) (fun _ => ⟨rr, ⟨rr, ⟨rr, ⟨rr, trivial⟩⟩⟩⟩) ⟨sm, ⟨(Zl (E := E_iiii) _ L2 _), ⟨(Zl (E := eI) _ L3 _), ⟨(Zl (E := ZM) _ L4 _), ⟨(Zl (E := Zag) _ L5 _), ⟨(show Zm L6 = Zm L6 from rfl), trivial⟩⟩⟩⟩⟩⟩
 ·
  exact Mach.oF (orc := (Zs [o0] [] [] [] [])) (live := [0, 1, 2, 3, 4, 5]) (u := vtt) (bl := [some (.cells [Value.string (Zb L0), vi v8, vs 1 0 L2.length L2.length, vs 2 0 L3.length L3.length, vs 3 0 L4.length L4.length, vs 4 0 L5.length L5.length, Value.map (some 5)] 57), some (κcr L2), some (κbd L3), some (κX L4), some (κ5 L5), some (.ro (Zm L6) true)]) (ob := (((decide ((v6 : Int) < (L2.length : Int))), false) :: [])) (oN <| Z6) rr ⟨sm, ⟨(Zl (E := E_iiii) _ L2 _), ⟨(Zl (E := eI) _ L3 _), ⟨(Zl (E := ZM) _ L4 _), ⟨(Zl (E := Zag) _ L5 _), ⟨(show Zm L6 = Zm L6 from rfl), trivial⟩⟩⟩⟩⟩⟩

noncomputable def ZhU (L0 : List Int) (a1 : Int) (L2 : List RA) (L3 : List Int) (L4 : List R_is) (L5 : List (List Int)) (L6 : List R_si) (v0 : List RA) (v6 : Nat) (v8 : Int) (v9 v10 : Nat) : OB := ((decide ((v6 : Int) < (L2.length : Int))), true) :: []

noncomputable def ZhV (L0 : List Int) (a1 : Int) (L2 : List RA) (L3 : List Int) (L4 : List R_is) (L5 : List (List Int)) (L6 : List R_si) (v0 : List RA) (v6 : Nat) (v8 : Int) (v9 v10 : Nat) : OB := (ZbK (Z8 4 (List.drop (0 + (v6 * 4)) (Zg E_iiii v0))) (aic v0 v6), true) :: (Nat.blt v6 v0.length, true) :: (κbX v6) :: ZhU L0 a1 L2 L3 L4 L5 L6 v0 v6 v8 v9 v10

noncomputable def Zf0 (L0 : List Int) (a1 : Int) (L2 : List RA) (L3 : List Int) (L4 : List R_is) (L5 : List (List Int)) (L6 : List R_si) (v0 : List RA) (v6 : Nat) (v8 : Int) (v9 v10 : Nat) : OB := (ZbK (Z8 1 (List.drop (0 + (v6 * 1)) (Zg eI L3))) [.i (L3.getD v6 0)], true) :: (Nat.blt v6 L3.length, true) :: (κbX v6) :: ZhV L0 a1 L2 L3 L4 L5 L6 v0 v6 v8 v9 v10

noncomputable def ZhW (L0 : List Int) (a1 : Int) (L2 : List RA) (L3 : List Int) (L4 : List R_is) (L5 : List (List Int)) (L6 : List R_si) (v0 : List RA) (v6 : Nat) (v8 : Int) (v9 v10 : Nat) : OB := (Nat.blt 0 v10, true) :: κc8 :: ((decide ((v10 : Int) > (0 : Int))), true) :: Zf0 L0 a1 L2 L3 L4 L5 L6 v0 v6 v8 v9 v10

noncomputable def Zf1 (L0 : List Int) (a1 : Int) (L2 : List RA) (L3 : List Int) (L4 : List R_is) (L5 : List (List Int)) (L6 : List R_si) (v0 : List RA) (v6 : Nat) (v8 : Int) (v9 v10 : Nat) : OB := (ZbK (Z8 1 (List.drop (((v9 * 2) + (0 * 2)) + 0) (Zg ZM L4))) [.i (aj L4 v9).a0], true) :: ZhW L0 a1 L2 L3 L4 L5 L6 v0 v6 v8 v9 v10

noncomputable def Zf2 (L0 : List Int) (a1 : Int) (L2 : List RA) (L3 : List Int) (L4 : List R_is) (L5 : List (List Int)) (L6 : List R_si) (v0 : List RA) (v6 : Nat) (v8 : Int) (v9 v10 : Nat) : OB := (ZbK (Z8 1 (List.drop (((v9 * 2) + (0 * 2)) + 1) (Zg ZM L4))) [.s (Zb (aj L4 v9).a1)], true) :: (Nat.blt 0 v10, true) :: κc8 :: (((aj L4 v9).a0 == (v6 : Int)), true) :: Zf1 L0 a1 L2 L3 L4 L5 L6 v0 v6 v8 v9 v10

noncomputable def ZdM (L0 : List Int) (a1 : Int) (L2 : List RA) (L3 : List Int) (L4 : List R_is) (L5 : List (List Int)) (L6 : List R_si) (v0 : List RA) (v6 : Nat) (v8 : Int) (v9 v10 : Nat) : OB := (dP ((Zby Tryd.prog 9 (Value.string (Zb (aj L4 v9).a1)) (Zbb L6)).map (Option.map Prod.snd) = some (some (vi (Z2 L6 (aj L4 v9).a1)))), true) :: Zf2 L0 a1 L2 L3 L4 L5 L6 v0 v6 v8 v9 v10

noncomputable def ZhX (L0 : List Int) (a1 : Int) (L2 : List RA) (L3 : List Int) (L4 : List R_is) (L5 : List (List Int)) (L6 : List R_si) (v0 : List RA) (v6 : Nat) (v8 : Int) (v9 v10 : Nat) : OB := (dP ((0 + (v6 * 4)) + ([vi (ai v0 v6).a0, vi (Z2 L6 (aj L4 v9).a1), vi (ai v0 v6).a2, vi (ai v0 v6).a3] : List Value).length ≤ ((Zg E_iiii v0) : List Value).length ∧ Zd6 (Zg E_iiii v0) (0 + (v6 * 4)) [vi (ai v0 v6).a0, vi (Z2 L6 (aj L4 v9).a1), vi (ai v0 v6).a2, vi (ai v0 v6).a3] = (Zg E_iiii (v0.set v6 (aiA v0 v6 L6 L4 v9)))), true) :: (Nat.blt v6 v0.length, true) :: (κbX v6) :: (dP (1 ≤ v10 ∧ v10 ≤ v10), true) :: (dS v10, true) :: κbq :: (((ai v0 v6).a0 == (8 : Int)), true) :: ZdM L0 a1 L2 L3 L4 L5 L6 v0 v6 v8 v9 v10

noncomputable def Zf3 (L0 : List Int) (a1 : Int) (L2 : List RA) (L3 : List Int) (L4 : List R_is) (L5 : List (List Int)) (L6 : List R_si) (v0 : List RA) (v6 : Nat) (v8 : Int) (v9 v10 : Nat) (y8_0 : Int) : OB := (dP (Zaz #[Value.agg #[vi (ai v0 v6).a0, vi (Z2 L6 (aj L4 v9).a1), vi (ai v0 v6).a2, vi (ai v0 v6).a3]] ((ai v0 v6).a0) ((Z2 L6 (aj L4 v9).a1)) ((ai v0 v6).a2) ((ai v0 v6).a3)  y8_0  9), true) :: ZhX L0 a1 L2 L3 L4 L5 L6 v0 v6 v8 v9 v10

noncomputable def ZhY (L0 : List Int) (a1 : Int) (L2 : List RA) (L3 : List Int) (L4 : List R_is) (L5 : List (List Int)) (L6 : List R_si) (v0 : List RA) (v6 : Nat) (v8 : Int) (v9 v10 : Nat) : OB := (dP ((0 + (v6 * 4)) + ([vi (ai v0 v6).a0, vi (ai v0 v6).a1, vi (Z2 L6 (aj L4 v9).a1), vi (ai v0 v6).a3] : List Value).length ≤ ((Zg E_iiii v0) : List Value).length ∧ Zd6 (Zg E_iiii v0) (0 + (v6 * 4)) [vi (ai v0 v6).a0, vi (ai v0 v6).a1, vi (Z2 L6 (aj L4 v9).a1), vi (ai v0 v6).a3] = (Zg E_iiii (v0.set v6 (aiB v0 v6 L6 L4 v9)))), true) :: (Nat.blt v6 v0.length, true) :: (κbX v6) :: (dP (1 ≤ v10 ∧ v10 ≤ v10), true) :: (dS v10, true) :: κbq :: (((ai v0 v6).a0 == (9 : Int)), true) :: (((ai v0 v6).a0 == (8 : Int)), false) :: ZdM L0 a1 L2 L3 L4 L5 L6 v0 v6 v8 v9 v10

noncomputable def Zf4 (L0 : List Int) (a1 : Int) (L2 : List RA) (L3 : List Int) (L4 : List R_is) (L5 : List (List Int)) (L6 : List R_si) (v0 : List RA) (v6 : Nat) (v8 : Int) (v9 v10 : Nat) (y9_0 : Int) : OB := (dP (Zaz #[Value.agg #[vi (ai v0 v6).a0, vi (ai v0 v6).a1, vi (Z2 L6 (aj L4 v9).a1), vi (ai v0 v6).a3]] ((ai v0 v6).a0) ((ai v0 v6).a1) ((Z2 L6 (aj L4 v9).a1)) ((ai v0 v6).a3)  y9_0  9), true) :: ZhY L0 a1 L2 L3 L4 L5 L6 v0 v6 v8 v9 v10

noncomputable def ZhZ (L0 : List Int) (a1 : Int) (L2 : List RA) (L3 : List Int) (L4 : List R_is) (L5 : List (List Int)) (L6 : List R_si) (v0 : List RA) (v6 : Nat) (v8 : Int) (v9 v10 : Nat) : OB := (dP ((0 + (v6 * 4)) + ([vi (ai v0 v6).a0, vi (ai v0 v6).a1, vi (ai v0 v6).a2, vi (ai v0 v6).a3] : List Value).length ≤ ((Zg E_iiii v0) : List Value).length ∧ Zd6 (Zg E_iiii v0) (0 + (v6 * 4)) [vi (ai v0 v6).a0, vi (ai v0 v6).a1, vi (ai v0 v6).a2, vi (ai v0 v6).a3] = (Zg E_iiii (v0.set v6 (aiC v0 v6)))), true) :: (Nat.blt v6 v0.length, true) :: (κbX v6) :: (dP (1 ≤ v10 ∧ v10 ≤ v10), true) :: (dS v10, true) :: κbq :: (((ai v0 v6).a0 == (9 : Int)), false) :: (((ai v0 v6).a0 == (8 : Int)), false) :: ZdM L0 a1 L2 L3 L4 L5 L6 v0 v6 v8 v9 v10

noncomputable def Zf5 (L0 : List Int) (a1 : Int) (L2 : List RA) (L3 : List Int) (L4 : List R_is) (L5 : List (List Int)) (L6 : List R_si) (v0 : List RA) (v6 : Nat) (v8 : Int) (v9 v10 : Nat) (y9_0 : Int) : OB := (dP (Zaz #[Value.agg #[vi (ai v0 v6).a0, vi (ai v0 v6).a1, vi (ai v0 v6).a2, vi (ai v0 v6).a3]] ((ai v0 v6).a0) ((ai v0 v6).a1) ((ai v0 v6).a2) ((ai v0 v6).a3)  y9_0  9), true) :: ZhZ L0 a1 L2 L3 L4 L5 L6 v0 v6 v8 v9 v10

noncomputable def Zf6 (L0 : List Int) (a1 : Int) (L2 : List RA) (L3 : List Int) (L4 : List R_is) (L5 : List (List Int)) (L6 : List R_si) (v0 : List RA) (v6 : Nat) (v8 : Int) (v9 v10 : Nat) (y6_0 : Int) : OB := (dP (Zaz #[Value.agg #[vi (ai v0 v6).a0, vi (ai v0 v6).a1, vi (ai v0 v6).a2, vi (ai v0 v6).a3]] ((ai v0 v6).a0) ((ai v0 v6).a1) ((ai v0 v6).a2) ((ai v0 v6).a3)  y6_0  7), true) :: (((aj L4 v9).a0 == (v6 : Int)), false) :: Zf1 L0 a1 L2 L3 L4 L5 L6 v0 v6 v8 v9 v10

noncomputable def Zf7 (L0 : List Int) (a1 : Int) (L2 : List RA) (L3 : List Int) (L4 : List R_is) (L5 : List (List Int)) (L6 : List R_si) (v0 : List RA) (v6 : Nat) (v8 : Int) (v9 v10 : Nat) (y4_0 : Int) : OB := (dP (Zaz #[Value.agg #[vi (ai v0 v6).a0, vi (ai v0 v6).a1, vi (ai v0 v6).a2, vi (ai v0 v6).a3]] ((ai v0 v6).a0) ((ai v0 v6).a1) ((ai v0 v6).a2) ((ai v0 v6).a3)  y4_0  7), true) :: ((decide ((v10 : Int) > (0 : Int))), false) :: Zf0 L0 a1 L2 L3 L4 L5 L6 v0 v6 v8 v9 v10

end Ev
end Go.Proofs.YtlbbiflodemagaaDoor
/- Calls do what the plain functions say. -/
namespace Go.Proofs.YtlbbiflodemagaaDoor
open Go.RowKit
namespace Ev
set_option linter.unusedVariables false
set_option maxRecDepth 100000
noncomputable abbrev κbg (v0 : List RA) (L2 : List RA) (v6 : Nat) := [some (vp 0 0), some (vs 1 0 v0.length v0.length), some (vi (L2.length : Int)), some (vi (((v6 + 1) : Nat) : Int))]
noncomputable abbrev κx (L0 : List Int) (L3 : List Int) (v6 : Nat) (v0 : List RA) (v9 : Nat) (v10 : Nat) (L5 : List (List Int)) := [Value.string (Zb L0), vi (L3.getD v6 0), vs 1 0 v0.length v0.length, vs 2 0 L3.length L3.length, Value.slice (some ⟨3, ((v9 * 2) + (1 * 2)), none⟩) (v10 - 1) (v10 - 1), vs 4 0 L5.length L5.length, Value.map (some 5)]
set_option maxHeartbeats 4000000 in
theorem Zlb (L0 : List Int) (a1 : Int) (L2 : List RA) (L3 : List Int) (L4 : List R_is) (L5 : List (List Int)) (L6 : List R_si) (v0 : List RA) (v6 : Nat) (v8 : Int) (v9 v10 N : Nat) : (ZK L0 a1 L2 L3 L4 L5 L6 N).Ok Tryd.prog ZG (.h1m1 v0 v6 v8 v9 v10 : asm_reader_aimX) (ZaU L0 a1 L2 L3 L4 L5 L6 N (.h1m1 v0 v6 v8 v9 v10 : asm_reader_aimX)) := by
 show (ZK L0 a1 L2 L3 L4 L5 L6 N).Ok Tryd.prog ZG (.h1m1 v0 v6 v8 v9 v10 : asm_reader_aimX) (Zbh L0 a1 L2 L3 L4 L5 L6 N v0 v6 v8 v9 v10)
 unfold Zbh
 refine Mach.ok_ite (fun g0 => ?_) (fun g0 => ?_)
 ·
  have w1 : OkL (ZhU L0 a1 L2 L3 L4 L5 L6 v0 v6 v8 v9 v10) :=
   oY <| Z6
  refine Mach.ok_ite (fun g1 => ?_) (fun _ => Mach.ok_none)
  have w2 : OkL (ZhV L0 a1 L2 L3 L4 L5 L6 v0 v6 v8 v9 v10) :=
   Za (Zb1 (E := E_iiii) (L := v0) (i := v6) (q := 0) (by omega) (show (0 + (v6 * 4)) = v6 * 4 + 0 from by omega) (show 0 + 4 ≤ 4 from by decide) rfl rfl) <| oB <| oI <| w1
  refine Mach.ok_ite (fun g2 => ?_) (fun _ => Mach.ok_none)
  have w3 : OkL (Zf0 L0 a1 L2 L3 L4 L5 L6 v0 v6 v8 v9 v10) :=
   Za (Zb1 (E := eI) (L := L3) (i := v6) (q := 0) (by omega) (show (0 + (v6 * 1)) = v6 * 1 + 0 from by omega) (show 0 + 1 ≤ 1 from by decide) rfl rfl) <| oB <| oI <| w2
  refine Mach.ok_ite (fun g3 => ?_) (fun g3 => ?_)
  ·
   have w4 : OkL (ZhW L0 a1 L2 L3 L4 L5 L6 v0 v6 v8 v9 v10) :=
    oB <| oI <| oY <| w3
   refine Mach.ok_ite (fun g4 => ?_) (fun _ => Mach.ok_none)
   have w5 : OkL (Zf1 L0 a1 L2 L3 L4 L5 L6 v0 v6 v8 v9 v10) :=
    Za (Zb1 (E := ZM) (L := L4) (i := v9) (q := 0) (by omega) (show (((v9 * 2) + (0 * 2)) + 0) = v9 * 2 + 0 from by omega) (show 0 + 1 ≤ 2 from by decide) rfl rfl) <| w4
   refine Mach.ok_ite (fun g5 => ?_) (fun g5 => ?_)
   ·
    have w6 : OkL (Zf2 L0 a1 L2 L3 L4 L5 L6 v0 v6 v8 v9 v10) :=
     Za (Zb1 (E := ZM) (L := L4) (i := v9) (q := 1) (by omega) (show (((v9 * 2) + (0 * 2)) + 1) = v9 * 2 + 1 from by omega) (show 1 + 1 ≤ 2 from by decide) rfl rfl) <| oB <| oI <| oT <| w5
    refine Mach.ok_ite (fun g6 => ?_) (fun g6 => ?_)
    ·
     have w7 : OkL (ZdM L0 a1 L2 L3 L4 L5 L6 v0 v6 v8 v9 v10) :=
      Za (Zj (Zpe rfl (by assumption))) <| w6
     refine Mach.ok_ite (fun g7 => ?_) (fun g7 => ?_)
     ·
      have w8 : OkL (ZhX L0 a1 L2 L3 L4 L5 L6 v0 v6 v8 v9 v10) :=
       Za (Zj (Zfp (E := E_iiii) (L := v0) (i := v6) (q := 0) (l := [vi (ai v0 v6).a0, vi (Z2 L6 (aj L4 v9).a1), vi (ai v0 v6).a2, vi (ai v0 v6).a3]) (aiA v0 v6 L6 L4 v9) (by omega) (show (0 + (v6 * 4)) = v6 * 4 + 0 from by omega) (show 0 + 4 ≤ 4 from by decide) rfl)) <| oB <| oI <| Za (Zj ⟨ltA, ltA⟩) <| oR <| oI <| oT <| w7
      refine Mach.ok_bind (fun z8 c8 => ?_)
      cases z8 with
      | r0 y8_0 =>
       have w9 : OkL (Zf3 L0 a1 L2 L3 L4 L5 L6 v0 v6 v8 v9 v10 y8_0) :=
        Za (Zj (Za7 #[Value.agg #[vi (ai v0 v6).a0, vi (Z2 L6 (aj L4 v9).a1), vi (ai v0 v6).a2, vi (ai v0 v6).a3]] ((ai v0 v6).a0) ((Z2 L6 (aj L4 v9).a1)) ((ai v0 v6).a2) ((ai v0 v6).a3)  y8_0 N c8  9 rfl dcd dcd)) <| w8
       refine Mach.ok_ite (fun g9 => ?_) (fun g9 => ?_)
       ·
        exact Mach.ok_thr (M := ZK L0 a1 L2 L3 L4 L5 L6 N) (cd := 1000000) (cm := 0) (r := (.r0 ((L3.getD v6 0)) : Zt)) (fu := 4000) (orc := (Zp κdC [] [(0, v6), (1, v6), (2, 0), (3, 0), (4, v6)] [(0, (aic v0 v6)), (2, [.i (L3.getD v6 0)]), (5, [.i (aj L4 v9).a0]), (8, [.s (Zb (aj L4 v9).a1)])] [(2, .lk (some (vi (Z2 L6 (aj L4 v9).a1)))), (6, .sl 1 v10), (7, .st (Zg E_iiii (v0.set v6 (aiA v0 v6 L6 L4 v9)))), (9, (Z5 ((ai v0 v6).a0) ((Z2 L6 (aj L4 v9).a1)) ((ai v0 v6).a2) ((ai v0 v6).a3)  y8_0  9))])) (u := Value.iface 88 (κbN L3 v6)) (ob := (((y8_0 != (0 : Int)), true) :: Zf3 L0 a1 L2 L3 L4 L5 L6 v0 v6 v8 v9 v10 y8_0)) (fun gv => by as_aux_lemma => kernel_rfl) (oD <| w9) rfl (by rfl) (by rfl)
       ·
        refine Mach.ok_ite (fun g10 => ?_) (fun _ => Mach.ok_none)
        exact Mach.oN (orc := (Zp κdB [(0, (((v6 + 1) : Nat) : Int))] [(0, v6), (1, v6), (2, 0), (3, 0), (4, v6)] [(0, (aic v0 v6)), (2, [.i (L3.getD v6 0)]), (5, [.i (aj L4 v9).a0]), (8, [.s (Zb (aj L4 v9).a1)])] [(2, .lk (some (vi (Z2 L6 (aj L4 v9).a1)))), (6, .sl 1 v10), (7, .st (Zg E_iiii (v0.set v6 (aiA v0 v6 L6 L4 v9)))), (9, (Z5 ((ai v0 v6).a0) ((Z2 L6 (aj L4 v9).a1)) ((ai v0 v6).a2) ((ai v0 v6).a3)  y8_0  9))])) (live := [0, 1, 2, 3, 4, 5]) (tv := fun _ => (κbg v0 L2 v6)) (bl := [some (.cells (κx L0 L3 v6 v0 v9 v10 L5) 57), some (.cells (Zg E_iiii (v0.set v6 (aiA v0 v6 L6 L4 v9))) 24 true), some (κbd L3), some (κX L4), some (κ5 L5), some (.ro (Zm L6) true)]) (ob := ((κI v6) :: ((y8_0 != (0 : Int)), false) :: Zf3 L0 a1 L2 L3 L4 L5 L6 v0 v6 v8 v9 v10 y8_0)) (Za (beq_iff_eq.2 ((wrap_i64 ltA).trans (by first | rfl | omega))) <| oE <| w9) (fun _ => ⟨rr, ⟨⟨Eq.trans (show (vs 1 0 (v0.set v6 (aiA v0 v6 L6 L4 v9)).length (v0.set v6 (aiA v0 v6 L6 L4 v9)).length : Value) = vs 1 0 v0.length v0.length from (ZC rfl eqA eqA)) (by rfl), by rfl⟩, ⟨rr, ⟨rr, trivial⟩⟩⟩⟩) ⟨⟨rfl, ⟨[], (show ((κx L0 L3 v6 v0 v9 v10 L5) : List Value) = _ from (Zh rfl (Zh rfl (Zh (ZC rfl eqA eqA) (Zh rfl (Zh (ZC eqA rfl rfl) (Zh rfl (Zh rfl rfl))))))).symm)⟩, by rfl⟩, ⟨(Zl (E := E_iiii) _ (v0.set v6 (aiA v0 v6 L6 L4 v9)) _), ⟨(Zl (E := eI) _ L3 _), ⟨(Zl (E := ZM) _ L4 _), ⟨(Zl (E := Zag) _ L5 _), ⟨(show Zm L6 = Zm L6 from rfl), trivial⟩⟩⟩⟩⟩⟩
     ·
      refine Mach.ok_ite (fun g8 => ?_) (fun g8 => ?_)
      ·
       have w9 : OkL (ZhY L0 a1 L2 L3 L4 L5 L6 v0 v6 v8 v9 v10) :=
        Za (Zj (Zfp (E := E_iiii) (L := v0) (i := v6) (q := 0) (l := [vi (ai v0 v6).a0, vi (ai v0 v6).a1, vi (Z2 L6 (aj L4 v9).a1), vi (ai v0 v6).a3]) (aiB v0 v6 L6 L4 v9) (by omega) (show (0 + (v6 * 4)) = v6 * 4 + 0 from by omega) (show 0 + 4 ≤ 4 from by decide) rfl)) <| oB <| oI <| Za (Zj ⟨ltA, ltA⟩) <| oR <| oI <| oT <| oF <| w7
       refine Mach.ok_bind (fun z9 c9 => ?_)
       cases z9 with
       | r0 y9_0 =>
        have w10 : OkL (Zf4 L0 a1 L2 L3 L4 L5 L6 v0 v6 v8 v9 v10 y9_0) :=
         Za (Zj (Za7 #[Value.agg #[vi (ai v0 v6).a0, vi (ai v0 v6).a1, vi (Z2 L6 (aj L4 v9).a1), vi (ai v0 v6).a3]] ((ai v0 v6).a0) ((ai v0 v6).a1) ((Z2 L6 (aj L4 v9).a1)) ((ai v0 v6).a3)  y9_0 N c9  9 rfl dcd dcd)) <| w9
        refine Mach.ok_ite (fun g10 => ?_) (fun g10 => ?_)
        ·
         exact Mach.ok_thr (M := ZK L0 a1 L2 L3 L4 L5 L6 N) (cd := 1000000) (cm := 0) (r := (.r0 ((L3.getD v6 0)) : Zt)) (fu := 4000) (orc := (Zp κdz [] [(0, v6), (1, v6), (2, 0), (3, 0), (4, v6)] [(0, (aic v0 v6)), (2, [.i (L3.getD v6 0)]), (5, [.i (aj L4 v9).a0]), (8, [.s (Zb (aj L4 v9).a1)])] [(2, .lk (some (vi (Z2 L6 (aj L4 v9).a1)))), (6, .sl 1 v10), (7, .st (Zg E_iiii (v0.set v6 (aiB v0 v6 L6 L4 v9)))), (9, (Z5 ((ai v0 v6).a0) ((ai v0 v6).a1) ((Z2 L6 (aj L4 v9).a1)) ((ai v0 v6).a3)  y9_0  9))])) (u := Value.iface 88 (κbN L3 v6)) (ob := (((y9_0 != (0 : Int)), true) :: Zf4 L0 a1 L2 L3 L4 L5 L6 v0 v6 v8 v9 v10 y9_0)) (fun gv => by as_aux_lemma => kernel_rfl) (oD <| w10) rfl (by rfl) (by rfl)
        ·
         refine Mach.ok_ite (fun g11 => ?_) (fun _ => Mach.ok_none)
         exact Mach.oN (orc := (Zp κdx [(0, (((v6 + 1) : Nat) : Int))] [(0, v6), (1, v6), (2, 0), (3, 0), (4, v6)] [(0, (aic v0 v6)), (2, [.i (L3.getD v6 0)]), (5, [.i (aj L4 v9).a0]), (8, [.s (Zb (aj L4 v9).a1)])] [(2, .lk (some (vi (Z2 L6 (aj L4 v9).a1)))), (6, .sl 1 v10), (7, .st (Zg E_iiii (v0.set v6 (aiB v0 v6 L6 L4 v9)))), (9, (Z5 ((ai v0 v6).a0) ((ai v0 v6).a1) ((Z2 L6 (aj L4 v9).a1)) ((ai v0 v6).a3)  y9_0  9))])) (live := [0, 1, 2, 3, 4, 5]) (tv := fun _ => (κbg v0 L2 v6)) (bl := [some (.cells (κx L0 L3 v6 v0 v9 v10 L5) 57), some (.cells (Zg E_iiii (v0.set v6 (aiB v0 v6 L6 L4 v9))) 24 true), some (κbd L3), some (κX L4), some (κ5 L5), some (.ro (Zm L6) true)]) (ob := ((κI v6) :: ((y9_0 != (0 : Int)), false) :: Zf4 L0 a1 L2 L3 L4 L5 L6 v0 v6 v8 v9 v10 y9_0)) (Za (beq_iff_eq.2 ((wrap_i64 ltA).trans (by first | rfl | omega))) <| oE <| w10) (fun _ => ⟨rr, ⟨⟨Eq.trans (show (vs 1 0 (v0.set v6 (aiB v0 v6 L6 L4 v9)).length (v0.set v6 (aiB v0 v6 L6 L4 v9)).length : Value) = vs 1 0 v0.length v0.length from (ZC rfl eqA eqA)) (by rfl), by rfl⟩, ⟨rr, ⟨rr, trivial⟩⟩⟩⟩) ⟨⟨rfl, ⟨[], (show ((κx L0 L3 v6 v0 v9 v10 L5) : List Value) = _ from (Zh rfl (Zh rfl (Zh (ZC rfl eqA eqA) (Zh rfl (Zh (ZC eqA rfl rfl) (Zh rfl (Zh rfl rfl))))))).symm)⟩, by rfl⟩, ⟨(Zl (E := E_iiii) _ (v0.set v6 (aiB v0 v6 L6 L4 v9)) _), ⟨(Zl (E := eI) _ L3 _), ⟨(Zl (E := ZM) _ L4 _), ⟨(Zl (E := Zag) _ L5 _), ⟨(show Zm L6 = Zm L6 from rfl), trivial⟩⟩⟩⟩⟩⟩
      ·
       have w9 : OkL (ZhZ L0 a1 L2 L3 L4 L5 L6 v0 v6 v8 v9 v10) :=
        Za (Zj (Zfp (E := E_iiii) (L := v0) (i := v6) (q := 0) (l := [vi (ai v0 v6).a0, vi (ai v0 v6).a1, vi (ai v0 v6).a2, vi (ai v0 v6).a3]) (aiC v0 v6) (by omega) (show (0 + (v6 * 4)) = v6 * 4 + 0 from by omega) (show 0 + 4 ≤ 4 from by decide) rfl)) <| oB <| oI <| Za (Zj ⟨ltA, ltA⟩) <| oR <| oI <| oF <| oF <| w7
       refine Mach.ok_bind (fun z9 c9 => ?_)
       cases z9 with
       | r0 y9_0 =>
        have w10 : OkL (Zf5 L0 a1 L2 L3 L4 L5 L6 v0 v6 v8 v9 v10 y9_0) :=
         Za (Zj (Za7 #[Value.agg #[vi (ai v0 v6).a0, vi (ai v0 v6).a1, vi (ai v0 v6).a2, vi (ai v0 v6).a3]] ((ai v0 v6).a0) ((ai v0 v6).a1) ((ai v0 v6).a2) ((ai v0 v6).a3)  y9_0 N c9  9 rfl dcd dcd)) <| w9
        refine Mach.ok_ite (fun g10 => ?_) (fun g10 => ?_)
        ·
         exact Mach.ok_thr (M := ZK L0 a1 L2 L3 L4 L5 L6 N) (cd := 1000000) (cm := 0) (r := (.r0 ((L3.getD v6 0)) : Zt)) (fu := 4000) (orc := (Zp κdy [] [(0, v6), (1, v6), (2, 0), (3, 0), (4, v6)] [(0, (aic v0 v6)), (2, [.i (L3.getD v6 0)]), (5, [.i (aj L4 v9).a0]), (8, [.s (Zb (aj L4 v9).a1)])] [(2, .lk (some (vi (Z2 L6 (aj L4 v9).a1)))), (5, .sl 1 v10), (6, .st (Zg E_iiii (v0.set v6 (aiC v0 v6)))), (8, (Z5 ((ai v0 v6).a0) ((ai v0 v6).a1) ((ai v0 v6).a2) ((ai v0 v6).a3)  y9_0  9))])) (u := Value.iface 88 (κbN L3 v6)) (ob := (((y9_0 != (0 : Int)), true) :: Zf5 L0 a1 L2 L3 L4 L5 L6 v0 v6 v8 v9 v10 y9_0)) (fun gv => by as_aux_lemma => kernel_rfl) (oD <| w10) rfl (by rfl) (by rfl)
        ·
         refine Mach.ok_ite (fun g11 => ?_) (fun _ => Mach.ok_none)
         exact Mach.oN (orc := (Zp κdw [(0, (((v6 + 1) : Nat) : Int))] [(0, v6), (1, v6), (2, 0), (3, 0), (4, v6)] [(0, (aic v0 v6)), (2, [.i (L3.getD v6 0)]), (5, [.i (aj L4 v9).a0]), (8, [.s (Zb (aj L4 v9).a1)])] [(2, .lk (some (vi (Z2 L6 (aj L4 v9).a1)))), (5, .sl 1 v10), (6, .st (Zg E_iiii (v0.set v6 (aiC v0 v6)))), (8, (Z5 ((ai v0 v6).a0) ((ai v0 v6).a1) ((ai v0 v6).a2) ((ai v0 v6).a3)  y9_0  9))])) (live := [0, 1, 2, 3, 4, 5]) (tv := fun _ => (κbg v0 L2 v6)) (bl := [some (.cells (κx L0 L3 v6 v0 v9 v10 L5) 57), some (.cells (Zg E_iiii (v0.set v6 (aiC v0 v6))) 24 true), some (κbd L3), some (κX L4), some (κ5 L5), some (.ro (Zm L6) true)]) (ob := ((κI v6) :: ((y9_0 != (0 : Int)), false) :: Zf5 L0 a1 L2 L3 L4 L5 L6 v0 v6 v8 v9 v10 y9_0)) (Za (beq_iff_eq.2 ((wrap_i64 ltA).trans (by first | rfl | omega))) <| oE <| w10) (fun _ => ⟨rr, ⟨⟨Eq.trans (show (vs 1 0 (v0.set v6 (aiC v0 v6)).length (v0.set v6 (aiC v0 v6)).length : Value) = vs 1 0 v0.length v0.length from (ZC rfl eqA eqA)) (by rfl), by rfl⟩, ⟨rr, ⟨rr, trivial⟩⟩⟩⟩) ⟨⟨rfl, ⟨[], (show ((κx L0 L3 v6 v0 v9 v10 L5) : List Value) = _ from (Zh rfl (Zh rfl (Zh (ZC rfl eqA eqA) (Zh rfl (Zh (ZC eqA rfl rfl) (Zh rfl (Zh rfl rfl))))))).symm)⟩, by rfl⟩, ⟨(Zl (E := E_iiii) _ (v0.set v6 (aiC v0 v6)) _), ⟨(Zl (E := eI) _ L3 _), ⟨(Zl (E := ZM) _ L4 _), ⟨(Zl (E := Zag) _ L5 _), ⟨(show Zm L6 = Zm L6 from rfl), trivial⟩⟩⟩⟩⟩⟩
    ·
     exact Mach.ok_thr (M := ZK L0 a1 L2 L3 L4 L5 L6 N) (cd := 1000000) (cm := 0) (r := (.r0 ((L3.getD v6 0)) : Zt)) (fu := 4000) (orc := (Zs [o1, o1, o1] [] [(0, v6), (1, v6), (2, 0), (3, 0)] [(0, (aic v0 v6)), (2, [.i (L3.getD v6 0)]), (5, [.i (aj L4 v9).a0]), (8, [.s (Zb (aj L4 v9).a1)])] [(2, .lk (none))])) (u := Value.iface 88 (κbN L3 v6)) (ob := ((dP ((Zby Tryd.prog 9 (Value.string (Zb (aj L4 v9).a1)) (Zbb L6)).map (Option.map Prod.snd) = some (none)), true) :: Zf2 L0 a1 L2 L3 L4 L5 L6 v0 v6 v8 v9 v10)) (fun gv => by as_aux_lemma => kernel_rfl) (Za (Zj (Zm5 rfl (by assumption))) <| w6) rfl (by rfl) (by rfl)
   ·
    refine Mach.ok_bind (fun z6 c6 => ?_)
    cases z6 with
    | r0 y6_0 =>
     have w7 : OkL (Zf6 L0 a1 L2 L3 L4 L5 L6 v0 v6 v8 v9 v10 y6_0) :=
      Za (Zj (Za7 #[Value.agg #[vi (ai v0 v6).a0, vi (ai v0 v6).a1, vi (ai v0 v6).a2, vi (ai v0 v6).a3]] ((ai v0 v6).a0) ((ai v0 v6).a1) ((ai v0 v6).a2) ((ai v0 v6).a3)  y6_0 N c6  7 rfl dcd dcd)) <| oF <| w5
     refine Mach.ok_ite (fun g7 => ?_) (fun g7 => ?_)
     ·
      exact Mach.ok_thr (M := ZK L0 a1 L2 L3 L4 L5 L6 N) (cd := 1000000) (cm := 0) (r := (.r0 ((L3.getD v6 0)) : Zt)) (fu := 4000) (orc := (Zs [o1, o1, o0, o1] [] [(0, v6), (1, v6), (2, 0)] [(0, (aic v0 v6)), (2, [.i (L3.getD v6 0)]), (5, [.i (aj L4 v9).a0])] [(2, (Z5 ((ai v0 v6).a0) ((ai v0 v6).a1) ((ai v0 v6).a2) ((ai v0 v6).a3)  y6_0  7))])) (u := Value.iface 88 (κbN L3 v6)) (ob := (((y6_0 != (0 : Int)), true) :: Zf6 L0 a1 L2 L3 L4 L5 L6 v0 v6 v8 v9 v10 y6_0)) (fun gv => by as_aux_lemma => kernel_rfl) (oD <| w7) rfl (by rfl) (by rfl)
     ·
      refine Mach.ok_ite (fun g8 => ?_) (fun _ => Mach.ok_none)
      exact Mach.oN (orc := (Zs [o1, o1, o0, o0] [(0, (((v6 + 1) : Nat) : Int))] [(0, v6), (1, v6), (2, 0)] [(0, (aic v0 v6)), (2, [.i (L3.getD v6 0)]), (5, [.i (aj L4 v9).a0])] [(2, (Z5 ((ai v0 v6).a0) ((ai v0 v6).a1) ((ai v0 v6).a2) ((ai v0 v6).a3)  y6_0  7))])) (live := [0, 1, 2, 3, 4, 5]) (tv := fun _ => (κbg v0 L2 v6)) (bl := [some (.cells [Value.string (Zb L0), vi (L3.getD v6 0), vs 1 0 v0.length v0.length, vs 2 0 L3.length L3.length, vs 3 (v9 * 2) v10 v10, vs 4 0 L5.length L5.length, Value.map (some 5)] 57), some (.cells (Zg E_iiii v0) 24 true), some (κbd L3), some (κX L4), some (κ5 L5), some (.ro (Zm L6) true)]) (ob := ((κI v6) :: ((y6_0 != (0 : Int)), false) :: Zf6 L0 a1 L2 L3 L4 L5 L6 v0 v6 v8 v9 v10 y6_0)) (Za (beq_iff_eq.2 ((wrap_i64 ltA).trans (by first | rfl | omega))) <| oE <| w7) (fun _ => ⟨rr, ⟨rr, ⟨rr, ⟨rr, trivial⟩⟩⟩⟩) ⟨sm, ⟨(Zl (E := E_iiii) _ v0 _), ⟨(Zl (E := eI) _ L3 _), ⟨(Zl (E := ZM) _ L4 _), ⟨(Zl (E := Zag) _ L5 _), ⟨(show Zm L6 = Zm L6 from rfl), trivial⟩⟩⟩⟩⟩⟩
  ·
   refine Mach.ok_bind (fun z4 c4 => ?_)
   cases z4 with
   | r0 y4_0 =>
    have w5 : OkL (Zf7 L0 a1 L2 L3 L4 L5 L6 v0 v6 v8 v9 v10 y4_0) :=
     Za (Zj (Za7 #[Value.agg #[vi (ai v0 v6).a0, vi (ai v0 v6).a1, vi (ai v0 v6).a2, vi (ai v0 v6).a3]] ((ai v0 v6).a0) ((ai v0 v6).a1) ((ai v0 v6).a2) ((ai v0 v6).a3)  y4_0 N c4  7 rfl dcd dcd)) <| oN <| w3
    refine Mach.ok_ite (fun g5 => ?_) (fun g5 => ?_)
    ·
     exact Mach.ok_thr (M := ZK L0 a1 L2 L3 L4 L5 L6 N) (cd := 1000000) (cm := 0) (r := (.r0 ((L3.getD v6 0)) : Zt)) (fu := 4000) (orc := (Zs [o1, o0, o1] [] [(0, v6), (1, v6)] [(0, (aic v0 v6)), (2, [.i (L3.getD v6 0)])] [(2, (Z5 ((ai v0 v6).a0) ((ai v0 v6).a1) ((ai v0 v6).a2) ((ai v0 v6).a3)  y4_0  7))])) (u := Value.iface 88 (κbN L3 v6)) (ob := (((y4_0 != (0 : Int)), true) :: Zf7 L0 a1 L2 L3 L4 L5 L6 v0 v6 v8 v9 v10 y4_0)) (fun gv => by as_aux_lemma => kernel_rfl) (oD <| w5) rfl (by rfl) (by rfl)
    ·
     refine Mach.ok_ite (fun g6 => ?_) (fun _ => Mach.ok_none)
     exact Mach.oN (orc := (Zs [o1, o0, o0] [(0, (((v6 + 1) : Nat) : Int))] [(0, v6), (1, v6)] [(0, (aic v0 v6)), (2, [.i (L3.getD v6 0)])] [(2, (Z5 ((ai v0 v6).a0) ((ai v0 v6).a1) ((ai v0 v6).a2) ((ai v0 v6).a3)  y4_0  7))])) (live := [0, 1, 2, 3, 4, 5]) (tv := fun _ => (κbg v0 L2 v6)) (bl := [some (.cells [Value.string (Zb L0), vi (L3.getD v6 0), vs 1 0 v0.length v0.length, vs 2 0 L3.length L3.length, vs 3 (v9 * 2) v10 v10, vs 4 0 L5.length L5.length, Value.map (some 5)] 57), some (.cells (Zg E_iiii v0) 24 true), some (κbd L3), some (κX L4), some (κ5 L5), some (.ro (Zm L6) true)]) (ob := ((κI v6) :: ((y4_0 != (0 : Int)), false) :: Zf7 L0 a1 L2 L3 L4 L5 L6 v0 v6 v8 v9 v10 y4_0)) (Za (beq_iff_eq.2 ((wrap_i64 ltA).trans (by first | rfl | omega))) <| oE <| w5) (fun _ => ⟨rr, ⟨rr, ⟨rr, ⟨rr, trivial⟩⟩⟩⟩) ⟨sm, ⟨(Zl (E := E_iiii) _ v0 _), ⟨(Zl (E := eI) _ L3 _), ⟨(Zl (E := ZM) _ L4 _), ⟨(Zl (E := Zag) _ L5 _), ⟨(show Zm L6 = Zm L6 from rfl), trivial⟩⟩⟩⟩⟩⟩
 ·
  exact Mach.oF (orc := (Zs [o0] [] [] [] [])) (live := [0, 1, 2, 3, 4, 5]) (u := vtt) (bl := [some (.cells [Value.string (Zb L0), vi v8, vs 1 0 v0.length v0.length, vs 2 0 L3.length L3.length, vs 3 (v9 * 2) v10 v10, vs 4 0 L5.length L5.length, Value.map (some 5)] 57), some (.cells (Zg E_iiii v0) 24 true), some (κbd L3), some (κX L4), some (κ5 L5), some (.ro (Zm L6) true)]) (ob := (((decide ((v6 : Int) < (L2.length : Int))), false) :: [])) (oN <| Z6) rr ⟨sm, ⟨(Zl (E := E_iiii) _ v0 _), ⟨(Zl (E := eI) _ L3 _), ⟨(Zl (E := ZM) _ L4 _), ⟨(Zl (E := Zag) _ L5 _), ⟨(show Zm L6 = Zm L6 from rfl), trivial⟩⟩⟩⟩⟩⟩

set_option maxHeartbeats 4000000 in
theorem ZmG (L0 : List Int) (a1 : Int) (L2 : List RA) (L3 : List Int) (L4 : List R_is) (L5 : List (List Int)) (L6 : List R_si) (N : Nat) : (ZK L0 a1 L2 L3 L4 L5 L6 N).Enter Tryd.prog ZG #[vp 0 0] (Ze8 L0 a1 L2 L3 L4 L5 L6 N) := by
 unfold Ze8
 exact Mach.en_head (bK := ZdL 1) (M := ZK L0 a1 L2 L3 L4 L5 L6 N) (cd := 1000000) (cm := 0) (y := (.h1m0 (0) (a1) : asm_reader_aimX)) (fu := 4000) (orc := (Zp [] [] [] [] [])) (live := [0, 1, 2, 3, 4, 5]) (tv := [some (vp 0 0), some (vs 1 0 L2.length L2.length), some (vi (L2.length : Int)), some (vq)]) (bl := [some (.cells [Value.string (Zb L0), vi a1, vs 1 0 L2.length L2.length, vs 2 0 L3.length L3.length, vs 3 0 L4.length L4.length, vs 4 0 L5.length L5.length, Value.map (some 5)] 57), some (κcr L2), some (κbd L3), some (κX L4), some (κ5 L5), some (.ro (Zm L6) true)]) (ob := ([])) rfl rfl (show Za9 (ZdL 1).2 = [] from rfl) (by as_aux_lemma => kernel_rfl) (Z6) rfl (by decide) (by rfl) ⟨rr, ⟨rr, ⟨rr, ⟨⟨Eq.trans (show κda = vq from (congrArg (Value.int .i64) (by first | rfl | omega))) (by rfl), by rfl⟩, trivial⟩⟩⟩⟩ ⟨sm, ⟨(Zl (E := E_iiii) _ L2 _), ⟨(Zl (E := eI) _ L3 _), ⟨(Zl (E := ZM) _ L4 _), ⟨(Zl (E := Zag) _ L5 _), ⟨(show Zm L6 = Zm L6 from rfl), trivial⟩⟩⟩⟩⟩⟩

theorem ZeQ (L0 : List Int) (a1 : Int) (L2 : List RA) (L3 : List Int) (L4 : List R_is) (L5 : List (List Int)) (L6 : List R_si) (N : Nat) (r : Zt) (h : Zcy L0 a1 L2 L3 L4 L5 L6 N = some r) : LSpec Tryd.prog 52 #[vp 0 0] (κr L0 a1 L2 L3 L4 L5 L6) (ZjH L0 a1 L2 L3 L4 L5 L6 r) (Zjm L0 a1 L2 L3 L4 L5 L6 r) :=
 Mach.spec ZdD (ZK L0 a1 L2 L3 L4 L5 L6 N) Tryd.func52 (by kernel_rfl) (by kernel_rfl) (fun x => by cases x <;> exact ZaV _ rfl) (fun r => by cases r <;> exact ZaV _ rfl) (fun x => by
  cases x with
  | h1m0 _ _ => exact fun _ => (show ¬ (1 ∈ Za9 (ZdL 1).2) from by decide +kernel)
  | h1m1 _ _ _ _ _ => exact fun _ => (show ¬ (1 ∈ Za9 (ZdL 1).2) from by decide +kernel)
  ) (fun x => (show (ZK L0 a1 L2 L3 L4 L5 L6 N).Ok Tryd.prog ZG x (ZaU L0 a1 L2 L3 L4 L5 L6 N x) from by
  cases x with
  | h1m0 v6 v8 => exact Zla L0 a1 L2 L3 L4 L5 L6 v6 v8 N
  | h1m1 v0 v6 v8 v9 v10 => exact Zlb L0 a1 L2 L3 L4 L5 L6 v0 v6 v8 v9 v10 N
  )) (ZmG L0 a1 L2 L3 L4 L5 L6 N) (n := N) h

noncomputable abbrev κcw (w0 : Int) := (Value.iface 88 (Value.agg #[vi w0]))
noncomputable abbrev κg (k0 : Nat) (L0 : List Int) (a1 : Int) (k1 : Nat) (L2 : List RA) (k2 : Nat) (L3 : List Int) (k3 : Nat) (L4 : List R_is) (k4 : Nat) (L5 : List (List Int)) (k5 : Nat) (L6 : List R_si) := [(k0, AObj.cells [Value.string (Zb L0), vi a1, vs k1 0 L2.length L2.length, vs k2 0 L3.length L3.length, vs k3 0 L4.length L4.length, vs k4 0 L5.length L5.length, Value.map (some k5)] 57), (k1, AObj.cells (Zg E_iiii L2) 24 true), (k2, AObj.cells (Zg eI L3) 3 true), (k3, AObj.cells (Zg ZM L4) 122 true), (k4, AObj.cells (Zg Zag L5) 9 true), (k5, AObj.ro (Zm L6) true)]
noncomputable def Zn9 (L0 : List Int) (a1 : Int) (L2 : List RA) (L3 : List Int) (L4 : List R_is) (L5 : List (List Int)) (L6 : List R_si) (w0 : Int) (k0 k1 k2 k3 k4 k5 n : Nat) : Za5 := .call (κg k0 L0 a1 k1 L2 k2 L3 k3 L4 k4 L5 k5 L6) (κcw w0) [(k0, none), (k1, none), (k2, none), (k3, none), (k4, none), (k5, none)] 0
def Zjn (A : Array Value) (L0 : List Int) (a1 : Int) (L2 : List RA) (L3 : List Int) (L4 : List R_is) (L5 : List (List Int)) (L6 : List R_si) (w0 : Int) (k0 k1 k2 k3 k4 k5 n : Nat) : Prop := Z3 Tryd.prog 52 A (κg k0 L0 a1 k1 L2 k2 L3 k3 L4 k4 L5 k5 L6) (κcw w0) [(k0, none), (k1, none), (k2, none), (k3, none), (k4, none), (k5, none)] n 0

theorem ZnA (A : Array Value) (L0 : List Int) (a1 : Int) (L2 : List RA) (L3 : List Int) (L4 : List R_is) (L5 : List (List Int)) (L6 : List R_si) (w0 : Int) (N : Nat) (h : Zcy L0 a1 L2 L3 L4 L5 L6 N = some (.r0 w0)) (k0 k1 k2 k3 k4 k5 n : Nat) (hA : A = #[vp k0 0]) (hnd : ([k0, k1, k2, k3, k4, k5] : List Nat).Nodup) (hlt : ∀ k ∈ ([k0, k1, k2, k3, k4, k5] : List Nat), k < n) : Zjn A L0 a1 L2 L3 L4 L5 L6 w0 k0 k1 k2 k3 k4 k5 n :=
 Zae hA (cX0 (show LSpec Tryd.prog 52 #[vp 0 0] (κr L0 a1 L2 L3 L4 L5 L6) (κcw w0) [none, none, none, none, none, none] from ZeQ L0 a1 L2 L3 L4 L5 L6 N _ h) [k0, k1, k2, k3, k4, k5] n [0, 1, 2, 3, 4, 5] hnd hlt)

noncomputable def ZnB (L0 : List Int) (a1 : Int) (L2 : List RA) (L3 : List Int) (L4 : List R_is) (L5 : List (List Int)) (L6 : List R_si) (w6 : Int) (k0 k1 k2 k3 k4 k5 n : Nat) : Za5 := .call (κg k0 L0 a1 k1 L2 k2 L3 k3 L4 k4 L5 k5 L6) (vtt) [(k0, some (.cells [Value.string (Zb L0), vi w6, vs k1 0 L2.length L2.length, vs k2 0 L3.length L3.length, vs k3 0 L4.length L4.length, vs k4 0 L5.length L5.length, Value.map (some k5)] 57))] 0
def Zjo (A : Array Value) (L0 : List Int) (a1 : Int) (L2 : List RA) (L3 : List Int) (L4 : List R_is) (L5 : List (List Int)) (L6 : List R_si) (w6 : Int) (k0 k1 k2 k3 k4 k5 n : Nat) : Prop := Z3 Tryd.prog 52 A (κg k0 L0 a1 k1 L2 k2 L3 k3 L4 k4 L5 k5 L6) (vtt) [(k0, some (.cells [Value.string (Zb L0), vi w6, vs k1 0 L2.length L2.length, vs k2 0 L3.length L3.length, vs k3 0 L4.length L4.length, vs k4 0 L5.length L5.length, Value.map (some k5)] 57))] n 0

theorem ZnC (A : Array Value) (L0 : List Int) (a1 : Int) (L2 : List RA) (L3 : List Int) (L4 : List R_is) (L5 : List (List Int)) (L6 : List R_si) (w6 : Int) (N : Nat) (h : Zcy L0 a1 L2 L3 L4 L5 L6 N = some (.r1 w6)) (k0 k1 k2 k3 k4 k5 n : Nat) (hA : A = #[vp k0 0]) (hnd : ([k0, k1, k2, k3, k4, k5] : List Nat).Nodup) (hlt : ∀ k ∈ ([k0, k1, k2, k3, k4, k5] : List Nat), k < n) : Zjo A L0 a1 L2 L3 L4 L5 L6 w6 k0 k1 k2 k3 k4 k5 n :=
 Zae hA (cX0 (show LSpec Tryd.prog 52 #[vp 0 0] (κr L0 a1 L2 L3 L4 L5 L6) (vtt) [some (.cells [Value.string (Zb L0), vi w6, vs 1 0 L2.length L2.length, vs 2 0 L3.length L3.length, vs 3 0 L4.length L4.length, vs 4 0 L5.length L5.length, Value.map (some 5)] 57), some (κcr L2), some (κbd L3), some (κX L4), some (κ5 L5), some (.ro (Zm L6) true)] from ZeQ L0 a1 L2 L3 L4 L5 L6 N _ h) [k0, k1, k2, k3, k4, k5] n [0] hnd hlt)

noncomputable def ZnD (L0 : List Int) (a1 : Int) (L2 : List RA) (L3 : List Int) (L4 : List R_is) (L5 : List (List Int)) (L6 : List R_si) (w0 : List RA) (w6 : Int) (w7 w8 k0 k1 k2 k3 k4 k5 n : Nat) : Za5 := .call (κg k0 L0 a1 k1 L2 k2 L3 k3 L4 k4 L5 k5 L6) (vtt) [(k0, some (.cells [Value.string (Zb L0), vi w6, vs k1 0 w0.length w0.length, vs k2 0 L3.length L3.length, vs k3 (w7 * 2) w8 w8, vs k4 0 L5.length L5.length, Value.map (some k5)] 57)), (k1, some (.cells (Zg E_iiii w0) 24 true))] 0
def Zjp (A : Array Value) (L0 : List Int) (a1 : Int) (L2 : List RA) (L3 : List Int) (L4 : List R_is) (L5 : List (List Int)) (L6 : List R_si) (w0 : List RA) (w6 : Int) (w7 w8 k0 k1 k2 k3 k4 k5 n : Nat) : Prop := Z3 Tryd.prog 52 A (κg k0 L0 a1 k1 L2 k2 L3 k3 L4 k4 L5 k5 L6) (vtt) [(k0, some (.cells [Value.string (Zb L0), vi w6, vs k1 0 w0.length w0.length, vs k2 0 L3.length L3.length, vs k3 (w7 * 2) w8 w8, vs k4 0 L5.length L5.length, Value.map (some k5)] 57)), (k1, some (.cells (Zg E_iiii w0) 24 true))] n 0

theorem ZnE (A : Array Value) (L0 : List Int) (a1 : Int) (L2 : List RA) (L3 : List Int) (L4 : List R_is) (L5 : List (List Int)) (L6 : List R_si) (w0 : List RA) (w6 : Int) (w7 w8 N : Nat) (h : Zcy L0 a1 L2 L3 L4 L5 L6 N = some (.r2 w0 w6 w7 w8)) (k0 k1 k2 k3 k4 k5 n : Nat) (hA : A = #[vp k0 0]) (hnd : ([k0, k1, k2, k3, k4, k5] : List Nat).Nodup) (hlt : ∀ k ∈ ([k0, k1, k2, k3, k4, k5] : List Nat), k < n) : Zjp A L0 a1 L2 L3 L4 L5 L6 w0 w6 w7 w8 k0 k1 k2 k3 k4 k5 n :=
 Zae hA (cX0 (show LSpec Tryd.prog 52 #[vp 0 0] (κr L0 a1 L2 L3 L4 L5 L6) (vtt) [some (.cells [Value.string (Zb L0), vi w6, vs 1 0 w0.length w0.length, vs 2 0 L3.length L3.length, vs 3 (w7 * 2) w8 w8, vs 4 0 L5.length L5.length, Value.map (some 5)] 57), some (.cells (Zg E_iiii w0) 24 true), some (κbd L3), some (κX L4), some (κ5 L5), some (.ro (Zm L6) true)] from ZeQ L0 a1 L2 L3 L4 L5 L6 N _ h) [k0, k1, k2, k3, k4, k5] n [0, 1] hnd hlt)

noncomputable def Zjq (L0 : List Int) (a1 : Int) (L2 : List R_si) : ZE → Value
 | .r0 w0 => Value.iface 88 (Value.agg #[vi w0])
 | .r1 w0 w1 w2 w3 w4 w5 w6 => vtt
 | .r2 w0 w1 w2 w3 w4 w5 w6 w7 w8 => vtt
noncomputable def Zit (L0 : List Int) (a1 : Int) (L2 : List R_si) : ZE → List (Option AObj)
 | .r0 w0 => [none, none]
 | .r1 w0 w1 w2 w3 w4 w5 w6 => [some (.cells [Value.string (Zb w1), vi w2, vs 2 0 w3.length w3.length, vs 3 0 w4.length w4.length, vs 4 0 w5.length w5.length, vs 5 0 w6.length w6.length, Value.map (some 1)] 57), some (.ro (Zm w0) true), some (.cells (Zg E_iiii w3) 24 true), some (.cells (Zg eI w4) 3 true), some (.cells (Zg ZM w5) 122 true), some (.cells (Zg Zag w6) 9 true)]
 | .r2 w0 w1 w2 w3 w4 w5 w6 w7 w8 => [some (.cells [Value.string (Zb w1), vi w2, vs 2 0 w3.length w3.length, vs 3 0 w4.length w4.length, vs 4 (w6 * 2) w7 w7, vs 5 0 w8.length w8.length, Value.map (some 1)] 57), some (.ro (Zm w0) true), some (.cells (Zg E_iiii w3) 24 true), some (.cells (Zg eI w4) 3 true), some (.cells (Zg ZM w5) 122 true), some (.cells (Zg Zag w8) 9 true)]

def ZmH : ZF → Nat
 | .h1m0 v0 v1 v2 v3 v4 v5 v6 => 1
noncomputable def ZnF (L0 : List Int) (a1 : Int) (L2 : List R_si) : ZF → List (Nat × Value)
 | .h1m0 v0 v1 v2 v3 v4 v5 v6 => [(0, vp 0 0)]
noncomputable abbrev κcN (v3 : List RA) := (AObj.cells (Zg E_iiii v3) 24 true)
noncomputable abbrev κcI (v4 : List Int) := (AObj.cells (Zg eI v4) 3 true)
noncomputable abbrev κce (v6 : List (List Int)) := (AObj.cells (Zg Zag v6) 9 true)
noncomputable abbrev κb9 (v5 : List R_is) := (AObj.cells (Zg ZM v5) 122 true)
noncomputable abbrev κbh (v1 : List Int) (v2 : Int) (v3 : List RA) (v4 : List Int) (v5 : List R_is) (v6 : List (List Int)) := [Value.string (Zb v1), vi v2, vs 2 0 v3.length v3.length, vs 3 0 v4.length v4.length, vs 4 0 v5.length v5.length, vs 5 0 v6.length v6.length, Value.map (some 1)]
noncomputable def ZnG (L0 : List Int) (a1 : Int) (L2 : List R_si) : ZF → List (Option AObj)
 | .h1m0 v0 v1 v2 v3 v4 v5 v6 => [some (.cells (κbh v1 v2 v3 v4 v5 v6) 57), some (.ro (Zm v0) true), some (κcN v3), some (κcI v4), some (κb9 v5), some (κce v6)]

noncomputable def ZeA : Nat → Code × List Zbk
 | 1 => Zem [0, 3] (Zgn Tryd.f38) []
 | _ => (.skip, [])
def ZmI : Nat → Bool
 | 1 => true
 | _ => true
noncomputable abbrev κbA (L0 : List Int) (a1 : Int) := [Value.string (Zb L0), vi a1, vn, vn, vn, vn, Value.map (some 1)]
noncomputable def ZaL (L0 : List Int) (a1 : Int) (L2 : List R_si) (N : Nat) : Mach := ⟨Tryd.f38, [.cells (κbA L0 a1) 57, .ro (Zm L2) true], ZF, ZE, Zaw L0 a1 L2 N, ZmH, ZeA, ZmI, ZnF L0 a1 L2, ZnG L0 a1 L2, Zjq L0 a1 L2, Zit L0 a1 L2⟩

noncomputable def Zia (L0 : List Int) (a1 : Int) (L2 v0 : List R_si) (v1 : List Int) (v2 : Int) (v3 : List RA) (v4 : List Int) (v5 : List R_is) (v6 : List (List Int)) : OB := ((!((Zb v1).toList == (⟨#[]⟩ : ByteArray).toList)), true) :: []

noncomputable def ZdN (L0 : List Int) (a1 : Int) (L2 v0 : List R_si) (v1 : List Int) (v2 : Int) (v3 : List RA) (v4 : List Int) (v5 : List R_is) (v6 : List (List Int)) : OB := (dP ((Zb v1) = Zb v1 ∧ Z1 v1 = true ∧ v1.length ≤ 1000000), true) :: Zia L0 a1 L2 v0 v1 v2 v3 v4 v5 v6

noncomputable abbrev κbD (v1 : List Int) := (Zb (Zz (10 : Int) v1))
noncomputable def Zib (L0 : List Int) (a1 : Int) (L2 v0 : List R_si) (v1 : List Int) (v2 : Int) (v3 : List RA) (v4 : List Int) (v5 : List R_is) (v6 : List (List Int)) : OB := (((κbD v1).toList == (⟨#[]⟩ : ByteArray).toList), false) :: ((ZaT (10 : Int) v1), true) :: ZdN L0 a1 L2 v0 v1 v2 v3 v4 v5 v6

noncomputable def Zf8 (L0 : List Int) (a1 : Int) (L2 v0 : List R_si) (v1 : List Int) (v2 : Int) (v3 : List RA) (v4 : List Int) (v5 : List R_is) (v6 : List (List Int)) : OB := (dP (∃ y, 0 ≤ (0 : Int) ∧ ((κbD v1))[((0 : Int)).toNat]? = some y ∧ (bAt (Zz (10 : Int) v1) 0) = (y.toNat : Int)), true) :: Zib L0 a1 L2 v0 v1 v2 v3 v4 v5 v6

noncomputable def ZcA (L0 : List Int) (a1 : Int) (L2 v0 : List R_si) (v1 : List Int) (v2 : Int) (v3 : List RA) (v4 : List Int) (v5 : List R_is) (v6 : List (List Int)) : OB := (dP (∃ y, 0 ≤ (0 : Int) ∧ ((κbD v1))[((0 : Int)).toNat]? = some y ∧ (bAt (Zz (10 : Int) v1) 0) = (y.toNat : Int)), true) :: (((bAt (Zz (10 : Int) v1) 0) == (35 : Int)), false) :: Zf8 L0 a1 L2 v0 v1 v2 v3 v4 v5 v6

noncomputable def Zf9 (L0 : List Int) (a1 : Int) (L2 v0 : List R_si) (v1 : List Int) (v2 : Int) (v3 : List RA) (v4 : List Int) (v5 : List R_is) (v6 : List (List Int)) : OB := (dP (0 ≤ (1 : Int) ∧ (1 : Int) ≤ ((((κbD v1)).size : Nat) : Int) ∧ ((((κbD v1)).size : Nat) : Int) ≤ ((((κbD v1)).size : Nat) : Int) ∧ ((κbD v1)).extract ((1 : Int)).toNat (((((κbD v1)).size : Nat) : Int)).toNat = Zb ((Zz (10 : Int) v1).drop 1)), true) :: (((bAt (Zz (10 : Int) v1) 0) == (58 : Int)), true) :: ZcA L0 a1 L2 v0 v1 v2 v3 v4 v5 v6

end Ev
end Go.Proofs.YtlbbiflodemagaaDoor
