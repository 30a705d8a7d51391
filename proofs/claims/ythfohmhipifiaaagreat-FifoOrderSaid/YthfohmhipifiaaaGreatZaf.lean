/- Part 6. -/
import Derived.Test.YthfohmhipifiaaaGreatZae
set_option linter.unusedSimpArgs false
set_option linter.unusedVariables false
/- Calls do what the plain functions say. -/
namespace Go.Proofs.YthfohmhipifiaaaGreat
open Go.RowKit
namespace Ev
open Mach (oi ok_ite ok_none ok_bind okN okH enH en_ite en_none)
set_option linter.unusedVariables false
set_option maxRecDepth 100000
noncomputable def ZoW : ZdZ → Value
 | .r0 w0 => Value.bool w0
noncomputable def Znq : ZdZ → List (Option AObj)
 | .r0 w0 => []

section
variable (a0 a1 a2 a3 : Int) (N : Nat)
theorem Z01 : Fx Tryz.prog Ze Tryz.f95 [] #[Value.agg (κJ a0 a1 a2 a3)] (ZoW) (Znq) (ZaM a0 a1 a2 a3 N) := by
 unfold ZaM;refine Zx (fun z0 c0 => ?_);cases z0 with
 | r0 y0_0 y0_1 y0_2 =>
  have w1 := kK (tQ (Z00 c0) 1) Zg;refine Zx (fun z1 c1 => ?_);cases z1 with
  | r0 y1_0 =>
   refine Zb (fun g2 => ?_) (fun g2 => ?_)
   ·
    subst g2;have w3 := kKg 1 (tQ (Zeq c1) 2) w1;refine Zx (fun z3 c3 => ?_);cases z3 with
    | r0 y3_0 =>
     refine Zb (fun g4 => ?_) (fun g4 => ?_)
     ·
      subst g4;refine Zx (fun z5 c5 => ?_);cases z5 with
      | r0 y5_0 =>
       refine Zb (fun g6 => ?_) (fun g6 => ?_)
       · subst g6;exact Zq [] (kK (tQ (Zeq c5) 2) <| kK (tQ (Zeq c3) 2) w3) bE
       obtain rfl : y5_0 = false := by simpa using g6
       exact Zq [] (kK (tQ (Zeq c5) 2) <| kK (tQ (Zeq c3) 2) w3) bE
     obtain rfl : y3_0 = false := by simpa using g4
     exact Zq [] (kK (tQ (Zeq c3) 2) w3) bE
   obtain rfl : y1_0 = false := by simpa using g2
   exact Zq [] (kKg 1 (tQ (Zeq c1) 2) w1) bE

theorem Zwf (r : ZdZ) (h : ZaM a0 a1 a2 a3 N = some r) : LSpec Tryz.prog 95 #[Value.agg (κJ a0 a1 a2 a3)] [] (ZoW r) (Znq r) :=
 ZI Zv Tryz.func95 (by kernel_rfl) (by kernel_rfl) (fun r => by cases r <;> exact ZP _ rfl) (Z01 a0 a1 a2 a3 N) h

end
theorem Zg6 {a0 a1 a2 a3 : Int} {N : Nat} {r : ZdZ} (h : ZaM a0 a1 a2 a3 N = some r) : LSpec Tryz.prog 95 #[Value.agg (κJ a0 a1 a2 a3)] [] (ZoW r) (Znq r) := Zwf a0 a1 a2 a3 N r h

noncomputable def Zmo : Zam → Value
 | .r0 w0 => Value.tuple #[vs 0 0 w0.length w0.length, vT]
 | .r1 w0 w1 => Value.tuple #[ms RA w0, Value.bool w1]
noncomputable def Zli : Zam → List (Option AObj)
 | .r0 w0 => [some (.cells (Za RA w0) 176)]
 | .r1 w0 w1 => []

noncomputable def ZnC : Zam → Value
 | .r0 w0 => Value.tuple #[ms RA w0, vT]
 | .r1 w0 w1 => Value.tuple #[ms RA w0, Value.bool w1]
noncomputable def Zmp : Zam → List (Option AObj)
 | .r0 w0 => []
 | .r1 w0 w1 => []

section
variable (L0 : List RG) (a1 a2 a3 a4 a5 : Int) (N : Nat)
theorem Ztd : Fx Tryz.prog Ze Tryz.f94 [] #[ms RA L0, Value.agg #[vi a1, vi a2, vi a3, vi a4], vi a5] (Zmo) (Zli) (Zb4 L0 a1 a2 a3 a4 a5 N) := by
 unfold Zb4;refine Zb (fun g0 => ?_) (fun g0 => ?_)
 ·
  refine Zb (fun _ => Zd) (fun g1 => ?_);have w2 := bkN ((L0.length : Int) ≥ 8) <| bhT g0 Zg
  refine Zb (fun g2 => ?_) (fun g2 => ?_)
  · exact fxC [3] (Value.tuple #[vs 3 0 1 1, vT]) (tW 0 (.ap0) <| kX (dP (0 = L0.length ∧ ((L0.length * 2 = 0 ∧ ([] : List Value) = []) ∨ ∃ c, L0.length * 2 ≠ 0 ∧ ZS (code (Z9 RA L0)) 0 (L0.length * 2) = some c ∧ ([] : List Value) = Zl c))) true (Zn ⟨by omega, .inl ⟨by omega, rfl⟩⟩) w2) (bC (o := .cells [vi a5, vq] 176) (Zz (E := RA) _ (L := ([(⟨a5, 0⟩ : RG)] : List RG)) _ (show ([vi a5, vq] : List Value) = Za RA ([(⟨a5, 0⟩ : RG)] : List RG) from rfl)) <| bE) (hv := ⟨Eq.trans (show (Value.tuple #[vs 0 0 ([(⟨a5, 0⟩ : RG)] : List RG).length ([(⟨a5, 0⟩ : RG)] : List RG).length, vT] : Value) = Value.tuple #[vs 0 0 1 1, vT] from (Zax (Zw (Zi rfl eqA eqA) (cr rfl)))) (by rfl), by rfl⟩)
  exact fxC [4] (Value.tuple #[vs 4 0 ((0 + L0.length) + 1) ((0 + L0.length) + 1), vT]) (ZoO RA L0 (0 + L0.length) (⟨a5, 0⟩ : RG) <| tW 0 (.ap L0.length (Za RA L0) (Za RA L0)) <| kX (dP ((L0.length = L0.length ∧ ((L0.length * 2 = 0 ∧ (Za RA L0) = []) ∨ ∃ c, L0.length * 2 ≠ 0 ∧ ZS (code (Z9 RA L0)) 0 (L0.length * 2) = some c ∧ (Za RA L0) = Zl c)) ∧ 0 < L0.length ∧ L0.length ≤ 100000 ∧ 0 < 0 + L0.length ∧ 0 ≤ 100000 ∧ 0 * 2 ≤ (List.length []) ∧ List.take (0 * 2) [] ++ (Za RA L0) = (Za RA L0))) true (Zn ⟨⟨rfl, (Zc4 (E := RA) (L := L0) (n := L0.length) (size := 2) rfl (by decide) (by omega))⟩, by omega, by omega, ltA, by omega, (Zas (E := RA) (L := ([] : List RG)) (M := L0) (n := 0) (show _ = _ * 2 from rfl) ltA (R := L0) (by rw [List.take_of_length_le ltA]; rfl))⟩) w2) (bR <| bE) (hv := ⟨Eq.trans (show (Value.tuple #[vs 0 0 (L0 ++ ([(⟨a5, 0⟩ : RG)] : List RG)).length (L0 ++ ([(⟨a5, 0⟩ : RG)] : List RG)).length, vT] : Value) = Value.tuple #[vs 0 0 ((0 + L0.length) + 1) ((0 + L0.length) + 1), vT] from (Zax (Zw (Zi rfl eqA eqA) (cr rfl)))) (by rfl), by rfl⟩)
 refine Zb (fun _ => Zd) (fun g1 => ?_);have w2 := bhF g1 <| bhF g0 Zg
 refine Zb (fun g2 => ?_) (fun g2 => ?_)
 · refine Zb (fun _ => Zd) (fun g3 => ?_);refine Zb (fun g4 => ?_) (fun _ => Zd);exact Zq [] (kC (Znk (E := RA) (L := L0) (R := (L0.take (L0.length - 1))) (l := 0) (h := (L0.length - 1)) (size := 2) ltA ltA (by decide) (by simp)) <| kI (((L0.length - 1) : Nat) : Int) (Int.ofNat (L0.length - 1)) <| tW 0 (.ms 0 (L0.length - 1) (L0.take (L0.length - 1)).length (Z9 RA (L0.take (L0.length - 1)))) <| kR 0 <| vkW ((L0.length : Int) - 1) (((L0.length - 1) : Nat) : Int) <| bhF g3 <| bhT g2 w2) bE
 refine Zb (fun g3 => ?_) (fun g3 => ?_)
 ·
  refine Zb (fun g4 => ?_) (fun g4 => ?_)
  · exact Zq [] (bkY ((L0.length : Int) > 0) <| bhT g3 <| bhF g2 w2) bE
  exact Zq [] (bkN ((L0.length : Int) > 0) <| bhT g3 <| bhF g2 w2) bE
 refine Zb (fun g4 => ?_) (fun g4 => ?_)
 ·
  refine Zb (fun g5 => ?_) (fun g5 => ?_)
  · exact Zq [] (bhT g5 <| bhT g4 <| bhF g3 <| bhF g2 w2) bE
  exact Zq [] (bhF g5 <| bhT g4 <| bhF g3 <| bhF g2 w2) bE
 exact Zq [] (bhF g4 <| bhF g3 <| bhF g2 w2) bE

theorem ZoX (r : Zam) (h : Zb4 L0 a1 a2 a3 a4 a5 N = some r) : LSpec Tryz.prog 94 #[ms RA L0, Value.agg #[vi a1, vi a2, vi a3, vi a4], vi a5] [] (Zmo r) (Zli r) :=
 ZI Zv Tryz.func94 (by kernel_rfl) (by kernel_rfl) (fun r => by cases r <;> exact ZP _ rfl) (Ztd L0 a1 a2 a3 a4 a5 N) h

theorem Zql (r : Zam) (h : Zb4 L0 a1 a2 a3 a4 a5 N = some r) : LSpec Tryz.prog 94 #[ms RA L0, Value.agg #[vi a1, vi a2, vi a3, vi a4], vi a5] [] (ZnC r) (Zmp r) := by
 have h0 := ZoX L0 a1 a2 a3 a4 a5 N r h;cases r with
 | r0 w0 => exact (LSpec.frzv (E := RA) (L := w0) (post := []) (v2 := Value.tuple #[ms RA w0, vT]) h0 (show 0 ≤ 0 from by decide) (show 0 < 1000000000 from by decide) trivial rfl rfl rfl)
 | r1 _ _ => exact h0

end
theorem Zg7 {L0 : List RG} {a1 a2 a3 a4 a5 : Int} {N : Nat} {r : Zam} (h : Zb4 L0 a1 a2 a3 a4 a5 N = some r) : LSpec Tryz.prog 94 #[ms RA L0, Value.agg #[vi a1, vi a2, vi a3, vi a4], vi a5] [] (ZnC r) (Zmp r) := Zql L0 a1 a2 a3 a4 a5 N r h

noncomputable def Zk8 : ZaG → Value
 | .r0 => vn
 | .r1 w0 => ms RA w0
noncomputable def Zj5 : ZaG → List (Option AObj)
 | .r0 => []
 | .r1 w0 => []

def Zwg : Zau → Nat
 | .h1m0 v2 => 1
 | .h1m1 v2 v3 => 1
section
variable (L0 : List RI) (a1 : Int)
noncomputable def Zy6 : Zau → List (Nat × Value)
 | .h1m0 v2 => [(0, ms RB L0), (1, vi a1), (5, vn), (6, vi (v2 : Int))]
 | .h1m1 v2 v3 => [(0, ms RB L0), (1, vi a1), (5, ms RA v2), (6, vi (v3 : Int))]
noncomputable def Zy7 (L0 : List RI) (a1 : Int) : Zau → List (Option AObj)
 | .h1m0 v2 => []
 | .h1m1 v2 v3 => []

noncomputable def Zy8 : Nat → Code × List ZL
 | 1 => Z5 [1, 1, 0, 1, 3] (ZM Tryz.f123) []
 | _ => (.skip, [])

noncomputable def Zgq (N : Nat) : Mach := ⟨Tryz.f123, [], Zau, ZaG, Ze9 L0 a1 N, Zwg, Zy8, ilT, Zy6 L0 a1, Zy7 L0 a1, Zk8, Zj5⟩

theorem Zqm (v2 N : Nat) : (Zgq L0 a1 N).Ok Tryz.prog Ze (.h1m0 v2 : Zau) (Zde L0 a1 N v2) := by
 unfold Zde;refine ok_ite (fun g0 => ?_) fun g0 => ?_
 ·
  refine ok_ite (fun g1 => ?_) fun g1 => ?_
  ·
   have w2 := lkG RB L0 (0 + (v2 * 4)) v2 0 4 4 <| kB v2 L0.length <| xkI (v2 : Int) v2 <| bhY g1 <| bhY g0 Zg
   refine ok_bind fun z2 c2 => ?_;cases z2 with
   | r0 =>
    refine oi fun g3 => ?_;exact Mach.okN0 [] (vkW ((v2 : Int) + 1) (((v2 + 1) : Nat) : Int) <| kK (tQ (Zid c2) 0) w2) bE
   | r1 y2_0 =>
    refine oi fun g3 => ?_;exact Mach.okN0 [] (vkW ((v2 : Int) + 1) (((v2 + 1) : Nat) : Int) <| kK (tQ (Zid c2) 0) w2) bE
  exact Mach.okF0 [] (bhN g1 <| bhY g0 Zg) bE
 exact Mach.okF0 [] (bhN g0 Zg) bE

theorem Zqn (v2 : List RG) (v3 N : Nat) : (Zgq L0 a1 N).Ok Tryz.prog Ze (.h1m1 v2 v3 : Zau) (Zdf L0 a1 N v2 v3) := by
 unfold Zdf;refine ok_ite (fun g0 => ?_) fun g0 => ?_
 ·
  refine ok_ite (fun g1 => ?_) fun g1 => ?_
  ·
   have w2 := lkG RB L0 (0 + (v3 * 4)) v3 0 4 4 <| kB v3 L0.length <| xkI (v3 : Int) v3 <| bhY g1 <| bhY g0 Zg
   refine ok_bind fun z2 c2 => ?_;cases z2 with
   | r0 y2_0 =>
    refine oi fun g3 => ?_;exact Mach.okN0 [] (vkW ((v3 : Int) + 1) (((v3 + 1) : Nat) : Int) <| kK (tQ (Zg7 c2) 0) w2) bE
   | r1 y2_0 y2_1 =>
    refine oi fun g3 => ?_;exact Mach.okN0 [] (vkW ((v3 : Int) + 1) (((v3 + 1) : Nat) : Int) <| kK (tQ (Zg7 c2) 0) w2) bE
  exact Mach.okF0 [] (bhN g1 <| bhY g0 Zg) bE
 exact Mach.okF0 [] (bhN g0 Zg) bE

noncomputable abbrev κg := (vi ((0 : Nat) : Int) : Value)
theorem Zuq (N : Nat) : (Zgq L0 a1 N).Enter Tryz.prog Ze #[ms RB L0, vi a1] (Zjv L0 a1 N) := by unfold Zjv;exact enH [] [some (ms RB L0), some (vi a1), some (vn), some (vq)] Zg (tC (tC (tC (tC (tE) ⟨Eq.trans (show κg = vq from ci) (by rfl), by rfl⟩)))) bE

theorem ZrA (N : Nat) (r : ZaG) (h : ZfG L0 a1 N = some r) : LSpec Tryz.prog 123 #[ms RB L0, vi a1] [] (Zk8 r) (Zj5 r) :=
 Mach.specT Zv (Zgq L0 a1 N) Tryz.func123 (fun x => (show (Zgq L0 a1 N).Ok Tryz.prog Ze x (Ze9 L0 a1 N x) from by
  cases x with
  | h1m0 v2 => exact Zqm L0 a1 v2 N
  | h1m1 v2 v3 => exact Zqn L0 a1 v2 v3 N
  )) (Zuq L0 a1 N) h

theorem Zwh {L0 : List RI} {a1 : Int} {N : Nat} {r : ZaG} (h : ZfG L0 a1 N = some r) : LSpec Tryz.prog 123 #[ms RB L0, vi a1] [] (Zk8 r) (Zj5 r) := ZrA L0 a1 N r h

noncomputable def Zj6 : Zet → Value
 | .r0 w0 w1 => Value.agg #[vi w0, vi w1]
noncomputable def ZiF : Zet → List (Option AObj)
 | .r0 w0 w1 => []

theorem Zte (N : Nat) : Fx Tryz.prog Ze Tryz.f97 [] #[ms RB L0, vi a1] (Zj6) (ZiF) (Zbk L0 a1 N) := by
 unfold Zbk;refine Zx (fun z0 c0 => ?_);cases z0 with
 | r0 =>
  exact Zd
 | r1 y0_0 =>
  refine Zb (fun _ => Zd) (fun g1 => ?_);refine Zb (fun g2 => ?_) (fun _ => Zd);exact Zq [] (lkG RA y0_0 (0 + ((y0_0.length - 1) * 2)) (y0_0.length - 1) 0 2 2 <| kB (y0_0.length - 1) y0_0.length <| xkI (((y0_0.length - 1) : Nat) : Int) (y0_0.length - 1) <| vkW ((y0_0.length : Int) - 1) (((y0_0.length - 1) : Nat) : Int) <| bhF g1 <| kK (tQ (Zwh c0) 1) Zg) bE

theorem Zqo (N : Nat) (r : Zet) (h : Zbk L0 a1 N = some r) : LSpec Tryz.prog 97 #[ms RB L0, vi a1] [] (Zj6 r) (ZiF r) :=
 ZI Zv Tryz.func97 (by kernel_rfl) (by kernel_rfl) (fun r => by cases r <;> exact ZP _ rfl) (Zte L0 a1 N) h

end
theorem Zfi {L0 : List RI} {a1 : Int} {N : Nat} {r : Zet} (h : Zbk L0 a1 N = some r) : LSpec Tryz.prog 97 #[ms RB L0, vi a1] [] (Zj6 r) (ZiF r) := Zqo L0 a1 N r h

noncomputable def Zk9 : Zbl → Value
 | .r0 => vi (-1 : Int)
noncomputable def Zj7 : Zbl → List (Option AObj)
 | .r0 => []

def Zwi : ZG → Nat
 | .h1m0 v1 => 1
 | .h1m1 v1 v2 => 1
 | .h2m0 v1 => 2
section
variable (L0 : List RI)
noncomputable def Zy9 : ZG → List (Nat × Value)
 | .h1m0 v1 => [(0, ms RB L0), (3, vn), (4, vi (v1 : Int))]
 | .h1m1 v1 v2 => [(0, ms RB L0), (3, ms RA v1), (4, vi (v2 : Int))]
 | .h2m0 v1 => [(0, ms RB L0), (7, vi (v1 : Int))]
noncomputable def ZyA (L0 : List RI) : ZG → List (Option AObj)
 | .h1m0 v1 => []
 | .h1m1 v1 v2 => []
 | .h2m0 v1 => []

noncomputable def ZyB : Nat → Code × List ZL
 | 1 => Z5 [1, 1, 1, 0, 1, 3] (ZM Tryz.f72) []
 | 2 => Z5 [1, 1, 1, 1, 1, 0, 1, 3] (ZM Tryz.f72) []
 | _ => (.skip, [])

noncomputable def Zfj (N : Nat) : Mach := ⟨Tryz.f72, [], ZG, Zbl, ZeA L0 N, Zwi, ZyB, ilT, Zy9 L0, ZyA L0, Zk9, Zj7⟩

theorem Zqp (v1 N : Nat) : (Zfj L0 N).Ok Tryz.prog Ze (.h1m0 v1 : ZG) (Zdg L0 N v1) := by
 unfold Zdg;refine ok_ite (fun g0 => ?_) fun g0 => ?_
 ·
  have w1 := lkG RB L0 (0 + (v1 * 4)) v1 0 4 4 <| kB v1 L0.length <| xkI (v1 : Int) v1 <| bhY g0 Zg
  refine ok_bind fun z1 c1 => ?_;cases z1 with
  | r0 =>
   refine ok_bind fun z2 c2 => ?_;cases z2 with
   | r0 y2_0 =>
    refine ok_ite (fun _ => ok_none) (fun g3 => ?_);refine oi fun g4 => ?_;exact Mach.okN0 [] (vkW ((v1 : Int) + 1) (((v1 + 1) : Nat) : Int) <| bkX ((!y2_0)) false nbf <| kK (tQ (Zg6 c2) 0) <| lkG RB L0 (0 + (v1 * 4)) v1 0 4 4 <| kB v1 L0.length <| xkI (v1 : Int) v1 <| kK (tQ (Zid c1) 0) w1) bE
  | r1 y1_0 =>
   refine ok_bind fun z2 c2 => ?_;cases z2 with
   | r0 y2_0 =>
    refine ok_ite (fun _ => ok_none) (fun g3 => ?_);refine ok_ite (fun _ => ok_none) (fun g4 => ?_);refine oi fun g5 => ?_;exact Mach.okN0 [] (vkW ((v1 : Int) + 1) (((v1 + 1) : Nat) : Int) <| bkX ((!y1_0)) false nbf <| bkX ((!y2_0)) false nbf <| kK (tQ (Zg6 c2) 0) <| lkG RB L0 (0 + (v1 * 4)) v1 0 4 4 <| kB v1 L0.length <| xkI (v1 : Int) v1 <| kK (tQ (Zid c1) 0) w1) bE
 exact okH [] [some (ms RB L0), some (vq)] (bhN g0 Zg) (tC (tC (tE) ⟨Eq.trans (show κg = vq from ci) (by rfl), by rfl⟩)) bE

theorem Zqq (v1 : List RG) (v2 N : Nat) : (Zfj L0 N).Ok Tryz.prog Ze (.h1m1 v1 v2 : ZG) (Zdh L0 N v1 v2) := by
 unfold Zdh;refine ok_ite (fun g0 => ?_) fun g0 => ?_
 ·
  have w1 := lkG RB L0 (0 + (v2 * 4)) v2 0 4 4 <| kB v2 L0.length <| xkI (v2 : Int) v2 <| bhY g0 Zg
  refine ok_bind fun z1 c1 => ?_;cases z1 with
  | r0 y1_0 =>
   refine ok_bind fun z2 c2 => ?_;cases z2 with
   | r0 y2_0 =>
    refine ok_ite (fun _ => ok_none) (fun g3 => ?_);refine oi fun g4 => ?_;exact Mach.okN0 [] (vkW ((v2 : Int) + 1) (((v2 + 1) : Nat) : Int) <| bkX ((!y2_0)) false nbf <| kK (tQ (Zg6 c2) 0) <| lkG RB L0 (0 + (v2 * 4)) v2 0 4 4 <| kB v2 L0.length <| xkI (v2 : Int) v2 <| kK (tQ (Zg7 c1) 0) w1) bE
  | r1 y1_0 y1_1 =>
   refine ok_bind fun z2 c2 => ?_;cases z2 with
   | r0 y2_0 =>
    refine ok_ite (fun _ => ok_none) (fun g3 => ?_);refine ok_ite (fun _ => ok_none) (fun g4 => ?_);refine oi fun g5 => ?_;exact Mach.okN0 [] (vkW ((v2 : Int) + 1) (((v2 + 1) : Nat) : Int) <| bkX ((!y1_1)) false nbf <| bkX ((!y2_0)) false nbf <| kK (tQ (Zg6 c2) 0) <| lkG RB L0 (0 + (v2 * 4)) v2 0 4 4 <| kB v2 L0.length <| xkI (v2 : Int) v2 <| kK (tQ (Zg7 c1) 0) w1) bE
 refine ok_ite (fun _ => ok_none) (fun g1 => ?_);exact okH [] [some (ms RB L0), some (vq)] (bkN ((v1.length : Int) > 0) <| bhN g0 Zg) (tC (tC (tE) ⟨Eq.trans (show κg = vq from ci) (by rfl), by rfl⟩)) bE

theorem Zqr (v1 N : Nat) : (Zfj L0 N).Ok Tryz.prog Ze (.h2m0 v1 : ZG) (Zdi L0 N v1) := by
 unfold Zdi;refine ok_ite (fun g0 => ?_) fun g0 => ?_
 ·
  have w1 := lkG RB L0 (0 + (v1 * 4)) v1 0 4 4 <| kB v1 L0.length <| xkI (v1 : Int) v1 <| bhY g0 Zg
  refine ok_ite (fun g1 => ?_) fun g1 => ?_
  ·
   refine ok_ite (fun _ => ok_none) (fun g2 => ?_);refine ok_bind fun z3 c3 => ?_;cases z3 with
   | r0 y3_0 y3_1 =>
    refine ok_bind fun z4 c4 => ?_;cases z4 with
    | r0 y4_0 y4_1 =>
     refine ok_ite (fun _ => ok_none) (fun g5 => ?_);refine oi fun g6 => ?_;exact Mach.okN0 [] (vkW ((v1 : Int) + 1) (((v1 + 1) : Nat) : Int) <| bkX ((!((y3_0 == y4_0) && ((y3_1 == y4_1) && true)))) false (by rw [Bool.not_eq_false']; first | (simp only [beq_self_eq_true, Bool.and_self]; done) | (simp only [Bool.and_true, Bool.and_eq_true, beq_iff_eq] <;> first | omega | (simp_all; done) | grind)) <| kK (tQ (Zfi c4) 1) <| kK (tQ (Zfi c3) 1) <| bkN ((L0.getD v1 RI.z).a1 > (L0.length : Int)) <| bhT g1 w1) bE
  refine ok_ite (fun g2 => ?_) fun g2 => ?_
  ·
   refine ok_ite (fun _ => ok_none) (fun g3 => ?_);refine ok_bind fun z4 c4 => ?_;cases z4 with
   | r0 y4_0 y4_1 =>
    refine ok_bind fun z5 c5 => ?_;cases z5 with
    | r0 y5_0 y5_1 =>
     refine ok_ite (fun _ => ok_none) (fun g6 => ?_);refine oi fun g7 => ?_;exact Mach.okN0 [] (vkW ((v1 : Int) + 1) (((v1 + 1) : Nat) : Int) <| bkX ((!((y4_0 == y5_0) && ((y4_1 == y5_1) && true)))) false (by rw [Bool.not_eq_false']; first | (simp only [beq_self_eq_true, Bool.and_self]; done) | (simp only [Bool.and_true, Bool.and_eq_true, beq_iff_eq] <;> first | omega | (simp_all; done) | grind)) <| kK (tQ (Zfi c5) 1) <| kK (tQ (Zfi c4) 1) <| bkN ((L0.getD v1 RI.z).a2 > (L0.length : Int)) <| bhT g2 <| bhF g1 w1) bE
  refine oi fun g3 => ?_;exact Mach.okN0 [] (vkW ((v1 : Int) + 1) (((v1 + 1) : Nat) : Int) <| bhF g2 <| bhF g1 w1) bE
 exact Mach.okF0 [] (bhN g0 Zg) bE

theorem Zur (N : Nat) : (Zfj L0 N).Enter Tryz.prog Ze #[ms RB L0] (ZgX L0 N) := by unfold ZgX;refine en_ite (fun _ => en_none) (fun g0 => ?_);refine en_ite (fun _ => en_none) (fun g1 => ?_);exact enH [] [some (ms RB L0), some (vn), some (vq)] (bkN ((L0.length : Int) > 512) <| bhN g0 Zg) (tC (tC (tC (tE) ⟨Eq.trans (show κg = vq from ci) (by rfl), by rfl⟩))) bE

theorem ZrB (N : Nat) (r : Zbl) (h : ZfH L0 N = some r) : LSpec Tryz.prog 72 #[ms RB L0] [] (Zk9 r) (Zj7 r) :=
 Mach.specT Zv (Zfj L0 N) Tryz.func72 (fun x => (show (Zfj L0 N).Ok Tryz.prog Ze x (ZeA L0 N x) from by
  cases x with
  | h1m0 v1 => exact Zqp L0 v1 N
  | h1m1 v1 v2 => exact Zqq L0 v1 v2 N
  | h2m0 v1 => exact Zqr L0 v1 N
  )) (Zur L0 N) h

theorem Zwj {L0 : List RI} {N : Nat} {r : Zbl} (h : ZfH L0 N = some r) : LSpec Tryz.prog 72 #[ms RB L0] [] (Zk9 r) (Zj7 r) := ZrB L0 N r h

noncomputable def ZkA : ZeX → Value
 | .r0 => vq
noncomputable def Zj8 : ZeX → List (Option AObj)
 | .r0 => []

theorem Zus (N : Nat) : Fx Tryz.prog Ze Tryz.f41 [] #[ms RB L0] (ZkA) (Zj8) (ZaN L0 N) := by
 unfold ZaN;refine Zx (fun z0 c0 => ?_);cases z0 with
 | r0 =>
  exact Zq [] (kK (tQ (Zwj c0) 0) Zg) bE

theorem ZrC (N : Nat) (r : ZeX) (h : ZaN L0 N = some r) : LSpec Tryz.prog 41 #[ms RB L0] [] (ZkA r) (Zj8 r) :=
 ZI Zv Tryz.func41 (by kernel_rfl) (by kernel_rfl) (fun r => by cases r <;> exact ZP _ rfl) (Zus L0 N) h

end
theorem Zj9 {L0 : List RI} {N : Nat} {r : ZeX} (h : ZaN L0 N = some r) : LSpec Tryz.prog 41 #[ms RB L0] [] (ZkA r) (Zj8 r) := ZrC L0 N r h

noncomputable def ZnD : Za4 → Value
 | .r0 => vn
 | .r1 w0 => vs 0 0 w0.length w0.length
noncomputable def Zmq : Za4 → List (Option AObj)
 | .r0 => []
 | .r1 w0 => [some (.cells (Za RA w0) 44)]

noncomputable def ZoY : Za4 → Value
 | .r0 => vn
 | .r1 w0 => ms RA w0
noncomputable def ZnE : Za4 → List (Option AObj)
 | .r0 => []
 | .r1 w0 => []

def Zwk : Zav → Nat
 | .h1m0 => 1
 | .h1m1 v1 v2 v3 => 1
noncomputable def ZyC (a0 a1 : Int) : Zav → List (Nat × Value)
 | .h1m0 => [(0, vi a0), (1, vi a1), (5, vn), (6, vq)]
 | .h1m1 v1 v2 v3 => [(0, vi a0), (1, vi v1), (5, vs 0 0 v2.length v2.length), (6, vi (v3 : Int))]
noncomputable def ZyD (a0 a1 : Int) : Zav → List (Option AObj)
 | .h1m0 => []
 | .h1m1 v1 v2 v3 => [some (.cells (Za RA v2) 44)]

noncomputable def ZyE : Nat → Code × List ZL
 | 1 => Z5 [1, 1, 0, 1, 3] (ZM Tryz.f98) []
 | _ => (.skip, [])

section
variable (a0 a1 : Int) (N : Nat)
noncomputable def Zgr : Mach := ⟨Tryz.f98, [], Zav, Za4, ZhH a0 a1 N, Zwk, ZyE, ilT, ZyC a0 a1, ZyD a0 a1, ZnD, Zmq⟩

theorem Zqs : (Zgr a0 a1 N).Ok Tryz.prog Ze (.h1m0 : Zav) (Zhn a0 a1 N) := by
 unfold Zhn;refine oi fun g0 => ?_;refine oi fun g1 => ?_;refine ok_ite (fun g2 => ?_) fun g2 => ?_
 ·
  refine ok_ite (fun g3 => ?_) fun g3 => ?_
  · refine oi fun g4 => ?_;exact okN [2] [some (vi a0), some (vi (a1 / 2)), some (vs 2 0 1 1), some (vi 1)] (vkV a1 2 <| bhT g3 <| vkM a1 2 <| bhY g2 Zg) (tC (tC (tC (tC (tE) ⟨Eq.trans (show κN = vi 1 from ci) (by rfl), by rfl⟩) ⟨Eq.trans (show (vs 0 0 ([(⟨2, 0⟩ : RG)] : List RG).length ([(⟨2, 0⟩ : RG)] : List RG).length : Value) = vs 0 0 1 1 from (Zi rfl eqA eqA)) (by rfl), by rfl⟩))) (bC (o := .cells [vi 2, vq] 44) (Zz (E := RA) _ (L := ([(⟨2, 0⟩ : RG)] : List RG)) _ (show ([vi 2, vq] : List Value) = Za RA ([(⟨2, 0⟩ : RG)] : List RG) from rfl)) <| bE)
  refine oi fun g4 => ?_;exact okN [2] [some (vi a0), some (vi (a1 / 2)), some (vs 2 0 1 1), some (vi 1)] (vkV a1 2 <| bhF g3 <| vkM a1 2 <| bhY g2 Zg) (tC (tC (tC (tC (tE) ⟨Eq.trans (show κN = vi 1 from ci) (by rfl), by rfl⟩) ⟨Eq.trans (show (vs 0 0 ([(⟨1, 0⟩ : RG)] : List RG).length ([(⟨1, 0⟩ : RG)] : List RG).length : Value) = vs 0 0 1 1 from (Zi rfl eqA eqA)) (by rfl), by rfl⟩))) (bC (o := .cells [vi 1, vq] 44) (Zz (E := RA) _ (L := ([(⟨1, 0⟩ : RG)] : List RG)) _ (show ([vi 1, vq] : List Value) = Za RA ([(⟨1, 0⟩ : RG)] : List RG) from rfl)) <| bE)
 exact Mach.okF0 [] (bhN g2 Zg) bE

theorem Zqt (a0 a1 v1 : Int) (v2 : List RG) (v3 N : Nat) : (Zgr a0 a1 N).Ok Tryz.prog Ze (.h1m1 v1 v2 v3 : Zav) (Zho a0 a1 N v1 v2 v3) := by
 unfold Zho;refine oi fun g0 => ?_;refine oi fun g1 => ?_;refine ok_ite (fun g2 => ?_) fun g2 => ?_
 ·
  refine ok_ite (fun g3 => ?_) fun g3 => ?_
  · refine oi fun g4 => ?_;refine oi fun g5 => ?_;refine oi fun g6 => ?_;exact okN [3] [some (vi a0), some (vi (v1 / 2)), some (vs 3 0 (v2.length + 1) (v2.length + 1)), some (vi (((v3 + 1) : Nat) : Int))] (vkW ((v3 : Int) + 1) (((v3 + 1) : Nat) : Int) <| vkV v1 2 <| tW 2 (.ap 1 [vi 2, vq] (Za RA (v2 ++ ([(⟨2, 0⟩ : RG)] : List RG)))) <| kA RA v2 (⟨2, 0⟩ : RG) <| bhT g3 <| vkM v1 2 <| bhY g2 Zg) (tC (tC (tC (tC (tE)) ⟨Eq.trans (show (vs 0 0 (v2 ++ ([(⟨2, 0⟩ : RG)] : List RG)).length (v2 ++ ([(⟨2, 0⟩ : RG)] : List RG)).length : Value) = vs 0 0 (v2.length + 1) (v2.length + 1) from (Zi rfl eqA eqA)) (by rfl), by rfl⟩))) (bR <| bE)
  refine oi fun g4 => ?_;refine oi fun g5 => ?_;refine oi fun g6 => ?_;exact okN [3] [some (vi a0), some (vi (v1 / 2)), some (vs 3 0 (v2.length + 1) (v2.length + 1)), some (vi (((v3 + 1) : Nat) : Int))] (vkW ((v3 : Int) + 1) (((v3 + 1) : Nat) : Int) <| vkV v1 2 <| tW 2 (.ap 1 [vi 1, vq] (Za RA (v2 ++ ([(⟨1, 0⟩ : RG)] : List RG)))) <| kA RA v2 (⟨1, 0⟩ : RG) <| bhF g3 <| vkM v1 2 <| bhY g2 Zg) (tC (tC (tC (tC (tE)) ⟨Eq.trans (show (vs 0 0 (v2 ++ ([(⟨1, 0⟩ : RG)] : List RG)).length (v2 ++ ([(⟨1, 0⟩ : RG)] : List RG)).length : Value) = vs 0 0 (v2.length + 1) (v2.length + 1) from (Zi rfl eqA eqA)) (by rfl), by rfl⟩))) (bR <| bE)
 exact Mach.okF0 [0] (bhN g2 Zg) (bR <| bE)

theorem Zut : (Zgr a0 a1 N).Enter Tryz.prog Ze #[vi a0, vi a1] (Zjw a0 a1 N) := by unfold Zjw;exact Mach.enH0 [] Zg bE

theorem Zqu (r : Za4) (h : ZiP a0 a1 N = some r) : LSpec Tryz.prog 98 #[vi a0, vi a1] [] (ZnD r) (Zmq r) :=
 Mach.specT Zv (Zgr a0 a1 N) Tryz.func98 (fun x => (show (Zgr a0 a1 N).Ok Tryz.prog Ze x (ZhH a0 a1 N x) from by
  cases x with
  | h1m0 => exact Zqs a0 a1 N
  | h1m1 v1 v2 v3 => exact Zqt a0 a1 v1 v2 v3 N
  )) (Zut a0 a1 N) h

theorem ZrD (r : Za4) (h : ZiP a0 a1 N = some r) : LSpec Tryz.prog 98 #[vi a0, vi a1] [] (ZoY r) (ZnE r) := by
 have h0 := Zqu a0 a1 N r h;cases r with
 | r0 => exact h0
 | r1 w0 => exact (LSpec.frzv (E := RA) (L := w0) (post := []) (v2 := ms RA w0) h0 (show 0 ≤ 0 from by decide) (show 0 < 1000000000 from by decide) trivial rfl rfl rfl)

end
theorem Zwl {a0 a1 : Int} {N : Nat} {r : Za4} (h : ZiP a0 a1 N = some r) : LSpec Tryz.prog 98 #[vi a0, vi a1] [] (ZoY r) (ZnE r) := ZrD a0 a1 N r h

section
variable (a0 a1 a2 a3 a4 a5 : Int)
noncomputable def ZjA : Zeu → Value
 | .r0 w7 => Value.agg #[vi 2, vi ((a0 * 1048576) + a1), vi a0, vi a2, vi a3, vi a4, vi a5, ms RA w7]
noncomputable def ZiG : Zeu → List (Option AObj)
 | .r0 w7 => []

theorem Ztf (N : Nat) : Fx Tryz.prog Ze Tryz.f73 [] #[vi a0, vi a1, vi a2, vi a3, vi a4, vi a5] (ZjA a0 a1 a2 a3 a4 a5) (ZiG) (Zgh a0 a1 a2 a3 a4 a5 N) := by
 unfold Zgh;refine Zb (fun _ => Zd) (fun g0 => ?_);refine Zb (fun _ => Zd) (fun g1 => ?_);refine Zb (fun _ => Zd) (fun g2 => ?_);refine Zb (fun _ => Zd) (fun g3 => ?_);refine Zx (fun z4 c4 => ?_);cases z4 with
 | r0 =>
  exact Zd
 | r1 y4_0 =>
  exact Zq [] (kKg 4 (tQ (Zwl c4) 4) <| vkW ((a0 * 1048576) + a1) ((a0 * 1048576) + a1) <| vkW (a0 * 1048576) (a0 * 1048576) <| bkN (a1 ≥ 1048576) <| bhN g2 <| bkN (a0 > 1073741824) <| bhN g0 Zg) bE

theorem Zqv (N : Nat) (r : Zeu) (h : Zgh a0 a1 a2 a3 a4 a5 N = some r) : LSpec Tryz.prog 73 #[vi a0, vi a1, vi a2, vi a3, vi a4, vi a5] [] (ZjA a0 a1 a2 a3 a4 a5 r) (ZiG r) :=
 ZI Zv Tryz.func73 (by kernel_rfl) (by kernel_rfl) (fun r => by cases r <;> exact ZP _ rfl) (Ztf a0 a1 a2 a3 a4 a5 N) h

end
theorem Zuu {a0 a1 a2 a3 a4 a5 : Int} {N : Nat} {r : Zeu} (h : Zgh a0 a1 a2 a3 a4 a5 N = some r) : LSpec Tryz.prog 73 #[vi a0, vi a1, vi a2, vi a3, vi a4, vi a5] [] (ZjA a0 a1 a2 a3 a4 a5 r) (ZiG r) := Zqv a0 a1 a2 a3 a4 a5 N r h

section
variable (a0 : Int)
noncomputable def Zrd : ZdT → Value
 | .r0 w1 => Value.tuple #[Value.agg #[vi a0, vs 0 0 w1.length w1.length, vn], vq]
noncomputable def ZoZ : ZdT → List (Option AObj)
 | .r0 w1 => [some (.cells (Za ZZ w1) 149)]

noncomputable def Ztg : ZdT → Value
 | .r0 w1 => Value.tuple #[Value.agg #[vi a0, ms ZZ w1, vn], vq]
noncomputable def Zre : ZdT → List (Option AObj)
 | .r0 w1 => []

theorem ZyF (N : Nat) : Fx Tryz.prog Ze Tryz.f43 [] #[vi a0] (Zrd a0) (ZoZ) (Zgi a0 N) := by
 unfold Zgi;refine Zb (fun _ => Zd) (fun g0 => ?_);refine Zb (fun _ => Zd) (fun g1 => ?_);refine Zx (fun z2 c2 => ?_);cases z2 with
 | r0 y2_0 =>
  exact fxC [1] (Value.tuple #[Value.agg #[vi a0, vs 1 0 1 1, vn], vq]) (kKg 1 (tQ (Zuu c2) 1) <| bkN (a0 > 65536) <| bhN g0 Zg) (bC (o := .cells [vi 1, vi 2, vi (((1 : Int) * 1048576) + 1), vi 1, vi 16, vi 255, vi 2, vq, ms RA y2_0] 149) (Zz (E := ZZ) _ (L := ([(⟨1, 2, (((1 : Int) * 1048576) + 1), 1, 16, 255, 2, 0, y2_0⟩ : RK)] : List RK)) _ (show ([vi 1, vi 2, vi (((1 : Int) * 1048576) + 1), vi 1, vi 16, vi 255, vi 2, vq, ms RA y2_0] : List Value) = Za ZZ ([(⟨1, 2, (((1 : Int) * 1048576) + 1), 1, 16, 255, 2, 0, y2_0⟩ : RK)] : List RK) from rfl)) <| bE) (hv := ⟨Eq.trans (show (Value.tuple #[Value.agg #[vi a0, vs 0 0 ([(⟨1, 2, (((1 : Int) * 1048576) + 1), 1, 16, 255, 2, 0, y2_0⟩ : RK)] : List RK).length ([(⟨1, 2, (((1 : Int) * 1048576) + 1), 1, 16, 255, 2, 0, y2_0⟩ : RK)] : List RK).length, vn], vq] : Value) = Value.tuple #[Value.agg #[vi a0, vs 0 0 1 1, vn], vq] from (Zax (Zw (ZbU (cr (Zw (Zi rfl eqA eqA) (cr rfl)))) (cr rfl)))) (by rfl), by rfl⟩)

theorem Zth (N : Nat) (r : ZdT) (h : Zgi a0 N = some r) : LSpec Tryz.prog 43 #[vi a0] [] (Zrd a0 r) (ZoZ r) :=
 ZI Zv Tryz.func43 (by kernel_rfl) (by kernel_rfl) (fun r => by cases r <;> exact ZP _ rfl) (ZyF a0 N) h

theorem Zuv (N : Nat) (r : ZdT) (h : Zgi a0 N = some r) : LSpec Tryz.prog 43 #[vi a0] [] (Ztg a0 r) (Zre r) := by
 have h0 := Zth a0 N r h;cases r with
 | r0 w1 => exact (LSpec.frzv (E := ZZ) (L := w1) (post := []) (v2 := Value.tuple #[Value.agg #[vi a0, ms ZZ w1, vn], vq]) h0 (show 0 ≤ 0 from by decide) (show 0 < 1000000000 from by decide) trivial rfl rfl rfl)

end
theorem ZiQ {a0 : Int} {N : Nat} {r : ZdT} (h : Zgi a0 N = some r) : LSpec Tryz.prog 43 #[vi a0] [] (Ztg a0 r) (Zre r) := Zuv a0 N r h

noncomputable def Zlj : Zal → Value
 | .r0 => vn
 | .r1 w0 => vs 0 0 w0.length w0.length
noncomputable def ZkB : Zal → List (Option AObj)
 | .r0 => []
 | .r1 w0 => [some (.cells (Za RC w0) 97)]

noncomputable def Zmr : Zal → Value
 | .r0 => ms RC ([] : List RJ)
 | .r1 w0 => ms RC w0
noncomputable def Zlk : Zal → List (Option AObj)
 | .r0 => []
 | .r1 w0 => []

def Zti : Zae → Nat
 | .h1m0 v0 => 1
 | .h1m1 v0 v1 => 1
noncomputable def Zuw (a0 : Int) (L1 : List RK) : Zae → List (Nat × Value)
 | .h1m0 v0 => [(1, vp 0 0), (3, vn), (4, vi (v0 : Int))]
 | .h1m1 v0 v1 => [(1, vp 0 0), (3, vs 1 0 v0.length v0.length), (4, vi (v1 : Int))]
section
variable (a0 : Int) (L1 : List RK)
noncomputable def Zux : Zae → List (Option AObj)
 | .h1m0 v0 => [some (.cells [vi a0, ms ZZ L1, vn] 113)]
 | .h1m1 v0 v1 => [some (.cells [vi a0, ms ZZ L1, vn] 113), some (.cells (Za RC v0) 97)]

noncomputable def Zuy : Nat → Code × List ZL
 | 1 => Z5 [1, 1, 0, 1, 3] (ZM Tryz.f44) []
 | _ => (.skip, [])

noncomputable def Zfk (N : Nat) : Mach := ⟨Tryz.f44, [], Zae, Zal, ZgH a0 L1 N, Zti, Zuy, ilT, Zuw a0 L1, Zux a0 L1, Zlj, ZkB⟩

theorem Zod (v0 N : Nat) : (Zfk a0 L1 N).Ok Tryz.prog Ze (.h1m0 v0 : Zae) (Zgj a0 L1 N v0) := by
 unfold Zgj;refine ok_ite (fun g0 => ?_) fun g0 => ?_
 ·
  have w1 := tL 2 [.i (L1.getD v0 RK.z).a6] <| kG ZZ L1 ((((0 + (v0 * 9)) + 1) + 2) + 3) v0 6 1 9 <| kB v0 L1.length <| xkI (v0 : Int) v0 <| bhY g0 Zg
  refine ok_ite (fun g1 => ?_) fun g1 => ?_
  · refine oi fun g2 => ?_;exact okN [0, 2] [some (vp 0 0), some (vs 2 0 1 1), some (vi (((v0 + 1) : Nat) : Int))] (vkW ((v0 : Int) + 1) (((v0 + 1) : Nat) : Int) <| tL 1 [.i (L1.getD v0 RK.z).a1, .i (L1.getD v0 RK.z).a2, .i (L1.getD v0 RK.z).a3, .i (L1.getD v0 RK.z).a4, .i (L1.getD v0 RK.z).a5, .i (L1.getD v0 RK.z).a6, .i (L1.getD v0 RK.z).a7, (mc RA (L1.getD v0 RK.z).a8)] <| kG ZZ L1 ((0 + (v0 * 9)) + 1) v0 1 8 9 <| kB v0 L1.length <| xkI (v0 : Int) v0 <| bhD g1 w1) (tC (tC (tC (tE)) ⟨Eq.trans (show (vs 1 0 ([(⟨(L1.getD v0 RK.z).a1, (L1.getD v0 RK.z).a2, (L1.getD v0 RK.z).a3, (L1.getD v0 RK.z).a4, (L1.getD v0 RK.z).a5, (L1.getD v0 RK.z).a6, (L1.getD v0 RK.z).a7, (L1.getD v0 RK.z).a8⟩ : RJ)] : List RJ).length ([(⟨(L1.getD v0 RK.z).a1, (L1.getD v0 RK.z).a2, (L1.getD v0 RK.z).a3, (L1.getD v0 RK.z).a4, (L1.getD v0 RK.z).a5, (L1.getD v0 RK.z).a6, (L1.getD v0 RK.z).a7, (L1.getD v0 RK.z).a8⟩ : RJ)] : List RJ).length : Value) = vs 1 0 1 1 from (Zi rfl eqA eqA)) (by rfl), by rfl⟩)) (bS [vi a0, ms ZZ L1, vn] <| bC (o := .cells [vi (L1.getD v0 RK.z).a1, vi (L1.getD v0 RK.z).a2, vi (L1.getD v0 RK.z).a3, vi (L1.getD v0 RK.z).a4, vi (L1.getD v0 RK.z).a5, vi (L1.getD v0 RK.z).a6, vi (L1.getD v0 RK.z).a7, ms RA (L1.getD v0 RK.z).a8] 97) (Zz (E := RC) _ (L := ([(⟨(L1.getD v0 RK.z).a1, (L1.getD v0 RK.z).a2, (L1.getD v0 RK.z).a3, (L1.getD v0 RK.z).a4, (L1.getD v0 RK.z).a5, (L1.getD v0 RK.z).a6, (L1.getD v0 RK.z).a7, (L1.getD v0 RK.z).a8⟩ : RJ)] : List RJ)) _ (show ([vi (L1.getD v0 RK.z).a1, vi (L1.getD v0 RK.z).a2, vi (L1.getD v0 RK.z).a3, vi (L1.getD v0 RK.z).a4, vi (L1.getD v0 RK.z).a5, vi (L1.getD v0 RK.z).a6, vi (L1.getD v0 RK.z).a7, ms RA (L1.getD v0 RK.z).a8] : List Value) = Za RC ([(⟨(L1.getD v0 RK.z).a1, (L1.getD v0 RK.z).a2, (L1.getD v0 RK.z).a3, (L1.getD v0 RK.z).a4, (L1.getD v0 RK.z).a5, (L1.getD v0 RK.z).a6, (L1.getD v0 RK.z).a7, (L1.getD v0 RK.z).a8⟩ : RJ)] : List RJ) from rfl)) <| bE)
  refine oi fun g2 => ?_;exact Mach.okN0 [0] (vkW ((v0 : Int) + 1) (((v0 + 1) : Nat) : Int) <| bkE ((L1.getD v0 RK.z).a6) 0 w1) (bS [vi a0, ms ZZ L1, vn] <| bE)
 exact Mach.okF0 [] (bhN g0 Zg) bE

theorem Zoe (v0 : List RJ) (v1 N : Nat) : (Zfk a0 L1 N).Ok Tryz.prog Ze (.h1m1 v0 v1 : Zae) (Zgk a0 L1 N v0 v1) := by
 unfold Zgk;refine ok_ite (fun g0 => ?_) fun g0 => ?_
 ·
  have w1 := tL 2 [.i (L1.getD v1 RK.z).a6] <| kG ZZ L1 ((((0 + (v1 * 9)) + 1) + 2) + 3) v1 6 1 9 <| kB v1 L1.length <| xkI (v1 : Int) v1 <| bhY g0 Zg
  refine ok_ite (fun g1 => ?_) fun g1 => ?_
  · refine oi fun g2 => ?_;refine oi fun g3 => ?_;exact okN [0, 3] [some (vp 0 0), some (vs 3 0 (v0.length + 1) (v0.length + 1)), some (vi (((v1 + 1) : Nat) : Int))] (vkW ((v1 : Int) + 1) (((v1 + 1) : Nat) : Int) <| wkA RC v0 (⟨(L1.getD v1 RK.z).a1, (L1.getD v1 RK.z).a2, (L1.getD v1 RK.z).a3, (L1.getD v1 RK.z).a4, (L1.getD v1 RK.z).a5, (L1.getD v1 RK.z).a6, (L1.getD v1 RK.z).a7, (L1.getD v1 RK.z).a8⟩ : RJ) <| tL 1 [.i (L1.getD v1 RK.z).a1, .i (L1.getD v1 RK.z).a2, .i (L1.getD v1 RK.z).a3, .i (L1.getD v1 RK.z).a4, .i (L1.getD v1 RK.z).a5, .i (L1.getD v1 RK.z).a6, .i (L1.getD v1 RK.z).a7, (mc RA (L1.getD v1 RK.z).a8)] <| kG ZZ L1 ((0 + (v1 * 9)) + 1) v1 1 8 9 <| kB v1 L1.length <| xkI (v1 : Int) v1 <| bhD g1 w1) (tC (tC (tC (tE)) ⟨Eq.trans (show (vs 1 0 (v0 ++ ([(⟨(L1.getD v1 RK.z).a1, (L1.getD v1 RK.z).a2, (L1.getD v1 RK.z).a3, (L1.getD v1 RK.z).a4, (L1.getD v1 RK.z).a5, (L1.getD v1 RK.z).a6, (L1.getD v1 RK.z).a7, (L1.getD v1 RK.z).a8⟩ : RJ)] : List RJ)).length (v0 ++ ([(⟨(L1.getD v1 RK.z).a1, (L1.getD v1 RK.z).a2, (L1.getD v1 RK.z).a3, (L1.getD v1 RK.z).a4, (L1.getD v1 RK.z).a5, (L1.getD v1 RK.z).a6, (L1.getD v1 RK.z).a7, (L1.getD v1 RK.z).a8⟩ : RJ)] : List RJ)).length : Value) = vs 1 0 (v0.length + 1) (v0.length + 1) from (Zi rfl eqA eqA)) (by rfl), by rfl⟩)) (bS [vi a0, ms ZZ L1, vn] <| bR <| bE)
  refine oi fun g2 => ?_;exact Mach.okN0 [0, 1] (vkW ((v1 : Int) + 1) (((v1 + 1) : Nat) : Int) <| bkE ((L1.getD v1 RK.z).a6) 0 w1) (bS [vi a0, ms ZZ L1, vn] <| bR <| bE)
 exact Mach.okF0 [1] (bhN g0 Zg) (bR <| bE)

theorem ZrE (N : Nat) : (Zfk a0 L1 N).Enter Tryz.prog Ze #[Value.agg #[vi a0, ms ZZ L1, vn]] (ZhI a0 L1 N) := by unfold ZhI;exact enH [0] [some (vp 0 0), some (vn), some (vq)] Zg (tC (tC (tC (tE) ⟨Eq.trans (show κg = vq from ci) (by rfl), by rfl⟩))) (bS [vi a0, ms ZZ L1, vn] <| bE)

theorem Zof (N : Nat) (r : Zal) (h : Zf8 a0 L1 N = some r) : LSpec Tryz.prog 44 #[Value.agg #[vi a0, ms ZZ L1, vn]] [] (Zlj r) (ZkB r) :=
 Mach.specT Zv (Zfk a0 L1 N) Tryz.func44 (fun x => (show (Zfk a0 L1 N).Ok Tryz.prog Ze x (ZgH a0 L1 N x) from by
  cases x with
  | h1m0 v0 => exact Zod a0 L1 v0 N
  | h1m1 v0 v1 => exact Zoe a0 L1 v0 v1 N
  )) (ZrE a0 L1 N) h

theorem Zpa (N : Nat) (r : Zal) (h : Zf8 a0 L1 N = some r) : LSpec Tryz.prog 44 #[Value.agg #[vi a0, ms ZZ L1, vn]] [] (Zmr r) (Zlk r) := by
 have h0 := Zof a0 L1 N r h;cases r with
 | r0 => exact (LSpec.nlv (v2 := ms RC ([] : List RJ)) h0 rfl rfl)
 | r1 w0 => exact (LSpec.frzv (E := RC) (L := w0) (post := []) (v2 := ms RC w0) h0 (show 0 ≤ 0 from by decide) (show 0 < 1000000000 from by decide) trivial rfl rfl rfl)

end
theorem ZfT {a0 : Int} {L1 : List RK} {N : Nat} {r : Zal} (h : Zf8 a0 L1 N = some r) : LSpec Tryz.prog 44 #[Value.agg #[vi a0, ms ZZ L1, vn]] [] (Zmr r) (Zlk r) := Zpa a0 L1 N r h

open Mach (oi ok_ite ok_bind okN en_ite)
set_option linter.unusedVariables false
set_option maxRecDepth 100000
noncomputable def ZnF : Zai → Value
 | .r0 => Value.tuple #[Value.agg #[vn, vn, vn], vi 1]
 | .r1 w1 => Value.tuple #[Value.agg #[vn, vn, ms RC w1], vq]
 | .r2 w1 w2 w3 => Value.tuple #[Value.agg #[vs 1 0 w1.length w1.length, vs 2 0 w2.length w2.length, ms RC w3], vq]
section
variable (L0 : List (List RI))
noncomputable abbrev κn := (AObj.cells (Za (Zm RB) L0) 26)
noncomputable def Zms : Zai → List (Option AObj)
 | .r0 => [some (κn L0)]
 | .r1 w1 => [some (κn L0)]
 | .r2 w1 w2 w3 => [some (κn L0), some (.cells (Za (Zm RB) w1) 26), some (.cells (Za RE w2) 65)]

noncomputable def ZyG : Zai → Value
 | .r0 => Value.tuple κp
 | .r1 w1 => Value.tuple #[Value.agg #[ms (Zm RB) ([] : List (List RI)), ms RE ([] : List RL), ms RC w1], vq]
 | .r2 w1 w2 w3 => Value.tuple #[Value.agg #[ms (Zm RB) w1, ms RE w2, ms RC w3], vq]
noncomputable def Zwm : Zai → List (Option AObj)
 | .r0 => [some (κn L0)]
 | .r1 w1 => [some (κn L0)]
 | .r2 w1 w2 w3 => [some (κn L0)]

def Zwn : Za5 → Nat
 | .h1m0 => 1
 | .h1m1 v1 v2 v3 => 1
noncomputable abbrev κbk := (0, vs 0 0 L0.length L0.length)
noncomputable def ZyH : Za5 → List (Nat × Value)
 | .h1m0 => [(κbk L0), (2, vp 1 0), (4, vp 2 0), (5, vq)]
 | .h1m1 v1 v2 v3 => [(κbk L0), (2, vp 1 0), (4, vp 2 0), (5, vi (v1 : Int))]
noncomputable abbrev κ6 := (AObj.cells [vn, vn, vn] 34)
noncomputable def ZyI : Za5 → List (Option AObj)
 | .h1m0 => [some (κn L0), some κ6, some κ6]
 | .h1m1 v1 v2 v3 => [some (κn L0), some κ6, some (.cells [vs 3 0 v2.length v2.length, vs 4 0 v3.length v3.length, vn] 34), some (.cells (Za (Zm RB) v2) 26), some (.cells (Za RE v3) 65)]

noncomputable def ZyJ : Nat → Code × List ZL
 | 1 => Z5 [1, 1, 1, 0, 1, 3] (ZM Tryz.f13) []
 | _ => (.skip, [])

noncomputable abbrev κT := [AObj.cells (Za (Zm RB) L0) 26]
noncomputable def Zgs (N : Nat) : Mach := ⟨Tryz.f13, (κT L0), Za5, Zai, ZeB L0 N, Zwn, ZyJ, ilT, ZyH L0, ZyI L0, ZnF, Zms L0⟩

noncomputable abbrev κbq := (Za RE ([(⟨0, 0, 0, 1, 0, 1, 0, 1, 0, 1, 0, 1, 0, 1, 0, 1, 0, 1, 0, ([] : List RG)⟩ : RL)] : List RL))
noncomputable abbrev κbp := (Za RB (L0.getD 0 []))
noncomputable abbrev κh := [vq, vq, vq, vi 1, vq, vi 1, vq, vi 1, vq, vi 1, vq, vi 1, vq, vi 1, vq, vi 1, vq, vi 1, vq, vn]
theorem Zqw (N : Nat) : (Zgs L0 N).Ok Tryz.prog Ze (.h1m0 : Za5) (Zem L0 N) := by
 unfold Zem;refine ok_ite (fun g0 => ?_) fun g0 => ?_
 ·
  refine ok_bind fun z1 c1 => ?_;cases z1 with
  | r0 =>
   refine oi fun g2 => ?_;refine oi fun g3 => ?_;exact okN [0, 1, 2, 6, 18] [some (vs 0 0 L0.length L0.length), some (vp 1 0), some (vp 2 0), some (vi 1)] (kX (dP (List.map (nlV 0) κh = κbq)) true (Zn (Z5V (E := RE) (x := (⟨0, 0, 0, 1, 0, 1, 0, 1, 0, 1, 0, 1, 0, 1, 0, 1, 0, 1, 0, ([] : List RG)⟩ : RL)) rfl)) <| tW 19 (.apn 1 κh κh κbq) <| kX (dP ((1 = 1 ∧ Z4 (1 * 20) (List.drop 0 κh) = some κh ∧ Zu Zbf κh = true) ∧ 0 < 1 ∧ 1 ≤ 100000 ∧ κh = κh)) true (Zn ⟨⟨rfl, ⟨rfl, rfl⟩⟩, by omega, by omega, rfl⟩) <| kX (dP ((0 + (L0.getD 0 []).length) = (L0.getD 0 []).length ∧ (0 + (L0.getD 0 []).length) = (L0.getD 0 []).length ∧ (κbp L0) = Zl (Z9 RB (L0.getD 0 [])))) true (Zn ⟨by omega, by omega, ZhF _⟩) <| tW 0 (.apz (L0.getD 0 []).length (κbp L0) (κbp L0) (Z9 RB (L0.getD 0 []))) <| kX (dP (((L0.getD 0 []).length = (L0.getD 0 []).length ∧ (((L0.getD 0 []).length * 4 = 0 ∧ (κbp L0) = []) ∨ ∃ c, (L0.getD 0 []).length * 4 ≠ 0 ∧ ZS (code (Z9 RB (L0.getD 0 []))) 0 ((L0.getD 0 []).length * 4) = some c ∧ (κbp L0) = Zl c)) ∧ 0 < (L0.getD 0 []).length ∧ (L0.getD 0 []).length ≤ 100000 ∧ 0 < 0 + (L0.getD 0 []).length ∧ 0 ≤ 100000 ∧ 0 * 4 ≤ (List.length []) ∧ List.take (0 * 4) [] ++ (κbp L0) = (κbp L0))) true (Zn ⟨⟨rfl, (Zc4 (E := RB) (L := (L0.getD 0 [])) (n := (L0.getD 0 []).length) (size := 4) rfl (by decide) (by omega))⟩, by omega, by omega, ltA, by omega, (Zas (E := RB) (L := ([] : List RI)) (M := (L0.getD 0 [])) (n := 0) (show _ = _ * 4 from rfl) ltA (R := (L0.getD 0 [])) (by rw [List.take_of_length_le ltA]; rfl))⟩) <| tL 1 ([(mc RB (L0.getD 0 []))]) <| kLn (Zm RB) L0 0 0 1 <| kB 0 L0.length <| xkI 0 0 <| kK (tQ (Zj9 c1) 3) <| Za3 (Zm RB) L0 0 0 1 <| kB 0 L0.length <| xkI 0 0 <| bhY g0 Zg) (tC (tC (tC (tC (tE) ⟨Eq.trans (show κN = vi 1 from ci) (by rfl), by rfl⟩)))) (bR <| bS [vn, vn, vn] <| bU2 [vs 6 0 1 1, vs 18 0 1 1, vn] 0 (show (vs 3 0 1 1 : Value) = vs 3 0 ([(L0.getD 0 [])] : List (List RI)).length ([(L0.getD 0 [])] : List (List RI)).length from Zi rfl eqA eqA) 1 (show (vs 4 0 1 1 : Value) = vs 4 0 ([(⟨0, 0, 0, 1, 0, 1, 0, 1, 0, 1, 0, 1, 0, 1, 0, 1, 0, 1, 0, ([] : List RG)⟩ : RL)] : List RL).length ([(⟨0, 0, 0, 1, 0, 1, 0, 1, 0, 1, 0, 1, 0, 1, 0, 1, 0, 1, 0, ([] : List RG)⟩ : RL)] : List RL).length from Zi rfl eqA eqA) <| bC (o := .cells [ms RB (L0.getD 0 [])] 26) (Zz (E := (Zm RB)) _ (L := ([(L0.getD 0 [])] : List (List RI))) _ (show ([ms RB (L0.getD 0 [])] : List Value) = Za (Zm RB) ([(L0.getD 0 [])] : List (List RI)) from rfl)) <| bR <| bE)
 refine ok_bind fun z1 c1 => ?_;cases z1 with
 | r0 y1_0 =>
  refine ok_bind fun z2 c2 => ?_;cases z2 with
  | r0 =>
   exact Mach.okF0 [0] (kKg 2 (tQ (ZfT c2) 4) <| kK (tQ (ZiQ c1) 3) <| bhN g0 Zg) (bR <| bE)
  | r1 y2_0 =>
   exact Mach.okF0 [0] (kKg 2 (tQ (ZfT c2) 4) <| kK (tQ (ZiQ c1) 3) <| bhN g0 Zg) (bR <| bE)

noncomputable abbrev κbo (v3 : List RL) := (Za RE (v3 ++ ([(⟨0, 0, 0, 1, 0, 1, 0, 1, 0, 1, 0, 1, 0, 1, 0, 1, 0, 1, 0, ([] : List RG)⟩ : RL)] : List RL)))
theorem Zqx (v1 : Nat) (v2 : List (List RI)) (v3 : List RL) (N : Nat) : (Zgs L0 N).Ok Tryz.prog Ze (.h1m1 v1 v2 v3 : Za5) (Zcq L0 N v1 v2 v3) := by
 unfold Zcq;refine ok_ite (fun g0 => ?_) fun g0 => ?_
 ·
  refine ok_bind fun z1 c1 => ?_;cases z1 with
  | r0 =>
   refine oi fun g2 => ?_;refine oi fun g3 => ?_;refine oi fun g4 => ?_;refine oi fun g5 => ?_;refine oi fun g6 => ?_;exact Mach.okN0 [0, 1, 2, 8, 20] (tV 8 <| kW ((v1 : Int) + 1) (((v1 + 1) : Nat) : Int) <| kX (dP (List.map (nlV 0) (Za RE v3 ++ κh) = (κbo v3))) true (Zn (Z5U (E := RE) (fun _ => rfl) (L := v3) (x := (⟨0, 0, 0, 1, 0, 1, 0, 1, 0, 1, 0, 1, 0, 1, 0, 1, 0, 1, 0, ([] : List RG)⟩ : RL)) rfl)) <| tW 18 (.apn 1 κh (Za RE v3 ++ κh) (κbo v3)) <| kX (dP ((1 = 1 ∧ Z4 (1 * 20) (List.drop 0 κh) = some κh ∧ Zu Zbf κh = true) ∧ 0 < 1 ∧ 1 ≤ 100000 ∧ v3.length < v3.length + 1 ∧ v3.length ≤ 100000 ∧ v3.length * 20 ≤ (List.length (Za RE v3)) ∧ List.take (v3.length * 20) (Za RE v3) ++ κh = (Za RE v3 ++ κh))) true (Zn ⟨⟨rfl, ⟨rfl, rfl⟩⟩, by omega, by omega, ltA, by omega, (Z5W (E := RE) (L := v3) (L0 := v3) (l := κh) (n := v3.length) (show _ = _ * 20 from rfl) (by omega) (List.take_of_length_le (by omega)))⟩) <| wkA (Zm RB) v2 (L0.getD v1 []) <| kX (dP ((0 + (L0.getD v1 []).length) = (L0.getD v1 []).length ∧ (0 + (L0.getD v1 []).length) = (L0.getD v1 []).length ∧ (Za RB (L0.getD v1 [])) = Zl (Z9 RB (L0.getD v1 [])))) true (Zn ⟨by omega, by omega, ZhF _⟩) <| tW 0 (.apz (L0.getD v1 []).length (Za RB (L0.getD v1 [])) (Za RB (L0.getD v1 [])) (Z9 RB (L0.getD v1 []))) <| kX (dP (((L0.getD v1 []).length = (L0.getD v1 []).length ∧ (((L0.getD v1 []).length * 4 = 0 ∧ (Za RB (L0.getD v1 [])) = []) ∨ ∃ c, (L0.getD v1 []).length * 4 ≠ 0 ∧ ZS (code (Z9 RB (L0.getD v1 []))) 0 ((L0.getD v1 []).length * 4) = some c ∧ (Za RB (L0.getD v1 [])) = Zl c)) ∧ 0 < (L0.getD v1 []).length ∧ (L0.getD v1 []).length ≤ 100000 ∧ 0 < 0 + (L0.getD v1 []).length ∧ 0 ≤ 100000 ∧ 0 * 4 ≤ (List.length []) ∧ List.take (0 * 4) [] ++ (Za RB (L0.getD v1 [])) = (Za RB (L0.getD v1 [])))) true (Zn ⟨⟨rfl, (Zc4 (E := RB) (L := (L0.getD v1 [])) (n := (L0.getD v1 []).length) (size := 4) rfl (by decide) (by omega))⟩, by omega, by omega, ltA, by omega, (Zas (E := RB) (L := ([] : List RI)) (M := (L0.getD v1 [])) (n := 0) (show _ = _ * 4 from rfl) ltA (R := (L0.getD v1 [])) (by rw [List.take_of_length_le ltA]; rfl))⟩) <| tL 1 ([(mc RB (L0.getD v1 []))]) <| kLn (Zm RB) L0 v1 0 1 <| kB v1 L0.length <| xkI (v1 : Int) v1 <| kK (tQ (Zj9 c1) 5) <| Za3 (Zm RB) L0 v1 0 1 <| kB v1 L0.length <| xkI (v1 : Int) v1 <| bhY g0 Zg) (bR <| bS [vn, vn, vn] <| bU2 [vs 8 0 (v2.length + 1) (v2.length + 1), vs 20 0 (v3.length + 1) (v3.length + 1), vn] 0 (show (vs 3 0 (v2.length + 1) (v2.length + 1) : Value) = vs 3 0 (v2 ++ ([(L0.getD v1 [])] : List (List RI))).length (v2 ++ ([(L0.getD v1 [])] : List (List RI))).length from Zi rfl eqA eqA) 1 (show (vs 4 0 (v3.length + 1) (v3.length + 1) : Value) = vs 4 0 (v3 ++ ([(⟨0, 0, 0, 1, 0, 1, 0, 1, 0, 1, 0, 1, 0, 1, 0, 1, 0, 1, 0, ([] : List RG)⟩ : RL)] : List RL)).length (v3 ++ ([(⟨0, 0, 0, 1, 0, 1, 0, 1, 0, 1, 0, 1, 0, 1, 0, 1, 0, 1, 0, ([] : List RG)⟩ : RL)] : List RL)).length from Zi rfl eqA eqA) <| bR <| bR <| bE)
 refine ok_bind fun z1 c1 => ?_;cases z1 with
 | r0 y1_0 =>
  refine ok_bind fun z2 c2 => ?_;cases z2 with
  | r0 =>
   exact Mach.okF0 [0, 3, 4] (kKg 2 (tQ (ZfT c2) 6) <| kK (tQ (ZiQ c1) 5) <| bhN g0 Zg) (bR <| bR <| bR <| bE)
  | r1 y2_0 =>
   exact Mach.okF0 [0, 3, 4] (kKg 2 (tQ (ZfT c2) 6) <| kK (tQ (ZiQ c1) 5) <| bhN g0 Zg) (bR <| bR <| bR <| bE)

theorem Zuz (N : Nat) : (Zgs L0 N).Enter Tryz.prog Ze #[vs 0 0 L0.length L0.length] (ZgY L0 N) := by
 unfold ZgY;refine en_ite (fun g0 => ?_) (fun g0 => ?_)
 · exact Mach.enF0 [0] (bhY g0 Zg) (bR <| bE)
 refine en_ite (fun g1 => ?_) (fun g1 => ?_)
 · exact Mach.enF0 [0] (bkY ((L0.length : Int) > 64) <| bhN g0 Zg) (bR <| bE)
 exact Mach.enH0 [0, 1, 2] (bkN ((L0.length : Int) > 64) <| bhN g0 Zg) (bR <| bS [vn, vn, vn] <| bS [vn, vn, vn] <| bE)

theorem Zqy (N : Nat) (r : Zai) (h : ZbW L0 N = some r) : LSpec Tryz.prog 13 #[vs 0 0 L0.length L0.length] (κT L0) (ZnF r) (Zms L0 r) :=
 Mach.specT Zv (Zgs L0 N) Tryz.func13 (fun x => (show (Zgs L0 N).Ok Tryz.prog Ze x (ZeB L0 N x) from by
  cases x with
  | h1m0 => exact Zqw L0 N
  | h1m1 v1 v2 v3 => exact Zqx L0 v1 v2 v3 N
  )) (Zuz L0 N) h

theorem ZkC (N : Nat) (r : Zai) (h : ZbW L0 N = some r) : LSpec Tryz.prog 13 #[vs 0 0 L0.length L0.length] (κT L0) (ZyG r) (Zwm L0 r) := by
 have h0 := Zqy L0 N r h;cases r with
 | r0 => exact (LSpec.nlv (v2 := Value.tuple κp) h0 rfl rfl)
 | r1 w1 => exact (LSpec.nlv (v2 := Value.tuple #[Value.agg #[ms (Zm RB) ([] : List (List RI)), ms RE ([] : List RL), ms RC w1], vq]) h0 rfl rfl)
 | r2 w1 w2 w3 => exact (LSpec.frzv (E := (Zm RB)) (L := w1) (post := [some (κn L0)]) (v2 := Value.tuple #[Value.agg #[ms (Zm RB) w1, ms RE w2, ms RC w3], vq]) (LSpec.frzv (E := RE) (L := w2) (post := [some (κn L0), some (.cells (Za (Zm RB) w1) 26)]) (v2 := Value.tuple #[Value.agg #[vs 1 0 w1.length w1.length, ms RE w2, ms RC w3], vq]) h0 (show 1 ≤ 2 from by decide) (show 2 < 1000000000 from by decide) ⟨(ZcY _ _ _), ⟨(ZcY _ _ _), trivial⟩⟩ rfl rfl rfl) (show 1 ≤ 1 from by decide) (show 1 < 1000000000 from by decide) ⟨(ZcY _ _ _), trivial⟩ rfl rfl rfl)

end
noncomputable abbrev κbi (ks : List Nat) (L0 : List (List RI)) := [((nth ks 0), AObj.cells (Za (Zm RB) L0) 26)]
noncomputable def Zwo {L0 : List (List RI)} {N : Nat} (h : ZbW L0 N = some (.r0)) (ks : List Nat) (n : Nat) : ToldS := ⟨#[vs (nth ks 0) 0 L0.length L0.length], (κbi ks L0), Value.tuple κp, [], 0⟩

theorem Zhc {L0 : List (List RI)} {N : Nat} (h : ZbW L0 N = some (.r0)) (ks : List Nat) (n : Nat) (hk : ks.length = 1 := by rfl) (hnd : ks.Nodup := by decide +kernel) (hlt : ∀ k ∈ ks, k < n := by decide +kernel) : (Zwo (N := N)  h ks n).P Tryz.prog 13 n :=
 match ks, hk, hnd, hlt with
 | [k0], _, hnd, hlt => Zci (show LSpec Tryz.prog 13 #[vs 0 0 L0.length L0.length] (κT L0) (Value.tuple κp) [some (κn L0)] from ZkC L0 N _ h) _ n [] hnd hlt

noncomputable abbrev κU (w1 : List (List RI)) (w2 : List RL) (w3 : List RJ) := #[ms (Zm RB) w1, ms RE w2, ms RC w3]
noncomputable def ZdM {L0 w1 : List (List RI)} {w2 : List RL} {w3 : List RJ} {N : Nat} (h : ZbW L0 N = some (.r2 w1 w2 w3)) (ks : List Nat) (n : Nat) : ToldS := ⟨#[vs (nth ks 0) 0 L0.length L0.length], (κbi ks L0), Value.tuple #[Value.agg (κU w1 w2 w3), vq], [], 0⟩

theorem ZjB {L0 w1 : List (List RI)} {w2 : List RL} {w3 : List RJ} {N : Nat} (h : ZbW L0 N = some (.r2 w1 w2 w3)) (ks : List Nat) (n : Nat) (hk : ks.length = 1 := by rfl) (hnd : ks.Nodup := by decide +kernel) (hlt : ∀ k ∈ ks, k < n := by decide +kernel) : (ZdM (N := N)  h ks n).P Tryz.prog 13 n :=
 match ks, hk, hnd, hlt with
 | [k0], _, hnd, hlt => Zci (show LSpec Tryz.prog 13 #[vs 0 0 L0.length L0.length] (κT L0) (Value.tuple #[Value.agg (κU w1 w2 w3), vq]) [some (κn L0)] from ZkC L0 N _ h) _ n [] hnd hlt

noncomputable def Zl7 : Zea → Value
 | .r0 w0 w1 w2 => Value.tuple #[Value.agg #[vi w0, vi w1], Value.bool w2]
noncomputable def ZkD : Zea → List (Option AObj)
 | .r0 w0 w1 w2 => []

section
variable (L0 : List RG) (a1 a2 a3 a4 : Int)
theorem Zwp (N : Nat) : Fx Tryz.prog Ze Tryz.f78 [] #[Value.agg (List.toArray (rv8 L0)), Value.agg #[vi a1, vi a2, vi a3, vi a4]] (Zl7) (ZkD) (ZaT L0 a1 a2 a3 a4 N) := by
 unfold ZaT;refine Zb (fun g0 => ?_) (fun g0 => ?_)
 · exact Zq [] (bhD g0 Zg) bE
 refine Zx (fun z1 c1 => ?_);cases z1 with
 | r0 y1_0 =>
  have w2 := kK (tQ (Zg6 c1) 3) <| bkE a1 19 Zg
  refine Zb (fun g2 => ?_) (fun g2 => ?_)
  · exact Zq [] (bkX ((!y1_0)) true nbt w2) bE
  refine Zb (fun g3 => ?_) (fun _ => Zd);refine Zb (fun g4 => ?_) (fun _ => Zd);exact Zq [] (tL 3 ([.i (((e8 L0) : List RG).getD a2.toNat RG.z).a0, .i (((e8 L0) : List RG).getD a2.toNat RG.z).a1]) <| kLn RA ((e8 L0) : List RG) (a2.toNat) 0 2 <| kB a2.toNat 8 <| xkI a2 (a2.toNat) <| bkX ((!y1_0)) false nbf w2) bE

theorem Ztj (N : Nat) (r : Zea) (h : ZaT L0 a1 a2 a3 a4 N = some r) : LSpec Tryz.prog 78 #[Value.agg (List.toArray (rv8 L0)), Value.agg #[vi a1, vi a2, vi a3, vi a4]] [] (Zl7 r) (ZkD r) :=
 ZI Zv Tryz.func78 (by kernel_rfl) (by kernel_rfl) (fun r => by cases r <;> exact ZP _ rfl) (Zwp L0 a1 a2 a3 a4 N) h

theorem Zbe {L0 : List RG} {a1 a2 a3 a4 : Int} {N : Nat} {r : Zea} (h : ZaT L0 a1 a2 a3 a4 N = some r) : LSpec Tryz.prog 78 #[Value.agg (List.toArray (rv8 L0)), Value.agg #[vi a1, vi a2, vi a3, vi a4]] [] (Zl7 r) (ZkD r) := Ztj L0 a1 a2 a3 a4 N r h

noncomputable def Zl8 : ref14_madeR → Value
 | .r0 w0 w1 => Value.tuple #[Value.agg #[vi w0, vi w1], vq]
noncomputable def ZkE : ref14_madeR → List (Option AObj)
 | .r0 w0 w1 => []

theorem Zwq (a5 a6 : Int) (N : Nat) : Fx Tryz.prog Ze Tryz.f106 [] #[Value.agg (List.toArray (rv8 L0)), Value.agg #[vi a1, vi a2, vi a3, vi a4], Value.agg #[vi a5, vi a6]] (Zl8) (ZkE) (Zdp L0 a1 a2 a3 a4 a5 a6 N) := by
 unfold Zdp;refine Zb (fun g0 => ?_) (fun g0 => ?_)
 · exact Zq [] (bhT g0 Zg) bE
 refine Zb (fun _ => Zd) (fun g1 => ?_);have w2 := bhF g1 <| bhF g0 Zg
 refine Zb (fun _ => Zd) (fun g2 => ?_);refine Zb (fun g3 => ?_) (fun g3 => ?_)
 · refine Zb (fun g4 => ?_) (fun _ => Zd);refine Zb (fun g5 => ?_) (fun _ => Zd);refine Zb (fun g6 => ?_) (fun _ => Zd);refine Zb (fun g7 => ?_) (fun _ => Zd);refine Zb (fun g8 => ?_) (fun _ => Zd);refine Zb (fun g9 => ?_) (fun _ => Zd);exact Zq [] (bhT g9 <| bhT g8 <| tL 1 ([.i (((e8 L0) : List RG).getD a4.toNat RG.z).a0, .i (((e8 L0) : List RG).getD a4.toNat RG.z).a1]) <| kLn RA ((e8 L0) : List RG) (a4.toNat) 0 2 <| kB a4.toNat 8 <| xkI a4 (a4.toNat) <| tL 2 ([.i (((e8 L0) : List RG).getD a3.toNat RG.z).a0, .i (((e8 L0) : List RG).getD a3.toNat RG.z).a1]) <| kLn RA ((e8 L0) : List RG) (a3.toNat) 0 2 <| kB a3.toNat 8 <| xkI a3 (a3.toNat) <| bhT g3 <| bhF g2 w2) bE
 refine Zb (fun g4 => ?_) (fun g4 => ?_)
 · refine Zb (fun g5 => ?_) (fun _ => Zd);refine Zb (fun g6 => ?_) (fun _ => Zd);refine Zb (fun g7 => ?_) (fun _ => Zd);refine Zb (fun g8 => ?_) (fun _ => Zd);refine Zb (fun g9 => ?_) (fun _ => Zd);refine Zb (fun g10 => ?_) (fun _ => Zd);exact Zq [] (bhT g10 <| bhT g9 <| tL 1 ([.i (((e8 L0) : List RG).getD a4.toNat RG.z).a0, .i (((e8 L0) : List RG).getD a4.toNat RG.z).a1]) <| kLn RA ((e8 L0) : List RG) (a4.toNat) 0 2 <| kB a4.toNat 8 <| xkI a4 (a4.toNat) <| tL 2 ([.i (((e8 L0) : List RG).getD a3.toNat RG.z).a0, .i (((e8 L0) : List RG).getD a3.toNat RG.z).a1]) <| kLn RA ((e8 L0) : List RG) (a3.toNat) 0 2 <| kB a3.toNat 8 <| xkI a3 (a3.toNat) <| bhT g4 <| bhF g3 <| bhF g2 w2) bE
 have w5 := bhF g4 <| bhF g3 <| bhF g2 w2
 refine Zb (fun g5 => ?_) (fun g5 => ?_)
 ·
  refine Zb (fun g6 => ?_) (fun _ => Zd);refine Zb (fun g7 => ?_) (fun _ => Zd);have w8 := tL 2 ([.i (((e8 L0) : List RG).getD a3.toNat RG.z).a0, .i (((e8 L0) : List RG).getD a3.toNat RG.z).a1]) <| kLn RA ((e8 L0) : List RG) (a3.toNat) 0 2 <| kB a3.toNat 8 <| xkI a3 (a3.toNat) <| bhT g5 w5
  refine Zb (fun g8 => ?_) (fun _ => Zd);refine Zb (fun g9 => ?_) (fun _ => Zd);have w10 := tL 1 ([.i (((e8 L0) : List RG).getD a4.toNat RG.z).a0, .i (((e8 L0) : List RG).getD a4.toNat RG.z).a1]) <| kLn RA ((e8 L0) : List RG) (a4.toNat) 0 2 <| kB a4.toNat 8 <| xkI a4 (a4.toNat) w8
  refine Zb (fun g10 => ?_) (fun _ => Zd);refine Zb (fun g11 => ?_) (fun _ => Zd);refine Zb (fun g12 => ?_) (fun g12 => ?_)
  · exact Zq [] (tB 1 <| hY g12 <| bhT g11 <| bhT g10 w10) bE
  exact Zq [] (tB 1 <| hN g12 <| bhT g11 <| bhT g10 w10) bE
 refine Zb (fun _ => Zd) (fun g6 => ?_);exact Zq [] (bhF g6 <| bhF g5 w5) bE

theorem Ztk (a5 a6 : Int) (N : Nat) (r : ref14_madeR) (h : Zdp L0 a1 a2 a3 a4 a5 a6 N = some r) : LSpec Tryz.prog 106 #[Value.agg (List.toArray (rv8 L0)), Value.agg #[vi a1, vi a2, vi a3, vi a4], Value.agg #[vi a5, vi a6]] [] (Zl8 r) (ZkE r) :=
 ZI Zv Tryz.func106 (by kernel_rfl) (by kernel_rfl) (fun r => by cases r <;> exact ZP _ rfl) (Zwq L0 a1 a2 a3 a4 a5 a6 N) h

end
theorem ZyK {L0 : List RG} {a1 a2 a3 a4 a5 a6 : Int} {N : Nat} {r : ref14_madeR} (h : Zdp L0 a1 a2 a3 a4 a5 a6 N = some r) : LSpec Tryz.prog 106 #[Value.agg (List.toArray (rv8 L0)), Value.agg #[vi a1, vi a2, vi a3, vi a4], Value.agg #[vi a5, vi a6]] [] (Zl8 r) (ZkE r) := Ztk L0 a1 a2 a3 a4 a5 a6 N r h

set_option linter.unusedVariables false
set_option maxRecDepth 100000
noncomputable def Znr : ZeC → Value
 | .r0 w0 => Value.agg (List.toArray (rv8 w0))
noncomputable def Zl9 : ZeC → List (Option AObj)
 | .r0 w0 => []

section
variable (L0 : List RG) (a1 a2 a3 : Int)
noncomputable abbrev κe := (((e8 L0) : List RG).set a1.toNat (⟨a2, a3⟩ : RG))
theorem ZyL (N : Nat) : Fx Tryz.prog Ze Tryz.f107 [] #[Value.agg (List.toArray (rv8 L0)), vi a1, Value.agg #[vi a2, vi a3]] (Znr) (Zl9) (Zh2 L0 a1 a2 a3 N) := by
 unfold Zh2;refine Zb (fun g0 => ?_) (fun g0 => ?_)
 ·
  refine Zb (fun g1 => ?_) (fun g1 => ?_)
  · exact Zq [] (tL 1 ([.i ((κe L0 a1 a2 a3).getD 0 RG.z).a0, .i ((κe L0 a1 a2 a3).getD 0 RG.z).a1, .i ((κe L0 a1 a2 a3).getD 1 RG.z).a0, .i ((κe L0 a1 a2 a3).getD 1 RG.z).a1, .i ((κe L0 a1 a2 a3).getD 2 RG.z).a0, .i ((κe L0 a1 a2 a3).getD 2 RG.z).a1, .i ((κe L0 a1 a2 a3).getD 3 RG.z).a0, .i ((κe L0 a1 a2 a3).getD 3 RG.z).a1, .i ((κe L0 a1 a2 a3).getD 4 RG.z).a0, .i ((κe L0 a1 a2 a3).getD 4 RG.z).a1, .i ((κe L0 a1 a2 a3).getD 5 RG.z).a0, .i ((κe L0 a1 a2 a3).getD 5 RG.z).a1, .i ((κe L0 a1 a2 a3).getD 6 RG.z).a0, .i ((κe L0 a1 a2 a3).getD 6 RG.z).a1, .i ((κe L0 a1 a2 a3).getD 7 RG.z).a0, .i ((κe L0 a1 a2 a3).getD 7 RG.z).a1]) <| kX (ZdO (Z4 16 (List.drop 0 (Za RA (κe L0 a1 a2 a3)))) [.i ((κe L0 a1 a2 a3).getD 0 RG.z).a0, .i ((κe L0 a1 a2 a3).getD 0 RG.z).a1, .i ((κe L0 a1 a2 a3).getD 1 RG.z).a0, .i ((κe L0 a1 a2 a3).getD 1 RG.z).a1, .i ((κe L0 a1 a2 a3).getD 2 RG.z).a0, .i ((κe L0 a1 a2 a3).getD 2 RG.z).a1, .i ((κe L0 a1 a2 a3).getD 3 RG.z).a0, .i ((κe L0 a1 a2 a3).getD 3 RG.z).a1, .i ((κe L0 a1 a2 a3).getD 4 RG.z).a0, .i ((κe L0 a1 a2 a3).getD 4 RG.z).a1, .i ((κe L0 a1 a2 a3).getD 5 RG.z).a0, .i ((κe L0 a1 a2 a3).getD 5 RG.z).a1, .i ((κe L0 a1 a2 a3).getD 6 RG.z).a0, .i ((κe L0 a1 a2 a3).getD 6 RG.z).a1, .i ((κe L0 a1 a2 a3).getD 7 RG.z).a0, .i ((κe L0 a1 a2 a3).getD 7 RG.z).a1]) true (Zwa (E := RA) (L := (κe L0 a1 a2 a3)) (n := 8) (by first | (simp; done) | omega) rfl rfl rfl) <| tW 0 (.st (Za RA (κe L0 a1 a2 a3))) <| kC (Zbi (E := RA) (L := ((e8 L0) : List RG)) (i := a1.toNat) (q := 0) (l := [vi a2, vi a3]) (⟨a2, a3⟩ : RG) ltA (show (0 + (a1.toNat * 2)) = a1.toNat * 2 + 0 from by omega) (show 0 + 2 ≤ 2 from by decide) rfl) <| kB a1.toNat 8 <| xkI a1 (a1.toNat) <| bhY g1 <| bkY (a1 ≥ 0) Zg) bE
  exact Zq [] (bhN g1 <| bkY (a1 ≥ 0) Zg) bE
 exact Zq [] (bkN (a1 ≥ 0) Zg) bE

theorem Zu0 (N : Nat) (r : ZeC) (h : Zh2 L0 a1 a2 a3 N = some r) : LSpec Tryz.prog 107 #[Value.agg (List.toArray (rv8 L0)), vi a1, Value.agg #[vi a2, vi a3]] [] (Znr r) (Zl9 r) :=
 ZI Zv Tryz.func107 (by kernel_rfl) (by kernel_rfl) (fun r => by cases r <;> exact ZP _ rfl) (ZyL L0 a1 a2 a3 N) h

theorem Z02 {L0 : List RG} {a1 a2 a3 : Int} {N : Nat} {r : ZeC} (h : Zh2 L0 a1 a2 a3 N = some r) : LSpec Tryz.prog 107 #[Value.agg (List.toArray (rv8 L0)), vi a1, Value.agg #[vi a2, vi a3]] [] (Znr r) (Zl9 r) := Zu0 L0 a1 a2 a3 N r h

noncomputable def Zpb : ref14_DoR → Value
 | .r0 w0 w1 => Value.tuple #[Value.agg (List.toArray (rv8 w0)), vi w1, vq]
noncomputable def Zns : ref14_DoR → List (Option AObj)
 | .r0 w0 w1 => []

theorem Z03 (a4 a5 a6 a7 : Int) (N : Nat) : Fx Tryz.prog Ze Tryz.f79 [] #[Value.agg (List.toArray (rv8 L0)), vi a1, Value.agg #[vi a2, vi a3, vi a4, vi a5], Value.agg #[vi a6, vi a7]] (Zpb) (Zns) (ZD L0 a1 a2 a3 a4 a5 a6 a7 N) := by
 unfold ZD;refine Zx (fun z0 c0 => ?_);cases z0 with
 | r0 y0_0 =>
  have w1 := kK (tQ (Zg6 c0) 4) Zg;refine Zb (fun _ => Zd) (fun g1 => ?_);have w2 := bkX ((!y0_0)) false nbf w1;refine Zb (fun g2 => ?_) (fun _ => Zd);have w3 := bkY (a2 ≥ 1) w2;refine Zb (fun g3 => ?_) (fun g3 => ?_)
  ·
   refine Zb (fun _ => Zd) (fun g4 => ?_);have w5 := tB 1 <| hN g4 <| bhY g3 w3
   refine Zb (fun _ => Zd) (fun g5 => ?_);have w6 := bkF a2 19 <| bkN (a1 > 511) w5
   refine Zb (fun g6 => ?_) (fun g6 => ?_)
   · exact Zq [] (bhT g6 w6) bE
   refine Zb (fun g7 => ?_) (fun g7 => ?_)
   ·
    refine Zb (fun g8 => ?_) (fun _ => Zd);refine Zb (fun g9 => ?_) (fun _ => Zd);have w10 := tL 6 ([.i (((e8 L0) : List RG).getD a3.toNat RG.z).a0, .i (((e8 L0) : List RG).getD a3.toNat RG.z).a1]) <| kLn RA ((e8 L0) : List RG) (a3.toNat) 0 2 <| kB a3.toNat 8 <| xkI a3 (a3.toNat) <| bhT g7 <| bhF g6 w6
    refine Zb (fun g10 => ?_) (fun g10 => ?_)
    · exact Zq [] (bkZ (((((e8 L0) : List RG).getD a3.toNat RG.z).a0 == 2) && (((((e8 L0) : List RG).getD a3.toNat RG.z).a1 == 0) && true)) w10) bE
    have w11 := bkO (((((e8 L0) : List RG).getD a3.toNat RG.z).a0 == 2) && (((((e8 L0) : List RG).getD a3.toNat RG.z).a1 == 0) && true)) w10;refine Zb (fun g11 => ?_) (fun g11 => ?_)
    · exact Zq [] (bkZ (((((e8 L0) : List RG).getD a3.toNat RG.z).a0 == 1) && (((((e8 L0) : List RG).getD a3.toNat RG.z).a1 == 0) && true)) w11) bE
    exact Zq [] (vkW (a1 + 1) (a1 + 1) <| bkO (((((e8 L0) : List RG).getD a3.toNat RG.z).a0 == 1) && (((((e8 L0) : List RG).getD a3.toNat RG.z).a1 == 0) && true)) w11) bE
   refine Zx (fun z8 c8 => ?_);cases z8 with
   | r0 y8_0 y8_1 =>
    refine Zx (fun z9 c9 => ?_);cases z9 with
    | r0 y9_0 =>
     exact Zq [] (vkW (a1 + 1) (a1 + 1) <| kKg 1 (tQ (Z02 c9) 5) <| kK (tQ (ZyK c8) 4) <| bhF g7 <| bhF g6 w6) bE
  refine Zb (fun g4 => ?_) (fun _ => Zd);refine Zb (fun _ => Zd) (fun g5 => ?_);refine Zb (fun _ => Zd) (fun g6 => ?_);exact Zq [] (vkW (a1 + 1) (a1 + 1) <| bhT g4 <| bkN (a1 > 511) <| tB 1 <| hN g5 <| bhT g4 <| bhN g3 w3) bE

theorem Zwr (a4 a5 a6 a7 : Int) (N : Nat) (r : ref14_DoR) (h : ZD L0 a1 a2 a3 a4 a5 a6 a7 N = some r) : LSpec Tryz.prog 79 #[Value.agg (List.toArray (rv8 L0)), vi a1, Value.agg #[vi a2, vi a3, vi a4, vi a5], Value.agg #[vi a6, vi a7]] [] (Zpb r) (Zns r) :=
 ZI Zv Tryz.func79 (by kernel_rfl) (by kernel_rfl) (fun r => by cases r <;> exact ZP _ rfl) (Z03 L0 a1 a2 a3 a4 a5 a6 a7 N) h

end
theorem ZbM {L0 : List RG} {a1 a2 a3 a4 a5 a6 a7 : Int} {N : Nat} {r : ref14_DoR} (h : ZD L0 a1 a2 a3 a4 a5 a6 a7 N = some r) : LSpec Tryz.prog 79 #[Value.agg (List.toArray (rv8 L0)), vi a1, Value.agg #[vi a2, vi a3, vi a4, vi a5], Value.agg #[vi a6, vi a7]] [] (Zpb r) (Zns r) := Zwr L0 a1 a2 a3 a4 a5 a6 a7 N r h

open Mach (oi ok_ite ok_none ok_bind okN enH en_ite en_none)
set_option linter.unusedVariables false
set_option maxRecDepth 100000
noncomputable def Ztl (L0 : List RI) (a1 a2 a3 : Int) (L4 L5 : List RG) : ZX → Value
 | .r0 w0 w2 w3 w4 => Value.tuple #[Value.agg (List.toArray ([vi w0, vi a2, vi w2] ++ (rv8 w3 ++ [vs 0 0 w4.length w4.length]))), vT]
noncomputable def Zrf : ZX → List (Option AObj)
 | .r0 w0 w2 w3 w4 => [some (.cells (Za RA w4) 44)]

noncomputable def ZvJ (L0 : List RI) (a1 a2 a3 : Int) (L4 L5 : List RG) : ZX → Value
 | .r0 w0 w2 w3 w4 => Value.tuple #[Value.agg (List.toArray ([vi w0, vi a2, vi w2] ++ (rv8 w3 ++ [ms RA w4]))), vT]
noncomputable def Ztm : ZX → List (Option AObj)
 | .r0 w0 w2 w3 w4 => []

def Z2w : ZU → Nat
 | .h1m0 v1 => 1
 | .h1m1 v1 v2 v14 v15 v16 v17 => 1
 | .h1m2 v1 v2 v14 v15 => 1
noncomputable def Z3v (L0 : List RI) (a1 a2 a3 : Int) (L4 L5 : List RG) : ZU → List (Nat × Value)
 | .h1m0 v1 => [(0, ms RB L0), (3, vp 0 0), (4, vp 1 0), (6, vp 2 0), (7, vs 3 0 v1.length v1.length), (8, vq)]
 | .h1m1 v1 v2 v14 v15 v16 v17 => [(0, ms RB L0), (3, vp 0 0), (4, vp 1 0), (6, vp 2 0), (7, vs 3 0 v1.length v1.length), (8, vi (v2 : Int))]
 | .h1m2 v1 v2 v14 v15 => [(0, ms RB L0), (3, vp 0 0), (4, vp 1 0), (6, vp 2 0), (7, vs 3 0 v1.length v1.length), (8, vi (v2 : Int))]
noncomputable abbrev κbw (v1 : List RG) := (AObj.cells (Za RA v1) 44)
noncomputable abbrev κX (v1 : List RG) := [vs 3 0 v1.length v1.length]
section
variable (a1 a2 a3 : Int) (L4 L5 : List RG)
noncomputable abbrev κi := (AObj.cells (ZaR RA 8 [vi a1, vi a2, vi a3] L4 [ms RA L5]) 65)
end
noncomputable abbrev κc := (AObj.cells (ZaR RA 8 [vq, vq, vq] ([(⟨0, 0⟩ : RG), (⟨0, 0⟩ : RG), (⟨0, 0⟩ : RG), (⟨0, 0⟩ : RG), (⟨0, 0⟩ : RG), (⟨0, 0⟩ : RG), (⟨0, 0⟩ : RG), (⟨0, 0⟩ : RG)] : List RG) [vn]) 65)
noncomputable def Z3w (L0 : List RI) (a1 a2 a3 : Int) (L4 L5 : List RG) : ZU → List (Option AObj)
 | .h1m0 v1 => [some (κi a1 a2 a3 L4 L5), some κc, some (κi a1 a2 a3 L4 L5), some (κbw v1)]
 | .h1m1 v1 v2 v14 v15 v16 v17 => [some (κi a1 a2 a3 L4 L5), some κc, some (.cells (ZaR RA 8 [vi a1, vi a2, vi v14] v15 [vs 4 0 v16 v17]) 65), some (κbw v1), none]
 | .h1m2 v1 v2 v14 v15 => [some (κi a1 a2 a3 L4 L5), some κc, some (.cells (ZaR RA 8 [vi a1, vi a2, vi v14] v15 (κX v1)) 65), some (κbw v1)]

noncomputable def Z3x : Nat → Code × List ZL
 | 1 => Z5 [1, 1, 1, 0, 1, 3] (ZM Tryz.f48) []
 | _ => (.skip, [])

section
variable (L0 : List RI) (a1 a2 a3 : Int) (L4 L5 : List RG)
noncomputable def Zh3 (N : Nat) : Mach := ⟨Tryz.f48, [], ZU, ZX, Zb5 L0 a1 a2 a3 L4 L5 N, Z2w, Z3x, ilT, Z3v L0 a1 a2 a3 L4 L5, Z3w L0 a1 a2 a3 L4 L5, Ztl L0 a1 a2 a3 L4 L5, Zrf⟩

theorem Zu1 (v1 : List RG) (N : Nat) : (Zh3 L0 a1 a2 a3 L4 L5 N).Ok Tryz.prog Ze (.h1m0 v1 : ZU) (Zcj L0 a1 a2 a3 L4 L5 N v1) := by
 unfold Zcj;refine oi fun g0 => ?_;have w1 := tB 1 <| hT g0 Zg
 refine ok_ite (fun g1 => ?_) fun g1 => ?_
 · exact Mach.okF0 [3] (bkY (a3 ≥ (L0.length : Int)) w1) (bR <| bE)
 have w2 := bkN (a3 ≥ (L0.length : Int)) w1;refine oi fun g2 => ?_;have w3 := tL 3 [.i (L0.getD a3.toNat RI.z).a0] <| kG RB L0 ((0 + (a3.toNat * 4)) + 0) (a3.toNat) 0 1 4 <| kB a3.toNat L0.length <| xkI a3 (a3.toNat) w2
 refine ok_ite (fun g3 => ?_) fun g3 => ?_
 · exact Mach.okF0 [3] (bhT g3 w3) (bR <| bE)
 have w4 := tL 1 (RB.cel (L0.getD a3.toNat RI.z)) <| kG RB L0 (0 + (a3.toNat * 4)) (a3.toNat) 0 4 4 <| kB a3.toNat L0.length <| xkI a3 (a3.toNat) <| bhF g3 w3
 refine ok_ite (fun g4 => ?_) fun g4 => ?_
 ·
  have w5 := bkY ((L0.getD a3.toNat RI.z).a0 ≥ 1) w4;refine ok_ite (fun g5 => ?_) fun g5 => ?_
  ·
   refine ok_bind fun z6 c6 => ?_;cases z6 with
   | r0 y6_0 y6_1 y6_2 =>
    refine ok_ite (fun g7 => ?_) fun g7 => ?_
    ·
     subst g7;refine oi fun g8 => ?_;refine ok_bind fun z9 c9 => ?_;cases z9 with
     | r0 y9_0 y9_1 =>
      exact okN [0, 1, 2, 7, 3] [some (ms RB L0), some (vp 0 0), some (vp 1 0), some (vp 2 0), some (vs 7 0 (v1.length + 1) (v1.length + 1)), some (vi 1)] (kKg 4 (tQ (ZbM c9) 12) <| tW 1 (.ap 1 [vi y6_0, vi y6_1] (Za RA (v1 ++ ([(⟨y6_0, y6_1⟩ : RG)] : List RG)))) <| kA RA v1 (⟨y6_0, y6_1⟩ : RG) <| kKg 2 (tQ (Zbe c6) 5) <| bhY g5 w5) (tC (tC (tC (tC (tC (tC (tE) ⟨Eq.trans (show κN = vi 1 from ci) (by rfl), by rfl⟩) ⟨Eq.trans (show (vs 3 0 (v1 ++ ([(⟨y6_0, y6_1⟩ : RG)] : List RG)).length (v1 ++ ([(⟨y6_0, y6_1⟩ : RG)] : List RG)).length : Value) = vs 3 0 (v1.length + 1) (v1.length + 1) from (Zi rfl eqA eqA)) (by rfl), by rfl⟩))))) (bM (κi a1 a2 a3 L4 L5) <| bM κc <| bM (.cells (ZaR RA 8 [vi a1, vi a2, vi y9_1] y9_0 (κX v1)) 65) <| bR <| bN <| bE)
    obtain rfl : y6_2 = false := by simpa using g7
    refine ok_bind fun z8 c8 => ?_;cases z8 with
    | r0 y8_0 y8_1 =>
     exact okN [0, 1, 2, 3] [some (ms RB L0), some (vp 0 0), some (vp 1 0), some (vp 2 0), some (vs 3 0 v1.length v1.length), some (vi 1)] (kKg 5 (tQ (ZbM c8) 10) <| kKg 2 (tQ (Zbe c6) 5) <| bhY g5 w5) (tC (tC (tC (tC (tC (tC (tE) ⟨Eq.trans (show κN = vi 1 from ci) (by rfl), by rfl⟩)))))) (bM (κi a1 a2 a3 L4 L5) <| bM κc <| bM (.cells (ZaR RA 8 [vi a1, vi a2, vi y8_1] y8_0 (κX v1)) 65) <| bR <| bE)
  refine ok_ite (fun g6 => ?_) fun g6 => ?_
  ·
   refine ok_bind fun z7 c7 => ?_;cases z7 with
   | r0 y7_0 y7_1 y7_2 =>
    refine ok_ite (fun g8 => ?_) fun g8 => ?_
    ·
     subst g8;refine oi fun g9 => ?_;refine ok_bind fun z10 c10 => ?_;cases z10 with
     | r0 y10_0 y10_1 =>
      exact okN [0, 1, 2, 7, 3] [some (ms RB L0), some (vp 0 0), some (vp 1 0), some (vp 2 0), some (vs 7 0 (v1.length + 1) (v1.length + 1)), some (vi 1)] (kKg 4 (tQ (ZbM c10) 12) <| tW 1 (.ap 1 [vi y7_0, vi y7_1] (Za RA (v1 ++ ([(⟨y7_0, y7_1⟩ : RG)] : List RG)))) <| kA RA v1 (⟨y7_0, y7_1⟩ : RG) <| kKg 2 (tQ (Zbe c7) 5) <| bhT g6 <| bhN g5 w5) (tC (tC (tC (tC (tC (tC (tE) ⟨Eq.trans (show κN = vi 1 from ci) (by rfl), by rfl⟩) ⟨Eq.trans (show (vs 3 0 (v1 ++ ([(⟨y7_0, y7_1⟩ : RG)] : List RG)).length (v1 ++ ([(⟨y7_0, y7_1⟩ : RG)] : List RG)).length : Value) = vs 3 0 (v1.length + 1) (v1.length + 1) from (Zi rfl eqA eqA)) (by rfl), by rfl⟩))))) (bM (κi a1 a2 a3 L4 L5) <| bM κc <| bM (.cells (ZaR RA 8 [vi a1, vi a2, vi y10_1] y10_0 (κX v1)) 65) <| bR <| bN <| bE)
    obtain rfl : y7_2 = false := by simpa using g8
    refine ok_bind fun z9 c9 => ?_;cases z9 with
    | r0 y9_0 y9_1 =>
     exact okN [0, 1, 2, 3] [some (ms RB L0), some (vp 0 0), some (vp 1 0), some (vp 2 0), some (vs 3 0 v1.length v1.length), some (vi 1)] (kKg 5 (tQ (ZbM c9) 10) <| kKg 2 (tQ (Zbe c7) 5) <| bhT g6 <| bhN g5 w5) (tC (tC (tC (tC (tC (tC (tE) ⟨Eq.trans (show κN = vi 1 from ci) (by rfl), by rfl⟩)))))) (bM (κi a1 a2 a3 L4 L5) <| bM κc <| bM (.cells (ZaR RA 8 [vi a1, vi a2, vi y9_1] y9_0 (κX v1)) 65) <| bR <| bE)
  exact Mach.okF0 [3] (bhF g6 <| bhN g5 w5) (bR <| bE)
 exact Mach.okF0 [3] (bkF ((L0.getD a3.toNat RI.z).a0) 19 <| bkN ((L0.getD a3.toNat RI.z).a0 ≥ 1) w4) (bR <| bE)

theorem Zu2 (v1 : List RG) (v2 : Nat) (v14 : Int) (v15 : List RG) (v16 v17 N : Nat) : (Zh3 L0 a1 a2 a3 L4 L5 N).Ok Tryz.prog Ze (.h1m1 v1 v2 v14 v15 v16 v17 : ZU) (ZdJ L0 a1 a2 a3 L4 L5 N v1 v2 v14 v15 v16 v17) := by
 unfold ZdJ;refine oi fun g0 => ?_;refine oi fun g1 => ?_;have w2 := bhT g1 <| bhY g0 Zg
 refine ok_ite (fun g2 => ?_) fun g2 => ?_
 · exact Mach.okF0 [3] (bkY (v14 ≥ (L0.length : Int)) w2) (bR <| bE)
 have w3 := bkN (v14 ≥ (L0.length : Int)) w2;refine oi fun g3 => ?_;have w4 := tL 3 [.i (L0.getD (v14).toNat RI.z).a0] <| kG RB L0 ((0 + ((v14).toNat * 4)) + 0) ((v14).toNat) 0 1 4 <| kB (v14).toNat L0.length <| xkI v14 ((v14).toNat) w3
 refine ok_ite (fun g4 => ?_) fun g4 => ?_
 · exact Mach.okF0 [3] (bhT g4 w4) (bR <| bE)
 have w5 := tL 1 (RB.cel (L0.getD (v14).toNat RI.z)) <| kG RB L0 (0 + ((v14).toNat * 4)) ((v14).toNat) 0 4 4 <| kB (v14).toNat L0.length <| xkI v14 ((v14).toNat) <| bhF g4 w4
 refine ok_ite (fun g5 => ?_) fun g5 => ?_
 ·
  have w6 := bkY ((L0.getD (v14).toNat RI.z).a0 ≥ 1) w5;refine ok_ite (fun g6 => ?_) fun g6 => ?_
  ·
   refine ok_ite (fun _ => ok_none) (fun g7 => ?_);refine ok_bind fun z8 c8 => ?_;cases z8 with
   | r0 y8_0 y8_1 y8_2 =>
    refine ok_ite (fun g9 => ?_) fun g9 => ?_
    ·
     subst g9;refine oi fun g10 => ?_;refine ok_bind fun z11 c11 => ?_;cases z11 with
     | r0 y11_0 y11_1 =>
      exact okN [0, 1, 2, 8, 3] [some (ms RB L0), some (vp 0 0), some (vp 1 0), some (vp 2 0), some (vs 8 0 (v1.length + 1) (v1.length + 1)), some (κbn v2)] (tV 2 <| kW ((v2 : Int) + 1) (((v2 + 1) : Nat) : Int) <| kKg 4 (tQ (ZbM c11) 13) <| tW 1 (.ap 1 [vi y8_0, vi y8_1] (Za RA (v1 ++ ([(⟨y8_0, y8_1⟩ : RG)] : List RG)))) <| kA RA v1 (⟨y8_0, y8_1⟩ : RG) <| kKg 2 (tQ (Zbe c8) 6) <| tB 1 <| hF g7 <| bhY g6 w6) (tC (tC (tC (tC (tC (tC (tE)) ⟨Eq.trans (show (vs 3 0 (v1 ++ ([(⟨y8_0, y8_1⟩ : RG)] : List RG)).length (v1 ++ ([(⟨y8_0, y8_1⟩ : RG)] : List RG)).length : Value) = vs 3 0 (v1.length + 1) (v1.length + 1) from (Zi rfl eqA eqA)) (by rfl), by rfl⟩))))) (bM (κi a1 a2 a3 L4 L5) <| bM κc <| bM (.cells (ZaR RA 8 [vi a1, vi a2, vi y11_1] y11_0 (κX v1)) 65) <| bR <| bN <| bE)
    obtain rfl : y8_2 = false := by simpa using g9
    refine ok_bind fun z10 c10 => ?_;cases z10 with
    | r0 y10_0 y10_1 =>
     exact Mach.okN0 [0, 1, 2, 3] (tV 2 <| kW ((v2 : Int) + 1) (((v2 + 1) : Nat) : Int) <| kKg 5 (tQ (ZbM c10) 11) <| kKg 2 (tQ (Zbe c8) 6) <| tB 1 <| hF g7 <| bhY g6 w6) (bM (κi a1 a2 a3 L4 L5) <| bM κc <| bM (.cells (ZaR RA 8 [vi a1, vi a2, vi y10_1] y10_0 (κX v1)) 65) <| bR <| bE)
  refine ok_ite (fun g7 => ?_) fun g7 => ?_
  ·
   refine ok_ite (fun _ => ok_none) (fun g8 => ?_);refine ok_bind fun z9 c9 => ?_;cases z9 with
   | r0 y9_0 y9_1 y9_2 =>
    refine ok_ite (fun g10 => ?_) fun g10 => ?_
    ·
     subst g10;refine oi fun g11 => ?_;refine ok_bind fun z12 c12 => ?_;cases z12 with
     | r0 y12_0 y12_1 =>
      exact okN [0, 1, 2, 8, 3] [some (ms RB L0), some (vp 0 0), some (vp 1 0), some (vp 2 0), some (vs 8 0 (v1.length + 1) (v1.length + 1)), some (κbn v2)] (tV 2 <| kW ((v2 : Int) + 1) (((v2 + 1) : Nat) : Int) <| kKg 4 (tQ (ZbM c12) 13) <| tW 1 (.ap 1 [vi y9_0, vi y9_1] (Za RA (v1 ++ ([(⟨y9_0, y9_1⟩ : RG)] : List RG)))) <| kA RA v1 (⟨y9_0, y9_1⟩ : RG) <| kKg 2 (tQ (Zbe c9) 6) <| tB 1 <| hF g8 <| bhT g7 <| bhN g6 w6) (tC (tC (tC (tC (tC (tC (tE)) ⟨Eq.trans (show (vs 3 0 (v1 ++ ([(⟨y9_0, y9_1⟩ : RG)] : List RG)).length (v1 ++ ([(⟨y9_0, y9_1⟩ : RG)] : List RG)).length : Value) = vs 3 0 (v1.length + 1) (v1.length + 1) from (Zi rfl eqA eqA)) (by rfl), by rfl⟩))))) (bM (κi a1 a2 a3 L4 L5) <| bM κc <| bM (.cells (ZaR RA 8 [vi a1, vi a2, vi y12_1] y12_0 (κX v1)) 65) <| bR <| bN <| bE)
    obtain rfl : y9_2 = false := by simpa using g10
    refine ok_bind fun z11 c11 => ?_;cases z11 with
    | r0 y11_0 y11_1 =>
     exact Mach.okN0 [0, 1, 2, 3] (tV 2 <| kW ((v2 : Int) + 1) (((v2 + 1) : Nat) : Int) <| kKg 5 (tQ (ZbM c11) 11) <| kKg 2 (tQ (Zbe c9) 6) <| tB 1 <| hF g8 <| bhT g7 <| bhN g6 w6) (bM (κi a1 a2 a3 L4 L5) <| bM κc <| bM (.cells (ZaR RA 8 [vi a1, vi a2, vi y11_1] y11_0 (κX v1)) 65) <| bR <| bE)
  exact Mach.okF0 [3] (bhF g7 <| bhN g6 w6) (bR <| bE)
 exact Mach.okF0 [3] (bkF ((L0.getD (v14).toNat RI.z).a0) 19 <| bkN ((L0.getD (v14).toNat RI.z).a0 ≥ 1) w5) (bR <| bE)

theorem Zu3 (v1 : List RG) (v2 : Nat) (v14 : Int) (v15 : List RG) (N : Nat) : (Zh3 L0 a1 a2 a3 L4 L5 N).Ok Tryz.prog Ze (.h1m2 v1 v2 v14 v15 : ZU) (ZdK L0 a1 a2 a3 L4 L5 N v1 v2 v14 v15) := by
 unfold ZdK;refine oi fun g0 => ?_;refine oi fun g1 => ?_;have w2 := bhT g1 <| bhY g0 Zg
 refine ok_ite (fun g2 => ?_) fun g2 => ?_
 · exact Mach.okF0 [3] (bkY (v14 ≥ (L0.length : Int)) w2) (bR <| bE)
 have w3 := bkN (v14 ≥ (L0.length : Int)) w2;refine oi fun g3 => ?_;have w4 := tL 3 [.i (L0.getD (v14).toNat RI.z).a0] <| kG RB L0 ((0 + ((v14).toNat * 4)) + 0) ((v14).toNat) 0 1 4 <| kB (v14).toNat L0.length <| xkI v14 ((v14).toNat) w3
 refine ok_ite (fun g4 => ?_) fun g4 => ?_
 · exact Mach.okF0 [3] (bhT g4 w4) (bR <| bE)
 have w5 := tL 1 (RB.cel (L0.getD (v14).toNat RI.z)) <| kG RB L0 (0 + ((v14).toNat * 4)) ((v14).toNat) 0 4 4 <| kB (v14).toNat L0.length <| xkI v14 ((v14).toNat) <| bhF g4 w4
 refine ok_ite (fun g5 => ?_) fun g5 => ?_
 ·
  have w6 := bkY ((L0.getD (v14).toNat RI.z).a0 ≥ 1) w5;refine ok_ite (fun g6 => ?_) fun g6 => ?_
  ·
   refine ok_ite (fun _ => ok_none) (fun g7 => ?_);refine ok_bind fun z8 c8 => ?_;cases z8 with
   | r0 y8_0 y8_1 y8_2 =>
    refine ok_ite (fun g9 => ?_) fun g9 => ?_
    ·
     subst g9;refine oi fun g10 => ?_;refine ok_bind fun z11 c11 => ?_;cases z11 with
     | r0 y11_0 y11_1 =>
      exact okN [0, 1, 2, 7, 3] [some (ms RB L0), some (vp 0 0), some (vp 1 0), some (vp 2 0), some (vs 7 0 (v1.length + 1) (v1.length + 1)), some (κbn v2)] (tV 2 <| kW ((v2 : Int) + 1) (((v2 + 1) : Nat) : Int) <| kKg 4 (tQ (ZbM c11) 12) <| tW 1 (.ap 1 [vi y8_0, vi y8_1] (Za RA (v1 ++ ([(⟨y8_0, y8_1⟩ : RG)] : List RG)))) <| kA RA v1 (⟨y8_0, y8_1⟩ : RG) <| kKg 2 (tQ (Zbe c8) 5) <| tB 1 <| hF g7 <| bhY g6 w6) (tC (tC (tC (tC (tC (tC (tE)) ⟨Eq.trans (show (vs 3 0 (v1 ++ ([(⟨y8_0, y8_1⟩ : RG)] : List RG)).length (v1 ++ ([(⟨y8_0, y8_1⟩ : RG)] : List RG)).length : Value) = vs 3 0 (v1.length + 1) (v1.length + 1) from (Zi rfl eqA eqA)) (by rfl), by rfl⟩))))) (bM (κi a1 a2 a3 L4 L5) <| bM κc <| bM (.cells (ZaR RA 8 [vi a1, vi a2, vi y11_1] y11_0 (κX v1)) 65) <| bR <| bN <| bE)
    obtain rfl : y8_2 = false := by simpa using g9
    refine ok_bind fun z10 c10 => ?_;cases z10 with
    | r0 y10_0 y10_1 =>
     exact Mach.okN0 [0, 1, 2, 3] (tV 2 <| kW ((v2 : Int) + 1) (((v2 + 1) : Nat) : Int) <| kKg 5 (tQ (ZbM c10) 10) <| kKg 2 (tQ (Zbe c8) 5) <| tB 1 <| hF g7 <| bhY g6 w6) (bM (κi a1 a2 a3 L4 L5) <| bM κc <| bM (.cells (ZaR RA 8 [vi a1, vi a2, vi y10_1] y10_0 (κX v1)) 65) <| bR <| bE)
  refine ok_ite (fun g7 => ?_) fun g7 => ?_
  ·
   refine ok_ite (fun _ => ok_none) (fun g8 => ?_);refine ok_bind fun z9 c9 => ?_;cases z9 with
   | r0 y9_0 y9_1 y9_2 =>
    refine ok_ite (fun g10 => ?_) fun g10 => ?_
    ·
     subst g10;refine oi fun g11 => ?_;refine ok_bind fun z12 c12 => ?_;cases z12 with
     | r0 y12_0 y12_1 =>
      exact okN [0, 1, 2, 7, 3] [some (ms RB L0), some (vp 0 0), some (vp 1 0), some (vp 2 0), some (vs 7 0 (v1.length + 1) (v1.length + 1)), some (κbn v2)] (tV 2 <| kW ((v2 : Int) + 1) (((v2 + 1) : Nat) : Int) <| kKg 4 (tQ (ZbM c12) 12) <| tW 1 (.ap 1 [vi y9_0, vi y9_1] (Za RA (v1 ++ ([(⟨y9_0, y9_1⟩ : RG)] : List RG)))) <| kA RA v1 (⟨y9_0, y9_1⟩ : RG) <| kKg 2 (tQ (Zbe c9) 5) <| tB 1 <| hF g8 <| bhT g7 <| bhN g6 w6) (tC (tC (tC (tC (tC (tC (tE)) ⟨Eq.trans (show (vs 3 0 (v1 ++ ([(⟨y9_0, y9_1⟩ : RG)] : List RG)).length (v1 ++ ([(⟨y9_0, y9_1⟩ : RG)] : List RG)).length : Value) = vs 3 0 (v1.length + 1) (v1.length + 1) from (Zi rfl eqA eqA)) (by rfl), by rfl⟩))))) (bM (κi a1 a2 a3 L4 L5) <| bM κc <| bM (.cells (ZaR RA 8 [vi a1, vi a2, vi y12_1] y12_0 (κX v1)) 65) <| bR <| bN <| bE)
    obtain rfl : y9_2 = false := by simpa using g10
    refine ok_bind fun z11 c11 => ?_;cases z11 with
    | r0 y11_0 y11_1 =>
     exact Mach.okN0 [0, 1, 2, 3] (tV 2 <| kW ((v2 : Int) + 1) (((v2 + 1) : Nat) : Int) <| kKg 5 (tQ (ZbM c11) 10) <| kKg 2 (tQ (Zbe c9) 5) <| tB 1 <| hF g8 <| bhT g7 <| bhN g6 w6) (bM (κi a1 a2 a3 L4 L5) <| bM κc <| bM (.cells (ZaR RA 8 [vi a1, vi a2, vi y11_1] y11_0 (κX v1)) 65) <| bR <| bE)
  exact Mach.okF0 [3] (bhF g7 <| bhN g6 w6) (bR <| bE)
 exact Mach.okF0 [3] (bkF ((L0.getD (v14).toNat RI.z).a0) 19 <| bkN ((L0.getD (v14).toNat RI.z).a0 ≥ 1) w5) (bR <| bE)

noncomputable abbrev κ4 := #[ms RB L0, Value.agg (List.toArray ([vi a1, vi a2, vi a3] ++ (rv8 L4 ++ [ms RA L5])))]
theorem Z04 (N : Nat) : (Zh3 L0 a1 a2 a3 L4 L5 N).Enter Tryz.prog Ze (κ4 L0 a1 a2 a3 L4 L5) (ZhJ L0 a1 a2 a3 L4 L5 N) := by
 unfold ZhJ;refine en_ite (fun g0 => ?_) (fun g0 => ?_)
 · exact enH [0, 1, 2, 3] [some (ms RB L0), some (vp 0 0), some (vp 1 0), some (vp 2 0), some (vs 3 0 0 0), some (vq)] (tW 3 (.ap0) <| kX (dP (0 = L5.length ∧ ((L5.length * 2 = 0 ∧ ([] : List Value) = []) ∨ ∃ c, L5.length * 2 ≠ 0 ∧ ZS (code (Z9 RA L5)) 0 (L5.length * 2) = some c ∧ ([] : List Value) = Zl c))) true (Zn ⟨by omega, .inl ⟨by omega, rfl⟩⟩) Zg) (tC (tC (tC (tC (tC (tC (tE)) ⟨Eq.trans (show (vs 3 0 ([] : List RG).length ([] : List RG).length : Value) = vs 3 0 0 0 from (Zi rfl eqA eqA)) (by rfl), by rfl⟩))))) (bM (κi a1 a2 a3 L4 L5) <| bM κc <| bM (κi a1 a2 a3 L4 L5) <| bC (o := .cells [] 44) (Zz (E := RA) _ (L := ([] : List RG)) _ (show ([] : List Value) = Za RA ([] : List RG) from rfl)) <| bE)
 refine en_ite (fun g1 => ?_) (fun _ => en_none);exact enH [0, 1, 2, 4] [some (ms RB L0), some (vp 0 0), some (vp 1 0), some (vp 2 0), some (vs 4 0 (0 + L5.length) (0 + L5.length)), some (vq)] (tW 3 (.ap L5.length (Za RA L5) (Za RA L5)) <| kX (dP ((L5.length = L5.length ∧ ((L5.length * 2 = 0 ∧ (Za RA L5) = []) ∨ ∃ c, L5.length * 2 ≠ 0 ∧ ZS (code (Z9 RA L5)) 0 (L5.length * 2) = some c ∧ (Za RA L5) = Zl c)) ∧ 0 < L5.length ∧ L5.length ≤ 100000 ∧ 0 < 0 + L5.length ∧ 0 ≤ 100000 ∧ 0 * 2 ≤ (List.length []) ∧ List.take (0 * 2) [] ++ (Za RA L5) = (Za RA L5))) true (Zn ⟨⟨rfl, (Zc4 (E := RA) (L := L5) (n := L5.length) (size := 2) rfl (by decide) (by omega))⟩, by omega, by omega, ltA, by omega, (Zas (E := RA) (L := ([] : List RG)) (M := L5) (n := 0) (show _ = _ * 2 from rfl) ltA (R := L5) (by rw [List.take_of_length_le ltA]; rfl))⟩) Zg) (tC (tC (tC (tC (tC (tC (tE)) ⟨Eq.trans (show (vs 3 0 L5.length L5.length : Value) = vs 3 0 (0 + L5.length) (0 + L5.length) from (Zi rfl eqA eqA)) (by rfl), by rfl⟩))))) (bM (κi a1 a2 a3 L4 L5) <| bM κc <| bM (κi a1 a2 a3 L4 L5) <| bR <| bE)

theorem Zu4 (N : Nat) (r : ZX) (h : Zcr L0 a1 a2 a3 L4 L5 N = some r) : LSpec Tryz.prog 48 (κ4 L0 a1 a2 a3 L4 L5) [] (Ztl L0 a1 a2 a3 L4 L5 r) (Zrf r) :=
 Mach.specT Zv (Zh3 L0 a1 a2 a3 L4 L5 N) Tryz.func48 (fun x => (show (Zh3 L0 a1 a2 a3 L4 L5 N).Ok Tryz.prog Ze x (Zb5 L0 a1 a2 a3 L4 L5 N x) from by
  cases x with
  | h1m0 v1 => exact Zu1 L0 a1 a2 a3 L4 L5 v1 N
  | h1m1 v1 v2 v14 v15 v16 v17 => exact Zu2 L0 a1 a2 a3 L4 L5 v1 v2 v14 v15 v16 v17 N
  | h1m2 v1 v2 v14 v15 => exact Zu3 L0 a1 a2 a3 L4 L5 v1 v2 v14 v15 N
  )) (Z04 L0 a1 a2 a3 L4 L5 N) h

theorem Zws (N : Nat) (r : ZX) (h : Zcr L0 a1 a2 a3 L4 L5 N = some r) : LSpec Tryz.prog 48 (κ4 L0 a1 a2 a3 L4 L5) [] (ZvJ L0 a1 a2 a3 L4 L5 r) (Ztm r) := by
 have h0 := Zu4 L0 a1 a2 a3 L4 L5 N r h;cases r with
 | r0 w0 w2 w3 w4 => exact (LSpec.frzv (E := RA) (L := w4) (post := []) (v2 := Value.tuple #[Value.agg (List.toArray ([vi w0, vi a2, vi w2] ++ (rv8 w3 ++ [ms RA w4]))), vT]) h0 (show 0 ≤ 0 from by decide) (show 0 < 1000000000 from by decide) trivial rfl rfl rfl)

end
theorem Znt {L0 : List RI} {a1 a2 a3 : Int} {L4 L5 : List RG} {N : Nat} {r : ZX} (h : Zcr L0 a1 a2 a3 L4 L5 N = some r) : LSpec Tryz.prog 48 (κ4 L0 a1 a2 a3 L4 L5) [] (ZvJ L0 a1 a2 a3 L4 L5 r) (Ztm r) := Zws L0 a1 a2 a3 L4 L5 N r h

noncomputable def Zpc (L0 : List (List RI)) (L1 : List RL) (L2 : List RJ) (a3 : Int) : Zc8 → Value
 | .r0 => Value.tuple #[Value.agg #[vq, vq, vq, vq, vq, vq, vq, vq, vq, vq, vq, vq, vq, vq, vq, vq, vq, vq, vq, vn], vq]
 | .r1 w0 w2 w3 w4 => Value.tuple #[Value.agg (List.toArray ([vi w0, vi (L1.getD a3.toNat RL.z).a1, vi w2] ++ (rv8 w3 ++ [ms RA w4]))), vi 2]
noncomputable def ZnG : Zc8 → List (Option AObj)
 | .r0 => []
 | .r1 w0 w2 w3 w4 => []

noncomputable abbrev κbI := #[Value.agg #[vq, vq, vq, vq, vq, vq, vq, vq, vq, vq, vq, vq, vq, vq, vq, vq, vq, vq, vq, ms RA ([] : List RG)], vq]
noncomputable def Zrg (L0 : List (List RI)) (L1 : List RL) (L2 : List RJ) (a3 : Int) : Zc8 → Value
 | .r0 => Value.tuple κbI
 | .r1 w0 w2 w3 w4 => Value.tuple #[Value.agg (List.toArray ([vi w0, vi (L1.getD a3.toNat RL.z).a1, vi w2] ++ (rv8 w3 ++ [ms RA w4]))), vi 2]
noncomputable def Zpd : Zc8 → List (Option AObj)
 | .r0 => []
 | .r1 w0 w2 w3 w4 => []

section
variable (L0 : List (List RI)) (L1 : List RL) (L2 : List RJ)
noncomputable abbrev κf := [ms (Zm RB) L0, ms RE L1, ms RC L2]
noncomputable abbrev κd := #[ms (Zm RB) L0, ms RE L1, ms RC L2]
theorem Zwt (a3 : Int) (N : Nat) : Fx Tryz.prog Ze Tryz.f22 [] #[Value.agg (κd L0 L1 L2), vi a3] (Zpc L0 L1 L2 a3) (ZnG) (ZcF L0 L1 L2 a3 N) := by
 unfold ZcF;refine Zb (fun _ => Zd) (fun g0 => ?_);refine Zb (fun _ => Zd) (fun g1 => ?_);have w2 := tL 2 [.i (L1.getD a3.toNat RL.z).a0] <| kG RE L1 ((0 + (a3.toNat * 20)) + 0) (a3.toNat) 0 1 20 <| kB a3.toNat L1.length <| xkI a3 (a3.toNat) <| bkN (a3 ≥ (L1.length : Int)) <| bhN g0 Zg
 refine Zb (fun _ => Zd) (fun g2 => ?_);have w3 := bkE ((L1.getD a3.toNat RL.z).a0) 0 w2;refine Zb (fun g3 => ?_) (fun _ => Zd);have w4 := tL 1 (RE.cel (L1.getD a3.toNat RL.z)) <| kG RE L1 (0 + (a3.toNat * 20)) (a3.toNat) 0 20 20 <| kB a3.toNat L1.length <| xkI a3 (a3.toNat) <| tL 1 ([(mc RB (L0.getD a3.toNat []))]) <| kG (Zm RB) L0 (0 + (a3.toNat * 1)) (a3.toNat) 0 1 1 <| kB a3.toNat L0.length <| xkI a3 (a3.toNat) w3
 refine Zx (fun z4 c4 => ?_);cases z4 with
 | r0 y4_0 y4_1 y4_2 y4_3 =>
  refine Zb (fun g5 => ?_) (fun g5 => ?_)
  · exact Zq [] (tB 1 <| hD g5 <| kKg 1 (tQ (Znt c4) 2) w4) bE
  refine Zb (fun g6 => ?_) (fun _ => Zd);refine Zb (fun g7 => ?_) (fun _ => Zd);refine Zb (fun g8 => ?_) (fun _ => Zd);exact Zq [] (bhT g8 <| tL 1 ([.i ((L0.getD a3.toNat []).getD (y4_1).toNat RI.z).a0]) <| kG RB (L0.getD a3.toNat []) ((0 + ((y4_1).toNat * 4)) + 0) ((y4_1).toNat) 0 1 4 <| kB (y4_1).toNat (L0.getD a3.toNat []).length <| xkI y4_1 ((y4_1).toNat) <| tL 2 ([(mc RB (L0.getD a3.toNat []))]) <| kG (Zm RB) L0 (0 + (a3.toNat * 1)) (a3.toNat) 0 1 1 <| kB a3.toNat L0.length <| xkI a3 (a3.toNat) <| tB 1 <| kE y4_0 0 <| kKg 1 (tQ (Znt c4) 2) w4) bE

theorem ZrF (a3 : Int) (N : Nat) (r : Zc8) (h : ZcF L0 L1 L2 a3 N = some r) : LSpec Tryz.prog 22 #[Value.agg (κd L0 L1 L2), vi a3] [] (Zpc L0 L1 L2 a3 r) (ZnG r) :=
 ZI Zv Tryz.func22 (by kernel_rfl) (by kernel_rfl) (fun r => by cases r <;> exact ZP _ rfl) (Zwt L0 L1 L2 a3 N) h

theorem Ztn (a3 : Int) (N : Nat) (r : Zc8) (h : ZcF L0 L1 L2 a3 N = some r) : LSpec Tryz.prog 22 #[Value.agg (κd L0 L1 L2), vi a3] [] (Zrg L0 L1 L2 a3 r) (Zpd r) := by
 have h0 := ZrF L0 L1 L2 a3 N r h;cases r with
 | r0 => exact (LSpec.nlv (v2 := Value.tuple κbI) h0 rfl rfl)
 | r1 _ _ _ _ => exact h0

end
theorem Zie {L0 : List (List RI)} {L1 : List RL} {L2 : List RJ} {a3 : Int} {N : Nat} {r : Zc8} (h : ZcF L0 L1 L2 a3 N = some r) : LSpec Tryz.prog 22 #[Value.agg (κd L0 L1 L2), vi a3] [] (Zrg L0 L1 L2 a3 r) (Zpd r) := Ztn L0 L1 L2 a3 N r h

noncomputable def Zpe : Zd0 → Value
 | .r0 w0 => Value.bool w0
noncomputable def Znu : Zd0 → List (Option AObj)
 | .r0 w0 => []

section
variable (a0 a1 : Int) (N : Nat)
theorem Z05 : Fx Tryz.prog Ze Tryz.f100 [] #[Value.agg #[vi a0, vi a1]] (Zpe) (Znu) (Zb6 a0 a1 N) := by
 unfold Zb6;refine Zb (fun g0 => ?_) (fun g0 => ?_)
 · exact Zq [] (bhT g0 Zg) bE
 refine Zb (fun g1 => ?_) (fun _ => Zd);have w2 := bhT g1 <| bhF g0 Zg
 refine Zb (fun g2 => ?_) (fun g2 => ?_)
 · exact Zq [] (bhT g2 w2) bE
 refine Zb (fun g3 => ?_) (fun g3 => ?_)
 ·
  have w4 := bkY (a1 ≥ 1048576) <| bhF g2 w2
  refine Zb (fun g4 => ?_) (fun _ => Zd);refine Zb (fun g5 => ?_) (fun g5 => ?_)
  ·
   have w6 := vkM a1 1048576 <| bhY g5 <| vkV a1 1048576 w4
   refine Zb (fun g6 => ?_) (fun g6 => ?_)
   · exact Zq [] (bkY ((a1 % 1048576) ≥ 1) w6) bE
   exact Zq [] (bkN ((a1 % 1048576) ≥ 1) w6) bE
  exact Zq [] (bhN g5 <| vkV a1 1048576 w4) bE
 exact Zq [] (bkN (a1 ≥ 1048576) <| bhF g2 w2) bE

theorem Zwu (r : Zd0) (h : Zb6 a0 a1 N = some r) : LSpec Tryz.prog 100 #[Value.agg #[vi a0, vi a1]] [] (Zpe r) (Znu r) :=
 ZI Zv Tryz.func100 (by kernel_rfl) (by kernel_rfl) (fun r => by cases r <;> exact ZP _ rfl) (Z05 a0 a1 N) h

end
theorem ZeM {a0 a1 : Int} {N : Nat} {r : Zd0} (h : Zb6 a0 a1 N = some r) : LSpec Tryz.prog 100 #[Value.agg #[vi a0, vi a1]] [] (Zpe r) (Znu r) := Zwu a0 a1 N r h

noncomputable def Zpf : ZcG → Value
 | .r0 => vf
section
variable (L0 : List RG)
noncomputable abbrev κbx := (AObj.cells (Za RA L0) 44 true)
noncomputable def ZnH (n1 n2 : Nat) (a3 a4 : Int) : ZcG → List (Option AObj)
 | .r0 => [some (κbx L0)]

def Zwv : Zbm → Nat
 | .h1m0 v3 => 1
noncomputable def ZyM (L0 : List RG) (n1 n2 : Nat) (a3 a4 : Int) : Zbm → List (Nat × Value)
 | .h1m0 v3 => [(0, vs 0 0 n1 n2), (3, vp 1 0), (5, vi (v3 : Int))]
noncomputable def ZyN (n1 n2 : Nat) (a3 a4 : Int) : Zbm → List (Option AObj)
 | .h1m0 v3 => [some (κbx L0), some (.cells [vi a3, vi a4] 44)]

noncomputable def ZyO : Nat → Code × List ZL
 | 1 => Z5 [1, 0, 1, 3] (ZM Tryz.f101) []
 | _ => (.skip, [])

noncomputable abbrev κby := [AObj.cells (Za RA L0) 44 true]
end
section
variable (L0 : List RG) (n1 n2 : Nat) (a3 a4 : Int)
noncomputable def Zif (N : Nat) : Mach := ⟨Tryz.f101, (κby L0), Zbm, ZcG, ZfO L0 n1 n2 a3 a4 N, Zwv, ZyO, ilT, ZyM L0 n1 n2 a3 a4, ZyN L0 n1 n2 a3 a4, Zpf, ZnH L0 n1 n2 a3 a4⟩

theorem Zqz (v3 N : Nat) : (Zif L0 n1 n2 a3 a4 N).Ok Tryz.prog Ze (.h1m0 v3 : Zbm) (Zcs L0 n1 n2 a3 a4 N v3) := by
 unfold Zcs;refine ok_ite (fun g0 => ?_) fun g0 => ?_
 · refine oi fun g1 => ?_;refine ok_ite (fun _ => ok_none) (fun g2 => ?_);refine oi fun g3 => ?_;exact Mach.okN0 [0, 1] (vkW ((v3 : Int) + 1) (((v3 + 1) : Nat) : Int) <| bkO (((L0.getD v3 RG.z).a0 == a3) && (((L0.getD v3 RG.z).a1 == a4) && true)) <| Za3 RA L0 v3 0 2 <| kB v3 n1 <| xkI (v3 : Int) v3 <| bhY g0 Zg) (bQ <| bS [vi a3, vi a4] <| bE)
 exact Mach.okF0 [0] (bhN g0 Zg) (bQ <| bE)

theorem Zu5 (N : Nat) : (Zif L0 n1 n2 a3 a4 N).Enter Tryz.prog Ze #[vs 0 0 n1 n2, Value.agg #[vi a3, vi a4]] (Zjx L0 n1 n2 a3 a4 N) := by unfold Zjx;exact enH [0, 1] [some (vs 0 0 n1 n2), some (vp 1 0), some (vq)] Zg (tC (tC (tC (tE) ⟨Eq.trans (show κg = vq from ci) (by rfl), by rfl⟩))) (bQ <| bS [vi a3, vi a4] <| bE)

theorem ZrG (N : Nat) (r : ZcG) (h : ZfI L0 n1 n2 a3 a4 N = some r) : LSpec Tryz.prog 101 #[vs 0 0 n1 n2, Value.agg #[vi a3, vi a4]] (κby L0) (Zpf r) (ZnH L0 n1 n2 a3 a4 r) :=
 Mach.specT Zv (Zif L0 n1 n2 a3 a4 N) Tryz.func101 (fun x => (show (Zif L0 n1 n2 a3 a4 N).Ok Tryz.prog Ze x (ZfO L0 n1 n2 a3 a4 N x) from by
  cases x with
  | h1m0 v3 => exact Zqz L0 n1 n2 a3 a4 v3 N
  )) (Zu5 L0 n1 n2 a3 a4 N) h

end
noncomputable def Zww {L0 : List RG} {n1 n2 : Nat} {a3 a4 : Int} {N : Nat} (h : ZfI L0 n1 n2 a3 a4 N = some (.r0)) (ks : List Nat) (n : Nat) : ToldS := ⟨#[vs (nth ks 0) 0 n1 n2, Value.agg #[vi a3, vi a4]], [((nth ks 0), .cells (Za RA L0) 44 true)], vf, [], 0⟩

theorem Zwx {L0 : List RG} {n1 n2 : Nat} {a3 a4 : Int} {N : Nat} (h : ZfI L0 n1 n2 a3 a4 N = some (.r0)) (ks : List Nat) (n : Nat) (hk : ks.length = 1 := by rfl) (hnd : ks.Nodup := by decide +kernel) (hlt : ∀ k ∈ ks, k < n := by decide +kernel) : (Zww (N := N)  h ks n).P Tryz.prog 101 n :=
 match ks, hk, hnd, hlt with
 | [k0], _, hnd, hlt => Zci (show LSpec Tryz.prog 101 #[vs 0 0 n1 n2, Value.agg #[vi a3, vi a4]] (κby L0) (vf) [some (κbx L0)] from ZrG L0 n1 n2 a3 a4 N _ h) _ n [] hnd hlt

noncomputable def ZkF : ZbX → Value
 | .r0 => vf
noncomputable def ZjC : ZbX → List (Option AObj)
 | .r0 => []

def Zwy : Zbn → Nat
 | .h1m0 v1 => 1
noncomputable def ZyP (L0 : List RJ) (a1 a2 : Int) : Zbn → List (Nat × Value)
 | .h1m0 v1 => [(0, ms RC L0), (3, vp 0 0), (5, vi (v1 : Int))]
noncomputable def ZyQ (L0 : List RJ) (a1 a2 : Int) : Zbn → List (Option AObj)
 | .h1m0 v1 => [some (.cells [vi a1, vi a2] 44)]

noncomputable def ZyR : Nat → Code × List ZL
 | 1 => Z5 [1, 0, 1, 3] (ZM Tryz.f102) []
 | _ => (.skip, [])

section
variable (L0 : List RJ) (a1 a2 : Int)
noncomputable def Zig (N : Nat) : Mach := ⟨Tryz.f102, [], Zbn, ZbX, ZfP L0 a1 a2 N, Zwy, ZyR, ilT, ZyP L0 a1 a2, ZyQ L0 a1 a2, ZkF, ZjC⟩

theorem Zq0 (v1 N : Nat) : (Zig L0 a1 a2 N).Ok Tryz.prog Ze (.h1m0 v1 : Zbn) (Zct L0 a1 a2 N v1) := by
 unfold Zct;refine ok_ite (fun g0 => ?_) fun g0 => ?_
 · refine ok_ite (fun _ => ok_none) (fun g1 => ?_);refine oi fun g2 => ?_;exact Mach.okN0 [0] (vkW ((v1 : Int) + 1) (((v1 + 1) : Nat) : Int) <| bkO (((L0.getD v1 RJ.z).a0 == a1) && (((L0.getD v1 RJ.z).a1 == a2) && true)) <| lkG RC L0 ((0 + (v1 * 8)) + 0) v1 0 2 8 <| kB v1 L0.length <| xkI (v1 : Int) v1 <| bhY g0 Zg) (bS [vi a1, vi a2] <| bE)
 exact Mach.okF0 [] (bhN g0 Zg) bE

noncomputable abbrev κs := #[ms RC L0, Value.agg #[vi a1, vi a2]]
theorem Zu6 (N : Nat) : (Zig L0 a1 a2 N).Enter Tryz.prog Ze (κs L0 a1 a2) (Zjy L0 a1 a2 N) := by unfold Zjy;exact enH [0] [some (ms RC L0), some (vp 0 0), some (vq)] Zg (tC (tC (tC (tE) ⟨Eq.trans (show κg = vq from ci) (by rfl), by rfl⟩))) (bS [vi a1, vi a2] <| bE)

theorem ZrH (N : Nat) (r : ZbX) (h : ZfJ L0 a1 a2 N = some r) : LSpec Tryz.prog 102 (κs L0 a1 a2) [] (ZkF r) (ZjC r) :=
 Mach.specT Zv (Zig L0 a1 a2 N) Tryz.func102 (fun x => (show (Zig L0 a1 a2 N).Ok Tryz.prog Ze x (ZfP L0 a1 a2 N x) from by
  cases x with
  | h1m0 v1 => exact Zq0 L0 a1 a2 v1 N
  )) (Zu6 L0 a1 a2 N) h

end
theorem ZnI {L0 : List RJ} {a1 a2 : Int} {N : Nat} {r : ZbX} (h : ZfJ L0 a1 a2 N = some r) : LSpec Tryz.prog 102 (κs L0 a1 a2) [] (ZkF r) (ZjC r) := ZrH L0 a1 a2 N r h

noncomputable def Zpg : ZcH → Value
 | .r0 => vT
noncomputable def ZnJ (L0 : List (List RI)) (L1 : List RL) (L2 : List RJ) (L3 : List RG) : ZcH → List (Option AObj)
 | .r0 => [some (.cells (Za RA L3) 44 true)]

def Zwz : Zbo → Nat
 | .h1m0 v1 => 1
noncomputable def ZyS (L0 : List (List RI)) (L1 : List RL) (L2 : List RJ) (L3 : List RG) : Zbo → List (Nat × Value)
 | .h1m0 v1 => [(1, vs 0 0 L3.length L3.length), (2, vp 1 0), (5, vi (v1 : Int))]
section
variable (L0 : List (List RI)) (L1 : List RL) (L2 : List RJ) (L3 : List RG)
noncomputable def ZyT : Zbo → List (Option AObj)
 | .h1m0 v1 => [some (.cells (Za RA L3) 44 true), some (.cells (κf L0 L1 L2) 34)]

noncomputable def ZyU : Nat → Code × List ZL
 | 1 => Z5 [1, 0, 1, 3] (ZM Tryz.f75) []
 | _ => (.skip, [])

noncomputable def Zih (N : Nat) : Mach := ⟨Tryz.f75, [.cells (Za RA L3) 44 true], Zbo, ZcH, ZfQ L0 L1 L2 L3 N, Zwz, ZyU, ilT, ZyS L0 L1 L2 L3, ZyT L0 L1 L2 L3, Zpg, ZnJ L0 L1 L2 L3⟩

theorem Zq1 (v1 N : Nat) : (Zih L0 L1 L2 L3 N).Ok Tryz.prog Ze (.h1m0 v1 : Zbo) (Zcu L0 L1 L2 L3 N v1) := by
 unfold Zcu;refine ok_ite (fun g0 => ?_) fun g0 => ?_
 ·
  refine ok_ite (fun _ => ok_none) (fun g1 => ?_);refine ok_bind fun z2 c2 => ?_;cases z2 with
  | r0 y2_0 =>
   refine ok_ite (fun _ => ok_none) (fun g3 => ?_);refine ok_ite (fun _ => ok_none) (fun g4 => ?_);refine ok_bind fun z5 c5 => ?_;cases z5 with
   | r0 =>
    refine ok_bind fun z6 c6 => ?_;cases z6 with
    | r0 =>
     refine oi fun g7 => ?_;exact Mach.okN0 [0, 1] (vkW ((v1 : Int) + 1) (((v1 + 1) : Nat) : Int) <| kK (tQ (ZnI c6) 2) <| tL 1 (RA.cel (L3.getD v1 RG.z)) <| kLn RA L3 v1 0 2 <| kB v1 L3.length <| xkI (v1 : Int) v1 <| kKb (A := #[Value.slice (some ⟨0, (0 + (0 * 2)), none⟩) (v1 - 0) (L3.length - 0), Value.agg #[vi (L3.getD v1 RG.z).a0, vi (L3.getD v1 RG.z).a1]]) (Zel (Zw (Zi eqA rfl rfl) (cr rfl))) (Zwx c5 [0] 2) <| kR (Za RA L3) <| Za3 RA L3 v1 0 2 <| kB v1 L3.length <| xkI (v1 : Int) v1 <| kX (dP (0 ≤ v1 ∧ v1 ≤ L3.length)) true (Zn ⟨ltA, ltA⟩) <| kI (v1 : Int) (Int.ofNat v1) <| tW 0 (.sl 0 v1) <| kR 0 <| bhF g4 <| lkL RA L3 v1 1 1 <| kB v1 L3.length <| xkI (v1 : Int) v1 <| bkX ((!y2_0)) false nbf <| kK (tQ (ZeM c2) 2) <| Za3 RA L3 v1 0 2 <| kB v1 L3.length <| xkI (v1 : Int) v1 <| bkE ((L3.getD v1 RG.z).a0) 2 <| lkL RA L3 v1 0 1 <| kB v1 L3.length <| xkI (v1 : Int) v1 <| bhY g0 Zg) (bQ <| bS (κf L0 L1 L2) <| bE)
 exact Mach.okF0 [0] (bhN g0 Zg) (bQ <| bE)

theorem Zu7 (N : Nat) : (Zih L0 L1 L2 L3 N).Enter Tryz.prog Ze #[Value.agg (κd L0 L1 L2), vs 0 0 L3.length L3.length] (Zjz L0 L1 L2 L3 N) := by unfold Zjz;exact enH [0, 1] [some (vs 0 0 L3.length L3.length), some (vp 1 0), some (vq)] Zg (tC (tC (tC (tE) ⟨Eq.trans (show κg = vq from ci) (by rfl), by rfl⟩))) (bQ <| bS (κf L0 L1 L2) <| bE)

theorem ZrI (N : Nat) (r : ZcH) (h : Zeb L0 L1 L2 L3 N = some r) : LSpec Tryz.prog 75 #[Value.agg (κd L0 L1 L2), vs 0 0 L3.length L3.length] [.cells (Za RA L3) 44 true] (Zpg r) (ZnJ L0 L1 L2 L3 r) :=
 Mach.specT Zv (Zih L0 L1 L2 L3 N) Tryz.func75 (fun x => (show (Zih L0 L1 L2 L3 N).Ok Tryz.prog Ze x (ZfQ L0 L1 L2 L3 N x) from by
  cases x with
  | h1m0 v1 => exact Zq1 L0 L1 L2 L3 v1 N
  )) (Zu7 L0 L1 L2 L3 N) h

end
noncomputable def Zw0 {L0 : List (List RI)} {L1 : List RL} {L2 : List RJ} {L3 : List RG} {N : Nat} (h : Zeb L0 L1 L2 L3 N = some (.r0)) (ks : List Nat) (n : Nat) : ToldS := ⟨#[Value.agg (κd L0 L1 L2), vs (nth ks 0) 0 L3.length L3.length], [((nth ks 0), .cells (Za RA L3) 44 true)], vT, [], 0⟩

theorem Zw1 {L0 : List (List RI)} {L1 : List RL} {L2 : List RJ} {L3 : List RG} {N : Nat} (h : Zeb L0 L1 L2 L3 N = some (.r0)) (ks : List Nat) (n : Nat) (hk : ks.length = 1 := by rfl) (hnd : ks.Nodup := by decide +kernel) (hlt : ∀ k ∈ ks, k < n := by decide +kernel) : (Zw0 (N := N)  h ks n).P Tryz.prog 75 n :=
 match ks, hk, hnd, hlt with
 | [k0], _, hnd, hlt => Zci (show LSpec Tryz.prog 75 #[Value.agg (κd L0 L1 L2), vs 0 0 L3.length L3.length] [.cells (Za RA L3) 44 true] (vT) [some (.cells (Za RA L3) 44 true)] from ZrI L0 L1 L2 L3 N _ h) _ n [] hnd hlt

end Ev
end Go.Proofs.YthfohmhipifiaaaGreat
namespace Go.Proofs.YthfohmhipifiaaaGreat
open Go.IntKind (i64)
open Go.RowKit
namespace Ev
open Mach (oi ok_ite ok_none ok_bind okN enH en_ite en_none en_bind)
set_option linter.unusedVariables false
set_option maxRecDepth 100000
noncomputable def ZlA : Zbw → Value
 | .r0 w0 => vi w0
noncomputable def ZkG : Zbw → List (Option AObj)
 | .r0 w0 => []

def ZyV : ZbA → Nat
 | .h1m0 v2 => 1
section
variable (L0 : List RI)
noncomputable def Z06 (a1 : Int) : ZbA → List (Nat × Value)
 | .h1m0 v2 => [(0, ms RB L0), (5, vq), (6, vi v2)]
noncomputable def Z07 (L0 : List RI) (a1 : Int) : ZbA → List (Option AObj)
 | .h1m0 v2 => []

noncomputable def Z08 : Nat → Code × List ZL
 | 1 => Z5 [1, 1, 3, 1, 4, 1, 0, 1, 3] (ZM Tryz.f148) []
 | _ => (.skip, [])

noncomputable def ZiR (a1 : Int) (N : Nat) : Mach := ⟨Tryz.f148, [], ZbA, Zbw, ZeY L0 a1 N, ZyV, Z08, ilT, Z06 L0 a1, Z07 L0 a1, ZlA, ZkG⟩

theorem ZrJ (a1 v2 : Int) (N : Nat) : (ZiR L0 a1 N).Ok Tryz.prog Ze (.h1m0 v2 : ZbA) (ZdD L0 a1 N v2) := by
 unfold ZdD;refine oi fun g0 => ?_;refine oi fun g1 => ?_;have w2 := lkG RB L0 ((0 + ((v2).toNat * 4)) + 0) ((v2).toNat) 0 1 4 <| kB (v2).toNat L0.length <| xkI v2 ((v2).toNat) <| bhY g0 Zg
 refine ok_ite (fun g2 => ?_) fun g2 => ?_
 · exact Mach.okF0 [] (tB 1 <| hT g2 w2) bE
 have w3 := lkG RB L0 ((0 + ((v2).toNat * 4)) + 0) ((v2).toNat) 0 1 4 <| kB (v2).toNat L0.length <| xkI v2 ((v2).toNat) <| tB 1 <| hF g2 w2
 refine ok_ite (fun g3 => ?_) fun g3 => ?_
 · exact Mach.okF0 [] (bhT g3 w3) bE
 refine ok_ite (fun _ => ok_none) (fun g4 => ?_);exact Mach.okN0 [] (bhF g2 <| lkG RB L0 ((0 + ((v2).toNat * 4)) + 0) ((v2).toNat) 0 1 4 <| kB (v2).toNat L0.length <| xkI v2 ((v2).toNat) <| bhF g4 <| lkG RB L0 ((0 + ((v2).toNat * 4)) + 0) ((v2).toNat) 0 1 4 <| kB (v2).toNat L0.length <| xkI v2 ((v2).toNat) <| bhF g3 w3) bE

theorem Zw2 (a1 : Int) (N : Nat) : (ZiR L0 a1 N).Enter Tryz.prog Ze #[ms RB L0, vi a1] (ZhK L0 a1 N) := by
 unfold ZhK;refine en_ite (fun g0 => ?_) (fun _ => en_none);refine en_ite (fun g1 => ?_) (fun _ => en_none);have w2 := lkG RB L0 ((0 + (a1.toNat * 4)) + 0) (a1.toNat) 0 1 4 <| kB a1.toNat L0.length <| xkI a1 (a1.toNat) Zg
 refine en_ite (fun g2 => ?_) (fun g2 => ?_)
 · exact Mach.enH0 [] (bhT g2 w2) bE
 refine en_ite (fun g3 => ?_) (fun g3 => ?_)
 · exact Mach.enH0 [] (bhT g3 <| bhF g2 w2) bE
 refine en_ite (fun g4 => ?_) (fun g4 => ?_)
 ·
  refine en_bind (fun z5 c5 => ?_);cases z5 with
  | r0 y5_0 y5_1 =>
   exact Mach.enF0 [] (kK (tQ (Zfi c5) 0) <| bhT g4 <| bhF g3 <| bhF g2 w2) bE
 exact Mach.enF0 [] (bhF g4 <| bhF g3 <| bhF g2 w2) bE

theorem Zto (a1 : Int) (N : Nat) (r : Zbw) (h : Zfz L0 a1 N = some r) : LSpec Tryz.prog 148 #[ms RB L0, vi a1] [] (ZlA r) (ZkG r) :=
 Mach.specT Zv (ZiR L0 a1 N) Tryz.func148 (fun x => (show (ZiR L0 a1 N).Ok Tryz.prog Ze x (ZeY L0 a1 N x) from by
  cases x with
  | h1m0 v2 => exact ZrJ L0 a1 v2 N
  )) (Zw2 L0 a1 N) h

theorem Zph {L0 : List RI} {a1 : Int} {N : Nat} {r : Zbw} (h : Zfz L0 a1 N = some r) : LSpec Tryz.prog 148 #[ms RB L0, vi a1] [] (ZlA r) (ZkG r) := Zto L0 a1 N r h

noncomputable def ZnK : Za6 → Value
 | .r0 => Value.tuple #[vn, vq]
 | .r1 w0 => Value.tuple #[vs 0 0 w0.length w0.length, vq]
noncomputable def Zmt : Za6 → List (Option AObj)
 | .r0 => []
 | .r1 w0 => [some (.cells (Za eI w0) 3)]

noncomputable def Zpi : Za6 → Value
 | .r0 => Value.tuple #[vn, vq]
 | .r1 w0 => Value.tuple #[ms eI w0, vq]
noncomputable def ZnL : Za6 → List (Option AObj)
 | .r0 => []
 | .r1 w0 => []

def Zw3 : ZaH → Nat
 | .h1m0 => 1
 | .h1m1 v1 v2 => 1
noncomputable def ZyW : ZaH → List (Nat × Value)
 | .h1m0 => [(0, ms RB L0), (5, vn), (6, vq)]
 | .h1m1 v1 v2 => [(0, ms RB L0), (5, vs 0 0 v1.length v1.length), (6, vi (v2 : Int))]
noncomputable def ZyX (L0 : List RI) : ZaH → List (Option AObj)
 | .h1m0 => []
 | .h1m1 v1 v2 => [some (.cells (Za eI v1) 3)]

noncomputable def ZyY : Nat → Code × List ZL
 | 1 => Z5 [1, 1, 1, 1, 0, 1, 3] (ZM Tryz.f136) []
 | _ => (.skip, [])

noncomputable def Zgt (N : Nat) : Mach := ⟨Tryz.f136, [], ZaH, Za6, ZeD L0 N, Zw3, ZyY, ilT, ZyW L0, ZyX L0, ZnK, Zmt⟩

theorem Zq2 (N : Nat) : (Zgt L0 N).Ok Tryz.prog Ze (.h1m0 : ZaH) (Zdj L0 N) := by
 unfold Zdj;refine ok_ite (fun g0 => ?_) fun g0 => ?_
 ·
  refine ok_bind fun z1 c1 => ?_;cases z1 with
  | r0 y1_0 =>
   exact okN [1] [some (ms RB L0), some (vs 1 0 1 1), some (vi 1)] (kK (tQ (Zph c1) 0) <| bhY g0 Zg) (tC (tC (tC (tE) ⟨Eq.trans (show κN = vi 1 from ci) (by rfl), by rfl⟩) ⟨Eq.trans (show (vs 0 0 ([y1_0] : List Int).length ([y1_0] : List Int).length : Value) = vs 0 0 1 1 from (Zi rfl eqA eqA)) (by rfl), by rfl⟩)) (bC (o := .cells [vi y1_0] 3) (Zz (E := eI) _ (L := ([y1_0] : List Int)) _ (show ([vi y1_0] : List Value) = Za eI ([y1_0] : List Int) from rfl)) <| bE)
 exact Mach.okF0 [] (bhN g0 Zg) bE

theorem Zq3 (v1 : List Int) (v2 N : Nat) : (Zgt L0 N).Ok Tryz.prog Ze (.h1m1 v1 v2 : ZaH) (Zdk L0 N v1 v2) := by
 unfold Zdk;refine ok_ite (fun g0 => ?_) fun g0 => ?_
 ·
  refine ok_bind fun z1 c1 => ?_;cases z1 with
  | r0 y1_0 =>
   refine oi fun g2 => ?_;refine oi fun g3 => ?_;exact okN [2] [some (ms RB L0), some (vs 2 0 (v1.length + 1) (v1.length + 1)), some (κbn v2)] (vkW ((v2 : Int) + 1) (((v2 + 1) : Nat) : Int) <| wkA eI v1 y1_0 <| kK (tQ (Zph c1) 1) <| bhY g0 Zg) (tC (tC (tC (tE)) ⟨Eq.trans (show (vs 0 0 (v1 ++ ([y1_0] : List Int)).length (v1 ++ ([y1_0] : List Int)).length : Value) = vs 0 0 (v1.length + 1) (v1.length + 1) from (Zi rfl eqA eqA)) (by rfl), by rfl⟩)) (bR <| bE)
 exact Mach.okF0 [0] (bhN g0 Zg) (bR <| bE)

theorem Zu8 (N : Nat) : (Zgt L0 N).Enter Tryz.prog Ze #[ms RB L0] (Zf9 L0 N) := by
 unfold Zf9;refine en_bind (fun z0 c0 => ?_);cases z0 with
 | r0 =>
  exact Mach.enH0 [] (kK (tQ (Zj9 c0) 0) Zg) bE

theorem Zq4 (N : Nat) (r : Za6) (h : Zbx L0 N = some r) : LSpec Tryz.prog 136 #[ms RB L0] [] (ZnK r) (Zmt r) :=
 Mach.specT Zv (Zgt L0 N) Tryz.func136 (fun x => (show (Zgt L0 N).Ok Tryz.prog Ze x (ZeD L0 N x) from by
  cases x with
  | h1m0 => exact Zq2 L0 N
  | h1m1 v1 v2 => exact Zq3 L0 v1 v2 N
  )) (Zu8 L0 N) h

theorem ZrK (N : Nat) (r : Za6) (h : Zbx L0 N = some r) : LSpec Tryz.prog 136 #[ms RB L0] [] (Zpi r) (ZnL r) := by
 have h0 := Zq4 L0 N r h;cases r with
 | r0 => exact h0
 | r1 w0 => exact (LSpec.frzv (E := eI) (L := w0) (post := []) (v2 := Value.tuple #[ms eI w0, vq]) h0 (show 0 ≤ 0 from by decide) (show 0 < 1000000000 from by decide) trivial rfl rfl rfl)

end
theorem Zw4 {L0 : List RI} {N : Nat} {r : Za6} (h : Zbx L0 N = some r) : LSpec Tryz.prog 136 #[ms RB L0] [] (Zpi r) (ZnL r) := ZrK L0 N r h

noncomputable def Zmu : ZbF → Value
 | .r0 => vf
noncomputable def Zll (L0 : List RG) (a1 a2 : Int) : ZbF → List (Option AObj)
 | .r0 => [some (κbx L0)]

def Ztp : ZaE → Nat
 | .h1m0 v1 => 1
noncomputable def Zu9 (L0 : List RG) (a1 a2 : Int) : ZaE → List (Nat × Value)
 | .h1m0 v1 => [(0, vs 0 0 L0.length L0.length), (3, vp 1 0), (5, vi (v1 : Int))]
section
variable (L0 : List RG) (a1 a2 : Int)
noncomputable def ZuA : ZaE → List (Option AObj)
 | .h1m0 v1 => [some (κbx L0), some (.cells [vi a1, vi a2] 44)]

noncomputable def ZuB : Nat → Code × List ZL
 | 1 => Z5 [1, 0, 1, 3] (ZM Tryz.f101) []
 | _ => (.skip, [])

noncomputable def Zg8 (N : Nat) : Mach := ⟨Tryz.f101, (κby L0), ZaE, ZbF, ZgI L0 a1 a2 N, Ztp, ZuB, ilT, Zu9 L0 a1 a2, ZuA L0 a1 a2, Zmu, Zll L0 a1 a2⟩

theorem Zog (v1 N : Nat) : (Zg8 L0 a1 a2 N).Ok Tryz.prog Ze (.h1m0 v1 : ZaE) (Zgl L0 a1 a2 N v1) := by
 unfold Zgl;refine ok_ite (fun g0 => ?_) fun g0 => ?_
 · refine ok_ite (fun _ => ok_none) (fun g1 => ?_);refine oi fun g2 => ?_;exact Mach.okN0 [0, 1] (vkW ((v1 : Int) + 1) (((v1 + 1) : Nat) : Int) <| bkO (((L0.getD v1 RG.z).a0 == a1) && (((L0.getD v1 RG.z).a1 == a2) && true)) <| Za3 RA L0 v1 0 2 <| kB v1 L0.length <| xkI (v1 : Int) v1 <| bhY g0 Zg) (bQ <| bS [vi a1, vi a2] <| bE)
 exact Mach.okF0 [0] (bhN g0 Zg) (bQ <| bE)

noncomputable abbrev κ2 := #[vs 0 0 L0.length L0.length, Value.agg #[vi a1, vi a2]]
theorem ZrL (N : Nat) : (Zg8 L0 a1 a2 N).Enter Tryz.prog Ze (κ2 L0 a1 a2) (ZhL L0 a1 a2 N) := by unfold ZhL;exact enH [0, 1] [some (vs 0 0 L0.length L0.length), some (vp 1 0), some (vq)] Zg (tC (tC (tC (tE) ⟨Eq.trans (show κg = vq from ci) (by rfl), by rfl⟩))) (bQ <| bS [vi a1, vi a2] <| bE)

theorem Zpj (N : Nat) (r : ZbF) (h : ZfA L0 a1 a2 N = some r) : LSpec Tryz.prog 101 (κ2 L0 a1 a2) (κby L0) (Zmu r) (Zll L0 a1 a2 r) :=
 Mach.specT Zv (Zg8 L0 a1 a2 N) Tryz.func101 (fun x => (show (Zg8 L0 a1 a2 N).Ok Tryz.prog Ze x (ZgI L0 a1 a2 N x) from by
  cases x with
  | h1m0 v1 => exact Zog L0 a1 a2 v1 N
  )) (ZrL L0 a1 a2 N) h

end
noncomputable def Ztq {L0 : List RG} {a1 a2 : Int} {N : Nat} (h : ZfA L0 a1 a2 N = some (.r0)) (ks : List Nat) (n : Nat) : ToldS := ⟨#[vs (nth ks 0) 0 L0.length L0.length, Value.agg #[vi a1, vi a2]], [((nth ks 0), .cells (Za RA L0) 44 true)], vf, [], 0⟩

theorem Ztr {L0 : List RG} {a1 a2 : Int} {N : Nat} (h : ZfA L0 a1 a2 N = some (.r0)) (ks : List Nat) (n : Nat) (hk : ks.length = 1 := by rfl) (hnd : ks.Nodup := by decide +kernel) (hlt : ∀ k ∈ ks, k < n := by decide +kernel) : (Ztq (N := N)  h ks n).P Tryz.prog 101 n :=
 match ks, hk, hnd, hlt with
 | [k0], _, hnd, hlt => Zci (show LSpec Tryz.prog 101 (κ2 L0 a1 a2) (κby L0) (vf) [some (κbx L0)] from Zpj L0 a1 a2 N _ h) _ n [] hnd hlt

noncomputable def Zrh : Zc9 → Value
 | .r0 w1 w2 w3 => Value.tuple #[Value.agg #[vi w1, vi w2], vi w3]
noncomputable def Zpk (L0 : List RJ) (L1 : List RG) (a2 : Int) (L3 : List RG) (a4 a5 : Int) (L6 : List RG) : Zc9 → List (Option AObj)
 | .r0 w1 w2 w3 => [some (.cells (Za RA L6) 44 true)]

def ZyZ : ZbY → Nat
 | .h1m0 => 1
noncomputable def Z09 (L0 : List RJ) (L1 : List RG) (a2 : Int) (L3 : List RG) (a4 a5 : Int) (L6 : List RG) : ZbY → List (Nat × Value)
 | .h1m0 => [(1, vs 0 0 L6.length L6.length), (2, vp 1 0), (4, vp 2 0), (6, vi a5)]
section
variable (L0 : List RJ) (L1 : List RG) (a2 : Int) (L3 : List RG) (a4 a5 : Int)
noncomputable abbrev κW := (ZaR RA 8 [ms RC L0] L1 [vi a2, ms RA L3, vi a4, vi a5])
noncomputable def Z0A (L6 : List RG) : ZbY → List (Option AObj)
 | .h1m0 => [some (.cells (Za RA L6) 44 true), some (.cells (κW L0 L1 a2 L3 a4 a5) 153), some (.cells [vq, vq] 44)]

noncomputable def Z0B : Nat → Code × List ZL
 | 1 => Z5 [1, 1, 0, 1, 3] (ZM Tryz.f126) []
 | _ => (.skip, [])

noncomputable def ZiS (L6 : List RG) (N : Nat) : Mach := ⟨Tryz.f126, [.cells (Za RA L6) 44 true], ZbY, Zc9, Zi5 L0 L1 a2 L3 a4 a5 L6 N, ZyZ, Z0B, ilT, Z09 L0 L1 a2 L3 a4 a5 L6, Z0A L0 L1 a2 L3 a4 a5 L6, Zrh, Zpk L0 L1 a2 L3 a4 a5 L6⟩

theorem ZrM (L6 : List RG) (N : Nat) : (ZiS L0 L1 a2 L3 a4 a5 L6 N).Ok Tryz.prog Ze (.h1m0 : ZbY) (ZeE L0 L1 a2 L3 a4 a5 L6 N) := by
 unfold ZeE;refine oi fun g0 => ?_;refine ok_bind fun z1 c1 => ?_;cases z1 with
 | r0 =>
  refine ok_bind fun z2 c2 => ?_;cases z2 with
  | r0 =>
   exact Mach.okF0 [0] (kK (tQ (ZnI c2) 4) <| kKg 1 (Ztr c1 [0] 4) <| bhY g0 Zg) (bQ <| bE)

noncomputable abbrev κm := ([ms RC L0] ++ (rv8 L1 ++ [vi a2, ms RA L3, vi a4, vi a5]))
theorem Zw5 (L6 : List RG) (N : Nat) : (ZiS L0 L1 a2 L3 a4 a5 L6 N).Enter Tryz.prog Ze #[Value.agg (List.toArray (κm L0 L1 a2 L3 a4 a5)), vs 0 0 L6.length L6.length] (ZhM L0 L1 a2 L3 a4 a5 L6 N) := by
 unfold ZhM;refine en_ite (fun g0 => ?_) (fun g0 => ?_)
 · refine en_ite (fun g1 => ?_) (fun _ => en_none);exact Mach.enF0 [0] (tL 2 (RA.cel (L6.getD a4.toNat RG.z)) <| kLn RA L6 (a4.toNat) 0 2 <| kB a4.toNat L6.length <| xkI a4 (a4.toNat) <| bhY g0 Zg) (bQ <| bE)
 exact Mach.enH0 [0, 1, 2] (bhN g0 Zg) (bQ <| bM (.cells (κW L0 L1 a2 L3 a4 a5) 153) <| bS [vq, vq] <| bE)

theorem Zts (L6 : List RG) (N : Nat) (r : Zc9) (h : ZcI L0 L1 a2 L3 a4 a5 L6 N = some r) : LSpec Tryz.prog 126 #[Value.agg (List.toArray (κm L0 L1 a2 L3 a4 a5)), vs 0 0 L6.length L6.length] [.cells (Za RA L6) 44 true] (Zrh r) (Zpk L0 L1 a2 L3 a4 a5 L6 r) :=
 Mach.specT Zv (ZiS L0 L1 a2 L3 a4 a5 L6 N) Tryz.func126 (fun x => (show (ZiS L0 L1 a2 L3 a4 a5 L6 N).Ok Tryz.prog Ze x (Zi5 L0 L1 a2 L3 a4 a5 L6 N x) from by
  cases x with
  | h1m0 => exact ZrM L0 L1 a2 L3 a4 a5 L6 N
  )) (Zw5 L0 L1 a2 L3 a4 a5 L6 N) h

end
noncomputable def Zza {L0 : List RJ} {L1 : List RG} {a2 : Int} {L3 : List RG} {a4 a5 : Int} {L6 : List RG} {w1 w2 w3 : Int} {N : Nat} (h : ZcI L0 L1 a2 L3 a4 a5 L6 N = some (.r0 w1 w2 w3)) (ks : List Nat) (n : Nat) : ToldS := ⟨#[Value.agg (List.toArray (κm L0 L1 a2 L3 a4 a5)), vs (nth ks 0) 0 L6.length L6.length], [((nth ks 0), .cells (Za RA L6) 44 true)], Value.tuple #[Value.agg #[vi w1, vi w2], vi w3], [], 0⟩

theorem Zpl {L0 : List RJ} {L1 : List RG} {a2 : Int} {L3 : List RG} {a4 a5 : Int} {L6 : List RG} {w1 w2 w3 : Int} {N : Nat} (h : ZcI L0 L1 a2 L3 a4 a5 L6 N = some (.r0 w1 w2 w3)) (ks : List Nat) (n : Nat) (hk : ks.length = 1 := by rfl) (hnd : ks.Nodup := by decide +kernel) (hlt : ∀ k ∈ ks, k < n := by decide +kernel) : (Zza (N := N)  h ks n).P Tryz.prog 126 n :=
 match ks, hk, hnd, hlt with
 | [k0], _, hnd, hlt => Zci (show LSpec Tryz.prog 126 #[Value.agg (List.toArray (κm L0 L1 a2 L3 a4 a5)), vs 0 0 L6.length L6.length] [.cells (Za RA L6) 44 true] (Value.tuple #[Value.agg #[vi w1, vi w2], vi w3]) [some (.cells (Za RA L6) 44 true)] from Zts L0 L1 a2 L3 a4 a5 L6 N _ h) _ n [] hnd hlt

section
variable (a0 a1 a2 : Int)
noncomputable def ZnM : ZaI → Value
 | .r0 w7 => Value.agg #[vi a0, vi a1, vi (i64.wrap (Int.tdiv a1 1048576)), vi 2, vi 1, vi 1, vi a2, vs 0 0 w7.length w7.length]
noncomputable def Zmv : ZaI → List (Option AObj)
 | .r0 w7 => [some (.cells (Za RA w7) 44)]

noncomputable def Zpm : ZaI → Value
 | .r0 w7 => Value.agg #[vi a0, vi a1, vi (i64.wrap (Int.tdiv a1 1048576)), vi 2, vi 1, vi 1, vi a2, ms RA w7]
noncomputable def ZnN : ZaI → List (Option AObj)
 | .r0 w7 => []

def Zw6 : Zaw → Nat
 | .h1m0 => 1
 | .h1m1 v2 v17 => 1
noncomputable def Zzb (a0 a1 a2 : Int) : Zaw → List (Nat × Value)
 | .h1m0 => [(1, vi 2), (2, vi 1), (8, vp 0 0), (9, vp 1 0), (10, vq)]
 | .h1m1 v2 v17 => [(1, vi 2), (2, vi 1), (8, vp 0 0), (9, vp 1 0), (10, vi (v2 : Int))]
noncomputable abbrev κbL := (AObj.cells [vq, vq, vq, vq, vq, vq, vq, vn] 97)
noncomputable def Zzc : Zaw → List (Option AObj)
 | .h1m0 => [some κbL, some (.cells [vi a0, vi a1, vi (i64.wrap (Int.tdiv a1 1048576)), vi 2, vi 1, vi 1, vi a2, vn] 97)]
 | .h1m1 v2 v17 => [some κbL, some (.cells [vi a0, vi a1, vi (i64.wrap (Int.tdiv a1 1048576)), vi 2, vi 1, vi 1, vi a2, vs 2 0 v17.length v17.length] 97), some (.cells (Za RA v17) 44)]

noncomputable def Zzd : Nat → Code × List ZL
 | 1 => Z5 [1, 1, 0, 1, 3] (ZM Tryz.f127) []
 | _ => (.skip, [])

noncomputable def Zgu (N : Nat) : Mach := ⟨Tryz.f127, [], Zaw, ZaI, ZhN a0 a1 a2 N, Zw6, Zzd, ilT, Zzb a0 a1 a2, Zzc a0 a1 a2, ZnM a0 a1 a2, Zmv⟩

theorem Zq5 (N : Nat) : (Zgu a0 a1 a2 N).Ok Tryz.prog Ze (.h1m0 : Zaw) (Zhp a0 a1 a2 N) := by unfold Zhp;exact okN [0, 1, 4] [some (vi 2), some (vi 1), some (vp 0 0), some (vp 1 0), some (vi 1)] Zg (tC (tC (tC (tC (tC (tE) ⟨Eq.trans (show κN = vi 1 from ci) (by rfl), by rfl⟩))))) (bS [vq, vq, vq, vq, vq, vq, vq, vn] <| bU [vi a0, vi a1, vi (i64.wrap (Int.tdiv a1 1048576)), vi 2, vi 1, vi 1, vi a2, vs 4 0 1 1] 7 (show (vs 2 0 1 1 : Value) = vs 2 0 ([(⟨2, 0⟩ : RG)] : List RG).length ([(⟨2, 0⟩ : RG)] : List RG).length from Zi rfl eqA eqA) <| bC (o := .cells [vi 2, vq] 44) (Zz (E := RA) _ (L := ([(⟨2, 0⟩ : RG)] : List RG)) _ (show ([vi 2, vq] : List Value) = Za RA ([(⟨2, 0⟩ : RG)] : List RG) from rfl)) <| bE)

theorem Zq6 (v2 : Nat) (v17 : List RG) (N : Nat) : (Zgu a0 a1 a2 N).Ok Tryz.prog Ze (.h1m1 v2 v17 : Zaw) (Zhq a0 a1 a2 N v2 v17) := by
 unfold Zhq;refine ok_ite (fun g0 => ?_) fun g0 => ?_
 ·
  have w1 := tW 0 (.sh v2) <| kS (v2 : Int) v2 .i64 <| tV 0 <| kX ((IntKind.u64.wrap (v2 : Int)) == (v2 : Int)) true (beq_iff_eq.2 (Znd ltA)) <| bhY g0 Zg
  refine ok_ite (fun g1 => ?_) fun g1 => ?_
  · refine oi fun g2 => ?_;exact Mach.okN0 [0, 1, 5] (tV 2 <| kW ((v2 : Int) + 1) (((v2 + 1) : Nat) : Int) <| tW 2 (.ap 1 [vi 2, vq] (Za RA (v17 ++ ([(⟨2, 0⟩ : RG)] : List RG)))) <| kA RA v17 (⟨2, 0⟩ : RG) <| bhT g1 w1) (bS [vq, vq, vq, vq, vq, vq, vq, vn] <| bU [vi a0, vi a1, vi (i64.wrap (Int.tdiv a1 1048576)), vi 2, vi 1, vi 1, vi a2, vs 5 0 (v17.length + 1) (v17.length + 1)] 7 (show (vs 2 0 (v17.length + 1) (v17.length + 1) : Value) = vs 2 0 (v17 ++ ([(⟨2, 0⟩ : RG)] : List RG)).length (v17 ++ ([(⟨2, 0⟩ : RG)] : List RG)).length from Zi rfl eqA eqA) <| bR <| bE)
  refine oi fun g2 => ?_;exact Mach.okN0 [0, 1, 5] (tV 2 <| kW ((v2 : Int) + 1) (((v2 + 1) : Nat) : Int) <| tW 2 (.ap 1 [vi 1, vq] (Za RA (v17 ++ ([(⟨1, 0⟩ : RG)] : List RG)))) <| kA RA v17 (⟨1, 0⟩ : RG) <| bhF g1 w1) (bS [vq, vq, vq, vq, vq, vq, vq, vn] <| bU [vi a0, vi a1, vi (i64.wrap (Int.tdiv a1 1048576)), vi 2, vi 1, vi 1, vi a2, vs 5 0 (v17.length + 1) (v17.length + 1)] 7 (show (vs 2 0 (v17.length + 1) (v17.length + 1) : Value) = vs 2 0 (v17 ++ ([(⟨1, 0⟩ : RG)] : List RG)).length (v17 ++ ([(⟨1, 0⟩ : RG)] : List RG)).length from Zi rfl eqA eqA) <| bR <| bE)
 exact Mach.okF0 [2] (bhN g0 Zg) (bR <| bE)

theorem ZuC (N : Nat) : (Zgu a0 a1 a2 N).Enter Tryz.prog Ze #[Value.agg #[vi a0, vi a1], vi 2, vi 1, vi a2] (ZgZ a0 a1 a2 N) := by
 unfold ZgZ;refine en_ite (fun g0 => ?_) (fun _ => en_none);refine en_bind (fun z1 c1 => ?_);cases z1 with
 | r0 y1_0 =>
  refine en_ite (fun _ => en_none) (fun g2 => ?_);exact Mach.enH0 [1, 4] (bkX ((!y1_0)) false nbf <| kKg 1 (tQ (ZeM c1) 4) <| bhT g0 Zg) (bS [vq, vq, vq, vq, vq, vq, vq, vn] <| bS [vi a0, vi a1, vi (i64.wrap (Int.tdiv a1 1048576)), vi 2, vi 1, vi 1, vi a2, vn] <| bE)

theorem Zq7 (N : Nat) (r : ZaI) (h : Zdq a0 a1 a2 N = some r) : LSpec Tryz.prog 127 #[Value.agg #[vi a0, vi a1], vi 2, vi 1, vi a2] [] (ZnM a0 a1 a2 r) (Zmv r) :=
 Mach.specT Zv (Zgu a0 a1 a2 N) Tryz.func127 (fun x => (show (Zgu a0 a1 a2 N).Ok Tryz.prog Ze x (ZhN a0 a1 a2 N x) from by
  cases x with
  | h1m0 => exact Zq5 a0 a1 a2 N
  | h1m1 v2 v17 => exact Zq6 a0 a1 a2 v2 v17 N
  )) (ZuC a0 a1 a2 N) h

theorem ZrN (N : Nat) (r : ZaI) (h : Zdq a0 a1 a2 N = some r) : LSpec Tryz.prog 127 #[Value.agg #[vi a0, vi a1], vi 2, vi 1, vi a2] [] (Zpm a0 a1 a2 r) (ZnN r) := by
 have h0 := Zq7 a0 a1 a2 N r h;cases r with
 | r0 w7 => exact (LSpec.frzv (E := RA) (L := w7) (post := []) (v2 := Value.agg #[vi a0, vi a1, vi (i64.wrap (Int.tdiv a1 1048576)), vi 2, vi 1, vi 1, vi a2, ms RA w7]) h0 (show 0 ≤ 0 from by decide) (show 0 < 1000000000 from by decide) trivial rfl rfl rfl)

end
theorem ZnO {a0 a1 a2 : Int} {N : Nat} {r : ZaI} (h : Zdq a0 a1 a2 N = some r) : LSpec Tryz.prog 127 #[Value.agg #[vi a0, vi a1], vi 2, vi 1, vi a2] [] (Zpm a0 a1 a2 r) (ZnN r) := ZrN a0 a1 a2 N r h

noncomputable def ZkH : Zbc → Value
 | .r0 w0 w1 => Value.tuple #[vi w0, vi w1]
noncomputable def ZjD : Zbc → List (Option AObj)
 | .r0 w0 w1 => []

def Zw7 : Zbd → Nat
 | .h1m0 v1 => 1
noncomputable def Zze (L0 : List RJ) (a1 a2 : Int) : Zbd → List (Nat × Value)
 | .h1m0 v1 => [(0, ms RC L0), (3, vp 0 0), (6, vi (v1 : Int))]
noncomputable def Zzf (L0 : List RJ) (a1 a2 : Int) : Zbd → List (Option AObj)
 | .h1m0 v1 => [some (.cells [vi a1, vi a2] 44)]

noncomputable def Zzg : Nat → Code × List ZL
 | 1 => Z5 [1, 1, 1, 0, 1, 3] (ZM Tryz.f140) []
 | _ => (.skip, [])

section
variable (L0 : List RJ) (a1 a2 : Int)
noncomputable def Zii (N : Nat) : Mach := ⟨Tryz.f140, [], Zbd, Zbc, ZfR L0 a1 a2 N, Zw7, Zzg, ilT, Zze L0 a1 a2, Zzf L0 a1 a2, ZkH, ZjD⟩

theorem Zq8 (v1 N : Nat) : (Zii L0 a1 a2 N).Ok Tryz.prog Ze (.h1m0 v1 : Zbd) (Zcv L0 a1 a2 N v1) := by
 unfold Zcv;refine oi fun g0 => ?_;have w1 := lkG RC L0 ((0 + (v1 * 8)) + 0) v1 0 2 8 <| kB v1 L0.length <| xkI (v1 : Int) v1 <| bhY g0 Zg
 refine ok_ite (fun g1 => ?_) fun g1 => ?_
 ·
  have w2 := tL 1 [.i (L0.getD v1 RJ.z).a5] <| kG RC L0 (((0 + (v1 * 8)) + 2) + 3) v1 5 1 8 <| kB v1 L0.length <| xkI (v1 : Int) v1 <| bkZ (((L0.getD v1 RJ.z).a0 == a1) && (((L0.getD v1 RJ.z).a1 == a2) && true)) w1
  refine ok_ite (fun g2 => ?_) fun g2 => ?_
  · exact Mach.okF0 [] (bhD g2 w2) bE
  refine oi fun g3 => ?_;exact Mach.okN0 [0] (vkW ((v1 : Int) + 1) (((v1 + 1) : Nat) : Int) <| bkE ((L0.getD v1 RJ.z).a5) 3 w2) (bS [vi a1, vi a2] <| bE)
 refine oi fun g2 => ?_;exact Mach.okN0 [0] (vkW ((v1 : Int) + 1) (((v1 + 1) : Nat) : Int) <| bkO (((L0.getD v1 RJ.z).a0 == a1) && (((L0.getD v1 RJ.z).a1 == a2) && true)) w1) (bS [vi a1, vi a2] <| bE)

theorem ZuD (N : Nat) : (Zii L0 a1 a2 N).Enter Tryz.prog Ze (κs L0 a1 a2) (Zev L0 a1 a2 N) := by
 unfold Zev;refine en_ite (fun g0 => ?_) (fun g0 => ?_)
 · exact Mach.enF0 [] (bhD g0 Zg) bE
 refine en_bind (fun z1 c1 => ?_);cases z1 with
 | r0 y1_0 =>
  have w2 := kK (tQ (ZeM c1) 1) <| bkE a1 2 Zg
  refine en_ite (fun g2 => ?_) (fun g2 => ?_)
  · exact Mach.enF0 [] (bkX ((!y1_0)) true nbt w2) bE
  have w3 := bkX ((!y1_0)) false nbf w2;refine en_ite (fun g3 => ?_) (fun g3 => ?_)
  · exact Mach.enF0 [] (bhT g3 w3) bE
  exact enH [0] [some (ms RC L0), some (vp 0 0), some (vq)] (bhF g3 w3) (tC (tC (tC (tE) ⟨Eq.trans (show κg = vq from ci) (by rfl), by rfl⟩))) (bS [vi a1, vi a2] <| bE)

theorem ZrO (N : Nat) (r : Zbc) (h : ZbZ L0 a1 a2 N = some r) : LSpec Tryz.prog 140 (κs L0 a1 a2) [] (ZkH r) (ZjD r) :=
 Mach.specT Zv (Zii L0 a1 a2 N) Tryz.func140 (fun x => (show (Zii L0 a1 a2 N).Ok Tryz.prog Ze x (ZfR L0 a1 a2 N x) from by
  cases x with
  | h1m0 v1 => exact Zq8 L0 a1 a2 v1 N
  )) (ZuD L0 a1 a2 N) h

theorem ZfB {L0 : List RJ} {a1 a2 : Int} {N : Nat} {r : Zbc} (h : ZbZ L0 a1 a2 N = some r) : LSpec Tryz.prog 140 (κs L0 a1 a2) [] (ZkH r) (ZjD r) := ZrO L0 a1 a2 N r h

noncomputable def Znv : Zg3 → Value
 | .r0 w0 w1 => Value.tuple #[Value.agg #[vi w0, vi w1], vq]
noncomputable def ZlB : Zg3 → List (Option AObj)
 | .r0 w0 w1 => []

noncomputable abbrev κw (a3 : Int) := #[ms RC L0, Value.agg #[vi a1, vi a2], vi a3]
end
section
variable (L0 : List RJ) (a1 a2 a3 : Int) (N : Nat)
theorem Zzh : Fx Tryz.prog Ze Tryz.f128 [] (κw L0 a1 a2 a3) (Znv) (ZlB) (ZcZ L0 a1 a2 a3 N) := by
 unfold ZcZ;refine Zx (fun z0 c0 => ?_);cases z0 with
 | r0 y0_0 y0_1 =>
  refine Zb (fun _ => Zd) (fun g1 => ?_);refine Zb (fun _ => Zd) (fun g2 => ?_);refine Zb (fun g3 => ?_) (fun _ => Zd);refine Zb (fun g4 => ?_) (fun _ => Zd);refine Zb (fun _ => Zd) (fun g5 => ?_);exact Zq [] (lkG RA ((L0.getD (y0_0).toNat RJ.z).a7) (0 + (a3.toNat * 2)) (a3.toNat) 0 2 2 <| kB a3.toNat (L0.getD (y0_0).toNat RJ.z).a7.length <| xkI a3 (a3.toNat) <| lkG RC L0 ((0 + ((y0_0).toNat * 8)) + 7) ((y0_0).toNat) 7 1 8 <| kB (y0_0).toNat L0.length <| xkI y0_0 ((y0_0).toNat) <| bkN (a3 ≥ (((L0.getD (y0_0).toNat RJ.z).a7.length : Nat) : Int)) <| tL 1 [(mc RA (L0.getD (y0_0).toNat RJ.z).a7)] <| kG RC L0 ((0 + ((y0_0).toNat * 8)) + 7) ((y0_0).toNat) 7 1 8 <| kB (y0_0).toNat L0.length <| xkI y0_0 ((y0_0).toNat) <| bhN g2 <| bkE y0_1 0 <| kK (tQ (ZfB c0) 2) Zg) bE

theorem ZuE (r : Zg3) (h : ZcZ L0 a1 a2 a3 N = some r) : LSpec Tryz.prog 128 (κw L0 a1 a2 a3) [] (Znv r) (ZlB r) :=
 ZI Zv Tryz.func128 (by kernel_rfl) (by kernel_rfl) (fun r => by cases r <;> exact ZP _ rfl) (Zzh L0 a1 a2 a3 N) h

theorem Zri {L0 : List RJ} {a1 a2 a3 : Int} {N : Nat} {r : Zg3} (h : ZcZ L0 a1 a2 a3 N = some r) : LSpec Tryz.prog 128 (κw L0 a1 a2 a3) [] (Znv r) (ZlB r) := ZuE L0 a1 a2 a3 N r h

noncomputable def Znw : ZdU → Value
 | .r0 w0 => Value.bool w0
noncomputable def ZlC : ZdU → List (Option AObj)
 | .r0 w0 => []

theorem Zzi : Fx Tryz.prog Ze Tryz.f142 [] (κw L0 a1 a2 a3) (Znw) (ZlC) (ZaA L0 a1 a2 a3 N) := by
 unfold ZaA;refine Zx (fun z0 c0 => ?_);cases z0 with
 | r0 y0_0 y0_1 =>
  have w1 := kK (tQ (ZfB c0) 1) Zg;refine Zb (fun g1 => ?_) (fun g1 => ?_)
  ·
   refine Zb (fun g2 => ?_) (fun _ => Zd);refine Zb (fun g3 => ?_) (fun _ => Zd);have w4 := tL 1 [.i (L0.getD (y0_0).toNat RJ.z).a5] <| kG RC L0 (((0 + ((y0_0).toNat * 8)) + 2) + 3) ((y0_0).toNat) 5 1 8 <| kB (y0_0).toNat L0.length <| xkI y0_0 ((y0_0).toNat) <| bhT g1 w1
   refine Zb (fun g4 => ?_) (fun g4 => ?_)
   ·
    have w5 := lkG RC L0 (((0 + ((y0_0).toNat * 8)) + 2) + 4) ((y0_0).toNat) 6 1 8 <| kB (y0_0).toNat L0.length <| xkI y0_0 ((y0_0).toNat) <| bhT g4 w4
    refine Zb (fun g5 => ?_) (fun g5 => ?_)
    · exact Zq [] (bhT g5 w5) bE
    exact Zq [] (bhF g5 w5) bE
   exact Zq [] (bhF g4 w4) bE
  exact Zq [] (bhF g1 w1) bE

theorem ZuF (r : ZdU) (h : ZaA L0 a1 a2 a3 N = some r) : LSpec Tryz.prog 142 (κw L0 a1 a2 a3) [] (Znw r) (ZlC r) :=
 ZI Zv Tryz.func142 (by kernel_rfl) (by kernel_rfl) (fun r => by cases r <;> exact ZP _ rfl) (Zzi L0 a1 a2 a3 N) h

end
theorem Zcg {L0 : List RJ} {a1 a2 a3 : Int} {N : Nat} {r : ZdU} (h : ZaA L0 a1 a2 a3 N = some r) : LSpec Tryz.prog 142 (κw L0 a1 a2 a3) [] (Znw r) (ZlC r) := ZuF L0 a1 a2 a3 N r h

noncomputable def Zrj (L0 : List RJ) (a1 a2 a3 a4 a5 a6 a7 a8 : Int) (L9 : List RG) : ZeF → Value
 | .r0 => vs 1 0 L0.length L0.length
section
variable (L0 : List RJ) (a1 a2 a3 a4 a5 a6 a7 a8 : Int) (L9 : List RG)
noncomputable def Zpn : ZeF → List (Option AObj)
 | .r0 => [none, some (.cells (Za RC (L0.set a1.toNat (⟨a2, a3, a4, a5, a6, a7, a8, L9⟩ : RJ))) 97)]

noncomputable def Z2x : ZeF → Value
 | .r0 => ms RC (L0.set a1.toNat (⟨a2, a3, a4, a5, a6, a7, a8, L9⟩ : RJ))
noncomputable def Z0C : ZeF → List (Option AObj)
 | .r0 => [none]

noncomputable abbrev κV := #[ms RC L0, vi a1, Value.agg #[vi a2, vi a3, vi a4, vi a5, vi a6, vi a7, vi a8, vs 0 0 L9.length L9.length]]
theorem Zzj (N : Nat) : Fx Tryz.prog Ze Tryz.f144 [.cells (Za RA L9) 44] (κV L0 a1 a2 a3 a4 a5 a6 a7 a8 L9) (Zrj L0 a1 a2 a3 a4 a5 a6 a7 a8 L9) (Zpn L0 a1 a2 a3 a4 a5 a6 a7 a8 L9) (Zb1 L0 a1 a2 a3 a4 a5 a6 a7 a8 L9 N) := by unfold Zb1;refine Zb (fun _ => Zd) (fun g0 => ?_);refine Zb (fun g1 => ?_) (fun _ => Zd);refine Zb (fun g2 => ?_) (fun _ => Zd);refine Zb (fun g3 => ?_) (fun _ => Zd);exact fxC [0, 3] (vs 3 0 (0 + L0.length) (0 + L0.length)) (tW 0 (.stf 0 (Z9 RA L9) (Za RC (L0.set a1.toNat (⟨a2, a3, a4, a5, a6, a7, a8, L9⟩ : RJ)))) <| kC (Zbi (E := RC) (L := L0) (i := a1.toNat) (q := 0) (l := [vi a2, vi a3, vi a4, vi a5, vi a6, vi a7, vi a8, ms RA L9]) (⟨a2, a3, a4, a5, a6, a7, a8, L9⟩ : RJ) (by omega) (show (0 + (a1.toNat * 8)) = a1.toNat * 8 + 0 from by omega) (show 0 + 8 ≤ 8 from by decide) rfl) <| kX (dP ((Za RA L9) = Zl (Z9 RA L9))) true (Zn (ZhF _)) <| kB a1.toNat (0 + L0.length) <| xkI a1 (a1.toNat) <| tW 0 (.ap L0.length (Za RC L0) (Za RC L0)) <| kX (dP ((L0.length = L0.length ∧ ((L0.length * 8 = 0 ∧ (Za RC L0) = []) ∨ ∃ c, L0.length * 8 ≠ 0 ∧ ZS (code (Z9 RC L0)) 0 (L0.length * 8) = some c ∧ (Za RC L0) = Zl c)) ∧ 0 < L0.length ∧ L0.length ≤ 100000 ∧ 0 < 0 + L0.length ∧ 0 ≤ 100000 ∧ 0 * 8 ≤ (List.length []) ∧ List.take (0 * 8) [] ++ (Za RC L0) = (Za RC L0))) true (Zn ⟨⟨rfl, (Zc4 (E := RC) (L := L0) (n := L0.length) (size := 8) rfl (by decide) (by omega))⟩, by omega, by omega, ltA, by omega, (Zas (E := RC) (L := ([] : List RJ)) (M := L0) (n := 0) (show _ = _ * 8 from rfl) ltA (R := L0) (by rw [List.take_of_length_le ltA]; rfl))⟩) Zg) (bN <| bR <| bE) (hv := ⟨Eq.trans (show (vs 1 0 L0.length L0.length : Value) = vs 1 0 (0 + L0.length) (0 + L0.length) from (Zi rfl eqA eqA)) (by rfl), by rfl⟩)

theorem Ztt (N : Nat) (r : ZeF) (h : Zb1 L0 a1 a2 a3 a4 a5 a6 a7 a8 L9 N = some r) : LSpec Tryz.prog 144 (κV L0 a1 a2 a3 a4 a5 a6 a7 a8 L9) [.cells (Za RA L9) 44] (Zrj L0 a1 a2 a3 a4 a5 a6 a7 a8 L9 r) (Zpn L0 a1 a2 a3 a4 a5 a6 a7 a8 L9 r) :=
 ZI Zv Tryz.func144 (by kernel_rfl) (by kernel_rfl) (fun r => by cases r <;> exact ZP _ rfl) (Zzj L0 a1 a2 a3 a4 a5 a6 a7 a8 L9 N) h

theorem ZuG (N : Nat) (r : ZeF) (h : Zb1 L0 a1 a2 a3 a4 a5 a6 a7 a8 L9 N = some r) : LSpec Tryz.prog 144 (κV L0 a1 a2 a3 a4 a5 a6 a7 a8 L9) [.cells (Za RA L9) 44] (Z2x L0 a1 a2 a3 a4 a5 a6 a7 a8 L9 r) (Z0C r) := by
 have h0 := Ztt L0 a1 a2 a3 a4 a5 a6 a7 a8 L9 N r h;cases r with
 | r0 => exact (LSpec.frzv (E := RC) (L := (L0.set a1.toNat (⟨a2, a3, a4, a5, a6, a7, a8, L9⟩ : RJ))) (post := [none]) (v2 := ms RC (L0.set a1.toNat (⟨a2, a3, a4, a5, a6, a7, a8, L9⟩ : RJ))) h0 (show 1 ≤ 1 from by decide) (show 1 < 1000000000 from by decide) ⟨trivial, trivial⟩ rfl (Zfn eqA eqA) rfl)

end
noncomputable def Z0D {L0 : List RJ} {a1 a2 a3 a4 a5 a6 a7 a8 : Int} {L9 : List RG} {N : Nat} (h : Zb1 L0 a1 a2 a3 a4 a5 a6 a7 a8 L9 N = some (.r0)) (ks : List Nat) (n : Nat) : ToldS := ⟨#[ms RC L0, vi a1, Value.agg #[vi a2, vi a3, vi a4, vi a5, vi a6, vi a7, vi a8, vs (nth ks 0) 0 L9.length L9.length]], [((nth ks 0), .cells (Za RA L9) 44)], ms RC (L0.set a1.toNat (⟨a2, a3, a4, a5, a6, a7, a8, L9⟩ : RJ)), [((nth ks 0), none)], 0⟩

theorem Zed {L0 : List RJ} {a1 a2 a3 a4 a5 a6 a7 a8 : Int} {L9 : List RG} {N : Nat} (h : Zb1 L0 a1 a2 a3 a4 a5 a6 a7 a8 L9 N = some (.r0)) (ks : List Nat) (n : Nat) (hk : ks.length = 1 := by rfl) (hnd : ks.Nodup := by decide +kernel) (hlt : ∀ k ∈ ks, k < n := by decide +kernel) : (Z0D (N := N)  h ks n).P Tryz.prog 144 n :=
 match ks, hk, hnd, hlt with
 | [k0], _, hnd, hlt => Zci (show LSpec Tryz.prog 144 (κV L0 a1 a2 a3 a4 a5 a6 a7 a8 L9) [.cells (Za RA L9) 44] (ms RC (L0.set a1.toNat (⟨a2, a3, a4, a5, a6, a7, a8, L9⟩ : RJ))) [none] from ZuG L0 a1 a2 a3 a4 a5 a6 a7 a8 L9 N _ h) _ n [0] hnd hlt

noncomputable def ZlD : Zca → Value
 | .r0 w0 w1 w2 w3 w4 w5 w6 w7 => Value.tuple #[Value.agg #[vi w0, vi w1, vi w2, vi w3, vi w4, vi w5, vi w6, ms RA w7], vT]
 | .r1 => Value.tuple #[Value.agg #[vq, vq, vq, vq, vq, vq, vq, vn], vf]
noncomputable def ZkI : Zca → List (Option AObj)
 | .r0 w0 w1 w2 w3 w4 w5 w6 w7 => []
 | .r1 => []

def Zzk : Zby → Nat
 | .h1m0 v1 => 1
noncomputable def Z0E (L0 : List RJ) (a1 a2 : Int) : Zby → List (Nat × Value)
 | .h1m0 v1 => [(0, ms RC L0), (3, vp 0 0), (4, vp 1 0), (6, vi (v1 : Int))]
noncomputable def Z0F (L0 : List RJ) (a1 a2 : Int) : Zby → List (Option AObj)
 | .h1m0 v1 => [some (.cells [vi a1, vi a2] 44), some κbL]

noncomputable def Z0G : Nat → Code × List ZL
 | 1 => Z5 [1, 0, 1, 3] (ZM Tryz.f150) []
 | _ => (.skip, [])

section
variable (L0 : List RJ) (a1 a2 : Int) (N : Nat)
noncomputable def ZiT : Mach := ⟨Tryz.f150, [], Zby, Zca, ZeZ L0 a1 a2 N, Zzk, Z0G, ilT, Z0E L0 a1 a2, Z0F L0 a1 a2, ZlD, ZkI⟩

theorem ZrP (L0 : List RJ) (a1 a2 : Int) (v1 N : Nat) : (ZiT L0 a1 a2 N).Ok Tryz.prog Ze (.h1m0 v1 : Zby) (ZaJ L0 a1 a2 N v1) := by
 unfold ZaJ;refine ok_ite (fun g0 => ?_) fun g0 => ?_
 ·
  have w1 := lkG RC L0 ((0 + (v1 * 8)) + 0) v1 0 2 8 <| kB v1 L0.length <| xkI (v1 : Int) v1 <| bhY g0 Zg
  refine ok_ite (fun g1 => ?_) fun g1 => ?_
  · exact Mach.okF0 [] (tL 1 (RC.cel (L0.getD v1 RJ.z)) <| kG RC L0 (0 + (v1 * 8)) v1 0 8 8 <| kB v1 L0.length <| xkI (v1 : Int) v1 <| bkZ (((L0.getD v1 RJ.z).a0 == a1) && (((L0.getD v1 RJ.z).a1 == a2) && true)) w1) bE
  refine oi fun g2 => ?_;exact Mach.okN0 [0, 1] (vkW ((v1 : Int) + 1) (((v1 + 1) : Nat) : Int) <| bkO (((L0.getD v1 RJ.z).a0 == a1) && (((L0.getD v1 RJ.z).a1 == a2) && true)) w1) (bS [vi a1, vi a2] <| bS [vq, vq, vq, vq, vq, vq, vq, vn] <| bE)
 exact Mach.okF0 [] (bhN g0 Zg) bE

theorem Zw8 : (ZiT L0 a1 a2 N).Enter Tryz.prog Ze (κs L0 a1 a2) (Zk1 L0 a1 a2 N) := by unfold Zk1;exact enH [0, 1] [some (ms RC L0), some (vp 0 0), some (vp 1 0), some (vq)] Zg (tC (tC (tC (tC (tE) ⟨Eq.trans (show κg = vq from ci) (by rfl), by rfl⟩)))) (bS [vi a1, vi a2] <| bS [vq, vq, vq, vq, vq, vq, vq, vn] <| bE)

theorem Ztu (r : Zca) (h : ZdV L0 a1 a2 N = some r) : LSpec Tryz.prog 150 (κs L0 a1 a2) [] (ZlD r) (ZkI r) :=
 Mach.specT Zv (ZiT L0 a1 a2 N) Tryz.func150 (fun x => (show (ZiT L0 a1 a2 N).Ok Tryz.prog Ze x (ZeZ L0 a1 a2 N x) from by
  cases x with
  | h1m0 v1 => exact ZrP L0 a1 a2 v1 N
  )) (Zw8 L0 a1 a2 N) h

theorem Zaj {L0 : List RJ} {a1 a2 : Int} {N : Nat} {r : Zca} (h : ZdV L0 a1 a2 N = some r) : LSpec Tryz.prog 150 (κs L0 a1 a2) [] (ZlD r) (ZkI r) := Ztu L0 a1 a2 N r h

noncomputable def Zpo : ZeG → Value
 | .r0 w0 => Value.bool w0
noncomputable def Znx : ZeG → List (Option AObj)
 | .r0 w0 => []

theorem Z0H : Fx Tryz.prog Ze Tryz.f151 [] (κs L0 a1 a2) (Zpo) (Znx) (ZdL L0 a1 a2 N) := by
 unfold ZdL;refine Zx (fun z0 c0 => ?_);cases z0 with
 | r0 y0_0 y0_1 y0_2 y0_3 y0_4 y0_5 y0_6 y0_7 =>
  have w1 := kK (tQ (Zaj c0) 1) Zg;refine Zb (fun g1 => ?_) (fun g1 => ?_)
  ·
   refine Zb (fun g2 => ?_) (fun g2 => ?_)
   · exact Zq [] (bhD g2 <| bhT g1 w1) bE
   exact Zq [] (bkE a2 0 <| bhT g1 w1) bE
  exact Zq [] (bhF g1 w1) bE
 | r1 =>
  exact Zq [] (kK (tQ (Zaj c0) 1) Zg) bE

theorem Zw9 (r : ZeG) (h : ZdL L0 a1 a2 N = some r) : LSpec Tryz.prog 151 (κs L0 a1 a2) [] (Zpo r) (Znx r) :=
 ZI Zv Tryz.func151 (by kernel_rfl) (by kernel_rfl) (fun r => by cases r <;> exact ZP _ rfl) (Z0H L0 a1 a2 N) h

end
theorem ZaU {L0 : List RJ} {a1 a2 : Int} {N : Nat} {r : ZeG} (h : ZdL L0 a1 a2 N = some r) : LSpec Tryz.prog 151 (κs L0 a1 a2) [] (Zpo r) (Znx r) := Zw9 L0 a1 a2 N r h

noncomputable def Zny : Zdr → Value
 | .r0 => vf
noncomputable def ZlE : Zdr → List (Option AObj)
 | .r0 => []

def Z0I : Zds → Nat
 | .h1m0 => 1
noncomputable def Z2y (a0 a1 : Int) : Zds → List (Nat × Value)
 | .h1m0 => [(0, vn), (3, vp 0 0), (5, vq)]
noncomputable def Z2z (a0 a1 : Int) : Zds → List (Option AObj)
 | .h1m0 => [some (.cells [vi a0, vi a1] 44)]

noncomputable def Z20 : Nat → Code × List ZL
 | 1 => Z5 [1, 0, 1, 3] (ZM Tryz.f152) []
 | _ => (.skip, [])

section
variable (a0 a1 : Int) (N : Nat)
noncomputable def ZjW : Mach := ⟨Tryz.f152, [], Zds, Zdr, Zj0 a0 a1 N, Z0I, Z20, ilT, Z2y a0 a1, Z2z a0 a1, Zny, ZlE⟩

theorem Ztv : (ZjW a0 a1 N).Ok Tryz.prog Ze (.h1m0 : Zds) (Zi6 a0 a1 N) := by unfold Zi6;exact Mach.okF0 [] Zg bE

theorem Zzl : (ZjW a0 a1 N).Enter Tryz.prog Ze #[vn, Value.agg #[vi a0, vi a1]] (Zl3 a0 a1 N) := by unfold Zl3;exact Mach.enH0 [0] Zg (bS [vi a0, vi a1] <| bE)

theorem ZuH (r : Zdr) (h : Zjn a0 a1 N = some r) : LSpec Tryz.prog 152 #[vn, Value.agg #[vi a0, vi a1]] [] (Zny r) (ZlE r) :=
 Mach.specT Zv (ZjW a0 a1 N) Tryz.func152 (fun x => (show (ZjW a0 a1 N).Ok Tryz.prog Ze x (Zj0 a0 a1 N x) from by
  cases x with
  | h1m0 => exact Ztv a0 a1 N
  )) (Zzl a0 a1 N) h

end
theorem ZlF {a0 a1 : Int} {N : Nat} {r : Zdr} (h : Zjn a0 a1 N = some r) : LSpec Tryz.prog 152 #[vn, Value.agg #[vi a0, vi a1]] [] (Zny r) (ZlE r) := ZuH a0 a1 N r h

end Ev
end Go.Proofs.YthfohmhipifiaaaGreat
namespace Go.Proofs.YthfohmhipifiaaaGreat
open Go.RowKit
namespace Ev
open Mach (oi ok_ite ok_none ok_bind enH en_ite en_none en_bind)
set_option linter.unusedVariables false
set_option maxRecDepth 100000
noncomputable def Zpp : ZcJ → Value
 | .r0 => vf
section
variable (L0 : List RG)
noncomputable def ZnP (a1 a2 : Int) : ZcJ → List (Option AObj)
 | .r0 => [some (.cells (Za RA L0) 44)]

def ZwA : Zcb → Nat
 | .h1m0 => 1
noncomputable def Zzm (a1 a2 : Int) : Zcb → List (Nat × Value)
 | .h1m0 => [(0, vs 0 0 L0.length L0.length), (3, vp 1 0), (5, vq)]
noncomputable def Zzn (a1 a2 : Int) : Zcb → List (Option AObj)
 | .h1m0 => [some (.cells (Za RA L0) 44), some (.cells [vi a1, vi a2] 44)]

end
noncomputable def Zzo : Nat → Code × List ZL
 | 1 => Z5 [1, 0, 1, 3] (ZM Tryz.f152) []
 | _ => (.skip, [])

section
variable (L0 : List RG) (a1 a2 : Int) (N : Nat)
noncomputable def Zij : Mach := ⟨Tryz.f152, [.cells (Za RA L0) 44], Zcb, ZcJ, ZhO L0 a1 a2 N, ZwA, Zzo, ilT, Zzm L0 a1 a2, Zzn L0 a1 a2, Zpp, ZnP L0 a1 a2⟩

theorem Zq9 : (Zij L0 a1 a2 N).Ok Tryz.prog Ze (.h1m0 : Zcb) (Zhr L0 a1 a2 N) := by unfold Zhr;refine ok_ite (fun _ => ok_none) (fun g0 => ?_);exact Mach.okF0 [0] (bhN g0 Zg) (bR <| bE)

theorem ZuI : (Zij L0 a1 a2 N).Enter Tryz.prog Ze (κ2 L0 a1 a2) (Zj1 L0 a1 a2 N) := by unfold Zj1;exact Mach.enH0 [0, 1] Zg (bR <| bS [vi a1, vi a2] <| bE)

theorem ZrQ (r : ZcJ) (h : ZgQ L0 a1 a2 N = some r) : LSpec Tryz.prog 152 (κ2 L0 a1 a2) [.cells (Za RA L0) 44] (Zpp r) (ZnP L0 a1 a2 r) :=
 Mach.specT Zv (Zij L0 a1 a2 N) Tryz.func152 (fun x => (show (Zij L0 a1 a2 N).Ok Tryz.prog Ze x (ZhO L0 a1 a2 N x) from by
  cases x with
  | h1m0 => exact Zq9 L0 a1 a2 N
  )) (ZuI L0 a1 a2 N) h

end
noncomputable def Zex {L0 : List RG} {a1 a2 : Int} {N : Nat} (h : ZgQ L0 a1 a2 N = some (.r0)) (ks : List Nat) (n : Nat) : ToldS := ⟨#[vs (nth ks 0) 0 L0.length L0.length, Value.agg #[vi a1, vi a2]], [((nth ks 0), .cells (Za RA L0) 44)], vf, [], 0⟩

theorem ZjE {L0 : List RG} {a1 a2 : Int} {N : Nat} (h : ZgQ L0 a1 a2 N = some (.r0)) (ks : List Nat) (n : Nat) (hk : ks.length = 1 := by rfl) (hnd : ks.Nodup := by decide +kernel) (hlt : ∀ k ∈ ks, k < n := by decide +kernel) : (Zex (N := N)  h ks n).P Tryz.prog 152 n :=
 match ks, hk, hnd, hlt with
 | [k0], _, hnd, hlt => Zci (show LSpec Tryz.prog 152 (κ2 L0 a1 a2) [.cells (Za RA L0) 44] (vf) [some (.cells (Za RA L0) 44)] from ZrQ L0 a1 a2 N _ h) _ n [] hnd hlt

noncomputable def ZfC (L0 : List RJ) (L1 : List RG) (a2 a3 : Int) : Z0 → Value
 | .r0 => vs 0 0 L1.length L1.length
 | .r1 w0 => vs 1 0 w0.length w0.length
noncomputable abbrev κ0 (L1 : List RG) := [some (AObj.cells (Za RA L1) 44)]
noncomputable def Zfl (L0 : List RJ) (L1 : List RG) (a2 a3 : Int) : Z0 → List (Option AObj)
 | .r0 => (κ0 L1)
 | .r1 w0 => [none, some (.cells (Za RA w0) 44)]

def ZuJ : Zat → Nat
 | .h1m0 v1 v3 v4 v5 v6 v7 v8 v9 v10 v11 => 1
section
variable (L0 : List RJ)
noncomputable def ZwB (L1 : List RG) (a2 a3 : Int) : Zat → List (Nat × Value)
 | .h1m0 v1 v3 v4 v5 v6 v7 v8 v9 v10 v11 => [(0, ms RC L0), (1, vs 1 0 v1.length v1.length), (3, vT), (9, vp 2 0), (11, vi (v3 : Int))]
noncomputable def ZwC (L0 : List RJ) (L1 : List RG) (a2 a3 : Int) : Zat → List (Option AObj)
 | .h1m0 v1 v3 v4 v5 v6 v7 v8 v9 v10 v11 => [none, some (κbw v1), some (.cells [vi v4, vi v5, vi v6, vi v7, vi v8, vi v9, vi v10, ms RA v11] 97)]

noncomputable def Zhd : Nat → Code × List ZL
 | 1 => Z5 [1, 1, 1, 1, 0, 1, 3] (ZM Tryz.f149) []
 | _ => (.skip, [])

noncomputable def ZiH (L0 : List RJ) (L1 : List RG) (a2 a3 : Int) (k0 n : Nat) : Told := .call [(k0, .cells (Za RA L1) 44)] (vs k0 0 L1.length L1.length) [] 0
def Zg9 (A : Array Value) (L0 : List RJ) (L1 : List RG) (a2 a3 : Int) (k0 n : Nat) : Prop := Zb2 Tryz.prog 149 A [(k0, .cells (Za RA L1) 44)] (vs k0 0 L1.length L1.length) [] n 0

noncomputable abbrev κbd (k0 : Nat) (L1 : List RG) (a2 a3 : Int) := #[ms RC L0, vs k0 0 L1.length L1.length, Value.agg #[vi a2, vi a3], vT]
noncomputable abbrev κ1 (L1 : List RG) := [AObj.cells (Za RA L1) 44]
noncomputable abbrev κx (L1 : List RG) (a2 a3 : Int) := #[ms RC L0, vs 0 0 L1.length L1.length, Value.agg #[vi a2, vi a3], vT]
end
section
variable (A : Array Value) (L0 : List RJ) (L1 : List RG) (a2 a3 : Int)
theorem Zlm (hL : LSpec Tryz.prog 149 (κx L0 L1 a2 a3) (κ1 L1) (vs 0 0 L1.length L1.length) (κ0 L1)) (k0 n : Nat) (hA : A = (κbd L0 k0 L1 a2 a3)) (hnd : ([k0] : List Nat).Nodup) (hlt : ∀ k ∈ ([k0] : List Nat), k < n) : Zg9 A L0 L1 a2 a3 k0 n :=
 Z1v hA (LSpec.callL (show LSpec Tryz.prog 149 (κx L0 L1 a2 a3) (κ1 L1) (vs 0 0 L1.length L1.length) (κ0 L1) from hL) [k0] n [] rfl hnd hlt (show 1 ≤ 1 from by decide) (show ∀ j ∈ ([] : List Nat), j < 1 from by decide) (by rfl) ⟨(ZcY _ _ _), trivial⟩ (by rfl) ⟨(ZcY _ _ _), trivial⟩ ⟨.inr rfl, trivial⟩ rfl rfl rfl (Zw (Zke rfl (Zkz _ _ _)) rfl) rfl)

noncomputable def ZiI (L0 : List RJ) (L1 : List RG) (a2 a3 : Int) (w0 : List RG) (k0 n : Nat) : Told := .call [(k0, .cells (Za RA L1) 44)] (vs n 0 w0.length w0.length) [(k0, none), (n, some (.cells (Za RA w0) 44))] 1
def ZgA (A : Array Value) (L0 : List RJ) (L1 : List RG) (a2 a3 : Int) (w0 : List RG) (k0 n : Nat) : Prop := Zb2 Tryz.prog 149 A [(k0, .cells (Za RA L1) 44)] (vs n 0 w0.length w0.length) [(k0, none), (n, some (.cells (Za RA w0) 44))] n 1

theorem Zln (w0 : List RG) (hL : LSpec Tryz.prog 149 (κx L0 L1 a2 a3) (κ1 L1) (vs 1 0 w0.length w0.length) [none, some (.cells (Za RA w0) 44)]) (k0 n : Nat) (hA : A = (κbd L0 k0 L1 a2 a3)) (hnd : ([k0] : List Nat).Nodup) (hlt : ∀ k ∈ ([k0] : List Nat), k < n) : ZgA A L0 L1 a2 a3 w0 k0 n :=
 Z1v hA (LSpec.callL (show LSpec Tryz.prog 149 (κx L0 L1 a2 a3) (κ1 L1) (vs 1 0 w0.length w0.length) [none, some (.cells (Za RA w0) 44)] from hL) [k0] n [0, 1] rfl hnd hlt (show 1 ≤ 2 from by decide) (show ∀ j ∈ ([0, 1] : List Nat), j < 2 from by decide) (by rfl) ⟨(ZcY _ _ _), trivial⟩ (by rfl) ⟨(ZcY _ _ _), trivial⟩ ⟨.inl (by decide), ⟨(by decide), trivial⟩⟩ rfl rfl rfl (Zw (Zke rfl (Zkz _ _ _)) rfl) (Zw (Zke rfl rfl) (Zw (Zke rfl (Z1s (Zkz _ _ _))) rfl)))

end
section
variable (rec : List RJ → List RG → Int → Int → Option Z0)
noncomputable def Zba (L0 : List RJ) (L1 : List RG) (a2 a3 : Int) (N : Nat) : Mach := ⟨Tryz.f149, (κ1 L1), Zat, Z0, Zf0 rec L0 L1 a2 a3 N, ZuJ, Zhd, ilT, ZwB L0 L1 a2 a3, ZwC L0 L1 a2 a3, ZfC L0 L1 a2 a3, Zfl L0 L1 a2 a3⟩

theorem Zpq (hrec : ∀ (L0 : List RJ) (L1 : List RG) (a2 a3 : Int) (r : Z0), rec L0 L1 a2 a3 = some r → LSpec Tryz.prog 149 (κx L0 L1 a2 a3) (κ1 L1) (ZfC L0 L1 a2 a3 r) (Zfl L0 L1 a2 a3 r)) (L0 : List RJ) (L1 : List RG) (a2 a3 : Int) (v1 : List RG) (v3 : Nat) (v4 v5 v6 v7 v8 v9 v10 : Int) (v11 : List RG) (N : Nat) : (Zba rec L0 L1 a2 a3 N).Ok Tryz.prog Ze (.h1m0 v1 v3 v4 v5 v6 v7 v8 v9 v10 v11 : Zat) (ZgJ rec L0 L1 a2 a3 N v1 v3 v4 v5 v6 v7 v8 v9 v10 v11) := by
 unfold ZgJ;refine ok_ite (fun g0 => ?_) fun g0 => ?_
 ·
  refine ok_bind fun z1 c1 => ?_;cases z1 with
  | r0 =>
   refine oi fun g2 => ?_;exact Mach.ok_next (M := Zba rec L0 L1 a2 a3 N) (cd := 1000000) (cm := 0) (y := (.h1m0 v1 (v3 + 1) v4 v5 v6 v7 v8 v9 v10 v11 : Zat)) (fu := 4000) (orc := (Zhm (oq [1]) [(0, (((v3 + 1) : Nat) : Int))] [(0, v3)] [(2, (RA.cel (v11.getD v3 RG.z)))] [(0, (ZiH L0 v1 ((v11.getD v3 RG.z).a0) ((v11.getD v3 RG.z).a1)   1 3))])) (live := [0, 1, 2]) (tv := fun _ => [some (ms RC L0), some (vs 1 0 v1.length v1.length), some (vT), some (vp 2 0), some (vi (((v3 + 1) : Nat) : Int))]) (bl := [none, some (κbw v1), some (.cells [vi v4, vi v5, vi v6, vi v7, vi v8, vi v9, vi v10, ms RA v11] 97)]) rfl (inE (by kernel_rfl)) (fun gv => by kernel_rfl) (vkW ((v3 : Int) + 1) (((v3 + 1) : Nat) : Int) <| kX (dP (Zg9 #[ms RC L0, vs 1 0 v1.length v1.length, Value.agg #[vi (v11.getD v3 RG.z).a0, vi (v11.getD v3 RG.z).a1], vT] L0 v1 ((v11.getD v3 RG.z).a0) ((v11.getD v3 RG.z).a1)   1 3)) true (Zn (Zlm #[ms RC L0, vs 1 0 v1.length v1.length, Value.agg #[vi (v11.getD v3 RG.z).a0, vi (v11.getD v3 RG.z).a1], vT] L0 v1 ((v11.getD v3 RG.z).a0) ((v11.getD v3 RG.z).a1)   (hrec L0 v1 ((v11.getD v3 RG.z).a0) ((v11.getD v3 RG.z).a1)  _ c1) 1 3 rfl (by decide) (by decide))) <| tW 0 ((ZiH L0 v1 ((v11.getD v3 RG.z).a0) ((v11.getD v3 RG.z).a1)   1 3)) <| kR (Za RA v1) <| tL 2 (RA.cel (v11.getD v3 RG.z)) <| kG RA v11 (0 + (v3 * 2)) v3 0 2 2 <| kB v3 v11.length <| xkI (v3 : Int) v3 <| bhY g0 Zg) rfl (by decide +kernel) (by rfl) (fun _ => ⟨rr, ⟨rr, ⟨rr, ⟨rr, ⟨rr, trivial⟩⟩⟩⟩⟩) ⟨(ZbO (E := RA) (α := RG) _ v1 _), ⟨sm, trivial⟩⟩
  | r1 y1_0 =>
   refine oi fun g2 => ?_;exact Mach.ok_next (M := Zba rec L0 L1 a2 a3 N) (cd := 1000000) (cm := 0) (y := (.h1m0 y1_0 (v3 + 1) v4 v5 v6 v7 v8 v9 v10 v11 : Zat)) (fu := 4000) (orc := (Zhm (oq [1]) [(0, (((v3 + 1) : Nat) : Int))] [(0, v3)] [(2, (RA.cel (v11.getD v3 RG.z)))] [(0, (ZiI L0 v1 ((v11.getD v3 RG.z).a0) ((v11.getD v3 RG.z).a1)  y1_0 1 3))])) (live := [0, 3, 2]) (tv := fun _ => [some (ms RC L0), some (vs 3 0 y1_0.length y1_0.length), some (vT), some (vp 2 0), some (vi (((v3 + 1) : Nat) : Int))]) (bl := [none, some (.cells (Za RA y1_0) 44), some (.cells [vi v4, vi v5, vi v6, vi v7, vi v8, vi v9, vi v10, ms RA v11] 97)]) rfl (inE (by kernel_rfl)) (fun gv => by kernel_rfl) (vkW ((v3 : Int) + 1) (((v3 + 1) : Nat) : Int) <| kX (dP (ZgA #[ms RC L0, vs 1 0 v1.length v1.length, Value.agg #[vi (v11.getD v3 RG.z).a0, vi (v11.getD v3 RG.z).a1], vT] L0 v1 ((v11.getD v3 RG.z).a0) ((v11.getD v3 RG.z).a1)  y1_0 1 3)) true (Zn (Zln #[ms RC L0, vs 1 0 v1.length v1.length, Value.agg #[vi (v11.getD v3 RG.z).a0, vi (v11.getD v3 RG.z).a1], vT] L0 v1 ((v11.getD v3 RG.z).a0) ((v11.getD v3 RG.z).a1)  y1_0 (hrec L0 v1 ((v11.getD v3 RG.z).a0) ((v11.getD v3 RG.z).a1)  _ c1) 1 3 rfl (by decide) (by decide))) <| tW 0 ((ZiI L0 v1 ((v11.getD v3 RG.z).a0) ((v11.getD v3 RG.z).a1)  y1_0 1 3)) <| kR (Za RA v1) <| tL 2 (RA.cel (v11.getD v3 RG.z)) <| kG RA v11 (0 + (v3 * 2)) v3 0 2 2 <| kB v3 v11.length <| xkI (v3 : Int) v3 <| bhY g0 Zg) rfl (by decide +kernel) (by rfl) (fun _ => ⟨rr, ⟨rr, ⟨rr, ⟨rr, ⟨rr, trivial⟩⟩⟩⟩⟩) ⟨(ZbO (E := RA) (α := RG) _ y1_0 _), ⟨sm, trivial⟩⟩
 exact Mach.ok_fin (M := Zba rec L0 L1 a2 a3 N) (cd := 1000000) (cm := 0) (r := (.r1 v1 : Z0)) (fu := 4000) (orc := (Zhm [(0, false)] [] [] [] [])) (live := [0, 1]) (u := vs 1 0 v1.length v1.length) (bl := [none, some (κbw v1)]) (ob := [((decide ((v3 : Int) < (v11.length : Int))), false)]) (fun gv => by kernel_rfl) (oN Zkd) rfl (by decide) (by rfl) rr ⟨(ZbO (E := RA) (α := RG) _ v1 _), trivial⟩

theorem Ztw (hrec : ∀ (L0 : List RJ) (L1 : List RG) (a2 a3 : Int) (r : Z0), rec L0 L1 a2 a3 = some r → LSpec Tryz.prog 149 (κx L0 L1 a2 a3) (κ1 L1) (ZfC L0 L1 a2 a3 r) (Zfl L0 L1 a2 a3 r)) (L0 : List RJ) (L1 : List RG) (a2 a3 : Int) (N : Nat) : (Zba rec L0 L1 a2 a3 N).Enter Tryz.prog Ze (κx L0 L1 a2 a3) (Zfa rec L0 L1 a2 a3 N) := by
 unfold Zfa;refine en_bind (fun z0 c0 => ?_);cases z0 with
 | r0 y0_0 y0_1 y0_2 y0_3 y0_4 y0_5 y0_6 y0_7 =>
  refine en_bind (fun z1 c1 => ?_);cases z1 with
  | r0 y1_0 =>
   refine en_ite (fun g2 => ?_) (fun g2 => ?_)
   · exact Mach.en_fin (M := Zba rec L0 L1 a2 a3 N) (cd := 1000000) (cm := 0) (r := (.r0 : Z0)) (fu := 4000) (orc := (Zhm [(0, true)] [] [] [] [(0, (tP (Zaj c0)).t), (3, (tP (ZaU c1)).t)])) (live := [0]) (u := vs 0 0 L1.length L1.length) (bl := (κ0 L1)) (ob := [((!y1_0), true), (dP ((tP (ZaU c1)).P Tryz.prog 151 3), true), (dP ((tP (Zaj c0)).P Tryz.prog 150 2), true)]) (by kernel_rfl) (ZF nbt <| ZF (Zn (tQ (ZaU c1) 3)) <| ZF (Zn (tQ (Zaj c0) 2)) Zkd) rfl (by decide) (by rfl) rr ⟨(ZbO (E := RA) (α := RG) _ L1 _), trivial⟩
   refine en_bind (fun z3 c3 => ?_);cases z3 with
   | r0 =>
    refine en_ite (fun g4 => ?_) (fun g4 => ?_)
    · exact Mach.en_fin (M := Zba rec L0 L1 a2 a3 N) (cd := 1000000) (cm := 0) (r := (.r0 : Z0)) (fu := 4000) (orc := (Zhm [(0, false), (1, true)] [] [] [] [(0, (tP (Zaj c0)).t), (3, (tP (ZaU c1)).t), (4, (Zex c3 [0] 3).t)])) (live := [0]) (u := vs 0 0 L1.length L1.length) (bl := (κ0 L1)) (ob := [((y0_5 != 1), true), (dP ((Zex c3 [0] 3).P Tryz.prog 152 3), true), (dS (Za RA L1), true), ((!y1_0), false), (dP ((tP (ZaU c1)).P Tryz.prog 151 3), true), (dP ((tP (Zaj c0)).P Tryz.prog 150 2), true)]) (by kernel_rfl) (oD <| ZF (Zn (ZjE c3 [0] 3)) <| oR <| ZF nbf <| ZF (Zn (tQ (ZaU c1) 3)) <| ZF (Zn (tQ (Zaj c0) 2)) Zkd) rfl (by decide) (by rfl) rr ⟨(ZbO (E := RA) (α := RG) _ L1 _), trivial⟩
    refine en_ite (fun g5 => ?_) (fun _ => en_none);exact Mach.en_head (bK := Zhd 1) (M := Zba rec L0 L1 a2 a3 N) (cd := 1000000) (cm := 0) (y := (.h1m0 (L1 ++ ([(⟨a2, a3⟩ : RG)] : List RG)) 0 y0_0 y0_1 y0_2 y0_3 y0_4 y0_5 y0_6 y0_7 : Zat)) (fu := 4000) (orc := (Zhm (oq [0, 2]) [] [] [] [(0, (tP (Zaj c0)).t), (3, (tP (ZaU c1)).t), (4, (Zex c3 [0] 3).t), (5, .ap 1 [vi a2, vi a3] (Za RA (L1 ++ ([(⟨a2, a3⟩ : RG)] : List RG))))])) (live := [0, 4, 2]) (tv := [some (ms RC L0), some (vs 4 0 (L1.length + 1) (L1.length + 1)), some (vT), some (vp 2 0), some (vq)]) (bl := [none, some (.cells (Za RA (L1 ++ ([(⟨a2, a3⟩ : RG)] : List RG))) 44), some (.cells [vi y0_0, vi y0_1, vi y0_2, vi y0_3, vi y0_4, vi y0_5, vi y0_6, ms RA y0_7] 97)]) rfl rfl (show ZaD (Zhd 1).2 = [] from rfl) (by kernel_rfl) (wkA RA L1 (⟨a2, a3⟩ : RG) <| bkE y0_5 1 <| kK (ZjE c3 [0] 3) <| bkX ((!y1_0)) false nbf <| kKg 2 (tQ (ZaU c1) 3) <| kK (tQ (Zaj c0) 2) Zg) rfl (by decide +kernel) (by rfl) ⟨rr, ⟨⟨Eq.trans (show (vs 1 0 (L1 ++ ([(⟨a2, a3⟩ : RG)] : List RG)).length (L1 ++ ([(⟨a2, a3⟩ : RG)] : List RG)).length : Value) = vs 1 0 (L1.length + 1) (L1.length + 1) from (Zi rfl eqA eqA)) (by rfl), by rfl⟩, ⟨rr, ⟨rr, ⟨⟨Eq.trans (show κg = vq from ci) (by rfl), by rfl⟩, trivial⟩⟩⟩⟩⟩ ⟨(ZbO (E := RA) (α := RG) _ (L1 ++ ([(⟨a2, a3⟩ : RG)] : List RG)) _), ⟨sm, trivial⟩⟩
 | r1 =>
  refine en_bind (fun z1 c1 => ?_);cases z1 with
  | r0 y1_0 =>
   refine en_ite (fun g2 => ?_) (fun g2 => ?_)
   · exact Mach.en_fin (M := Zba rec L0 L1 a2 a3 N) (cd := 1000000) (cm := 0) (r := (.r0 : Z0)) (fu := 4000) (orc := (Zhm [(0, true)] [] [] [] [(0, (tP (Zaj c0)).t), (3, (tP (ZaU c1)).t)])) (live := [0]) (u := vs 0 0 L1.length L1.length) (bl := (κ0 L1)) (ob := [((!y1_0), true), (dP ((tP (ZaU c1)).P Tryz.prog 151 3), true), (dP ((tP (Zaj c0)).P Tryz.prog 150 2), true)]) (by kernel_rfl) (ZF nbt <| ZF (Zn (tQ (ZaU c1) 3)) <| ZF (Zn (tQ (Zaj c0) 2)) Zkd) rfl (by decide) (by rfl) rr ⟨(ZbO (E := RA) (α := RG) _ L1 _), trivial⟩
   refine en_bind (fun z3 c3 => ?_);cases z3 with
   | r0 =>
    exact Mach.en_fin (M := Zba rec L0 L1 a2 a3 N) (cd := 1000000) (cm := 0) (r := (.r0 : Z0)) (fu := 4000) (orc := (Zhm [(0, false)] [] [] [] [(0, (tP (Zaj c0)).t), (3, (tP (ZaU c1)).t), (4, (Zex c3 [0] 3).t)])) (live := [0]) (u := vs 0 0 L1.length L1.length) (bl := (κ0 L1)) (ob := [(dP ((Zex c3 [0] 3).P Tryz.prog 152 3), true), (dS (Za RA L1), true), ((!y1_0), false), (dP ((tP (ZaU c1)).P Tryz.prog 151 3), true), (dP ((tP (Zaj c0)).P Tryz.prog 150 2), true)]) (by kernel_rfl) (ZF (Zn (ZjE c3 [0] 3)) <| oR <| ZF nbf <| ZF (Zn (tQ (ZaU c1) 3)) <| ZF (Zn (tQ (Zaj c0) 2)) Zkd) rfl (by decide) (by rfl) rr ⟨(ZbO (E := RA) (α := RG) _ L1 _), trivial⟩

end
theorem Zpr (N : Nat) : ∀ (n : Nat) (L0 : List RJ) (L1 : List RG) (a2 a3 : Int) (r : Z0), ZaV N n L0 L1 a2 a3 = some r → LSpec Tryz.prog 149 (κx L0 L1 a2 a3) (κ1 L1) (ZfC L0 L1 a2 a3 r) (Zfl L0 L1 a2 a3 r) := by
 intro n
 induction n with
 | zero => intro L0 L1 a2 a3 r h; cases h
 | succ n ih =>
  intro L0 L1 a2 a3 r h;exact Mach.spec Zv (Zba (ZaV N n) L0 L1 a2 a3 N) Tryz.func149 (by kernel_rfl) (by kernel_rfl) (fun x => by cases x <;> exact ZP _ rfl) (fun r => by cases r <;> exact ZP _ rfl) (fun x => by
   cases x with
   | h1m0 _ _ _ _ _ _ _ _ _ _ => exact fun _ => (show ¬ (1 ∈ ZaD (Zhd 1).2) from by decide +kernel)
   ) (fun x => (show (Zba (ZaV N n) L0 L1 a2 a3 N).Ok Tryz.prog Ze x (Zf0 (ZaV N n) L0 L1 a2 a3 N x) from by
   cases x with
   | h1m0 v1 v3 v4 v5 v6 v7 v8 v9 v10 v11 => exact Zpq (ZaV N n) ih L0 L1 a2 a3 v1 v3 v4 v5 v6 v7 v8 v9 v10 v11 N
   )) (Ztw (ZaV N n) ih L0 L1 a2 a3 N) (n := N) h

theorem ZjO (L0 : List RJ) (L1 : List RG) (a2 a3 : Int) (N : Nat) (r : Z0) (h : Zfb L0 L1 a2 a3 N = some r) : LSpec Tryz.prog 149 (κx L0 L1 a2 a3) (κ1 L1) (ZfC L0 L1 a2 a3 r) (Zfl L0 L1 a2 a3 r) :=
 Zpr N N L0 L1 a2 a3 r h

section
variable (A : Array Value) (L0 : List RJ) (L1 : List RG) (a2 a3 : Int)
theorem ZuK (N : Nat) (h : Zfb L0 L1 a2 a3 N = some (.r0)) (k0 n : Nat) (hA : A = (κbd L0 k0 L1 a2 a3)) (hnd : ([k0] : List Nat).Nodup) (hlt : ∀ k ∈ ([k0] : List Nat), k < n) : Zg9 A L0 L1 a2 a3 k0 n :=
 Zlm A L0 L1 a2 a3 (ZjO L0 L1 a2 a3 N _ h) k0 n hA hnd hlt

theorem ZuL (w0 : List RG) (N : Nat) (h : Zfb L0 L1 a2 a3 N = some (.r1 w0)) (k0 n : Nat) (hA : A = (κbd L0 k0 L1 a2 a3)) (hnd : ([k0] : List Nat).Nodup) (hlt : ∀ k ∈ ([k0] : List Nat), k < n) : ZgA A L0 L1 a2 a3 w0 k0 n :=
 Zln A L0 L1 a2 a3 w0 (ZjO L0 L1 a2 a3 N _ h) k0 n hA hnd hlt

end
noncomputable def Zrk : Zbz → Value
 | .r0 => vn
 | .r1 w0 => vs 0 0 w0.length w0.length
noncomputable def Zps : Zbz → List (Option AObj)
 | .r0 => []
 | .r1 w0 => [some (.cells (Za RA w0) 44)]

def Zzp : ZaO → Nat
 | .h1m0 v1 v3 v4 v5 v6 v7 v8 v9 v10 v11 => 1
noncomputable def Z0J (L0 : List RJ) (a1 a2 : Int) : ZaO → List (Nat × Value)
 | .h1m0 v1 v3 v4 v5 v6 v7 v8 v9 v10 v11 => [(0, ms RC L0), (1, vs 0 0 v1.length v1.length), (3, vT), (9, vp 1 0), (11, vi (v3 : Int))]
noncomputable def Z0K (L0 : List RJ) (a1 a2 : Int) : ZaO → List (Option AObj)
 | .h1m0 v1 v3 v4 v5 v6 v7 v8 v9 v10 v11 => [some (κbw v1), some (.cells [vi v4, vi v5, vi v6, vi v7, vi v8, vi v9, vi v10, ms RA v11] 97)]

noncomputable def Z0L : Nat → Code × List ZL
 | 1 => Z5 [1, 1, 1, 1, 0, 1, 3] (ZM Tryz.f149) []
 | _ => (.skip, [])

section
variable (L0 : List RJ) (a1 a2 : Int)
noncomputable def ZiU (N : Nat) : Mach := ⟨Tryz.f149, [], ZaO, Zbz, Zi7 L0 a1 a2 N, Zzp, Z0L, ilT, Z0J L0 a1 a2, Z0K L0 a1 a2, Zrk, Zps⟩

theorem ZrR (v1 : List RG) (v3 : Nat) (v4 v5 v6 v7 v8 v9 v10 : Int) (v11 : List RG) (N : Nat) : (ZiU L0 a1 a2 N).Ok Tryz.prog Ze (.h1m0 v1 v3 v4 v5 v6 v7 v8 v9 v10 v11 : ZaO) (ZcK L0 a1 a2 N v1 v3 v4 v5 v6 v7 v8 v9 v10 v11) := by
 unfold ZcK;refine ok_ite (fun g0 => ?_) fun g0 => ?_
 ·
  have w1 := tL 2 (RA.cel (v11.getD v3 RG.z)) <| kG RA v11 (0 + (v3 * 2)) v3 0 2 2 <| kB v3 v11.length <| xkI (v3 : Int) v3 <| bhY g0 Zg
  refine ok_bind fun z1 c1 => ?_;cases z1 with
  | r0 =>
   refine oi fun g2 => ?_;exact Mach.okN0 [0, 1] (vkW ((v3 : Int) + 1) (((v3 + 1) : Nat) : Int) <| kX (dP (Zg9 #[ms RC L0, vs 0 0 v1.length v1.length, Value.agg #[vi (v11.getD v3 RG.z).a0, vi (v11.getD v3 RG.z).a1], vT] L0 v1 ((v11.getD v3 RG.z).a0) ((v11.getD v3 RG.z).a1)   0 2)) true (Zn (ZuK #[ms RC L0, vs 0 0 v1.length v1.length, Value.agg #[vi (v11.getD v3 RG.z).a0, vi (v11.getD v3 RG.z).a1], vT] L0 v1 ((v11.getD v3 RG.z).a0) ((v11.getD v3 RG.z).a1)   N c1 0 2 rfl (by decide) (by decide))) <| tW 0 ((ZiH L0 v1 ((v11.getD v3 RG.z).a0) ((v11.getD v3 RG.z).a1)   0 2)) <| kR (Za RA v1) w1) (bR <| bS [vi v4, vi v5, vi v6, vi v7, vi v8, vi v9, vi v10, ms RA v11] <| bE)
  | r1 y1_0 =>
   refine oi fun g2 => ?_;exact Mach.okN0 [2, 1] (vkW ((v3 : Int) + 1) (((v3 + 1) : Nat) : Int) <| kX (dP (ZgA #[ms RC L0, vs 0 0 v1.length v1.length, Value.agg #[vi (v11.getD v3 RG.z).a0, vi (v11.getD v3 RG.z).a1], vT] L0 v1 ((v11.getD v3 RG.z).a0) ((v11.getD v3 RG.z).a1)  y1_0 0 2)) true (Zn (ZuL #[ms RC L0, vs 0 0 v1.length v1.length, Value.agg #[vi (v11.getD v3 RG.z).a0, vi (v11.getD v3 RG.z).a1], vT] L0 v1 ((v11.getD v3 RG.z).a0) ((v11.getD v3 RG.z).a1)  y1_0 N c1 0 2 rfl (by decide) (by decide))) <| tW 0 ((ZiI L0 v1 ((v11.getD v3 RG.z).a0) ((v11.getD v3 RG.z).a1)  y1_0 0 2)) <| kR (Za RA v1) w1) (bR <| bS [vi v4, vi v5, vi v6, vi v7, vi v8, vi v9, vi v10, ms RA v11] <| bE)
 exact Mach.okF0 [0] (bhN g0 Zg) (bR <| bE)

noncomputable abbrev κ5 := #[ms RC L0, vn, Value.agg #[vi a1, vi a2], vT]
theorem ZwD (N : Nat) : (ZiU L0 a1 a2 N).Enter Tryz.prog Ze (κ5 L0 a1 a2) (ZhP L0 a1 a2 N) := by
 unfold ZhP;refine en_bind (fun z0 c0 => ?_);cases z0 with
 | r0 y0_0 y0_1 y0_2 y0_3 y0_4 y0_5 y0_6 y0_7 =>
  have w1 := kK (tQ (Zaj c0) 1) Zg;refine en_bind (fun z1 c1 => ?_);cases z1 with
  | r0 y1_0 =>
   have w2 := kKg 2 (tQ (ZaU c1) 2) w1;refine en_ite (fun g2 => ?_) (fun g2 => ?_)
   · exact Mach.enF0 [] (bkX ((!y1_0)) true nbt w2) bE
   have w3 := bkX ((!y1_0)) false nbf w2;refine en_bind (fun z3 c3 => ?_);cases z3 with
   | r0 =>
    refine en_ite (fun g4 => ?_) (fun g4 => ?_)
    · exact Mach.enF0 [] (bhD g4 <| kK (tQ (ZlF c3) 2) w3) bE
    exact enH [3, 1] [some (ms RC L0), some (vs 3 0 1 1), some (vT), some (vp 1 0), some (vq)] (bkE y0_5 1 <| kK (tQ (ZlF c3) 2) w3) (tC (tC (tC (tC (tC (tE) ⟨Eq.trans (show κg = vq from ci) (by rfl), by rfl⟩))) ⟨Eq.trans (show (vs 0 0 ([(⟨a1, a2⟩ : RG)] : List RG).length ([(⟨a1, a2⟩ : RG)] : List RG).length : Value) = vs 0 0 1 1 from (Zi rfl eqA eqA)) (by rfl), by rfl⟩)) (bC (o := .cells [vi a1, vi a2] 44) (Zz (E := RA) _ (L := ([(⟨a1, a2⟩ : RG)] : List RG)) _ (show ([vi a1, vi a2] : List Value) = Za RA ([(⟨a1, a2⟩ : RG)] : List RG) from rfl)) <| bS [vi y0_0, vi y0_1, vi y0_2, vi y0_3, vi y0_4, vi y0_5, vi y0_6, ms RA y0_7] <| bE)
 | r1 =>
  refine en_bind (fun z1 c1 => ?_);cases z1 with
  | r0 y1_0 =>
   have w2 := kKg 2 (tQ (ZaU c1) 2) <| kK (tQ (Zaj c0) 1) Zg
   refine en_ite (fun g2 => ?_) (fun g2 => ?_)
   · exact Mach.enF0 [] (bkX ((!y1_0)) true nbt w2) bE
   refine en_bind (fun z3 c3 => ?_);cases z3 with
   | r0 =>
    exact Mach.enF0 [] (kK (tQ (ZlF c3) 2) <| bkX ((!y1_0)) false nbf w2) bE

theorem Zlo (N : Nat) (r : Zbz) (h : ZeH L0 a1 a2 N = some r) : LSpec Tryz.prog 149 (κ5 L0 a1 a2) [] (Zrk r) (Zps r) :=
 Mach.specT Zv (ZiU L0 a1 a2 N) Tryz.func149 (fun x => (show (ZiU L0 a1 a2 N).Ok Tryz.prog Ze x (Zi7 L0 a1 a2 N x) from by
  cases x with
  | h1m0 v1 v3 v4 v5 v6 v7 v8 v9 v10 v11 => exact ZrR L0 a1 a2 v1 v3 v4 v5 v6 v7 v8 v9 v10 v11 N
  )) (ZwD L0 a1 a2 N) h

noncomputable def Zzq {L0 : List RJ} {a1 a2 : Int} {N : Nat} (h : ZeH L0 a1 a2 N = some (.r0)) (ks : List Nat) (n : Nat) : ToldS := ⟨(κ5 L0 a1 a2), [], vn, [], 0⟩

theorem Zzr {L0 : List RJ} {a1 a2 : Int} {N : Nat} (h : ZeH L0 a1 a2 N = some (.r0)) (ks : List Nat) (n : Nat) (hk : ks.length = 0 := by rfl) (hnd : ks.Nodup := by decide +kernel) (hlt : ∀ k ∈ ks, k < n := by decide +kernel) : (Zzq (N := N)  h ks n).P Tryz.prog 149 n :=
 match ks, hk, hnd, hlt with
 | [], _, hnd, hlt => Zci (show LSpec Tryz.prog 149 (κ5 L0 a1 a2) [] (vn) [] from Zlo L0 a1 a2 N _ h) _ n [] hnd hlt

noncomputable def Zzs {L0 : List RJ} {a1 a2 : Int} {w0 : List RG} {N : Nat} (h : ZeH L0 a1 a2 N = some (.r1 w0)) (ks : List Nat) (n : Nat) : ToldS := ⟨(κ5 L0 a1 a2), [], vs n 0 w0.length w0.length, [(n, some (.cells (Za RA w0) 44))], 1⟩

theorem Zzt {L0 : List RJ} {a1 a2 : Int} {w0 : List RG} {N : Nat} (h : ZeH L0 a1 a2 N = some (.r1 w0)) (ks : List Nat) (n : Nat) (hk : ks.length = 0 := by rfl) (hnd : ks.Nodup := by decide +kernel) (hlt : ∀ k ∈ ks, k < n := by decide +kernel) : (Zzs (N := N)  h ks n).P Tryz.prog 149 n :=
 match ks, hk, hnd, hlt with
 | [], _, hnd, hlt => Zci (show LSpec Tryz.prog 149 (κ5 L0 a1 a2) [] (vs 0 0 w0.length w0.length) [some (.cells (Za RA w0) 44)] from Zlo L0 a1 a2 N _ h) _ n [0] hnd hlt

noncomputable def Zlp : Zb0 → Value
 | .r0 => vn
 | .r1 w0 => vs 0 0 w0.length w0.length
noncomputable def ZkJ : Zb0 → List (Option AObj)
 | .r0 => []
 | .r1 w0 => [some (.cells (Za RA w0) 44)]

noncomputable def Zmw : Zb0 → Value
 | .r0 => ms RA ([] : List RG)
 | .r1 w0 => ms RA w0
noncomputable def Zlq : Zb0 → List (Option AObj)
 | .r0 => []
 | .r1 w0 => []

theorem ZrS (N : Nat) : Fx Tryz.prog Ze Tryz.f143 [] (κs L0 a1 a2) (Zlp) (ZkJ) (Zck L0 a1 a2 N) := by
 unfold Zck;refine Zx (fun z0 c0 => ?_);cases z0 with
 | r0 =>
  exact Zq [] (kK (Zzr c0 [] 1) Zg) bE
 | r1 y0_0 =>
  exact Zq [1] (kK (Zzt c0 [] 1) Zg) (bR <| bE)

theorem Zoh (N : Nat) (r : Zb0) (h : Zck L0 a1 a2 N = some r) : LSpec Tryz.prog 143 (κs L0 a1 a2) [] (Zlp r) (ZkJ r) :=
 ZI Zv Tryz.func143 (by kernel_rfl) (by kernel_rfl) (fun r => by cases r <;> exact ZP _ rfl) (ZrS L0 a1 a2 N) h

theorem Zpt (N : Nat) (r : Zb0) (h : Zck L0 a1 a2 N = some r) : LSpec Tryz.prog 143 (κs L0 a1 a2) [] (Zmw r) (Zlq r) := by
 have h0 := Zoh L0 a1 a2 N r h;cases r with
 | r0 => exact (LSpec.nlv (v2 := ms RA ([] : List RG)) h0 rfl rfl)
 | r1 w0 => exact (LSpec.frzv (E := RA) (L := w0) (post := []) (v2 := ms RA w0) h0 (show 0 ≤ 0 from by decide) (show 0 < 1000000000 from by decide) trivial rfl rfl rfl)

end
theorem ZfU {L0 : List RJ} {a1 a2 : Int} {N : Nat} {r : Zb0} (h : Zck L0 a1 a2 N = some r) : LSpec Tryz.prog 143 (κs L0 a1 a2) [] (Zmw r) (Zlq r) := Zpt L0 a1 a2 N r h

noncomputable def ZnQ (L0 : List RJ) (a1 a2 a3 a4 a5 a6 a7 a8 : Int) (L9 : List RG) : ZcL → Value
 | .r0 => vs 0 0 L0.length L0.length
section
variable (L0 : List RJ) (a1 a2 a3 a4 a5 a6 a7 a8 : Int) (L9 : List RG)
noncomputable def Zmx : ZcL → List (Option AObj)
 | .r0 => [some (.cells (Za RC (L0.set a1.toNat (⟨a2, a3, a4, a5, a6, a7, a8, L9⟩ : RJ))) 97)]

noncomputable def Zpu : ZcL → Value
 | .r0 => ms RC (L0.set a1.toNat (⟨a2, a3, a4, a5, a6, a7, a8, L9⟩ : RJ))
noncomputable def ZnR : ZcL → List (Option AObj)
 | .r0 => []

theorem ZuM (N : Nat) : Fx Tryz.prog Ze Tryz.f144 [] #[ms RC L0, vi a1, Value.agg #[vi a2, vi a3, vi a4, vi a5, vi a6, vi a7, vi a8, ms RA L9]] (ZnQ L0 a1 a2 a3 a4 a5 a6 a7 a8 L9) (Zmx L0 a1 a2 a3 a4 a5 a6 a7 a8 L9) (Zec L0 a1 a2 a3 a4 a5 a6 a7 a8 L9 N) := by unfold Zec;refine Zb (fun _ => Zd) (fun g0 => ?_);refine Zb (fun g1 => ?_) (fun _ => Zd);refine Zb (fun g2 => ?_) (fun _ => Zd);refine Zb (fun g3 => ?_) (fun _ => Zd);exact fxC [2] (vs 2 0 (0 + L0.length) (0 + L0.length)) (tW 0 (.st (Za RC (L0.set a1.toNat (⟨a2, a3, a4, a5, a6, a7, a8, L9⟩ : RJ)))) <| kC (Zbi (E := RC) (L := L0) (i := a1.toNat) (q := 0) (l := [vi a2, vi a3, vi a4, vi a5, vi a6, vi a7, vi a8, ms RA L9]) (⟨a2, a3, a4, a5, a6, a7, a8, L9⟩ : RJ) (by omega) (show (0 + (a1.toNat * 8)) = a1.toNat * 8 + 0 from by omega) (show 0 + 8 ≤ 8 from by decide) rfl) <| kB a1.toNat (0 + L0.length) <| xkI a1 (a1.toNat) <| tW 0 (.ap L0.length (Za RC L0) (Za RC L0)) <| kX (dP ((L0.length = L0.length ∧ ((L0.length * 8 = 0 ∧ (Za RC L0) = []) ∨ ∃ c, L0.length * 8 ≠ 0 ∧ ZS (code (Z9 RC L0)) 0 (L0.length * 8) = some c ∧ (Za RC L0) = Zl c)) ∧ 0 < L0.length ∧ L0.length ≤ 100000 ∧ 0 < 0 + L0.length ∧ 0 ≤ 100000 ∧ 0 * 8 ≤ (List.length []) ∧ List.take (0 * 8) [] ++ (Za RC L0) = (Za RC L0))) true (Zn ⟨⟨rfl, (Zc4 (E := RC) (L := L0) (n := L0.length) (size := 8) rfl (by decide) (by omega))⟩, by omega, by omega, ltA, by omega, (Zas (E := RC) (L := ([] : List RJ)) (M := L0) (n := 0) (show _ = _ * 8 from rfl) ltA (R := L0) (by rw [List.take_of_length_le ltA]; rfl))⟩) Zg) (bR <| bE) (hv := ⟨Eq.trans (show (vs 0 0 L0.length L0.length : Value) = vs 0 0 (0 + L0.length) (0 + L0.length) from (Zi rfl eqA eqA)) (by rfl), by rfl⟩)

theorem ZqA (N : Nat) (r : ZcL) (h : Zec L0 a1 a2 a3 a4 a5 a6 a7 a8 L9 N = some r) : LSpec Tryz.prog 144 #[ms RC L0, vi a1, Value.agg #[vi a2, vi a3, vi a4, vi a5, vi a6, vi a7, vi a8, ms RA L9]] [] (ZnQ L0 a1 a2 a3 a4 a5 a6 a7 a8 L9 r) (Zmx L0 a1 a2 a3 a4 a5 a6 a7 a8 L9 r) :=
 ZI Zv Tryz.func144 (by kernel_rfl) (by kernel_rfl) (fun r => by cases r <;> exact ZP _ rfl) (ZuM L0 a1 a2 a3 a4 a5 a6 a7 a8 L9 N) h

theorem ZrT (N : Nat) (r : ZcL) (h : Zec L0 a1 a2 a3 a4 a5 a6 a7 a8 L9 N = some r) : LSpec Tryz.prog 144 #[ms RC L0, vi a1, Value.agg #[vi a2, vi a3, vi a4, vi a5, vi a6, vi a7, vi a8, ms RA L9]] [] (Zpu L0 a1 a2 a3 a4 a5 a6 a7 a8 L9 r) (ZnR r) := by
 have h0 := ZqA L0 a1 a2 a3 a4 a5 a6 a7 a8 L9 N r h;cases r with
 | r0 => exact (LSpec.frzv (E := RC) (L := (L0.set a1.toNat (⟨a2, a3, a4, a5, a6, a7, a8, L9⟩ : RJ))) (post := []) (v2 := ms RC (L0.set a1.toNat (⟨a2, a3, a4, a5, a6, a7, a8, L9⟩ : RJ))) h0 (show 0 ≤ 0 from by decide) (show 0 < 1000000000 from by decide) trivial rfl (Zfn eqA eqA) rfl)

end
theorem ZwE {L0 : List RJ} {a1 a2 a3 a4 a5 a6 a7 a8 : Int} {L9 : List RG} {N : Nat} {r : ZcL} (h : Zec L0 a1 a2 a3 a4 a5 a6 a7 a8 L9 N = some r) : LSpec Tryz.prog 144 #[ms RC L0, vi a1, Value.agg #[vi a2, vi a3, vi a4, vi a5, vi a6, vi a7, vi a8, ms RA L9]] [] (Zpu L0 a1 a2 a3 a4 a5 a6 a7 a8 L9 r) (ZnR r) := ZrT L0 a1 a2 a3 a4 a5 a6 a7 a8 L9 N r h

noncomputable def ZkK : Zfc → Value
 | .r0 w0 => ms RC w0
noncomputable def ZjF : Zfc → List (Option AObj)
 | .r0 w0 => []

section
variable (L0 : List RJ) (a1 a2 a3 : Int) (N : Nat)
theorem ZuN : Fx Tryz.prog Ze Tryz.f145 [] (κw L0 a1 a2 a3) (ZkK) (ZjF) (Zdt L0 a1 a2 a3 N) := by
 unfold Zdt;refine Zx (fun z0 c0 => ?_);cases z0 with
 | r0 y0_0 y0_1 =>
  refine Zb (fun g1 => ?_) (fun _ => Zd);refine Zb (fun g2 => ?_) (fun _ => Zd);refine Zx (fun z3 c3 => ?_);cases z3 with
  | r0 =>
   exact Zq [] (kKg 3 (tQ (ZwE c3) 2) <| tL 1 (RC.cel (L0.getD (y0_0).toNat RJ.z)) <| kG RC L0 (0 + ((y0_0).toNat * 8)) ((y0_0).toNat) 0 8 8 <| kB (y0_0).toNat L0.length <| xkI y0_0 ((y0_0).toNat) <| kK (tQ (ZfB c0) 1) Zg) bE

theorem ZrU (r : Zfc) (h : Zdt L0 a1 a2 a3 N = some r) : LSpec Tryz.prog 145 (κw L0 a1 a2 a3) [] (ZkK r) (ZjF r) :=
 ZI Zv Tryz.func145 (by kernel_rfl) (by kernel_rfl) (fun r => by cases r <;> exact ZP _ rfl) (ZuN L0 a1 a2 a3 N) h

end
theorem ZjG {L0 : List RJ} {a1 a2 a3 : Int} {N : Nat} {r : Zfc} (h : Zdt L0 a1 a2 a3 N = some r) : LSpec Tryz.prog 145 (κw L0 a1 a2 a3) [] (ZkK r) (ZjF r) := ZrU L0 a1 a2 a3 N r h

open Mach (oi ok_ite ok_bind enH en_ite en_none en_bind)
set_option linter.unusedVariables false
set_option maxRecDepth 100000
noncomputable def Znz : Zcl → Value
 | .r0 w0 => Value.tuple #[ms RC w0, vq]
noncomputable def ZlG : Zcl → List (Option AObj)
 | .r0 w0 => []

def Z0M : Zan → Nat
 | .h1m0 v0 => 1
 | .h1m1 v0 v1 v2 => 1
noncomputable def Z21 (L0 : List RJ) (a1 a2 a3 a4 a5 a6 : Int) : Zan → List (Nat × Value)
 | .h1m0 v0 => [(0, ms RC v0), (17, vn), (18, vq)]
 | .h1m1 v0 v1 v2 => [(0, ms RC v0), (17, ms RA v1), (18, vi (v2 : Int))]
noncomputable def Z22 (L0 : List RJ) (a1 a2 a3 a4 a5 a6 : Int) : Zan → List (Option AObj)
 | .h1m0 v0 => []
 | .h1m1 v0 v1 v2 => []

noncomputable def Z23 : Nat → Code × List ZL
 | 1 => Z5 [1, 1, 1, 1, 1, 1, 1, 1, 1, 1, 1, 0, 1, 3] (ZM Tryz.f129) []
 | _ => (.skip, [])

section
variable (L0 : List RJ) (a1 a2 a3 a4 a5 a6 : Int)
noncomputable def Zik (N : Nat) : Mach := ⟨Tryz.f129, [], Zan, Zcl, Zj2 L0 a1 a2 a3 a4 a5 a6 N, Z0M, Z23, ilT, Z21 L0 a1 a2 a3 a4 a5 a6, Z22 L0 a1 a2 a3 a4 a5 a6, Znz, ZlG⟩

theorem Ztx (v0 : List RJ) (N : Nat) : (Zik L0 a1 a2 a3 a4 a5 a6 N).Ok Tryz.prog Ze (.h1m0 v0 : Zan) (Zi8 L0 a1 a2 a3 a4 a5 a6 N v0) := by unfold Zi8;exact Mach.okF0 [] Zg bE

theorem Zty (v0 : List RJ) (v1 : List RG) (v2 N : Nat) : (Zik L0 a1 a2 a3 a4 a5 a6 N).Ok Tryz.prog Ze (.h1m1 v0 v1 v2 : Zan) (Zfd L0 a1 a2 a3 a4 a5 a6 N v0 v1 v2) := by
 unfold Zfd;refine ok_ite (fun g0 => ?_) fun g0 => ?_
 ·
  refine ok_bind fun z1 c1 => ?_;cases z1 with
  | r0 y1_0 =>
   refine oi fun g2 => ?_;exact Mach.okN0 [] (vkW ((v2 : Int) + 1) (((v2 + 1) : Nat) : Int) <| kK (tQ (ZjG c1) 0) <| lkG RA v1 (0 + (v2 * 2)) v2 0 2 2 <| kB v2 v1.length <| xkI (v2 : Int) v2 <| bhY g0 Zg) bE
 exact Mach.okF0 [] (bhN g0 Zg) bE

theorem Zzu (N : Nat) : (Zik L0 a1 a2 a3 a4 a5 a6 N).Enter Tryz.prog Ze #[ms RC L0, vi a1, Value.agg #[vi a2, vi a3], vi a4, Value.agg #[vi a5, vi a6]] (ZeQ L0 a1 a2 a3 a4 a5 a6 N) := by
 unfold ZeQ;refine en_ite (fun g0 => ?_) (fun _ => en_none);refine en_ite (fun g1 => ?_) (fun _ => en_none);refine en_bind (fun z2 c2 => ?_);cases z2 with
 | r0 y2_0 y2_1 =>
  have w3 := kK (tQ (Zri c2) 2) Zg;refine en_bind (fun z3 c3 => ?_);cases z3 with
  | r0 y3_0 y3_1 =>
   have w4 := kKg 1 (tQ (ZfB c3) 3) w3;refine en_ite (fun g4 => ?_) (fun _ => en_none);refine en_ite (fun g5 => ?_) (fun _ => en_none);have w6 := tL 2 (RC.cel (L0.getD (y3_0).toNat RJ.z)) <| kG RC L0 (0 + ((y3_0).toNat * 8)) ((y3_0).toNat) 0 8 8 <| kB (y3_0).toNat L0.length <| xkI y3_0 ((y3_0).toNat) w4
   refine en_bind (fun z6 c6 => ?_);cases z6 with
   | r0 y6_0 =>
    refine en_ite (fun g7 => ?_) (fun g7 => ?_)
    ·
     subst g7;have w8 := kKg 2 (tQ (ZeM c6) 5) w6;refine en_ite (fun g8 => ?_) (fun g8 => ?_)
     ·
      have w9 := tW 0 (.sh a4.toNat) <| kS a4 (a4.toNat) .i64 <| tV 0 <| kX ((IntKind.u64.wrap a4) == a4) true (beq_iff_eq.2 (Znd ltA)) <| tB 1 <| hT g8 w8
      refine en_ite (fun g9 => ?_) (fun _ => en_none);refine en_bind (fun z10 c10 => ?_);cases z10 with
      | r0 y10_0 =>
       refine en_ite (fun g11 => ?_) (fun g11 => ?_)
       ·
        subst g11;refine en_ite (fun _ => en_none) (fun g12 => ?_);refine en_ite (fun g13 => ?_) (fun _ => en_none);refine en_ite (fun g14 => ?_) (fun _ => en_none);refine en_bind (fun z15 c15 => ?_);cases z15 with
        | r0 =>
         exact Mach.enH0 [] (kKb (A := #[ms RC L0, vi y3_0, Value.agg #[vi (L0.getD (y3_0).toNat RJ.z).a0, vi (L0.getD (y3_0).toNat RJ.z).a1, vi (L0.getD (y3_0).toNat RJ.z).a2, vi (L0.getD (y3_0).toNat RJ.z).a3, vi (L0.getD (y3_0).toNat RJ.z).a4, vi (L0.getD (y3_0).toNat RJ.z).a5, vi (L0.getD (y3_0).toNat RJ.z).a6, vs 6 0 (0 + (L0.getD (y3_0).toNat RJ.z).a7.length) (0 + (L0.getD (y3_0).toNat RJ.z).a7.length)]]) (Zel (cr (cr (Zw (ZbU (cr4 (cr (cr (cr (Zw (Zi rfl eqA eqA) rfl)))))) rfl)))) (Zed c15 [6] 7) <| kR (Za RA ((L0.getD (y3_0).toNat RJ.z).a7.set a4.toNat (⟨a5, a6⟩ : RG))) <| tW 1 (.st (Za RA ((L0.getD (y3_0).toNat RJ.z).a7.set a4.toNat (⟨a5, a6⟩ : RG)))) <| kC (Zbi (E := RA) (L := (L0.getD (y3_0).toNat RJ.z).a7) (i := a4.toNat) (q := 0) (l := [vi a5, vi a6]) (⟨a5, a6⟩ : RG) ltA (show (0 + (a4.toNat * 2)) = a4.toNat * 2 + 0 from by omega) (show 0 + 2 ≤ 2 from by decide) rfl) <| kB a4.toNat (0 + (L0.getD (y3_0).toNat RJ.z).a7.length) <| xkI a4 (a4.toNat) <| tW 0 (.ap (L0.getD (y3_0).toNat RJ.z).a7.length (Za RA (L0.getD (y3_0).toNat RJ.z).a7) (Za RA (L0.getD (y3_0).toNat RJ.z).a7)) <| kX (dP (((L0.getD (y3_0).toNat RJ.z).a7.length = (L0.getD (y3_0).toNat RJ.z).a7.length ∧ (((L0.getD (y3_0).toNat RJ.z).a7.length * 2 = 0 ∧ (Za RA (L0.getD (y3_0).toNat RJ.z).a7) = []) ∨ ∃ c, (L0.getD (y3_0).toNat RJ.z).a7.length * 2 ≠ 0 ∧ ZS (code (Z9 RA (L0.getD (y3_0).toNat RJ.z).a7)) 0 ((L0.getD (y3_0).toNat RJ.z).a7.length * 2) = some c ∧ (Za RA (L0.getD (y3_0).toNat RJ.z).a7) = Zl c)) ∧ 0 < (L0.getD (y3_0).toNat RJ.z).a7.length ∧ (L0.getD (y3_0).toNat RJ.z).a7.length ≤ 100000 ∧ 0 < 0 + (L0.getD (y3_0).toNat RJ.z).a7.length ∧ 0 ≤ 100000 ∧ 0 * 2 ≤ (List.length []) ∧ List.take (0 * 2) [] ++ (Za RA (L0.getD (y3_0).toNat RJ.z).a7) = (Za RA (L0.getD (y3_0).toNat RJ.z).a7))) true (Zn ⟨⟨rfl, (Zc4 (E := RA) (L := (L0.getD (y3_0).toNat RJ.z).a7) (n := (L0.getD (y3_0).toNat RJ.z).a7.length) (size := 2) rfl (by decide) (by omega))⟩, by omega, by omega, ltA, by omega, (Zas (E := RA) (L := ([] : List RG)) (M := (L0.getD (y3_0).toNat RJ.z).a7) (n := 0) (show _ = _ * 2 from rfl) ltA (R := (L0.getD (y3_0).toNat RJ.z).a7) (by rw [List.take_of_length_le ltA]; rfl))⟩) <| kKg 1 (tQ (Zcg c10) 5) <| bhT g9 w9) bE
       obtain rfl : y10_0 = false := by simpa using g11
       have w12 := kKg 1 (tQ (Zcg c10) 5) <| bhT g9 w9
       refine en_bind (fun z12 c12 => ?_);cases z12 with
       | r0 y12_0 =>
        refine en_ite (fun g13 => ?_) (fun g13 => ?_)
        ·
         subst g13;refine en_bind (fun z14 c14 => ?_);cases z14 with
         | r0 =>
          refine en_ite (fun _ => en_none) (fun g15 => ?_);refine en_ite (fun g16 => ?_) (fun _ => en_none);refine en_ite (fun g17 => ?_) (fun _ => en_none);refine en_bind (fun z18 c18 => ?_);cases z18 with
          | r0 =>
           exact enH [] [some (ms RC (L0.set (y3_0).toNat (Zbj (L0.getD (y3_0).toNat RJ.z) ((L0.getD (y3_0).toNat RJ.z).a7.set a4.toNat (⟨a5, a6⟩ : RG)) : RJ))), some (ms RA ([] : List RG)), some (vq)] (kKb (A := #[ms RC L0, vi y3_0, Value.agg #[vi (L0.getD (y3_0).toNat RJ.z).a0, vi (L0.getD (y3_0).toNat RJ.z).a1, vi (L0.getD (y3_0).toNat RJ.z).a2, vi (L0.getD (y3_0).toNat RJ.z).a3, vi (L0.getD (y3_0).toNat RJ.z).a4, vi (L0.getD (y3_0).toNat RJ.z).a5, vi (L0.getD (y3_0).toNat RJ.z).a6, vs 6 0 (0 + (L0.getD (y3_0).toNat RJ.z).a7.length) (0 + (L0.getD (y3_0).toNat RJ.z).a7.length)]]) (Zel (cr (cr (Zw (ZbU (cr4 (cr (cr (cr (Zw (Zi rfl eqA eqA) rfl)))))) rfl)))) (Zed c18 [6] 7) <| kR (Za RA ((L0.getD (y3_0).toNat RJ.z).a7.set a4.toNat (⟨a5, a6⟩ : RG))) <| tW 1 (.st (Za RA ((L0.getD (y3_0).toNat RJ.z).a7.set a4.toNat (⟨a5, a6⟩ : RG)))) <| kC (Zbi (E := RA) (L := (L0.getD (y3_0).toNat RJ.z).a7) (i := a4.toNat) (q := 0) (l := [vi a5, vi a6]) (⟨a5, a6⟩ : RG) ltA (show (0 + (a4.toNat * 2)) = a4.toNat * 2 + 0 from by omega) (show 0 + 2 ≤ 2 from by decide) rfl) <| kB a4.toNat (0 + (L0.getD (y3_0).toNat RJ.z).a7.length) <| xkI a4 (a4.toNat) <| tW 0 (.ap (L0.getD (y3_0).toNat RJ.z).a7.length (Za RA (L0.getD (y3_0).toNat RJ.z).a7) (Za RA (L0.getD (y3_0).toNat RJ.z).a7)) <| kX (dP (((L0.getD (y3_0).toNat RJ.z).a7.length = (L0.getD (y3_0).toNat RJ.z).a7.length ∧ (((L0.getD (y3_0).toNat RJ.z).a7.length * 2 = 0 ∧ (Za RA (L0.getD (y3_0).toNat RJ.z).a7) = []) ∨ ∃ c, (L0.getD (y3_0).toNat RJ.z).a7.length * 2 ≠ 0 ∧ ZS (code (Z9 RA (L0.getD (y3_0).toNat RJ.z).a7)) 0 ((L0.getD (y3_0).toNat RJ.z).a7.length * 2) = some c ∧ (Za RA (L0.getD (y3_0).toNat RJ.z).a7) = Zl c)) ∧ 0 < (L0.getD (y3_0).toNat RJ.z).a7.length ∧ (L0.getD (y3_0).toNat RJ.z).a7.length ≤ 100000 ∧ 0 < 0 + (L0.getD (y3_0).toNat RJ.z).a7.length ∧ 0 ≤ 100000 ∧ 0 * 2 ≤ (List.length []) ∧ List.take (0 * 2) [] ++ (Za RA (L0.getD (y3_0).toNat RJ.z).a7) = (Za RA (L0.getD (y3_0).toNat RJ.z).a7))) true (Zn ⟨⟨rfl, (Zc4 (E := RA) (L := (L0.getD (y3_0).toNat RJ.z).a7) (n := (L0.getD (y3_0).toNat RJ.z).a7.length) (size := 2) rfl (by decide) (by omega))⟩, by omega, by omega, ltA, by omega, (Zas (E := RA) (L := ([] : List RG)) (M := (L0.getD (y3_0).toNat RJ.z).a7) (n := 0) (show _ = _ * 2 from rfl) ltA (R := (L0.getD (y3_0).toNat RJ.z).a7) (by rw [List.take_of_length_le ltA]; rfl))⟩) <| kK (tQ (ZfU c14) 5) <| kK (tQ (Zcg c12) 5) w12) (tC (tC (tC (tE) ⟨Eq.trans (show κg = vq from ci) (by rfl), by rfl⟩))) bE
         | r1 y14_0 =>
          refine en_ite (fun _ => en_none) (fun g15 => ?_);refine en_ite (fun g16 => ?_) (fun _ => en_none);refine en_ite (fun g17 => ?_) (fun _ => en_none);refine en_bind (fun z18 c18 => ?_);cases z18 with
          | r0 =>
           exact enH [] [some (ms RC (L0.set (y3_0).toNat (Zbj (L0.getD (y3_0).toNat RJ.z) ((L0.getD (y3_0).toNat RJ.z).a7.set a4.toNat (⟨a5, a6⟩ : RG)) : RJ))), some (ms RA y14_0), some (vq)] (kKb (A := #[ms RC L0, vi y3_0, Value.agg #[vi (L0.getD (y3_0).toNat RJ.z).a0, vi (L0.getD (y3_0).toNat RJ.z).a1, vi (L0.getD (y3_0).toNat RJ.z).a2, vi (L0.getD (y3_0).toNat RJ.z).a3, vi (L0.getD (y3_0).toNat RJ.z).a4, vi (L0.getD (y3_0).toNat RJ.z).a5, vi (L0.getD (y3_0).toNat RJ.z).a6, vs 6 0 (0 + (L0.getD (y3_0).toNat RJ.z).a7.length) (0 + (L0.getD (y3_0).toNat RJ.z).a7.length)]]) (Zel (cr (cr (Zw (ZbU (cr4 (cr (cr (cr (Zw (Zi rfl eqA eqA) rfl)))))) rfl)))) (Zed c18 [6] 7) <| kR (Za RA ((L0.getD (y3_0).toNat RJ.z).a7.set a4.toNat (⟨a5, a6⟩ : RG))) <| tW 1 (.st (Za RA ((L0.getD (y3_0).toNat RJ.z).a7.set a4.toNat (⟨a5, a6⟩ : RG)))) <| kC (Zbi (E := RA) (L := (L0.getD (y3_0).toNat RJ.z).a7) (i := a4.toNat) (q := 0) (l := [vi a5, vi a6]) (⟨a5, a6⟩ : RG) ltA (show (0 + (a4.toNat * 2)) = a4.toNat * 2 + 0 from by omega) (show 0 + 2 ≤ 2 from by decide) rfl) <| kB a4.toNat (0 + (L0.getD (y3_0).toNat RJ.z).a7.length) <| xkI a4 (a4.toNat) <| tW 0 (.ap (L0.getD (y3_0).toNat RJ.z).a7.length (Za RA (L0.getD (y3_0).toNat RJ.z).a7) (Za RA (L0.getD (y3_0).toNat RJ.z).a7)) <| kX (dP (((L0.getD (y3_0).toNat RJ.z).a7.length = (L0.getD (y3_0).toNat RJ.z).a7.length ∧ (((L0.getD (y3_0).toNat RJ.z).a7.length * 2 = 0 ∧ (Za RA (L0.getD (y3_0).toNat RJ.z).a7) = []) ∨ ∃ c, (L0.getD (y3_0).toNat RJ.z).a7.length * 2 ≠ 0 ∧ ZS (code (Z9 RA (L0.getD (y3_0).toNat RJ.z).a7)) 0 ((L0.getD (y3_0).toNat RJ.z).a7.length * 2) = some c ∧ (Za RA (L0.getD (y3_0).toNat RJ.z).a7) = Zl c)) ∧ 0 < (L0.getD (y3_0).toNat RJ.z).a7.length ∧ (L0.getD (y3_0).toNat RJ.z).a7.length ≤ 100000 ∧ 0 < 0 + (L0.getD (y3_0).toNat RJ.z).a7.length ∧ 0 ≤ 100000 ∧ 0 * 2 ≤ (List.length []) ∧ List.take (0 * 2) [] ++ (Za RA (L0.getD (y3_0).toNat RJ.z).a7) = (Za RA (L0.getD (y3_0).toNat RJ.z).a7))) true (Zn ⟨⟨rfl, (Zc4 (E := RA) (L := (L0.getD (y3_0).toNat RJ.z).a7) (n := (L0.getD (y3_0).toNat RJ.z).a7.length) (size := 2) rfl (by decide) (by omega))⟩, by omega, by omega, ltA, by omega, (Zas (E := RA) (L := ([] : List RG)) (M := (L0.getD (y3_0).toNat RJ.z).a7) (n := 0) (show _ = _ * 2 from rfl) ltA (R := (L0.getD (y3_0).toNat RJ.z).a7) (by rw [List.take_of_length_le ltA]; rfl))⟩) <| kK (tQ (ZfU c14) 5) <| kK (tQ (Zcg c12) 5) w12) (tC (tC (tC (tE) ⟨Eq.trans (show κg = vq from ci) (by rfl), by rfl⟩))) bE
        obtain rfl : y12_0 = false := by simpa using g13
        refine en_ite (fun _ => en_none) (fun g14 => ?_);refine en_ite (fun g15 => ?_) (fun _ => en_none);refine en_ite (fun g16 => ?_) (fun _ => en_none);refine en_bind (fun z17 c17 => ?_);cases z17 with
        | r0 =>
         exact Mach.enH0 [] (kKb (A := #[ms RC L0, vi y3_0, Value.agg #[vi (L0.getD (y3_0).toNat RJ.z).a0, vi (L0.getD (y3_0).toNat RJ.z).a1, vi (L0.getD (y3_0).toNat RJ.z).a2, vi (L0.getD (y3_0).toNat RJ.z).a3, vi (L0.getD (y3_0).toNat RJ.z).a4, vi (L0.getD (y3_0).toNat RJ.z).a5, vi (L0.getD (y3_0).toNat RJ.z).a6, vs 6 0 (0 + (L0.getD (y3_0).toNat RJ.z).a7.length) (0 + (L0.getD (y3_0).toNat RJ.z).a7.length)]]) (Zel (cr (cr (Zw (ZbU (cr4 (cr (cr (cr (Zw (Zi rfl eqA eqA) rfl)))))) rfl)))) (Zed c17 [6] 7) <| kR (Za RA ((L0.getD (y3_0).toNat RJ.z).a7.set a4.toNat (⟨a5, a6⟩ : RG))) <| tW 1 (.st (Za RA ((L0.getD (y3_0).toNat RJ.z).a7.set a4.toNat (⟨a5, a6⟩ : RG)))) <| kC (Zbi (E := RA) (L := (L0.getD (y3_0).toNat RJ.z).a7) (i := a4.toNat) (q := 0) (l := [vi a5, vi a6]) (⟨a5, a6⟩ : RG) ltA (show (0 + (a4.toNat * 2)) = a4.toNat * 2 + 0 from by omega) (show 0 + 2 ≤ 2 from by decide) rfl) <| kB a4.toNat (0 + (L0.getD (y3_0).toNat RJ.z).a7.length) <| xkI a4 (a4.toNat) <| tW 0 (.ap (L0.getD (y3_0).toNat RJ.z).a7.length (Za RA (L0.getD (y3_0).toNat RJ.z).a7) (Za RA (L0.getD (y3_0).toNat RJ.z).a7)) <| kX (dP (((L0.getD (y3_0).toNat RJ.z).a7.length = (L0.getD (y3_0).toNat RJ.z).a7.length ∧ (((L0.getD (y3_0).toNat RJ.z).a7.length * 2 = 0 ∧ (Za RA (L0.getD (y3_0).toNat RJ.z).a7) = []) ∨ ∃ c, (L0.getD (y3_0).toNat RJ.z).a7.length * 2 ≠ 0 ∧ ZS (code (Z9 RA (L0.getD (y3_0).toNat RJ.z).a7)) 0 ((L0.getD (y3_0).toNat RJ.z).a7.length * 2) = some c ∧ (Za RA (L0.getD (y3_0).toNat RJ.z).a7) = Zl c)) ∧ 0 < (L0.getD (y3_0).toNat RJ.z).a7.length ∧ (L0.getD (y3_0).toNat RJ.z).a7.length ≤ 100000 ∧ 0 < 0 + (L0.getD (y3_0).toNat RJ.z).a7.length ∧ 0 ≤ 100000 ∧ 0 * 2 ≤ (List.length []) ∧ List.take (0 * 2) [] ++ (Za RA (L0.getD (y3_0).toNat RJ.z).a7) = (Za RA (L0.getD (y3_0).toNat RJ.z).a7))) true (Zn ⟨⟨rfl, (Zc4 (E := RA) (L := (L0.getD (y3_0).toNat RJ.z).a7) (n := (L0.getD (y3_0).toNat RJ.z).a7.length) (size := 2) rfl (by decide) (by omega))⟩, by omega, by omega, ltA, by omega, (Zas (E := RA) (L := ([] : List RG)) (M := (L0.getD (y3_0).toNat RJ.z).a7) (n := 0) (show _ = _ * 2 from rfl) ltA (R := (L0.getD (y3_0).toNat RJ.z).a7) (by rw [List.take_of_length_le ltA]; rfl))⟩) <| kK (tQ (Zcg c12) 5) w12) bE
     have w9 := tW 0 (.sh a4.toNat) <| kS a4 (a4.toNat) .i64 <| tV 0 <| kX ((IntKind.u64.wrap a4) == a4) true (beq_iff_eq.2 (Znd ltA)) <| tB 1 <| hF g8 w8
     refine en_ite (fun _ => en_none) (fun g9 => ?_);refine en_bind (fun z10 c10 => ?_);cases z10 with
     | r0 y10_0 =>
      refine en_ite (fun g11 => ?_) (fun g11 => ?_)
      ·
       subst g11;refine en_ite (fun _ => en_none) (fun g12 => ?_);refine en_ite (fun g13 => ?_) (fun _ => en_none);refine en_ite (fun g14 => ?_) (fun _ => en_none);refine en_bind (fun z15 c15 => ?_);cases z15 with
       | r0 =>
        exact Mach.enH0 [] (kKb (A := #[ms RC L0, vi y3_0, Value.agg #[vi (L0.getD (y3_0).toNat RJ.z).a0, vi (L0.getD (y3_0).toNat RJ.z).a1, vi (L0.getD (y3_0).toNat RJ.z).a2, vi (L0.getD (y3_0).toNat RJ.z).a3, vi (L0.getD (y3_0).toNat RJ.z).a4, vi (L0.getD (y3_0).toNat RJ.z).a5, vi (L0.getD (y3_0).toNat RJ.z).a6, vs 6 0 (0 + (L0.getD (y3_0).toNat RJ.z).a7.length) (0 + (L0.getD (y3_0).toNat RJ.z).a7.length)]]) (Zel (cr (cr (Zw (ZbU (cr4 (cr (cr (cr (Zw (Zi rfl eqA eqA) rfl)))))) rfl)))) (Zed c15 [6] 7) <| kR (Za RA ((L0.getD (y3_0).toNat RJ.z).a7.set a4.toNat (⟨a5, a6⟩ : RG))) <| tW 1 (.st (Za RA ((L0.getD (y3_0).toNat RJ.z).a7.set a4.toNat (⟨a5, a6⟩ : RG)))) <| kC (Zbi (E := RA) (L := (L0.getD (y3_0).toNat RJ.z).a7) (i := a4.toNat) (q := 0) (l := [vi a5, vi a6]) (⟨a5, a6⟩ : RG) ltA (show (0 + (a4.toNat * 2)) = a4.toNat * 2 + 0 from by omega) (show 0 + 2 ≤ 2 from by decide) rfl) <| kB a4.toNat (0 + (L0.getD (y3_0).toNat RJ.z).a7.length) <| xkI a4 (a4.toNat) <| tW 0 (.ap (L0.getD (y3_0).toNat RJ.z).a7.length (Za RA (L0.getD (y3_0).toNat RJ.z).a7) (Za RA (L0.getD (y3_0).toNat RJ.z).a7)) <| kX (dP (((L0.getD (y3_0).toNat RJ.z).a7.length = (L0.getD (y3_0).toNat RJ.z).a7.length ∧ (((L0.getD (y3_0).toNat RJ.z).a7.length * 2 = 0 ∧ (Za RA (L0.getD (y3_0).toNat RJ.z).a7) = []) ∨ ∃ c, (L0.getD (y3_0).toNat RJ.z).a7.length * 2 ≠ 0 ∧ ZS (code (Z9 RA (L0.getD (y3_0).toNat RJ.z).a7)) 0 ((L0.getD (y3_0).toNat RJ.z).a7.length * 2) = some c ∧ (Za RA (L0.getD (y3_0).toNat RJ.z).a7) = Zl c)) ∧ 0 < (L0.getD (y3_0).toNat RJ.z).a7.length ∧ (L0.getD (y3_0).toNat RJ.z).a7.length ≤ 100000 ∧ 0 < 0 + (L0.getD (y3_0).toNat RJ.z).a7.length ∧ 0 ≤ 100000 ∧ 0 * 2 ≤ (List.length []) ∧ List.take (0 * 2) [] ++ (Za RA (L0.getD (y3_0).toNat RJ.z).a7) = (Za RA (L0.getD (y3_0).toNat RJ.z).a7))) true (Zn ⟨⟨rfl, (Zc4 (E := RA) (L := (L0.getD (y3_0).toNat RJ.z).a7) (n := (L0.getD (y3_0).toNat RJ.z).a7.length) (size := 2) rfl (by decide) (by omega))⟩, by omega, by omega, ltA, by omega, (Zas (E := RA) (L := ([] : List RG)) (M := (L0.getD (y3_0).toNat RJ.z).a7) (n := 0) (show _ = _ * 2 from rfl) ltA (R := (L0.getD (y3_0).toNat RJ.z).a7) (by rw [List.take_of_length_le ltA]; rfl))⟩) <| kKg 1 (tQ (Zcg c10) 5) <| bhF g9 w9) bE
      obtain rfl : y10_0 = false := by simpa using g11
      have w12 := kKg 1 (tQ (Zcg c10) 5) <| bhF g9 w9
      refine en_bind (fun z12 c12 => ?_);cases z12 with
      | r0 y12_0 =>
       refine en_ite (fun g13 => ?_) (fun g13 => ?_)
       ·
        subst g13;refine en_bind (fun z14 c14 => ?_);cases z14 with
        | r0 =>
         refine en_ite (fun _ => en_none) (fun g15 => ?_);refine en_ite (fun g16 => ?_) (fun _ => en_none);refine en_ite (fun g17 => ?_) (fun _ => en_none);refine en_bind (fun z18 c18 => ?_);cases z18 with
         | r0 =>
          exact enH [] [some (ms RC (L0.set (y3_0).toNat (Zbj (L0.getD (y3_0).toNat RJ.z) ((L0.getD (y3_0).toNat RJ.z).a7.set a4.toNat (⟨a5, a6⟩ : RG)) : RJ))), some (ms RA ([] : List RG)), some (vq)] (kKb (A := #[ms RC L0, vi y3_0, Value.agg #[vi (L0.getD (y3_0).toNat RJ.z).a0, vi (L0.getD (y3_0).toNat RJ.z).a1, vi (L0.getD (y3_0).toNat RJ.z).a2, vi (L0.getD (y3_0).toNat RJ.z).a3, vi (L0.getD (y3_0).toNat RJ.z).a4, vi (L0.getD (y3_0).toNat RJ.z).a5, vi (L0.getD (y3_0).toNat RJ.z).a6, vs 6 0 (0 + (L0.getD (y3_0).toNat RJ.z).a7.length) (0 + (L0.getD (y3_0).toNat RJ.z).a7.length)]]) (Zel (cr (cr (Zw (ZbU (cr4 (cr (cr (cr (Zw (Zi rfl eqA eqA) rfl)))))) rfl)))) (Zed c18 [6] 7) <| kR (Za RA ((L0.getD (y3_0).toNat RJ.z).a7.set a4.toNat (⟨a5, a6⟩ : RG))) <| tW 1 (.st (Za RA ((L0.getD (y3_0).toNat RJ.z).a7.set a4.toNat (⟨a5, a6⟩ : RG)))) <| kC (Zbi (E := RA) (L := (L0.getD (y3_0).toNat RJ.z).a7) (i := a4.toNat) (q := 0) (l := [vi a5, vi a6]) (⟨a5, a6⟩ : RG) ltA (show (0 + (a4.toNat * 2)) = a4.toNat * 2 + 0 from by omega) (show 0 + 2 ≤ 2 from by decide) rfl) <| kB a4.toNat (0 + (L0.getD (y3_0).toNat RJ.z).a7.length) <| xkI a4 (a4.toNat) <| tW 0 (.ap (L0.getD (y3_0).toNat RJ.z).a7.length (Za RA (L0.getD (y3_0).toNat RJ.z).a7) (Za RA (L0.getD (y3_0).toNat RJ.z).a7)) <| kX (dP (((L0.getD (y3_0).toNat RJ.z).a7.length = (L0.getD (y3_0).toNat RJ.z).a7.length ∧ (((L0.getD (y3_0).toNat RJ.z).a7.length * 2 = 0 ∧ (Za RA (L0.getD (y3_0).toNat RJ.z).a7) = []) ∨ ∃ c, (L0.getD (y3_0).toNat RJ.z).a7.length * 2 ≠ 0 ∧ ZS (code (Z9 RA (L0.getD (y3_0).toNat RJ.z).a7)) 0 ((L0.getD (y3_0).toNat RJ.z).a7.length * 2) = some c ∧ (Za RA (L0.getD (y3_0).toNat RJ.z).a7) = Zl c)) ∧ 0 < (L0.getD (y3_0).toNat RJ.z).a7.length ∧ (L0.getD (y3_0).toNat RJ.z).a7.length ≤ 100000 ∧ 0 < 0 + (L0.getD (y3_0).toNat RJ.z).a7.length ∧ 0 ≤ 100000 ∧ 0 * 2 ≤ (List.length []) ∧ List.take (0 * 2) [] ++ (Za RA (L0.getD (y3_0).toNat RJ.z).a7) = (Za RA (L0.getD (y3_0).toNat RJ.z).a7))) true (Zn ⟨⟨rfl, (Zc4 (E := RA) (L := (L0.getD (y3_0).toNat RJ.z).a7) (n := (L0.getD (y3_0).toNat RJ.z).a7.length) (size := 2) rfl (by decide) (by omega))⟩, by omega, by omega, ltA, by omega, (Zas (E := RA) (L := ([] : List RG)) (M := (L0.getD (y3_0).toNat RJ.z).a7) (n := 0) (show _ = _ * 2 from rfl) ltA (R := (L0.getD (y3_0).toNat RJ.z).a7) (by rw [List.take_of_length_le ltA]; rfl))⟩) <| kK (tQ (ZfU c14) 5) <| kK (tQ (Zcg c12) 5) w12) (tC (tC (tC (tE) ⟨Eq.trans (show κg = vq from ci) (by rfl), by rfl⟩))) bE
        | r1 y14_0 =>
         refine en_ite (fun _ => en_none) (fun g15 => ?_);refine en_ite (fun g16 => ?_) (fun _ => en_none);refine en_ite (fun g17 => ?_) (fun _ => en_none);refine en_bind (fun z18 c18 => ?_);cases z18 with
         | r0 =>
          exact enH [] [some (ms RC (L0.set (y3_0).toNat (Zbj (L0.getD (y3_0).toNat RJ.z) ((L0.getD (y3_0).toNat RJ.z).a7.set a4.toNat (⟨a5, a6⟩ : RG)) : RJ))), some (ms RA y14_0), some (vq)] (kKb (A := #[ms RC L0, vi y3_0, Value.agg #[vi (L0.getD (y3_0).toNat RJ.z).a0, vi (L0.getD (y3_0).toNat RJ.z).a1, vi (L0.getD (y3_0).toNat RJ.z).a2, vi (L0.getD (y3_0).toNat RJ.z).a3, vi (L0.getD (y3_0).toNat RJ.z).a4, vi (L0.getD (y3_0).toNat RJ.z).a5, vi (L0.getD (y3_0).toNat RJ.z).a6, vs 6 0 (0 + (L0.getD (y3_0).toNat RJ.z).a7.length) (0 + (L0.getD (y3_0).toNat RJ.z).a7.length)]]) (Zel (cr (cr (Zw (ZbU (cr4 (cr (cr (cr (Zw (Zi rfl eqA eqA) rfl)))))) rfl)))) (Zed c18 [6] 7) <| kR (Za RA ((L0.getD (y3_0).toNat RJ.z).a7.set a4.toNat (⟨a5, a6⟩ : RG))) <| tW 1 (.st (Za RA ((L0.getD (y3_0).toNat RJ.z).a7.set a4.toNat (⟨a5, a6⟩ : RG)))) <| kC (Zbi (E := RA) (L := (L0.getD (y3_0).toNat RJ.z).a7) (i := a4.toNat) (q := 0) (l := [vi a5, vi a6]) (⟨a5, a6⟩ : RG) ltA (show (0 + (a4.toNat * 2)) = a4.toNat * 2 + 0 from by omega) (show 0 + 2 ≤ 2 from by decide) rfl) <| kB a4.toNat (0 + (L0.getD (y3_0).toNat RJ.z).a7.length) <| xkI a4 (a4.toNat) <| tW 0 (.ap (L0.getD (y3_0).toNat RJ.z).a7.length (Za RA (L0.getD (y3_0).toNat RJ.z).a7) (Za RA (L0.getD (y3_0).toNat RJ.z).a7)) <| kX (dP (((L0.getD (y3_0).toNat RJ.z).a7.length = (L0.getD (y3_0).toNat RJ.z).a7.length ∧ (((L0.getD (y3_0).toNat RJ.z).a7.length * 2 = 0 ∧ (Za RA (L0.getD (y3_0).toNat RJ.z).a7) = []) ∨ ∃ c, (L0.getD (y3_0).toNat RJ.z).a7.length * 2 ≠ 0 ∧ ZS (code (Z9 RA (L0.getD (y3_0).toNat RJ.z).a7)) 0 ((L0.getD (y3_0).toNat RJ.z).a7.length * 2) = some c ∧ (Za RA (L0.getD (y3_0).toNat RJ.z).a7) = Zl c)) ∧ 0 < (L0.getD (y3_0).toNat RJ.z).a7.length ∧ (L0.getD (y3_0).toNat RJ.z).a7.length ≤ 100000 ∧ 0 < 0 + (L0.getD (y3_0).toNat RJ.z).a7.length ∧ 0 ≤ 100000 ∧ 0 * 2 ≤ (List.length []) ∧ List.take (0 * 2) [] ++ (Za RA (L0.getD (y3_0).toNat RJ.z).a7) = (Za RA (L0.getD (y3_0).toNat RJ.z).a7))) true (Zn ⟨⟨rfl, (Zc4 (E := RA) (L := (L0.getD (y3_0).toNat RJ.z).a7) (n := (L0.getD (y3_0).toNat RJ.z).a7.length) (size := 2) rfl (by decide) (by omega))⟩, by omega, by omega, ltA, by omega, (Zas (E := RA) (L := ([] : List RG)) (M := (L0.getD (y3_0).toNat RJ.z).a7) (n := 0) (show _ = _ * 2 from rfl) ltA (R := (L0.getD (y3_0).toNat RJ.z).a7) (by rw [List.take_of_length_le ltA]; rfl))⟩) <| kK (tQ (ZfU c14) 5) <| kK (tQ (Zcg c12) 5) w12) (tC (tC (tC (tE) ⟨Eq.trans (show κg = vq from ci) (by rfl), by rfl⟩))) bE
       obtain rfl : y12_0 = false := by simpa using g13
       refine en_ite (fun _ => en_none) (fun g14 => ?_);refine en_ite (fun g15 => ?_) (fun _ => en_none);refine en_ite (fun g16 => ?_) (fun _ => en_none);refine en_bind (fun z17 c17 => ?_);cases z17 with
       | r0 =>
        exact Mach.enH0 [] (kKb (A := #[ms RC L0, vi y3_0, Value.agg #[vi (L0.getD (y3_0).toNat RJ.z).a0, vi (L0.getD (y3_0).toNat RJ.z).a1, vi (L0.getD (y3_0).toNat RJ.z).a2, vi (L0.getD (y3_0).toNat RJ.z).a3, vi (L0.getD (y3_0).toNat RJ.z).a4, vi (L0.getD (y3_0).toNat RJ.z).a5, vi (L0.getD (y3_0).toNat RJ.z).a6, vs 6 0 (0 + (L0.getD (y3_0).toNat RJ.z).a7.length) (0 + (L0.getD (y3_0).toNat RJ.z).a7.length)]]) (Zel (cr (cr (Zw (ZbU (cr4 (cr (cr (cr (Zw (Zi rfl eqA eqA) rfl)))))) rfl)))) (Zed c17 [6] 7) <| kR (Za RA ((L0.getD (y3_0).toNat RJ.z).a7.set a4.toNat (⟨a5, a6⟩ : RG))) <| tW 1 (.st (Za RA ((L0.getD (y3_0).toNat RJ.z).a7.set a4.toNat (⟨a5, a6⟩ : RG)))) <| kC (Zbi (E := RA) (L := (L0.getD (y3_0).toNat RJ.z).a7) (i := a4.toNat) (q := 0) (l := [vi a5, vi a6]) (⟨a5, a6⟩ : RG) ltA (show (0 + (a4.toNat * 2)) = a4.toNat * 2 + 0 from by omega) (show 0 + 2 ≤ 2 from by decide) rfl) <| kB a4.toNat (0 + (L0.getD (y3_0).toNat RJ.z).a7.length) <| xkI a4 (a4.toNat) <| tW 0 (.ap (L0.getD (y3_0).toNat RJ.z).a7.length (Za RA (L0.getD (y3_0).toNat RJ.z).a7) (Za RA (L0.getD (y3_0).toNat RJ.z).a7)) <| kX (dP (((L0.getD (y3_0).toNat RJ.z).a7.length = (L0.getD (y3_0).toNat RJ.z).a7.length ∧ (((L0.getD (y3_0).toNat RJ.z).a7.length * 2 = 0 ∧ (Za RA (L0.getD (y3_0).toNat RJ.z).a7) = []) ∨ ∃ c, (L0.getD (y3_0).toNat RJ.z).a7.length * 2 ≠ 0 ∧ ZS (code (Z9 RA (L0.getD (y3_0).toNat RJ.z).a7)) 0 ((L0.getD (y3_0).toNat RJ.z).a7.length * 2) = some c ∧ (Za RA (L0.getD (y3_0).toNat RJ.z).a7) = Zl c)) ∧ 0 < (L0.getD (y3_0).toNat RJ.z).a7.length ∧ (L0.getD (y3_0).toNat RJ.z).a7.length ≤ 100000 ∧ 0 < 0 + (L0.getD (y3_0).toNat RJ.z).a7.length ∧ 0 ≤ 100000 ∧ 0 * 2 ≤ (List.length []) ∧ List.take (0 * 2) [] ++ (Za RA (L0.getD (y3_0).toNat RJ.z).a7) = (Za RA (L0.getD (y3_0).toNat RJ.z).a7))) true (Zn ⟨⟨rfl, (Zc4 (E := RA) (L := (L0.getD (y3_0).toNat RJ.z).a7) (n := (L0.getD (y3_0).toNat RJ.z).a7.length) (size := 2) rfl (by decide) (by omega))⟩, by omega, by omega, ltA, by omega, (Zas (E := RA) (L := ([] : List RG)) (M := (L0.getD (y3_0).toNat RJ.z).a7) (n := 0) (show _ = _ * 2 from rfl) ltA (R := (L0.getD (y3_0).toNat RJ.z).a7) (by rw [List.take_of_length_le ltA]; rfl))⟩) <| kK (tQ (Zcg c12) 5) w12) bE
    obtain rfl : y6_0 = false := by simpa using g7
    exact en_none

theorem ZuO (N : Nat) (r : Zcl) (h : ZeI L0 a1 a2 a3 a4 a5 a6 N = some r) : LSpec Tryz.prog 129 #[ms RC L0, vi a1, Value.agg #[vi a2, vi a3], vi a4, Value.agg #[vi a5, vi a6]] [] (Znz r) (ZlG r) :=
 Mach.specT Zv (Zik L0 a1 a2 a3 a4 a5 a6 N) Tryz.func129 (fun x => (show (Zik L0 a1 a2 a3 a4 a5 a6 N).Ok Tryz.prog Ze x (Zj2 L0 a1 a2 a3 a4 a5 a6 N x) from by
  cases x with
  | h1m0 v0 => exact Ztx L0 a1 a2 a3 a4 a5 a6 v0 N
  | h1m1 v0 v1 v2 => exact Zty L0 a1 a2 a3 a4 a5 a6 v0 v1 v2 N
  )) (Zzu L0 a1 a2 a3 a4 a5 a6 N) h

end
theorem Z0N {L0 : List RJ} {a1 a2 a3 a4 a5 a6 : Int} {N : Nat} {r : Zcl} (h : ZeI L0 a1 a2 a3 a4 a5 a6 N = some r) : LSpec Tryz.prog 129 #[ms RC L0, vi a1, Value.agg #[vi a2, vi a3], vi a4, Value.agg #[vi a5, vi a6]] [] (Znz r) (ZlG r) := ZuO L0 a1 a2 a3 a4 a5 a6 N r h

noncomputable def ZlH : ZeR → Value
 | .r0 w0 => Value.tuple #[ms RC w0, vq]
noncomputable def ZkL : ZeR → List (Option AObj)
 | .r0 w0 => []

section
variable (L0 : List RJ) (a1 a2 a3 : Int) (b4 : Bool) (N : Nat)
theorem ZwF : Fx Tryz.prog Ze Tryz.f130 [] #[ms RC L0, vi a1, Value.agg #[vi a2, vi a3], Value.bool b4] (ZlH) (ZkL) (ZeJ L0 a1 a2 a3 b4 N) := by
 unfold ZeJ;refine Zx (fun z0 c0 => ?_);cases z0 with
 | r0 y0_0 y0_1 =>
  refine Zb (fun _ => Zd) (fun g1 => ?_);have w2 := bkE y0_1 0 <| kK (tQ (ZfB c0) 1) Zg
  refine Zb (fun _ => Zd) (fun g2 => ?_);have w3 := tB 4 <| kO ((a2 == 2) && ((a3 == 1048577) && true)) w2
  refine Zb (fun g3 => ?_) (fun g3 => ?_)
  ·
   refine Zx (fun z4 c4 => ?_);cases z4 with
   | r0 y4_0 =>
    refine Zb (fun _ => Zd) (fun g5 => ?_);refine Zx (fun z6 c6 => ?_);cases z6 with
    | r0 y6_0 =>
     exact Zq [] (kK (tQ (ZjG c6) 5) <| bkX ((!y4_0)) false nbf <| kKg 4 (tQ (Zcg c4) 5) <| bkX ((!b4)) true nbt w3) bE
  refine Zx (fun z4 c4 => ?_);cases z4 with
  | r0 y4_0 =>
   exact Zq [] (kKg 4 (tQ (ZjG c4) 5) <| bkX ((!b4)) false nbf w3) bE

theorem Ztz (r : ZeR) (h : ZeJ L0 a1 a2 a3 b4 N = some r) : LSpec Tryz.prog 130 #[ms RC L0, vi a1, Value.agg #[vi a2, vi a3], Value.bool b4] [] (ZlH r) (ZkL r) :=
 ZI Zv Tryz.func130 (by kernel_rfl) (by kernel_rfl) (fun r => by cases r <;> exact ZP _ rfl) (ZwF L0 a1 a2 a3 b4 N) h

end
theorem Zzv {L0 : List RJ} {a1 a2 a3 : Int} {b4 : Bool} {N : Nat} {r : ZeR} (h : ZeJ L0 a1 a2 a3 b4 N = some r) : LSpec Tryz.prog 130 #[ms RC L0, vi a1, Value.agg #[vi a2, vi a3], Value.bool b4] [] (ZlH r) (ZkL r) := Ztz L0 a1 a2 a3 b4 N r h

end Ev
end Go.Proofs.YthfohmhipifiaaaGreat
