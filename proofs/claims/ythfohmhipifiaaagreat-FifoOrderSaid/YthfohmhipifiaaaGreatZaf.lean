/- Part 6. -/
import Derived.Test.YthfohmhipifiaaaGreatZae
set_option linter.unusedSimpArgs false
set_option linter.unusedVariables false
set_option linter.unusedVariables false
set_option maxRecDepth 100000
/- Calls do what the plain functions say. -/
namespace Go.Proofs.YthfohmhipifiaaaGreat
open Go.RowKit
namespace Ev
open Mach (oi ok_ite ok_none ok_bind okN okH enH en_ite en_none)
noncomputable def Zph : Zea → Value
 | .r0 w0 => Value.bool w0
noncomputable def Znz : Zea → List (Option AObj)
 | .r0 w0 => []

section
variable (a0 a1 a2 a3 : Int) (N : Nat)
theorem Z0I : Fx Tryz.prog Ze Tryz.f95 [] #[Value.agg (κG a0 a1 a2 a3)] (Zph) (Znz) (ZaN a0 a1 a2 a3 N) := by
 unfold ZaN;refine Zx (fun z0 c0 => ?_);cases z0 with
 | r0 y0_0 y0_1 y0_2 =>
  have w1 := kK (tQ (Z0H c0) 1) Zg;refine Zx (fun z1 c1 => ?_);cases z1 with
  | r0 y1_0 =>
   refine Zb (fun g2 => ?_) (fun g2 => ?_)
   ·
    subst g2;have w3 := kKg 1 (tQ (Zer c1) 2) w1;refine Zx (fun z3 c3 => ?_);cases z3 with
    | r0 y3_0 =>
     refine Zb (fun g4 => ?_) (fun g4 => ?_)
     ·
      subst g4;refine Zx (fun z5 c5 => ?_);cases z5 with
      | r0 y5_0 =>
       refine Zb (fun g6 => ?_) (fun g6 => ?_)
       · subst g6;exact Zr [] (kK (tQ (Zer c5) 2) <| kK (tQ (Zer c3) 2) w3) bE
       obtain rfl : y5_0 = false := by simpa using g6
       exact Zr [] (kK (tQ (Zer c5) 2) <| kK (tQ (Zer c3) 2) w3) bE
     obtain rfl : y3_0 = false := by simpa using g4
     exact Zr [] (kK (tQ (Zer c3) 2) w3) bE
   obtain rfl : y1_0 = false := by simpa using g2
   exact Zr [] (kKg 1 (tQ (Zer c1) 2) w1) bE

theorem Zws (r : Zea) (h : ZaN a0 a1 a2 a3 N = some r) : LSpec Tryz.prog 95 #[Value.agg (κG a0 a1 a2 a3)] [] (Zph r) (Znz r) :=
 ZI Zv Tryz.func95 (by kernel_rfl) (by kernel_rfl) (fun r => by cases r <;> exact ZP _ rfl) (Z0I a0 a1 a2 a3 N) h

end
theorem ZgA {a0 a1 a2 a3 : Int} {N : Nat} {r : Zea} (h : ZaN a0 a1 a2 a3 N = some r) : LSpec Tryz.prog 95 #[Value.agg (κG a0 a1 a2 a3)] [] (Zph r) (Znz r) := Zws a0 a1 a2 a3 N r h

noncomputable def Zmv : Zal → Value
 | .r0 w0 => Value.tuple #[vs 0 0 w0.length w0.length, vT]
 | .r1 w0 w1 => Value.tuple #[ms RA w0, Value.bool w1]
noncomputable def Zlp : Zal → List (Option AObj)
 | .r0 w0 => [some (.cells (Za RA w0) 176)]
 | .r1 w0 w1 => []

noncomputable def ZnL : Zal → Value
 | .r0 w0 => Value.tuple #[ms RA w0, vT]
 | .r1 w0 w1 => Value.tuple #[ms RA w0, Value.bool w1]
noncomputable def Zmw : Zal → List (Option AObj)
 | .r0 w0 => []
 | .r1 w0 w1 => []

section
variable (L0 : List RG) (a1 a2 a3 a4 a5 : Int) (N : Nat)
theorem Zto : Fx Tryz.prog Ze Tryz.f94 [] #[ms RA L0, Value.agg #[vi a1, vi a2, vi a3, vi a4], vi a5] (Zmv) (Zlp) (Zb5 L0 a1 a2 a3 a4 a5 N) := by
 unfold Zb5;refine Zb (fun g0 => ?_) (fun g0 => ?_)
 ·
  refine Zb (fun _ => Zd) (fun g1 => ?_);have w2 := bkN ((L0.length : Int) ≥ 8) <| bhT g0 Zg
  refine Zb (fun g2 => ?_) (fun g2 => ?_)
  · exact fxC [3] (Value.tuple #[vs 3 0 1 1, vT]) (tW 0 (.ap0) <| kX (dP (0 = L0.length ∧ ((L0.length * 2 = 0 ∧ ([] : List Value) = []) ∨ ∃ c, L0.length * 2 ≠ 0 ∧ ZS (code (Z9 RA L0)) 0 (L0.length * 2) = some c ∧ ([] : List Value) = Zm c))) true (Zn ⟨by omega, .inl ⟨by omega, rfl⟩⟩) w2) (bC (o := .cells [vi a5, vq] 176) (Zz (E := RA) _ (L := ([(⟨a5, 0⟩ : RG)] : List RG)) _ (show ([vi a5, vq] : List Value) = Za RA ([(⟨a5, 0⟩ : RG)] : List RG) from rfl)) <| bE) (hv := ⟨Eq.trans (show (Value.tuple #[vs 0 0 ([(⟨a5, 0⟩ : RG)] : List RG).length ([(⟨a5, 0⟩ : RG)] : List RG).length, vT] : Value) = Value.tuple #[vs 0 0 1 1, vT] from (Zaw (Zw (Zi rfl eqA eqA) (cr rfl)))) (by rfl), by rfl⟩)
  exact fxC [4] (Value.tuple #[vs 4 0 ((0 + L0.length) + 1) ((0 + L0.length) + 1), vT]) (ZoZ RA L0 (0 + L0.length) (⟨a5, 0⟩ : RG) <| tW 0 (.ap L0.length (Za RA L0) (Za RA L0)) <| kX (dP ((L0.length = L0.length ∧ ((L0.length * 2 = 0 ∧ (Za RA L0) = []) ∨ ∃ c, L0.length * 2 ≠ 0 ∧ ZS (code (Z9 RA L0)) 0 (L0.length * 2) = some c ∧ (Za RA L0) = Zm c)) ∧ 0 < L0.length ∧ L0.length ≤ 100000 ∧ 0 < 0 + L0.length ∧ 0 ≤ 100000 ∧ 0 * 2 ≤ (List.length []) ∧ List.take (0 * 2) [] ++ (Za RA L0) = (Za RA L0))) true (Zn ⟨⟨rfl, (Zc5 (E := RA) (L := L0) (n := L0.length) (size := 2) rfl (by decide) (by omega))⟩, by omega, by omega, ltA, by omega, (Zar (E := RA) (L := ([] : List RG)) (M := L0) (n := 0) (show _ = _ * 2 from rfl) ltA (R := L0) (by rw [List.take_of_length_le ltA]; rfl))⟩) w2) (bR <| bE) (hv := ⟨Eq.trans (show (Value.tuple #[vs 0 0 (L0 ++ ([(⟨a5, 0⟩ : RG)] : List RG)).length (L0 ++ ([(⟨a5, 0⟩ : RG)] : List RG)).length, vT] : Value) = Value.tuple #[vs 0 0 ((0 + L0.length) + 1) ((0 + L0.length) + 1), vT] from (Zaw (Zw (Zi rfl eqA eqA) (cr rfl)))) (by rfl), by rfl⟩)
 refine Zb (fun _ => Zd) (fun g1 => ?_);have w2 := bhF g1 <| bhF g0 Zg
 refine Zb (fun g2 => ?_) (fun g2 => ?_)
 · refine Zb (fun _ => Zd) (fun g3 => ?_);refine Zb (fun g4 => ?_) (fun _ => Zd);exact Zr [] (kC (Znt (E := RA) (L := L0) (R := (L0.take (L0.length - 1))) (l := 0) (h := (L0.length - 1)) (size := 2) ltA ltA (by decide) (by simp)) <| kI (((L0.length - 1) : Nat) : Int) (Int.ofNat (L0.length - 1)) <| tW 0 (.ms 0 (L0.length - 1) (L0.take (L0.length - 1)).length (Z9 RA (L0.take (L0.length - 1)))) <| kR 0 <| vkW ((L0.length : Int) - 1) (((L0.length - 1) : Nat) : Int) <| bhF g3 <| bhT g2 w2) bE
 refine Zb (fun g3 => ?_) (fun g3 => ?_)
 ·
  refine Zb (fun g4 => ?_) (fun g4 => ?_)
  · exact Zr [] (bkY ((L0.length : Int) > 0) <| bhT g3 <| bhF g2 w2) bE
  exact Zr [] (bkN ((L0.length : Int) > 0) <| bhT g3 <| bhF g2 w2) bE
 refine Zb (fun g4 => ?_) (fun g4 => ?_)
 ·
  refine Zb (fun g5 => ?_) (fun g5 => ?_)
  · exact Zr [] (bhT g5 <| bhT g4 <| bhF g3 <| bhF g2 w2) bE
  exact Zr [] (bhF g5 <| bhT g4 <| bhF g3 <| bhF g2 w2) bE
 exact Zr [] (bhF g4 <| bhF g3 <| bhF g2 w2) bE

theorem Zpi (r : Zal) (h : Zb5 L0 a1 a2 a3 a4 a5 N = some r) : LSpec Tryz.prog 94 #[ms RA L0, Value.agg #[vi a1, vi a2, vi a3, vi a4], vi a5] [] (Zmv r) (Zlp r) :=
 ZI Zv Tryz.func94 (by kernel_rfl) (by kernel_rfl) (fun r => by cases r <;> exact ZP _ rfl) (Zto L0 a1 a2 a3 a4 a5 N) h

theorem Zqw (r : Zal) (h : Zb5 L0 a1 a2 a3 a4 a5 N = some r) : LSpec Tryz.prog 94 #[ms RA L0, Value.agg #[vi a1, vi a2, vi a3, vi a4], vi a5] [] (ZnL r) (Zmw r) := by
 have h0 := Zpi L0 a1 a2 a3 a4 a5 N r h;cases r with
 | r0 w0 => exact (LSpec.frzv (E := RA) (L := w0) (post := []) (v2 := Value.tuple #[ms RA w0, vT]) h0 (show 0 ≤ 0 from by decide) (show 0 < 1000000000 from by decide) trivial rfl rfl rfl)
 | r1 _ _ => exact h0

end
theorem ZgB {L0 : List RG} {a1 a2 a3 a4 a5 : Int} {N : Nat} {r : Zal} (h : Zb5 L0 a1 a2 a3 a4 a5 N = some r) : LSpec Tryz.prog 94 #[ms RA L0, Value.agg #[vi a1, vi a2, vi a3, vi a4], vi a5] [] (ZnL r) (Zmw r) := Zqw L0 a1 a2 a3 a4 a5 N r h

noncomputable def ZkD : ZaH → Value
 | .r0 => vn
 | .r1 w0 => ms RA w0
noncomputable def Zj9 : ZaH → List (Option AObj)
 | .r0 => []
 | .r1 w0 => []

def Zwt : Zat → Nat
 | .h1m0 v2 => 1
 | .h1m1 .. => 1
section
variable (L0 : List RI) (a1 : Int)
noncomputable def ZyM : Zat → List (Nat × Value)
 | .h1m0 v2 => [(0, ms RB L0), (1, vi a1), (5, vn), (6, vi (v2 : Int))]
 | .h1m1 v2 v3 => [(0, ms RB L0), (1, vi a1), (5, ms RA v2), (6, vi (v3 : Int))]
noncomputable def ZyN (L0 : List RI) (a1 : Int) : Zat → List (Option AObj)
 | .h1m0 v2 => []
 | .h1m1 .. => []

noncomputable def ZyO : Nat → Code × List ZL
 | 1 => Z5 [1, 1, 0, 1, 3] (ZM Tryz.f123) []
 | _ => (.skip, [])

noncomputable def Zgt (N : Nat) : Mach := ⟨Tryz.f123, [], Zat, ZaH, ZeA L0 a1 N, Zwt, ZyO, ilT, ZyM L0 a1, ZyN L0 a1, ZkD, Zj9⟩

theorem Zqx (v2 N : Nat) : (Zgt L0 a1 N).Ok Tryz.prog Ze (.h1m0 v2 : Zat) (Zdf L0 a1 N v2) := by
 unfold Zdf;refine ok_ite (fun g0 => ?_) fun g0 => ?_
 ·
  refine ok_ite (fun g1 => ?_) fun g1 => ?_
  ·
   have w2 := lkG RB L0 (0 + (v2 * 4)) v2 0 4 4 <| kB v2 L0.length <| xkI (v2 : Int) v2 <| bhY g1 <| bhY g0 Zg
   refine ok_bind fun z2 c2 => ?_;cases z2 with
   | r0 =>
    refine oi fun g3 => ?_;exact Mach.okN0 [] (vkW ((v2 : Int) + 1) (((v2 + 1) : Nat) : Int) <| kK (tQ (Zik c2) 0) w2) bE
   | r1 y2_0 =>
    refine oi fun g3 => ?_;exact Mach.okN0 [] (vkW ((v2 : Int) + 1) (((v2 + 1) : Nat) : Int) <| kK (tQ (Zik c2) 0) w2) bE
  exact Mach.okF0 [] (bhN g1 <| bhY g0 Zg) bE
 exact Mach.okF0 [] (bhN g0 Zg) bE

theorem Zqy (v2 : List RG) (v3 N : Nat) : (Zgt L0 a1 N).Ok Tryz.prog Ze (.h1m1 v2 v3 : Zat) (Zdg L0 a1 N v2 v3) := by
 unfold Zdg;refine ok_ite (fun g0 => ?_) fun g0 => ?_
 ·
  refine ok_ite (fun g1 => ?_) fun g1 => ?_
  ·
   have w2 := lkG RB L0 (0 + (v3 * 4)) v3 0 4 4 <| kB v3 L0.length <| xkI (v3 : Int) v3 <| bhY g1 <| bhY g0 Zg
   refine ok_bind fun z2 c2 => ?_;cases z2 with
   | r0 y2_0 =>
    refine oi fun g3 => ?_;exact Mach.okN0 [] (vkW ((v3 : Int) + 1) (((v3 + 1) : Nat) : Int) <| kK (tQ (ZgB c2) 0) w2) bE
   | r1 y2_0 y2_1 =>
    refine oi fun g3 => ?_;exact Mach.okN0 [] (vkW ((v3 : Int) + 1) (((v3 + 1) : Nat) : Int) <| kK (tQ (ZgB c2) 0) w2) bE
  exact Mach.okF0 [] (bhN g1 <| bhY g0 Zg) bE
 exact Mach.okF0 [] (bhN g0 Zg) bE

noncomputable abbrev κg := (vi ((0 : Nat) : Int) : Value)
theorem Zu4 (N : Nat) : (Zgt L0 a1 N).Enter Tryz.prog Ze #[ms RB L0, vi a1] (Zjz L0 a1 N) := by unfold Zjz;exact enH [] [some (ms RB L0), some (vi a1), some (vn), some (vq)] Zg (tC (tC (tC (tC (tE) ⟨Eq.trans (show κg = vq from ci) (by rfl), by rfl⟩)))) bE

theorem ZrL (N : Nat) (r : ZaH) (h : ZfH L0 a1 N = some r) : LSpec Tryz.prog 123 #[ms RB L0, vi a1] [] (ZkD r) (Zj9 r) :=
 Mach.specT Zv (Zgt L0 a1 N) Tryz.func123 (fun x => (show (Zgt L0 a1 N).Ok Tryz.prog Ze x (ZeA L0 a1 N x) from by
  cases x with
  | h1m0 v2 => exact Zqx L0 a1 v2 N
  | h1m1 v2 v3 => exact Zqy L0 a1 v2 v3 N
  )) (Zu4 L0 a1 N) h

theorem Zwu {L0 : List RI} {a1 : Int} {N : Nat} {r : ZaH} (h : ZfH L0 a1 N = some r) : LSpec Tryz.prog 123 #[ms RB L0, vi a1] [] (ZkD r) (Zj9 r) := ZrL L0 a1 N r h

noncomputable def ZjA : Zeu → Value
 | .r0 w0 w1 => Value.agg #[vi w0, vi w1]
noncomputable def ZiM : Zeu → List (Option AObj)
 | .r0 w0 w1 => []

theorem Ztp (N : Nat) : Fx Tryz.prog Ze Tryz.f97 [] #[ms RB L0, vi a1] (ZjA) (ZiM) (Zbl L0 a1 N) := by
 unfold Zbl;refine Zx (fun z0 c0 => ?_);cases z0 with
 | r0 =>
  exact Zd
 | r1 y0_0 =>
  refine Zb (fun _ => Zd) (fun g1 => ?_);refine Zb (fun g2 => ?_) (fun _ => Zd);exact Zr [] (lkG RA y0_0 (0 + ((y0_0.length - 1) * 2)) (y0_0.length - 1) 0 2 2 <| kB (y0_0.length - 1) y0_0.length <| xkI (((y0_0.length - 1) : Nat) : Int) (y0_0.length - 1) <| vkW ((y0_0.length : Int) - 1) (((y0_0.length - 1) : Nat) : Int) <| bhF g1 <| kK (tQ (Zwu c0) 1) Zg) bE

theorem Zqz (N : Nat) (r : Zeu) (h : Zbl L0 a1 N = some r) : LSpec Tryz.prog 97 #[ms RB L0, vi a1] [] (ZjA r) (ZiM r) :=
 ZI Zv Tryz.func97 (by kernel_rfl) (by kernel_rfl) (fun r => by cases r <;> exact ZP _ rfl) (Ztp L0 a1 N) h

end
theorem Zfi {L0 : List RI} {a1 : Int} {N : Nat} {r : Zeu} (h : Zbl L0 a1 N = some r) : LSpec Tryz.prog 97 #[ms RB L0, vi a1] [] (ZjA r) (ZiM r) := Zqz L0 a1 N r h

noncomputable def ZkE : Zbm → Value
 | .r0 => vi (-1 : Int)
noncomputable def ZjB : Zbm → List (Option AObj)
 | .r0 => []

def Zwv : ZG → Nat
 | .h1m0 v1 => 1
 | .h1m1 .. => 1
 | .h2m0 v1 => 2
section
variable (L0 : List RI)
noncomputable def ZyP : ZG → List (Nat × Value)
 | .h1m0 v1 => [(0, ms RB L0), (3, vn), (4, vi (v1 : Int))]
 | .h1m1 v1 v2 => [(0, ms RB L0), (3, ms RA v1), (4, vi (v2 : Int))]
 | .h2m0 v1 => [(0, ms RB L0), (7, vi (v1 : Int))]
noncomputable def ZyQ (L0 : List RI) : ZG → List (Option AObj)
 | .h1m0 v1 => []
 | .h1m1 .. => []
 | .h2m0 v1 => []

noncomputable def ZyR : Nat → Code × List ZL
 | 1 => Z5 [1, 1, 1, 0, 1, 3] (ZM Tryz.f72) []
 | 2 => Z5 [1, 1, 1, 1, 1, 0, 1, 3] (ZM Tryz.f72) []
 | _ => (.skip, [])

noncomputable def Zfj (N : Nat) : Mach := ⟨Tryz.f72, [], ZG, Zbm, ZeB L0 N, Zwv, ZyR, ilT, ZyP L0, ZyQ L0, ZkE, ZjB⟩

theorem Zq0 (v1 N : Nat) : (Zfj L0 N).Ok Tryz.prog Ze (.h1m0 v1 : ZG) (Zdh L0 N v1) := by
 unfold Zdh;refine ok_ite (fun g0 => ?_) fun g0 => ?_
 ·
  have w1 := lkG RB L0 (0 + (v1 * 4)) v1 0 4 4 <| kB v1 L0.length <| xkI (v1 : Int) v1 <| bhY g0 Zg
  refine ok_bind fun z1 c1 => ?_;cases z1 with
  | r0 =>
   refine ok_bind fun z2 c2 => ?_;cases z2 with
   | r0 y2_0 =>
    refine ok_ite (fun _ => ok_none) (fun g3 => ?_);refine oi fun g4 => ?_;exact Mach.okN0 [] (vkW ((v1 : Int) + 1) (((v1 + 1) : Nat) : Int) <| bkX ((!y2_0)) false nbf <| kK (tQ (ZgA c2) 0) <| lkG RB L0 (0 + (v1 * 4)) v1 0 4 4 <| kB v1 L0.length <| xkI (v1 : Int) v1 <| kK (tQ (Zik c1) 0) w1) bE
  | r1 y1_0 =>
   refine ok_bind fun z2 c2 => ?_;cases z2 with
   | r0 y2_0 =>
    refine ok_ite (fun _ => ok_none) (fun g3 => ?_);refine ok_ite (fun _ => ok_none) (fun g4 => ?_);refine oi fun g5 => ?_;exact Mach.okN0 [] (vkW ((v1 : Int) + 1) (((v1 + 1) : Nat) : Int) <| bkX ((!y1_0)) false nbf <| bkX ((!y2_0)) false nbf <| kK (tQ (ZgA c2) 0) <| lkG RB L0 (0 + (v1 * 4)) v1 0 4 4 <| kB v1 L0.length <| xkI (v1 : Int) v1 <| kK (tQ (Zik c1) 0) w1) bE
 exact okH [] [some (ms RB L0), some (vq)] (bhN g0 Zg) (tC (tC (tE) ⟨Eq.trans (show κg = vq from ci) (by rfl), by rfl⟩)) bE

theorem Zq1 (v1 : List RG) (v2 N : Nat) : (Zfj L0 N).Ok Tryz.prog Ze (.h1m1 v1 v2 : ZG) (Zdi L0 N v1 v2) := by
 unfold Zdi;refine ok_ite (fun g0 => ?_) fun g0 => ?_
 ·
  have w1 := lkG RB L0 (0 + (v2 * 4)) v2 0 4 4 <| kB v2 L0.length <| xkI (v2 : Int) v2 <| bhY g0 Zg
  refine ok_bind fun z1 c1 => ?_;cases z1 with
  | r0 y1_0 =>
   refine ok_bind fun z2 c2 => ?_;cases z2 with
   | r0 y2_0 =>
    refine ok_ite (fun _ => ok_none) (fun g3 => ?_);refine oi fun g4 => ?_;exact Mach.okN0 [] (vkW ((v2 : Int) + 1) (((v2 + 1) : Nat) : Int) <| bkX ((!y2_0)) false nbf <| kK (tQ (ZgA c2) 0) <| lkG RB L0 (0 + (v2 * 4)) v2 0 4 4 <| kB v2 L0.length <| xkI (v2 : Int) v2 <| kK (tQ (ZgB c1) 0) w1) bE
  | r1 y1_0 y1_1 =>
   refine ok_bind fun z2 c2 => ?_;cases z2 with
   | r0 y2_0 =>
    refine ok_ite (fun _ => ok_none) (fun g3 => ?_);refine ok_ite (fun _ => ok_none) (fun g4 => ?_);refine oi fun g5 => ?_;exact Mach.okN0 [] (vkW ((v2 : Int) + 1) (((v2 + 1) : Nat) : Int) <| bkX ((!y1_1)) false nbf <| bkX ((!y2_0)) false nbf <| kK (tQ (ZgA c2) 0) <| lkG RB L0 (0 + (v2 * 4)) v2 0 4 4 <| kB v2 L0.length <| xkI (v2 : Int) v2 <| kK (tQ (ZgB c1) 0) w1) bE
 refine ok_ite (fun _ => ok_none) (fun g1 => ?_);exact okH [] [some (ms RB L0), some (vq)] (bkN ((v1.length : Int) > 0) <| bhN g0 Zg) (tC (tC (tE) ⟨Eq.trans (show κg = vq from ci) (by rfl), by rfl⟩)) bE

theorem Zq2 (v1 N : Nat) : (Zfj L0 N).Ok Tryz.prog Ze (.h2m0 v1 : ZG) (Zdj L0 N v1) := by
 unfold Zdj;refine ok_ite (fun g0 => ?_) fun g0 => ?_
 ·
  have w1 := lkG RB L0 (0 + (v1 * 4)) v1 0 4 4 <| kB v1 L0.length <| xkI (v1 : Int) v1 <| bhY g0 Zg
  refine ok_ite (fun g1 => ?_) fun g1 => ?_
  ·
   refine ok_ite (fun _ => ok_none) (fun g2 => ?_);refine ok_bind fun z3 c3 => ?_;cases z3 with
   | r0 y3_0 y3_1 =>
    refine ok_bind fun z4 c4 => ?_;cases z4 with
    | r0 y4_0 y4_1 =>
     refine ok_ite (fun _ => ok_none) (fun g5 => ?_);refine oi fun g6 => ?_;exact Mach.okN0 [] (vkW ((v1 : Int) + 1) (((v1 + 1) : Nat) : Int) <| bkX ((!((y3_0 == y4_0) && ((y3_1 == y4_1) && true)))) false (by rw [Bool.not_eq_false']; first | (simp only [beq_self_eq_true, Bool.and_self]; done) | (simp only [Bool.and_true, Bool.and_eq_true, beq_iff_eq] <;> first | omega | (simp_all; done) | grind)) <| kK (tQ (Zfi c4) 1) <| kK (tQ (Zfi c3) 1) <| bkN ((L0.getD v1 RI.z).a1 > (L0.length : Int)) <| bhT g1 w1) bE
  refine ok_ite (fun g2 => ?_) fun g2 => ?_
  ·
   refine ok_ite (fun _ => ok_none) (fun g3 => ?_);refine ok_bind fun z4 c4 => ?_;cases z4 with
   | r0 y4_0 y4_1 =>
    refine ok_bind fun z5 c5 => ?_;cases z5 with
    | r0 y5_0 y5_1 =>
     refine ok_ite (fun _ => ok_none) (fun g6 => ?_);refine oi fun g7 => ?_;exact Mach.okN0 [] (vkW ((v1 : Int) + 1) (((v1 + 1) : Nat) : Int) <| bkX ((!((y4_0 == y5_0) && ((y4_1 == y5_1) && true)))) false (by rw [Bool.not_eq_false']; first | (simp only [beq_self_eq_true, Bool.and_self]; done) | (simp only [Bool.and_true, Bool.and_eq_true, beq_iff_eq] <;> first | omega | (simp_all; done) | grind)) <| kK (tQ (Zfi c5) 1) <| kK (tQ (Zfi c4) 1) <| bkN ((L0.getD v1 RI.z).a2 > (L0.length : Int)) <| bhT g2 <| bhF g1 w1) bE
  refine oi fun g3 => ?_;exact Mach.okN0 [] (vkW ((v1 : Int) + 1) (((v1 + 1) : Nat) : Int) <| bhF g2 <| bhF g1 w1) bE
 exact Mach.okF0 [] (bhN g0 Zg) bE

theorem Zu5 (N : Nat) : (Zfj L0 N).Enter Tryz.prog Ze #[ms RB L0] (Zhd L0 N) := by unfold Zhd;refine en_ite (fun _ => en_none) (fun g0 => ?_);refine en_ite (fun _ => en_none) (fun g1 => ?_);exact enH [] [some (ms RB L0), some (vn), some (vq)] (bkN ((L0.length : Int) > 512) <| bhN g0 Zg) (tC (tC (tC (tE) ⟨Eq.trans (show κg = vq from ci) (by rfl), by rfl⟩))) bE

theorem ZrM (N : Nat) (r : Zbm) (h : ZfI L0 N = some r) : LSpec Tryz.prog 72 #[ms RB L0] [] (ZkE r) (ZjB r) :=
 Mach.specT Zv (Zfj L0 N) Tryz.func72 (fun x => (show (Zfj L0 N).Ok Tryz.prog Ze x (ZeB L0 N x) from by
  cases x with
  | h1m0 v1 => exact Zq0 L0 v1 N
  | h1m1 v1 v2 => exact Zq1 L0 v1 v2 N
  | h2m0 v1 => exact Zq2 L0 v1 N
  )) (Zu5 L0 N) h

theorem Zww {L0 : List RI} {N : Nat} {r : Zbm} (h : ZfI L0 N = some r) : LSpec Tryz.prog 72 #[ms RB L0] [] (ZkE r) (ZjB r) := ZrM L0 N r h

noncomputable def ZkF : ZeX → Value
 | .r0 => vq
noncomputable def ZjC : ZeX → List (Option AObj)
 | .r0 => []

theorem Zu6 (N : Nat) : Fx Tryz.prog Ze Tryz.f41 [] #[ms RB L0] (ZkF) (ZjC) (ZaO L0 N) := by
 unfold ZaO;refine Zx (fun z0 c0 => ?_);cases z0 with
 | r0 =>
  exact Zr [] (kK (tQ (Zww c0) 0) Zg) bE

theorem ZrN (N : Nat) (r : ZeX) (h : ZaO L0 N = some r) : LSpec Tryz.prog 41 #[ms RB L0] [] (ZkF r) (ZjC r) :=
 ZI Zv Tryz.func41 (by kernel_rfl) (by kernel_rfl) (fun r => by cases r <;> exact ZP _ rfl) (Zu6 L0 N) h

end
theorem ZjD {L0 : List RI} {N : Nat} {r : ZeX} (h : ZaO L0 N = some r) : LSpec Tryz.prog 41 #[ms RB L0] [] (ZkF r) (ZjC r) := ZrN L0 N r h

noncomputable def ZnM : Za4 → Value
 | .r0 => vn
 | .r1 w0 => vs 0 0 w0.length w0.length
noncomputable def Zmx : Za4 → List (Option AObj)
 | .r0 => []
 | .r1 w0 => [some (.cells (Za RA w0) 44)]

noncomputable def Zpj : Za4 → Value
 | .r0 => vn
 | .r1 w0 => ms RA w0
noncomputable def ZnN : Za4 → List (Option AObj)
 | .r0 => []
 | .r1 w0 => []

def Zwx : Zau → Nat
 | .h1m0 => 1
 | .h1m1 .. => 1
noncomputable def ZyS (a0 a1 : Int) : Zau → List (Nat × Value)
 | .h1m0 => [(0, vi a0), (1, vi a1), (5, vn), (6, vq)]
 | .h1m1 v1 v2 v3 => [(0, vi a0), (1, vi v1), (5, vs 0 0 v2.length v2.length), (6, vi (v3 : Int))]
noncomputable def ZyT (a0 a1 : Int) : Zau → List (Option AObj)
 | .h1m0 => []
 | .h1m1 v1 v2 v3 => [some (.cells (Za RA v2) 44)]

noncomputable def ZyU : Nat → Code × List ZL
 | 1 => Z5 [1, 1, 0, 1, 3] (ZM Tryz.f98) []
 | _ => (.skip, [])

section
variable (a0 a1 : Int) (N : Nat)
noncomputable def Zgu : Mach := ⟨Tryz.f98, [], Zau, Za4, ZhO a0 a1 N, Zwx, ZyU, ilT, ZyS a0 a1, ZyT a0 a1, ZnM, Zmx⟩

theorem Zq3 : (Zgu a0 a1 N).Ok Tryz.prog Ze (.h1m0 : Zau) (Zht a0 a1 N) := by
 unfold Zht;refine oi fun g0 => ?_;refine oi fun g1 => ?_;refine ok_ite (fun g2 => ?_) fun g2 => ?_
 ·
  refine ok_ite (fun g3 => ?_) fun g3 => ?_
  · refine oi fun g4 => ?_;exact okN [2] [some (vi a0), some (vi (a1 / 2)), some (vs 2 0 1 1), some (vi 1)] (vkV a1 2 <| bhT g3 <| vkM a1 2 <| bhY g2 Zg) (tC (tC (tC (tC (tE) ⟨Eq.trans (show κK = vi 1 from ci) (by rfl), by rfl⟩) ⟨Eq.trans (show (vs 0 0 ([(⟨2, 0⟩ : RG)] : List RG).length ([(⟨2, 0⟩ : RG)] : List RG).length : Value) = vs 0 0 1 1 from (Zi rfl eqA eqA)) (by rfl), by rfl⟩))) (bC (o := .cells [vi 2, vq] 44) (Zz (E := RA) _ (L := ([(⟨2, 0⟩ : RG)] : List RG)) _ (show ([vi 2, vq] : List Value) = Za RA ([(⟨2, 0⟩ : RG)] : List RG) from rfl)) <| bE)
  refine oi fun g4 => ?_;exact okN [2] [some (vi a0), some (vi (a1 / 2)), some (vs 2 0 1 1), some (vi 1)] (vkV a1 2 <| bhF g3 <| vkM a1 2 <| bhY g2 Zg) (tC (tC (tC (tC (tE) ⟨Eq.trans (show κK = vi 1 from ci) (by rfl), by rfl⟩) ⟨Eq.trans (show (vs 0 0 ([(⟨1, 0⟩ : RG)] : List RG).length ([(⟨1, 0⟩ : RG)] : List RG).length : Value) = vs 0 0 1 1 from (Zi rfl eqA eqA)) (by rfl), by rfl⟩))) (bC (o := .cells [vi 1, vq] 44) (Zz (E := RA) _ (L := ([(⟨1, 0⟩ : RG)] : List RG)) _ (show ([vi 1, vq] : List Value) = Za RA ([(⟨1, 0⟩ : RG)] : List RG) from rfl)) <| bE)
 exact Mach.okF0 [] (bhN g2 Zg) bE

theorem Zq4 (a0 a1 v1 : Int) (v2 : List RG) (v3 N : Nat) : (Zgu a0 a1 N).Ok Tryz.prog Ze (.h1m1 v1 v2 v3 : Zau) (Zhu a0 a1 N v1 v2 v3) := by
 unfold Zhu;refine oi fun g0 => ?_;refine oi fun g1 => ?_;refine ok_ite (fun g2 => ?_) fun g2 => ?_
 ·
  refine ok_ite (fun g3 => ?_) fun g3 => ?_
  · refine oi fun g4 => ?_;refine oi fun g5 => ?_;refine oi fun g6 => ?_;exact okN [3] [some (vi a0), some (vi (v1 / 2)), some (vs 3 0 (v2.length + 1) (v2.length + 1)), some (vi (((v3 + 1) : Nat) : Int))] (vkW ((v3 : Int) + 1) (((v3 + 1) : Nat) : Int) <| vkV v1 2 <| tW 2 (.ap 1 [vi 2, vq] (Za RA (v2 ++ ([(⟨2, 0⟩ : RG)] : List RG)))) <| kA RA v2 (⟨2, 0⟩ : RG) <| bhT g3 <| vkM v1 2 <| bhY g2 Zg) (tC (tC (tC (tC (tE)) ⟨Eq.trans (show (vs 0 0 (v2 ++ ([(⟨2, 0⟩ : RG)] : List RG)).length (v2 ++ ([(⟨2, 0⟩ : RG)] : List RG)).length : Value) = vs 0 0 (v2.length + 1) (v2.length + 1) from (Zi rfl eqA eqA)) (by rfl), by rfl⟩))) (bR <| bE)
  refine oi fun g4 => ?_;refine oi fun g5 => ?_;refine oi fun g6 => ?_;exact okN [3] [some (vi a0), some (vi (v1 / 2)), some (vs 3 0 (v2.length + 1) (v2.length + 1)), some (vi (((v3 + 1) : Nat) : Int))] (vkW ((v3 : Int) + 1) (((v3 + 1) : Nat) : Int) <| vkV v1 2 <| tW 2 (.ap 1 [vi 1, vq] (Za RA (v2 ++ ([(⟨1, 0⟩ : RG)] : List RG)))) <| kA RA v2 (⟨1, 0⟩ : RG) <| bhF g3 <| vkM v1 2 <| bhY g2 Zg) (tC (tC (tC (tC (tE)) ⟨Eq.trans (show (vs 0 0 (v2 ++ ([(⟨1, 0⟩ : RG)] : List RG)).length (v2 ++ ([(⟨1, 0⟩ : RG)] : List RG)).length : Value) = vs 0 0 (v2.length + 1) (v2.length + 1) from (Zi rfl eqA eqA)) (by rfl), by rfl⟩))) (bR <| bE)
 exact Mach.okF0 [0] (bhN g2 Zg) (bR <| bE)

theorem Zu7 : (Zgu a0 a1 N).Enter Tryz.prog Ze #[vi a0, vi a1] (Zj0 a0 a1 N) := by unfold Zj0;exact Mach.enH0 [] Zg bE

theorem Zq5 (r : Za4) (h : ZiW a0 a1 N = some r) : LSpec Tryz.prog 98 #[vi a0, vi a1] [] (ZnM r) (Zmx r) :=
 Mach.specT Zv (Zgu a0 a1 N) Tryz.func98 (fun x => (show (Zgu a0 a1 N).Ok Tryz.prog Ze x (ZhO a0 a1 N x) from by
  cases x with
  | h1m0 => exact Zq3 a0 a1 N
  | h1m1 v1 v2 v3 => exact Zq4 a0 a1 v1 v2 v3 N
  )) (Zu7 a0 a1 N) h

theorem ZrO (r : Za4) (h : ZiW a0 a1 N = some r) : LSpec Tryz.prog 98 #[vi a0, vi a1] [] (Zpj r) (ZnN r) := by
 have h0 := Zq5 a0 a1 N r h;cases r with
 | r0 => exact h0
 | r1 w0 => exact (LSpec.frzv (E := RA) (L := w0) (post := []) (v2 := ms RA w0) h0 (show 0 ≤ 0 from by decide) (show 0 < 1000000000 from by decide) trivial rfl rfl rfl)

end
theorem Zwy {a0 a1 : Int} {N : Nat} {r : Za4} (h : ZiW a0 a1 N = some r) : LSpec Tryz.prog 98 #[vi a0, vi a1] [] (Zpj r) (ZnN r) := ZrO a0 a1 N r h

section
variable (a0 a1 a2 a3 a4 a5 : Int)
noncomputable def ZjE : Zev → Value
 | .r0 w7 => Value.agg #[vi 2, vi ((a0 * 1048576) + a1), vi a0, vi a2, vi a3, vi a4, vi a5, ms RA w7]
noncomputable def ZiN : Zev → List (Option AObj)
 | .r0 w7 => []

theorem Ztq (N : Nat) : Fx Tryz.prog Ze Tryz.f73 [] #[vi a0, vi a1, vi a2, vi a3, vi a4, vi a5] (ZjE a0 a1 a2 a3 a4 a5) (ZiN) (Zgk a0 a1 a2 a3 a4 a5 N) := by
 unfold Zgk;refine Zb (fun _ => Zd) (fun g0 => ?_);refine Zb (fun _ => Zd) (fun g1 => ?_);refine Zb (fun _ => Zd) (fun g2 => ?_);refine Zb (fun _ => Zd) (fun g3 => ?_);refine Zx (fun z4 c4 => ?_);cases z4 with
 | r0 =>
  exact Zd
 | r1 y4_0 =>
  exact Zr [] (kKg 4 (tQ (Zwy c4) 4) <| vkW ((a0 * 1048576) + a1) ((a0 * 1048576) + a1) <| vkW (a0 * 1048576) (a0 * 1048576) <| bkN (a1 ≥ 1048576) <| bhN g2 <| bkN (a0 > 1073741824) <| bhN g0 Zg) bE

theorem Zq6 (N : Nat) (r : Zev) (h : Zgk a0 a1 a2 a3 a4 a5 N = some r) : LSpec Tryz.prog 73 #[vi a0, vi a1, vi a2, vi a3, vi a4, vi a5] [] (ZjE a0 a1 a2 a3 a4 a5 r) (ZiN r) :=
 ZI Zv Tryz.func73 (by kernel_rfl) (by kernel_rfl) (fun r => by cases r <;> exact ZP _ rfl) (Ztq a0 a1 a2 a3 a4 a5 N) h

end
theorem Zu8 {a0 a1 a2 a3 a4 a5 : Int} {N : Nat} {r : Zev} (h : Zgk a0 a1 a2 a3 a4 a5 N = some r) : LSpec Tryz.prog 73 #[vi a0, vi a1, vi a2, vi a3, vi a4, vi a5] [] (ZjE a0 a1 a2 a3 a4 a5 r) (ZiN r) := Zq6 a0 a1 a2 a3 a4 a5 N r h

section
variable (a0 : Int)
noncomputable def Zro : ZdU → Value
 | .r0 w1 => Value.tuple #[Value.agg #[vi a0, vs 0 0 w1.length w1.length, vn], vq]
noncomputable def Zpk : ZdU → List (Option AObj)
 | .r0 w1 => [some (.cells (Za ZaR w1) 149)]

noncomputable def Ztr : ZdU → Value
 | .r0 w1 => Value.tuple #[Value.agg #[vi a0, ms ZaR w1, vn], vq]
noncomputable def Zrp : ZdU → List (Option AObj)
 | .r0 w1 => []

theorem ZyV (N : Nat) : Fx Tryz.prog Ze Tryz.f43 [] #[vi a0] (Zro a0) (Zpk) (Zgl a0 N) := by
 unfold Zgl;refine Zb (fun _ => Zd) (fun g0 => ?_);refine Zb (fun _ => Zd) (fun g1 => ?_);refine Zx (fun z2 c2 => ?_);cases z2 with
 | r0 y2_0 =>
  exact fxC [1] (Value.tuple #[Value.agg #[vi a0, vs 1 0 1 1, vn], vq]) (kKg 1 (tQ (Zu8 c2) 1) <| bkN (a0 > 65536) <| bhN g0 Zg) (bC (o := .cells [vi 1, vi 2, vi (((1 : Int) * 1048576) + 1), vi 1, vi 16, vi 255, vi 2, vq, ms RA y2_0] 149) (Zz (E := ZaR) _ (L := ([(⟨1, 2, (((1 : Int) * 1048576) + 1), 1, 16, 255, 2, 0, y2_0⟩ : RK)] : List RK)) _ (show ([vi 1, vi 2, vi (((1 : Int) * 1048576) + 1), vi 1, vi 16, vi 255, vi 2, vq, ms RA y2_0] : List Value) = Za ZaR ([(⟨1, 2, (((1 : Int) * 1048576) + 1), 1, 16, 255, 2, 0, y2_0⟩ : RK)] : List RK) from rfl)) <| bE) (hv := ⟨Eq.trans (show (Value.tuple #[Value.agg #[vi a0, vs 0 0 ([(⟨1, 2, (((1 : Int) * 1048576) + 1), 1, 16, 255, 2, 0, y2_0⟩ : RK)] : List RK).length ([(⟨1, 2, (((1 : Int) * 1048576) + 1), 1, 16, 255, 2, 0, y2_0⟩ : RK)] : List RK).length, vn], vq] : Value) = Value.tuple #[Value.agg #[vi a0, vs 0 0 1 1, vn], vq] from (Zaw (Zw (ZbV (cr (Zw (Zi rfl eqA eqA) (cr rfl)))) (cr rfl)))) (by rfl), by rfl⟩)

theorem Zts (N : Nat) (r : ZdU) (h : Zgl a0 N = some r) : LSpec Tryz.prog 43 #[vi a0] [] (Zro a0 r) (Zpk r) :=
 ZI Zv Tryz.func43 (by kernel_rfl) (by kernel_rfl) (fun r => by cases r <;> exact ZP _ rfl) (ZyV a0 N) h

theorem Zu9 (N : Nat) (r : ZdU) (h : Zgl a0 N = some r) : LSpec Tryz.prog 43 #[vi a0] [] (Ztr a0 r) (Zrp r) := by
 have h0 := Zts a0 N r h;cases r with
 | r0 w1 => exact (LSpec.frzv (E := ZaR) (L := w1) (post := []) (v2 := Value.tuple #[Value.agg #[vi a0, ms ZaR w1, vn], vq]) h0 (show 0 ≤ 0 from by decide) (show 0 < 1000000000 from by decide) trivial rfl rfl rfl)

end
theorem ZiX {a0 : Int} {N : Nat} {r : ZdU} (h : Zgl a0 N = some r) : LSpec Tryz.prog 43 #[vi a0] [] (Ztr a0 r) (Zrp r) := Zu9 a0 N r h

noncomputable def Zlq : Zak → Value
 | .r0 => vn
 | .r1 w0 => vs 0 0 w0.length w0.length
noncomputable def ZkG : Zak → List (Option AObj)
 | .r0 => []
 | .r1 w0 => [some (.cells (Za RC w0) 97)]

noncomputable def Zmy : Zak → Value
 | .r0 => ms RC ([] : List RJ)
 | .r1 w0 => ms RC w0
noncomputable def Zlr : Zak → List (Option AObj)
 | .r0 => []
 | .r1 w0 => []

def Ztt : Zad → Nat
 | .h1m0 v0 => 1
 | .h1m1 .. => 1
noncomputable def ZuA (a0 : Int) (L1 : List RK) : Zad → List (Nat × Value)
 | .h1m0 v0 => [(1, vp 0 0), (3, vn), (4, vi (v0 : Int))]
 | .h1m1 v0 v1 => [(1, vp 0 0), (3, vs 1 0 v0.length v0.length), (4, vi (v1 : Int))]
section
variable (a0 : Int) (L1 : List RK)
noncomputable abbrev κbk := [vi a0, ms ZaR L1, vn]
noncomputable def ZuB : Zad → List (Option AObj)
 | .h1m0 v0 => [some (.cells (κbk a0 L1) 113)]
 | .h1m1 v0 v1 => [some (.cells (κbk a0 L1) 113), some (.cells (Za RC v0) 97)]

noncomputable def ZuC : Nat → Code × List ZL
 | 1 => Z5 [1, 1, 0, 1, 3] (ZM Tryz.f44) []
 | _ => (.skip, [])

noncomputable def Zfk (N : Nat) : Mach := ⟨Tryz.f44, [], Zad, Zak, ZgL a0 L1 N, Ztt, ZuC, ilT, ZuA a0 L1, ZuB a0 L1, Zlq, ZkG⟩

theorem Zom (v0 N : Nat) : (Zfk a0 L1 N).Ok Tryz.prog Ze (.h1m0 v0 : Zad) (Zgm a0 L1 N v0) := by
 unfold Zgm;refine ok_ite (fun g0 => ?_) fun g0 => ?_
 ·
  have w1 := tL 2 [.i (L1.getD v0 RK.z).a6] <| kG ZaR L1 ((((0 + (v0 * 9)) + 1) + 2) + 3) v0 6 1 9 <| kB v0 L1.length <| xkI (v0 : Int) v0 <| bhY g0 Zg
  refine ok_ite (fun g1 => ?_) fun g1 => ?_
  · refine oi fun g2 => ?_;exact okN [0, 2] [some (vp 0 0), some (vs 2 0 1 1), some (vi (((v0 + 1) : Nat) : Int))] (vkW ((v0 : Int) + 1) (((v0 + 1) : Nat) : Int) <| tL 1 [.i (L1.getD v0 RK.z).a1, .i (L1.getD v0 RK.z).a2, .i (L1.getD v0 RK.z).a3, .i (L1.getD v0 RK.z).a4, .i (L1.getD v0 RK.z).a5, .i (L1.getD v0 RK.z).a6, .i (L1.getD v0 RK.z).a7, (mc RA (L1.getD v0 RK.z).a8)] <| kG ZaR L1 ((0 + (v0 * 9)) + 1) v0 1 8 9 <| kB v0 L1.length <| xkI (v0 : Int) v0 <| bhD g1 w1) (tC (tC (tC (tE)) ⟨Eq.trans (show (vs 1 0 ([(⟨(L1.getD v0 RK.z).a1, (L1.getD v0 RK.z).a2, (L1.getD v0 RK.z).a3, (L1.getD v0 RK.z).a4, (L1.getD v0 RK.z).a5, (L1.getD v0 RK.z).a6, (L1.getD v0 RK.z).a7, (L1.getD v0 RK.z).a8⟩ : RJ)] : List RJ).length ([(⟨(L1.getD v0 RK.z).a1, (L1.getD v0 RK.z).a2, (L1.getD v0 RK.z).a3, (L1.getD v0 RK.z).a4, (L1.getD v0 RK.z).a5, (L1.getD v0 RK.z).a6, (L1.getD v0 RK.z).a7, (L1.getD v0 RK.z).a8⟩ : RJ)] : List RJ).length : Value) = vs 1 0 1 1 from (Zi rfl eqA eqA)) (by rfl), by rfl⟩)) (bS (κbk a0 L1) <| bC (o := .cells [vi (L1.getD v0 RK.z).a1, vi (L1.getD v0 RK.z).a2, vi (L1.getD v0 RK.z).a3, vi (L1.getD v0 RK.z).a4, vi (L1.getD v0 RK.z).a5, vi (L1.getD v0 RK.z).a6, vi (L1.getD v0 RK.z).a7, ms RA (L1.getD v0 RK.z).a8] 97) (Zz (E := RC) _ (L := ([(⟨(L1.getD v0 RK.z).a1, (L1.getD v0 RK.z).a2, (L1.getD v0 RK.z).a3, (L1.getD v0 RK.z).a4, (L1.getD v0 RK.z).a5, (L1.getD v0 RK.z).a6, (L1.getD v0 RK.z).a7, (L1.getD v0 RK.z).a8⟩ : RJ)] : List RJ)) _ (show ([vi (L1.getD v0 RK.z).a1, vi (L1.getD v0 RK.z).a2, vi (L1.getD v0 RK.z).a3, vi (L1.getD v0 RK.z).a4, vi (L1.getD v0 RK.z).a5, vi (L1.getD v0 RK.z).a6, vi (L1.getD v0 RK.z).a7, ms RA (L1.getD v0 RK.z).a8] : List Value) = Za RC ([(⟨(L1.getD v0 RK.z).a1, (L1.getD v0 RK.z).a2, (L1.getD v0 RK.z).a3, (L1.getD v0 RK.z).a4, (L1.getD v0 RK.z).a5, (L1.getD v0 RK.z).a6, (L1.getD v0 RK.z).a7, (L1.getD v0 RK.z).a8⟩ : RJ)] : List RJ) from rfl)) <| bE)
  refine oi fun g2 => ?_;exact Mach.okN0 [0] (vkW ((v0 : Int) + 1) (((v0 + 1) : Nat) : Int) <| bkE ((L1.getD v0 RK.z).a6) 0 w1) (bS (κbk a0 L1) <| bE)
 exact Mach.okF0 [] (bhN g0 Zg) bE

noncomputable abbrev κbU (v1 : Nat) := (vi (((v1 + 1) : Nat) : Int))
theorem Zon (v0 : List RJ) (v1 N : Nat) : (Zfk a0 L1 N).Ok Tryz.prog Ze (.h1m1 v0 v1 : Zad) (Zgn a0 L1 N v0 v1) := by
 unfold Zgn;refine ok_ite (fun g0 => ?_) fun g0 => ?_
 ·
  have w1 := tL 2 [.i (L1.getD v1 RK.z).a6] <| kG ZaR L1 ((((0 + (v1 * 9)) + 1) + 2) + 3) v1 6 1 9 <| kB v1 L1.length <| xkI (v1 : Int) v1 <| bhY g0 Zg
  refine ok_ite (fun g1 => ?_) fun g1 => ?_
  · refine oi fun g2 => ?_;refine oi fun g3 => ?_;exact okN [0, 3] [some (vp 0 0), some (vs 3 0 (v0.length + 1) (v0.length + 1)), some (κbU v1)] (vkW ((v1 : Int) + 1) (((v1 + 1) : Nat) : Int) <| wkA RC v0 (⟨(L1.getD v1 RK.z).a1, (L1.getD v1 RK.z).a2, (L1.getD v1 RK.z).a3, (L1.getD v1 RK.z).a4, (L1.getD v1 RK.z).a5, (L1.getD v1 RK.z).a6, (L1.getD v1 RK.z).a7, (L1.getD v1 RK.z).a8⟩ : RJ) <| tL 1 [.i (L1.getD v1 RK.z).a1, .i (L1.getD v1 RK.z).a2, .i (L1.getD v1 RK.z).a3, .i (L1.getD v1 RK.z).a4, .i (L1.getD v1 RK.z).a5, .i (L1.getD v1 RK.z).a6, .i (L1.getD v1 RK.z).a7, (mc RA (L1.getD v1 RK.z).a8)] <| kG ZaR L1 ((0 + (v1 * 9)) + 1) v1 1 8 9 <| kB v1 L1.length <| xkI (v1 : Int) v1 <| bhD g1 w1) (tC (tC (tC (tE)) ⟨Eq.trans (show (vs 1 0 (v0 ++ ([(⟨(L1.getD v1 RK.z).a1, (L1.getD v1 RK.z).a2, (L1.getD v1 RK.z).a3, (L1.getD v1 RK.z).a4, (L1.getD v1 RK.z).a5, (L1.getD v1 RK.z).a6, (L1.getD v1 RK.z).a7, (L1.getD v1 RK.z).a8⟩ : RJ)] : List RJ)).length (v0 ++ ([(⟨(L1.getD v1 RK.z).a1, (L1.getD v1 RK.z).a2, (L1.getD v1 RK.z).a3, (L1.getD v1 RK.z).a4, (L1.getD v1 RK.z).a5, (L1.getD v1 RK.z).a6, (L1.getD v1 RK.z).a7, (L1.getD v1 RK.z).a8⟩ : RJ)] : List RJ)).length : Value) = vs 1 0 (v0.length + 1) (v0.length + 1) from (Zi rfl eqA eqA)) (by rfl), by rfl⟩)) (bS (κbk a0 L1) <| bR <| bE)
  refine oi fun g2 => ?_;exact Mach.okN0 [0, 1] (vkW ((v1 : Int) + 1) (((v1 + 1) : Nat) : Int) <| bkE ((L1.getD v1 RK.z).a6) 0 w1) (bS (κbk a0 L1) <| bR <| bE)
 exact Mach.okF0 [1] (bhN g0 Zg) (bR <| bE)

theorem ZrP (N : Nat) : (Zfk a0 L1 N).Enter Tryz.prog Ze #[Value.agg #[vi a0, ms ZaR L1, vn]] (ZhP a0 L1 N) := by unfold ZhP;exact enH [0] [some (vp 0 0), some (vn), some (vq)] Zg (tC (tC (tC (tE) ⟨Eq.trans (show κg = vq from ci) (by rfl), by rfl⟩))) (bS (κbk a0 L1) <| bE)

theorem Zoo (N : Nat) (r : Zak) (h : Zf8 a0 L1 N = some r) : LSpec Tryz.prog 44 #[Value.agg #[vi a0, ms ZaR L1, vn]] [] (Zlq r) (ZkG r) :=
 Mach.specT Zv (Zfk a0 L1 N) Tryz.func44 (fun x => (show (Zfk a0 L1 N).Ok Tryz.prog Ze x (ZgL a0 L1 N x) from by
  cases x with
  | h1m0 v0 => exact Zom a0 L1 v0 N
  | h1m1 v0 v1 => exact Zon a0 L1 v0 v1 N
  )) (ZrP a0 L1 N) h

theorem Zpl (N : Nat) (r : Zak) (h : Zf8 a0 L1 N = some r) : LSpec Tryz.prog 44 #[Value.agg #[vi a0, ms ZaR L1, vn]] [] (Zmy r) (Zlr r) := by
 have h0 := Zoo a0 L1 N r h;cases r with
 | r0 => exact (LSpec.nlv (v2 := ms RC ([] : List RJ)) h0 rfl rfl)
 | r1 w0 => exact (LSpec.frzv (E := RC) (L := w0) (post := []) (v2 := ms RC w0) h0 (show 0 ≤ 0 from by decide) (show 0 < 1000000000 from by decide) trivial rfl rfl rfl)

end
theorem ZfU {a0 : Int} {L1 : List RK} {N : Nat} {r : Zak} (h : Zf8 a0 L1 N = some r) : LSpec Tryz.prog 44 #[Value.agg #[vi a0, ms ZaR L1, vn]] [] (Zmy r) (Zlr r) := Zpl a0 L1 N r h

open Mach (oi ok_ite ok_bind okN en_ite)
noncomputable def ZnO : Zah → Value
 | .r0 => Value.tuple #[Value.agg #[vn, vn, vn], vi 1]
 | .r1 w1 => Value.tuple #[Value.agg #[vn, vn, ms RC w1], vq]
 | .r2 w1 w2 w3 => Value.tuple #[Value.agg #[vs 1 0 w1.length w1.length, vs 2 0 w2.length w2.length, ms RC w3], vq]
section
variable (L0 : List (List RI))
noncomputable abbrev κm := (AObj.cells (Za (Zp RB) L0) 26)
noncomputable def Zmz : Zah → List (Option AObj)
 | .r0 => [some (κm L0)]
 | .r1 w1 => [some (κm L0)]
 | .r2 w1 w2 w3 => [some (κm L0), some (.cells (Za (Zp RB) w1) 26), some (.cells (Za RE w2) 65)]

noncomputable def ZyW : Zah → Value
 | .r0 => Value.tuple κo
 | .r1 w1 => Value.tuple #[Value.agg #[ms (Zp RB) ([] : List (List RI)), ms RE ([] : List RL), ms RC w1], vq]
 | .r2 w1 w2 w3 => Value.tuple #[Value.agg #[ms (Zp RB) w1, ms RE w2, ms RC w3], vq]
noncomputable def Zwz : Zah → List (Option AObj)
 | .r0 => [some (κm L0)]
 | .r1 w1 => [some (κm L0)]
 | .r2 w1 w2 w3 => [some (κm L0)]

def Zw0 : Za5 → Nat
 | .h1m0 => 1
 | .h1m1 .. => 1
noncomputable abbrev κbi := (0, vs 0 0 L0.length L0.length)
noncomputable def ZyX : Za5 → List (Nat × Value)
 | .h1m0 => [(κbi L0), (2, vp 1 0), (4, vp 2 0), (5, vq)]
 | .h1m1 v1 v2 v3 => [(κbi L0), (2, vp 1 0), (4, vp 2 0), (5, vi (v1 : Int))]
noncomputable abbrev κ3 := (AObj.cells [vn, vn, vn] 34)
noncomputable def ZyY : Za5 → List (Option AObj)
 | .h1m0 => [some (κm L0), some κ3, some κ3]
 | .h1m1 v1 v2 v3 => [some (κm L0), some κ3, some (.cells [vs 3 0 v2.length v2.length, vs 4 0 v3.length v3.length, vn] 34), some (.cells (Za (Zp RB) v2) 26), some (.cells (Za RE v3) 65)]

noncomputable def ZyZ : Nat → Code × List ZL
 | 1 => Z5 [1, 1, 1, 0, 1, 3] (ZM Tryz.f13) []
 | _ => (.skip, [])

noncomputable abbrev κQ := [AObj.cells (Za (Zp RB) L0) 26]
noncomputable def Zgv (N : Nat) : Mach := ⟨Tryz.f13, (κQ L0), Za5, Zah, ZeC L0 N, Zw0, ZyZ, ilT, ZyX L0, ZyY L0, ZnO, Zmz L0⟩

noncomputable abbrev κbt := (Za RE ([(⟨0, 0, 0, 1, 0, 1, 0, 1, 0, 1, 0, 1, 0, 1, 0, 1, 0, 1, 0, ([] : List RG)⟩ : RL)] : List RL))
noncomputable abbrev κbs := (Za RB (L0.getD 0 []))
noncomputable abbrev κh := [vq, vq, vq, vi 1, vq, vi 1, vq, vi 1, vq, vi 1, vq, vi 1, vq, vi 1, vq, vi 1, vq, vi 1, vq, vn]
theorem Zq7 (N : Nat) : (Zgv L0 N).Ok Tryz.prog Ze (.h1m0 : Za5) (Zen L0 N) := by
 unfold Zen;refine ok_ite (fun g0 => ?_) fun g0 => ?_
 ·
  refine ok_bind fun z1 c1 => ?_;cases z1 with
  | r0 =>
   refine oi fun g2 => ?_;refine oi fun g3 => ?_;exact okN [0, 1, 2, 6, 18] [some (vs 0 0 L0.length L0.length), some (vp 1 0), some (vp 2 0), some (vi 1)] (kX (dP (List.map (nlV 0) κh = κbt)) true (Zn (Z6r (E := RE) (x := (⟨0, 0, 0, 1, 0, 1, 0, 1, 0, 1, 0, 1, 0, 1, 0, 1, 0, 1, 0, ([] : List RG)⟩ : RL)) rfl)) <| tW 19 (.apn 1 κh κh κbt) <| kX (dP ((1 = 1 ∧ Z4 (1 * 20) (List.drop 0 κh) = some κh ∧ Zu Zbg κh = true) ∧ 0 < 1 ∧ 1 ≤ 100000 ∧ κh = κh)) true (Zn ⟨⟨rfl, ⟨rfl, rfl⟩⟩, by omega, by omega, rfl⟩) <| kX (dP ((0 + (L0.getD 0 []).length) = (L0.getD 0 []).length ∧ (0 + (L0.getD 0 []).length) = (L0.getD 0 []).length ∧ (κbs L0) = Zm (Z9 RB (L0.getD 0 [])))) true (Zn ⟨by omega, by omega, ZhM _⟩) <| tW 0 (.apz (L0.getD 0 []).length (κbs L0) (κbs L0) (Z9 RB (L0.getD 0 []))) <| kX (dP (((L0.getD 0 []).length = (L0.getD 0 []).length ∧ (((L0.getD 0 []).length * 4 = 0 ∧ (κbs L0) = []) ∨ ∃ c, (L0.getD 0 []).length * 4 ≠ 0 ∧ ZS (code (Z9 RB (L0.getD 0 []))) 0 ((L0.getD 0 []).length * 4) = some c ∧ (κbs L0) = Zm c)) ∧ 0 < (L0.getD 0 []).length ∧ (L0.getD 0 []).length ≤ 100000 ∧ 0 < 0 + (L0.getD 0 []).length ∧ 0 ≤ 100000 ∧ 0 * 4 ≤ (List.length []) ∧ List.take (0 * 4) [] ++ (κbs L0) = (κbs L0))) true (Zn ⟨⟨rfl, (Zc5 (E := RB) (L := (L0.getD 0 [])) (n := (L0.getD 0 []).length) (size := 4) rfl (by decide) (by omega))⟩, by omega, by omega, ltA, by omega, (Zar (E := RB) (L := ([] : List RI)) (M := (L0.getD 0 [])) (n := 0) (show _ = _ * 4 from rfl) ltA (R := (L0.getD 0 [])) (by rw [List.take_of_length_le ltA]; rfl))⟩) <| tL 1 ([(mc RB (L0.getD 0 []))]) <| kLn (Zp RB) L0 0 0 1 <| kB 0 L0.length <| xkI 0 0 <| kK (tQ (ZjD c1) 3) <| Za2 (Zp RB) L0 0 0 1 <| kB 0 L0.length <| xkI 0 0 <| bhY g0 Zg) (tC (tC (tC (tC (tE) ⟨Eq.trans (show κK = vi 1 from ci) (by rfl), by rfl⟩)))) (bR <| bS [vn, vn, vn] <| bU2 [vs 6 0 1 1, vs 18 0 1 1, vn] 0 (show (vs 3 0 1 1 : Value) = vs 3 0 ([(L0.getD 0 [])] : List (List RI)).length ([(L0.getD 0 [])] : List (List RI)).length from Zi rfl eqA eqA) 1 (show (vs 4 0 1 1 : Value) = vs 4 0 ([(⟨0, 0, 0, 1, 0, 1, 0, 1, 0, 1, 0, 1, 0, 1, 0, 1, 0, 1, 0, ([] : List RG)⟩ : RL)] : List RL).length ([(⟨0, 0, 0, 1, 0, 1, 0, 1, 0, 1, 0, 1, 0, 1, 0, 1, 0, 1, 0, ([] : List RG)⟩ : RL)] : List RL).length from Zi rfl eqA eqA) <| bC (o := .cells [ms RB (L0.getD 0 [])] 26) (Zz (E := (Zp RB)) _ (L := ([(L0.getD 0 [])] : List (List RI))) _ (show ([ms RB (L0.getD 0 [])] : List Value) = Za (Zp RB) ([(L0.getD 0 [])] : List (List RI)) from rfl)) <| bR <| bE)
 refine ok_bind fun z1 c1 => ?_;cases z1 with
 | r0 y1_0 =>
  refine ok_bind fun z2 c2 => ?_;cases z2 with
  | r0 =>
   exact Mach.okF0 [0] (kKg 2 (tQ (ZfU c2) 4) <| kK (tQ (ZiX c1) 3) <| bhN g0 Zg) (bR <| bE)
  | r1 y2_0 =>
   exact Mach.okF0 [0] (kKg 2 (tQ (ZfU c2) 4) <| kK (tQ (ZiX c1) 3) <| bhN g0 Zg) (bR <| bE)

noncomputable abbrev κbp (v1 : Nat) := (Za RB (L0.getD v1 []))
noncomputable abbrev κbo (v3 : List RL) := (Za RE (v3 ++ ([(⟨0, 0, 0, 1, 0, 1, 0, 1, 0, 1, 0, 1, 0, 1, 0, 1, 0, 1, 0, ([] : List RG)⟩ : RL)] : List RL)))
theorem Zq8 (v1 : Nat) (v2 : List (List RI)) (v3 : List RL) (N : Nat) : (Zgv L0 N).Ok Tryz.prog Ze (.h1m1 v1 v2 v3 : Za5) (Zcr L0 N v1 v2 v3) := by
 unfold Zcr;refine ok_ite (fun g0 => ?_) fun g0 => ?_
 ·
  refine ok_bind fun z1 c1 => ?_;cases z1 with
  | r0 =>
   refine oi fun g2 => ?_;refine oi fun g3 => ?_;refine oi fun g4 => ?_;refine oi fun g5 => ?_;refine oi fun g6 => ?_;exact Mach.okN0 [0, 1, 2, 8, 20] (tV 8 <| kW ((v1 : Int) + 1) (((v1 + 1) : Nat) : Int) <| kX (dP (List.map (nlV 0) (Za RE v3 ++ κh) = (κbo v3))) true (Zn (Z6q (E := RE) (fun _ => rfl) (L := v3) (x := (⟨0, 0, 0, 1, 0, 1, 0, 1, 0, 1, 0, 1, 0, 1, 0, 1, 0, 1, 0, ([] : List RG)⟩ : RL)) rfl)) <| tW 18 (.apn 1 κh (Za RE v3 ++ κh) (κbo v3)) <| kX (dP ((1 = 1 ∧ Z4 (1 * 20) (List.drop 0 κh) = some κh ∧ Zu Zbg κh = true) ∧ 0 < 1 ∧ 1 ≤ 100000 ∧ v3.length < v3.length + 1 ∧ v3.length ≤ 100000 ∧ v3.length * 20 ≤ (List.length (Za RE v3)) ∧ List.take (v3.length * 20) (Za RE v3) ++ κh = (Za RE v3 ++ κh))) true (Zn ⟨⟨rfl, ⟨rfl, rfl⟩⟩, by omega, by omega, ltA, by omega, (Z6s (E := RE) (L := v3) (L0 := v3) (l := κh) (n := v3.length) (show _ = _ * 20 from rfl) (by omega) (List.take_of_length_le (by omega)))⟩) <| wkA (Zp RB) v2 (L0.getD v1 []) <| kX (dP ((0 + (L0.getD v1 []).length) = (L0.getD v1 []).length ∧ (0 + (L0.getD v1 []).length) = (L0.getD v1 []).length ∧ (κbp L0 v1) = Zm (Z9 RB (L0.getD v1 [])))) true (Zn ⟨by omega, by omega, ZhM _⟩) <| tW 0 (.apz (L0.getD v1 []).length (κbp L0 v1) (κbp L0 v1) (Z9 RB (L0.getD v1 []))) <| kX (dP (((L0.getD v1 []).length = (L0.getD v1 []).length ∧ (((L0.getD v1 []).length * 4 = 0 ∧ (κbp L0 v1) = []) ∨ ∃ c, (L0.getD v1 []).length * 4 ≠ 0 ∧ ZS (code (Z9 RB (L0.getD v1 []))) 0 ((L0.getD v1 []).length * 4) = some c ∧ (κbp L0 v1) = Zm c)) ∧ 0 < (L0.getD v1 []).length ∧ (L0.getD v1 []).length ≤ 100000 ∧ 0 < 0 + (L0.getD v1 []).length ∧ 0 ≤ 100000 ∧ 0 * 4 ≤ (List.length []) ∧ List.take (0 * 4) [] ++ (κbp L0 v1) = (κbp L0 v1))) true (Zn ⟨⟨rfl, (Zc5 (E := RB) (L := (L0.getD v1 [])) (n := (L0.getD v1 []).length) (size := 4) rfl (by decide) (by omega))⟩, by omega, by omega, ltA, by omega, (Zar (E := RB) (L := ([] : List RI)) (M := (L0.getD v1 [])) (n := 0) (show _ = _ * 4 from rfl) ltA (R := (L0.getD v1 [])) (by rw [List.take_of_length_le ltA]; rfl))⟩) <| tL 1 ([(mc RB (L0.getD v1 []))]) <| kLn (Zp RB) L0 v1 0 1 <| kB v1 L0.length <| xkI (v1 : Int) v1 <| kK (tQ (ZjD c1) 5) <| Za2 (Zp RB) L0 v1 0 1 <| kB v1 L0.length <| xkI (v1 : Int) v1 <| bhY g0 Zg) (bR <| bS [vn, vn, vn] <| bU2 [vs 8 0 (v2.length + 1) (v2.length + 1), vs 20 0 (v3.length + 1) (v3.length + 1), vn] 0 (show (vs 3 0 (v2.length + 1) (v2.length + 1) : Value) = vs 3 0 (v2 ++ ([(L0.getD v1 [])] : List (List RI))).length (v2 ++ ([(L0.getD v1 [])] : List (List RI))).length from Zi rfl eqA eqA) 1 (show (vs 4 0 (v3.length + 1) (v3.length + 1) : Value) = vs 4 0 (v3 ++ ([(⟨0, 0, 0, 1, 0, 1, 0, 1, 0, 1, 0, 1, 0, 1, 0, 1, 0, 1, 0, ([] : List RG)⟩ : RL)] : List RL)).length (v3 ++ ([(⟨0, 0, 0, 1, 0, 1, 0, 1, 0, 1, 0, 1, 0, 1, 0, 1, 0, 1, 0, ([] : List RG)⟩ : RL)] : List RL)).length from Zi rfl eqA eqA) <| bR <| bR <| bE)
 refine ok_bind fun z1 c1 => ?_;cases z1 with
 | r0 y1_0 =>
  refine ok_bind fun z2 c2 => ?_;cases z2 with
  | r0 =>
   exact Mach.okF0 [0, 3, 4] (kKg 2 (tQ (ZfU c2) 6) <| kK (tQ (ZiX c1) 5) <| bhN g0 Zg) (bR <| bR <| bR <| bE)
  | r1 y2_0 =>
   exact Mach.okF0 [0, 3, 4] (kKg 2 (tQ (ZfU c2) 6) <| kK (tQ (ZiX c1) 5) <| bhN g0 Zg) (bR <| bR <| bR <| bE)

noncomputable abbrev κbK := #[vs 0 0 L0.length L0.length]
theorem ZuD (N : Nat) : (Zgv L0 N).Enter Tryz.prog Ze (κbK L0) (Zhe L0 N) := by
 unfold Zhe;refine en_ite (fun g0 => ?_) (fun g0 => ?_)
 · exact Mach.enF0 [0] (bhY g0 Zg) (bR <| bE)
 refine en_ite (fun g1 => ?_) (fun g1 => ?_)
 · exact Mach.enF0 [0] (bkY ((L0.length : Int) > 64) <| bhN g0 Zg) (bR <| bE)
 exact Mach.enH0 [0, 1, 2] (bkN ((L0.length : Int) > 64) <| bhN g0 Zg) (bR <| bS [vn, vn, vn] <| bS [vn, vn, vn] <| bE)

theorem Zq9 (N : Nat) (r : Zah) (h : ZbX L0 N = some r) : LSpec Tryz.prog 13 (κbK L0) (κQ L0) (ZnO r) (Zmz L0 r) :=
 Mach.specT Zv (Zgv L0 N) Tryz.func13 (fun x => (show (Zgv L0 N).Ok Tryz.prog Ze x (ZeC L0 N x) from by
  cases x with
  | h1m0 => exact Zq7 L0 N
  | h1m1 v1 v2 v3 => exact Zq8 L0 v1 v2 v3 N
  )) (ZuD L0 N) h

theorem ZkH (N : Nat) (r : Zah) (h : ZbX L0 N = some r) : LSpec Tryz.prog 13 (κbK L0) (κQ L0) (ZyW r) (Zwz L0 r) := by
 have h0 := Zq9 L0 N r h;cases r with
 | r0 => exact (LSpec.nlv (v2 := Value.tuple κo) h0 rfl rfl)
 | r1 w1 => exact (LSpec.nlv (v2 := Value.tuple #[Value.agg #[ms (Zp RB) ([] : List (List RI)), ms RE ([] : List RL), ms RC w1], vq]) h0 rfl rfl)
 | r2 w1 w2 w3 => exact (LSpec.frzv (E := (Zp RB)) (L := w1) (post := [some (κm L0)]) (v2 := Value.tuple #[Value.agg #[ms (Zp RB) w1, ms RE w2, ms RC w3], vq]) (LSpec.frzv (E := RE) (L := w2) (post := [some (κm L0), some (.cells (Za (Zp RB) w1) 26)]) (v2 := Value.tuple #[Value.agg #[vs 1 0 w1.length w1.length, ms RE w2, ms RC w3], vq]) h0 (show 1 ≤ 2 from by decide) (show 2 < 1000000000 from by decide) ⟨(ZcZ _ _ _), ⟨(ZcZ _ _ _), trivial⟩⟩ rfl rfl rfl) (show 1 ≤ 1 from by decide) (show 1 < 1000000000 from by decide) ⟨(ZcZ _ _ _), trivial⟩ rfl rfl rfl)

end
noncomputable abbrev κbg (ks : List Nat) (L0 : List (List RI)) := [((nth ks 0), AObj.cells (Za (Zp RB) L0) 26)]
noncomputable def Zw1 {L0 : List (List RI)} {N : Nat} (h : ZbX L0 N = some (.r0)) (ks : List Nat) (n : Nat) : ToldS := ⟨#[vs (nth ks 0) 0 L0.length L0.length], (κbg ks L0), Value.tuple κo, [], 0⟩

theorem Zhi {L0 : List (List RI)} {N : Nat} (h : ZbX L0 N = some (.r0)) (ks : List Nat) (n : Nat) (hk : ks.length = 1 := by rfl) (hnd : ks.Nodup := by decide +kernel) (hlt : ∀ k ∈ ks, k < n := by decide +kernel) : (Zw1 (N := N)  h ks n).P Tryz.prog 13 n :=
 match ks, hk, hnd, hlt with
 | [k0], _, hnd, hlt => Zcj (show LSpec Tryz.prog 13 (κbK L0) (κQ L0) (Value.tuple κo) [some (κm L0)] from ZkH L0 N _ h) _ n [] hnd hlt

noncomputable abbrev κR (w1 : List (List RI)) (w2 : List RL) (w3 : List RJ) := #[ms (Zp RB) w1, ms RE w2, ms RC w3]
noncomputable def ZdO {L0 w1 : List (List RI)} {w2 : List RL} {w3 : List RJ} {N : Nat} (h : ZbX L0 N = some (.r2 w1 w2 w3)) (ks : List Nat) (n : Nat) : ToldS := ⟨#[vs (nth ks 0) 0 L0.length L0.length], (κbg ks L0), Value.tuple #[Value.agg (κR w1 w2 w3), vq], [], 0⟩

theorem ZjF {L0 w1 : List (List RI)} {w2 : List RL} {w3 : List RJ} {N : Nat} (h : ZbX L0 N = some (.r2 w1 w2 w3)) (ks : List Nat) (n : Nat) (hk : ks.length = 1 := by rfl) (hnd : ks.Nodup := by decide +kernel) (hlt : ∀ k ∈ ks, k < n := by decide +kernel) : (ZdO (N := N)  h ks n).P Tryz.prog 13 n :=
 match ks, hk, hnd, hlt with
 | [k0], _, hnd, hlt => Zcj (show LSpec Tryz.prog 13 (κbK L0) (κQ L0) (Value.tuple #[Value.agg (κR w1 w2 w3), vq]) [some (κm L0)] from ZkH L0 N _ h) _ n [] hnd hlt

noncomputable def ZlE : Zeb → Value
 | .r0 w0 w1 w2 => Value.tuple #[Value.agg #[vi w0, vi w1], Value.bool w2]
noncomputable def ZkI : Zeb → List (Option AObj)
 | .r0 w0 w1 w2 => []

section
variable (L0 : List RG) (a1 a2 a3 a4 : Int)
theorem Zw2 (N : Nat) : Fx Tryz.prog Ze Tryz.f78 [] #[Value.agg (List.toArray (rv8 L0)), Value.agg #[vi a1, vi a2, vi a3, vi a4]] (ZlE) (ZkI) (ZaU L0 a1 a2 a3 a4 N) := by
 unfold ZaU;refine Zb (fun g0 => ?_) (fun g0 => ?_)
 · exact Zr [] (bhD g0 Zg) bE
 refine Zx (fun z1 c1 => ?_);cases z1 with
 | r0 y1_0 =>
  have w2 := kK (tQ (ZgA c1) 3) <| bkE a1 19 Zg
  refine Zb (fun g2 => ?_) (fun g2 => ?_)
  · exact Zr [] (bkX ((!y1_0)) true nbt w2) bE
  refine Zb (fun g3 => ?_) (fun _ => Zd);refine Zb (fun g4 => ?_) (fun _ => Zd);exact Zr [] (tL 3 ([.i (((e8 L0) : List RG).getD a2.toNat RG.z).a0, .i (((e8 L0) : List RG).getD a2.toNat RG.z).a1]) <| kLn RA ((e8 L0) : List RG) (a2.toNat) 0 2 <| kB a2.toNat 8 <| xkI a2 (a2.toNat) <| bkX ((!y1_0)) false nbf w2) bE

theorem Ztu (N : Nat) (r : Zeb) (h : ZaU L0 a1 a2 a3 a4 N = some r) : LSpec Tryz.prog 78 #[Value.agg (List.toArray (rv8 L0)), Value.agg #[vi a1, vi a2, vi a3, vi a4]] [] (ZlE r) (ZkI r) :=
 ZI Zv Tryz.func78 (by kernel_rfl) (by kernel_rfl) (fun r => by cases r <;> exact ZP _ rfl) (Zw2 L0 a1 a2 a3 a4 N) h

theorem Zbf {L0 : List RG} {a1 a2 a3 a4 : Int} {N : Nat} {r : Zeb} (h : ZaU L0 a1 a2 a3 a4 N = some r) : LSpec Tryz.prog 78 #[Value.agg (List.toArray (rv8 L0)), Value.agg #[vi a1, vi a2, vi a3, vi a4]] [] (ZlE r) (ZkI r) := Ztu L0 a1 a2 a3 a4 N r h

noncomputable def ZlF : ref14_madeR → Value
 | .r0 w0 w1 => Value.tuple #[Value.agg #[vi w0, vi w1], vq]
noncomputable def ZkJ : ref14_madeR → List (Option AObj)
 | .r0 w0 w1 => []

theorem Zw3 (a5 a6 : Int) (N : Nat) : Fx Tryz.prog Ze Tryz.f106 [] #[Value.agg (List.toArray (rv8 L0)), Value.agg #[vi a1, vi a2, vi a3, vi a4], Value.agg #[vi a5, vi a6]] (ZlF) (ZkJ) (Zds L0 a1 a2 a3 a4 a5 a6 N) := by
 unfold Zds;refine Zb (fun g0 => ?_) (fun g0 => ?_)
 · exact Zr [] (bhT g0 Zg) bE
 refine Zb (fun _ => Zd) (fun g1 => ?_);have w2 := bhF g1 <| bhF g0 Zg
 refine Zb (fun _ => Zd) (fun g2 => ?_);refine Zb (fun g3 => ?_) (fun g3 => ?_)
 · refine Zb (fun g4 => ?_) (fun _ => Zd);refine Zb (fun g5 => ?_) (fun _ => Zd);refine Zb (fun g6 => ?_) (fun _ => Zd);refine Zb (fun g7 => ?_) (fun _ => Zd);refine Zb (fun g8 => ?_) (fun _ => Zd);refine Zb (fun g9 => ?_) (fun _ => Zd);exact Zr [] (bhT g9 <| bhT g8 <| tL 1 ([.i (((e8 L0) : List RG).getD a4.toNat RG.z).a0, .i (((e8 L0) : List RG).getD a4.toNat RG.z).a1]) <| kLn RA ((e8 L0) : List RG) (a4.toNat) 0 2 <| kB a4.toNat 8 <| xkI a4 (a4.toNat) <| tL 2 ([.i (((e8 L0) : List RG).getD a3.toNat RG.z).a0, .i (((e8 L0) : List RG).getD a3.toNat RG.z).a1]) <| kLn RA ((e8 L0) : List RG) (a3.toNat) 0 2 <| kB a3.toNat 8 <| xkI a3 (a3.toNat) <| bhT g3 <| bhF g2 w2) bE
 refine Zb (fun g4 => ?_) (fun g4 => ?_)
 · refine Zb (fun g5 => ?_) (fun _ => Zd);refine Zb (fun g6 => ?_) (fun _ => Zd);refine Zb (fun g7 => ?_) (fun _ => Zd);refine Zb (fun g8 => ?_) (fun _ => Zd);refine Zb (fun g9 => ?_) (fun _ => Zd);refine Zb (fun g10 => ?_) (fun _ => Zd);exact Zr [] (bhT g10 <| bhT g9 <| tL 1 ([.i (((e8 L0) : List RG).getD a4.toNat RG.z).a0, .i (((e8 L0) : List RG).getD a4.toNat RG.z).a1]) <| kLn RA ((e8 L0) : List RG) (a4.toNat) 0 2 <| kB a4.toNat 8 <| xkI a4 (a4.toNat) <| tL 2 ([.i (((e8 L0) : List RG).getD a3.toNat RG.z).a0, .i (((e8 L0) : List RG).getD a3.toNat RG.z).a1]) <| kLn RA ((e8 L0) : List RG) (a3.toNat) 0 2 <| kB a3.toNat 8 <| xkI a3 (a3.toNat) <| bhT g4 <| bhF g3 <| bhF g2 w2) bE
 have w5 := bhF g4 <| bhF g3 <| bhF g2 w2
 refine Zb (fun g5 => ?_) (fun g5 => ?_)
 ·
  refine Zb (fun g6 => ?_) (fun _ => Zd);refine Zb (fun g7 => ?_) (fun _ => Zd);have w8 := tL 2 ([.i (((e8 L0) : List RG).getD a3.toNat RG.z).a0, .i (((e8 L0) : List RG).getD a3.toNat RG.z).a1]) <| kLn RA ((e8 L0) : List RG) (a3.toNat) 0 2 <| kB a3.toNat 8 <| xkI a3 (a3.toNat) <| bhT g5 w5
  refine Zb (fun g8 => ?_) (fun _ => Zd);refine Zb (fun g9 => ?_) (fun _ => Zd);have w10 := tL 1 ([.i (((e8 L0) : List RG).getD a4.toNat RG.z).a0, .i (((e8 L0) : List RG).getD a4.toNat RG.z).a1]) <| kLn RA ((e8 L0) : List RG) (a4.toNat) 0 2 <| kB a4.toNat 8 <| xkI a4 (a4.toNat) w8
  refine Zb (fun g10 => ?_) (fun _ => Zd);refine Zb (fun g11 => ?_) (fun _ => Zd);refine Zb (fun g12 => ?_) (fun g12 => ?_)
  · exact Zr [] (tB 1 <| hY g12 <| bhT g11 <| bhT g10 w10) bE
  exact Zr [] (tB 1 <| hN g12 <| bhT g11 <| bhT g10 w10) bE
 refine Zb (fun _ => Zd) (fun g6 => ?_);exact Zr [] (bhF g6 <| bhF g5 w5) bE

theorem Ztv (a5 a6 : Int) (N : Nat) (r : ref14_madeR) (h : Zds L0 a1 a2 a3 a4 a5 a6 N = some r) : LSpec Tryz.prog 106 #[Value.agg (List.toArray (rv8 L0)), Value.agg #[vi a1, vi a2, vi a3, vi a4], Value.agg #[vi a5, vi a6]] [] (ZlF r) (ZkJ r) :=
 ZI Zv Tryz.func106 (by kernel_rfl) (by kernel_rfl) (fun r => by cases r <;> exact ZP _ rfl) (Zw3 L0 a1 a2 a3 a4 a5 a6 N) h

end
theorem Zza {L0 : List RG} {a1 a2 a3 a4 a5 a6 : Int} {N : Nat} {r : ref14_madeR} (h : Zds L0 a1 a2 a3 a4 a5 a6 N = some r) : LSpec Tryz.prog 106 #[Value.agg (List.toArray (rv8 L0)), Value.agg #[vi a1, vi a2, vi a3, vi a4], Value.agg #[vi a5, vi a6]] [] (ZlF r) (ZkJ r) := Ztv L0 a1 a2 a3 a4 a5 a6 N r h

noncomputable def Zn0 : ZeD → Value
 | .r0 w0 => Value.agg (List.toArray (rv8 w0))
noncomputable def ZlG : ZeD → List (Option AObj)
 | .r0 w0 => []

section
variable (L0 : List RG) (a1 a2 a3 : Int)
noncomputable abbrev κe := (((e8 L0) : List RG).set a1.toNat (⟨a2, a3⟩ : RG))
theorem Zzb (N : Nat) : Fx Tryz.prog Ze Tryz.f107 [] #[Value.agg (List.toArray (rv8 L0)), vi a1, Value.agg #[vi a2, vi a3]] (Zn0) (ZlG) (Zh8 L0 a1 a2 a3 N) := by
 unfold Zh8;refine Zb (fun g0 => ?_) (fun g0 => ?_)
 ·
  refine Zb (fun g1 => ?_) (fun g1 => ?_)
  · exact Zr [] (tL 1 ([.i ((κe L0 a1 a2 a3).getD 0 RG.z).a0, .i ((κe L0 a1 a2 a3).getD 0 RG.z).a1, .i ((κe L0 a1 a2 a3).getD 1 RG.z).a0, .i ((κe L0 a1 a2 a3).getD 1 RG.z).a1, .i ((κe L0 a1 a2 a3).getD 2 RG.z).a0, .i ((κe L0 a1 a2 a3).getD 2 RG.z).a1, .i ((κe L0 a1 a2 a3).getD 3 RG.z).a0, .i ((κe L0 a1 a2 a3).getD 3 RG.z).a1, .i ((κe L0 a1 a2 a3).getD 4 RG.z).a0, .i ((κe L0 a1 a2 a3).getD 4 RG.z).a1, .i ((κe L0 a1 a2 a3).getD 5 RG.z).a0, .i ((κe L0 a1 a2 a3).getD 5 RG.z).a1, .i ((κe L0 a1 a2 a3).getD 6 RG.z).a0, .i ((κe L0 a1 a2 a3).getD 6 RG.z).a1, .i ((κe L0 a1 a2 a3).getD 7 RG.z).a0, .i ((κe L0 a1 a2 a3).getD 7 RG.z).a1]) <| kX (ZdQ (Z4 16 (List.drop 0 (Za RA (κe L0 a1 a2 a3)))) [.i ((κe L0 a1 a2 a3).getD 0 RG.z).a0, .i ((κe L0 a1 a2 a3).getD 0 RG.z).a1, .i ((κe L0 a1 a2 a3).getD 1 RG.z).a0, .i ((κe L0 a1 a2 a3).getD 1 RG.z).a1, .i ((κe L0 a1 a2 a3).getD 2 RG.z).a0, .i ((κe L0 a1 a2 a3).getD 2 RG.z).a1, .i ((κe L0 a1 a2 a3).getD 3 RG.z).a0, .i ((κe L0 a1 a2 a3).getD 3 RG.z).a1, .i ((κe L0 a1 a2 a3).getD 4 RG.z).a0, .i ((κe L0 a1 a2 a3).getD 4 RG.z).a1, .i ((κe L0 a1 a2 a3).getD 5 RG.z).a0, .i ((κe L0 a1 a2 a3).getD 5 RG.z).a1, .i ((κe L0 a1 a2 a3).getD 6 RG.z).a0, .i ((κe L0 a1 a2 a3).getD 6 RG.z).a1, .i ((κe L0 a1 a2 a3).getD 7 RG.z).a0, .i ((κe L0 a1 a2 a3).getD 7 RG.z).a1]) true (Zwn (E := RA) (L := (κe L0 a1 a2 a3)) (n := 8) (by first | (simp; done) | omega) rfl rfl rfl) <| tW 0 (.st (Za RA (κe L0 a1 a2 a3))) <| kC (Zbj (E := RA) (L := ((e8 L0) : List RG)) (i := a1.toNat) (q := 0) (l := [vi a2, vi a3]) (⟨a2, a3⟩ : RG) ltA (show (0 + (a1.toNat * 2)) = a1.toNat * 2 + 0 from by omega) (show 0 + 2 ≤ 2 from by decide) rfl) <| kB a1.toNat 8 <| xkI a1 (a1.toNat) <| bhY g1 <| bkY (a1 ≥ 0) Zg) bE
  exact Zr [] (bhN g1 <| bkY (a1 ≥ 0) Zg) bE
 exact Zr [] (bkN (a1 ≥ 0) Zg) bE

theorem ZuE (N : Nat) (r : ZeD) (h : Zh8 L0 a1 a2 a3 N = some r) : LSpec Tryz.prog 107 #[Value.agg (List.toArray (rv8 L0)), vi a1, Value.agg #[vi a2, vi a3]] [] (Zn0 r) (ZlG r) :=
 ZI Zv Tryz.func107 (by kernel_rfl) (by kernel_rfl) (fun r => by cases r <;> exact ZP _ rfl) (Zzb L0 a1 a2 a3 N) h

theorem Z0J {L0 : List RG} {a1 a2 a3 : Int} {N : Nat} {r : ZeD} (h : Zh8 L0 a1 a2 a3 N = some r) : LSpec Tryz.prog 107 #[Value.agg (List.toArray (rv8 L0)), vi a1, Value.agg #[vi a2, vi a3]] [] (Zn0 r) (ZlG r) := ZuE L0 a1 a2 a3 N r h

noncomputable def Zpm : ref14_DoR → Value
 | .r0 w0 w1 => Value.tuple #[Value.agg (List.toArray (rv8 w0)), vi w1, vq]
noncomputable def Zn1 : ref14_DoR → List (Option AObj)
 | .r0 w0 w1 => []

theorem Z0K (a4 a5 a6 a7 : Int) (N : Nat) : Fx Tryz.prog Ze Tryz.f79 [] #[Value.agg (List.toArray (rv8 L0)), vi a1, Value.agg #[vi a2, vi a3, vi a4, vi a5], Value.agg #[vi a6, vi a7]] (Zpm) (Zn1) (ZD L0 a1 a2 a3 a4 a5 a6 a7 N) := by
 unfold ZD;refine Zx (fun z0 c0 => ?_);cases z0 with
 | r0 y0_0 =>
  have w1 := kK (tQ (ZgA c0) 4) Zg;refine Zb (fun _ => Zd) (fun g1 => ?_);have w2 := bkX ((!y0_0)) false nbf w1;refine Zb (fun g2 => ?_) (fun _ => Zd);have w3 := bkY (a2 ≥ 1) w2;refine Zb (fun g3 => ?_) (fun g3 => ?_)
  ·
   refine Zb (fun _ => Zd) (fun g4 => ?_);have w5 := tB 1 <| hN g4 <| bhY g3 w3
   refine Zb (fun _ => Zd) (fun g5 => ?_);have w6 := bkF a2 19 <| bkN (a1 > 511) w5
   refine Zb (fun g6 => ?_) (fun g6 => ?_)
   · exact Zr [] (bhT g6 w6) bE
   refine Zb (fun g7 => ?_) (fun g7 => ?_)
   ·
    refine Zb (fun g8 => ?_) (fun _ => Zd);refine Zb (fun g9 => ?_) (fun _ => Zd);have w10 := tL 6 ([.i (((e8 L0) : List RG).getD a3.toNat RG.z).a0, .i (((e8 L0) : List RG).getD a3.toNat RG.z).a1]) <| kLn RA ((e8 L0) : List RG) (a3.toNat) 0 2 <| kB a3.toNat 8 <| xkI a3 (a3.toNat) <| bhT g7 <| bhF g6 w6
    refine Zb (fun g10 => ?_) (fun g10 => ?_)
    · exact Zr [] (bkZ (((((e8 L0) : List RG).getD a3.toNat RG.z).a0 == 2) && (((((e8 L0) : List RG).getD a3.toNat RG.z).a1 == 0) && true)) w10) bE
    have w11 := bkO (((((e8 L0) : List RG).getD a3.toNat RG.z).a0 == 2) && (((((e8 L0) : List RG).getD a3.toNat RG.z).a1 == 0) && true)) w10;refine Zb (fun g11 => ?_) (fun g11 => ?_)
    · exact Zr [] (bkZ (((((e8 L0) : List RG).getD a3.toNat RG.z).a0 == 1) && (((((e8 L0) : List RG).getD a3.toNat RG.z).a1 == 0) && true)) w11) bE
    exact Zr [] (vkW (a1 + 1) (a1 + 1) <| bkO (((((e8 L0) : List RG).getD a3.toNat RG.z).a0 == 1) && (((((e8 L0) : List RG).getD a3.toNat RG.z).a1 == 0) && true)) w11) bE
   refine Zx (fun z8 c8 => ?_);cases z8 with
   | r0 y8_0 y8_1 =>
    refine Zx (fun z9 c9 => ?_);cases z9 with
    | r0 y9_0 =>
     exact Zr [] (vkW (a1 + 1) (a1 + 1) <| kKg 1 (tQ (Z0J c9) 5) <| kK (tQ (Zza c8) 4) <| bhF g7 <| bhF g6 w6) bE
  refine Zb (fun g4 => ?_) (fun _ => Zd);refine Zb (fun _ => Zd) (fun g5 => ?_);refine Zb (fun _ => Zd) (fun g6 => ?_);exact Zr [] (vkW (a1 + 1) (a1 + 1) <| bhT g4 <| bkN (a1 > 511) <| tB 1 <| hN g5 <| bhT g4 <| bhN g3 w3) bE

theorem Zw4 (a4 a5 a6 a7 : Int) (N : Nat) (r : ref14_DoR) (h : ZD L0 a1 a2 a3 a4 a5 a6 a7 N = some r) : LSpec Tryz.prog 79 #[Value.agg (List.toArray (rv8 L0)), vi a1, Value.agg #[vi a2, vi a3, vi a4, vi a5], Value.agg #[vi a6, vi a7]] [] (Zpm r) (Zn1 r) :=
 ZI Zv Tryz.func79 (by kernel_rfl) (by kernel_rfl) (fun r => by cases r <;> exact ZP _ rfl) (Z0K L0 a1 a2 a3 a4 a5 a6 a7 N) h

end
theorem ZbN {L0 : List RG} {a1 a2 a3 a4 a5 a6 a7 : Int} {N : Nat} {r : ref14_DoR} (h : ZD L0 a1 a2 a3 a4 a5 a6 a7 N = some r) : LSpec Tryz.prog 79 #[Value.agg (List.toArray (rv8 L0)), vi a1, Value.agg #[vi a2, vi a3, vi a4, vi a5], Value.agg #[vi a6, vi a7]] [] (Zpm r) (Zn1 r) := Zw4 L0 a1 a2 a3 a4 a5 a6 a7 N r h

open Mach (oi ok_ite ok_none ok_bind okN enH en_ite en_none)
noncomputable def Ztw (L0 : List RI) (a1 a2 a3 : Int) (L4 L5 : List RG) : ZX → Value
 | .r0 w0 w2 w3 w4 => Value.tuple #[Value.agg (List.toArray ([vi w0, vi a2, vi w2] ++ (rv8 w3 ++ [vs 0 0 w4.length w4.length]))), vT]
noncomputable def Zrq : ZX → List (Option AObj)
 | .r0 w0 w2 w3 w4 => [some (.cells (Za RA w4) 44)]

noncomputable def ZvW (L0 : List RI) (a1 a2 a3 : Int) (L4 L5 : List RG) : ZX → Value
 | .r0 w0 w2 w3 w4 => Value.tuple #[Value.agg (List.toArray ([vi w0, vi a2, vi w2] ++ (rv8 w3 ++ [ms RA w4]))), vT]
noncomputable def Ztx : ZX → List (Option AObj)
 | .r0 w0 w2 w3 w4 => []

def Z2I : ZU → Nat
 | .h1m0 v1 => 1
 | .h1m1 .. => 1
 | .h1m2 .. => 1
noncomputable def Z3G (L0 : List RI) (a1 a2 a3 : Int) (L4 L5 : List RG) : ZU → List (Nat × Value)
 | .h1m0 v1 => [(0, ms RB L0), (3, vp 0 0), (4, vp 1 0), (6, vp 2 0), (7, vs 3 0 v1.length v1.length), (8, vq)]
 | .h1m1 v1 v2 v14 v15 v16 v17 => [(0, ms RB L0), (3, vp 0 0), (4, vp 1 0), (6, vp 2 0), (7, vs 3 0 v1.length v1.length), (8, vi (v2 : Int))]
 | .h1m2 v1 v2 v14 v15 => [(0, ms RB L0), (3, vp 0 0), (4, vp 1 0), (6, vp 2 0), (7, vs 3 0 v1.length v1.length), (8, vi (v2 : Int))]
noncomputable abbrev κbA (v1 : List RG) := (AObj.cells (Za RA v1) 44)
noncomputable abbrev κT (v1 : List RG) := [vs 3 0 v1.length v1.length]
section
variable (a1 a2 a3 : Int) (L4 L5 : List RG)
noncomputable abbrev κi := (AObj.cells (Za3 RA 8 [vi a1, vi a2, vi a3] L4 [ms RA L5]) 65)
end
noncomputable abbrev κc := (AObj.cells (Za3 RA 8 [vq, vq, vq] ([(⟨0, 0⟩ : RG), (⟨0, 0⟩ : RG), (⟨0, 0⟩ : RG), (⟨0, 0⟩ : RG), (⟨0, 0⟩ : RG), (⟨0, 0⟩ : RG), (⟨0, 0⟩ : RG), (⟨0, 0⟩ : RG)] : List RG) [vn]) 65)
noncomputable def Z3H (L0 : List RI) (a1 a2 a3 : Int) (L4 L5 : List RG) : ZU → List (Option AObj)
 | .h1m0 v1 => [some (κi a1 a2 a3 L4 L5), some κc, some (κi a1 a2 a3 L4 L5), some (κbA v1)]
 | .h1m1 v1 v2 v14 v15 v16 v17 => [some (κi a1 a2 a3 L4 L5), some κc, some (.cells (Za3 RA 8 [vi a1, vi a2, vi v14] v15 [vs 4 0 v16 v17]) 65), some (κbA v1), none]
 | .h1m2 v1 v2 v14 v15 => [some (κi a1 a2 a3 L4 L5), some κc, some (.cells (Za3 RA 8 [vi a1, vi a2, vi v14] v15 (κT v1)) 65), some (κbA v1)]

noncomputable def Z3I : Nat → Code × List ZL
 | 1 => Z5 [1, 1, 1, 0, 1, 3] (ZM Tryz.f48) []
 | _ => (.skip, [])

section
variable (L0 : List RI) (a1 a2 a3 : Int) (L4 L5 : List RG)
noncomputable def Zh9 (N : Nat) : Mach := ⟨Tryz.f48, [], ZU, ZX, Zb6 L0 a1 a2 a3 L4 L5 N, Z2I, Z3I, ilT, Z3G L0 a1 a2 a3 L4 L5, Z3H L0 a1 a2 a3 L4 L5, Ztw L0 a1 a2 a3 L4 L5, Zrq⟩

noncomputable abbrev κbV (L0 : List RI) (v1 : List RG) := [some (ms RB L0), some (vp 0 0), some (vp 1 0), some (vp 2 0), some (vs 3 0 v1.length v1.length), some (vi 1)]
noncomputable abbrev κbQ (L0 : List RI) (v1 : List RG) := [some (ms RB L0), some (vp 0 0), some (vp 1 0), some (vp 2 0), some (vs 7 0 (v1.length + 1) (v1.length + 1)), some (vi 1)]
theorem ZuF (v1 : List RG) (N : Nat) : (Zh9 L0 a1 a2 a3 L4 L5 N).Ok Tryz.prog Ze (.h1m0 v1 : ZU) (Zck L0 a1 a2 a3 L4 L5 N v1) := by
 unfold Zck;refine oi fun g0 => ?_;have w1 := tB 1 <| hT g0 Zg
 refine ok_ite (fun g1 => ?_) fun g1 => ?_
 · exact Mach.okF0 [3] (bkY (a3 ≥ (L0.length : Int)) w1) (bR <| bE)
 have w2 := bkN (a3 ≥ (L0.length : Int)) w1;refine oi fun g2 => ?_;have w3 := tL 3 [.i (L0.getD a3.toNat RI.z).a0] <| kG RB L0 ((0 + (a3.toNat * 4)) + 0) (a3.toNat) 0 1 4 <| kB a3.toNat L0.length <| xkI a3 (a3.toNat) w2
 refine ok_ite (fun g3 => ?_) fun g3 => ?_
 · exact Mach.okF0 [3] (bhT g3 w3) (bR <| bE)
 have w4 := tL 1 (RB.cel (L0.getD a3.toNat RI.z)) <| kG RB L0 (0 + (a3.toNat * 4)) (a3.toNat) 0 4 4 <| kB a3.toNat L0.length <| xkI a3 (a3.toNat) <| bhF g3 w3
 refine ok_ite (fun g4 => ?_) fun g4 => ?_
 ·
  have w5 := bkY ((L0.getD a3.toNat RI.z).a0 ≥ 1) w4;refine ok_ite (fun g5 => ?_) fun g5 => ?_
  ·
   refine ok_bind fun z6 c6 => ?_;cases z6 with
   | r0 y6_0 y6_1 y6_2 =>
    refine ok_ite (fun g7 => ?_) fun g7 => ?_
    ·
     subst g7;refine oi fun g8 => ?_;refine ok_bind fun z9 c9 => ?_;cases z9 with
     | r0 y9_0 y9_1 =>
      exact okN [0, 1, 2, 7, 3] (κbQ L0 v1) (kKg 4 (tQ (ZbN c9) 12) <| tW 1 (.ap 1 [vi y6_0, vi y6_1] (Za RA (v1 ++ ([(⟨y6_0, y6_1⟩ : RG)] : List RG)))) <| kA RA v1 (⟨y6_0, y6_1⟩ : RG) <| kKg 2 (tQ (Zbf c6) 5) <| bhY g5 w5) (tC (tC (tC (tC (tC (tC (tE) ⟨Eq.trans (show κK = vi 1 from ci) (by rfl), by rfl⟩) ⟨Eq.trans (show (vs 3 0 (v1 ++ ([(⟨y6_0, y6_1⟩ : RG)] : List RG)).length (v1 ++ ([(⟨y6_0, y6_1⟩ : RG)] : List RG)).length : Value) = vs 3 0 (v1.length + 1) (v1.length + 1) from (Zi rfl eqA eqA)) (by rfl), by rfl⟩))))) (bM (κi a1 a2 a3 L4 L5) <| bM κc <| bM (.cells (Za3 RA 8 [vi a1, vi a2, vi y9_1] y9_0 (κT v1)) 65) <| bR <| bN <| bE)
    obtain rfl : y6_2 = false := by simpa using g7
    refine ok_bind fun z8 c8 => ?_;cases z8 with
    | r0 y8_0 y8_1 =>
     exact okN [0, 1, 2, 3] (κbV L0 v1) (kKg 5 (tQ (ZbN c8) 10) <| kKg 2 (tQ (Zbf c6) 5) <| bhY g5 w5) (tC (tC (tC (tC (tC (tC (tE) ⟨Eq.trans (show κK = vi 1 from ci) (by rfl), by rfl⟩)))))) (bM (κi a1 a2 a3 L4 L5) <| bM κc <| bM (.cells (Za3 RA 8 [vi a1, vi a2, vi y8_1] y8_0 (κT v1)) 65) <| bR <| bE)
  refine ok_ite (fun g6 => ?_) fun g6 => ?_
  ·
   refine ok_bind fun z7 c7 => ?_;cases z7 with
   | r0 y7_0 y7_1 y7_2 =>
    refine ok_ite (fun g8 => ?_) fun g8 => ?_
    ·
     subst g8;refine oi fun g9 => ?_;refine ok_bind fun z10 c10 => ?_;cases z10 with
     | r0 y10_0 y10_1 =>
      exact okN [0, 1, 2, 7, 3] (κbQ L0 v1) (kKg 4 (tQ (ZbN c10) 12) <| tW 1 (.ap 1 [vi y7_0, vi y7_1] (Za RA (v1 ++ ([(⟨y7_0, y7_1⟩ : RG)] : List RG)))) <| kA RA v1 (⟨y7_0, y7_1⟩ : RG) <| kKg 2 (tQ (Zbf c7) 5) <| bhT g6 <| bhN g5 w5) (tC (tC (tC (tC (tC (tC (tE) ⟨Eq.trans (show κK = vi 1 from ci) (by rfl), by rfl⟩) ⟨Eq.trans (show (vs 3 0 (v1 ++ ([(⟨y7_0, y7_1⟩ : RG)] : List RG)).length (v1 ++ ([(⟨y7_0, y7_1⟩ : RG)] : List RG)).length : Value) = vs 3 0 (v1.length + 1) (v1.length + 1) from (Zi rfl eqA eqA)) (by rfl), by rfl⟩))))) (bM (κi a1 a2 a3 L4 L5) <| bM κc <| bM (.cells (Za3 RA 8 [vi a1, vi a2, vi y10_1] y10_0 (κT v1)) 65) <| bR <| bN <| bE)
    obtain rfl : y7_2 = false := by simpa using g8
    refine ok_bind fun z9 c9 => ?_;cases z9 with
    | r0 y9_0 y9_1 =>
     exact okN [0, 1, 2, 3] (κbV L0 v1) (kKg 5 (tQ (ZbN c9) 10) <| kKg 2 (tQ (Zbf c7) 5) <| bhT g6 <| bhN g5 w5) (tC (tC (tC (tC (tC (tC (tE) ⟨Eq.trans (show κK = vi 1 from ci) (by rfl), by rfl⟩)))))) (bM (κi a1 a2 a3 L4 L5) <| bM κc <| bM (.cells (Za3 RA 8 [vi a1, vi a2, vi y9_1] y9_0 (κT v1)) 65) <| bR <| bE)
  exact Mach.okF0 [3] (bhF g6 <| bhN g5 w5) (bR <| bE)
 exact Mach.okF0 [3] (bkF ((L0.getD a3.toNat RI.z).a0) 19 <| bkN ((L0.getD a3.toNat RI.z).a0 ≥ 1) w4) (bR <| bE)

theorem ZuG (v1 : List RG) (v2 : Nat) (v14 : Int) (v15 : List RG) (v16 v17 N : Nat) : (Zh9 L0 a1 a2 a3 L4 L5 N).Ok Tryz.prog Ze (.h1m1 v1 v2 v14 v15 v16 v17 : ZU) (ZdL L0 a1 a2 a3 L4 L5 N v1 v2 v14 v15 v16 v17) := by
 unfold ZdL;refine oi fun g0 => ?_;refine oi fun g1 => ?_;have w2 := bhT g1 <| bhY g0 Zg
 refine ok_ite (fun g2 => ?_) fun g2 => ?_
 · exact Mach.okF0 [3] (bkY (v14 ≥ (L0.length : Int)) w2) (bR <| bE)
 have w3 := bkN (v14 ≥ (L0.length : Int)) w2;refine oi fun g3 => ?_;have w4 := tL 3 [.i (L0.getD (v14).toNat RI.z).a0] <| kG RB L0 ((0 + ((v14).toNat * 4)) + 0) ((v14).toNat) 0 1 4 <| kB (v14).toNat L0.length <| xkI v14 ((v14).toNat) w3
 refine ok_ite (fun g4 => ?_) fun g4 => ?_
 · exact Mach.okF0 [3] (bhT g4 w4) (bR <| bE)
 have w5 := tL 1 (RB.cel (L0.getD (v14).toNat RI.z)) <| kG RB L0 (0 + ((v14).toNat * 4)) ((v14).toNat) 0 4 4 <| kB (v14).toNat L0.length <| xkI v14 ((v14).toNat) <| bhF g4 w4
 refine ok_ite (fun g5 => ?_) fun g5 => ?_
 ·
  have w6 := bkY ((L0.getD (v14).toNat RI.z).a0 ≥ 1) w5;refine ok_ite (fun g6 => ?_) fun g6 => ?_
  ·
   refine ok_ite (fun _ => ok_none) (fun g7 => ?_);refine ok_bind fun z8 c8 => ?_;cases z8 with
   | r0 y8_0 y8_1 y8_2 =>
    refine ok_ite (fun g9 => ?_) fun g9 => ?_
    ·
     subst g9;refine oi fun g10 => ?_;refine ok_bind fun z11 c11 => ?_;cases z11 with
     | r0 y11_0 y11_1 =>
      exact okN [0, 1, 2, 8, 3] [some (ms RB L0), some (vp 0 0), some (vp 1 0), some (vp 2 0), some (vs 8 0 (v1.length + 1) (v1.length + 1)), some (κbn v2)] (tV 2 <| kW ((v2 : Int) + 1) (((v2 + 1) : Nat) : Int) <| kKg 4 (tQ (ZbN c11) 13) <| tW 1 (.ap 1 [vi y8_0, vi y8_1] (Za RA (v1 ++ ([(⟨y8_0, y8_1⟩ : RG)] : List RG)))) <| kA RA v1 (⟨y8_0, y8_1⟩ : RG) <| kKg 2 (tQ (Zbf c8) 6) <| tB 1 <| hF g7 <| bhY g6 w6) (tC (tC (tC (tC (tC (tC (tE)) ⟨Eq.trans (show (vs 3 0 (v1 ++ ([(⟨y8_0, y8_1⟩ : RG)] : List RG)).length (v1 ++ ([(⟨y8_0, y8_1⟩ : RG)] : List RG)).length : Value) = vs 3 0 (v1.length + 1) (v1.length + 1) from (Zi rfl eqA eqA)) (by rfl), by rfl⟩))))) (bM (κi a1 a2 a3 L4 L5) <| bM κc <| bM (.cells (Za3 RA 8 [vi a1, vi a2, vi y11_1] y11_0 (κT v1)) 65) <| bR <| bN <| bE)
    obtain rfl : y8_2 = false := by simpa using g9
    refine ok_bind fun z10 c10 => ?_;cases z10 with
    | r0 y10_0 y10_1 =>
     exact Mach.okN0 [0, 1, 2, 3] (tV 2 <| kW ((v2 : Int) + 1) (((v2 + 1) : Nat) : Int) <| kKg 5 (tQ (ZbN c10) 11) <| kKg 2 (tQ (Zbf c8) 6) <| tB 1 <| hF g7 <| bhY g6 w6) (bM (κi a1 a2 a3 L4 L5) <| bM κc <| bM (.cells (Za3 RA 8 [vi a1, vi a2, vi y10_1] y10_0 (κT v1)) 65) <| bR <| bE)
  refine ok_ite (fun g7 => ?_) fun g7 => ?_
  ·
   refine ok_ite (fun _ => ok_none) (fun g8 => ?_);refine ok_bind fun z9 c9 => ?_;cases z9 with
   | r0 y9_0 y9_1 y9_2 =>
    refine ok_ite (fun g10 => ?_) fun g10 => ?_
    ·
     subst g10;refine oi fun g11 => ?_;refine ok_bind fun z12 c12 => ?_;cases z12 with
     | r0 y12_0 y12_1 =>
      exact okN [0, 1, 2, 8, 3] [some (ms RB L0), some (vp 0 0), some (vp 1 0), some (vp 2 0), some (vs 8 0 (v1.length + 1) (v1.length + 1)), some (κbn v2)] (tV 2 <| kW ((v2 : Int) + 1) (((v2 + 1) : Nat) : Int) <| kKg 4 (tQ (ZbN c12) 13) <| tW 1 (.ap 1 [vi y9_0, vi y9_1] (Za RA (v1 ++ ([(⟨y9_0, y9_1⟩ : RG)] : List RG)))) <| kA RA v1 (⟨y9_0, y9_1⟩ : RG) <| kKg 2 (tQ (Zbf c9) 6) <| tB 1 <| hF g8 <| bhT g7 <| bhN g6 w6) (tC (tC (tC (tC (tC (tC (tE)) ⟨Eq.trans (show (vs 3 0 (v1 ++ ([(⟨y9_0, y9_1⟩ : RG)] : List RG)).length (v1 ++ ([(⟨y9_0, y9_1⟩ : RG)] : List RG)).length : Value) = vs 3 0 (v1.length + 1) (v1.length + 1) from (Zi rfl eqA eqA)) (by rfl), by rfl⟩))))) (bM (κi a1 a2 a3 L4 L5) <| bM κc <| bM (.cells (Za3 RA 8 [vi a1, vi a2, vi y12_1] y12_0 (κT v1)) 65) <| bR <| bN <| bE)
    obtain rfl : y9_2 = false := by simpa using g10
    refine ok_bind fun z11 c11 => ?_;cases z11 with
    | r0 y11_0 y11_1 =>
     exact Mach.okN0 [0, 1, 2, 3] (tV 2 <| kW ((v2 : Int) + 1) (((v2 + 1) : Nat) : Int) <| kKg 5 (tQ (ZbN c11) 11) <| kKg 2 (tQ (Zbf c9) 6) <| tB 1 <| hF g8 <| bhT g7 <| bhN g6 w6) (bM (κi a1 a2 a3 L4 L5) <| bM κc <| bM (.cells (Za3 RA 8 [vi a1, vi a2, vi y11_1] y11_0 (κT v1)) 65) <| bR <| bE)
  exact Mach.okF0 [3] (bhF g7 <| bhN g6 w6) (bR <| bE)
 exact Mach.okF0 [3] (bkF ((L0.getD (v14).toNat RI.z).a0) 19 <| bkN ((L0.getD (v14).toNat RI.z).a0 ≥ 1) w5) (bR <| bE)

theorem ZuH (v1 : List RG) (v2 : Nat) (v14 : Int) (v15 : List RG) (N : Nat) : (Zh9 L0 a1 a2 a3 L4 L5 N).Ok Tryz.prog Ze (.h1m2 v1 v2 v14 v15 : ZU) (ZdM L0 a1 a2 a3 L4 L5 N v1 v2 v14 v15) := by
 unfold ZdM;refine oi fun g0 => ?_;refine oi fun g1 => ?_;have w2 := bhT g1 <| bhY g0 Zg
 refine ok_ite (fun g2 => ?_) fun g2 => ?_
 · exact Mach.okF0 [3] (bkY (v14 ≥ (L0.length : Int)) w2) (bR <| bE)
 have w3 := bkN (v14 ≥ (L0.length : Int)) w2;refine oi fun g3 => ?_;have w4 := tL 3 [.i (L0.getD (v14).toNat RI.z).a0] <| kG RB L0 ((0 + ((v14).toNat * 4)) + 0) ((v14).toNat) 0 1 4 <| kB (v14).toNat L0.length <| xkI v14 ((v14).toNat) w3
 refine ok_ite (fun g4 => ?_) fun g4 => ?_
 · exact Mach.okF0 [3] (bhT g4 w4) (bR <| bE)
 have w5 := tL 1 (RB.cel (L0.getD (v14).toNat RI.z)) <| kG RB L0 (0 + ((v14).toNat * 4)) ((v14).toNat) 0 4 4 <| kB (v14).toNat L0.length <| xkI v14 ((v14).toNat) <| bhF g4 w4
 refine ok_ite (fun g5 => ?_) fun g5 => ?_
 ·
  have w6 := bkY ((L0.getD (v14).toNat RI.z).a0 ≥ 1) w5;refine ok_ite (fun g6 => ?_) fun g6 => ?_
  ·
   refine ok_ite (fun _ => ok_none) (fun g7 => ?_);refine ok_bind fun z8 c8 => ?_;cases z8 with
   | r0 y8_0 y8_1 y8_2 =>
    refine ok_ite (fun g9 => ?_) fun g9 => ?_
    ·
     subst g9;refine oi fun g10 => ?_;refine ok_bind fun z11 c11 => ?_;cases z11 with
     | r0 y11_0 y11_1 =>
      exact okN [0, 1, 2, 7, 3] [some (ms RB L0), some (vp 0 0), some (vp 1 0), some (vp 2 0), some (vs 7 0 (v1.length + 1) (v1.length + 1)), some (κbn v2)] (tV 2 <| kW ((v2 : Int) + 1) (((v2 + 1) : Nat) : Int) <| kKg 4 (tQ (ZbN c11) 12) <| tW 1 (.ap 1 [vi y8_0, vi y8_1] (Za RA (v1 ++ ([(⟨y8_0, y8_1⟩ : RG)] : List RG)))) <| kA RA v1 (⟨y8_0, y8_1⟩ : RG) <| kKg 2 (tQ (Zbf c8) 5) <| tB 1 <| hF g7 <| bhY g6 w6) (tC (tC (tC (tC (tC (tC (tE)) ⟨Eq.trans (show (vs 3 0 (v1 ++ ([(⟨y8_0, y8_1⟩ : RG)] : List RG)).length (v1 ++ ([(⟨y8_0, y8_1⟩ : RG)] : List RG)).length : Value) = vs 3 0 (v1.length + 1) (v1.length + 1) from (Zi rfl eqA eqA)) (by rfl), by rfl⟩))))) (bM (κi a1 a2 a3 L4 L5) <| bM κc <| bM (.cells (Za3 RA 8 [vi a1, vi a2, vi y11_1] y11_0 (κT v1)) 65) <| bR <| bN <| bE)
    obtain rfl : y8_2 = false := by simpa using g9
    refine ok_bind fun z10 c10 => ?_;cases z10 with
    | r0 y10_0 y10_1 =>
     exact Mach.okN0 [0, 1, 2, 3] (tV 2 <| kW ((v2 : Int) + 1) (((v2 + 1) : Nat) : Int) <| kKg 5 (tQ (ZbN c10) 10) <| kKg 2 (tQ (Zbf c8) 5) <| tB 1 <| hF g7 <| bhY g6 w6) (bM (κi a1 a2 a3 L4 L5) <| bM κc <| bM (.cells (Za3 RA 8 [vi a1, vi a2, vi y10_1] y10_0 (κT v1)) 65) <| bR <| bE)
  refine ok_ite (fun g7 => ?_) fun g7 => ?_
  ·
   refine ok_ite (fun _ => ok_none) (fun g8 => ?_);refine ok_bind fun z9 c9 => ?_;cases z9 with
   | r0 y9_0 y9_1 y9_2 =>
    refine ok_ite (fun g10 => ?_) fun g10 => ?_
    ·
     subst g10;refine oi fun g11 => ?_;refine ok_bind fun z12 c12 => ?_;cases z12 with
     | r0 y12_0 y12_1 =>
      exact okN [0, 1, 2, 7, 3] [some (ms RB L0), some (vp 0 0), some (vp 1 0), some (vp 2 0), some (vs 7 0 (v1.length + 1) (v1.length + 1)), some (κbn v2)] (tV 2 <| kW ((v2 : Int) + 1) (((v2 + 1) : Nat) : Int) <| kKg 4 (tQ (ZbN c12) 12) <| tW 1 (.ap 1 [vi y9_0, vi y9_1] (Za RA (v1 ++ ([(⟨y9_0, y9_1⟩ : RG)] : List RG)))) <| kA RA v1 (⟨y9_0, y9_1⟩ : RG) <| kKg 2 (tQ (Zbf c9) 5) <| tB 1 <| hF g8 <| bhT g7 <| bhN g6 w6) (tC (tC (tC (tC (tC (tC (tE)) ⟨Eq.trans (show (vs 3 0 (v1 ++ ([(⟨y9_0, y9_1⟩ : RG)] : List RG)).length (v1 ++ ([(⟨y9_0, y9_1⟩ : RG)] : List RG)).length : Value) = vs 3 0 (v1.length + 1) (v1.length + 1) from (Zi rfl eqA eqA)) (by rfl), by rfl⟩))))) (bM (κi a1 a2 a3 L4 L5) <| bM κc <| bM (.cells (Za3 RA 8 [vi a1, vi a2, vi y12_1] y12_0 (κT v1)) 65) <| bR <| bN <| bE)
    obtain rfl : y9_2 = false := by simpa using g10
    refine ok_bind fun z11 c11 => ?_;cases z11 with
    | r0 y11_0 y11_1 =>
     exact Mach.okN0 [0, 1, 2, 3] (tV 2 <| kW ((v2 : Int) + 1) (((v2 + 1) : Nat) : Int) <| kKg 5 (tQ (ZbN c11) 10) <| kKg 2 (tQ (Zbf c9) 5) <| tB 1 <| hF g8 <| bhT g7 <| bhN g6 w6) (bM (κi a1 a2 a3 L4 L5) <| bM κc <| bM (.cells (Za3 RA 8 [vi a1, vi a2, vi y11_1] y11_0 (κT v1)) 65) <| bR <| bE)
  exact Mach.okF0 [3] (bhF g7 <| bhN g6 w6) (bR <| bE)
 exact Mach.okF0 [3] (bkF ((L0.getD (v14).toNat RI.z).a0) 19 <| bkN ((L0.getD (v14).toNat RI.z).a0 ≥ 1) w5) (bR <| bE)

noncomputable abbrev κ1 := #[ms RB L0, Value.agg (List.toArray ([vi a1, vi a2, vi a3] ++ (rv8 L4 ++ [ms RA L5])))]
theorem Z0L (N : Nat) : (Zh9 L0 a1 a2 a3 L4 L5 N).Enter Tryz.prog Ze (κ1 L0 a1 a2 a3 L4 L5) (ZhQ L0 a1 a2 a3 L4 L5 N) := by
 unfold ZhQ;refine en_ite (fun g0 => ?_) (fun g0 => ?_)
 · exact enH [0, 1, 2, 3] [some (ms RB L0), some (vp 0 0), some (vp 1 0), some (vp 2 0), some (vs 3 0 0 0), some (vq)] (tW 3 (.ap0) <| kX (dP (0 = L5.length ∧ ((L5.length * 2 = 0 ∧ ([] : List Value) = []) ∨ ∃ c, L5.length * 2 ≠ 0 ∧ ZS (code (Z9 RA L5)) 0 (L5.length * 2) = some c ∧ ([] : List Value) = Zm c))) true (Zn ⟨by omega, .inl ⟨by omega, rfl⟩⟩) Zg) (tC (tC (tC (tC (tC (tC (tE)) ⟨Eq.trans (show (vs 3 0 ([] : List RG).length ([] : List RG).length : Value) = vs 3 0 0 0 from (Zi rfl eqA eqA)) (by rfl), by rfl⟩))))) (bM (κi a1 a2 a3 L4 L5) <| bM κc <| bM (κi a1 a2 a3 L4 L5) <| bC (o := .cells [] 44) (Zz (E := RA) _ (L := ([] : List RG)) _ (show ([] : List Value) = Za RA ([] : List RG) from rfl)) <| bE)
 refine en_ite (fun g1 => ?_) (fun _ => en_none);exact enH [0, 1, 2, 4] [some (ms RB L0), some (vp 0 0), some (vp 1 0), some (vp 2 0), some (vs 4 0 (0 + L5.length) (0 + L5.length)), some (vq)] (tW 3 (.ap L5.length (Za RA L5) (Za RA L5)) <| kX (dP ((L5.length = L5.length ∧ ((L5.length * 2 = 0 ∧ (Za RA L5) = []) ∨ ∃ c, L5.length * 2 ≠ 0 ∧ ZS (code (Z9 RA L5)) 0 (L5.length * 2) = some c ∧ (Za RA L5) = Zm c)) ∧ 0 < L5.length ∧ L5.length ≤ 100000 ∧ 0 < 0 + L5.length ∧ 0 ≤ 100000 ∧ 0 * 2 ≤ (List.length []) ∧ List.take (0 * 2) [] ++ (Za RA L5) = (Za RA L5))) true (Zn ⟨⟨rfl, (Zc5 (E := RA) (L := L5) (n := L5.length) (size := 2) rfl (by decide) (by omega))⟩, by omega, by omega, ltA, by omega, (Zar (E := RA) (L := ([] : List RG)) (M := L5) (n := 0) (show _ = _ * 2 from rfl) ltA (R := L5) (by rw [List.take_of_length_le ltA]; rfl))⟩) Zg) (tC (tC (tC (tC (tC (tC (tE)) ⟨Eq.trans (show (vs 3 0 L5.length L5.length : Value) = vs 3 0 (0 + L5.length) (0 + L5.length) from (Zi rfl eqA eqA)) (by rfl), by rfl⟩))))) (bM (κi a1 a2 a3 L4 L5) <| bM κc <| bM (κi a1 a2 a3 L4 L5) <| bR <| bE)

theorem ZuI (N : Nat) (r : ZX) (h : Zcs L0 a1 a2 a3 L4 L5 N = some r) : LSpec Tryz.prog 48 (κ1 L0 a1 a2 a3 L4 L5) [] (Ztw L0 a1 a2 a3 L4 L5 r) (Zrq r) :=
 Mach.specT Zv (Zh9 L0 a1 a2 a3 L4 L5 N) Tryz.func48 (fun x => (show (Zh9 L0 a1 a2 a3 L4 L5 N).Ok Tryz.prog Ze x (Zb6 L0 a1 a2 a3 L4 L5 N x) from by
  cases x with
  | h1m0 v1 => exact ZuF L0 a1 a2 a3 L4 L5 v1 N
  | h1m1 v1 v2 v14 v15 v16 v17 => exact ZuG L0 a1 a2 a3 L4 L5 v1 v2 v14 v15 v16 v17 N
  | h1m2 v1 v2 v14 v15 => exact ZuH L0 a1 a2 a3 L4 L5 v1 v2 v14 v15 N
  )) (Z0L L0 a1 a2 a3 L4 L5 N) h

theorem Zw5 (N : Nat) (r : ZX) (h : Zcs L0 a1 a2 a3 L4 L5 N = some r) : LSpec Tryz.prog 48 (κ1 L0 a1 a2 a3 L4 L5) [] (ZvW L0 a1 a2 a3 L4 L5 r) (Ztx r) := by
 have h0 := ZuI L0 a1 a2 a3 L4 L5 N r h;cases r with
 | r0 w0 w2 w3 w4 => exact (LSpec.frzv (E := RA) (L := w4) (post := []) (v2 := Value.tuple #[Value.agg (List.toArray ([vi w0, vi a2, vi w2] ++ (rv8 w3 ++ [ms RA w4]))), vT]) h0 (show 0 ≤ 0 from by decide) (show 0 < 1000000000 from by decide) trivial rfl rfl rfl)

end
theorem Zn2 {L0 : List RI} {a1 a2 a3 : Int} {L4 L5 : List RG} {N : Nat} {r : ZX} (h : Zcs L0 a1 a2 a3 L4 L5 N = some r) : LSpec Tryz.prog 48 (κ1 L0 a1 a2 a3 L4 L5) [] (ZvW L0 a1 a2 a3 L4 L5 r) (Ztx r) := Zw5 L0 a1 a2 a3 L4 L5 N r h

noncomputable def Zpn (L0 : List (List RI)) (L1 : List RL) (L2 : List RJ) (a3 : Int) : Zc9 → Value
 | .r0 => Value.tuple #[Value.agg #[vq, vq, vq, vq, vq, vq, vq, vq, vq, vq, vq, vq, vq, vq, vq, vq, vq, vq, vq, vn], vq]
 | .r1 w0 w2 w3 w4 => Value.tuple #[Value.agg (List.toArray ([vi w0, vi (L1.getD a3.toNat RL.z).a1, vi w2] ++ (rv8 w3 ++ [ms RA w4]))), vi 2]
noncomputable def ZnP : Zc9 → List (Option AObj)
 | .r0 => []
 | .r1 w0 w2 w3 w4 => []

noncomputable abbrev κbR := #[Value.agg #[vq, vq, vq, vq, vq, vq, vq, vq, vq, vq, vq, vq, vq, vq, vq, vq, vq, vq, vq, ms RA ([] : List RG)], vq]
noncomputable def Zrr (L0 : List (List RI)) (L1 : List RL) (L2 : List RJ) (a3 : Int) : Zc9 → Value
 | .r0 => Value.tuple κbR
 | .r1 w0 w2 w3 w4 => Value.tuple #[Value.agg (List.toArray ([vi w0, vi (L1.getD a3.toNat RL.z).a1, vi w2] ++ (rv8 w3 ++ [ms RA w4]))), vi 2]
noncomputable def Zpo : Zc9 → List (Option AObj)
 | .r0 => []
 | .r1 w0 w2 w3 w4 => []

section
variable (L0 : List (List RI)) (L1 : List RL) (L2 : List RJ)
noncomputable abbrev κf := [ms (Zp RB) L0, ms RE L1, ms RC L2]
noncomputable abbrev κd := #[ms (Zp RB) L0, ms RE L1, ms RC L2]
theorem Zw6 (a3 : Int) (N : Nat) : Fx Tryz.prog Ze Tryz.f22 [] #[Value.agg (κd L0 L1 L2), vi a3] (Zpn L0 L1 L2 a3) (ZnP) (ZcG L0 L1 L2 a3 N) := by
 unfold ZcG;refine Zb (fun _ => Zd) (fun g0 => ?_);refine Zb (fun _ => Zd) (fun g1 => ?_);have w2 := tL 2 [.i (L1.getD a3.toNat RL.z).a0] <| kG RE L1 ((0 + (a3.toNat * 20)) + 0) (a3.toNat) 0 1 20 <| kB a3.toNat L1.length <| xkI a3 (a3.toNat) <| bkN (a3 ≥ (L1.length : Int)) <| bhN g0 Zg
 refine Zb (fun _ => Zd) (fun g2 => ?_);have w3 := bkE ((L1.getD a3.toNat RL.z).a0) 0 w2;refine Zb (fun g3 => ?_) (fun _ => Zd);have w4 := tL 1 (RE.cel (L1.getD a3.toNat RL.z)) <| kG RE L1 (0 + (a3.toNat * 20)) (a3.toNat) 0 20 20 <| kB a3.toNat L1.length <| xkI a3 (a3.toNat) <| tL 1 ([(mc RB (L0.getD a3.toNat []))]) <| kG (Zp RB) L0 (0 + (a3.toNat * 1)) (a3.toNat) 0 1 1 <| kB a3.toNat L0.length <| xkI a3 (a3.toNat) w3
 refine Zx (fun z4 c4 => ?_);cases z4 with
 | r0 y4_0 y4_1 y4_2 y4_3 =>
  refine Zb (fun g5 => ?_) (fun g5 => ?_)
  · exact Zr [] (tB 1 <| hD g5 <| kKg 1 (tQ (Zn2 c4) 2) w4) bE
  refine Zb (fun g6 => ?_) (fun _ => Zd);refine Zb (fun g7 => ?_) (fun _ => Zd);refine Zb (fun g8 => ?_) (fun _ => Zd);exact Zr [] (bhT g8 <| tL 1 ([.i ((L0.getD a3.toNat []).getD (y4_1).toNat RI.z).a0]) <| kG RB (L0.getD a3.toNat []) ((0 + ((y4_1).toNat * 4)) + 0) ((y4_1).toNat) 0 1 4 <| kB (y4_1).toNat (L0.getD a3.toNat []).length <| xkI y4_1 ((y4_1).toNat) <| tL 2 ([(mc RB (L0.getD a3.toNat []))]) <| kG (Zp RB) L0 (0 + (a3.toNat * 1)) (a3.toNat) 0 1 1 <| kB a3.toNat L0.length <| xkI a3 (a3.toNat) <| tB 1 <| kE y4_0 0 <| kKg 1 (tQ (Zn2 c4) 2) w4) bE

theorem ZrQ (a3 : Int) (N : Nat) (r : Zc9) (h : ZcG L0 L1 L2 a3 N = some r) : LSpec Tryz.prog 22 #[Value.agg (κd L0 L1 L2), vi a3] [] (Zpn L0 L1 L2 a3 r) (ZnP r) :=
 ZI Zv Tryz.func22 (by kernel_rfl) (by kernel_rfl) (fun r => by cases r <;> exact ZP _ rfl) (Zw6 L0 L1 L2 a3 N) h

theorem Zty (a3 : Int) (N : Nat) (r : Zc9) (h : ZcG L0 L1 L2 a3 N = some r) : LSpec Tryz.prog 22 #[Value.agg (κd L0 L1 L2), vi a3] [] (Zrr L0 L1 L2 a3 r) (Zpo r) := by
 have h0 := ZrQ L0 L1 L2 a3 N r h;cases r with
 | r0 => exact (LSpec.nlv (v2 := Value.tuple κbR) h0 rfl rfl)
 | r1 _ _ _ _ => exact h0

end
theorem Zil {L0 : List (List RI)} {L1 : List RL} {L2 : List RJ} {a3 : Int} {N : Nat} {r : Zc9} (h : ZcG L0 L1 L2 a3 N = some r) : LSpec Tryz.prog 22 #[Value.agg (κd L0 L1 L2), vi a3] [] (Zrr L0 L1 L2 a3 r) (Zpo r) := Zty L0 L1 L2 a3 N r h

noncomputable def Zpp : Zd3 → Value
 | .r0 w0 => Value.bool w0
noncomputable def Zn3 : Zd3 → List (Option AObj)
 | .r0 w0 => []

section
variable (a0 a1 : Int) (N : Nat)
theorem Z0M : Fx Tryz.prog Ze Tryz.f100 [] #[Value.agg #[vi a0, vi a1]] (Zpp) (Zn3) (Zb7 a0 a1 N) := by
 unfold Zb7;refine Zb (fun g0 => ?_) (fun g0 => ?_)
 · exact Zr [] (bhT g0 Zg) bE
 refine Zb (fun g1 => ?_) (fun _ => Zd);have w2 := bhT g1 <| bhF g0 Zg
 refine Zb (fun g2 => ?_) (fun g2 => ?_)
 · exact Zr [] (bhT g2 w2) bE
 refine Zb (fun g3 => ?_) (fun g3 => ?_)
 ·
  have w4 := bkY (a1 ≥ 1048576) <| bhF g2 w2
  refine Zb (fun g4 => ?_) (fun _ => Zd);refine Zb (fun g5 => ?_) (fun g5 => ?_)
  ·
   have w6 := vkM a1 1048576 <| bhY g5 <| vkV a1 1048576 w4
   refine Zb (fun g6 => ?_) (fun g6 => ?_)
   · exact Zr [] (bkY ((a1 % 1048576) ≥ 1) w6) bE
   exact Zr [] (bkN ((a1 % 1048576) ≥ 1) w6) bE
  exact Zr [] (bhN g5 <| vkV a1 1048576 w4) bE
 exact Zr [] (bkN (a1 ≥ 1048576) <| bhF g2 w2) bE

theorem Zw7 (r : Zd3) (h : Zb7 a0 a1 N = some r) : LSpec Tryz.prog 100 #[Value.agg #[vi a0, vi a1]] [] (Zpp r) (Zn3 r) :=
 ZI Zv Tryz.func100 (by kernel_rfl) (by kernel_rfl) (fun r => by cases r <;> exact ZP _ rfl) (Z0M a0 a1 N) h

end
theorem ZeN {a0 a1 : Int} {N : Nat} {r : Zd3} (h : Zb7 a0 a1 N = some r) : LSpec Tryz.prog 100 #[Value.agg #[vi a0, vi a1]] [] (Zpp r) (Zn3 r) := Zw7 a0 a1 N r h

noncomputable def Zpq : ZcH → Value
 | .r0 => vf
section
variable (L0 : List RG)
noncomputable abbrev κbB := (AObj.cells (Za RA L0) 44 true)
noncomputable def ZnQ (n1 n2 : Nat) (a3 a4 : Int) : ZcH → List (Option AObj)
 | .r0 => [some (κbB L0)]

def Zw8 : Zbn → Nat
 | .h1m0 v3 => 1
noncomputable def Zzc (L0 : List RG) (n1 n2 : Nat) (a3 a4 : Int) : Zbn → List (Nat × Value)
 | .h1m0 v3 => [(0, vs 0 0 n1 n2), (3, vp 1 0), (5, vi (v3 : Int))]
noncomputable def Zzd (n1 n2 : Nat) (a3 a4 : Int) : Zbn → List (Option AObj)
 | .h1m0 v3 => [some (κbB L0), some (.cells [vi a3, vi a4] 44)]

noncomputable def Zze : Nat → Code × List ZL
 | 1 => Z5 [1, 0, 1, 3] (ZM Tryz.f101) []
 | _ => (.skip, [])

noncomputable abbrev κbC := [AObj.cells (Za RA L0) 44 true]
end
section
variable (L0 : List RG) (n1 n2 : Nat) (a3 a4 : Int)
noncomputable def Zim (N : Nat) : Mach := ⟨Tryz.f101, (κbC L0), Zbn, ZcH, ZfP L0 n1 n2 a3 a4 N, Zw8, Zze, ilT, Zzc L0 n1 n2 a3 a4, Zzd L0 n1 n2 a3 a4, Zpq, ZnQ L0 n1 n2 a3 a4⟩

theorem ZqA (v3 N : Nat) : (Zim L0 n1 n2 a3 a4 N).Ok Tryz.prog Ze (.h1m0 v3 : Zbn) (Zct L0 n1 n2 a3 a4 N v3) := by
 unfold Zct;refine ok_ite (fun g0 => ?_) fun g0 => ?_
 · refine oi fun g1 => ?_;refine ok_ite (fun _ => ok_none) (fun g2 => ?_);refine oi fun g3 => ?_;exact Mach.okN0 [0, 1] (vkW ((v3 : Int) + 1) (((v3 + 1) : Nat) : Int) <| bkO (((L0.getD v3 RG.z).a0 == a3) && (((L0.getD v3 RG.z).a1 == a4) && true)) <| Za2 RA L0 v3 0 2 <| kB v3 n1 <| xkI (v3 : Int) v3 <| bhY g0 Zg) (bQ <| bS [vi a3, vi a4] <| bE)
 exact Mach.okF0 [0] (bhN g0 Zg) (bQ <| bE)

theorem ZuJ (N : Nat) : (Zim L0 n1 n2 a3 a4 N).Enter Tryz.prog Ze #[vs 0 0 n1 n2, Value.agg #[vi a3, vi a4]] (Zj1 L0 n1 n2 a3 a4 N) := by unfold Zj1;exact enH [0, 1] [some (vs 0 0 n1 n2), some (vp 1 0), some (vq)] Zg (tC (tC (tC (tE) ⟨Eq.trans (show κg = vq from ci) (by rfl), by rfl⟩))) (bQ <| bS [vi a3, vi a4] <| bE)

theorem ZrR (N : Nat) (r : ZcH) (h : ZfJ L0 n1 n2 a3 a4 N = some r) : LSpec Tryz.prog 101 #[vs 0 0 n1 n2, Value.agg #[vi a3, vi a4]] (κbC L0) (Zpq r) (ZnQ L0 n1 n2 a3 a4 r) :=
 Mach.specT Zv (Zim L0 n1 n2 a3 a4 N) Tryz.func101 (fun x => (show (Zim L0 n1 n2 a3 a4 N).Ok Tryz.prog Ze x (ZfP L0 n1 n2 a3 a4 N x) from by
  cases x with
  | h1m0 v3 => exact ZqA L0 n1 n2 a3 a4 v3 N
  )) (ZuJ L0 n1 n2 a3 a4 N) h

end
noncomputable def Zw9 {L0 : List RG} {n1 n2 : Nat} {a3 a4 : Int} {N : Nat} (h : ZfJ L0 n1 n2 a3 a4 N = some (.r0)) (ks : List Nat) (n : Nat) : ToldS := ⟨#[vs (nth ks 0) 0 n1 n2, Value.agg #[vi a3, vi a4]], [((nth ks 0), .cells (Za RA L0) 44 true)], vf, [], 0⟩

theorem ZwA {L0 : List RG} {n1 n2 : Nat} {a3 a4 : Int} {N : Nat} (h : ZfJ L0 n1 n2 a3 a4 N = some (.r0)) (ks : List Nat) (n : Nat) (hk : ks.length = 1 := by rfl) (hnd : ks.Nodup := by decide +kernel) (hlt : ∀ k ∈ ks, k < n := by decide +kernel) : (Zw9 (N := N)  h ks n).P Tryz.prog 101 n :=
 match ks, hk, hnd, hlt with
 | [k0], _, hnd, hlt => Zcj (show LSpec Tryz.prog 101 #[vs 0 0 n1 n2, Value.agg #[vi a3, vi a4]] (κbC L0) (vf) [some (κbB L0)] from ZrR L0 n1 n2 a3 a4 N _ h) _ n [] hnd hlt

noncomputable def ZkK : ZbY → Value
 | .r0 => vf
noncomputable def ZjG : ZbY → List (Option AObj)
 | .r0 => []

def ZwB : Zbo → Nat
 | .h1m0 v1 => 1
noncomputable def Zzf (L0 : List RJ) (a1 a2 : Int) : Zbo → List (Nat × Value)
 | .h1m0 v1 => [(0, ms RC L0), (3, vp 0 0), (5, vi (v1 : Int))]
noncomputable def Zzg (L0 : List RJ) (a1 a2 : Int) : Zbo → List (Option AObj)
 | .h1m0 v1 => [some (.cells [vi a1, vi a2] 44)]

noncomputable def Zzh : Nat → Code × List ZL
 | 1 => Z5 [1, 0, 1, 3] (ZM Tryz.f102) []
 | _ => (.skip, [])

section
variable (L0 : List RJ) (a1 a2 : Int)
noncomputable def Zin (N : Nat) : Mach := ⟨Tryz.f102, [], Zbo, ZbY, ZfQ L0 a1 a2 N, ZwB, Zzh, ilT, Zzf L0 a1 a2, Zzg L0 a1 a2, ZkK, ZjG⟩

theorem ZqB (v1 N : Nat) : (Zin L0 a1 a2 N).Ok Tryz.prog Ze (.h1m0 v1 : Zbo) (Zcu L0 a1 a2 N v1) := by
 unfold Zcu;refine ok_ite (fun g0 => ?_) fun g0 => ?_
 · refine ok_ite (fun _ => ok_none) (fun g1 => ?_);refine oi fun g2 => ?_;exact Mach.okN0 [0] (vkW ((v1 : Int) + 1) (((v1 + 1) : Nat) : Int) <| bkO (((L0.getD v1 RJ.z).a0 == a1) && (((L0.getD v1 RJ.z).a1 == a2) && true)) <| lkG RC L0 ((0 + (v1 * 8)) + 0) v1 0 2 8 <| kB v1 L0.length <| xkI (v1 : Int) v1 <| bhY g0 Zg) (bS [vi a1, vi a2] <| bE)
 exact Mach.okF0 [] (bhN g0 Zg) bE

noncomputable abbrev κr := #[ms RC L0, Value.agg #[vi a1, vi a2]]
theorem ZuK (N : Nat) : (Zin L0 a1 a2 N).Enter Tryz.prog Ze (κr L0 a1 a2) (Zj2 L0 a1 a2 N) := by unfold Zj2;exact enH [0] [some (ms RC L0), some (vp 0 0), some (vq)] Zg (tC (tC (tC (tE) ⟨Eq.trans (show κg = vq from ci) (by rfl), by rfl⟩))) (bS [vi a1, vi a2] <| bE)

theorem ZrS (N : Nat) (r : ZbY) (h : ZfK L0 a1 a2 N = some r) : LSpec Tryz.prog 102 (κr L0 a1 a2) [] (ZkK r) (ZjG r) :=
 Mach.specT Zv (Zin L0 a1 a2 N) Tryz.func102 (fun x => (show (Zin L0 a1 a2 N).Ok Tryz.prog Ze x (ZfQ L0 a1 a2 N x) from by
  cases x with
  | h1m0 v1 => exact ZqB L0 a1 a2 v1 N
  )) (ZuK L0 a1 a2 N) h

end
theorem ZnR {L0 : List RJ} {a1 a2 : Int} {N : Nat} {r : ZbY} (h : ZfK L0 a1 a2 N = some r) : LSpec Tryz.prog 102 (κr L0 a1 a2) [] (ZkK r) (ZjG r) := ZrS L0 a1 a2 N r h

noncomputable def Zpr : ZcI → Value
 | .r0 => vT
noncomputable def ZnS (L0 : List (List RI)) (L1 : List RL) (L2 : List RJ) (L3 : List RG) : ZcI → List (Option AObj)
 | .r0 => [some (.cells (Za RA L3) 44 true)]

def ZwC : Zbp → Nat
 | .h1m0 v1 => 1
noncomputable def Zzi (L0 : List (List RI)) (L1 : List RL) (L2 : List RJ) (L3 : List RG) : Zbp → List (Nat × Value)
 | .h1m0 v1 => [(1, vs 0 0 L3.length L3.length), (2, vp 1 0), (5, vi (v1 : Int))]
section
variable (L0 : List (List RI)) (L1 : List RL) (L2 : List RJ) (L3 : List RG)
noncomputable def Zzj : Zbp → List (Option AObj)
 | .h1m0 v1 => [some (.cells (Za RA L3) 44 true), some (.cells (κf L0 L1 L2) 34)]

noncomputable def Zzk : Nat → Code × List ZL
 | 1 => Z5 [1, 0, 1, 3] (ZM Tryz.f75) []
 | _ => (.skip, [])

noncomputable def Zio (N : Nat) : Mach := ⟨Tryz.f75, [.cells (Za RA L3) 44 true], Zbp, ZcI, ZfR L0 L1 L2 L3 N, ZwC, Zzk, ilT, Zzi L0 L1 L2 L3, Zzj L0 L1 L2 L3, Zpr, ZnS L0 L1 L2 L3⟩

theorem ZqC (v1 N : Nat) : (Zio L0 L1 L2 L3 N).Ok Tryz.prog Ze (.h1m0 v1 : Zbp) (Zcv L0 L1 L2 L3 N v1) := by
 unfold Zcv;refine ok_ite (fun g0 => ?_) fun g0 => ?_
 ·
  refine ok_ite (fun _ => ok_none) (fun g1 => ?_);refine ok_bind fun z2 c2 => ?_;cases z2 with
  | r0 y2_0 =>
   refine ok_ite (fun _ => ok_none) (fun g3 => ?_);refine ok_ite (fun _ => ok_none) (fun g4 => ?_);refine ok_bind fun z5 c5 => ?_;cases z5 with
   | r0 =>
    refine ok_bind fun z6 c6 => ?_;cases z6 with
    | r0 =>
     refine oi fun g7 => ?_;exact Mach.okN0 [0, 1] (vkW ((v1 : Int) + 1) (((v1 + 1) : Nat) : Int) <| kK (tQ (ZnR c6) 2) <| tL 1 (RA.cel (L3.getD v1 RG.z)) <| kLn RA L3 v1 0 2 <| kB v1 L3.length <| xkI (v1 : Int) v1 <| kKb (A := #[Value.slice (some ⟨0, (0 + (0 * 2)), none⟩) (v1 - 0) (L3.length - 0), Value.agg #[vi (L3.getD v1 RG.z).a0, vi (L3.getD v1 RG.z).a1]]) (Zem (Zw (Zi eqA rfl rfl) (cr rfl))) (ZwA c5 [0] 2) <| kR (Za RA L3) <| Za2 RA L3 v1 0 2 <| kB v1 L3.length <| xkI (v1 : Int) v1 <| kX (dP (0 ≤ v1 ∧ v1 ≤ L3.length)) true (Zn ⟨ltA, ltA⟩) <| kI (v1 : Int) (Int.ofNat v1) <| tW 0 (.sl 0 v1) <| kR 0 <| bhF g4 <| lkL RA L3 v1 1 1 <| kB v1 L3.length <| xkI (v1 : Int) v1 <| bkX ((!y2_0)) false nbf <| kK (tQ (ZeN c2) 2) <| Za2 RA L3 v1 0 2 <| kB v1 L3.length <| xkI (v1 : Int) v1 <| bkE ((L3.getD v1 RG.z).a0) 2 <| lkL RA L3 v1 0 1 <| kB v1 L3.length <| xkI (v1 : Int) v1 <| bhY g0 Zg) (bQ <| bS (κf L0 L1 L2) <| bE)
 exact Mach.okF0 [0] (bhN g0 Zg) (bQ <| bE)

theorem ZuL (N : Nat) : (Zio L0 L1 L2 L3 N).Enter Tryz.prog Ze #[Value.agg (κd L0 L1 L2), vs 0 0 L3.length L3.length] (Zj3 L0 L1 L2 L3 N) := by unfold Zj3;exact enH [0, 1] [some (vs 0 0 L3.length L3.length), some (vp 1 0), some (vq)] Zg (tC (tC (tC (tE) ⟨Eq.trans (show κg = vq from ci) (by rfl), by rfl⟩))) (bQ <| bS (κf L0 L1 L2) <| bE)

theorem ZrT (N : Nat) (r : ZcI) (h : Zec L0 L1 L2 L3 N = some r) : LSpec Tryz.prog 75 #[Value.agg (κd L0 L1 L2), vs 0 0 L3.length L3.length] [.cells (Za RA L3) 44 true] (Zpr r) (ZnS L0 L1 L2 L3 r) :=
 Mach.specT Zv (Zio L0 L1 L2 L3 N) Tryz.func75 (fun x => (show (Zio L0 L1 L2 L3 N).Ok Tryz.prog Ze x (ZfR L0 L1 L2 L3 N x) from by
  cases x with
  | h1m0 v1 => exact ZqC L0 L1 L2 L3 v1 N
  )) (ZuL L0 L1 L2 L3 N) h

end
noncomputable def ZwD {L0 : List (List RI)} {L1 : List RL} {L2 : List RJ} {L3 : List RG} {N : Nat} (h : Zec L0 L1 L2 L3 N = some (.r0)) (ks : List Nat) (n : Nat) : ToldS := ⟨#[Value.agg (κd L0 L1 L2), vs (nth ks 0) 0 L3.length L3.length], [((nth ks 0), .cells (Za RA L3) 44 true)], vT, [], 0⟩

theorem ZwE {L0 : List (List RI)} {L1 : List RL} {L2 : List RJ} {L3 : List RG} {N : Nat} (h : Zec L0 L1 L2 L3 N = some (.r0)) (ks : List Nat) (n : Nat) (hk : ks.length = 1 := by rfl) (hnd : ks.Nodup := by decide +kernel) (hlt : ∀ k ∈ ks, k < n := by decide +kernel) : (ZwD (N := N)  h ks n).P Tryz.prog 75 n :=
 match ks, hk, hnd, hlt with
 | [k0], _, hnd, hlt => Zcj (show LSpec Tryz.prog 75 #[Value.agg (κd L0 L1 L2), vs 0 0 L3.length L3.length] [.cells (Za RA L3) 44 true] (vT) [some (.cells (Za RA L3) 44 true)] from ZrT L0 L1 L2 L3 N _ h) _ n [] hnd hlt

end Ev
end Go.Proofs.YthfohmhipifiaaaGreat
namespace Go.Proofs.YthfohmhipifiaaaGreat
open Go.IntKind (i64)
open Go.RowKit
namespace Ev
open Mach (oi ok_ite ok_none ok_bind okN enH en_ite en_none en_bind)
noncomputable def ZlH : Zbx → Value
 | .r0 w0 => vi w0
noncomputable def ZkL : Zbx → List (Option AObj)
 | .r0 w0 => []

def Zzl : ZbB → Nat
 | .h1m0 v2 => 1
section
variable (L0 : List RI)
noncomputable def Z0N (a1 : Int) : ZbB → List (Nat × Value)
 | .h1m0 v2 => [(0, ms RB L0), (5, vq), (6, vi v2)]
noncomputable def Z0O (L0 : List RI) (a1 : Int) : ZbB → List (Option AObj)
 | .h1m0 v2 => []

noncomputable def Z0P : Nat → Code × List ZL
 | 1 => Z5 [1, 1, 3, 1, 4, 1, 0, 1, 3] (ZM Tryz.f148) []
 | _ => (.skip, [])

noncomputable def ZiY (a1 : Int) (N : Nat) : Mach := ⟨Tryz.f148, [], ZbB, Zbx, ZeY L0 a1 N, Zzl, Z0P, ilT, Z0N L0 a1, Z0O L0 a1, ZlH, ZkL⟩

theorem ZrU (a1 v2 : Int) (N : Nat) : (ZiY L0 a1 N).Ok Tryz.prog Ze (.h1m0 v2 : ZbB) (ZdF L0 a1 N v2) := by
 unfold ZdF;refine oi fun g0 => ?_;refine oi fun g1 => ?_;have w2 := lkG RB L0 ((0 + ((v2).toNat * 4)) + 0) ((v2).toNat) 0 1 4 <| kB (v2).toNat L0.length <| xkI v2 ((v2).toNat) <| bhY g0 Zg
 refine ok_ite (fun g2 => ?_) fun g2 => ?_
 · exact Mach.okF0 [] (tB 1 <| hT g2 w2) bE
 have w3 := lkG RB L0 ((0 + ((v2).toNat * 4)) + 0) ((v2).toNat) 0 1 4 <| kB (v2).toNat L0.length <| xkI v2 ((v2).toNat) <| tB 1 <| hF g2 w2
 refine ok_ite (fun g3 => ?_) fun g3 => ?_
 · exact Mach.okF0 [] (bhT g3 w3) bE
 refine ok_ite (fun _ => ok_none) (fun g4 => ?_);exact Mach.okN0 [] (bhF g2 <| lkG RB L0 ((0 + ((v2).toNat * 4)) + 0) ((v2).toNat) 0 1 4 <| kB (v2).toNat L0.length <| xkI v2 ((v2).toNat) <| bhF g4 <| lkG RB L0 ((0 + ((v2).toNat * 4)) + 0) ((v2).toNat) 0 1 4 <| kB (v2).toNat L0.length <| xkI v2 ((v2).toNat) <| bhF g3 w3) bE

theorem ZwF (a1 : Int) (N : Nat) : (ZiY L0 a1 N).Enter Tryz.prog Ze #[ms RB L0, vi a1] (ZhR L0 a1 N) := by
 unfold ZhR;refine en_ite (fun g0 => ?_) (fun _ => en_none);refine en_ite (fun g1 => ?_) (fun _ => en_none);have w2 := lkG RB L0 ((0 + (a1.toNat * 4)) + 0) (a1.toNat) 0 1 4 <| kB a1.toNat L0.length <| xkI a1 (a1.toNat) Zg
 refine en_ite (fun g2 => ?_) (fun g2 => ?_)
 · exact Mach.enH0 [] (bhT g2 w2) bE
 refine en_ite (fun g3 => ?_) (fun g3 => ?_)
 · exact Mach.enH0 [] (bhT g3 <| bhF g2 w2) bE
 refine en_ite (fun g4 => ?_) (fun g4 => ?_)
 ·
  refine en_bind (fun z5 c5 => ?_);cases z5 with
  | r0 y5_0 y5_1 =>
   exact Mach.enF0 [] (kK (tQ (Zfi c5) 0) <| bhT g4 <| bhF g3 <| bhF g2 w2) bE
 exact Mach.enF0 [] (bhF g4 <| bhF g3 <| bhF g2 w2) bE

theorem Ztz (a1 : Int) (N : Nat) (r : Zbx) (h : Zfz L0 a1 N = some r) : LSpec Tryz.prog 148 #[ms RB L0, vi a1] [] (ZlH r) (ZkL r) :=
 Mach.specT Zv (ZiY L0 a1 N) Tryz.func148 (fun x => (show (ZiY L0 a1 N).Ok Tryz.prog Ze x (ZeY L0 a1 N x) from by
  cases x with
  | h1m0 v2 => exact ZrU L0 a1 v2 N
  )) (ZwF L0 a1 N) h

theorem Zps {L0 : List RI} {a1 : Int} {N : Nat} {r : Zbx} (h : Zfz L0 a1 N = some r) : LSpec Tryz.prog 148 #[ms RB L0, vi a1] [] (ZlH r) (ZkL r) := Ztz L0 a1 N r h

noncomputable def ZnT : Za6 → Value
 | .r0 => Value.tuple #[vn, vq]
 | .r1 w0 => Value.tuple #[vs 0 0 w0.length w0.length, vq]
noncomputable def Zm0 : Za6 → List (Option AObj)
 | .r0 => []
 | .r1 w0 => [some (.cells (Za eI w0) 3)]

noncomputable def Zpt : Za6 → Value
 | .r0 => Value.tuple #[vn, vq]
 | .r1 w0 => Value.tuple #[ms eI w0, vq]
noncomputable def ZnU : Za6 → List (Option AObj)
 | .r0 => []
 | .r1 w0 => []

def ZwG : ZaI → Nat
 | .h1m0 => 1
 | .h1m1 .. => 1
noncomputable def Zzm : ZaI → List (Nat × Value)
 | .h1m0 => [(0, ms RB L0), (5, vn), (6, vq)]
 | .h1m1 v1 v2 => [(0, ms RB L0), (5, vs 0 0 v1.length v1.length), (6, vi (v2 : Int))]
noncomputable def Zzn (L0 : List RI) : ZaI → List (Option AObj)
 | .h1m0 => []
 | .h1m1 v1 v2 => [some (.cells (Za eI v1) 3)]

noncomputable def Zzo : Nat → Code × List ZL
 | 1 => Z5 [1, 1, 1, 1, 0, 1, 3] (ZM Tryz.f136) []
 | _ => (.skip, [])

noncomputable def Zgw (N : Nat) : Mach := ⟨Tryz.f136, [], ZaI, Za6, ZeE L0 N, ZwG, Zzo, ilT, Zzm L0, Zzn L0, ZnT, Zm0⟩

theorem ZqD (N : Nat) : (Zgw L0 N).Ok Tryz.prog Ze (.h1m0 : ZaI) (Zdk L0 N) := by
 unfold Zdk;refine ok_ite (fun g0 => ?_) fun g0 => ?_
 ·
  refine ok_bind fun z1 c1 => ?_;cases z1 with
  | r0 y1_0 =>
   exact okN [1] [some (ms RB L0), some (vs 1 0 1 1), some (vi 1)] (kK (tQ (Zps c1) 0) <| bhY g0 Zg) (tC (tC (tC (tE) ⟨Eq.trans (show κK = vi 1 from ci) (by rfl), by rfl⟩) ⟨Eq.trans (show (vs 0 0 ([y1_0] : List Int).length ([y1_0] : List Int).length : Value) = vs 0 0 1 1 from (Zi rfl eqA eqA)) (by rfl), by rfl⟩)) (bC (o := .cells [vi y1_0] 3) (Zz (E := eI) _ (L := ([y1_0] : List Int)) _ (show ([vi y1_0] : List Value) = Za eI ([y1_0] : List Int) from rfl)) <| bE)
 exact Mach.okF0 [] (bhN g0 Zg) bE

theorem ZqE (v1 : List Int) (v2 N : Nat) : (Zgw L0 N).Ok Tryz.prog Ze (.h1m1 v1 v2 : ZaI) (Zdl L0 N v1 v2) := by
 unfold Zdl;refine ok_ite (fun g0 => ?_) fun g0 => ?_
 ·
  refine ok_bind fun z1 c1 => ?_;cases z1 with
  | r0 y1_0 =>
   refine oi fun g2 => ?_;refine oi fun g3 => ?_;exact okN [2] [some (ms RB L0), some (vs 2 0 (v1.length + 1) (v1.length + 1)), some (κbn v2)] (vkW ((v2 : Int) + 1) (((v2 + 1) : Nat) : Int) <| wkA eI v1 y1_0 <| kK (tQ (Zps c1) 1) <| bhY g0 Zg) (tC (tC (tC (tE)) ⟨Eq.trans (show (vs 0 0 (v1 ++ ([y1_0] : List Int)).length (v1 ++ ([y1_0] : List Int)).length : Value) = vs 0 0 (v1.length + 1) (v1.length + 1) from (Zi rfl eqA eqA)) (by rfl), by rfl⟩)) (bR <| bE)
 exact Mach.okF0 [0] (bhN g0 Zg) (bR <| bE)

theorem ZuM (N : Nat) : (Zgw L0 N).Enter Tryz.prog Ze #[ms RB L0] (Zf9 L0 N) := by
 unfold Zf9;refine en_bind (fun z0 c0 => ?_);cases z0 with
 | r0 =>
  exact Mach.enH0 [] (kK (tQ (ZjD c0) 0) Zg) bE

theorem ZqF (N : Nat) (r : Za6) (h : Zby L0 N = some r) : LSpec Tryz.prog 136 #[ms RB L0] [] (ZnT r) (Zm0 r) :=
 Mach.specT Zv (Zgw L0 N) Tryz.func136 (fun x => (show (Zgw L0 N).Ok Tryz.prog Ze x (ZeE L0 N x) from by
  cases x with
  | h1m0 => exact ZqD L0 N
  | h1m1 v1 v2 => exact ZqE L0 v1 v2 N
  )) (ZuM L0 N) h

theorem ZrV (N : Nat) (r : Za6) (h : Zby L0 N = some r) : LSpec Tryz.prog 136 #[ms RB L0] [] (Zpt r) (ZnU r) := by
 have h0 := ZqF L0 N r h;cases r with
 | r0 => exact h0
 | r1 w0 => exact (LSpec.frzv (E := eI) (L := w0) (post := []) (v2 := Value.tuple #[ms eI w0, vq]) h0 (show 0 ≤ 0 from by decide) (show 0 < 1000000000 from by decide) trivial rfl rfl rfl)

end
theorem ZwH {L0 : List RI} {N : Nat} {r : Za6} (h : Zby L0 N = some r) : LSpec Tryz.prog 136 #[ms RB L0] [] (Zpt r) (ZnU r) := ZrV L0 N r h

noncomputable def Zm1 : ZbG → Value
 | .r0 => vf
noncomputable def Zls (L0 : List RG) (a1 a2 : Int) : ZbG → List (Option AObj)
 | .r0 => [some (κbB L0)]

def Zt0 : ZaE → Nat
 | .h1m0 v1 => 1
noncomputable def ZuN (L0 : List RG) (a1 a2 : Int) : ZaE → List (Nat × Value)
 | .h1m0 v1 => [(0, vs 0 0 L0.length L0.length), (3, vp 1 0), (5, vi (v1 : Int))]
section
variable (L0 : List RG) (a1 a2 : Int)
noncomputable def ZuO : ZaE → List (Option AObj)
 | .h1m0 v1 => [some (κbB L0), some (.cells [vi a1, vi a2] 44)]

noncomputable def ZuP : Nat → Code × List ZL
 | 1 => Z5 [1, 0, 1, 3] (ZM Tryz.f101) []
 | _ => (.skip, [])

noncomputable def ZgC (N : Nat) : Mach := ⟨Tryz.f101, (κbC L0), ZaE, ZbG, ZgM L0 a1 a2 N, Zt0, ZuP, ilT, ZuN L0 a1 a2, ZuO L0 a1 a2, Zm1, Zls L0 a1 a2⟩

theorem Zop (v1 N : Nat) : (ZgC L0 a1 a2 N).Ok Tryz.prog Ze (.h1m0 v1 : ZaE) (Zgo L0 a1 a2 N v1) := by
 unfold Zgo;refine ok_ite (fun g0 => ?_) fun g0 => ?_
 · refine ok_ite (fun _ => ok_none) (fun g1 => ?_);refine oi fun g2 => ?_;exact Mach.okN0 [0, 1] (vkW ((v1 : Int) + 1) (((v1 + 1) : Nat) : Int) <| bkO (((L0.getD v1 RG.z).a0 == a1) && (((L0.getD v1 RG.z).a1 == a2) && true)) <| Za2 RA L0 v1 0 2 <| kB v1 L0.length <| xkI (v1 : Int) v1 <| bhY g0 Zg) (bQ <| bS [vi a1, vi a2] <| bE)
 exact Mach.okF0 [0] (bhN g0 Zg) (bQ <| bE)

noncomputable abbrev κZ := #[vs 0 0 L0.length L0.length, Value.agg #[vi a1, vi a2]]
theorem ZrW (N : Nat) : (ZgC L0 a1 a2 N).Enter Tryz.prog Ze (κZ L0 a1 a2) (ZhS L0 a1 a2 N) := by unfold ZhS;exact enH [0, 1] [some (vs 0 0 L0.length L0.length), some (vp 1 0), some (vq)] Zg (tC (tC (tC (tE) ⟨Eq.trans (show κg = vq from ci) (by rfl), by rfl⟩))) (bQ <| bS [vi a1, vi a2] <| bE)

theorem Zpu (N : Nat) (r : ZbG) (h : ZfA L0 a1 a2 N = some r) : LSpec Tryz.prog 101 (κZ L0 a1 a2) (κbC L0) (Zm1 r) (Zls L0 a1 a2 r) :=
 Mach.specT Zv (ZgC L0 a1 a2 N) Tryz.func101 (fun x => (show (ZgC L0 a1 a2 N).Ok Tryz.prog Ze x (ZgM L0 a1 a2 N x) from by
  cases x with
  | h1m0 v1 => exact Zop L0 a1 a2 v1 N
  )) (ZrW L0 a1 a2 N) h

end
noncomputable def Zt1 {L0 : List RG} {a1 a2 : Int} {N : Nat} (h : ZfA L0 a1 a2 N = some (.r0)) (ks : List Nat) (n : Nat) : ToldS := ⟨#[vs (nth ks 0) 0 L0.length L0.length, Value.agg #[vi a1, vi a2]], [((nth ks 0), .cells (Za RA L0) 44 true)], vf, [], 0⟩

theorem Zt2 {L0 : List RG} {a1 a2 : Int} {N : Nat} (h : ZfA L0 a1 a2 N = some (.r0)) (ks : List Nat) (n : Nat) (hk : ks.length = 1 := by rfl) (hnd : ks.Nodup := by decide +kernel) (hlt : ∀ k ∈ ks, k < n := by decide +kernel) : (Zt1 (N := N)  h ks n).P Tryz.prog 101 n :=
 match ks, hk, hnd, hlt with
 | [k0], _, hnd, hlt => Zcj (show LSpec Tryz.prog 101 (κZ L0 a1 a2) (κbC L0) (vf) [some (κbB L0)] from Zpu L0 a1 a2 N _ h) _ n [] hnd hlt

noncomputable def Zrs : ZcA → Value
 | .r0 w1 w2 w3 => Value.tuple #[Value.agg #[vi w1, vi w2], vi w3]
noncomputable def Zpv (L0 : List RJ) (L1 : List RG) (a2 : Int) (L3 : List RG) (a4 a5 : Int) (L6 : List RG) : ZcA → List (Option AObj)
 | .r0 w1 w2 w3 => [some (.cells (Za RA L6) 44 true)]

def Zzp : ZbZ → Nat
 | .h1m0 => 1
noncomputable def Z0Q (L0 : List RJ) (L1 : List RG) (a2 : Int) (L3 : List RG) (a4 a5 : Int) (L6 : List RG) : ZbZ → List (Nat × Value)
 | .h1m0 => [(1, vs 0 0 L6.length L6.length), (2, vp 1 0), (4, vp 2 0), (6, vi a5)]
noncomputable abbrev κq (a2 : Int) (L3 : List RG) (a4 a5 : Int) := [vi a2, ms RA L3, vi a4, vi a5]
section
variable (L0 : List RJ) (L1 : List RG) (a2 : Int) (L3 : List RG) (a4 a5 : Int)
noncomputable def Z0R (L6 : List RG) : ZbZ → List (Option AObj)
 | .h1m0 => [some (.cells (Za RA L6) 44 true), some (.cells (Za3 RA 8 [ms RC L0] L1 (κq a2 L3 a4 a5)) 153), some (.cells [vq, vq] 44)]

noncomputable def Z0S : Nat → Code × List ZL
 | 1 => Z5 [1, 1, 0, 1, 3] (ZM Tryz.f126) []
 | _ => (.skip, [])

noncomputable def ZiZ (L6 : List RG) (N : Nat) : Mach := ⟨Tryz.f126, [.cells (Za RA L6) 44 true], ZbZ, ZcA, ZiC L0 L1 a2 L3 a4 a5 L6 N, Zzp, Z0S, ilT, Z0Q L0 L1 a2 L3 a4 a5 L6, Z0R L0 L1 a2 L3 a4 a5 L6, Zrs, Zpv L0 L1 a2 L3 a4 a5 L6⟩

theorem ZrX (L6 : List RG) (N : Nat) : (ZiZ L0 L1 a2 L3 a4 a5 L6 N).Ok Tryz.prog Ze (.h1m0 : ZbZ) (ZeF L0 L1 a2 L3 a4 a5 L6 N) := by
 unfold ZeF;refine oi fun g0 => ?_;refine ok_bind fun z1 c1 => ?_;cases z1 with
 | r0 =>
  refine ok_bind fun z2 c2 => ?_;cases z2 with
  | r0 =>
   exact Mach.okF0 [0] (kK (tQ (ZnR c2) 4) <| kKg 1 (Zt2 c1 [0] 4) <| bhY g0 Zg) (bQ <| bE)

noncomputable abbrev κl := ([ms RC L0] ++ (rv8 L1 ++ (κq a2 L3 a4 a5)))
theorem ZwI (L6 : List RG) (N : Nat) : (ZiZ L0 L1 a2 L3 a4 a5 L6 N).Enter Tryz.prog Ze #[Value.agg (List.toArray (κl L0 L1 a2 L3 a4 a5)), vs 0 0 L6.length L6.length] (ZhT L0 L1 a2 L3 a4 a5 L6 N) := by
 unfold ZhT;refine en_ite (fun g0 => ?_) (fun g0 => ?_)
 · refine en_ite (fun g1 => ?_) (fun _ => en_none);exact Mach.enF0 [0] (tL 2 (RA.cel (L6.getD a4.toNat RG.z)) <| kLn RA L6 (a4.toNat) 0 2 <| kB a4.toNat L6.length <| xkI a4 (a4.toNat) <| bhY g0 Zg) (bQ <| bE)
 exact Mach.enH0 [0, 1, 2] (bhN g0 Zg) (bQ <| bM (.cells (Za3 RA 8 [ms RC L0] L1 (κq a2 L3 a4 a5)) 153) <| bS [vq, vq] <| bE)

theorem Zt3 (L6 : List RG) (N : Nat) (r : ZcA) (h : ZcJ L0 L1 a2 L3 a4 a5 L6 N = some r) : LSpec Tryz.prog 126 #[Value.agg (List.toArray (κl L0 L1 a2 L3 a4 a5)), vs 0 0 L6.length L6.length] [.cells (Za RA L6) 44 true] (Zrs r) (Zpv L0 L1 a2 L3 a4 a5 L6 r) :=
 Mach.specT Zv (ZiZ L0 L1 a2 L3 a4 a5 L6 N) Tryz.func126 (fun x => (show (ZiZ L0 L1 a2 L3 a4 a5 L6 N).Ok Tryz.prog Ze x (ZiC L0 L1 a2 L3 a4 a5 L6 N x) from by
  cases x with
  | h1m0 => exact ZrX L0 L1 a2 L3 a4 a5 L6 N
  )) (ZwI L0 L1 a2 L3 a4 a5 L6 N) h

end
noncomputable def Zzq {L0 : List RJ} {L1 : List RG} {a2 : Int} {L3 : List RG} {a4 a5 : Int} {L6 : List RG} {w1 w2 w3 : Int} {N : Nat} (h : ZcJ L0 L1 a2 L3 a4 a5 L6 N = some (.r0 w1 w2 w3)) (ks : List Nat) (n : Nat) : ToldS := ⟨#[Value.agg (List.toArray (κl L0 L1 a2 L3 a4 a5)), vs (nth ks 0) 0 L6.length L6.length], [((nth ks 0), .cells (Za RA L6) 44 true)], Value.tuple #[Value.agg #[vi w1, vi w2], vi w3], [], 0⟩

theorem Zpw {L0 : List RJ} {L1 : List RG} {a2 : Int} {L3 : List RG} {a4 a5 : Int} {L6 : List RG} {w1 w2 w3 : Int} {N : Nat} (h : ZcJ L0 L1 a2 L3 a4 a5 L6 N = some (.r0 w1 w2 w3)) (ks : List Nat) (n : Nat) (hk : ks.length = 1 := by rfl) (hnd : ks.Nodup := by decide +kernel) (hlt : ∀ k ∈ ks, k < n := by decide +kernel) : (Zzq (N := N)  h ks n).P Tryz.prog 126 n :=
 match ks, hk, hnd, hlt with
 | [k0], _, hnd, hlt => Zcj (show LSpec Tryz.prog 126 #[Value.agg (List.toArray (κl L0 L1 a2 L3 a4 a5)), vs 0 0 L6.length L6.length] [.cells (Za RA L6) 44 true] (Value.tuple #[Value.agg #[vi w1, vi w2], vi w3]) [some (.cells (Za RA L6) 44 true)] from Zt3 L0 L1 a2 L3 a4 a5 L6 N _ h) _ n [] hnd hlt

section
variable (a0 a1 a2 : Int)
noncomputable def ZnV : ZaJ → Value
 | .r0 w7 => Value.agg #[vi a0, vi a1, vi (i64.wrap (Int.tdiv a1 1048576)), vi 2, vi 1, vi 1, vi a2, vs 0 0 w7.length w7.length]
noncomputable def Zm2 : ZaJ → List (Option AObj)
 | .r0 w7 => [some (.cells (Za RA w7) 44)]

noncomputable def Zpx : ZaJ → Value
 | .r0 w7 => Value.agg #[vi a0, vi a1, vi (i64.wrap (Int.tdiv a1 1048576)), vi 2, vi 1, vi 1, vi a2, ms RA w7]
noncomputable def ZnW : ZaJ → List (Option AObj)
 | .r0 w7 => []

def ZwJ : Zav → Nat
 | .h1m0 => 1
 | .h1m1 .. => 1
noncomputable def Zzr (a0 a1 a2 : Int) : Zav → List (Nat × Value)
 | .h1m0 => [(1, vi 2), (2, vi 1), (8, vp 0 0), (9, vp 1 0), (10, vq)]
 | .h1m1 v2 v17 => [(1, vi 2), (2, vi 1), (8, vp 0 0), (9, vp 1 0), (10, vi (v2 : Int))]
noncomputable abbrev κb0 := (AObj.cells [vq, vq, vq, vq, vq, vq, vq, vn] 97)
noncomputable def Zzs : Zav → List (Option AObj)
 | .h1m0 => [some κb0, some (.cells [vi a0, vi a1, vi (i64.wrap (Int.tdiv a1 1048576)), vi 2, vi 1, vi 1, vi a2, vn] 97)]
 | .h1m1 v2 v17 => [some κb0, some (.cells [vi a0, vi a1, vi (i64.wrap (Int.tdiv a1 1048576)), vi 2, vi 1, vi 1, vi a2, vs 2 0 v17.length v17.length] 97), some (.cells (Za RA v17) 44)]

noncomputable def Zzt : Nat → Code × List ZL
 | 1 => Z5 [1, 1, 0, 1, 3] (ZM Tryz.f127) []
 | _ => (.skip, [])

noncomputable def Zgx (N : Nat) : Mach := ⟨Tryz.f127, [], Zav, ZaJ, ZhU a0 a1 a2 N, ZwJ, Zzt, ilT, Zzr a0 a1 a2, Zzs a0 a1 a2, ZnV a0 a1 a2, Zm2⟩

theorem ZqG (N : Nat) : (Zgx a0 a1 a2 N).Ok Tryz.prog Ze (.h1m0 : Zav) (Zhv a0 a1 a2 N) := by unfold Zhv;exact okN [0, 1, 4] [some (vi 2), some (vi 1), some (vp 0 0), some (vp 1 0), some (vi 1)] Zg (tC (tC (tC (tC (tC (tE) ⟨Eq.trans (show κK = vi 1 from ci) (by rfl), by rfl⟩))))) (bS [vq, vq, vq, vq, vq, vq, vq, vn] <| bU [vi a0, vi a1, vi (i64.wrap (Int.tdiv a1 1048576)), vi 2, vi 1, vi 1, vi a2, vs 4 0 1 1] 7 (show (vs 2 0 1 1 : Value) = vs 2 0 ([(⟨2, 0⟩ : RG)] : List RG).length ([(⟨2, 0⟩ : RG)] : List RG).length from Zi rfl eqA eqA) <| bC (o := .cells [vi 2, vq] 44) (Zz (E := RA) _ (L := ([(⟨2, 0⟩ : RG)] : List RG)) _ (show ([vi 2, vq] : List Value) = Za RA ([(⟨2, 0⟩ : RG)] : List RG) from rfl)) <| bE)

theorem ZqH (v2 : Nat) (v17 : List RG) (N : Nat) : (Zgx a0 a1 a2 N).Ok Tryz.prog Ze (.h1m1 v2 v17 : Zav) (Zhw a0 a1 a2 N v2 v17) := by
 unfold Zhw;refine ok_ite (fun g0 => ?_) fun g0 => ?_
 ·
  have w1 := tW 0 (.sh v2) <| kS (v2 : Int) v2 .i64 <| tV 0 <| kX ((IntKind.u64.wrap (v2 : Int)) == (v2 : Int)) true (beq_iff_eq.2 (Znm ltA)) <| bhY g0 Zg
  refine ok_ite (fun g1 => ?_) fun g1 => ?_
  · refine oi fun g2 => ?_;exact Mach.okN0 [0, 1, 5] (tV 2 <| kW ((v2 : Int) + 1) (((v2 + 1) : Nat) : Int) <| tW 2 (.ap 1 [vi 2, vq] (Za RA (v17 ++ ([(⟨2, 0⟩ : RG)] : List RG)))) <| kA RA v17 (⟨2, 0⟩ : RG) <| bhT g1 w1) (bS [vq, vq, vq, vq, vq, vq, vq, vn] <| bU [vi a0, vi a1, vi (i64.wrap (Int.tdiv a1 1048576)), vi 2, vi 1, vi 1, vi a2, vs 5 0 (v17.length + 1) (v17.length + 1)] 7 (show (vs 2 0 (v17.length + 1) (v17.length + 1) : Value) = vs 2 0 (v17 ++ ([(⟨2, 0⟩ : RG)] : List RG)).length (v17 ++ ([(⟨2, 0⟩ : RG)] : List RG)).length from Zi rfl eqA eqA) <| bR <| bE)
  refine oi fun g2 => ?_;exact Mach.okN0 [0, 1, 5] (tV 2 <| kW ((v2 : Int) + 1) (((v2 + 1) : Nat) : Int) <| tW 2 (.ap 1 [vi 1, vq] (Za RA (v17 ++ ([(⟨1, 0⟩ : RG)] : List RG)))) <| kA RA v17 (⟨1, 0⟩ : RG) <| bhF g1 w1) (bS [vq, vq, vq, vq, vq, vq, vq, vn] <| bU [vi a0, vi a1, vi (i64.wrap (Int.tdiv a1 1048576)), vi 2, vi 1, vi 1, vi a2, vs 5 0 (v17.length + 1) (v17.length + 1)] 7 (show (vs 2 0 (v17.length + 1) (v17.length + 1) : Value) = vs 2 0 (v17 ++ ([(⟨1, 0⟩ : RG)] : List RG)).length (v17 ++ ([(⟨1, 0⟩ : RG)] : List RG)).length from Zi rfl eqA eqA) <| bR <| bE)
 exact Mach.okF0 [2] (bhN g0 Zg) (bR <| bE)

theorem ZuQ (N : Nat) : (Zgx a0 a1 a2 N).Enter Tryz.prog Ze #[Value.agg #[vi a0, vi a1], vi 2, vi 1, vi a2] (Zhf a0 a1 a2 N) := by
 unfold Zhf;refine en_ite (fun g0 => ?_) (fun _ => en_none);refine en_bind (fun z1 c1 => ?_);cases z1 with
 | r0 y1_0 =>
  refine en_ite (fun _ => en_none) (fun g2 => ?_);exact Mach.enH0 [1, 4] (bkX ((!y1_0)) false nbf <| kKg 1 (tQ (ZeN c1) 4) <| bhT g0 Zg) (bS [vq, vq, vq, vq, vq, vq, vq, vn] <| bS [vi a0, vi a1, vi (i64.wrap (Int.tdiv a1 1048576)), vi 2, vi 1, vi 1, vi a2, vn] <| bE)

theorem ZqI (N : Nat) (r : ZaJ) (h : Zdt a0 a1 a2 N = some r) : LSpec Tryz.prog 127 #[Value.agg #[vi a0, vi a1], vi 2, vi 1, vi a2] [] (ZnV a0 a1 a2 r) (Zm2 r) :=
 Mach.specT Zv (Zgx a0 a1 a2 N) Tryz.func127 (fun x => (show (Zgx a0 a1 a2 N).Ok Tryz.prog Ze x (ZhU a0 a1 a2 N x) from by
  cases x with
  | h1m0 => exact ZqG a0 a1 a2 N
  | h1m1 v2 v17 => exact ZqH a0 a1 a2 v2 v17 N
  )) (ZuQ a0 a1 a2 N) h

theorem ZrY (N : Nat) (r : ZaJ) (h : Zdt a0 a1 a2 N = some r) : LSpec Tryz.prog 127 #[Value.agg #[vi a0, vi a1], vi 2, vi 1, vi a2] [] (Zpx a0 a1 a2 r) (ZnW r) := by
 have h0 := ZqI a0 a1 a2 N r h;cases r with
 | r0 w7 => exact (LSpec.frzv (E := RA) (L := w7) (post := []) (v2 := Value.agg #[vi a0, vi a1, vi (i64.wrap (Int.tdiv a1 1048576)), vi 2, vi 1, vi 1, vi a2, ms RA w7]) h0 (show 0 ≤ 0 from by decide) (show 0 < 1000000000 from by decide) trivial rfl rfl rfl)

end
theorem ZnX {a0 a1 a2 : Int} {N : Nat} {r : ZaJ} (h : Zdt a0 a1 a2 N = some r) : LSpec Tryz.prog 127 #[Value.agg #[vi a0, vi a1], vi 2, vi 1, vi a2] [] (Zpx a0 a1 a2 r) (ZnW r) := ZrY a0 a1 a2 N r h

noncomputable def ZkM : Zbd → Value
 | .r0 w0 w1 => Value.tuple #[vi w0, vi w1]
noncomputable def ZjH : Zbd → List (Option AObj)
 | .r0 w0 w1 => []

def ZwK : Zbe → Nat
 | .h1m0 v1 => 1
noncomputable def Zzu (L0 : List RJ) (a1 a2 : Int) : Zbe → List (Nat × Value)
 | .h1m0 v1 => [(0, ms RC L0), (3, vp 0 0), (6, vi (v1 : Int))]
noncomputable def Zzv (L0 : List RJ) (a1 a2 : Int) : Zbe → List (Option AObj)
 | .h1m0 v1 => [some (.cells [vi a1, vi a2] 44)]

noncomputable def Zzw : Nat → Code × List ZL
 | 1 => Z5 [1, 1, 1, 0, 1, 3] (ZM Tryz.f140) []
 | _ => (.skip, [])

section
variable (L0 : List RJ) (a1 a2 : Int)
noncomputable def Zip (N : Nat) : Mach := ⟨Tryz.f140, [], Zbe, Zbd, ZfS L0 a1 a2 N, ZwK, Zzw, ilT, Zzu L0 a1 a2, Zzv L0 a1 a2, ZkM, ZjH⟩

theorem ZqJ (v1 N : Nat) : (Zip L0 a1 a2 N).Ok Tryz.prog Ze (.h1m0 v1 : Zbe) (Zcw L0 a1 a2 N v1) := by
 unfold Zcw;refine oi fun g0 => ?_;have w1 := lkG RC L0 ((0 + (v1 * 8)) + 0) v1 0 2 8 <| kB v1 L0.length <| xkI (v1 : Int) v1 <| bhY g0 Zg
 refine ok_ite (fun g1 => ?_) fun g1 => ?_
 ·
  have w2 := tL 1 [.i (L0.getD v1 RJ.z).a5] <| kG RC L0 (((0 + (v1 * 8)) + 2) + 3) v1 5 1 8 <| kB v1 L0.length <| xkI (v1 : Int) v1 <| bkZ (((L0.getD v1 RJ.z).a0 == a1) && (((L0.getD v1 RJ.z).a1 == a2) && true)) w1
  refine ok_ite (fun g2 => ?_) fun g2 => ?_
  · exact Mach.okF0 [] (bhD g2 w2) bE
  refine oi fun g3 => ?_;exact Mach.okN0 [0] (vkW ((v1 : Int) + 1) (((v1 + 1) : Nat) : Int) <| bkE ((L0.getD v1 RJ.z).a5) 3 w2) (bS [vi a1, vi a2] <| bE)
 refine oi fun g2 => ?_;exact Mach.okN0 [0] (vkW ((v1 : Int) + 1) (((v1 + 1) : Nat) : Int) <| bkO (((L0.getD v1 RJ.z).a0 == a1) && (((L0.getD v1 RJ.z).a1 == a2) && true)) w1) (bS [vi a1, vi a2] <| bE)

theorem ZuR (N : Nat) : (Zip L0 a1 a2 N).Enter Tryz.prog Ze (κr L0 a1 a2) (Zew L0 a1 a2 N) := by
 unfold Zew;refine en_ite (fun g0 => ?_) (fun g0 => ?_)
 · exact Mach.enF0 [] (bhD g0 Zg) bE
 refine en_bind (fun z1 c1 => ?_);cases z1 with
 | r0 y1_0 =>
  have w2 := kK (tQ (ZeN c1) 1) <| bkE a1 2 Zg
  refine en_ite (fun g2 => ?_) (fun g2 => ?_)
  · exact Mach.enF0 [] (bkX ((!y1_0)) true nbt w2) bE
  have w3 := bkX ((!y1_0)) false nbf w2;refine en_ite (fun g3 => ?_) (fun g3 => ?_)
  · exact Mach.enF0 [] (bhT g3 w3) bE
  exact enH [0] [some (ms RC L0), some (vp 0 0), some (vq)] (bhF g3 w3) (tC (tC (tC (tE) ⟨Eq.trans (show κg = vq from ci) (by rfl), by rfl⟩))) (bS [vi a1, vi a2] <| bE)

theorem ZrZ (N : Nat) (r : Zbd) (h : Zca L0 a1 a2 N = some r) : LSpec Tryz.prog 140 (κr L0 a1 a2) [] (ZkM r) (ZjH r) :=
 Mach.specT Zv (Zip L0 a1 a2 N) Tryz.func140 (fun x => (show (Zip L0 a1 a2 N).Ok Tryz.prog Ze x (ZfS L0 a1 a2 N x) from by
  cases x with
  | h1m0 v1 => exact ZqJ L0 a1 a2 v1 N
  )) (ZuR L0 a1 a2 N) h

theorem ZfB {L0 : List RJ} {a1 a2 : Int} {N : Nat} {r : Zbd} (h : Zca L0 a1 a2 N = some r) : LSpec Tryz.prog 140 (κr L0 a1 a2) [] (ZkM r) (ZjH r) := ZrZ L0 a1 a2 N r h

noncomputable def Zn4 : Zg7 → Value
 | .r0 w0 w1 => Value.tuple #[Value.agg #[vi w0, vi w1], vq]
noncomputable def ZlI : Zg7 → List (Option AObj)
 | .r0 w0 w1 => []

noncomputable abbrev κt (a3 : Int) := #[ms RC L0, Value.agg #[vi a1, vi a2], vi a3]
end
section
variable (L0 : List RJ) (a1 a2 a3 : Int) (N : Nat)
theorem Zzx : Fx Tryz.prog Ze Tryz.f128 [] (κt L0 a1 a2 a3) (Zn4) (ZlI) (Zda L0 a1 a2 a3 N) := by
 unfold Zda;refine Zx (fun z0 c0 => ?_);cases z0 with
 | r0 y0_0 y0_1 =>
  refine Zb (fun _ => Zd) (fun g1 => ?_);refine Zb (fun _ => Zd) (fun g2 => ?_);refine Zb (fun g3 => ?_) (fun _ => Zd);refine Zb (fun g4 => ?_) (fun _ => Zd);refine Zb (fun _ => Zd) (fun g5 => ?_);exact Zr [] (lkG RA ((L0.getD (y0_0).toNat RJ.z).a7) (0 + (a3.toNat * 2)) (a3.toNat) 0 2 2 <| kB a3.toNat (L0.getD (y0_0).toNat RJ.z).a7.length <| xkI a3 (a3.toNat) <| lkG RC L0 ((0 + ((y0_0).toNat * 8)) + 7) ((y0_0).toNat) 7 1 8 <| kB (y0_0).toNat L0.length <| xkI y0_0 ((y0_0).toNat) <| bkN (a3 ≥ (((L0.getD (y0_0).toNat RJ.z).a7.length : Nat) : Int)) <| tL 1 [(mc RA (L0.getD (y0_0).toNat RJ.z).a7)] <| kG RC L0 ((0 + ((y0_0).toNat * 8)) + 7) ((y0_0).toNat) 7 1 8 <| kB (y0_0).toNat L0.length <| xkI y0_0 ((y0_0).toNat) <| bhN g2 <| bkE y0_1 0 <| kK (tQ (ZfB c0) 2) Zg) bE

theorem ZuS (r : Zg7) (h : Zda L0 a1 a2 a3 N = some r) : LSpec Tryz.prog 128 (κt L0 a1 a2 a3) [] (Zn4 r) (ZlI r) :=
 ZI Zv Tryz.func128 (by kernel_rfl) (by kernel_rfl) (fun r => by cases r <;> exact ZP _ rfl) (Zzx L0 a1 a2 a3 N) h

theorem Zrt {L0 : List RJ} {a1 a2 a3 : Int} {N : Nat} {r : Zg7} (h : Zda L0 a1 a2 a3 N = some r) : LSpec Tryz.prog 128 (κt L0 a1 a2 a3) [] (Zn4 r) (ZlI r) := ZuS L0 a1 a2 a3 N r h

noncomputable def Zn5 : ZdV → Value
 | .r0 w0 => Value.bool w0
noncomputable def ZlJ : ZdV → List (Option AObj)
 | .r0 w0 => []

theorem Zzy : Fx Tryz.prog Ze Tryz.f142 [] (κt L0 a1 a2 a3) (Zn5) (ZlJ) (ZaA L0 a1 a2 a3 N) := by
 unfold ZaA;refine Zx (fun z0 c0 => ?_);cases z0 with
 | r0 y0_0 y0_1 =>
  have w1 := kK (tQ (ZfB c0) 1) Zg;refine Zb (fun g1 => ?_) (fun g1 => ?_)
  ·
   refine Zb (fun g2 => ?_) (fun _ => Zd);refine Zb (fun g3 => ?_) (fun _ => Zd);have w4 := tL 1 [.i (L0.getD (y0_0).toNat RJ.z).a5] <| kG RC L0 (((0 + ((y0_0).toNat * 8)) + 2) + 3) ((y0_0).toNat) 5 1 8 <| kB (y0_0).toNat L0.length <| xkI y0_0 ((y0_0).toNat) <| bhT g1 w1
   refine Zb (fun g4 => ?_) (fun g4 => ?_)
   ·
    have w5 := lkG RC L0 (((0 + ((y0_0).toNat * 8)) + 2) + 4) ((y0_0).toNat) 6 1 8 <| kB (y0_0).toNat L0.length <| xkI y0_0 ((y0_0).toNat) <| bhT g4 w4
    refine Zb (fun g5 => ?_) (fun g5 => ?_)
    · exact Zr [] (bhT g5 w5) bE
    exact Zr [] (bhF g5 w5) bE
   exact Zr [] (bhF g4 w4) bE
  exact Zr [] (bhF g1 w1) bE

theorem ZuT (r : ZdV) (h : ZaA L0 a1 a2 a3 N = some r) : LSpec Tryz.prog 142 (κt L0 a1 a2 a3) [] (Zn5 r) (ZlJ r) :=
 ZI Zv Tryz.func142 (by kernel_rfl) (by kernel_rfl) (fun r => by cases r <;> exact ZP _ rfl) (Zzy L0 a1 a2 a3 N) h

end
theorem Zch {L0 : List RJ} {a1 a2 a3 : Int} {N : Nat} {r : ZdV} (h : ZaA L0 a1 a2 a3 N = some r) : LSpec Tryz.prog 142 (κt L0 a1 a2 a3) [] (Zn5 r) (ZlJ r) := ZuT L0 a1 a2 a3 N r h

noncomputable def Zru (L0 : List RJ) (a1 a2 a3 a4 a5 a6 a7 a8 : Int) (L9 : List RG) : ZeG → Value
 | .r0 => vs 1 0 L0.length L0.length
section
variable (L0 : List RJ) (a1 a2 a3 a4 a5 a6 a7 a8 : Int) (L9 : List RG)
noncomputable def Zpy : ZeG → List (Option AObj)
 | .r0 => [none, some (.cells (Za RC (L0.set a1.toNat (⟨a2, a3, a4, a5, a6, a7, a8, L9⟩ : RJ))) 97)]

noncomputable def Z2J : ZeG → Value
 | .r0 => ms RC (L0.set a1.toNat (⟨a2, a3, a4, a5, a6, a7, a8, L9⟩ : RJ))
noncomputable def Z0T : ZeG → List (Option AObj)
 | .r0 => [none]

noncomputable abbrev κS := #[ms RC L0, vi a1, Value.agg #[vi a2, vi a3, vi a4, vi a5, vi a6, vi a7, vi a8, vs 0 0 L9.length L9.length]]
theorem Zzz (N : Nat) : Fx Tryz.prog Ze Tryz.f144 [.cells (Za RA L9) 44] (κS L0 a1 a2 a3 a4 a5 a6 a7 a8 L9) (Zru L0 a1 a2 a3 a4 a5 a6 a7 a8 L9) (Zpy L0 a1 a2 a3 a4 a5 a6 a7 a8 L9) (Zb2 L0 a1 a2 a3 a4 a5 a6 a7 a8 L9 N) := by unfold Zb2;refine Zb (fun _ => Zd) (fun g0 => ?_);refine Zb (fun g1 => ?_) (fun _ => Zd);refine Zb (fun g2 => ?_) (fun _ => Zd);refine Zb (fun g3 => ?_) (fun _ => Zd);exact fxC [0, 3] (vs 3 0 (0 + L0.length) (0 + L0.length)) (tW 0 (.stf 0 (Z9 RA L9) (Za RC (L0.set a1.toNat (⟨a2, a3, a4, a5, a6, a7, a8, L9⟩ : RJ)))) <| kC (Zbj (E := RC) (L := L0) (i := a1.toNat) (q := 0) (l := [vi a2, vi a3, vi a4, vi a5, vi a6, vi a7, vi a8, ms RA L9]) (⟨a2, a3, a4, a5, a6, a7, a8, L9⟩ : RJ) (by omega) (show (0 + (a1.toNat * 8)) = a1.toNat * 8 + 0 from by omega) (show 0 + 8 ≤ 8 from by decide) rfl) <| kX (dP ((Za RA L9) = Zm (Z9 RA L9))) true (Zn (ZhM _)) <| kB a1.toNat (0 + L0.length) <| xkI a1 (a1.toNat) <| tW 0 (.ap L0.length (Za RC L0) (Za RC L0)) <| kX (dP ((L0.length = L0.length ∧ ((L0.length * 8 = 0 ∧ (Za RC L0) = []) ∨ ∃ c, L0.length * 8 ≠ 0 ∧ ZS (code (Z9 RC L0)) 0 (L0.length * 8) = some c ∧ (Za RC L0) = Zm c)) ∧ 0 < L0.length ∧ L0.length ≤ 100000 ∧ 0 < 0 + L0.length ∧ 0 ≤ 100000 ∧ 0 * 8 ≤ (List.length []) ∧ List.take (0 * 8) [] ++ (Za RC L0) = (Za RC L0))) true (Zn ⟨⟨rfl, (Zc5 (E := RC) (L := L0) (n := L0.length) (size := 8) rfl (by decide) (by omega))⟩, by omega, by omega, ltA, by omega, (Zar (E := RC) (L := ([] : List RJ)) (M := L0) (n := 0) (show _ = _ * 8 from rfl) ltA (R := L0) (by rw [List.take_of_length_le ltA]; rfl))⟩) Zg) (bN <| bR <| bE) (hv := ⟨Eq.trans (show (vs 1 0 L0.length L0.length : Value) = vs 1 0 (0 + L0.length) (0 + L0.length) from (Zi rfl eqA eqA)) (by rfl), by rfl⟩)

theorem Zt4 (N : Nat) (r : ZeG) (h : Zb2 L0 a1 a2 a3 a4 a5 a6 a7 a8 L9 N = some r) : LSpec Tryz.prog 144 (κS L0 a1 a2 a3 a4 a5 a6 a7 a8 L9) [.cells (Za RA L9) 44] (Zru L0 a1 a2 a3 a4 a5 a6 a7 a8 L9 r) (Zpy L0 a1 a2 a3 a4 a5 a6 a7 a8 L9 r) :=
 ZI Zv Tryz.func144 (by kernel_rfl) (by kernel_rfl) (fun r => by cases r <;> exact ZP _ rfl) (Zzz L0 a1 a2 a3 a4 a5 a6 a7 a8 L9 N) h

theorem ZuU (N : Nat) (r : ZeG) (h : Zb2 L0 a1 a2 a3 a4 a5 a6 a7 a8 L9 N = some r) : LSpec Tryz.prog 144 (κS L0 a1 a2 a3 a4 a5 a6 a7 a8 L9) [.cells (Za RA L9) 44] (Z2J L0 a1 a2 a3 a4 a5 a6 a7 a8 L9 r) (Z0T r) := by
 have h0 := Zt4 L0 a1 a2 a3 a4 a5 a6 a7 a8 L9 N r h;cases r with
 | r0 => exact (LSpec.frzv (E := RC) (L := (L0.set a1.toNat (⟨a2, a3, a4, a5, a6, a7, a8, L9⟩ : RJ))) (post := [none]) (v2 := ms RC (L0.set a1.toNat (⟨a2, a3, a4, a5, a6, a7, a8, L9⟩ : RJ))) h0 (show 1 ≤ 1 from by decide) (show 1 < 1000000000 from by decide) ⟨trivial, trivial⟩ rfl (Zfn eqA eqA) rfl)

end
noncomputable def Z0U {L0 : List RJ} {a1 a2 a3 a4 a5 a6 a7 a8 : Int} {L9 : List RG} {N : Nat} (h : Zb2 L0 a1 a2 a3 a4 a5 a6 a7 a8 L9 N = some (.r0)) (ks : List Nat) (n : Nat) : ToldS := ⟨#[ms RC L0, vi a1, Value.agg #[vi a2, vi a3, vi a4, vi a5, vi a6, vi a7, vi a8, vs (nth ks 0) 0 L9.length L9.length]], [((nth ks 0), .cells (Za RA L9) 44)], ms RC (L0.set a1.toNat (⟨a2, a3, a4, a5, a6, a7, a8, L9⟩ : RJ)), [((nth ks 0), none)], 0⟩

theorem Zee {L0 : List RJ} {a1 a2 a3 a4 a5 a6 a7 a8 : Int} {L9 : List RG} {N : Nat} (h : Zb2 L0 a1 a2 a3 a4 a5 a6 a7 a8 L9 N = some (.r0)) (ks : List Nat) (n : Nat) (hk : ks.length = 1 := by rfl) (hnd : ks.Nodup := by decide +kernel) (hlt : ∀ k ∈ ks, k < n := by decide +kernel) : (Z0U (N := N)  h ks n).P Tryz.prog 144 n :=
 match ks, hk, hnd, hlt with
 | [k0], _, hnd, hlt => Zcj (show LSpec Tryz.prog 144 (κS L0 a1 a2 a3 a4 a5 a6 a7 a8 L9) [.cells (Za RA L9) 44] (ms RC (L0.set a1.toNat (⟨a2, a3, a4, a5, a6, a7, a8, L9⟩ : RJ))) [none] from ZuU L0 a1 a2 a3 a4 a5 a6 a7 a8 L9 N _ h) _ n [0] hnd hlt

noncomputable def ZlK : Zcb → Value
 | .r0 w0 w1 w2 w3 w4 w5 w6 w7 => Value.tuple #[Value.agg #[vi w0, vi w1, vi w2, vi w3, vi w4, vi w5, vi w6, ms RA w7], vT]
 | .r1 => Value.tuple #[Value.agg #[vq, vq, vq, vq, vq, vq, vq, vn], vf]
noncomputable def ZkN : Zcb → List (Option AObj)
 | .r0 w0 w1 w2 w3 w4 w5 w6 w7 => []
 | .r1 => []

def Zz0 : Zbz → Nat
 | .h1m0 v1 => 1
noncomputable def Z0V (L0 : List RJ) (a1 a2 : Int) : Zbz → List (Nat × Value)
 | .h1m0 v1 => [(0, ms RC L0), (3, vp 0 0), (4, vp 1 0), (6, vi (v1 : Int))]
noncomputable def Z0W (L0 : List RJ) (a1 a2 : Int) : Zbz → List (Option AObj)
 | .h1m0 v1 => [some (.cells [vi a1, vi a2] 44), some κb0]

noncomputable def Z0X : Nat → Code × List ZL
 | 1 => Z5 [1, 0, 1, 3] (ZM Tryz.f150) []
 | _ => (.skip, [])

section
variable (L0 : List RJ) (a1 a2 : Int) (N : Nat)
noncomputable def Zja : Mach := ⟨Tryz.f150, [], Zbz, Zcb, ZeZ L0 a1 a2 N, Zz0, Z0X, ilT, Z0V L0 a1 a2, Z0W L0 a1 a2, ZlK, ZkN⟩

theorem Zsa (L0 : List RJ) (a1 a2 : Int) (v1 N : Nat) : (Zja L0 a1 a2 N).Ok Tryz.prog Ze (.h1m0 v1 : Zbz) (ZaK L0 a1 a2 N v1) := by
 unfold ZaK;refine ok_ite (fun g0 => ?_) fun g0 => ?_
 ·
  have w1 := lkG RC L0 ((0 + (v1 * 8)) + 0) v1 0 2 8 <| kB v1 L0.length <| xkI (v1 : Int) v1 <| bhY g0 Zg
  refine ok_ite (fun g1 => ?_) fun g1 => ?_
  · exact Mach.okF0 [] (tL 1 (RC.cel (L0.getD v1 RJ.z)) <| kG RC L0 (0 + (v1 * 8)) v1 0 8 8 <| kB v1 L0.length <| xkI (v1 : Int) v1 <| bkZ (((L0.getD v1 RJ.z).a0 == a1) && (((L0.getD v1 RJ.z).a1 == a2) && true)) w1) bE
  refine oi fun g2 => ?_;exact Mach.okN0 [0, 1] (vkW ((v1 : Int) + 1) (((v1 + 1) : Nat) : Int) <| bkO (((L0.getD v1 RJ.z).a0 == a1) && (((L0.getD v1 RJ.z).a1 == a2) && true)) w1) (bS [vi a1, vi a2] <| bS [vq, vq, vq, vq, vq, vq, vq, vn] <| bE)
 exact Mach.okF0 [] (bhN g0 Zg) bE

theorem ZwL : (Zja L0 a1 a2 N).Enter Tryz.prog Ze (κr L0 a1 a2) (Zk6 L0 a1 a2 N) := by unfold Zk6;exact enH [0, 1] [some (ms RC L0), some (vp 0 0), some (vp 1 0), some (vq)] Zg (tC (tC (tC (tC (tE) ⟨Eq.trans (show κg = vq from ci) (by rfl), by rfl⟩)))) (bS [vi a1, vi a2] <| bS [vq, vq, vq, vq, vq, vq, vq, vn] <| bE)

theorem Zt5 (r : Zcb) (h : ZdW L0 a1 a2 N = some r) : LSpec Tryz.prog 150 (κr L0 a1 a2) [] (ZlK r) (ZkN r) :=
 Mach.specT Zv (Zja L0 a1 a2 N) Tryz.func150 (fun x => (show (Zja L0 a1 a2 N).Ok Tryz.prog Ze x (ZeZ L0 a1 a2 N x) from by
  cases x with
  | h1m0 v1 => exact Zsa L0 a1 a2 v1 N
  )) (ZwL L0 a1 a2 N) h

theorem Zai {L0 : List RJ} {a1 a2 : Int} {N : Nat} {r : Zcb} (h : ZdW L0 a1 a2 N = some r) : LSpec Tryz.prog 150 (κr L0 a1 a2) [] (ZlK r) (ZkN r) := Zt5 L0 a1 a2 N r h

noncomputable def Zpz : ZeH → Value
 | .r0 w0 => Value.bool w0
noncomputable def Zn6 : ZeH → List (Option AObj)
 | .r0 w0 => []

theorem Z0Y : Fx Tryz.prog Ze Tryz.f151 [] (κr L0 a1 a2) (Zpz) (Zn6) (ZdN L0 a1 a2 N) := by
 unfold ZdN;refine Zx (fun z0 c0 => ?_);cases z0 with
 | r0 y0_0 y0_1 y0_2 y0_3 y0_4 y0_5 y0_6 y0_7 =>
  have w1 := kK (tQ (Zai c0) 1) Zg;refine Zb (fun g1 => ?_) (fun g1 => ?_)
  ·
   refine Zb (fun g2 => ?_) (fun g2 => ?_)
   · exact Zr [] (bhD g2 <| bhT g1 w1) bE
   exact Zr [] (bkE a2 0 <| bhT g1 w1) bE
  exact Zr [] (bhF g1 w1) bE
 | r1 =>
  exact Zr [] (kK (tQ (Zai c0) 1) Zg) bE

theorem ZwM (r : ZeH) (h : ZdN L0 a1 a2 N = some r) : LSpec Tryz.prog 151 (κr L0 a1 a2) [] (Zpz r) (Zn6 r) :=
 ZI Zv Tryz.func151 (by kernel_rfl) (by kernel_rfl) (fun r => by cases r <;> exact ZP _ rfl) (Z0Y L0 a1 a2 N) h

end
theorem ZaV {L0 : List RJ} {a1 a2 : Int} {N : Nat} {r : ZeH} (h : ZdN L0 a1 a2 N = some r) : LSpec Tryz.prog 151 (κr L0 a1 a2) [] (Zpz r) (Zn6 r) := ZwM L0 a1 a2 N r h

noncomputable def Zn7 : Zdu → Value
 | .r0 => vf
noncomputable def ZlL : Zdu → List (Option AObj)
 | .r0 => []

def Z0Z : Zdv → Nat
 | .h1m0 => 1
noncomputable def Z2K (a0 a1 : Int) : Zdv → List (Nat × Value)
 | .h1m0 => [(0, vn), (3, vp 0 0), (5, vq)]
noncomputable def Z2L (a0 a1 : Int) : Zdv → List (Option AObj)
 | .h1m0 => [some (.cells [vi a0, vi a1] 44)]

noncomputable def Z2M : Nat → Code × List ZL
 | 1 => Z5 [1, 0, 1, 3] (ZM Tryz.f152) []
 | _ => (.skip, [])

section
variable (a0 a1 : Int) (N : Nat)
noncomputable def ZjZ : Mach := ⟨Tryz.f152, [], Zdv, Zdu, Zj4 a0 a1 N, Z0Z, Z2M, ilT, Z2K a0 a1, Z2L a0 a1, Zn7, ZlL⟩

theorem Zt6 : (ZjZ a0 a1 N).Ok Tryz.prog Ze (.h1m0 : Zdv) (ZiD a0 a1 N) := by unfold ZiD;exact Mach.okF0 [] Zg bE

theorem Zz1 : (ZjZ a0 a1 N).Enter Tryz.prog Ze #[vn, Value.agg #[vi a0, vi a1]] (ZlA a0 a1 N) := by unfold ZlA;exact Mach.enH0 [0] Zg (bS [vi a0, vi a1] <| bE)

theorem ZuV (r : Zdu) (h : Zjr a0 a1 N = some r) : LSpec Tryz.prog 152 #[vn, Value.agg #[vi a0, vi a1]] [] (Zn7 r) (ZlL r) :=
 Mach.specT Zv (ZjZ a0 a1 N) Tryz.func152 (fun x => (show (ZjZ a0 a1 N).Ok Tryz.prog Ze x (Zj4 a0 a1 N x) from by
  cases x with
  | h1m0 => exact Zt6 a0 a1 N
  )) (Zz1 a0 a1 N) h

end
theorem ZlM {a0 a1 : Int} {N : Nat} {r : Zdu} (h : Zjr a0 a1 N = some r) : LSpec Tryz.prog 152 #[vn, Value.agg #[vi a0, vi a1]] [] (Zn7 r) (ZlL r) := ZuV a0 a1 N r h

end Ev
end Go.Proofs.YthfohmhipifiaaaGreat
namespace Go.Proofs.YthfohmhipifiaaaGreat
open Go.RowKit
namespace Ev
open Mach (oi ok_ite ok_none ok_bind enH en_ite en_none en_bind)
noncomputable def Zp0 : ZcK → Value
 | .r0 => vf
section
variable (L0 : List RG)
noncomputable def ZnY (a1 a2 : Int) : ZcK → List (Option AObj)
 | .r0 => [some (.cells (Za RA L0) 44)]

def ZwN : Zcc → Nat
 | .h1m0 => 1
noncomputable def Zz2 (a1 a2 : Int) : Zcc → List (Nat × Value)
 | .h1m0 => [(0, vs 0 0 L0.length L0.length), (3, vp 1 0), (5, vq)]
noncomputable def Zz3 (a1 a2 : Int) : Zcc → List (Option AObj)
 | .h1m0 => [some (.cells (Za RA L0) 44), some (.cells [vi a1, vi a2] 44)]

end
noncomputable def Zz4 : Nat → Code × List ZL
 | 1 => Z5 [1, 0, 1, 3] (ZM Tryz.f152) []
 | _ => (.skip, [])

section
variable (L0 : List RG) (a1 a2 : Int) (N : Nat)
noncomputable def Ziq : Mach := ⟨Tryz.f152, [.cells (Za RA L0) 44], Zcc, ZcK, ZhV L0 a1 a2 N, ZwN, Zz4, ilT, Zz2 L0 a1 a2, Zz3 L0 a1 a2, Zp0, ZnY L0 a1 a2⟩

theorem ZqK : (Ziq L0 a1 a2 N).Ok Tryz.prog Ze (.h1m0 : Zcc) (Zhx L0 a1 a2 N) := by unfold Zhx;refine ok_ite (fun _ => ok_none) (fun g0 => ?_);exact Mach.okF0 [0] (bhN g0 Zg) (bR <| bE)

theorem ZuW : (Ziq L0 a1 a2 N).Enter Tryz.prog Ze (κZ L0 a1 a2) (Zj5 L0 a1 a2 N) := by unfold Zj5;exact Mach.enH0 [0, 1] Zg (bR <| bS [vi a1, vi a2] <| bE)

theorem Zsb (r : ZcK) (h : ZgV L0 a1 a2 N = some r) : LSpec Tryz.prog 152 (κZ L0 a1 a2) [.cells (Za RA L0) 44] (Zp0 r) (ZnY L0 a1 a2 r) :=
 Mach.specT Zv (Ziq L0 a1 a2 N) Tryz.func152 (fun x => (show (Ziq L0 a1 a2 N).Ok Tryz.prog Ze x (ZhV L0 a1 a2 N x) from by
  cases x with
  | h1m0 => exact ZqK L0 a1 a2 N
  )) (ZuW L0 a1 a2 N) h

end
noncomputable def Zey {L0 : List RG} {a1 a2 : Int} {N : Nat} (h : ZgV L0 a1 a2 N = some (.r0)) (ks : List Nat) (n : Nat) : ToldS := ⟨#[vs (nth ks 0) 0 L0.length L0.length, Value.agg #[vi a1, vi a2]], [((nth ks 0), .cells (Za RA L0) 44)], vf, [], 0⟩

theorem ZjI {L0 : List RG} {a1 a2 : Int} {N : Nat} (h : ZgV L0 a1 a2 N = some (.r0)) (ks : List Nat) (n : Nat) (hk : ks.length = 1 := by rfl) (hnd : ks.Nodup := by decide +kernel) (hlt : ∀ k ∈ ks, k < n := by decide +kernel) : (Zey (N := N)  h ks n).P Tryz.prog 152 n :=
 match ks, hk, hnd, hlt with
 | [k0], _, hnd, hlt => Zcj (show LSpec Tryz.prog 152 (κZ L0 a1 a2) [.cells (Za RA L0) 44] (vf) [some (.cells (Za RA L0) 44)] from Zsb L0 a1 a2 N _ h) _ n [] hnd hlt

noncomputable def ZfC (L0 : List RJ) (L1 : List RG) (a2 a3 : Int) : Z0 → Value
 | .r0 => vs 0 0 L1.length L1.length
 | .r1 w0 => vs 1 0 w0.length w0.length
noncomputable abbrev κW (L1 : List RG) := [some (AObj.cells (Za RA L1) 44)]
noncomputable def Zfl (L0 : List RJ) (L1 : List RG) (a2 a3 : Int) : Z0 → List (Option AObj)
 | .r0 => (κW L1)
 | .r1 w0 => [none, some (.cells (Za RA w0) 44)]

def ZuX : Zas → Nat
 | .h1m0 .. => 1
section
variable (L0 : List RJ)
noncomputable def ZwO (L1 : List RG) (a2 a3 : Int) : Zas → List (Nat × Value)
 | .h1m0 v1 v3 v4 v5 v6 v7 v8 v9 v10 v11 => [(0, ms RC L0), (1, vs 1 0 v1.length v1.length), (3, vT), (9, vp 2 0), (11, vi (v3 : Int))]
noncomputable def ZwP (L0 : List RJ) (L1 : List RG) (a2 a3 : Int) : Zas → List (Option AObj)
 | .h1m0 v1 v3 v4 v5 v6 v7 v8 v9 v10 v11 => [none, some (κbA v1), some (.cells [vi v4, vi v5, vi v6, vi v7, vi v8, vi v9, vi v10, ms RA v11] 97)]

noncomputable def Zhj : Nat → Code × List ZL
 | 1 => Z5 [1, 1, 1, 1, 0, 1, 3] (ZM Tryz.f149) []
 | _ => (.skip, [])

noncomputable def ZiO (L0 : List RJ) (L1 : List RG) (a2 a3 : Int) (k0 n : Nat) : Told := .call [(k0, .cells (Za RA L1) 44)] (vs k0 0 L1.length L1.length) [] 0
def ZgD (A : Array Value) (L0 : List RJ) (L1 : List RG) (a2 a3 : Int) (k0 n : Nat) : Prop := Zb3 Tryz.prog 149 A [(k0, .cells (Za RA L1) 44)] (vs k0 0 L1.length L1.length) [] n 0

noncomputable abbrev κba (k0 : Nat) (L1 : List RG) (a2 a3 : Int) := #[ms RC L0, vs k0 0 L1.length L1.length, Value.agg #[vi a2, vi a3], vT]
noncomputable abbrev κX (L1 : List RG) := [AObj.cells (Za RA L1) 44]
noncomputable abbrev κu (L1 : List RG) (a2 a3 : Int) := #[ms RC L0, vs 0 0 L1.length L1.length, Value.agg #[vi a2, vi a3], vT]
end
section
variable (A : Array Value) (L0 : List RJ) (L1 : List RG) (a2 a3 : Int)
theorem Zlt (hL : LSpec Tryz.prog 149 (κu L0 L1 a2 a3) (κX L1) (vs 0 0 L1.length L1.length) (κW L1)) (k0 n : Nat) (hA : A = (κba L0 k0 L1 a2 a3)) (hnd : ([k0] : List Nat).Nodup) (hlt : ∀ k ∈ ([k0] : List Nat), k < n) : ZgD A L0 L1 a2 a3 k0 n :=
 Z1D hA (LSpec.callL (show LSpec Tryz.prog 149 (κu L0 L1 a2 a3) (κX L1) (vs 0 0 L1.length L1.length) (κW L1) from hL) [k0] n [] rfl hnd hlt (show 1 ≤ 1 from by decide) (show ∀ j ∈ ([] : List Nat), j < 1 from by decide) (by rfl) ⟨(ZcZ _ _ _), trivial⟩ (by rfl) ⟨(ZcZ _ _ _), trivial⟩ ⟨.inr rfl, trivial⟩ rfl rfl rfl (Zw (Zkg rfl (Zk4 _ _ _)) rfl) rfl)

noncomputable abbrev κbN (w0 : List RG) := (AObj.cells (Za RA w0) 44)
noncomputable def ZiP (L0 : List RJ) (L1 : List RG) (a2 a3 : Int) (w0 : List RG) (k0 n : Nat) : Told := .call [(k0, .cells (Za RA L1) 44)] (vs n 0 w0.length w0.length) [(k0, none), (n, some (κbN w0))] 1
def ZgE (A : Array Value) (L0 : List RJ) (L1 : List RG) (a2 a3 : Int) (w0 : List RG) (k0 n : Nat) : Prop := Zb3 Tryz.prog 149 A [(k0, .cells (Za RA L1) 44)] (vs n 0 w0.length w0.length) [(k0, none), (n, some (κbN w0))] n 1

theorem Zlu (w0 : List RG) (hL : LSpec Tryz.prog 149 (κu L0 L1 a2 a3) (κX L1) (vs 1 0 w0.length w0.length) [none, some (κbN w0)]) (k0 n : Nat) (hA : A = (κba L0 k0 L1 a2 a3)) (hnd : ([k0] : List Nat).Nodup) (hlt : ∀ k ∈ ([k0] : List Nat), k < n) : ZgE A L0 L1 a2 a3 w0 k0 n :=
 Z1D hA (LSpec.callL (show LSpec Tryz.prog 149 (κu L0 L1 a2 a3) (κX L1) (vs 1 0 w0.length w0.length) [none, some (κbN w0)] from hL) [k0] n [0, 1] rfl hnd hlt (show 1 ≤ 2 from by decide) (show ∀ j ∈ ([0, 1] : List Nat), j < 2 from by decide) (by rfl) ⟨(ZcZ _ _ _), trivial⟩ (by rfl) ⟨(ZcZ _ _ _), trivial⟩ ⟨.inl (by decide), ⟨(by decide), trivial⟩⟩ rfl rfl rfl (Zw (Zkg rfl (Zk4 _ _ _)) rfl) (Zw (Zkg rfl rfl) (Zw (Zkg rfl (Z1A (Zk4 _ _ _))) rfl)))

end
section
variable (rec : List RJ → List RG → Int → Int → Option Z0)
noncomputable def Zbb (L0 : List RJ) (L1 : List RG) (a2 a3 : Int) (N : Nat) : Mach := ⟨Tryz.f149, (κX L1), Zas, Z0, Zf0 rec L0 L1 a2 a3 N, ZuX, Zhj, ilT, ZwO L0 L1 a2 a3, ZwP L0 L1 a2 a3, ZfC L0 L1 a2 a3, Zfl L0 L1 a2 a3⟩

theorem Zp1 (hrec : ∀ (L0 : List RJ) (L1 : List RG) (a2 a3 : Int) (r : Z0), rec L0 L1 a2 a3 = some r → LSpec Tryz.prog 149 (κu L0 L1 a2 a3) (κX L1) (ZfC L0 L1 a2 a3 r) (Zfl L0 L1 a2 a3 r)) (L0 : List RJ) (L1 : List RG) (a2 a3 : Int) (v1 : List RG) (v3 : Nat) (v4 v5 v6 v7 v8 v9 v10 : Int) (v11 : List RG) (N : Nat) : (Zbb rec L0 L1 a2 a3 N).Ok Tryz.prog Ze (.h1m0 v1 v3 v4 v5 v6 v7 v8 v9 v10 v11 : Zas) (ZgN rec L0 L1 a2 a3 N v1 v3 v4 v5 v6 v7 v8 v9 v10 v11) := by
 unfold ZgN;refine ok_ite (fun g0 => ?_) fun g0 => ?_
 ·
  refine ok_bind fun z1 c1 => ?_;cases z1 with
  | r0 =>
   refine oi fun g2 => ?_;exact Mach.ok_next (M := Zbb rec L0 L1 a2 a3 N) (cd := 1000000) (cm := 0) (y := (.h1m0 v1 (v3 + 1) v4 v5 v6 v7 v8 v9 v10 v11 : Zas)) (fu := 4000) (orc := (Zhs (oq [1]) [(0, (((v3 + 1) : Nat) : Int))] [(0, v3)] [(2, (RA.cel (v11.getD v3 RG.z)))] [(0, (ZiO L0 v1 ((v11.getD v3 RG.z).a0) ((v11.getD v3 RG.z).a1)   1 3))])) (live := [0, 1, 2]) (tv := fun _ => [some (ms RC L0), some (vs 1 0 v1.length v1.length), some (vT), some (vp 2 0), some (vi (((v3 + 1) : Nat) : Int))]) (bl := [none, some (κbA v1), some (.cells [vi v4, vi v5, vi v6, vi v7, vi v8, vi v9, vi v10, ms RA v11] 97)]) rfl (inE (by kernel_rfl)) (fun gv => by kernel_rfl) (vkW ((v3 : Int) + 1) (((v3 + 1) : Nat) : Int) <| kX (dP (ZgD #[ms RC L0, vs 1 0 v1.length v1.length, Value.agg #[vi (v11.getD v3 RG.z).a0, vi (v11.getD v3 RG.z).a1], vT] L0 v1 ((v11.getD v3 RG.z).a0) ((v11.getD v3 RG.z).a1)   1 3)) true (Zn (Zlt #[ms RC L0, vs 1 0 v1.length v1.length, Value.agg #[vi (v11.getD v3 RG.z).a0, vi (v11.getD v3 RG.z).a1], vT] L0 v1 ((v11.getD v3 RG.z).a0) ((v11.getD v3 RG.z).a1)   (hrec L0 v1 ((v11.getD v3 RG.z).a0) ((v11.getD v3 RG.z).a1)  _ c1) 1 3 rfl (by decide) (by decide))) <| tW 0 ((ZiO L0 v1 ((v11.getD v3 RG.z).a0) ((v11.getD v3 RG.z).a1)   1 3)) <| kR (Za RA v1) <| tL 2 (RA.cel (v11.getD v3 RG.z)) <| kG RA v11 (0 + (v3 * 2)) v3 0 2 2 <| kB v3 v11.length <| xkI (v3 : Int) v3 <| bhY g0 Zg) rfl (by decide +kernel) (by rfl) (fun _ => ⟨rr, ⟨rr, ⟨rr, ⟨rr, ⟨rr, trivial⟩⟩⟩⟩⟩) ⟨(ZbP (E := RA) (α := RG) _ v1 _), ⟨sm, trivial⟩⟩
  | r1 y1_0 =>
   refine oi fun g2 => ?_;exact Mach.ok_next (M := Zbb rec L0 L1 a2 a3 N) (cd := 1000000) (cm := 0) (y := (.h1m0 y1_0 (v3 + 1) v4 v5 v6 v7 v8 v9 v10 v11 : Zas)) (fu := 4000) (orc := (Zhs (oq [1]) [(0, (((v3 + 1) : Nat) : Int))] [(0, v3)] [(2, (RA.cel (v11.getD v3 RG.z)))] [(0, (ZiP L0 v1 ((v11.getD v3 RG.z).a0) ((v11.getD v3 RG.z).a1)  y1_0 1 3))])) (live := [0, 3, 2]) (tv := fun _ => [some (ms RC L0), some (vs 3 0 y1_0.length y1_0.length), some (vT), some (vp 2 0), some (vi (((v3 + 1) : Nat) : Int))]) (bl := [none, some (.cells (Za RA y1_0) 44), some (.cells [vi v4, vi v5, vi v6, vi v7, vi v8, vi v9, vi v10, ms RA v11] 97)]) rfl (inE (by kernel_rfl)) (fun gv => by kernel_rfl) (vkW ((v3 : Int) + 1) (((v3 + 1) : Nat) : Int) <| kX (dP (ZgE #[ms RC L0, vs 1 0 v1.length v1.length, Value.agg #[vi (v11.getD v3 RG.z).a0, vi (v11.getD v3 RG.z).a1], vT] L0 v1 ((v11.getD v3 RG.z).a0) ((v11.getD v3 RG.z).a1)  y1_0 1 3)) true (Zn (Zlu #[ms RC L0, vs 1 0 v1.length v1.length, Value.agg #[vi (v11.getD v3 RG.z).a0, vi (v11.getD v3 RG.z).a1], vT] L0 v1 ((v11.getD v3 RG.z).a0) ((v11.getD v3 RG.z).a1)  y1_0 (hrec L0 v1 ((v11.getD v3 RG.z).a0) ((v11.getD v3 RG.z).a1)  _ c1) 1 3 rfl (by decide) (by decide))) <| tW 0 ((ZiP L0 v1 ((v11.getD v3 RG.z).a0) ((v11.getD v3 RG.z).a1)  y1_0 1 3)) <| kR (Za RA v1) <| tL 2 (RA.cel (v11.getD v3 RG.z)) <| kG RA v11 (0 + (v3 * 2)) v3 0 2 2 <| kB v3 v11.length <| xkI (v3 : Int) v3 <| bhY g0 Zg) rfl (by decide +kernel) (by rfl) (fun _ => ⟨rr, ⟨rr, ⟨rr, ⟨rr, ⟨rr, trivial⟩⟩⟩⟩⟩) ⟨(ZbP (E := RA) (α := RG) _ y1_0 _), ⟨sm, trivial⟩⟩
 exact Mach.ok_fin (M := Zbb rec L0 L1 a2 a3 N) (cd := 1000000) (cm := 0) (r := (.r1 v1 : Z0)) (fu := 4000) (orc := (Zhs [(0, false)] [] [] [] [])) (live := [0, 1]) (u := vs 1 0 v1.length v1.length) (bl := [none, some (κbA v1)]) (ob := [((decide ((v3 : Int) < (v11.length : Int))), false)]) (fun gv => by kernel_rfl) (oN Zkf) rfl (by decide) (by rfl) rr ⟨(ZbP (E := RA) (α := RG) _ v1 _), trivial⟩

theorem Zt7 (hrec : ∀ (L0 : List RJ) (L1 : List RG) (a2 a3 : Int) (r : Z0), rec L0 L1 a2 a3 = some r → LSpec Tryz.prog 149 (κu L0 L1 a2 a3) (κX L1) (ZfC L0 L1 a2 a3 r) (Zfl L0 L1 a2 a3 r)) (L0 : List RJ) (L1 : List RG) (a2 a3 : Int) (N : Nat) : (Zbb rec L0 L1 a2 a3 N).Enter Tryz.prog Ze (κu L0 L1 a2 a3) (Zfa rec L0 L1 a2 a3 N) := by
 unfold Zfa;refine en_bind (fun z0 c0 => ?_);cases z0 with
 | r0 y0_0 y0_1 y0_2 y0_3 y0_4 y0_5 y0_6 y0_7 =>
  refine en_bind (fun z1 c1 => ?_);cases z1 with
  | r0 y1_0 =>
   refine en_ite (fun g2 => ?_) (fun g2 => ?_)
   · exact Mach.en_fin (M := Zbb rec L0 L1 a2 a3 N) (cd := 1000000) (cm := 0) (r := (.r0 : Z0)) (fu := 4000) (orc := (Zhs [(0, true)] [] [] [] [(0, (tP (Zai c0)).t), (3, (tP (ZaV c1)).t)])) (live := [0]) (u := vs 0 0 L1.length L1.length) (bl := (κW L1)) (ob := [((!y1_0), true), (dP ((tP (ZaV c1)).P Tryz.prog 151 3), true), (dP ((tP (Zai c0)).P Tryz.prog 150 2), true)]) (by kernel_rfl) (ZF nbt <| ZF (Zn (tQ (ZaV c1) 3)) <| ZF (Zn (tQ (Zai c0) 2)) Zkf) rfl (by decide) (by rfl) rr ⟨(ZbP (E := RA) (α := RG) _ L1 _), trivial⟩
   refine en_bind (fun z3 c3 => ?_);cases z3 with
   | r0 =>
    refine en_ite (fun g4 => ?_) (fun g4 => ?_)
    · exact Mach.en_fin (M := Zbb rec L0 L1 a2 a3 N) (cd := 1000000) (cm := 0) (r := (.r0 : Z0)) (fu := 4000) (orc := (Zhs [(0, false), (1, true)] [] [] [] [(0, (tP (Zai c0)).t), (3, (tP (ZaV c1)).t), (4, (Zey c3 [0] 3).t)])) (live := [0]) (u := vs 0 0 L1.length L1.length) (bl := (κW L1)) (ob := [((y0_5 != 1), true), (dP ((Zey c3 [0] 3).P Tryz.prog 152 3), true), (dS (Za RA L1), true), ((!y1_0), false), (dP ((tP (ZaV c1)).P Tryz.prog 151 3), true), (dP ((tP (Zai c0)).P Tryz.prog 150 2), true)]) (by kernel_rfl) (oD <| ZF (Zn (ZjI c3 [0] 3)) <| oR <| ZF nbf <| ZF (Zn (tQ (ZaV c1) 3)) <| ZF (Zn (tQ (Zai c0) 2)) Zkf) rfl (by decide) (by rfl) rr ⟨(ZbP (E := RA) (α := RG) _ L1 _), trivial⟩
    refine en_ite (fun g5 => ?_) (fun _ => en_none);exact Mach.en_head (bK := Zhj 1) (M := Zbb rec L0 L1 a2 a3 N) (cd := 1000000) (cm := 0) (y := (.h1m0 (L1 ++ ([(⟨a2, a3⟩ : RG)] : List RG)) 0 y0_0 y0_1 y0_2 y0_3 y0_4 y0_5 y0_6 y0_7 : Zas)) (fu := 4000) (orc := (Zhs (oq [0, 2]) [] [] [] [(0, (tP (Zai c0)).t), (3, (tP (ZaV c1)).t), (4, (Zey c3 [0] 3).t), (5, .ap 1 [vi a2, vi a3] (Za RA (L1 ++ ([(⟨a2, a3⟩ : RG)] : List RG))))])) (live := [0, 4, 2]) (tv := [some (ms RC L0), some (vs 4 0 (L1.length + 1) (L1.length + 1)), some (vT), some (vp 2 0), some (vq)]) (bl := [none, some (.cells (Za RA (L1 ++ ([(⟨a2, a3⟩ : RG)] : List RG))) 44), some (.cells [vi y0_0, vi y0_1, vi y0_2, vi y0_3, vi y0_4, vi y0_5, vi y0_6, ms RA y0_7] 97)]) rfl rfl (show ZaD (Zhj 1).2 = [] from rfl) (by kernel_rfl) (wkA RA L1 (⟨a2, a3⟩ : RG) <| bkE y0_5 1 <| kK (ZjI c3 [0] 3) <| bkX ((!y1_0)) false nbf <| kKg 2 (tQ (ZaV c1) 3) <| kK (tQ (Zai c0) 2) Zg) rfl (by decide +kernel) (by rfl) ⟨rr, ⟨⟨Eq.trans (show (vs 1 0 (L1 ++ ([(⟨a2, a3⟩ : RG)] : List RG)).length (L1 ++ ([(⟨a2, a3⟩ : RG)] : List RG)).length : Value) = vs 1 0 (L1.length + 1) (L1.length + 1) from (Zi rfl eqA eqA)) (by rfl), by rfl⟩, ⟨rr, ⟨rr, ⟨⟨Eq.trans (show κg = vq from ci) (by rfl), by rfl⟩, trivial⟩⟩⟩⟩⟩ ⟨(ZbP (E := RA) (α := RG) _ (L1 ++ ([(⟨a2, a3⟩ : RG)] : List RG)) _), ⟨sm, trivial⟩⟩
 | r1 =>
  refine en_bind (fun z1 c1 => ?_);cases z1 with
  | r0 y1_0 =>
   refine en_ite (fun g2 => ?_) (fun g2 => ?_)
   · exact Mach.en_fin (M := Zbb rec L0 L1 a2 a3 N) (cd := 1000000) (cm := 0) (r := (.r0 : Z0)) (fu := 4000) (orc := (Zhs [(0, true)] [] [] [] [(0, (tP (Zai c0)).t), (3, (tP (ZaV c1)).t)])) (live := [0]) (u := vs 0 0 L1.length L1.length) (bl := (κW L1)) (ob := [((!y1_0), true), (dP ((tP (ZaV c1)).P Tryz.prog 151 3), true), (dP ((tP (Zai c0)).P Tryz.prog 150 2), true)]) (by kernel_rfl) (ZF nbt <| ZF (Zn (tQ (ZaV c1) 3)) <| ZF (Zn (tQ (Zai c0) 2)) Zkf) rfl (by decide) (by rfl) rr ⟨(ZbP (E := RA) (α := RG) _ L1 _), trivial⟩
   refine en_bind (fun z3 c3 => ?_);cases z3 with
   | r0 =>
    exact Mach.en_fin (M := Zbb rec L0 L1 a2 a3 N) (cd := 1000000) (cm := 0) (r := (.r0 : Z0)) (fu := 4000) (orc := (Zhs [(0, false)] [] [] [] [(0, (tP (Zai c0)).t), (3, (tP (ZaV c1)).t), (4, (Zey c3 [0] 3).t)])) (live := [0]) (u := vs 0 0 L1.length L1.length) (bl := (κW L1)) (ob := [(dP ((Zey c3 [0] 3).P Tryz.prog 152 3), true), (dS (Za RA L1), true), ((!y1_0), false), (dP ((tP (ZaV c1)).P Tryz.prog 151 3), true), (dP ((tP (Zai c0)).P Tryz.prog 150 2), true)]) (by kernel_rfl) (ZF (Zn (ZjI c3 [0] 3)) <| oR <| ZF nbf <| ZF (Zn (tQ (ZaV c1) 3)) <| ZF (Zn (tQ (Zai c0) 2)) Zkf) rfl (by decide) (by rfl) rr ⟨(ZbP (E := RA) (α := RG) _ L1 _), trivial⟩

end
theorem Zp2 (N : Nat) : ∀ (n : Nat) (L0 : List RJ) (L1 : List RG) (a2 a3 : Int) (r : Z0), ZaW N n L0 L1 a2 a3 = some r → LSpec Tryz.prog 149 (κu L0 L1 a2 a3) (κX L1) (ZfC L0 L1 a2 a3 r) (Zfl L0 L1 a2 a3 r) := by
 intro n
 induction n with
 | zero => intro L0 L1 a2 a3 r h; cases h
 | succ n ih =>
  intro L0 L1 a2 a3 r h;exact Mach.spec Zv (Zbb (ZaW N n) L0 L1 a2 a3 N) Tryz.func149 (by kernel_rfl) (by kernel_rfl) (fun x => by cases x <;> exact ZP _ rfl) (fun r => by cases r <;> exact ZP _ rfl) (fun x => by
   cases x with
   | h1m0 _ _ _ _ _ _ _ _ _ _ => exact fun _ => (show ¬ (1 ∈ ZaD (Zhj 1).2) from by decide +kernel)
   ) (fun x => (show (Zbb (ZaW N n) L0 L1 a2 a3 N).Ok Tryz.prog Ze x (Zf0 (ZaW N n) L0 L1 a2 a3 N x) from by
   cases x with
   | h1m0 v1 v3 v4 v5 v6 v7 v8 v9 v10 v11 => exact Zp1 (ZaW N n) ih L0 L1 a2 a3 v1 v3 v4 v5 v6 v7 v8 v9 v10 v11 N
   )) (Zt7 (ZaW N n) ih L0 L1 a2 a3 N) (n := N) h

theorem ZjS (L0 : List RJ) (L1 : List RG) (a2 a3 : Int) (N : Nat) (r : Z0) (h : Zfb L0 L1 a2 a3 N = some r) : LSpec Tryz.prog 149 (κu L0 L1 a2 a3) (κX L1) (ZfC L0 L1 a2 a3 r) (Zfl L0 L1 a2 a3 r) :=
 Zp2 N N L0 L1 a2 a3 r h

section
variable (A : Array Value) (L0 : List RJ) (L1 : List RG) (a2 a3 : Int)
theorem ZuY (N : Nat) (h : Zfb L0 L1 a2 a3 N = some (.r0)) (k0 n : Nat) (hA : A = (κba L0 k0 L1 a2 a3)) (hnd : ([k0] : List Nat).Nodup) (hlt : ∀ k ∈ ([k0] : List Nat), k < n) : ZgD A L0 L1 a2 a3 k0 n :=
 Zlt A L0 L1 a2 a3 (ZjS L0 L1 a2 a3 N _ h) k0 n hA hnd hlt

theorem ZuZ (w0 : List RG) (N : Nat) (h : Zfb L0 L1 a2 a3 N = some (.r1 w0)) (k0 n : Nat) (hA : A = (κba L0 k0 L1 a2 a3)) (hnd : ([k0] : List Nat).Nodup) (hlt : ∀ k ∈ ([k0] : List Nat), k < n) : ZgE A L0 L1 a2 a3 w0 k0 n :=
 Zlu A L0 L1 a2 a3 w0 (ZjS L0 L1 a2 a3 N _ h) k0 n hA hnd hlt

end
noncomputable def Zrv : Zb0 → Value
 | .r0 => vn
 | .r1 w0 => vs 0 0 w0.length w0.length
noncomputable def Zp3 : Zb0 → List (Option AObj)
 | .r0 => []
 | .r1 w0 => [some (.cells (Za RA w0) 44)]

def Zz5 : ZaP → Nat
 | .h1m0 .. => 1
noncomputable def Z1a (L0 : List RJ) (a1 a2 : Int) : ZaP → List (Nat × Value)
 | .h1m0 v1 v3 v4 v5 v6 v7 v8 v9 v10 v11 => [(0, ms RC L0), (1, vs 0 0 v1.length v1.length), (3, vT), (9, vp 1 0), (11, vi (v3 : Int))]
noncomputable def Z1b (L0 : List RJ) (a1 a2 : Int) : ZaP → List (Option AObj)
 | .h1m0 v1 v3 v4 v5 v6 v7 v8 v9 v10 v11 => [some (κbA v1), some (.cells [vi v4, vi v5, vi v6, vi v7, vi v8, vi v9, vi v10, ms RA v11] 97)]

noncomputable def Z1c : Nat → Code × List ZL
 | 1 => Z5 [1, 1, 1, 1, 0, 1, 3] (ZM Tryz.f149) []
 | _ => (.skip, [])

section
variable (L0 : List RJ) (a1 a2 : Int)
noncomputable def Zjb (N : Nat) : Mach := ⟨Tryz.f149, [], ZaP, Zb0, ZiE L0 a1 a2 N, Zz5, Z1c, ilT, Z1a L0 a1 a2, Z1b L0 a1 a2, Zrv, Zp3⟩

theorem Zsc (v1 : List RG) (v3 : Nat) (v4 v5 v6 v7 v8 v9 v10 : Int) (v11 : List RG) (N : Nat) : (Zjb L0 a1 a2 N).Ok Tryz.prog Ze (.h1m0 v1 v3 v4 v5 v6 v7 v8 v9 v10 v11 : ZaP) (ZcL L0 a1 a2 N v1 v3 v4 v5 v6 v7 v8 v9 v10 v11) := by
 unfold ZcL;refine ok_ite (fun g0 => ?_) fun g0 => ?_
 ·
  have w1 := tL 2 (RA.cel (v11.getD v3 RG.z)) <| kG RA v11 (0 + (v3 * 2)) v3 0 2 2 <| kB v3 v11.length <| xkI (v3 : Int) v3 <| bhY g0 Zg
  refine ok_bind fun z1 c1 => ?_;cases z1 with
  | r0 =>
   refine oi fun g2 => ?_;exact Mach.okN0 [0, 1] (vkW ((v3 : Int) + 1) (((v3 + 1) : Nat) : Int) <| kX (dP (ZgD #[ms RC L0, vs 0 0 v1.length v1.length, Value.agg #[vi (v11.getD v3 RG.z).a0, vi (v11.getD v3 RG.z).a1], vT] L0 v1 ((v11.getD v3 RG.z).a0) ((v11.getD v3 RG.z).a1)   0 2)) true (Zn (ZuY #[ms RC L0, vs 0 0 v1.length v1.length, Value.agg #[vi (v11.getD v3 RG.z).a0, vi (v11.getD v3 RG.z).a1], vT] L0 v1 ((v11.getD v3 RG.z).a0) ((v11.getD v3 RG.z).a1)   N c1 0 2 rfl (by decide) (by decide))) <| tW 0 ((ZiO L0 v1 ((v11.getD v3 RG.z).a0) ((v11.getD v3 RG.z).a1)   0 2)) <| kR (Za RA v1) w1) (bR <| bS [vi v4, vi v5, vi v6, vi v7, vi v8, vi v9, vi v10, ms RA v11] <| bE)
  | r1 y1_0 =>
   refine oi fun g2 => ?_;exact Mach.okN0 [2, 1] (vkW ((v3 : Int) + 1) (((v3 + 1) : Nat) : Int) <| kX (dP (ZgE #[ms RC L0, vs 0 0 v1.length v1.length, Value.agg #[vi (v11.getD v3 RG.z).a0, vi (v11.getD v3 RG.z).a1], vT] L0 v1 ((v11.getD v3 RG.z).a0) ((v11.getD v3 RG.z).a1)  y1_0 0 2)) true (Zn (ZuZ #[ms RC L0, vs 0 0 v1.length v1.length, Value.agg #[vi (v11.getD v3 RG.z).a0, vi (v11.getD v3 RG.z).a1], vT] L0 v1 ((v11.getD v3 RG.z).a0) ((v11.getD v3 RG.z).a1)  y1_0 N c1 0 2 rfl (by decide) (by decide))) <| tW 0 ((ZiP L0 v1 ((v11.getD v3 RG.z).a0) ((v11.getD v3 RG.z).a1)  y1_0 0 2)) <| kR (Za RA v1) w1) (bR <| bS [vi v4, vi v5, vi v6, vi v7, vi v8, vi v9, vi v10, ms RA v11] <| bE)
 exact Mach.okF0 [0] (bhN g0 Zg) (bR <| bE)

noncomputable abbrev κ2 := #[ms RC L0, vn, Value.agg #[vi a1, vi a2], vT]
theorem ZwQ (N : Nat) : (Zjb L0 a1 a2 N).Enter Tryz.prog Ze (κ2 L0 a1 a2) (ZhW L0 a1 a2 N) := by
 unfold ZhW;refine en_bind (fun z0 c0 => ?_);cases z0 with
 | r0 y0_0 y0_1 y0_2 y0_3 y0_4 y0_5 y0_6 y0_7 =>
  have w1 := kK (tQ (Zai c0) 1) Zg;refine en_bind (fun z1 c1 => ?_);cases z1 with
  | r0 y1_0 =>
   have w2 := kKg 2 (tQ (ZaV c1) 2) w1;refine en_ite (fun g2 => ?_) (fun g2 => ?_)
   · exact Mach.enF0 [] (bkX ((!y1_0)) true nbt w2) bE
   have w3 := bkX ((!y1_0)) false nbf w2;refine en_bind (fun z3 c3 => ?_);cases z3 with
   | r0 =>
    refine en_ite (fun g4 => ?_) (fun g4 => ?_)
    · exact Mach.enF0 [] (bhD g4 <| kK (tQ (ZlM c3) 2) w3) bE
    exact enH [3, 1] [some (ms RC L0), some (vs 3 0 1 1), some (vT), some (vp 1 0), some (vq)] (bkE y0_5 1 <| kK (tQ (ZlM c3) 2) w3) (tC (tC (tC (tC (tC (tE) ⟨Eq.trans (show κg = vq from ci) (by rfl), by rfl⟩))) ⟨Eq.trans (show (vs 0 0 ([(⟨a1, a2⟩ : RG)] : List RG).length ([(⟨a1, a2⟩ : RG)] : List RG).length : Value) = vs 0 0 1 1 from (Zi rfl eqA eqA)) (by rfl), by rfl⟩)) (bC (o := .cells [vi a1, vi a2] 44) (Zz (E := RA) _ (L := ([(⟨a1, a2⟩ : RG)] : List RG)) _ (show ([vi a1, vi a2] : List Value) = Za RA ([(⟨a1, a2⟩ : RG)] : List RG) from rfl)) <| bS [vi y0_0, vi y0_1, vi y0_2, vi y0_3, vi y0_4, vi y0_5, vi y0_6, ms RA y0_7] <| bE)
 | r1 =>
  refine en_bind (fun z1 c1 => ?_);cases z1 with
  | r0 y1_0 =>
   have w2 := kKg 2 (tQ (ZaV c1) 2) <| kK (tQ (Zai c0) 1) Zg
   refine en_ite (fun g2 => ?_) (fun g2 => ?_)
   · exact Mach.enF0 [] (bkX ((!y1_0)) true nbt w2) bE
   refine en_bind (fun z3 c3 => ?_);cases z3 with
   | r0 =>
    exact Mach.enF0 [] (kK (tQ (ZlM c3) 2) <| bkX ((!y1_0)) false nbf w2) bE

theorem Zlv (N : Nat) (r : Zb0) (h : ZeI L0 a1 a2 N = some r) : LSpec Tryz.prog 149 (κ2 L0 a1 a2) [] (Zrv r) (Zp3 r) :=
 Mach.specT Zv (Zjb L0 a1 a2 N) Tryz.func149 (fun x => (show (Zjb L0 a1 a2 N).Ok Tryz.prog Ze x (ZiE L0 a1 a2 N x) from by
  cases x with
  | h1m0 v1 v3 v4 v5 v6 v7 v8 v9 v10 v11 => exact Zsc L0 a1 a2 v1 v3 v4 v5 v6 v7 v8 v9 v10 v11 N
  )) (ZwQ L0 a1 a2 N) h

noncomputable def Zz6 {L0 : List RJ} {a1 a2 : Int} {N : Nat} (h : ZeI L0 a1 a2 N = some (.r0)) (ks : List Nat) (n : Nat) : ToldS := ⟨(κ2 L0 a1 a2), [], vn, [], 0⟩

theorem Zz7 {L0 : List RJ} {a1 a2 : Int} {N : Nat} (h : ZeI L0 a1 a2 N = some (.r0)) (ks : List Nat) (n : Nat) (hk : ks.length = 0 := by rfl) (hnd : ks.Nodup := by decide +kernel) (hlt : ∀ k ∈ ks, k < n := by decide +kernel) : (Zz6 (N := N)  h ks n).P Tryz.prog 149 n :=
 match ks, hk, hnd, hlt with
 | [], _, hnd, hlt => Zcj (show LSpec Tryz.prog 149 (κ2 L0 a1 a2) [] (vn) [] from Zlv L0 a1 a2 N _ h) _ n [] hnd hlt

noncomputable def Zz8 {L0 : List RJ} {a1 a2 : Int} {w0 : List RG} {N : Nat} (h : ZeI L0 a1 a2 N = some (.r1 w0)) (ks : List Nat) (n : Nat) : ToldS := ⟨(κ2 L0 a1 a2), [], vs n 0 w0.length w0.length, [(n, some (κbN w0))], 1⟩

theorem Zz9 {L0 : List RJ} {a1 a2 : Int} {w0 : List RG} {N : Nat} (h : ZeI L0 a1 a2 N = some (.r1 w0)) (ks : List Nat) (n : Nat) (hk : ks.length = 0 := by rfl) (hnd : ks.Nodup := by decide +kernel) (hlt : ∀ k ∈ ks, k < n := by decide +kernel) : (Zz8 (N := N)  h ks n).P Tryz.prog 149 n :=
 match ks, hk, hnd, hlt with
 | [], _, hnd, hlt => Zcj (show LSpec Tryz.prog 149 (κ2 L0 a1 a2) [] (vs 0 0 w0.length w0.length) [some (κbN w0)] from Zlv L0 a1 a2 N _ h) _ n [0] hnd hlt

noncomputable def Zlw : Zb1 → Value
 | .r0 => vn
 | .r1 w0 => vs 0 0 w0.length w0.length
noncomputable def ZkO : Zb1 → List (Option AObj)
 | .r0 => []
 | .r1 w0 => [some (.cells (Za RA w0) 44)]

noncomputable def Zm3 : Zb1 → Value
 | .r0 => ms RA ([] : List RG)
 | .r1 w0 => ms RA w0
noncomputable def Zlx : Zb1 → List (Option AObj)
 | .r0 => []
 | .r1 w0 => []

theorem Zsd (N : Nat) : Fx Tryz.prog Ze Tryz.f143 [] (κr L0 a1 a2) (Zlw) (ZkO) (Zcl L0 a1 a2 N) := by
 unfold Zcl;refine Zx (fun z0 c0 => ?_);cases z0 with
 | r0 =>
  exact Zr [] (kK (Zz7 c0 [] 1) Zg) bE
 | r1 y0_0 =>
  exact Zr [1] (kK (Zz9 c0 [] 1) Zg) (bR <| bE)

theorem Zoq (N : Nat) (r : Zb1) (h : Zcl L0 a1 a2 N = some r) : LSpec Tryz.prog 143 (κr L0 a1 a2) [] (Zlw r) (ZkO r) :=
 ZI Zv Tryz.func143 (by kernel_rfl) (by kernel_rfl) (fun r => by cases r <;> exact ZP _ rfl) (Zsd L0 a1 a2 N) h

theorem Zp4 (N : Nat) (r : Zb1) (h : Zcl L0 a1 a2 N = some r) : LSpec Tryz.prog 143 (κr L0 a1 a2) [] (Zm3 r) (Zlx r) := by
 have h0 := Zoq L0 a1 a2 N r h;cases r with
 | r0 => exact (LSpec.nlv (v2 := ms RA ([] : List RG)) h0 rfl rfl)
 | r1 w0 => exact (LSpec.frzv (E := RA) (L := w0) (post := []) (v2 := ms RA w0) h0 (show 0 ≤ 0 from by decide) (show 0 < 1000000000 from by decide) trivial rfl rfl rfl)

end
theorem ZfV {L0 : List RJ} {a1 a2 : Int} {N : Nat} {r : Zb1} (h : Zcl L0 a1 a2 N = some r) : LSpec Tryz.prog 143 (κr L0 a1 a2) [] (Zm3 r) (Zlx r) := Zp4 L0 a1 a2 N r h

noncomputable def ZnZ (L0 : List RJ) (a1 a2 a3 a4 a5 a6 a7 a8 : Int) (L9 : List RG) : ZcM → Value
 | .r0 => vs 0 0 L0.length L0.length
section
variable (L0 : List RJ) (a1 a2 a3 a4 a5 a6 a7 a8 : Int) (L9 : List RG)
noncomputable def Zm4 : ZcM → List (Option AObj)
 | .r0 => [some (.cells (Za RC (L0.set a1.toNat (⟨a2, a3, a4, a5, a6, a7, a8, L9⟩ : RJ))) 97)]

noncomputable def Zp5 : ZcM → Value
 | .r0 => ms RC (L0.set a1.toNat (⟨a2, a3, a4, a5, a6, a7, a8, L9⟩ : RJ))
noncomputable def Zoa : ZcM → List (Option AObj)
 | .r0 => []

theorem Zva (N : Nat) : Fx Tryz.prog Ze Tryz.f144 [] #[ms RC L0, vi a1, Value.agg #[vi a2, vi a3, vi a4, vi a5, vi a6, vi a7, vi a8, ms RA L9]] (ZnZ L0 a1 a2 a3 a4 a5 a6 a7 a8 L9) (Zm4 L0 a1 a2 a3 a4 a5 a6 a7 a8 L9) (Zed L0 a1 a2 a3 a4 a5 a6 a7 a8 L9 N) := by unfold Zed;refine Zb (fun _ => Zd) (fun g0 => ?_);refine Zb (fun g1 => ?_) (fun _ => Zd);refine Zb (fun g2 => ?_) (fun _ => Zd);refine Zb (fun g3 => ?_) (fun _ => Zd);exact fxC [2] (vs 2 0 (0 + L0.length) (0 + L0.length)) (tW 0 (.st (Za RC (L0.set a1.toNat (⟨a2, a3, a4, a5, a6, a7, a8, L9⟩ : RJ)))) <| kC (Zbj (E := RC) (L := L0) (i := a1.toNat) (q := 0) (l := [vi a2, vi a3, vi a4, vi a5, vi a6, vi a7, vi a8, ms RA L9]) (⟨a2, a3, a4, a5, a6, a7, a8, L9⟩ : RJ) (by omega) (show (0 + (a1.toNat * 8)) = a1.toNat * 8 + 0 from by omega) (show 0 + 8 ≤ 8 from by decide) rfl) <| kB a1.toNat (0 + L0.length) <| xkI a1 (a1.toNat) <| tW 0 (.ap L0.length (Za RC L0) (Za RC L0)) <| kX (dP ((L0.length = L0.length ∧ ((L0.length * 8 = 0 ∧ (Za RC L0) = []) ∨ ∃ c, L0.length * 8 ≠ 0 ∧ ZS (code (Z9 RC L0)) 0 (L0.length * 8) = some c ∧ (Za RC L0) = Zm c)) ∧ 0 < L0.length ∧ L0.length ≤ 100000 ∧ 0 < 0 + L0.length ∧ 0 ≤ 100000 ∧ 0 * 8 ≤ (List.length []) ∧ List.take (0 * 8) [] ++ (Za RC L0) = (Za RC L0))) true (Zn ⟨⟨rfl, (Zc5 (E := RC) (L := L0) (n := L0.length) (size := 8) rfl (by decide) (by omega))⟩, by omega, by omega, ltA, by omega, (Zar (E := RC) (L := ([] : List RJ)) (M := L0) (n := 0) (show _ = _ * 8 from rfl) ltA (R := L0) (by rw [List.take_of_length_le ltA]; rfl))⟩) Zg) (bR <| bE) (hv := ⟨Eq.trans (show (vs 0 0 L0.length L0.length : Value) = vs 0 0 (0 + L0.length) (0 + L0.length) from (Zi rfl eqA eqA)) (by rfl), by rfl⟩)

theorem ZqL (N : Nat) (r : ZcM) (h : Zed L0 a1 a2 a3 a4 a5 a6 a7 a8 L9 N = some r) : LSpec Tryz.prog 144 #[ms RC L0, vi a1, Value.agg #[vi a2, vi a3, vi a4, vi a5, vi a6, vi a7, vi a8, ms RA L9]] [] (ZnZ L0 a1 a2 a3 a4 a5 a6 a7 a8 L9 r) (Zm4 L0 a1 a2 a3 a4 a5 a6 a7 a8 L9 r) :=
 ZI Zv Tryz.func144 (by kernel_rfl) (by kernel_rfl) (fun r => by cases r <;> exact ZP _ rfl) (Zva L0 a1 a2 a3 a4 a5 a6 a7 a8 L9 N) h

theorem Zse (N : Nat) (r : ZcM) (h : Zed L0 a1 a2 a3 a4 a5 a6 a7 a8 L9 N = some r) : LSpec Tryz.prog 144 #[ms RC L0, vi a1, Value.agg #[vi a2, vi a3, vi a4, vi a5, vi a6, vi a7, vi a8, ms RA L9]] [] (Zp5 L0 a1 a2 a3 a4 a5 a6 a7 a8 L9 r) (Zoa r) := by
 have h0 := ZqL L0 a1 a2 a3 a4 a5 a6 a7 a8 L9 N r h;cases r with
 | r0 => exact (LSpec.frzv (E := RC) (L := (L0.set a1.toNat (⟨a2, a3, a4, a5, a6, a7, a8, L9⟩ : RJ))) (post := []) (v2 := ms RC (L0.set a1.toNat (⟨a2, a3, a4, a5, a6, a7, a8, L9⟩ : RJ))) h0 (show 0 ≤ 0 from by decide) (show 0 < 1000000000 from by decide) trivial rfl (Zfn eqA eqA) rfl)

end
theorem ZwR {L0 : List RJ} {a1 a2 a3 a4 a5 a6 a7 a8 : Int} {L9 : List RG} {N : Nat} {r : ZcM} (h : Zed L0 a1 a2 a3 a4 a5 a6 a7 a8 L9 N = some r) : LSpec Tryz.prog 144 #[ms RC L0, vi a1, Value.agg #[vi a2, vi a3, vi a4, vi a5, vi a6, vi a7, vi a8, ms RA L9]] [] (Zp5 L0 a1 a2 a3 a4 a5 a6 a7 a8 L9 r) (Zoa r) := Zse L0 a1 a2 a3 a4 a5 a6 a7 a8 L9 N r h

noncomputable def ZkP : Zfc → Value
 | .r0 w0 => ms RC w0
noncomputable def ZjJ : Zfc → List (Option AObj)
 | .r0 w0 => []

section
variable (L0 : List RJ) (a1 a2 a3 : Int) (N : Nat)
theorem Zvb : Fx Tryz.prog Ze Tryz.f145 [] (κt L0 a1 a2 a3) (ZkP) (ZjJ) (Zdw L0 a1 a2 a3 N) := by
 unfold Zdw;refine Zx (fun z0 c0 => ?_);cases z0 with
 | r0 y0_0 y0_1 =>
  refine Zb (fun g1 => ?_) (fun _ => Zd);refine Zb (fun g2 => ?_) (fun _ => Zd);refine Zx (fun z3 c3 => ?_);cases z3 with
  | r0 =>
   exact Zr [] (kKg 3 (tQ (ZwR c3) 2) <| tL 1 (RC.cel (L0.getD (y0_0).toNat RJ.z)) <| kG RC L0 (0 + ((y0_0).toNat * 8)) ((y0_0).toNat) 0 8 8 <| kB (y0_0).toNat L0.length <| xkI y0_0 ((y0_0).toNat) <| kK (tQ (ZfB c0) 1) Zg) bE

theorem Zsf (r : Zfc) (h : Zdw L0 a1 a2 a3 N = some r) : LSpec Tryz.prog 145 (κt L0 a1 a2 a3) [] (ZkP r) (ZjJ r) :=
 ZI Zv Tryz.func145 (by kernel_rfl) (by kernel_rfl) (fun r => by cases r <;> exact ZP _ rfl) (Zvb L0 a1 a2 a3 N) h

end
theorem ZjK {L0 : List RJ} {a1 a2 a3 : Int} {N : Nat} {r : Zfc} (h : Zdw L0 a1 a2 a3 N = some r) : LSpec Tryz.prog 145 (κt L0 a1 a2 a3) [] (ZkP r) (ZjJ r) := Zsf L0 a1 a2 a3 N r h

open Mach (oi ok_ite ok_bind enH en_ite en_none en_bind)
noncomputable def Zn8 : Zcm → Value
 | .r0 w0 => Value.tuple #[ms RC w0, vq]
noncomputable def ZlN : Zcm → List (Option AObj)
 | .r0 w0 => []

def Z1d : Zam → Nat
 | .h1m0 v0 => 1
 | .h1m1 .. => 1
noncomputable def Z2N (L0 : List RJ) (a1 a2 a3 a4 a5 a6 : Int) : Zam → List (Nat × Value)
 | .h1m0 v0 => [(0, ms RC v0), (17, vn), (18, vq)]
 | .h1m1 v0 v1 v2 => [(0, ms RC v0), (17, ms RA v1), (18, vi (v2 : Int))]
noncomputable def Z2O (L0 : List RJ) (a1 a2 a3 a4 a5 a6 : Int) : Zam → List (Option AObj)
 | .h1m0 v0 => []
 | .h1m1 .. => []

noncomputable def Z2P : Nat → Code × List ZL
 | 1 => Z5 [1, 1, 1, 1, 1, 1, 1, 1, 1, 1, 1, 0, 1, 3] (ZM Tryz.f129) []
 | _ => (.skip, [])

section
variable (L0 : List RJ) (a1 a2 a3 a4 a5 a6 : Int)
noncomputable def Zir (N : Nat) : Mach := ⟨Tryz.f129, [], Zam, Zcm, Zj6 L0 a1 a2 a3 a4 a5 a6 N, Z1d, Z2P, ilT, Z2N L0 a1 a2 a3 a4 a5 a6, Z2O L0 a1 a2 a3 a4 a5 a6, Zn8, ZlN⟩

theorem Zt8 (v0 : List RJ) (N : Nat) : (Zir L0 a1 a2 a3 a4 a5 a6 N).Ok Tryz.prog Ze (.h1m0 v0 : Zam) (ZiF L0 a1 a2 a3 a4 a5 a6 N v0) := by unfold ZiF;exact Mach.okF0 [] Zg bE

theorem Zt9 (v0 : List RJ) (v1 : List RG) (v2 N : Nat) : (Zir L0 a1 a2 a3 a4 a5 a6 N).Ok Tryz.prog Ze (.h1m1 v0 v1 v2 : Zam) (Zfd L0 a1 a2 a3 a4 a5 a6 N v0 v1 v2) := by
 unfold Zfd;refine ok_ite (fun g0 => ?_) fun g0 => ?_
 ·
  refine ok_bind fun z1 c1 => ?_;cases z1 with
  | r0 y1_0 =>
   refine oi fun g2 => ?_;exact Mach.okN0 [] (vkW ((v2 : Int) + 1) (((v2 + 1) : Nat) : Int) <| kK (tQ (ZjK c1) 0) <| lkG RA v1 (0 + (v2 * 2)) v2 0 2 2 <| kB v2 v1.length <| xkI (v2 : Int) v2 <| bhY g0 Zg) bE
 exact Mach.okF0 [] (bhN g0 Zg) bE

theorem ZzA (N : Nat) : (Zir L0 a1 a2 a3 a4 a5 a6 N).Enter Tryz.prog Ze #[ms RC L0, vi a1, Value.agg #[vi a2, vi a3], vi a4, Value.agg #[vi a5, vi a6]] (ZeR L0 a1 a2 a3 a4 a5 a6 N) := by
 unfold ZeR;refine en_ite (fun g0 => ?_) (fun _ => en_none);refine en_ite (fun g1 => ?_) (fun _ => en_none);refine en_bind (fun z2 c2 => ?_);cases z2 with
 | r0 y2_0 y2_1 =>
  have w3 := kK (tQ (Zrt c2) 2) Zg;refine en_bind (fun z3 c3 => ?_);cases z3 with
  | r0 y3_0 y3_1 =>
   have w4 := kKg 1 (tQ (ZfB c3) 3) w3;refine en_ite (fun g4 => ?_) (fun _ => en_none);refine en_ite (fun g5 => ?_) (fun _ => en_none);have w6 := tL 2 (RC.cel (L0.getD (y3_0).toNat RJ.z)) <| kG RC L0 (0 + ((y3_0).toNat * 8)) ((y3_0).toNat) 0 8 8 <| kB (y3_0).toNat L0.length <| xkI y3_0 ((y3_0).toNat) w4
   refine en_bind (fun z6 c6 => ?_);cases z6 with
   | r0 y6_0 =>
    refine en_ite (fun g7 => ?_) (fun g7 => ?_)
    ·
     subst g7;have w8 := kKg 2 (tQ (ZeN c6) 5) w6;refine en_ite (fun g8 => ?_) (fun g8 => ?_)
     ·
      have w9 := tW 0 (.sh a4.toNat) <| kS a4 (a4.toNat) .i64 <| tV 0 <| kX ((IntKind.u64.wrap a4) == a4) true (beq_iff_eq.2 (Znm ltA)) <| tB 1 <| hT g8 w8
      refine en_ite (fun g9 => ?_) (fun _ => en_none);refine en_bind (fun z10 c10 => ?_);cases z10 with
      | r0 y10_0 =>
       refine en_ite (fun g11 => ?_) (fun g11 => ?_)
       ·
        subst g11;refine en_ite (fun _ => en_none) (fun g12 => ?_);refine en_ite (fun g13 => ?_) (fun _ => en_none);refine en_ite (fun g14 => ?_) (fun _ => en_none);refine en_bind (fun z15 c15 => ?_);cases z15 with
        | r0 =>
         exact Mach.enH0 [] (kKb (A := #[ms RC L0, vi y3_0, Value.agg #[vi (L0.getD (y3_0).toNat RJ.z).a0, vi (L0.getD (y3_0).toNat RJ.z).a1, vi (L0.getD (y3_0).toNat RJ.z).a2, vi (L0.getD (y3_0).toNat RJ.z).a3, vi (L0.getD (y3_0).toNat RJ.z).a4, vi (L0.getD (y3_0).toNat RJ.z).a5, vi (L0.getD (y3_0).toNat RJ.z).a6, vs 6 0 (0 + (L0.getD (y3_0).toNat RJ.z).a7.length) (0 + (L0.getD (y3_0).toNat RJ.z).a7.length)]]) (Zem (cr (cr (Zw (ZbV (cr4 (cr (cr (cr (Zw (Zi rfl eqA eqA) rfl)))))) rfl)))) (Zee c15 [6] 7) <| kR (Za RA ((L0.getD (y3_0).toNat RJ.z).a7.set a4.toNat (⟨a5, a6⟩ : RG))) <| tW 1 (.st (Za RA ((L0.getD (y3_0).toNat RJ.z).a7.set a4.toNat (⟨a5, a6⟩ : RG)))) <| kC (Zbj (E := RA) (L := (L0.getD (y3_0).toNat RJ.z).a7) (i := a4.toNat) (q := 0) (l := [vi a5, vi a6]) (⟨a5, a6⟩ : RG) ltA (show (0 + (a4.toNat * 2)) = a4.toNat * 2 + 0 from by omega) (show 0 + 2 ≤ 2 from by decide) rfl) <| kB a4.toNat (0 + (L0.getD (y3_0).toNat RJ.z).a7.length) <| xkI a4 (a4.toNat) <| tW 0 (.ap (L0.getD (y3_0).toNat RJ.z).a7.length (Za RA (L0.getD (y3_0).toNat RJ.z).a7) (Za RA (L0.getD (y3_0).toNat RJ.z).a7)) <| kX (dP (((L0.getD (y3_0).toNat RJ.z).a7.length = (L0.getD (y3_0).toNat RJ.z).a7.length ∧ (((L0.getD (y3_0).toNat RJ.z).a7.length * 2 = 0 ∧ (Za RA (L0.getD (y3_0).toNat RJ.z).a7) = []) ∨ ∃ c, (L0.getD (y3_0).toNat RJ.z).a7.length * 2 ≠ 0 ∧ ZS (code (Z9 RA (L0.getD (y3_0).toNat RJ.z).a7)) 0 ((L0.getD (y3_0).toNat RJ.z).a7.length * 2) = some c ∧ (Za RA (L0.getD (y3_0).toNat RJ.z).a7) = Zm c)) ∧ 0 < (L0.getD (y3_0).toNat RJ.z).a7.length ∧ (L0.getD (y3_0).toNat RJ.z).a7.length ≤ 100000 ∧ 0 < 0 + (L0.getD (y3_0).toNat RJ.z).a7.length ∧ 0 ≤ 100000 ∧ 0 * 2 ≤ (List.length []) ∧ List.take (0 * 2) [] ++ (Za RA (L0.getD (y3_0).toNat RJ.z).a7) = (Za RA (L0.getD (y3_0).toNat RJ.z).a7))) true (Zn ⟨⟨rfl, (Zc5 (E := RA) (L := (L0.getD (y3_0).toNat RJ.z).a7) (n := (L0.getD (y3_0).toNat RJ.z).a7.length) (size := 2) rfl (by decide) (by omega))⟩, by omega, by omega, ltA, by omega, (Zar (E := RA) (L := ([] : List RG)) (M := (L0.getD (y3_0).toNat RJ.z).a7) (n := 0) (show _ = _ * 2 from rfl) ltA (R := (L0.getD (y3_0).toNat RJ.z).a7) (by rw [List.take_of_length_le ltA]; rfl))⟩) <| kKg 1 (tQ (Zch c10) 5) <| bhT g9 w9) bE
       obtain rfl : y10_0 = false := by simpa using g11
       have w12 := kKg 1 (tQ (Zch c10) 5) <| bhT g9 w9
       refine en_bind (fun z12 c12 => ?_);cases z12 with
       | r0 y12_0 =>
        refine en_ite (fun g13 => ?_) (fun g13 => ?_)
        ·
         subst g13;refine en_bind (fun z14 c14 => ?_);cases z14 with
         | r0 =>
          refine en_ite (fun _ => en_none) (fun g15 => ?_);refine en_ite (fun g16 => ?_) (fun _ => en_none);refine en_ite (fun g17 => ?_) (fun _ => en_none);refine en_bind (fun z18 c18 => ?_);cases z18 with
          | r0 =>
           exact enH [] [some (ms RC (L0.set (y3_0).toNat (Zbk (L0.getD (y3_0).toNat RJ.z) ((L0.getD (y3_0).toNat RJ.z).a7.set a4.toNat (⟨a5, a6⟩ : RG)) : RJ))), some (ms RA ([] : List RG)), some (vq)] (kKb (A := #[ms RC L0, vi y3_0, Value.agg #[vi (L0.getD (y3_0).toNat RJ.z).a0, vi (L0.getD (y3_0).toNat RJ.z).a1, vi (L0.getD (y3_0).toNat RJ.z).a2, vi (L0.getD (y3_0).toNat RJ.z).a3, vi (L0.getD (y3_0).toNat RJ.z).a4, vi (L0.getD (y3_0).toNat RJ.z).a5, vi (L0.getD (y3_0).toNat RJ.z).a6, vs 6 0 (0 + (L0.getD (y3_0).toNat RJ.z).a7.length) (0 + (L0.getD (y3_0).toNat RJ.z).a7.length)]]) (Zem (cr (cr (Zw (ZbV (cr4 (cr (cr (cr (Zw (Zi rfl eqA eqA) rfl)))))) rfl)))) (Zee c18 [6] 7) <| kR (Za RA ((L0.getD (y3_0).toNat RJ.z).a7.set a4.toNat (⟨a5, a6⟩ : RG))) <| tW 1 (.st (Za RA ((L0.getD (y3_0).toNat RJ.z).a7.set a4.toNat (⟨a5, a6⟩ : RG)))) <| kC (Zbj (E := RA) (L := (L0.getD (y3_0).toNat RJ.z).a7) (i := a4.toNat) (q := 0) (l := [vi a5, vi a6]) (⟨a5, a6⟩ : RG) ltA (show (0 + (a4.toNat * 2)) = a4.toNat * 2 + 0 from by omega) (show 0 + 2 ≤ 2 from by decide) rfl) <| kB a4.toNat (0 + (L0.getD (y3_0).toNat RJ.z).a7.length) <| xkI a4 (a4.toNat) <| tW 0 (.ap (L0.getD (y3_0).toNat RJ.z).a7.length (Za RA (L0.getD (y3_0).toNat RJ.z).a7) (Za RA (L0.getD (y3_0).toNat RJ.z).a7)) <| kX (dP (((L0.getD (y3_0).toNat RJ.z).a7.length = (L0.getD (y3_0).toNat RJ.z).a7.length ∧ (((L0.getD (y3_0).toNat RJ.z).a7.length * 2 = 0 ∧ (Za RA (L0.getD (y3_0).toNat RJ.z).a7) = []) ∨ ∃ c, (L0.getD (y3_0).toNat RJ.z).a7.length * 2 ≠ 0 ∧ ZS (code (Z9 RA (L0.getD (y3_0).toNat RJ.z).a7)) 0 ((L0.getD (y3_0).toNat RJ.z).a7.length * 2) = some c ∧ (Za RA (L0.getD (y3_0).toNat RJ.z).a7) = Zm c)) ∧ 0 < (L0.getD (y3_0).toNat RJ.z).a7.length ∧ (L0.getD (y3_0).toNat RJ.z).a7.length ≤ 100000 ∧ 0 < 0 + (L0.getD (y3_0).toNat RJ.z).a7.length ∧ 0 ≤ 100000 ∧ 0 * 2 ≤ (List.length []) ∧ List.take (0 * 2) [] ++ (Za RA (L0.getD (y3_0).toNat RJ.z).a7) = (Za RA (L0.getD (y3_0).toNat RJ.z).a7))) true (Zn ⟨⟨rfl, (Zc5 (E := RA) (L := (L0.getD (y3_0).toNat RJ.z).a7) (n := (L0.getD (y3_0).toNat RJ.z).a7.length) (size := 2) rfl (by decide) (by omega))⟩, by omega, by omega, ltA, by omega, (Zar (E := RA) (L := ([] : List RG)) (M := (L0.getD (y3_0).toNat RJ.z).a7) (n := 0) (show _ = _ * 2 from rfl) ltA (R := (L0.getD (y3_0).toNat RJ.z).a7) (by rw [List.take_of_length_le ltA]; rfl))⟩) <| kK (tQ (ZfV c14) 5) <| kK (tQ (Zch c12) 5) w12) (tC (tC (tC (tE) ⟨Eq.trans (show κg = vq from ci) (by rfl), by rfl⟩))) bE
         | r1 y14_0 =>
          refine en_ite (fun _ => en_none) (fun g15 => ?_);refine en_ite (fun g16 => ?_) (fun _ => en_none);refine en_ite (fun g17 => ?_) (fun _ => en_none);refine en_bind (fun z18 c18 => ?_);cases z18 with
          | r0 =>
           exact enH [] [some (ms RC (L0.set (y3_0).toNat (Zbk (L0.getD (y3_0).toNat RJ.z) ((L0.getD (y3_0).toNat RJ.z).a7.set a4.toNat (⟨a5, a6⟩ : RG)) : RJ))), some (ms RA y14_0), some (vq)] (kKb (A := #[ms RC L0, vi y3_0, Value.agg #[vi (L0.getD (y3_0).toNat RJ.z).a0, vi (L0.getD (y3_0).toNat RJ.z).a1, vi (L0.getD (y3_0).toNat RJ.z).a2, vi (L0.getD (y3_0).toNat RJ.z).a3, vi (L0.getD (y3_0).toNat RJ.z).a4, vi (L0.getD (y3_0).toNat RJ.z).a5, vi (L0.getD (y3_0).toNat RJ.z).a6, vs 6 0 (0 + (L0.getD (y3_0).toNat RJ.z).a7.length) (0 + (L0.getD (y3_0).toNat RJ.z).a7.length)]]) (Zem (cr (cr (Zw (ZbV (cr4 (cr (cr (cr (Zw (Zi rfl eqA eqA) rfl)))))) rfl)))) (Zee c18 [6] 7) <| kR (Za RA ((L0.getD (y3_0).toNat RJ.z).a7.set a4.toNat (⟨a5, a6⟩ : RG))) <| tW 1 (.st (Za RA ((L0.getD (y3_0).toNat RJ.z).a7.set a4.toNat (⟨a5, a6⟩ : RG)))) <| kC (Zbj (E := RA) (L := (L0.getD (y3_0).toNat RJ.z).a7) (i := a4.toNat) (q := 0) (l := [vi a5, vi a6]) (⟨a5, a6⟩ : RG) ltA (show (0 + (a4.toNat * 2)) = a4.toNat * 2 + 0 from by omega) (show 0 + 2 ≤ 2 from by decide) rfl) <| kB a4.toNat (0 + (L0.getD (y3_0).toNat RJ.z).a7.length) <| xkI a4 (a4.toNat) <| tW 0 (.ap (L0.getD (y3_0).toNat RJ.z).a7.length (Za RA (L0.getD (y3_0).toNat RJ.z).a7) (Za RA (L0.getD (y3_0).toNat RJ.z).a7)) <| kX (dP (((L0.getD (y3_0).toNat RJ.z).a7.length = (L0.getD (y3_0).toNat RJ.z).a7.length ∧ (((L0.getD (y3_0).toNat RJ.z).a7.length * 2 = 0 ∧ (Za RA (L0.getD (y3_0).toNat RJ.z).a7) = []) ∨ ∃ c, (L0.getD (y3_0).toNat RJ.z).a7.length * 2 ≠ 0 ∧ ZS (code (Z9 RA (L0.getD (y3_0).toNat RJ.z).a7)) 0 ((L0.getD (y3_0).toNat RJ.z).a7.length * 2) = some c ∧ (Za RA (L0.getD (y3_0).toNat RJ.z).a7) = Zm c)) ∧ 0 < (L0.getD (y3_0).toNat RJ.z).a7.length ∧ (L0.getD (y3_0).toNat RJ.z).a7.length ≤ 100000 ∧ 0 < 0 + (L0.getD (y3_0).toNat RJ.z).a7.length ∧ 0 ≤ 100000 ∧ 0 * 2 ≤ (List.length []) ∧ List.take (0 * 2) [] ++ (Za RA (L0.getD (y3_0).toNat RJ.z).a7) = (Za RA (L0.getD (y3_0).toNat RJ.z).a7))) true (Zn ⟨⟨rfl, (Zc5 (E := RA) (L := (L0.getD (y3_0).toNat RJ.z).a7) (n := (L0.getD (y3_0).toNat RJ.z).a7.length) (size := 2) rfl (by decide) (by omega))⟩, by omega, by omega, ltA, by omega, (Zar (E := RA) (L := ([] : List RG)) (M := (L0.getD (y3_0).toNat RJ.z).a7) (n := 0) (show _ = _ * 2 from rfl) ltA (R := (L0.getD (y3_0).toNat RJ.z).a7) (by rw [List.take_of_length_le ltA]; rfl))⟩) <| kK (tQ (ZfV c14) 5) <| kK (tQ (Zch c12) 5) w12) (tC (tC (tC (tE) ⟨Eq.trans (show κg = vq from ci) (by rfl), by rfl⟩))) bE
        obtain rfl : y12_0 = false := by simpa using g13
        refine en_ite (fun _ => en_none) (fun g14 => ?_);refine en_ite (fun g15 => ?_) (fun _ => en_none);refine en_ite (fun g16 => ?_) (fun _ => en_none);refine en_bind (fun z17 c17 => ?_);cases z17 with
        | r0 =>
         exact Mach.enH0 [] (kKb (A := #[ms RC L0, vi y3_0, Value.agg #[vi (L0.getD (y3_0).toNat RJ.z).a0, vi (L0.getD (y3_0).toNat RJ.z).a1, vi (L0.getD (y3_0).toNat RJ.z).a2, vi (L0.getD (y3_0).toNat RJ.z).a3, vi (L0.getD (y3_0).toNat RJ.z).a4, vi (L0.getD (y3_0).toNat RJ.z).a5, vi (L0.getD (y3_0).toNat RJ.z).a6, vs 6 0 (0 + (L0.getD (y3_0).toNat RJ.z).a7.length) (0 + (L0.getD (y3_0).toNat RJ.z).a7.length)]]) (Zem (cr (cr (Zw (ZbV (cr4 (cr (cr (cr (Zw (Zi rfl eqA eqA) rfl)))))) rfl)))) (Zee c17 [6] 7) <| kR (Za RA ((L0.getD (y3_0).toNat RJ.z).a7.set a4.toNat (⟨a5, a6⟩ : RG))) <| tW 1 (.st (Za RA ((L0.getD (y3_0).toNat RJ.z).a7.set a4.toNat (⟨a5, a6⟩ : RG)))) <| kC (Zbj (E := RA) (L := (L0.getD (y3_0).toNat RJ.z).a7) (i := a4.toNat) (q := 0) (l := [vi a5, vi a6]) (⟨a5, a6⟩ : RG) ltA (show (0 + (a4.toNat * 2)) = a4.toNat * 2 + 0 from by omega) (show 0 + 2 ≤ 2 from by decide) rfl) <| kB a4.toNat (0 + (L0.getD (y3_0).toNat RJ.z).a7.length) <| xkI a4 (a4.toNat) <| tW 0 (.ap (L0.getD (y3_0).toNat RJ.z).a7.length (Za RA (L0.getD (y3_0).toNat RJ.z).a7) (Za RA (L0.getD (y3_0).toNat RJ.z).a7)) <| kX (dP (((L0.getD (y3_0).toNat RJ.z).a7.length = (L0.getD (y3_0).toNat RJ.z).a7.length ∧ (((L0.getD (y3_0).toNat RJ.z).a7.length * 2 = 0 ∧ (Za RA (L0.getD (y3_0).toNat RJ.z).a7) = []) ∨ ∃ c, (L0.getD (y3_0).toNat RJ.z).a7.length * 2 ≠ 0 ∧ ZS (code (Z9 RA (L0.getD (y3_0).toNat RJ.z).a7)) 0 ((L0.getD (y3_0).toNat RJ.z).a7.length * 2) = some c ∧ (Za RA (L0.getD (y3_0).toNat RJ.z).a7) = Zm c)) ∧ 0 < (L0.getD (y3_0).toNat RJ.z).a7.length ∧ (L0.getD (y3_0).toNat RJ.z).a7.length ≤ 100000 ∧ 0 < 0 + (L0.getD (y3_0).toNat RJ.z).a7.length ∧ 0 ≤ 100000 ∧ 0 * 2 ≤ (List.length []) ∧ List.take (0 * 2) [] ++ (Za RA (L0.getD (y3_0).toNat RJ.z).a7) = (Za RA (L0.getD (y3_0).toNat RJ.z).a7))) true (Zn ⟨⟨rfl, (Zc5 (E := RA) (L := (L0.getD (y3_0).toNat RJ.z).a7) (n := (L0.getD (y3_0).toNat RJ.z).a7.length) (size := 2) rfl (by decide) (by omega))⟩, by omega, by omega, ltA, by omega, (Zar (E := RA) (L := ([] : List RG)) (M := (L0.getD (y3_0).toNat RJ.z).a7) (n := 0) (show _ = _ * 2 from rfl) ltA (R := (L0.getD (y3_0).toNat RJ.z).a7) (by rw [List.take_of_length_le ltA]; rfl))⟩) <| kK (tQ (Zch c12) 5) w12) bE
     have w9 := tW 0 (.sh a4.toNat) <| kS a4 (a4.toNat) .i64 <| tV 0 <| kX ((IntKind.u64.wrap a4) == a4) true (beq_iff_eq.2 (Znm ltA)) <| tB 1 <| hF g8 w8
     refine en_ite (fun _ => en_none) (fun g9 => ?_);refine en_bind (fun z10 c10 => ?_);cases z10 with
     | r0 y10_0 =>
      refine en_ite (fun g11 => ?_) (fun g11 => ?_)
      ·
       subst g11;refine en_ite (fun _ => en_none) (fun g12 => ?_);refine en_ite (fun g13 => ?_) (fun _ => en_none);refine en_ite (fun g14 => ?_) (fun _ => en_none);refine en_bind (fun z15 c15 => ?_);cases z15 with
       | r0 =>
        exact Mach.enH0 [] (kKb (A := #[ms RC L0, vi y3_0, Value.agg #[vi (L0.getD (y3_0).toNat RJ.z).a0, vi (L0.getD (y3_0).toNat RJ.z).a1, vi (L0.getD (y3_0).toNat RJ.z).a2, vi (L0.getD (y3_0).toNat RJ.z).a3, vi (L0.getD (y3_0).toNat RJ.z).a4, vi (L0.getD (y3_0).toNat RJ.z).a5, vi (L0.getD (y3_0).toNat RJ.z).a6, vs 6 0 (0 + (L0.getD (y3_0).toNat RJ.z).a7.length) (0 + (L0.getD (y3_0).toNat RJ.z).a7.length)]]) (Zem (cr (cr (Zw (ZbV (cr4 (cr (cr (cr (Zw (Zi rfl eqA eqA) rfl)))))) rfl)))) (Zee c15 [6] 7) <| kR (Za RA ((L0.getD (y3_0).toNat RJ.z).a7.set a4.toNat (⟨a5, a6⟩ : RG))) <| tW 1 (.st (Za RA ((L0.getD (y3_0).toNat RJ.z).a7.set a4.toNat (⟨a5, a6⟩ : RG)))) <| kC (Zbj (E := RA) (L := (L0.getD (y3_0).toNat RJ.z).a7) (i := a4.toNat) (q := 0) (l := [vi a5, vi a6]) (⟨a5, a6⟩ : RG) ltA (show (0 + (a4.toNat * 2)) = a4.toNat * 2 + 0 from by omega) (show 0 + 2 ≤ 2 from by decide) rfl) <| kB a4.toNat (0 + (L0.getD (y3_0).toNat RJ.z).a7.length) <| xkI a4 (a4.toNat) <| tW 0 (.ap (L0.getD (y3_0).toNat RJ.z).a7.length (Za RA (L0.getD (y3_0).toNat RJ.z).a7) (Za RA (L0.getD (y3_0).toNat RJ.z).a7)) <| kX (dP (((L0.getD (y3_0).toNat RJ.z).a7.length = (L0.getD (y3_0).toNat RJ.z).a7.length ∧ (((L0.getD (y3_0).toNat RJ.z).a7.length * 2 = 0 ∧ (Za RA (L0.getD (y3_0).toNat RJ.z).a7) = []) ∨ ∃ c, (L0.getD (y3_0).toNat RJ.z).a7.length * 2 ≠ 0 ∧ ZS (code (Z9 RA (L0.getD (y3_0).toNat RJ.z).a7)) 0 ((L0.getD (y3_0).toNat RJ.z).a7.length * 2) = some c ∧ (Za RA (L0.getD (y3_0).toNat RJ.z).a7) = Zm c)) ∧ 0 < (L0.getD (y3_0).toNat RJ.z).a7.length ∧ (L0.getD (y3_0).toNat RJ.z).a7.length ≤ 100000 ∧ 0 < 0 + (L0.getD (y3_0).toNat RJ.z).a7.length ∧ 0 ≤ 100000 ∧ 0 * 2 ≤ (List.length []) ∧ List.take (0 * 2) [] ++ (Za RA (L0.getD (y3_0).toNat RJ.z).a7) = (Za RA (L0.getD (y3_0).toNat RJ.z).a7))) true (Zn ⟨⟨rfl, (Zc5 (E := RA) (L := (L0.getD (y3_0).toNat RJ.z).a7) (n := (L0.getD (y3_0).toNat RJ.z).a7.length) (size := 2) rfl (by decide) (by omega))⟩, by omega, by omega, ltA, by omega, (Zar (E := RA) (L := ([] : List RG)) (M := (L0.getD (y3_0).toNat RJ.z).a7) (n := 0) (show _ = _ * 2 from rfl) ltA (R := (L0.getD (y3_0).toNat RJ.z).a7) (by rw [List.take_of_length_le ltA]; rfl))⟩) <| kKg 1 (tQ (Zch c10) 5) <| bhF g9 w9) bE
      obtain rfl : y10_0 = false := by simpa using g11
      have w12 := kKg 1 (tQ (Zch c10) 5) <| bhF g9 w9
      refine en_bind (fun z12 c12 => ?_);cases z12 with
      | r0 y12_0 =>
       refine en_ite (fun g13 => ?_) (fun g13 => ?_)
       ·
        subst g13;refine en_bind (fun z14 c14 => ?_);cases z14 with
        | r0 =>
         refine en_ite (fun _ => en_none) (fun g15 => ?_);refine en_ite (fun g16 => ?_) (fun _ => en_none);refine en_ite (fun g17 => ?_) (fun _ => en_none);refine en_bind (fun z18 c18 => ?_);cases z18 with
         | r0 =>
          exact enH [] [some (ms RC (L0.set (y3_0).toNat (Zbk (L0.getD (y3_0).toNat RJ.z) ((L0.getD (y3_0).toNat RJ.z).a7.set a4.toNat (⟨a5, a6⟩ : RG)) : RJ))), some (ms RA ([] : List RG)), some (vq)] (kKb (A := #[ms RC L0, vi y3_0, Value.agg #[vi (L0.getD (y3_0).toNat RJ.z).a0, vi (L0.getD (y3_0).toNat RJ.z).a1, vi (L0.getD (y3_0).toNat RJ.z).a2, vi (L0.getD (y3_0).toNat RJ.z).a3, vi (L0.getD (y3_0).toNat RJ.z).a4, vi (L0.getD (y3_0).toNat RJ.z).a5, vi (L0.getD (y3_0).toNat RJ.z).a6, vs 6 0 (0 + (L0.getD (y3_0).toNat RJ.z).a7.length) (0 + (L0.getD (y3_0).toNat RJ.z).a7.length)]]) (Zem (cr (cr (Zw (ZbV (cr4 (cr (cr (cr (Zw (Zi rfl eqA eqA) rfl)))))) rfl)))) (Zee c18 [6] 7) <| kR (Za RA ((L0.getD (y3_0).toNat RJ.z).a7.set a4.toNat (⟨a5, a6⟩ : RG))) <| tW 1 (.st (Za RA ((L0.getD (y3_0).toNat RJ.z).a7.set a4.toNat (⟨a5, a6⟩ : RG)))) <| kC (Zbj (E := RA) (L := (L0.getD (y3_0).toNat RJ.z).a7) (i := a4.toNat) (q := 0) (l := [vi a5, vi a6]) (⟨a5, a6⟩ : RG) ltA (show (0 + (a4.toNat * 2)) = a4.toNat * 2 + 0 from by omega) (show 0 + 2 ≤ 2 from by decide) rfl) <| kB a4.toNat (0 + (L0.getD (y3_0).toNat RJ.z).a7.length) <| xkI a4 (a4.toNat) <| tW 0 (.ap (L0.getD (y3_0).toNat RJ.z).a7.length (Za RA (L0.getD (y3_0).toNat RJ.z).a7) (Za RA (L0.getD (y3_0).toNat RJ.z).a7)) <| kX (dP (((L0.getD (y3_0).toNat RJ.z).a7.length = (L0.getD (y3_0).toNat RJ.z).a7.length ∧ (((L0.getD (y3_0).toNat RJ.z).a7.length * 2 = 0 ∧ (Za RA (L0.getD (y3_0).toNat RJ.z).a7) = []) ∨ ∃ c, (L0.getD (y3_0).toNat RJ.z).a7.length * 2 ≠ 0 ∧ ZS (code (Z9 RA (L0.getD (y3_0).toNat RJ.z).a7)) 0 ((L0.getD (y3_0).toNat RJ.z).a7.length * 2) = some c ∧ (Za RA (L0.getD (y3_0).toNat RJ.z).a7) = Zm c)) ∧ 0 < (L0.getD (y3_0).toNat RJ.z).a7.length ∧ (L0.getD (y3_0).toNat RJ.z).a7.length ≤ 100000 ∧ 0 < 0 + (L0.getD (y3_0).toNat RJ.z).a7.length ∧ 0 ≤ 100000 ∧ 0 * 2 ≤ (List.length []) ∧ List.take (0 * 2) [] ++ (Za RA (L0.getD (y3_0).toNat RJ.z).a7) = (Za RA (L0.getD (y3_0).toNat RJ.z).a7))) true (Zn ⟨⟨rfl, (Zc5 (E := RA) (L := (L0.getD (y3_0).toNat RJ.z).a7) (n := (L0.getD (y3_0).toNat RJ.z).a7.length) (size := 2) rfl (by decide) (by omega))⟩, by omega, by omega, ltA, by omega, (Zar (E := RA) (L := ([] : List RG)) (M := (L0.getD (y3_0).toNat RJ.z).a7) (n := 0) (show _ = _ * 2 from rfl) ltA (R := (L0.getD (y3_0).toNat RJ.z).a7) (by rw [List.take_of_length_le ltA]; rfl))⟩) <| kK (tQ (ZfV c14) 5) <| kK (tQ (Zch c12) 5) w12) (tC (tC (tC (tE) ⟨Eq.trans (show κg = vq from ci) (by rfl), by rfl⟩))) bE
        | r1 y14_0 =>
         refine en_ite (fun _ => en_none) (fun g15 => ?_);refine en_ite (fun g16 => ?_) (fun _ => en_none);refine en_ite (fun g17 => ?_) (fun _ => en_none);refine en_bind (fun z18 c18 => ?_);cases z18 with
         | r0 =>
          exact enH [] [some (ms RC (L0.set (y3_0).toNat (Zbk (L0.getD (y3_0).toNat RJ.z) ((L0.getD (y3_0).toNat RJ.z).a7.set a4.toNat (⟨a5, a6⟩ : RG)) : RJ))), some (ms RA y14_0), some (vq)] (kKb (A := #[ms RC L0, vi y3_0, Value.agg #[vi (L0.getD (y3_0).toNat RJ.z).a0, vi (L0.getD (y3_0).toNat RJ.z).a1, vi (L0.getD (y3_0).toNat RJ.z).a2, vi (L0.getD (y3_0).toNat RJ.z).a3, vi (L0.getD (y3_0).toNat RJ.z).a4, vi (L0.getD (y3_0).toNat RJ.z).a5, vi (L0.getD (y3_0).toNat RJ.z).a6, vs 6 0 (0 + (L0.getD (y3_0).toNat RJ.z).a7.length) (0 + (L0.getD (y3_0).toNat RJ.z).a7.length)]]) (Zem (cr (cr (Zw (ZbV (cr4 (cr (cr (cr (Zw (Zi rfl eqA eqA) rfl)))))) rfl)))) (Zee c18 [6] 7) <| kR (Za RA ((L0.getD (y3_0).toNat RJ.z).a7.set a4.toNat (⟨a5, a6⟩ : RG))) <| tW 1 (.st (Za RA ((L0.getD (y3_0).toNat RJ.z).a7.set a4.toNat (⟨a5, a6⟩ : RG)))) <| kC (Zbj (E := RA) (L := (L0.getD (y3_0).toNat RJ.z).a7) (i := a4.toNat) (q := 0) (l := [vi a5, vi a6]) (⟨a5, a6⟩ : RG) ltA (show (0 + (a4.toNat * 2)) = a4.toNat * 2 + 0 from by omega) (show 0 + 2 ≤ 2 from by decide) rfl) <| kB a4.toNat (0 + (L0.getD (y3_0).toNat RJ.z).a7.length) <| xkI a4 (a4.toNat) <| tW 0 (.ap (L0.getD (y3_0).toNat RJ.z).a7.length (Za RA (L0.getD (y3_0).toNat RJ.z).a7) (Za RA (L0.getD (y3_0).toNat RJ.z).a7)) <| kX (dP (((L0.getD (y3_0).toNat RJ.z).a7.length = (L0.getD (y3_0).toNat RJ.z).a7.length ∧ (((L0.getD (y3_0).toNat RJ.z).a7.length * 2 = 0 ∧ (Za RA (L0.getD (y3_0).toNat RJ.z).a7) = []) ∨ ∃ c, (L0.getD (y3_0).toNat RJ.z).a7.length * 2 ≠ 0 ∧ ZS (code (Z9 RA (L0.getD (y3_0).toNat RJ.z).a7)) 0 ((L0.getD (y3_0).toNat RJ.z).a7.length * 2) = some c ∧ (Za RA (L0.getD (y3_0).toNat RJ.z).a7) = Zm c)) ∧ 0 < (L0.getD (y3_0).toNat RJ.z).a7.length ∧ (L0.getD (y3_0).toNat RJ.z).a7.length ≤ 100000 ∧ 0 < 0 + (L0.getD (y3_0).toNat RJ.z).a7.length ∧ 0 ≤ 100000 ∧ 0 * 2 ≤ (List.length []) ∧ List.take (0 * 2) [] ++ (Za RA (L0.getD (y3_0).toNat RJ.z).a7) = (Za RA (L0.getD (y3_0).toNat RJ.z).a7))) true (Zn ⟨⟨rfl, (Zc5 (E := RA) (L := (L0.getD (y3_0).toNat RJ.z).a7) (n := (L0.getD (y3_0).toNat RJ.z).a7.length) (size := 2) rfl (by decide) (by omega))⟩, by omega, by omega, ltA, by omega, (Zar (E := RA) (L := ([] : List RG)) (M := (L0.getD (y3_0).toNat RJ.z).a7) (n := 0) (show _ = _ * 2 from rfl) ltA (R := (L0.getD (y3_0).toNat RJ.z).a7) (by rw [List.take_of_length_le ltA]; rfl))⟩) <| kK (tQ (ZfV c14) 5) <| kK (tQ (Zch c12) 5) w12) (tC (tC (tC (tE) ⟨Eq.trans (show κg = vq from ci) (by rfl), by rfl⟩))) bE
       obtain rfl : y12_0 = false := by simpa using g13
       refine en_ite (fun _ => en_none) (fun g14 => ?_);refine en_ite (fun g15 => ?_) (fun _ => en_none);refine en_ite (fun g16 => ?_) (fun _ => en_none);refine en_bind (fun z17 c17 => ?_);cases z17 with
       | r0 =>
        exact Mach.enH0 [] (kKb (A := #[ms RC L0, vi y3_0, Value.agg #[vi (L0.getD (y3_0).toNat RJ.z).a0, vi (L0.getD (y3_0).toNat RJ.z).a1, vi (L0.getD (y3_0).toNat RJ.z).a2, vi (L0.getD (y3_0).toNat RJ.z).a3, vi (L0.getD (y3_0).toNat RJ.z).a4, vi (L0.getD (y3_0).toNat RJ.z).a5, vi (L0.getD (y3_0).toNat RJ.z).a6, vs 6 0 (0 + (L0.getD (y3_0).toNat RJ.z).a7.length) (0 + (L0.getD (y3_0).toNat RJ.z).a7.length)]]) (Zem (cr (cr (Zw (ZbV (cr4 (cr (cr (cr (Zw (Zi rfl eqA eqA) rfl)))))) rfl)))) (Zee c17 [6] 7) <| kR (Za RA ((L0.getD (y3_0).toNat RJ.z).a7.set a4.toNat (⟨a5, a6⟩ : RG))) <| tW 1 (.st (Za RA ((L0.getD (y3_0).toNat RJ.z).a7.set a4.toNat (⟨a5, a6⟩ : RG)))) <| kC (Zbj (E := RA) (L := (L0.getD (y3_0).toNat RJ.z).a7) (i := a4.toNat) (q := 0) (l := [vi a5, vi a6]) (⟨a5, a6⟩ : RG) ltA (show (0 + (a4.toNat * 2)) = a4.toNat * 2 + 0 from by omega) (show 0 + 2 ≤ 2 from by decide) rfl) <| kB a4.toNat (0 + (L0.getD (y3_0).toNat RJ.z).a7.length) <| xkI a4 (a4.toNat) <| tW 0 (.ap (L0.getD (y3_0).toNat RJ.z).a7.length (Za RA (L0.getD (y3_0).toNat RJ.z).a7) (Za RA (L0.getD (y3_0).toNat RJ.z).a7)) <| kX (dP (((L0.getD (y3_0).toNat RJ.z).a7.length = (L0.getD (y3_0).toNat RJ.z).a7.length ∧ (((L0.getD (y3_0).toNat RJ.z).a7.length * 2 = 0 ∧ (Za RA (L0.getD (y3_0).toNat RJ.z).a7) = []) ∨ ∃ c, (L0.getD (y3_0).toNat RJ.z).a7.length * 2 ≠ 0 ∧ ZS (code (Z9 RA (L0.getD (y3_0).toNat RJ.z).a7)) 0 ((L0.getD (y3_0).toNat RJ.z).a7.length * 2) = some c ∧ (Za RA (L0.getD (y3_0).toNat RJ.z).a7) = Zm c)) ∧ 0 < (L0.getD (y3_0).toNat RJ.z).a7.length ∧ (L0.getD (y3_0).toNat RJ.z).a7.length ≤ 100000 ∧ 0 < 0 + (L0.getD (y3_0).toNat RJ.z).a7.length ∧ 0 ≤ 100000 ∧ 0 * 2 ≤ (List.length []) ∧ List.take (0 * 2) [] ++ (Za RA (L0.getD (y3_0).toNat RJ.z).a7) = (Za RA (L0.getD (y3_0).toNat RJ.z).a7))) true (Zn ⟨⟨rfl, (Zc5 (E := RA) (L := (L0.getD (y3_0).toNat RJ.z).a7) (n := (L0.getD (y3_0).toNat RJ.z).a7.length) (size := 2) rfl (by decide) (by omega))⟩, by omega, by omega, ltA, by omega, (Zar (E := RA) (L := ([] : List RG)) (M := (L0.getD (y3_0).toNat RJ.z).a7) (n := 0) (show _ = _ * 2 from rfl) ltA (R := (L0.getD (y3_0).toNat RJ.z).a7) (by rw [List.take_of_length_le ltA]; rfl))⟩) <| kK (tQ (Zch c12) 5) w12) bE
    obtain rfl : y6_0 = false := by simpa using g7
    exact en_none

theorem Zvc (N : Nat) (r : Zcm) (h : ZeJ L0 a1 a2 a3 a4 a5 a6 N = some r) : LSpec Tryz.prog 129 #[ms RC L0, vi a1, Value.agg #[vi a2, vi a3], vi a4, Value.agg #[vi a5, vi a6]] [] (Zn8 r) (ZlN r) :=
 Mach.specT Zv (Zir L0 a1 a2 a3 a4 a5 a6 N) Tryz.func129 (fun x => (show (Zir L0 a1 a2 a3 a4 a5 a6 N).Ok Tryz.prog Ze x (Zj6 L0 a1 a2 a3 a4 a5 a6 N x) from by
  cases x with
  | h1m0 v0 => exact Zt8 L0 a1 a2 a3 a4 a5 a6 v0 N
  | h1m1 v0 v1 v2 => exact Zt9 L0 a1 a2 a3 a4 a5 a6 v0 v1 v2 N
  )) (ZzA L0 a1 a2 a3 a4 a5 a6 N) h

end
theorem Z1e {L0 : List RJ} {a1 a2 a3 a4 a5 a6 : Int} {N : Nat} {r : Zcm} (h : ZeJ L0 a1 a2 a3 a4 a5 a6 N = some r) : LSpec Tryz.prog 129 #[ms RC L0, vi a1, Value.agg #[vi a2, vi a3], vi a4, Value.agg #[vi a5, vi a6]] [] (Zn8 r) (ZlN r) := Zvc L0 a1 a2 a3 a4 a5 a6 N r h

noncomputable def ZlO : ZeS → Value
 | .r0 w0 => Value.tuple #[ms RC w0, vq]
noncomputable def ZkQ : ZeS → List (Option AObj)
 | .r0 w0 => []

section
variable (L0 : List RJ) (a1 a2 a3 : Int) (b4 : Bool) (N : Nat)
theorem ZwS : Fx Tryz.prog Ze Tryz.f130 [] #[ms RC L0, vi a1, Value.agg #[vi a2, vi a3], Value.bool b4] (ZlO) (ZkQ) (ZeK L0 a1 a2 a3 b4 N) := by
 unfold ZeK;refine Zx (fun z0 c0 => ?_);cases z0 with
 | r0 y0_0 y0_1 =>
  refine Zb (fun _ => Zd) (fun g1 => ?_);have w2 := bkE y0_1 0 <| kK (tQ (ZfB c0) 1) Zg
  refine Zb (fun _ => Zd) (fun g2 => ?_);have w3 := tB 4 <| kO ((a2 == 2) && ((a3 == 1048577) && true)) w2
  refine Zb (fun g3 => ?_) (fun g3 => ?_)
  ·
   refine Zx (fun z4 c4 => ?_);cases z4 with
   | r0 y4_0 =>
    refine Zb (fun _ => Zd) (fun g5 => ?_);refine Zx (fun z6 c6 => ?_);cases z6 with
    | r0 y6_0 =>
     exact Zr [] (kK (tQ (ZjK c6) 5) <| bkX ((!y4_0)) false nbf <| kKg 4 (tQ (Zch c4) 5) <| bkX ((!b4)) true nbt w3) bE
  refine Zx (fun z4 c4 => ?_);cases z4 with
  | r0 y4_0 =>
   exact Zr [] (kKg 4 (tQ (ZjK c4) 5) <| bkX ((!b4)) false nbf w3) bE

theorem ZtA (r : ZeS) (h : ZeK L0 a1 a2 a3 b4 N = some r) : LSpec Tryz.prog 130 #[ms RC L0, vi a1, Value.agg #[vi a2, vi a3], Value.bool b4] [] (ZlO r) (ZkQ r) :=
 ZI Zv Tryz.func130 (by kernel_rfl) (by kernel_rfl) (fun r => by cases r <;> exact ZP _ rfl) (ZwS L0 a1 a2 a3 b4 N) h

end
theorem ZzB {L0 : List RJ} {a1 a2 a3 : Int} {b4 : Bool} {N : Nat} {r : ZeS} (h : ZeK L0 a1 a2 a3 b4 N = some r) : LSpec Tryz.prog 130 #[ms RC L0, vi a1, Value.agg #[vi a2, vi a3], Value.bool b4] [] (ZlO r) (ZkQ r) := ZtA L0 a1 a2 a3 b4 N r h

end Ev
end Go.Proofs.YthfohmhipifiaaaGreat
