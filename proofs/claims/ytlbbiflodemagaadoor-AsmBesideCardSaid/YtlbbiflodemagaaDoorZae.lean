/- Part 5. -/
import Derived.Test.YtlbbiflodemagaaDoorZad
set_option linter.unusedSimpArgs false
set_option linter.unusedVariables false
/- Calls do what the plain functions say. -/
namespace Go.Proofs.YtlbbiflodemagaaDoor
open Go.RowKit
namespace Ev
set_option linter.unusedVariables false
set_option maxRecDepth 100000
noncomputable def Zm5 (L0 : List Int) : ZR → Value
 | .r0 w0 => Value.bool w0
noncomputable def ZlJ (L0 : List Int) : ZR → List (Option AObj)
 | .r0 w0 => []

def ZqM : ZX → Nat
 | .h1m0 v2 => 1
noncomputable def Zsv (L0 : List Int) : ZX → List (Nat × Value)
 | .h1m0 v2 => [(14, vs 0 0 L0.length L0.length), (15, vi (L0.length : Int)), (16, vi (v2 : Int))]
noncomputable def Zsw (L0 : List Int) : ZX → List (Option AObj)
 | .h1m0 v2 => [some (.cells (Zb (Zfa .u8) L0) 5)]

noncomputable def Ze8 : Nat → Code × List ZaS
 | 1 => Zdt [1, 1, 0, 1, 3] (ZeZ Tryd.f59) []
 | _ => (.skip, [])
def ZlK : Nat → Bool
 | 1 => true
 | _ => true
noncomputable def Zhm (i : Nat) : List ZaS := match ZlK i with | true => .rnd i :: (Ze8 i).2 | false => (Ze8 i).2

noncomputable def Zay (L0 : List Int) (N : Nat) : Mach := ⟨Tryd.f59, [], ZX, ZR, ZcP L0 N, ZqM, Ze8, ZlK, Zsv L0, Zsw L0, Zm5 L0, ZlJ L0⟩

noncomputable def Zb1 (L0 : List Int) (v2 : Nat) : List (Bool × Bool) := (Za4 (Z8 1 (List.drop (0 + (v2 * 1)) (Zb (Zfa .u8) L0))) [.k .u8 (L0.getD v2 0)], true) :: (Nat.blt v2 L0.length, true) :: ((v2 : Int) == Int.ofNat v2, true) :: ((decide ((v2 : Int) < (L0.length : Int))), true) :: []

set_option maxHeartbeats 4000000 in
theorem Znf (L0 : List Int) (v2 N : Nat) : (Zay L0 N).Ok Tryd.prog ZG (.h1m0 v2 : ZX) (ZcP L0 N (.h1m0 v2 : ZX)) := by
 show (Zay L0 N).Ok Tryd.prog ZG (.h1m0 v2 : ZX) (ZbZ L0 N v2)
 unfold ZbZ
 refine Mach.ok_ite (fun g0 => ?_) (fun g0 => ?_)
 ·
  have w1 : OkL (Zb1 L0 v2) :=
   Zc (Zc0 (E := (Zfa .u8)) (L := L0) (i := v2) (q := 0) (by omega) (show (0 + (v2 * 1)) = v2 * 1 + 0 from by omega) (show 0 + 1 ≤ 1 from by decide) rfl rfl) <| oB <| oI <| oY <| Z9
  refine Mach.ok_ite (fun g1 => ?_) (fun g1 => ?_)
  ·
   refine Mach.ok_ite (fun g2 => ?_) (fun g2 => ?_)
   ·
    refine Mach.ok_ite (fun g3 => ?_) (fun _ => Mach.ok_none)
    exact Mach.ok_next (M := Zay L0 N) (cd := 1000000) (cm := 0) (y := (.h1m0 ((v2 + 1)) : ZX)) (fu := 4000) (orc := (Z2 [o1, o1, o1] [(0, (((v2 + 1) : Nat) : Int))] [(0, v2)] [(0, [.k .u8 (L0.getD v2 0)])] [])) (live := [0]) (tv := fun _ => [some (vs 0 0 L0.length L0.length), some (vi (L0.length : Int)), some (vi (((v2 + 1) : Nat) : Int))]) (bl := [some (.cells (Zb (Zfa .u8) L0) 5)]) (ob := (((IntKind.i64.wrap ((v2 : Int) + (1 : Int))) == (((v2 + 1) : Nat) : Int), true) :: ((decide ((L0.getD v2 0) ≤ (122 : Int))), true) :: ((decide ((L0.getD v2 0) ≥ (97 : Int))), true) :: Zb1 L0 v2)) rfl (show 1 ∈ ZJ (Zhm 1) from by decide +kernel) (fun gv => by as_aux_lemma => kernel_rfl) (Zc (beq_iff_eq.2 ((wrap_i64 ltA).trans (by first | rfl | omega))) <| oY <| oY <| w1) rfl (by decide) (by rfl) (fun _ => ⟨rr, ⟨rr, ⟨rr, trivial⟩⟩⟩) ⟨(ZW (E := (Zfa .u8)) (α := Int) _ L0 _), trivial⟩
   ·
    exact Mach.ok_fin (M := Zay L0 N) (cd := 1000000) (cm := 0) (r := (.r0 (false) : ZR)) (fu := 4000) (orc := (Z2 [o1, o1, o0, o1, o0, o1, o0, o0] [] [(0, v2)] [(0, [.k .u8 (L0.getD v2 0)])] [])) (live := []) (u := vf) (bl := []) (ob := ((((L0.getD v2 0) == (95 : Int)), false) :: ((decide ((L0.getD v2 0) ≤ (57 : Int))), false) :: ((decide ((L0.getD v2 0) ≥ (48 : Int))), true) :: ((decide ((L0.getD v2 0) ≤ (90 : Int))), false) :: ((decide ((L0.getD v2 0) ≥ (65 : Int))), true) :: ((decide ((L0.getD v2 0) ≤ (122 : Int))), false) :: ((decide ((L0.getD v2 0) ≥ (97 : Int))), true) :: Zb1 L0 v2)) (fun gv => by as_aux_lemma => kernel_rfl) (oF <| oN <| oY <| oN <| oY <| oN <| oY <| w1) rfl (by decide) (by rfl) rr trivial
  ·
   refine Mach.ok_ite (fun g2 => ?_) (fun g2 => ?_)
   ·
    refine Mach.ok_ite (fun g3 => ?_) (fun g3 => ?_)
    ·
     refine Mach.ok_ite (fun g4 => ?_) (fun _ => Mach.ok_none)
     exact Mach.ok_next (M := Zay L0 N) (cd := 1000000) (cm := 0) (y := (.h1m0 ((v2 + 1)) : ZX)) (fu := 4000) (orc := (Z2 [o1, o0, o1, o1] [(0, (((v2 + 1) : Nat) : Int))] [(0, v2)] [(0, [.k .u8 (L0.getD v2 0)])] [])) (live := [0]) (tv := fun _ => [some (vs 0 0 L0.length L0.length), some (vi (L0.length : Int)), some (vi (((v2 + 1) : Nat) : Int))]) (bl := [some (.cells (Zb (Zfa .u8) L0) 5)]) (ob := (((IntKind.i64.wrap ((v2 : Int) + (1 : Int))) == (((v2 + 1) : Nat) : Int), true) :: ((decide ((L0.getD v2 0) ≤ (90 : Int))), true) :: ((decide ((L0.getD v2 0) ≥ (65 : Int))), true) :: ((decide ((L0.getD v2 0) ≥ (97 : Int))), false) :: Zb1 L0 v2)) rfl (show 1 ∈ ZJ (Zhm 1) from by decide +kernel) (fun gv => by as_aux_lemma => kernel_rfl) (Zc (beq_iff_eq.2 ((wrap_i64 ltA).trans (by first | rfl | omega))) <| oY <| oY <| oN <| w1) rfl (by decide) (by rfl) (fun _ => ⟨rr, ⟨rr, ⟨rr, trivial⟩⟩⟩) ⟨(ZW (E := (Zfa .u8)) (α := Int) _ L0 _), trivial⟩
    ·
     refine Mach.ok_ite (fun g4 => ?_) (fun g4 => ?_)
     ·
      refine Mach.ok_ite (fun g5 => ?_) (fun _ => Mach.ok_none)
      exact Mach.ok_next (M := Zay L0 N) (cd := 1000000) (cm := 0) (y := (.h1m0 ((v2 + 1)) : ZX)) (fu := 4000) (orc := (Z2 [o1, o0, o1, o0, o1, o0, o1] [(0, (((v2 + 1) : Nat) : Int))] [(0, v2)] [(0, [.k .u8 (L0.getD v2 0)])] [])) (live := [0]) (tv := fun _ => [some (vs 0 0 L0.length L0.length), some (vi (L0.length : Int)), some (vi (((v2 + 1) : Nat) : Int))]) (bl := [some (.cells (Zb (Zfa .u8) L0) 5)]) (ob := (((IntKind.i64.wrap ((v2 : Int) + (1 : Int))) == (((v2 + 1) : Nat) : Int), true) :: (((L0.getD v2 0) == (95 : Int)), true) :: ((decide ((L0.getD v2 0) ≤ (57 : Int))), false) :: ((decide ((L0.getD v2 0) ≥ (48 : Int))), true) :: ((decide ((L0.getD v2 0) ≤ (90 : Int))), false) :: ((decide ((L0.getD v2 0) ≥ (65 : Int))), true) :: ((decide ((L0.getD v2 0) ≥ (97 : Int))), false) :: Zb1 L0 v2)) rfl (show 1 ∈ ZJ (Zhm 1) from by decide +kernel) (fun gv => by as_aux_lemma => kernel_rfl) (Zc (beq_iff_eq.2 ((wrap_i64 ltA).trans (by first | rfl | omega))) <| oT <| oN <| oY <| oN <| oY <| oN <| w1) rfl (by decide) (by rfl) (fun _ => ⟨rr, ⟨rr, ⟨rr, trivial⟩⟩⟩) ⟨(ZW (E := (Zfa .u8)) (α := Int) _ L0 _), trivial⟩
     ·
      exact Mach.ok_fin (M := Zay L0 N) (cd := 1000000) (cm := 0) (r := (.r0 (false) : ZR)) (fu := 4000) (orc := (Z2 [o1, o0, o1, o0, o1, o0, o0] [] [(0, v2)] [(0, [.k .u8 (L0.getD v2 0)])] [])) (live := []) (u := vf) (bl := []) (ob := ((((L0.getD v2 0) == (95 : Int)), false) :: ((decide ((L0.getD v2 0) ≤ (57 : Int))), false) :: ((decide ((L0.getD v2 0) ≥ (48 : Int))), true) :: ((decide ((L0.getD v2 0) ≤ (90 : Int))), false) :: ((decide ((L0.getD v2 0) ≥ (65 : Int))), true) :: ((decide ((L0.getD v2 0) ≥ (97 : Int))), false) :: Zb1 L0 v2)) (fun gv => by as_aux_lemma => kernel_rfl) (oF <| oN <| oY <| oN <| oY <| oN <| w1) rfl (by decide) (by rfl) rr trivial
   ·
    refine Mach.ok_ite (fun g3 => ?_) (fun g3 => ?_)
    ·
     refine Mach.ok_ite (fun g4 => ?_) (fun g4 => ?_)
     ·
      refine Mach.ok_ite (fun g5 => ?_) (fun _ => Mach.ok_none)
      exact Mach.ok_next (M := Zay L0 N) (cd := 1000000) (cm := 0) (y := (.h1m0 ((v2 + 1)) : ZX)) (fu := 4000) (orc := (Z2 [o1, o0, o0, o1, o1] [(0, (((v2 + 1) : Nat) : Int))] [(0, v2)] [(0, [.k .u8 (L0.getD v2 0)])] [])) (live := [0]) (tv := fun _ => [some (vs 0 0 L0.length L0.length), some (vi (L0.length : Int)), some (vi (((v2 + 1) : Nat) : Int))]) (bl := [some (.cells (Zb (Zfa .u8) L0) 5)]) (ob := (((IntKind.i64.wrap ((v2 : Int) + (1 : Int))) == (((v2 + 1) : Nat) : Int), true) :: ((decide ((L0.getD v2 0) ≤ (57 : Int))), true) :: ((decide ((L0.getD v2 0) ≥ (48 : Int))), true) :: ((decide ((L0.getD v2 0) ≥ (65 : Int))), false) :: ((decide ((L0.getD v2 0) ≥ (97 : Int))), false) :: Zb1 L0 v2)) rfl (show 1 ∈ ZJ (Zhm 1) from by decide +kernel) (fun gv => by as_aux_lemma => kernel_rfl) (Zc (beq_iff_eq.2 ((wrap_i64 ltA).trans (by first | rfl | omega))) <| oY <| oY <| oN <| oN <| w1) rfl (by decide) (by rfl) (fun _ => ⟨rr, ⟨rr, ⟨rr, trivial⟩⟩⟩) ⟨(ZW (E := (Zfa .u8)) (α := Int) _ L0 _), trivial⟩
     ·
      exact Mach.ok_fin (M := Zay L0 N) (cd := 1000000) (cm := 0) (r := (.r0 (false) : ZR)) (fu := 4000) (orc := (Z2 [o1, o0, o0, o1, o0, o0] [] [(0, v2)] [(0, [.k .u8 (L0.getD v2 0)])] [])) (live := []) (u := vf) (bl := []) (ob := ((((L0.getD v2 0) == (95 : Int)), false) :: ((decide ((L0.getD v2 0) ≤ (57 : Int))), false) :: ((decide ((L0.getD v2 0) ≥ (48 : Int))), true) :: ((decide ((L0.getD v2 0) ≥ (65 : Int))), false) :: ((decide ((L0.getD v2 0) ≥ (97 : Int))), false) :: Zb1 L0 v2)) (fun gv => by as_aux_lemma => kernel_rfl) (oF <| oN <| oY <| oN <| oN <| w1) rfl (by decide) (by rfl) rr trivial
    ·
     exact Mach.ok_fin (M := Zay L0 N) (cd := 1000000) (cm := 0) (r := (.r0 (false) : ZR)) (fu := 4000) (orc := (Z2 [o1, o0, o0, o0, o0] [] [(0, v2)] [(0, [.k .u8 (L0.getD v2 0)])] [])) (live := []) (u := vf) (bl := []) (ob := ((((L0.getD v2 0) == (95 : Int)), false) :: ((decide ((L0.getD v2 0) ≥ (48 : Int))), false) :: ((decide ((L0.getD v2 0) ≥ (65 : Int))), false) :: ((decide ((L0.getD v2 0) ≥ (97 : Int))), false) :: Zb1 L0 v2)) (fun gv => by as_aux_lemma => kernel_rfl) (oF <| oN <| oN <| oN <| w1) rfl (by decide) (by rfl) rr trivial
 ·
  exact Mach.ok_fin (M := Zay L0 N) (cd := 1000000) (cm := 0) (r := (.r0 (true) : ZR)) (fu := 4000) (orc := (Z2 [o0] [] [] [] [])) (live := []) (u := vT) (bl := []) (ob := (((decide ((v2 : Int) < (L0.length : Int))), false) :: [])) (fun gv => by as_aux_lemma => kernel_rfl) (oN <| Z9) rfl (by decide) (by rfl) rr trivial

set_option maxHeartbeats 4000000 in
theorem ZpB (L0 : List Int) (N : Nat) : (Zay L0 N).Enter Tryd.prog ZG #[Value.string (Za L0)] (ZdT L0 N) := by
 unfold ZdT
 refine Mach.en_ite (fun g0 => ?_) (fun g0 => ?_)
 ·
  exact Mach.en_fin (M := Zay L0 N) (cd := 1000000) (cm := 0) (r := (.r0 (false) : ZR)) (fu := 4000) (orc := (Z2 [o1] [] [] [] [])) (live := []) (u := vf) (bl := []) (ob := (((decide ((((Za L0).size : Nat) : Int) < (1 : Int))), true) :: [])) (by as_aux_lemma => kernel_rfl) (oY <| Z9) rfl (by decide) (by rfl) rr trivial
 ·
  refine Mach.en_ite (fun g1 => ?_) (fun g1 => ?_)
  ·
   exact Mach.en_fin (M := Zay L0 N) (cd := 1000000) (cm := 0) (r := (.r0 (false) : ZR)) (fu := 4000) (orc := (Z2 [o0, o1] [] [] [] [])) (live := []) (u := vf) (bl := []) (ob := (((decide ((((Za L0).size : Nat) : Int) > (32 : Int))), true) :: ((decide ((((Za L0).size : Nat) : Int) < (1 : Int))), false) :: [])) (by as_aux_lemma => kernel_rfl) (oY <| oN <| Z9) rfl (by decide) (by rfl) rr trivial
  ·
   refine Mach.en_ite (fun g2 => ?_) (fun _ => Mach.en_none)
   exact Mach.en_head (bK := Ze8 1) (M := Zay L0 N) (cd := 1000000) (cm := 0) (y := (.h1m0 (0) : ZX)) (fu := 4000) (orc := (Z2 [o0, o0] [] [] [] [(0, .mk L0.length L0.length (Zb (Zfa .u8) L0))])) (live := [0]) (tv := [some (vs 0 0 L0.length L0.length), some (vi (L0.length : Int)), some (vq)]) (bl := [some (.cells (Zb (Zfa .u8) L0) 5)]) (ob := ((dP (((Za L0)).size = L0.length ∧ ZdC (Za L0) = (Zb (Zfa .u8) L0)), true) :: ((decide ((((Za L0).size : Nat) : Int) > (32 : Int))), false) :: ((decide ((((Za L0).size : Nat) : Int) < (1 : Int))), false) :: [])) rfl rfl (show ZJ (Ze8 1).2 = [] from rfl) (by as_aux_lemma => kernel_rfl) (Zc (Zp ⟨(ZwB (x := (Za L0)) (M := L0) (m := L0.length) rfl (by assumption) ltA).1.symm, (ZwB (x := (Za L0)) (M := L0) (m := L0.length) rfl (by assumption) ltA).2.symm⟩) <| oN <| oN <| Z9) rfl (by decide) (by rfl) ⟨rr, ⟨rr, ⟨⟨Eq.trans (show (vi ((0 : Nat) : Int) : Value) = vq from (congrArg (Value.int .i64) (by first | rfl | omega))) (by rfl), by rfl⟩, trivial⟩⟩⟩ ⟨(ZW (E := (Zfa .u8)) (α := Int) _ L0 _), trivial⟩

theorem Zod (L0 : List Int) (N : Nat) (r : ZR) (h : Zfm L0 N = some r) : LSpec Tryd.prog 59 #[Value.string (Za L0)] [] (Zm5 L0 r) (ZlJ L0 r) :=
 Mach.spec ZdU (Zay L0 N) Tryd.func59 (by kernel_rfl) (by kernel_rfl) (fun x => by cases x <;> exact Zaq _ rfl) (fun r => by cases r <;> exact Zaq _ rfl) (fun x => by
  cases x with
  | h1m0 _ => exact fun _ => (show ¬ (1 ∈ ZJ (Ze8 1).2) from by decide +kernel)
  ) (fun x => (show (Zay L0 N).Ok Tryd.prog ZG x (ZcP L0 N x) from by
  cases x with
  | h1m0 v2 => exact Znf L0 v2 N
  )) (ZpB L0 N) (n := N) h

noncomputable def Zg9 (L0 : List Int) (w0 : Bool) (n : Nat) : Za8 := .call [] (Value.bool w0) [] 0
def Zfh (A : Array Value) (L0 : List Int) (w0 : Bool) (n : Nat) : Prop := ZB Tryd.prog 59 A [] (Value.bool w0) [] n 0

theorem ZgA (A : Array Value) (L0 : List Int) (w0 : Bool) (N : Nat) (h : Zfm L0 N = some (.r0 w0)) (n : Nat) (hA : A = #[Value.string (Za L0)]) (hnd : ([] : List Nat).Nodup) (hlt : ∀ k ∈ ([] : List Nat), k < n) : Zfh A L0 w0  n :=
 Zaj hA (LSpec.callL (show LSpec Tryd.prog 59 #[Value.string (Za L0)] [] (Value.bool w0) [] from Zod L0 N _ h) [] n [] rfl hnd hlt (show 0 ≤ 0 from by decide) (show ∀ j ∈ ([] : List Nat), j < 0 from by decide) (by rfl) trivial (by rfl) trivial trivial rfl rfl rfl rfl rfl)

noncomputable def ZgI (L0 L1 : List Int) (a2 : Int) (L3 : List RA) (L4 : List Int) (L5 : List R_is) (L6 : List (List Int)) (L7 : List R_si) : Zbx → Value
 | .r0 => Value.iface 88 (Value.agg #[vi a2])
 | .r1 => vtt
noncomputable def Zgp (L0 L1 : List Int) (a2 : Int) (L3 : List RA) (L4 : List Int) (L5 : List R_is) (L6 : List (List Int)) (L7 : List R_si) : Zbx → List (Option AObj)
 | .r0 => [none, none, none, none, none, none]
 | .r1 => [some (.cells [Value.string (Za L1), vi a2, vs 1 0 L3.length L3.length, vs 2 0 L4.length L4.length, vs 3 0 L5.length L5.length, vs 6 0 (L6.length + 1) (L6.length + 1), Value.map (some 5)] 57), some (.cells (Zb Zd L3) 24 true), some (.cells (Zb eI L4) 3 true), some (.cells (Zb Zt L5) 122 true), none, some (.ro (Zk (Zc3 L7 L0 (L3.length : Int))) true), some (.cells (Zb Zr (L6 ++ ([L0] : List (List Int)))) 9)]

noncomputable def Zh4 : FuncId → Option Ext := fun f => bif Nat.beq f 50 then none else ZG f
theorem Zh5 : Fit Tryd.prog Zh4 := Zj7 ZdU _

theorem Zir {L0 : List Int} {L1 : List Int} {a2 : Int} {L3 : List RA} {L4 : List Int} {L5 : List R_is} {L6 : List (List Int)} {L7 : List R_si} (orc : Orc) (ob : List (Bool × Bool)) (ho : ∀ p ∈ ob, p.1 = p.2) (hev : Zj5 Tryd.prog Zh4 50 (rpr L1 a2 L3 L4 L5 L6 L7) #[vp 0 0, Value.string (Za L0)] 4000 orc = some (Value.iface 88 (Value.agg #[vi a2]), ob) := by as_aux_lemma => kernel_rfl) : Gx Tryd.prog 50 (rpr L1 a2 L3 L4 L5 L6 L7) #[vp 0 0, Value.string (Za L0)] (ZgI L0 L1 a2 L3 L4 L5 L6 L7) (Zgp L0 L1 a2 L3 L4 L5 L6 L7) (some (.r0 : Zbx)) := Zm3 Zh5 hev ho rfl (by rfl) (by rfl) (Zaq _ rfl)

set_option maxHeartbeats 4000000 in
theorem Zm6 (L0 L1 : List Int) (a2 : Int) (L3 : List RA) (L4 : List Int) (L5 : List R_is) (L6 : List (List Int)) (L7 : List R_si) (N : Nat) : Gx Tryd.prog 50 (rpr L1 a2 L3 L4 L5 L6 L7) #[vp 0 0, Value.string (Za L0)] (ZgI L0 L1 a2 L3 L4 L5 L6 L7) (Zgp L0 L1 a2 L3 L4 L5 L6 L7) (Zb6 L0 L1 a2 L3 L4 L5 L6 L7 N) := by
 unfold Zb6
 refine Zh (fun g0 => ?_) (fun g0 => ?_)
 ·
  exact Zir (Zs [] [] [] [] [(0, .lk (some (vi (ZE L7 L0))))]) ((dP ((Zbu Tryd.prog 9 (Value.string (Za L0)) (Zba L7)).map (Option.map Prod.snd) = some (some (vi (ZE L7 L0)))), true) :: []) (Zc (Zp (ZpA rfl (by assumption))) <| Z9)
 ·
  refine ZaQ (fun z1 c1 => ?_)
  cases z1 with
  | r0 y1_0 =>
   refine Zh (fun g2 => ?_) (fun g2 => ?_)
   ·
    exact Zir (Z2 [o1] [] [] [] [(0, .lk (none)), (1, (Zg9 (L0)  y1_0  6))]) (((!y1_0), true) :: (dP (Zfh #[Value.string (Za L0)] (L0)  y1_0  6), true) :: (dP ((Zbu Tryd.prog 9 (Value.string (Za L0)) (Zba L7)).map (Option.map Prod.snd) = some (none)), true) :: []) (Zc nBt <| Zc (Zp (ZgA #[Value.string (Za L0)] (L0)  y1_0 N c1  6 rfl dcd dcd)) <| Zc (Zp (Znb rfl (by assumption))) <| Z9)
   ·
    refine Zh (fun g3 => ?_) (fun _ => ZbI)
    exact Zc4 Zh5 (fu := 4000) (orc := (Z2 [o0] [] [] [] [(0, .lk (none)), (1, (Zg9 (L0)  y1_0  6)), (2, .mp (Zba (Zc3 L7 L0 (L3.length : Int)))), (3, .ap 1 [Value.string (Za L0)] (Zb Zr (L6 ++ ([L0] : List (List Int)))))])) (live := [0, 1, 2, 3, 4, 5, 7]) (u := vtt) (bl := [some (.cells [Value.string (Za L1), vi a2, vs 1 0 L3.length L3.length, vs 2 0 L4.length L4.length, vs 3 0 L5.length L5.length, vs 7 0 (L6.length + 1) (L6.length + 1), Value.map (some 5)] 57), some (.cells (Zb Zd L3) 24 true), some (.cells (Zb eI L4) 3 true), some (.cells (Zb Zt L5) 122 true), none, some (.ro (Zk (Zc3 L7 L0 (L3.length : Int))) true), some (.cells (Zb Zr (L6 ++ ([L0] : List (List Int)))) 9)]) (ob := ((dP ((1 = 1 ∧ Z8 (1 * 1) (List.drop 0 [Value.string (Za L0)]) = some [Value.string (Za L0)] ∧ Z4 Za3 [Value.string (Za L0)] = true) ∧ 0 < 1 ∧ 1 ≤ 100000 ∧ L6.length < L6.length + 1 ∧ L6.length ≤ 100000 ∧ L6.length * 1 ≤ (List.length (Zb Zr L6)) ∧ List.take (L6.length * 1) (Zb Zr L6) ++ [Value.string (Za L0)] = (Zb Zr (L6 ++ ([L0] : List (List Int))))), true) :: (dP (putM Tryd.prog 9 (Value.string (Za L0)) (vi (L3.length : Int)) (Zba L7) = some (Zba (Zc3 L7 L0 (L3.length : Int)))), true) :: ((!y1_0), false) :: (dP (Zfh #[Value.string (Za L0)] (L0)  y1_0  6), true) :: (dP ((Zbu Tryd.prog 9 (Value.string (Za L0)) (Zba L7)).map (Option.map Prod.snd) = some (none)), true) :: [])) (by as_aux_lemma => kernel_rfl) (Zc (Zp ⟨⟨rfl, ⟨rfl, rfl⟩⟩, by omega, by omega, ltA, by omega, (ZaI (E := Zr) (L := L6) (M := ([L0] : List (List Int))) (n := L6.length) (show _ = _ * 1 from rfl) (by omega) (R := (L6 ++ ([L0] : List (List Int)))) (by rw [List.take_of_length_le (by omega)]))⟩) <| Zc (Zp (Zxj rfl _ _)) <| Zc nBf <| Zc (Zp (ZgA #[Value.string (Za L0)] (L0)  y1_0 N c1  6 rfl dcd dcd)) <| Zc (Zp (Znb rfl (by assumption))) <| Z9) rfl (by decide) (by rfl) rr ⟨sm, ⟨(Zl (E := Zd) (α := RA) _ L3 _), ⟨(Zl (E := eI) (α := Int) _ L4 _), ⟨(Zl (E := Zt) (α := R_is) _ L5 _), ⟨(show Zk (Zc3 L7 L0 (L3.length : Int)) = Zk (Zc3 L7 L0 (L3.length : Int)) from rfl), ⟨(ZW (E := Zr) (α := List Int) _ (L6 ++ ([L0] : List (List Int))) _), trivial⟩⟩⟩⟩⟩⟩ (Zaq _ rfl)

theorem Zhn (L0 L1 : List Int) (a2 : Int) (L3 : List RA) (L4 : List Int) (L5 : List R_is) (L6 : List (List Int)) (L7 : List R_si) (N : Nat) (r : Zbx) (h : Zb6 L0 L1 a2 L3 L4 L5 L6 L7 N = some r) : LSpec Tryd.prog 50 #[vp 0 0, Value.string (Za L0)] (rpr L1 a2 L3 L4 L5 L6 L7) (ZgI L0 L1 a2 L3 L4 L5 L6 L7 r) (Zgp L0 L1 a2 L3 L4 L5 L6 L7 r) :=
 Zm6 L0 L1 a2 L3 L4 L5 L6 L7 N r h

noncomputable def Zng (L0 L1 : List Int) (a2 : Int) (L3 : List RA) (L4 : List Int) (L5 : List R_is) (L6 : List (List Int)) (L7 : List R_si) (k0 k1 k2 k3 k4 k5 n : Nat) : Za8 := .call [(k0, .cells [Value.string (Za L1), vi a2, vs k1 0 L3.length L3.length, vs k2 0 L4.length L4.length, vs k3 0 L5.length L5.length, vs k4 0 L6.length L6.length, Value.map (some k5)] 57), (k1, .cells (Zb Zd L3) 24 true), (k2, .cells (Zb eI L4) 3 true), (k3, .cells (Zb Zt L5) 122 true), (k4, .cells (Zb Zr L6) 9 true), (k5, .ro (Zk L7) true)] (Value.iface 88 (Value.agg #[vi a2])) [(k0, none), (k1, none), (k2, none), (k3, none), (k4, none), (k5, none)] 0
def ZiD (A : Array Value) (L0 L1 : List Int) (a2 : Int) (L3 : List RA) (L4 : List Int) (L5 : List R_is) (L6 : List (List Int)) (L7 : List R_si) (k0 k1 k2 k3 k4 k5 n : Nat) : Prop := ZB Tryd.prog 50 A [(k0, .cells [Value.string (Za L1), vi a2, vs k1 0 L3.length L3.length, vs k2 0 L4.length L4.length, vs k3 0 L5.length L5.length, vs k4 0 L6.length L6.length, Value.map (some k5)] 57), (k1, .cells (Zb Zd L3) 24 true), (k2, .cells (Zb eI L4) 3 true), (k3, .cells (Zb Zt L5) 122 true), (k4, .cells (Zb Zr L6) 9 true), (k5, .ro (Zk L7) true)] (Value.iface 88 (Value.agg #[vi a2])) [(k0, none), (k1, none), (k2, none), (k3, none), (k4, none), (k5, none)] n 0

theorem Znh (A : Array Value) (L0 L1 : List Int) (a2 : Int) (L3 : List RA) (L4 : List Int) (L5 : List R_is) (L6 : List (List Int)) (L7 : List R_si) (N : Nat) (h : Zb6 L0 L1 a2 L3 L4 L5 L6 L7 N = some (.r0)) (k0 k1 k2 k3 k4 k5 n : Nat) (hA : A = #[vp k0 0, Value.string (Za L0)]) (hnd : ([k0, k1, k2, k3, k4, k5] : List Nat).Nodup) (hlt : ∀ k ∈ ([k0, k1, k2, k3, k4, k5] : List Nat), k < n) : ZiD A L0 L1 a2 L3 L4 L5 L6 L7 k0 k1 k2 k3 k4 k5 n :=
 Zaj hA (LSpec.callL (show LSpec Tryd.prog 50 #[vp 0 0, Value.string (Za L0)] (rpr L1 a2 L3 L4 L5 L6 L7) (Value.iface 88 (Value.agg #[vi a2])) [none, none, none, none, none, none] from Zhn L0 L1 a2 L3 L4 L5 L6 L7 N _ h) [k0, k1, k2, k3, k4, k5] n [0, 1, 2, 3, 4, 5] rfl hnd hlt (show 6 ≤ 6 from by decide) (show ∀ j ∈ ([0, 1, 2, 3, 4, 5] : List Nat), j < 6 from by decide) (by rfl) ⟨rfl, ⟨(Zo _ _ _), ⟨(Zo _ _ _), ⟨(Zo _ _ _), ⟨(Zo _ _ _), ⟨rfl, trivial⟩⟩⟩⟩⟩⟩ (by rfl) trivial ⟨.inl (by decide), ⟨.inl (by decide), ⟨.inl (by decide), ⟨.inl (by decide), ⟨.inl (by decide), ⟨.inl (by decide), trivial⟩⟩⟩⟩⟩⟩ rfl rfl rfl (Ze (Zj rfl rfl) (Ze (Zj rfl (Zz _ _ _)) (Ze (Zj rfl (Zz _ _ _)) (Ze (Zj rfl (Zz _ _ _)) (Ze (Zj rfl (Zz _ _ _)) (Ze (Zj rfl rfl) rfl)))))) (Ze (Zj rfl rfl) (Ze (Zj rfl rfl) (Ze (Zj rfl rfl) (Ze (Zj rfl rfl) (Ze (Zj rfl rfl) (Ze (Zj rfl rfl) rfl)))))))

noncomputable def Zni (L0 L1 : List Int) (a2 : Int) (L3 : List RA) (L4 : List Int) (L5 : List R_is) (L6 : List (List Int)) (L7 : List R_si) (k0 k1 k2 k3 k4 k5 n : Nat) : Za8 := .call [(k0, .cells [Value.string (Za L1), vi a2, vs k1 0 L3.length L3.length, vs k2 0 L4.length L4.length, vs k3 0 L5.length L5.length, vs k4 0 L6.length L6.length, Value.map (some k5)] 57), (k1, .cells (Zb Zd L3) 24 true), (k2, .cells (Zb eI L4) 3 true), (k3, .cells (Zb Zt L5) 122 true), (k4, .cells (Zb Zr L6) 9 true), (k5, .ro (Zk L7) true)] (vtt) [(k0, some (.cells [Value.string (Za L1), vi a2, vs k1 0 L3.length L3.length, vs k2 0 L4.length L4.length, vs k3 0 L5.length L5.length, vs n 0 (L6.length + 1) (L6.length + 1), Value.map (some k5)] 57)), (k4, none), (k5, some (.ro (Zk (Zc3 L7 L0 (L3.length : Int))) true)), (n, some (.cells (Zb Zr (L6 ++ ([L0] : List (List Int)))) 9))] 1
def ZiE (A : Array Value) (L0 L1 : List Int) (a2 : Int) (L3 : List RA) (L4 : List Int) (L5 : List R_is) (L6 : List (List Int)) (L7 : List R_si) (k0 k1 k2 k3 k4 k5 n : Nat) : Prop := ZB Tryd.prog 50 A [(k0, .cells [Value.string (Za L1), vi a2, vs k1 0 L3.length L3.length, vs k2 0 L4.length L4.length, vs k3 0 L5.length L5.length, vs k4 0 L6.length L6.length, Value.map (some k5)] 57), (k1, .cells (Zb Zd L3) 24 true), (k2, .cells (Zb eI L4) 3 true), (k3, .cells (Zb Zt L5) 122 true), (k4, .cells (Zb Zr L6) 9 true), (k5, .ro (Zk L7) true)] (vtt) [(k0, some (.cells [Value.string (Za L1), vi a2, vs k1 0 L3.length L3.length, vs k2 0 L4.length L4.length, vs k3 0 L5.length L5.length, vs n 0 (L6.length + 1) (L6.length + 1), Value.map (some k5)] 57)), (k4, none), (k5, some (.ro (Zk (Zc3 L7 L0 (L3.length : Int))) true)), (n, some (.cells (Zb Zr (L6 ++ ([L0] : List (List Int)))) 9))] n 1

theorem Znj (A : Array Value) (L0 L1 : List Int) (a2 : Int) (L3 : List RA) (L4 : List Int) (L5 : List R_is) (L6 : List (List Int)) (L7 : List R_si) (N : Nat) (h : Zb6 L0 L1 a2 L3 L4 L5 L6 L7 N = some (.r1)) (k0 k1 k2 k3 k4 k5 n : Nat) (hA : A = #[vp k0 0, Value.string (Za L0)]) (hnd : ([k0, k1, k2, k3, k4, k5] : List Nat).Nodup) (hlt : ∀ k ∈ ([k0, k1, k2, k3, k4, k5] : List Nat), k < n) : ZiE A L0 L1 a2 L3 L4 L5 L6 L7 k0 k1 k2 k3 k4 k5 n :=
 Zaj hA (LSpec.callL (show LSpec Tryd.prog 50 #[vp 0 0, Value.string (Za L0)] (rpr L1 a2 L3 L4 L5 L6 L7) (vtt) [some (.cells [Value.string (Za L1), vi a2, vs 1 0 L3.length L3.length, vs 2 0 L4.length L4.length, vs 3 0 L5.length L5.length, vs 6 0 (L6.length + 1) (L6.length + 1), Value.map (some 5)] 57), some (.cells (Zb Zd L3) 24 true), some (.cells (Zb eI L4) 3 true), some (.cells (Zb Zt L5) 122 true), none, some (.ro (Zk (Zc3 L7 L0 (L3.length : Int))) true), some (.cells (Zb Zr (L6 ++ ([L0] : List (List Int)))) 9)] from Zhn L0 L1 a2 L3 L4 L5 L6 L7 N _ h) [k0, k1, k2, k3, k4, k5] n [0, 4, 5, 6] rfl hnd hlt (show 6 ≤ 7 from by decide) (show ∀ j ∈ ([0, 4, 5, 6] : List Nat), j < 7 from by decide) (by rfl) ⟨rfl, ⟨(Zo _ _ _), ⟨(Zo _ _ _), ⟨(Zo _ _ _), ⟨(Zo _ _ _), ⟨rfl, trivial⟩⟩⟩⟩⟩⟩ (by rfl) ⟨rfl, ⟨(Zo _ _ _), ⟨(Zo _ _ _), ⟨(Zo _ _ _), ⟨rfl, ⟨(Zo _ _ _), trivial⟩⟩⟩⟩⟩⟩ ⟨.inl (by decide), ⟨.inr rfl, ⟨.inr rfl, ⟨.inr rfl, ⟨.inl (by decide), ⟨.inl (by decide), ⟨(by decide), trivial⟩⟩⟩⟩⟩⟩⟩ rfl rfl rfl (Ze (Zj rfl rfl) (Ze (Zj rfl (Zz _ _ _)) (Ze (Zj rfl (Zz _ _ _)) (Ze (Zj rfl (Zz _ _ _)) (Ze (Zj rfl (Zz _ _ _)) (Ze (Zj rfl rfl) rfl)))))) (Ze (Zj rfl (Za6 rfl)) (Ze (Zj rfl rfl) (Ze (Zj rfl (Za6 rfl)) (Ze (Zj rfl (Za6 (ZgH _ _ _))) rfl)))))

noncomputable def ZgB (L0 : List Int) : instr_ByNameR → Value
 | .r0 w0 w1 => Value.tuple #[vi w0, Value.bool w1]
noncomputable def Zgg (L0 : List Int) : instr_ByNameR → List (Option AObj)
 | .r0 w0 w1 => []

abbrev ZU (L0 : List Int) (r : instr_ByNameR) : Prop := Gx Tryd.prog 61 [] #[Value.string (Za L0)] (ZgB L0) (Zgg L0) (some r)
theorem Zaa {L0 : List Int} {r : instr_ByNameR} {orc : Orc} {u : Value} {ob : List (Bool × Bool)} (hev : ZaL [] (ZaR Tryd.prog ZG 61 [] #[Value.string (Za L0)] 4000 orc) = some (u, [], ob)) (ho : ∀ p ∈ ob, p.1 = p.2) (hv : ZgB L0 r = Za5 (rho [] far) 3 u ∧ Zau 3 u = true) (hp : Zgg L0 r = [] := by rfl) : ZU L0 r :=
 Zc4 ZdU (live := []) (bl := []) hev ho (by rw [hp]; rfl) (by decide) (by rfl) hv (by rw [hp]; trivial) (by rw [hp]; exact Zaq _ rfl)

theorem ZpC {L0 : List Int} (orc : Orc) (ob : List (Bool × Bool)) (ho : ∀ p ∈ ob, p.1 = p.2) (hev : ZaL [] (ZaR Tryd.prog ZG 61 [] #[Value.string (Za L0)] 4000 orc) = some (Value.tuple #[vi (1 : Int), vT], [], ob) := by as_aux_lemma => kernel_rfl) : ZU L0 (.r0 (1) (true) : instr_ByNameR) := Zaa hev ho rr

noncomputable def Zho (L0 : List Int) : List (Bool × Bool) := (((⟨#[99, 111, 110, 115, 116]⟩ : ByteArray).toList == (Za L0).toList), false) :: []

theorem ZpD {L0 : List Int} (orc : Orc) (ob : List (Bool × Bool)) (ho : ∀ p ∈ ob, p.1 = p.2) (hev : ZaL [] (ZaR Tryd.prog ZG 61 [] #[Value.string (Za L0)] 4000 orc) = some (Value.tuple #[vi (2 : Int), vT], [], ob) := by as_aux_lemma => kernel_rfl) : ZU L0 (.r0 (2) (true) : instr_ByNameR) := Zaa hev ho rr

noncomputable def Zhp (L0 : List Int) : List (Bool × Bool) := (((⟨#[110, 105, 108]⟩ : ByteArray).toList == (Za L0).toList), false) :: Zho L0

theorem ZpE {L0 : List Int} (orc : Orc) (ob : List (Bool × Bool)) (ho : ∀ p ∈ ob, p.1 = p.2) (hev : ZaL [] (ZaR Tryd.prog ZG 61 [] #[Value.string (Za L0)] 4000 orc) = some (Value.tuple #[vi (3 : Int), vT], [], ob) := by as_aux_lemma => kernel_rfl) : ZU L0 (.r0 (3) (true) : instr_ByNameR) := Zaa hev ho rr

noncomputable def Zhq (L0 : List Int) : List (Bool × Bool) := (((⟨#[109, 111, 118, 101]⟩ : ByteArray).toList == (Za L0).toList), false) :: Zhp L0

theorem ZpF {L0 : List Int} (orc : Orc) (ob : List (Bool × Bool)) (ho : ∀ p ∈ ob, p.1 = p.2) (hev : ZaL [] (ZaR Tryd.prog ZG 61 [] #[Value.string (Za L0)] 4000 orc) = some (Value.tuple #[vi (4 : Int), vT], [], ob) := by as_aux_lemma => kernel_rfl) : ZU L0 (.r0 (4) (true) : instr_ByNameR) := Zaa hev ho rr

noncomputable def Zhr (L0 : List Int) : List (Bool × Bool) := (((⟨#[97, 100, 100]⟩ : ByteArray).toList == (Za L0).toList), false) :: Zhq L0

theorem ZpG {L0 : List Int} (orc : Orc) (ob : List (Bool × Bool)) (ho : ∀ p ∈ ob, p.1 = p.2) (hev : ZaL [] (ZaR Tryd.prog ZG 61 [] #[Value.string (Za L0)] 4000 orc) = some (Value.tuple #[vi (5 : Int), vT], [], ob) := by as_aux_lemma => kernel_rfl) : ZU L0 (.r0 (5) (true) : instr_ByNameR) := Zaa hev ho rr

noncomputable def Zhs (L0 : List Int) : List (Bool × Bool) := (((⟨#[115, 117, 98]⟩ : ByteArray).toList == (Za L0).toList), false) :: Zhr L0

theorem ZpH {L0 : List Int} (orc : Orc) (ob : List (Bool × Bool)) (ho : ∀ p ∈ ob, p.1 = p.2) (hev : ZaL [] (ZaR Tryd.prog ZG 61 [] #[Value.string (Za L0)] 4000 orc) = some (Value.tuple #[vi (6 : Int), vT], [], ob) := by as_aux_lemma => kernel_rfl) : ZU L0 (.r0 (6) (true) : instr_ByNameR) := Zaa hev ho rr

noncomputable def Zht (L0 : List Int) : List (Bool × Bool) := (((⟨#[108, 101, 115, 115]⟩ : ByteArray).toList == (Za L0).toList), false) :: Zhs L0

theorem ZpI {L0 : List Int} (orc : Orc) (ob : List (Bool × Bool)) (ho : ∀ p ∈ ob, p.1 = p.2) (hev : ZaL [] (ZaR Tryd.prog ZG 61 [] #[Value.string (Za L0)] 4000 orc) = some (Value.tuple #[vi (7 : Int), vT], [], ob) := by as_aux_lemma => kernel_rfl) : ZU L0 (.r0 (7) (true) : instr_ByNameR) := Zaa hev ho rr

noncomputable def Zhu (L0 : List Int) : List (Bool × Bool) := (((⟨#[101, 113]⟩ : ByteArray).toList == (Za L0).toList), false) :: Zht L0

theorem ZpJ {L0 : List Int} (orc : Orc) (ob : List (Bool × Bool)) (ho : ∀ p ∈ ob, p.1 = p.2) (hev : ZaL [] (ZaR Tryd.prog ZG 61 [] #[Value.string (Za L0)] 4000 orc) = some (Value.tuple #[vi (8 : Int), vT], [], ob) := by as_aux_lemma => kernel_rfl) : ZU L0 (.r0 (8) (true) : instr_ByNameR) := Zaa hev ho rr

noncomputable def Zhv (L0 : List Int) : List (Bool × Bool) := (((⟨#[106, 117, 109, 112]⟩ : ByteArray).toList == (Za L0).toList), false) :: Zhu L0

theorem ZpK {L0 : List Int} (orc : Orc) (ob : List (Bool × Bool)) (ho : ∀ p ∈ ob, p.1 = p.2) (hev : ZaL [] (ZaR Tryd.prog ZG 61 [] #[Value.string (Za L0)] 4000 orc) = some (Value.tuple #[vi (9 : Int), vT], [], ob) := by as_aux_lemma => kernel_rfl) : ZU L0 (.r0 (9) (true) : instr_ByNameR) := Zaa hev ho rr

noncomputable def Zhw (L0 : List Int) : List (Bool × Bool) := (((⟨#[106, 117, 109, 112, 122]⟩ : ByteArray).toList == (Za L0).toList), false) :: Zhv L0

theorem ZpL {L0 : List Int} (orc : Orc) (ob : List (Bool × Bool)) (ho : ∀ p ∈ ob, p.1 = p.2) (hev : ZaL [] (ZaR Tryd.prog ZG 61 [] #[Value.string (Za L0)] 4000 orc) = some (Value.tuple #[vi (10 : Int), vT], [], ob) := by as_aux_lemma => kernel_rfl) : ZU L0 (.r0 (10) (true) : instr_ByNameR) := Zaa hev ho rr

noncomputable def Zhx (L0 : List Int) : List (Bool × Bool) := (((⟨#[114, 111, 111, 116]⟩ : ByteArray).toList == (Za L0).toList), false) :: Zhw L0

theorem ZoT {L0 : List Int} (orc : Orc) (ob : List (Bool × Bool)) (ho : ∀ p ∈ ob, p.1 = p.2) (hev : ZaL [] (ZaR Tryd.prog ZG 61 [] #[Value.string (Za L0)] 4000 orc) = some (Value.tuple #[vi (11 : Int), vT], [], ob) := by as_aux_lemma => kernel_rfl) : ZU L0 (.r0 (11) (true) : instr_ByNameR) := Zaa hev ho rr

noncomputable def ZgJ (L0 : List Int) : List (Bool × Bool) := (((⟨#[110, 101, 119]⟩ : ByteArray).toList == (Za L0).toList), false) :: Zhx L0

theorem ZoU {L0 : List Int} (orc : Orc) (ob : List (Bool × Bool)) (ho : ∀ p ∈ ob, p.1 = p.2) (hev : ZaL [] (ZaR Tryd.prog ZG 61 [] #[Value.string (Za L0)] 4000 orc) = some (Value.tuple #[vi (12 : Int), vT], [], ob) := by as_aux_lemma => kernel_rfl) : ZU L0 (.r0 (12) (true) : instr_ByNameR) := Zaa hev ho rr

noncomputable def ZgK (L0 : List Int) : List (Bool × Bool) := (((⟨#[102, 114, 101, 101]⟩ : ByteArray).toList == (Za L0).toList), false) :: ZgJ L0

theorem ZoV {L0 : List Int} (orc : Orc) (ob : List (Bool × Bool)) (ho : ∀ p ∈ ob, p.1 = p.2) (hev : ZaL [] (ZaR Tryd.prog ZG 61 [] #[Value.string (Za L0)] 4000 orc) = some (Value.tuple #[vi (13 : Int), vT], [], ob) := by as_aux_lemma => kernel_rfl) : ZU L0 (.r0 (13) (true) : instr_ByNameR) := Zaa hev ho rr

noncomputable def ZgL (L0 : List Int) : List (Bool × Bool) := (((⟨#[103, 101, 116]⟩ : ByteArray).toList == (Za L0).toList), false) :: ZgK L0

theorem ZoW {L0 : List Int} (orc : Orc) (ob : List (Bool × Bool)) (ho : ∀ p ∈ ob, p.1 = p.2) (hev : ZaL [] (ZaR Tryd.prog ZG 61 [] #[Value.string (Za L0)] 4000 orc) = some (Value.tuple #[vi (14 : Int), vT], [], ob) := by as_aux_lemma => kernel_rfl) : ZU L0 (.r0 (14) (true) : instr_ByNameR) := Zaa hev ho rr

noncomputable def ZgM (L0 : List Int) : List (Bool × Bool) := (((⟨#[115, 101, 116]⟩ : ByteArray).toList == (Za L0).toList), false) :: ZgL L0

theorem ZoX {L0 : List Int} (orc : Orc) (ob : List (Bool × Bool)) (ho : ∀ p ∈ ob, p.1 = p.2) (hev : ZaL [] (ZaR Tryd.prog ZG 61 [] #[Value.string (Za L0)] 4000 orc) = some (Value.tuple #[vi (15 : Int), vT], [], ob) := by as_aux_lemma => kernel_rfl) : ZU L0 (.r0 (15) (true) : instr_ByNameR) := Zaa hev ho rr

noncomputable def ZgN (L0 : List Int) : List (Bool × Bool) := (((⟨#[98, 101, 103, 105, 110]⟩ : ByteArray).toList == (Za L0).toList), false) :: ZgM L0

theorem ZoY {L0 : List Int} (orc : Orc) (ob : List (Bool × Bool)) (ho : ∀ p ∈ ob, p.1 = p.2) (hev : ZaL [] (ZaR Tryd.prog ZG 61 [] #[Value.string (Za L0)] 4000 orc) = some (Value.tuple #[vi (16 : Int), vT], [], ob) := by as_aux_lemma => kernel_rfl) : ZU L0 (.r0 (16) (true) : instr_ByNameR) := Zaa hev ho rr

noncomputable def ZgO (L0 : List Int) : List (Bool × Bool) := (((⟨#[101, 108, 115, 101]⟩ : ByteArray).toList == (Za L0).toList), false) :: ZgN L0

theorem ZoZ {L0 : List Int} (orc : Orc) (ob : List (Bool × Bool)) (ho : ∀ p ∈ ob, p.1 = p.2) (hev : ZaL [] (ZaR Tryd.prog ZG 61 [] #[Value.string (Za L0)] 4000 orc) = some (Value.tuple #[vi (17 : Int), vT], [], ob) := by as_aux_lemma => kernel_rfl) : ZU L0 (.r0 (17) (true) : instr_ByNameR) := Zaa hev ho rr

noncomputable def ZdG (L0 : List Int) : List (Bool × Bool) := (((⟨#[101, 110, 100]⟩ : ByteArray).toList == (Za L0).toList), false) :: ZgO L0

theorem Zpa {L0 : List Int} (orc : Orc) (ob : List (Bool × Bool)) (ho : ∀ p ∈ ob, p.1 = p.2) (hev : ZaL [] (ZaR Tryd.prog ZG 61 [] #[Value.string (Za L0)] 4000 orc) = some (Value.tuple #[vi (18 : Int), vT], [], ob) := by as_aux_lemma => kernel_rfl) : ZU L0 (.r0 (18) (true) : instr_ByNameR) := Zaa hev ho rr

theorem Zpb {L0 : List Int} (orc : Orc) (ob : List (Bool × Bool)) (ho : ∀ p ∈ ob, p.1 = p.2) (hev : ZaL [] (ZaR Tryd.prog ZG 61 [] #[Value.string (Za L0)] 4000 orc) = some (Value.tuple #[vi (19 : Int), vT], [], ob) := by as_aux_lemma => kernel_rfl) : ZU L0 (.r0 (19) (true) : instr_ByNameR) := Zaa hev ho rr

theorem Zpc {L0 : List Int} (orc : Orc) (ob : List (Bool × Bool)) (ho : ∀ p ∈ ob, p.1 = p.2) (hev : ZaL [] (ZaR Tryd.prog ZG 61 [] #[Value.string (Za L0)] 4000 orc) = some (Value.tuple #[vi (20 : Int), vT], [], ob) := by as_aux_lemma => kernel_rfl) : ZU L0 (.r0 (20) (true) : instr_ByNameR) := Zaa hev ho rr

theorem Zpd {L0 : List Int} (orc : Orc) (ob : List (Bool × Bool)) (ho : ∀ p ∈ ob, p.1 = p.2) (hev : ZaL [] (ZaR Tryd.prog ZG 61 [] #[Value.string (Za L0)] 4000 orc) = some (Value.tuple #[vq, vf], [], ob) := by as_aux_lemma => kernel_rfl) : ZU L0 (.r0 (0) (false) : instr_ByNameR) := Zaa hev ho rr

set_option maxHeartbeats 4000000 in
theorem Zpe (L0 : List Int) (N : Nat) : Gx Tryd.prog 61 [] #[Value.string (Za L0)] (ZgB L0) (Zgg L0) (ZcH L0 N) := by
 unfold ZcH
 refine Zh (fun g0 => ?_) (fun g0 => ?_)
 ·
  exact ZpC (Zs [(3, true)] [] [] [] []) ((((⟨#[99, 111, 110, 115, 116]⟩ : ByteArray).toList == (Za L0).toList), true) :: []) (Zc (Zb2 (x := (bl [99, 111, 110, 115, 116])) (y := L0) (by assumption)) <| Z9)
 ·
  have w1 : OkL (Zho L0) :=
   Zc (Zbg (x := (bl [99, 111, 110, 115, 116])) (y := L0) (by assumption)) <| Z9
  refine Zh (fun g1 => ?_) (fun g1 => ?_)
  ·
   exact ZpD (Zs [(3, false), (7, true)] [] [] [] []) ((((⟨#[110, 105, 108]⟩ : ByteArray).toList == (Za L0).toList), true) :: Zho L0) (Zc (Zb2 (x := (bl [110, 105, 108])) (y := L0) (by assumption)) <| w1)
  ·
   have w2 : OkL (Zhp L0) :=
    Zc (Zbg (x := (bl [110, 105, 108])) (y := L0) (by assumption)) <| w1
   refine Zh (fun g2 => ?_) (fun g2 => ?_)
   ·
    exact ZpE (Zs [(3, false), (7, false), (11, true)] [] [] [] []) ((((⟨#[109, 111, 118, 101]⟩ : ByteArray).toList == (Za L0).toList), true) :: Zhp L0) (Zc (Zb2 (x := (bl [109, 111, 118, 101])) (y := L0) (by assumption)) <| w2)
   ·
    have w3 : OkL (Zhq L0) :=
     Zc (Zbg (x := (bl [109, 111, 118, 101])) (y := L0) (by assumption)) <| w2
    refine Zh (fun g3 => ?_) (fun g3 => ?_)
    ·
     exact ZpF (Zs [(3, false), (7, false), (11, false), (15, true)] [] [] [] []) ((((⟨#[97, 100, 100]⟩ : ByteArray).toList == (Za L0).toList), true) :: Zhq L0) (Zc (Zb2 (x := (bl [97, 100, 100])) (y := L0) (by assumption)) <| w3)
    ·
     have w4 : OkL (Zhr L0) :=
      Zc (Zbg (x := (bl [97, 100, 100])) (y := L0) (by assumption)) <| w3
     refine Zh (fun g4 => ?_) (fun g4 => ?_)
     ·
      exact ZpG (Zs [(3, false), (7, false), (11, false), (15, false), (19, true)] [] [] [] []) ((((⟨#[115, 117, 98]⟩ : ByteArray).toList == (Za L0).toList), true) :: Zhr L0) (Zc (Zb2 (x := (bl [115, 117, 98])) (y := L0) (by assumption)) <| w4)
     ·
      have w5 : OkL (Zhs L0) :=
       Zc (Zbg (x := (bl [115, 117, 98])) (y := L0) (by assumption)) <| w4
      refine Zh (fun g5 => ?_) (fun g5 => ?_)
      ·
       exact ZpH (Zs [(3, false), (7, false), (11, false), (15, false), (19, false), (23, true)] [] [] [] []) ((((⟨#[108, 101, 115, 115]⟩ : ByteArray).toList == (Za L0).toList), true) :: Zhs L0) (Zc (Zb2 (x := (bl [108, 101, 115, 115])) (y := L0) (by assumption)) <| w5)
      ·
       have w6 : OkL (Zht L0) :=
        Zc (Zbg (x := (bl [108, 101, 115, 115])) (y := L0) (by assumption)) <| w5
       refine Zh (fun g6 => ?_) (fun g6 => ?_)
       ·
        exact ZpI (Zs [(3, false), (7, false), (11, false), (15, false), (19, false), (23, false), (27, true)] [] [] [] []) ((((⟨#[101, 113]⟩ : ByteArray).toList == (Za L0).toList), true) :: Zht L0) (Zc (Zb2 (x := (bl [101, 113])) (y := L0) (by assumption)) <| w6)
       ·
        have w7 : OkL (Zhu L0) :=
         Zc (Zbg (x := (bl [101, 113])) (y := L0) (by assumption)) <| w6
        refine Zh (fun g7 => ?_) (fun g7 => ?_)
        ·
         exact ZpJ (Zs [(3, false), (7, false), (11, false), (15, false), (19, false), (23, false), (27, false), (31, true)] [] [] [] []) ((((⟨#[106, 117, 109, 112]⟩ : ByteArray).toList == (Za L0).toList), true) :: Zhu L0) (Zc (Zb2 (x := (bl [106, 117, 109, 112])) (y := L0) (by assumption)) <| w7)
        ·
         have w8 : OkL (Zhv L0) :=
          Zc (Zbg (x := (bl [106, 117, 109, 112])) (y := L0) (by assumption)) <| w7
         refine Zh (fun g8 => ?_) (fun g8 => ?_)
         ·
          exact ZpK (Zs [(3, false), (7, false), (11, false), (15, false), (19, false), (23, false), (27, false), (31, false), (35, true)] [] [] [] []) ((((⟨#[106, 117, 109, 112, 122]⟩ : ByteArray).toList == (Za L0).toList), true) :: Zhv L0) (Zc (Zb2 (x := (bl [106, 117, 109, 112, 122])) (y := L0) (by assumption)) <| w8)
         ·
          have w9 : OkL (Zhw L0) :=
           Zc (Zbg (x := (bl [106, 117, 109, 112, 122])) (y := L0) (by assumption)) <| w8
          refine Zh (fun g9 => ?_) (fun g9 => ?_)
          ·
           exact ZpL (Zs [(3, false), (7, false), (11, false), (15, false), (19, false), (23, false), (27, false), (31, false), (35, false), (39, true)] [] [] [] []) ((((⟨#[114, 111, 111, 116]⟩ : ByteArray).toList == (Za L0).toList), true) :: Zhw L0) (Zc (Zb2 (x := (bl [114, 111, 111, 116])) (y := L0) (by assumption)) <| w9)
          ·
           have w10 : OkL (Zhx L0) :=
            Zc (Zbg (x := (bl [114, 111, 111, 116])) (y := L0) (by assumption)) <| w9
           refine Zh (fun g10 => ?_) (fun g10 => ?_)
           ·
            exact ZoT (Zs [(3, false), (7, false), (11, false), (15, false), (19, false), (23, false), (27, false), (31, false), (35, false), (39, false), (43, true)] [] [] [] []) ((((⟨#[110, 101, 119]⟩ : ByteArray).toList == (Za L0).toList), true) :: Zhx L0) (Zc (Zb2 (x := (bl [110, 101, 119])) (y := L0) (by assumption)) <| w10)
           ·
            have w11 : OkL (ZgJ L0) :=
             Zc (Zbg (x := (bl [110, 101, 119])) (y := L0) (by assumption)) <| w10
            refine Zh (fun g11 => ?_) (fun g11 => ?_)
            ·
             exact ZoU (Zs [(3, false), (7, false), (11, false), (15, false), (19, false), (23, false), (27, false), (31, false), (35, false), (39, false), (43, false), (47, true)] [] [] [] []) ((((⟨#[102, 114, 101, 101]⟩ : ByteArray).toList == (Za L0).toList), true) :: ZgJ L0) (Zc (Zb2 (x := (bl [102, 114, 101, 101])) (y := L0) (by assumption)) <| w11)
            ·
             have w12 : OkL (ZgK L0) :=
              Zc (Zbg (x := (bl [102, 114, 101, 101])) (y := L0) (by assumption)) <| w11
             refine Zh (fun g12 => ?_) (fun g12 => ?_)
             ·
              exact ZoV (Zs [(3, false), (7, false), (11, false), (15, false), (19, false), (23, false), (27, false), (31, false), (35, false), (39, false), (43, false), (47, false), (51, true)] [] [] [] []) ((((⟨#[103, 101, 116]⟩ : ByteArray).toList == (Za L0).toList), true) :: ZgK L0) (Zc (Zb2 (x := (bl [103, 101, 116])) (y := L0) (by assumption)) <| w12)
             ·
              have w13 : OkL (ZgL L0) :=
               Zc (Zbg (x := (bl [103, 101, 116])) (y := L0) (by assumption)) <| w12
              refine Zh (fun g13 => ?_) (fun g13 => ?_)
              ·
               exact ZoW (Zs [(3, false), (7, false), (11, false), (15, false), (19, false), (23, false), (27, false), (31, false), (35, false), (39, false), (43, false), (47, false), (51, false), (55, true)] [] [] [] []) ((((⟨#[115, 101, 116]⟩ : ByteArray).toList == (Za L0).toList), true) :: ZgL L0) (Zc (Zb2 (x := (bl [115, 101, 116])) (y := L0) (by assumption)) <| w13)
              ·
               have w14 : OkL (ZgM L0) :=
                Zc (Zbg (x := (bl [115, 101, 116])) (y := L0) (by assumption)) <| w13
               refine Zh (fun g14 => ?_) (fun g14 => ?_)
               ·
                exact ZoX (Zs [(3, false), (7, false), (11, false), (15, false), (19, false), (23, false), (27, false), (31, false), (35, false), (39, false), (43, false), (47, false), (51, false), (55, false), (59, true)] [] [] [] []) ((((⟨#[98, 101, 103, 105, 110]⟩ : ByteArray).toList == (Za L0).toList), true) :: ZgM L0) (Zc (Zb2 (x := (bl [98, 101, 103, 105, 110])) (y := L0) (by assumption)) <| w14)
               ·
                have w15 : OkL (ZgN L0) :=
                 Zc (Zbg (x := (bl [98, 101, 103, 105, 110])) (y := L0) (by assumption)) <| w14
                refine Zh (fun g15 => ?_) (fun g15 => ?_)
                ·
                 exact ZoY (Zs [(3, false), (7, false), (11, false), (15, false), (19, false), (23, false), (27, false), (31, false), (35, false), (39, false), (43, false), (47, false), (51, false), (55, false), (59, false), (63, true)] [] [] [] []) ((((⟨#[101, 108, 115, 101]⟩ : ByteArray).toList == (Za L0).toList), true) :: ZgN L0) (Zc (Zb2 (x := (bl [101, 108, 115, 101])) (y := L0) (by assumption)) <| w15)
                ·
                 have w16 : OkL (ZgO L0) :=
                  Zc (Zbg (x := (bl [101, 108, 115, 101])) (y := L0) (by assumption)) <| w15
                 refine Zh (fun g16 => ?_) (fun g16 => ?_)
                 ·
                  exact ZoZ (Zs [(3, false), (7, false), (11, false), (15, false), (19, false), (23, false), (27, false), (31, false), (35, false), (39, false), (43, false), (47, false), (51, false), (55, false), (59, false), (63, false), (67, true)] [] [] [] []) ((((⟨#[101, 110, 100]⟩ : ByteArray).toList == (Za L0).toList), true) :: ZgO L0) (Zc (Zb2 (x := (bl [101, 110, 100])) (y := L0) (by assumption)) <| w16)
                 ·
                  have w17 : OkL (ZdG L0) :=
                   Zc (Zbg (x := (bl [101, 110, 100])) (y := L0) (by assumption)) <| w16
                  refine Zh (fun g17 => ?_) (fun g17 => ?_)
                  ·
                   exact Zpa (Zs [(3, false), (7, false), (11, false), (15, false), (19, false), (23, false), (27, false), (31, false), (35, false), (39, false), (43, false), (47, false), (51, false), (55, false), (59, false), (63, false), (67, false), (71, true)] [] [] [] []) ((((⟨#[114, 101, 116, 114, 121]⟩ : ByteArray).toList == (Za L0).toList), true) :: ZdG L0) (Zc (Zb2 (x := (bl [114, 101, 116, 114, 121])) (y := L0) (by assumption)) <| w17)
                  ·
                   refine Zh (fun g18 => ?_) (fun g18 => ?_)
                   ·
                    exact Zpb (Zs [(3, false), (7, false), (11, false), (15, false), (19, false), (23, false), (27, false), (31, false), (35, false), (39, false), (43, false), (47, false), (51, false), (55, false), (59, false), (63, false), (67, false), (71, false), (75, true)] [] [] [] []) ((((⟨#[101, 109, 105, 116]⟩ : ByteArray).toList == (Za L0).toList), true) :: (((⟨#[114, 101, 116, 114, 121]⟩ : ByteArray).toList == (Za L0).toList), false) :: ZdG L0) (Zc (Zb2 (x := (bl [101, 109, 105, 116])) (y := L0) (by assumption)) <| Zc (Zbg (x := (bl [114, 101, 116, 114, 121])) (y := L0) (by assumption)) <| w17)
                   ·
                    refine Zh (fun g19 => ?_) (fun g19 => ?_)
                    ·
                     exact Zpc (Zs [(3, false), (7, false), (11, false), (15, false), (19, false), (23, false), (27, false), (31, false), (35, false), (39, false), (43, false), (47, false), (51, false), (55, false), (59, false), (63, false), (67, false), (71, false), (75, false), (79, true)] [] [] [] []) ((((⟨#[104, 97, 108, 116]⟩ : ByteArray).toList == (Za L0).toList), true) :: (((⟨#[101, 109, 105, 116]⟩ : ByteArray).toList == (Za L0).toList), false) :: (((⟨#[114, 101, 116, 114, 121]⟩ : ByteArray).toList == (Za L0).toList), false) :: ZdG L0) (Zc (Zb2 (x := (bl [104, 97, 108, 116])) (y := L0) (by assumption)) <| Zc (Zbg (x := (bl [101, 109, 105, 116])) (y := L0) (by assumption)) <| Zc (Zbg (x := (bl [114, 101, 116, 114, 121])) (y := L0) (by assumption)) <| w17)
                    ·
                     exact Zpd (Zs [(3, false), (7, false), (11, false), (15, false), (19, false), (23, false), (27, false), (31, false), (35, false), (39, false), (43, false), (47, false), (51, false), (55, false), (59, false), (63, false), (67, false), (71, false), (75, false), (79, false)] [] [] [] []) ((((⟨#[104, 97, 108, 116]⟩ : ByteArray).toList == (Za L0).toList), false) :: (((⟨#[101, 109, 105, 116]⟩ : ByteArray).toList == (Za L0).toList), false) :: (((⟨#[114, 101, 116, 114, 121]⟩ : ByteArray).toList == (Za L0).toList), false) :: ZdG L0) (Zc (Zbg (x := (bl [104, 97, 108, 116])) (y := L0) (by assumption)) <| Zc (Zbg (x := (bl [101, 109, 105, 116])) (y := L0) (by assumption)) <| Zc (Zbg (x := (bl [114, 101, 116, 114, 121])) (y := L0) (by assumption)) <| w17)

theorem Znk (L0 : List Int) (N : Nat) (r : instr_ByNameR) (h : ZcH L0 N = some r) : LSpec Tryd.prog 61 #[Value.string (Za L0)] [] (ZgB L0 r) (Zgg L0 r) :=
 Zpe L0 N r h

noncomputable def Zq (L0 : List Int) (w0 : Int) (w1 : Bool) (n : Nat) : Za8 := .call [] (Value.tuple #[vi w0, Value.bool w1]) [] 0
def ZkK (A : Array Value) (L0 : List Int) (w0 : Int) (w1 : Bool) (n : Nat) : Prop := ZB Tryd.prog 61 A [] (Value.tuple #[vi w0, Value.bool w1]) [] n 0

theorem ZpM (A : Array Value) (L0 : List Int) (w0 : Int) (w1 : Bool) (N : Nat) (h : ZcH L0 N = some (.r0 w0 w1)) (n : Nat) (hA : A = #[Value.string (Za L0)]) (hnd : ([] : List Nat).Nodup) (hlt : ∀ k ∈ ([] : List Nat), k < n) : ZkK A L0 w0 w1  n :=
 Zaj hA (LSpec.callL (show LSpec Tryd.prog 61 #[Value.string (Za L0)] [] (Value.tuple #[vi w0, Value.bool w1]) [] from Znk L0 N _ h) [] n [] rfl hnd hlt (show 0 ≤ 0 from by decide) (show ∀ j ∈ ([] : List Nat), j < 0 from by decide) (by rfl) trivial (by rfl) trivial trivial rfl rfl rfl rfl rfl)

noncomputable def ZlL (a0 : Int) : Zx → Value
 | .r0 => Value.string ⟨#[114, 35]⟩
 | .r1 => Value.string ⟨#[64]⟩
 | .r2 => Value.string ⟨#[114, 64]⟩
 | .r3 => Value.string ⟨#[114, 35, 35]⟩
 | .r4 => Value.string ⟨#[114, 114, 35]⟩
 | .r5 => Value.string ⟨#[114, 35, 114]⟩
 | .r6 => Value.string ⟨#[]⟩
 | .r7 => Value.string ⟨#[114]⟩
 | .r8 => Value.string ⟨#[114, 114]⟩
 | .r9 => Value.string ⟨#[114, 114, 114]⟩
noncomputable def ZkL (a0 : Int) : Zx → List (Option AObj)
 | .r0 => []
 | .r1 => []
 | .r2 => []
 | .r3 => []
 | .r4 => []
 | .r5 => []
 | .r6 => []
 | .r7 => []
 | .r8 => []
 | .r9 => []

noncomputable def Zfu (a0 : Int) : List (Bool × Bool) := ((a0 == (8 : Int)), false) :: ((a0 == (1 : Int)), false) :: []

noncomputable def Zfv (a0 : Int) : List (Bool × Bool) := ((a0 == (11 : Int)), false) :: ((a0 == (9 : Int)), false) :: Zfu a0

noncomputable def Zfw (a0 : Int) : List (Bool × Bool) := ((a0 == (14 : Int)), false) :: ((a0 == (13 : Int)), false) :: Zfv a0

noncomputable def Zap (a0 : Int) : List (Bool × Bool) := ((decide (a0 ≥ (21 : Int))), false) :: ((decide (a0 < (0 : Int))), false) :: Zfw a0

end Ev
end Go.Proofs.YtlbbiflodemagaaDoor
/- Calls do what the plain functions say. -/
namespace Go.Proofs.YtlbbiflodemagaaDoor
open Go.RowKit
namespace Ev
set_option linter.unusedVariables false
set_option maxRecDepth 100000
set_option maxHeartbeats 4000000 in
theorem Zpf (a0 : Int) (N : Nat) : Fx Tryd.prog ZG Tryd.f16 [] #[vi a0] (ZlL a0) (ZkL a0) (Zax a0 N) := by
 unfold Zax
 refine Zbw (fun g0 => ?_) (fun g0 => ?_)
 ·
  exact ZaM (r := (.r0 : Zx)) (fu := 4000) (orc := (Z2 [o1] [] [] [] [])) (live := []) (u := Value.string ⟨#[114, 35]⟩) (bl := []) (ob := (((a0 == (1 : Int)), true) :: [])) (by as_aux_lemma => kernel_rfl) (oT <| Z9) rfl (by decide) (by rfl) rr trivial
 ·
  refine Zbw (fun g1 => ?_) (fun g1 => ?_)
  ·
   exact ZaM (r := (.r1 : Zx)) (fu := 4000) (orc := (Z2 [o0, o1] [] [] [] [])) (live := []) (u := Value.string ⟨#[64]⟩) (bl := []) (ob := (((a0 == (8 : Int)), true) :: ((a0 == (1 : Int)), false) :: [])) (by as_aux_lemma => kernel_rfl) (oT <| oF <| Z9) rfl (by decide) (by rfl) rr trivial
  ·
   have w2 : OkL (Zfu a0) :=
    oF <| oF <| Z9
   refine Zbw (fun g2 => ?_) (fun g2 => ?_)
   ·
    exact ZaM (r := (.r2 : Zx)) (fu := 4000) (orc := (Z2 [o0, o0, o1] [] [] [] [])) (live := []) (u := Value.string ⟨#[114, 64]⟩) (bl := []) (ob := (((a0 == (9 : Int)), true) :: Zfu a0)) (by as_aux_lemma => kernel_rfl) (oT <| w2) rfl (by decide) (by rfl) rr trivial
   ·
    refine Zbw (fun g3 => ?_) (fun g3 => ?_)
    ·
     exact ZaM (r := (.r3 : Zx)) (fu := 4000) (orc := (Z2 [o0, o0, o0, o1] [] [] [] [])) (live := []) (u := Value.string ⟨#[114, 35, 35]⟩) (bl := []) (ob := (((a0 == (11 : Int)), true) :: ((a0 == (9 : Int)), false) :: Zfu a0)) (by as_aux_lemma => kernel_rfl) (oT <| oF <| w2) rfl (by decide) (by rfl) rr trivial
    ·
     have w4 : OkL (Zfv a0) :=
      oF <| oF <| w2
     refine Zbw (fun g4 => ?_) (fun g4 => ?_)
     ·
      exact ZaM (r := (.r4 : Zx)) (fu := 4000) (orc := (Z2 [o0, o0, o0, o0, o1] [] [] [] [])) (live := []) (u := Value.string ⟨#[114, 114, 35]⟩) (bl := []) (ob := (((a0 == (13 : Int)), true) :: Zfv a0)) (by as_aux_lemma => kernel_rfl) (oT <| w4) rfl (by decide) (by rfl) rr trivial
     ·
      refine Zbw (fun g5 => ?_) (fun g5 => ?_)
      ·
       exact ZaM (r := (.r5 : Zx)) (fu := 4000) (orc := (Z2 [o0, o0, o0, o0, o0, o1] [] [] [] [])) (live := []) (u := Value.string ⟨#[114, 35, 114]⟩) (bl := []) (ob := (((a0 == (14 : Int)), true) :: ((a0 == (13 : Int)), false) :: Zfv a0)) (by as_aux_lemma => kernel_rfl) (oT <| oF <| w4) rfl (by decide) (by rfl) rr trivial
      ·
       have w6 : OkL (Zfw a0) :=
        oF <| oF <| w4
       refine Zbw (fun g6 => ?_) (fun g6 => ?_)
       ·
        exact ZaM (r := (.r6 : Zx)) (fu := 4000) (orc := (Z2 [o0, o0, o0, o0, o0, o0, o1] [] [] [] [])) (live := []) (u := Value.string ⟨#[]⟩) (bl := []) (ob := (((decide (a0 < (0 : Int))), true) :: Zfw a0)) (by as_aux_lemma => kernel_rfl) (oY <| w6) rfl (by decide) (by rfl) rr trivial
       ·
        refine Zbw (fun g7 => ?_) (fun g7 => ?_)
        ·
         exact ZaM (r := (.r6 : Zx)) (fu := 4000) (orc := (Z2 [o0, o0, o0, o0, o0, o0, o0, o1] [] [] [] [])) (live := []) (u := Value.string ⟨#[]⟩) (bl := []) (ob := (((decide (a0 ≥ (21 : Int))), true) :: ((decide (a0 < (0 : Int))), false) :: Zfw a0)) (by as_aux_lemma => kernel_rfl) (oY <| oN <| w6) rfl (by decide) (by rfl) rr trivial
        ·
         have w8 : OkL (Zap a0) :=
          oN <| oN <| w6
         refine Zbw (fun g8 => ?_) (fun g8 => ?_)
         ·
          exact ZaM (r := (.r6 : Zx)) (fu := 4000) (orc := (Z2 [o0, o0, o0, o0, o0, o0, o0, o0] [] [(0, 0)] [] [])) (live := []) (u := Value.string ⟨#[]⟩) (bl := []) (ob := ((Nat.blt 0 21, true) :: (a0 == Int.ofNat 0, true) :: Zap a0)) (by as_aux_lemma => kernel_rfl) (oB <| oK <| w8) rfl (by decide) (by rfl) rr trivial
         ·
          refine Zbw (fun g9 => ?_) (fun g9 => ?_)
          ·
           exact ZaM (r := (.r7 : Zx)) (fu := 4000) (orc := (Z2 [o0, o0, o0, o0, o0, o0, o0, o0] [] [(0, 2)] [] [])) (live := []) (u := Value.string ⟨#[114]⟩) (bl := []) (ob := ((Nat.blt 2 21, true) :: (a0 == Int.ofNat 2, true) :: Zap a0)) (by as_aux_lemma => kernel_rfl) (oB <| oK <| w8) rfl (by decide) (by rfl) rr trivial
          ·
           refine Zbw (fun g10 => ?_) (fun g10 => ?_)
           ·
            exact ZaM (r := (.r8 : Zx)) (fu := 4000) (orc := (Z2 [o0, o0, o0, o0, o0, o0, o0, o0] [] [(0, 3)] [] [])) (live := []) (u := Value.string ⟨#[114, 114]⟩) (bl := []) (ob := ((Nat.blt 3 21, true) :: (a0 == Int.ofNat 3, true) :: Zap a0)) (by as_aux_lemma => kernel_rfl) (oB <| oK <| w8) rfl (by decide) (by rfl) rr trivial
           ·
            refine Zbw (fun g11 => ?_) (fun g11 => ?_)
            ·
             exact ZaM (r := (.r9 : Zx)) (fu := 4000) (orc := (Z2 [o0, o0, o0, o0, o0, o0, o0, o0] [] [(0, 4)] [] [])) (live := []) (u := Value.string ⟨#[114, 114, 114]⟩) (bl := []) (ob := ((Nat.blt 4 21, true) :: (a0 == Int.ofNat 4, true) :: Zap a0)) (by as_aux_lemma => kernel_rfl) (oB <| oK <| w8) rfl (by decide) (by rfl) rr trivial
            ·
             refine Zbw (fun g12 => ?_) (fun g12 => ?_)
             ·
              exact ZaM (r := (.r9 : Zx)) (fu := 4000) (orc := (Z2 [o0, o0, o0, o0, o0, o0, o0, o0] [] [(0, 5)] [] [])) (live := []) (u := Value.string ⟨#[114, 114, 114]⟩) (bl := []) (ob := ((Nat.blt 5 21, true) :: (a0 == Int.ofNat 5, true) :: Zap a0)) (by as_aux_lemma => kernel_rfl) (oB <| oK <| w8) rfl (by decide) (by rfl) rr trivial
             ·
              refine Zbw (fun g13 => ?_) (fun g13 => ?_)
              ·
               exact ZaM (r := (.r9 : Zx)) (fu := 4000) (orc := (Z2 [o0, o0, o0, o0, o0, o0, o0, o0] [] [(0, 6)] [] [])) (live := []) (u := Value.string ⟨#[114, 114, 114]⟩) (bl := []) (ob := ((Nat.blt 6 21, true) :: (a0 == Int.ofNat 6, true) :: Zap a0)) (by as_aux_lemma => kernel_rfl) (oB <| oK <| w8) rfl (by decide) (by rfl) rr trivial
              ·
               refine Zbw (fun g14 => ?_) (fun g14 => ?_)
               ·
                exact ZaM (r := (.r9 : Zx)) (fu := 4000) (orc := (Z2 [o0, o0, o0, o0, o0, o0, o0, o0] [] [(0, 7)] [] [])) (live := []) (u := Value.string ⟨#[114, 114, 114]⟩) (bl := []) (ob := ((Nat.blt 7 21, true) :: (a0 == Int.ofNat 7, true) :: Zap a0)) (by as_aux_lemma => kernel_rfl) (oB <| oK <| w8) rfl (by decide) (by rfl) rr trivial
               ·
                refine Zbw (fun g15 => ?_) (fun g15 => ?_)
                ·
                 exact ZaM (r := (.r7 : Zx)) (fu := 4000) (orc := (Z2 [o0, o0, o0, o0, o0, o0, o0, o0] [] [(0, 10)] [] [])) (live := []) (u := Value.string ⟨#[114]⟩) (bl := []) (ob := ((Nat.blt 10 21, true) :: (a0 == Int.ofNat 10, true) :: Zap a0)) (by as_aux_lemma => kernel_rfl) (oB <| oK <| w8) rfl (by decide) (by rfl) rr trivial
                ·
                 refine Zbw (fun g16 => ?_) (fun g16 => ?_)
                 ·
                  exact ZaM (r := (.r7 : Zx)) (fu := 4000) (orc := (Z2 [o0, o0, o0, o0, o0, o0, o0, o0] [] [(0, 12)] [] [])) (live := []) (u := Value.string ⟨#[114]⟩) (bl := []) (ob := ((Nat.blt 12 21, true) :: (a0 == Int.ofNat 12, true) :: Zap a0)) (by as_aux_lemma => kernel_rfl) (oB <| oK <| w8) rfl (by decide) (by rfl) rr trivial
                 ·
                  refine Zbw (fun g17 => ?_) (fun g17 => ?_)
                  ·
                   exact ZaM (r := (.r6 : Zx)) (fu := 4000) (orc := (Z2 [o0, o0, o0, o0, o0, o0, o0, o0] [] [(0, 15)] [] [])) (live := []) (u := Value.string ⟨#[]⟩) (bl := []) (ob := ((Nat.blt 15 21, true) :: (a0 == Int.ofNat 15, true) :: Zap a0)) (by as_aux_lemma => kernel_rfl) (oB <| oK <| w8) rfl (by decide) (by rfl) rr trivial
                  ·
                   refine Zbw (fun g18 => ?_) (fun g18 => ?_)
                   ·
                    exact ZaM (r := (.r6 : Zx)) (fu := 4000) (orc := (Z2 [o0, o0, o0, o0, o0, o0, o0, o0] [] [(0, 16)] [] [])) (live := []) (u := Value.string ⟨#[]⟩) (bl := []) (ob := ((Nat.blt 16 21, true) :: (a0 == Int.ofNat 16, true) :: Zap a0)) (by as_aux_lemma => kernel_rfl) (oB <| oK <| w8) rfl (by decide) (by rfl) rr trivial
                   ·
                    refine Zbw (fun g19 => ?_) (fun g19 => ?_)
                    ·
                     exact ZaM (r := (.r6 : Zx)) (fu := 4000) (orc := (Z2 [o0, o0, o0, o0, o0, o0, o0, o0] [] [(0, 17)] [] [])) (live := []) (u := Value.string ⟨#[]⟩) (bl := []) (ob := ((Nat.blt 17 21, true) :: (a0 == Int.ofNat 17, true) :: Zap a0)) (by as_aux_lemma => kernel_rfl) (oB <| oK <| w8) rfl (by decide) (by rfl) rr trivial
                    ·
                     refine Zbw (fun g20 => ?_) (fun g20 => ?_)
                     ·
                      exact ZaM (r := (.r6 : Zx)) (fu := 4000) (orc := (Z2 [o0, o0, o0, o0, o0, o0, o0, o0] [] [(0, 18)] [] [])) (live := []) (u := Value.string ⟨#[]⟩) (bl := []) (ob := ((Nat.blt 18 21, true) :: (a0 == Int.ofNat 18, true) :: Zap a0)) (by as_aux_lemma => kernel_rfl) (oB <| oK <| w8) rfl (by decide) (by rfl) rr trivial
                     ·
                      refine Zbw (fun g21 => ?_) (fun g21 => ?_)
                      ·
                       exact ZaM (r := (.r7 : Zx)) (fu := 4000) (orc := (Z2 [o0, o0, o0, o0, o0, o0, o0, o0] [] [(0, 19)] [] [])) (live := []) (u := Value.string ⟨#[114]⟩) (bl := []) (ob := ((Nat.blt 19 21, true) :: (a0 == Int.ofNat 19, true) :: Zap a0)) (by as_aux_lemma => kernel_rfl) (oB <| oK <| w8) rfl (by decide) (by rfl) rr trivial
                      ·
                       exact ZaM (r := (.r6 : Zx)) (fu := 4000) (orc := (Z2 [o0, o0, o0, o0, o0, o0, o0, o0] [] [(0, 20)] [] [])) (live := []) (u := Value.string ⟨#[]⟩) (bl := []) (ob := ((Nat.blt 20 21, true) :: (a0 == Int.ofNat 20, true) :: Zap a0)) (by as_aux_lemma => kernel_rfl) (oB <| oK <| w8) rfl (by decide) (by rfl) rr trivial

theorem ZaH (a0 : Int) (N : Nat) (r : Zx) (h : Zax a0 N = some r) : LSpec Tryd.prog 16 #[vi a0] [] (ZlL a0 r) (ZkL a0 r) :=
 ZmZ ZdU Tryd.func16 (by kernel_rfl) (by kernel_rfl) (fun r => by cases r <;> exact Zaq _ rfl) (Zpf a0 N) h

noncomputable def Zd9 (a0 : Int) (n : Nat) : Za8 := .call [] (Value.string ⟨#[114, 35]⟩) [] 0
def ZkM (A : Array Value) (a0 : Int) (n : Nat) : Prop := ZB Tryd.prog 16 A [] (Value.string ⟨#[114, 35]⟩) [] n 0

theorem ZpN (A : Array Value) (a0 : Int) (N : Nat) (h : Zax a0 N = some (.r0)) (n : Nat) (hA : A = #[vi a0]) (hnd : ([] : List Nat).Nodup) (hlt : ∀ k ∈ ([] : List Nat), k < n) : ZkM A a0  n :=
 Zaj hA (LSpec.callL (show LSpec Tryd.prog 16 #[vi a0] [] (Value.string ⟨#[114, 35]⟩) [] from ZaH a0 N _ h) [] n [] rfl hnd hlt (show 0 ≤ 0 from by decide) (show ∀ j ∈ ([] : List Nat), j < 0 from by decide) (by rfl) trivial (by rfl) trivial trivial rfl rfl rfl rfl rfl)

noncomputable def Ze9 (a0 : Int) (n : Nat) : Za8 := .call [] (Value.string ⟨#[64]⟩) [] 0
def ZkN (A : Array Value) (a0 : Int) (n : Nat) : Prop := ZB Tryd.prog 16 A [] (Value.string ⟨#[64]⟩) [] n 0

theorem ZpO (A : Array Value) (a0 : Int) (N : Nat) (h : Zax a0 N = some (.r1)) (n : Nat) (hA : A = #[vi a0]) (hnd : ([] : List Nat).Nodup) (hlt : ∀ k ∈ ([] : List Nat), k < n) : ZkN A a0  n :=
 Zaj hA (LSpec.callL (show LSpec Tryd.prog 16 #[vi a0] [] (Value.string ⟨#[64]⟩) [] from ZaH a0 N _ h) [] n [] rfl hnd hlt (show 0 ≤ 0 from by decide) (show ∀ j ∈ ([] : List Nat), j < 0 from by decide) (by rfl) trivial (by rfl) trivial trivial rfl rfl rfl rfl rfl)

noncomputable def ZdA (a0 : Int) (n : Nat) : Za8 := .call [] (Value.string ⟨#[114, 64]⟩) [] 0
def ZkO (A : Array Value) (a0 : Int) (n : Nat) : Prop := ZB Tryd.prog 16 A [] (Value.string ⟨#[114, 64]⟩) [] n 0

theorem ZpP (A : Array Value) (a0 : Int) (N : Nat) (h : Zax a0 N = some (.r2)) (n : Nat) (hA : A = #[vi a0]) (hnd : ([] : List Nat).Nodup) (hlt : ∀ k ∈ ([] : List Nat), k < n) : ZkO A a0  n :=
 Zaj hA (LSpec.callL (show LSpec Tryd.prog 16 #[vi a0] [] (Value.string ⟨#[114, 64]⟩) [] from ZaH a0 N _ h) [] n [] rfl hnd hlt (show 0 ≤ 0 from by decide) (show ∀ j ∈ ([] : List Nat), j < 0 from by decide) (by rfl) trivial (by rfl) trivial trivial rfl rfl rfl rfl rfl)

noncomputable def Zc9 (a0 : Int) (n : Nat) : Za8 := .call [] (Value.string ⟨#[114, 35, 35]⟩) [] 0
def ZkP (A : Array Value) (a0 : Int) (n : Nat) : Prop := ZB Tryd.prog 16 A [] (Value.string ⟨#[114, 35, 35]⟩) [] n 0

theorem ZpQ (A : Array Value) (a0 : Int) (N : Nat) (h : Zax a0 N = some (.r3)) (n : Nat) (hA : A = #[vi a0]) (hnd : ([] : List Nat).Nodup) (hlt : ∀ k ∈ ([] : List Nat), k < n) : ZkP A a0  n :=
 Zaj hA (LSpec.callL (show LSpec Tryd.prog 16 #[vi a0] [] (Value.string ⟨#[114, 35, 35]⟩) [] from ZaH a0 N _ h) [] n [] rfl hnd hlt (show 0 ≤ 0 from by decide) (show ∀ j ∈ ([] : List Nat), j < 0 from by decide) (by rfl) trivial (by rfl) trivial trivial rfl rfl rfl rfl rfl)

noncomputable def ZcA (a0 : Int) (n : Nat) : Za8 := .call [] (Value.string ⟨#[114, 114, 35]⟩) [] 0
def ZkQ (A : Array Value) (a0 : Int) (n : Nat) : Prop := ZB Tryd.prog 16 A [] (Value.string ⟨#[114, 114, 35]⟩) [] n 0

theorem ZpR (A : Array Value) (a0 : Int) (N : Nat) (h : Zax a0 N = some (.r4)) (n : Nat) (hA : A = #[vi a0]) (hnd : ([] : List Nat).Nodup) (hlt : ∀ k ∈ ([] : List Nat), k < n) : ZkQ A a0  n :=
 Zaj hA (LSpec.callL (show LSpec Tryd.prog 16 #[vi a0] [] (Value.string ⟨#[114, 114, 35]⟩) [] from ZaH a0 N _ h) [] n [] rfl hnd hlt (show 0 ≤ 0 from by decide) (show ∀ j ∈ ([] : List Nat), j < 0 from by decide) (by rfl) trivial (by rfl) trivial trivial rfl rfl rfl rfl rfl)

noncomputable def ZcB (a0 : Int) (n : Nat) : Za8 := .call [] (Value.string ⟨#[114, 35, 114]⟩) [] 0
def ZkR (A : Array Value) (a0 : Int) (n : Nat) : Prop := ZB Tryd.prog 16 A [] (Value.string ⟨#[114, 35, 114]⟩) [] n 0

theorem ZpS (A : Array Value) (a0 : Int) (N : Nat) (h : Zax a0 N = some (.r5)) (n : Nat) (hA : A = #[vi a0]) (hnd : ([] : List Nat).Nodup) (hlt : ∀ k ∈ ([] : List Nat), k < n) : ZkR A a0  n :=
 Zaj hA (LSpec.callL (show LSpec Tryd.prog 16 #[vi a0] [] (Value.string ⟨#[114, 35, 114]⟩) [] from ZaH a0 N _ h) [] n [] rfl hnd hlt (show 0 ≤ 0 from by decide) (show ∀ j ∈ ([] : List Nat), j < 0 from by decide) (by rfl) trivial (by rfl) trivial trivial rfl rfl rfl rfl rfl)

noncomputable def Zgh (a0 : Int) (n : Nat) : Za8 := .call [] (Value.string ⟨#[]⟩) [] 0
def ZhQ (A : Array Value) (a0 : Int) (n : Nat) : Prop := ZB Tryd.prog 16 A [] (Value.string ⟨#[]⟩) [] n 0

theorem ZkS (A : Array Value) (a0 : Int) (N : Nat) (h : Zax a0 N = some (.r6)) (n : Nat) (hA : A = #[vi a0]) (hnd : ([] : List Nat).Nodup) (hlt : ∀ k ∈ ([] : List Nat), k < n) : ZhQ A a0  n :=
 Zaj hA (LSpec.callL (show LSpec Tryd.prog 16 #[vi a0] [] (Value.string ⟨#[]⟩) [] from ZaH a0 N _ h) [] n [] rfl hnd hlt (show 0 ≤ 0 from by decide) (show ∀ j ∈ ([] : List Nat), j < 0 from by decide) (by rfl) trivial (by rfl) trivial trivial rfl rfl rfl rfl rfl)

noncomputable def ZeA (a0 : Int) (n : Nat) : Za8 := .call [] (Value.string ⟨#[114]⟩) [] 0
def ZkT (A : Array Value) (a0 : Int) (n : Nat) : Prop := ZB Tryd.prog 16 A [] (Value.string ⟨#[114]⟩) [] n 0

theorem ZpT (A : Array Value) (a0 : Int) (N : Nat) (h : Zax a0 N = some (.r7)) (n : Nat) (hA : A = #[vi a0]) (hnd : ([] : List Nat).Nodup) (hlt : ∀ k ∈ ([] : List Nat), k < n) : ZkT A a0  n :=
 Zaj hA (LSpec.callL (show LSpec Tryd.prog 16 #[vi a0] [] (Value.string ⟨#[114]⟩) [] from ZaH a0 N _ h) [] n [] rfl hnd hlt (show 0 ≤ 0 from by decide) (show ∀ j ∈ ([] : List Nat), j < 0 from by decide) (by rfl) trivial (by rfl) trivial trivial rfl rfl rfl rfl rfl)

noncomputable def ZdB (a0 : Int) (n : Nat) : Za8 := .call [] (Value.string ⟨#[114, 114]⟩) [] 0
def ZkU (A : Array Value) (a0 : Int) (n : Nat) : Prop := ZB Tryd.prog 16 A [] (Value.string ⟨#[114, 114]⟩) [] n 0

theorem ZpU (A : Array Value) (a0 : Int) (N : Nat) (h : Zax a0 N = some (.r8)) (n : Nat) (hA : A = #[vi a0]) (hnd : ([] : List Nat).Nodup) (hlt : ∀ k ∈ ([] : List Nat), k < n) : ZkU A a0  n :=
 Zaj hA (LSpec.callL (show LSpec Tryd.prog 16 #[vi a0] [] (Value.string ⟨#[114, 114]⟩) [] from ZaH a0 N _ h) [] n [] rfl hnd hlt (show 0 ≤ 0 from by decide) (show ∀ j ∈ ([] : List Nat), j < 0 from by decide) (by rfl) trivial (by rfl) trivial trivial rfl rfl rfl rfl rfl)

noncomputable def ZcC (a0 : Int) (n : Nat) : Za8 := .call [] (Value.string ⟨#[114, 114, 114]⟩) [] 0
def ZkV (A : Array Value) (a0 : Int) (n : Nat) : Prop := ZB Tryd.prog 16 A [] (Value.string ⟨#[114, 114, 114]⟩) [] n 0

theorem ZpV (A : Array Value) (a0 : Int) (N : Nat) (h : Zax a0 N = some (.r9)) (n : Nat) (hA : A = #[vi a0]) (hnd : ([] : List Nat).Nodup) (hlt : ∀ k ∈ ([] : List Nat), k < n) : ZkV A a0  n :=
 Zaj hA (LSpec.callL (show LSpec Tryd.prog 16 #[vi a0] [] (Value.string ⟨#[114, 114, 114]⟩) [] from ZaH a0 N _ h) [] n [] rfl hnd hlt (show 0 ≤ 0 from by decide) (show ∀ j ∈ ([] : List Nat), j < 0 from by decide) (by rfl) trivial (by rfl) trivial trivial rfl rfl rfl rfl rfl)

noncomputable def Zfn (L0 L1 : List Int) (a2 : Int) (L3 : List RA) (L4 : List Int) (L5 : List R_is) (L6 : List (List Int)) (L7 : List R_si) : Zar → Value
 | .r0 => vi ((bAt L0 1) - (48 : Int))
 | .r1 => Value.iface 88 (Value.agg #[vi a2])
noncomputable def Zfc (L0 L1 : List Int) (a2 : Int) (L3 : List RA) (L4 : List Int) (L5 : List R_is) (L6 : List (List Int)) (L7 : List R_si) : Zar → List (Option AObj)
 | .r0 => [some (.cells (rdc L1 a2 L3 L4 L5 L6) 57), some (.cells (Zb Zd L3) 24 true), some (.cells (Zb eI L4) 3 true), some (.cells (Zb Zt L5) 122 true), some (.cells (Zb Zr L6) 9 true), some (.ro (Zk L7) true)]
 | .r1 => [none, none, none, none, none, none]

noncomputable def Zg1 : FuncId → Option Ext := fun f => bif Nat.beq f 62 then none else ZG f
theorem Zg2 : Fit Tryd.prog Zg1 := Zj7 ZdU _

noncomputable def ZeB (L0 L1 : List Int) (a2 : Int) (L3 : List RA) (L4 : List Int) (L5 : List R_is) (L6 : List (List Int)) (L7 : List R_si) : List (Bool × Bool) := (dP (∃ y, 0 ≤ (0 : Int) ∧ ((Za L0))[((0 : Int)).toNat]? = some y ∧ (bAt L0 0) = (y.toNat : Int)), true) :: (((((Za L0).size : Nat) : Int) == (2 : Int)), true) :: []

noncomputable def ZcR (L0 L1 : List Int) (a2 : Int) (L3 : List RA) (L4 : List Int) (L5 : List R_is) (L6 : List (List Int)) (L7 : List R_si) : List (Bool × Bool) := (dP (∃ y, 0 ≤ (1 : Int) ∧ ((Za L0))[((1 : Int)).toNat]? = some y ∧ (bAt L0 1) = (y.toNat : Int)), true) :: (((bAt L0 0) == (114 : Int)), true) :: ZeB L0 L1 a2 L3 L4 L5 L6 L7

theorem ZcS {L0 : List Int} {L1 : List Int} {a2 : Int} {L3 : List RA} {L4 : List Int} {L5 : List R_is} {L6 : List (List Int)} {L7 : List R_si} (orc : Orc) (ob : List (Bool × Bool)) (ho : ∀ p ∈ ob, p.1 = p.2) (hev : Zj5 Tryd.prog Zg1 62 (rpr L1 a2 L3 L4 L5 L6 L7) #[vp 0 0, Value.int .i32 (114 : Int), Value.string (Za L0)] 4000 orc = some (Value.iface 88 (Value.agg #[vi a2]), ob) := by as_aux_lemma => kernel_rfl) : Gx Tryd.prog 62 (rpr L1 a2 L3 L4 L5 L6 L7) #[vp 0 0, Value.int .i32 (114 : Int), Value.string (Za L0)] (Zfn L0 L1 a2 L3 L4 L5 L6 L7) (Zfc L0 L1 a2 L3 L4 L5 L6 L7) (some (.r1 : Zar)) := Zm3 Zg2 hev ho rfl (by rfl) (by rfl) (Zaq _ rfl)

set_option maxHeartbeats 4000000 in
theorem ZkW (L0 L1 : List Int) (a2 : Int) (L3 : List RA) (L4 : List Int) (L5 : List R_is) (L6 : List (List Int)) (L7 : List R_si) (N : Nat) : Gx Tryd.prog 62 (rpr L1 a2 L3 L4 L5 L6 L7) #[vp 0 0, Value.int .i32 (114 : Int), Value.string (Za L0)] (Zfn L0 L1 a2 L3 L4 L5 L6 L7) (Zfc L0 L1 a2 L3 L4 L5 L6 L7) (ZC L0 L1 a2 L3 L4 L5 L6 L7 N) := by
 unfold ZC
 refine Zh (fun g0 => ?_) (fun g0 => ?_)
 ·
  have w1 : OkL (ZeB L0 L1 a2 L3 L4 L5 L6 L7) :=
   Zc (Zp (Zj6 (M := L0) (i := 0) rfl (by first | rfl | exact Ze6 (by omega)) (by (try simp only [Z6] at *); omega))) <| oT <| Z9
  refine Zh (fun g1 => ?_) (fun g1 => ?_)
  ·
   have w2 : OkL (ZcR L0 L1 a2 L3 L4 L5 L6 L7) :=
    Zc (Zp (Zj6 (M := L0) (i := 1) rfl (by first | rfl | exact Ze6 (by omega)) (by (try simp only [Z6] at *); omega))) <| oT <| w1
   refine Zh (fun g2 => ?_) (fun g2 => ?_)
   ·
    refine Zh (fun g3 => ?_) (fun g3 => ?_)
    ·
     exact Zc4 Zg2 (fu := 4000) (orc := (Zs [(1, true), (2, true), (3, true), (4, true)] [(0, ((bAt L0 1) - (48 : Int))), (1, ((bAt L0 1) - (48 : Int)))] [] [] [(0, .bs [(bAt L0 0)]), (1, .bs [(bAt L0 1)]), (2, .bs [(bAt L0 1)]), (3, .bs [(bAt L0 1)])])) (live := [0, 1, 2, 3, 4, 5]) (u := vi ((bAt L0 1) - (48 : Int))) (bl := [some (.cells (rdc L1 a2 L3 L4 L5 L6) 57), some (.cells (Zb Zd L3) 24 true), some (.cells (Zb eI L4) 3 true), some (.cells (Zb Zt L5) 122 true), some (.cells (Zb Zr L6) 9 true), some (.ro (Zk L7) true)]) (ob := (((IntKind.i64.wrap ((bAt L0 1) - (48 : Int))) == ((bAt L0 1) - (48 : Int)), true) :: ((IntKind.u8.wrap ((bAt L0 1) - (48 : Int))) == ((bAt L0 1) - (48 : Int)), true) :: (dP (∃ y, 0 ≤ (1 : Int) ∧ ((Za L0))[((1 : Int)).toNat]? = some y ∧ (bAt L0 1) = (y.toNat : Int)), true) :: ((decide ((bAt L0 1) < (56 : Int))), true) :: (dP (∃ y, 0 ≤ (1 : Int) ∧ ((Za L0))[((1 : Int)).toNat]? = some y ∧ (bAt L0 1) = (y.toNat : Int)), true) :: ((decide ((bAt L0 1) ≥ (48 : Int))), true) :: ZcR L0 L1 a2 L3 L4 L5 L6 L7)) (by as_aux_lemma => kernel_rfl) (Zc (beq_iff_eq.2 (wrap_i64 ltA)) <| Zc (beq_iff_eq.2 ((Zxe ltA).trans (by first | rfl | omega))) <| Zc (Zp (Zj6 (M := L0) (i := 1) rfl (by first | rfl | exact Ze6 (by omega)) (by (try simp only [Z6] at *); omega))) <| oY <| Zc (Zp (Zj6 (M := L0) (i := 1) rfl (by first | rfl | exact Ze6 (by omega)) (by (try simp only [Z6] at *); omega))) <| oY <| w2) rfl (by decide) (by rfl) rr ⟨sm, ⟨(Zl (E := Zd) (α := RA) _ L3 _), ⟨(Zl (E := eI) (α := Int) _ L4 _), ⟨(Zl (E := Zt) (α := R_is) _ L5 _), ⟨(Zl (E := Zr) (α := List Int) _ L6 _), ⟨(show Zk L7 = Zk L7 from rfl), trivial⟩⟩⟩⟩⟩⟩ (Zaq _ rfl)
    ·
     exact ZcS (Zs [(1, true), (2, true), (3, true), (4, false)] [] [] [] [(0, .bs [(bAt L0 0)]), (1, .bs [(bAt L0 1)]), (2, .bs [(bAt L0 1)])]) (((decide ((bAt L0 1) < (56 : Int))), false) :: (dP (∃ y, 0 ≤ (1 : Int) ∧ ((Za L0))[((1 : Int)).toNat]? = some y ∧ (bAt L0 1) = (y.toNat : Int)), true) :: ((decide ((bAt L0 1) ≥ (48 : Int))), true) :: ZcR L0 L1 a2 L3 L4 L5 L6 L7) (oN <| Zc (Zp (Zj6 (M := L0) (i := 1) rfl (by first | rfl | exact Ze6 (by omega)) (by (try simp only [Z6] at *); omega))) <| oY <| w2)
   ·
    exact ZcS (Zs [(1, true), (2, true), (3, false)] [] [] [] [(0, .bs [(bAt L0 0)]), (1, .bs [(bAt L0 1)])]) (((decide ((bAt L0 1) ≥ (48 : Int))), false) :: ZcR L0 L1 a2 L3 L4 L5 L6 L7) (oN <| w2)
  ·
   exact ZcS (Zs [(1, true), (2, false)] [] [] [] [(0, .bs [(bAt L0 0)])]) ((((bAt L0 0) == (114 : Int)), false) :: ZeB L0 L1 a2 L3 L4 L5 L6 L7) (oF <| w1)
 ·
  exact ZcS (Zs [(1, false)] [] [] [] []) ((((((Za L0).size : Nat) : Int) == (2 : Int)), false) :: []) (oF <| Z9)

theorem Zgm (L0 L1 : List Int) (a2 : Int) (L3 : List RA) (L4 : List Int) (L5 : List R_is) (L6 : List (List Int)) (L7 : List R_si) (N : Nat) (r : Zar) (h : ZC L0 L1 a2 L3 L4 L5 L6 L7 N = some r) : LSpec Tryd.prog 62 #[vp 0 0, Value.int .i32 (114 : Int), Value.string (Za L0)] (rpr L1 a2 L3 L4 L5 L6 L7) (Zfn L0 L1 a2 L3 L4 L5 L6 L7 r) (Zfc L0 L1 a2 L3 L4 L5 L6 L7 r) :=
 ZkW L0 L1 a2 L3 L4 L5 L6 L7 N r h

noncomputable def Z3 (L0 L1 : List Int) (a2 : Int) (L3 : List RA) (L4 : List Int) (L5 : List R_is) (L6 : List (List Int)) (L7 : List R_si) (k0 k1 k2 k3 k4 k5 n : Nat) : Za8 := .call [(k0, .cells [Value.string (Za L1), vi a2, vs k1 0 L3.length L3.length, vs k2 0 L4.length L4.length, vs k3 0 L5.length L5.length, vs k4 0 L6.length L6.length, Value.map (some k5)] 57), (k1, .cells (Zb Zd L3) 24 true), (k2, .cells (Zb eI L4) 3 true), (k3, .cells (Zb Zt L5) 122 true), (k4, .cells (Zb Zr L6) 9 true), (k5, .ro (Zk L7) true)] (vi ((bAt L0 1) - (48 : Int))) [] 0
def ZS (A : Array Value) (L0 L1 : List Int) (a2 : Int) (L3 : List RA) (L4 : List Int) (L5 : List R_is) (L6 : List (List Int)) (L7 : List R_si) (k0 k1 k2 k3 k4 k5 n : Nat) : Prop := ZB Tryd.prog 62 A [(k0, .cells [Value.string (Za L1), vi a2, vs k1 0 L3.length L3.length, vs k2 0 L4.length L4.length, vs k3 0 L5.length L5.length, vs k4 0 L6.length L6.length, Value.map (some k5)] 57), (k1, .cells (Zb Zd L3) 24 true), (k2, .cells (Zb eI L4) 3 true), (k3, .cells (Zb Zt L5) 122 true), (k4, .cells (Zb Zr L6) 9 true), (k5, .ro (Zk L7) true)] (vi ((bAt L0 1) - (48 : Int))) [] n 0

theorem Zac (A : Array Value) (L0 L1 : List Int) (a2 : Int) (L3 : List RA) (L4 : List Int) (L5 : List R_is) (L6 : List (List Int)) (L7 : List R_si) (N : Nat) (h : ZC L0 L1 a2 L3 L4 L5 L6 L7 N = some (.r0)) (k0 k1 k2 k3 k4 k5 n : Nat) (hA : A = #[vp k0 0, Value.int .i32 (114 : Int), Value.string (Za L0)]) (hnd : ([k0, k1, k2, k3, k4, k5] : List Nat).Nodup) (hlt : ∀ k ∈ ([k0, k1, k2, k3, k4, k5] : List Nat), k < n) : ZS A L0 L1 a2 L3 L4 L5 L6 L7 k0 k1 k2 k3 k4 k5 n :=
 Zaj hA (LSpec.callL (show LSpec Tryd.prog 62 #[vp 0 0, Value.int .i32 (114 : Int), Value.string (Za L0)] (rpr L1 a2 L3 L4 L5 L6 L7) (vi ((bAt L0 1) - (48 : Int))) [some (.cells (rdc L1 a2 L3 L4 L5 L6) 57), some (.cells (Zb Zd L3) 24 true), some (.cells (Zb eI L4) 3 true), some (.cells (Zb Zt L5) 122 true), some (.cells (Zb Zr L6) 9 true), some (.ro (Zk L7) true)] from Zgm L0 L1 a2 L3 L4 L5 L6 L7 N _ h) [k0, k1, k2, k3, k4, k5] n [] rfl hnd hlt (show 6 ≤ 6 from by decide) (show ∀ j ∈ ([] : List Nat), j < 6 from by decide) (by rfl) ⟨rfl, ⟨(Zo _ _ _), ⟨(Zo _ _ _), ⟨(Zo _ _ _), ⟨(Zo _ _ _), ⟨rfl, trivial⟩⟩⟩⟩⟩⟩ (by rfl) ⟨rfl, ⟨(Zo _ _ _), ⟨(Zo _ _ _), ⟨(Zo _ _ _), ⟨(Zo _ _ _), ⟨rfl, trivial⟩⟩⟩⟩⟩⟩ ⟨.inr rfl, ⟨.inr rfl, ⟨.inr rfl, ⟨.inr rfl, ⟨.inr rfl, ⟨.inr rfl, trivial⟩⟩⟩⟩⟩⟩ rfl rfl rfl (Ze (Zj rfl rfl) (Ze (Zj rfl (Zz _ _ _)) (Ze (Zj rfl (Zz _ _ _)) (Ze (Zj rfl (Zz _ _ _)) (Ze (Zj rfl (Zz _ _ _)) (Ze (Zj rfl rfl) rfl)))))) rfl)

noncomputable def Zad (L0 L1 : List Int) (a2 : Int) (L3 : List RA) (L4 : List Int) (L5 : List R_is) (L6 : List (List Int)) (L7 : List R_si) (k0 k1 k2 k3 k4 k5 n : Nat) : Za8 := .call [(k0, .cells [Value.string (Za L1), vi a2, vs k1 0 L3.length L3.length, vs k2 0 L4.length L4.length, vs k3 0 L5.length L5.length, vs k4 0 L6.length L6.length, Value.map (some k5)] 57), (k1, .cells (Zb Zd L3) 24 true), (k2, .cells (Zb eI L4) 3 true), (k3, .cells (Zb Zt L5) 122 true), (k4, .cells (Zb Zr L6) 9 true), (k5, .ro (Zk L7) true)] (Value.iface 88 (Value.agg #[vi a2])) [(k0, none), (k1, none), (k2, none), (k3, none), (k4, none), (k5, none)] 0
def ZT (A : Array Value) (L0 L1 : List Int) (a2 : Int) (L3 : List RA) (L4 : List Int) (L5 : List R_is) (L6 : List (List Int)) (L7 : List R_si) (k0 k1 k2 k3 k4 k5 n : Nat) : Prop := ZB Tryd.prog 62 A [(k0, .cells [Value.string (Za L1), vi a2, vs k1 0 L3.length L3.length, vs k2 0 L4.length L4.length, vs k3 0 L5.length L5.length, vs k4 0 L6.length L6.length, Value.map (some k5)] 57), (k1, .cells (Zb Zd L3) 24 true), (k2, .cells (Zb eI L4) 3 true), (k3, .cells (Zb Zt L5) 122 true), (k4, .cells (Zb Zr L6) 9 true), (k5, .ro (Zk L7) true)] (Value.iface 88 (Value.agg #[vi a2])) [(k0, none), (k1, none), (k2, none), (k3, none), (k4, none), (k5, none)] n 0

theorem Zae (A : Array Value) (L0 L1 : List Int) (a2 : Int) (L3 : List RA) (L4 : List Int) (L5 : List R_is) (L6 : List (List Int)) (L7 : List R_si) (N : Nat) (h : ZC L0 L1 a2 L3 L4 L5 L6 L7 N = some (.r1)) (k0 k1 k2 k3 k4 k5 n : Nat) (hA : A = #[vp k0 0, Value.int .i32 (114 : Int), Value.string (Za L0)]) (hnd : ([k0, k1, k2, k3, k4, k5] : List Nat).Nodup) (hlt : ∀ k ∈ ([k0, k1, k2, k3, k4, k5] : List Nat), k < n) : ZT A L0 L1 a2 L3 L4 L5 L6 L7 k0 k1 k2 k3 k4 k5 n :=
 Zaj hA (LSpec.callL (show LSpec Tryd.prog 62 #[vp 0 0, Value.int .i32 (114 : Int), Value.string (Za L0)] (rpr L1 a2 L3 L4 L5 L6 L7) (Value.iface 88 (Value.agg #[vi a2])) [none, none, none, none, none, none] from Zgm L0 L1 a2 L3 L4 L5 L6 L7 N _ h) [k0, k1, k2, k3, k4, k5] n [0, 1, 2, 3, 4, 5] rfl hnd hlt (show 6 ≤ 6 from by decide) (show ∀ j ∈ ([0, 1, 2, 3, 4, 5] : List Nat), j < 6 from by decide) (by rfl) ⟨rfl, ⟨(Zo _ _ _), ⟨(Zo _ _ _), ⟨(Zo _ _ _), ⟨(Zo _ _ _), ⟨rfl, trivial⟩⟩⟩⟩⟩⟩ (by rfl) trivial ⟨.inl (by decide), ⟨.inl (by decide), ⟨.inl (by decide), ⟨.inl (by decide), ⟨.inl (by decide), ⟨.inl (by decide), trivial⟩⟩⟩⟩⟩⟩ rfl rfl rfl (Ze (Zj rfl rfl) (Ze (Zj rfl (Zz _ _ _)) (Ze (Zj rfl (Zz _ _ _)) (Ze (Zj rfl (Zz _ _ _)) (Ze (Zj rfl (Zz _ _ _)) (Ze (Zj rfl rfl) rfl)))))) (Ze (Zj rfl rfl) (Ze (Zj rfl rfl) (Ze (Zj rfl rfl) (Ze (Zj rfl rfl) (Ze (Zj rfl rfl) (Ze (Zj rfl rfl) rfl)))))))

noncomputable def ZeC (L0 L1 : List Int) (a2 : Int) (L3 : List RA) (L4 : List Int) (L5 : List R_is) (L6 : List (List Int)) (L7 : List R_si) : ZaY → Value
 | .r0 => vi (ZP L0)
 | .r1 => Value.iface 88 (Value.agg #[vi a2])
noncomputable def Zel (L0 L1 : List Int) (a2 : Int) (L3 : List RA) (L4 : List Int) (L5 : List R_is) (L6 : List (List Int)) (L7 : List R_si) : ZaY → List (Option AObj)
 | .r0 => [some (.cells (rdc L1 a2 L3 L4 L5 L6) 57), some (.cells (Zb Zd L3) 24 true), some (.cells (Zb eI L4) 3 true), some (.cells (Zb Zt L5) 122 true), some (.cells (Zb Zr L6) 9 true), some (.ro (Zk L7) true)]
 | .r1 => [none, none, none, none, none, none]

noncomputable def ZfC : FuncId → Option Ext := fun f => bif Nat.beq f 62 then none else ZG f
theorem ZfD : Fit Tryd.prog ZfC := Zj7 ZdU _

theorem ZjR {L0 : List Int} {L1 : List Int} {a2 : Int} {L3 : List RA} {L4 : List Int} {L5 : List R_is} {L6 : List (List Int)} {L7 : List R_si} (orc : Orc) (ob : List (Bool × Bool)) (ho : ∀ p ∈ ob, p.1 = p.2) (hev : Zj5 Tryd.prog ZfC 62 (rpr L1 a2 L3 L4 L5 L6 L7) #[vp 0 0, Value.int .i32 (35 : Int), Value.string (Za L0)] 4000 orc = some (Value.iface 88 (Value.agg #[vi a2]), ob) := by as_aux_lemma => kernel_rfl) : Gx Tryd.prog 62 (rpr L1 a2 L3 L4 L5 L6 L7) #[vp 0 0, Value.int .i32 (35 : Int), Value.string (Za L0)] (ZeC L0 L1 a2 L3 L4 L5 L6 L7) (Zel L0 L1 a2 L3 L4 L5 L6 L7) (some (.r1 : ZaY)) := Zm3 ZfD hev ho rfl (by rfl) (by rfl) (Zaq _ rfl)

set_option maxHeartbeats 4000000 in
theorem ZjS (L0 L1 : List Int) (a2 : Int) (L3 : List RA) (L4 : List Int) (L5 : List R_is) (L6 : List (List Int)) (L7 : List R_si) (N : Nat) : Gx Tryd.prog 62 (rpr L1 a2 L3 L4 L5 L6 L7) #[vp 0 0, Value.int .i32 (35 : Int), Value.string (Za L0)] (ZeC L0 L1 a2 L3 L4 L5 L6 L7) (Zel L0 L1 a2 L3 L4 L5 L6 L7) (Zan L0 L1 a2 L3 L4 L5 L6 L7 N) := by
 unfold Zan
 refine Zh (fun g0 => ?_) (fun _ => ZbI)
 refine Zh (fun g1 => ?_) (fun _ => ZbI)
 refine Zh (fun g2 => ?_) (fun g2 => ?_)
 ·
  exact Zc4 ZfD (fu := 4000) (orc := (Zs [(3, true)] [] [] [] [(0, .bs L0)])) (live := [0, 1, 2, 3, 4, 5]) (u := vi (ZP L0)) (bl := [some (.cells (rdc L1 a2 L3 L4 L5 L6) 57), some (.cells (Zb Zd L3) 24 true), some (.cells (Zb eI L4) 3 true), some (.cells (Zb Zt L5) 122 true), some (.cells (Zb Zr L6) 9 true), some (.ro (Zk L7) true)]) (ob := (((ZcF L0), true) :: (dP ((Za L0) = Za L0 ∧ ZL L0 = true ∧ L0.length ≤ 1000000), true) :: [])) (by as_aux_lemma => kernel_rfl) (Zc (by assumption) <| Zc (Zp ⟨rfl, by assumption, ltA⟩) <| Z9) rfl (by decide) (by rfl) rr ⟨sm, ⟨(Zl (E := Zd) (α := RA) _ L3 _), ⟨(Zl (E := eI) (α := Int) _ L4 _), ⟨(Zl (E := Zt) (α := R_is) _ L5 _), ⟨(Zl (E := Zr) (α := List Int) _ L6 _), ⟨(show Zk L7 = Zk L7 from rfl), trivial⟩⟩⟩⟩⟩⟩ (Zaq _ rfl)
 ·
  exact ZjR (Zs [(3, false)] [] [] [] [(0, .bs L0)]) (((ZcF L0), false) :: (dP ((Za L0) = Za L0 ∧ ZL L0 = true ∧ L0.length ≤ 1000000), true) :: []) (Zc (Bool.eq_false_iff.2 (by assumption)) <| Zc (Zp ⟨rfl, by assumption, ltA⟩) <| Z9)

theorem Zfx (L0 L1 : List Int) (a2 : Int) (L3 : List RA) (L4 : List Int) (L5 : List R_is) (L6 : List (List Int)) (L7 : List R_si) (N : Nat) (r : ZaY) (h : Zan L0 L1 a2 L3 L4 L5 L6 L7 N = some r) : LSpec Tryd.prog 62 #[vp 0 0, Value.int .i32 (35 : Int), Value.string (Za L0)] (rpr L1 a2 L3 L4 L5 L6 L7) (ZeC L0 L1 a2 L3 L4 L5 L6 L7 r) (Zel L0 L1 a2 L3 L4 L5 L6 L7 r) :=
 ZjS L0 L1 a2 L3 L4 L5 L6 L7 N r h

noncomputable def ZaP (L0 L1 : List Int) (a2 : Int) (L3 : List RA) (L4 : List Int) (L5 : List R_is) (L6 : List (List Int)) (L7 : List R_si) (k0 k1 k2 k3 k4 k5 n : Nat) : Za8 := .call [(k0, .cells [Value.string (Za L1), vi a2, vs k1 0 L3.length L3.length, vs k2 0 L4.length L4.length, vs k3 0 L5.length L5.length, vs k4 0 L6.length L6.length, Value.map (some k5)] 57), (k1, .cells (Zb Zd L3) 24 true), (k2, .cells (Zb eI L4) 3 true), (k3, .cells (Zb Zt L5) 122 true), (k4, .cells (Zb Zr L6) 9 true), (k5, .ro (Zk L7) true)] (vi (ZP L0)) [] 0
def Zbl (A : Array Value) (L0 L1 : List Int) (a2 : Int) (L3 : List RA) (L4 : List Int) (L5 : List R_is) (L6 : List (List Int)) (L7 : List R_si) (k0 k1 k2 k3 k4 k5 n : Nat) : Prop := ZB Tryd.prog 62 A [(k0, .cells [Value.string (Za L1), vi a2, vs k1 0 L3.length L3.length, vs k2 0 L4.length L4.length, vs k3 0 L5.length L5.length, vs k4 0 L6.length L6.length, Value.map (some k5)] 57), (k1, .cells (Zb Zd L3) 24 true), (k2, .cells (Zb eI L4) 3 true), (k3, .cells (Zb Zt L5) 122 true), (k4, .cells (Zb Zr L6) 9 true), (k5, .ro (Zk L7) true)] (vi (ZP L0)) [] n 0

theorem ZbL (A : Array Value) (L0 L1 : List Int) (a2 : Int) (L3 : List RA) (L4 : List Int) (L5 : List R_is) (L6 : List (List Int)) (L7 : List R_si) (N : Nat) (h : Zan L0 L1 a2 L3 L4 L5 L6 L7 N = some (.r0)) (k0 k1 k2 k3 k4 k5 n : Nat) (hA : A = #[vp k0 0, Value.int .i32 (35 : Int), Value.string (Za L0)]) (hnd : ([k0, k1, k2, k3, k4, k5] : List Nat).Nodup) (hlt : ∀ k ∈ ([k0, k1, k2, k3, k4, k5] : List Nat), k < n) : Zbl A L0 L1 a2 L3 L4 L5 L6 L7 k0 k1 k2 k3 k4 k5 n :=
 Zaj hA (LSpec.callL (show LSpec Tryd.prog 62 #[vp 0 0, Value.int .i32 (35 : Int), Value.string (Za L0)] (rpr L1 a2 L3 L4 L5 L6 L7) (vi (ZP L0)) [some (.cells (rdc L1 a2 L3 L4 L5 L6) 57), some (.cells (Zb Zd L3) 24 true), some (.cells (Zb eI L4) 3 true), some (.cells (Zb Zt L5) 122 true), some (.cells (Zb Zr L6) 9 true), some (.ro (Zk L7) true)] from Zfx L0 L1 a2 L3 L4 L5 L6 L7 N _ h) [k0, k1, k2, k3, k4, k5] n [] rfl hnd hlt (show 6 ≤ 6 from by decide) (show ∀ j ∈ ([] : List Nat), j < 6 from by decide) (by rfl) ⟨rfl, ⟨(Zo _ _ _), ⟨(Zo _ _ _), ⟨(Zo _ _ _), ⟨(Zo _ _ _), ⟨rfl, trivial⟩⟩⟩⟩⟩⟩ (by rfl) ⟨rfl, ⟨(Zo _ _ _), ⟨(Zo _ _ _), ⟨(Zo _ _ _), ⟨(Zo _ _ _), ⟨rfl, trivial⟩⟩⟩⟩⟩⟩ ⟨.inr rfl, ⟨.inr rfl, ⟨.inr rfl, ⟨.inr rfl, ⟨.inr rfl, ⟨.inr rfl, trivial⟩⟩⟩⟩⟩⟩ rfl rfl rfl (Ze (Zj rfl rfl) (Ze (Zj rfl (Zz _ _ _)) (Ze (Zj rfl (Zz _ _ _)) (Ze (Zj rfl (Zz _ _ _)) (Ze (Zj rfl (Zz _ _ _)) (Ze (Zj rfl rfl) rfl)))))) rfl)

noncomputable def ZbM (L0 L1 : List Int) (a2 : Int) (L3 : List RA) (L4 : List Int) (L5 : List R_is) (L6 : List (List Int)) (L7 : List R_si) (k0 k1 k2 k3 k4 k5 n : Nat) : Za8 := .call [(k0, .cells [Value.string (Za L1), vi a2, vs k1 0 L3.length L3.length, vs k2 0 L4.length L4.length, vs k3 0 L5.length L5.length, vs k4 0 L6.length L6.length, Value.map (some k5)] 57), (k1, .cells (Zb Zd L3) 24 true), (k2, .cells (Zb eI L4) 3 true), (k3, .cells (Zb Zt L5) 122 true), (k4, .cells (Zb Zr L6) 9 true), (k5, .ro (Zk L7) true)] (Value.iface 88 (Value.agg #[vi a2])) [(k0, none), (k1, none), (k2, none), (k3, none), (k4, none), (k5, none)] 0
def Zbm (A : Array Value) (L0 L1 : List Int) (a2 : Int) (L3 : List RA) (L4 : List Int) (L5 : List R_is) (L6 : List (List Int)) (L7 : List R_si) (k0 k1 k2 k3 k4 k5 n : Nat) : Prop := ZB Tryd.prog 62 A [(k0, .cells [Value.string (Za L1), vi a2, vs k1 0 L3.length L3.length, vs k2 0 L4.length L4.length, vs k3 0 L5.length L5.length, vs k4 0 L6.length L6.length, Value.map (some k5)] 57), (k1, .cells (Zb Zd L3) 24 true), (k2, .cells (Zb eI L4) 3 true), (k3, .cells (Zb Zt L5) 122 true), (k4, .cells (Zb Zr L6) 9 true), (k5, .ro (Zk L7) true)] (Value.iface 88 (Value.agg #[vi a2])) [(k0, none), (k1, none), (k2, none), (k3, none), (k4, none), (k5, none)] n 0

theorem ZbN (A : Array Value) (L0 L1 : List Int) (a2 : Int) (L3 : List RA) (L4 : List Int) (L5 : List R_is) (L6 : List (List Int)) (L7 : List R_si) (N : Nat) (h : Zan L0 L1 a2 L3 L4 L5 L6 L7 N = some (.r1)) (k0 k1 k2 k3 k4 k5 n : Nat) (hA : A = #[vp k0 0, Value.int .i32 (35 : Int), Value.string (Za L0)]) (hnd : ([k0, k1, k2, k3, k4, k5] : List Nat).Nodup) (hlt : ∀ k ∈ ([k0, k1, k2, k3, k4, k5] : List Nat), k < n) : Zbm A L0 L1 a2 L3 L4 L5 L6 L7 k0 k1 k2 k3 k4 k5 n :=
 Zaj hA (LSpec.callL (show LSpec Tryd.prog 62 #[vp 0 0, Value.int .i32 (35 : Int), Value.string (Za L0)] (rpr L1 a2 L3 L4 L5 L6 L7) (Value.iface 88 (Value.agg #[vi a2])) [none, none, none, none, none, none] from Zfx L0 L1 a2 L3 L4 L5 L6 L7 N _ h) [k0, k1, k2, k3, k4, k5] n [0, 1, 2, 3, 4, 5] rfl hnd hlt (show 6 ≤ 6 from by decide) (show ∀ j ∈ ([0, 1, 2, 3, 4, 5] : List Nat), j < 6 from by decide) (by rfl) ⟨rfl, ⟨(Zo _ _ _), ⟨(Zo _ _ _), ⟨(Zo _ _ _), ⟨(Zo _ _ _), ⟨rfl, trivial⟩⟩⟩⟩⟩⟩ (by rfl) trivial ⟨.inl (by decide), ⟨.inl (by decide), ⟨.inl (by decide), ⟨.inl (by decide), ⟨.inl (by decide), ⟨.inl (by decide), trivial⟩⟩⟩⟩⟩⟩ rfl rfl rfl (Ze (Zj rfl rfl) (Ze (Zj rfl (Zz _ _ _)) (Ze (Zj rfl (Zz _ _ _)) (Ze (Zj rfl (Zz _ _ _)) (Ze (Zj rfl (Zz _ _ _)) (Ze (Zj rfl rfl) rfl)))))) (Ze (Zj rfl rfl) (Ze (Zj rfl rfl) (Ze (Zj rfl rfl) (Ze (Zj rfl rfl) (Ze (Zj rfl rfl) (Ze (Zj rfl rfl) rfl)))))))

noncomputable def ZeD (L0 L1 : List Int) (a2 : Int) (L3 : List RA) (L4 : List Int) (L5 : List R_is) (L6 : List (List Int)) (L7 : List R_si) : Zaz → Value
 | .r0 => vq
 | .r1 => Value.iface 88 (Value.agg #[vi a2])
noncomputable def Zem (L0 L1 : List Int) (a2 : Int) (L3 : List RA) (L4 : List Int) (L5 : List R_is) (L6 : List (List Int)) (L7 : List R_si) : Zaz → List (Option AObj)
 | .r0 => [some (.cells [Value.string (Za L1), vi a2, vs 1 0 L3.length L3.length, vs 2 0 L4.length L4.length, vs 6 0 (L5.length + 1) (L5.length + 1), vs 4 0 L6.length L6.length, Value.map (some 5)] 57), some (.cells (Zb Zd L3) 24 true), some (.cells (Zb eI L4) 3 true), none, some (.cells (Zb Zr L6) 9 true), some (.ro (Zk L7) true), some (.cells (Zb Zt (L5 ++ ([(⟨(L3.length : Int), (L0.drop 1)⟩ : R_is)] : List R_is))) 122)]
 | .r1 => [none, none, none, none, none, none]

noncomputable def ZfE : FuncId → Option Ext := fun f => bif Nat.beq f 62 then none else ZG f
theorem ZfF : Fit Tryd.prog ZfE := Zj7 ZdU _

noncomputable def ZdO (L0 L1 : List Int) (a2 : Int) (L3 : List RA) (L4 : List Int) (L5 : List R_is) (L6 : List (List Int)) (L7 : List R_si) : List (Bool × Bool) := (dP (∃ y, 0 ≤ (0 : Int) ∧ ((Za L0))[((0 : Int)).toNat]? = some y ∧ (bAt L0 0) = (y.toNat : Int)), true) :: ((decide ((((Za L0).size : Nat) : Int) > (1 : Int))), true) :: []

noncomputable def ZdP (L0 L1 : List Int) (a2 : Int) (L3 : List RA) (L4 : List Int) (L5 : List R_is) (L6 : List (List Int)) (L7 : List R_si) : List (Bool × Bool) := (dP (0 ≤ (1 : Int) ∧ (1 : Int) ≤ ((((Za L0)).size : Nat) : Int) ∧ ((((Za L0)).size : Nat) : Int) ≤ ((((Za L0)).size : Nat) : Int) ∧ ((Za L0)).extract ((1 : Int)).toNat (((((Za L0)).size : Nat) : Int)).toNat = Za (L0.drop 1)), true) :: (((bAt L0 0) == (64 : Int)), true) :: ZdO L0 L1 a2 L3 L4 L5 L6 L7

theorem ZdQ {L0 : List Int} {L1 : List Int} {a2 : Int} {L3 : List RA} {L4 : List Int} {L5 : List R_is} {L6 : List (List Int)} {L7 : List R_si} (orc : Orc) (ob : List (Bool × Bool)) (ho : ∀ p ∈ ob, p.1 = p.2) (hev : Zj5 Tryd.prog ZfE 62 (rpr L1 a2 L3 L4 L5 L6 L7) #[vp 0 0, Value.int .i32 (64 : Int), Value.string (Za L0)] 4000 orc = some (Value.iface 88 (Value.agg #[vi a2]), ob) := by as_aux_lemma => kernel_rfl) : Gx Tryd.prog 62 (rpr L1 a2 L3 L4 L5 L6 L7) #[vp 0 0, Value.int .i32 (64 : Int), Value.string (Za L0)] (ZeD L0 L1 a2 L3 L4 L5 L6 L7) (Zem L0 L1 a2 L3 L4 L5 L6 L7) (some (.r1 : Zaz)) := Zm3 ZfF hev ho rfl (by rfl) (by rfl) (Zaq _ rfl)

set_option maxHeartbeats 4000000 in
theorem ZjT (L0 L1 : List Int) (a2 : Int) (L3 : List RA) (L4 : List Int) (L5 : List R_is) (L6 : List (List Int)) (L7 : List R_si) (N : Nat) : Gx Tryd.prog 62 (rpr L1 a2 L3 L4 L5 L6 L7) #[vp 0 0, Value.int .i32 (64 : Int), Value.string (Za L0)] (ZeD L0 L1 a2 L3 L4 L5 L6 L7) (Zem L0 L1 a2 L3 L4 L5 L6 L7) (Za9 L0 L1 a2 L3 L4 L5 L6 L7 N) := by
 unfold Za9
 refine Zh (fun g0 => ?_) (fun g0 => ?_)
 ·
  have w1 : OkL (ZdO L0 L1 a2 L3 L4 L5 L6 L7) :=
   Zc (Zp (Zj6 (M := L0) (i := 0) rfl (by first | rfl | exact Ze6 (by omega)) (by (try simp only [Z6] at *); omega))) <| oY <| Z9
  refine Zh (fun g1 => ?_) (fun g1 => ?_)
  ·
   have w2 : OkL (ZdP L0 L1 a2 L3 L4 L5 L6 L7) :=
    Zc (Zp (Zsn (M := L0) (R := (L0.drop 1)) rfl (by (try simp only [Z6] at *); omega) (by (try simp only [Z6] at *); omega) (by first | rfl | simp))) <| oT <| w1
   refine ZaQ (fun z2 c2 => ?_)
   cases z2 with
   | r0 y2_0 =>
    refine Zh (fun g3 => ?_) (fun g3 => ?_)
    ·
     subst g3
     refine Zh (fun g4 => ?_) (fun _ => ZbI)
     exact Zc4 ZfF (fu := 4000) (orc := (Zs [(2, true), (3, true)] [] [] [] [(0, .bs [(bAt L0 0)]), (1, .bs (L0.drop 1)), (2, (Zg9 ((L0.drop 1))  true  6)), (3, .bs (L0.drop 1)), (4, .ap 1 [vi (L3.length : Int), Value.string (Za (L0.drop 1))] (Zb Zt (L5 ++ ([(⟨(L3.length : Int), (L0.drop 1)⟩ : R_is)] : List R_is))))])) (live := [0, 1, 2, 3, 4, 5, 7]) (u := vq) (bl := [some (.cells [Value.string (Za L1), vi a2, vs 1 0 L3.length L3.length, vs 2 0 L4.length L4.length, vs 7 0 (L5.length + 1) (L5.length + 1), vs 4 0 L6.length L6.length, Value.map (some 5)] 57), some (.cells (Zb Zd L3) 24 true), some (.cells (Zb eI L4) 3 true), none, some (.cells (Zb Zr L6) 9 true), some (.ro (Zk L7) true), some (.cells (Zb Zt (L5 ++ ([(⟨(L3.length : Int), (L0.drop 1)⟩ : R_is)] : List R_is))) 122)]) (ob := ((dP ((1 = 1 ∧ Z8 (1 * 2) (List.drop 0 [vi (L3.length : Int), Value.string (Za (L0.drop 1))]) = some [vi (L3.length : Int), Value.string (Za (L0.drop 1))] ∧ Z4 Za3 [vi (L3.length : Int), Value.string (Za (L0.drop 1))] = true) ∧ 0 < 1 ∧ 1 ≤ 100000 ∧ L5.length < L5.length + 1 ∧ L5.length ≤ 100000 ∧ L5.length * 2 ≤ (List.length (Zb Zt L5)) ∧ List.take (L5.length * 2) (Zb Zt L5) ++ [vi (L3.length : Int), Value.string (Za (L0.drop 1))] = (Zb Zt (L5 ++ ([(⟨(L3.length : Int), (L0.drop 1)⟩ : R_is)] : List R_is)))), true) :: (dP (0 ≤ (1 : Int) ∧ (1 : Int) ≤ ((((Za L0)).size : Nat) : Int) ∧ ((((Za L0)).size : Nat) : Int) ≤ ((((Za L0)).size : Nat) : Int) ∧ ((Za L0)).extract ((1 : Int)).toNat (((((Za L0)).size : Nat) : Int)).toNat = Za (L0.drop 1)), true) :: (dP (Zfh #[Value.string (Za (L0.drop 1))] ((L0.drop 1))  true  6), true) :: ZdP L0 L1 a2 L3 L4 L5 L6 L7)) (by as_aux_lemma => kernel_rfl) (Zc (Zp ⟨⟨rfl, ⟨rfl, rfl⟩⟩, by omega, by omega, ltA, by omega, (ZaI (E := Zt) (L := L5) (M := ([(⟨(L3.length : Int), (L0.drop 1)⟩ : R_is)] : List R_is)) (n := L5.length) (show _ = _ * 2 from rfl) (by omega) (R := (L5 ++ ([(⟨(L3.length : Int), (L0.drop 1)⟩ : R_is)] : List R_is))) (by rw [List.take_of_length_le (by omega)]))⟩) <| Zc (Zp (Zsn (M := L0) (R := (L0.drop 1)) rfl (by (try simp only [Z6] at *); omega) (by (try simp only [Z6] at *); omega) (by first | rfl | simp))) <| Zc (Zp (ZgA #[Value.string (Za (L0.drop 1))] ((L0.drop 1))  true N c2  6 rfl dcd dcd)) <| w2) rfl (by decide) (by rfl) rr ⟨sm, ⟨(Zl (E := Zd) (α := RA) _ L3 _), ⟨(Zl (E := eI) (α := Int) _ L4 _), ⟨(Zl (E := Zr) (α := List Int) _ L6 _), ⟨(show Zk L7 = Zk L7 from rfl), ⟨(ZW (E := Zt) (α := R_is) _ (L5 ++ ([(⟨(L3.length : Int), (L0.drop 1)⟩ : R_is)] : List R_is)) _), trivial⟩⟩⟩⟩⟩⟩ (Zaq _ rfl)
    ·
     obtain rfl : y2_0 = false := by simpa using g3
     exact ZdQ (Zs [(2, true), (3, true)] [] [] [] [(0, .bs [(bAt L0 0)]), (1, .bs (L0.drop 1)), (2, (Zg9 ((L0.drop 1))  false  6))]) ((dP (Zfh #[Value.string (Za (L0.drop 1))] ((L0.drop 1))  false  6), true) :: ZdP L0 L1 a2 L3 L4 L5 L6 L7) (Zc (Zp (ZgA #[Value.string (Za (L0.drop 1))] ((L0.drop 1))  false N c2  6 rfl dcd dcd)) <| w2)
  ·
   exact ZdQ (Zs [(2, true), (3, false)] [] [] [] [(0, .bs [(bAt L0 0)])]) ((((bAt L0 0) == (64 : Int)), false) :: ZdO L0 L1 a2 L3 L4 L5 L6 L7) (oF <| w1)
 ·
  exact ZdQ (Zs [(2, false)] [] [] [] []) (((decide ((((Za L0).size : Nat) : Int) > (1 : Int))), false) :: []) (oN <| Z9)

theorem Zfy (L0 L1 : List Int) (a2 : Int) (L3 : List RA) (L4 : List Int) (L5 : List R_is) (L6 : List (List Int)) (L7 : List R_si) (N : Nat) (r : Zaz) (h : Za9 L0 L1 a2 L3 L4 L5 L6 L7 N = some r) : LSpec Tryd.prog 62 #[vp 0 0, Value.int .i32 (64 : Int), Value.string (Za L0)] (rpr L1 a2 L3 L4 L5 L6 L7) (ZeD L0 L1 a2 L3 L4 L5 L6 L7 r) (Zem L0 L1 a2 L3 L4 L5 L6 L7 r) :=
 ZjT L0 L1 a2 L3 L4 L5 L6 L7 N r h

noncomputable def Zg3 (L0 L1 : List Int) (a2 : Int) (L3 : List RA) (L4 : List Int) (L5 : List R_is) (L6 : List (List Int)) (L7 : List R_si) (k0 k1 k2 k3 k4 k5 n : Nat) : Za8 := .call [(k0, .cells [Value.string (Za L1), vi a2, vs k1 0 L3.length L3.length, vs k2 0 L4.length L4.length, vs k3 0 L5.length L5.length, vs k4 0 L6.length L6.length, Value.map (some k5)] 57), (k1, .cells (Zb Zd L3) 24 true), (k2, .cells (Zb eI L4) 3 true), (k3, .cells (Zb Zt L5) 122 true), (k4, .cells (Zb Zr L6) 9 true), (k5, .ro (Zk L7) true)] (vq) [(k0, some (.cells [Value.string (Za L1), vi a2, vs k1 0 L3.length L3.length, vs k2 0 L4.length L4.length, vs n 0 (L5.length + 1) (L5.length + 1), vs k4 0 L6.length L6.length, Value.map (some k5)] 57)), (k3, none), (n, some (.cells (Zb Zt (L5 ++ ([(⟨(L3.length : Int), (L0.drop 1)⟩ : R_is)] : List R_is))) 122))] 1
def Zen (A : Array Value) (L0 L1 : List Int) (a2 : Int) (L3 : List RA) (L4 : List Int) (L5 : List R_is) (L6 : List (List Int)) (L7 : List R_si) (k0 k1 k2 k3 k4 k5 n : Nat) : Prop := ZB Tryd.prog 62 A [(k0, .cells [Value.string (Za L1), vi a2, vs k1 0 L3.length L3.length, vs k2 0 L4.length L4.length, vs k3 0 L5.length L5.length, vs k4 0 L6.length L6.length, Value.map (some k5)] 57), (k1, .cells (Zb Zd L3) 24 true), (k2, .cells (Zb eI L4) 3 true), (k3, .cells (Zb Zt L5) 122 true), (k4, .cells (Zb Zr L6) 9 true), (k5, .ro (Zk L7) true)] (vq) [(k0, some (.cells [Value.string (Za L1), vi a2, vs k1 0 L3.length L3.length, vs k2 0 L4.length L4.length, vs n 0 (L5.length + 1) (L5.length + 1), vs k4 0 L6.length L6.length, Value.map (some k5)] 57)), (k3, none), (n, some (.cells (Zb Zt (L5 ++ ([(⟨(L3.length : Int), (L0.drop 1)⟩ : R_is)] : List R_is))) 122))] n 1

theorem Zg4 (A : Array Value) (L0 L1 : List Int) (a2 : Int) (L3 : List RA) (L4 : List Int) (L5 : List R_is) (L6 : List (List Int)) (L7 : List R_si) (N : Nat) (h : Za9 L0 L1 a2 L3 L4 L5 L6 L7 N = some (.r0)) (k0 k1 k2 k3 k4 k5 n : Nat) (hA : A = #[vp k0 0, Value.int .i32 (64 : Int), Value.string (Za L0)]) (hnd : ([k0, k1, k2, k3, k4, k5] : List Nat).Nodup) (hlt : ∀ k ∈ ([k0, k1, k2, k3, k4, k5] : List Nat), k < n) : Zen A L0 L1 a2 L3 L4 L5 L6 L7 k0 k1 k2 k3 k4 k5 n :=
 Zaj hA (LSpec.callL (show LSpec Tryd.prog 62 #[vp 0 0, Value.int .i32 (64 : Int), Value.string (Za L0)] (rpr L1 a2 L3 L4 L5 L6 L7) (vq) [some (.cells [Value.string (Za L1), vi a2, vs 1 0 L3.length L3.length, vs 2 0 L4.length L4.length, vs 6 0 (L5.length + 1) (L5.length + 1), vs 4 0 L6.length L6.length, Value.map (some 5)] 57), some (.cells (Zb Zd L3) 24 true), some (.cells (Zb eI L4) 3 true), none, some (.cells (Zb Zr L6) 9 true), some (.ro (Zk L7) true), some (.cells (Zb Zt (L5 ++ ([(⟨(L3.length : Int), (L0.drop 1)⟩ : R_is)] : List R_is))) 122)] from Zfy L0 L1 a2 L3 L4 L5 L6 L7 N _ h) [k0, k1, k2, k3, k4, k5] n [0, 3, 6] rfl hnd hlt (show 6 ≤ 7 from by decide) (show ∀ j ∈ ([0, 3, 6] : List Nat), j < 7 from by decide) (by rfl) ⟨rfl, ⟨(Zo _ _ _), ⟨(Zo _ _ _), ⟨(Zo _ _ _), ⟨(Zo _ _ _), ⟨rfl, trivial⟩⟩⟩⟩⟩⟩ (by rfl) ⟨rfl, ⟨(Zo _ _ _), ⟨(Zo _ _ _), ⟨(Zo _ _ _), ⟨rfl, ⟨(Zo _ _ _), trivial⟩⟩⟩⟩⟩⟩ ⟨.inl (by decide), ⟨.inr rfl, ⟨.inr rfl, ⟨.inl (by decide), ⟨.inr rfl, ⟨.inr rfl, ⟨(by decide), trivial⟩⟩⟩⟩⟩⟩⟩ rfl rfl rfl (Ze (Zj rfl rfl) (Ze (Zj rfl (Zz _ _ _)) (Ze (Zj rfl (Zz _ _ _)) (Ze (Zj rfl (Zz _ _ _)) (Ze (Zj rfl (Zz _ _ _)) (Ze (Zj rfl rfl) rfl)))))) (Ze (Zj rfl (Za6 rfl)) (Ze (Zj rfl rfl) (Ze (Zj rfl (Za6 (ZgH _ _ _))) rfl))))

noncomputable def Zg5 (L0 L1 : List Int) (a2 : Int) (L3 : List RA) (L4 : List Int) (L5 : List R_is) (L6 : List (List Int)) (L7 : List R_si) (k0 k1 k2 k3 k4 k5 n : Nat) : Za8 := .call [(k0, .cells [Value.string (Za L1), vi a2, vs k1 0 L3.length L3.length, vs k2 0 L4.length L4.length, vs k3 0 L5.length L5.length, vs k4 0 L6.length L6.length, Value.map (some k5)] 57), (k1, .cells (Zb Zd L3) 24 true), (k2, .cells (Zb eI L4) 3 true), (k3, .cells (Zb Zt L5) 122 true), (k4, .cells (Zb Zr L6) 9 true), (k5, .ro (Zk L7) true)] (Value.iface 88 (Value.agg #[vi a2])) [(k0, none), (k1, none), (k2, none), (k3, none), (k4, none), (k5, none)] 0
def Zeo (A : Array Value) (L0 L1 : List Int) (a2 : Int) (L3 : List RA) (L4 : List Int) (L5 : List R_is) (L6 : List (List Int)) (L7 : List R_si) (k0 k1 k2 k3 k4 k5 n : Nat) : Prop := ZB Tryd.prog 62 A [(k0, .cells [Value.string (Za L1), vi a2, vs k1 0 L3.length L3.length, vs k2 0 L4.length L4.length, vs k3 0 L5.length L5.length, vs k4 0 L6.length L6.length, Value.map (some k5)] 57), (k1, .cells (Zb Zd L3) 24 true), (k2, .cells (Zb eI L4) 3 true), (k3, .cells (Zb Zt L5) 122 true), (k4, .cells (Zb Zr L6) 9 true), (k5, .ro (Zk L7) true)] (Value.iface 88 (Value.agg #[vi a2])) [(k0, none), (k1, none), (k2, none), (k3, none), (k4, none), (k5, none)] n 0

theorem Zg6 (A : Array Value) (L0 L1 : List Int) (a2 : Int) (L3 : List RA) (L4 : List Int) (L5 : List R_is) (L6 : List (List Int)) (L7 : List R_si) (N : Nat) (h : Za9 L0 L1 a2 L3 L4 L5 L6 L7 N = some (.r1)) (k0 k1 k2 k3 k4 k5 n : Nat) (hA : A = #[vp k0 0, Value.int .i32 (64 : Int), Value.string (Za L0)]) (hnd : ([k0, k1, k2, k3, k4, k5] : List Nat).Nodup) (hlt : ∀ k ∈ ([k0, k1, k2, k3, k4, k5] : List Nat), k < n) : Zeo A L0 L1 a2 L3 L4 L5 L6 L7 k0 k1 k2 k3 k4 k5 n :=
 Zaj hA (LSpec.callL (show LSpec Tryd.prog 62 #[vp 0 0, Value.int .i32 (64 : Int), Value.string (Za L0)] (rpr L1 a2 L3 L4 L5 L6 L7) (Value.iface 88 (Value.agg #[vi a2])) [none, none, none, none, none, none] from Zfy L0 L1 a2 L3 L4 L5 L6 L7 N _ h) [k0, k1, k2, k3, k4, k5] n [0, 1, 2, 3, 4, 5] rfl hnd hlt (show 6 ≤ 6 from by decide) (show ∀ j ∈ ([0, 1, 2, 3, 4, 5] : List Nat), j < 6 from by decide) (by rfl) ⟨rfl, ⟨(Zo _ _ _), ⟨(Zo _ _ _), ⟨(Zo _ _ _), ⟨(Zo _ _ _), ⟨rfl, trivial⟩⟩⟩⟩⟩⟩ (by rfl) trivial ⟨.inl (by decide), ⟨.inl (by decide), ⟨.inl (by decide), ⟨.inl (by decide), ⟨.inl (by decide), ⟨.inl (by decide), trivial⟩⟩⟩⟩⟩⟩ rfl rfl rfl (Ze (Zj rfl rfl) (Ze (Zj rfl (Zz _ _ _)) (Ze (Zj rfl (Zz _ _ _)) (Ze (Zj rfl (Zz _ _ _)) (Ze (Zj rfl (Zz _ _ _)) (Ze (Zj rfl rfl) rfl)))))) (Ze (Zj rfl rfl) (Ze (Zj rfl rfl) (Ze (Zj rfl rfl) (Ze (Zj rfl rfl) (Ze (Zj rfl rfl) (Ze (Zj rfl rfl) rfl)))))))

noncomputable def ZdR (L0 L1 : List Int) (a2 : Int) (L3 : List RA) (L4 : List Int) (L5 : List R_is) (L6 : List (List Int)) (L7 : List R_si) : Zg → Value
 | .r0 => Value.iface 88 (Value.agg #[vi a2])
 | .r1 w5 => vtt
 | .r2 w4 w6 => vtt
noncomputable def ZdH (L0 L1 : List Int) (a2 : Int) (L3 : List RA) (L4 : List Int) (L5 : List R_is) (L6 : List (List Int)) (L7 : List R_si) : Zg → List (Option AObj)
 | .r0 => [none, none, none, none, none, none]
 | .r1 w5 => [some (.cells [Value.string (Za L1), vi a2, vs 6 0 w5.length w5.length, vs 7 0 (L4.length + 1) (L4.length + 1), vs 3 0 L5.length L5.length, vs 4 0 L6.length L6.length, Value.map (some 5)] 57), none, none, some (.cells (Zb Zt L5) 122 true), some (.cells (Zb Zr L6) 9 true), some (.ro (Zk L7) true), some (.cells (Zb Zd w5) 24), some (.cells (Zb eI (L4 ++ ([a2] : List Int))) 3)]
 | .r2 w4 w6 => [some (.cells [Value.string (Za L1), vi a2, vs 6 0 w4.length w4.length, vs 7 0 (L4.length + 1) (L4.length + 1), vs 8 0 w6.length w6.length, vs 4 0 L6.length L6.length, Value.map (some 5)] 57), none, none, none, some (.cells (Zb Zr L6) 9 true), some (.ro (Zk L7) true), some (.cells (Zb Zd w4) 24), some (.cells (Zb eI (L4 ++ ([a2] : List Int))) 3), some (.cells (Zb Zt w6) 122)]

noncomputable def Zfi : FuncId → Option Ext := fun f => bif Nat.beq f 51 then none else ZG f
theorem ZN : Fit Tryd.prog Zfi := Zj7 ZdU _

noncomputable def Zfz (L0 L1 : List Int) (a2 : Int) (L3 : List RA) (L4 : List Int) (L5 : List R_is) (L6 : List (List Int)) (L7 : List R_si) : List (Bool × Bool) := (dP ((Za L0) = Za L0 ∧ ZL L0 = true ∧ L0.length ≤ 1000000), true) :: []

end Ev
end Go.Proofs.YtlbbiflodemagaaDoor
/- Calls do what the plain functions say. -/
namespace Go.Proofs.YtlbbiflodemagaaDoor
open Go.RowKit
namespace Ev
set_option linter.unusedVariables false
set_option maxRecDepth 100000
noncomputable def Zf0 (L0 L1 : List Int) (a2 : Int) (L3 : List RA) (L4 : List Int) (L5 : List R_is) (L6 : List (List Int)) (L7 : List R_si) : List (Bool × Bool) := (Za4 (Z8 1 (List.drop (0 + (0 * 1)) (Zb Zr (wds L0)))) (wsl L0 0), true) :: (Nat.blt 0 (wds L0).length, true) :: ((0 : Int) == Int.ofNat 0, true) :: Zfz L0 L1 a2 L3 L4 L5 L6 L7

noncomputable def ZI (L0 L1 : List Int) (a2 : Int) (L3 : List RA) (L4 : List Int) (L5 : List R_is) (L6 : List (List Int)) (L7 : List R_si) (y3_0 : Int) (y3_1 : Bool) : List (Bool × Bool) := (dP (ZkK #[Value.string (Za (wd L0 0))] ((wd L0 0))  y3_0 y3_1  7), true) :: Zf0 L0 L1 a2 L3 L4 L5 L6 L7

noncomputable def Zcn (L0 L1 : List Int) (a2 : Int) (L3 : List RA) (L4 : List Int) (L5 : List R_is) (L6 : List (List Int)) (L7 : List R_si) (y3_0 : Int) (y3_1 : Bool) : List (Bool × Bool) := (dP (ZkM #[vi y3_0] (y3_0)    7), true) :: ZI L0 L1 a2 L3 L4 L5 L6 L7 y3_0 y3_1

theorem Zi {L0 : List Int} {L1 : List Int} {a2 : Int} {L3 : List RA} {L4 : List Int} {L5 : List R_is} {L6 : List (List Int)} {L7 : List R_si} (orc : Orc) (ob : List (Bool × Bool)) (ho : ∀ p ∈ ob, p.1 = p.2) (hev : Zj5 Tryd.prog Zfi 51 (rpr L1 a2 L3 L4 L5 L6 L7) #[vp 0 0, Value.string (Za L0)] 4000 orc = some (Value.iface 88 (Value.agg #[vi a2]), ob) := by as_aux_lemma => kernel_rfl) : Gx Tryd.prog 51 (rpr L1 a2 L3 L4 L5 L6 L7) #[vp 0 0, Value.string (Za L0)] (ZdR L0 L1 a2 L3 L4 L5 L6 L7) (ZdH L0 L1 a2 L3 L4 L5 L6 L7) (some (.r0 : Zg)) := Zm3 ZN hev ho rfl (by rfl) (by rfl) (Zaq _ rfl)

noncomputable def Zdw (L0 L1 : List Int) (a2 : Int) (L3 : List RA) (L4 : List Int) (L5 : List R_is) (L6 : List (List Int)) (L7 : List R_si) (y3_0 : Int) (y3_1 : Bool) : List (Bool × Bool) := (((((wds L0).length : Nat) : Int) != (3 : Int)), false) :: ((!y3_1), false) :: Zcn L0 L1 a2 L3 L4 L5 L6 L7 y3_0 y3_1

noncomputable def Zdx (L0 L1 : List Int) (a2 : Int) (L3 : List RA) (L4 : List Int) (L5 : List R_is) (L6 : List (List Int)) (L7 : List R_si) (y3_0 : Int) (y3_1 : Bool) : List (Bool × Bool) := (Za4 (Z8 1 (List.drop (0 + (1 * 1)) (Zb Zr (wds L0)))) (wsl L0 1), true) :: (Nat.blt 1 (wds L0).length, true) :: ((1 : Int) == Int.ofNat 1, true) :: ((decide ((L3.length : Int) ≥ (512 : Int))), false) :: Zdw L0 L1 a2 L3 L4 L5 L6 L7 y3_0 y3_1

noncomputable def Zdy (L0 L1 : List Int) (a2 : Int) (L3 : List RA) (L4 : List Int) (L5 : List R_is) (L6 : List (List Int)) (L7 : List R_si) (y3_0 : Int) (y3_1 : Bool) : List (Bool × Bool) := (Za4 (Z8 1 (List.drop (0 + (2 * 1)) (Zb Zr (wds L0)))) (wsl L0 2), true) :: (Nat.blt 2 (wds L0).length, true) :: ((2 : Int) == Int.ofNat 2, true) :: (dP (ZS #[vp 0 0, Value.int .i32 (114 : Int), Value.string (Za (wd L0 1))] ((wd L0 1)) L1 a2 L3 L4 L5 L6 L7   0 1 2 3 4 5 9), true) :: (dS (rdc L1 a2 L3 L4 L5 L6), true) :: (dS (Zb Zd L3), true) :: (dS (Zb eI L4), true) :: (dS (Zb Zt L5), true) :: (dS (Zb Zr L6), true) :: (dS (Zk L7), true) :: Zdx L0 L1 a2 L3 L4 L5 L6 L7 y3_0 y3_1

noncomputable def Zbt (L0 L1 : List Int) (a2 : Int) (L3 : List RA) (L4 : List Int) (L5 : List R_is) (L6 : List (List Int)) (L7 : List R_si) (y3_0 : Int) (y3_1 : Bool) : List (Bool × Bool) := (dP (ZkN #[vi y3_0] (y3_0)    7), true) :: ZI L0 L1 a2 L3 L4 L5 L6 L7 y3_0 y3_1

noncomputable def Zdz (L0 L1 : List Int) (a2 : Int) (L3 : List RA) (L4 : List Int) (L5 : List R_is) (L6 : List (List Int)) (L7 : List R_si) (y3_0 : Int) (y3_1 : Bool) : List (Bool × Bool) := (Za4 (Z8 1 (List.drop (0 + (1 * 1)) (Zb Zr (wds L0)))) (wsl L0 1), true) :: (Nat.blt 1 (wds L0).length, true) :: ((1 : Int) == Int.ofNat 1, true) :: ((decide ((L3.length : Int) ≥ (512 : Int))), false) :: (((((wds L0).length : Nat) : Int) != (2 : Int)), false) :: ((!y3_1), false) :: Zbt L0 L1 a2 L3 L4 L5 L6 L7 y3_0 y3_1

noncomputable def Zco (L0 L1 : List Int) (a2 : Int) (L3 : List RA) (L4 : List Int) (L5 : List R_is) (L6 : List (List Int)) (L7 : List R_si) (y3_0 : Int) (y3_1 : Bool) : List (Bool × Bool) := (dP (ZkO #[vi y3_0] (y3_0)    7), true) :: ZI L0 L1 a2 L3 L4 L5 L6 L7 y3_0 y3_1

noncomputable def ZcW (L0 L1 : List Int) (a2 : Int) (L3 : List RA) (L4 : List Int) (L5 : List R_is) (L6 : List (List Int)) (L7 : List R_si) (y3_0 : Int) (y3_1 : Bool) : List (Bool × Bool) := (((((wds L0).length : Nat) : Int) != (3 : Int)), false) :: ((!y3_1), false) :: Zco L0 L1 a2 L3 L4 L5 L6 L7 y3_0 y3_1

noncomputable def ZcX (L0 L1 : List Int) (a2 : Int) (L3 : List RA) (L4 : List Int) (L5 : List R_is) (L6 : List (List Int)) (L7 : List R_si) (y3_0 : Int) (y3_1 : Bool) : List (Bool × Bool) := (Za4 (Z8 1 (List.drop (0 + (1 * 1)) (Zb Zr (wds L0)))) (wsl L0 1), true) :: (Nat.blt 1 (wds L0).length, true) :: ((1 : Int) == Int.ofNat 1, true) :: ((decide ((L3.length : Int) ≥ (512 : Int))), false) :: ZcW L0 L1 a2 L3 L4 L5 L6 L7 y3_0 y3_1

noncomputable def ZcY (L0 L1 : List Int) (a2 : Int) (L3 : List RA) (L4 : List Int) (L5 : List R_is) (L6 : List (List Int)) (L7 : List R_si) (y3_0 : Int) (y3_1 : Bool) : List (Bool × Bool) := (Za4 (Z8 1 (List.drop (0 + (2 * 1)) (Zb Zr (wds L0)))) (wsl L0 2), true) :: (Nat.blt 2 (wds L0).length, true) :: ((2 : Int) == Int.ofNat 2, true) :: (dP (ZS #[vp 0 0, Value.int .i32 (114 : Int), Value.string (Za (wd L0 1))] ((wd L0 1)) L1 a2 L3 L4 L5 L6 L7   0 1 2 3 4 5 9), true) :: (dS (rdc L1 a2 L3 L4 L5 L6), true) :: (dS (Zb Zd L3), true) :: (dS (Zb eI L4), true) :: (dS (Zb Zt L5), true) :: (dS (Zb Zr L6), true) :: (dS (Zk L7), true) :: ZcX L0 L1 a2 L3 L4 L5 L6 L7 y3_0 y3_1

noncomputable def ZcZ (L0 L1 : List Int) (a2 : Int) (L3 : List RA) (L4 : List Int) (L5 : List R_is) (L6 : List (List Int)) (L7 : List R_si) (y3_0 : Int) (y3_1 : Bool) : List (Bool × Bool) := (dP (ZkP #[vi y3_0] (y3_0)    7), true) :: ZI L0 L1 a2 L3 L4 L5 L6 L7 y3_0 y3_1

noncomputable def ZbQ (L0 L1 : List Int) (a2 : Int) (L3 : List RA) (L4 : List Int) (L5 : List R_is) (L6 : List (List Int)) (L7 : List R_si) (y3_0 : Int) (y3_1 : Bool) : List (Bool × Bool) := ((!y3_1), false) :: ZcZ L0 L1 a2 L3 L4 L5 L6 L7 y3_0 y3_1

noncomputable def Zda (L0 L1 : List Int) (a2 : Int) (L3 : List RA) (L4 : List Int) (L5 : List R_is) (L6 : List (List Int)) (L7 : List R_si) (y3_0 : Int) (y3_1 : Bool) : List (Bool × Bool) := (Za4 (Z8 1 (List.drop (0 + (1 * 1)) (Zb Zr (wds L0)))) (wsl L0 1), true) :: (Nat.blt 1 (wds L0).length, true) :: ((1 : Int) == Int.ofNat 1, true) :: ((decide ((L3.length : Int) ≥ (512 : Int))), false) :: (((((wds L0).length : Nat) : Int) != (4 : Int)), false) :: ZbQ L0 L1 a2 L3 L4 L5 L6 L7 y3_0 y3_1

noncomputable def Zdb (L0 L1 : List Int) (a2 : Int) (L3 : List RA) (L4 : List Int) (L5 : List R_is) (L6 : List (List Int)) (L7 : List R_si) (y3_0 : Int) (y3_1 : Bool) : List (Bool × Bool) := (Za4 (Z8 1 (List.drop (0 + (2 * 1)) (Zb Zr (wds L0)))) (wsl L0 2), true) :: (Nat.blt 2 (wds L0).length, true) :: ((2 : Int) == Int.ofNat 2, true) :: (dP (ZS #[vp 0 0, Value.int .i32 (114 : Int), Value.string (Za (wd L0 1))] ((wd L0 1)) L1 a2 L3 L4 L5 L6 L7   0 1 2 3 4 5 9), true) :: (dS (rdc L1 a2 L3 L4 L5 L6), true) :: (dS (Zb Zd L3), true) :: (dS (Zb eI L4), true) :: (dS (Zb Zt L5), true) :: (dS (Zb Zr L6), true) :: (dS (Zk L7), true) :: Zda L0 L1 a2 L3 L4 L5 L6 L7 y3_0 y3_1

noncomputable def Zdc (L0 L1 : List Int) (a2 : Int) (L3 : List RA) (L4 : List Int) (L5 : List R_is) (L6 : List (List Int)) (L7 : List R_si) (y3_0 : Int) (y3_1 : Bool) : List (Bool × Bool) := (Za4 (Z8 1 (List.drop (0 + (3 * 1)) (Zb Zr (wds L0)))) (wsl L0 3), true) :: (Nat.blt 3 (wds L0).length, true) :: ((3 : Int) == Int.ofNat 3, true) :: (dP (Zbl #[vp 0 0, Value.int .i32 (35 : Int), Value.string (Za (wd L0 2))] ((wd L0 2)) L1 a2 L3 L4 L5 L6 L7   0 1 2 3 4 5 9), true) :: (dS (rdc L1 a2 L3 L4 L5 L6), true) :: (dS (Zb Zd L3), true) :: (dS (Zb eI L4), true) :: (dS (Zb Zt L5), true) :: (dS (Zb Zr L6), true) :: (dS (Zk L7), true) :: Zdb L0 L1 a2 L3 L4 L5 L6 L7 y3_0 y3_1

noncomputable def Zdd (L0 L1 : List Int) (a2 : Int) (L3 : List RA) (L4 : List Int) (L5 : List R_is) (L6 : List (List Int)) (L7 : List R_si) (y3_0 : Int) (y3_1 : Bool) : List (Bool × Bool) := (dP (ZkQ #[vi y3_0] (y3_0)    7), true) :: ZI L0 L1 a2 L3 L4 L5 L6 L7 y3_0 y3_1

noncomputable def ZbR (L0 L1 : List Int) (a2 : Int) (L3 : List RA) (L4 : List Int) (L5 : List R_is) (L6 : List (List Int)) (L7 : List R_si) (y3_0 : Int) (y3_1 : Bool) : List (Bool × Bool) := ((!y3_1), false) :: Zdd L0 L1 a2 L3 L4 L5 L6 L7 y3_0 y3_1

noncomputable def Zde (L0 L1 : List Int) (a2 : Int) (L3 : List RA) (L4 : List Int) (L5 : List R_is) (L6 : List (List Int)) (L7 : List R_si) (y3_0 : Int) (y3_1 : Bool) : List (Bool × Bool) := (Za4 (Z8 1 (List.drop (0 + (1 * 1)) (Zb Zr (wds L0)))) (wsl L0 1), true) :: (Nat.blt 1 (wds L0).length, true) :: ((1 : Int) == Int.ofNat 1, true) :: ((decide ((L3.length : Int) ≥ (512 : Int))), false) :: (((((wds L0).length : Nat) : Int) != (4 : Int)), false) :: ZbR L0 L1 a2 L3 L4 L5 L6 L7 y3_0 y3_1

noncomputable def Zdf (L0 L1 : List Int) (a2 : Int) (L3 : List RA) (L4 : List Int) (L5 : List R_is) (L6 : List (List Int)) (L7 : List R_si) (y3_0 : Int) (y3_1 : Bool) : List (Bool × Bool) := (Za4 (Z8 1 (List.drop (0 + (2 * 1)) (Zb Zr (wds L0)))) (wsl L0 2), true) :: (Nat.blt 2 (wds L0).length, true) :: ((2 : Int) == Int.ofNat 2, true) :: (dP (ZS #[vp 0 0, Value.int .i32 (114 : Int), Value.string (Za (wd L0 1))] ((wd L0 1)) L1 a2 L3 L4 L5 L6 L7   0 1 2 3 4 5 9), true) :: (dS (rdc L1 a2 L3 L4 L5 L6), true) :: (dS (Zb Zd L3), true) :: (dS (Zb eI L4), true) :: (dS (Zb Zt L5), true) :: (dS (Zb Zr L6), true) :: (dS (Zk L7), true) :: Zde L0 L1 a2 L3 L4 L5 L6 L7 y3_0 y3_1

noncomputable def Zdg (L0 L1 : List Int) (a2 : Int) (L3 : List RA) (L4 : List Int) (L5 : List R_is) (L6 : List (List Int)) (L7 : List R_si) (y3_0 : Int) (y3_1 : Bool) : List (Bool × Bool) := (Za4 (Z8 1 (List.drop (0 + (3 * 1)) (Zb Zr (wds L0)))) (wsl L0 3), true) :: (Nat.blt 3 (wds L0).length, true) :: ((3 : Int) == Int.ofNat 3, true) :: (dP (ZS #[vp 0 0, Value.int .i32 (114 : Int), Value.string (Za (wd L0 2))] ((wd L0 2)) L1 a2 L3 L4 L5 L6 L7   0 1 2 3 4 5 9), true) :: (dS (rdc L1 a2 L3 L4 L5 L6), true) :: (dS (Zb Zd L3), true) :: (dS (Zb eI L4), true) :: (dS (Zb Zt L5), true) :: (dS (Zb Zr L6), true) :: (dS (Zk L7), true) :: Zdf L0 L1 a2 L3 L4 L5 L6 L7 y3_0 y3_1

noncomputable def Zdh (L0 L1 : List Int) (a2 : Int) (L3 : List RA) (L4 : List Int) (L5 : List R_is) (L6 : List (List Int)) (L7 : List R_si) (y3_0 : Int) (y3_1 : Bool) : List (Bool × Bool) := (dP (ZkR #[vi y3_0] (y3_0)    7), true) :: ZI L0 L1 a2 L3 L4 L5 L6 L7 y3_0 y3_1

noncomputable def ZbS (L0 L1 : List Int) (a2 : Int) (L3 : List RA) (L4 : List Int) (L5 : List R_is) (L6 : List (List Int)) (L7 : List R_si) (y3_0 : Int) (y3_1 : Bool) : List (Bool × Bool) := ((!y3_1), false) :: Zdh L0 L1 a2 L3 L4 L5 L6 L7 y3_0 y3_1

noncomputable def Zdi (L0 L1 : List Int) (a2 : Int) (L3 : List RA) (L4 : List Int) (L5 : List R_is) (L6 : List (List Int)) (L7 : List R_si) (y3_0 : Int) (y3_1 : Bool) : List (Bool × Bool) := (Za4 (Z8 1 (List.drop (0 + (1 * 1)) (Zb Zr (wds L0)))) (wsl L0 1), true) :: (Nat.blt 1 (wds L0).length, true) :: ((1 : Int) == Int.ofNat 1, true) :: ((decide ((L3.length : Int) ≥ (512 : Int))), false) :: (((((wds L0).length : Nat) : Int) != (4 : Int)), false) :: ZbS L0 L1 a2 L3 L4 L5 L6 L7 y3_0 y3_1

noncomputable def Zdj (L0 L1 : List Int) (a2 : Int) (L3 : List RA) (L4 : List Int) (L5 : List R_is) (L6 : List (List Int)) (L7 : List R_si) (y3_0 : Int) (y3_1 : Bool) : List (Bool × Bool) := (Za4 (Z8 1 (List.drop (0 + (2 * 1)) (Zb Zr (wds L0)))) (wsl L0 2), true) :: (Nat.blt 2 (wds L0).length, true) :: ((2 : Int) == Int.ofNat 2, true) :: (dP (ZS #[vp 0 0, Value.int .i32 (114 : Int), Value.string (Za (wd L0 1))] ((wd L0 1)) L1 a2 L3 L4 L5 L6 L7   0 1 2 3 4 5 9), true) :: (dS (rdc L1 a2 L3 L4 L5 L6), true) :: (dS (Zb Zd L3), true) :: (dS (Zb eI L4), true) :: (dS (Zb Zt L5), true) :: (dS (Zb Zr L6), true) :: (dS (Zk L7), true) :: Zdi L0 L1 a2 L3 L4 L5 L6 L7 y3_0 y3_1

noncomputable def Zdk (L0 L1 : List Int) (a2 : Int) (L3 : List RA) (L4 : List Int) (L5 : List R_is) (L6 : List (List Int)) (L7 : List R_si) (y3_0 : Int) (y3_1 : Bool) : List (Bool × Bool) := (Za4 (Z8 1 (List.drop (0 + (3 * 1)) (Zb Zr (wds L0)))) (wsl L0 3), true) :: (Nat.blt 3 (wds L0).length, true) :: ((3 : Int) == Int.ofNat 3, true) :: (dP (Zbl #[vp 0 0, Value.int .i32 (35 : Int), Value.string (Za (wd L0 2))] ((wd L0 2)) L1 a2 L3 L4 L5 L6 L7   0 1 2 3 4 5 9), true) :: (dS (rdc L1 a2 L3 L4 L5 L6), true) :: (dS (Zb Zd L3), true) :: (dS (Zb eI L4), true) :: (dS (Zb Zt L5), true) :: (dS (Zb Zr L6), true) :: (dS (Zk L7), true) :: Zdj L0 L1 a2 L3 L4 L5 L6 L7 y3_0 y3_1

noncomputable def ZbT (L0 L1 : List Int) (a2 : Int) (L3 : List RA) (L4 : List Int) (L5 : List R_is) (L6 : List (List Int)) (L7 : List R_si) (y3_0 : Int) (y3_1 : Bool) : List (Bool × Bool) := ((!y3_1), false) :: (dP (ZhQ #[vi y3_0] (y3_0)    7), true) :: ZI L0 L1 a2 L3 L4 L5 L6 L7 y3_0 y3_1

noncomputable def Zbh (L0 L1 : List Int) (a2 : Int) (L3 : List RA) (L4 : List Int) (L5 : List R_is) (L6 : List (List Int)) (L7 : List R_si) (y3_0 : Int) (y3_1 : Bool) : List (Bool × Bool) := (dP (ZkT #[vi y3_0] (y3_0)    7), true) :: ZI L0 L1 a2 L3 L4 L5 L6 L7 y3_0 y3_1

noncomputable def Zdl (L0 L1 : List Int) (a2 : Int) (L3 : List RA) (L4 : List Int) (L5 : List R_is) (L6 : List (List Int)) (L7 : List R_si) (y3_0 : Int) (y3_1 : Bool) : List (Bool × Bool) := (Za4 (Z8 1 (List.drop (0 + (1 * 1)) (Zb Zr (wds L0)))) (wsl L0 1), true) :: (Nat.blt 1 (wds L0).length, true) :: ((1 : Int) == Int.ofNat 1, true) :: ((decide ((L3.length : Int) ≥ (512 : Int))), false) :: (((((wds L0).length : Nat) : Int) != (2 : Int)), false) :: ((!y3_1), false) :: Zbh L0 L1 a2 L3 L4 L5 L6 L7 y3_0 y3_1

noncomputable def ZbU (L0 L1 : List Int) (a2 : Int) (L3 : List RA) (L4 : List Int) (L5 : List R_is) (L6 : List (List Int)) (L7 : List R_si) (y3_0 : Int) (y3_1 : Bool) : List (Bool × Bool) := (dP (ZkU #[vi y3_0] (y3_0)    7), true) :: ZI L0 L1 a2 L3 L4 L5 L6 L7 y3_0 y3_1

noncomputable def Zdm (L0 L1 : List Int) (a2 : Int) (L3 : List RA) (L4 : List Int) (L5 : List R_is) (L6 : List (List Int)) (L7 : List R_si) (y3_0 : Int) (y3_1 : Bool) : List (Bool × Bool) := (((((wds L0).length : Nat) : Int) != (3 : Int)), false) :: ((!y3_1), false) :: ZbU L0 L1 a2 L3 L4 L5 L6 L7 y3_0 y3_1

noncomputable def Zdn (L0 L1 : List Int) (a2 : Int) (L3 : List RA) (L4 : List Int) (L5 : List R_is) (L6 : List (List Int)) (L7 : List R_si) (y3_0 : Int) (y3_1 : Bool) : List (Bool × Bool) := (Za4 (Z8 1 (List.drop (0 + (1 * 1)) (Zb Zr (wds L0)))) (wsl L0 1), true) :: (Nat.blt 1 (wds L0).length, true) :: ((1 : Int) == Int.ofNat 1, true) :: ((decide ((L3.length : Int) ≥ (512 : Int))), false) :: Zdm L0 L1 a2 L3 L4 L5 L6 L7 y3_0 y3_1

noncomputable def Zdo (L0 L1 : List Int) (a2 : Int) (L3 : List RA) (L4 : List Int) (L5 : List R_is) (L6 : List (List Int)) (L7 : List R_si) (y3_0 : Int) (y3_1 : Bool) : List (Bool × Bool) := (Za4 (Z8 1 (List.drop (0 + (2 * 1)) (Zb Zr (wds L0)))) (wsl L0 2), true) :: (Nat.blt 2 (wds L0).length, true) :: ((2 : Int) == Int.ofNat 2, true) :: (dP (ZS #[vp 0 0, Value.int .i32 (114 : Int), Value.string (Za (wd L0 1))] ((wd L0 1)) L1 a2 L3 L4 L5 L6 L7   0 1 2 3 4 5 9), true) :: (dS (rdc L1 a2 L3 L4 L5 L6), true) :: (dS (Zb Zd L3), true) :: (dS (Zb eI L4), true) :: (dS (Zb Zt L5), true) :: (dS (Zb Zr L6), true) :: (dS (Zk L7), true) :: Zdn L0 L1 a2 L3 L4 L5 L6 L7 y3_0 y3_1

noncomputable def Zdp (L0 L1 : List Int) (a2 : Int) (L3 : List RA) (L4 : List Int) (L5 : List R_is) (L6 : List (List Int)) (L7 : List R_si) (y3_0 : Int) (y3_1 : Bool) : List (Bool × Bool) := (dP (ZkV #[vi y3_0] (y3_0)    7), true) :: ZI L0 L1 a2 L3 L4 L5 L6 L7 y3_0 y3_1

noncomputable def ZbV (L0 L1 : List Int) (a2 : Int) (L3 : List RA) (L4 : List Int) (L5 : List R_is) (L6 : List (List Int)) (L7 : List R_si) (y3_0 : Int) (y3_1 : Bool) : List (Bool × Bool) := ((!y3_1), false) :: Zdp L0 L1 a2 L3 L4 L5 L6 L7 y3_0 y3_1

noncomputable def Zdq (L0 L1 : List Int) (a2 : Int) (L3 : List RA) (L4 : List Int) (L5 : List R_is) (L6 : List (List Int)) (L7 : List R_si) (y3_0 : Int) (y3_1 : Bool) : List (Bool × Bool) := (Za4 (Z8 1 (List.drop (0 + (1 * 1)) (Zb Zr (wds L0)))) (wsl L0 1), true) :: (Nat.blt 1 (wds L0).length, true) :: ((1 : Int) == Int.ofNat 1, true) :: ((decide ((L3.length : Int) ≥ (512 : Int))), false) :: (((((wds L0).length : Nat) : Int) != (4 : Int)), false) :: ZbV L0 L1 a2 L3 L4 L5 L6 L7 y3_0 y3_1

noncomputable def Zdr (L0 L1 : List Int) (a2 : Int) (L3 : List RA) (L4 : List Int) (L5 : List R_is) (L6 : List (List Int)) (L7 : List R_si) (y3_0 : Int) (y3_1 : Bool) : List (Bool × Bool) := (Za4 (Z8 1 (List.drop (0 + (2 * 1)) (Zb Zr (wds L0)))) (wsl L0 2), true) :: (Nat.blt 2 (wds L0).length, true) :: ((2 : Int) == Int.ofNat 2, true) :: (dP (ZS #[vp 0 0, Value.int .i32 (114 : Int), Value.string (Za (wd L0 1))] ((wd L0 1)) L1 a2 L3 L4 L5 L6 L7   0 1 2 3 4 5 9), true) :: (dS (rdc L1 a2 L3 L4 L5 L6), true) :: (dS (Zb Zd L3), true) :: (dS (Zb eI L4), true) :: (dS (Zb Zt L5), true) :: (dS (Zb Zr L6), true) :: (dS (Zk L7), true) :: Zdq L0 L1 a2 L3 L4 L5 L6 L7 y3_0 y3_1

noncomputable def Zds (L0 L1 : List Int) (a2 : Int) (L3 : List RA) (L4 : List Int) (L5 : List R_is) (L6 : List (List Int)) (L7 : List R_si) (y3_0 : Int) (y3_1 : Bool) : List (Bool × Bool) := (Za4 (Z8 1 (List.drop (0 + (3 * 1)) (Zb Zr (wds L0)))) (wsl L0 3), true) :: (Nat.blt 3 (wds L0).length, true) :: ((3 : Int) == Int.ofNat 3, true) :: (dP (ZS #[vp 0 0, Value.int .i32 (114 : Int), Value.string (Za (wd L0 2))] ((wd L0 2)) L1 a2 L3 L4 L5 L6 L7   0 1 2 3 4 5 9), true) :: (dS (rdc L1 a2 L3 L4 L5 L6), true) :: (dS (Zb Zd L3), true) :: (dS (Zb eI L4), true) :: (dS (Zb Zt L5), true) :: (dS (Zb Zr L6), true) :: (dS (Zk L7), true) :: Zdr L0 L1 a2 L3 L4 L5 L6 L7 y3_0 y3_1

end Ev
end Go.Proofs.YtlbbiflodemagaaDoor
/- Calls do what the plain functions say. -/
namespace Go.Proofs.YtlbbiflodemagaaDoor
open Go.RowKit
namespace Ev
set_option linter.unusedVariables false
set_option maxRecDepth 100000
set_option maxHeartbeats 4000000 in
theorem Zjb (L0 L1 : List Int) (a2 : Int) (L3 : List RA) (L4 : List Int) (L5 : List R_is) (L6 : List (List Int)) (L7 : List R_si) (N : Nat) : Gx Tryd.prog 51 (rpr L1 a2 L3 L4 L5 L6 L7) #[vp 0 0, Value.string (Za L0)] (ZdR L0 L1 a2 L3 L4 L5 L6 L7) (ZdH L0 L1 a2 L3 L4 L5 L6 L7) (Zaw L0 L1 a2 L3 L4 L5 L6 L7 N) := by
 unfold Zaw
 refine Zh (fun g0 => ?_) (fun _ => ZbI)
 refine Zh (fun g1 => ?_) (fun _ => ZbI)
 have w2 : OkL (Zfz L0 L1 a2 L3 L4 L5 L6 L7) :=
  Zc (Zp ⟨rfl, by assumption, ltA⟩) <| Z9
 refine Zh (fun g2 => ?_) (fun _ => ZbI)
 have w3 : OkL (Zf0 L0 L1 a2 L3 L4 L5 L6 L7) :=
  Zc (ZbK 0 ltA) <| oL <| oI <| w2
 refine ZaQ (fun z3 c3 => ?_)
 cases z3 with
 | r0 y3_0 y3_1 =>
  have w4 : OkL (ZI L0 L1 a2 L3 L4 L5 L6 L7 y3_0 y3_1) :=
   Zc (Zp (ZpM #[Value.string (Za (wd L0 0))] ((wd L0 0))  y3_0 y3_1 N c3  7 rfl dcd dcd)) <| w3
  refine ZaQ (fun z4 c4 => ?_)
  cases z4 with
  | r0 =>
   have w5 : OkL (Zcn L0 L1 a2 L3 L4 L5 L6 L7 y3_0 y3_1) :=
    Zc (Zp (ZpN #[vi y3_0] (y3_0)   N c4  7 rfl dcd dcd)) <| w4
   refine Zh (fun g5 => ?_) (fun g5 => ?_)
   ·
    exact Zi (Z2 [o1] [] [(0, 0)] [(0, (wsl L0 0))] [(0, .bs L0), (1, (Zq ((wd L0 0))  y3_0 y3_1  7)), (2, (Zd9 (y3_0)    7))]) (((!y3_1), true) :: Zcn L0 L1 a2 L3 L4 L5 L6 L7 y3_0 y3_1) (Zc nBt <| w5)
   ·
    refine Zh (fun g6 => ?_) (fun g6 => ?_)
    ·
     exact Zi (Z2 [o0, o1] [] [(0, 0)] [(0, (wsl L0 0))] [(0, .bs L0), (1, (Zq ((wd L0 0))  y3_0 y3_1  7)), (2, (Zd9 (y3_0)    7))]) ((((((wds L0).length : Nat) : Int) != (3 : Int)), true) :: ((!y3_1), false) :: Zcn L0 L1 a2 L3 L4 L5 L6 L7 y3_0 y3_1) (oD <| Zc nBf <| w5)
    ·
     have w7 : OkL (Zdw L0 L1 a2 L3 L4 L5 L6 L7 y3_0 y3_1) :=
      oE <| Zc nBf <| w5
     refine Zh (fun g7 => ?_) (fun g7 => ?_)
     ·
      exact Zi (Z2 [o0, o0, o1] [] [(0, 0)] [(0, (wsl L0 0))] [(0, .bs L0), (1, (Zq ((wd L0 0))  y3_0 y3_1  7)), (2, (Zd9 (y3_0)    7))]) (((decide ((L3.length : Int) ≥ (512 : Int))), true) :: Zdw L0 L1 a2 L3 L4 L5 L6 L7 y3_0 y3_1) (oY <| w7)
     ·
      have w8 : OkL (Zdx L0 L1 a2 L3 L4 L5 L6 L7 y3_0 y3_1) :=
       Zc (ZbK 1 ltA) <| oL <| oI <| oN <| w7
      refine ZaQ (fun z8 c8 => ?_)
      cases z8 with
      | r0 =>
       have w9 : OkL (Zdy L0 L1 a2 L3 L4 L5 L6 L7 y3_0 y3_1) :=
        Zc (ZbK 2 ltA) <| oL <| oI <| Zc (Zp (Zac #[vp 0 0, Value.int .i32 (114 : Int), Value.string (Za (wd L0 1))] ((wd L0 1)) L1 a2 L3 L4 L5 L6 L7   N c8 0 1 2 3 4 5 9 rfl dcd dcd)) <| oR <| oR <| oR <| oR <| oR <| oR <| w8
       refine ZaQ (fun z9 c9 => ?_)
       cases z9 with
       | r0 =>
        refine Zh (fun g10 => ?_) (fun _ => ZbI)
        exact Zc4 ZN (fu := 4000) (orc := (Z2 [o0, o0, o0] [] [(0, 0), (1, 1), (3, 2)] [(0, (wsl L0 0)), (2, (wsl L0 1)), (3, (wsl L0 2))] [(0, .bs L0), (1, (Zq ((wd L0 0))  y3_0 y3_1  7)), (2, (Zd9 (y3_0)    7)), (3, (Z3 ((wd L0 1)) L1 a2 L3 L4 L5 L6 L7   0 1 2 3 4 5 9)), (5, (ZaP ((wd L0 2)) L1 a2 L3 L4 L5 L6 L7   0 1 2 3 4 5 9)), (7, .ap 1 [vi y3_0, vi ((bAt (wd L0 1) 1) - (48 : Int)), vi (ZP (wd L0 2)), vq] (Zb Zd (L3 ++ ([(⟨y3_0, ((bAt (wd L0 1) 1) - (48 : Int)), (ZP (wd L0 2)), (0 : Int)⟩ : RA)] : List RA)))), (9, .ap 1 [vi a2] (Zb eI (L4 ++ ([a2] : List Int))))])) (live := [0, 1, 2, 3, 4, 5, 10, 12]) (u := vtt) (bl := [some (.cells [Value.string (Za L1), vi a2, vs 10 0 (L3.length + 1) (L3.length + 1), vs 12 0 (L4.length + 1) (L4.length + 1), vs 3 0 L5.length L5.length, vs 4 0 L6.length L6.length, Value.map (some 5)] 57), none, none, some (.cells (Zb Zt L5) 122 true), some (.cells (Zb Zr L6) 9 true), some (.ro (Zk L7) true), some (.cells (Zb Zd (L3 ++ ([(⟨y3_0, ((bAt (wd L0 1) 1) - (48 : Int)), (ZP (wd L0 2)), (0 : Int)⟩ : RA)] : List RA))) 24), some (.cells (Zb eI (L4 ++ ([a2] : List Int))) 3)]) (ob := ((dP ((1 = 1 ∧ Z8 (1 * 1) (List.drop 0 [vi a2]) = some [vi a2] ∧ Z4 Za3 [vi a2] = true) ∧ 0 < 1 ∧ 1 ≤ 100000 ∧ L4.length < L4.length + 1 ∧ L4.length ≤ 100000 ∧ L4.length * 1 ≤ (List.length (Zb eI L4)) ∧ List.take (L4.length * 1) (Zb eI L4) ++ [vi a2] = (Zb eI (L4 ++ ([a2] : List Int)))), true) :: (dP ((1 = 1 ∧ Z8 (1 * 4) (List.drop 0 [vi y3_0, vi ((bAt (wd L0 1) 1) - (48 : Int)), vi (ZP (wd L0 2)), vq]) = some [vi y3_0, vi ((bAt (wd L0 1) 1) - (48 : Int)), vi (ZP (wd L0 2)), vq] ∧ Z4 Za3 [vi y3_0, vi ((bAt (wd L0 1) 1) - (48 : Int)), vi (ZP (wd L0 2)), vq] = true) ∧ 0 < 1 ∧ 1 ≤ 100000 ∧ L3.length < L3.length + 1 ∧ L3.length ≤ 100000 ∧ L3.length * 4 ≤ (List.length (Zb Zd L3)) ∧ List.take (L3.length * 4) (Zb Zd L3) ++ [vi y3_0, vi ((bAt (wd L0 1) 1) - (48 : Int)), vi (ZP (wd L0 2)), vq] = (Zb Zd (L3 ++ ([(⟨y3_0, ((bAt (wd L0 1) 1) - (48 : Int)), (ZP (wd L0 2)), (0 : Int)⟩ : RA)] : List RA)))), true) :: (dP (Zbl #[vp 0 0, Value.int .i32 (35 : Int), Value.string (Za (wd L0 2))] ((wd L0 2)) L1 a2 L3 L4 L5 L6 L7   0 1 2 3 4 5 9), true) :: (dS (rdc L1 a2 L3 L4 L5 L6), true) :: (dS (Zb Zd L3), true) :: (dS (Zb eI L4), true) :: (dS (Zb Zt L5), true) :: (dS (Zb Zr L6), true) :: (dS (Zk L7), true) :: Zdy L0 L1 a2 L3 L4 L5 L6 L7 y3_0 y3_1)) (by as_aux_lemma => kernel_rfl) (Zc (Zp ⟨⟨rfl, ⟨rfl, rfl⟩⟩, by omega, by omega, ltA, by omega, (ZaI (E := eI) (L := L4) (M := ([a2] : List Int)) (n := L4.length) (show _ = _ * 1 from rfl) (by omega) (R := (L4 ++ ([a2] : List Int))) (by rw [List.take_of_length_le (by omega)]))⟩) <| Zc (Zp ⟨⟨rfl, ⟨rfl, rfl⟩⟩, by omega, by omega, ltA, by omega, (ZaI (E := Zd) (L := L3) (M := ([(⟨y3_0, ((bAt (wd L0 1) 1) - (48 : Int)), (ZP (wd L0 2)), (0 : Int)⟩ : RA)] : List RA)) (n := L3.length) (show _ = _ * 4 from rfl) (by omega) (R := (L3 ++ ([(⟨y3_0, ((bAt (wd L0 1) 1) - (48 : Int)), (ZP (wd L0 2)), (0 : Int)⟩ : RA)] : List RA))) (by rw [List.take_of_length_le (by omega)]))⟩) <| Zc (Zp (ZbL #[vp 0 0, Value.int .i32 (35 : Int), Value.string (Za (wd L0 2))] ((wd L0 2)) L1 a2 L3 L4 L5 L6 L7   N c9 0 1 2 3 4 5 9 rfl dcd dcd)) <| oR <| oR <| oR <| oR <| oR <| oR <| w9) rfl (by decide) (by rfl) rr ⟨⟨rfl, ⟨[], (show ([Value.string (Za L1), vi a2, vs 6 0 (L3.length + 1) (L3.length + 1), vs 7 0 (L4.length + 1) (L4.length + 1), vs 3 0 L5.length L5.length, vs 4 0 L6.length L6.length, Value.map (some 5)] : List Value) = _ from (Ze rfl (Ze rfl (Ze (Zah rfl eqA eqA) (Ze rfl (Ze rfl (Ze rfl (Ze rfl rfl))))))).symm)⟩, by rfl⟩, ⟨(Zl (E := Zt) (α := R_is) _ L5 _), ⟨(Zl (E := Zr) (α := List Int) _ L6 _), ⟨(show Zk L7 = Zk L7 from rfl), ⟨(ZW (E := Zd) (α := RA) _ (L3 ++ ([(⟨y3_0, ((bAt (wd L0 1) 1) - (48 : Int)), (ZP (wd L0 2)), (0 : Int)⟩ : RA)] : List RA)) _), ⟨(ZW (E := eI) (α := Int) _ (L4 ++ ([a2] : List Int)) _), trivial⟩⟩⟩⟩⟩⟩ (Zaq _ rfl)
       | r1 =>
        exact Zi (Z2 [o0, o0, o0] [] [(0, 0), (1, 1), (3, 2)] [(0, (wsl L0 0)), (2, (wsl L0 1)), (3, (wsl L0 2))] [(0, .bs L0), (1, (Zq ((wd L0 0))  y3_0 y3_1  7)), (2, (Zd9 (y3_0)    7)), (3, (Z3 ((wd L0 1)) L1 a2 L3 L4 L5 L6 L7   0 1 2 3 4 5 9)), (5, (ZbM ((wd L0 2)) L1 a2 L3 L4 L5 L6 L7   0 1 2 3 4 5 9))]) ((dP (Zbm #[vp 0 0, Value.int .i32 (35 : Int), Value.string (Za (wd L0 2))] ((wd L0 2)) L1 a2 L3 L4 L5 L6 L7   0 1 2 3 4 5 9), true) :: (dS (rdc L1 a2 L3 L4 L5 L6), true) :: (dS (Zb Zd L3), true) :: (dS (Zb eI L4), true) :: (dS (Zb Zt L5), true) :: (dS (Zb Zr L6), true) :: (dS (Zk L7), true) :: Zdy L0 L1 a2 L3 L4 L5 L6 L7 y3_0 y3_1) (Zc (Zp (ZbN #[vp 0 0, Value.int .i32 (35 : Int), Value.string (Za (wd L0 2))] ((wd L0 2)) L1 a2 L3 L4 L5 L6 L7   N c9 0 1 2 3 4 5 9 rfl dcd dcd)) <| oR <| oR <| oR <| oR <| oR <| oR <| w9)
      | r1 =>
       exact Zi (Z2 [o0, o0, o0] [] [(0, 0), (1, 1)] [(0, (wsl L0 0)), (2, (wsl L0 1))] [(0, .bs L0), (1, (Zq ((wd L0 0))  y3_0 y3_1  7)), (2, (Zd9 (y3_0)    7)), (3, (Zad ((wd L0 1)) L1 a2 L3 L4 L5 L6 L7   0 1 2 3 4 5 9))]) ((dP (ZT #[vp 0 0, Value.int .i32 (114 : Int), Value.string (Za (wd L0 1))] ((wd L0 1)) L1 a2 L3 L4 L5 L6 L7   0 1 2 3 4 5 9), true) :: (dS (rdc L1 a2 L3 L4 L5 L6), true) :: (dS (Zb Zd L3), true) :: (dS (Zb eI L4), true) :: (dS (Zb Zt L5), true) :: (dS (Zb Zr L6), true) :: (dS (Zk L7), true) :: Zdx L0 L1 a2 L3 L4 L5 L6 L7 y3_0 y3_1) (Zc (Zp (Zae #[vp 0 0, Value.int .i32 (114 : Int), Value.string (Za (wd L0 1))] ((wd L0 1)) L1 a2 L3 L4 L5 L6 L7   N c8 0 1 2 3 4 5 9 rfl dcd dcd)) <| oR <| oR <| oR <| oR <| oR <| oR <| w8)
  | r1 =>
   have w5 : OkL (Zbt L0 L1 a2 L3 L4 L5 L6 L7 y3_0 y3_1) :=
    Zc (Zp (ZpO #[vi y3_0] (y3_0)   N c4  7 rfl dcd dcd)) <| w4
   refine Zh (fun g5 => ?_) (fun g5 => ?_)
   ·
    exact Zi (Z2 [o1] [] [(0, 0)] [(0, (wsl L0 0))] [(0, .bs L0), (1, (Zq ((wd L0 0))  y3_0 y3_1  7)), (2, (Ze9 (y3_0)    7))]) (((!y3_1), true) :: Zbt L0 L1 a2 L3 L4 L5 L6 L7 y3_0 y3_1) (Zc nBt <| w5)
   ·
    refine Zh (fun g6 => ?_) (fun g6 => ?_)
    ·
     exact Zi (Z2 [o0, o1] [] [(0, 0)] [(0, (wsl L0 0))] [(0, .bs L0), (1, (Zq ((wd L0 0))  y3_0 y3_1  7)), (2, (Ze9 (y3_0)    7))]) ((((((wds L0).length : Nat) : Int) != (2 : Int)), true) :: ((!y3_1), false) :: Zbt L0 L1 a2 L3 L4 L5 L6 L7 y3_0 y3_1) (oD <| Zc nBf <| w5)
    ·
     refine Zh (fun g7 => ?_) (fun g7 => ?_)
     ·
      exact Zi (Z2 [o0, o0, o1] [] [(0, 0)] [(0, (wsl L0 0))] [(0, .bs L0), (1, (Zq ((wd L0 0))  y3_0 y3_1  7)), (2, (Ze9 (y3_0)    7))]) (((decide ((L3.length : Int) ≥ (512 : Int))), true) :: (((((wds L0).length : Nat) : Int) != (2 : Int)), false) :: ((!y3_1), false) :: Zbt L0 L1 a2 L3 L4 L5 L6 L7 y3_0 y3_1) (oY <| oE <| Zc nBf <| w5)
     ·
      have w8 : OkL (Zdz L0 L1 a2 L3 L4 L5 L6 L7 y3_0 y3_1) :=
       Zc (ZbK 1 ltA) <| oL <| oI <| oN <| oE <| Zc nBf <| w5
      refine ZaQ (fun z8 c8 => ?_)
      cases z8 with
      | r0 =>
       refine Zh (fun g9 => ?_) (fun _ => ZbI)
       exact Zc4 ZN (fu := 4000) (orc := (Z2 [o0, o0, o0] [] [(0, 0), (1, 1)] [(0, (wsl L0 0)), (2, (wsl L0 1))] [(0, .bs L0), (1, (Zq ((wd L0 0))  y3_0 y3_1  7)), (2, (Ze9 (y3_0)    7)), (3, (Zg3 ((wd L0 1)) L1 a2 L3 L4 L5 L6 L7   0 1 2 3 4 5 9)), (5, .ap 1 [vi y3_0, vq, vq, vq] (Zb Zd (L3 ++ ([(⟨y3_0, (0 : Int), (0 : Int), (0 : Int)⟩ : RA)] : List RA)))), (7, .ap 1 [vi a2] (Zb eI (L4 ++ ([a2] : List Int))))])) (live := [0, 1, 2, 3, 4, 5, 11, 13, 9]) (u := vtt) (bl := [some (.cells [Value.string (Za L1), vi a2, vs 11 0 (L3.length + 1) (L3.length + 1), vs 13 0 (L4.length + 1) (L4.length + 1), vs 9 0 (L5.length + 1) (L5.length + 1), vs 4 0 L6.length L6.length, Value.map (some 5)] 57), none, none, none, some (.cells (Zb Zr L6) 9 true), some (.ro (Zk L7) true), some (.cells (Zb Zd (L3 ++ ([(⟨y3_0, (0 : Int), (0 : Int), (0 : Int)⟩ : RA)] : List RA))) 24), some (.cells (Zb eI (L4 ++ ([a2] : List Int))) 3), some (.cells (Zb Zt (L5 ++ ([(⟨(L3.length : Int), ((wd L0 1).drop 1)⟩ : R_is)] : List R_is))) 122)]) (ob := ((dP ((1 = 1 ∧ Z8 (1 * 1) (List.drop 0 [vi a2]) = some [vi a2] ∧ Z4 Za3 [vi a2] = true) ∧ 0 < 1 ∧ 1 ≤ 100000 ∧ L4.length < L4.length + 1 ∧ L4.length ≤ 100000 ∧ L4.length * 1 ≤ (List.length (Zb eI L4)) ∧ List.take (L4.length * 1) (Zb eI L4) ++ [vi a2] = (Zb eI (L4 ++ ([a2] : List Int)))), true) :: (dP ((1 = 1 ∧ Z8 (1 * 4) (List.drop 0 [vi y3_0, vq, vq, vq]) = some [vi y3_0, vq, vq, vq] ∧ Z4 Za3 [vi y3_0, vq, vq, vq] = true) ∧ 0 < 1 ∧ 1 ≤ 100000 ∧ L3.length < L3.length + 1 ∧ L3.length ≤ 100000 ∧ L3.length * 4 ≤ (List.length (Zb Zd L3)) ∧ List.take (L3.length * 4) (Zb Zd L3) ++ [vi y3_0, vq, vq, vq] = (Zb Zd (L3 ++ ([(⟨y3_0, (0 : Int), (0 : Int), (0 : Int)⟩ : RA)] : List RA)))), true) :: (dP (Zen #[vp 0 0, Value.int .i32 (64 : Int), Value.string (Za (wd L0 1))] ((wd L0 1)) L1 a2 L3 L4 L5 L6 L7   0 1 2 3 4 5 9), true) :: (dS (rdc L1 a2 L3 L4 L5 L6), true) :: (dS (Zb Zd L3), true) :: (dS (Zb eI L4), true) :: (dS (Zb Zt L5), true) :: (dS (Zb Zr L6), true) :: (dS (Zk L7), true) :: Zdz L0 L1 a2 L3 L4 L5 L6 L7 y3_0 y3_1)) (by as_aux_lemma => kernel_rfl) (Zc (Zp ⟨⟨rfl, ⟨rfl, rfl⟩⟩, by omega, by omega, ltA, by omega, (ZaI (E := eI) (L := L4) (M := ([a2] : List Int)) (n := L4.length) (show _ = _ * 1 from rfl) (by omega) (R := (L4 ++ ([a2] : List Int))) (by rw [List.take_of_length_le (by omega)]))⟩) <| Zc (Zp ⟨⟨rfl, ⟨rfl, rfl⟩⟩, by omega, by omega, ltA, by omega, (ZaI (E := Zd) (L := L3) (M := ([(⟨y3_0, (0 : Int), (0 : Int), (0 : Int)⟩ : RA)] : List RA)) (n := L3.length) (show _ = _ * 4 from rfl) (by omega) (R := (L3 ++ ([(⟨y3_0, (0 : Int), (0 : Int), (0 : Int)⟩ : RA)] : List RA))) (by rw [List.take_of_length_le (by omega)]))⟩) <| Zc (Zp (Zg4 #[vp 0 0, Value.int .i32 (64 : Int), Value.string (Za (wd L0 1))] ((wd L0 1)) L1 a2 L3 L4 L5 L6 L7   N c8 0 1 2 3 4 5 9 rfl dcd dcd)) <| oR <| oR <| oR <| oR <| oR <| oR <| w8) rfl (by decide) (by rfl) rr ⟨⟨rfl, ⟨[], (show ([Value.string (Za L1), vi a2, vs 6 0 (L3.length + 1) (L3.length + 1), vs 7 0 (L4.length + 1) (L4.length + 1), vs 8 0 (L5.length + 1) (L5.length + 1), vs 4 0 L6.length L6.length, Value.map (some 5)] : List Value) = _ from (Ze rfl (Ze rfl (Ze (Zah rfl eqA eqA) (Ze rfl (Ze (Zah rfl eqA eqA) (Ze rfl (Ze rfl rfl))))))).symm)⟩, by rfl⟩, ⟨(Zl (E := Zr) (α := List Int) _ L6 _), ⟨(show Zk L7 = Zk L7 from rfl), ⟨(ZW (E := Zd) (α := RA) _ (L3 ++ ([(⟨y3_0, (0 : Int), (0 : Int), (0 : Int)⟩ : RA)] : List RA)) _), ⟨(ZW (E := eI) (α := Int) _ (L4 ++ ([a2] : List Int)) _), ⟨(ZW (E := Zt) (α := R_is) _ (L5 ++ ([(⟨(L3.length : Int), ((wd L0 1).drop 1)⟩ : R_is)] : List R_is)) _), trivial⟩⟩⟩⟩⟩⟩ (Zaq _ rfl)
      | r1 =>
       exact Zi (Z2 [o0, o0, o0] [] [(0, 0), (1, 1)] [(0, (wsl L0 0)), (2, (wsl L0 1))] [(0, .bs L0), (1, (Zq ((wd L0 0))  y3_0 y3_1  7)), (2, (Ze9 (y3_0)    7)), (3, (Zg5 ((wd L0 1)) L1 a2 L3 L4 L5 L6 L7   0 1 2 3 4 5 9))]) ((dP (Zeo #[vp 0 0, Value.int .i32 (64 : Int), Value.string (Za (wd L0 1))] ((wd L0 1)) L1 a2 L3 L4 L5 L6 L7   0 1 2 3 4 5 9), true) :: (dS (rdc L1 a2 L3 L4 L5 L6), true) :: (dS (Zb Zd L3), true) :: (dS (Zb eI L4), true) :: (dS (Zb Zt L5), true) :: (dS (Zb Zr L6), true) :: (dS (Zk L7), true) :: Zdz L0 L1 a2 L3 L4 L5 L6 L7 y3_0 y3_1) (Zc (Zp (Zg6 #[vp 0 0, Value.int .i32 (64 : Int), Value.string (Za (wd L0 1))] ((wd L0 1)) L1 a2 L3 L4 L5 L6 L7   N c8 0 1 2 3 4 5 9 rfl dcd dcd)) <| oR <| oR <| oR <| oR <| oR <| oR <| w8)
  | r2 =>
   have w5 : OkL (Zco L0 L1 a2 L3 L4 L5 L6 L7 y3_0 y3_1) :=
    Zc (Zp (ZpP #[vi y3_0] (y3_0)   N c4  7 rfl dcd dcd)) <| w4
   refine Zh (fun g5 => ?_) (fun g5 => ?_)
   ·
    exact Zi (Z2 [o1] [] [(0, 0)] [(0, (wsl L0 0))] [(0, .bs L0), (1, (Zq ((wd L0 0))  y3_0 y3_1  7)), (2, (ZdA (y3_0)    7))]) (((!y3_1), true) :: Zco L0 L1 a2 L3 L4 L5 L6 L7 y3_0 y3_1) (Zc nBt <| w5)
   ·
    refine Zh (fun g6 => ?_) (fun g6 => ?_)
    ·
     exact Zi (Z2 [o0, o1] [] [(0, 0)] [(0, (wsl L0 0))] [(0, .bs L0), (1, (Zq ((wd L0 0))  y3_0 y3_1  7)), (2, (ZdA (y3_0)    7))]) ((((((wds L0).length : Nat) : Int) != (3 : Int)), true) :: ((!y3_1), false) :: Zco L0 L1 a2 L3 L4 L5 L6 L7 y3_0 y3_1) (oD <| Zc nBf <| w5)
    ·
     have w7 : OkL (ZcW L0 L1 a2 L3 L4 L5 L6 L7 y3_0 y3_1) :=
      oE <| Zc nBf <| w5
     refine Zh (fun g7 => ?_) (fun g7 => ?_)
     ·
      exact Zi (Z2 [o0, o0, o1] [] [(0, 0)] [(0, (wsl L0 0))] [(0, .bs L0), (1, (Zq ((wd L0 0))  y3_0 y3_1  7)), (2, (ZdA (y3_0)    7))]) (((decide ((L3.length : Int) ≥ (512 : Int))), true) :: ZcW L0 L1 a2 L3 L4 L5 L6 L7 y3_0 y3_1) (oY <| w7)
     ·
      have w8 : OkL (ZcX L0 L1 a2 L3 L4 L5 L6 L7 y3_0 y3_1) :=
       Zc (ZbK 1 ltA) <| oL <| oI <| oN <| w7
      refine ZaQ (fun z8 c8 => ?_)
      cases z8 with
      | r0 =>
       have w9 : OkL (ZcY L0 L1 a2 L3 L4 L5 L6 L7 y3_0 y3_1) :=
        Zc (ZbK 2 ltA) <| oL <| oI <| Zc (Zp (Zac #[vp 0 0, Value.int .i32 (114 : Int), Value.string (Za (wd L0 1))] ((wd L0 1)) L1 a2 L3 L4 L5 L6 L7   N c8 0 1 2 3 4 5 9 rfl dcd dcd)) <| oR <| oR <| oR <| oR <| oR <| oR <| w8
       refine ZaQ (fun z9 c9 => ?_)
       cases z9 with
       | r0 =>
        refine Zh (fun g10 => ?_) (fun _ => ZbI)
        exact Zc4 ZN (fu := 4000) (orc := (Z2 [o0, o0, o0] [] [(0, 0), (1, 1), (3, 2)] [(0, (wsl L0 0)), (2, (wsl L0 1)), (3, (wsl L0 2))] [(0, .bs L0), (1, (Zq ((wd L0 0))  y3_0 y3_1  7)), (2, (ZdA (y3_0)    7)), (3, (Z3 ((wd L0 1)) L1 a2 L3 L4 L5 L6 L7   0 1 2 3 4 5 9)), (5, (Zg3 ((wd L0 2)) L1 a2 L3 L4 L5 L6 L7   0 1 2 3 4 5 9)), (7, .ap 1 [vi y3_0, vi ((bAt (wd L0 1) 1) - (48 : Int)), vq, vq] (Zb Zd (L3 ++ ([(⟨y3_0, ((bAt (wd L0 1) 1) - (48 : Int)), (0 : Int), (0 : Int)⟩ : RA)] : List RA)))), (9, .ap 1 [vi a2] (Zb eI (L4 ++ ([a2] : List Int))))])) (live := [0, 1, 2, 3, 4, 5, 11, 13, 9]) (u := vtt) (bl := [some (.cells [Value.string (Za L1), vi a2, vs 11 0 (L3.length + 1) (L3.length + 1), vs 13 0 (L4.length + 1) (L4.length + 1), vs 9 0 (L5.length + 1) (L5.length + 1), vs 4 0 L6.length L6.length, Value.map (some 5)] 57), none, none, none, some (.cells (Zb Zr L6) 9 true), some (.ro (Zk L7) true), some (.cells (Zb Zd (L3 ++ ([(⟨y3_0, ((bAt (wd L0 1) 1) - (48 : Int)), (0 : Int), (0 : Int)⟩ : RA)] : List RA))) 24), some (.cells (Zb eI (L4 ++ ([a2] : List Int))) 3), some (.cells (Zb Zt (L5 ++ ([(⟨(L3.length : Int), ((wd L0 2).drop 1)⟩ : R_is)] : List R_is))) 122)]) (ob := ((dP ((1 = 1 ∧ Z8 (1 * 1) (List.drop 0 [vi a2]) = some [vi a2] ∧ Z4 Za3 [vi a2] = true) ∧ 0 < 1 ∧ 1 ≤ 100000 ∧ L4.length < L4.length + 1 ∧ L4.length ≤ 100000 ∧ L4.length * 1 ≤ (List.length (Zb eI L4)) ∧ List.take (L4.length * 1) (Zb eI L4) ++ [vi a2] = (Zb eI (L4 ++ ([a2] : List Int)))), true) :: (dP ((1 = 1 ∧ Z8 (1 * 4) (List.drop 0 [vi y3_0, vi ((bAt (wd L0 1) 1) - (48 : Int)), vq, vq]) = some [vi y3_0, vi ((bAt (wd L0 1) 1) - (48 : Int)), vq, vq] ∧ Z4 Za3 [vi y3_0, vi ((bAt (wd L0 1) 1) - (48 : Int)), vq, vq] = true) ∧ 0 < 1 ∧ 1 ≤ 100000 ∧ L3.length < L3.length + 1 ∧ L3.length ≤ 100000 ∧ L3.length * 4 ≤ (List.length (Zb Zd L3)) ∧ List.take (L3.length * 4) (Zb Zd L3) ++ [vi y3_0, vi ((bAt (wd L0 1) 1) - (48 : Int)), vq, vq] = (Zb Zd (L3 ++ ([(⟨y3_0, ((bAt (wd L0 1) 1) - (48 : Int)), (0 : Int), (0 : Int)⟩ : RA)] : List RA)))), true) :: (dP (Zen #[vp 0 0, Value.int .i32 (64 : Int), Value.string (Za (wd L0 2))] ((wd L0 2)) L1 a2 L3 L4 L5 L6 L7   0 1 2 3 4 5 9), true) :: (dS (rdc L1 a2 L3 L4 L5 L6), true) :: (dS (Zb Zd L3), true) :: (dS (Zb eI L4), true) :: (dS (Zb Zt L5), true) :: (dS (Zb Zr L6), true) :: (dS (Zk L7), true) :: ZcY L0 L1 a2 L3 L4 L5 L6 L7 y3_0 y3_1)) (by as_aux_lemma => kernel_rfl) (Zc (Zp ⟨⟨rfl, ⟨rfl, rfl⟩⟩, by omega, by omega, ltA, by omega, (ZaI (E := eI) (L := L4) (M := ([a2] : List Int)) (n := L4.length) (show _ = _ * 1 from rfl) (by omega) (R := (L4 ++ ([a2] : List Int))) (by rw [List.take_of_length_le (by omega)]))⟩) <| Zc (Zp ⟨⟨rfl, ⟨rfl, rfl⟩⟩, by omega, by omega, ltA, by omega, (ZaI (E := Zd) (L := L3) (M := ([(⟨y3_0, ((bAt (wd L0 1) 1) - (48 : Int)), (0 : Int), (0 : Int)⟩ : RA)] : List RA)) (n := L3.length) (show _ = _ * 4 from rfl) (by omega) (R := (L3 ++ ([(⟨y3_0, ((bAt (wd L0 1) 1) - (48 : Int)), (0 : Int), (0 : Int)⟩ : RA)] : List RA))) (by rw [List.take_of_length_le (by omega)]))⟩) <| Zc (Zp (Zg4 #[vp 0 0, Value.int .i32 (64 : Int), Value.string (Za (wd L0 2))] ((wd L0 2)) L1 a2 L3 L4 L5 L6 L7   N c9 0 1 2 3 4 5 9 rfl dcd dcd)) <| oR <| oR <| oR <| oR <| oR <| oR <| w9) rfl (by decide) (by rfl) rr ⟨⟨rfl, ⟨[], (show ([Value.string (Za L1), vi a2, vs 6 0 (L3.length + 1) (L3.length + 1), vs 7 0 (L4.length + 1) (L4.length + 1), vs 8 0 (L5.length + 1) (L5.length + 1), vs 4 0 L6.length L6.length, Value.map (some 5)] : List Value) = _ from (Ze rfl (Ze rfl (Ze (Zah rfl eqA eqA) (Ze rfl (Ze (Zah rfl eqA eqA) (Ze rfl (Ze rfl rfl))))))).symm)⟩, by rfl⟩, ⟨(Zl (E := Zr) (α := List Int) _ L6 _), ⟨(show Zk L7 = Zk L7 from rfl), ⟨(ZW (E := Zd) (α := RA) _ (L3 ++ ([(⟨y3_0, ((bAt (wd L0 1) 1) - (48 : Int)), (0 : Int), (0 : Int)⟩ : RA)] : List RA)) _), ⟨(ZW (E := eI) (α := Int) _ (L4 ++ ([a2] : List Int)) _), ⟨(ZW (E := Zt) (α := R_is) _ (L5 ++ ([(⟨(L3.length : Int), ((wd L0 2).drop 1)⟩ : R_is)] : List R_is)) _), trivial⟩⟩⟩⟩⟩⟩ (Zaq _ rfl)
       | r1 =>
        exact Zi (Z2 [o0, o0, o0] [] [(0, 0), (1, 1), (3, 2)] [(0, (wsl L0 0)), (2, (wsl L0 1)), (3, (wsl L0 2))] [(0, .bs L0), (1, (Zq ((wd L0 0))  y3_0 y3_1  7)), (2, (ZdA (y3_0)    7)), (3, (Z3 ((wd L0 1)) L1 a2 L3 L4 L5 L6 L7   0 1 2 3 4 5 9)), (5, (Zg5 ((wd L0 2)) L1 a2 L3 L4 L5 L6 L7   0 1 2 3 4 5 9))]) ((dP (Zeo #[vp 0 0, Value.int .i32 (64 : Int), Value.string (Za (wd L0 2))] ((wd L0 2)) L1 a2 L3 L4 L5 L6 L7   0 1 2 3 4 5 9), true) :: (dS (rdc L1 a2 L3 L4 L5 L6), true) :: (dS (Zb Zd L3), true) :: (dS (Zb eI L4), true) :: (dS (Zb Zt L5), true) :: (dS (Zb Zr L6), true) :: (dS (Zk L7), true) :: ZcY L0 L1 a2 L3 L4 L5 L6 L7 y3_0 y3_1) (Zc (Zp (Zg6 #[vp 0 0, Value.int .i32 (64 : Int), Value.string (Za (wd L0 2))] ((wd L0 2)) L1 a2 L3 L4 L5 L6 L7   N c9 0 1 2 3 4 5 9 rfl dcd dcd)) <| oR <| oR <| oR <| oR <| oR <| oR <| w9)
      | r1 =>
       exact Zi (Z2 [o0, o0, o0] [] [(0, 0), (1, 1)] [(0, (wsl L0 0)), (2, (wsl L0 1))] [(0, .bs L0), (1, (Zq ((wd L0 0))  y3_0 y3_1  7)), (2, (ZdA (y3_0)    7)), (3, (Zad ((wd L0 1)) L1 a2 L3 L4 L5 L6 L7   0 1 2 3 4 5 9))]) ((dP (ZT #[vp 0 0, Value.int .i32 (114 : Int), Value.string (Za (wd L0 1))] ((wd L0 1)) L1 a2 L3 L4 L5 L6 L7   0 1 2 3 4 5 9), true) :: (dS (rdc L1 a2 L3 L4 L5 L6), true) :: (dS (Zb Zd L3), true) :: (dS (Zb eI L4), true) :: (dS (Zb Zt L5), true) :: (dS (Zb Zr L6), true) :: (dS (Zk L7), true) :: ZcX L0 L1 a2 L3 L4 L5 L6 L7 y3_0 y3_1) (Zc (Zp (Zae #[vp 0 0, Value.int .i32 (114 : Int), Value.string (Za (wd L0 1))] ((wd L0 1)) L1 a2 L3 L4 L5 L6 L7   N c8 0 1 2 3 4 5 9 rfl dcd dcd)) <| oR <| oR <| oR <| oR <| oR <| oR <| w8)
  | r3 =>
   have w5 : OkL (ZcZ L0 L1 a2 L3 L4 L5 L6 L7 y3_0 y3_1) :=
    Zc (Zp (ZpQ #[vi y3_0] (y3_0)   N c4  7 rfl dcd dcd)) <| w4
   refine Zh (fun g5 => ?_) (fun g5 => ?_)
   ·
    exact Zi (Z2 [o1] [] [(0, 0)] [(0, (wsl L0 0))] [(0, .bs L0), (1, (Zq ((wd L0 0))  y3_0 y3_1  7)), (2, (Zc9 (y3_0)    7))]) (((!y3_1), true) :: ZcZ L0 L1 a2 L3 L4 L5 L6 L7 y3_0 y3_1) (Zc nBt <| w5)
   ·
    have w6 : OkL (ZbQ L0 L1 a2 L3 L4 L5 L6 L7 y3_0 y3_1) :=
     Zc nBf <| w5
    refine Zh (fun g6 => ?_) (fun g6 => ?_)
    ·
     exact Zi (Z2 [o0, o1] [] [(0, 0)] [(0, (wsl L0 0))] [(0, .bs L0), (1, (Zq ((wd L0 0))  y3_0 y3_1  7)), (2, (Zc9 (y3_0)    7))]) ((((((wds L0).length : Nat) : Int) != (4 : Int)), true) :: ZbQ L0 L1 a2 L3 L4 L5 L6 L7 y3_0 y3_1) (oD <| w6)
    ·
     refine Zh (fun g7 => ?_) (fun g7 => ?_)
     ·
      exact Zi (Z2 [o0, o0, o1] [] [(0, 0)] [(0, (wsl L0 0))] [(0, .bs L0), (1, (Zq ((wd L0 0))  y3_0 y3_1  7)), (2, (Zc9 (y3_0)    7))]) (((decide ((L3.length : Int) ≥ (512 : Int))), true) :: (((((wds L0).length : Nat) : Int) != (4 : Int)), false) :: ZbQ L0 L1 a2 L3 L4 L5 L6 L7 y3_0 y3_1) (oY <| oE <| w6)
     ·
      have w8 : OkL (Zda L0 L1 a2 L3 L4 L5 L6 L7 y3_0 y3_1) :=
       Zc (ZbK 1 ltA) <| oL <| oI <| oN <| oE <| w6
      refine ZaQ (fun z8 c8 => ?_)
      cases z8 with
      | r0 =>
       have w9 : OkL (Zdb L0 L1 a2 L3 L4 L5 L6 L7 y3_0 y3_1) :=
        Zc (ZbK 2 ltA) <| oL <| oI <| Zc (Zp (Zac #[vp 0 0, Value.int .i32 (114 : Int), Value.string (Za (wd L0 1))] ((wd L0 1)) L1 a2 L3 L4 L5 L6 L7   N c8 0 1 2 3 4 5 9 rfl dcd dcd)) <| oR <| oR <| oR <| oR <| oR <| oR <| w8
       refine ZaQ (fun z9 c9 => ?_)
       cases z9 with
       | r0 =>
        have w10 : OkL (Zdc L0 L1 a2 L3 L4 L5 L6 L7 y3_0 y3_1) :=
         Zc (ZbK 3 ltA) <| oL <| oI <| Zc (Zp (ZbL #[vp 0 0, Value.int .i32 (35 : Int), Value.string (Za (wd L0 2))] ((wd L0 2)) L1 a2 L3 L4 L5 L6 L7   N c9 0 1 2 3 4 5 9 rfl dcd dcd)) <| oR <| oR <| oR <| oR <| oR <| oR <| w9
        refine ZaQ (fun z10 c10 => ?_)
        cases z10 with
        | r0 =>
         refine Zh (fun g11 => ?_) (fun _ => ZbI)
         exact Zc4 ZN (fu := 4000) (orc := (Z2 [o0, o0, o0] [] [(0, 0), (1, 1), (3, 2), (5, 3)] [(0, (wsl L0 0)), (2, (wsl L0 1)), (3, (wsl L0 2)), (4, (wsl L0 3))] [(0, .bs L0), (1, (Zq ((wd L0 0))  y3_0 y3_1  7)), (2, (Zc9 (y3_0)    7)), (3, (Z3 ((wd L0 1)) L1 a2 L3 L4 L5 L6 L7   0 1 2 3 4 5 9)), (5, (ZaP ((wd L0 2)) L1 a2 L3 L4 L5 L6 L7   0 1 2 3 4 5 9)), (7, (ZaP ((wd L0 3)) L1 a2 L3 L4 L5 L6 L7   0 1 2 3 4 5 9)), (9, .ap 1 [vi y3_0, vi ((bAt (wd L0 1) 1) - (48 : Int)), vi (ZP (wd L0 2)), vi (ZP (wd L0 3))] (Zb Zd (L3 ++ ([(⟨y3_0, ((bAt (wd L0 1) 1) - (48 : Int)), (ZP (wd L0 2)), (ZP (wd L0 3))⟩ : RA)] : List RA)))), (11, .ap 1 [vi a2] (Zb eI (L4 ++ ([a2] : List Int))))])) (live := [0, 1, 2, 3, 4, 5, 10, 12]) (u := vtt) (bl := [some (.cells [Value.string (Za L1), vi a2, vs 10 0 (L3.length + 1) (L3.length + 1), vs 12 0 (L4.length + 1) (L4.length + 1), vs 3 0 L5.length L5.length, vs 4 0 L6.length L6.length, Value.map (some 5)] 57), none, none, some (.cells (Zb Zt L5) 122 true), some (.cells (Zb Zr L6) 9 true), some (.ro (Zk L7) true), some (.cells (Zb Zd (L3 ++ ([(⟨y3_0, ((bAt (wd L0 1) 1) - (48 : Int)), (ZP (wd L0 2)), (ZP (wd L0 3))⟩ : RA)] : List RA))) 24), some (.cells (Zb eI (L4 ++ ([a2] : List Int))) 3)]) (ob := ((dP ((1 = 1 ∧ Z8 (1 * 1) (List.drop 0 [vi a2]) = some [vi a2] ∧ Z4 Za3 [vi a2] = true) ∧ 0 < 1 ∧ 1 ≤ 100000 ∧ L4.length < L4.length + 1 ∧ L4.length ≤ 100000 ∧ L4.length * 1 ≤ (List.length (Zb eI L4)) ∧ List.take (L4.length * 1) (Zb eI L4) ++ [vi a2] = (Zb eI (L4 ++ ([a2] : List Int)))), true) :: (dP ((1 = 1 ∧ Z8 (1 * 4) (List.drop 0 [vi y3_0, vi ((bAt (wd L0 1) 1) - (48 : Int)), vi (ZP (wd L0 2)), vi (ZP (wd L0 3))]) = some [vi y3_0, vi ((bAt (wd L0 1) 1) - (48 : Int)), vi (ZP (wd L0 2)), vi (ZP (wd L0 3))] ∧ Z4 Za3 [vi y3_0, vi ((bAt (wd L0 1) 1) - (48 : Int)), vi (ZP (wd L0 2)), vi (ZP (wd L0 3))] = true) ∧ 0 < 1 ∧ 1 ≤ 100000 ∧ L3.length < L3.length + 1 ∧ L3.length ≤ 100000 ∧ L3.length * 4 ≤ (List.length (Zb Zd L3)) ∧ List.take (L3.length * 4) (Zb Zd L3) ++ [vi y3_0, vi ((bAt (wd L0 1) 1) - (48 : Int)), vi (ZP (wd L0 2)), vi (ZP (wd L0 3))] = (Zb Zd (L3 ++ ([(⟨y3_0, ((bAt (wd L0 1) 1) - (48 : Int)), (ZP (wd L0 2)), (ZP (wd L0 3))⟩ : RA)] : List RA)))), true) :: (dP (Zbl #[vp 0 0, Value.int .i32 (35 : Int), Value.string (Za (wd L0 3))] ((wd L0 3)) L1 a2 L3 L4 L5 L6 L7   0 1 2 3 4 5 9), true) :: (dS (rdc L1 a2 L3 L4 L5 L6), true) :: (dS (Zb Zd L3), true) :: (dS (Zb eI L4), true) :: (dS (Zb Zt L5), true) :: (dS (Zb Zr L6), true) :: (dS (Zk L7), true) :: Zdc L0 L1 a2 L3 L4 L5 L6 L7 y3_0 y3_1)) (by as_aux_lemma => kernel_rfl) (Zc (Zp ⟨⟨rfl, ⟨rfl, rfl⟩⟩, by omega, by omega, ltA, by omega, (ZaI (E := eI) (L := L4) (M := ([a2] : List Int)) (n := L4.length) (show _ = _ * 1 from rfl) (by omega) (R := (L4 ++ ([a2] : List Int))) (by rw [List.take_of_length_le (by omega)]))⟩) <| Zc (Zp ⟨⟨rfl, ⟨rfl, rfl⟩⟩, by omega, by omega, ltA, by omega, (ZaI (E := Zd) (L := L3) (M := ([(⟨y3_0, ((bAt (wd L0 1) 1) - (48 : Int)), (ZP (wd L0 2)), (ZP (wd L0 3))⟩ : RA)] : List RA)) (n := L3.length) (show _ = _ * 4 from rfl) (by omega) (R := (L3 ++ ([(⟨y3_0, ((bAt (wd L0 1) 1) - (48 : Int)), (ZP (wd L0 2)), (ZP (wd L0 3))⟩ : RA)] : List RA))) (by rw [List.take_of_length_le (by omega)]))⟩) <| Zc (Zp (ZbL #[vp 0 0, Value.int .i32 (35 : Int), Value.string (Za (wd L0 3))] ((wd L0 3)) L1 a2 L3 L4 L5 L6 L7   N c10 0 1 2 3 4 5 9 rfl dcd dcd)) <| oR <| oR <| oR <| oR <| oR <| oR <| w10) rfl (by decide) (by rfl) rr ⟨⟨rfl, ⟨[], (show ([Value.string (Za L1), vi a2, vs 6 0 (L3.length + 1) (L3.length + 1), vs 7 0 (L4.length + 1) (L4.length + 1), vs 3 0 L5.length L5.length, vs 4 0 L6.length L6.length, Value.map (some 5)] : List Value) = _ from (Ze rfl (Ze rfl (Ze (Zah rfl eqA eqA) (Ze rfl (Ze rfl (Ze rfl (Ze rfl rfl))))))).symm)⟩, by rfl⟩, ⟨(Zl (E := Zt) (α := R_is) _ L5 _), ⟨(Zl (E := Zr) (α := List Int) _ L6 _), ⟨(show Zk L7 = Zk L7 from rfl), ⟨(ZW (E := Zd) (α := RA) _ (L3 ++ ([(⟨y3_0, ((bAt (wd L0 1) 1) - (48 : Int)), (ZP (wd L0 2)), (ZP (wd L0 3))⟩ : RA)] : List RA)) _), ⟨(ZW (E := eI) (α := Int) _ (L4 ++ ([a2] : List Int)) _), trivial⟩⟩⟩⟩⟩⟩ (Zaq _ rfl)
        | r1 =>
         exact Zi (Z2 [o0, o0, o0] [] [(0, 0), (1, 1), (3, 2), (5, 3)] [(0, (wsl L0 0)), (2, (wsl L0 1)), (3, (wsl L0 2)), (4, (wsl L0 3))] [(0, .bs L0), (1, (Zq ((wd L0 0))  y3_0 y3_1  7)), (2, (Zc9 (y3_0)    7)), (3, (Z3 ((wd L0 1)) L1 a2 L3 L4 L5 L6 L7   0 1 2 3 4 5 9)), (5, (ZaP ((wd L0 2)) L1 a2 L3 L4 L5 L6 L7   0 1 2 3 4 5 9)), (7, (ZbM ((wd L0 3)) L1 a2 L3 L4 L5 L6 L7   0 1 2 3 4 5 9))]) ((dP (Zbm #[vp 0 0, Value.int .i32 (35 : Int), Value.string (Za (wd L0 3))] ((wd L0 3)) L1 a2 L3 L4 L5 L6 L7   0 1 2 3 4 5 9), true) :: (dS (rdc L1 a2 L3 L4 L5 L6), true) :: (dS (Zb Zd L3), true) :: (dS (Zb eI L4), true) :: (dS (Zb Zt L5), true) :: (dS (Zb Zr L6), true) :: (dS (Zk L7), true) :: Zdc L0 L1 a2 L3 L4 L5 L6 L7 y3_0 y3_1) (Zc (Zp (ZbN #[vp 0 0, Value.int .i32 (35 : Int), Value.string (Za (wd L0 3))] ((wd L0 3)) L1 a2 L3 L4 L5 L6 L7   N c10 0 1 2 3 4 5 9 rfl dcd dcd)) <| oR <| oR <| oR <| oR <| oR <| oR <| w10)
       | r1 =>
        exact Zi (Z2 [o0, o0, o0] [] [(0, 0), (1, 1), (3, 2)] [(0, (wsl L0 0)), (2, (wsl L0 1)), (3, (wsl L0 2))] [(0, .bs L0), (1, (Zq ((wd L0 0))  y3_0 y3_1  7)), (2, (Zc9 (y3_0)    7)), (3, (Z3 ((wd L0 1)) L1 a2 L3 L4 L5 L6 L7   0 1 2 3 4 5 9)), (5, (ZbM ((wd L0 2)) L1 a2 L3 L4 L5 L6 L7   0 1 2 3 4 5 9))]) ((dP (Zbm #[vp 0 0, Value.int .i32 (35 : Int), Value.string (Za (wd L0 2))] ((wd L0 2)) L1 a2 L3 L4 L5 L6 L7   0 1 2 3 4 5 9), true) :: (dS (rdc L1 a2 L3 L4 L5 L6), true) :: (dS (Zb Zd L3), true) :: (dS (Zb eI L4), true) :: (dS (Zb Zt L5), true) :: (dS (Zb Zr L6), true) :: (dS (Zk L7), true) :: Zdb L0 L1 a2 L3 L4 L5 L6 L7 y3_0 y3_1) (Zc (Zp (ZbN #[vp 0 0, Value.int .i32 (35 : Int), Value.string (Za (wd L0 2))] ((wd L0 2)) L1 a2 L3 L4 L5 L6 L7   N c9 0 1 2 3 4 5 9 rfl dcd dcd)) <| oR <| oR <| oR <| oR <| oR <| oR <| w9)
      | r1 =>
       exact Zi (Z2 [o0, o0, o0] [] [(0, 0), (1, 1)] [(0, (wsl L0 0)), (2, (wsl L0 1))] [(0, .bs L0), (1, (Zq ((wd L0 0))  y3_0 y3_1  7)), (2, (Zc9 (y3_0)    7)), (3, (Zad ((wd L0 1)) L1 a2 L3 L4 L5 L6 L7   0 1 2 3 4 5 9))]) ((dP (ZT #[vp 0 0, Value.int .i32 (114 : Int), Value.string (Za (wd L0 1))] ((wd L0 1)) L1 a2 L3 L4 L5 L6 L7   0 1 2 3 4 5 9), true) :: (dS (rdc L1 a2 L3 L4 L5 L6), true) :: (dS (Zb Zd L3), true) :: (dS (Zb eI L4), true) :: (dS (Zb Zt L5), true) :: (dS (Zb Zr L6), true) :: (dS (Zk L7), true) :: Zda L0 L1 a2 L3 L4 L5 L6 L7 y3_0 y3_1) (Zc (Zp (Zae #[vp 0 0, Value.int .i32 (114 : Int), Value.string (Za (wd L0 1))] ((wd L0 1)) L1 a2 L3 L4 L5 L6 L7   N c8 0 1 2 3 4 5 9 rfl dcd dcd)) <| oR <| oR <| oR <| oR <| oR <| oR <| w8)
  | r4 =>
   have w5 : OkL (Zdd L0 L1 a2 L3 L4 L5 L6 L7 y3_0 y3_1) :=
    Zc (Zp (ZpR #[vi y3_0] (y3_0)   N c4  7 rfl dcd dcd)) <| w4
   refine Zh (fun g5 => ?_) (fun g5 => ?_)
   ·
    exact Zi (Z2 [o1] [] [(0, 0)] [(0, (wsl L0 0))] [(0, .bs L0), (1, (Zq ((wd L0 0))  y3_0 y3_1  7)), (2, (ZcA (y3_0)    7))]) (((!y3_1), true) :: Zdd L0 L1 a2 L3 L4 L5 L6 L7 y3_0 y3_1) (Zc nBt <| w5)
   ·
    have w6 : OkL (ZbR L0 L1 a2 L3 L4 L5 L6 L7 y3_0 y3_1) :=
     Zc nBf <| w5
    refine Zh (fun g6 => ?_) (fun g6 => ?_)
    ·
     exact Zi (Z2 [o0, o1] [] [(0, 0)] [(0, (wsl L0 0))] [(0, .bs L0), (1, (Zq ((wd L0 0))  y3_0 y3_1  7)), (2, (ZcA (y3_0)    7))]) ((((((wds L0).length : Nat) : Int) != (4 : Int)), true) :: ZbR L0 L1 a2 L3 L4 L5 L6 L7 y3_0 y3_1) (oD <| w6)
    ·
     refine Zh (fun g7 => ?_) (fun g7 => ?_)
     ·
      exact Zi (Z2 [o0, o0, o1] [] [(0, 0)] [(0, (wsl L0 0))] [(0, .bs L0), (1, (Zq ((wd L0 0))  y3_0 y3_1  7)), (2, (ZcA (y3_0)    7))]) (((decide ((L3.length : Int) ≥ (512 : Int))), true) :: (((((wds L0).length : Nat) : Int) != (4 : Int)), false) :: ZbR L0 L1 a2 L3 L4 L5 L6 L7 y3_0 y3_1) (oY <| oE <| w6)
     ·
      have w8 : OkL (Zde L0 L1 a2 L3 L4 L5 L6 L7 y3_0 y3_1) :=
       Zc (ZbK 1 ltA) <| oL <| oI <| oN <| oE <| w6
      refine ZaQ (fun z8 c8 => ?_)
      cases z8 with
      | r0 =>
       have w9 : OkL (Zdf L0 L1 a2 L3 L4 L5 L6 L7 y3_0 y3_1) :=
        Zc (ZbK 2 ltA) <| oL <| oI <| Zc (Zp (Zac #[vp 0 0, Value.int .i32 (114 : Int), Value.string (Za (wd L0 1))] ((wd L0 1)) L1 a2 L3 L4 L5 L6 L7   N c8 0 1 2 3 4 5 9 rfl dcd dcd)) <| oR <| oR <| oR <| oR <| oR <| oR <| w8
       refine ZaQ (fun z9 c9 => ?_)
       cases z9 with
       | r0 =>
        have w10 : OkL (Zdg L0 L1 a2 L3 L4 L5 L6 L7 y3_0 y3_1) :=
         Zc (ZbK 3 ltA) <| oL <| oI <| Zc (Zp (Zac #[vp 0 0, Value.int .i32 (114 : Int), Value.string (Za (wd L0 2))] ((wd L0 2)) L1 a2 L3 L4 L5 L6 L7   N c9 0 1 2 3 4 5 9 rfl dcd dcd)) <| oR <| oR <| oR <| oR <| oR <| oR <| w9
        refine ZaQ (fun z10 c10 => ?_)
        cases z10 with
        | r0 =>
         refine Zh (fun g11 => ?_) (fun _ => ZbI)
         exact Zc4 ZN (fu := 4000) (orc := (Z2 [o0, o0, o0] [] [(0, 0), (1, 1), (3, 2), (5, 3)] [(0, (wsl L0 0)), (2, (wsl L0 1)), (3, (wsl L0 2)), (4, (wsl L0 3))] [(0, .bs L0), (1, (Zq ((wd L0 0))  y3_0 y3_1  7)), (2, (ZcA (y3_0)    7)), (3, (Z3 ((wd L0 1)) L1 a2 L3 L4 L5 L6 L7   0 1 2 3 4 5 9)), (5, (Z3 ((wd L0 2)) L1 a2 L3 L4 L5 L6 L7   0 1 2 3 4 5 9)), (7, (ZaP ((wd L0 3)) L1 a2 L3 L4 L5 L6 L7   0 1 2 3 4 5 9)), (9, .ap 1 [vi y3_0, vi ((bAt (wd L0 1) 1) - (48 : Int)), vi ((bAt (wd L0 2) 1) - (48 : Int)), vi (ZP (wd L0 3))] (Zb Zd (L3 ++ ([(⟨y3_0, ((bAt (wd L0 1) 1) - (48 : Int)), ((bAt (wd L0 2) 1) - (48 : Int)), (ZP (wd L0 3))⟩ : RA)] : List RA)))), (11, .ap 1 [vi a2] (Zb eI (L4 ++ ([a2] : List Int))))])) (live := [0, 1, 2, 3, 4, 5, 10, 12]) (u := vtt) (bl := [some (.cells [Value.string (Za L1), vi a2, vs 10 0 (L3.length + 1) (L3.length + 1), vs 12 0 (L4.length + 1) (L4.length + 1), vs 3 0 L5.length L5.length, vs 4 0 L6.length L6.length, Value.map (some 5)] 57), none, none, some (.cells (Zb Zt L5) 122 true), some (.cells (Zb Zr L6) 9 true), some (.ro (Zk L7) true), some (.cells (Zb Zd (L3 ++ ([(⟨y3_0, ((bAt (wd L0 1) 1) - (48 : Int)), ((bAt (wd L0 2) 1) - (48 : Int)), (ZP (wd L0 3))⟩ : RA)] : List RA))) 24), some (.cells (Zb eI (L4 ++ ([a2] : List Int))) 3)]) (ob := ((dP ((1 = 1 ∧ Z8 (1 * 1) (List.drop 0 [vi a2]) = some [vi a2] ∧ Z4 Za3 [vi a2] = true) ∧ 0 < 1 ∧ 1 ≤ 100000 ∧ L4.length < L4.length + 1 ∧ L4.length ≤ 100000 ∧ L4.length * 1 ≤ (List.length (Zb eI L4)) ∧ List.take (L4.length * 1) (Zb eI L4) ++ [vi a2] = (Zb eI (L4 ++ ([a2] : List Int)))), true) :: (dP ((1 = 1 ∧ Z8 (1 * 4) (List.drop 0 [vi y3_0, vi ((bAt (wd L0 1) 1) - (48 : Int)), vi ((bAt (wd L0 2) 1) - (48 : Int)), vi (ZP (wd L0 3))]) = some [vi y3_0, vi ((bAt (wd L0 1) 1) - (48 : Int)), vi ((bAt (wd L0 2) 1) - (48 : Int)), vi (ZP (wd L0 3))] ∧ Z4 Za3 [vi y3_0, vi ((bAt (wd L0 1) 1) - (48 : Int)), vi ((bAt (wd L0 2) 1) - (48 : Int)), vi (ZP (wd L0 3))] = true) ∧ 0 < 1 ∧ 1 ≤ 100000 ∧ L3.length < L3.length + 1 ∧ L3.length ≤ 100000 ∧ L3.length * 4 ≤ (List.length (Zb Zd L3)) ∧ List.take (L3.length * 4) (Zb Zd L3) ++ [vi y3_0, vi ((bAt (wd L0 1) 1) - (48 : Int)), vi ((bAt (wd L0 2) 1) - (48 : Int)), vi (ZP (wd L0 3))] = (Zb Zd (L3 ++ ([(⟨y3_0, ((bAt (wd L0 1) 1) - (48 : Int)), ((bAt (wd L0 2) 1) - (48 : Int)), (ZP (wd L0 3))⟩ : RA)] : List RA)))), true) :: (dP (Zbl #[vp 0 0, Value.int .i32 (35 : Int), Value.string (Za (wd L0 3))] ((wd L0 3)) L1 a2 L3 L4 L5 L6 L7   0 1 2 3 4 5 9), true) :: (dS (rdc L1 a2 L3 L4 L5 L6), true) :: (dS (Zb Zd L3), true) :: (dS (Zb eI L4), true) :: (dS (Zb Zt L5), true) :: (dS (Zb Zr L6), true) :: (dS (Zk L7), true) :: Zdg L0 L1 a2 L3 L4 L5 L6 L7 y3_0 y3_1)) (by as_aux_lemma => kernel_rfl) (Zc (Zp ⟨⟨rfl, ⟨rfl, rfl⟩⟩, by omega, by omega, ltA, by omega, (ZaI (E := eI) (L := L4) (M := ([a2] : List Int)) (n := L4.length) (show _ = _ * 1 from rfl) (by omega) (R := (L4 ++ ([a2] : List Int))) (by rw [List.take_of_length_le (by omega)]))⟩) <| Zc (Zp ⟨⟨rfl, ⟨rfl, rfl⟩⟩, by omega, by omega, ltA, by omega, (ZaI (E := Zd) (L := L3) (M := ([(⟨y3_0, ((bAt (wd L0 1) 1) - (48 : Int)), ((bAt (wd L0 2) 1) - (48 : Int)), (ZP (wd L0 3))⟩ : RA)] : List RA)) (n := L3.length) (show _ = _ * 4 from rfl) (by omega) (R := (L3 ++ ([(⟨y3_0, ((bAt (wd L0 1) 1) - (48 : Int)), ((bAt (wd L0 2) 1) - (48 : Int)), (ZP (wd L0 3))⟩ : RA)] : List RA))) (by rw [List.take_of_length_le (by omega)]))⟩) <| Zc (Zp (ZbL #[vp 0 0, Value.int .i32 (35 : Int), Value.string (Za (wd L0 3))] ((wd L0 3)) L1 a2 L3 L4 L5 L6 L7   N c10 0 1 2 3 4 5 9 rfl dcd dcd)) <| oR <| oR <| oR <| oR <| oR <| oR <| w10) rfl (by decide) (by rfl) rr ⟨⟨rfl, ⟨[], (show ([Value.string (Za L1), vi a2, vs 6 0 (L3.length + 1) (L3.length + 1), vs 7 0 (L4.length + 1) (L4.length + 1), vs 3 0 L5.length L5.length, vs 4 0 L6.length L6.length, Value.map (some 5)] : List Value) = _ from (Ze rfl (Ze rfl (Ze (Zah rfl eqA eqA) (Ze rfl (Ze rfl (Ze rfl (Ze rfl rfl))))))).symm)⟩, by rfl⟩, ⟨(Zl (E := Zt) (α := R_is) _ L5 _), ⟨(Zl (E := Zr) (α := List Int) _ L6 _), ⟨(show Zk L7 = Zk L7 from rfl), ⟨(ZW (E := Zd) (α := RA) _ (L3 ++ ([(⟨y3_0, ((bAt (wd L0 1) 1) - (48 : Int)), ((bAt (wd L0 2) 1) - (48 : Int)), (ZP (wd L0 3))⟩ : RA)] : List RA)) _), ⟨(ZW (E := eI) (α := Int) _ (L4 ++ ([a2] : List Int)) _), trivial⟩⟩⟩⟩⟩⟩ (Zaq _ rfl)
        | r1 =>
         exact Zi (Z2 [o0, o0, o0] [] [(0, 0), (1, 1), (3, 2), (5, 3)] [(0, (wsl L0 0)), (2, (wsl L0 1)), (3, (wsl L0 2)), (4, (wsl L0 3))] [(0, .bs L0), (1, (Zq ((wd L0 0))  y3_0 y3_1  7)), (2, (ZcA (y3_0)    7)), (3, (Z3 ((wd L0 1)) L1 a2 L3 L4 L5 L6 L7   0 1 2 3 4 5 9)), (5, (Z3 ((wd L0 2)) L1 a2 L3 L4 L5 L6 L7   0 1 2 3 4 5 9)), (7, (ZbM ((wd L0 3)) L1 a2 L3 L4 L5 L6 L7   0 1 2 3 4 5 9))]) ((dP (Zbm #[vp 0 0, Value.int .i32 (35 : Int), Value.string (Za (wd L0 3))] ((wd L0 3)) L1 a2 L3 L4 L5 L6 L7   0 1 2 3 4 5 9), true) :: (dS (rdc L1 a2 L3 L4 L5 L6), true) :: (dS (Zb Zd L3), true) :: (dS (Zb eI L4), true) :: (dS (Zb Zt L5), true) :: (dS (Zb Zr L6), true) :: (dS (Zk L7), true) :: Zdg L0 L1 a2 L3 L4 L5 L6 L7 y3_0 y3_1) (Zc (Zp (ZbN #[vp 0 0, Value.int .i32 (35 : Int), Value.string (Za (wd L0 3))] ((wd L0 3)) L1 a2 L3 L4 L5 L6 L7   N c10 0 1 2 3 4 5 9 rfl dcd dcd)) <| oR <| oR <| oR <| oR <| oR <| oR <| w10)
       | r1 =>
        exact Zi (Z2 [o0, o0, o0] [] [(0, 0), (1, 1), (3, 2)] [(0, (wsl L0 0)), (2, (wsl L0 1)), (3, (wsl L0 2))] [(0, .bs L0), (1, (Zq ((wd L0 0))  y3_0 y3_1  7)), (2, (ZcA (y3_0)    7)), (3, (Z3 ((wd L0 1)) L1 a2 L3 L4 L5 L6 L7   0 1 2 3 4 5 9)), (5, (Zad ((wd L0 2)) L1 a2 L3 L4 L5 L6 L7   0 1 2 3 4 5 9))]) ((dP (ZT #[vp 0 0, Value.int .i32 (114 : Int), Value.string (Za (wd L0 2))] ((wd L0 2)) L1 a2 L3 L4 L5 L6 L7   0 1 2 3 4 5 9), true) :: (dS (rdc L1 a2 L3 L4 L5 L6), true) :: (dS (Zb Zd L3), true) :: (dS (Zb eI L4), true) :: (dS (Zb Zt L5), true) :: (dS (Zb Zr L6), true) :: (dS (Zk L7), true) :: Zdf L0 L1 a2 L3 L4 L5 L6 L7 y3_0 y3_1) (Zc (Zp (Zae #[vp 0 0, Value.int .i32 (114 : Int), Value.string (Za (wd L0 2))] ((wd L0 2)) L1 a2 L3 L4 L5 L6 L7   N c9 0 1 2 3 4 5 9 rfl dcd dcd)) <| oR <| oR <| oR <| oR <| oR <| oR <| w9)
      | r1 =>
       exact Zi (Z2 [o0, o0, o0] [] [(0, 0), (1, 1)] [(0, (wsl L0 0)), (2, (wsl L0 1))] [(0, .bs L0), (1, (Zq ((wd L0 0))  y3_0 y3_1  7)), (2, (ZcA (y3_0)    7)), (3, (Zad ((wd L0 1)) L1 a2 L3 L4 L5 L6 L7   0 1 2 3 4 5 9))]) ((dP (ZT #[vp 0 0, Value.int .i32 (114 : Int), Value.string (Za (wd L0 1))] ((wd L0 1)) L1 a2 L3 L4 L5 L6 L7   0 1 2 3 4 5 9), true) :: (dS (rdc L1 a2 L3 L4 L5 L6), true) :: (dS (Zb Zd L3), true) :: (dS (Zb eI L4), true) :: (dS (Zb Zt L5), true) :: (dS (Zb Zr L6), true) :: (dS (Zk L7), true) :: Zde L0 L1 a2 L3 L4 L5 L6 L7 y3_0 y3_1) (Zc (Zp (Zae #[vp 0 0, Value.int .i32 (114 : Int), Value.string (Za (wd L0 1))] ((wd L0 1)) L1 a2 L3 L4 L5 L6 L7   N c8 0 1 2 3 4 5 9 rfl dcd dcd)) <| oR <| oR <| oR <| oR <| oR <| oR <| w8)
  | r5 =>
   have w5 : OkL (Zdh L0 L1 a2 L3 L4 L5 L6 L7 y3_0 y3_1) :=
    Zc (Zp (ZpS #[vi y3_0] (y3_0)   N c4  7 rfl dcd dcd)) <| w4
   refine Zh (fun g5 => ?_) (fun g5 => ?_)
   ·
    exact Zi (Z2 [o1] [] [(0, 0)] [(0, (wsl L0 0))] [(0, .bs L0), (1, (Zq ((wd L0 0))  y3_0 y3_1  7)), (2, (ZcB (y3_0)    7))]) (((!y3_1), true) :: Zdh L0 L1 a2 L3 L4 L5 L6 L7 y3_0 y3_1) (Zc nBt <| w5)
   ·
    have w6 : OkL (ZbS L0 L1 a2 L3 L4 L5 L6 L7 y3_0 y3_1) :=
     Zc nBf <| w5
    refine Zh (fun g6 => ?_) (fun g6 => ?_)
    ·
     exact Zi (Z2 [o0, o1] [] [(0, 0)] [(0, (wsl L0 0))] [(0, .bs L0), (1, (Zq ((wd L0 0))  y3_0 y3_1  7)), (2, (ZcB (y3_0)    7))]) ((((((wds L0).length : Nat) : Int) != (4 : Int)), true) :: ZbS L0 L1 a2 L3 L4 L5 L6 L7 y3_0 y3_1) (oD <| w6)
    ·
     refine Zh (fun g7 => ?_) (fun g7 => ?_)
     ·
      exact Zi (Z2 [o0, o0, o1] [] [(0, 0)] [(0, (wsl L0 0))] [(0, .bs L0), (1, (Zq ((wd L0 0))  y3_0 y3_1  7)), (2, (ZcB (y3_0)    7))]) (((decide ((L3.length : Int) ≥ (512 : Int))), true) :: (((((wds L0).length : Nat) : Int) != (4 : Int)), false) :: ZbS L0 L1 a2 L3 L4 L5 L6 L7 y3_0 y3_1) (oY <| oE <| w6)
     ·
      have w8 : OkL (Zdi L0 L1 a2 L3 L4 L5 L6 L7 y3_0 y3_1) :=
       Zc (ZbK 1 ltA) <| oL <| oI <| oN <| oE <| w6
      refine ZaQ (fun z8 c8 => ?_)
      cases z8 with
      | r0 =>
       have w9 : OkL (Zdj L0 L1 a2 L3 L4 L5 L6 L7 y3_0 y3_1) :=
        Zc (ZbK 2 ltA) <| oL <| oI <| Zc (Zp (Zac #[vp 0 0, Value.int .i32 (114 : Int), Value.string (Za (wd L0 1))] ((wd L0 1)) L1 a2 L3 L4 L5 L6 L7   N c8 0 1 2 3 4 5 9 rfl dcd dcd)) <| oR <| oR <| oR <| oR <| oR <| oR <| w8
       refine ZaQ (fun z9 c9 => ?_)
       cases z9 with
       | r0 =>
        have w10 : OkL (Zdk L0 L1 a2 L3 L4 L5 L6 L7 y3_0 y3_1) :=
         Zc (ZbK 3 ltA) <| oL <| oI <| Zc (Zp (ZbL #[vp 0 0, Value.int .i32 (35 : Int), Value.string (Za (wd L0 2))] ((wd L0 2)) L1 a2 L3 L4 L5 L6 L7   N c9 0 1 2 3 4 5 9 rfl dcd dcd)) <| oR <| oR <| oR <| oR <| oR <| oR <| w9
        refine ZaQ (fun z10 c10 => ?_)
        cases z10 with
        | r0 =>
         refine Zh (fun g11 => ?_) (fun _ => ZbI)
         exact Zc4 ZN (fu := 4000) (orc := (Z2 [o0, o0, o0] [] [(0, 0), (1, 1), (3, 2), (5, 3)] [(0, (wsl L0 0)), (2, (wsl L0 1)), (3, (wsl L0 2)), (4, (wsl L0 3))] [(0, .bs L0), (1, (Zq ((wd L0 0))  y3_0 y3_1  7)), (2, (ZcB (y3_0)    7)), (3, (Z3 ((wd L0 1)) L1 a2 L3 L4 L5 L6 L7   0 1 2 3 4 5 9)), (5, (ZaP ((wd L0 2)) L1 a2 L3 L4 L5 L6 L7   0 1 2 3 4 5 9)), (7, (Z3 ((wd L0 3)) L1 a2 L3 L4 L5 L6 L7   0 1 2 3 4 5 9)), (9, .ap 1 [vi y3_0, vi ((bAt (wd L0 1) 1) - (48 : Int)), vi (ZP (wd L0 2)), vi ((bAt (wd L0 3) 1) - (48 : Int))] (Zb Zd (L3 ++ ([(⟨y3_0, ((bAt (wd L0 1) 1) - (48 : Int)), (ZP (wd L0 2)), ((bAt (wd L0 3) 1) - (48 : Int))⟩ : RA)] : List RA)))), (11, .ap 1 [vi a2] (Zb eI (L4 ++ ([a2] : List Int))))])) (live := [0, 1, 2, 3, 4, 5, 10, 12]) (u := vtt) (bl := [some (.cells [Value.string (Za L1), vi a2, vs 10 0 (L3.length + 1) (L3.length + 1), vs 12 0 (L4.length + 1) (L4.length + 1), vs 3 0 L5.length L5.length, vs 4 0 L6.length L6.length, Value.map (some 5)] 57), none, none, some (.cells (Zb Zt L5) 122 true), some (.cells (Zb Zr L6) 9 true), some (.ro (Zk L7) true), some (.cells (Zb Zd (L3 ++ ([(⟨y3_0, ((bAt (wd L0 1) 1) - (48 : Int)), (ZP (wd L0 2)), ((bAt (wd L0 3) 1) - (48 : Int))⟩ : RA)] : List RA))) 24), some (.cells (Zb eI (L4 ++ ([a2] : List Int))) 3)]) (ob := ((dP ((1 = 1 ∧ Z8 (1 * 1) (List.drop 0 [vi a2]) = some [vi a2] ∧ Z4 Za3 [vi a2] = true) ∧ 0 < 1 ∧ 1 ≤ 100000 ∧ L4.length < L4.length + 1 ∧ L4.length ≤ 100000 ∧ L4.length * 1 ≤ (List.length (Zb eI L4)) ∧ List.take (L4.length * 1) (Zb eI L4) ++ [vi a2] = (Zb eI (L4 ++ ([a2] : List Int)))), true) :: (dP ((1 = 1 ∧ Z8 (1 * 4) (List.drop 0 [vi y3_0, vi ((bAt (wd L0 1) 1) - (48 : Int)), vi (ZP (wd L0 2)), vi ((bAt (wd L0 3) 1) - (48 : Int))]) = some [vi y3_0, vi ((bAt (wd L0 1) 1) - (48 : Int)), vi (ZP (wd L0 2)), vi ((bAt (wd L0 3) 1) - (48 : Int))] ∧ Z4 Za3 [vi y3_0, vi ((bAt (wd L0 1) 1) - (48 : Int)), vi (ZP (wd L0 2)), vi ((bAt (wd L0 3) 1) - (48 : Int))] = true) ∧ 0 < 1 ∧ 1 ≤ 100000 ∧ L3.length < L3.length + 1 ∧ L3.length ≤ 100000 ∧ L3.length * 4 ≤ (List.length (Zb Zd L3)) ∧ List.take (L3.length * 4) (Zb Zd L3) ++ [vi y3_0, vi ((bAt (wd L0 1) 1) - (48 : Int)), vi (ZP (wd L0 2)), vi ((bAt (wd L0 3) 1) - (48 : Int))] = (Zb Zd (L3 ++ ([(⟨y3_0, ((bAt (wd L0 1) 1) - (48 : Int)), (ZP (wd L0 2)), ((bAt (wd L0 3) 1) - (48 : Int))⟩ : RA)] : List RA)))), true) :: (dP (ZS #[vp 0 0, Value.int .i32 (114 : Int), Value.string (Za (wd L0 3))] ((wd L0 3)) L1 a2 L3 L4 L5 L6 L7   0 1 2 3 4 5 9), true) :: (dS (rdc L1 a2 L3 L4 L5 L6), true) :: (dS (Zb Zd L3), true) :: (dS (Zb eI L4), true) :: (dS (Zb Zt L5), true) :: (dS (Zb Zr L6), true) :: (dS (Zk L7), true) :: Zdk L0 L1 a2 L3 L4 L5 L6 L7 y3_0 y3_1)) (by as_aux_lemma => kernel_rfl) (Zc (Zp ⟨⟨rfl, ⟨rfl, rfl⟩⟩, by omega, by omega, ltA, by omega, (ZaI (E := eI) (L := L4) (M := ([a2] : List Int)) (n := L4.length) (show _ = _ * 1 from rfl) (by omega) (R := (L4 ++ ([a2] : List Int))) (by rw [List.take_of_length_le (by omega)]))⟩) <| Zc (Zp ⟨⟨rfl, ⟨rfl, rfl⟩⟩, by omega, by omega, ltA, by omega, (ZaI (E := Zd) (L := L3) (M := ([(⟨y3_0, ((bAt (wd L0 1) 1) - (48 : Int)), (ZP (wd L0 2)), ((bAt (wd L0 3) 1) - (48 : Int))⟩ : RA)] : List RA)) (n := L3.length) (show _ = _ * 4 from rfl) (by omega) (R := (L3 ++ ([(⟨y3_0, ((bAt (wd L0 1) 1) - (48 : Int)), (ZP (wd L0 2)), ((bAt (wd L0 3) 1) - (48 : Int))⟩ : RA)] : List RA))) (by rw [List.take_of_length_le (by omega)]))⟩) <| Zc (Zp (Zac #[vp 0 0, Value.int .i32 (114 : Int), Value.string (Za (wd L0 3))] ((wd L0 3)) L1 a2 L3 L4 L5 L6 L7   N c10 0 1 2 3 4 5 9 rfl dcd dcd)) <| oR <| oR <| oR <| oR <| oR <| oR <| w10) rfl (by decide) (by rfl) rr ⟨⟨rfl, ⟨[], (show ([Value.string (Za L1), vi a2, vs 6 0 (L3.length + 1) (L3.length + 1), vs 7 0 (L4.length + 1) (L4.length + 1), vs 3 0 L5.length L5.length, vs 4 0 L6.length L6.length, Value.map (some 5)] : List Value) = _ from (Ze rfl (Ze rfl (Ze (Zah rfl eqA eqA) (Ze rfl (Ze rfl (Ze rfl (Ze rfl rfl))))))).symm)⟩, by rfl⟩, ⟨(Zl (E := Zt) (α := R_is) _ L5 _), ⟨(Zl (E := Zr) (α := List Int) _ L6 _), ⟨(show Zk L7 = Zk L7 from rfl), ⟨(ZW (E := Zd) (α := RA) _ (L3 ++ ([(⟨y3_0, ((bAt (wd L0 1) 1) - (48 : Int)), (ZP (wd L0 2)), ((bAt (wd L0 3) 1) - (48 : Int))⟩ : RA)] : List RA)) _), ⟨(ZW (E := eI) (α := Int) _ (L4 ++ ([a2] : List Int)) _), trivial⟩⟩⟩⟩⟩⟩ (Zaq _ rfl)
        | r1 =>
         exact Zi (Z2 [o0, o0, o0] [] [(0, 0), (1, 1), (3, 2), (5, 3)] [(0, (wsl L0 0)), (2, (wsl L0 1)), (3, (wsl L0 2)), (4, (wsl L0 3))] [(0, .bs L0), (1, (Zq ((wd L0 0))  y3_0 y3_1  7)), (2, (ZcB (y3_0)    7)), (3, (Z3 ((wd L0 1)) L1 a2 L3 L4 L5 L6 L7   0 1 2 3 4 5 9)), (5, (ZaP ((wd L0 2)) L1 a2 L3 L4 L5 L6 L7   0 1 2 3 4 5 9)), (7, (Zad ((wd L0 3)) L1 a2 L3 L4 L5 L6 L7   0 1 2 3 4 5 9))]) ((dP (ZT #[vp 0 0, Value.int .i32 (114 : Int), Value.string (Za (wd L0 3))] ((wd L0 3)) L1 a2 L3 L4 L5 L6 L7   0 1 2 3 4 5 9), true) :: (dS (rdc L1 a2 L3 L4 L5 L6), true) :: (dS (Zb Zd L3), true) :: (dS (Zb eI L4), true) :: (dS (Zb Zt L5), true) :: (dS (Zb Zr L6), true) :: (dS (Zk L7), true) :: Zdk L0 L1 a2 L3 L4 L5 L6 L7 y3_0 y3_1) (Zc (Zp (Zae #[vp 0 0, Value.int .i32 (114 : Int), Value.string (Za (wd L0 3))] ((wd L0 3)) L1 a2 L3 L4 L5 L6 L7   N c10 0 1 2 3 4 5 9 rfl dcd dcd)) <| oR <| oR <| oR <| oR <| oR <| oR <| w10)
       | r1 =>
        exact Zi (Z2 [o0, o0, o0] [] [(0, 0), (1, 1), (3, 2)] [(0, (wsl L0 0)), (2, (wsl L0 1)), (3, (wsl L0 2))] [(0, .bs L0), (1, (Zq ((wd L0 0))  y3_0 y3_1  7)), (2, (ZcB (y3_0)    7)), (3, (Z3 ((wd L0 1)) L1 a2 L3 L4 L5 L6 L7   0 1 2 3 4 5 9)), (5, (ZbM ((wd L0 2)) L1 a2 L3 L4 L5 L6 L7   0 1 2 3 4 5 9))]) ((dP (Zbm #[vp 0 0, Value.int .i32 (35 : Int), Value.string (Za (wd L0 2))] ((wd L0 2)) L1 a2 L3 L4 L5 L6 L7   0 1 2 3 4 5 9), true) :: (dS (rdc L1 a2 L3 L4 L5 L6), true) :: (dS (Zb Zd L3), true) :: (dS (Zb eI L4), true) :: (dS (Zb Zt L5), true) :: (dS (Zb Zr L6), true) :: (dS (Zk L7), true) :: Zdj L0 L1 a2 L3 L4 L5 L6 L7 y3_0 y3_1) (Zc (Zp (ZbN #[vp 0 0, Value.int .i32 (35 : Int), Value.string (Za (wd L0 2))] ((wd L0 2)) L1 a2 L3 L4 L5 L6 L7   N c9 0 1 2 3 4 5 9 rfl dcd dcd)) <| oR <| oR <| oR <| oR <| oR <| oR <| w9)
      | r1 =>
       exact Zi (Z2 [o0, o0, o0] [] [(0, 0), (1, 1)] [(0, (wsl L0 0)), (2, (wsl L0 1))] [(0, .bs L0), (1, (Zq ((wd L0 0))  y3_0 y3_1  7)), (2, (ZcB (y3_0)    7)), (3, (Zad ((wd L0 1)) L1 a2 L3 L4 L5 L6 L7   0 1 2 3 4 5 9))]) ((dP (ZT #[vp 0 0, Value.int .i32 (114 : Int), Value.string (Za (wd L0 1))] ((wd L0 1)) L1 a2 L3 L4 L5 L6 L7   0 1 2 3 4 5 9), true) :: (dS (rdc L1 a2 L3 L4 L5 L6), true) :: (dS (Zb Zd L3), true) :: (dS (Zb eI L4), true) :: (dS (Zb Zt L5), true) :: (dS (Zb Zr L6), true) :: (dS (Zk L7), true) :: Zdi L0 L1 a2 L3 L4 L5 L6 L7 y3_0 y3_1) (Zc (Zp (Zae #[vp 0 0, Value.int .i32 (114 : Int), Value.string (Za (wd L0 1))] ((wd L0 1)) L1 a2 L3 L4 L5 L6 L7   N c8 0 1 2 3 4 5 9 rfl dcd dcd)) <| oR <| oR <| oR <| oR <| oR <| oR <| w8)
  | r6 =>
   refine Zh (fun g5 => ?_) (fun g5 => ?_)
   ·
    exact Zi (Z2 [o1] [] [(0, 0)] [(0, (wsl L0 0))] [(0, .bs L0), (1, (Zq ((wd L0 0))  y3_0 y3_1  7)), (2, (Zgh (y3_0)    7))]) (((!y3_1), true) :: (dP (ZhQ #[vi y3_0] (y3_0)    7), true) :: ZI L0 L1 a2 L3 L4 L5 L6 L7 y3_0 y3_1) (Zc nBt <| Zc (Zp (ZkS #[vi y3_0] (y3_0)   N c4  7 rfl dcd dcd)) <| w4)
   ·
    have w6 : OkL (ZbT L0 L1 a2 L3 L4 L5 L6 L7 y3_0 y3_1) :=
     Zc nBf <| Zc (Zp (ZkS #[vi y3_0] (y3_0)   N c4  7 rfl dcd dcd)) <| w4
    refine Zh (fun g6 => ?_) (fun g6 => ?_)
    ·
     exact Zi (Z2 [o0, o1] [] [(0, 0)] [(0, (wsl L0 0))] [(0, .bs L0), (1, (Zq ((wd L0 0))  y3_0 y3_1  7)), (2, (Zgh (y3_0)    7))]) ((((((wds L0).length : Nat) : Int) != (1 : Int)), true) :: ZbT L0 L1 a2 L3 L4 L5 L6 L7 y3_0 y3_1) (oD <| w6)
    ·
     refine Zh (fun g7 => ?_) (fun g7 => ?_)
     ·
      exact Zi (Z2 [o0, o0, o1] [] [(0, 0)] [(0, (wsl L0 0))] [(0, .bs L0), (1, (Zq ((wd L0 0))  y3_0 y3_1  7)), (2, (Zgh (y3_0)    7))]) (((decide ((L3.length : Int) ≥ (512 : Int))), true) :: (((((wds L0).length : Nat) : Int) != (1 : Int)), false) :: ZbT L0 L1 a2 L3 L4 L5 L6 L7 y3_0 y3_1) (oY <| oE <| w6)
     ·
      refine Zh (fun g8 => ?_) (fun _ => ZbI)
      exact Zc4 ZN (fu := 4000) (orc := (Z2 [o0, o0, o0] [] [(0, 0)] [(0, (wsl L0 0))] [(0, .bs L0), (1, (Zq ((wd L0 0))  y3_0 y3_1  7)), (2, (Zgh (y3_0)    7)), (3, .ap 1 [vi y3_0, vq, vq, vq] (Zb Zd (L3 ++ ([(⟨y3_0, (0 : Int), (0 : Int), (0 : Int)⟩ : RA)] : List RA)))), (5, .ap 1 [vi a2] (Zb eI (L4 ++ ([a2] : List Int))))])) (live := [0, 1, 2, 3, 4, 5, 10, 12]) (u := vtt) (bl := [some (.cells [Value.string (Za L1), vi a2, vs 10 0 (L3.length + 1) (L3.length + 1), vs 12 0 (L4.length + 1) (L4.length + 1), vs 3 0 L5.length L5.length, vs 4 0 L6.length L6.length, Value.map (some 5)] 57), none, none, some (.cells (Zb Zt L5) 122 true), some (.cells (Zb Zr L6) 9 true), some (.ro (Zk L7) true), some (.cells (Zb Zd (L3 ++ ([(⟨y3_0, (0 : Int), (0 : Int), (0 : Int)⟩ : RA)] : List RA))) 24), some (.cells (Zb eI (L4 ++ ([a2] : List Int))) 3)]) (ob := ((dP ((1 = 1 ∧ Z8 (1 * 1) (List.drop 0 [vi a2]) = some [vi a2] ∧ Z4 Za3 [vi a2] = true) ∧ 0 < 1 ∧ 1 ≤ 100000 ∧ L4.length < L4.length + 1 ∧ L4.length ≤ 100000 ∧ L4.length * 1 ≤ (List.length (Zb eI L4)) ∧ List.take (L4.length * 1) (Zb eI L4) ++ [vi a2] = (Zb eI (L4 ++ ([a2] : List Int)))), true) :: (dP ((1 = 1 ∧ Z8 (1 * 4) (List.drop 0 [vi y3_0, vq, vq, vq]) = some [vi y3_0, vq, vq, vq] ∧ Z4 Za3 [vi y3_0, vq, vq, vq] = true) ∧ 0 < 1 ∧ 1 ≤ 100000 ∧ L3.length < L3.length + 1 ∧ L3.length ≤ 100000 ∧ L3.length * 4 ≤ (List.length (Zb Zd L3)) ∧ List.take (L3.length * 4) (Zb Zd L3) ++ [vi y3_0, vq, vq, vq] = (Zb Zd (L3 ++ ([(⟨y3_0, (0 : Int), (0 : Int), (0 : Int)⟩ : RA)] : List RA)))), true) :: ((decide ((L3.length : Int) ≥ (512 : Int))), false) :: (((((wds L0).length : Nat) : Int) != (1 : Int)), false) :: ZbT L0 L1 a2 L3 L4 L5 L6 L7 y3_0 y3_1)) (by as_aux_lemma => kernel_rfl) (Zc (Zp ⟨⟨rfl, ⟨rfl, rfl⟩⟩, by omega, by omega, ltA, by omega, (ZaI (E := eI) (L := L4) (M := ([a2] : List Int)) (n := L4.length) (show _ = _ * 1 from rfl) (by omega) (R := (L4 ++ ([a2] : List Int))) (by rw [List.take_of_length_le (by omega)]))⟩) <| Zc (Zp ⟨⟨rfl, ⟨rfl, rfl⟩⟩, by omega, by omega, ltA, by omega, (ZaI (E := Zd) (L := L3) (M := ([(⟨y3_0, (0 : Int), (0 : Int), (0 : Int)⟩ : RA)] : List RA)) (n := L3.length) (show _ = _ * 4 from rfl) (by omega) (R := (L3 ++ ([(⟨y3_0, (0 : Int), (0 : Int), (0 : Int)⟩ : RA)] : List RA))) (by rw [List.take_of_length_le (by omega)]))⟩) <| oN <| oE <| w6) rfl (by decide) (by rfl) rr ⟨⟨rfl, ⟨[], (show ([Value.string (Za L1), vi a2, vs 6 0 (L3.length + 1) (L3.length + 1), vs 7 0 (L4.length + 1) (L4.length + 1), vs 3 0 L5.length L5.length, vs 4 0 L6.length L6.length, Value.map (some 5)] : List Value) = _ from (Ze rfl (Ze rfl (Ze (Zah rfl eqA eqA) (Ze rfl (Ze rfl (Ze rfl (Ze rfl rfl))))))).symm)⟩, by rfl⟩, ⟨(Zl (E := Zt) (α := R_is) _ L5 _), ⟨(Zl (E := Zr) (α := List Int) _ L6 _), ⟨(show Zk L7 = Zk L7 from rfl), ⟨(ZW (E := Zd) (α := RA) _ (L3 ++ ([(⟨y3_0, (0 : Int), (0 : Int), (0 : Int)⟩ : RA)] : List RA)) _), ⟨(ZW (E := eI) (α := Int) _ (L4 ++ ([a2] : List Int)) _), trivial⟩⟩⟩⟩⟩⟩ (Zaq _ rfl)
  | r7 =>
   have w5 : OkL (Zbh L0 L1 a2 L3 L4 L5 L6 L7 y3_0 y3_1) :=
    Zc (Zp (ZpT #[vi y3_0] (y3_0)   N c4  7 rfl dcd dcd)) <| w4
   refine Zh (fun g5 => ?_) (fun g5 => ?_)
   ·
    exact Zi (Z2 [o1] [] [(0, 0)] [(0, (wsl L0 0))] [(0, .bs L0), (1, (Zq ((wd L0 0))  y3_0 y3_1  7)), (2, (ZeA (y3_0)    7))]) (((!y3_1), true) :: Zbh L0 L1 a2 L3 L4 L5 L6 L7 y3_0 y3_1) (Zc nBt <| w5)
   ·
    refine Zh (fun g6 => ?_) (fun g6 => ?_)
    ·
     exact Zi (Z2 [o0, o1] [] [(0, 0)] [(0, (wsl L0 0))] [(0, .bs L0), (1, (Zq ((wd L0 0))  y3_0 y3_1  7)), (2, (ZeA (y3_0)    7))]) ((((((wds L0).length : Nat) : Int) != (2 : Int)), true) :: ((!y3_1), false) :: Zbh L0 L1 a2 L3 L4 L5 L6 L7 y3_0 y3_1) (oD <| Zc nBf <| w5)
    ·
     refine Zh (fun g7 => ?_) (fun g7 => ?_)
     ·
      exact Zi (Z2 [o0, o0, o1] [] [(0, 0)] [(0, (wsl L0 0))] [(0, .bs L0), (1, (Zq ((wd L0 0))  y3_0 y3_1  7)), (2, (ZeA (y3_0)    7))]) (((decide ((L3.length : Int) ≥ (512 : Int))), true) :: (((((wds L0).length : Nat) : Int) != (2 : Int)), false) :: ((!y3_1), false) :: Zbh L0 L1 a2 L3 L4 L5 L6 L7 y3_0 y3_1) (oY <| oE <| Zc nBf <| w5)
     ·
      have w8 : OkL (Zdl L0 L1 a2 L3 L4 L5 L6 L7 y3_0 y3_1) :=
       Zc (ZbK 1 ltA) <| oL <| oI <| oN <| oE <| Zc nBf <| w5
      refine ZaQ (fun z8 c8 => ?_)
      cases z8 with
      | r0 =>
       refine Zh (fun g9 => ?_) (fun _ => ZbI)
       exact Zc4 ZN (fu := 4000) (orc := (Z2 [o0, o0, o0] [] [(0, 0), (1, 1)] [(0, (wsl L0 0)), (2, (wsl L0 1))] [(0, .bs L0), (1, (Zq ((wd L0 0))  y3_0 y3_1  7)), (2, (ZeA (y3_0)    7)), (3, (Z3 ((wd L0 1)) L1 a2 L3 L4 L5 L6 L7   0 1 2 3 4 5 9)), (5, .ap 1 [vi y3_0, vi ((bAt (wd L0 1) 1) - (48 : Int)), vq, vq] (Zb Zd (L3 ++ ([(⟨y3_0, ((bAt (wd L0 1) 1) - (48 : Int)), (0 : Int), (0 : Int)⟩ : RA)] : List RA)))), (7, .ap 1 [vi a2] (Zb eI (L4 ++ ([a2] : List Int))))])) (live := [0, 1, 2, 3, 4, 5, 10, 12]) (u := vtt) (bl := [some (.cells [Value.string (Za L1), vi a2, vs 10 0 (L3.length + 1) (L3.length + 1), vs 12 0 (L4.length + 1) (L4.length + 1), vs 3 0 L5.length L5.length, vs 4 0 L6.length L6.length, Value.map (some 5)] 57), none, none, some (.cells (Zb Zt L5) 122 true), some (.cells (Zb Zr L6) 9 true), some (.ro (Zk L7) true), some (.cells (Zb Zd (L3 ++ ([(⟨y3_0, ((bAt (wd L0 1) 1) - (48 : Int)), (0 : Int), (0 : Int)⟩ : RA)] : List RA))) 24), some (.cells (Zb eI (L4 ++ ([a2] : List Int))) 3)]) (ob := ((dP ((1 = 1 ∧ Z8 (1 * 1) (List.drop 0 [vi a2]) = some [vi a2] ∧ Z4 Za3 [vi a2] = true) ∧ 0 < 1 ∧ 1 ≤ 100000 ∧ L4.length < L4.length + 1 ∧ L4.length ≤ 100000 ∧ L4.length * 1 ≤ (List.length (Zb eI L4)) ∧ List.take (L4.length * 1) (Zb eI L4) ++ [vi a2] = (Zb eI (L4 ++ ([a2] : List Int)))), true) :: (dP ((1 = 1 ∧ Z8 (1 * 4) (List.drop 0 [vi y3_0, vi ((bAt (wd L0 1) 1) - (48 : Int)), vq, vq]) = some [vi y3_0, vi ((bAt (wd L0 1) 1) - (48 : Int)), vq, vq] ∧ Z4 Za3 [vi y3_0, vi ((bAt (wd L0 1) 1) - (48 : Int)), vq, vq] = true) ∧ 0 < 1 ∧ 1 ≤ 100000 ∧ L3.length < L3.length + 1 ∧ L3.length ≤ 100000 ∧ L3.length * 4 ≤ (List.length (Zb Zd L3)) ∧ List.take (L3.length * 4) (Zb Zd L3) ++ [vi y3_0, vi ((bAt (wd L0 1) 1) - (48 : Int)), vq, vq] = (Zb Zd (L3 ++ ([(⟨y3_0, ((bAt (wd L0 1) 1) - (48 : Int)), (0 : Int), (0 : Int)⟩ : RA)] : List RA)))), true) :: (dP (ZS #[vp 0 0, Value.int .i32 (114 : Int), Value.string (Za (wd L0 1))] ((wd L0 1)) L1 a2 L3 L4 L5 L6 L7   0 1 2 3 4 5 9), true) :: (dS (rdc L1 a2 L3 L4 L5 L6), true) :: (dS (Zb Zd L3), true) :: (dS (Zb eI L4), true) :: (dS (Zb Zt L5), true) :: (dS (Zb Zr L6), true) :: (dS (Zk L7), true) :: Zdl L0 L1 a2 L3 L4 L5 L6 L7 y3_0 y3_1)) (by as_aux_lemma => kernel_rfl) (Zc (Zp ⟨⟨rfl, ⟨rfl, rfl⟩⟩, by omega, by omega, ltA, by omega, (ZaI (E := eI) (L := L4) (M := ([a2] : List Int)) (n := L4.length) (show _ = _ * 1 from rfl) (by omega) (R := (L4 ++ ([a2] : List Int))) (by rw [List.take_of_length_le (by omega)]))⟩) <| Zc (Zp ⟨⟨rfl, ⟨rfl, rfl⟩⟩, by omega, by omega, ltA, by omega, (ZaI (E := Zd) (L := L3) (M := ([(⟨y3_0, ((bAt (wd L0 1) 1) - (48 : Int)), (0 : Int), (0 : Int)⟩ : RA)] : List RA)) (n := L3.length) (show _ = _ * 4 from rfl) (by omega) (R := (L3 ++ ([(⟨y3_0, ((bAt (wd L0 1) 1) - (48 : Int)), (0 : Int), (0 : Int)⟩ : RA)] : List RA))) (by rw [List.take_of_length_le (by omega)]))⟩) <| Zc (Zp (Zac #[vp 0 0, Value.int .i32 (114 : Int), Value.string (Za (wd L0 1))] ((wd L0 1)) L1 a2 L3 L4 L5 L6 L7   N c8 0 1 2 3 4 5 9 rfl dcd dcd)) <| oR <| oR <| oR <| oR <| oR <| oR <| w8) rfl (by decide) (by rfl) rr ⟨⟨rfl, ⟨[], (show ([Value.string (Za L1), vi a2, vs 6 0 (L3.length + 1) (L3.length + 1), vs 7 0 (L4.length + 1) (L4.length + 1), vs 3 0 L5.length L5.length, vs 4 0 L6.length L6.length, Value.map (some 5)] : List Value) = _ from (Ze rfl (Ze rfl (Ze (Zah rfl eqA eqA) (Ze rfl (Ze rfl (Ze rfl (Ze rfl rfl))))))).symm)⟩, by rfl⟩, ⟨(Zl (E := Zt) (α := R_is) _ L5 _), ⟨(Zl (E := Zr) (α := List Int) _ L6 _), ⟨(show Zk L7 = Zk L7 from rfl), ⟨(ZW (E := Zd) (α := RA) _ (L3 ++ ([(⟨y3_0, ((bAt (wd L0 1) 1) - (48 : Int)), (0 : Int), (0 : Int)⟩ : RA)] : List RA)) _), ⟨(ZW (E := eI) (α := Int) _ (L4 ++ ([a2] : List Int)) _), trivial⟩⟩⟩⟩⟩⟩ (Zaq _ rfl)
      | r1 =>
       exact Zi (Z2 [o0, o0, o0] [] [(0, 0), (1, 1)] [(0, (wsl L0 0)), (2, (wsl L0 1))] [(0, .bs L0), (1, (Zq ((wd L0 0))  y3_0 y3_1  7)), (2, (ZeA (y3_0)    7)), (3, (Zad ((wd L0 1)) L1 a2 L3 L4 L5 L6 L7   0 1 2 3 4 5 9))]) ((dP (ZT #[vp 0 0, Value.int .i32 (114 : Int), Value.string (Za (wd L0 1))] ((wd L0 1)) L1 a2 L3 L4 L5 L6 L7   0 1 2 3 4 5 9), true) :: (dS (rdc L1 a2 L3 L4 L5 L6), true) :: (dS (Zb Zd L3), true) :: (dS (Zb eI L4), true) :: (dS (Zb Zt L5), true) :: (dS (Zb Zr L6), true) :: (dS (Zk L7), true) :: Zdl L0 L1 a2 L3 L4 L5 L6 L7 y3_0 y3_1) (Zc (Zp (Zae #[vp 0 0, Value.int .i32 (114 : Int), Value.string (Za (wd L0 1))] ((wd L0 1)) L1 a2 L3 L4 L5 L6 L7   N c8 0 1 2 3 4 5 9 rfl dcd dcd)) <| oR <| oR <| oR <| oR <| oR <| oR <| w8)
  | r8 =>
   have w5 : OkL (ZbU L0 L1 a2 L3 L4 L5 L6 L7 y3_0 y3_1) :=
    Zc (Zp (ZpU #[vi y3_0] (y3_0)   N c4  7 rfl dcd dcd)) <| w4
   refine Zh (fun g5 => ?_) (fun g5 => ?_)
   ·
    exact Zi (Z2 [o1] [] [(0, 0)] [(0, (wsl L0 0))] [(0, .bs L0), (1, (Zq ((wd L0 0))  y3_0 y3_1  7)), (2, (ZdB (y3_0)    7))]) (((!y3_1), true) :: ZbU L0 L1 a2 L3 L4 L5 L6 L7 y3_0 y3_1) (Zc nBt <| w5)
   ·
    refine Zh (fun g6 => ?_) (fun g6 => ?_)
    ·
     exact Zi (Z2 [o0, o1] [] [(0, 0)] [(0, (wsl L0 0))] [(0, .bs L0), (1, (Zq ((wd L0 0))  y3_0 y3_1  7)), (2, (ZdB (y3_0)    7))]) ((((((wds L0).length : Nat) : Int) != (3 : Int)), true) :: ((!y3_1), false) :: ZbU L0 L1 a2 L3 L4 L5 L6 L7 y3_0 y3_1) (oD <| Zc nBf <| w5)
    ·
     have w7 : OkL (Zdm L0 L1 a2 L3 L4 L5 L6 L7 y3_0 y3_1) :=
      oE <| Zc nBf <| w5
     refine Zh (fun g7 => ?_) (fun g7 => ?_)
     ·
      exact Zi (Z2 [o0, o0, o1] [] [(0, 0)] [(0, (wsl L0 0))] [(0, .bs L0), (1, (Zq ((wd L0 0))  y3_0 y3_1  7)), (2, (ZdB (y3_0)    7))]) (((decide ((L3.length : Int) ≥ (512 : Int))), true) :: Zdm L0 L1 a2 L3 L4 L5 L6 L7 y3_0 y3_1) (oY <| w7)
     ·
      have w8 : OkL (Zdn L0 L1 a2 L3 L4 L5 L6 L7 y3_0 y3_1) :=
       Zc (ZbK 1 ltA) <| oL <| oI <| oN <| w7
      refine ZaQ (fun z8 c8 => ?_)
      cases z8 with
      | r0 =>
       have w9 : OkL (Zdo L0 L1 a2 L3 L4 L5 L6 L7 y3_0 y3_1) :=
        Zc (ZbK 2 ltA) <| oL <| oI <| Zc (Zp (Zac #[vp 0 0, Value.int .i32 (114 : Int), Value.string (Za (wd L0 1))] ((wd L0 1)) L1 a2 L3 L4 L5 L6 L7   N c8 0 1 2 3 4 5 9 rfl dcd dcd)) <| oR <| oR <| oR <| oR <| oR <| oR <| w8
       refine ZaQ (fun z9 c9 => ?_)
       cases z9 with
       | r0 =>
        refine Zh (fun g10 => ?_) (fun _ => ZbI)
        exact Zc4 ZN (fu := 4000) (orc := (Z2 [o0, o0, o0] [] [(0, 0), (1, 1), (3, 2)] [(0, (wsl L0 0)), (2, (wsl L0 1)), (3, (wsl L0 2))] [(0, .bs L0), (1, (Zq ((wd L0 0))  y3_0 y3_1  7)), (2, (ZdB (y3_0)    7)), (3, (Z3 ((wd L0 1)) L1 a2 L3 L4 L5 L6 L7   0 1 2 3 4 5 9)), (5, (Z3 ((wd L0 2)) L1 a2 L3 L4 L5 L6 L7   0 1 2 3 4 5 9)), (7, .ap 1 [vi y3_0, vi ((bAt (wd L0 1) 1) - (48 : Int)), vi ((bAt (wd L0 2) 1) - (48 : Int)), vq] (Zb Zd (L3 ++ ([(⟨y3_0, ((bAt (wd L0 1) 1) - (48 : Int)), ((bAt (wd L0 2) 1) - (48 : Int)), (0 : Int)⟩ : RA)] : List RA)))), (9, .ap 1 [vi a2] (Zb eI (L4 ++ ([a2] : List Int))))])) (live := [0, 1, 2, 3, 4, 5, 10, 12]) (u := vtt) (bl := [some (.cells [Value.string (Za L1), vi a2, vs 10 0 (L3.length + 1) (L3.length + 1), vs 12 0 (L4.length + 1) (L4.length + 1), vs 3 0 L5.length L5.length, vs 4 0 L6.length L6.length, Value.map (some 5)] 57), none, none, some (.cells (Zb Zt L5) 122 true), some (.cells (Zb Zr L6) 9 true), some (.ro (Zk L7) true), some (.cells (Zb Zd (L3 ++ ([(⟨y3_0, ((bAt (wd L0 1) 1) - (48 : Int)), ((bAt (wd L0 2) 1) - (48 : Int)), (0 : Int)⟩ : RA)] : List RA))) 24), some (.cells (Zb eI (L4 ++ ([a2] : List Int))) 3)]) (ob := ((dP ((1 = 1 ∧ Z8 (1 * 1) (List.drop 0 [vi a2]) = some [vi a2] ∧ Z4 Za3 [vi a2] = true) ∧ 0 < 1 ∧ 1 ≤ 100000 ∧ L4.length < L4.length + 1 ∧ L4.length ≤ 100000 ∧ L4.length * 1 ≤ (List.length (Zb eI L4)) ∧ List.take (L4.length * 1) (Zb eI L4) ++ [vi a2] = (Zb eI (L4 ++ ([a2] : List Int)))), true) :: (dP ((1 = 1 ∧ Z8 (1 * 4) (List.drop 0 [vi y3_0, vi ((bAt (wd L0 1) 1) - (48 : Int)), vi ((bAt (wd L0 2) 1) - (48 : Int)), vq]) = some [vi y3_0, vi ((bAt (wd L0 1) 1) - (48 : Int)), vi ((bAt (wd L0 2) 1) - (48 : Int)), vq] ∧ Z4 Za3 [vi y3_0, vi ((bAt (wd L0 1) 1) - (48 : Int)), vi ((bAt (wd L0 2) 1) - (48 : Int)), vq] = true) ∧ 0 < 1 ∧ 1 ≤ 100000 ∧ L3.length < L3.length + 1 ∧ L3.length ≤ 100000 ∧ L3.length * 4 ≤ (List.length (Zb Zd L3)) ∧ List.take (L3.length * 4) (Zb Zd L3) ++ [vi y3_0, vi ((bAt (wd L0 1) 1) - (48 : Int)), vi ((bAt (wd L0 2) 1) - (48 : Int)), vq] = (Zb Zd (L3 ++ ([(⟨y3_0, ((bAt (wd L0 1) 1) - (48 : Int)), ((bAt (wd L0 2) 1) - (48 : Int)), (0 : Int)⟩ : RA)] : List RA)))), true) :: (dP (ZS #[vp 0 0, Value.int .i32 (114 : Int), Value.string (Za (wd L0 2))] ((wd L0 2)) L1 a2 L3 L4 L5 L6 L7   0 1 2 3 4 5 9), true) :: (dS (rdc L1 a2 L3 L4 L5 L6), true) :: (dS (Zb Zd L3), true) :: (dS (Zb eI L4), true) :: (dS (Zb Zt L5), true) :: (dS (Zb Zr L6), true) :: (dS (Zk L7), true) :: Zdo L0 L1 a2 L3 L4 L5 L6 L7 y3_0 y3_1)) (by as_aux_lemma => kernel_rfl) (Zc (Zp ⟨⟨rfl, ⟨rfl, rfl⟩⟩, by omega, by omega, ltA, by omega, (ZaI (E := eI) (L := L4) (M := ([a2] : List Int)) (n := L4.length) (show _ = _ * 1 from rfl) (by omega) (R := (L4 ++ ([a2] : List Int))) (by rw [List.take_of_length_le (by omega)]))⟩) <| Zc (Zp ⟨⟨rfl, ⟨rfl, rfl⟩⟩, by omega, by omega, ltA, by omega, (ZaI (E := Zd) (L := L3) (M := ([(⟨y3_0, ((bAt (wd L0 1) 1) - (48 : Int)), ((bAt (wd L0 2) 1) - (48 : Int)), (0 : Int)⟩ : RA)] : List RA)) (n := L3.length) (show _ = _ * 4 from rfl) (by omega) (R := (L3 ++ ([(⟨y3_0, ((bAt (wd L0 1) 1) - (48 : Int)), ((bAt (wd L0 2) 1) - (48 : Int)), (0 : Int)⟩ : RA)] : List RA))) (by rw [List.take_of_length_le (by omega)]))⟩) <| Zc (Zp (Zac #[vp 0 0, Value.int .i32 (114 : Int), Value.string (Za (wd L0 2))] ((wd L0 2)) L1 a2 L3 L4 L5 L6 L7   N c9 0 1 2 3 4 5 9 rfl dcd dcd)) <| oR <| oR <| oR <| oR <| oR <| oR <| w9) rfl (by decide) (by rfl) rr ⟨⟨rfl, ⟨[], (show ([Value.string (Za L1), vi a2, vs 6 0 (L3.length + 1) (L3.length + 1), vs 7 0 (L4.length + 1) (L4.length + 1), vs 3 0 L5.length L5.length, vs 4 0 L6.length L6.length, Value.map (some 5)] : List Value) = _ from (Ze rfl (Ze rfl (Ze (Zah rfl eqA eqA) (Ze rfl (Ze rfl (Ze rfl (Ze rfl rfl))))))).symm)⟩, by rfl⟩, ⟨(Zl (E := Zt) (α := R_is) _ L5 _), ⟨(Zl (E := Zr) (α := List Int) _ L6 _), ⟨(show Zk L7 = Zk L7 from rfl), ⟨(ZW (E := Zd) (α := RA) _ (L3 ++ ([(⟨y3_0, ((bAt (wd L0 1) 1) - (48 : Int)), ((bAt (wd L0 2) 1) - (48 : Int)), (0 : Int)⟩ : RA)] : List RA)) _), ⟨(ZW (E := eI) (α := Int) _ (L4 ++ ([a2] : List Int)) _), trivial⟩⟩⟩⟩⟩⟩ (Zaq _ rfl)
       | r1 =>
        exact Zi (Z2 [o0, o0, o0] [] [(0, 0), (1, 1), (3, 2)] [(0, (wsl L0 0)), (2, (wsl L0 1)), (3, (wsl L0 2))] [(0, .bs L0), (1, (Zq ((wd L0 0))  y3_0 y3_1  7)), (2, (ZdB (y3_0)    7)), (3, (Z3 ((wd L0 1)) L1 a2 L3 L4 L5 L6 L7   0 1 2 3 4 5 9)), (5, (Zad ((wd L0 2)) L1 a2 L3 L4 L5 L6 L7   0 1 2 3 4 5 9))]) ((dP (ZT #[vp 0 0, Value.int .i32 (114 : Int), Value.string (Za (wd L0 2))] ((wd L0 2)) L1 a2 L3 L4 L5 L6 L7   0 1 2 3 4 5 9), true) :: (dS (rdc L1 a2 L3 L4 L5 L6), true) :: (dS (Zb Zd L3), true) :: (dS (Zb eI L4), true) :: (dS (Zb Zt L5), true) :: (dS (Zb Zr L6), true) :: (dS (Zk L7), true) :: Zdo L0 L1 a2 L3 L4 L5 L6 L7 y3_0 y3_1) (Zc (Zp (Zae #[vp 0 0, Value.int .i32 (114 : Int), Value.string (Za (wd L0 2))] ((wd L0 2)) L1 a2 L3 L4 L5 L6 L7   N c9 0 1 2 3 4 5 9 rfl dcd dcd)) <| oR <| oR <| oR <| oR <| oR <| oR <| w9)
      | r1 =>
       exact Zi (Z2 [o0, o0, o0] [] [(0, 0), (1, 1)] [(0, (wsl L0 0)), (2, (wsl L0 1))] [(0, .bs L0), (1, (Zq ((wd L0 0))  y3_0 y3_1  7)), (2, (ZdB (y3_0)    7)), (3, (Zad ((wd L0 1)) L1 a2 L3 L4 L5 L6 L7   0 1 2 3 4 5 9))]) ((dP (ZT #[vp 0 0, Value.int .i32 (114 : Int), Value.string (Za (wd L0 1))] ((wd L0 1)) L1 a2 L3 L4 L5 L6 L7   0 1 2 3 4 5 9), true) :: (dS (rdc L1 a2 L3 L4 L5 L6), true) :: (dS (Zb Zd L3), true) :: (dS (Zb eI L4), true) :: (dS (Zb Zt L5), true) :: (dS (Zb Zr L6), true) :: (dS (Zk L7), true) :: Zdn L0 L1 a2 L3 L4 L5 L6 L7 y3_0 y3_1) (Zc (Zp (Zae #[vp 0 0, Value.int .i32 (114 : Int), Value.string (Za (wd L0 1))] ((wd L0 1)) L1 a2 L3 L4 L5 L6 L7   N c8 0 1 2 3 4 5 9 rfl dcd dcd)) <| oR <| oR <| oR <| oR <| oR <| oR <| w8)
  | r9 =>
   have w5 : OkL (Zdp L0 L1 a2 L3 L4 L5 L6 L7 y3_0 y3_1) :=
    Zc (Zp (ZpV #[vi y3_0] (y3_0)   N c4  7 rfl dcd dcd)) <| w4
   refine Zh (fun g5 => ?_) (fun g5 => ?_)
   ·
    exact Zi (Z2 [o1] [] [(0, 0)] [(0, (wsl L0 0))] [(0, .bs L0), (1, (Zq ((wd L0 0))  y3_0 y3_1  7)), (2, (ZcC (y3_0)    7))]) (((!y3_1), true) :: Zdp L0 L1 a2 L3 L4 L5 L6 L7 y3_0 y3_1) (Zc nBt <| w5)
   ·
    have w6 : OkL (ZbV L0 L1 a2 L3 L4 L5 L6 L7 y3_0 y3_1) :=
     Zc nBf <| w5
    refine Zh (fun g6 => ?_) (fun g6 => ?_)
    ·
     exact Zi (Z2 [o0, o1] [] [(0, 0)] [(0, (wsl L0 0))] [(0, .bs L0), (1, (Zq ((wd L0 0))  y3_0 y3_1  7)), (2, (ZcC (y3_0)    7))]) ((((((wds L0).length : Nat) : Int) != (4 : Int)), true) :: ZbV L0 L1 a2 L3 L4 L5 L6 L7 y3_0 y3_1) (oD <| w6)
    ·
     refine Zh (fun g7 => ?_) (fun g7 => ?_)
     ·
      exact Zi (Z2 [o0, o0, o1] [] [(0, 0)] [(0, (wsl L0 0))] [(0, .bs L0), (1, (Zq ((wd L0 0))  y3_0 y3_1  7)), (2, (ZcC (y3_0)    7))]) (((decide ((L3.length : Int) ≥ (512 : Int))), true) :: (((((wds L0).length : Nat) : Int) != (4 : Int)), false) :: ZbV L0 L1 a2 L3 L4 L5 L6 L7 y3_0 y3_1) (oY <| oE <| w6)
     ·
      have w8 : OkL (Zdq L0 L1 a2 L3 L4 L5 L6 L7 y3_0 y3_1) :=
       Zc (ZbK 1 ltA) <| oL <| oI <| oN <| oE <| w6
      refine ZaQ (fun z8 c8 => ?_)
      cases z8 with
      | r0 =>
       have w9 : OkL (Zdr L0 L1 a2 L3 L4 L5 L6 L7 y3_0 y3_1) :=
        Zc (ZbK 2 ltA) <| oL <| oI <| Zc (Zp (Zac #[vp 0 0, Value.int .i32 (114 : Int), Value.string (Za (wd L0 1))] ((wd L0 1)) L1 a2 L3 L4 L5 L6 L7   N c8 0 1 2 3 4 5 9 rfl dcd dcd)) <| oR <| oR <| oR <| oR <| oR <| oR <| w8
       refine ZaQ (fun z9 c9 => ?_)
       cases z9 with
       | r0 =>
        have w10 : OkL (Zds L0 L1 a2 L3 L4 L5 L6 L7 y3_0 y3_1) :=
         Zc (ZbK 3 ltA) <| oL <| oI <| Zc (Zp (Zac #[vp 0 0, Value.int .i32 (114 : Int), Value.string (Za (wd L0 2))] ((wd L0 2)) L1 a2 L3 L4 L5 L6 L7   N c9 0 1 2 3 4 5 9 rfl dcd dcd)) <| oR <| oR <| oR <| oR <| oR <| oR <| w9
        refine ZaQ (fun z10 c10 => ?_)
        cases z10 with
        | r0 =>
         refine Zh (fun g11 => ?_) (fun _ => ZbI)
         exact Zc4 ZN (fu := 4000) (orc := (Z2 [o0, o0, o0] [] [(0, 0), (1, 1), (3, 2), (5, 3)] [(0, (wsl L0 0)), (2, (wsl L0 1)), (3, (wsl L0 2)), (4, (wsl L0 3))] [(0, .bs L0), (1, (Zq ((wd L0 0))  y3_0 y3_1  7)), (2, (ZcC (y3_0)    7)), (3, (Z3 ((wd L0 1)) L1 a2 L3 L4 L5 L6 L7   0 1 2 3 4 5 9)), (5, (Z3 ((wd L0 2)) L1 a2 L3 L4 L5 L6 L7   0 1 2 3 4 5 9)), (7, (Z3 ((wd L0 3)) L1 a2 L3 L4 L5 L6 L7   0 1 2 3 4 5 9)), (9, .ap 1 [vi y3_0, vi ((bAt (wd L0 1) 1) - (48 : Int)), vi ((bAt (wd L0 2) 1) - (48 : Int)), vi ((bAt (wd L0 3) 1) - (48 : Int))] (Zb Zd (L3 ++ ([(⟨y3_0, ((bAt (wd L0 1) 1) - (48 : Int)), ((bAt (wd L0 2) 1) - (48 : Int)), ((bAt (wd L0 3) 1) - (48 : Int))⟩ : RA)] : List RA)))), (11, .ap 1 [vi a2] (Zb eI (L4 ++ ([a2] : List Int))))])) (live := [0, 1, 2, 3, 4, 5, 10, 12]) (u := vtt) (bl := [some (.cells [Value.string (Za L1), vi a2, vs 10 0 (L3.length + 1) (L3.length + 1), vs 12 0 (L4.length + 1) (L4.length + 1), vs 3 0 L5.length L5.length, vs 4 0 L6.length L6.length, Value.map (some 5)] 57), none, none, some (.cells (Zb Zt L5) 122 true), some (.cells (Zb Zr L6) 9 true), some (.ro (Zk L7) true), some (.cells (Zb Zd (L3 ++ ([(⟨y3_0, ((bAt (wd L0 1) 1) - (48 : Int)), ((bAt (wd L0 2) 1) - (48 : Int)), ((bAt (wd L0 3) 1) - (48 : Int))⟩ : RA)] : List RA))) 24), some (.cells (Zb eI (L4 ++ ([a2] : List Int))) 3)]) (ob := ((dP ((1 = 1 ∧ Z8 (1 * 1) (List.drop 0 [vi a2]) = some [vi a2] ∧ Z4 Za3 [vi a2] = true) ∧ 0 < 1 ∧ 1 ≤ 100000 ∧ L4.length < L4.length + 1 ∧ L4.length ≤ 100000 ∧ L4.length * 1 ≤ (List.length (Zb eI L4)) ∧ List.take (L4.length * 1) (Zb eI L4) ++ [vi a2] = (Zb eI (L4 ++ ([a2] : List Int)))), true) :: (dP ((1 = 1 ∧ Z8 (1 * 4) (List.drop 0 [vi y3_0, vi ((bAt (wd L0 1) 1) - (48 : Int)), vi ((bAt (wd L0 2) 1) - (48 : Int)), vi ((bAt (wd L0 3) 1) - (48 : Int))]) = some [vi y3_0, vi ((bAt (wd L0 1) 1) - (48 : Int)), vi ((bAt (wd L0 2) 1) - (48 : Int)), vi ((bAt (wd L0 3) 1) - (48 : Int))] ∧ Z4 Za3 [vi y3_0, vi ((bAt (wd L0 1) 1) - (48 : Int)), vi ((bAt (wd L0 2) 1) - (48 : Int)), vi ((bAt (wd L0 3) 1) - (48 : Int))] = true) ∧ 0 < 1 ∧ 1 ≤ 100000 ∧ L3.length < L3.length + 1 ∧ L3.length ≤ 100000 ∧ L3.length * 4 ≤ (List.length (Zb Zd L3)) ∧ List.take (L3.length * 4) (Zb Zd L3) ++ [vi y3_0, vi ((bAt (wd L0 1) 1) - (48 : Int)), vi ((bAt (wd L0 2) 1) - (48 : Int)), vi ((bAt (wd L0 3) 1) - (48 : Int))] = (Zb Zd (L3 ++ ([(⟨y3_0, ((bAt (wd L0 1) 1) - (48 : Int)), ((bAt (wd L0 2) 1) - (48 : Int)), ((bAt (wd L0 3) 1) - (48 : Int))⟩ : RA)] : List RA)))), true) :: (dP (ZS #[vp 0 0, Value.int .i32 (114 : Int), Value.string (Za (wd L0 3))] ((wd L0 3)) L1 a2 L3 L4 L5 L6 L7   0 1 2 3 4 5 9), true) :: (dS (rdc L1 a2 L3 L4 L5 L6), true) :: (dS (Zb Zd L3), true) :: (dS (Zb eI L4), true) :: (dS (Zb Zt L5), true) :: (dS (Zb Zr L6), true) :: (dS (Zk L7), true) :: Zds L0 L1 a2 L3 L4 L5 L6 L7 y3_0 y3_1)) (by as_aux_lemma => kernel_rfl) (Zc (Zp ⟨⟨rfl, ⟨rfl, rfl⟩⟩, by omega, by omega, ltA, by omega, (ZaI (E := eI) (L := L4) (M := ([a2] : List Int)) (n := L4.length) (show _ = _ * 1 from rfl) (by omega) (R := (L4 ++ ([a2] : List Int))) (by rw [List.take_of_length_le (by omega)]))⟩) <| Zc (Zp ⟨⟨rfl, ⟨rfl, rfl⟩⟩, by omega, by omega, ltA, by omega, (ZaI (E := Zd) (L := L3) (M := ([(⟨y3_0, ((bAt (wd L0 1) 1) - (48 : Int)), ((bAt (wd L0 2) 1) - (48 : Int)), ((bAt (wd L0 3) 1) - (48 : Int))⟩ : RA)] : List RA)) (n := L3.length) (show _ = _ * 4 from rfl) (by omega) (R := (L3 ++ ([(⟨y3_0, ((bAt (wd L0 1) 1) - (48 : Int)), ((bAt (wd L0 2) 1) - (48 : Int)), ((bAt (wd L0 3) 1) - (48 : Int))⟩ : RA)] : List RA))) (by rw [List.take_of_length_le (by omega)]))⟩) <| Zc (Zp (Zac #[vp 0 0, Value.int .i32 (114 : Int), Value.string (Za (wd L0 3))] ((wd L0 3)) L1 a2 L3 L4 L5 L6 L7   N c10 0 1 2 3 4 5 9 rfl dcd dcd)) <| oR <| oR <| oR <| oR <| oR <| oR <| w10) rfl (by decide) (by rfl) rr ⟨⟨rfl, ⟨[], (show ([Value.string (Za L1), vi a2, vs 6 0 (L3.length + 1) (L3.length + 1), vs 7 0 (L4.length + 1) (L4.length + 1), vs 3 0 L5.length L5.length, vs 4 0 L6.length L6.length, Value.map (some 5)] : List Value) = _ from (Ze rfl (Ze rfl (Ze (Zah rfl eqA eqA) (Ze rfl (Ze rfl (Ze rfl (Ze rfl rfl))))))).symm)⟩, by rfl⟩, ⟨(Zl (E := Zt) (α := R_is) _ L5 _), ⟨(Zl (E := Zr) (α := List Int) _ L6 _), ⟨(show Zk L7 = Zk L7 from rfl), ⟨(ZW (E := Zd) (α := RA) _ (L3 ++ ([(⟨y3_0, ((bAt (wd L0 1) 1) - (48 : Int)), ((bAt (wd L0 2) 1) - (48 : Int)), ((bAt (wd L0 3) 1) - (48 : Int))⟩ : RA)] : List RA)) _), ⟨(ZW (E := eI) (α := Int) _ (L4 ++ ([a2] : List Int)) _), trivial⟩⟩⟩⟩⟩⟩ (Zaq _ rfl)
        | r1 =>
         exact Zi (Z2 [o0, o0, o0] [] [(0, 0), (1, 1), (3, 2), (5, 3)] [(0, (wsl L0 0)), (2, (wsl L0 1)), (3, (wsl L0 2)), (4, (wsl L0 3))] [(0, .bs L0), (1, (Zq ((wd L0 0))  y3_0 y3_1  7)), (2, (ZcC (y3_0)    7)), (3, (Z3 ((wd L0 1)) L1 a2 L3 L4 L5 L6 L7   0 1 2 3 4 5 9)), (5, (Z3 ((wd L0 2)) L1 a2 L3 L4 L5 L6 L7   0 1 2 3 4 5 9)), (7, (Zad ((wd L0 3)) L1 a2 L3 L4 L5 L6 L7   0 1 2 3 4 5 9))]) ((dP (ZT #[vp 0 0, Value.int .i32 (114 : Int), Value.string (Za (wd L0 3))] ((wd L0 3)) L1 a2 L3 L4 L5 L6 L7   0 1 2 3 4 5 9), true) :: (dS (rdc L1 a2 L3 L4 L5 L6), true) :: (dS (Zb Zd L3), true) :: (dS (Zb eI L4), true) :: (dS (Zb Zt L5), true) :: (dS (Zb Zr L6), true) :: (dS (Zk L7), true) :: Zds L0 L1 a2 L3 L4 L5 L6 L7 y3_0 y3_1) (Zc (Zp (Zae #[vp 0 0, Value.int .i32 (114 : Int), Value.string (Za (wd L0 3))] ((wd L0 3)) L1 a2 L3 L4 L5 L6 L7   N c10 0 1 2 3 4 5 9 rfl dcd dcd)) <| oR <| oR <| oR <| oR <| oR <| oR <| w10)
       | r1 =>
        exact Zi (Z2 [o0, o0, o0] [] [(0, 0), (1, 1), (3, 2)] [(0, (wsl L0 0)), (2, (wsl L0 1)), (3, (wsl L0 2))] [(0, .bs L0), (1, (Zq ((wd L0 0))  y3_0 y3_1  7)), (2, (ZcC (y3_0)    7)), (3, (Z3 ((wd L0 1)) L1 a2 L3 L4 L5 L6 L7   0 1 2 3 4 5 9)), (5, (Zad ((wd L0 2)) L1 a2 L3 L4 L5 L6 L7   0 1 2 3 4 5 9))]) ((dP (ZT #[vp 0 0, Value.int .i32 (114 : Int), Value.string (Za (wd L0 2))] ((wd L0 2)) L1 a2 L3 L4 L5 L6 L7   0 1 2 3 4 5 9), true) :: (dS (rdc L1 a2 L3 L4 L5 L6), true) :: (dS (Zb Zd L3), true) :: (dS (Zb eI L4), true) :: (dS (Zb Zt L5), true) :: (dS (Zb Zr L6), true) :: (dS (Zk L7), true) :: Zdr L0 L1 a2 L3 L4 L5 L6 L7 y3_0 y3_1) (Zc (Zp (Zae #[vp 0 0, Value.int .i32 (114 : Int), Value.string (Za (wd L0 2))] ((wd L0 2)) L1 a2 L3 L4 L5 L6 L7   N c9 0 1 2 3 4 5 9 rfl dcd dcd)) <| oR <| oR <| oR <| oR <| oR <| oR <| w9)
      | r1 =>
       exact Zi (Z2 [o0, o0, o0] [] [(0, 0), (1, 1)] [(0, (wsl L0 0)), (2, (wsl L0 1))] [(0, .bs L0), (1, (Zq ((wd L0 0))  y3_0 y3_1  7)), (2, (ZcC (y3_0)    7)), (3, (Zad ((wd L0 1)) L1 a2 L3 L4 L5 L6 L7   0 1 2 3 4 5 9))]) ((dP (ZT #[vp 0 0, Value.int .i32 (114 : Int), Value.string (Za (wd L0 1))] ((wd L0 1)) L1 a2 L3 L4 L5 L6 L7   0 1 2 3 4 5 9), true) :: (dS (rdc L1 a2 L3 L4 L5 L6), true) :: (dS (Zb Zd L3), true) :: (dS (Zb eI L4), true) :: (dS (Zb Zt L5), true) :: (dS (Zb Zr L6), true) :: (dS (Zk L7), true) :: Zdq L0 L1 a2 L3 L4 L5 L6 L7 y3_0 y3_1) (Zc (Zp (Zae #[vp 0 0, Value.int .i32 (114 : Int), Value.string (Za (wd L0 1))] ((wd L0 1)) L1 a2 L3 L4 L5 L6 L7   N c8 0 1 2 3 4 5 9 rfl dcd dcd)) <| oR <| oR <| oR <| oR <| oR <| oR <| w8)

end Ev
end Go.Proofs.YtlbbiflodemagaaDoor
/- Calls do what the plain functions say. -/
namespace Go.Proofs.YtlbbiflodemagaaDoor
open Go.RowKit
namespace Ev
set_option linter.unusedVariables false
set_option maxRecDepth 100000
theorem ZcJ (L0 L1 : List Int) (a2 : Int) (L3 : List RA) (L4 : List Int) (L5 : List R_is) (L6 : List (List Int)) (L7 : List R_si) (N : Nat) (r : Zg) (h : Zaw L0 L1 a2 L3 L4 L5 L6 L7 N = some r) : LSpec Tryd.prog 51 #[vp 0 0, Value.string (Za L0)] (rpr L1 a2 L3 L4 L5 L6 L7) (ZdR L0 L1 a2 L3 L4 L5 L6 L7 r) (ZdH L0 L1 a2 L3 L4 L5 L6 L7 r) :=
 Zjb L0 L1 a2 L3 L4 L5 L6 L7 N r h

noncomputable def Zj8 (L0 L1 : List Int) (a2 : Int) (L3 : List RA) (L4 : List Int) (L5 : List R_is) (L6 : List (List Int)) (L7 : List R_si) (k0 k1 k2 k3 k4 k5 n : Nat) : Za8 := .call [(k0, .cells [Value.string (Za L1), vi a2, vs k1 0 L3.length L3.length, vs k2 0 L4.length L4.length, vs k3 0 L5.length L5.length, vs k4 0 L6.length L6.length, Value.map (some k5)] 57), (k1, .cells (Zb Zd L3) 24 true), (k2, .cells (Zb eI L4) 3 true), (k3, .cells (Zb Zt L5) 122 true), (k4, .cells (Zb Zr L6) 9 true), (k5, .ro (Zk L7) true)] (Value.iface 88 (Value.agg #[vi a2])) [(k0, none), (k1, none), (k2, none), (k3, none), (k4, none), (k5, none)] 0
def ZfG (A : Array Value) (L0 L1 : List Int) (a2 : Int) (L3 : List RA) (L4 : List Int) (L5 : List R_is) (L6 : List (List Int)) (L7 : List R_si) (k0 k1 k2 k3 k4 k5 n : Nat) : Prop := ZB Tryd.prog 51 A [(k0, .cells [Value.string (Za L1), vi a2, vs k1 0 L3.length L3.length, vs k2 0 L4.length L4.length, vs k3 0 L5.length L5.length, vs k4 0 L6.length L6.length, Value.map (some k5)] 57), (k1, .cells (Zb Zd L3) 24 true), (k2, .cells (Zb eI L4) 3 true), (k3, .cells (Zb Zt L5) 122 true), (k4, .cells (Zb Zr L6) 9 true), (k5, .ro (Zk L7) true)] (Value.iface 88 (Value.agg #[vi a2])) [(k0, none), (k1, none), (k2, none), (k3, none), (k4, none), (k5, none)] n 0

theorem Zj9 (A : Array Value) (L0 L1 : List Int) (a2 : Int) (L3 : List RA) (L4 : List Int) (L5 : List R_is) (L6 : List (List Int)) (L7 : List R_si) (N : Nat) (h : Zaw L0 L1 a2 L3 L4 L5 L6 L7 N = some (.r0)) (k0 k1 k2 k3 k4 k5 n : Nat) (hA : A = #[vp k0 0, Value.string (Za L0)]) (hnd : ([k0, k1, k2, k3, k4, k5] : List Nat).Nodup) (hlt : ∀ k ∈ ([k0, k1, k2, k3, k4, k5] : List Nat), k < n) : ZfG A L0 L1 a2 L3 L4 L5 L6 L7 k0 k1 k2 k3 k4 k5 n :=
 Zaj hA (LSpec.callL (show LSpec Tryd.prog 51 #[vp 0 0, Value.string (Za L0)] (rpr L1 a2 L3 L4 L5 L6 L7) (Value.iface 88 (Value.agg #[vi a2])) [none, none, none, none, none, none] from ZcJ L0 L1 a2 L3 L4 L5 L6 L7 N _ h) [k0, k1, k2, k3, k4, k5] n [0, 1, 2, 3, 4, 5] rfl hnd hlt (show 6 ≤ 6 from by decide) (show ∀ j ∈ ([0, 1, 2, 3, 4, 5] : List Nat), j < 6 from by decide) (by rfl) ⟨rfl, ⟨(Zo _ _ _), ⟨(Zo _ _ _), ⟨(Zo _ _ _), ⟨(Zo _ _ _), ⟨rfl, trivial⟩⟩⟩⟩⟩⟩ (by rfl) trivial ⟨.inl (by decide), ⟨.inl (by decide), ⟨.inl (by decide), ⟨.inl (by decide), ⟨.inl (by decide), ⟨.inl (by decide), trivial⟩⟩⟩⟩⟩⟩ rfl rfl rfl (Ze (Zj rfl rfl) (Ze (Zj rfl (Zz _ _ _)) (Ze (Zj rfl (Zz _ _ _)) (Ze (Zj rfl (Zz _ _ _)) (Ze (Zj rfl (Zz _ _ _)) (Ze (Zj rfl rfl) rfl)))))) (Ze (Zj rfl rfl) (Ze (Zj rfl rfl) (Ze (Zj rfl rfl) (Ze (Zj rfl rfl) (Ze (Zj rfl rfl) (Ze (Zj rfl rfl) rfl)))))))

noncomputable def ZjA (L0 L1 : List Int) (a2 : Int) (L3 : List RA) (L4 : List Int) (L5 : List R_is) (L6 : List (List Int)) (L7 : List R_si) (w5 : List RA) (k0 k1 k2 k3 k4 k5 n : Nat) : Za8 := .call [(k0, .cells [Value.string (Za L1), vi a2, vs k1 0 L3.length L3.length, vs k2 0 L4.length L4.length, vs k3 0 L5.length L5.length, vs k4 0 L6.length L6.length, Value.map (some k5)] 57), (k1, .cells (Zb Zd L3) 24 true), (k2, .cells (Zb eI L4) 3 true), (k3, .cells (Zb Zt L5) 122 true), (k4, .cells (Zb Zr L6) 9 true), (k5, .ro (Zk L7) true)] (vtt) [(k0, some (.cells [Value.string (Za L1), vi a2, vs n 0 w5.length w5.length, vs (n + 1) 0 (L4.length + 1) (L4.length + 1), vs k3 0 L5.length L5.length, vs k4 0 L6.length L6.length, Value.map (some k5)] 57)), (k1, none), (k2, none), (n, some (.cells (Zb Zd w5) 24)), ((n + 1), some (.cells (Zb eI (L4 ++ ([a2] : List Int))) 3))] 2
def ZfH (A : Array Value) (L0 L1 : List Int) (a2 : Int) (L3 : List RA) (L4 : List Int) (L5 : List R_is) (L6 : List (List Int)) (L7 : List R_si) (w5 : List RA) (k0 k1 k2 k3 k4 k5 n : Nat) : Prop := ZB Tryd.prog 51 A [(k0, .cells [Value.string (Za L1), vi a2, vs k1 0 L3.length L3.length, vs k2 0 L4.length L4.length, vs k3 0 L5.length L5.length, vs k4 0 L6.length L6.length, Value.map (some k5)] 57), (k1, .cells (Zb Zd L3) 24 true), (k2, .cells (Zb eI L4) 3 true), (k3, .cells (Zb Zt L5) 122 true), (k4, .cells (Zb Zr L6) 9 true), (k5, .ro (Zk L7) true)] (vtt) [(k0, some (.cells [Value.string (Za L1), vi a2, vs n 0 w5.length w5.length, vs (n + 1) 0 (L4.length + 1) (L4.length + 1), vs k3 0 L5.length L5.length, vs k4 0 L6.length L6.length, Value.map (some k5)] 57)), (k1, none), (k2, none), (n, some (.cells (Zb Zd w5) 24)), ((n + 1), some (.cells (Zb eI (L4 ++ ([a2] : List Int))) 3))] n 2

theorem ZjB (A : Array Value) (L0 L1 : List Int) (a2 : Int) (L3 : List RA) (L4 : List Int) (L5 : List R_is) (L6 : List (List Int)) (L7 : List R_si) (w5 : List RA) (N : Nat) (h : Zaw L0 L1 a2 L3 L4 L5 L6 L7 N = some (.r1 w5)) (k0 k1 k2 k3 k4 k5 n : Nat) (hA : A = #[vp k0 0, Value.string (Za L0)]) (hnd : ([k0, k1, k2, k3, k4, k5] : List Nat).Nodup) (hlt : ∀ k ∈ ([k0, k1, k2, k3, k4, k5] : List Nat), k < n) : ZfH A L0 L1 a2 L3 L4 L5 L6 L7 w5 k0 k1 k2 k3 k4 k5 n :=
 Zaj hA (LSpec.callL (show LSpec Tryd.prog 51 #[vp 0 0, Value.string (Za L0)] (rpr L1 a2 L3 L4 L5 L6 L7) (vtt) [some (.cells [Value.string (Za L1), vi a2, vs 6 0 w5.length w5.length, vs 7 0 (L4.length + 1) (L4.length + 1), vs 3 0 L5.length L5.length, vs 4 0 L6.length L6.length, Value.map (some 5)] 57), none, none, some (.cells (Zb Zt L5) 122 true), some (.cells (Zb Zr L6) 9 true), some (.ro (Zk L7) true), some (.cells (Zb Zd w5) 24), some (.cells (Zb eI (L4 ++ ([a2] : List Int))) 3)] from ZcJ L0 L1 a2 L3 L4 L5 L6 L7 N _ h) [k0, k1, k2, k3, k4, k5] n [0, 1, 2, 6, 7] rfl hnd hlt (show 6 ≤ 8 from by decide) (show ∀ j ∈ ([0, 1, 2, 6, 7] : List Nat), j < 8 from by decide) (by rfl) ⟨rfl, ⟨(Zo _ _ _), ⟨(Zo _ _ _), ⟨(Zo _ _ _), ⟨(Zo _ _ _), ⟨rfl, trivial⟩⟩⟩⟩⟩⟩ (by rfl) ⟨rfl, ⟨(Zo _ _ _), ⟨(Zo _ _ _), ⟨rfl, ⟨(Zo _ _ _), ⟨(Zo _ _ _), trivial⟩⟩⟩⟩⟩⟩ ⟨.inl (by decide), ⟨.inl (by decide), ⟨.inl (by decide), ⟨.inr rfl, ⟨.inr rfl, ⟨.inr rfl, ⟨(by decide), ⟨(by decide), trivial⟩⟩⟩⟩⟩⟩⟩⟩ rfl rfl rfl (Ze (Zj rfl rfl) (Ze (Zj rfl (Zz _ _ _)) (Ze (Zj rfl (Zz _ _ _)) (Ze (Zj rfl (Zz _ _ _)) (Ze (Zj rfl (Zz _ _ _)) (Ze (Zj rfl rfl) rfl)))))) (Ze (Zj rfl (Za6 rfl)) (Ze (Zj rfl rfl) (Ze (Zj rfl rfl) (Ze (Zj rfl (Za6 (ZgH _ _ _))) (Ze (Zj rfl (Za6 (ZgH _ _ _))) rfl))))))

noncomputable def ZjC (L0 L1 : List Int) (a2 : Int) (L3 : List RA) (L4 : List Int) (L5 : List R_is) (L6 : List (List Int)) (L7 : List R_si) (w4 : List RA) (w6 : List R_is) (k0 k1 k2 k3 k4 k5 n : Nat) : Za8 := .call [(k0, .cells [Value.string (Za L1), vi a2, vs k1 0 L3.length L3.length, vs k2 0 L4.length L4.length, vs k3 0 L5.length L5.length, vs k4 0 L6.length L6.length, Value.map (some k5)] 57), (k1, .cells (Zb Zd L3) 24 true), (k2, .cells (Zb eI L4) 3 true), (k3, .cells (Zb Zt L5) 122 true), (k4, .cells (Zb Zr L6) 9 true), (k5, .ro (Zk L7) true)] (vtt) [(k0, some (.cells [Value.string (Za L1), vi a2, vs n 0 w4.length w4.length, vs (n + 1) 0 (L4.length + 1) (L4.length + 1), vs (n + 2) 0 w6.length w6.length, vs k4 0 L6.length L6.length, Value.map (some k5)] 57)), (k1, none), (k2, none), (k3, none), (n, some (.cells (Zb Zd w4) 24)), ((n + 1), some (.cells (Zb eI (L4 ++ ([a2] : List Int))) 3)), ((n + 2), some (.cells (Zb Zt w6) 122))] 3
def ZfI (A : Array Value) (L0 L1 : List Int) (a2 : Int) (L3 : List RA) (L4 : List Int) (L5 : List R_is) (L6 : List (List Int)) (L7 : List R_si) (w4 : List RA) (w6 : List R_is) (k0 k1 k2 k3 k4 k5 n : Nat) : Prop := ZB Tryd.prog 51 A [(k0, .cells [Value.string (Za L1), vi a2, vs k1 0 L3.length L3.length, vs k2 0 L4.length L4.length, vs k3 0 L5.length L5.length, vs k4 0 L6.length L6.length, Value.map (some k5)] 57), (k1, .cells (Zb Zd L3) 24 true), (k2, .cells (Zb eI L4) 3 true), (k3, .cells (Zb Zt L5) 122 true), (k4, .cells (Zb Zr L6) 9 true), (k5, .ro (Zk L7) true)] (vtt) [(k0, some (.cells [Value.string (Za L1), vi a2, vs n 0 w4.length w4.length, vs (n + 1) 0 (L4.length + 1) (L4.length + 1), vs (n + 2) 0 w6.length w6.length, vs k4 0 L6.length L6.length, Value.map (some k5)] 57)), (k1, none), (k2, none), (k3, none), (n, some (.cells (Zb Zd w4) 24)), ((n + 1), some (.cells (Zb eI (L4 ++ ([a2] : List Int))) 3)), ((n + 2), some (.cells (Zb Zt w6) 122))] n 3

theorem ZjD (A : Array Value) (L0 L1 : List Int) (a2 : Int) (L3 : List RA) (L4 : List Int) (L5 : List R_is) (L6 : List (List Int)) (L7 : List R_si) (w4 : List RA) (w6 : List R_is) (N : Nat) (h : Zaw L0 L1 a2 L3 L4 L5 L6 L7 N = some (.r2 w4 w6)) (k0 k1 k2 k3 k4 k5 n : Nat) (hA : A = #[vp k0 0, Value.string (Za L0)]) (hnd : ([k0, k1, k2, k3, k4, k5] : List Nat).Nodup) (hlt : ∀ k ∈ ([k0, k1, k2, k3, k4, k5] : List Nat), k < n) : ZfI A L0 L1 a2 L3 L4 L5 L6 L7 w4 w6 k0 k1 k2 k3 k4 k5 n :=
 Zaj hA (LSpec.callL (show LSpec Tryd.prog 51 #[vp 0 0, Value.string (Za L0)] (rpr L1 a2 L3 L4 L5 L6 L7) (vtt) [some (.cells [Value.string (Za L1), vi a2, vs 6 0 w4.length w4.length, vs 7 0 (L4.length + 1) (L4.length + 1), vs 8 0 w6.length w6.length, vs 4 0 L6.length L6.length, Value.map (some 5)] 57), none, none, none, some (.cells (Zb Zr L6) 9 true), some (.ro (Zk L7) true), some (.cells (Zb Zd w4) 24), some (.cells (Zb eI (L4 ++ ([a2] : List Int))) 3), some (.cells (Zb Zt w6) 122)] from ZcJ L0 L1 a2 L3 L4 L5 L6 L7 N _ h) [k0, k1, k2, k3, k4, k5] n [0, 1, 2, 3, 6, 7, 8] rfl hnd hlt (show 6 ≤ 9 from by decide) (show ∀ j ∈ ([0, 1, 2, 3, 6, 7, 8] : List Nat), j < 9 from by decide) (by rfl) ⟨rfl, ⟨(Zo _ _ _), ⟨(Zo _ _ _), ⟨(Zo _ _ _), ⟨(Zo _ _ _), ⟨rfl, trivial⟩⟩⟩⟩⟩⟩ (by rfl) ⟨rfl, ⟨(Zo _ _ _), ⟨rfl, ⟨(Zo _ _ _), ⟨(Zo _ _ _), ⟨(Zo _ _ _), trivial⟩⟩⟩⟩⟩⟩ ⟨.inl (by decide), ⟨.inl (by decide), ⟨.inl (by decide), ⟨.inl (by decide), ⟨.inr rfl, ⟨.inr rfl, ⟨(by decide), ⟨(by decide), ⟨(by decide), trivial⟩⟩⟩⟩⟩⟩⟩⟩⟩ rfl rfl rfl (Ze (Zj rfl rfl) (Ze (Zj rfl (Zz _ _ _)) (Ze (Zj rfl (Zz _ _ _)) (Ze (Zj rfl (Zz _ _ _)) (Ze (Zj rfl (Zz _ _ _)) (Ze (Zj rfl rfl) rfl)))))) (Ze (Zj rfl (Za6 rfl)) (Ze (Zj rfl rfl) (Ze (Zj rfl rfl) (Ze (Zj rfl rfl) (Ze (Zj rfl (Za6 (ZgH _ _ _))) (Ze (Zj rfl (Za6 (ZgH _ _ _))) (Ze (Zj rfl (Za6 (ZgH _ _ _))) rfl))))))))

noncomputable def Zhy (a0 a1 a2 a3 : Int) : ZaO → Value
 | .r0 w0 => vi w0
noncomputable def ZgC (a0 a1 a2 a3 : Int) : ZaO → List (Option AObj)
 | .r0 w0 => []

abbrev ZjE (a0 a1 a2 a3 : Int) (r : ZaO) : Prop := Gx Tryd.prog 14 [] #[Value.agg #[vi a0, vi a1, vi a2, vi a3]] (Zhy a0 a1 a2 a3) (ZgC a0 a1 a2 a3) (some r)
theorem Zm7 {a0 : Int} {a1 : Int} {a2 : Int} {a3 : Int} {r : ZaO} {orc : Orc} {u : Value} {ob : List (Bool × Bool)} (hev : ZaL [] (ZaR Tryd.prog ZG 14 [] #[Value.agg #[vi a0, vi a1, vi a2, vi a3]] 4000 orc) = some (u, [], ob)) (ho : ∀ p ∈ ob, p.1 = p.2) (hv : Zhy a0 a1 a2 a3 r = Za5 (rho [] far) 3 u ∧ Zau 3 u = true) (hp : ZgC a0 a1 a2 a3 r = [] := by rfl) : ZjE a0 a1 a2 a3 r :=
 Zc4 ZdU (live := []) (bl := []) hev ho (by rw [hp]; rfl) (by decide) (by rfl) hv (by rw [hp]; trivial) (by rw [hp]; exact Zaq _ rfl)

theorem Zf {a0 : Int} {a1 : Int} {a2 : Int} {a3 : Int} (orc : Orc) (ob : List (Bool × Bool)) (ho : ∀ p ∈ ob, p.1 = p.2) (hev : ZaL [] (ZaR Tryd.prog ZG 14 [] #[Value.agg #[vi a0, vi a1, vi a2, vi a3]] 4000 orc) = some (vi (100 : Int), [], ob) := by as_aux_lemma => kernel_rfl) : ZjE a0 a1 a2 a3 (.r0 (100) : ZaO) := Zm7 hev ho rr

noncomputable def ZhR (a0 a1 a2 a3 : Int) : List (Bool × Bool) := ((decide (a0 < (0 : Int))), false) :: []

noncomputable def ZK (a0 a1 a2 a3 : Int) : List (Bool × Bool) := ((decide (a0 ≥ (21 : Int))), false) :: ZhR a0 a1 a2 a3

noncomputable def Zce (a0 a1 a2 a3 : Int) : List (Bool × Bool) := (Nat.blt 1 21, true) :: (a0 == Int.ofNat 1, true) :: ZK a0 a1 a2 a3

theorem Zaf {a0 : Int} {a1 : Int} {a2 : Int} {a3 : Int} (orc : Orc) (ob : List (Bool × Bool)) (ho : ∀ p ∈ ob, p.1 = p.2) (hev : ZaL [] (ZaR Tryd.prog ZG 14 [] #[Value.agg #[vi a0, vi a1, vi a2, vi a3]] 4000 orc) = some (vq, [], ob) := by as_aux_lemma => kernel_rfl) : ZjE a0 a1 a2 a3 (.r0 (0) : ZaO) := Zm7 hev ho rr

noncomputable def Zcf (a0 a1 a2 a3 : Int) : List (Bool × Bool) := (Nat.blt 2 21, true) :: (a0 == Int.ofNat 2, true) :: ZK a0 a1 a2 a3

noncomputable def Zcg (a0 a1 a2 a3 : Int) : List (Bool × Bool) := (Nat.blt 3 21, true) :: (a0 == Int.ofNat 3, true) :: ZK a0 a1 a2 a3

noncomputable def Zch (a0 a1 a2 a3 : Int) : List (Bool × Bool) := (Nat.blt 4 21, true) :: (a0 == Int.ofNat 4, true) :: ZK a0 a1 a2 a3

noncomputable def Zci (a0 a1 a2 a3 : Int) : List (Bool × Bool) := (Nat.blt 5 21, true) :: (a0 == Int.ofNat 5, true) :: ZK a0 a1 a2 a3

noncomputable def Zcj (a0 a1 a2 a3 : Int) : List (Bool × Bool) := (Nat.blt 6 21, true) :: (a0 == Int.ofNat 6, true) :: ZK a0 a1 a2 a3

noncomputable def Zck (a0 a1 a2 a3 : Int) : List (Bool × Bool) := (Nat.blt 7 21, true) :: (a0 == Int.ofNat 7, true) :: ZK a0 a1 a2 a3

noncomputable def Zcl (a0 a1 a2 a3 : Int) : List (Bool × Bool) := (Nat.blt 8 21, true) :: (a0 == Int.ofNat 8, true) :: ZK a0 a1 a2 a3

noncomputable def Zb7 (a0 a1 a2 a3 : Int) : List (Bool × Bool) := (Nat.blt 9 21, true) :: (a0 == Int.ofNat 9, true) :: ZK a0 a1 a2 a3

noncomputable def Zb8 (a0 a1 a2 a3 : Int) : List (Bool × Bool) := (Nat.blt 10 21, true) :: (a0 == Int.ofNat 10, true) :: ZK a0 a1 a2 a3

noncomputable def ZcT (a0 a1 a2 a3 : Int) : List (Bool × Bool) := (Nat.blt 11 21, true) :: (a0 == Int.ofNat 11, true) :: ZK a0 a1 a2 a3

noncomputable def Zf1 (a0 a1 a2 a3 : Int) : List (Bool × Bool) := (dP (a2 = Int.ofNat (a2).toNat ∧ (a2).toNat ≤ IntKind.i64.bits), true) :: ((decide (a2 ≤ (16 : Int))), true) :: ((decide ((1 : Int) ≤ a2)), true) :: ((decide (a1 ≤ (7 : Int))), true) :: ((decide ((0 : Int) ≤ a1)), true) :: ZcT a0 a1 a2 a3

noncomputable def Zb9 (a0 a1 a2 a3 : Int) : List (Bool × Bool) := (Nat.blt 12 21, true) :: (a0 == Int.ofNat 12, true) :: ZK a0 a1 a2 a3

noncomputable def ZbA (a0 a1 a2 a3 : Int) : List (Bool × Bool) := (Nat.blt 13 21, true) :: (a0 == Int.ofNat 13, true) :: ZK a0 a1 a2 a3

noncomputable def ZbB (a0 a1 a2 a3 : Int) : List (Bool × Bool) := (Nat.blt 14 21, true) :: (a0 == Int.ofNat 14, true) :: ZK a0 a1 a2 a3

noncomputable def ZbC (a0 a1 a2 a3 : Int) : List (Bool × Bool) := (Nat.blt 15 21, true) :: (a0 == Int.ofNat 15, true) :: ZK a0 a1 a2 a3

noncomputable def ZbD (a0 a1 a2 a3 : Int) : List (Bool × Bool) := (Nat.blt 16 21, true) :: (a0 == Int.ofNat 16, true) :: ZK a0 a1 a2 a3

noncomputable def ZbE (a0 a1 a2 a3 : Int) : List (Bool × Bool) := (Nat.blt 17 21, true) :: (a0 == Int.ofNat 17, true) :: ZK a0 a1 a2 a3

noncomputable def ZbF (a0 a1 a2 a3 : Int) : List (Bool × Bool) := (Nat.blt 18 21, true) :: (a0 == Int.ofNat 18, true) :: ZK a0 a1 a2 a3

noncomputable def ZbG (a0 a1 a2 a3 : Int) : List (Bool × Bool) := (Nat.blt 19 21, true) :: (a0 == Int.ofNat 19, true) :: ZK a0 a1 a2 a3

noncomputable def ZbH (a0 a1 a2 a3 : Int) : List (Bool × Bool) := (Nat.blt 20 21, true) :: (a0 == Int.ofNat 20, true) :: ZK a0 a1 a2 a3

end Ev
end Go.Proofs.YtlbbiflodemagaaDoor
