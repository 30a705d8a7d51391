/- Calls do what the plain functions say. -/
import Derived.Test.YtgnmjjakmeomiaaUrq5
namespace Go.Proofs.Ytgnmjjakmeomiaa
open Go.RowKit
namespace Ev
set_option linter.unusedVariables false
set_option maxRecDepth 100000
noncomputable def ZfR (a0 : Int) : ZA → Value
 | .r0 w0 => Value.bool w0
noncomputable def ZfB (a0 : Int) : ZA → List (Option AObj)
 | .r0 w0 => []

def Zjm : Z7 → Nat
 | .h1m0 v1 => 1
 | .h1m1 v2 => 1
noncomputable def ZjE (a0 : Int) : Z7 → List (Nat × Value)
 | .h1m0 v1 => [(1, vn), (5, Value.pointer none), (7, vp 0 0), (9, vq)]
 | .h1m1 v2 => [(1, vn), (5, vp 0 0), (7, vp 1 0), (9, vq)]
noncomputable def ZjF (a0 : Int) : Z7 → List (Option AObj)
 | .h1m0 v1 => [some (.cells [vi v1, vn] 29)]
 | .h1m1 v2 => [some (.cells [vi a0, vn] 60), some (.cells [vi v2, vn] 29)]

noncomputable def Zb6 : Nat → Code × List ZaY
 | 1 => ZcR [1, 1, 1, 1, 0, 1, 3] (ZdJ Try.f3) []
 | _ => (.skip, [])
def Zjn : Nat → Bool
 | 1 => true
 | _ => true
noncomputable def ZS (a0 : Int) (N : Nat) : Mach := ⟨Try.f3, [], Z7, ZA, Zcg a0 N, Zjm, Zb6, Zjn, ZjE a0, ZjF a0, ZfR a0, ZfB a0⟩

theorem Zhe (a0 v1 : Int) (N : Nat) : (ZS a0 N).Ok Try.prog Zw (.h1m0 v1 : Z7) (Zcg a0 N (.h1m0 v1 : Z7)) := by
 show (ZS a0 N).Ok Try.prog Zw (.h1m0 v1 : Z7) (ZdB a0 N v1)
 unfold ZdB
 exact Mach.ok_fin (M := ZS a0 N) (cd := 1000000) (cm := 0) (r := (.r0 (true) : ZA)) (fu := 4000) (orc := (Zm [] [] [] [] [])) (live := []) (u := vT) (bl := []) (ob := []) (fun gv => by kernel_rfl) Zj rfl (by decide) (by rfl) rr trivial

theorem Zhf (a0 v2 : Int) (N : Nat) : (ZS a0 N).Ok Try.prog Zw (.h1m1 v2 : Z7) (Zcg a0 N (.h1m1 v2 : Z7)) := by
 show (ZS a0 N).Ok Try.prog Zw (.h1m1 v2 : Z7) (ZdC a0 N v2)
 unfold ZdC
 exact Mach.ok_fin (M := ZS a0 N) (cd := 1000000) (cm := 0) (r := (.r0 (true) : ZA)) (fu := 4000) (orc := (Zm [] [] [] [] [])) (live := []) (u := vT) (bl := []) (ob := []) (fun gv => by kernel_rfl) Zj rfl (by decide) (by rfl) rr trivial

theorem Zi4 (a0 : Int) (N : Nat) : (ZS a0 N).Enter Try.prog Zw #[vi a0, vn] (ZcA a0 N) := by
 unfold ZcA
 refine Mach.en_bind (fun z0 c0 => ?_)
 cases z0 with
 | r0 =>
  refine Mach.en_bind (fun z1 c1 => ?_)
  cases z1 with
  | r0 y1_0 y1_1 =>
   refine Mach.en_ite (fun g2 => ?_) (fun g2 => ?_)
   ·
    exact Mach.en_fin (M := ZS a0 N) (cd := 1000000) (cm := 0) (r := (.r0 (false) : ZA)) (fu := 4000) (orc := (Zm [(0, true)] [] [] [] [(0, (Zgc (a0)    0)), (1, (ZcZ (a0)  y1_0 y1_1  0))])) (live := []) (u := vf) (bl := []) (ob := [(((1 : Int) != y1_1), true), (dP (Zc7 #[vi a0] (a0)  y1_0 y1_1  0), true), (dP (ZeW #[vi a0] (a0)    0), true)]) (by kernel_rfl) (oD <| Zb (Zi (Zda #[vi a0] (a0)  y1_0 y1_1 N c1  0 rfl (by decide) (by decide))) <| Zb (Zi (Zgd #[vi a0] (a0)   N c0  0 rfl (by decide) (by decide))) Zj) rfl (by decide) (by rfl) rr trivial
   ·
    exact Mach.en_head (bK := Zb6 1) (M := ZS a0 N) (cd := 1000000) (cm := 0) (y := (.h1m0 (y1_0) : Z7)) (fu := 4000) (orc := (Zm [(0, false), (2, false)] [] [] [] [(0, (Zgc (a0)    0)), (1, (ZcZ (a0)  y1_0 y1_1  0))])) (live := [0]) (tv := [some (vn), some (Value.pointer none), some (vp 0 0), some (vq)]) (bl := [some (.cells [vi y1_0, vn] 29)]) (ob := [((y1_1 == (0 : Int)), false), (((1 : Int) != y1_1), false), (dP (Zc7 #[vi a0] (a0)  y1_0 y1_1  0), true), (dP (ZeW #[vi a0] (a0)    0), true)]) rfl rfl (show Zn (Zb6 1).2 = [] from rfl) (by kernel_rfl) (oF <| oE <| Zb (Zi (Zda #[vi a0] (a0)  y1_0 y1_1 N c1  0 rfl (by decide) (by decide))) <| Zb (Zi (Zgd #[vi a0] (a0)   N c0  0 rfl (by decide) (by decide))) Zj) rfl (by decide) (by rfl) ⟨rr, ⟨rr, ⟨rr, ⟨rr, trivial⟩⟩⟩⟩ ⟨⟨rfl, ⟨[], by rfl⟩, by rfl⟩, trivial⟩
 | r1 =>
  refine Mach.en_bind (fun z1 c1 => ?_)
  cases z1 with
  | r0 y1_0 y1_1 =>
   refine Mach.en_ite (fun g2 => ?_) (fun g2 => ?_)
   ·
    exact Mach.en_fin (M := ZS a0 N) (cd := 1000000) (cm := 0) (r := (.r0 (false) : ZA)) (fu := 4000) (orc := (Zm [(0, true)] [] [] [] [(0, (Zge (a0)    0)), (1, (ZcZ (a0)  y1_0 y1_1  1))])) (live := []) (u := vf) (bl := []) (ob := [(((0 : Int) != y1_1), true), (dP (Zc7 #[vi a0] (a0)  y1_0 y1_1  1), true), (dP (ZeX #[vi a0] (a0)    0), true)]) (by kernel_rfl) (oD <| Zb (Zi (Zda #[vi a0] (a0)  y1_0 y1_1 N c1  1 rfl (by decide) (by decide))) <| Zb (Zi (Zgf #[vi a0] (a0)   N c0  0 rfl (by decide) (by decide))) Zj) rfl (by decide) (by rfl) rr trivial
   ·
    exact Mach.en_head (bK := Zb6 1) (M := ZS a0 N) (cd := 1000000) (cm := 0) (y := (.h1m1 (y1_0) : Z7)) (fu := 4000) (orc := (Zm [(0, false), (2, true)] [] [] [] [(0, (Zge (a0)    0)), (1, (ZcZ (a0)  y1_0 y1_1  1))])) (live := [0, 1]) (tv := [some (vn), some (vp 0 0), some (vp 1 0), some (vq)]) (bl := [some (.cells [vi a0, vn] 60), some (.cells [vi y1_0, vn] 29)]) (ob := [((y1_1 == (0 : Int)), true), (((0 : Int) != y1_1), false), (dP (Zc7 #[vi a0] (a0)  y1_0 y1_1  1), true), (dP (ZeX #[vi a0] (a0)    0), true)]) rfl rfl (show Zn (Zb6 1).2 = [] from rfl) (by kernel_rfl) (oT <| oE <| Zb (Zi (Zda #[vi a0] (a0)  y1_0 y1_1 N c1  1 rfl (by decide) (by decide))) <| Zb (Zi (Zgf #[vi a0] (a0)   N c0  0 rfl (by decide) (by decide))) Zj) rfl (by decide) (by rfl) ⟨rr, ⟨rr, ⟨rr, ⟨rr, trivial⟩⟩⟩⟩ ⟨⟨rfl, ⟨[], by rfl⟩, by rfl⟩, ⟨⟨rfl, ⟨[], by rfl⟩, by rfl⟩, trivial⟩⟩

theorem Zh7 (a0 : Int) (N : Nat) (r : ZA) (h : Zg2 a0 N = some r) : LSpec Try.prog 3 #[vi a0, vn] [] (ZfR a0 r) (ZfB a0 r) :=
 Mach.spec ZbQ (ZS a0 N) Try.func3 (by kernel_rfl) (by kernel_rfl) (fun x => by cases x <;> exact ZM _ rfl) (fun r => by cases r <;> exact ZM _ rfl) (fun x => by
  cases x with
  | h1m0 _ => exact fun _ => (show ¬ (1 ∈ Zn (Zb6 1).2) from by decide +kernel)
  | h1m1 _ => exact fun _ => (show ¬ (1 ∈ Zn (Zb6 1).2) from by decide +kernel)
  ) (fun x => (show (ZS a0 N).Ok Try.prog Zw x (Zcg a0 N x) from by
  cases x with
  | h1m0 v1 => exact Zhe a0 v1 N
  | h1m1 v2 => exact Zhf a0 v2 N
  )) (Zi4 a0 N) (n := N) h

end Ev
end Go.Proofs.Ytgnmjjakmeomiaa
