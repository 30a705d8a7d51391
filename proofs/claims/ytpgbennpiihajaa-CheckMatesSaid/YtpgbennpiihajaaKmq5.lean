/- Calls do what the plain functions say. -/
import Derived.Test.YtpgbennpiihajaaKmq4
namespace Go.Proofs.Ytpgbennpiihajaa
open Go.RowKit
namespace Ev
set_option linter.unusedVariables false
set_option maxRecDepth 100000
noncomputable def Zqe  (n : Nat) : Zak := .call [] (vn) [] 0
def ZjM (A : Array Value)  (n : Nat) : Prop := Zw Try.prog 22 A [] (vn) [] n 0

theorem Zqf (A : Array Value)  (N : Nat) (h : Zfm  N = some (.r0)) (n : Nat) (hA : A = #[vn]) (hnd : ([] : List Nat).Nodup) (hlt : ∀ k ∈ ([] : List Nat), k < n) : ZjM A   n :=
 Z0 hA (LSpec.callL (show LSpec Try.prog 22 #[vn] [] (vn) [] from Zne  N _ h) [] n [] rfl hnd hlt (show 0 ≤ 0 from by decide) (show ∀ j ∈ ([] : List Nat), j < 0 from by decide) (by rfl) trivial (by rfl) trivial trivial rfl rfl rfl rfl rfl)

noncomputable def Zk1  : ZdV → Value
 | .r0 => vn
noncomputable def ZjN  : ZdV → List (Option AObj)
 | .r0 => []

theorem Zpp  (N : Nat) : Fx Try.prog Zr Try.f23 [] #[vn] (Zk1 ) (ZjN ) (Zfn  N) := by
 unfold Zfn
 refine Za4 (fun z0 c0 => ?_)
 cases z0 with
 | r0 =>
  exact Zk (r := (.r0 : ZdV)) (fu := 4000) (orc := (Zi [] [] [] [] [(0, (ZfZ     0))])) (live := []) (u := vn) (bl := []) (ob := [(dP (ZeM #[vn]     0), true)]) (by kernel_rfl) (Za (Zf (Zga #[vn]    N c0  0 rfl (by decide) (by decide))) Zd) rfl (by decide) (by rfl) rr trivial

theorem Znf  (N : Nat) (r : ZdV) (h : Zfn  N = some r) : LSpec Try.prog 23 #[vn] [] (Zk1  r) (ZjN  r) :=
 ZaB Zao Try.func23 (by kernel_rfl) (by kernel_rfl) (fun r => by cases r <;> exact ZN _ rfl) (Zpp  N) h

noncomputable def Zqg  (n : Nat) : Zak := .call [] (vn) [] 0
def ZjO (A : Array Value)  (n : Nat) : Prop := Zw Try.prog 23 A [] (vn) [] n 0

theorem Zqh (A : Array Value)  (N : Nat) (h : Zfn  N = some (.r0)) (n : Nat) (hA : A = #[vn]) (hnd : ([] : List Nat).Nodup) (hlt : ∀ k ∈ ([] : List Nat), k < n) : ZjO A   n :=
 Z0 hA (LSpec.callL (show LSpec Try.prog 23 #[vn] [] (vn) [] from Znf  N _ h) [] n [] rfl hnd hlt (show 0 ≤ 0 from by decide) (show ∀ j ∈ ([] : List Nat), j < 0 from by decide) (by rfl) trivial (by rfl) trivial trivial rfl rfl rfl rfl rfl)

noncomputable def ZhJ (a0 : Int) : ZaM → Value
 | .r0 => vT
noncomputable def Zh2 (a0 : Int) : ZaM → List (Option AObj)
 | .r0 => []

def ZlV : Z9 → Nat
 | .h1m0 => 1
 | .h2m0 => 2
 | .h3m0 => 3
noncomputable def Zng (a0 : Int) : Z9 → List (Nat × Value)
 | .h1m0 => [(0, vn), (1, vi a0)]
 | .h2m0 => [(0, vn), (1, vi a0), (5, vn), (6, vi (120 : Int)), (7, vn), (8, vi (120 : Int))]
 | .h3m0 => [(0, vn), (5, vn), (6, vi (120 : Int)), (7, vn), (8, vi (120 : Int)), (9, vi (-1 : Int)), (10, v0), (11, vi (-1 : Int)), (12, v0)]
noncomputable def Znh (a0 : Int) : Z9 → List (Option AObj)
 | .h1m0 => []
 | .h2m0 => []
 | .h3m0 => []

noncomputable def ZaN : Nat → Code × List ZaO
 | 1 => ZhQ [1, 1] (Zc1 Try.f4) []
 | 2 => ZhQ [1, 1, 1, 1] (Zc1 Try.f4) []
 | 3 => ZhQ [1, 1, 1, 1, 1, 1] (Zc1 Try.f4) []
 | _ => (.skip, [])
def Zh3 : Nat → Bool
 | 1 => false
 | 2 => false
 | 3 => false
 | _ => true
noncomputable def ZhK (i : Nat) : List ZaO := match Zh3 i with | true => .rnd i :: (ZaN i).2 | false => (ZaN i).2

noncomputable def ZaC (a0 : Int) (N : Nat) : Mach := ⟨Try.f4, [], Z9, ZaM, ZbY a0 N, ZlV, ZaN, Zh3, Zng a0, Znh a0, ZhJ a0, Zh2 a0⟩

theorem ZjP (a0 : Int) (N : Nat) : (ZaC a0 N).Ok Try.prog Zr (.h1m0 : Z9) (ZbY a0 N (.h1m0 : Z9)) := by
 show (ZaC a0 N).Ok Try.prog Zr (.h1m0 : Z9) (ZeA a0 N)
 unfold ZeA
 refine Mach.ok_bind (fun z0 c0 => ?_)
 cases z0 with
 | r0 =>
  refine Mach.ok_bind (fun z1 c1 => ?_)
  cases z1 with
  | r0 =>
   exact Mach.ok_cut (bK := ZaN 2) (M := ZaC a0 N) (cd := 0) (cm := 1) (y := (.h2m0 : Z9)) (fu := 4000) (orc := (Zi [] [] [] [] [(0, (ZqG     0)), (1, (ZqK     0))])) (live := []) (tv := fun _ => [some (vn), some (vi a0), some (vn), some (vi (120 : Int)), some (vn), some (vi (120 : Int))]) (bl := []) (ob := [(dP (Zkt #[vn]     0), true), (dP (Zko #[vn]     0), true)]) rfl rfl (show ∀ j ∈ Zx (ZaN 2).2, j ∈ Zx (ZhK 1) from by decide +kernel) (fun gv => by kernel_rfl) (Za (Zf (ZqL #[vn]    N c1  0 rfl (by decide) (by decide))) <| Za (Zf (ZqH #[vn]    N c0  0 rfl (by decide) (by decide))) Zd) rfl (by decide) (by rfl) (fun _ => ⟨rr, ⟨rr, ⟨rr, ⟨rr, ⟨rr, ⟨rr, trivial⟩⟩⟩⟩⟩⟩) trivial

theorem ZjQ (a0 : Int) (N : Nat) : (ZaC a0 N).Ok Try.prog Zr (.h2m0 : Z9) (ZbY a0 N (.h2m0 : Z9)) := by
 show (ZaC a0 N).Ok Try.prog Zr (.h2m0 : Z9) (ZeB a0 N)
 unfold ZeB
 refine Mach.ok_bind (fun z0 c0 => ?_)
 cases z0 with
 | r0 =>
  refine Mach.ok_bind (fun z1 c1 => ?_)
  cases z1 with
  | r0 =>
   exact Mach.ok_cut (bK := ZaN 3) (M := ZaC a0 N) (cd := 0) (cm := 1) (y := (.h3m0 : Z9)) (fu := 4000) (orc := (Zi [] [] [] [] [(0, (ZpY (a0)    0)), (1, (Zqa (a0)    0))])) (live := []) (tv := fun _ => [some (vn), some (vn), some (vi (120 : Int)), some (vn), some (vi (120 : Int)), some (vi (-1 : Int)), some (v0), some (vi (-1 : Int)), some (v0)]) (bl := []) (ob := [(dP (ZjK #[vn, vi a0] (a0)    0), true), (dP (ZjI #[vn, vi a0] (a0)    0), true)]) rfl rfl (show ∀ j ∈ Zx (ZaN 3).2, j ∈ Zx (ZhK 2) from by decide +kernel) (fun gv => by kernel_rfl) (Za (Zf (Zqb #[vn, vi a0] (a0)   N c1  0 rfl (by decide) (by decide))) <| Za (Zf (ZpZ #[vn, vi a0] (a0)   N c0  0 rfl (by decide) (by decide))) Zd) rfl (by decide) (by rfl) (fun _ => ⟨rr, ⟨rr, ⟨rr, ⟨rr, ⟨rr, ⟨rr, ⟨rr, ⟨rr, ⟨rr, trivial⟩⟩⟩⟩⟩⟩⟩⟩⟩) trivial

theorem ZjR (a0 : Int) (N : Nat) : (ZaC a0 N).Ok Try.prog Zr (.h3m0 : Z9) (ZbY a0 N (.h3m0 : Z9)) := by
 show (ZaC a0 N).Ok Try.prog Zr (.h3m0 : Z9) (Zc4 a0 N)
 unfold Zc4
 refine Mach.ok_bind (fun z0 c0 => ?_)
 cases z0 with
 | r0 =>
  refine Mach.ok_bind (fun z1 c1 => ?_)
  cases z1 with
  | r0 =>
   refine Mach.ok_bind (fun z2 c2 => ?_)
   cases z2 with
   | r0 =>
    refine Mach.ok_bind (fun z3 c3 => ?_)
    cases z3 with
    | r0 =>
     refine Mach.ok_bind (fun z4 c4 => ?_)
     cases z4 with
     | r0 =>
      refine Mach.ok_bind (fun z5 c5 => ?_)
      cases z5 with
      | r0 =>
       exact Mach.ok_fin (M := ZaC a0 N) (cd := 1000000) (cm := 0) (r := (.r0 : ZaM)) (fu := 4000) (orc := (Zi [] [] [] [] [(0, (Za1     0)), (1, (ZqM     0)), (2, (ZqO     0)), (3, (Zqe     0)), (4, (Zqg     0)), (5, (Za1     0))])) (live := []) (u := vT) (bl := []) (ob := [(dP (Zaw #[vn, vn]     0), true), (dP (ZjO #[vn]     0), true), (dP (ZjM #[vn]     0), true), (dP (Zkz #[vn]     0), true), (dP (Zkx #[vn]     0), true), (dP (Zaw #[vn, vn]     0), true)]) (fun gv => by kernel_rfl) (Za (Zf (Za2 #[vn, vn]    N c5  0 rfl (by decide) (by decide))) <| Za (Zf (Zqh #[vn]    N c4  0 rfl (by decide) (by decide))) <| Za (Zf (Zqf #[vn]    N c3  0 rfl (by decide) (by decide))) <| Za (Zf (ZqP #[vn]    N c2  0 rfl (by decide) (by decide))) <| Za (Zf (ZqN #[vn]    N c1  0 rfl (by decide) (by decide))) <| Za (Zf (Za2 #[vn, vn]    N c0  0 rfl (by decide) (by decide))) Zd) rfl (by decide) (by rfl) rr trivial

theorem Zl5 (a0 : Int) (N : Nat) : (ZaC a0 N).Enter Try.prog Zr #[vn, vi a0] (Zf4 a0 N) := by
 unfold Zf4
 exact Mach.en_cut (bK := ZaN 1) (M := ZaC a0 N) (cd := 0) (cm := 1) (y := (.h1m0 : Z9)) (fu := 4000) (orc := (Zi [] [] [] [] [])) (live := []) (tv := [some (vn), some (vi a0)]) (bl := []) (ob := []) rfl rfl (show Zx (ZaN 1).2 = [] from rfl) (by kernel_rfl) Zd rfl (by decide) (by rfl) ⟨rr, ⟨rr, trivial⟩⟩ trivial

theorem ZjX (a0 : Int) (N : Nat) (r : ZaM) (h : Zgj a0 N = some r) : LSpec Try.prog 4 #[vn, vi a0] [] (ZhJ a0 r) (Zh2 a0 r) :=
 Mach.spec Zao (ZaC a0 N) Try.func4 (by kernel_rfl) (by kernel_rfl) (fun x => by cases x <;> exact ZN _ rfl) (fun r => by cases r <;> exact ZN _ rfl) (fun x => by
  cases x with
  | h1m0 => exact fun _ => (show ¬ (1 ∈ Zx (ZaN 1).2) from by decide +kernel)
  | h2m0 => exact fun _ => (show ¬ (2 ∈ Zx (ZaN 2).2) from by decide +kernel)
  | h3m0 => exact fun _ => (show ¬ (3 ∈ Zx (ZaN 3).2) from by decide +kernel)
  ) (fun x => (show (ZaC a0 N).Ok Try.prog Zr x (ZbY a0 N x) from by
  cases x with
  | h1m0 => exact ZjP a0 N
  | h2m0 => exact ZjQ a0 N
  | h3m0 => exact ZjR a0 N
  )) (Zl5 a0 N) (n := N) h

end Ev
end Go.Proofs.Ytpgbennpiihajaa
