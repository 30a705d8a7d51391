/- Calls do what the plain functions say. -/
import Derived.Test.YtbhnaaingkbeiaaSrq2
namespace Go.Proofs.Ytbhnaaingkbeiaa
open Go.RowKit
namespace Ev
set_option linter.unusedVariables false
set_option maxRecDepth 100000
def law06_RsetRuns_2Hd : law06_RsetRuns_2X → Nat
 | .h1m0 v2 => 1
 | .h1m1 v3 => 1
noncomputable def law06_RsetRuns_2L (a0 a1 : Int) : law06_RsetRuns_2X → List (Nat × Value)
 | .h1m0 v2 => [(1, vn), (2, vi a1), (7, Value.pointer none), (9, vp 0 0), (11, vq)]
 | .h1m1 v3 => [(1, vn), (2, vi a1), (7, vp 0 0), (9, vp 1 0), (11, vq)]
noncomputable def law06_RsetRuns_2H (a0 a1 : Int) : law06_RsetRuns_2X → List (Option AObj)
 | .h1m0 v2 => [some (.cells [vi v2, vn] 29)]
 | .h1m1 v3 => [some (.cells [vi a0, vn, Value.int .u32 (0 : Int), Value.int .i32 (0 : Int), Value.int .u32 (0 : Int), Value.map none] 64), some (.cells [vi v3, vn] 29)]

noncomputable def law06_RsetRuns_2C : Nat → Code × List Kont
 | 1 => headOf [1, 1, 1, 1, 0, 1, 3] (bodyC Try.f3) []
 | _ => (.skip, [])
def law06_RsetRuns_2IL : Nat → Bool
 | 1 => true
 | _ => true
noncomputable def law06_RsetRuns_2K (i : Nat) : List Kont := match law06_RsetRuns_2IL i with | true => .rnd i :: (law06_RsetRuns_2C i).2 | false => (law06_RsetRuns_2C i).2

noncomputable def law06_RsetRuns_2M (a0 a1 : Int) (N : Nat) : Mach := ⟨Try.f3, [], law06_RsetRuns_2X, law06_RsetRuns_2R, law06_RsetRuns_2Step a0 a1 N, law06_RsetRuns_2Hd, law06_RsetRuns_2C, law06_RsetRuns_2IL, law06_RsetRuns_2L a0 a1, law06_RsetRuns_2H a0 a1, law06_RsetRuns_2V a0 a1, law06_RsetRuns_2Po a0 a1⟩

theorem law06_RsetRuns_2_ok1_0 (a0 a1 v2 : Int) (N : Nat) : (law06_RsetRuns_2M a0 a1 N).Ok Try.prog ext_Sr (.h1m0 v2 : law06_RsetRuns_2X) (law06_RsetRuns_2Step a0 a1 N (.h1m0 v2 : law06_RsetRuns_2X)) := by
 show (law06_RsetRuns_2M a0 a1 N).Ok Try.prog ext_Sr (.h1m0 v2 : law06_RsetRuns_2X) (law06_RsetRuns_2_h1m0 a0 a1 N v2)
 unfold law06_RsetRuns_2_h1m0
 exact Mach.ok_fin (M := law06_RsetRuns_2M a0 a1 N) (cd := 1000000) (cm := 0) (r := (.r0 (true) : law06_RsetRuns_2R)) (fu := 4000) (orc := (orcw [] [] [] [] [])) (live := []) (u := vT) (bl := []) (ob := []) (fun gv => by kernel_rfl) obs_nil rfl (by decide) (by rfl) rr trivial

theorem law06_RsetRuns_2_ok1_1 (a0 a1 v3 : Int) (N : Nat) : (law06_RsetRuns_2M a0 a1 N).Ok Try.prog ext_Sr (.h1m1 v3 : law06_RsetRuns_2X) (law06_RsetRuns_2Step a0 a1 N (.h1m1 v3 : law06_RsetRuns_2X)) := by
 show (law06_RsetRuns_2M a0 a1 N).Ok Try.prog ext_Sr (.h1m1 v3 : law06_RsetRuns_2X) (law06_RsetRuns_2_h1m1 a0 a1 N v3)
 unfold law06_RsetRuns_2_h1m1
 exact Mach.ok_fin (M := law06_RsetRuns_2M a0 a1 N) (cd := 1000000) (cm := 0) (r := (.r0 (true) : law06_RsetRuns_2R)) (fu := 4000) (orc := (orcw [] [] [] [] [])) (live := []) (u := vT) (bl := []) (ob := []) (fun gv => by kernel_rfl) obs_nil rfl (by decide) (by rfl) rr trivial

theorem law06_RsetRuns_2_en (a0 a1 : Int) (N : Nat) : (law06_RsetRuns_2M a0 a1 N).Enter Try.prog ext_Sr #[vi a0, vn, vi a1] (law06_RsetRuns_2In a0 a1 N) := by
 unfold law06_RsetRuns_2In
 refine Mach.en_bind (fun z0 c0 => ?_)
 cases z0 with
 | r0 =>
  refine Mach.en_bind (fun z1 c1 => ?_)
  cases z1 with
  | r0 y1_0 y1_1 =>
   refine Mach.en_ite (fun g2 => ?_) (fun g2 => ?_)
   ·
    exact Mach.en_fin (M := law06_RsetRuns_2M a0 a1 N) (cd := 1000000) (cm := 0) (r := (.r0 (false) : law06_RsetRuns_2R)) (fu := 4000) (orc := (orcw [(0, true)] [] [] [] [(0, (rset_NewT0 (a0)    0)), (1, (ref06_NewT0 (a0)  y1_0 y1_1  0))])) (live := []) (u := vf) (bl := []) (ob := [(((1 : Int) != y1_1), true), (dP (ref06_NewP0 #[vi a0] (a0)  y1_0 y1_1  0), true), (dP (rset_NewP0 #[vi a0] (a0)    0), true)]) (by kernel_rfl) (oD <| obs_cons (dP_of (ref06_NewC0 #[vi a0] (a0)  y1_0 y1_1 N c1  0 rfl (by decide) (by decide))) <| obs_cons (dP_of (rset_NewC0 #[vi a0] (a0)   N c0  0 rfl (by decide) (by decide))) obs_nil) rfl (by decide) (by rfl) rr trivial
   ·
    exact Mach.en_head (bK := law06_RsetRuns_2C 1) (M := law06_RsetRuns_2M a0 a1 N) (cd := 1000000) (cm := 0) (y := (.h1m0 (y1_0) : law06_RsetRuns_2X)) (fu := 4000) (orc := (orcw [(0, false), (2, true)] [] [] [] [(0, (rset_NewT0 (a0)    0)), (1, (ref06_NewT0 (a0)  y1_0 y1_1  0))])) (live := [0]) (tv := [some (vn), some (vi a1), some (Value.pointer none), some (vp 0 0), some (vq)]) (bl := [some (.cells [vi y1_0, vn] 29)]) (ob := [((y1_1 != (0 : Int)), true), (((1 : Int) != y1_1), false), (dP (ref06_NewP0 #[vi a0] (a0)  y1_0 y1_1  0), true), (dP (rset_NewP0 #[vi a0] (a0)    0), true)]) rfl rfl (show rids (law06_RsetRuns_2C 1).2 = [] from rfl) (by kernel_rfl) (oD <| oE <| obs_cons (dP_of (ref06_NewC0 #[vi a0] (a0)  y1_0 y1_1 N c1  0 rfl (by decide) (by decide))) <| obs_cons (dP_of (rset_NewC0 #[vi a0] (a0)   N c0  0 rfl (by decide) (by decide))) obs_nil) rfl (by decide) (by rfl) ⟨rr, ⟨rr, ⟨rr, ⟨rr, ⟨rr, trivial⟩⟩⟩⟩⟩ ⟨⟨rfl, ⟨[], by rfl⟩, by rfl⟩, trivial⟩
 | r1 =>
  refine Mach.en_bind (fun z1 c1 => ?_)
  cases z1 with
  | r0 y1_0 y1_1 =>
   refine Mach.en_ite (fun g2 => ?_) (fun g2 => ?_)
   ·
    exact Mach.en_fin (M := law06_RsetRuns_2M a0 a1 N) (cd := 1000000) (cm := 0) (r := (.r0 (false) : law06_RsetRuns_2R)) (fu := 4000) (orc := (orcw [(0, true)] [] [] [] [(0, (rset_NewT1 (a0)    0)), (1, (ref06_NewT0 (a0)  y1_0 y1_1  1))])) (live := []) (u := vf) (bl := []) (ob := [(((0 : Int) != y1_1), true), (dP (ref06_NewP0 #[vi a0] (a0)  y1_0 y1_1  1), true), (dP (rset_NewP1 #[vi a0] (a0)    0), true)]) (by kernel_rfl) (oD <| obs_cons (dP_of (ref06_NewC0 #[vi a0] (a0)  y1_0 y1_1 N c1  1 rfl (by decide) (by decide))) <| obs_cons (dP_of (rset_NewC1 #[vi a0] (a0)   N c0  0 rfl (by decide) (by decide))) obs_nil) rfl (by decide) (by rfl) rr trivial
   ·
    exact Mach.en_head (bK := law06_RsetRuns_2C 1) (M := law06_RsetRuns_2M a0 a1 N) (cd := 1000000) (cm := 0) (y := (.h1m1 (y1_0) : law06_RsetRuns_2X)) (fu := 4000) (orc := (orcw [(0, false), (2, false)] [] [] [] [(0, (rset_NewT1 (a0)    0)), (1, (ref06_NewT0 (a0)  y1_0 y1_1  1))])) (live := [0, 1]) (tv := [some (vn), some (vi a1), some (vp 0 0), some (vp 1 0), some (vq)]) (bl := [some (.cells [vi a0, vn, Value.int .u32 (0 : Int), Value.int .i32 (0 : Int), Value.int .u32 (0 : Int), Value.map none] 64), some (.cells [vi y1_0, vn] 29)]) (ob := [((y1_1 != (0 : Int)), false), (((0 : Int) != y1_1), false), (dP (ref06_NewP0 #[vi a0] (a0)  y1_0 y1_1  1), true), (dP (rset_NewP1 #[vi a0] (a0)    0), true)]) rfl rfl (show rids (law06_RsetRuns_2C 1).2 = [] from rfl) (by kernel_rfl) (oE <| oE <| obs_cons (dP_of (ref06_NewC0 #[vi a0] (a0)  y1_0 y1_1 N c1  1 rfl (by decide) (by decide))) <| obs_cons (dP_of (rset_NewC1 #[vi a0] (a0)   N c0  0 rfl (by decide) (by decide))) obs_nil) rfl (by decide) (by rfl) ⟨rr, ⟨rr, ⟨rr, ⟨rr, ⟨rr, trivial⟩⟩⟩⟩⟩ ⟨⟨rfl, ⟨[], by rfl⟩, by rfl⟩, ⟨⟨rfl, ⟨[], by rfl⟩, by rfl⟩, trivial⟩⟩

theorem law06_RsetRuns_2_spec (a0 a1 : Int) (N : Nat) (r : law06_RsetRuns_2R) (h : law06_RsetRuns_2 a0 a1 N = some r) : LSpec Try.prog 3 #[vi a0, vn, vi a1] [] (law06_RsetRuns_2V a0 a1 r) (law06_RsetRuns_2Po a0 a1 r) :=
 Mach.spec fit_Sr (law06_RsetRuns_2M a0 a1 N) Try.func3 (by kernel_rfl) (by kernel_rfl) (fun x => by cases x <;> exact le_far _ rfl) (fun r => by cases r <;> exact le_far _ rfl) (fun x => by
  cases x with
  | h1m0 _ => exact fun _ => (show ¬ (1 ∈ rids (law06_RsetRuns_2C 1).2) from by decide +kernel)
  | h1m1 _ => exact fun _ => (show ¬ (1 ∈ rids (law06_RsetRuns_2C 1).2) from by decide +kernel)
  ) (fun x => (show (law06_RsetRuns_2M a0 a1 N).Ok Try.prog ext_Sr x (law06_RsetRuns_2Step a0 a1 N x) from by
  cases x with
  | h1m0 v2 => exact law06_RsetRuns_2_ok1_0 a0 a1 v2 N
  | h1m1 v3 => exact law06_RsetRuns_2_ok1_1 a0 a1 v3 N
  )) (law06_RsetRuns_2_en a0 a1 N) (n := N) h

noncomputable def law06_RsetRuns_2T0 (a0 a1 : Int) (w0 : Bool) (n : Nat) : Told := .call [] (Value.bool w0) [] 0
def law06_RsetRuns_2P0 (A : Array Value) (a0 a1 : Int) (w0 : Bool) (n : Nat) : Prop := CallSpec Try.prog 3 A [] (Value.bool w0) [] n 0

theorem law06_RsetRuns_2C0 (A : Array Value) (a0 a1 : Int) (w0 : Bool) (N : Nat) (h : law06_RsetRuns_2 a0 a1 N = some (.r0 w0)) (n : Nat) (hA : A = #[vi a0, vn, vi a1]) (hnd : ([] : List Nat).Nodup) (hlt : ∀ k ∈ ([] : List Nat), k < n) : law06_RsetRuns_2P0 A a0 a1 w0  n :=
 cs_args hA (LSpec.callL (show LSpec Try.prog 3 #[vi a0, vn, vi a1] [] (Value.bool w0) [] from law06_RsetRuns_2_spec a0 a1 N _ h) [] n [] rfl hnd hlt (show 0 ≤ 0 from by decide) (show ∀ j ∈ ([] : List Nat), j < 0 from by decide) (by rfl) trivial (by rfl) trivial trivial rfl rfl rfl rfl rfl)

end Ev
end Go.Proofs.Ytbhnaaingkbeiaa
