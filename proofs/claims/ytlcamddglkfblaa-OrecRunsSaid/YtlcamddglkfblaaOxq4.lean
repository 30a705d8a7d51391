/- Calls do what the plain functions say. -/
import Derived.Test.YtlcamddglkfblaaOxq3
namespace Go.Proofs.Ytlcamddglkfblaa
open Go.RowKit
namespace Ev
set_option linter.unusedVariables false
set_option maxRecDepth 100000 in
theorem law03_OrecRuns_spec (a0 : Int) (o1 : Nat) (L2 : List R_iiiiiiii) (n3 : Nat) (O0 : Obj) (F0 : ∀ i, i < L2.length → RowOK O0 (o1 + i * 8) [.i (L2.getD i R_iiiiiiii.z).a0, .i (L2.getD i R_iiiiiiii.z).a1, .i (L2.getD i R_iiiiiiii.z).a2, .i (L2.getD i R_iiiiiiii.z).a3, .i (L2.getD i R_iiiiiiii.z).a4, .i (L2.getD i R_iiiiiiii.z).a5, .i (L2.getD i R_iiiiiiii.z).a6, .i (L2.getD i R_iiiiiiii.z).a7]) (N : Nat) (r : law03_OrecRunsR) (h : law03_OrecRuns a0 L2 n3 N = some r) : LSpec Try.prog 4 #[Value.int .i64 a0, Value.slice (some ⟨0, o1, none⟩) L2.length n3] [.ro O0] (law03_OrecRunsV a0 o1 L2 n3 O0 r) (law03_OrecRunsPo a0 o1 L2 n3 O0 r) :=
  Mach.spec fit_Ox (law03_OrecRunsM a0 o1 L2 n3 O0 N) Try.func4 (by kernel_rfl) (by kernel_rfl) (fun x => by cases x <;> exact le_far _ rfl) (fun r => by cases r <;> exact le_far _ rfl) (fun x => by
    cases x with
    | h1m0 => exact fun _ => (show ¬ (1 ∈ rids (law03_OrecRunsC 1).2) from by decide +kernel)
    | h1m1 _ _ _ _ => exact fun _ => (show ¬ (1 ∈ rids (law03_OrecRunsC 1).2) from by decide +kernel)
    | h2m0 _ _ _ _ => exact fun _ => (show ¬ (2 ∈ rids (law03_OrecRunsC 2).2) from by decide +kernel)
    | h2m1 _ _ _ _ _ => exact fun _ => (show ¬ (2 ∈ rids (law03_OrecRunsC 2).2) from by decide +kernel)
    | h3m0 _ _ _ _ => exact fun _ => (show ¬ (3 ∈ rids (law03_OrecRunsC 3).2) from by decide +kernel)
    | h3m1 _ _ _ _ _ _ => exact fun _ => (show ¬ (3 ∈ rids (law03_OrecRunsC 3).2) from by decide +kernel)
    ) (fun x => (show (law03_OrecRunsM a0 o1 L2 n3 O0 N).Ok Try.prog ext_Ox x (law03_OrecRunsStep a0 L2 n3 N x) from by
    cases x with
    | h1m0 => exact law03_OrecRuns_ok1_0 a0 o1 L2 n3 O0 F0 N
    | h1m1 v3 v4 v5 v6 => exact law03_OrecRuns_ok1_1 a0 o1 L2 n3 O0 F0 v3 v4 v5 v6 N
    | h2m0 v3 v4 v5 v6 => exact law03_OrecRuns_ok2_0 a0 o1 L2 n3 O0 F0 v3 v4 v5 v6 N
    | h2m1 v3 v4 v5 v6 v7 => exact law03_OrecRuns_ok2_1 a0 o1 L2 n3 O0 F0 v3 v4 v5 v6 v7 N
    | h3m0 v3 v5 v6 v7 => exact law03_OrecRuns_ok3_0 a0 o1 L2 n3 O0 F0 v3 v5 v6 v7 N
    | h3m1 v3 v4 v5 v6 v7 v8 => exact law03_OrecRuns_ok3_1 a0 o1 L2 n3 O0 F0 v3 v4 v5 v6 v7 v8 N
    )) (law03_OrecRuns_en a0 o1 L2 n3 O0 F0 N) (n := N) h

noncomputable def law03_OrecRunsT0 (a0 : Int) (o1 : Nat) (L2 : List R_iiiiiiii) (n3 : Nat) (O0 : Obj) (w2 : Bool) (k0 : Nat) (n : Nat) : Told := .call [(k0, .ro O0)] (Value.bool w2) [] 0
def law03_OrecRunsP0 (A : Array Value) (a0 : Int) (o1 : Nat) (L2 : List R_iiiiiiii) (n3 : Nat) (O0 : Obj) (w2 : Bool) (k0 : Nat) (n : Nat) : Prop := CallSpec Try.prog 4 A [(k0, .ro O0)] (Value.bool w2) [] n 0

set_option maxRecDepth 100000 in
theorem law03_OrecRunsC0 (A : Array Value) (a0 : Int) (o1 : Nat) (L2 : List R_iiiiiiii) (n3 : Nat) (O0 : Obj) (F0 : ∀ i, i < L2.length → RowOK O0 (o1 + i * 8) [.i (L2.getD i R_iiiiiiii.z).a0, .i (L2.getD i R_iiiiiiii.z).a1, .i (L2.getD i R_iiiiiiii.z).a2, .i (L2.getD i R_iiiiiiii.z).a3, .i (L2.getD i R_iiiiiiii.z).a4, .i (L2.getD i R_iiiiiiii.z).a5, .i (L2.getD i R_iiiiiiii.z).a6, .i (L2.getD i R_iiiiiiii.z).a7]) (w2 : Bool) (N : Nat) (h : law03_OrecRuns a0 L2 n3 N = some (.r0 w2)) (k0 : Nat) (n : Nat) (hA : A = #[Value.int .i64 a0, Value.slice (some ⟨k0, o1, none⟩) L2.length n3]) (hnd : ([k0] : List Nat).Nodup) (hlt : ∀ k ∈ ([k0] : List Nat), k < n) : law03_OrecRunsP0 A a0 o1 L2 n3 O0 w2 k0 n :=
  cs_args hA (LSpec.callL (show LSpec Try.prog 4 #[Value.int .i64 a0, Value.slice (some ⟨0, o1, none⟩) L2.length n3] [.ro O0] (Value.bool w2) [some (.ro O0)] from law03_OrecRuns_spec a0 o1 L2 n3 O0 F0 N _ h) [k0] n [] rfl hnd hlt (show 1 ≤ 1 from by decide) (show ∀ j ∈ ([] : List Nat), j < 1 from by decide) (by rfl) ⟨rfl, trivial⟩ (by rfl) ⟨rfl, trivial⟩ ⟨.inr rfl, trivial⟩ rfl rfl rfl (cons_eq (pair_eq rfl rfl) rfl) rfl)

noncomputable def law03_OrecRuns_2V (a0 : Int) : law03_OrecRuns_2R → Value
  | .r0 w0 => Value.bool w0
noncomputable def law03_OrecRuns_2Po (a0 : Int) : law03_OrecRuns_2R → List (Option AObj)
  | .r0 w0 => []

def law03_OrecRuns_2Hd : law03_OrecRuns_2X → Nat
  | .h1m0 => 1
  | .h1m1 => 1
noncomputable def law03_OrecRuns_2L (a0 : Int) : law03_OrecRuns_2X → List (Nat × Value)
  | .h1m0 => [(1, Value.slice none 0 0), (5, Value.pointer none), (7, Value.pointer (some ⟨0, 0, none⟩)), (9, Value.int .i64 (0 : Int))]
  | .h1m1 => [(1, Value.slice none 0 0), (5, Value.pointer (some ⟨0, 0, none⟩)), (7, Value.pointer (some ⟨1, 0, none⟩)), (9, Value.int .i64 (0 : Int))]
noncomputable def law03_OrecRuns_2H (a0 : Int) : law03_OrecRuns_2X → List (Option AObj)
  | .h1m0 => [some (.cells [Value.slice none 0 0] 43)]
  | .h1m1 => [some (.cells [Value.slice (some ⟨2, 0, none⟩) (a0).toNat (a0).toNat, Value.slice (some ⟨3, 0, none⟩) (a0).toNat (a0).toNat] 74), some (.cells [Value.slice (some ⟨4, 0, none⟩) (a0).toNat (a0).toNat] 43), some (.cells (rowV (encI .i64) (List.replicate (a0).toNat (0 : Int))) 84), some (.cells (rowV (encI .i64) (List.replicate (a0).toNat (0 : Int))) 84), some (.cells (rowV E_iii (List.replicate (a0).toNat (⟨(0 : Int), (0 : Int), (0 : Int)⟩ : R_iii))) 24)]

noncomputable def law03_OrecRuns_2C : Nat → Code × List Kont
  | 1 => headOf [1, 1, 1, 1, 0, 1, 3] (bodyC Try.f4) []
  | _ => (.skip, [])
def law03_OrecRuns_2IL : Nat → Bool
  | 1 => true
  | _ => true
noncomputable def law03_OrecRuns_2K (i : Nat) : List Kont := match law03_OrecRuns_2IL i with | true => .rnd i :: (law03_OrecRuns_2C i).2 | false => (law03_OrecRuns_2C i).2

noncomputable def law03_OrecRuns_2M (a0 : Int) (N : Nat) : Mach := ⟨Try.f4, [], law03_OrecRuns_2X, law03_OrecRuns_2R, law03_OrecRuns_2Step a0 N, law03_OrecRuns_2Hd, law03_OrecRuns_2C, law03_OrecRuns_2IL, law03_OrecRuns_2L a0, law03_OrecRuns_2H a0, law03_OrecRuns_2V a0, law03_OrecRuns_2Po a0⟩

set_option maxRecDepth 100000 in
theorem law03_OrecRuns_2_ok1_0 (a0 : Int) (N : Nat) : (law03_OrecRuns_2M a0 N).Ok Try.prog ext_Ox (.h1m0 : law03_OrecRuns_2X) (law03_OrecRuns_2Step a0 N (.h1m0 : law03_OrecRuns_2X)) := by
  show (law03_OrecRuns_2M a0 N).Ok Try.prog ext_Ox (.h1m0 : law03_OrecRuns_2X) (law03_OrecRuns_2_h1m0 a0 N)
  unfold law03_OrecRuns_2_h1m0
  exact Mach.ok_fin (M := law03_OrecRuns_2M a0 N) (cd := 1000000) (cm := 0) (r := (.r0 (true) : law03_OrecRuns_2R)) (fu := 4000) (orc := (orcw [] [] [] [] [])) (live := []) (u := Value.bool true) (bl := []) (ob := []) (fun gv => by kernel_rfl) obs_nil rfl (by decide) (by rfl) ⟨by rfl, by rfl⟩ trivial

set_option maxRecDepth 100000 in
theorem law03_OrecRuns_2_ok1_1 (a0 : Int) (N : Nat) : (law03_OrecRuns_2M a0 N).Ok Try.prog ext_Ox (.h1m1 : law03_OrecRuns_2X) (law03_OrecRuns_2Step a0 N (.h1m1 : law03_OrecRuns_2X)) := by
  show (law03_OrecRuns_2M a0 N).Ok Try.prog ext_Ox (.h1m1 : law03_OrecRuns_2X) (law03_OrecRuns_2_h1m1 a0 N)
  unfold law03_OrecRuns_2_h1m1
  exact Mach.ok_fin (M := law03_OrecRuns_2M a0 N) (cd := 1000000) (cm := 0) (r := (.r0 (true) : law03_OrecRuns_2R)) (fu := 4000) (orc := (orcw [] [] [] [] [])) (live := []) (u := Value.bool true) (bl := []) (ob := []) (fun gv => by kernel_rfl) obs_nil rfl (by decide) (by rfl) ⟨by rfl, by rfl⟩ trivial

set_option maxRecDepth 100000 in
theorem law03_OrecRuns_2_en (a0 : Int) (N : Nat) : (law03_OrecRuns_2M a0 N).Enter Try.prog ext_Ox #[Value.int .i64 a0, Value.slice none 0 0] (law03_OrecRuns_2In a0 N) := by
  unfold law03_OrecRuns_2In
  refine Mach.en_bind (fun z0 c0 => ?_)
  cases z0 with
  | r0 =>
    refine Mach.en_bind (fun z1 c1 => ?_)
    cases z1 with
    | r0 =>
      exact Mach.en_head (bK := law03_OrecRuns_2C 1) (M := law03_OrecRuns_2M a0 N) (cd := 1000000) (cm := 0) (y := (.h1m0 : law03_OrecRuns_2X)) (fu := 4000) (orc := (orcw [] [] [] [] [(0, (orec_NewT0 (a0)    0)), (1, (ref03_NewT0 (a0)    0))])) (live := [0]) (tv := [some (Value.slice none 0 0), some (Value.pointer none), some (Value.pointer (some ⟨0, 0, none⟩)), some (Value.int .i64 (0 : Int))]) (bl := [some (.cells [Value.slice none 0 0] 43)]) (ob := [(dP (ref03_NewP0 #[Value.int .i64 a0] (a0)    0), true), (dP (orec_NewP0 #[Value.int .i64 a0] (a0)    0), true)]) rfl rfl (show rids (law03_OrecRuns_2C 1).2 = [] from rfl) (by kernel_rfl) (obs_cons (dP_of (ref03_NewC0 #[Value.int .i64 a0] (a0)   N c1  0 rfl (by decide) (by decide))) (obs_cons (dP_of (orec_NewC0 #[Value.int .i64 a0] (a0)   N c0  0 rfl (by decide) (by decide))) obs_nil)) rfl (by decide) (by rfl) ⟨⟨by rfl, by rfl⟩, ⟨⟨by rfl, by rfl⟩, ⟨⟨by rfl, by rfl⟩, ⟨⟨by rfl, by rfl⟩, trivial⟩⟩⟩⟩ ⟨⟨rfl, ⟨[], by rfl⟩, by rfl⟩, trivial⟩
    | r1 =>
      exact Mach.en_fin (M := law03_OrecRuns_2M a0 N) (cd := 1000000) (cm := 0) (r := (.r0 (false) : law03_OrecRuns_2R)) (fu := 4000) (orc := (orcw [] [] [] [] [(0, (orec_NewT0 (a0)    0)), (1, (ref03_NewT1 (a0)    0))])) (live := []) (u := Value.bool false) (bl := []) (ob := [(dP (ref03_NewP1 #[Value.int .i64 a0] (a0)    0), true), (dP (orec_NewP0 #[Value.int .i64 a0] (a0)    0), true)]) (by kernel_rfl) (obs_cons (dP_of (ref03_NewC1 #[Value.int .i64 a0] (a0)   N c1  0 rfl (by decide) (by decide))) (obs_cons (dP_of (orec_NewC0 #[Value.int .i64 a0] (a0)   N c0  0 rfl (by decide) (by decide))) obs_nil)) rfl (by decide) (by rfl) ⟨by rfl, by rfl⟩ trivial
  | r1 =>
    refine Mach.en_bind (fun z1 c1 => ?_)
    cases z1 with
    | r0 =>
      exact Mach.en_fin (M := law03_OrecRuns_2M a0 N) (cd := 1000000) (cm := 0) (r := (.r0 (false) : law03_OrecRuns_2R)) (fu := 4000) (orc := (orcw [] [] [] [] [(0, (orec_NewT1 (a0)    0)), (1, (ref03_NewT0 (a0)    3))])) (live := []) (u := Value.bool false) (bl := []) (ob := [(dP (ref03_NewP0 #[Value.int .i64 a0] (a0)    3), true), (dP (orec_NewP1 #[Value.int .i64 a0] (a0)    0), true)]) (by kernel_rfl) (obs_cons (dP_of (ref03_NewC0 #[Value.int .i64 a0] (a0)   N c1  3 rfl (by decide) (by decide))) (obs_cons (dP_of (orec_NewC1 #[Value.int .i64 a0] (a0)   N c0  0 rfl (by decide) (by decide))) obs_nil)) rfl (by decide) (by rfl) ⟨by rfl, by rfl⟩ trivial
    | r1 =>
      exact Mach.en_head (bK := law03_OrecRuns_2C 1) (M := law03_OrecRuns_2M a0 N) (cd := 1000000) (cm := 0) (y := (.h1m1 : law03_OrecRuns_2X)) (fu := 4000) (orc := (orcw [] [] [] [] [(0, (orec_NewT1 (a0)    0)), (1, (ref03_NewT1 (a0)    3))])) (live := [0, 4, 1, 2, 3]) (tv := [some (Value.slice none 0 0), some (Value.pointer (some ⟨0, 0, none⟩)), some (Value.pointer (some ⟨4, 0, none⟩)), some (Value.int .i64 (0 : Int))]) (bl := [some (.cells [Value.slice (some ⟨1, 0, none⟩) (a0).toNat (a0).toNat, Value.slice (some ⟨2, 0, none⟩) (a0).toNat (a0).toNat] 74), some (.cells [Value.slice (some ⟨3, 0, none⟩) (a0).toNat (a0).toNat] 43), some (.cells (rowV (encI .i64) (List.replicate (a0).toNat (0 : Int))) 84), some (.cells (rowV (encI .i64) (List.replicate (a0).toNat (0 : Int))) 84), some (.cells (rowV E_iii (List.replicate (a0).toNat (⟨(0 : Int), (0 : Int), (0 : Int)⟩ : R_iii))) 24)]) (ob := [(dP (ref03_NewP1 #[Value.int .i64 a0] (a0)    3), true), (dP (orec_NewP1 #[Value.int .i64 a0] (a0)    0), true)]) rfl rfl (show rids (law03_OrecRuns_2C 1).2 = [] from rfl) (by kernel_rfl) (obs_cons (dP_of (ref03_NewC1 #[Value.int .i64 a0] (a0)   N c1  3 rfl (by decide) (by decide))) (obs_cons (dP_of (orec_NewC1 #[Value.int .i64 a0] (a0)   N c0  0 rfl (by decide) (by decide))) obs_nil)) rfl (by decide) (by rfl) ⟨⟨by rfl, by rfl⟩, ⟨⟨by rfl, by rfl⟩, ⟨⟨by rfl, by rfl⟩, ⟨⟨by rfl, by rfl⟩, trivial⟩⟩⟩⟩ ⟨⟨rfl, ⟨[], by rfl⟩, by rfl⟩, ⟨⟨rfl, ⟨[], by rfl⟩, by rfl⟩, ⟨(same_row (E := (encI .i64)) (α := Int) _ (List.replicate (a0).toNat (0 : Int)) _), ⟨(same_row (E := (encI .i64)) (α := Int) _ (List.replicate (a0).toNat (0 : Int)) _), ⟨(same_row (E := E_iii) (α := R_iii) _ (List.replicate (a0).toNat (⟨(0 : Int), (0 : Int), (0 : Int)⟩ : R_iii)) _), trivial⟩⟩⟩⟩⟩

set_option maxRecDepth 100000 in
theorem law03_OrecRuns_2_spec (a0 : Int) (N : Nat) (r : law03_OrecRuns_2R) (h : law03_OrecRuns_2 a0 N = some r) : LSpec Try.prog 4 #[Value.int .i64 a0, Value.slice none 0 0] [] (law03_OrecRuns_2V a0 r) (law03_OrecRuns_2Po a0 r) :=
  Mach.spec fit_Ox (law03_OrecRuns_2M a0 N) Try.func4 (by kernel_rfl) (by kernel_rfl) (fun x => by cases x <;> exact le_far _ rfl) (fun r => by cases r <;> exact le_far _ rfl) (fun x => by
    cases x with
    | h1m0 => exact fun _ => (show ¬ (1 ∈ rids (law03_OrecRuns_2C 1).2) from by decide +kernel)
    | h1m1 => exact fun _ => (show ¬ (1 ∈ rids (law03_OrecRuns_2C 1).2) from by decide +kernel)
    ) (fun x => (show (law03_OrecRuns_2M a0 N).Ok Try.prog ext_Ox x (law03_OrecRuns_2Step a0 N x) from by
    cases x with
    | h1m0 => exact law03_OrecRuns_2_ok1_0 a0 N
    | h1m1 => exact law03_OrecRuns_2_ok1_1 a0 N
    )) (law03_OrecRuns_2_en a0 N) (n := N) h

noncomputable def law03_OrecRuns_2T0 (a0 : Int) (w0 : Bool) (n : Nat) : Told := .call [] (Value.bool w0) [] 0
def law03_OrecRuns_2P0 (A : Array Value) (a0 : Int) (w0 : Bool) (n : Nat) : Prop := CallSpec Try.prog 4 A [] (Value.bool w0) [] n 0

set_option maxRecDepth 100000 in
theorem law03_OrecRuns_2C0 (A : Array Value) (a0 : Int) (w0 : Bool) (N : Nat) (h : law03_OrecRuns_2 a0 N = some (.r0 w0)) (n : Nat) (hA : A = #[Value.int .i64 a0, Value.slice none 0 0]) (hnd : ([] : List Nat).Nodup) (hlt : ∀ k ∈ ([] : List Nat), k < n) : law03_OrecRuns_2P0 A a0 w0  n :=
  cs_args hA (LSpec.callL (show LSpec Try.prog 4 #[Value.int .i64 a0, Value.slice none 0 0] [] (Value.bool w0) [] from law03_OrecRuns_2_spec a0 N _ h) [] n [] rfl hnd hlt (show 0 ≤ 0 from by decide) (show ∀ j ∈ ([] : List Nat), j < 0 from by decide) (by rfl) trivial (by rfl) trivial trivial rfl rfl rfl rfl rfl)

end Ev
end Go.Proofs.Ytlcamddglkfblaa
